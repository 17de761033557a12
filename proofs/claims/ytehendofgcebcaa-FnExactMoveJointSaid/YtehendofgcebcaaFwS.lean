/- A framework copied by the specification: spec.l10Copy. No condition. -/
import Derived.Test.YtehendofgcebcaaFwC
import Derived.Test.YtehendofgcebcaaPushI
namespace Go.Proofs.Ytehendofgcebcaa
open Go.RowKit

theorem own_reb {W : World} {a b g cap n : Nat} {e : TypeId} {size : Nat} {xs : List Value} (h : W.ownsRow a e size (.slice (some ⟨g, 0, none⟩) n cap) n xs) (hb : b ≤ g) : W.ownsRow b e size (.slice (some ⟨g, 0, none⟩) n cap) n xs := by
  refine ⟨h.1, ?_⟩
  rcases h.2 with ⟨e0, _⟩ | ⟨g', c', cur, e1, _, r⟩
  · cases e0
  · cases e1
    exact .inr ⟨g, cap, cur, rfl, hb, r⟩

/-- An append onto a row of the call's own, as one step of a region that draws its order: where the row lies then. -/
theorem step_ownAt {P : Program} {w : World} {ops : Array Oper} {o : Oper} {a : Act} {K : Act → World → Prop} {Q : Exit → Act → World → Prop} {E : Prop} (hgd : o.guard = none) (s x : Operand) (t : TypeId)
    (ho : o.op = .call { callee := .builtin .append, args := #[s, x], argTypes := #[t, t] })
    (base : Nat) (e : TypeId) (i : TypeInfo) (z : Value) (size bytes : Nat) (ht : P.underlying t = some (.slice e)) (hi : P.info? e = some i) (hz : i.zero = some z)
    (hsize : i.size = size) (hby : i.bytes = bytes) (hzs : z.cells.size = size) (hsz : 0 < size)
    (v : Value) (n : Nat) (xs : List Value) (hs : a.eval s = v) (hown : w.ownsRow base e size v n xs)
    (ad : Addr) (m c : Nat) (news : List Value) (hx : a.eval x = .slice (some ad) m c) (hl : news.length = m * size) (hnews : ∀ j u, news[j]? = some u → w.cell? (ad.add j) = some u) (h1 : ∀ u ∈ news, u.oneCell' = true)
    (h63 : n + m ≤ maxLen) (hbytes : (n + m) * bytes ≤ 140737488355328) (hbase : base ≤ w.heap.size)
    (h : ∀ v' w', w'.ownsRow base e size v' (n + m) (xs ++ news) → w.grownBy w' v.ownBlock → (v'.ownBlock = v.ownBlock ∨ v'.ownBlock = some w.heap.size) → K (a.put o.dst v') w') :
    if Region.wanted o (yielded ops a.tmps) = true then Oper.wp P o a w K Q else E := by
  have hw : Region.wanted o (yielded ops a.tmps) = true := by simp [Region.wanted, hgd]
  rw [if_pos hw]
  obtain ⟨v', w', hrun, hown', hg, _, hat⟩ := run_append_own_at (P := P) w base t o.type e i z size bytes ht hi hz hsize hby hzs hsz v n xs hown ad m c news hl hnews h1 h63 hbytes hbase
  unfold Oper.wp execOp
  simp only [ho, resolve, invoke, builtin, Sem.run_bind, Sem.run_pure, Result.andThen_ok, List.map_toArray, List.map_cons, List.map_nil, hs, hx, hrun]
  exact h v' w' hown' hg hat

section
variable {w w5 w6 : World} {lo hi : Nat} {p : Int} {A B A2 B2 : Option Addr} {ca cb c2 d2 base : Nat} {l m : List (Int × Int)} {v0 v1 v2 : Value} {T : TypeId}
theorem cp_end {f1 f2 b : Nat} (hF : FbI w w5 lo hi p A ca l B cb m) (hhi : hi ≤ w.heap.size) (hR : Cel3 w5 (w.heap.size + 1) T v0 v1 v2) (hG : OwnIn w5 f1 f2 A2 c2 l) (hb0 : w.heap.size + 2 ≤ b) (hb1 : b < w5.heap.size) (hf0 : w.heap.size + 2 ≤ f1) (hd : b + 1 ≤ f1 ∨ f2 ≤ b)
    (ho : w6.ownsRow base 76 2 (.slice B2 m.length d2) m.length (barCells m)) (hg : w5.grownBy w6 (some b)) (hat : (Value.slice B2 m.length d2).ownBlock = some b ∨ (Value.slice B2 m.length d2).ownBlock = some w5.heap.size) :
    FbI w w6 lo hi p A ca l B cb m ∧ Cel3 w6 (w.heap.size + 1) T v0 v1 v2 ∧ OwnFw w6 (w.heap.size + 2) w6.heap.size A2 c2 l B2 d2 m := by
  have hw : Within b (b + 1) w5 w6 := ⟨hg.os, hg.tape, hg.output, hg.size, fun j hj hd => hg.block j hj (by simp; omega)⟩
  have hs := hg.size
  have hf2 := hG.1
  refine ⟨hF.on hw (by omega) hhi, hR.within hw (.inl (by omega)), ?_⟩
  by_cases hm : m.length = 0
  · exact ⟨(f1, f2), (w6.heap.size, w6.heap.size), hG.within hw (by omega), ⟨Nat.le_refl _, .inl (List.eq_nil_of_length_eq_zero hm)⟩, .inl (by simp only; omega), ⟨hf0, by simp only; omega⟩, ⟨by simp only; omega, Nat.le_refl _⟩, Nat.le_refl _⟩
  · rcases ho.2 with ⟨_, h0⟩ | ⟨g, c, cur, e, _⟩
    · exact absurd h0 hm
    · cases e
      have hlt := (ho.lt g rfl).2
      have hgg : g = b ∨ g = w5.heap.size := by simpa [Value.ownBlock] using hat
      refine ⟨(f1, f2), (g, g + 1), hG.within hw (by omega), ⟨hlt, .inr ⟨g, rfl, Nat.le_refl _, Nat.lt_succ_self _, own_reb ho (Nat.le_refl _)⟩⟩, ?_, ⟨hf0, by simp only; omega⟩, ⟨by simp only; omega, hlt⟩, Nat.le_refl _⟩
      simp only
      omega
end

/-- The answer's box r is written. -/
theorem fw_ret {w w6 : World} {r : Nat} {T : TypeId} {v0 v1 v2 : Value} {A2 B2 : Option Addr} {c2 d2 : Nat} {l m : List (Int × Int)} (hr : Cel3 w6 r T v0 v1 v2) (ho : OwnFw w6 (r + 1) w6.heap.size A2 c2 l B2 d2 m) (hb : Below w.heap.size w w6) (h : w.heap.size ≤ r) (p : Int) :
    (((w6.setCell ⟨r, 0, none⟩ (.int .i64 p)).setCell ⟨r, 1, none⟩ (.slice A2 l.length c2)).setCell ⟨r, 2, none⟩ (.slice B2 m.length d2)).cell? ⟨r, 0, none⟩ = some (.int .i64 p) ∧
    (((w6.setCell ⟨r, 0, none⟩ (.int .i64 p)).setCell ⟨r, 1, none⟩ (.slice A2 l.length c2)).setCell ⟨r, 2, none⟩ (.slice B2 m.length d2)).cell? ⟨r, 1, none⟩ = some (.slice A2 l.length c2) ∧
    (((w6.setCell ⟨r, 0, none⟩ (.int .i64 p)).setCell ⟨r, 1, none⟩ (.slice A2 l.length c2)).setCell ⟨r, 2, none⟩ (.slice B2 m.length d2)).cell? ⟨r, 2, none⟩ = some (.slice B2 m.length d2) ∧
    OwnFw (((w6.setCell ⟨r, 0, none⟩ (.int .i64 p)).setCell ⟨r, 1, none⟩ (.slice A2 l.length c2)).setCell ⟨r, 2, none⟩ (.slice B2 m.length d2)) w.heap.size (((w6.setCell ⟨r, 0, none⟩ (.int .i64 p)).setCell ⟨r, 1, none⟩ (.slice A2 l.length c2)).setCell ⟨r, 2, none⟩ (.slice B2 m.length d2)).heap.size A2 c2 l B2 d2 m ∧
    Below w.heap.size w (((w6.setCell ⟨r, 0, none⟩ (.int .i64 p)).setCell ⟨r, 1, none⟩ (.slice A2 l.length c2)).setCell ⟨r, 2, none⟩ (.slice B2 m.length d2)) := by
  obtain ⟨hc, hw⟩ := ret3 hr (.int .i64 p) (.slice A2 l.length c2) (.slice B2 m.length d2)
  have hO := ho.within hw (.inr (Nat.le_refl _))
  have hB := within_on hb hw hb.size (.inl h)
  have hs := hw.size
  generalize ((w6.setCell ⟨r, 0, none⟩ (.int .i64 p)).setCell ⟨r, 1, none⟩ (.slice A2 l.length c2)).setCell ⟨r, 2, none⟩ (.slice B2 m.length d2) = w7 at *
  obtain ⟨c0, c1, c2', _, _, _⟩ := hc.cells
  exact ⟨c0, c1, c2', hO.widen (by omega) hs (Nat.le_refl _), hB⟩

theorem placeCells {W : World} {B : Addr} {m : List (Int × Int)} (h : BarsAt W W.heap.size (some B) m) : ∀ j u, (barCells m)[j]? = some u → W.cell? (B.add j) = some u := fun j u hj => by
  have hlt : j < m.length * 2 := by
    have := (List.getElem?_eq_some_iff.1 hj).1
    rwa [barCells_len] at this
  obtain ⟨b, off, e, hb, hc⟩ := h (by omega)
  cases e
  have hadd : (⟨b, off, none⟩ : Addr).add j = ⟨b, off + j, none⟩ := by unfold Addr.add; split <;> simp_all
  rw [hadd]
  exact barCells_at hc j u hj

set_option maxHeartbeats 4000000 in
set_option maxRecDepth 100000 in
theorem fcopy_c (p : Int) (l m : List (Int × Int)) (A : Addr) (ca : Nat) (B : Addr) (cb : Nat) (lo hi : Nat) (w : World) (hl : FwIn w lo hi (some A) l (some B) m) (hn : l.length + m.length ≤ 1048576) :
    Calls Try.prog 111 #[.agg #[.int .i64 p, .slice (some A) l.length ca, .slice (some B) m.length cb]] w (FwO w p l m) := by
  obtain ⟨i0, hi0, hz0, hz1, hz2⟩ := info_parts infoPlace
  have hhi := hl.b.1
  have HGC := Lib.hid fun (W : World) (h : BarsAt W W.heap.size (some A) l) => copy_c p l A ca W h (by omega)
  have hf := FbI.new (p := p) (ca := ca) (cb := cb) hl 63
  have hs1 : (w.alloc (.cells #[.int .i64 p, .slice (some A) l.length ca, .slice (some B) m.length cb] 63)).heap.size = w.heap.size + 1 := by simp
  clear hl
  go_enter Try.func111, Try.ntmps111
  go_wp2_with fail
  generalize (w.alloc (.cells #[.int .i64 p, .slice (some A) l.length ca, .slice (some B) m.length cb] 63)) = w1 at *
  have hr := cel3_new w1 (.int .i64 0) (.slice none 0 0) (.slice none 0 0) 63
  have hf2 := hf.below (new_below w1 (.cells #[.int .i64 0, .slice none 0 0, .slice none 0 0] 63))
  have hs2 : (w1.alloc (.cells #[.int .i64 0, .slice none 0 0, .slice none 0 0] 63)).heap.size = w1.heap.size + 1 := by simp
  rw [hs1] at hr hs2
  generalize (w1.alloc (.cells #[.int .i64 0, .slice none 0 0, .slice none 0 0] 63)) = w2 at *
  have HF2 := Lib.hid hf2
  have hdr : Below w2.heap.size w2 w2.drew := (Below.refl _ _).drew
  have HF3 := Lib.hid (hf2.below hdr)
  have HR3 := Lib.hid (hr.kept hdr)
  have HS2 := Lib.hid hs2
  clear hf hf2 hr hdr hs1 hs2
  obtain ⟨_, x0, x1, x2⟩ := HF2.out.x
  go_region_held3 (fun W' => W'.cell? ⟨w.heap.size, 0, none⟩ = some (.int .i64 p) ∧ W'.cell? ⟨w.heap.size, 1, none⟩ = some (.slice (some A) l.length ca) ∧ W'.cell? ⟨w.heap.size, 2, none⟩ = some (.slice (some B) m.length cb))
    (first | exact HF3.out.x.2 | exact HF4.out.x.2 | exact HF6.out.x.2 | exact (HF6.out.x.within (ret3 HR6.out _ _ _).2 (.inl (Nat.lt_succ_self _))).2 | exact (HF3.out.below (new_below _ _)).x.2 | exact HF5.out.x.2 | exact HFA.out.x.2 | fail)
    (first
      | (go_at_call 89; refine (HGC.out _ HF3.out.f.b.at).mono ?_; rintro e w4 ⟨A2, c2, rfl, ho, hb⟩; have HF4 := Lib.hid (HF3.out.below hb); have HR4 := Lib.hid (HR3.out.kept hb); have HG4 := Lib.hid ho; have HS4 := Lib.hid (show w2.heap.size ≤ w4.heap.size from hb.size); have HM5 := Lib.hid (World.ownsRow_made (base := w4.heap.size) (e := 76) (size := 2) w4 #[] 0 (Nat.le_refl _) (by unfold maxLen; omega) (by simp)); have hb5 := new_below w4 (.cells #[] 76); have HF5 := Lib.hid (HF4.out.below hb5); have HR5 := Lib.hid (HR4.out.kept hb5); have HG5 := Lib.hid (HG4.out.within (within_of hb5) (.inr (Nat.zero_le _))); have HS5 := Lib.hid (show (w4.alloc (.cells #[] 76)).heap.size = w4.heap.size + 1 by simp); clear ho hb hb5)
      | (refine step_ownAt (by rfl) _ _ _ (by rfl) w4.heap.size 76 i0 _ 2 16 Try.underlying61 hi0 hz0 hz1 hz2 rfl (by omega) _ 0 [] (by rfl) HM5.out B m.length cb (barCells m) (by rfl) (barCells_len m) (placeCells HF5.out.f.p.at) (barCells_one m) (by unfold maxLen; omega) (by omega) (by have := HS5.out; omega) ?_; intro v' w6 ho hg hat; rw [Nat.zero_add, List.nil_append] at ho; obtain ⟨B2, d2, rfl⟩ := own_shape ho; obtain ⟨hf6, hr6, ho6⟩ := cp_end (b := w4.heap.size) HF5.out hhi HR5.out HG5.out (by have := HS2.out; have := HS4.out; omega) (by have := HS5.out; omega) (show w.heap.size + 2 ≤ w2.heap.size by have := HS2.out; omega) (.inr (Nat.le_refl _)) ho hg hat; have HF6 := Lib.hid hf6; have HR6 := Lib.hid hr6; have HO6 := Lib.hid ho6; obtain ⟨o0, o1, o2, f0, f1, f2⟩ := HR6.out.cells; clear ho hg hat hf6 hr6 ho6)
      | (go_at_call 89; have HFA := Lib.hid (HF3.out.below (new_below w2.drew (.cells #[] 76))); have HRA := Lib.hid (HR3.out.kept (new_below w2.drew (.cells #[] 76))); refine (HGC.out _ HFA.out.f.b.at).mono ?_; rintro e w5 ⟨A2, c2, rfl, ho, hb⟩; have HF5 := Lib.hid (HFA.out.below hb); have HR5 := Lib.hid (HRA.out.kept hb); have HG5 := Lib.hid ho; have HS5 := Lib.hid (show w2.heap.size + 1 ≤ w5.heap.size from Nat.le_trans (by simp) hb.size); have HM5 := Lib.hid (own_below (World.ownsRow_made (base := w2.drew.heap.size) (e := 76) (size := 2) w2.drew #[] 0 (Nat.le_refl _) (by unfold maxLen; omega) (by simp)) hb); have HSA := Lib.hid (show (w2.drew.alloc (.cells #[] 76)).heap.size = w2.heap.size + 1 by simp); clear ho hb)
      | (refine step_ownAt (by rfl) _ _ _ (by rfl) w2.drew.heap.size 76 i0 _ 2 16 Try.underlying61 hi0 hz0 hz1 hz2 rfl (by omega) _ 0 [] (by rfl) HM5.out B m.length cb (barCells m) (by rfl) (barCells_len m) (placeCells HF5.out.f.p.at) (barCells_one m) (by unfold maxLen; omega) (by omega) (show w2.heap.size ≤ w5.heap.size by have := HS5.out; omega) ?_; intro v' w6 ho hg hat; rw [Nat.zero_add, List.nil_append] at ho; obtain ⟨B2, d2, rfl⟩ := own_shape ho; obtain ⟨hf6, hr6, ho6⟩ := cp_end (b := w2.drew.heap.size) HF5.out hhi HR5.out HG5.out (show w.heap.size + 2 ≤ w2.heap.size by have := HS2.out; omega) (show w2.heap.size < w5.heap.size by have := HS5.out; omega) (by have := HS2.out; have := HSA.out; omega) (.inl (show w2.heap.size + 1 ≤ _ by have := HSA.out; omega)) ho hg hat; have HF6 := Lib.hid hf6; have HR6 := Lib.hid hr6; have HO6 := Lib.hid ho6; obtain ⟨o0, o1, o2, f0, f1, f2⟩ := HR6.out.cells; clear ho hg hat hf6 hr6 ho6))
  all_goals
    go_wp2_with fail
    obtain ⟨c0, c1, c2', hO, hB⟩ := fw_ret HR6.out HO6.out HF6.out.b (by omega) p
    refine bodyPost_ret (v := .agg #[.int .i64 p, .slice A2 l.length c2, .slice B2 m.length d2]) ?_ rfl ⟨A2, c2, B2, d2, rfl, hO, hB⟩
    simp [results, Try.results111, go_sem, c0, c1, c2']
end Go.Proofs.Ytehendofgcebcaa
