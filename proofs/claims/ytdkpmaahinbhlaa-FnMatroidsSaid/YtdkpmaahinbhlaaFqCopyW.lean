/- What spec.l2Copy answers, as a row of the call's own that is not nil. No condition. -/
import Derived.Test.YtdkpmaahinbhlaaFqB1
namespace Go.Proofs.Ytdkpmaahinbhlaa
open Go.RowKit

/-- A graph in a row of the call's own that is not nil. -/
def GraphW (w : World) (p : Int) (l : List (Int × Int)) (e : Ending) (w' : World) : Prop :=
  ∃ g c, e = .returned (.agg #[.int .i64 p, .slice (some ⟨g, 0, none⟩) l.length c]) ∧ w'.ownsRow w.heap.size 108 2 (.slice (some ⟨g, 0, none⟩) l.length c) l.length (barCells l) ∧ Below w.heap.size w w'
def GraphWB (w : World) (p : Int) (l : List (Int × Int)) (r : Bool) (e : Ending) (w' : World) : Prop :=
  ∃ g c, e = .returned (.tuple #[.agg #[.int .i64 p, .slice (some ⟨g, 0, none⟩) l.length c], .bool r]) ∧ w'.ownsRow w.heap.size 108 2 (.slice (some ⟨g, 0, none⟩) l.length c) l.length (barCells l) ∧ Below w.heap.size w w'
theorem own_some {w : World} {base size : Nat} {e : TypeId} {v : Value} {n : Nat} {xs : List Value} (h : w.ownsRow base e size v n xs) (hn : v ≠ .slice none 0 0) : ∃ g c, v = .slice (some ⟨g, 0, none⟩) n c := by
  rcases h.2 with ⟨h1, _⟩ | ⟨g, c, _, h1, _⟩
  · exact absurd h1 hn
  · exact ⟨g, c, h1⟩
/-- An append onto a row of the call's own, as one step of a region that draws its order; is the answer nil? -/
theorem step_ownN {P : Program} {w : World} {ops : Array Oper} {o : Oper} {a : Act} {K : Act → World → Prop} {Q : Exit → Act → World → Prop} {E : Prop} (hgd : o.guard = none) (s x : Operand) (t : TypeId)
    (ho : o.op = .call { callee := .builtin .append, args := #[s, x], argTypes := #[t, t] })
    (base : Nat) (e : TypeId) (i : TypeInfo) (z : Value) (size bytes : Nat) (ht : P.underlying t = some (.slice e)) (hi : P.info? e = some i) (hz : i.zero = some z)
    (hsize : i.size = size) (hby : i.bytes = bytes) (hzs : z.cells.size = size) (hsz : 0 < size)
    (v : Value) (n : Nat) (xs : List Value) (hs : a.eval s = v) (hown : w.ownsRow base e size v n xs)
    (ad : Addr) (m c : Nat) (news : List Value) (hx : a.eval x = .slice (some ad) m c) (hl : news.length = m * size) (hnews : ∀ j u, news[j]? = some u → w.cell? (ad.add j) = some u) (h1 : ∀ u ∈ news, u.oneCell' = true)
    (h63 : n + m ≤ maxLen) (hbytes : (n + m) * bytes ≤ 140737488355328) (hbase : base ≤ w.heap.size)
    (h : ∀ v' w', w'.ownsRow base e size v' (n + m) (xs ++ news) → w.grownBy w' v.ownBlock → (v' = .slice none 0 0 ↔ v = .slice none 0 0 ∧ m = 0) → K (a.put o.dst v') w') :
    if Region.wanted o (yielded ops a.tmps) = true then Oper.wp P o a w K Q else E := by
  have hw : Region.wanted o (yielded ops a.tmps) = true := by simp [Region.wanted, hgd]
  rw [if_pos hw]
  exact wp_append_own w s x t ho base e i z size bytes ht hi hz hsize hby hzs hsz v n xs hs hown ad m c news hx hl hnews h1 h63 hbytes hbase h
/-- The answer's variable r is written behind a row of the call's own. -/
theorem row_retW {w w3 : World} {r B' : Nat} {g c2 : Nat} {l : List (Int × Int)} (ho : w3.ownsRow B' 108 2 (.slice (some ⟨g, 0, none⟩) l.length c2) l.length (barCells l)) (hB : Below w.heap.size w w3) (h1 : w.heap.size ≤ r) (h2 : r < B') (u v : Value) :
    ((w3.setCell ⟨r, 0, none⟩ u).setCell ⟨r, 1, none⟩ v).ownsRow w.heap.size 108 2 (.slice (some ⟨g, 0, none⟩) l.length c2) l.length (barCells l) ∧ Below w.heap.size w ((w3.setCell ⟨r, 0, none⟩ u).setCell ⟨r, 1, none⟩ v) := by
  have hg := (grownBy_set w3 r 0 u).trans_ (grownBy_set (w3.setCell ⟨r, 0, none⟩ u) r 1 v)
  have := (ho.lt g rfl).1
  exact ⟨(own_base ho (by omega)).kept hg (.inr (by simp [Value.ownBlock]; omega)), hB.grown hg hB.size fun g e => by cases e; exact h1⟩

set_option maxHeartbeats 2000000 in
set_option maxRecDepth 100000 in
theorem copyW (p : Int) (l : List (Int × Int)) (a : Addr) (cap : Nat) (w : World) (hl : BarsAt w w.heap.size (some a) l) (hn : l.length ≤ 1048576) :
    Calls Try.prog 164 #[.agg #[.int .i64 p, .slice (some a) l.length cap]] w (GraphW w p l) := by
  obtain ⟨i0, hi0, hz0, hz1, hz2⟩ := info_parts infoBar
  have hA1 := new_below w (.cells #[.int .i64 p, .slice (some a) l.length cap] 26)
  have hA2 := new_below (w.alloc (.cells #[.int .i64 p, .slice (some a) l.length cap] 26)) (.cells #[.int .i64 0, .slice none 0 0] 26)
  have hA := below_on hA1 hA2 hA1.size
  have hsz1 : (w.alloc (.cells #[.int .i64 p, .slice (some a) l.length cap] 26)).heap.size = w.heap.size + 1 := by simp
  have hsz2 : ((w.alloc (.cells #[.int .i64 p, .slice (some a) l.length cap] 26)).alloc (.cells #[.int .i64 0, .slice none 0 0] 26)).heap.size = w.heap.size + 2 := by simp
  have hX := (box_new w p (.slice (some a) l.length cap) 26).kept hA2
  have hR := box_new (w.alloc (.cells #[.int .i64 p, .slice (some a) l.length cap] 26)) 0 (.slice none 0 0) 26
  have hF : ((w.alloc (.cells #[.int .i64 p, .slice (some a) l.length cap] 26)).alloc (.cells #[.int .i64 0, .slice none 0 0] 26)).frozen? ⟨(w.alloc (.cells #[.int .i64 p, .slice (some a) l.length cap] 26)).heap.size, 0, none⟩ = false ∧ ((w.alloc (.cells #[.int .i64 p, .slice (some a) l.length cap] 26)).alloc (.cells #[.int .i64 0, .slice none 0 0] 26)).frozen? ⟨(w.alloc (.cells #[.int .i64 p, .slice (some a) l.length cap] 26)).heap.size, 1, none⟩ = false := ⟨World.frozen?_alloc_at _ _ _ _ rfl, World.frozen?_alloc_at _ _ _ _ rfl⟩
  rw [hsz1] at hR hF
  have HLA := Lib.hid (hl.on hA)
  go_enter Try.func164, Try.ntmps164
  go_wp2_with fail
  generalize ((w.alloc (.cells #[.int .i64 p, .slice (some a) l.length cap] 26)).alloc (.cells #[.int .i64 0, .slice none 0 0] 26)) = w1 at *
  have hal := new_below w1 (.cells #[] 108)
  have HM := Lib.hid (World.ownsRow_made (base := w1.heap.size) (e := 108) (size := 2) w1 #[] 0 (Nat.le_refl _) (by unfold maxLen; omega) (by simp))
  have HC := Lib.hid (show ∀ j u, (barCells l)[j]? = some u → ((w1.alloc (.cells #[] 108)).drew).cell? (a.add j) = some u from fun j u hj => by
    have hlt : j < l.length * 2 := by
      have := (List.getElem?_eq_some_iff.1 hj).1
      rwa [barCells_len] at this
    obtain ⟨b, off, e, hb, hc⟩ := HLA.out (by omega)
    cases e
    have hadd : (⟨b, off, none⟩ : Addr).add j = ⟨b, off + j, none⟩ := by unfold Addr.add; split <;> simp_all
    rw [hadd]
    exact (hal.cell (p := ⟨b, off + j, none⟩) hb).trans (barCells_at hc j u hj))
  have HAD := Lib.hid (below_on hA hal hA.size)
  have HXD := Lib.hid (hX.kept hal)
  have HRD := Lib.hid (hR.kept hal)
  have HFD := Lib.hid (show (w1.alloc (.cells #[] 108)).frozen? ⟨w.heap.size + 1, 0, none⟩ = false ∧ (w1.alloc (.cells #[] 108)).frozen? ⟨w.heap.size + 1, 1, none⟩ = false from ⟨(hal.frozen (p := ⟨w.heap.size + 1, 0, none⟩) hR.1).trans hF.1, (hal.frozen (p := ⟨w.heap.size + 1, 1, none⟩) hR.1).trans hF.2⟩)
  obtain ⟨_, x0, x1⟩ := hX
  have HSZ := Lib.hid hsz2
  clear hl hA1 hA2 hA hsz1 hsz2 hR hF hal
  go_region_law (refine step_ownN (by rfl) _ _ _ (by rfl) w1.heap.size 108 i0 _ 2 16 Try.underlying24 hi0 hz0 hz1 hz2 rfl (by omega) _ 0 [] (by rfl) HM.out.drew a l.length cap (barCells l) (by rfl) (barCells_len l) HC.out (barCells_one l) (by unfold maxLen; omega) (by omega) (by simp) ?_; intro v' w3 ho hg hnil; rw [Nat.zero_add, List.nil_append] at ho; obtain ⟨gg, c2, rfl⟩ := own_some ho (fun e => by have := hnil.1 e; simp at this); have hb : Below w1.heap.size (w1.alloc (.cells #[] 108)) w3 := ((Below.refl _ _).drew).grown hg (by simp) (fun k hk => by cases hk; exact Nat.le_refl _); have hlt : w.heap.size + 1 < w1.heap.size := (by have := HSZ.out; omega); have y0 := (hb.cell (p := ⟨w.heap.size, 0, none⟩) (show w.heap.size < w1.heap.size by omega)).trans HXD.out.2.1; have z0 := (hb.cell (p := ⟨w.heap.size + 1, 0, none⟩) hlt).trans HRD.out.2.1; have z1 := (hb.cell (p := ⟨w.heap.size + 1, 1, none⟩) hlt).trans HRD.out.2.2; have f0 := (hb.frozen (p := ⟨w.heap.size + 1, 0, none⟩) hlt).trans HFD.out.1; have f1 := (hb.frozen (p := ⟨w.heap.size + 1, 1, none⟩) hlt).trans HFD.out.2; have HO := Lib.hid ho; have HB := Lib.hid (HAD.out.trans (hb.mono (by omega))); have HZ := Lib.hid (And.intro z0 z1); have HLT := Lib.hid hlt; clear ho hb hg hlt)
  all_goals
    go_wp2_with fail
    obtain ⟨s0, s1⟩ := ret_cells (p := p) (v := .slice (some ⟨gg, 0, none⟩) l.length c2) HZ.out.1 HZ.out.2
    obtain ⟨r1, r2⟩ := row_retW HO.out HB.out (r := w.heap.size + 1) (by omega) HLT.out (.int .i64 p) (.slice (some ⟨gg, 0, none⟩) l.length c2)
    refine bodyPost_ret (v := .agg #[.int .i64 p, .slice (some ⟨gg, 0, none⟩) l.length c2]) ?_ rfl ⟨gg, c2, rfl, ?_, ?_⟩
    · simp [results, Try.results164, go_sem, s0, s1]
    · exact r1
    · first | exact r2 | exact r2.drew
end Go.Proofs.Ytdkpmaahinbhlaa
