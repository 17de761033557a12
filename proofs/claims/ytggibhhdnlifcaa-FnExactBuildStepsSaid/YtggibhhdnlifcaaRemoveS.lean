/- What RemoveBar answers, the specification's. No condition. -/
import Derived.Test.YtggibhhdnlifcaaCopyC
namespace Go.Proofs.Ytggibhhdnlifcaa
open Go.RowKit

/-- Can the bar be taken out? -/
noncomputable def remR (p k : Int) (l : List (Int × Int)) : Bool := isGB p l && (decide (0 ≤ k) && decide (k < (l.length : Int)))
noncomputable def remL (p k : Int) (l : List (Int × Int)) : List (Int × Int) := if remR p k l = true then l.take k.toNat ++ l.drop (k.toNat + 1) else l
theorem remL_len (p k : Int) (l : List (Int × Int)) (h : l.length ≤ 1048576) : (remL p k l).length ≤ 1048576 := by
  unfold remL
  split
  · simp; omega
  · exact h
theorem rem_no {p k : Int} {l : List (Int × Int)} (h : isGB p l = false ∨ k < 0 ∨ (l.length : Int) ≤ k) : remR p k l = false ∧ remL p k l = l := by
  have e : remR p k l = false := by
    unfold remR
    rcases h with h | h | h
    · rw [h]; rfl
    · rw [decide_eq_false (by omega : ¬ 0 ≤ k)]; simp
    · rw [decide_eq_false (by omega : ¬ k < (l.length : Int))]; simp
  exact ⟨e, by unfold remL; rw [e]; rfl⟩
theorem rem_yes {p : Int} {k : Nat} {l : List (Int × Int)} (h : isGB p l = true) (hk : k < l.length) : remR p k l = true ∧ remL p k l = l.take k ++ l.drop (k + 1) := by
  have e : remR p k l = true := by
    unfold remR
    rw [h]
    simp
    omega
  refine ⟨e, ?_⟩
  unfold remL
  rw [if_pos e]
  rfl

theorem barCells_take : ∀ (l : List (Int × Int)) (k : Nat), barCells (l.take k) = (barCells l).take (k * 2) := by
  intro l
  induction l with
  | nil => intro k; simp [barCells]
  | cons x l ih =>
    intro k
    rcases k with _ | k
    · simp [barCells]
    · have := ih k
      simp only [barCells] at this ⊢
      rw [List.take_succ_cons, List.flatMap_cons, this, show (k + 1) * 2 = k * 2 + 2 by omega, List.flatMap_cons]
      rfl
theorem barCells_drop : ∀ (l : List (Int × Int)) (k : Nat), barCells (l.drop k) = (barCells l).drop (k * 2) := by
  intro l
  induction l with
  | nil => intro k; simp [barCells]
  | cons x l ih =>
    intro k
    rcases k with _ | k
    · simp [barCells]
    · have := ih k
      simp only [barCells] at this ⊢
      rw [List.drop_succ_cons, this, show (k + 1) * 2 = k * 2 + 2 by omega, List.flatMap_cons]
      rfl
theorem two_other {w4 : World} {s r : Nat} {u v x y : Value} (hne : s ≠ r) (h0 : w4.cell? ⟨s, 0, none⟩ = some x) (h1 : w4.cell? ⟨s, 1, none⟩ = some y) :
    ((w4.setCell ⟨r, 0, none⟩ u).setCell ⟨r, 1, none⟩ v).cell? ⟨s, 0, none⟩ = some x ∧ ((w4.setCell ⟨r, 0, none⟩ u).setCell ⟨r, 1, none⟩ v).cell? ⟨s, 1, none⟩ = some y := by
  constructor
  · rw [World.cell?_setCell_other _ _ _ _ (by intro e; simp only [Addr.mk.injEq] at e; omega), World.cell?_setCell_other _ _ _ _ (by intro e; simp only [Addr.mk.injEq] at e; omega)]
    exact h0
  · rw [World.cell?_setCell_other _ _ _ _ (by intro e; simp only [Addr.mk.injEq] at e; omega), World.cell?_setCell_other _ _ _ _ (by intro e; simp only [Addr.mk.injEq] at e; omega)]
    exact h1
/-- The answer's variable r is written behind what a call returned. -/
theorem ownIn_ret {w w3 : World} {r lo : Nat} {A2 : Option Addr} {c2 : Nat} {l : List (Int × Int)} (ho : OwnIn w3 lo w3.heap.size A2 c2 l) (hB : Below w.heap.size w w3) (h1 : w.heap.size ≤ r) (h2 : r < lo) (u v : Value) :
    OwnIn ((w3.setCell ⟨r, 0, none⟩ u).setCell ⟨r, 1, none⟩ v) w.heap.size ((w3.setCell ⟨r, 0, none⟩ u).setCell ⟨r, 1, none⟩ v).heap.size A2 c2 l ∧ Below w.heap.size w ((w3.setCell ⟨r, 0, none⟩ u).setCell ⟨r, 1, none⟩ v) := by
  have hg := (grownBy_set w3 r 0 u).trans_ (grownBy_set (w3.setCell ⟨r, 0, none⟩ u) r 1 v)
  refine ⟨?_, hB.grown hg hB.size fun g e => by cases e; exact h1⟩
  rcases ho.2 with h | ⟨g, e, k1, k2, hown⟩
  · exact ⟨Nat.le_refl _, .inl h⟩
  · refine ⟨Nat.le_refl _, .inr ⟨g, e, by omega, Nat.lt_of_lt_of_le k2 hg.size, (own_base hown (by omega)).kept hg (.inr (by simp [Value.ownBlock]; omega))⟩⟩

set_option maxHeartbeats 4000000 in
set_option maxRecDepth 100000 in
theorem specRemoveO (p k : Int) (l : List (Int × Int)) (A : Option Addr) (cap : Nat) (w : World) (hl : BarsAt w w.heap.size A l) (hn : l.length ≤ 1048576) (hA : ∃ a, A = some a) (hcap : l.length ≤ cap) :
    Calls Try.prog 100 #[.agg #[.int .i64 p, .slice A l.length cap], .int .i64 k] w (GraphOB w p (remL p k l) (remR p k l)) := by
  obtain ⟨a, rfl⟩ := hA
  obtain ⟨i0, hi0, hz0, hz1, hz2⟩ := info_parts infoBar
  have hA1 := new_below w (.cells #[.int .i64 p, .slice (some a) l.length cap] 30)
  have hA2 := new_below (w.alloc (.cells #[.int .i64 p, .slice (some a) l.length cap] 30)) (.cells #[.int .i64 0, .slice none 0 0] 30)
  have hA := below_on hA1 hA2 hA1.size
  have hsz1 : (w.alloc (.cells #[.int .i64 p, .slice (some a) l.length cap] 30)).heap.size = w.heap.size + 1 := by simp
  have hsz2 : ((w.alloc (.cells #[.int .i64 p, .slice (some a) l.length cap] 30)).alloc (.cells #[.int .i64 0, .slice none 0 0] 30)).heap.size = w.heap.size + 2 := by simp
  have BX := Lib.hid ((box_new w p (.slice (some a) l.length cap) 30).kept hA2)
  have hR := box_new (w.alloc (.cells #[.int .i64 p, .slice (some a) l.length cap] 30)) 0 (.slice none 0 0) 30
  have hF : ((w.alloc (.cells #[.int .i64 p, .slice (some a) l.length cap] 30)).alloc (.cells #[.int .i64 0, .slice none 0 0] 30)).frozen? ⟨(w.alloc (.cells #[.int .i64 p, .slice (some a) l.length cap] 30)).heap.size, 0, none⟩ = false ∧ ((w.alloc (.cells #[.int .i64 p, .slice (some a) l.length cap] 30)).alloc (.cells #[.int .i64 0, .slice none 0 0] 30)).frozen? ⟨(w.alloc (.cells #[.int .i64 p, .slice (some a) l.length cap] 30)).heap.size, 1, none⟩ = false := ⟨World.frozen?_alloc_at _ _ _ _ rfl, World.frozen?_alloc_at _ _ _ _ rfl⟩
  rw [hsz1] at hR hF
  have HR := Lib.hid hR
  have HF := Lib.hid hF
  have HL := Lib.hid (hl.on hA)
  have HA := Lib.hid hA
  have HSZ := Lib.hid hsz2
  clear hl hA1 hA2 hA hsz1 hsz2 hR hF
  by_cases hbad : isGB p l = false ∨ k < 0 ∨ (l.length : Int) ≤ k
  · rw [(rem_no hbad).1, (rem_no hbad).2]
    have hcase : isGB p l = false ∨ (isGB p l = true ∧ k < 0) ∨ (isGB p l = true ∧ ¬ k < 0 ∧ (l.length : Int) ≤ k) := by
      rcases hg : isGB p l with _ | _
      · exact .inl rfl
      · rcases hbad with h | h | h
        · rw [hg] at h; cases h
        · exact .inr (.inl ⟨rfl, h⟩)
        · exact .inr (.inr ⟨rfl, by omega, h⟩)
    clear hbad
    rcases hcase with hg | ⟨hg, h1⟩ | ⟨hg, h1, h2⟩
    all_goals
      go_enter Try.func100, Try.ntmps100
      go_wp2_with fail
      generalize ((w.alloc (.cells #[.int .i64 p, .slice (some a) l.length cap] 30)).alloc (.cells #[.int .i64 0, .slice none 0 0] 30)) = w1 at *
      refine (specIsGraph' p l (some a) cap _ HL.out hn).mono ?_
      rintro e w2 ⟨rfl, hb⟩
      have HB2 := Lib.hid (below_on HA.out hb HA.out.size)
      have BX2 := Lib.hid (BX.out.kept hb)
      have HR2 := Lib.hid (HR.out.kept hb)
      have HF2 := Lib.hid (show w2.frozen? ⟨w.heap.size + 1, 0, none⟩ = false ∧ w2.frozen? ⟨w.heap.size + 1, 1, none⟩ = false from ⟨(hb.frozen (p := ⟨w.heap.size + 1, 0, none⟩) HR.out.1).trans HF.out.1, (hb.frozen (p := ⟨w.heap.size + 1, 1, none⟩) HR.out.1).trans HF.out.2⟩)
      have HL2 := Lib.hid (HL.out.on hb)
      obtain ⟨_, x0, x1⟩ := BX2.out
      clear hb
      go_wp2_with fail
      clear x0 x1
      refine (copy_c p l a cap _ HL2.out hn).mono ?_
      rintro e w3 ⟨A2, c2, rfl, ho, hb⟩
      obtain ⟨_, z0, z1⟩ := HR2.out.kept hb
      have f0 := (hb.frozen (p := ⟨w.heap.size + 1, 0, none⟩) HR2.out.1).trans HF2.out.1
      have f1 := (hb.frozen (p := ⟨w.heap.size + 1, 1, none⟩) HR2.out.1).trans HF2.out.2
      have HB3 := Lib.hid (below_on HB2.out hb HB2.out.size)
      have HO3 := Lib.hid ho
      have HLT := Lib.hid HR2.out.1
      clear hb ho
      obtain ⟨s0, s1⟩ := ret_cells (p := p) (v := .slice A2 l.length c2) z0 z1
      obtain ⟨r1, r2⟩ := ownIn_ret HO3.out HB3.out (r := w.heap.size + 1) (by omega) HLT.out (.int .i64 p) (.slice A2 l.length c2)
      go_wp2_with fail
      refine bodyPost_ret (v := .tuple #[.agg #[.int .i64 p, .slice A2 l.length c2], .bool false]) ?_ rfl ⟨A2, c2, rfl, r1, r2⟩
      simp [results, Try.results100, go_sem, s0, s1]
  · have hg : isGB p l = true := by
      cases h : isGB p l with
      | false => exact absurd (.inl h) hbad
      | true => rfl
    obtain ⟨K, rfl⟩ : ∃ K : Nat, k = (K : Int) := ⟨k.toNat, by omega⟩
    have hk : K < l.length := by omega
    rw [(rem_yes hg hk).1, (rem_yes hg hk).2]
    obtain ⟨L, hL⟩ : ∃ L, L = l.take K ++ l.drop (K + 1) := ⟨_, rfl⟩
    have HLL := Lib.hid (show K + (l.length - (K + 1)) = L.length by rw [hL]; simp; omega)
    have HBL := Lib.hid (show barCells (l.take K) ++ barCells (l.drop (K + 1)) = barCells L by rw [hL, barCells_append])
    rw [← hL]
    clear hL
    have hk0 : ¬ (K : Int) < 0 := by omega
    have hk1 : ¬ (l.length : Int) ≤ (K : Int) := by omega
    obtain ⟨b, off, e, hbB, hcell⟩ := HL.out (by omega)
    cases e
    clear hbad
    go_enter Try.func100, Try.ntmps100
    go_wp2_with fail
    generalize ((w.alloc (.cells #[.int .i64 p, .slice (some ⟨b, off, none⟩) l.length cap] 30)).alloc (.cells #[.int .i64 0, .slice none 0 0] 30)) = w1 at *
    refine (specIsGraph' p l _ cap _ HL.out hn).mono ?_
    rintro e w2 ⟨rfl, hb⟩
    have HB2 := Lib.hid (below_on HA.out hb HA.out.size)
    have BX2 := Lib.hid (BX.out.kept hb)
    have HR2 := Lib.hid (HR.out.kept hb)
    have HF2 := Lib.hid (show w2.frozen? ⟨w.heap.size + 1, 0, none⟩ = false ∧ w2.frozen? ⟨w.heap.size + 1, 1, none⟩ = false from ⟨(hb.frozen (p := ⟨w.heap.size + 1, 0, none⟩) HR.out.1).trans HF.out.1, (hb.frozen (p := ⟨w.heap.size + 1, 1, none⟩) HR.out.1).trans HF.out.2⟩)
    have HC2 := Lib.hid (barCells_at (w := w2) (b := b) (off := off) (l := l) fun j hj => ⟨(hb.cell (p := ⟨b, off + j * 2, none⟩) hbB).trans (hcell j hj).1, (hb.cell (p := ⟨b, off + j * 2 + 1, none⟩) hbB).trans (hcell j hj).2⟩)
    have HBB := Lib.hid (Nat.lt_of_lt_of_le hbB hb.size)
    obtain ⟨hX, x0, x1⟩ := BX2.out
    clear hb hcell hbB
    have hi0' : (0 : Int) ≤ (K : Int) := by omega
    have hi1 : (K : Int) ≤ (cap : Int) := by omega
    have hi2 : (K : Int) + 1 ≤ (l.length : Int) := by omega
    have hi3 : (0 : Int) ≤ (K : Int) + 1 := by omega
    have hw : IntKind.i64.wrap ((K : Int) + 1) = (K : Int) + 1 := IntWalk.i64_in _ (by omega)
    have htn : ((K : Int) + 1).toNat = K + 1 := by omega
    have hal := new_below w2 (.cells #[] 103)
    have HM := Lib.hid (World.ownsRow_made (base := w2.heap.size) (e := 103) (size := 2) w2 #[] 0 (Nat.le_refl _) (by unfold maxLen; omega) (by simp)).drew
    have xa0 : ((w2.alloc (.cells #[] 103)).drew).cell? ⟨w.heap.size, 0, none⟩ = some (.int .i64 p) := (hal.cell (p := ⟨w.heap.size, 0, none⟩) hX).trans x0
    have xa1 : ((w2.alloc (.cells #[] 103)).drew).cell? ⟨w.heap.size, 1, none⟩ = some (.slice (some ⟨b, off, none⟩) l.length cap) := (hal.cell (p := ⟨w.heap.size, 1, none⟩) hX).trans x1
    have N1 := Lib.hid (show ∀ j u, (barCells (l.take K))[j]? = some u → ((w2.alloc (.cells #[] 103)).drew).cell? ((⟨b, off, none⟩ : Addr).add j) = some u from fun j u hj => by
      rw [barCells_take, List.getElem?_take] at hj
      split at hj
      · rw [Addr.add_lit]
        exact (hal.cell (p := ⟨b, off + j, none⟩) HBB.out).trans (HC2.out j u hj)
      · cases hj)
    obtain ⟨ad, hAd, hN2⟩ : ∃ ad : Addr, (if cap = K + 1 then (some ⟨b, off, none⟩ : Option Addr) else some ⟨b, off + (K + 1) * 2, none⟩) = some ad ∧ ∀ W : World, Below w2.heap.size w2 W → ∀ j u, (barCells (l.drop (K + 1)))[j]? = some u → W.cell? (ad.add j) = some u := by
      by_cases h : cap = K + 1
      · refine ⟨⟨b, off, none⟩, by simp [h], fun W hW j u hj => ?_⟩
        rw [List.drop_eq_nil_of_le (by omega)] at hj
        simp [barCells] at hj
      · refine ⟨⟨b, off + (K + 1) * 2, none⟩, by simp [h], fun W hW j u hj => ?_⟩
        rw [barCells_drop, List.getElem?_drop] at hj
        rw [Addr.add_lit, show off + (K + 1) * 2 + j = off + ((K + 1) * 2 + j) by omega]
        exact (hW.cell (p := ⟨b, off + ((K + 1) * 2 + j), none⟩) HBB.out).trans (HC2.out _ u hj)
    have N2 := Lib.hid hN2
    have hl1 : (barCells (l.take K)).length = K * 2 := by rw [barCells_len, List.length_take]; omega
    have hl2 : (barCells (l.drop (K + 1))).length = (l.length - (K + 1)) * 2 := by rw [barCells_len, List.length_drop]
    have H1 := Lib.hid hl1
    have H2 := Lib.hid hl2
    have HAL := Lib.hid hal
    clear hal hN2 hl1 hl2
    go_wp2_with fail
    go_region_held3 (fun W' => W'.cell? ⟨w.heap.size, 0, none⟩ = some (.int .i64 p) ∧ W'.cell? ⟨w.heap.size, 1, none⟩ = some (.slice (some ⟨b, off, none⟩) l.length cap))
      (first | exact ⟨x0, x1⟩ | exact ⟨xa0, xa1⟩ | exact ⟨y0, y1⟩ | exact ⟨u0, u1⟩ | exact ⟨t0, t1⟩ | fail)
      (first
        | (refine step_own (by rfl) _ _ _ (by rfl) w2.heap.size 103 i0 _ 2 16 Try.underlying28 hi0 hz0 hz1 hz2 rfl (by omega) _ 0 [] (by rfl) HM.out ⟨b, off, none⟩ K cap (barCells (l.take K)) (by rfl) H1.out N1.out (barCells_one _) (by unfold maxLen; omega) (by omega) (by simp) ?_; intro v1 w3 ho1 hg1; rw [Nat.zero_add, List.nil_append] at ho1; have hb3 : Below w2.heap.size w2 w3 := ((HAL.out.drew).grown hg1 (by simp) (fun k hk => by cases hk; exact Nat.le_refl _)); have y0 := (hb3.cell (p := ⟨w.heap.size, 0, none⟩) hX).trans x0; have y1 := (hb3.cell (p := ⟨w.heap.size, 1, none⟩) hX).trans x1; have HO1 := Lib.hid ho1; have HB3 := Lib.hid hb3; clear ho1 hg1 hb3)
        | (refine step_own (by rfl) _ _ _ (by rfl) w2.heap.size 103 i0 _ 2 16 Try.underlying28 hi0 hz0 hz1 hz2 rfl (by omega) v1 K (barCells (l.take K)) (by rfl) HO1.out ad (l.length - (K + 1)) (cap - (K + 1)) (barCells (l.drop (K + 1))) (by rfl) H2.out (N2.out _ HB3.out) (barCells_one _) (by unfold maxLen; omega) (by omega) HB3.out.size ?_; intro v2 w4 ho2 hg2; rw [HBL.out, HLL.out] at ho2; have hb4 : Below w2.heap.size w2 w4 := (HB3.out.grown hg2 HB3.out.size (fun g hk => (HO1.out.lt g hk).1)); obtain ⟨A2, c2, rfl⟩ := own_shape ho2; have u0 := (hb4.cell (p := ⟨w.heap.size, 0, none⟩) hX).trans x0; have u1 := (hb4.cell (p := ⟨w.heap.size, 1, none⟩) hX).trans x1; have z0 := (hb4.cell (p := ⟨w.heap.size + 1, 0, none⟩) HR2.out.1).trans HR2.out.2.1; have z1 := (hb4.cell (p := ⟨w.heap.size + 1, 1, none⟩) HR2.out.1).trans HR2.out.2.2; have f0 := (hb4.frozen (p := ⟨w.heap.size + 1, 0, none⟩) HR2.out.1).trans HF2.out.1; have f1 := (hb4.frozen (p := ⟨w.heap.size + 1, 1, none⟩) HR2.out.1).trans HF2.out.2; have HO2 := Lib.hid ho2; have HB4 := Lib.hid (below_on HB2.out hb4 HB2.out.size); have HZ := Lib.hid (And.intro z0 z1); obtain ⟨t0, t1⟩ := two_other (u := .int .i64 p) (v := .slice A2 L.length c2) (r := w.heap.size + 1) (Nat.ne_of_lt (Nat.lt_succ_self w.heap.size)) u0 u1; clear ho2 hg2 hb4))
    go_wp2_with fail
    obtain ⟨s0, s1⟩ := ret_cells (p := p) (v := .slice A2 L.length c2) HZ.out.1 HZ.out.2
    obtain ⟨r1, r2⟩ := row_ret HO2.out HB4.out (r := w.heap.size + 1) (by omega) HR2.out.1 (.int .i64 p) (.slice A2 L.length c2)
    refine bodyPost_ret (v := .tuple #[.agg #[.int .i64 p, .slice A2 L.length c2], .bool true]) ?_ rfl ⟨A2, c2, rfl, ?_, ?_⟩
    · simp [results, Try.results100, go_sem, s0, s1]
    · first | exact r1 | exact r1.drew
    · first | exact r2 | exact r2.drew
theorem specRemove (p k : Int) (l : List (Int × Int)) (A : Option Addr) (cap : Nat) (w : World) (hl : BarsAt w w.heap.size A l) (hn : l.length ≤ 1048576) (hA : ∃ a, A = some a) (hcap : l.length ≤ cap) :
    Calls Try.prog 100 #[.agg #[.int .i64 p, .slice A l.length cap], .int .i64 k] w (GraphRB w p (remL p k l) (remR p k l)) :=
  (specRemoveO p k l A cap w hl hn hA hcap).mono fun _ _ ⟨A2, c2, e, r1, r2⟩ => ⟨A2, c2, e, r1.bars.at, r2⟩
end Go.Proofs.Ytggibhhdnlifcaa
