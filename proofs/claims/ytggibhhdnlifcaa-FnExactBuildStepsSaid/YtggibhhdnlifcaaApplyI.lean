/- What impl.ApplyStep answers. No condition. -/
import Derived.Test.YtggibhhdnlifcaaFits
import Derived.Test.YtggibhhdnlifcaaPart
import Derived.Test.YtggibhhdnlifcaaCopy
import Derived.OrdersHeld
namespace Go.Proofs.Ytggibhhdnlifcaa
open Go.RowKit

/-- What a step that fits says of its points. -/
theorem fit0 {p : Int} {l : List (Int × Int)} {x2 x3 x4 x5 : Int} (h : fitB p l (0, x2, x3, x4, x5) = true) : l = [] ∧ ((0 ≤ x3 ∧ x3 < p) ∧ (0 ≤ x4 ∧ x4 < p)) ∧ x3 ≠ x4 := by
  simp only [fitB, if_true, Bool.and_eq_true, decide_eq_true_eq] at h
  have h0 := difB_yes h.2.2.2 0 (by omega)
  have h1 := difB_yes h.2.2.2 1 (by omega)
  simp at h0 h1
  exact ⟨h.1, ⟨h0, h1.1⟩, fun e => h1.2 e.symm⟩
theorem fit1 {p : Int} {l : List (Int × Int)} {x2 x3 x4 x5 : Int} (h : fitB p l (1, x2, x3, x4, x5) = true) : (0 ≤ x2 ∧ x2 < p) ∧ ((0 ≤ x3 ∧ x3 < p) ∧ x2 ≠ x3) ∧ ((0 ≤ x4 ∧ x4 < p) ∧ x2 ≠ x4) := by
  simp only [fitB, show ¬ ((1 : Int) = 0) by decide, if_false, if_true, Bool.and_eq_true, decide_eq_true_eq] at h
  have h0 := difB_yes h.2.1 0 (by omega)
  have h1 := difB_yes h.2.1 1 (by omega)
  have h2 := difB_yes h.2.1 2 (by omega)
  simp at h0 h1 h2
  exact ⟨h0, ⟨h1.1, fun e => h1.2 e.symm⟩, h2.1, fun e => h2.2.1 e.symm⟩
theorem fit2 {p : Int} {l : List (Int × Int)} {x2 x3 x4 x5 : Int} (h : fitB p l (2, x2, x3, x4, x5) = true) : ((0 ≤ x2 ∧ x2 < p) ∧ ((0 ≤ x3 ∧ x3 < p) ∧ x2 ≠ x3) ∧ ((0 ≤ x4 ∧ x4 < p) ∧ x2 ≠ x4) ∧ ((0 ≤ x5 ∧ x5 < p) ∧ x2 ≠ x5)) ∧ 0 < l.countP (hitB x3 x4) := by
  simp only [fitB, show ¬ ((2 : Int) = 0) by decide, show ¬ ((2 : Int) = 1) by decide, if_false, if_true, Bool.and_eq_true, decide_eq_true_eq] at h
  have h0 := difB_yes h.1 0 (by omega)
  have h1 := difB_yes h.1 1 (by omega)
  have h2 := difB_yes h.1 2 (by omega)
  have h3 := difB_yes h.1 3 (by omega)
  simp at h0 h1 h2 h3
  exact ⟨⟨h0, ⟨h1.1, fun e => h1.2 e.symm⟩, ⟨h2.1, fun e => h2.2.1 e.symm⟩, h3.1, fun e => h3.2.1 e.symm⟩, h.2.2.1⟩
theorem fit_kind {p : Int} {l : List (Int × Int)} {x1 x2 x3 x4 x5 : Int} (h : fitB p l (x1, x2, x3, x4, x5) = true) : x1 = 0 ∨ x1 = 1 ∨ x1 = 2 := by
  by_cases h0 : x1 = 0
  · exact .inl h0
  · by_cases h1 : x1 = 1
    · exact .inr (.inl h1)
    · by_cases h2 : x1 = 2
      · exact .inr (.inr h2)
      · simp [fitB, h0, h1, h2] at h
theorem cut_ok {p : Int} {l : List (Int × Int)} (h : IsG p l) (k : Nat) : IsG p (cutL l k) := isG_cut h k
theorem cut_le (l : List (Int × Int)) (k : Nat) : (cutL l k).length ≤ l.length := by
  unfold cutL
  rw [List.length_append, List.length_take, List.length_drop]
  omega

set_option maxHeartbeats 8000000 in
set_option maxRecDepth 100000 in
theorem implApply (s : Stp) (p : Int) (l : List (Int × Int)) (A : Option Addr) (cap : Nat) (w : World) (hl : BarsAt w w.heap.size A l) (hn : l.length ≤ 1048576) :
    Calls Try.prog 22 #[.agg #[.int .i64 p, .slice A l.length cap], .agg #[.int .i64 s.1, .int .i64 s.2.1, .int .i64 s.2.2.1, .int .i64 s.2.2.2.1, .int .i64 s.2.2.2.2]] w (GraphOB w p (stepL p l s) (stepR p l s)) := by
  obtain ⟨x1, x2, x3, x4, x5⟩ := s
  dsimp only
  have hA1 := new_below w (.cells #[.int .i64 p, .slice A l.length cap] 30)
  have hA2 := new_below (w.alloc (.cells #[.int .i64 p, .slice A l.length cap] 30)) (.cells #[.int .i64 x1, .int .i64 x2, .int .i64 x3, .int .i64 x4, .int .i64 x5] 41)
  have hA3 := new_below ((w.alloc (.cells #[.int .i64 p, .slice A l.length cap] 30)).alloc (.cells #[.int .i64 x1, .int .i64 x2, .int .i64 x3, .int .i64 x4, .int .i64 x5] 41)) (.cells #[.int .i64 0, .slice none 0 0] 30)
  have hA12 := below_on hA1 hA2 hA1.size
  have hA := below_on hA12 hA3 hA12.size
  have HS1 := Lib.hid (show (w.alloc (.cells #[.int .i64 p, .slice A l.length cap] 30)).heap.size = w.heap.size + 1 by simp)
  have HS2 := Lib.hid (show ((w.alloc (.cells #[.int .i64 p, .slice A l.length cap] 30)).alloc (.cells #[.int .i64 x1, .int .i64 x2, .int .i64 x3, .int .i64 x4, .int .i64 x5] 41)).heap.size = w.heap.size + 2 by simp)
  have HS3 := Lib.hid (show (((w.alloc (.cells #[.int .i64 p, .slice A l.length cap] 30)).alloc (.cells #[.int .i64 x1, .int .i64 x2, .int .i64 x3, .int .i64 x4, .int .i64 x5] 41)).alloc (.cells #[.int .i64 0, .slice none 0 0] 30)).heap.size = w.heap.size + 3 by simp)
  have HA := Lib.hid hA
  have HL3 := Lib.hid (hl.on hA)
  have BX3 := Lib.hid (((box_new w p (.slice A l.length cap) 30).kept hA2).kept hA3)
  have hs := (show PBox ((w.alloc (.cells #[.int .i64 p, .slice A l.length cap] 30)).alloc (.cells #[.int .i64 x1, .int .i64 x2, .int .i64 x3, .int .i64 x4, .int .i64 x5] 41)) (w.alloc (.cells #[.int .i64 p, .slice A l.length cap] 30)).heap.size (x1, x2, x3, x4, x5) from pbox_new (w.alloc (.cells #[.int .i64 p, .slice A l.length cap] 30)) (x1, x2, x3, x4, x5) 41).kept hA3
  rw [HS1.out] at hs
  have SB3 := Lib.hid hs
  have hr := cel2_new ((w.alloc (.cells #[.int .i64 p, .slice A l.length cap] 30)).alloc (.cells #[.int .i64 x1, .int .i64 x2, .int .i64 x3, .int .i64 x4, .int .i64 x5] 41)) (.int .i64 0) (.slice none 0 0) 30
  rw [HS2.out] at hr
  have BR3 := Lib.hid hr
  clear hl hA1 hA2 hA3 hA12 hA hs hr
  go_enter Try.func22, Try.ntmps22
  obtain ⟨g0, g1, g2⟩ := BX3.out
  go_wp2_with fail
  clear g0 g1 g2
  generalize (((w.alloc (.cells #[.int .i64 p, .slice A l.length cap] 30)).alloc (.cells #[.int .i64 x1, .int .i64 x2, .int .i64 x3, .int .i64 x4, .int .i64 x5] 41)).alloc (.cells #[.int .i64 0, .slice none 0 0] 30)) = w3 at *
  have KK := Lib.hid (show ∀ W : World, Below w3.heap.size w3 W → W.cell? ⟨w.heap.size, 0, none⟩ = some (.int .i64 p) ∧ W.cell? ⟨w.heap.size, 1, none⟩ = some (.slice A l.length cap) ∧ W.cell? ⟨w.heap.size + 1, 0, none⟩ = some (.int .i64 x1) ∧ W.cell? ⟨w.heap.size + 1, 1, none⟩ = some (.int .i64 x2) ∧ W.cell? ⟨w.heap.size + 1, 2, none⟩ = some (.int .i64 x3) ∧ W.cell? ⟨w.heap.size + 1, 3, none⟩ = some (.int .i64 x4) ∧ W.cell? ⟨w.heap.size + 1, 4, none⟩ = some (.int .i64 x5) from fun W h => ⟨(BX3.out.kept h).2.1, (BX3.out.kept h).2.2, (SB3.out.kept h).2⟩)
  refine (implIsGraph p l A cap w3 HL3.out hn).mono ?_
  rintro e w4 ⟨rfl, hb⟩
  have HB4 := Lib.hid hb
  clear hb
  cases hg : isGB p l with
  | false =>
    have HE2 := Lib.hid (show stepR p l (x1, x2, x3, x4, x5) = false by simp [stepR, hg])
    have HE1 := Lib.hid (step_no HE2.out)
    clear hg
    obtain ⟨g0, g1, g2, g3, g4, g5, g6⟩ := KK.out _ HB4.out
    go_wp2_with fail
    clear g0 g1 g2 g3 g4 g5 g6
    refine (clone_c p l A cap w4 (HL3.out.on HB4.out) hn).mono ?_
    rintro e w9 ⟨A9, c9, rfl, ho9, hb9⟩
    have HO9 := Lib.hid ho9
    have HB9 := Lib.hid (below_on HB4.out hb9 HB4.out.size)
    have BR9 := Lib.hid (BR3.out.kept HB9.out)
    have HLO := Lib.hid (HB4.out.size)
    clear ho9 hb9
    obtain ⟨r0, r1, q0, q1⟩ := BR9.out.cells
    obtain ⟨s0, s1⟩ := ret_cells (p := p) (v := .slice A9 (l).length c9) r0 r1
    obtain ⟨t0, t1⟩ := ownIn_ret HO9.out (below_on HA.out HB9.out HA.out.size) (r := w.heap.size + 2) (by omega) (by have := HS3.out; have := HLO.out; omega) (.int .i64 p) (.slice A9 (l).length c9)
    have HT0 := Lib.hid t0
    have HT1 := Lib.hid t1
    clear t0 t1
    go_wp2_with fail
    refine bodyPost_ret (v := .tuple #[.agg #[.int .i64 p, .slice A9 (l).length c9], .bool false]) ?_ rfl ⟨A9, c9, by rw [HE1.out, HE2.out], by rw [HE1.out]; exact HT0.out, HT1.out⟩
    simp [results, Try.results22, go_sem, s0, s1]
  | true =>
    have hGG : IsG p l := Classical.byContradiction fun g => by rw [isGB_no g] at hg; cases hg
    have HGG := Lib.hid hGG
    have HGB := Lib.hid hg
    clear hg hGG
    by_cases h21 : l.length ≤ 21
    rotate_left
    · have h21' : (21 : Int) < (l.length : Int) := by omega
      have HE2 := Lib.hid (show stepR p l (x1, x2, x3, x4, x5) = false by simp [stepR, h21])
      have HE1 := Lib.hid (step_no HE2.out)
      clear h21
      obtain ⟨g0, g1, g2, g3, g4, g5, g6⟩ := KK.out _ HB4.out
      go_wp2_with fail
      clear g0 g1 g2 g3 g4 g5 g6
      refine (clone_c p l A cap w4 (HL3.out.on HB4.out) hn).mono ?_
      rintro e w9 ⟨A9, c9, rfl, ho9, hb9⟩
      have HO9 := Lib.hid ho9
      have HB9 := Lib.hid (below_on HB4.out hb9 HB4.out.size)
      have BR9 := Lib.hid (BR3.out.kept HB9.out)
      have HLO := Lib.hid (HB4.out.size)
      clear ho9 hb9
      obtain ⟨r0, r1, q0, q1⟩ := BR9.out.cells
      obtain ⟨s0, s1⟩ := ret_cells (p := p) (v := .slice A9 (l).length c9) r0 r1
      obtain ⟨t0, t1⟩ := ownIn_ret HO9.out (below_on HA.out HB9.out HA.out.size) (r := w.heap.size + 2) (by omega) (by have := HS3.out; have := HLO.out; omega) (.int .i64 p) (.slice A9 (l).length c9)
      have HT0 := Lib.hid t0
      have HT1 := Lib.hid t1
      clear t0 t1
      go_wp2_with fail
      refine bodyPost_ret (v := .tuple #[.agg #[.int .i64 p, .slice A9 (l).length c9], .bool false]) ?_ rfl ⟨A9, c9, by rw [HE1.out, HE2.out], by rw [HE1.out]; exact HT0.out, HT1.out⟩
      simp [results, Try.results22, go_sem, s0, s1]
    have h21' : ¬ (21 : Int) < (l.length : Int) := by omega
    obtain ⟨g0, g1, g2, g3, g4, g5, g6⟩ := KK.out _ HB4.out
    go_wp2_with fail
    clear g0 g1 g2 g3 g4 g5 g6
    refine (fits_c (x1, x2, x3, x4, x5) p l A cap w4 (HL3.out.on HB4.out) hn).mono ?_
    rintro e w5 ⟨rfl, hb⟩
    have HB5 := Lib.hid (below_on HB4.out hb HB4.out.size)
    clear hb
    cases hf : fitB p l (x1, x2, x3, x4, x5) with
    | false =>
      have HE2 := Lib.hid (show stepR p l (x1, x2, x3, x4, x5) = false by simp [stepR, hf])
      have HE1 := Lib.hid (step_no HE2.out)
      clear hf
      obtain ⟨g0, g1, g2, g3, g4, g5, g6⟩ := KK.out _ HB5.out
      go_wp2_with fail
      clear g0 g1 g2 g3 g4 g5 g6
      refine (clone_c p l A cap w5 (HL3.out.on HB5.out) hn).mono ?_
      rintro e w9 ⟨A9, c9, rfl, ho9, hb9⟩
      have HO9 := Lib.hid ho9
      have HB9 := Lib.hid (below_on HB5.out hb9 HB5.out.size)
      have BR9 := Lib.hid (BR3.out.kept HB9.out)
      have HLO := Lib.hid (HB5.out.size)
      clear ho9 hb9
      obtain ⟨r0, r1, q0, q1⟩ := BR9.out.cells
      obtain ⟨s0, s1⟩ := ret_cells (p := p) (v := .slice A9 (l).length c9) r0 r1
      obtain ⟨t0, t1⟩ := ownIn_ret HO9.out (below_on HA.out HB9.out HA.out.size) (r := w.heap.size + 2) (by omega) (by have := HS3.out; have := HLO.out; omega) (.int .i64 p) (.slice A9 (l).length c9)
      have HT0 := Lib.hid t0
      have HT1 := Lib.hid t1
      clear t0 t1
      go_wp2_with fail
      refine bodyPost_ret (v := .tuple #[.agg #[.int .i64 p, .slice A9 (l).length c9], .bool false]) ?_ rfl ⟨A9, c9, by rw [HE1.out, HE2.out], by rw [HE1.out]; exact HT0.out, HT1.out⟩
      simp [results, Try.results22, go_sem, s0, s1]
    | true =>
      have HE2 := Lib.hid (show stepR p l (x1, x2, x3, x4, x5) = true by simp [stepR, hf, HGB.out, h21])
      have HYS := Lib.hid (step_yes HE2.out)
      rcases fit_kind hf with e | e | e
      · subst e
        have HF := Lib.hid (fit0 hf)
        clear hf
        have HE1 := Lib.hid (show stepL p l (0, x2, x3, x4, x5) = joinL x3 l [x4] 1 by rw [HYS.out]; rfl)
        obtain ⟨g0, g1, g2, g3, g4, g5, g6⟩ := KK.out _ HB5.out
        go_wp2_with fail
        clear g0 g1 g2 g3 g4 g5 g6
        have hal := new_below w5 (.cells #[.int .i64 x4] 3)
        have HZ := Lib.hid (show IntsIn (w5.alloc (.cells #[.int .i64 x4] 3)) w5.heap.size (w5.heap.size + 1) (some ⟨w5.heap.size, 0, none⟩) [x4] from ints_new w5 [x4] 3)
        have HB6 := Lib.hid (below_on HB5.out hal HB5.out.size)
        clear hal
        refine (joined_c p x3 l A cap [x4] w5.heap.size _ _ _ (HL3.out.on HB6.out) HGG.out HF.out.2.1.1 (fun j hj => by match j, hj with | 0, _ => exact ⟨HF.out.2.1.2, HF.out.2.2⟩) (by simp; omega) (by simp) HZ.out).mono ?_
        rw [show joinL x3 l [x4] ([x4]).length = joinL x3 l [x4] 1 from rfl]
        rintro e w9 ⟨A9, c9, rfl, ho9, hb9⟩
        have HO9 := Lib.hid ho9
        have HB9 := Lib.hid (below_on HB6.out hb9 HB6.out.size)
        have BR9 := Lib.hid (BR3.out.kept HB9.out)
        have HLO := Lib.hid HB6.out.size
        clear ho9 hb9
        obtain ⟨r0, r1, q0, q1⟩ := BR9.out.cells
        obtain ⟨s0, s1⟩ := ret_cells (p := p) (v := .slice A9 (joinL x3 l [x4] 1).length c9) r0 r1
        obtain ⟨t0, t1⟩ := ownIn_ret HO9.out (below_on HA.out HB9.out HA.out.size) (r := w.heap.size + 2) (by omega) (by have := HS3.out; have := HLO.out; omega) (.int .i64 p) (.slice A9 (joinL x3 l [x4] 1).length c9)
        have HT0 := Lib.hid t0
        have HT1 := Lib.hid t1
        clear t0 t1
        go_wp2_with fail
        refine bodyPost_ret (v := .tuple #[.agg #[.int .i64 p, .slice A9 (joinL x3 l [x4] 1).length c9], .bool true]) ?_ rfl ⟨A9, c9, by rw [HE1.out, HE2.out], by rw [HE1.out]; exact HT0.out, HT1.out⟩
        simp [results, Try.results22, go_sem, s0, s1]
      · subst e
        have HF := Lib.hid (fit1 hf)
        clear hf
        have HE1 := Lib.hid (show stepL p l (1, x2, x3, x4, x5) = joinL x2 l [x3, x4] 2 by rw [HYS.out]; rfl)
        obtain ⟨g0, g1, g2, g3, g4, g5, g6⟩ := KK.out _ HB5.out
        go_wp2_with fail
        clear g0 g1 g2 g3 g4 g5 g6
        have hal := new_below w5 (.cells #[.int .i64 x3, .int .i64 x4] 3)
        have HZ := Lib.hid (show IntsIn (w5.alloc (.cells #[.int .i64 x3, .int .i64 x4] 3)) w5.heap.size (w5.heap.size + 1) (some ⟨w5.heap.size, 0, none⟩) [x3, x4] from ints_new w5 [x3, x4] 3)
        have HB6 := Lib.hid (below_on HB5.out hal HB5.out.size)
        clear hal
        refine (joined_c p x2 l A cap [x3, x4] w5.heap.size _ _ _ (HL3.out.on HB6.out) HGG.out HF.out.1 (fun j hj => by match j, hj with | 0, _ => exact HF.out.2.1 | 1, _ => exact HF.out.2.2) (by simp; omega) (by simp) HZ.out).mono ?_
        rw [show joinL x2 l [x3, x4] ([x3, x4]).length = joinL x2 l [x3, x4] 2 from rfl]
        rintro e w9 ⟨A9, c9, rfl, ho9, hb9⟩
        have HO9 := Lib.hid ho9
        have HB9 := Lib.hid (below_on HB6.out hb9 HB6.out.size)
        have BR9 := Lib.hid (BR3.out.kept HB9.out)
        have HLO := Lib.hid HB6.out.size
        clear ho9 hb9
        obtain ⟨r0, r1, q0, q1⟩ := BR9.out.cells
        obtain ⟨s0, s1⟩ := ret_cells (p := p) (v := .slice A9 (joinL x2 l [x3, x4] 2).length c9) r0 r1
        obtain ⟨t0, t1⟩ := ownIn_ret HO9.out (below_on HA.out HB9.out HA.out.size) (r := w.heap.size + 2) (by omega) (by have := HS3.out; have := HLO.out; omega) (.int .i64 p) (.slice A9 (joinL x2 l [x3, x4] 2).length c9)
        have HT0 := Lib.hid t0
        have HT1 := Lib.hid t1
        clear t0 t1
        go_wp2_with fail
        refine bodyPost_ret (v := .tuple #[.agg #[.int .i64 p, .slice A9 (joinL x2 l [x3, x4] 2).length c9], .bool true]) ?_ rfl ⟨A9, c9, by rw [HE1.out, HE2.out], by rw [HE1.out]; exact HT0.out, HT1.out⟩
        simp [results, Try.results22, go_sem, s0, s1]
      · subst e
        have HF := Lib.hid (fit2 hf)
        clear hf
        obtain ⟨LX, hLX⟩ : ∃ LX, cutL l (l.findIdx (hitB x3 x4)) = LX := ⟨_, rfl⟩
        have HGX := Lib.hid (show IsG p LX by rw [← hLX]; exact cut_ok HGG.out _)
        have HLX := Lib.hid (show LX.length ≤ 21 by rw [← hLX]; exact Nat.le_trans (cut_le l _) h21)
        have HLE := Lib.hid hLX
        have HE1 := Lib.hid (show stepL p l (2, x2, x3, x4, x5) = joinL x2 LX [x3, x4, x5] 3 by rw [HYS.out, ← hLX]; rfl)
        clear hLX
        obtain ⟨g0, g1, g2, g3, g4, g5, g6⟩ := KK.out _ HB5.out
        go_wp2_with fail
        clear g0 g1 g2 g3 g4 g5 g6
        have HBD := Lib.hid (below_on HB5.out ((Below.refl w5.heap.size w5).drew) HB5.out.size)
        refine wp_region_held_drew (S := (fun W' : World => W'.cell? ⟨w.heap.size, 0, none⟩ = some (.int .i64 p) ∧ W'.cell? ⟨w.heap.size, 1, none⟩ = some (.slice A l.length cap) ∧ W'.cell? ⟨w.heap.size + 1, 0, none⟩ = some (.int .i64 2) ∧ W'.cell? ⟨w.heap.size + 1, 1, none⟩ = some (.int .i64 x2) ∧ W'.cell? ⟨w.heap.size + 1, 2, none⟩ = some (.int .i64 x3) ∧ W'.cell? ⟨w.heap.size + 1, 3, none⟩ = some (.int .i64 x4) ∧ W'.cell? ⟨w.heap.size + 1, 4, none⟩ = some (.int .i64 x5))) (by kernel_rfl) ?_ (fun hHeld => ?_)
        · exact KK.out _ HBD.out
        generalize w5.drew = WD at *
        refine wpAnyH_take (i := 0) (v := .agg #[.int .i64 p, .slice A l.length cap]) rfl (by kernel_rfl) (by kernel_rfl) (by kernel_rfl) (fun _ _ _ h => h) (Or.inl ⟨by kernel_rfl, fun w hSw => by (try dsimp only at hSw); go_simp; all_goals first | omega | exact IntWalk.i64_in _ (by omega)⟩) (by assumption) ?_
        refine wpAnyH_take (i := 1) (v := .pointer (some ⟨w.heap.size + 1, 2, none⟩)) rfl (by kernel_rfl) (by kernel_rfl) (by kernel_rfl) (fun _ _ _ h => h) (Or.inl ⟨by kernel_rfl, fun w hSw => by (try dsimp only at hSw); go_simp; all_goals first | omega | exact IntWalk.i64_in _ (by omega)⟩) (by assumption) ?_
        refine wpAnyH_take (i := 2) (v := .int .i64 x3) rfl (by kernel_rfl) (by kernel_rfl) (by kernel_rfl) (fun _ _ _ h => h) (Or.inl ⟨by kernel_rfl, fun w hSw => by (try dsimp only at hSw); go_simp; all_goals first | omega | exact IntWalk.i64_in _ (by omega)⟩) (by assumption) ?_
        refine wpAnyH_take (i := 3) (v := .pointer (some ⟨w.heap.size + 1, 3, none⟩)) rfl (by kernel_rfl) (by kernel_rfl) (by kernel_rfl) (fun _ _ _ h => h) (Or.inl ⟨by kernel_rfl, fun w hSw => by (try dsimp only at hSw); go_simp; all_goals first | omega | exact IntWalk.i64_in _ (by omega)⟩) (by assumption) ?_
        refine wpAnyH_take (i := 4) (v := .int .i64 x4) rfl (by kernel_rfl) (by kernel_rfl) (by kernel_rfl) (fun _ _ _ h => h) (Or.inl ⟨by kernel_rfl, fun w hSw => by (try dsimp only at hSw); go_simp; all_goals first | omega | exact IntWalk.i64_in _ (by omega)⟩) (by assumption) ?_
        refine wpAnyH_take (i := 6) (v := .pointer (some ⟨w.heap.size + 1, 1, none⟩)) rfl (by kernel_rfl) (by kernel_rfl) (by kernel_rfl) (fun _ _ _ h => h) (Or.inl ⟨by kernel_rfl, fun w hSw => by (try dsimp only at hSw); go_simp; all_goals first | omega | exact IntWalk.i64_in _ (by omega)⟩) (by assumption) ?_
        refine wpAnyH_take (i := 7) (v := .int .i64 x2) rfl (by kernel_rfl) (by kernel_rfl) (by kernel_rfl) (fun _ _ _ h => h) (Or.inl ⟨by kernel_rfl, fun w hSw => by (try dsimp only at hSw); go_simp; all_goals first | omega | exact IntWalk.i64_in _ (by omega)⟩) (by assumption) ?_
        refine wpAnyH_take (i := 8) (v := .pointer (some ⟨w.heap.size + 1, 2, none⟩)) rfl (by kernel_rfl) (by kernel_rfl) (by kernel_rfl) (fun _ _ _ h => h) (Or.inl ⟨by kernel_rfl, fun w hSw => by (try dsimp only at hSw); go_simp; all_goals first | omega | exact IntWalk.i64_in _ (by omega)⟩) (by assumption) ?_
        refine wpAnyH_take (i := 9) (v := .int .i64 x3) rfl (by kernel_rfl) (by kernel_rfl) (by kernel_rfl) (fun _ _ _ h => h) (Or.inl ⟨by kernel_rfl, fun w hSw => by (try dsimp only at hSw); go_simp; all_goals first | omega | exact IntWalk.i64_in _ (by omega)⟩) (by assumption) ?_
        refine wpAnyH_take (i := 10) (v := .pointer (some ⟨w.heap.size + 1, 3, none⟩)) rfl (by kernel_rfl) (by kernel_rfl) (by kernel_rfl) (fun _ _ _ h => h) (Or.inl ⟨by kernel_rfl, fun w hSw => by (try dsimp only at hSw); go_simp; all_goals first | omega | exact IntWalk.i64_in _ (by omega)⟩) (by assumption) ?_
        refine wpAnyH_take (i := 11) (v := .int .i64 x4) rfl (by kernel_rfl) (by kernel_rfl) (by kernel_rfl) (fun _ _ _ h => h) (Or.inl ⟨by kernel_rfl, fun w hSw => by (try dsimp only at hSw); go_simp; all_goals first | omega | exact IntWalk.i64_in _ (by omega)⟩) (by assumption) ?_
        refine wpAnyH_take (i := 12) (v := .pointer (some ⟨w.heap.size + 1, 4, none⟩)) rfl (by kernel_rfl) (by kernel_rfl) (by kernel_rfl) (fun _ _ _ h => h) (Or.inl ⟨by kernel_rfl, fun w hSw => by (try dsimp only at hSw); go_simp; all_goals first | omega | exact IntWalk.i64_in _ (by omega)⟩) (by assumption) ?_
        refine wpAnyH_take (i := 13) (v := .int .i64 x5) rfl (by kernel_rfl) (by kernel_rfl) (by kernel_rfl) (fun _ _ _ h => h) (Or.inl ⟨by kernel_rfl, fun w hSw => by (try dsimp only at hSw); go_simp; all_goals first | omega | exact IntWalk.i64_in _ (by omega)⟩) (by assumption) ?_
        refine wpAnyH_ready (rs := [5, 14]) (by kernel_rfl) (by simp) (AllReadyH.cons rfl (fun K hK => ?_) (AllReadyH.cons rfl (fun K hK => ?_) AllReadyH.nil))
        · go_simp
          go_at_call 104
          refine (parted_c p x3 x4 l A cap _ (HL3.out.on HBD.out) HGG.out HF.out.2).mono ?_
          rw [HLE.out]
          rintro e w6 ⟨A6, c6, rfl, ho6, hb6⟩
          have HO6 := Lib.hid ho6
          have HB6 := Lib.hid (below_on HBD.out hb6 HBD.out.size)
          clear ho6 hb6
          refine hK.out _ _ (KK.out _ HB6.out) (fun hHeld => ?_)
          clear hK K
          refine wpAnyH_ready (rs := [14]) (by kernel_rfl) (by simp) (AllReadyH.cons rfl (fun K hK => ?_) AllReadyH.nil)
          go_simp
          have hal := new_below w6 (.cells #[.int .i64 x3, .int .i64 x4, .int .i64 x5] 3)
          have HBZ := Lib.hid (below_on HB6.out hal HB6.out.size)
          have HZ := Lib.hid (show IntsIn (w6.alloc (.cells #[.int .i64 x3, .int .i64 x4, .int .i64 x5] 3)) w6.heap.size (w6.heap.size + 1) (some ⟨w6.heap.size, 0, none⟩) [x3, x4, x5] from ints_new w6 [x3, x4, x5] 3)
          have HOZ := Lib.hid (HO6.out.within (within_of hal) (.inr (Nat.zero_le _)))
          clear hal
          refine hK.out _ _ (KK.out _ HBZ.out) (fun hHeld => ?_)
          clear hK K
          refine wpAnyH_ready (rs := [15]) (by kernel_rfl) (by simp) (AllReadyH.cons rfl (fun K hK => ?_) AllReadyH.nil)
          go_simp
          go_at_call 103
          refine (joined_c p x2 LX A6 c6 [x3, x4, x5] w6.heap.size _ _ _ HOZ.out.bars.at HGX.out HF.out.1.1 (fun j hj => by match j, hj with | 0, _ => exact HF.out.1.2.1 | 1, _ => exact HF.out.1.2.2.1 | 2, _ => exact HF.out.1.2.2.2) (by have := HLX.out; simp; omega) (by simp) HZ.out).mono ?_
          rw [show joinL x2 LX [x3, x4, x5] ([x3, x4, x5]).length = joinL x2 LX [x3, x4, x5] 3 from rfl]
          rintro e w9 ⟨A9, c9, rfl, ho9, hb9⟩
          have HO9 := Lib.hid ho9
          have HB9 := Lib.hid (below_on HBZ.out hb9 HBZ.out.size)
          have BR9 := Lib.hid (BR3.out.kept HB9.out)
          have HLO := Lib.hid HBZ.out.size
          clear ho9 hb9
          refine hK.out _ _ (KK.out _ HB9.out) (fun hHeld => ?_)
          clear hK K
          refine wpAnyH_ready (rs := [16]) (by kernel_rfl) (by simp) (AllReadyH.cons rfl (fun K hK => ?_) AllReadyH.nil)
          obtain ⟨r0, r1, q0, q1⟩ := BR9.out.cells
          obtain ⟨s0, s1⟩ := ret_cells (p := p) (v := .slice A9 (joinL x2 LX [x3, x4, x5] 3).length c9) r0 r1
          obtain ⟨t0, t1⟩ := ownIn_ret HO9.out (below_on HA.out HB9.out HA.out.size) (r := w.heap.size + 2) (by omega) (by have := HS3.out; have := HLO.out; omega) (.int .i64 p) (.slice A9 (joinL x2 LX [x3, x4, x5] 3).length c9)
          have HT0 := Lib.hid t0
          have HT1 := Lib.hid t1
          clear t0 t1
          have HWS := Lib.hid (show Below w3.heap.size w3 _ from HB9.out)
          have hst := ret2 BR9.out (.int .i64 p) (.slice A9 (joinL x2 LX [x3, x4, x5] 3).length c9)
          have HSW := Lib.hid hst.2
          clear hst
          go_simp
          refine hK.out _ _ ?_ (fun hHeld => ?_)
          · exact ⟨(World.cell?_of_block (HSW.out.block w.heap.size (by have := HB9.out.size; have := HS3.out; omega) (by omega))).trans (KK.out _ HB9.out).1, (World.cell?_of_block (HSW.out.block w.heap.size (by have := HB9.out.size; have := HS3.out; omega) (by omega))).trans (KK.out _ HB9.out).2.1, (World.cell?_of_block (HSW.out.block (w.heap.size + 1) (by have := HB9.out.size; have := HS3.out; omega) (by omega))).trans (KK.out _ HB9.out).2.2.1, (World.cell?_of_block (HSW.out.block (w.heap.size + 1) (by have := HB9.out.size; have := HS3.out; omega) (by omega))).trans (KK.out _ HB9.out).2.2.2.1, (World.cell?_of_block (HSW.out.block (w.heap.size + 1) (by have := HB9.out.size; have := HS3.out; omega) (by omega))).trans (KK.out _ HB9.out).2.2.2.2.1, (World.cell?_of_block (HSW.out.block (w.heap.size + 1) (by have := HB9.out.size; have := HS3.out; omega) (by omega))).trans (KK.out _ HB9.out).2.2.2.2.2.1, (World.cell?_of_block (HSW.out.block (w.heap.size + 1) (by have := HB9.out.size; have := HS3.out; omega) (by omega))).trans (KK.out _ HB9.out).2.2.2.2.2.2⟩
          clear hK K
          refine wpAnyH_take (i := 17) (v := .bool true) rfl (by kernel_rfl) (by kernel_rfl) (by kernel_rfl) (fun _ _ _ h => h) (Or.inl ⟨by kernel_rfl, fun w hSw => by (try dsimp only at hSw); go_simp; all_goals first | omega | exact IntWalk.i64_in _ (by omega)⟩) (by assumption) ?_
          refine wpAnyH_done (by kernel_rfl) ?_ _
          go_wp2_with fail
          refine bodyPost_ret (v := .tuple #[.agg #[.int .i64 p, .slice A9 (joinL x2 LX [x3, x4, x5] 3).length c9], .bool true]) ?_ rfl ⟨A9, c9, by rw [HE1.out, HE2.out], by rw [HE1.out]; exact HT0.out, HT1.out⟩
          simp [results, Try.results22, go_sem, s0, s1]
        · go_simp
          have hal := new_below WD (.cells #[.int .i64 x3, .int .i64 x4, .int .i64 x5] 3)
          have HBZ := Lib.hid (below_on HBD.out hal HBD.out.size)
          have HZ := Lib.hid (show IntsIn (WD.alloc (.cells #[.int .i64 x3, .int .i64 x4, .int .i64 x5] 3)) WD.heap.size (WD.heap.size + 1) (some ⟨WD.heap.size, 0, none⟩) [x3, x4, x5] from ints_new WD [x3, x4, x5] 3)
          clear hal
          refine hK.out _ _ (KK.out _ HBZ.out) (fun hHeld => ?_)
          clear hK K
          refine wpAnyH_ready (rs := [5]) (by kernel_rfl) (by simp) (AllReadyH.cons rfl (fun K hK => ?_) AllReadyH.nil)
          go_simp
          go_at_call 104
          refine (parted_c p x3 x4 l A cap _ (HL3.out.on HBZ.out) HGG.out HF.out.2).mono ?_
          rw [HLE.out]
          rintro e w6 ⟨A6, c6, rfl, ho6, hb6⟩
          have HO6 := Lib.hid ho6
          have HB6 := Lib.hid (below_on HBZ.out hb6 HBZ.out.size)
          have HZ6 := Lib.hid (HZ.out.within (within_of hb6) (.inr (Nat.zero_le _)))
          clear ho6 hb6
          refine hK.out _ _ (KK.out _ HB6.out) (fun hHeld => ?_)
          clear hK K
          refine wpAnyH_ready (rs := [15]) (by kernel_rfl) (by simp) (AllReadyH.cons rfl (fun K hK => ?_) AllReadyH.nil)
          go_simp
          go_at_call 103
          refine (joined_c p x2 LX A6 c6 [x3, x4, x5] WD.heap.size _ _ _ HO6.out.bars.at HGX.out HF.out.1.1 (fun j hj => by match j, hj with | 0, _ => exact HF.out.1.2.1 | 1, _ => exact HF.out.1.2.2.1 | 2, _ => exact HF.out.1.2.2.2) (by have := HLX.out; simp; omega) (by simp) HZ6.out).mono ?_
          rw [show joinL x2 LX [x3, x4, x5] ([x3, x4, x5]).length = joinL x2 LX [x3, x4, x5] 3 from rfl]
          rintro e w9 ⟨A9, c9, rfl, ho9, hb9⟩
          have HO9 := Lib.hid ho9
          have HB9 := Lib.hid (below_on HB6.out hb9 HB6.out.size)
          have BR9 := Lib.hid (BR3.out.kept HB9.out)
          have HLO := Lib.hid HB6.out.size
          clear ho9 hb9
          refine hK.out _ _ (KK.out _ HB9.out) (fun hHeld => ?_)
          clear hK K
          refine wpAnyH_ready (rs := [16]) (by kernel_rfl) (by simp) (AllReadyH.cons rfl (fun K hK => ?_) AllReadyH.nil)
          obtain ⟨r0, r1, q0, q1⟩ := BR9.out.cells
          obtain ⟨s0, s1⟩ := ret_cells (p := p) (v := .slice A9 (joinL x2 LX [x3, x4, x5] 3).length c9) r0 r1
          obtain ⟨t0, t1⟩ := ownIn_ret HO9.out (below_on HA.out HB9.out HA.out.size) (r := w.heap.size + 2) (by omega) (by have := HS3.out; have := HLO.out; omega) (.int .i64 p) (.slice A9 (joinL x2 LX [x3, x4, x5] 3).length c9)
          have HT0 := Lib.hid t0
          have HT1 := Lib.hid t1
          clear t0 t1
          have HWS := Lib.hid (show Below w3.heap.size w3 _ from HB9.out)
          have hst := ret2 BR9.out (.int .i64 p) (.slice A9 (joinL x2 LX [x3, x4, x5] 3).length c9)
          have HSW := Lib.hid hst.2
          clear hst
          go_simp
          refine hK.out _ _ ?_ (fun hHeld => ?_)
          · exact ⟨(World.cell?_of_block (HSW.out.block w.heap.size (by have := HB9.out.size; have := HS3.out; omega) (by omega))).trans (KK.out _ HB9.out).1, (World.cell?_of_block (HSW.out.block w.heap.size (by have := HB9.out.size; have := HS3.out; omega) (by omega))).trans (KK.out _ HB9.out).2.1, (World.cell?_of_block (HSW.out.block (w.heap.size + 1) (by have := HB9.out.size; have := HS3.out; omega) (by omega))).trans (KK.out _ HB9.out).2.2.1, (World.cell?_of_block (HSW.out.block (w.heap.size + 1) (by have := HB9.out.size; have := HS3.out; omega) (by omega))).trans (KK.out _ HB9.out).2.2.2.1, (World.cell?_of_block (HSW.out.block (w.heap.size + 1) (by have := HB9.out.size; have := HS3.out; omega) (by omega))).trans (KK.out _ HB9.out).2.2.2.2.1, (World.cell?_of_block (HSW.out.block (w.heap.size + 1) (by have := HB9.out.size; have := HS3.out; omega) (by omega))).trans (KK.out _ HB9.out).2.2.2.2.2.1, (World.cell?_of_block (HSW.out.block (w.heap.size + 1) (by have := HB9.out.size; have := HS3.out; omega) (by omega))).trans (KK.out _ HB9.out).2.2.2.2.2.2⟩
          clear hK K
          refine wpAnyH_take (i := 17) (v := .bool true) rfl (by kernel_rfl) (by kernel_rfl) (by kernel_rfl) (fun _ _ _ h => h) (Or.inl ⟨by kernel_rfl, fun w hSw => by (try dsimp only at hSw); go_simp; all_goals first | omega | exact IntWalk.i64_in _ (by omega)⟩) (by assumption) ?_
          refine wpAnyH_done (by kernel_rfl) ?_ _
          go_wp2_with fail
          refine bodyPost_ret (v := .tuple #[.agg #[.int .i64 p, .slice A9 (joinL x2 LX [x3, x4, x5] 3).length c9], .bool true]) ?_ rfl ⟨A9, c9, by rw [HE1.out, HE2.out], by rw [HE1.out]; exact HT0.out, HT1.out⟩
          simp [results, Try.results22, go_sem, s0, s1]
end Go.Proofs.Ytggibhhdnlifcaa
