/- What spec.ApplyStep answers. No condition. -/
import Derived.Test.YtggibhhdnlifcaaBldM
import Derived.Test.YtggibhhdnlifcaaAtS
import Derived.Test.YtggibhhdnlifcaaApplyI
import Derived.Test.YtggibhhdnlifcaaCopyC
import Derived.Test.YtggibhhdnlifcaaRemoveS
import Derived.Test.YtggibhhdnlifcaaPut
import Derived.OrdersHeld
namespace Go.Proofs.Ytggibhhdnlifcaa
open Go.RowKit

theorem bars_far {W W' : World} {lo hi r : Nat} {A : Option Addr} {l : List (Int × Int)} (h : BarsIn W lo hi A l) (hw : Within r (r + 1) W W') (hr : r < lo ∨ hi ≤ r) : BarsIn W' lo hi A l := h.within hw (by omega)

set_option maxHeartbeats 16000000 in
set_option maxRecDepth 100000 in
theorem specApplyC (s : Stp) (p : Int) (l : List (Int × Int)) (aa : Addr) (cap : Nat) (w : World) (hl : BarsAt w w.heap.size (some aa) l) (hn : l.length ≤ 1048576) (hcap : l.length ≤ cap) :
    Calls Try.prog 20 #[.agg #[.int .i64 p, .slice (some aa) l.length cap], .agg #[.int .i64 s.1, .int .i64 s.2.1, .int .i64 s.2.2.1, .int .i64 s.2.2.2.1, .int .i64 s.2.2.2.2]] w (GraphRC w p (stepL p l s) (stepR p l s)) := by
  obtain ⟨x1, x2, x3, x4, x5⟩ := s
  dsimp only
  have hA1 := new_below w (.cells #[.int .i64 p, .slice (some aa) l.length cap] 30)
  have hA2 := new_below (w.alloc (.cells #[.int .i64 p, .slice (some aa) l.length cap] 30)) (.cells #[.int .i64 x1, .int .i64 x2, .int .i64 x3, .int .i64 x4, .int .i64 x5] 41)
  have hA3 := new_below ((w.alloc (.cells #[.int .i64 p, .slice (some aa) l.length cap] 30)).alloc (.cells #[.int .i64 x1, .int .i64 x2, .int .i64 x3, .int .i64 x4, .int .i64 x5] 41)) (.cells #[.int .i64 0, .slice none 0 0] 30)
  have hA12 := below_on hA1 hA2 hA1.size
  have hA := below_on hA12 hA3 hA12.size
  have HS1 := Lib.hid (show (w.alloc (.cells #[.int .i64 p, .slice (some aa) l.length cap] 30)).heap.size = w.heap.size + 1 by simp)
  have HS2 := Lib.hid (show ((w.alloc (.cells #[.int .i64 p, .slice (some aa) l.length cap] 30)).alloc (.cells #[.int .i64 x1, .int .i64 x2, .int .i64 x3, .int .i64 x4, .int .i64 x5] 41)).heap.size = w.heap.size + 2 by simp)
  have HS3 := Lib.hid (show (((w.alloc (.cells #[.int .i64 p, .slice (some aa) l.length cap] 30)).alloc (.cells #[.int .i64 x1, .int .i64 x2, .int .i64 x3, .int .i64 x4, .int .i64 x5] 41)).alloc (.cells #[.int .i64 0, .slice none 0 0] 30)).heap.size = w.heap.size + 3 by simp)
  have HA := Lib.hid hA
  have HL3 := Lib.hid (hl.on hA)
  have BX3 := Lib.hid (((box_new w p (.slice (some aa) l.length cap) 30).kept hA2).kept hA3)
  have hs := (show PBox ((w.alloc (.cells #[.int .i64 p, .slice (some aa) l.length cap] 30)).alloc (.cells #[.int .i64 x1, .int .i64 x2, .int .i64 x3, .int .i64 x4, .int .i64 x5] 41)) (w.alloc (.cells #[.int .i64 p, .slice (some aa) l.length cap] 30)).heap.size (x1, x2, x3, x4, x5) from pbox_new (w.alloc (.cells #[.int .i64 p, .slice (some aa) l.length cap] 30)) (x1, x2, x3, x4, x5) 41).kept hA3
  rw [HS1.out] at hs
  have SB3 := Lib.hid hs
  have hr := cel2_new ((w.alloc (.cells #[.int .i64 p, .slice (some aa) l.length cap] 30)).alloc (.cells #[.int .i64 x1, .int .i64 x2, .int .i64 x3, .int .i64 x4, .int .i64 x5] 41)) (.int .i64 0) (.slice none 0 0) 30
  rw [HS2.out] at hr
  have BR3 := Lib.hid hr
  clear hl hA1 hA2 hA3 hA12 hA hs hr
  go_enter Try.func20, Try.ntmps20
  obtain ⟨g0, g1, g2⟩ := BX3.out
  go_wp2_with fail
  clear g0 g1 g2
  generalize (((w.alloc (.cells #[.int .i64 p, .slice (some aa) l.length cap] 30)).alloc (.cells #[.int .i64 x1, .int .i64 x2, .int .i64 x3, .int .i64 x4, .int .i64 x5] 41)).alloc (.cells #[.int .i64 0, .slice none 0 0] 30)) = w3 at *
  have KK := Lib.hid (show ∀ W : World, Below w3.heap.size w3 W → W.cell? ⟨w.heap.size, 0, none⟩ = some (.int .i64 p) ∧ W.cell? ⟨w.heap.size, 1, none⟩ = some (.slice (some aa) l.length cap) ∧ W.cell? ⟨w.heap.size + 1, 0, none⟩ = some (.int .i64 x1) ∧ W.cell? ⟨w.heap.size + 1, 1, none⟩ = some (.int .i64 x2) ∧ W.cell? ⟨w.heap.size + 1, 2, none⟩ = some (.int .i64 x3) ∧ W.cell? ⟨w.heap.size + 1, 3, none⟩ = some (.int .i64 x4) ∧ W.cell? ⟨w.heap.size + 1, 4, none⟩ = some (.int .i64 x5) from fun W h => ⟨(BX3.out.kept h).2.1, (BX3.out.kept h).2.2, (SB3.out.kept h).2⟩)
  refine (specIsGraph' p l (some aa) cap w3 HL3.out hn).mono ?_
  rintro e w4 ⟨rfl, hb⟩
  have HB4 := Lib.hid hb
  clear hb
  cases hg : isGB p l with
  | false =>
    have HE2 := Lib.hid (show stepR p l (x1, x2, x3, x4, x5) = false by simp [stepR, hg])
    have HE1 := Lib.hid (step_no HE2.out)
    clear hg
    obtain ⟨g0, g1, g2, g3, g4, g5, g6⟩ := KK.out _ HB4.out
    go_wp2_with fail
    clear g0 g1 g2 g3 g4 g5 g6
    refine (copy_c p l aa cap w4 (HL3.out.on HB4.out) hn).mono ?_
    rintro e w9 ⟨A9, c9, rfl, ho9, hb9⟩
    have HO9 := Lib.hid ho9.bars
    have HC9 := Lib.hid (own_cap ho9).1
    have HB9 := Lib.hid (below_on HB4.out hb9 HB4.out.size)
    have BR9 := Lib.hid (BR3.out.kept HB9.out)
    have HLO := Lib.hid (HB4.out.size)
    clear ho9 hb9
    obtain ⟨r0, r1, q0, q1⟩ := BR9.out.cells
    have hrr := ret2 BR9.out (.int .i64 p) (.slice A9 (l).length c9)
    obtain ⟨s0, s1, _, _⟩ := hrr.1.cells
    have HT0 := Lib.hid ((bars_far HO9.out hrr.2 (.inl (by have := HLO.out; have := HS3.out; omega))).at)
    have HT1 := Lib.hid (within_on (below_on HA.out HB9.out HA.out.size) hrr.2 (below_on HA.out HB9.out HA.out.size).size (.inl (by omega)))
    clear hrr
    go_wp2_with fail
    refine bodyPost_ret (v := .tuple #[.agg #[.int .i64 p, .slice A9 (l).length c9], .bool false]) ?_ rfl ⟨A9, c9, by rw [HE1.out, HE2.out], by rw [HE1.out]; exact HT0.out, HT1.out, by rw [HE1.out]; exact HC9.out⟩
    simp [results, Try.results20, go_sem, s0, s1]
  | true =>
    have hGG : IsG p l := Classical.byContradiction fun g => by rw [isGB_no g] at hg; cases hg
    have HGG := Lib.hid hGG
    have HGB := Lib.hid hg
    clear hg hGG
    by_cases h21 : l.length ≤ 21
    rotate_left
    · have h21' : (21 : Int) < (l.length : Int) := by omega
      have HE2 := Lib.hid (show stepR p l (x1, x2, x3, x4, x5) = false by simp [stepR, h21])
      have HE1 := Lib.hid (step_no HE2.out)
      clear h21
      obtain ⟨g0, g1, g2, g3, g4, g5, g6⟩ := KK.out _ HB4.out
      go_wp2_with fail
      clear g0 g1 g2 g3 g4 g5 g6
      refine (copy_c p l aa cap w4 (HL3.out.on HB4.out) hn).mono ?_
      rintro e w9 ⟨A9, c9, rfl, ho9, hb9⟩
      have HO9 := Lib.hid ho9.bars
      have HC9 := Lib.hid (own_cap ho9).1
      have HB9 := Lib.hid (below_on HB4.out hb9 HB4.out.size)
      have BR9 := Lib.hid (BR3.out.kept HB9.out)
      have HLO := Lib.hid (HB4.out.size)
      clear ho9 hb9
      obtain ⟨r0, r1, q0, q1⟩ := BR9.out.cells
      have hrr := ret2 BR9.out (.int .i64 p) (.slice A9 (l).length c9)
      obtain ⟨s0, s1, _, _⟩ := hrr.1.cells
      have HT0 := Lib.hid ((bars_far HO9.out hrr.2 (.inl (by have := HLO.out; have := HS3.out; omega))).at)
      have HT1 := Lib.hid (within_on (below_on HA.out HB9.out HA.out.size) hrr.2 (below_on HA.out HB9.out HA.out.size).size (.inl (by omega)))
      clear hrr
      go_wp2_with fail
      refine bodyPost_ret (v := .tuple #[.agg #[.int .i64 p, .slice A9 (l).length c9], .bool false]) ?_ rfl ⟨A9, c9, by rw [HE1.out, HE2.out], by rw [HE1.out]; exact HT0.out, HT1.out, by rw [HE1.out]; exact HC9.out⟩
      simp [results, Try.results20, go_sem, s0, s1]
    have h21' : ¬ (21 : Int) < (l.length : Int) := by omega
    have H21 := Lib.hid h21
    by_cases k0 : x1 = 0
    · have d0 : (x1 == 0) = true := by simpa using k0
      have d1 : (x1 == 1) = false := by rw [k0]; rfl
      have d2 : (x1 == 2) = false := by rw [k0]; rfl
      have HK0 := Lib.hid k0
      clear k0
      by_cases h2 : x2 = 0
      rotate_left
      · have HE2 := Lib.hid (show stepR p l (x1, x2, x3, x4, x5) = false by simp [stepR, fitB, HK0.out, h2])
        have HE1 := Lib.hid (step_no HE2.out)
        have eh2 : (x2 == 0) = false := by simpa using h2
        clear h2
        obtain ⟨g0, g1, g2, g3, g4, g5, g6⟩ := KK.out _ HB4.out
        go_wp2_with fail
        clear g0 g1 g2 g3 g4 g5 g6
        refine (copy_c p l aa cap w4 (HL3.out.on HB4.out) hn).mono ?_
        rintro e w9 ⟨A9, c9, rfl, ho9, hb9⟩
        have HO9 := Lib.hid ho9.bars
        have HC9 := Lib.hid (own_cap ho9).1
        have HB9 := Lib.hid (below_on HB4.out hb9 HB4.out.size)
        have BR9 := Lib.hid (BR3.out.kept HB9.out)
        have HLO := Lib.hid (HB4.out.size)
        clear ho9 hb9
        obtain ⟨r0, r1, q0, q1⟩ := BR9.out.cells
        have hrr := ret2 BR9.out (.int .i64 p) (.slice A9 (l).length c9)
        obtain ⟨s0, s1, _, _⟩ := hrr.1.cells
        have HT0 := Lib.hid ((bars_far HO9.out hrr.2 (.inl (by have := HLO.out; have := HS3.out; omega))).at)
        have HT1 := Lib.hid (within_on (below_on HA.out HB9.out HA.out.size) hrr.2 (below_on HA.out HB9.out HA.out.size).size (.inl (by omega)))
        clear hrr
        go_wp2_with fail
        refine bodyPost_ret (v := .tuple #[.agg #[.int .i64 p, .slice A9 (l).length c9], .bool false]) ?_ rfl ⟨A9, c9, by rw [HE1.out, HE2.out], by rw [HE1.out]; exact HT0.out, HT1.out, by rw [HE1.out]; exact HC9.out⟩
        simp [results, Try.results20, go_sem, s0, s1]
      have eh2 : (x2 == 0) = true := by simpa using h2
      have Hh2 := Lib.hid h2
      clear h2
      by_cases h5 : x5 = 0
      rotate_left
      · have HE2 := Lib.hid (show stepR p l (x1, x2, x3, x4, x5) = false by simp [stepR, fitB, HK0.out, Hh2.out, h5])
        have HE1 := Lib.hid (step_no HE2.out)
        have eh5 : (x5 == 0) = false := by simpa using h5
        clear h5
        obtain ⟨g0, g1, g2, g3, g4, g5, g6⟩ := KK.out _ HB4.out
        go_wp2_with fail
        clear g0 g1 g2 g3 g4 g5 g6
        refine (copy_c p l aa cap w4 (HL3.out.on HB4.out) hn).mono ?_
        rintro e w9 ⟨A9, c9, rfl, ho9, hb9⟩
        have HO9 := Lib.hid ho9.bars
        have HC9 := Lib.hid (own_cap ho9).1
        have HB9 := Lib.hid (below_on HB4.out hb9 HB4.out.size)
        have BR9 := Lib.hid (BR3.out.kept HB9.out)
        have HLO := Lib.hid (HB4.out.size)
        clear ho9 hb9
        obtain ⟨r0, r1, q0, q1⟩ := BR9.out.cells
        have hrr := ret2 BR9.out (.int .i64 p) (.slice A9 (l).length c9)
        obtain ⟨s0, s1, _, _⟩ := hrr.1.cells
        have HT0 := Lib.hid ((bars_far HO9.out hrr.2 (.inl (by have := HLO.out; have := HS3.out; omega))).at)
        have HT1 := Lib.hid (within_on (below_on HA.out HB9.out HA.out.size) hrr.2 (below_on HA.out HB9.out HA.out.size).size (.inl (by omega)))
        clear hrr
        go_wp2_with fail
        refine bodyPost_ret (v := .tuple #[.agg #[.int .i64 p, .slice A9 (l).length c9], .bool false]) ?_ rfl ⟨A9, c9, by rw [HE1.out, HE2.out], by rw [HE1.out]; exact HT0.out, HT1.out, by rw [HE1.out]; exact HC9.out⟩
        simp [results, Try.results20, go_sem, s0, s1]
      have eh5 : (x5 == 0) = true := by simpa using h5
      have Hh5 := Lib.hid h5
      clear h5
      by_cases hl0 : l = []
      rotate_left
      · have HE2 := Lib.hid (show stepR p l (x1, x2, x3, x4, x5) = false by simp [stepR, fitB, HK0.out, Hh2.out, Hh5.out, hl0])
        have HE1 := Lib.hid (step_no HE2.out)
        have ehl0 : ((l.length : Int) == 0) = false := by simpa using hl0
        clear hl0
        obtain ⟨g0, g1, g2, g3, g4, g5, g6⟩ := KK.out _ HB4.out
        go_wp2_with fail
        clear g0 g1 g2 g3 g4 g5 g6
        refine (copy_c p l aa cap w4 (HL3.out.on HB4.out) hn).mono ?_
        rintro e w9 ⟨A9, c9, rfl, ho9, hb9⟩
        have HO9 := Lib.hid ho9.bars
        have HC9 := Lib.hid (own_cap ho9).1
        have HB9 := Lib.hid (below_on HB4.out hb9 HB4.out.size)
        have BR9 := Lib.hid (BR3.out.kept HB9.out)
        have HLO := Lib.hid (HB4.out.size)
        clear ho9 hb9
        obtain ⟨r0, r1, q0, q1⟩ := BR9.out.cells
        have hrr := ret2 BR9.out (.int .i64 p) (.slice A9 (l).length c9)
        obtain ⟨s0, s1, _, _⟩ := hrr.1.cells
        have HT0 := Lib.hid ((bars_far HO9.out hrr.2 (.inl (by have := HLO.out; have := HS3.out; omega))).at)
        have HT1 := Lib.hid (within_on (below_on HA.out HB9.out HA.out.size) hrr.2 (below_on HA.out HB9.out HA.out.size).size (.inl (by omega)))
        clear hrr
        go_wp2_with fail
        refine bodyPost_ret (v := .tuple #[.agg #[.int .i64 p, .slice A9 (l).length c9], .bool false]) ?_ rfl ⟨A9, c9, by rw [HE1.out, HE2.out], by rw [HE1.out]; exact HT0.out, HT1.out, by rw [HE1.out]; exact HC9.out⟩
        simp [results, Try.results20, go_sem, s0, s1]
      have ehl0 : ((l.length : Int) == 0) = true := by simpa using hl0
      have Hhl0 := Lib.hid hl0
      clear hl0
      obtain ⟨g0, g1, g2, g3, g4, g5, g6⟩ := KK.out _ HB4.out
      go_wp2_with fail
      clear g0 g1 g2 g3 g4 g5 g6
      have hal := new_below w4 (.cells #[.int .i64 x3, .int .i64 x4] 3)
      have HBZ := Lib.hid (below_on HB4.out hal HB4.out.size)
      have HZ := Lib.hid (show IntsIn (w4.alloc (.cells #[.int .i64 x3, .int .i64 x4] 3)) w4.heap.size (w4.heap.size + 1) (some ⟨w4.heap.size, 0, none⟩) [x3, x4] from ints_new w4 [x3, x4] 3)
      clear hal
      refine (points_c p (some aa) l.length cap [x3, x4] w4.heap.size _ _ _ HZ.out (by simp)).mono ?_
      rintro e w5 ⟨rfl, hb⟩
      have HB5 := Lib.hid (below_on HBZ.out hb HBZ.out.size)
      clear hb
      rw [show difB p [x3, x4] ([x3, x4]).length = difB p [x3, x4] 2 from rfl]
      cases q0 : difB p [x3, x4] 2
      · have HE2 := Lib.hid (show stepR p l (x1, x2, x3, x4, x5) = false by simp [stepR, fitB, HK0.out, Hh2.out, Hh5.out, Hhl0.out, q0])
        have HE1 := Lib.hid (step_no HE2.out)
        clear q0
        obtain ⟨g0, g1, g2, g3, g4, g5, g6⟩ := KK.out _ HB5.out
        go_wp2_with fail
        clear g0 g1 g2 g3 g4 g5 g6
        refine (copy_c p l aa cap w5 (HL3.out.on HB5.out) hn).mono ?_
        rintro e w9 ⟨A9, c9, rfl, ho9, hb9⟩
        have HO9 := Lib.hid ho9.bars
        have HC9 := Lib.hid (own_cap ho9).1
        have HB9 := Lib.hid (below_on HB5.out hb9 HB5.out.size)
        have BR9 := Lib.hid (BR3.out.kept HB9.out)
        have HLO := Lib.hid (HB5.out.size)
        clear ho9 hb9
        obtain ⟨r0, r1, q0, q1⟩ := BR9.out.cells
        have hrr := ret2 BR9.out (.int .i64 p) (.slice A9 (l).length c9)
        obtain ⟨s0, s1, _, _⟩ := hrr.1.cells
        have HT0 := Lib.hid ((bars_far HO9.out hrr.2 (.inl (by have := HLO.out; have := HS3.out; omega))).at)
        have HT1 := Lib.hid (within_on (below_on HA.out HB9.out HA.out.size) hrr.2 (below_on HA.out HB9.out HA.out.size).size (.inl (by omega)))
        clear hrr
        go_wp2_with fail
        refine bodyPost_ret (v := .tuple #[.agg #[.int .i64 p, .slice A9 (l).length c9], .bool false]) ?_ rfl ⟨A9, c9, by rw [HE1.out, HE2.out], by rw [HE1.out]; exact HT0.out, HT1.out, by rw [HE1.out]; exact HC9.out⟩
        simp [results, Try.results20, go_sem, s0, s1]
      have Hq0 := Lib.hid q0
      clear q0
      have HE2 := Lib.hid (show stepR p l (x1, x2, x3, x4, x5) = true by unfold stepR; rw [HGB.out, decide_eq_true H21.out]; simp [fitB, HK0.out, Hh2.out, Hh5.out, Hhl0.out, Hq0.out])
      have HYS := Lib.hid (step_yes HE2.out)
      have HE1 := Lib.hid (show stepL p l (x1, x2, x3, x4, x5) = joinL x3 l [x4] 1 by rw [HYS.out]; simp [stepF, HK0.out])
      obtain ⟨g0, g1, g2, g3, g4, g5, g6⟩ := KK.out _ HB5.out
      go_wp2_with fail
      clear g0 g1 g2 g3 g4 g5 g6
      refine (put_c p (brS x3 x4) (l) (some aa) cap w5 (HL3.out.on HB5.out) (hn)).mono ?_
      rintro e w9 ⟨A9, c9, rfl, ho, hb⟩
      have HO9 := Lib.hid ho.bars
      have HB9 := Lib.hid (below_on HB5.out hb HB5.out.size)
      have HLO9 := Lib.hid (HB5.out.size)
      have HC9 := Lib.hid (own_cap ho).1
      rw [show insU (brS x3 x4) l = joinL x3 l [x4] 1 from rfl] at HO9 HC9 ⊢
      have BR9 := Lib.hid (BR3.out.kept HB9.out)
      clear ho hb
      obtain ⟨r0, r1, q0, q1⟩ := BR9.out.cells
      have hrr := ret2 BR9.out (.int .i64 p) (.slice A9 (joinL x3 l [x4] 1).length c9)
      obtain ⟨s0, s1, _, _⟩ := hrr.1.cells
      have HT0 := Lib.hid ((bars_far HO9.out hrr.2 (.inl (by have := HLO9.out; have := HS3.out; omega))).at)
      have HT1 := Lib.hid (within_on (below_on HA.out HB9.out HA.out.size) hrr.2 (below_on HA.out HB9.out HA.out.size).size (.inl (by omega)))
      clear hrr
      go_wp2_with fail
      refine bodyPost_ret (v := .tuple #[.agg #[.int .i64 p, .slice A9 (joinL x3 l [x4] 1).length c9], .bool true]) ?_ rfl ⟨A9, c9, by rw [HE1.out, HE2.out], by rw [HE1.out]; exact HT0.out, HT1.out, by rw [HE1.out]; exact HC9.out⟩
      simp [results, Try.results20, go_sem, s0, s1]
    by_cases k1 : x1 = 1
    · have d0 : (x1 == 0) = false := by simpa using k0
      have d1 : (x1 == 1) = true := by simpa using k1
      have d2 : (x1 == 2) = false := by rw [k1]; rfl
      have HK0 := Lib.hid k0
      have HK1 := Lib.hid k1
      clear k0 k1
      by_cases h5 : x5 = 0
      rotate_left
      · have HE2 := Lib.hid (show stepR p l (x1, x2, x3, x4, x5) = false by simp [stepR, fitB, HK0.out, HK1.out, h5])
        have HE1 := Lib.hid (step_no HE2.out)
        have eh5 : (x5 == 0) = false := by simpa using h5
        clear h5
        obtain ⟨g0, g1, g2, g3, g4, g5, g6⟩ := KK.out _ HB4.out
        go_wp2_with fail
        clear g0 g1 g2 g3 g4 g5 g6
        refine (copy_c p l aa cap w4 (HL3.out.on HB4.out) hn).mono ?_
        rintro e w9 ⟨A9, c9, rfl, ho9, hb9⟩
        have HO9 := Lib.hid ho9.bars
        have HC9 := Lib.hid (own_cap ho9).1
        have HB9 := Lib.hid (below_on HB4.out hb9 HB4.out.size)
        have BR9 := Lib.hid (BR3.out.kept HB9.out)
        have HLO := Lib.hid (HB4.out.size)
        clear ho9 hb9
        obtain ⟨r0, r1, q0, q1⟩ := BR9.out.cells
        have hrr := ret2 BR9.out (.int .i64 p) (.slice A9 (l).length c9)
        obtain ⟨s0, s1, _, _⟩ := hrr.1.cells
        have HT0 := Lib.hid ((bars_far HO9.out hrr.2 (.inl (by have := HLO.out; have := HS3.out; omega))).at)
        have HT1 := Lib.hid (within_on (below_on HA.out HB9.out HA.out.size) hrr.2 (below_on HA.out HB9.out HA.out.size).size (.inl (by omega)))
        clear hrr
        go_wp2_with fail
        refine bodyPost_ret (v := .tuple #[.agg #[.int .i64 p, .slice A9 (l).length c9], .bool false]) ?_ rfl ⟨A9, c9, by rw [HE1.out, HE2.out], by rw [HE1.out]; exact HT0.out, HT1.out, by rw [HE1.out]; exact HC9.out⟩
        simp [results, Try.results20, go_sem, s0, s1]
      have eh5 : (x5 == 0) = true := by simpa using h5
      have Hh5 := Lib.hid h5
      clear h5
      obtain ⟨g0, g1, g2, g3, g4, g5, g6⟩ := KK.out _ HB4.out
      go_wp2_with fail
      clear g0 g1 g2 g3 g4 g5 g6
      have hal := new_below w4 (.cells #[.int .i64 x2, .int .i64 x3, .int .i64 x4] 3)
      have HBZ := Lib.hid (below_on HB4.out hal HB4.out.size)
      have HZ := Lib.hid (show IntsIn (w4.alloc (.cells #[.int .i64 x2, .int .i64 x3, .int .i64 x4] 3)) w4.heap.size (w4.heap.size + 1) (some ⟨w4.heap.size, 0, none⟩) [x2, x3, x4] from ints_new w4 [x2, x3, x4] 3)
      clear hal
      refine (points_c p (some aa) l.length cap [x2, x3, x4] w4.heap.size _ _ _ HZ.out (by simp)).mono ?_
      rintro e w5 ⟨rfl, hb⟩
      have HB5 := Lib.hid (below_on HBZ.out hb HBZ.out.size)
      clear hb
      rw [show difB p [x2, x3, x4] ([x2, x3, x4]).length = difB p [x2, x3, x4] 3 from rfl]
      cases q0 : difB p [x2, x3, x4] 3
      · have HE2 := Lib.hid (show stepR p l (x1, x2, x3, x4, x5) = false by simp [stepR, fitB, HK0.out, HK1.out, Hh5.out, q0])
        have HE1 := Lib.hid (step_no HE2.out)
        clear q0
        obtain ⟨g0, g1, g2, g3, g4, g5, g6⟩ := KK.out _ HB5.out
        go_wp2_with fail
        clear g0 g1 g2 g3 g4 g5 g6
        refine (copy_c p l aa cap w5 (HL3.out.on HB5.out) hn).mono ?_
        rintro e w9 ⟨A9, c9, rfl, ho9, hb9⟩
        have HO9 := Lib.hid ho9.bars
        have HC9 := Lib.hid (own_cap ho9).1
        have HB9 := Lib.hid (below_on HB5.out hb9 HB5.out.size)
        have BR9 := Lib.hid (BR3.out.kept HB9.out)
        have HLO := Lib.hid (HB5.out.size)
        clear ho9 hb9
        obtain ⟨r0, r1, q0, q1⟩ := BR9.out.cells
        have hrr := ret2 BR9.out (.int .i64 p) (.slice A9 (l).length c9)
        obtain ⟨s0, s1, _, _⟩ := hrr.1.cells
        have HT0 := Lib.hid ((bars_far HO9.out hrr.2 (.inl (by have := HLO.out; have := HS3.out; omega))).at)
        have HT1 := Lib.hid (within_on (below_on HA.out HB9.out HA.out.size) hrr.2 (below_on HA.out HB9.out HA.out.size).size (.inl (by omega)))
        clear hrr
        go_wp2_with fail
        refine bodyPost_ret (v := .tuple #[.agg #[.int .i64 p, .slice A9 (l).length c9], .bool false]) ?_ rfl ⟨A9, c9, by rw [HE1.out, HE2.out], by rw [HE1.out]; exact HT0.out, HT1.out, by rw [HE1.out]; exact HC9.out⟩
        simp [results, Try.results20, go_sem, s0, s1]
      have Hq0 := Lib.hid q0
      clear q0
      obtain ⟨g0, g1, g2, g3, g4, g5, g6⟩ := KK.out _ HB5.out
      go_wp2_with fail
      clear g0 g1 g2 g3 g4 g5 g6
      refine (used_c p x2 l (some aa) cap w5 (HL3.out.on HB5.out) hn).mono ?_
      rintro e w6 ⟨rfl, hb⟩
      have HB6 := Lib.hid (below_on HB5.out hb HB5.out.size)
      clear hb
      obtain ⟨m1, hm1⟩ : ∃ m, l.countP (endB x2) = m := ⟨_, rfl⟩
      rw [hm1]
      have HM1 := Lib.hid hm1
      clear hm1
      by_cases q1 : m1 = 0
      rotate_left
      · have HE2 := Lib.hid (show stepR p l (x1, x2, x3, x4, x5) = false by simp [stepR, fitB, HK0.out, HK1.out, Hh5.out, Hq0.out, HM1.out, q1])
        have HE1 := Lib.hid (step_no HE2.out)
        rw [decide_eq_true (show 0 < m1 by omega)]
        clear q1
        obtain ⟨g0, g1, g2, g3, g4, g5, g6⟩ := KK.out _ HB6.out
        go_wp2_with fail
        clear g0 g1 g2 g3 g4 g5 g6
        refine (copy_c p l aa cap w6 (HL3.out.on HB6.out) hn).mono ?_
        rintro e w9 ⟨A9, c9, rfl, ho9, hb9⟩
        have HO9 := Lib.hid ho9.bars
        have HC9 := Lib.hid (own_cap ho9).1
        have HB9 := Lib.hid (below_on HB6.out hb9 HB6.out.size)
        have BR9 := Lib.hid (BR3.out.kept HB9.out)
        have HLO := Lib.hid (HB6.out.size)
        clear ho9 hb9
        obtain ⟨r0, r1, q0, q1⟩ := BR9.out.cells
        have hrr := ret2 BR9.out (.int .i64 p) (.slice A9 (l).length c9)
        obtain ⟨s0, s1, _, _⟩ := hrr.1.cells
        have HT0 := Lib.hid ((bars_far HO9.out hrr.2 (.inl (by have := HLO.out; have := HS3.out; omega))).at)
        have HT1 := Lib.hid (within_on (below_on HA.out HB9.out HA.out.size) hrr.2 (below_on HA.out HB9.out HA.out.size).size (.inl (by omega)))
        clear hrr
        go_wp2_with fail
        refine bodyPost_ret (v := .tuple #[.agg #[.int .i64 p, .slice A9 (l).length c9], .bool false]) ?_ rfl ⟨A9, c9, by rw [HE1.out, HE2.out], by rw [HE1.out]; exact HT0.out, HT1.out, by rw [HE1.out]; exact HC9.out⟩
        simp [results, Try.results20, go_sem, s0, s1]
      rw [decide_eq_false (show ¬ 0 < m1 by omega)]
      have Hq1 := Lib.hid q1
      clear q1
      obtain ⟨g0, g1, g2, g3, g4, g5, g6⟩ := KK.out _ HB6.out
      go_wp2_with fail
      clear g0 g1 g2 g3 g4 g5 g6
      refine (used_c p x3 l (some aa) cap w6 (HL3.out.on HB6.out) hn).mono ?_
      rintro e w7 ⟨rfl, hb⟩
      have HB7 := Lib.hid (below_on HB6.out hb HB6.out.size)
      clear hb
      obtain ⟨m2, hm2⟩ : ∃ m, l.countP (endB x3) = m := ⟨_, rfl⟩
      rw [hm2]
      have HM2 := Lib.hid hm2
      clear hm2
      by_cases q2 : m2 = 0
      · have HE2 := Lib.hid (show stepR p l (x1, x2, x3, x4, x5) = false by simp [stepR, fitB, HK0.out, HK1.out, Hh5.out, Hq0.out, HM1.out, Hq1.out, HM2.out, q2])
        have HE1 := Lib.hid (step_no HE2.out)
        rw [decide_eq_false (show ¬ 0 < m2 by omega)]
        clear q2
        obtain ⟨g0, g1, g2, g3, g4, g5, g6⟩ := KK.out _ HB7.out
        go_wp2_with fail
        clear g0 g1 g2 g3 g4 g5 g6
        refine (copy_c p l aa cap w7 (HL3.out.on HB7.out) hn).mono ?_
        rintro e w9 ⟨A9, c9, rfl, ho9, hb9⟩
        have HO9 := Lib.hid ho9.bars
        have HC9 := Lib.hid (own_cap ho9).1
        have HB9 := Lib.hid (below_on HB7.out hb9 HB7.out.size)
        have BR9 := Lib.hid (BR3.out.kept HB9.out)
        have HLO := Lib.hid (HB7.out.size)
        clear ho9 hb9
        obtain ⟨r0, r1, q0, q1⟩ := BR9.out.cells
        have hrr := ret2 BR9.out (.int .i64 p) (.slice A9 (l).length c9)
        obtain ⟨s0, s1, _, _⟩ := hrr.1.cells
        have HT0 := Lib.hid ((bars_far HO9.out hrr.2 (.inl (by have := HLO.out; have := HS3.out; omega))).at)
        have HT1 := Lib.hid (within_on (below_on HA.out HB9.out HA.out.size) hrr.2 (below_on HA.out HB9.out HA.out.size).size (.inl (by omega)))
        clear hrr
        go_wp2_with fail
        refine bodyPost_ret (v := .tuple #[.agg #[.int .i64 p, .slice A9 (l).length c9], .bool false]) ?_ rfl ⟨A9, c9, by rw [HE1.out, HE2.out], by rw [HE1.out]; exact HT0.out, HT1.out, by rw [HE1.out]; exact HC9.out⟩
        simp [results, Try.results20, go_sem, s0, s1]
      rw [decide_eq_true (show 0 < m2 by omega)]
      have Hq2 := Lib.hid q2
      clear q2
      obtain ⟨g0, g1, g2, g3, g4, g5, g6⟩ := KK.out _ HB7.out
      go_wp2_with fail
      clear g0 g1 g2 g3 g4 g5 g6
      refine (used_c p x4 l (some aa) cap w7 (HL3.out.on HB7.out) hn).mono ?_
      rintro e w8 ⟨rfl, hb⟩
      have HB8 := Lib.hid (below_on HB7.out hb HB7.out.size)
      clear hb
      obtain ⟨m3, hm3⟩ : ∃ m, l.countP (endB x4) = m := ⟨_, rfl⟩
      rw [hm3]
      have HM3 := Lib.hid hm3
      clear hm3
      by_cases q3 : m3 = 0
      · have HE2 := Lib.hid (show stepR p l (x1, x2, x3, x4, x5) = false by simp [stepR, fitB, HK0.out, HK1.out, Hh5.out, Hq0.out, HM1.out, Hq1.out, HM2.out, Hq2.out, Nat.pos_of_ne_zero Hq2.out, HM3.out, q3])
        have HE1 := Lib.hid (step_no HE2.out)
        rw [decide_eq_false (show ¬ 0 < m3 by omega)]
        clear q3
        obtain ⟨g0, g1, g2, g3, g4, g5, g6⟩ := KK.out _ HB8.out
        go_wp2_with fail
        clear g0 g1 g2 g3 g4 g5 g6
        refine (copy_c p l aa cap w8 (HL3.out.on HB8.out) hn).mono ?_
        rintro e w9 ⟨A9, c9, rfl, ho9, hb9⟩
        have HO9 := Lib.hid ho9.bars
        have HC9 := Lib.hid (own_cap ho9).1
        have HB9 := Lib.hid (below_on HB8.out hb9 HB8.out.size)
        have BR9 := Lib.hid (BR3.out.kept HB9.out)
        have HLO := Lib.hid (HB8.out.size)
        clear ho9 hb9
        obtain ⟨r0, r1, q0, q1⟩ := BR9.out.cells
        have hrr := ret2 BR9.out (.int .i64 p) (.slice A9 (l).length c9)
        obtain ⟨s0, s1, _, _⟩ := hrr.1.cells
        have HT0 := Lib.hid ((bars_far HO9.out hrr.2 (.inl (by have := HLO.out; have := HS3.out; omega))).at)
        have HT1 := Lib.hid (within_on (below_on HA.out HB9.out HA.out.size) hrr.2 (below_on HA.out HB9.out HA.out.size).size (.inl (by omega)))
        clear hrr
        go_wp2_with fail
        refine bodyPost_ret (v := .tuple #[.agg #[.int .i64 p, .slice A9 (l).length c9], .bool false]) ?_ rfl ⟨A9, c9, by rw [HE1.out, HE2.out], by rw [HE1.out]; exact HT0.out, HT1.out, by rw [HE1.out]; exact HC9.out⟩
        simp [results, Try.results20, go_sem, s0, s1]
      rw [decide_eq_true (show 0 < m3 by omega)]
      have Hq3 := Lib.hid q3
      clear q3
      have HE2 := Lib.hid (show stepR p l (x1, x2, x3, x4, x5) = true by unfold stepR; rw [HGB.out, decide_eq_true H21.out]; simp [fitB, HK0.out, HK1.out, Hh5.out, Hq0.out, HM1.out, Hq1.out, HM2.out, Hq2.out, Nat.pos_of_ne_zero Hq2.out, HM3.out, Hq3.out, Nat.pos_of_ne_zero Hq3.out])
      have HYS := Lib.hid (step_yes HE2.out)
      have HE1 := Lib.hid (show stepL p l (x1, x2, x3, x4, x5) = joinL x2 l [x3, x4] 2 by rw [HYS.out]; simp [stepF, HK1.out])
      obtain ⟨g0, g1, g2, g3, g4, g5, g6⟩ := KK.out _ HB8.out
      go_wp2_with fail
      clear g0 g1 g2 g3 g4 g5 g6
      refine (put_c p (brS x2 x3) (l) (some aa) cap w8 (HL3.out.on HB8.out) (hn)).mono ?_
      rintro e w10 ⟨A10, c10, rfl, ho, hb⟩
      have HO10 := Lib.hid ho.bars
      have HB10 := Lib.hid (below_on HB8.out hb HB8.out.size)
      have HLO10 := Lib.hid (HB8.out.size)
      rw [show insU (brS x2 x3) l = joinL x2 l [x3, x4] 1 from rfl] at HO10 ⊢
      clear ho hb
      obtain ⟨L1, hL1⟩ : ∃ L1, joinL x2 l [x3, x4] 1 = L1 := ⟨_, rfl⟩
      have HL1 := Lib.hid hL1
      rw [hL1] at HO10 ⊢
      have HN1 := Lib.hid (show L1.length ≤ 1048576 by rw [← hL1, joinL_len]; omega)
      clear hL1
      have hal := new_below w10 (.cells #[.int .i64 p, .slice A10 (L1).length c10] 30)
      have BX10b := Lib.hid (cel2_new w10 (.int .i64 p) (.slice A10 (L1).length c10) 30)
      have HO10b := Lib.hid (HO10.out.within (within_of hal) (.inr (Nat.zero_le _)))
      have HB10b := Lib.hid (below_on HB10.out hal HB10.out.size)
      have HW10b := Lib.hid (show (w10.alloc (.cells #[.int .i64 p, .slice A10 (L1).length c10] 30)).heap.size = w10.heap.size + 1 by simp)
      clear hal
      obtain ⟨b0, b1, _, _⟩ := BX10b.out.cells
      obtain ⟨g0, g1, g2, g3, g4, g5, g6⟩ := KK.out _ HB10b.out
      go_wp2_with fail
      clear g0 g1 g2 g3 g4 g5 g6
      clear b0 b1
      generalize (w10.alloc (.cells #[.int .i64 p, .slice A10 L1.length c10] 30)) = w11 at *
      refine (put_c p (brS x2 x4) (L1) A10 c10 w11 (HO10b.out.at) (HN1.out)).mono ?_
      rintro e w9 ⟨A9, c9, rfl, ho, hb⟩
      have HO9 := Lib.hid ho.bars
      have HB9 := Lib.hid (below_on HB10b.out hb HB10b.out.size)
      have HLO9 := Lib.hid (HB10b.out.size)
      have HC9 := Lib.hid (own_cap ho).1
      rw [show insU (brS x2 x4) L1 = joinL x2 l [x3, x4] 2 by rw [← HL1.out]; rfl] at HO9 HC9 ⊢
      have BR9 := Lib.hid (BR3.out.kept HB9.out)
      clear ho hb
      obtain ⟨r0, r1, q0, q1⟩ := BR9.out.cells
      have hrr := ret2 BR9.out (.int .i64 p) (.slice A9 (joinL x2 l [x3, x4] 2).length c9)
      obtain ⟨s0, s1, _, _⟩ := hrr.1.cells
      have HT0 := Lib.hid ((bars_far HO9.out hrr.2 (.inl (by have := HLO9.out; have := HS3.out; omega))).at)
      have HT1 := Lib.hid (within_on (below_on HA.out HB9.out HA.out.size) hrr.2 (below_on HA.out HB9.out HA.out.size).size (.inl (by omega)))
      clear hrr
      go_wp2_with fail
      refine bodyPost_ret (v := .tuple #[.agg #[.int .i64 p, .slice A9 (joinL x2 l [x3, x4] 2).length c9], .bool true]) ?_ rfl ⟨A9, c9, by rw [HE1.out, HE2.out], by rw [HE1.out]; exact HT0.out, HT1.out, by rw [HE1.out]; exact HC9.out⟩
      simp [results, Try.results20, go_sem, s0, s1]
    by_cases k2 : x1 = 2
    · have d0 : (x1 == 0) = false := by simpa using k0
      have d1 : (x1 == 1) = false := by simpa using k1
      have d2 : (x1 == 2) = true := by simpa using k2
      have HK0 := Lib.hid k0
      have HK1 := Lib.hid k1
      have HK2 := Lib.hid k2
      clear k0 k1 k2
      obtain ⟨g0, g1, g2, g3, g4, g5, g6⟩ := KK.out _ HB4.out
      go_wp2_with fail
      clear g0 g1 g2 g3 g4 g5 g6
      have hal := new_below w4 (.cells #[.int .i64 x2, .int .i64 x3, .int .i64 x4, .int .i64 x5] 3)
      have HBZ := Lib.hid (below_on HB4.out hal HB4.out.size)
      have HZ := Lib.hid (show IntsIn (w4.alloc (.cells #[.int .i64 x2, .int .i64 x3, .int .i64 x4, .int .i64 x5] 3)) w4.heap.size (w4.heap.size + 1) (some ⟨w4.heap.size, 0, none⟩) [x2, x3, x4, x5] from ints_new w4 [x2, x3, x4, x5] 3)
      clear hal
      refine (points_c p (some aa) l.length cap [x2, x3, x4, x5] w4.heap.size _ _ _ HZ.out (by simp)).mono ?_
      rintro e w5 ⟨rfl, hb⟩
      have HB5 := Lib.hid (below_on HBZ.out hb HBZ.out.size)
      clear hb
      rw [show difB p [x2, x3, x4, x5] ([x2, x3, x4, x5]).length = difB p [x2, x3, x4, x5] 4 from rfl]
      cases q0 : difB p [x2, x3, x4, x5] 4
      · have HE2 := Lib.hid (show stepR p l (x1, x2, x3, x4, x5) = false by simp [stepR, fitB, HK0.out, HK1.out, HK2.out, q0])
        have HE1 := Lib.hid (step_no HE2.out)
        clear q0
        obtain ⟨g0, g1, g2, g3, g4, g5, g6⟩ := KK.out _ HB5.out
        go_wp2_with fail
        clear g0 g1 g2 g3 g4 g5 g6
        refine (copy_c p l aa cap w5 (HL3.out.on HB5.out) hn).mono ?_
        rintro e w9 ⟨A9, c9, rfl, ho9, hb9⟩
        have HO9 := Lib.hid ho9.bars
        have HC9 := Lib.hid (own_cap ho9).1
        have HB9 := Lib.hid (below_on HB5.out hb9 HB5.out.size)
        have BR9 := Lib.hid (BR3.out.kept HB9.out)
        have HLO := Lib.hid (HB5.out.size)
        clear ho9 hb9
        obtain ⟨r0, r1, q0, q1⟩ := BR9.out.cells
        have hrr := ret2 BR9.out (.int .i64 p) (.slice A9 (l).length c9)
        obtain ⟨s0, s1, _, _⟩ := hrr.1.cells
        have HT0 := Lib.hid ((bars_far HO9.out hrr.2 (.inl (by have := HLO.out; have := HS3.out; omega))).at)
        have HT1 := Lib.hid (within_on (below_on HA.out HB9.out HA.out.size) hrr.2 (below_on HA.out HB9.out HA.out.size).size (.inl (by omega)))
        clear hrr
        go_wp2_with fail
        refine bodyPost_ret (v := .tuple #[.agg #[.int .i64 p, .slice A9 (l).length c9], .bool false]) ?_ rfl ⟨A9, c9, by rw [HE1.out, HE2.out], by rw [HE1.out]; exact HT0.out, HT1.out, by rw [HE1.out]; exact HC9.out⟩
        simp [results, Try.results20, go_sem, s0, s1]
      have Hq0 := Lib.hid q0
      clear q0
      obtain ⟨g0, g1, g2, g3, g4, g5, g6⟩ := KK.out _ HB5.out
      go_wp2_with fail
      clear g0 g1 g2 g3 g4 g5 g6
      refine (used_c p x2 l (some aa) cap w5 (HL3.out.on HB5.out) hn).mono ?_
      rintro e w6 ⟨rfl, hb⟩
      have HB6 := Lib.hid (below_on HB5.out hb HB5.out.size)
      clear hb
      obtain ⟨m1, hm1⟩ : ∃ m, l.countP (endB x2) = m := ⟨_, rfl⟩
      rw [hm1]
      have HM1 := Lib.hid hm1
      clear hm1
      by_cases q1 : m1 = 0
      rotate_left
      · have HE2 := Lib.hid (show stepR p l (x1, x2, x3, x4, x5) = false by simp [stepR, fitB, HK0.out, HK1.out, HK2.out, Hq0.out, HM1.out, q1])
        have HE1 := Lib.hid (step_no HE2.out)
        rw [decide_eq_true (show 0 < m1 by omega)]
        clear q1
        obtain ⟨g0, g1, g2, g3, g4, g5, g6⟩ := KK.out _ HB6.out
        go_wp2_with fail
        clear g0 g1 g2 g3 g4 g5 g6
        refine (copy_c p l aa cap w6 (HL3.out.on HB6.out) hn).mono ?_
        rintro e w9 ⟨A9, c9, rfl, ho9, hb9⟩
        have HO9 := Lib.hid ho9.bars
        have HC9 := Lib.hid (own_cap ho9).1
        have HB9 := Lib.hid (below_on HB6.out hb9 HB6.out.size)
        have BR9 := Lib.hid (BR3.out.kept HB9.out)
        have HLO := Lib.hid (HB6.out.size)
        clear ho9 hb9
        obtain ⟨r0, r1, q0, q1⟩ := BR9.out.cells
        have hrr := ret2 BR9.out (.int .i64 p) (.slice A9 (l).length c9)
        obtain ⟨s0, s1, _, _⟩ := hrr.1.cells
        have HT0 := Lib.hid ((bars_far HO9.out hrr.2 (.inl (by have := HLO.out; have := HS3.out; omega))).at)
        have HT1 := Lib.hid (within_on (below_on HA.out HB9.out HA.out.size) hrr.2 (below_on HA.out HB9.out HA.out.size).size (.inl (by omega)))
        clear hrr
        go_wp2_with fail
        refine bodyPost_ret (v := .tuple #[.agg #[.int .i64 p, .slice A9 (l).length c9], .bool false]) ?_ rfl ⟨A9, c9, by rw [HE1.out, HE2.out], by rw [HE1.out]; exact HT0.out, HT1.out, by rw [HE1.out]; exact HC9.out⟩
        simp [results, Try.results20, go_sem, s0, s1]
      rw [decide_eq_false (show ¬ 0 < m1 by omega)]
      have Hq1 := Lib.hid q1
      clear q1
      obtain ⟨g0, g1, g2, g3, g4, g5, g6⟩ := KK.out _ HB6.out
      go_wp2_with fail
      clear g0 g1 g2 g3 g4 g5 g6
      refine (used_c p x5 l (some aa) cap w6 (HL3.out.on HB6.out) hn).mono ?_
      rintro e w7 ⟨rfl, hb⟩
      have HB7 := Lib.hid (below_on HB6.out hb HB6.out.size)
      clear hb
      obtain ⟨m2, hm2⟩ : ∃ m, l.countP (endB x5) = m := ⟨_, rfl⟩
      rw [hm2]
      have HM2 := Lib.hid hm2
      clear hm2
      by_cases q2 : m2 = 0
      · have HE2 := Lib.hid (show stepR p l (x1, x2, x3, x4, x5) = false by simp [stepR, fitB, HK0.out, HK1.out, HK2.out, Hq0.out, HM1.out, Hq1.out, HM2.out, q2])
        have HE1 := Lib.hid (step_no HE2.out)
        rw [decide_eq_false (show ¬ 0 < m2 by omega)]
        clear q2
        obtain ⟨g0, g1, g2, g3, g4, g5, g6⟩ := KK.out _ HB7.out
        go_wp2_with fail
        clear g0 g1 g2 g3 g4 g5 g6
        refine (copy_c p l aa cap w7 (HL3.out.on HB7.out) hn).mono ?_
        rintro e w9 ⟨A9, c9, rfl, ho9, hb9⟩
        have HO9 := Lib.hid ho9.bars
        have HC9 := Lib.hid (own_cap ho9).1
        have HB9 := Lib.hid (below_on HB7.out hb9 HB7.out.size)
        have BR9 := Lib.hid (BR3.out.kept HB9.out)
        have HLO := Lib.hid (HB7.out.size)
        clear ho9 hb9
        obtain ⟨r0, r1, q0, q1⟩ := BR9.out.cells
        have hrr := ret2 BR9.out (.int .i64 p) (.slice A9 (l).length c9)
        obtain ⟨s0, s1, _, _⟩ := hrr.1.cells
        have HT0 := Lib.hid ((bars_far HO9.out hrr.2 (.inl (by have := HLO.out; have := HS3.out; omega))).at)
        have HT1 := Lib.hid (within_on (below_on HA.out HB9.out HA.out.size) hrr.2 (below_on HA.out HB9.out HA.out.size).size (.inl (by omega)))
        clear hrr
        go_wp2_with fail
        refine bodyPost_ret (v := .tuple #[.agg #[.int .i64 p, .slice A9 (l).length c9], .bool false]) ?_ rfl ⟨A9, c9, by rw [HE1.out, HE2.out], by rw [HE1.out]; exact HT0.out, HT1.out, by rw [HE1.out]; exact HC9.out⟩
        simp [results, Try.results20, go_sem, s0, s1]
      rw [decide_eq_true (show 0 < m2 by omega)]
      have Hq2 := Lib.hid q2
      clear q2
      obtain ⟨g0, g1, g2, g3, g4, g5, g6⟩ := KK.out _ HB7.out
      go_wp2_with fail
      clear g0 g1 g2 g3 g4 g5 g6
      obtain ⟨m3, hm3⟩ : ∃ m, l.countP (hitB x3 x4) = m := ⟨_, rfl⟩
      have HM3 := Lib.hid hm3
      clear hm3
      by_cases q3 : m3 = 0
      · have HE2 := Lib.hid (show stepR p l (x1, x2, x3, x4, x5) = false by simp [stepR, fitB, HK0.out, HK1.out, HK2.out, Hq0.out, HM1.out, Hq1.out, HM2.out, Hq2.out, Nat.pos_of_ne_zero Hq2.out, HM3.out, q3])
        have HE1 := Lib.hid (step_no HE2.out)
        refine (at_no p x3 x4 l (some aa) cap w7 (HL3.out.on HB7.out) HGG.out (HM3.out.trans q3)).mono ?_
        rintro e w8 ⟨rfl, hb⟩
        have HB8 := Lib.hid (below_on HB7.out hb HB7.out.size)
        clear hb q3
        obtain ⟨g0, g1, g2, g3, g4, g5, g6⟩ := KK.out _ HB8.out
        go_wp2_with fail
        clear g0 g1 g2 g3 g4 g5 g6
        refine (copy_c p l aa cap w8 (HL3.out.on HB8.out) hn).mono ?_
        rintro e w9 ⟨A9, c9, rfl, ho9, hb9⟩
        have HO9 := Lib.hid ho9.bars
        have HC9 := Lib.hid (own_cap ho9).1
        have HB9 := Lib.hid (below_on HB8.out hb9 HB8.out.size)
        have BR9 := Lib.hid (BR3.out.kept HB9.out)
        have HLO := Lib.hid (HB8.out.size)
        clear ho9 hb9
        obtain ⟨r0, r1, q0, q1⟩ := BR9.out.cells
        have hrr := ret2 BR9.out (.int .i64 p) (.slice A9 (l).length c9)
        obtain ⟨s0, s1, _, _⟩ := hrr.1.cells
        have HT0 := Lib.hid ((bars_far HO9.out hrr.2 (.inl (by have := HLO.out; have := HS3.out; omega))).at)
        have HT1 := Lib.hid (within_on (below_on HA.out HB9.out HA.out.size) hrr.2 (below_on HA.out HB9.out HA.out.size).size (.inl (by omega)))
        clear hrr
        go_wp2_with fail
        refine bodyPost_ret (v := .tuple #[.agg #[.int .i64 p, .slice A9 (l).length c9], .bool false]) ?_ rfl ⟨A9, c9, by rw [HE1.out, HE2.out], by rw [HE1.out]; exact HT0.out, HT1.out, by rw [HE1.out]; exact HC9.out⟩
        simp [results, Try.results20, go_sem, s0, s1]
      have HCN := Lib.hid (show 0 < l.countP (hitB x3 x4) by have := HM3.out; omega)
      have Hq3 := Lib.hid q3
      clear q3
      refine (at_yes p x3 x4 l (some aa) cap w7 (HL3.out.on HB7.out) HGG.out HCN.out).mono ?_
      rintro e w8 ⟨rfl, hix, hb⟩
      have HB8 := Lib.hid (below_on HB7.out hb HB7.out.size)
      have HIX := Lib.hid hix
      clear hb hix
      obtain ⟨ix, hie⟩ : ∃ ix, l.findIdx (hitB x3 x4) = ix := ⟨_, rfl⟩
      rw [hie] at HIX ⊢
      have HIE := Lib.hid hie
      have hge : (0 : Int) ≤ (ix : Int) := by omega
      clear hie
      have HE2 := Lib.hid (show stepR p l (x1, x2, x3, x4, x5) = true by unfold stepR; rw [HGB.out, decide_eq_true H21.out]; simp [fitB, HK0.out, HK1.out, HK2.out, Hq0.out, HM1.out, Hq1.out, HM2.out, Hq2.out, Nat.pos_of_ne_zero Hq2.out, HM3.out, Nat.pos_of_ne_zero Hq3.out, Hq3.out])
      have HYS := Lib.hid (step_yes HE2.out)
      have HE1 := Lib.hid (show stepL p l (x1, x2, x3, x4, x5) = joinL x2 (cutL l ix) [x3, x4, x5] 3 by rw [HYS.out]; simp [stepF, HK2.out, HIE.out])
      have HREM := Lib.hid (rem_yes (p := p) HGB.out HIX.out)
      have HCL := Lib.hid (show (cutL l ix).length ≤ 21 from Nat.le_trans (cut_le l ix) H21.out)
      obtain ⟨g0, g1, g2, g3, g4, g5, g6⟩ := KK.out _ HB8.out
      go_wp2_with fail
      clear g0 g1 g2 g3 g4 g5 g6
      have HBD := Lib.hid (below_on HB8.out ((Below.refl w8.heap.size w8).drew) HB8.out.size)
      refine wp_region_held_drew (S := (fun W' : World => W'.cell? ⟨w.heap.size, 0, none⟩ = some (.int .i64 p) ∧ W'.cell? ⟨w.heap.size, 1, none⟩ = some (.slice (some aa) l.length cap) ∧ W'.cell? ⟨w.heap.size + 1, 0, none⟩ = some (.int .i64 x1) ∧ W'.cell? ⟨w.heap.size + 1, 1, none⟩ = some (.int .i64 x2) ∧ W'.cell? ⟨w.heap.size + 1, 2, none⟩ = some (.int .i64 x3) ∧ W'.cell? ⟨w.heap.size + 1, 3, none⟩ = some (.int .i64 x4) ∧ W'.cell? ⟨w.heap.size + 1, 4, none⟩ = some (.int .i64 x5))) (by kernel_rfl) ?_ (fun hHeld => ?_)
      · exact KK.out _ HBD.out
      generalize w8.drew = WD at *
      refine wpAnyH_take (i := 0) (v := .agg #[.int .i64 p, .slice (some aa) l.length cap]) rfl (by kernel_rfl) (by kernel_rfl) (by kernel_rfl) (fun _ _ _ h => h) (Or.inl ⟨by kernel_rfl, fun w hSw => by (try dsimp only at hSw); go_simp; all_goals first | omega | exact IntWalk.i64_in _ (by omega)⟩) (by assumption) ?_
      refine wpAnyH_take (i := 1) (v := .agg #[.int .i64 p, .slice (some aa) l.length cap]) rfl (by kernel_rfl) (by kernel_rfl) (by kernel_rfl) (fun _ _ _ h => h) (Or.inl ⟨by kernel_rfl, fun w hSw => by (try dsimp only at hSw); go_simp; all_goals first | omega | exact IntWalk.i64_in _ (by omega)⟩) (by assumption) ?_
      refine wpAnyH_take (i := 2) (v := .pointer (some ⟨w.heap.size + 1, 2, none⟩)) rfl (by kernel_rfl) (by kernel_rfl) (by kernel_rfl) (fun _ _ _ h => h) (Or.inl ⟨by kernel_rfl, fun w hSw => by (try dsimp only at hSw); go_simp; all_goals first | omega | exact IntWalk.i64_in _ (by omega)⟩) (by assumption) ?_
      refine wpAnyH_take (i := 3) (v := .int .i64 x3) rfl (by kernel_rfl) (by kernel_rfl) (by kernel_rfl) (fun _ _ _ h => h) (Or.inl ⟨by kernel_rfl, fun w hSw => by (try dsimp only at hSw); go_simp; all_goals first | omega | exact IntWalk.i64_in _ (by omega)⟩) (by assumption) ?_
      refine wpAnyH_take (i := 4) (v := .pointer (some ⟨w.heap.size + 1, 3, none⟩)) rfl (by kernel_rfl) (by kernel_rfl) (by kernel_rfl) (fun _ _ _ h => h) (Or.inl ⟨by kernel_rfl, fun w hSw => by (try dsimp only at hSw); go_simp; all_goals first | omega | exact IntWalk.i64_in _ (by omega)⟩) (by assumption) ?_
      refine wpAnyH_take (i := 5) (v := .int .i64 x4) rfl (by kernel_rfl) (by kernel_rfl) (by kernel_rfl) (fun _ _ _ h => h) (Or.inl ⟨by kernel_rfl, fun w hSw => by (try dsimp only at hSw); go_simp; all_goals first | omega | exact IntWalk.i64_in _ (by omega)⟩) (by assumption) ?_
      refine wpAnyH_ready (rs := [6, 11]) (by kernel_rfl) (by simp) (AllReadyH.cons rfl (fun K hK => ?_) (AllReadyH.cons rfl (fun K hK => ?_) AllReadyH.nil))
      · go_simp
        go_at_call 99
        refine (at_yes p x3 x4 l (some aa) cap _ (HL3.out.on HBD.out) HGG.out HCN.out).mono ?_
        rintro e wa ⟨rfl, _, hb⟩
        rw [HIE.out]
        have HBA := Lib.hid (below_on HBD.out hb HBD.out.size)
        clear hb
        refine hK.out _ _ (KK.out _ HBA.out) (fun hHeld => ?_)
        clear hK K
        refine wpAnyH_ready (rs := [7, 11]) (by kernel_rfl) (by simp) (AllReadyH.cons rfl (fun K hK => ?_) (AllReadyH.cons rfl (fun K hK => ?_) AllReadyH.nil))
        · go_simp
          go_at_call 100
          refine (specRemoveO p (ix : Int) l (some aa) cap _ (HL3.out.on HBA.out) hn ⟨aa, rfl⟩ hcap).mono ?_
          rintro e wc ⟨A7, c7, rfl, ho, hb⟩
          rw [HREM.out.2, show l.take ix ++ l.drop (ix + 1) = cutL l ix from rfl] at ho ⊢
          rw [HREM.out.1]
          have HO7 := Lib.hid ho.bars
          have HLO7 := Lib.hid (show w3.heap.size ≤ _ from HBA.out.size)
          have HBC := Lib.hid (below_on HBA.out hb HBA.out.size)
          clear hb ho
          refine hK.out _ _ (KK.out _ HBC.out) (fun hHeld => ?_)
          clear hK K
          refine wpAnyH_take (i := 8) (v := .tuple #[.agg #[.int .i64 p, .slice A7 (cutL l ix).length c7], .bool true]) rfl (by kernel_rfl) (by kernel_rfl) (by kernel_rfl) (fun _ _ _ h => h) (Or.inl ⟨by kernel_rfl, fun w hSw => by (try dsimp only at hSw); go_simp; all_goals first | omega | exact IntWalk.i64_in _ (by omega)⟩) (by assumption) ?_
          refine wpAnyH_take (i := 9) (v := .agg #[.int .i64 p, .slice A7 (cutL l ix).length c7]) rfl (by kernel_rfl) (by kernel_rfl) (by kernel_rfl) (fun _ _ _ h => h) (Or.inl ⟨by kernel_rfl, fun w hSw => by (try dsimp only at hSw); go_simp; all_goals first | omega | exact IntWalk.i64_in _ (by omega)⟩) (by assumption) ?_
          refine wpAnyH_take (i := 10) (v := .bool true) rfl (by kernel_rfl) (by kernel_rfl) (by kernel_rfl) (fun _ _ _ h => h) (Or.inl ⟨by kernel_rfl, fun w hSw => by (try dsimp only at hSw); go_simp; all_goals first | omega | exact IntWalk.i64_in _ (by omega)⟩) (by assumption) ?_
          refine wpAnyH_ready (rs := [11]) (by kernel_rfl) (by simp) (AllReadyH.cons rfl (fun K hK => ?_) AllReadyH.nil)
          have hal := new_below wc (.cells #[.int .i64 0, .slice none 0 0] 30)
          have HBE := Lib.hid (below_on HBC.out hal HBC.out.size)
          have HXE := Lib.hid (cel2_new wc (.int .i64 0) (.slice none 0 0) 30)
          have HO7E := Lib.hid (HO7.out.within (within_of hal) (.inr (Nat.zero_le _)))
          clear hal
          go_simp
          refine hK.out _ _ (KK.out _ HBE.out) (fun hHeld => ?_)
          clear hK K
          refine wpAnyH_ready (rs := [12]) (by kernel_rfl) (by simp) (AllReadyH.cons rfl (fun K hK => ?_) AllReadyH.nil)
          obtain ⟨q0, q1, q2, q3⟩ := HXE.out.cells
          have hal := new_below wc (.cells #[.int .i64 p, .slice A7 (cutL l ix).length c7] 30)
          have HXS := Lib.hid (cel2_new wc (.int .i64 p) (.slice A7 (cutL l ix).length c7) 30)
          have hxb : w3.heap.size ≤ wc.heap.size := HBC.out.size
          have HXB := Lib.hid hxb
          have HBS := Lib.hid (below_on HBC.out hal HBC.out.size)
          have HOS := Lib.hid (HO7.out.within (within_of hal) (.inr (Nat.zero_le _)))
          clear hal hxb
          go_simp
          clear q0 q1 q2 q3
          refine hK.out _ _ (KK.out _ HBS.out) (fun hHeld => ?_)
          clear hK K
          refine wpAnyH_ready (rs := [13]) (by kernel_rfl) (by simp) (AllReadyH.cons rfl (fun K hK => ?_) AllReadyH.nil)
          go_simp
          refine hK.out _ _ (KK.out _ HBS.out) (fun hHeld => ?_)
          clear hK K
          refine wpAnyH_done (by kernel_rfl) ?_ _
          generalize (wc.alloc (.cells #[.int .i64 p, .slice A7 (cutL l ix).length c7] 30)) = w8 at *
          obtain ⟨xb, hxb⟩ : ∃ xb, wc.heap.size = xb := ⟨_, rfl⟩
          rw [hxb] at HXS HXB
          clear hHeld
          obtain ⟨b0, b1, b2, b3⟩ := HXS.out.cells
          obtain ⟨g0, g1, g2, g3, g4, g5, g6⟩ := KK.out _ HBS.out
          rw [hxb]
          go_wp2_with fail
          clear g0 g1 g2 g3 g4 g5 g6
          clear b0 b1 b2 b3
          refine (put_c p (brS x2 x3) (cutL l ix) A7 c7 w8 (HOS.out.at) (by have := HCL.out; omega)).mono ?_
          rintro e w10 ⟨A10, c10, rfl, ho, hb⟩
          have hob := ho.bars
          rw [show insU (brS x2 x3) (cutL l ix) = joinL x2 (cutL l ix) [x3, x4, x5] 1 from rfl] at hob ⊢
          obtain ⟨L1, hLn⟩ : ∃ L, joinL x2 (cutL l ix) [x3, x4, x5] 1 = L := ⟨_, rfl⟩
          rw [hLn] at hob ⊢
          have HEL1 := Lib.hid hLn
          have HNL1 := Lib.hid (show L1.length ≤ 1048576 by rw [← hLn, joinL_len]; have := HCL.out; omega)
          clear hLn ho
          have HO10 := Lib.hid hob
          have HB10 := Lib.hid (below_on HBS.out hb HBS.out.size)
          have HLO10 := Lib.hid (show xb < w8.heap.size from HXS.out.lt)
          have HX100 := Lib.hid (HXS.out.kept hb)
          have hst := ret2 HX100.out (.int .i64 p) (.slice A10 L1.length c10)
          have HX10 := Lib.hid hst.1
          have HBS10 := Lib.hid (within_on HB10.out hst.2 HB10.out.size (.inl HXB.out))
          have HOS10 := Lib.hid (bars_far HO10.out hst.2 (.inl HLO10.out))
          clear hst hob hb
          obtain ⟨b0, b1, b2, b3⟩ := HX100.out.cells
          obtain ⟨c0, c1, _, _⟩ := HX10.out.cells
          obtain ⟨g0, g1, g2, g3, g4, g5, g6⟩ := KK.out _ HBS10.out
          go_wp2_with fail
          clear g0 g1 g2 g3 g4 g5 g6
          clear b0 b1 b2 b3 c0 c1
          generalize ((w10.setCell ⟨xb, 0, none⟩ (.int .i64 p)).setCell ⟨xb, 1, none⟩ (.slice A10 L1.length c10)) = w11 at *
          refine (put_c p (brS x2 x4) (L1) A10 c10 w11 (HOS10.out.at) (HNL1.out)).mono ?_
          rintro e w12 ⟨A12, c12, rfl, ho, hb⟩
          have hob := ho.bars
          rw [show insU (brS x2 x4) (L1) = joinL x2 (cutL l ix) [x3, x4, x5] 2 from by rw [← HEL1.out]; rfl] at hob ⊢
          obtain ⟨L2, hLn⟩ : ∃ L, joinL x2 (cutL l ix) [x3, x4, x5] 2 = L := ⟨_, rfl⟩
          rw [hLn] at hob ⊢
          have HEL2 := Lib.hid hLn
          have HNL2 := Lib.hid (show L2.length ≤ 1048576 by rw [← hLn, joinL_len]; have := HCL.out; omega)
          clear hLn ho
          have HO12 := Lib.hid hob
          have HB12 := Lib.hid (below_on HBS10.out hb HBS10.out.size)
          have HLO12 := Lib.hid (show xb < w11.heap.size from HX10.out.lt)
          have HX120 := Lib.hid (HX10.out.kept hb)
          have hst := ret2 HX120.out (.int .i64 p) (.slice A12 L2.length c12)
          have HX12 := Lib.hid hst.1
          have HBS12 := Lib.hid (within_on HB12.out hst.2 HB12.out.size (.inl HXB.out))
          have HOS12 := Lib.hid (bars_far HO12.out hst.2 (.inl HLO12.out))
          clear hst hob hb
          obtain ⟨b0, b1, b2, b3⟩ := HX120.out.cells
          obtain ⟨c0, c1, _, _⟩ := HX12.out.cells
          obtain ⟨g0, g1, g2, g3, g4, g5, g6⟩ := KK.out _ HBS12.out
          go_wp2_with fail
          clear g0 g1 g2 g3 g4 g5 g6
          clear b0 b1 b2 b3 c0 c1
          generalize ((w12.setCell ⟨xb, 0, none⟩ (.int .i64 p)).setCell ⟨xb, 1, none⟩ (.slice A12 L2.length c12)) = w13 at *
          refine (put_c p (brS x2 x5) (L2) A12 c12 w13 (HOS12.out.at) (HNL2.out)).mono ?_
          rintro e w9 ⟨A9, c9, rfl, ho, hb⟩
          have HO9 := Lib.hid ho.bars
          have HB9 := Lib.hid (below_on HBS12.out hb HBS12.out.size)
          have HLO9 := Lib.hid (HBS12.out.size)
          have HC9 := Lib.hid (own_cap ho).1
          rw [show insU (brS x2 x5) L2 = joinL x2 (cutL l ix) [x3, x4, x5] 3 by rw [← HEL2.out]; rfl] at HO9 HC9 ⊢
          have BR9 := Lib.hid (BR3.out.kept HB9.out)
          clear ho hb
          obtain ⟨r0, r1, q0, q1⟩ := BR9.out.cells
          have hrr := ret2 BR9.out (.int .i64 p) (.slice A9 (joinL x2 (cutL l ix) [x3, x4, x5] 3).length c9)
          obtain ⟨s0, s1, _, _⟩ := hrr.1.cells
          have HT0 := Lib.hid ((bars_far HO9.out hrr.2 (.inl (by have := HLO9.out; have := HS3.out; omega))).at)
          have HT1 := Lib.hid (within_on (below_on HA.out HB9.out HA.out.size) hrr.2 (below_on HA.out HB9.out HA.out.size).size (.inl (by omega)))
          clear hrr
          go_wp2_with fail
          refine bodyPost_ret (v := .tuple #[.agg #[.int .i64 p, .slice A9 (joinL x2 (cutL l ix) [x3, x4, x5] 3).length c9], .bool true]) ?_ rfl ⟨A9, c9, by rw [HE1.out, HE2.out], by rw [HE1.out]; exact HT0.out, HT1.out, by rw [HE1.out]; exact HC9.out⟩
          simp [results, Try.results20, go_sem, s0, s1]
        · have hal := new_below wa (.cells #[.int .i64 0, .slice none 0 0] 30)
          have HBE := Lib.hid (below_on HBA.out hal HBA.out.size)
          have HXE := Lib.hid (cel2_new wa (.int .i64 0) (.slice none 0 0) 30)
          clear hal
          go_simp
          refine hK.out _ _ (KK.out _ HBE.out) (fun hHeld => ?_)
          clear hK K
          refine wpAnyH_ready (rs := [7]) (by kernel_rfl) (by simp) (AllReadyH.cons rfl (fun K hK => ?_) AllReadyH.nil)
          go_simp
          go_at_call 100
          refine (specRemoveO p (ix : Int) l (some aa) cap _ (HL3.out.on HBE.out) hn ⟨aa, rfl⟩ hcap).mono ?_
          rintro e wc ⟨A7, c7, rfl, ho, hb⟩
          rw [HREM.out.2, show l.take ix ++ l.drop (ix + 1) = cutL l ix from rfl] at ho ⊢
          rw [HREM.out.1]
          have HO7 := Lib.hid ho.bars
          have HLO7 := Lib.hid (show w3.heap.size ≤ _ from HBE.out.size)
          have HBC := Lib.hid (below_on HBE.out hb HBE.out.size)
          have HXC := Lib.hid (HXE.out.kept hb)
          clear hb ho
          refine hK.out _ _ (KK.out _ HBC.out) (fun hHeld => ?_)
          clear hK K
          refine wpAnyH_ready (rs := [8]) (by kernel_rfl) (by simp) (AllReadyH.cons rfl (fun K hK => ?_) AllReadyH.nil)
          go_simp
          refine hK.out _ _ (KK.out _ HBC.out) (fun hHeld => ?_)
          clear hK K
          refine wpAnyH_take (i := 9) (v := .agg #[.int .i64 p, .slice A7 (cutL l ix).length c7]) rfl (by kernel_rfl) (by kernel_rfl) (by kernel_rfl) (fun _ _ _ h => h) (Or.inl ⟨by kernel_rfl, fun w hSw => by (try dsimp only at hSw); go_simp; all_goals first | omega | exact IntWalk.i64_in _ (by omega)⟩) (by assumption) ?_
          refine wpAnyH_take (i := 10) (v := .bool true) rfl (by kernel_rfl) (by kernel_rfl) (by kernel_rfl) (fun _ _ _ h => h) (Or.inl ⟨by kernel_rfl, fun w hSw => by (try dsimp only at hSw); go_simp; all_goals first | omega | exact IntWalk.i64_in _ (by omega)⟩) (by assumption) ?_
          refine wpAnyH_ready (rs := [12]) (by kernel_rfl) (by simp) (AllReadyH.cons rfl (fun K hK => ?_) AllReadyH.nil)
          obtain ⟨q0, q1, q2, q3⟩ := HXC.out.cells
          have hst := ret2 HXC.out (.int .i64 p) (.slice A7 (cutL l ix).length c7)
          have HXS := Lib.hid hst.1
          have HSW := Lib.hid hst.2
          have hxb : w3.heap.size ≤ wa.heap.size := HBA.out.size
          have HXB := Lib.hid hxb
          have HBS := Lib.hid (within_on HBC.out hst.2 HBC.out.size (.inl hxb))
          have HOS := Lib.hid (bars_far HO7.out hst.2 (.inl (by have := HXE.out.lt; have := Nat.le_refl 0; omega)))
          clear hst hxb
          go_simp
          clear q0 q1 q2 q3
          refine hK.out _ _ (KK.out _ HBS.out) (fun hHeld => ?_)
          clear hK K
          refine wpAnyH_ready (rs := [13]) (by kernel_rfl) (by simp) (AllReadyH.cons rfl (fun K hK => ?_) AllReadyH.nil)
          go_simp
          refine hK.out _ _ (KK.out _ HBS.out) (fun hHeld => ?_)
          clear hK K
          refine wpAnyH_done (by kernel_rfl) ?_ _
          generalize ((wc.setCell ⟨wa.heap.size, 0, none⟩ (.int .i64 p)).setCell ⟨wa.heap.size, 1, none⟩ (.slice A7 (cutL l ix).length c7)) = w8 at *
          obtain ⟨xb, hxb⟩ : ∃ xb, wa.heap.size = xb := ⟨_, rfl⟩
          rw [hxb] at HXS HXB
          clear hHeld
          obtain ⟨b0, b1, b2, b3⟩ := HXS.out.cells
          obtain ⟨g0, g1, g2, g3, g4, g5, g6⟩ := KK.out _ HBS.out
          rw [hxb]
          go_wp2_with fail
          clear g0 g1 g2 g3 g4 g5 g6
          clear b0 b1 b2 b3
          refine (put_c p (brS x2 x3) (cutL l ix) A7 c7 w8 (HOS.out.at) (by have := HCL.out; omega)).mono ?_
          rintro e w10 ⟨A10, c10, rfl, ho, hb⟩
          have hob := ho.bars
          rw [show insU (brS x2 x3) (cutL l ix) = joinL x2 (cutL l ix) [x3, x4, x5] 1 from rfl] at hob ⊢
          obtain ⟨L1, hLn⟩ : ∃ L, joinL x2 (cutL l ix) [x3, x4, x5] 1 = L := ⟨_, rfl⟩
          rw [hLn] at hob ⊢
          have HEL1 := Lib.hid hLn
          have HNL1 := Lib.hid (show L1.length ≤ 1048576 by rw [← hLn, joinL_len]; have := HCL.out; omega)
          clear hLn ho
          have HO10 := Lib.hid hob
          have HB10 := Lib.hid (below_on HBS.out hb HBS.out.size)
          have HLO10 := Lib.hid (show xb < w8.heap.size from HXS.out.lt)
          have HX100 := Lib.hid (HXS.out.kept hb)
          have hst := ret2 HX100.out (.int .i64 p) (.slice A10 L1.length c10)
          have HX10 := Lib.hid hst.1
          have HBS10 := Lib.hid (within_on HB10.out hst.2 HB10.out.size (.inl HXB.out))
          have HOS10 := Lib.hid (bars_far HO10.out hst.2 (.inl HLO10.out))
          clear hst hob hb
          obtain ⟨b0, b1, b2, b3⟩ := HX100.out.cells
          obtain ⟨c0, c1, _, _⟩ := HX10.out.cells
          obtain ⟨g0, g1, g2, g3, g4, g5, g6⟩ := KK.out _ HBS10.out
          go_wp2_with fail
          clear g0 g1 g2 g3 g4 g5 g6
          clear b0 b1 b2 b3 c0 c1
          generalize ((w10.setCell ⟨xb, 0, none⟩ (.int .i64 p)).setCell ⟨xb, 1, none⟩ (.slice A10 L1.length c10)) = w11 at *
          refine (put_c p (brS x2 x4) (L1) A10 c10 w11 (HOS10.out.at) (HNL1.out)).mono ?_
          rintro e w12 ⟨A12, c12, rfl, ho, hb⟩
          have hob := ho.bars
          rw [show insU (brS x2 x4) (L1) = joinL x2 (cutL l ix) [x3, x4, x5] 2 from by rw [← HEL1.out]; rfl] at hob ⊢
          obtain ⟨L2, hLn⟩ : ∃ L, joinL x2 (cutL l ix) [x3, x4, x5] 2 = L := ⟨_, rfl⟩
          rw [hLn] at hob ⊢
          have HEL2 := Lib.hid hLn
          have HNL2 := Lib.hid (show L2.length ≤ 1048576 by rw [← hLn, joinL_len]; have := HCL.out; omega)
          clear hLn ho
          have HO12 := Lib.hid hob
          have HB12 := Lib.hid (below_on HBS10.out hb HBS10.out.size)
          have HLO12 := Lib.hid (show xb < w11.heap.size from HX10.out.lt)
          have HX120 := Lib.hid (HX10.out.kept hb)
          have hst := ret2 HX120.out (.int .i64 p) (.slice A12 L2.length c12)
          have HX12 := Lib.hid hst.1
          have HBS12 := Lib.hid (within_on HB12.out hst.2 HB12.out.size (.inl HXB.out))
          have HOS12 := Lib.hid (bars_far HO12.out hst.2 (.inl HLO12.out))
          clear hst hob hb
          obtain ⟨b0, b1, b2, b3⟩ := HX120.out.cells
          obtain ⟨c0, c1, _, _⟩ := HX12.out.cells
          obtain ⟨g0, g1, g2, g3, g4, g5, g6⟩ := KK.out _ HBS12.out
          go_wp2_with fail
          clear g0 g1 g2 g3 g4 g5 g6
          clear b0 b1 b2 b3 c0 c1
          generalize ((w12.setCell ⟨xb, 0, none⟩ (.int .i64 p)).setCell ⟨xb, 1, none⟩ (.slice A12 L2.length c12)) = w13 at *
          refine (put_c p (brS x2 x5) (L2) A12 c12 w13 (HOS12.out.at) (HNL2.out)).mono ?_
          rintro e w9 ⟨A9, c9, rfl, ho, hb⟩
          have HO9 := Lib.hid ho.bars
          have HB9 := Lib.hid (below_on HBS12.out hb HBS12.out.size)
          have HLO9 := Lib.hid (HBS12.out.size)
          have HC9 := Lib.hid (own_cap ho).1
          rw [show insU (brS x2 x5) L2 = joinL x2 (cutL l ix) [x3, x4, x5] 3 by rw [← HEL2.out]; rfl] at HO9 HC9 ⊢
          have BR9 := Lib.hid (BR3.out.kept HB9.out)
          clear ho hb
          obtain ⟨r0, r1, q0, q1⟩ := BR9.out.cells
          have hrr := ret2 BR9.out (.int .i64 p) (.slice A9 (joinL x2 (cutL l ix) [x3, x4, x5] 3).length c9)
          obtain ⟨s0, s1, _, _⟩ := hrr.1.cells
          have HT0 := Lib.hid ((bars_far HO9.out hrr.2 (.inl (by have := HLO9.out; have := HS3.out; omega))).at)
          have HT1 := Lib.hid (within_on (below_on HA.out HB9.out HA.out.size) hrr.2 (below_on HA.out HB9.out HA.out.size).size (.inl (by omega)))
          clear hrr
          go_wp2_with fail
          refine bodyPost_ret (v := .tuple #[.agg #[.int .i64 p, .slice A9 (joinL x2 (cutL l ix) [x3, x4, x5] 3).length c9], .bool true]) ?_ rfl ⟨A9, c9, by rw [HE1.out, HE2.out], by rw [HE1.out]; exact HT0.out, HT1.out, by rw [HE1.out]; exact HC9.out⟩
          simp [results, Try.results20, go_sem, s0, s1]
      · have hal := new_below WD (.cells #[.int .i64 0, .slice none 0 0] 30)
        have HBE := Lib.hid (below_on HBD.out hal HBD.out.size)
        have HXE := Lib.hid (cel2_new WD (.int .i64 0) (.slice none 0 0) 30)
        clear hal
        go_simp
        refine hK.out _ _ (KK.out _ HBE.out) (fun hHeld => ?_)
        clear hK K
        refine wpAnyH_ready (rs := [6]) (by kernel_rfl) (by simp) (AllReadyH.cons rfl (fun K hK => ?_) AllReadyH.nil)
        go_simp
        go_at_call 99
        refine (at_yes p x3 x4 l (some aa) cap _ (HL3.out.on HBE.out) HGG.out HCN.out).mono ?_
        rintro e wa ⟨rfl, _, hb⟩
        rw [HIE.out]
        have HBA := Lib.hid (below_on HBE.out hb HBE.out.size)
        have HXA := Lib.hid (HXE.out.kept hb)
        have HSAA := Lib.hid hb.size
        clear hb
        refine hK.out _ _ (KK.out _ HBA.out) (fun hHeld => ?_)
        clear hK K
        refine wpAnyH_ready (rs := [7]) (by kernel_rfl) (by simp) (AllReadyH.cons rfl (fun K hK => ?_) AllReadyH.nil)
        go_simp
        go_at_call 100
        refine (specRemoveO p (ix : Int) l (some aa) cap _ (HL3.out.on HBA.out) hn ⟨aa, rfl⟩ hcap).mono ?_
        rintro e wc ⟨A7, c7, rfl, ho, hb⟩
        rw [HREM.out.2, show l.take ix ++ l.drop (ix + 1) = cutL l ix from rfl] at ho ⊢
        rw [HREM.out.1]
        have HO7 := Lib.hid ho.bars
        have HLO7 := Lib.hid (show w3.heap.size ≤ _ from HBA.out.size)
        have HBC := Lib.hid (below_on HBA.out hb HBA.out.size)
        have HXC := Lib.hid (HXA.out.kept hb)
        clear hb ho
        refine hK.out _ _ (KK.out _ HBC.out) (fun hHeld => ?_)
        clear hK K
        refine wpAnyH_ready (rs := [8]) (by kernel_rfl) (by simp) (AllReadyH.cons rfl (fun K hK => ?_) AllReadyH.nil)
        go_simp
        refine hK.out _ _ (KK.out _ HBC.out) (fun hHeld => ?_)
        clear hK K
        refine wpAnyH_take (i := 9) (v := .agg #[.int .i64 p, .slice A7 (cutL l ix).length c7]) rfl (by kernel_rfl) (by kernel_rfl) (by kernel_rfl) (fun _ _ _ h => h) (Or.inl ⟨by kernel_rfl, fun w hSw => by (try dsimp only at hSw); go_simp; all_goals first | omega | exact IntWalk.i64_in _ (by omega)⟩) (by assumption) ?_
        refine wpAnyH_take (i := 10) (v := .bool true) rfl (by kernel_rfl) (by kernel_rfl) (by kernel_rfl) (fun _ _ _ h => h) (Or.inl ⟨by kernel_rfl, fun w hSw => by (try dsimp only at hSw); go_simp; all_goals first | omega | exact IntWalk.i64_in _ (by omega)⟩) (by assumption) ?_
        refine wpAnyH_ready (rs := [12]) (by kernel_rfl) (by simp) (AllReadyH.cons rfl (fun K hK => ?_) AllReadyH.nil)
        obtain ⟨q0, q1, q2, q3⟩ := HXC.out.cells
        have hst := ret2 HXC.out (.int .i64 p) (.slice A7 (cutL l ix).length c7)
        have HXS := Lib.hid hst.1
        have HSW := Lib.hid hst.2
        have hxb : w3.heap.size ≤ WD.heap.size := HBD.out.size
        have HXB := Lib.hid hxb
        have HBS := Lib.hid (within_on HBC.out hst.2 HBC.out.size (.inl hxb))
        have HOS := Lib.hid (bars_far HO7.out hst.2 (.inl (by have := HXE.out.lt; have := HSAA.out; omega)))
        clear hst hxb
        go_simp
        clear q0 q1 q2 q3
        refine hK.out _ _ (KK.out _ HBS.out) (fun hHeld => ?_)
        clear hK K
        refine wpAnyH_ready (rs := [13]) (by kernel_rfl) (by simp) (AllReadyH.cons rfl (fun K hK => ?_) AllReadyH.nil)
        go_simp
        refine hK.out _ _ (KK.out _ HBS.out) (fun hHeld => ?_)
        clear hK K
        refine wpAnyH_done (by kernel_rfl) ?_ _
        generalize ((wc.setCell ⟨WD.heap.size, 0, none⟩ (.int .i64 p)).setCell ⟨WD.heap.size, 1, none⟩ (.slice A7 (cutL l ix).length c7)) = w8 at *
        obtain ⟨xb, hxb⟩ : ∃ xb, WD.heap.size = xb := ⟨_, rfl⟩
        rw [hxb] at HXS HXB
        clear hHeld
        obtain ⟨b0, b1, b2, b3⟩ := HXS.out.cells
        obtain ⟨g0, g1, g2, g3, g4, g5, g6⟩ := KK.out _ HBS.out
        rw [hxb]
        go_wp2_with fail
        clear g0 g1 g2 g3 g4 g5 g6
        clear b0 b1 b2 b3
        refine (put_c p (brS x2 x3) (cutL l ix) A7 c7 w8 (HOS.out.at) (by have := HCL.out; omega)).mono ?_
        rintro e w10 ⟨A10, c10, rfl, ho, hb⟩
        have hob := ho.bars
        rw [show insU (brS x2 x3) (cutL l ix) = joinL x2 (cutL l ix) [x3, x4, x5] 1 from rfl] at hob ⊢
        obtain ⟨L1, hLn⟩ : ∃ L, joinL x2 (cutL l ix) [x3, x4, x5] 1 = L := ⟨_, rfl⟩
        rw [hLn] at hob ⊢
        have HEL1 := Lib.hid hLn
        have HNL1 := Lib.hid (show L1.length ≤ 1048576 by rw [← hLn, joinL_len]; have := HCL.out; omega)
        clear hLn ho
        have HO10 := Lib.hid hob
        have HB10 := Lib.hid (below_on HBS.out hb HBS.out.size)
        have HLO10 := Lib.hid (show xb < w8.heap.size from HXS.out.lt)
        have HX100 := Lib.hid (HXS.out.kept hb)
        have hst := ret2 HX100.out (.int .i64 p) (.slice A10 L1.length c10)
        have HX10 := Lib.hid hst.1
        have HBS10 := Lib.hid (within_on HB10.out hst.2 HB10.out.size (.inl HXB.out))
        have HOS10 := Lib.hid (bars_far HO10.out hst.2 (.inl HLO10.out))
        clear hst hob hb
        obtain ⟨b0, b1, b2, b3⟩ := HX100.out.cells
        obtain ⟨c0, c1, _, _⟩ := HX10.out.cells
        obtain ⟨g0, g1, g2, g3, g4, g5, g6⟩ := KK.out _ HBS10.out
        go_wp2_with fail
        clear g0 g1 g2 g3 g4 g5 g6
        clear b0 b1 b2 b3 c0 c1
        generalize ((w10.setCell ⟨xb, 0, none⟩ (.int .i64 p)).setCell ⟨xb, 1, none⟩ (.slice A10 L1.length c10)) = w11 at *
        refine (put_c p (brS x2 x4) (L1) A10 c10 w11 (HOS10.out.at) (HNL1.out)).mono ?_
        rintro e w12 ⟨A12, c12, rfl, ho, hb⟩
        have hob := ho.bars
        rw [show insU (brS x2 x4) (L1) = joinL x2 (cutL l ix) [x3, x4, x5] 2 from by rw [← HEL1.out]; rfl] at hob ⊢
        obtain ⟨L2, hLn⟩ : ∃ L, joinL x2 (cutL l ix) [x3, x4, x5] 2 = L := ⟨_, rfl⟩
        rw [hLn] at hob ⊢
        have HEL2 := Lib.hid hLn
        have HNL2 := Lib.hid (show L2.length ≤ 1048576 by rw [← hLn, joinL_len]; have := HCL.out; omega)
        clear hLn ho
        have HO12 := Lib.hid hob
        have HB12 := Lib.hid (below_on HBS10.out hb HBS10.out.size)
        have HLO12 := Lib.hid (show xb < w11.heap.size from HX10.out.lt)
        have HX120 := Lib.hid (HX10.out.kept hb)
        have hst := ret2 HX120.out (.int .i64 p) (.slice A12 L2.length c12)
        have HX12 := Lib.hid hst.1
        have HBS12 := Lib.hid (within_on HB12.out hst.2 HB12.out.size (.inl HXB.out))
        have HOS12 := Lib.hid (bars_far HO12.out hst.2 (.inl HLO12.out))
        clear hst hob hb
        obtain ⟨b0, b1, b2, b3⟩ := HX120.out.cells
        obtain ⟨c0, c1, _, _⟩ := HX12.out.cells
        obtain ⟨g0, g1, g2, g3, g4, g5, g6⟩ := KK.out _ HBS12.out
        go_wp2_with fail
        clear g0 g1 g2 g3 g4 g5 g6
        clear b0 b1 b2 b3 c0 c1
        generalize ((w12.setCell ⟨xb, 0, none⟩ (.int .i64 p)).setCell ⟨xb, 1, none⟩ (.slice A12 L2.length c12)) = w13 at *
        refine (put_c p (brS x2 x5) (L2) A12 c12 w13 (HOS12.out.at) (HNL2.out)).mono ?_
        rintro e w9 ⟨A9, c9, rfl, ho, hb⟩
        have HO9 := Lib.hid ho.bars
        have HB9 := Lib.hid (below_on HBS12.out hb HBS12.out.size)
        have HLO9 := Lib.hid (HBS12.out.size)
        have HC9 := Lib.hid (own_cap ho).1
        rw [show insU (brS x2 x5) L2 = joinL x2 (cutL l ix) [x3, x4, x5] 3 by rw [← HEL2.out]; rfl] at HO9 HC9 ⊢
        have BR9 := Lib.hid (BR3.out.kept HB9.out)
        clear ho hb
        obtain ⟨r0, r1, q0, q1⟩ := BR9.out.cells
        have hrr := ret2 BR9.out (.int .i64 p) (.slice A9 (joinL x2 (cutL l ix) [x3, x4, x5] 3).length c9)
        obtain ⟨s0, s1, _, _⟩ := hrr.1.cells
        have HT0 := Lib.hid ((bars_far HO9.out hrr.2 (.inl (by have := HLO9.out; have := HS3.out; omega))).at)
        have HT1 := Lib.hid (within_on (below_on HA.out HB9.out HA.out.size) hrr.2 (below_on HA.out HB9.out HA.out.size).size (.inl (by omega)))
        clear hrr
        go_wp2_with fail
        refine bodyPost_ret (v := .tuple #[.agg #[.int .i64 p, .slice A9 (joinL x2 (cutL l ix) [x3, x4, x5] 3).length c9], .bool true]) ?_ rfl ⟨A9, c9, by rw [HE1.out, HE2.out], by rw [HE1.out]; exact HT0.out, HT1.out, by rw [HE1.out]; exact HC9.out⟩
        simp [results, Try.results20, go_sem, s0, s1]
    have d0 : (x1 == 0) = false := by simpa using k0
    have d1 : (x1 == 1) = false := by simpa using k1
    have d2 : (x1 == 2) = false := by simpa using k2
    have HE2 := Lib.hid (show stepR p l (x1, x2, x3, x4, x5) = false by simp [stepR, fitB, k0, k1, k2])
    have HE1 := Lib.hid (step_no HE2.out)
    clear k0 k1 k2
    obtain ⟨g0, g1, g2, g3, g4, g5, g6⟩ := KK.out _ HB4.out
    go_wp2_with fail
    clear g0 g1 g2 g3 g4 g5 g6
    refine (copy_c p l aa cap w4 (HL3.out.on HB4.out) hn).mono ?_
    rintro e w9 ⟨A9, c9, rfl, ho9, hb9⟩
    have HO9 := Lib.hid ho9.bars
    have HC9 := Lib.hid (own_cap ho9).1
    have HB9 := Lib.hid (below_on HB4.out hb9 HB4.out.size)
    have BR9 := Lib.hid (BR3.out.kept HB9.out)
    have HLO := Lib.hid (HB4.out.size)
    clear ho9 hb9
    obtain ⟨r0, r1, q0, q1⟩ := BR9.out.cells
    have hrr := ret2 BR9.out (.int .i64 p) (.slice A9 (l).length c9)
    obtain ⟨s0, s1, _, _⟩ := hrr.1.cells
    have HT0 := Lib.hid ((bars_far HO9.out hrr.2 (.inl (by have := HLO.out; have := HS3.out; omega))).at)
    have HT1 := Lib.hid (within_on (below_on HA.out HB9.out HA.out.size) hrr.2 (below_on HA.out HB9.out HA.out.size).size (.inl (by omega)))
    clear hrr
    go_wp2_with fail
    refine bodyPost_ret (v := .tuple #[.agg #[.int .i64 p, .slice A9 (l).length c9], .bool false]) ?_ rfl ⟨A9, c9, by rw [HE1.out, HE2.out], by rw [HE1.out]; exact HT0.out, HT1.out, by rw [HE1.out]; exact HC9.out⟩
    simp [results, Try.results20, go_sem, s0, s1]
theorem specApply (s : Stp) (p : Int) (l : List (Int × Int)) (aa : Addr) (cap : Nat) (w : World) (hl : BarsAt w w.heap.size (some aa) l) (hn : l.length ≤ 1048576) (hcap : l.length ≤ cap) :
    Calls Try.prog 20 #[.agg #[.int .i64 p, .slice (some aa) l.length cap], .agg #[.int .i64 s.1, .int .i64 s.2.1, .int .i64 s.2.2.1, .int .i64 s.2.2.2.1, .int .i64 s.2.2.2.2]] w (GraphRB w p (stepL p l s) (stepR p l s)) :=
  (specApplyC s p l aa cap w hl hn hcap).mono fun _ _ h => h.rb
end Go.Proofs.Ytggibhhdnlifcaa
