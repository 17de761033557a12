/- Whether a step fits a graph: what impl.Step.fits answers. No condition. -/
import Derived.Test.YtggibhhdnlifcaaDif
import Derived.Test.YtggibhhdnlifcaaCount
namespace Go.Proofs.Ytggibhhdnlifcaa
open Go.RowKit

/-- A step lies in the block b. -/
def PBox (W : World) (b : Nat) (x : Stp) : Prop := b < W.heap.size ∧ W.cell? ⟨b, 0, none⟩ = some (.int .i64 x.1) ∧ W.cell? ⟨b, 1, none⟩ = some (.int .i64 x.2.1) ∧ W.cell? ⟨b, 2, none⟩ = some (.int .i64 x.2.2.1) ∧ W.cell? ⟨b, 3, none⟩ = some (.int .i64 x.2.2.2.1) ∧ W.cell? ⟨b, 4, none⟩ = some (.int .i64 x.2.2.2.2)
theorem PBox.kept {W W' : World} {b : Nat} {x : Stp} (h : PBox W b x) (hb : Below W.heap.size W W') : PBox W' b x :=
  ⟨Nat.lt_of_lt_of_le h.1 hb.size, (hb.cell (p := ⟨b, 0, none⟩) h.1).trans h.2.1, (hb.cell (p := ⟨b, 1, none⟩) h.1).trans h.2.2.1, (hb.cell (p := ⟨b, 2, none⟩) h.1).trans h.2.2.2.1, (hb.cell (p := ⟨b, 3, none⟩) h.1).trans h.2.2.2.2.1, (hb.cell (p := ⟨b, 4, none⟩) h.1).trans h.2.2.2.2.2⟩
theorem pbox_new (w : World) (x : Stp) (t : TypeId) : PBox (w.alloc (.cells #[.int .i64 x.1, .int .i64 x.2.1, .int .i64 x.2.2.1, .int .i64 x.2.2.2.1, .int .i64 x.2.2.2.2] t)) w.heap.size x :=
  ⟨by simp, by rw [World.cell?_alloc_at _ _ _ _ rfl]; rfl, by rw [World.cell?_alloc_at _ _ _ _ rfl]; rfl, by rw [World.cell?_alloc_at _ _ _ _ rfl]; rfl, by rw [World.cell?_alloc_at _ _ _ _ rfl]; rfl, by rw [World.cell?_alloc_at _ _ _ _ rfl]; rfl⟩
/-- Ints that were just laid. -/
theorem ints_new (w : World) (zs : List Int) (t : TypeId) : IntsIn (w.alloc (.cells (intCells zs).toArray t)) w.heap.size (w.heap.size + 1) (some ⟨w.heap.size, 0, none⟩) zs :=
  ⟨by simp, fun _ => ⟨w.heap.size, 0, rfl, Nat.le_refl _, Nat.lt_succ_self _, fun k hk => by
    rw [Nat.zero_add, World.cell?_alloc_at _ _ _ _ rfl]
    have := intCells_get zs k hk
    simpa using this⟩⟩

set_option maxHeartbeats 8000000 in
set_option maxRecDepth 100000 in
theorem fits_c (x : Stp) (p : Int) (l : List (Int × Int)) (A : Option Addr) (cap : Nat) (w : World) (hl : BarsAt w w.heap.size A l) (hn : l.length ≤ 1048576) :
    Calls Try.prog 101 #[.agg #[.int .i64 x.1, .int .i64 x.2.1, .int .i64 x.2.2.1, .int .i64 x.2.2.2.1, .int .i64 x.2.2.2.2], .agg #[.int .i64 p, .slice A l.length cap]] w fun e w' => e = .returned (.bool (fitB p l x)) ∧ Below w.heap.size w w' := by
  obtain ⟨x1, x2, x3, x4, x5⟩ := x
  dsimp only
  have hA1 := new_below w (.cells #[.int .i64 x1, .int .i64 x2, .int .i64 x3, .int .i64 x4, .int .i64 x5] 41)
  have hA2 := new_below (w.alloc (.cells #[.int .i64 x1, .int .i64 x2, .int .i64 x3, .int .i64 x4, .int .i64 x5] 41)) (.cells #[.int .i64 p, .slice A l.length cap] 30)
  have HA := Lib.hid (below_on hA1 hA2 hA1.size)
  have HS1 := Lib.hid (show (w.alloc (.cells #[.int .i64 x1, .int .i64 x2, .int .i64 x3, .int .i64 x4, .int .i64 x5] 41)).heap.size = w.heap.size + 1 by simp)
  have HS2 := Lib.hid (show ((w.alloc (.cells #[.int .i64 x1, .int .i64 x2, .int .i64 x3, .int .i64 x4, .int .i64 x5] 41)).alloc (.cells #[.int .i64 p, .slice A l.length cap] 30)).heap.size = w.heap.size + 1 + 1 by simp)
  have SB2 := Lib.hid ((show PBox (w.alloc (.cells #[.int .i64 x1, .int .i64 x2, .int .i64 x3, .int .i64 x4, .int .i64 x5] 41)) w.heap.size (x1, x2, x3, x4, x5) from pbox_new w (x1, x2, x3, x4, x5) 41).kept hA2)
  have hbx := box_new (w.alloc (.cells #[.int .i64 x1, .int .i64 x2, .int .i64 x3, .int .i64 x4, .int .i64 x5] 41)) p (.slice A l.length cap) 30
  rw [HS1.out] at hbx
  have BX2 := Lib.hid hbx
  have HL2 := Lib.hid ((hl.on hA1).on hA2)
  clear hl hA1 hA2 hbx
  by_cases k0 : x1 = 0
  · have d0 : (x1 == 0) = true := by simpa using k0
    have HK0 := Lib.hid k0
    clear k0
    by_cases h1 : l = []
    rotate_left
    · have HE := Lib.hid (show fitB p l (x1, x2, x3, x4, x5) = false by simp [fitB, HK0.out, h1])
      have eh1 : ((l.length : Int) == 0) = false := by simpa using h1
      clear h1
      go_enter Try.func101, Try.ntmps101
      obtain ⟨g0, g1, g2, g3, g4, g5⟩ := SB2.out
      obtain ⟨g6, g7, g8⟩ := BX2.out
      go_wp2_with fail
      go_ret
      exact ⟨by rw [HE.out]; rfl, HA.out⟩
    have eh1 : ((l.length : Int) == 0) = true := by simpa using h1
    have Hh1 := Lib.hid h1
    clear h1
    by_cases h2 : x2 = 0
    rotate_left
    · have HE := Lib.hid (show fitB p l (x1, x2, x3, x4, x5) = false by simp [fitB, HK0.out, Hh1.out, h2])
      have eh2 : (x2 == 0) = false := by simpa using h2
      clear h2
      go_enter Try.func101, Try.ntmps101
      obtain ⟨g0, g1, g2, g3, g4, g5⟩ := SB2.out
      obtain ⟨g6, g7, g8⟩ := BX2.out
      go_wp2_with fail
      go_ret
      exact ⟨by rw [HE.out]; rfl, HA.out⟩
    have eh2 : (x2 == 0) = true := by simpa using h2
    have Hh2 := Lib.hid h2
    clear h2
    by_cases h3 : x5 = 0
    rotate_left
    · have HE := Lib.hid (show fitB p l (x1, x2, x3, x4, x5) = false by simp [fitB, HK0.out, Hh1.out, Hh2.out, h3])
      have eh3 : (x5 == 0) = false := by simpa using h3
      clear h3
      go_enter Try.func101, Try.ntmps101
      obtain ⟨g0, g1, g2, g3, g4, g5⟩ := SB2.out
      obtain ⟨g6, g7, g8⟩ := BX2.out
      go_wp2_with fail
      go_ret
      exact ⟨by rw [HE.out]; rfl, HA.out⟩
    have eh3 : (x5 == 0) = true := by simpa using h3
    have Hh3 := Lib.hid h3
    clear h3
    go_enter Try.func101, Try.ntmps101
    obtain ⟨g0, g1, g2, g3, g4, g5⟩ := SB2.out
    obtain ⟨g6, g7, g8⟩ := BX2.out
    go_wp2_with fail
    generalize ((w.alloc (.cells #[.int .i64 x1, .int .i64 x2, .int .i64 x3, .int .i64 x4, .int .i64 x5] 41)).alloc (.cells #[.int .i64 p, .slice A l.length cap] 30)) = w2 at *
    have hal := new_below w2 (.cells #[.int .i64 x3, .int .i64 x4] 3)
    have HBZ := Lib.hid hal
    have hz := (show IntsIn (w2.alloc (.cells #[.int .i64 x3, .int .i64 x4] 3)) w2.heap.size (w2.heap.size + 1) (some ⟨w2.heap.size, 0, none⟩) [x3, x4] from ints_new w2 [x3, x4] 3)
    rw [HS2.out] at hz
    have HZ := Lib.hid hz
    clear hal hz
    refine (hasDif_c p A l.length cap [x3, x4] (w.heap.size + 1 + 1) _ _ _ HZ.out (by simp)).mono ?_
    rintro e w3 ⟨rfl, hb⟩
    have HB3 := Lib.hid (below_on HBZ.out hb HBZ.out.size)
    clear hb g0 g1 g2 g3 g4 g5 g6 g7 g8
    rw [show difB p [x3, x4] ([x3, x4]).length = difB p [x3, x4] 2 from rfl]
    cases q0 : difB p [x3, x4] 2
    · have HE := Lib.hid (show fitB p l (x1, x2, x3, x4, x5) = false by simp [fitB, HK0.out, Hh1.out, Hh2.out, Hh3.out, q0])
      clear q0
      go_wp2_with fail
      go_ret
      exact ⟨by rw [HE.out]; rfl, below_on HA.out HB3.out HA.out.size⟩
    have Hq0 := Lib.hid q0
    clear q0
    have HE := Lib.hid (show fitB p l (x1, x2, x3, x4, x5) = true by simp [fitB, HK0.out, Hh1.out, Hh2.out, Hh3.out, Hq0.out])
    go_wp2_with fail
    go_ret
    exact ⟨by rw [HE.out]; rfl, below_on HA.out HB3.out HA.out.size⟩
  by_cases k1 : x1 = 1
  · have d0 : (x1 == 0) = false := by simpa using k0
    have d1 : (x1 == 1) = true := by simpa using k1
    have HK0 := Lib.hid k0
    have HK1 := Lib.hid k1
    clear k0 k1
    by_cases h3 : x5 = 0
    rotate_left
    · have HE := Lib.hid (show fitB p l (x1, x2, x3, x4, x5) = false by simp [fitB, HK0.out, HK1.out, h3])
      have eh3 : (x5 == 0) = false := by simpa using h3
      clear h3
      go_enter Try.func101, Try.ntmps101
      obtain ⟨g0, g1, g2, g3, g4, g5⟩ := SB2.out
      obtain ⟨g6, g7, g8⟩ := BX2.out
      go_wp2_with fail
      go_ret
      exact ⟨by rw [HE.out]; rfl, HA.out⟩
    have eh3 : (x5 == 0) = true := by simpa using h3
    have Hh3 := Lib.hid h3
    clear h3
    go_enter Try.func101, Try.ntmps101
    obtain ⟨g0, g1, g2, g3, g4, g5⟩ := SB2.out
    obtain ⟨g6, g7, g8⟩ := BX2.out
    go_wp2_with fail
    generalize ((w.alloc (.cells #[.int .i64 x1, .int .i64 x2, .int .i64 x3, .int .i64 x4, .int .i64 x5] 41)).alloc (.cells #[.int .i64 p, .slice A l.length cap] 30)) = w2 at *
    have hal := new_below w2 (.cells #[.int .i64 x2, .int .i64 x3, .int .i64 x4] 3)
    have HBZ := Lib.hid hal
    have hz := (show IntsIn (w2.alloc (.cells #[.int .i64 x2, .int .i64 x3, .int .i64 x4] 3)) w2.heap.size (w2.heap.size + 1) (some ⟨w2.heap.size, 0, none⟩) [x2, x3, x4] from ints_new w2 [x2, x3, x4] 3)
    rw [HS2.out] at hz
    have HZ := Lib.hid hz
    clear hal hz
    refine (hasDif_c p A l.length cap [x2, x3, x4] (w.heap.size + 1 + 1) _ _ _ HZ.out (by simp)).mono ?_
    rintro e w3 ⟨rfl, hb⟩
    have HB3 := Lib.hid (below_on HBZ.out hb HBZ.out.size)
    clear hb g0 g1 g2 g3 g4 g5 g6 g7 g8
    rw [show difB p [x2, x3, x4] ([x2, x3, x4]).length = difB p [x2, x3, x4] 3 from rfl]
    cases q0 : difB p [x2, x3, x4] 3
    · have HE := Lib.hid (show fitB p l (x1, x2, x3, x4, x5) = false by simp [fitB, HK0.out, HK1.out, Hh3.out, q0])
      clear q0
      go_wp2_with fail
      go_ret
      exact ⟨by rw [HE.out]; rfl, below_on HA.out HB3.out HA.out.size⟩
    have Hq0 := Lib.hid q0
    clear q0
    obtain ⟨g0, g1, g2, g3, g4, g5⟩ := SB2.out.kept HB3.out
    obtain ⟨g6, g7, g8⟩ := BX2.out.kept HB3.out
    go_wp2_with fail
    refine (implDegree p x2 l A cap w3 (HL2.out.on HB3.out) hn).mono ?_
    rintro e w4 ⟨rfl, hb⟩
    have HB4 := Lib.hid (below_on HB3.out hb HB3.out.size)
    clear hb g0 g1 g2 g3 g4 g5 g6 g7 g8
    obtain ⟨m1, hm1⟩ : ∃ m, l.countP (endB x2) = m := ⟨_, rfl⟩
    rw [hm1]
    by_cases q1 : m1 = 0
    rotate_left
    · have HE := Lib.hid (show fitB p l (x1, x2, x3, x4, x5) = false by simp [fitB, HK0.out, HK1.out, Hh3.out, Hq0.out, hm1, q1])
      have eq0 : (((m1 : Nat) : Int) == 0) = false := by simpa using q1
      clear q1 hm1
      go_wp2_with fail
      go_ret
      exact ⟨by rw [HE.out]; rfl, below_on HA.out HB4.out HA.out.size⟩
    have HM1 := Lib.hid hm1
    have Hq1 := Lib.hid q1
    clear hm1
    have eq1 : (((m1 : Nat) : Int) == 0) = true := by simpa using q1
    clear q1
    obtain ⟨g0, g1, g2, g3, g4, g5⟩ := SB2.out.kept HB4.out
    obtain ⟨g6, g7, g8⟩ := BX2.out.kept HB4.out
    go_wp2_with fail
    refine (implDegree p x3 l A cap w4 (HL2.out.on HB4.out) hn).mono ?_
    rintro e w5 ⟨rfl, hb⟩
    have HB5 := Lib.hid (below_on HB4.out hb HB4.out.size)
    clear hb g0 g1 g2 g3 g4 g5 g6 g7 g8
    obtain ⟨m2, hm2⟩ : ∃ m, l.countP (endB x3) = m := ⟨_, rfl⟩
    rw [hm2]
    by_cases q2 : m2 = 0
    · have HE := Lib.hid (show fitB p l (x1, x2, x3, x4, x5) = false by simp [fitB, HK0.out, HK1.out, Hh3.out, Hq0.out, HM1.out, Hq1.out, hm2, q2])
      subst q2
      clear hm2
      go_wp2_with fail
      go_ret
      exact ⟨by rw [HE.out]; rfl, below_on HA.out HB5.out HA.out.size⟩
    have HM2 := Lib.hid hm2
    have Hq2 := Lib.hid q2
    clear hm2
    have hp2 : 0 < m2 := Nat.pos_of_ne_zero q2
    clear q2
    obtain ⟨g0, g1, g2, g3, g4, g5⟩ := SB2.out.kept HB5.out
    obtain ⟨g6, g7, g8⟩ := BX2.out.kept HB5.out
    go_wp2_with fail
    refine (implDegree p x4 l A cap w5 (HL2.out.on HB5.out) hn).mono ?_
    rintro e w6 ⟨rfl, hb⟩
    have HB6 := Lib.hid (below_on HB5.out hb HB5.out.size)
    clear hb g0 g1 g2 g3 g4 g5 g6 g7 g8
    obtain ⟨m3, hm3⟩ : ∃ m, l.countP (endB x4) = m := ⟨_, rfl⟩
    rw [hm3]
    by_cases q3 : m3 = 0
    · have HE := Lib.hid (show fitB p l (x1, x2, x3, x4, x5) = false by simp [fitB, HK0.out, HK1.out, Hh3.out, Hq0.out, HM1.out, Hq1.out, HM2.out, Hq2.out, hm3, q3])
      subst q3
      clear hm3
      go_wp2_with fail
      go_ret
      exact ⟨by rw [HE.out]; rfl, below_on HA.out HB6.out HA.out.size⟩
    have HM3 := Lib.hid hm3
    have Hq3 := Lib.hid q3
    have HE := Lib.hid (show fitB p l (x1, x2, x3, x4, x5) = true by simp [fitB, HK0.out, HK1.out, Hh3.out, Hq0.out, HM1.out, Hq1.out, HM2.out, Hq2.out, HM3.out, Hq3.out] <;> omega)
    clear hm3
    have hp3 : 0 < m3 := Nat.pos_of_ne_zero q3
    clear q3
    go_wp2_with fail
    go_ret
    exact ⟨by rw [HE.out]; rfl, below_on HA.out HB6.out HA.out.size⟩
  by_cases k2 : x1 = 2
  · have d0 : (x1 == 0) = false := by simpa using k0
    have d1 : (x1 == 1) = false := by simpa using k1
    have d2 : (x1 == 2) = true := by simpa using k2
    have HK0 := Lib.hid k0
    have HK1 := Lib.hid k1
    have HK2 := Lib.hid k2
    clear k0 k1 k2
    go_enter Try.func101, Try.ntmps101
    obtain ⟨g0, g1, g2, g3, g4, g5⟩ := SB2.out
    obtain ⟨g6, g7, g8⟩ := BX2.out
    go_wp2_with fail
    generalize ((w.alloc (.cells #[.int .i64 x1, .int .i64 x2, .int .i64 x3, .int .i64 x4, .int .i64 x5] 41)).alloc (.cells #[.int .i64 p, .slice A l.length cap] 30)) = w2 at *
    have hal := new_below w2 (.cells #[.int .i64 x2, .int .i64 x3, .int .i64 x4, .int .i64 x5] 3)
    have HBZ := Lib.hid hal
    have hz := (show IntsIn (w2.alloc (.cells #[.int .i64 x2, .int .i64 x3, .int .i64 x4, .int .i64 x5] 3)) w2.heap.size (w2.heap.size + 1) (some ⟨w2.heap.size, 0, none⟩) [x2, x3, x4, x5] from ints_new w2 [x2, x3, x4, x5] 3)
    rw [HS2.out] at hz
    have HZ := Lib.hid hz
    clear hal hz
    refine (hasDif_c p A l.length cap [x2, x3, x4, x5] (w.heap.size + 1 + 1) _ _ _ HZ.out (by simp)).mono ?_
    rintro e w3 ⟨rfl, hb⟩
    have HB3 := Lib.hid (below_on HBZ.out hb HBZ.out.size)
    clear hb g0 g1 g2 g3 g4 g5 g6 g7 g8
    rw [show difB p [x2, x3, x4, x5] ([x2, x3, x4, x5]).length = difB p [x2, x3, x4, x5] 4 from rfl]
    cases q0 : difB p [x2, x3, x4, x5] 4
    · have HE := Lib.hid (show fitB p l (x1, x2, x3, x4, x5) = false by simp [fitB, HK0.out, HK1.out, HK2.out, q0])
      clear q0
      go_wp2_with fail
      go_ret
      exact ⟨by rw [HE.out]; rfl, below_on HA.out HB3.out HA.out.size⟩
    have Hq0 := Lib.hid q0
    clear q0
    obtain ⟨g0, g1, g2, g3, g4, g5⟩ := SB2.out.kept HB3.out
    obtain ⟨g6, g7, g8⟩ := BX2.out.kept HB3.out
    go_wp2_with fail
    refine (implDegree p x2 l A cap w3 (HL2.out.on HB3.out) hn).mono ?_
    rintro e w4 ⟨rfl, hb⟩
    have HB4 := Lib.hid (below_on HB3.out hb HB3.out.size)
    clear hb g0 g1 g2 g3 g4 g5 g6 g7 g8
    obtain ⟨m1, hm1⟩ : ∃ m, l.countP (endB x2) = m := ⟨_, rfl⟩
    rw [hm1]
    by_cases q1 : m1 = 0
    rotate_left
    · have HE := Lib.hid (show fitB p l (x1, x2, x3, x4, x5) = false by simp [fitB, HK0.out, HK1.out, HK2.out, Hq0.out, hm1, q1])
      have eq0 : (((m1 : Nat) : Int) == 0) = false := by simpa using q1
      clear q1 hm1
      go_wp2_with fail
      go_ret
      exact ⟨by rw [HE.out]; rfl, below_on HA.out HB4.out HA.out.size⟩
    have HM1 := Lib.hid hm1
    have Hq1 := Lib.hid q1
    clear hm1
    have eq1 : (((m1 : Nat) : Int) == 0) = true := by simpa using q1
    clear q1
    obtain ⟨g0, g1, g2, g3, g4, g5⟩ := SB2.out.kept HB4.out
    obtain ⟨g6, g7, g8⟩ := BX2.out.kept HB4.out
    go_wp2_with fail
    refine (implCount p x3 x4 l A cap w4 (HL2.out.on HB4.out) hn).mono ?_
    rintro e w5 ⟨rfl, hb⟩
    have HB5 := Lib.hid (below_on HB4.out hb HB4.out.size)
    clear hb g0 g1 g2 g3 g4 g5 g6 g7 g8
    obtain ⟨m2, hm2⟩ : ∃ m, l.countP (hitB x3 x4) = m := ⟨_, rfl⟩
    rw [hm2]
    by_cases q2 : m2 = 0
    · have HE := Lib.hid (show fitB p l (x1, x2, x3, x4, x5) = false by simp [fitB, HK0.out, HK1.out, HK2.out, Hq0.out, HM1.out, Hq1.out, hm2, q2])
      subst q2
      clear hm2
      go_wp2_with fail
      go_ret
      exact ⟨by rw [HE.out]; rfl, below_on HA.out HB5.out HA.out.size⟩
    have HM2 := Lib.hid hm2
    have Hq2 := Lib.hid q2
    clear hm2
    have hp2 : 0 < m2 := Nat.pos_of_ne_zero q2
    clear q2
    obtain ⟨g0, g1, g2, g3, g4, g5⟩ := SB2.out.kept HB5.out
    obtain ⟨g6, g7, g8⟩ := BX2.out.kept HB5.out
    go_wp2_with fail
    refine (implDegree p x5 l A cap w5 (HL2.out.on HB5.out) hn).mono ?_
    rintro e w6 ⟨rfl, hb⟩
    have HB6 := Lib.hid (below_on HB5.out hb HB5.out.size)
    clear hb g0 g1 g2 g3 g4 g5 g6 g7 g8
    obtain ⟨m3, hm3⟩ : ∃ m, l.countP (endB x5) = m := ⟨_, rfl⟩
    rw [hm3]
    by_cases q3 : m3 = 0
    · have HE := Lib.hid (show fitB p l (x1, x2, x3, x4, x5) = false by simp [fitB, HK0.out, HK1.out, HK2.out, Hq0.out, HM1.out, Hq1.out, HM2.out, Hq2.out, hm3, q3])
      subst q3
      clear hm3
      go_wp2_with fail
      go_ret
      exact ⟨by rw [HE.out]; rfl, below_on HA.out HB6.out HA.out.size⟩
    have HM3 := Lib.hid hm3
    have Hq3 := Lib.hid q3
    have HE := Lib.hid (show fitB p l (x1, x2, x3, x4, x5) = true by simp [fitB, HK0.out, HK1.out, HK2.out, Hq0.out, HM1.out, Hq1.out, HM2.out, Hq2.out, HM3.out, Hq3.out] <;> omega)
    clear hm3
    have hp3 : 0 < m3 := Nat.pos_of_ne_zero q3
    clear q3
    go_wp2_with fail
    go_ret
    exact ⟨by rw [HE.out]; rfl, below_on HA.out HB6.out HA.out.size⟩
  have d0 : (x1 == 0) = false := by simpa using k0
  have d1 : (x1 == 1) = false := by simpa using k1
  have d2 : (x1 == 2) = false := by simpa using k2
  have HE := Lib.hid (show fitB p l (x1, x2, x3, x4, x5) = false by simp [fitB, k0, k1, k2])
  clear k0 k1 k2
  go_enter Try.func101, Try.ntmps101
  obtain ⟨g0, g1, g2, g3, g4, g5⟩ := SB2.out
  obtain ⟨g6, g7, g8⟩ := BX2.out
  go_wp2_with fail
  go_ret
  exact ⟨by rw [HE.out]; rfl, HA.out⟩
end Go.Proofs.Ytggibhhdnlifcaa
