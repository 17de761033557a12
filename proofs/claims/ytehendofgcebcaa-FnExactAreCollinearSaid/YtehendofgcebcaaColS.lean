/- What spec.AreCollinear answers. No condition. -/
import Derived.Test.YtehendofgcebcaaOffs
import Derived.Test.YtehendofgcebcaaIn
namespace Go.Proofs.Ytehendofgcebcaa
open Go.RowKit

theorem on_c (x y : Int) (w : World) :
    Calls Try.prog 119 #[.agg #[.int .i64 x, .int .i64 y]] w fun e w' => e = .returned (.bool (decide (OnG (x, y)))) ∧ Below w.heap.size w w' := by
  have HX := Lib.hid (box_new w x (.int .i64 y) 76)
  have HB := Lib.hid (new_below w (.cells #[.int .i64 x, .int .i64 y] 76))
  by_cases c1 : 0 ≤ x ∧ x ≤ 4
  · by_cases c2 : 0 ≤ y ∧ y ≤ 4
    · have hd : decide (OnG (x, y)) = true := decide_eq_true ⟨c1, c2⟩
      have HD := Lib.hid hd
      clear hd
      go_enter Try.func119, Try.ntmps119
      go_wp2_with fail
      refine (l1In_yes _ _ _ _ c1.1 c1.2).mono ?_
      rintro e w2 ⟨rfl, rfl⟩
      go_wp2_with fail
      refine (l1In_yes _ _ _ _ c2.1 c2.2).mono ?_
      rintro e w2 ⟨rfl, rfl⟩
      go_wp2_with fail
      go_ret
      exact ⟨by rw [HD.out]; rfl, HB.out⟩
    · have hc' : y < 0 ∨ 4 < y := by omega
      have hd : decide (OnG (x, y)) = false := decide_eq_false fun h => c2 h.2
      have HD := Lib.hid hd
      clear hd c2
      go_enter Try.func119, Try.ntmps119
      go_wp2_with fail
      refine (l1In_yes _ _ _ _ c1.1 c1.2).mono ?_
      rintro e w2 ⟨rfl, rfl⟩
      go_wp2_with fail
      refine (l1In_no _ _ _ _ hc').mono ?_
      rintro e w2 ⟨rfl, rfl⟩
      go_wp2_with fail
      go_ret
      exact ⟨by rw [HD.out]; rfl, HB.out⟩
  · have hc' : x < 0 ∨ 4 < x := by omega
    have hd : decide (OnG (x, y)) = false := decide_eq_false fun h => c1 h.1
    have HD := Lib.hid hd
    clear hd c1
    go_enter Try.func119, Try.ntmps119
    go_wp2_with fail
    refine (l1In_no _ _ _ _ hc').mono ?_
    rintro e w2 ⟨rfl, rfl⟩
    go_wp2_with fail
    go_ret
    exact ⟨by rw [HD.out]; rfl, HB.out⟩

/-- Three places in boxes side by side. -/
structure B3I (w wr : World) (x1 x2 y1 y2 z1 z2 : Int) : Prop where
  bel : Below w.heap.size w wr
  ba : Box wr w.heap.size x1 (.int .i64 x2)
  bb : Box wr (w.heap.size + 1) y1 (.int .i64 y2)
  bc : Box wr (w.heap.size + 2) z1 (.int .i64 z2)
theorem B3I.below {w a b : World} {x1 x2 y1 y2 z1 z2 : Int} (h : B3I w a x1 x2 y1 y2 z1 z2) (hb : Below a.heap.size a b) : B3I w b x1 x2 y1 y2 z1 z2 :=
  ⟨below_on h.bel hb h.bel.size, h.ba.kept hb, h.bb.kept hb, h.bc.kept hb⟩
theorem B3I.new (w : World) (x1 x2 y1 y2 z1 z2 : Int) (t : TypeId) : B3I w (((w.alloc (.cells #[.int .i64 x1, .int .i64 x2] t)).alloc (.cells #[.int .i64 y1, .int .i64 y2] t)).alloc (.cells #[.int .i64 z1, .int .i64 z2] t)) x1 x2 y1 y2 z1 z2 := by
  have h1 := new_below w (.cells #[.int .i64 x1, .int .i64 x2] t)
  have h2 := new_below (w.alloc (.cells #[.int .i64 x1, .int .i64 x2] t)) (.cells #[.int .i64 y1, .int .i64 y2] t)
  have h3 := new_below ((w.alloc (.cells #[.int .i64 x1, .int .i64 x2] t)).alloc (.cells #[.int .i64 y1, .int .i64 y2] t)) (.cells #[.int .i64 z1, .int .i64 z2] t)
  have s1 : (w.alloc (.cells #[.int .i64 x1, .int .i64 x2] t)).heap.size = w.heap.size + 1 := by simp
  have s2 : ((w.alloc (.cells #[.int .i64 x1, .int .i64 x2] t)).alloc (.cells #[.int .i64 y1, .int .i64 y2] t)).heap.size = w.heap.size + 2 := by simp
  have hy := box_new (w.alloc (.cells #[.int .i64 x1, .int .i64 x2] t)) y1 (.int .i64 y2) t
  have hz := box_new ((w.alloc (.cells #[.int .i64 x1, .int .i64 x2] t)).alloc (.cells #[.int .i64 y1, .int .i64 y2] t)) z1 (.int .i64 z2) t
  rw [s1] at hy
  rw [s2] at hz
  have hb := below_on h1 h2 h1.size
  exact ⟨below_on hb h3 hb.size, ((box_new _ _ _ _).kept h2).kept h3, hy.kept h3, hz⟩
theorem beqD (a b : Int) : (a == b) = decide (a = b) := by
  rw [Bool.eq_iff_iff]
  simp
theorem mul_le {a b : Int} (ha : -4 ≤ a) (ha' : a ≤ 4) (hb : -4 ≤ b) (hb' : b ≤ 4) : -64 ≤ a * b ∧ a * b ≤ 64 := by
  have h1 := Int.mul_nonneg (show 0 ≤ 4 - a by omega) (show 0 ≤ 4 - b by omega)
  have h2 := Int.mul_nonneg (show 0 ≤ 4 + a by omega) (show 0 ≤ 4 + b by omega)
  have h3 := Int.mul_nonneg (show 0 ≤ 4 - a by omega) (show 0 ≤ 4 + b by omega)
  have h4 := Int.mul_nonneg (show 0 ≤ 4 + a by omega) (show 0 ≤ 4 - b by omega)
  rw [Int.sub_mul, Int.mul_sub, Int.mul_sub] at h1
  rw [Int.add_mul, Int.mul_add, Int.mul_add] at h2
  rw [Int.sub_mul, Int.mul_add, Int.mul_add] at h3
  rw [Int.add_mul, Int.mul_sub, Int.mul_sub] at h4
  constructor <;> omega

set_option maxHeartbeats 2000000 in
set_option maxRecDepth 100000 in
theorem specCol (x1 x2 y1 y2 z1 z2 : Int) (w : World) :
    Calls Try.prog 64 #[.agg #[.int .i64 x1, .int .i64 x2], .agg #[.int .i64 y1, .int .i64 y2], .agg #[.int .i64 z1, .int .i64 z2]] w fun e w' => e = .returned (.bool (colB (x1, x2) (y1, y2) (z1, z2))) ∧ Below w.heap.size w w' := by
  have HB := Lib.hid (B3I.new w x1 x2 y1 y2 z1 z2 76)
  have HX := Lib.hid fun (W : World) => on_c x1 x2 W
  have HY := Lib.hid fun (W : World) => on_c y1 y2 W
  have HZ := Lib.hid fun (W : World) => on_c z1 z2 W
  obtain ⟨r, hr⟩ : ∃ r, colB (x1, x2) (y1, y2) (z1, z2) = r := ⟨_, rfl⟩
  rw [hr]
  unfold colB at hr
  go_enter Try.func64, Try.ntmps64
  go_wp2_with fail
  generalize (((w.alloc (.cells #[.int .i64 x1, .int .i64 x2] 76)).alloc (.cells #[.int .i64 y1, .int .i64 y2] 76)).alloc (.cells #[.int .i64 z1, .int .i64 z2] 76)) = w1 at *
  by_cases h1 : OnG (x1, x2)
  · rw [decide_eq_true h1] at HX hr
    refine (HX.out _).mono ?_
    rintro e w2 ⟨rfl, hb⟩
    have HB2 := Lib.hid (HB.out.below hb)
    obtain ⟨_, q0, q1⟩ := HB2.out.bb
    clear hb HB HX
    by_cases h2 : OnG (y1, y2)
    · rw [decide_eq_true h2] at HY hr
      have HR := Lib.hid hr
      clear hr
      go_wp2_with fail
      refine (HY.out _).mono ?_
      rintro e w3 ⟨rfl, hb⟩
      have HB3 := Lib.hid (HB2.out.below hb)
      clear hb HB2 HY q0 q1
      obtain ⟨_, q0, q1⟩ := HB3.out.bc
      by_cases h3 : OnG (z1, z2)
      · rw [decide_eq_true h3] at HZ
        have hr := HR.out
        rw [decide_eq_true h3] at hr
        simp only [Bool.true_and] at hr
        have HR2 := Lib.hid hr
        clear HR hr
        go_wp2_with fail
        refine (HZ.out _).mono ?_
        rintro e w4 ⟨rfl, hb⟩
        have HB4 := Lib.hid (HB3.out.below hb)
        clear hb HB3 HZ q0 q1
        obtain ⟨_, p0, p1⟩ := HB4.out.ba
        obtain ⟨_, q0, q1⟩ := HB4.out.bb
        obtain ⟨_, r0, r1⟩ := HB4.out.bc
        obtain ⟨⟨a1, a2⟩, a3, a4⟩ := h1
        obtain ⟨⟨b1, b2⟩, b3, b4⟩ := h2
        obtain ⟨⟨c1, c2⟩, c3, c4⟩ := h3
        simp only at a1 a2 a3 a4 b1 b2 b3 b4 c1 c2 c3 c4
        have m1 := mul_le (a := y1 - x1) (b := z2 - x2) (by omega) (by omega) (by omega) (by omega)
        have m2 := mul_le (a := y2 - x2) (b := z1 - x1) (by omega) (by omega) (by omega) (by omega)
        go_wp2_with fail
        go_ret
        refine ⟨?_, HB4.out.bel⟩
        rw [← HR2.out, ← beqD]
        rfl
      · rw [decide_eq_false h3] at HZ
        have hr := HR.out
        rw [decide_eq_false h3] at hr
        simp only [Bool.true_and, Bool.false_and] at hr
        subst hr
        clear HR
        go_wp2_with fail
        refine (HZ.out _).mono ?_
        rintro e w4 ⟨rfl, hb⟩
        have HB4 := Lib.hid (HB3.out.below hb)
        clear hb
        go_wp2_with fail
        go_ret
        exact ⟨rfl, HB4.out.bel⟩
    · rw [decide_eq_false h2] at HY hr
      simp only [Bool.true_and, Bool.false_and] at hr
      subst hr
      go_wp2_with fail
      refine (HY.out _).mono ?_
      rintro e w3 ⟨rfl, hb⟩
      have HB3 := Lib.hid (HB2.out.below hb)
      clear hb
      go_wp2_with fail
      go_ret
      exact ⟨rfl, HB3.out.bel⟩
  · rw [decide_eq_false h1] at HX hr
    simp only [Bool.false_and] at hr
    subst hr
    refine (HX.out _).mono ?_
    rintro e w2 ⟨rfl, hb⟩
    have HB2 := Lib.hid (HB.out.below hb)
    clear hb
    go_wp2_with fail
    go_ret
    exact ⟨rfl, HB2.out.bel⟩
end Go.Proofs.Ytehendofgcebcaa
