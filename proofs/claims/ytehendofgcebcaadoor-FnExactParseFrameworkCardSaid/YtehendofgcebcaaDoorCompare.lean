/- What the library's cmp.Compare and cmp.Or and the program's Bar.compare answer. No condition. -/
import Derived.Test.YtehendofgcebcaaDoorGMath
import Derived.Test.YtehendofgcebcaaDoorState
namespace Go.Proofs.YtehendofgcebcaaDoor
open Go.RowKit

def cmpI (a b : Int) : Int := if a < b then -1 else if b < a then 1 else 0
def orI (a b : Int) : Int := if a = 0 then b else a
def cmpB (x y : Int × Int) : Int := orI (cmpI x.1 y.1) (cmpI x.2 y.2)
theorem cmpB_neg (x y : Int × Int) : cmpB x y < 0 ↔ aftB y x = false := by
  obtain ⟨a, b⟩ := x
  obtain ⟨c, d⟩ := y
  simp only [cmpB, orI, cmpI, aftB, decide_eq_false_iff_not]
  repeat' split
  all_goals omega
theorem cmpI_in (a b : Int) : -1 ≤ cmpI a b ∧ cmpI a b ≤ 1 := by
  unfold cmpI
  repeat' split
  all_goals omega
theorem cmpB_in (x y : Int × Int) : -1 ≤ cmpB x y ∧ cmpB x y ≤ 1 := by
  have h1 := cmpI_in x.1 y.1
  have h2 := cmpI_in x.2 y.2
  unfold cmpB orI
  split <;> omega

theorem isNaN_c (a : Int) (w : World) :
    Calls Tryd.prog 83 #[.int .i64 a] w fun e w' => e = .returned (.bool false) ∧ w' = w := by
  go_enter Tryd.func83, Tryd.ntmps83
  go_wp2
  go_ret
  exact ⟨by simp, rfl⟩

theorem compare_i (a b : Int) (w : World) :
    Calls Tryd.prog 74 #[.int .i64 a, .int .i64 b] w fun e w' => e = .returned (.int .i64 (cmpI a b)) ∧ w' = w := by
  by_cases h1 : a < b
  · have h2 : ¬ b < a := by omega
    have HC := Lib.hid (show cmpI a b = -1 by simp [cmpI, h1])
    go_enter Tryd.func74, Tryd.ntmps74
    go_wp2_with fail
    refine (isNaN_c a _).mono ?_
    rintro e w1 ⟨rfl, rfl⟩
    go_wp2_with fail
    refine (isNaN_c b _).mono ?_
    rintro e w1 ⟨rfl, rfl⟩
    go_wp2_with fail
    go_ret
    exact ⟨by rw [HC.out]; rfl, rfl⟩
  · by_cases h2 : b < a
    · have HC := Lib.hid (show cmpI a b = 1 by simp [cmpI, h1, h2])
      go_enter Tryd.func74, Tryd.ntmps74
      go_wp2_with fail
      refine (isNaN_c a _).mono ?_
      rintro e w1 ⟨rfl, rfl⟩
      go_wp2_with fail
      refine (isNaN_c b _).mono ?_
      rintro e w1 ⟨rfl, rfl⟩
      go_wp2_with fail
      go_ret
      exact ⟨by rw [HC.out]; rfl, rfl⟩
    · have HC := Lib.hid (show cmpI a b = 0 by simp [cmpI, h1, h2])
      go_enter Tryd.func74, Tryd.ntmps74
      go_wp2_with fail
      refine (isNaN_c a _).mono ?_
      rintro e w1 ⟨rfl, rfl⟩
      go_wp2_with fail
      refine (isNaN_c b _).mono ?_
      rintro e w1 ⟨rfl, rfl⟩
      go_wp2_with fail
      go_ret
      exact ⟨by rw [HC.out]; rfl, rfl⟩

theorem or_c (x y : Int) (g : Nat) (w : World) (h0 : w.cell? ⟨g, 0, none⟩ = some (.int .i64 x)) (h1 : w.cell? ⟨g, 1, none⟩ = some (.int .i64 y)) :
    Calls Tryd.prog 73 #[.slice (some ⟨g, 0, none⟩) 2 2] w fun e w' => e = .returned (.int .i64 (orI x y)) ∧ w' = w := by
  by_cases hx : x = 0
  · by_cases hy : y = 0
    · have HC := Lib.hid (show orI x y = 0 by simp [orI, hx, hy])
      subst hx hy
      go_enter Tryd.func73, Tryd.ntmps73
      go_wp2_with fail
      refine wp_loop_rounds 3 ?_
      rw [rounds_succ]
      go_wp2_with fail
      rw [rounds_succ]
      go_wp2_with fail
      rw [rounds_succ]
      go_wp2_with fail
      go_ret
      exact ⟨by rw [HC.out]; rfl, rfl⟩
    · have HC := Lib.hid (show orI x y = y by simp [orI, hx])
      have hy' : (y != 0) = true := by simpa using hy
      subst hx
      go_enter Tryd.func73, Tryd.ntmps73
      go_wp2_with fail
      refine wp_loop_rounds 3 ?_
      rw [rounds_succ]
      go_wp2_with fail
      rw [rounds_succ]
      go_wp2_with fail
      go_ret
      exact ⟨by rw [HC.out]; rfl, rfl⟩
  · have HC := Lib.hid (show orI x y = x by simp [orI, hx])
    have hx' : (x != 0) = true := by simpa using hx
    go_enter Tryd.func73, Tryd.ntmps73
    go_wp2_with fail
    refine wp_loop_rounds 3 ?_
    rw [rounds_succ]
    go_wp2_with fail
    go_ret
    exact ⟨by rw [HC.out]; rfl, rfl⟩

set_option maxHeartbeats 1000000 in
set_option maxRecDepth 100000 in
theorem compare_b (x y : Int × Int) (w : World) :
    Calls Tryd.prog 65 #[.agg #[.int .i64 x.1, .int .i64 x.2], .agg #[.int .i64 y.1, .int .i64 y.2]] w fun e w' => e = .returned (.int .i64 (cmpB x y)) ∧ Below w.heap.size w w' := by
  obtain ⟨a, b⟩ := x
  obtain ⟨c, d⟩ := y
  have HC := Lib.hid (show cmpB (a, b) (c, d) = orI (cmpI a c) (cmpI b d) from rfl)
  have hA1 := new_below w (.cells #[.int .i64 a, .int .i64 b] 80)
  have hA2 := new_below (w.alloc (.cells #[.int .i64 a, .int .i64 b] 80)) (.cells #[.int .i64 c, .int .i64 d] 80)
  have HA := Lib.hid (below_on hA1 hA2 hA1.size)
  have HX := Lib.hid ((box_new w a (.int .i64 b) 80).kept hA2)
  have hY := box_new (w.alloc (.cells #[.int .i64 a, .int .i64 b] 80)) c (.int .i64 d) 80
  rw [show (w.alloc (.cells #[.int .i64 a, .int .i64 b] 80)).heap.size = w.heap.size + 1 by simp] at hY
  have HY := Lib.hid hY
  clear hA1 hA2 hY
  go_enter Tryd.func65, Tryd.ntmps65
  go_wp2_with fail
  generalize ((w.alloc (.cells #[.int .i64 a, .int .i64 b] 80)).alloc (.cells #[.int .i64 c, .int .i64 d] 80)) = w2 at *
  obtain ⟨_, g1, g2⟩ := HX.out
  obtain ⟨_, g3, g4⟩ := HY.out
  go_still_tail 10, (by kernel_rfl)
  still_call (compare_i _ _ _)
  repeat still_step
  still_call (compare_i _ _ _)
  refine wpStill_nil ?_
  change wpList _ _ _ _ _ w2.drew
  have HD := Lib.hid (HA.out.drew)
  have hds : w.heap.size ≤ w2.drew.heap.size := HA.out.size
  clear g1 g2 g3 g4
  generalize w2.drew = w3 at *
  go_wp2_with fail
  refine (or_c (cmpI a c) (cmpI b d) w3.heap.size _ (by rw [World.cell?_alloc_at _ _ _ _ rfl]; rfl) (by rw [World.cell?_alloc_at _ _ _ _ rfl]; rfl)).mono ?_
  rintro e w4 ⟨rfl, rfl⟩
  go_wp2_with fail
  go_ret
  exact ⟨by rw [HC.out]; rfl, HD.out.alloc hds _⟩
end Go.Proofs.YtehendofgcebcaaDoor
