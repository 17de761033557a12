/- What IsRange answers, the specification's and the program's, and that the law on it returns true. No condition. -/
import Derived.Test.YtimgkekllanhmaaSetM
import Derived.Test.YtimgkekllanhmaaIn
namespace Go.Proofs.Ytimgkekllanhmaa
open Go.RowKit

set_option maxRecDepth 100000 in
theorem implRange (k c : Int) (w : World) :
    Calls Try.prog 29 #[.int .i64 k, .int .i64 c] w fun e w' => e = .returned (.bool (rangeB k c)) ∧ w = w' := by
  by_cases h1 : 1 ≤ k
  · by_cases h2 : k ≤ 3
    · by_cases h3 : 0 ≤ c
      · by_cases h4 : c ≤ 2 * k - 1
        all_goals
          have HR := Lib.hid (show rangeB k c = decide (c ≤ 2 * k - 1) by simp [rangeB, h1, h2, h3])
          rw [show decide (c ≤ 2 * k - 1) = _ from by first | exact decide_eq_true h4 | exact decide_eq_false h4] at HR
          go_enter Try.func29, Try.ntmps29
          go_wp2
          go_ret
          exact ⟨by rw [HR.out]; try simp [*], rfl⟩
      · have HR := Lib.hid (show rangeB k c = false by simp [rangeB, h3])
        go_enter Try.func29, Try.ntmps29
        go_wp2
        go_ret
        exact ⟨by rw [HR.out]; try simp [*], rfl⟩
    · have HR := Lib.hid (show rangeB k c = false by simp [rangeB, h2])
      go_enter Try.func29, Try.ntmps29
      go_wp2
      go_ret
      exact ⟨by rw [HR.out]; try simp [*], rfl⟩
  · have HR := Lib.hid (show rangeB k c = false by simp [rangeB, h1])
    go_enter Try.func29, Try.ntmps29
    go_wp2
    go_ret
    exact ⟨by rw [HR.out]; try simp [*], rfl⟩

set_option maxRecDepth 100000 in
theorem specRange (k c : Int) (w : World) :
    Calls Try.prog 28 #[.int .i64 k, .int .i64 c] w fun e w' => e = .returned (.bool (rangeB k c)) ∧ w = w' := by
  by_cases h1 : 1 ≤ k
  · by_cases h2 : k ≤ 3
    · by_cases h3 : 0 ≤ c
      · by_cases h4 : c < 2 * k
        all_goals
          have HR := Lib.hid (show rangeB k c = decide (c < 2 * k) by simp [rangeB, h1, h2, h3]; omega)
          rw [show decide (c < 2 * k) = _ from by first | exact decide_eq_true h4 | exact decide_eq_false h4] at HR
          go_enter Try.func28, Try.ntmps28
          go_wp2
          go_ret
          exact ⟨by rw [HR.out]; try simp [*], rfl⟩
      · have HR := Lib.hid (show rangeB k c = false by simp [rangeB, h3])
        go_enter Try.func28, Try.ntmps28
        go_wp2
        go_ret
        exact ⟨by rw [HR.out]; try simp [*], rfl⟩
    · have HR := Lib.hid (show rangeB k c = false by simp [rangeB, h2])
      go_enter Try.func28, Try.ntmps28
      go_wp2
      go_ret
      exact ⟨by rw [HR.out]; try simp [*], rfl⟩
  · have HR := Lib.hid (show rangeB k c = false by simp [rangeB, h1])
    go_enter Try.func28, Try.ntmps28
    go_wp2
    go_ret
    exact ⟨by rw [HR.out]; try simp [*], rfl⟩

set_option maxRecDepth 100000 in
theorem lawIsRange (a1 a2 : Int) (w : World) (_w1 : (Lit.int .i64 a1).wf = true) (_w2 : (Lit.int .i64 a2).wf = true) :
    Calls Try.prog 8 #[.int .i64 a1, .int .i64 a2] w fun e w' => e = .returned (.bool true) ∧ Below w.heap.size w w' := by
  go_enter Try.func8, Try.ntmps8
  go_wp2_with fail
  refine (specRange a1 a2 _).mono ?_
  rintro e w1 ⟨rfl, rfl⟩
  go_wp2_with fail
  refine (implRange a1 a2 _).mono ?_
  rintro e w2 ⟨rfl, rfl⟩
  cases rangeB a1 a2
  all_goals
    go_wp2_with fail
    go_ret
    exact ⟨rfl, Below.refl _ _⟩
end Go.Proofs.Ytimgkekllanhmaa
