/- What IsRange answers, the specification's and the program's. No condition. -/
import Derived.Test.YtggibhhdnlifcaaSetM
import Derived.Test.YtggibhhdnlifcaaIn
namespace Go.Proofs.Ytggibhhdnlifcaa
open Go.RowKit

set_option maxRecDepth 100000 in
theorem implRange (k c : Int) (w : World) :
    Calls Try.prog 113 #[.int .i64 k, .int .i64 c] w fun e w' => e = .returned (.bool (rangeB k c)) ∧ w = w' := by
  by_cases h1 : 1 ≤ k
  · by_cases h2 : k ≤ 3
    · by_cases h3 : 0 ≤ c
      · by_cases h4 : c ≤ 2 * k - 1
        all_goals
          have HR := Lib.hid (show rangeB k c = decide (c ≤ 2 * k - 1) by simp [rangeB, h1, h2, h3])
          rw [show decide (c ≤ 2 * k - 1) = _ from by first | exact decide_eq_true h4 | exact decide_eq_false h4] at HR
          go_enter Try.func113, Try.ntmps113
          go_wp2
          go_ret
          exact ⟨by rw [HR.out]; try simp [*], rfl⟩
      · have HR := Lib.hid (show rangeB k c = false by simp [rangeB, h3])
        go_enter Try.func113, Try.ntmps113
        go_wp2
        go_ret
        exact ⟨by rw [HR.out]; try simp [*], rfl⟩
    · have HR := Lib.hid (show rangeB k c = false by simp [rangeB, h2])
      go_enter Try.func113, Try.ntmps113
      go_wp2
      go_ret
      exact ⟨by rw [HR.out]; try simp [*], rfl⟩
  · have HR := Lib.hid (show rangeB k c = false by simp [rangeB, h1])
    go_enter Try.func113, Try.ntmps113
    go_wp2
    go_ret
    exact ⟨by rw [HR.out]; try simp [*], rfl⟩

set_option maxRecDepth 100000 in
theorem specRange (k c : Int) (w : World) :
    Calls Try.prog 115 #[.int .i64 k, .int .i64 c] w fun e w' => e = .returned (.bool (rangeB k c)) ∧ w = w' := by
  by_cases h1 : 1 ≤ k
  · by_cases h2 : k ≤ 3
    · by_cases h3 : 0 ≤ c
      · by_cases h4 : c < 2 * k
        all_goals
          have HR := Lib.hid (show rangeB k c = decide (c < 2 * k) by simp [rangeB, h1, h2, h3]; omega)
          rw [show decide (c < 2 * k) = _ from by first | exact decide_eq_true h4 | exact decide_eq_false h4] at HR
          go_enter Try.func115, Try.ntmps115
          go_wp2
          go_ret
          exact ⟨by rw [HR.out]; try simp [*], rfl⟩
      · have HR := Lib.hid (show rangeB k c = false by simp [rangeB, h3])
        go_enter Try.func115, Try.ntmps115
        go_wp2
        go_ret
        exact ⟨by rw [HR.out]; try simp [*], rfl⟩
    · have HR := Lib.hid (show rangeB k c = false by simp [rangeB, h2])
      go_enter Try.func115, Try.ntmps115
      go_wp2
      go_ret
      exact ⟨by rw [HR.out]; try simp [*], rfl⟩
  · have HR := Lib.hid (show rangeB k c = false by simp [rangeB, h1])
    go_enter Try.func115, Try.ntmps115
    go_wp2
    go_ret
    exact ⟨by rw [HR.out]; try simp [*], rfl⟩

end Go.Proofs.Ytggibhhdnlifcaa
