/- What spec.l1In answers: whether a number lies between two others. No condition. -/
import Derived.Test.YtehendofgcebcaaDoorWords
namespace Go.Proofs.YtehendofgcebcaaDoor
open Go.RowKit

theorem l1In_yes (a lo hi : Int) (w : World) (h1 : lo ≤ a) (h2 : a ≤ hi) :
    Calls Tryd.prog 42 #[.int .i64 a, .int .i64 lo, .int .i64 hi] w fun e w' => e = .returned (.bool true) ∧ w = w' := by
  have h1' : decide (lo ≤ a) = true := by simpa using h1
  have h2' : decide (a ≤ hi) = true := by simpa using h2
  go_enter Tryd.func42, Tryd.ntmps42
  go_wp2
  go_ret
  exact ⟨rfl, rfl⟩

theorem l1In_no (a lo hi : Int) (w : World) (h : a < lo ∨ hi < a) :
    Calls Tryd.prog 42 #[.int .i64 a, .int .i64 lo, .int .i64 hi] w fun e w' => e = .returned (.bool false) ∧ w = w' := by
  by_cases h1 : lo ≤ a
  · have h2 : hi < a := by omega
    have h1' : decide (lo ≤ a) = true := by simpa using h1
    have h2' : decide (a ≤ hi) = false := by simp; omega
    clear h
    go_enter Tryd.func42, Tryd.ntmps42
    go_wp2
    go_ret
    exact ⟨rfl, rfl⟩
  · have h1' : decide (lo ≤ a) = false := by simpa using h1
    clear h
    go_enter Tryd.func42, Tryd.ntmps42
    go_wp2
    go_ret
    exact ⟨rfl, rfl⟩
end Go.Proofs.YtehendofgcebcaaDoor
