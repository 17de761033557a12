/- Is v a point of the graph? No condition. -/
import Derived.Test.YtehendofgcebcaaBox
namespace Go.Proofs.Ytehendofgcebcaa
open Go.RowKit

/-- Is v a point of the graph? -/
def ptB (p v : Int) : Bool := decide (0 ≤ v) && decide (v < p)
theorem hasPoint_c (p v : Int) (A : Option Addr) (n cap : Nat) (w : World) :
    Calls Try.prog 117 #[.agg #[.int .i64 p, .slice A n cap], .int .i64 v] w fun e w' => e = .returned (.bool (ptB p v)) ∧ Below w.heap.size w w' := by
  by_cases h0 : 0 ≤ v
  · by_cases h1 : v < p
    · have HP := Lib.hid (show ptB p v = true by simp [ptB, h0, h1])
      go_enter Try.func117, Try.ntmps117
      go_wp2
      go_ret
      exact ⟨by rw [HP.out]; rfl, new_below _ _⟩
    · have HP := Lib.hid (show ptB p v = false by simp [ptB, h1])
      go_enter Try.func117, Try.ntmps117
      go_wp2
      go_ret
      exact ⟨by rw [HP.out]; rfl, new_below _ _⟩
  · have HP := Lib.hid (show ptB p v = false by simp [ptB, h0])
    go_enter Try.func117, Try.ntmps117
    go_wp2
    go_ret
    exact ⟨by rw [HP.out]; rfl, new_below _ _⟩
end Go.Proofs.Ytehendofgcebcaa
