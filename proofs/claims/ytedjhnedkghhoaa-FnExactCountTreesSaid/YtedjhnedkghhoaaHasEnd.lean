/- What (Bar).hasEnd answers. No condition. -/
import Derived.Test.YtedjhnedkghhoaaGMath
namespace Go.Proofs.Ytedjhnedkghhoaa
open Go.RowKit

theorem endB_eq (v x y : Int) : endB v (x, y) = ((x == v) || (y == v)) := by
  unfold endB
  simp only [Bool.decide_or]
  rfl

theorem hasEnd_c (v : Int) (x : Int × Int) (w : World) :
    Calls Try.prog 114 #[.agg #[.int .i64 x.1, .int .i64 x.2], .int .i64 v] w fun e w' => e = .returned (.bool (endB v x)) ∧ Below w.heap.size w w' := by
  obtain ⟨x, y⟩ := x
  have hh := endB_eq v x y
  cases e1 : (x == v) <;> cases e2 : (y == v)
  all_goals
    rw [e1, e2] at hh
    have HH := Lib.hid hh
    clear hh
    go_enter Try.func114, Try.ntmps114
    go_wp2
    go_ret
    exact ⟨by rw [HH.out]; rfl, (Below.refl _ _).alloc (Nat.le_refl _) _⟩
end Go.Proofs.Ytedjhnedkghhoaa
