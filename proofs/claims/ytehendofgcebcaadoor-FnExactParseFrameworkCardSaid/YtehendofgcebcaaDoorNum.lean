/- What spec.l2Number answers: the number that a text writes, or -1. -/
import Derived.Test.YtehendofgcebcaaDoorPi
import Derived.Test.YtehendofgcebcaaDoorParM
namespace Go.Proofs.YtehendofgcebcaaDoor
open Go.RowKit

/-- The number that s writes, or -1. -/
noncomputable def numS (s : ByteArray) : Int := if piB s = true then piN s else -1
theorem num_fmt (n : Int) (h0 : 0 ≤ n) (h8 : n ≤ 8) : numS (fmtS n) = n := by
  have h := pi_yes (s := fmtS n) (n := n) ⟨by omega, rfl⟩
  unfold numS
  rw [h.2, h.1]
  rfl

set_option maxRecDepth 100000 in
theorem num_c (s : ByteArray) (w : World) (hs : s.size ≤ maxLen) :
    Calls Tryd.prog 31 #[.string s] w fun e w' => e = .returned (.int .i64 (numS s)) ∧ Below w.heap.size w w' := by
  have hpi := fun W => specPi s W hs
  have hdef : numS s = if piB s = true then piN s else -1 := rfl
  rw [hdef]
  generalize piN s = n at *
  cases hb : piB s
  all_goals
    rw [hb] at hpi
    have HPI := Lib.hid hpi
    go_enter Tryd.func31, Tryd.ntmps31
    go_wp2_with fail
    refine (HPI.out _).mono ?_
    rintro e w1 ⟨rfl, hb1⟩
    go_wp2_with fail
    go_ret
    exact ⟨rfl, hb1⟩
end Go.Proofs.YtehendofgcebcaaDoor
