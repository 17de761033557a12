/- What spec.AddBar answers. No condition. -/
import Derived.Test.YtdkpmaahinbhlaaFzPut
namespace Go.Proofs.Ytdkpmaahinbhlaa
open Go.RowKit

/-- Can the bar be put in? -/
def addOk (p a b : Int) (n : Nat) : Bool := decide ((0 ≤ a ∧ 0 ≤ b) ∧ (a < p ∧ b < p) ∧ a ≠ b ∧ n < 24)
noncomputable def addR (p a b : Int) (l : List (Int × Int)) : Bool := isGB p l && addOk p a b l.length
noncomputable def addL (p a b : Int) (l : List (Int × Int)) : List (Int × Int) := if addR p a b l = true then insU (min a b, max a b) l else l
theorem add_no {p a b : Int} {l : List (Int × Int)} (h : isGB p l = false ∨ ¬ ((0 ≤ a ∧ 0 ≤ b) ∧ (a < p ∧ b < p) ∧ a ≠ b ∧ l.length < 24)) : addR p a b l = false ∧ addL p a b l = l := by
  have e : addR p a b l = false := by
    unfold addR addOk
    rcases h with h | h
    · rw [h]; rfl
    · rw [decide_eq_false h, Bool.and_false]
  exact ⟨e, by unfold addL; rw [e]; rfl⟩
theorem add_yes {p a b : Int} {l : List (Int × Int)} (h : isGB p l = true) (k : (0 ≤ a ∧ 0 ≤ b) ∧ (a < p ∧ b < p) ∧ a ≠ b ∧ l.length < 24) : addR p a b l = true ∧ addL p a b l = insU (min a b, max a b) l := by
  have e : addR p a b l = true := by unfold addR addOk; rw [h, decide_eq_true k]; rfl
  exact ⟨e, by unfold addL; rw [if_pos e]⟩

end Go.Proofs.Ytdkpmaahinbhlaa
