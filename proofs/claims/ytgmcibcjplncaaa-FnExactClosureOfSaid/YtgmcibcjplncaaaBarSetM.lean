/- When a list is one of bars of a valid graph, in order; a state by it. No program. No condition. -/
import Derived.Test.YtgmcibcjplncaaaPebEq
namespace Go.Proofs.Ytgmcibcjplncaaa
open Go.RowKit

/-- The number at place j names a bar, behind the one before. -/
def OkS (m : Nat) (Z : List Int) (j : Nat) : Prop := (0 ≤ Z.getD j 0 ∧ Z.getD j 0 < (m : Int)) ∧ (0 < j → Z.getD (j - 1) 0 < Z.getD j 0)
theorem okS_snoc {m : Nat} {Z : List Int} {k : Nat} (h : ∀ j, j < k → OkS m Z j) (hk : OkS m Z k) : ∀ j, j < k + 1 → OkS m Z j := fun j hj => by
  by_cases e : j = k
  · subst e; exact hk
  · exact h j (by omega)
open Classical in
/-- A set of bars of a valid graph, as a list. -/
noncomputable def setB (p : Int) (l : List (Int × Int)) (Z : List Int) : Bool := if (∀ j, j < Z.length → OkS l.length Z j) ∧ IsG p l then true else false
theorem setB_all {p : Int} {l : List (Int × Int)} {Z : List Int} (h : ∀ j, j < Z.length → OkS l.length Z j) : setB p l Z = isGB p l := by
  unfold setB
  by_cases g : IsG p l
  · rw [if_pos ⟨h, g⟩, isGB_yes g]
  · rw [if_neg (fun q => g q.2), isGB_no g]
theorem setB_bad {p : Int} {l : List (Int × Int)} {Z : List Int} {j : Nat} (hj : j < Z.length) (h : ¬ OkS l.length Z j) : setB p l Z = false := by
  unfold setB
  rw [if_neg (fun q => h (q.1 j hj))]
theorem setB_is {p : Int} {l : List (Int × Int)} {Z : List Int} (h : setB p l Z = true) : (∀ j, j < Z.length → OkS l.length Z j) ∧ IsG p l := by
  unfold setB at h
  by_cases g : (∀ j, j < Z.length → OkS l.length Z j) ∧ IsG p l
  · exact g
  · rw [if_neg g] at h; cases h
theorem setB_not {p : Int} {l : List (Int × Int)} {Z : List Int} (hG : IsG p l) (h : setB p l Z = false) : ∃ j, j < Z.length ∧ ¬ OkS l.length Z j := by
  refine Classical.byContradiction fun q => ?_
  have : ∀ j, j < Z.length → OkS l.length Z j := fun j hj => Classical.byContradiction fun n => q ⟨j, hj, n⟩
  rw [setB_all this, isGB_yes hG] at h
  cases h
/-- The index of the bar before. -/
def lastP (Z : List Int) (j : Nat) : Int := if j = 0 then -1 else Z.getD (j - 1) 0
theorem lastP_s (Z : List Int) (j : Nat) : lastP Z (j + 1) = Z.getD j 0 := by unfold lastP; rw [if_neg (by omega)]; rfl
theorem lastP_ok {m : Nat} {Z : List Int} {j : Nat} (h : ∀ u, u < j → OkS m Z u) : OkS m Z j ↔ lastP Z j < Z.getD j 0 ∧ Z.getD j 0 < (m : Int) := by
  unfold OkS lastP
  by_cases e : j = 0
  · subst e
    rw [if_pos rfl]
    constructor
    · rintro ⟨h1, _⟩; omega
    · rintro ⟨h1, h2⟩; exact ⟨by omega, fun h => absurd h (by omega)⟩
  · rw [if_neg e]
    have h0 := (h (j - 1) (by omega)).1.1
    constructor
    · rintro ⟨h1, h2⟩; have := h2 (by omega); omega
    · rintro ⟨h1, h2⟩; exact ⟨by omega, fun _ => by omega⟩
theorem okP_s {l : List (Int × Int)} {T Z : List Int} {j : Nat} : OkP l T Z j ↔ OkS l.length Z j ∧ isEnd (l.getD (Z.getD j 0).toNat (0, 0)) (T.getD j 0) := by
  unfold OkP OkS
  constructor
  · rintro ⟨h1, h2, h3⟩; exact ⟨⟨h1, h2⟩, h3⟩
  · rintro ⟨⟨h1, h2⟩, h3⟩; exact ⟨h1, h2, h3⟩
end Go.Proofs.Ytgmcibcjplncaaa
