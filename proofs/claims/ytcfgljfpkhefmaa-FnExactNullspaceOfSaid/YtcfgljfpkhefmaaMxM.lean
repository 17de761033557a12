/- What a matrix of the document is, and its transposed one and its products, as words on lists. No condition. -/
import Derived.Test.YtcfgljfpkhefmaaRedM
namespace Go.Proofs.Ytcfgljfpkhefmaa

def atM (m : List (List Int)) (i j : Nat) : Int := (m.getD i []).getD j 0
def widM (m : List (List Int)) : Nat := (m.getD 0 []).length
/-- The squares of the first numbers of a row, added. -/
def sqsP (row : List Int) : Nat → Int
  | 0 => 0
  | j + 1 => sqsP row j + row.getD j 0 * row.getD j 0
def RngP (row : List Int) (k : Nat) : Prop := ∀ j, j < k → -8 ≤ row.getD j 0 ∧ row.getD j 0 ≤ 8
/-- The first k rows are rows of a matrix. -/
def RowsP1 (m : List (List Int)) (k : Nat) : Prop := ∀ i, i < k → (m.getD i []).length = widM m ∧ RngP (m.getD i []) (widM m)
structure MatP (m : List (List Int)) : Prop where
  h0 : 0 < m.length
  h9 : m.length ≤ 9
  w1 : 1 ≤ widM m
  w12 : widM m ≤ 12
  row : RowsP1 m m.length
  sq : ∀ i, i < m.length → sqsP (m.getD i []) (widM m) ≤ 64
noncomputable def isMatB (m : List (List Int)) : Bool := @decide (MatP m) (Classical.propDecidable _)
theorem isMatB_yes {m : List (List Int)} (h : MatP m) : isMatB m = true := by unfold isMatB; exact @decide_eq_true _ (Classical.propDecidable _) h
theorem isMatB_no {m : List (List Int)} (h : ¬ MatP m) : isMatB m = false := by unfold isMatB; exact @decide_eq_false _ (Classical.propDecidable _) h
theorem isMatB_iff {m : List (List Int)} : isMatB m = true ↔ MatP m :=
  ⟨fun h => Classical.byContradiction fun g => (by rw [isMatB_no g] at h; cases h), isMatB_yes⟩
theorem sqsP_pos (row : List Int) : ∀ k, 0 ≤ sqsP row k := by
  intro k
  induction k with
  | zero => exact Int.le_refl 0
  | succ k ih =>
    have := sq_pos (row.getD k 0)
    show 0 ≤ sqsP row k + _
    omega
theorem sqsP_le (row : List Int) {j k : Nat} (h : j ≤ k) : sqsP row j ≤ sqsP row k := by
  induction k with
  | zero => obtain rfl : j = 0 := by omega
            exact Int.le_refl _
  | succ k ih =>
    by_cases e : j = k + 1
    · subst e; exact Int.le_refl _
    · have h1 := ih (by omega)
      have h2 := sq_pos (row.getD k 0)
      show _ ≤ sqsP row k + _
      omega
theorem sq_bd {x : Int} (h : -8 ≤ x ∧ x ≤ 8) : x * x ≤ 64 := by
  have : x = -8 ∨ x = -7 ∨ x = -6 ∨ x = -5 ∨ x = -4 ∨ x = -3 ∨ x = -2 ∨ x = -1 ∨ x = 0 ∨ x = 1 ∨ x = 2 ∨ x = 3 ∨ x = 4 ∨ x = 5 ∨ x = 6 ∨ x = 7 ∨ x = 8 := by omega
  rcases this with rfl | rfl | rfl | rfl | rfl | rfl | rfl | rfl | rfl | rfl | rfl | rfl | rfl | rfl | rfl | rfl | rfl <;> decide
theorem sqsP_bd {row : List Int} {k : Nat} (h : RngP row k) : ∀ j, j ≤ k → sqsP row j ≤ 64 * (j : Int) := by
  intro j
  induction j with
  | zero => intro _; exact Int.le_refl 0
  | succ j ih =>
    intro hj
    have h1 := ih (by omega)
    have h2 := sq_bd (h j (by omega))
    show sqsP row j + row.getD j 0 * row.getD j 0 ≤ _
    omega
theorem sqsP_dot (row : List Int) : ∀ k, sqsP row k = dotV (fun j => row.getD j 0) (fun j => row.getD j 0) k := by
  intro k
  induction k with
  | zero => rfl
  | succ k ih => show sqsP row k + _ = dotV _ _ k + _; rw [ih]
/-- Rows and columns exchanged. -/
def trL (m : List (List Int)) : List (List Int) := (List.range (widM m)).map fun j => rowF m.length fun i => atM m i j
noncomputable def trV (m : List (List Int)) : List (List Int) := if isMatB m = true then trL m else []
/-- A row times a vector, as ints wrap around. -/
def dotW64 (row v : List Int) : Nat → Int
  | 0 => 0
  | j + 1 => IntKind.i64.wrap (dotW64 row v j + IntKind.i64.wrap (row.getD j 0 * v.getD j 0))
def tmL (m : List (List Int)) (v : List Int) : List Int := rowF m.length fun i => dotW64 (m.getD i []) v v.length
noncomputable def tmV (m : List (List Int)) (v : List Int) : List Int := if isMatB m = true ∧ v.length = widM m then tmL m v else []
end Go.Proofs.Ytcfgljfpkhefmaa
