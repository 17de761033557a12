/- What EqualGraphs answers, the specification's and the program's. No condition. -/
import Derived.Test.YtehendofgcebcaaDoorGMath
import Derived.Test.YtehendofgcebcaaDoorBox
import Derived.Laws.StructEq
import Derived.Shelf.SlicesE.Kit
namespace Go.Proofs.YtehendofgcebcaaDoor
open Go.RowKit

/-- Two bars differ. -/
def neB (x y u v : Int) : Bool := !(x == u && y == v)
theorem neqBar (x y u v : Int) (w : World) : (binOp .neq 80 (.agg #[.int .i64 x, .int .i64 y]) (.agg #[.int .i64 u, .int .i64 v])).run Tryd.prog w = .ok (.bool (neB x y u v)) w := by
  have u3 := Tryd.underlying3
  have a3 := Tryd.isAgg3
  have z3 := Tryd.sizeOf3
  have hS : Tryd.prog.underlying 80 = some (.struct (Tryd.prog.fieldsOf 80)) := by kernel_rfl
  have hp : Tryd.prog.stoodInHeld 80 = false := by kernel_rfl
  rw [run_neq_struct, show (10000 : Nat) = 9999 + 1 from rfl, run_equalIn_agg w 9999 80 _ _ hS hp]
  simp only [Program.fieldsOf, Tryd.underlying80]
  go_simp
  unfold neB
  by_cases h1 : x = u <;> by_cases h2 : y = v <;> simp [h1, h2]
theorem guardBar (op : BinOp) (a b : Operand) (x y u v : Int) (w : World) : (eqGuard op 80 a b (.agg #[.int .i64 x, .int .i64 y]) (.agg #[.int .i64 u, .int .i64 v])).run Tryd.prog w = .ok () w :=
  run_eqGuard_agg w op 80 a b _ _ (by kernel_rfl)
attribute [local go_sem ↓] neqBar guardBar

theorem neB_no {a b : Int × Int} (h : a = b) : neB a.1 a.2 b.1 b.2 = false := by subst h; simp [neB]
theorem neB_yes {a b : Int × Int} (h : a ≠ b) : neB a.1 a.2 b.1 b.2 = true := by
  obtain ⟨x, y⟩ := a
  obtain ⟨u, v⟩ := b
  simp only [neB, Bool.not_eq_true', Bool.and_eq_false_iff, beq_eq_false_iff_ne]
  by_cases h1 : x = u
  · right; intro h2; exact h (by rw [h1, h2])
  · left; exact h1
/-- Two rows of bars are equal. -/
def sameL (l m : List (Int × Int)) : Bool := decide (l = m)
theorem sameL_yes {l m : List (Int × Int)} (h : l = m) : sameL l m = true := decide_eq_true h
theorem sameL_no {l m : List (Int × Int)} (h : ¬ l = m) : sameL l m = false := decide_eq_false h
theorem list_eq (l m : List (Int × Int)) (h : l.length = m.length) (hk : ∀ j, j < l.length → l.getD j (0, 0) = m.getD j (0, 0)) : l = m := by
  apply List.ext_getElem h
  intro i h1 h2
  have := hk i h1
  simpa [List.getD, List.getElem?_eq_getElem h1, List.getElem?_eq_getElem h2] using this

/-- Two graphs are equal. -/
def eqG (p q : Int) (l m : List (Int × Int)) : Bool := decide (p = q ∧ l = m)

end Go.Proofs.YtehendofgcebcaaDoor
