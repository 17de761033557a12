/- Rows of places compared and copied: slices.Equal and slices.Clone at places. No condition. -/
import Derived.Test.YtehendofgcebcaaDoorEqual
import Derived.Test.YtehendofgcebcaaDoorCopyS
import Derived.Test.YtehendofgcebcaaDoorPlc
namespace Go.Proofs.YtehendofgcebcaaDoor
open Go.RowKit

theorem neqPl (x y u v : Int) (w : World) : (binOp .neq 49 (.agg #[.int .i64 x, .int .i64 y]) (.agg #[.int .i64 u, .int .i64 v])).run Tryd.prog w = .ok (.bool (neB x y u v)) w := by
  have u3 := Tryd.underlying3
  have a3 := Tryd.isAgg3
  have z3 := Tryd.sizeOf3
  have hS : Tryd.prog.underlying 49 = some (.struct (Tryd.prog.fieldsOf 49)) := by kernel_rfl
  have hp : Tryd.prog.stoodInHeld 49 = false := by kernel_rfl
  rw [run_neq_struct, show (10000 : Nat) = 9999 + 1 from rfl, run_equalIn_agg w 9999 49 _ _ hS hp]
  simp only [Program.fieldsOf, Tryd.underlying49]
  go_simp
  unfold neB
  by_cases h1 : x = u <;> by_cases h2 : y = v <;> simp [h1, h2]
theorem guardPl (op : BinOp) (a b : Operand) (x y u v : Int) (w : World) : (eqGuard op 49 a b (.agg #[.int .i64 x, .int .i64 y]) (.agg #[.int .i64 u, .int .i64 v])).run Tryd.prog w = .ok () w :=
  run_eqGuard_agg w op 49 a b _ _ (by kernel_rfl)
attribute [local go_sem ↓] neqPl guardPl
/-- A row of bars of the call's own. -/
def RowP (w : World) (l : List (Int × Int)) (e : Ending) (w' : World) : Prop :=
  ∃ A2 c2, e = .returned (.slice A2 l.length c2) ∧ w'.ownsRow w.heap.size 49 2 (.slice A2 l.length c2) l.length (barCells l) ∧ Below w.heap.size w w'

end Go.Proofs.YtehendofgcebcaaDoor
