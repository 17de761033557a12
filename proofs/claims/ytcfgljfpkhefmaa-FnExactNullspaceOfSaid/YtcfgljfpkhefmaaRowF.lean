/- A row of numbers given by a function, stored in once. No condition. -/
import Derived.Test.YtcfgljfpkhefmaaRowAt
import Derived.Test.YtcfgljfpkhefmaaRedM
namespace Go.Proofs.Ytcfgljfpkhefmaa
open Go.RowKit

theorem rowF_set {N i : Nat} {f : Nat → Int} (_h : i < N) (x : Int) : (intCells (rowF N f)).set i (.int .i64 x) = intCells (rowF N fun t => if t = i then x else f t) := by
  unfold intCells
  rw [← List.map_set]
  congr 1
  apply List.ext_getElem (by simp [rowF_len])
  intro j h1 h2
  rw [List.getElem_set, rowF_get, rowF_get]
  by_cases e : i = j
  · subst e; simp
  · rw [if_neg e, if_neg (fun h => e h.symm)]
theorem rowF_succ (x : Nat) (f : Nat → Int) : rowF (x + 1) f = rowF x f ++ [f x] := by unfold rowF; rw [List.range_succ, List.map_append]; rfl
end Go.Proofs.Ytcfgljfpkhefmaa
