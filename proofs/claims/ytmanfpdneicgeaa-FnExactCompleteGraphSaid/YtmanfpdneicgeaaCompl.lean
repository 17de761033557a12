/- What CompleteGraph answers, the specification's and the program's. No condition. -/
import Derived.Test.YtmanfpdneicgeaaGBox
namespace Go.Proofs.Ytmanfpdneicgeaa
open Go.RowKit

/-- The bars from a to the points behind it, up to b. -/
def rowC (a b : Nat) : List (Int × Int) := (List.range (b - (a + 1))).map fun i => ((a : Int), ((a + 1 + i : Nat) : Int))
theorem rowC_nil (a : Nat) : rowC a (a + 1) = [] := by simp [rowC]
theorem rowC_succ (a b : Nat) (h : a + 1 ≤ b) : rowC a (b + 1) = rowC a b ++ [((a : Int), (b : Int))] := by
  unfold rowC
  rw [show b + 1 - (a + 1) = b - (a + 1) + 1 by omega, List.range_succ, List.map_append]
  simp
  omega
/-- The bars of the first a points to all n points behind them. -/
def allC (n : Nat) : Nat → List (Int × Int)
  | 0 => []
  | a + 1 => allC n a ++ rowC a n
theorem rowC_len (a b : Nat) : (rowC a b).length ≤ b := by simp [rowC]
theorem allC_len (n : Nat) : ∀ a, (allC n a).length ≤ a * n := by
  intro a
  induction a with
  | zero => simp [allC]
  | succ a ih =>
    rw [allC, List.length_append, Nat.succ_mul]
    have := rowC_len a n
    omega
/-- The answer's number of points, and its bars. -/
def compP (n : Int) : Int := if 1 ≤ n ∧ n ≤ 7 then n else 0
def compL (n : Int) : List (Int × Int) := if 1 ≤ n ∧ n ≤ 7 then allC n.toNat n.toNat else []
theorem compL_len (n : Int) : (compL n).length ≤ 1048576 := by
  unfold compL
  split
  · rename_i h
    have h1 := allC_len n.toNat n.toNat
    have h2 : n.toNat * n.toNat ≤ 7 * 7 := Nat.mul_le_mul (by omega) (by omega)
    omega
  · simp

end Go.Proofs.Ytmanfpdneicgeaa
