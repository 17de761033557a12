/- The two kinds of steps in an array, and what the program's search finds. No condition. -/
import Derived.Test.YtdkpmaahinbhlaaFzFndW
import Derived.Test.YtdkpmaahinbhlaaFzUndM
namespace Go.Proofs.Ytdkpmaahinbhlaa
open Go.RowKit

theorem idx_kind0 (w : World) : (Instr.index 159 (.agg #[.int .i64 1, .int .i64 2]) (.int .i64 0)).run Try.prog w = .ok (.int .i64 1) w := by
  have h : Try.prog.underlying 159 = some (.array 2 3) := by kernel_rfl
  simp [Instr.index, run_underlying h, asIntOf, go_sem]
theorem idx_kind1 (w : World) : (Instr.index 159 (.agg #[.int .i64 1, .int .i64 2]) (.int .i64 1)).run Try.prog w = .ok (.int .i64 2) w := by
  have h : Try.prog.underlying 159 = some (.array 2 3) := by kernel_rfl
  simp [Instr.index, run_underlying h, asIntOf, go_sem]
theorem undo2_none {v : Int} {m : List (Int × Int)} (h : m.length ≤ 1) : undo2 v m = none := by
  have := nearL_len v m
  unfold undo2
  rw [if_neg (by omega)]
theorem undo3_none {p v : Int} {m : List (Int × Int)} (h : m.length ≤ 1) : undo3 p v m = none := by
  have := nearL_len v m
  unfold undo3
  rw [if_neg (by omega)]
theorem find_first2 {p : Int} {v : Nat} {m : List (Int × Int)} {x y : Stp × List (Int × Int)} (hu : undoF p m = some y) (h0 : fstN (fun v => undo2 (v : Int) m) v = none) (hv : (v : Int) < p) (hr : undo2 (v : Int) m = some x) : y = x := by
  have h7 := fstN_first (f := fun v => undo2 (v : Int) m) h0 hr p.toNat (by omega)
  unfold undoF at hu
  rw [h7] at hu
  exact (Option.some.inj hu).symm
theorem find_first3 {p : Int} {v : Nat} {m : List (Int × Int)} {x y : Stp × List (Int × Int)} (hu : undoF p m = some y) (h2 : fstN (fun v => undo2 (v : Int) m) p.toNat = none) (h0 : fstN (fun v => undo3 p (v : Int) m) v = none) (hv : (v : Int) < p) (hr : undo3 p (v : Int) m = some x) : y = x := by
  have h7 := fstN_first (f := fun v => undo3 p (v : Int) m) h0 hr p.toNat (by omega)
  unfold undoF at hu
  rw [h2] at hu
  dsimp only at hu
  rw [h7] at hu
  exact (Option.some.inj hu).symm
theorem set_last (m : Nat) (acc : List Stp) (x : Stp) : (List.replicate (m + 1) zS ++ acc).set m x = List.replicate m zS ++ x :: acc := by
  rw [List.replicate_succ', List.append_assoc, List.set_append_right _ _ (by simp)]
  simp
end Go.Proofs.Ytdkpmaahinbhlaa
