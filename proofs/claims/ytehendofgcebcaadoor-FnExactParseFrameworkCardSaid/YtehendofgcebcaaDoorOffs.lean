/- The program's small methods on places and offsets, and the comparison of offsets, bars and places. No condition. -/
import Derived.Test.YtehendofgcebcaaDoorFwM
import Derived.Test.YtehendofgcebcaaDoorPlq
import Derived.ChangeKeysEq
namespace Go.Proofs.YtehendofgcebcaaDoor
open Go.RowKit

theorem eqlBar (x y u v : Int) (w : World) : (binOp .eql 80 (.agg #[.int .i64 x, .int .i64 y]) (.agg #[.int .i64 u, .int .i64 v])).run Tryd.prog w = .ok (.bool (!neB x y u v)) w := by
  have u3 := Tryd.underlying3
  have a3 := Tryd.isAgg3
  have z3 := Tryd.sizeOf3
  have hS : Tryd.prog.underlying 80 = some (.struct (Tryd.prog.fieldsOf 80)) := by kernel_rfl
  have hp : Tryd.prog.stoodInHeld 80 = false := by kernel_rfl
  rw [run_eql_struct, show (10000 : Nat) = 9999 + 1 from rfl, run_equalIn_agg w 9999 80 _ _ hS hp]
  simp only [Program.fieldsOf, Tryd.underlying80]
  go_simp
  unfold neB
  by_cases h1 : x = u <;> by_cases h2 : y = v <;> simp [h1, h2]
theorem eqlPl (x y u v : Int) (w : World) : (binOp .eql 49 (.agg #[.int .i64 x, .int .i64 y]) (.agg #[.int .i64 u, .int .i64 v])).run Tryd.prog w = .ok (.bool (!neB x y u v)) w := by
  have u3 := Tryd.underlying3
  have a3 := Tryd.isAgg3
  have z3 := Tryd.sizeOf3
  have hS : Tryd.prog.underlying 49 = some (.struct (Tryd.prog.fieldsOf 49)) := by kernel_rfl
  have hp : Tryd.prog.stoodInHeld 49 = false := by kernel_rfl
  rw [run_eql_struct, show (10000 : Nat) = 9999 + 1 from rfl, run_equalIn_agg w 9999 49 _ _ hS hp]
  simp only [Program.fieldsOf, Tryd.underlying49]
  go_simp
  unfold neB
  by_cases h1 : x = u <;> by_cases h2 : y = v <;> simp [h1, h2]
theorem infoI : ∃ i, Tryd.prog.info? 3 = some i := by
  obtain ⟨i, h, _⟩ := info_parts infoInt
  exact ⟨i, h⟩
theorem eqlOff (x y u v : Int) (w : World) : (binOp .eql 86 (.agg #[.int .i64 x, .int .i64 y]) (.agg #[.int .i64 u, .int .i64 v])).run Tryd.prog w = .ok (.bool (!neB x y u v)) w := by
  have u3 := Tryd.underlying3
  have a3 := Tryd.isAgg3
  have z3 := Tryd.sizeOf3
  have ci : Tryd.prog.cellsOf 3 = 1 := by kernel_rfl
  obtain ⟨i, hi⟩ := infoI
  rw [run_eql_struct, show (10000 : Nat) = 9999 + 1 from rfl, run_equalIn_array w 9999 _ _ Tryd.underlying86 hi, ci]
  simp only [show List.range 2 = [0, 1] from rfl, Op.eqItems]
  go_simp
  unfold neB
  by_cases h1 : x = u <;> by_cases h2 : y = v <;> simp [h1, h2]

theorem onGrid_yes (x y : Int) (w : World) (h1 : 0 ≤ x) (h2 : x ≤ 4) (h3 : 0 ≤ y) (h4 : y ≤ 4) :
    Calls Tryd.prog 47 #[.agg #[.int .i64 x, .int .i64 y]] w fun e w' => e = .returned (.bool true) ∧ Below w.heap.size w w' := by
  go_enter Tryd.func47, Tryd.ntmps47
  go_wp2_with fail
  go_ret
  exact ⟨rfl, new_below _ _⟩
theorem onGrid_no (x y : Int) (w : World) (h : ¬ OnG (x, y)) :
    Calls Tryd.prog 47 #[.agg #[.int .i64 x, .int .i64 y]] w fun e w' => e = .returned (.bool false) ∧ Below w.heap.size w w' := by
  have h' : x < 0 ∨ (0 ≤ x ∧ 4 < x) ∨ (0 ≤ x ∧ x ≤ 4 ∧ y < 0) ∨ (0 ≤ x ∧ x ≤ 4 ∧ 0 ≤ y ∧ 4 < y) := by
    unfold OnG at h
    simp only at h
    omega
  clear h
  rcases h' with h1 | ⟨h1, h2⟩ | ⟨h1, h2, h3⟩ | ⟨h1, h2, h3, h4⟩
  all_goals
    go_enter Tryd.func47, Tryd.ntmps47
    go_wp2_with fail
    go_ret
    exact ⟨by first | rfl | (simp; done) | (simp; omega), new_below _ _⟩
theorem onGrid_c (x : Int × Int) (w : World) :
    Calls Tryd.prog 47 #[.agg #[.int .i64 x.1, .int .i64 x.2]] w fun e w' => e = .returned (.bool (decide (OnG x))) ∧ Below w.heap.size w w' := by
  by_cases h : OnG x
  · rw [decide_eq_true h]
    exact onGrid_yes _ _ w h.1.1 h.1.2 h.2.1 h.2.2
  · rw [decide_eq_false h]
    exact onGrid_no _ _ w h

theorem minus_c (a b : Int × Int) (w : World) (ha : OnG a) (hb : OnG b) :
    Calls Tryd.prog 66 #[.agg #[.int .i64 a.1, .int .i64 a.2], .agg #[.int .i64 b.1, .int .i64 b.2]] w fun e w' => e = .returned (.agg #[.int .i64 (a.1 - b.1), .int .i64 (a.2 - b.2)]) ∧ Below w.heap.size w w' := by
  obtain ⟨x, y⟩ := a
  obtain ⟨u, v⟩ := b
  obtain ⟨⟨a1, a2⟩, a3, a4⟩ := ha
  obtain ⟨⟨b1, b2⟩, b3, b4⟩ := hb
  simp only at a1 a2 a3 a4 b1 b2 b3 b4
  go_enter Tryd.func66, Tryd.ntmps66
  go_wp2_with fail
  refine bodyPost_ret (v := .agg #[.int .i64 (x - u), .int .i64 (y - v)]) (by simp [results, Tryd.results66, go_sem]) rfl ⟨rfl, ?_⟩
  repeat' first | exact Below.refl _ _ | refine Below.alloc ?_ (by simp; try omega) _

theorem sq_le (x : Int) (h1 : -4 ≤ x) (h2 : x ≤ 4) : 0 ≤ x * x ∧ x * x ≤ 16 := by
  have h := Int.mul_nonneg (show 0 ≤ 4 - x by omega) (show 0 ≤ 4 + x by omega)
  rw [Int.sub_mul, Int.mul_add, Int.mul_add] at h
  have h0 : 0 ≤ x * x := by
    rcases Int.le_total 0 x with h | h
    · exact Int.mul_nonneg h h
    · have := Int.mul_nonneg (show 0 ≤ -x by omega) (show 0 ≤ -x by omega)
      rwa [Int.neg_mul_neg] at this
  constructor <;> omega
end Go.Proofs.YtehendofgcebcaaDoor
