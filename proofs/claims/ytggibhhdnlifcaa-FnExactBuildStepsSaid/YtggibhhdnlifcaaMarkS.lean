/- The laws' markStepS: it marks every cell of a row of steps of the call's own. No condition. -/
import Derived.Test.YtggibhhdnlifcaaToStep
namespace Go.Proofs.Ytggibhhdnlifcaa
open Go.RowKit

/-- The marks from k on. -/
def markS (k : Int) (i : Nat) : Stp := (k + 5 * (i : Int), k + 5 * (i : Int) + 1, k + 5 * (i : Int) + 1 + 1, k + 5 * (i : Int) + 1 + 1 + 1, k + 5 * (i : Int) + 1 + 1 + 1 + 1)
def marksS (k : Int) (n : Nat) : List Stp := (List.range n).map (markS k)
theorem marksS_len (k : Int) (n : Nat) : (marksS k n).length = n := by simp [marksS]
theorem marksS_step (k : Int) (l : List Stp) (i : Nat) (h : i < l.length) : (marksS k i ++ l.drop i).set i (markS k i) = marksS k (i + 1) ++ l.drop (i + 1) := by
  rw [List.set_append_right _ _ (by rw [marksS_len]; exact Nat.le_refl _), marksS_len, Nat.sub_self, List.drop_eq_getElem_cons h, List.set_cons_zero]
  unfold marksS
  rw [List.range_succ, List.map_append, List.append_assoc]
  rfl

set_option maxHeartbeats 4000000 in
set_option maxRecDepth 100000 in
theorem markSteps_c (g : Nat) (l : List Stp) (cap : Nat) (k : Int) (base : Nat) (w : World) (hown : w.ownsRow base 41 5 (.slice (some ⟨g, 0, none⟩) l.length cap) l.length (stepCells l)) (hn : l.length ≤ 1048576) (hk0 : 0 ≤ k) (hk1 : k ≤ 10000000) :
    Calls Try.prog 29 #[.slice (some ⟨g, 0, none⟩) l.length cap, .int .i64 k] w fun e w' => e = .returned (.int .i64 (k + 5 * (l.length : Int))) ∧ w'.ownsRow base 41 5 (.slice (some ⟨g, 0, none⟩) l.length cap) l.length (stepCells (marksS k l.length)) ∧ w.grownBy w' (some g) := by
  have HO := Lib.hid hown
  clear hown
  go_enter Try.func29, Try.ntmps29
  go_wp2_with fail
  go_loopw [1, 5] (fun m i wr => ∃ j : Nat, j ≤ l.length ∧ i = .int .i64 j ∧ m = .int .i64 (k + 5 * (j : Int)) ∧ wr.ownsRow base 41 5 (.slice (some ⟨g, 0, none⟩) l.length cap) l.length (stepCells (marksS k j ++ l.drop j)) ∧ w.grownBy wr (some g)) (fun _ i _ => l.length - (intOf i).toNat)
  case atStart => exact ⟨0, by omega, rfl, by simp, HO.out, World.grownBy.refl _ _⟩
  case round =>
    obtain ⟨j, hj, rfl, rfl, hown, hg⟩ := hrel
    have HG := Lib.hid hg
    clear hg
    by_cases hlt : j < l.length
    · have hi : (j : Int) < (l.length : Int) := by omega
      have hlen : (marksS k j ++ l.drop j).length = l.length := by rw [List.length_append, marksS_len, List.length_drop]; omega
      obtain ⟨g0, g1, g2, g3, g4⟩ := stepCells_get (marksS k j ++ l.drop j) j (by omega)
      have hd0 := (hown.cellAt (j * 5) (by omega)).trans g0
      have hd1 := (hown.cellAt (j * 5 + 1) (by omega)).trans g1
      have hd2 := (hown.cellAt (j * 5 + 2) (by omega)).trans g2
      have hd3 := (hown.cellAt (j * 5 + 3) (by omega)).trans g3
      have hd4 := (hown.cellAt (j * 5 + 4) (by omega)).trans g4
      have hf0 := hown.frozenAt (j * 5)
      have hf1 := hown.frozenAt (j * 5 + 1)
      have hf2 := hown.frozenAt (j * 5 + 2)
      have hf3 := hown.frozenAt (j * 5 + 3)
      have hf4 := hown.frozenAt (j * 5 + 4)
      have hst0 := hown.stored (j * 5) (.int .i64 (markS k j).1)
      have hst1 := hst0.1.stored (j * 5 + 1) (.int .i64 (markS k j).2.1)
      have hst2 := hst1.1.stored (j * 5 + 2) (.int .i64 (markS k j).2.2.1)
      have hst3 := hst2.1.stored (j * 5 + 3) (.int .i64 (markS k j).2.2.2.1)
      have hst4 := hst3.1.stored (j * 5 + 4) (.int .i64 (markS k j).2.2.2.2)
      have hg5 := ((((HG.out.trans_ hst0.2).trans_ hst1.2).trans_ hst2.2).trans_ hst3.2).trans_ hst4.2
      have hst5 := hst4.1
      rw [stepCells_set, marksS_step k l j hlt] at hst5
      simp only [markS] at hst5 hg5
      have HST := Lib.hid hst5
      have HG2 := Lib.hid hg5
      clear hst0 hst1 hst2 hst3 hst4 hst5 hg5 g0 g1 g2 g3 g4 hown hlen
      go_wp2_with fail
      go_roundw
      case rel => exact ⟨j + 1, by omega, by go_num, by go_num, HST.out, HG2.out⟩
      case measure => simp [intOf]; omega
    · obtain rfl : j = l.length := by omega
      rw [List.drop_length, List.append_nil] at hown
      go_wp2_with fail
      go_ret
      exact ⟨rfl, hown, HG.out⟩
end Go.Proofs.Ytggibhhdnlifcaa
