/- The laws' marks on a graph's bars (markBarS, heldBarS, markGraph, heldGraph): what is written into memory of its own is found there again. No condition. -/
import Derived.Test.YtehendofgcebcaaDoorBarEq
namespace Go.Proofs.YtehendofgcebcaaDoor
open Go.RowKit

/-- The bars that the marks from k on make. -/
def marks (k : Int) (n : Nat) : List (Int × Int) := (List.range n).map fun (i : Nat) => (k + 2 * (i : Int), k + 2 * (i : Int) + 1)
theorem marks_len (k : Int) (n : Nat) : (marks k n).length = n := by simp [marks]
theorem marks_get (k : Int) (n i : Nat) (h : i < n) : (marks k n).getD i (0, 0) = (k + 2 * (i : Int), k + 2 * (i : Int) + 1) := by simp [marks, List.getD, h]
theorem marks_step (k : Int) (l : List (Int × Int)) (i : Nat) (h : i < l.length) : (marks k i ++ l.drop i).set i (k + 2 * (i : Int), k + 2 * (i : Int) + 1) = marks k (i + 1) ++ l.drop (i + 1) := by
  rw [List.set_append_right _ _ (by rw [marks_len]; exact Nat.le_refl _), marks_len, Nat.sub_self, List.drop_eq_getElem_cons h, List.set_cons_zero]
  unfold marks
  rw [List.range_succ, List.map_append, List.append_assoc]
  rfl

set_option maxHeartbeats 800000 in
set_option maxRecDepth 100000 in
theorem markBarS_c (g : Nat) (l : List (Int × Int)) (cap : Nat) (k : Int) (base : Nat) (w : World) (hown : w.ownsRow base 80 2 (.slice (some ⟨g, 0, none⟩) l.length cap) l.length (barCells l)) (hn : l.length ≤ 1048576) (hk0 : 0 ≤ k) (hk1 : k ≤ 10000000) :
    Calls Tryd.prog 60 #[.slice (some ⟨g, 0, none⟩) l.length cap, .int .i64 k] w fun e w' => e = .returned (.int .i64 (k + 2 * (l.length : Int))) ∧ w'.ownsRow base 80 2 (.slice (some ⟨g, 0, none⟩) l.length cap) l.length (barCells (marks k l.length)) ∧ w.grownBy w' (some g) := by
  have HO := Lib.hid hown
  clear hown
  go_enter Tryd.func60, Tryd.ntmps60
  go_wp2_with fail
  go_loopw [1, 5] (fun m i wr => ∃ j : Nat, j ≤ l.length ∧ i = .int .i64 j ∧ m = .int .i64 (k + 2 * (j : Int)) ∧ wr.ownsRow base 80 2 (.slice (some ⟨g, 0, none⟩) l.length cap) l.length (barCells (marks k j ++ l.drop j)) ∧ w.grownBy wr (some g)) (fun _ i _ => l.length - (intOf i).toNat)
  case atStart => exact ⟨0, by omega, rfl, by simp, HO.out, World.grownBy.refl _ _⟩
  case round =>
    obtain ⟨j, hj, rfl, rfl, hown, hg⟩ := hrel
    have HG := Lib.hid hg
    clear hg
    by_cases hlt : j < l.length
    · have hi : (j : Int) < (l.length : Int) := by omega
      have hlen : (marks k j ++ l.drop j).length = l.length := by rw [List.length_append, marks_len, List.length_drop]; omega
      have hgc := barCells_get (marks k j ++ l.drop j) j (by omega)
      have hd1 := (hown.cellAt (j * 2) (by omega)).trans hgc.1
      have hd2 := (hown.cellAt (j * 2 + 1) (by omega)).trans hgc.2
      have hf1 := hown.frozenAt (j * 2)
      have hf2 := hown.frozenAt (j * 2 + 1)
      have hst1 := hown.stored (j * 2) (.int .i64 (k + 2 * (j : Int)))
      have hst2 := hst1.1.stored (j * 2 + 1) (.int .i64 (k + 2 * (j : Int) + 1))
      have HG2 := Lib.hid ((HG.out.trans_ hst1.2).trans_ hst2.2)
      have hst3 := hst2.1
      rw [barCells_set _ _ (k + 2 * (j : Int), k + 2 * (j : Int) + 1), marks_step k l j hlt] at hst3
      have HST := Lib.hid hst3
      clear hst1 hst2 hst3 hgc hown hlen
      go_wp2_with fail
      go_roundw
      case rel => exact ⟨j + 1, by omega, by go_num, by go_num, HST.out, HG2.out⟩
      case measure => simp [intOf]; omega
    · obtain rfl : j = l.length := by omega
      rw [List.drop_length, List.append_nil] at hown
      go_wp2_with fail
      go_ret
      exact ⟨rfl, hown, HG.out⟩

/-- Nothing is marked where there is no bar. -/
theorem markBarS_nil (A : Option Addr) (cap : Nat) (k : Int) (w : World) :
    Calls Tryd.prog 60 #[.slice A 0 cap, .int .i64 k] w fun e w' => e = .returned (.int .i64 k) ∧ w = w' := by
  go_enter Tryd.func60, Tryd.ntmps60
  go_wp2_with fail
  refine wp_loop_rounds 1 ?_
  rw [rounds_succ]
  go_wp2_with fail
  go_ret
  exact ⟨rfl, rfl⟩

set_option maxHeartbeats 400000 in
set_option maxRecDepth 100000 in
theorem markGraph_c (p : Int) (g : Nat) (l : List (Int × Int)) (cap : Nat) (k : Int) (base : Nat) (w : World) (hown : w.ownsRow base 80 2 (.slice (some ⟨g, 0, none⟩) l.length cap) l.length (barCells l)) (hn : l.length ≤ 1048576) (hk0 : 0 ≤ k) (hk1 : k ≤ 10000000) :
    Calls Tryd.prog 36 #[.agg #[.int .i64 p, .slice (some ⟨g, 0, none⟩) l.length cap], .int .i64 k] w fun e w' => e = .returned (.int .i64 (k + 2 * (l.length : Int))) ∧ w'.ownsRow base 80 2 (.slice (some ⟨g, 0, none⟩) l.length cap) l.length (barCells (marks k l.length)) ∧ w.grownBy w' (some g) := by
  have HO := Lib.hid (hown.alloc (.cells #[.int .i64 p, .slice (some ⟨g, 0, none⟩) l.length cap] 32))
  clear hown
  go_enter Tryd.func36, Tryd.ntmps36
  go_wp2_with fail
  refine (markBarS_c g l cap k base _ HO.out hn hk0 hk1).mono ?_
  rintro e w1 ⟨rfl, ho1, hg1⟩
  have HO1 := Lib.hid ho1
  have HG1 := Lib.hid ((World.grownBy_alloc w (.cells #[.int .i64 p, .slice (some ⟨g, 0, none⟩) l.length cap] 32) (some g)).trans_ hg1)
  clear ho1 hg1
  go_wp2_with fail
  go_ret
  exact ⟨rfl, HO1.out, HG1.out⟩
end Go.Proofs.YtehendofgcebcaaDoor
