/- The laws' heldGraph: it finds in a graph the marks that were made. No condition. -/
import Derived.Test.YtehendofgcebcaaDoorState
namespace Go.Proofs.YtehendofgcebcaaDoor
open Go.RowKit

set_option maxHeartbeats 800000 in
set_option maxRecDepth 100000 in
theorem heldBarS_c (n : Nat) (A : Option Addr) (cap : Nat) (k : Int) (B : Nat) (w : World) (hl : BarsAt w B A (marks k n)) (hn : n ≤ 1048576) (hk0 : 0 ≤ k) (hk1 : k ≤ 10000000) :
    Calls Tryd.prog 61 #[.slice A n cap, .int .i64 k] w fun e w' => e = .returned (.int .i64 (k + 2 * (n : Int))) ∧ w = w' := by
  have HL := Lib.hid hl
  clear hl
  go_enter Tryd.func61, Tryd.ntmps61
  go_wp2_with fail
  go_loop [1, 5] (fun m i => ∃ j : Nat, j ≤ n ∧ i = .int .i64 j ∧ m = .int .i64 (k + 2 * (j : Int))) (fun _ i => n - (intOf i).toNat)
  case atStart => exact ⟨0, by omega, rfl, by simp⟩
  case round =>
    obtain ⟨j, hj, rfl, rfl⟩ := hrel
    by_cases hlt : j < n
    · have hi : (j : Int) < (n : Int) := by omega
      obtain ⟨b, off, rfl, hbB, hcell⟩ := HL.out (by rw [marks_len]; omega)
      have hc := hcell j (by rw [marks_len]; exact hlt)
      rw [marks_get k n j hlt] at hc
      obtain ⟨h1, h2⟩ := hc
      clear hcell
      go_wp2_with fail
      go_round
      case rel => exact ⟨j + 1, by omega, by go_num, by go_num⟩
      case measure => simp [intOf]; omega
    · obtain rfl : j = n := by omega
      go_wp2_with fail
      go_ret
      exact ⟨rfl, rfl⟩

set_option maxHeartbeats 400000 in
set_option maxRecDepth 100000 in
theorem heldGraph_c (p : Int) (n : Nat) (A : Option Addr) (cap : Nat) (k : Int) (w : World) (hl : BarsAt w w.heap.size A (marks k n)) (hn : n ≤ 1048576) (hk0 : 0 ≤ k) (hk1 : k ≤ 10000000) :
    Calls Tryd.prog 38 #[.agg #[.int .i64 p, .slice A n cap], .int .i64 k] w fun e w' => e = .returned (.int .i64 (k + 2 * (n : Int))) ∧ Below w.heap.size w w' := by
  have hA : Below w.heap.size w (w.alloc (.cells #[.int .i64 p, .slice A n cap] 32)) := (Below.refl _ _).alloc (Nat.le_refl _) _
  have HL := Lib.hid (hl.kept hA)
  have HA := Lib.hid hA
  clear hl hA
  go_enter Tryd.func38, Tryd.ntmps38
  go_wp2_with fail
  refine (heldBarS_c n A cap k _ _ HL.out hn hk0 hk1).mono ?_
  rintro e w1 ⟨rfl, rfl⟩
  go_wp2_with fail
  go_ret
  exact ⟨rfl, HA.out⟩
theorem heldGraph_o (p : Int) (n : Nat) (A : Option Addr) (cap : Nat) (k : Int) (lo hi : Nat) (w : World) (h : OwnIn w lo hi A cap (marks k n)) (hn : n ≤ 1048576) (hk0 : 0 ≤ k) (hk1 : k ≤ 10000000) :
    Calls Tryd.prog 38 #[.agg #[.int .i64 p, .slice A n cap], .int .i64 k] w fun e w' => e = .returned (.int .i64 (k + 2 * (n : Int))) ∧ Below w.heap.size w w' :=
  heldGraph_c p n A cap k w h.bars.at hn hk0 hk1
end Go.Proofs.YtehendofgcebcaaDoor
