/- The laws' sameInts and at. No condition. -/
import Derived.Test.YtimgkekllanhmaaInts
import Derived.Test.YtimgkekllanhmaaCur
namespace Go.Proofs.Ytimgkekllanhmaa
open Go.RowKit

set_option maxHeartbeats 1000000 in
set_option maxRecDepth 100000 in
theorem sameInts_c (zs : List Int) (A A' : Option Addr) (cap cap' : Nat) (lo hi lo' hi' : Nat) (w : World) (hl : IntsIn w lo hi A zs) (hl' : IntsIn w lo' hi' A' zs) (hn : zs.length ≤ 1048576) :
    Calls Try.prog 32 #[.slice A zs.length cap, .slice A' zs.length cap'] w fun e w' => e = .returned (.bool true) ∧ Below w.heap.size w w' := by
  have HL := Lib.hid hl
  have HL' := Lib.hid hl'
  clear hl hl'
  go_enter Try.func32, Try.ntmps32
  go_wp2_with fail
  go_loopw [5] (fun i wr => ∃ k : Nat, k ≤ zs.length ∧ i = .int .i64 k ∧ ∃ m, wr = w.drewN m) (fun i _ => zs.length - (intOf i).toNat)
  case atStart => exact ⟨0, by omega, rfl, 0, rfl⟩
  case round =>
    obtain ⟨k, hk, rfl, m, rfl⟩ := hrel
    by_cases hlt : k < zs.length
    · have hi : (k : Int) < (zs.length : Int) := by omega
      obtain ⟨b, off, rfl, _, _, hcell⟩ := HL.out.2 (by omega)
      obtain ⟨b', off', rfl, _, _, hcell'⟩ := HL'.out.2 (by omega)
      have hc1 := hcell k hlt
      have hc2 := hcell' k hlt
      clear hcell hcell'
      obtain ⟨x, hx⟩ : ∃ x, zs.getD k 0 = x := ⟨_, rfl⟩
      rw [hx] at hc1 hc2
      clear hx
      go_wp2_with fail
      go_quiet (fail)
      go_wp2_with fail
      go_roundw
      case rel => exact ⟨k + 1, by omega, by go_num, m + nq, rfl⟩
      case measure => simp [intOf]; omega
    · go_wp2_with fail
      go_ret
      exact ⟨rfl, below_drewN _ _ _⟩


set_option maxRecDepth 100000 in
theorem at_c (i : Nat) (w : World) (B : Nat) (A : Option Addr) (len cap : Nat) (zs : Nat → Int) (hc : CodeIs w B A len zs) (hlen : len ≤ 1048576) (hi : i ≤ 1000) :
    Calls Try.prog 34 #[.slice A len cap, .int .i64 (i : Int)] w fun e w' => ∃ x : Int, (0 ≤ x ∧ x ≤ 255) ∧ e = .returned (.int .i64 x) ∧ w = w' := by
  by_cases hlt : i < len
  · have hi' : (i : Int) < (len : Int) := by omega
    obtain ⟨b, off, rfl, _, hcell⟩ := hc.2 (by omega)
    have hz := hc.1 i
    have hci := hcell i hlt
    clear hcell
    go_enter Try.func34, Try.ntmps34
    go_wp2
    go_ret
    exact ⟨_, hz, rfl, rfl⟩
  · have hi' : ¬ (i : Int) < (len : Int) := by omega
    go_enter Try.func34, Try.ntmps34
    go_wp2
    go_ret
    exact ⟨_, by constructor <;> omega, rfl, rfl⟩
end Go.Proofs.Ytimgkekllanhmaa
