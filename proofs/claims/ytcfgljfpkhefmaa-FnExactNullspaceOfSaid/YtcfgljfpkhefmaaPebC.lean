/- How the laws compare, mark and measure a state of the pebble game. No condition. -/
import Derived.Test.YtcfgljfpkhefmaaPebB
namespace Go.Proofs.Ytcfgljfpkhefmaa
open Go.RowKit

set_option maxHeartbeats 2000000 in
set_option maxRecDepth 100000 in
theorem szInts_c (A : Option Addr) (n cap : Nat) (left : Int) (w : World) (hn : n ≤ 9223372036854775807) (h0 : 0 ≤ left) (h1 : left ≤ 1048576) :
    Calls Try.prog 95 #[.slice A n cap, .int .i64 left] w fun e w' => e = .returned (.int .i64 (if left - (n : Int) < 0 then -1 else left - (n : Int))) ∧ w = w' := by
  by_cases c : left - (n : Int) < 0
  all_goals
    first | rw [if_pos c] | rw [if_neg c]
    go_enter Try.func95, Try.ntmps95
    go_wp2_with fail
    go_ret
    exact ⟨rfl, rfl⟩

end Go.Proofs.Ytcfgljfpkhefmaa
