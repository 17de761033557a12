/- What the program's sets of points answer: has and size (the library's bits.OnesCount at numbers below 256). No condition. -/
import Derived.Test.YtimgkekllanhmaaSetM
namespace Go.Proofs.Ytimgkekllanhmaa
open Go.RowKit

theorem has_p (m v : Nat) (w : World) (hm : m < 256) (hv : v < 8) :
    Calls Try.prog 60 #[.int .u64 (m : Int), .int .i64 (v : Int)] w fun e w' => e = .returned (.bool (m.testBit v)) ∧ w = w' := by
  have hb := bit_and .u64 (.inr rfl) m hm v hv
  cases ht : m.testBit v
  all_goals
    rw [ht] at hb
    replace hb := hb.trans (by first | exact if_neg (by decide) | exact if_pos rfl)
    go_enter Try.func60, Try.ntmps60
    go_wp2
    go_ret
    exact ⟨rfl, rfl⟩

theorem ones_c (m : Nat) (w : World) (hm : m < 256) :
    Calls Try.prog 73 #[.int .u64 (m : Int)] w fun e w' => e = .returned (.int .i64 ((setL 8 m).length : Int)) ∧ w = w' := by
  have HM := Lib.hid hm
  clear hm
  go_enter Try.func73, Try.ntmps73
  go_wp2
  go_ret
  refine ⟨congrArg (fun z => Ending.returned (.int .i64 z)) ?_, rfl⟩
  have hm := HM.out
  clear HM
  revert m
  decide +kernel
theorem set_len8 : ∀ P : Nat, P ≤ 8 → ∀ m : Nat, m < 2 ^ P → (setL 8 m).length = (setL P m).length := by
  intro P hP
  have : P = 0 ∨ P = 1 ∨ P = 2 ∨ P = 3 ∨ P = 4 ∨ P = 5 ∨ P = 6 ∨ P = 7 ∨ P = 8 := by omega
  rcases this with rfl | rfl | rfl | rfl | rfl | rfl | rfl | rfl | rfl <;> decide +kernel
theorem size_p (P m : Nat) (w : World) (hP : P ≤ 8) (hm : m < 2 ^ P) :
    Calls Try.prog 61 #[.int .u64 (m : Int)] w fun e w' => e = .returned (.int .i64 ((setL P m).length : Int)) ∧ w = w' := by
  rw [← set_len8 P hP m hm]
  have hm8 : m < 256 := Nat.lt_of_lt_of_le hm (Nat.pow_le_pow_right (by decide) hP : 2 ^ P ≤ 2 ^ 8)
  clear hm
  go_enter Try.func61, Try.ntmps61
  go_wp2_with (first | (go_at_call 73; refine (ones_c m _ hm8).mono ?_; rintro e w1 ⟨rfl, rfl⟩) | go_in)
  go_ret
  exact ⟨rfl, rfl⟩
end Go.Proofs.Ytimgkekllanhmaa
