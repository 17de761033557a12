/- What spec.DecodeVarint answers, and that the law on DecodeVarint returns true: for every string. No condition. -/
import Derived.Test.YtooklpeiaedokaaDecVar
namespace Go.Proofs.Ytooklpeiaedokaa
open Go.RowKit

theorem le_lead (x : Int) (d : Nat) (r : Int) (hx : 0 ≤ x) (hr : 0 ≤ r) : x ≤ x * 128 ^ d + r := by
  have hp : (1 : Int) ≤ 128 ^ d := Int.pow_pos (by decide)
  have : x * 1 ≤ x * 128 ^ d := Int.mul_le_mul_of_nonneg_left hp hx
  omega

set_option maxHeartbeats 400000 in
set_option maxRecDepth 100000 in
theorem specDecV (s : ByteArray) (w : World) (hs : s.size ≤ maxLen) :
    Calls Try.prog 15 #[.string s] w fun e w' => e = .returned (.tuple #[.int .i64 (dvFrom s 7 0).1, .int .i64 (dvFrom s 7 0).2]) ∧ Below w.heap.size w w' := by
  unfold maxLen at hs
  go_enter Try.func15, Try.ntmps15
  go_wp2
  go_loopw [4] (fun c wr => ∃ k : Nat, k ≤ 7 ∧ k ≤ s.size ∧ c = .int .i64 ((k : Int) + 1) ∧ (∀ j, j < k → ¬ Enc s (j + 1)) ∧ Below w.heap.size w wr) (fun c _ => 8 - (intOf c).toNat)
  case atStart => exact ⟨0, by omega, by omega, rfl, fun j hj => absurd hj (by omega), Below.refl _ _⟩
  case round =>
    obtain ⟨k, hk7, hks, rfl, hno, hb⟩ := hrel
    have HN := Lib.hid hno
    have HB := Lib.hid hb
    have hbs := hb.size
    clear hno hb
    by_cases hlt : k < 7 ∧ k < s.size
    · obtain ⟨h7, hsz⟩ := hlt
      have hi : (k : Int) + 1 ≤ (s.size : Int) := by omega
      have hi7 : (k : Int) + 1 ≤ 7 := by omega
      go_wp2_with fail
      obtain ⟨wo, hwo⟩ : ∃ wo : World, wo = wr := ⟨_, rfl⟩
      subst hwo
      go_loop [5, 6] (fun n i => ∃ d : Nat, d ≤ k + 1 ∧ ∃ x : Int, 0 ≤ x ∧ x * 128 ^ d + leN s d = leN s (k + 1) ∧ i = .int .i64 ((d : Int) - 1) ∧ n = .int .i64 x) (fun _ i => (intOf i + 1).toNat)
      case atStart => exact ⟨k + 1, by omega, 0, by omega, by omega, by go_num, rfl⟩
      case round =>
        obtain ⟨d, hd, x, hx0, hx, rfl, rfl⟩ := hrel
        rcases d with _ | d
        · have hN := leN_bd7 s (k + 1) (by omega)
          have hxe : x = leN s (k + 1) := by rw [← hx]; simp [leN]
          obtain ⟨m, hm⟩ : ∃ m : Nat, leN s (k + 1) = (m : Int) := Int.eq_ofNat_of_zero_le hN.1
          have hm7 : m ≤ 562949953421311 := by omega
          obtain rfl : x = (m : Int) := by omega
          have HM7 := Lib.hid hm7
          have hk1 : (0 : Int) ≤ (k : Int) + 1 := by omega
          have htn : ((k : Int) + 1).toNat = k + 1 := by omega
          by_cases hE : Enc s (k + 1)
          · have hv := dv_of_enc (s := s) (k := k) (by omega) hE k 7 0 (by omega) (by omega)
            rw [hm] at hv
            have HV := Lib.hid hv
            have hcmp := Enc_true hm hE
            clear hx hxe hm hm7 hv hE hd hN
            go_wp2_with fail
            go_region_with (go_at_call 13; refine (specEncV_good m _ HM7.out).mono ?_; rintro e w1 ⟨rfl, hb1⟩)
            all_goals
              clear htn
              have HB1 := Lib.hid hb1
              clear hb1
              go_wp2_with fail
              go_ret2
              exact ⟨by rw [HV.out]; rfl, HB.out.trans (((Below.refl _ _).drew.trans HB1.out).mono (by simpa using hbs))⟩
          · have HE := Lib.hid hE
            have hcmp := Enc_false hm hE
            clear hx hxe hm hm7 hE hd hN
            go_wp2_with fail
            go_region_with (go_at_call 13; refine (specEncV_good m _ HM7.out).mono ?_; rintro e w1 ⟨rfl, hb1⟩)
            all_goals
              clear htn
              have HB1 := Lib.hid hb1
              clear hb1
              go_wp2_with fail
              go_roundw
              case rel =>
                refine ⟨k + 1, by omega, by omega, by go_num, ?_, HB.out.trans (((Below.refl _ _).drew.trans HB1.out).mono (by simpa using hbs))⟩
                intro j hj
                by_cases hjk : j = k
                · subst hjk; exact HE.out
                · exact HN.out j (by omega)
              case measure => simp [intOf]; omega
        · have hds : d < s.size := by omega
          have hb' := byteAt_bd s d
          have he := byteAt_eq s d hds
          have hb2 : 0 ≤ (s[d].toNat : Int) ∧ (s[d].toNat : Int) ≤ 255 := he ▸ hb'
          have hx' : (x * 128 + byteAt s d % 128) * 128 ^ d + leN s d = leN s (k + 1) := by
            rw [← hx, leN, Int.pow_succ]
            generalize (128 : Int) ^ d = p
            rw [Int.add_mul, Int.mul_assoc x 128 p, Int.mul_comm 128 p, Int.add_assoc, Int.add_comm (byteAt s d % 128 * p)]
          have hN := leN_bd7 s (k + 1) (by omega)
          have hle := le_lead (x * 128 + byteAt s d % 128) d (leN s d) (by omega) (leN_bd s d).1
          rw [hx'] at hle
          rw [he] at hle hx'
          have HX := Lib.hid hx'
          have hle' : x * 128 + (s[d].toNat : Int) % 128 ≤ 562949953421311 := by omega
          clear hx hx' he hN hle
          go_wp2_with fail
          go_round
          case rel => exact ⟨d, by omega, _, by omega, HX.out, by go_num, rfl⟩
          case measure => simp [intOf]
    · have hv := dv_none (s := s) (fun j hj hj2 => HN.out j (by omega)) 7 0 (by omega)
      have HV := Lib.hid hv
      clear hv
      by_cases h7 : (k : Int) + 1 ≤ 7
      · have h8 : (s.size : Int) < (k : Int) + 1 := by omega
        clear hlt
        go_wp2_with fail
        go_ret2
        exact ⟨by rw [HV.out]; rfl, HB.out⟩
      · clear hlt
        go_wp2_with fail
        go_ret2
        exact ⟨by rw [HV.out]; rfl, HB.out⟩

set_option maxHeartbeats 400000 in
theorem lawDecVar (s : ByteArray) (w : World) (hs : s.size ≤ maxLen) :
    Calls Try.prog 6 #[.string s] w fun e w' => e = .returned (.bool true) ∧ Below w.heap.size w w' := by
  have hs' := hs
  unfold maxLen at hs'
  by_cases hbig : 1048576 < (s.size : Int)
  · go_enter Try.func6, Try.ntmps6
    go_wp2_with fail
    go_ret
    exact ⟨rfl, Below.refl _ _⟩
  · go_enter Try.func6, Try.ntmps6
    go_wp2_with fail
    refine (specDecV s _ hs).mono ?_
    rintro e w1 ⟨rfl, hb1⟩
    go_wp2_with fail
    refine (implDecV s _ hs).mono ?_
    rintro e w2 ⟨rfl, hb2⟩
    go_wp2_with fail
    go_ret
    exact ⟨rfl, hb1.trans (hb2.mono hb1.size)⟩
end Go.Proofs.Ytooklpeiaedokaa
