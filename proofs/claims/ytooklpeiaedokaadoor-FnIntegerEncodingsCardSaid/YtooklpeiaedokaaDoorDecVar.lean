/- What spec.DecodeVarint and impl.DecodeVarint answer, and that the law on DecodeVarint returns true: for every string. No condition. -/
import Derived.Test.YtooklpeiaedokaaDoorDecVarM
import Derived.Deep.RegionWith
namespace Go.Proofs.YtooklpeiaedokaaDoor
open Go.RowKit

theorem wrapEq (x : Int) : IntKind.i64.wrap x = wrap64 x := by rw [IntKind.wrap_i64]; unfold wrap64; rfl

set_option maxHeartbeats 400000 in
set_option maxRecDepth 100000 in
theorem implDecV (s : ByteArray) (w : World) (hs : s.size ≤ maxLen) :
    Calls Tryd.prog 10 #[.string s] w fun e w' => e = .returned (.tuple #[.int .i64 (dvFrom s 7 0).1, .int .i64 (dvFrom s 7 0).2]) ∧ Below w.heap.size w w' := by
  unfold maxLen at hs
  go_enter Tryd.func10, Tryd.ntmps10
  go_wp2
  go_loop [4, 5] (fun n i => ∃ k : Nat, k ≤ 7 ∧ k ≤ s.size ∧ i = .int .i64 k ∧ n = .int .i64 (leN s k) ∧ dvFrom s 7 0 = dvFrom s (7 - k) k) (fun _ i => 7 - (intOf i).toNat)
  case atStart => exact ⟨0, by omega, by omega, rfl, rfl, rfl⟩
  case round =>
    obtain ⟨k, hk7, hks, rfl, rfl, hd⟩ := hrel
    by_cases hlt : k < 7 ∧ k < s.size
    · obtain ⟨h7, hsz⟩ := hlt
      have hb := byteAt_bd s k
      have hn := leN_bd7 s k hk7
      have he := byteAt_eq s k hsz
      have hb' : 0 ≤ (s[k].toNat : Int) ∧ (s[k].toNat : Int) ≤ 255 := he ▸ hb
      have hacc := leN_or s k h7 _ he
      have hn1 := leN_bd7 s (k + 1) (by omega)
      obtain ⟨m, hm⟩ : ∃ m : Nat, leN s (k + 1) = (m : Int) := Int.eq_ofNat_of_zero_le hn1.1
      have hm7 : m ≤ 562949953421311 := by omega
      have hdv : dvFrom s (7 - k) k = if byteAt s k < 128 then (if Enc s (k + 1) then (leN s (k + 1), ((k + 1 : Nat) : Int)) else (0, 0)) else dvFrom s (7 - (k + 1)) (k + 1) := by
        rw [show 7 - k = 7 - (k + 1) + 1 by omega, dvFrom, if_pos hsz]
      rw [he] at hdv
      have HE := Lib.hid he
      have HD := Lib.hid (hd.trans hdv)
      clear he hd hdv
      have hi : (k : Int) < (s.size : Int) := by omega
      have hi7 : (k : Int) < 7 := by omega
      by_cases hlow : (s[k].toNat : Int) < 128
      · rw [hm] at hacc
        have HM := Lib.hid hm
        have HM7 := Lib.hid hm7
        have hk1 : (0 : Int) ≤ (k : Int) + 1 := by omega
        have hk2 : (k : Int) + 1 ≤ (s.size : Int) := by omega
        by_cases hE : Enc s (k + 1)
        · have hv : dvFrom s 7 0 = ((m : Int), ((k + 1 : Nat) : Int)) := by rw [HD.out, if_pos hlow, if_pos hE, hm]
          have HV := Lib.hid hv
          have hcmp := Enc_true hm hE
          clear hm hm7 hv hE
          have hwr : IntKind.i64.wrap ((k : Int) + 1) = (k : Int) + 1 := IntWalk.i64_in _ (by omega)
          have htn : ((k : Int) + 1).toNat = k + 1 := by omega
          go_wp2_with fail
          go_region_with (go_at_call 9; refine (implEncV_good m _ HM7.out).mono ?_; rintro e w1 ⟨rfl, hb1⟩)
          all_goals
            clear hwr htn
            go_wp2_with fail
            go_ret2
            exact ⟨by rw [HV.out]; rfl, by first | exact hb1 | exact ((Below.refl _ _).drew).trans hb1⟩
        · have hv : dvFrom s 7 0 = (0, 0) := by rw [HD.out, if_pos hlow, if_neg hE]
          have HV := Lib.hid hv
          have hcmp := Enc_false hm hE
          clear hm hm7 hv hE
          have hwr : IntKind.i64.wrap ((k : Int) + 1) = (k : Int) + 1 := IntWalk.i64_in _ (by omega)
          have htn : ((k : Int) + 1).toNat = k + 1 := by omega
          go_wp2_with fail
          go_region_with (go_at_call 9; refine (implEncV_good m _ HM7.out).mono ?_; rintro e w1 ⟨rfl, hb1⟩)
          all_goals
            clear hwr htn
            go_wp2_with fail
            go_ret2
            exact ⟨by rw [HV.out]; rfl, by first | exact hb1 | exact ((Below.refl _ _).drew).trans hb1⟩
      · go_wp2_with fail
        go_round
        case rel => exact ⟨k + 1, by omega, by omega, by go_num, by first | rw [hacc] | rw [hm], by rw [HD.out, if_neg hlow]⟩
        case measure => simp [intOf]; omega
    · have hx : k = 7 ∨ k = s.size := by omega
      have hv : dvFrom s (7 - k) k = (0, 0) := by
        rcases hx with rfl | rfl
        · rfl
        · by_cases h7 : s.size = 7
          · rw [h7]; rfl
          · obtain ⟨f, hf⟩ : ∃ f, 7 - s.size = f + 1 := ⟨7 - s.size - 1, by omega⟩
            rw [hf, dvFrom, if_neg (by omega)]
      rw [hv] at hd
      have HD := Lib.hid hd
      clear hd hv
      by_cases hlen : (k : Int) < (s.size : Int)
      all_goals
        go_wp2_with fail
        go_ret2
        exact ⟨by rw [HD.out]; rfl, Below.refl _ _⟩
end Go.Proofs.YtooklpeiaedokaaDoor
