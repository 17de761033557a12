/- What spec.l4Tail answers: how many tails are a point. No condition. -/
import Derived.Test.YtggibhhdnlifcaaPebB
import Derived.Test.YtggibhhdnlifcaaPebN
namespace Go.Proofs.Ytggibhhdnlifcaa
open Go.RowKit

theorem count_take (T : List Int) (v : Int) (k : Nat) (h : k < T.length) : (T.take (k + 1)).count v = (T.take k).count v + if T.getD k 0 = v then 1 else 0 := by
  rw [take_getD T 0 k h, List.count_append, List.count_singleton]
  by_cases c : T.getD k 0 = v
  · rw [if_pos c, if_pos (by simpa using c)]
  · rw [if_neg c, if_neg (by simpa using c)]

set_option maxHeartbeats 1000000 in
set_option maxRecDepth 100000 in
theorem tail_c (AF AT AZ : Option Addr) (cF cT cZ lo hi : Nat) (F T Z : List Int) (v : Int) (w : World) (h : Peb3 w lo hi AF AT AZ F T Z) (hT : T.length ≤ 1048576) :
    Calls Try.prog 135 #[pebV AF F.length cF AT T.length cT AZ Z.length cZ, .int .i64 v] w fun e w' => e = .returned (.int .i64 (T.count v : Int)) ∧ Below w.heap.size w w' := by
  have hal := new_below w (.cells #[.slice AF F.length cF, .slice AT T.length cT, .slice AZ Z.length cZ] 63)
  have HB := Lib.hid hal
  have HC := Lib.hid (cel3_new w (.slice AF F.length cF) (.slice AT T.length cT) (.slice AZ Z.length cZ) 63)
  have HI := Lib.hid (h.t.within (within_of hal) (.inr (Nat.zero_le _)))
  clear hal h
  obtain ⟨_, c1, _, _⟩ := HC.out.cells
  go_enter Try.func135, Try.ntmps135
  go_wp2_with fail
  generalize (w.alloc (.cells #[.slice AF F.length cF, .slice AT T.length cT, .slice AZ Z.length cZ] 63)) = w1 at *
  go_loop [5, 6] (fun s i => ∃ k : Nat, k ≤ T.length ∧ i = .int .i64 k ∧ s = .int .i64 ((T.take k).count v : Int)) (fun _ i => T.length - (intOf i).toNat)
  case atStart => exact ⟨0, by omega, rfl, rfl⟩
  case round =>
    obtain ⟨k, hk, rfl, rfl⟩ := hrel
    by_cases hlt : k < T.length
    · have hi' : (k : Int) < (T.length : Int) := by omega
      obtain ⟨b, off, rfl, _, _, hcell⟩ := HI.out.2 (by omega)
      have hc := hcell k hlt
      have HS := Lib.hid (count_take T v k hlt)
      have hle : (T.take k).count v ≤ k := Nat.le_trans (List.count_le_length ..) (by simp; omega)
      obtain ⟨x, hx⟩ : ∃ x, T.getD k 0 = x := ⟨_, rfl⟩
      rw [hx] at hc HS
      clear hcell hx
      by_cases c : x = v
      · rw [if_pos c] at HS
        have hb : (x == v) = true := by simpa using c
        go_wp2_with fail
        go_round
        case rel => exact ⟨k + 1, by omega, by go_num, by rw [HS.out]; go_num⟩
        case measure => simp [intOf]; omega
      · rw [if_neg c] at HS
        have hb : (x == v) = false := by simpa using c
        go_wp2_with fail
        go_round
        case rel => exact ⟨k + 1, by omega, by go_num, by rw [HS.out]; rfl⟩
        case measure => simp [intOf]; omega
    · obtain rfl : k = T.length := by omega
      go_wp2_with fail
      go_ret
      exact ⟨rfl, HB.out⟩
end Go.Proofs.Ytggibhhdnlifcaa
