/- What FreePebbles answers, the specification's and the program's. No condition. -/
import Derived.Test.YtbmfdkaggbfmmaaPebA
namespace Go.Proofs.Ytbmfdkaggbfmmaa
open Go.RowKit

/-- A number as far as it can be one of pebbles. -/
def clampP (x : Int) : Int := if x < 0 then 0 else if 3 < x then 3 else x
def frN (F : List Int) : Nat → Int
  | 0 => 0
  | n + 1 => frN F n + clampP (F.getD n 0)
def freeP (F : List Int) : Int := if F.length ≤ 8 then frN F F.length else 0
theorem clampP_in (x : Int) : 0 ≤ clampP x ∧ clampP x ≤ 3 := by unfold clampP; omega
theorem frN_in (F : List Int) (n : Nat) : 0 ≤ frN F n ∧ frN F n ≤ 3 * (n : Int) := by
  induction n with
  | zero => exact ⟨Int.le_refl _, Int.le_refl _⟩
  | succ n ih =>
    have := clampP_in (F.getD n 0)
    unfold frN
    omega

set_option maxHeartbeats 2000000 in
set_option maxRecDepth 100000 in
theorem specFreeP (AF AT AZ : Option Addr) (cF cT cZ lo hi : Nat) (F T Z : List Int) (w : World) (h0 : Peb3 w lo hi AF AT AZ F T Z) (hF : F.length ≤ 1048576) :
    Calls Try.prog 29 #[pebV AF F.length cF AT T.length cT AZ Z.length cZ] w fun e w' => e = .returned (.int .i64 (freeP F)) ∧ Below w.heap.size w w' := by
  have h := h0.f
  clear h0
  have hal := new_below w (.cells #[.slice AF F.length cF, .slice AT T.length cT, .slice AZ Z.length cZ] 31)
  have HB := Lib.hid hal
  have HC := Lib.hid (cel3_new w (.slice AF F.length cF) (.slice AT T.length cT) (.slice AZ Z.length cZ) 31)
  have HI := Lib.hid (h.within (within_of hal) (.inr (Nat.zero_le _)))
  clear hal h
  by_cases h8 : F.length ≤ 8
  · have hv : freeP F = frN F F.length := if_pos h8
    have h8' : (F.length : Int) ≤ 8 := by omega
    have HV := Lib.hid hv
    clear hv
    obtain ⟨c0, _, _, _⟩ := HC.out.cells
    go_enter Try.func29, Try.ntmps29
    go_wp2_with fail
    generalize (w.alloc (.cells #[.slice AF F.length cF, .slice AT T.length cT, .slice AZ Z.length cZ] 31)) = w1 at *
    go_loop [3, 4] (fun s i => ∃ k : Nat, k ≤ F.length ∧ i = .int .i64 k ∧ s = .int .i64 (frN F k)) (fun _ i => F.length - (intOf i).toNat)
    case atStart => exact ⟨0, by omega, rfl, rfl⟩
    case round =>
      obtain ⟨k, hk, rfl, rfl⟩ := hrel
      by_cases hlt : k < F.length
      · have hi' : (k : Int) < (F.length : Int) := by omega
        obtain ⟨b, off, rfl, _, _, hcell⟩ := HI.out.2 (by omega)
        have hc := hcell k hlt
        have hin := frN_in F k
        have HS := Lib.hid (show frN F (k + 1) = frN F k + clampP (F.getD k 0) from rfl)
        obtain ⟨x, hx⟩ : ∃ x, F.getD k 0 = x := ⟨_, rfl⟩
        rw [hx] at hc HS
        clear hcell hx
        obtain ⟨s, hs⟩ : ∃ s, frN F k = s := ⟨_, rfl⟩
        rw [hs] at hin HS ⊢
        clear hs
        by_cases c1 : x < 0
        · have HK := Lib.hid (show clampP x = 0 by unfold clampP; rw [if_pos c1])
          go_wp2_with fail
          go_round
          case rel => exact ⟨k + 1, by omega, by go_num, by rw [HS.out, HK.out]; try go_num⟩
          case measure => simp [intOf]; omega
        · by_cases c2 : 3 < x
          · have HK := Lib.hid (show clampP x = 3 by unfold clampP; rw [if_neg c1, if_pos c2])
            go_wp2_with fail
            go_round
            case rel => exact ⟨k + 1, by omega, by go_num, by rw [HS.out, HK.out]; try go_num⟩
            case measure => simp [intOf]; omega
          · have HK := Lib.hid (show clampP x = x by unfold clampP; rw [if_neg c1, if_neg c2])
            go_wp2_with fail
            go_round
            case rel => exact ⟨k + 1, by omega, by go_num, by rw [HS.out, HK.out]; try go_num⟩
            case measure => simp [intOf]; omega
      · obtain rfl : k = F.length := by omega
        go_wp2_with fail
        go_ret
        exact ⟨by rw [HV.out]; rfl, HB.out⟩
  · have HV := Lib.hid (show freeP F = 0 from if_neg h8)
    have h8' : ¬ (F.length : Int) ≤ 8 := by omega
    have hp : (0 : Int) < (F.length : Int) := by omega
    obtain ⟨c0, _, _, _⟩ := HC.out.cells
    go_enter Try.func29, Try.ntmps29
    go_wp2_with fail
    refine wp_loop_rounds 1 ?_
    rw [rounds_succ]
    go_wp2_with fail
    go_ret
    exact ⟨by rw [HV.out]; rfl, HB.out⟩

set_option maxHeartbeats 2000000 in
set_option maxRecDepth 100000 in
theorem implFreeP (AF AT AZ : Option Addr) (cF cT cZ lo hi : Nat) (F T Z : List Int) (w : World) (h0 : Peb3 w lo hi AF AT AZ F T Z) (hF : F.length ≤ 1048576) :
    Calls Try.prog 23 #[pebV AF F.length cF AT T.length cT AZ Z.length cZ] w fun e w' => e = .returned (.int .i64 (freeP F)) ∧ Below w.heap.size w w' := by
  have h := h0.f
  clear h0
  have hal := new_below w (.cells #[.slice AF F.length cF, .slice AT T.length cT, .slice AZ Z.length cZ] 31)
  have HB := Lib.hid hal
  have HC := Lib.hid (cel3_new w (.slice AF F.length cF) (.slice AT T.length cT) (.slice AZ Z.length cZ) 31)
  have HI := Lib.hid (h.within (within_of hal) (.inr (Nat.zero_le _)))
  clear hal h
  by_cases h8 : F.length ≤ 8
  · have hv : freeP F = frN F F.length := if_pos h8
    have h8' : ¬ 8 < (F.length : Int) := by omega
    have HV := Lib.hid hv
    clear hv
    obtain ⟨c0, _, _, _⟩ := HC.out.cells
    go_enter Try.func23, Try.ntmps23
    go_wp2_with fail
    generalize (w.alloc (.cells #[.slice AF F.length cF, .slice AT T.length cT, .slice AZ Z.length cZ] 31)) = w1 at *
    go_loop [3, 13] (fun s i => ∃ k : Nat, k ≤ F.length ∧ i = .int .i64 k ∧ s = .int .i64 (frN F k)) (fun _ i => F.length - (intOf i).toNat)
    case atStart => exact ⟨0, by omega, rfl, rfl⟩
    case round =>
      obtain ⟨k, hk, rfl, rfl⟩ := hrel
      by_cases hlt : k < F.length
      · have hi' : (k : Int) < (F.length : Int) := by omega
        obtain ⟨b, off, rfl, _, _, hcell⟩ := HI.out.2 (by omega)
        have hc := hcell k hlt
        have hin := frN_in F k
        have HS := Lib.hid (show frN F (k + 1) = frN F k + clampP (F.getD k 0) from rfl)
        obtain ⟨x, hx⟩ : ∃ x, F.getD k 0 = x := ⟨_, rfl⟩
        rw [hx] at hc HS
        clear hcell hx
        obtain ⟨s, hs⟩ : ∃ s, frN F k = s := ⟨_, rfl⟩
        rw [hs] at hin HS ⊢
        clear hs
        by_cases c1 : x < 0
        · have HK := Lib.hid (show clampP x = 0 by unfold clampP; rw [if_pos c1])
          go_wp2_with fail
          go_round
          case rel => exact ⟨k + 1, by omega, by go_num, by rw [HS.out, HK.out]; try go_num⟩
          case measure => simp [intOf]; omega
        · by_cases c2 : 3 < x
          · have HK := Lib.hid (show clampP x = 3 by unfold clampP; rw [if_neg c1, if_pos c2])
            go_wp2_with fail
            go_round
            case rel => exact ⟨k + 1, by omega, by go_num, by rw [HS.out, HK.out]; try go_num⟩
            case measure => simp [intOf]; omega
          · have HK := Lib.hid (show clampP x = x by unfold clampP; rw [if_neg c1, if_neg c2])
            go_wp2_with fail
            go_round
            case rel => exact ⟨k + 1, by omega, by go_num, by rw [HS.out, HK.out]; try go_num⟩
            case measure => simp [intOf]; omega
      · obtain rfl : k = F.length := by omega
        go_wp2_with fail
        go_ret
        exact ⟨by rw [HV.out]; rfl, HB.out⟩
  · have HV := Lib.hid (show freeP F = 0 from if_neg h8)
    have h8' : 8 < (F.length : Int) := by omega
    obtain ⟨c0, _, _, _⟩ := HC.out.cells
    go_enter Try.func23, Try.ntmps23
    go_wp2_with fail
    go_ret
    exact ⟨by rw [HV.out]; rfl, HB.out⟩
end Go.Proofs.Ytbmfdkaggbfmmaa
