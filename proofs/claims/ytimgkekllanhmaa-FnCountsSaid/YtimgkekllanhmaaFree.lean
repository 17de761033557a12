/- What CountFreedom answers, the specification's and the program's. No condition. -/
import Derived.Test.YtimgkekllanhmaaOverS
namespace Go.Proofs.Ytimgkekllanhmaa
open Go.RowKit

/-- How many bars are lacking of the count, or -1. -/
noncomputable def freeV (p k c : Int) (l : List (Int × Int)) : Int := if (isGB p l && rangeB k c) = true then (if k * p - c - (l.length : Int) < 0 then 0 else k * p - c - (l.length : Int)) else -1
theorem free_no {p k c : Int} {l : List (Int × Int)} (h : isGB p l = false ∨ rangeB k c = false) : freeV p k c l = -1 := by
  unfold freeV
  rw [if_neg]
  rcases h with h | h <;> rw [h] <;> simp

set_option maxHeartbeats 2000000 in
set_option maxRecDepth 100000 in
theorem specFree (p k c : Int) (l : List (Int × Int)) (A : Option Addr) (cap : Nat) (w : World) (hl : BarsAt w w.heap.size A l) (hn : l.length ≤ 1048576) :
    Calls Try.prog 26 #[.agg #[.int .i64 p, .slice A l.length cap], .int .i64 k, .int .i64 c] w fun e w' => e = .returned (.int .i64 (freeV p k c l)) ∧ Below w.heap.size w w' := by
  have hA := new_below w (.cells #[.int .i64 p, .slice A l.length cap] 30)
  have HA := Lib.hid hA
  have BX := Lib.hid (box_new w p (.slice A l.length cap) 30)
  have HISG := specIsGraph' p l A cap _ (hl.on hA) hn
  clear hl hA
  have hrr := specRange k c
  obtain ⟨_, g1, g2⟩ := BX.out
  rcases hg : isGB p l with _ | _
  · have HR := Lib.hid (free_no (k := k) (c := c) (.inl hg))
    rw [hg] at HISG
    clear hrr
    go_enter Try.func26, Try.ntmps26
    go_wp2_with (go_at_call 42; refine HISG.mono ?_; rintro e w2 ⟨rfl, hb⟩; have HB := Lib.hid (below_on HA.out hb HA.out.size); obtain ⟨_, g3, g4⟩ := BX.out.kept hb; clear HISG hb g1 g2)
    go_ret
    exact ⟨by rw [HR.out]; rfl, HB.out⟩
  · rw [hg] at HISG
    rcases hq : rangeB k c with _ | _
    · have HR := Lib.hid (free_no (p := p) (l := l) (.inr hq))
      rw [hq] at hrr
      go_enter Try.func26, Try.ntmps26
      go_wp2_with (first | (go_at_call 42; refine HISG.mono ?_; rintro e w2 ⟨rfl, hb⟩; have HB := Lib.hid (below_on HA.out hb HA.out.size); obtain ⟨_, g3, g4⟩ := BX.out.kept hb; clear HISG hb g1 g2) | (go_at_call 28; refine (hrr _).mono ?_; rintro e w3 ⟨rfl, rfl⟩; clear hrr))
      go_ret
      exact ⟨by rw [HR.out]; rfl, HB.out⟩
    · rw [hq] at hrr
      have hG : IsG p l := Classical.byContradiction fun g => by rw [isGB_no g] at hg; cases hg
      have hp := hG.1
      have h24 := hG.2.1
      have hk : 1 ≤ k ∧ k ≤ 3 ∧ 0 ≤ c ∧ c ≤ 2 * k - 1 := by simpa [rangeB, and_assoc] using hq
      have hkp : 0 ≤ k * p ∧ k * p ≤ 24 := by
        constructor
        · exact Int.mul_nonneg (by omega) (by omega)
        · calc k * p ≤ 3 * p := Int.mul_le_mul_of_nonneg_right (by omega) (by omega)
            _ ≤ 24 := by omega
      have HR := Lib.hid (show freeV p k c l = if k * p - c - (l.length : Int) < 0 then 0 else k * p - c - (l.length : Int) by unfold freeV; rw [if_pos (by rw [hg, hq]; rfl)])
      clear hG hg hq
      by_cases h0 : k * p - c - (l.length : Int) < 0
      · rw [if_pos h0] at HR
        go_enter Try.func26, Try.ntmps26
        go_wp2_with (first | (go_at_call 42; refine HISG.mono ?_; rintro e w2 ⟨rfl, hb⟩; have HB := Lib.hid (below_on HA.out hb HA.out.size); obtain ⟨_, g3, g4⟩ := BX.out.kept hb; clear HISG hb g1 g2) | (go_at_call 28; refine (hrr _).mono ?_; rintro e w3 ⟨rfl, rfl⟩; clear hrr))
        all_goals
          go_ret
          exact ⟨by rw [HR.out]; try simp; try omega, HB.out⟩
      · rw [if_neg h0] at HR
        go_enter Try.func26, Try.ntmps26
        go_wp2_with (first | (go_at_call 42; refine HISG.mono ?_; rintro e w2 ⟨rfl, hb⟩; have HB := Lib.hid (below_on HA.out hb HA.out.size); obtain ⟨_, g3, g4⟩ := BX.out.kept hb; clear HISG hb g1 g2) | (go_at_call 28; refine (hrr _).mono ?_; rintro e w3 ⟨rfl, rfl⟩; clear hrr))
        all_goals
          go_ret
          exact ⟨by rw [HR.out]; try simp; try omega, HB.out⟩

set_option maxHeartbeats 2000000 in
set_option maxRecDepth 100000 in
theorem implFree (p k c : Int) (l : List (Int × Int)) (A : Option Addr) (cap : Nat) (w : World) (hl : BarsAt w w.heap.size A l) (hn : l.length ≤ 1048576) :
    Calls Try.prog 27 #[.agg #[.int .i64 p, .slice A l.length cap], .int .i64 k, .int .i64 c] w fun e w' => e = .returned (.int .i64 (freeV p k c l)) ∧ Below w.heap.size w w' := by
  have hA := new_below w (.cells #[.int .i64 p, .slice A l.length cap] 30)
  have HA := Lib.hid hA
  have BX := Lib.hid (box_new w p (.slice A l.length cap) 30)
  have HISG := implIsGraph p l A cap _ (hl.on hA) hn
  clear hl hA
  have hrr := implRange k c
  obtain ⟨_, g1, g2⟩ := BX.out
  rcases hg : isGB p l with _ | _
  · have HR := Lib.hid (free_no (k := k) (c := c) (.inl hg))
    rw [hg] at HISG
    clear hrr
    go_enter Try.func27, Try.ntmps27
    go_wp2_with (go_at_call 43; refine HISG.mono ?_; rintro e w2 ⟨rfl, hb⟩; have HB := Lib.hid (below_on HA.out hb HA.out.size); obtain ⟨_, g3, g4⟩ := BX.out.kept hb; clear HISG hb g1 g2)
    go_ret
    exact ⟨by rw [HR.out]; rfl, HB.out⟩
  · rw [hg] at HISG
    rcases hq : rangeB k c with _ | _
    · have HR := Lib.hid (free_no (p := p) (l := l) (.inr hq))
      rw [hq] at hrr
      go_enter Try.func27, Try.ntmps27
      go_wp2_with (first | (go_at_call 43; refine HISG.mono ?_; rintro e w2 ⟨rfl, hb⟩; have HB := Lib.hid (below_on HA.out hb HA.out.size); obtain ⟨_, g3, g4⟩ := BX.out.kept hb; clear HISG hb g1 g2) | (go_at_call 29; refine (hrr _).mono ?_; rintro e w3 ⟨rfl, rfl⟩; clear hrr))
      go_ret
      exact ⟨by rw [HR.out]; rfl, HB.out⟩
    · rw [hq] at hrr
      have hG : IsG p l := Classical.byContradiction fun g => by rw [isGB_no g] at hg; cases hg
      have hp := hG.1
      have h24 := hG.2.1
      have hk : 1 ≤ k ∧ k ≤ 3 ∧ 0 ≤ c ∧ c ≤ 2 * k - 1 := by simpa [rangeB, and_assoc] using hq
      have hkp : 0 ≤ k * p ∧ k * p ≤ 24 := by
        constructor
        · exact Int.mul_nonneg (by omega) (by omega)
        · calc k * p ≤ 3 * p := Int.mul_le_mul_of_nonneg_right (by omega) (by omega)
            _ ≤ 24 := by omega
      have HR := Lib.hid (show freeV p k c l = if k * p - c - (l.length : Int) < 0 then 0 else k * p - c - (l.length : Int) by unfold freeV; rw [if_pos (by rw [hg, hq]; rfl)])
      clear hG hg hq
      by_cases h0 : k * p - c - (l.length : Int) < 0
      · rw [if_pos h0] at HR
        go_enter Try.func27, Try.ntmps27
        go_wp2_with (first | (go_at_call 43; refine HISG.mono ?_; rintro e w2 ⟨rfl, hb⟩; have HB := Lib.hid (below_on HA.out hb HA.out.size); obtain ⟨_, g3, g4⟩ := BX.out.kept hb; clear HISG hb g1 g2) | (go_at_call 29; refine (hrr _).mono ?_; rintro e w3 ⟨rfl, rfl⟩; clear hrr))
        all_goals
          go_ret
          exact ⟨by rw [HR.out]; try simp; try omega, HB.out⟩
      · rw [if_neg h0] at HR
        go_enter Try.func27, Try.ntmps27
        go_wp2_with (first | (go_at_call 43; refine HISG.mono ?_; rintro e w2 ⟨rfl, hb⟩; have HB := Lib.hid (below_on HA.out hb HA.out.size); obtain ⟨_, g3, g4⟩ := BX.out.kept hb; clear HISG hb g1 g2) | (go_at_call 29; refine (hrr _).mono ?_; rintro e w3 ⟨rfl, rfl⟩; clear hrr))
        all_goals
          go_ret
          exact ⟨by rw [HR.out]; try simp; try omega, HB.out⟩

end Go.Proofs.Ytimgkekllanhmaa
