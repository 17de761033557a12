/- What spec.l5Set answers. No condition. -/
import Derived.Test.YtdkpmaahinbhlaaFqB1
import Derived.Deep.QuietTactic
import Derived.BigQuiet
import Derived.Deep.RegionHeld3
namespace Go.Proofs.Ytdkpmaahinbhlaa
open Go.RowKit

set_option maxHeartbeats 4000000 in
set_option maxRecDepth 100000 in
theorem l5Set_c (p : Int) (l : List (Int × Int)) (A AZ : Option Addr) (cap cZ lo hi : Nat) (Z : List Int) (w : World) (hl : BarsAt w w.heap.size A l) (hz : IntsIn w lo hi AZ Z) (hn : l.length ≤ 1048576) (hZ : Z.length ≤ 1048576) :
    Calls Try.prog 138 #[.agg #[.int .i64 p, .slice A l.length cap], .slice AZ Z.length cZ] w fun e w' => e = .returned (.bool (setB p l Z)) ∧ Below w.heap.size w w' := by
  have hA := new_below w (.cells #[.int .i64 p, .slice A l.length cap] 26)
  have HA := Lib.hid hA
  have HL := Lib.hid ((bars_in hl).within (within_of hA) (.inr (Nat.zero_le _)))
  have HZ := Lib.hid (hz.within (within_of hA) (.inr (Nat.zero_le _)))
  have BX := Lib.hid (box_new w p (.slice A l.length cap) 26)
  clear hl hz hA
  go_enter Try.func138, Try.ntmps138
  go_wp2_with fail
  generalize (w.alloc (.cells #[.int .i64 p, .slice A l.length cap] 26)) = w1 at *
  go_loopw [5] (fun i wr => ∃ j : Nat, j ≤ Z.length ∧ i = .int .i64 j ∧ (∀ u, u < j → OkS l.length Z u) ∧ Below w1.heap.size w1 wr) (fun i _ => Z.length - (intOf i).toNat)
  case atStart => exact ⟨0, Nat.zero_le _, rfl, fun u hu => absurd hu (Nat.not_lt_zero _), Below.refl _ _⟩
  case round =>
    obtain ⟨j, hj, rfl, hok, hb⟩ := hrel
    have HB := Lib.hid hb
    have HOK := Lib.hid hok
    have BX1 := Lib.hid (BX.out.kept hb)
    obtain ⟨_, g0, g1⟩ := BX1.out
    by_cases hlt : j < Z.length
    · have hji : (j : Int) < (Z.length : Int) := by omega
      obtain ⟨b, off, rfl, hzc⟩ := row_at (HZ.out.within (within_of hb) (.inr (Nat.zero_le _))) (by omega)
      have hz := hzc j hlt
      have HPREV := Lib.hid (fun h0 : 0 < j => hzc (j - 1) (by omega))
      have HDEF := Lib.hid (show OkS l.length Z j = ((0 ≤ Z.getD j 0 ∧ Z.getD j 0 < (l.length : Int)) ∧ (0 < j → Z.getD (j - 1) 0 < Z.getD j 0)) from rfl)
      have HBAD := Lib.hid (fun h : ¬ OkS l.length Z j => setB_bad (p := p) hlt h)
      clear hb hok hzc
      obtain ⟨z, hzd⟩ : ∃ z, Z.getD j 0 = z := ⟨_, rfl⟩
      obtain ⟨y, hyd⟩ : ∃ y, Z.getD (j - 1) 0 = y := ⟨_, rfl⟩
      rw [hzd] at hz HDEF
      rw [hyd] at HPREV HDEF
      clear hzd hyd
      by_cases c1 : z < 0
      · skip
        have Q := Lib.hid (HBAD.out fun h => by rw [HDEF.out] at h; omega)
        go_wp2_with fail
        go_big_quiet (fail)
        go_wp2_with fail
        go_ret
        exact ⟨by rw [Q.out]; rfl, below_on HA.out (HB.out.trans (below_drewN _ _ _)) HA.out.size⟩
      have d1 : decide (z < 0) = false := by simpa using c1
      obtain ⟨n, rfl⟩ : ∃ n : Nat, z = (n : Int) := ⟨z.toNat, by omega⟩
      have d1n : decide ((n : Int) < 0) = false := d1
      by_cases c2 : l.length ≤ n
      · skip
        have c2i : (l.length : Int) ≤ (n : Int) := by omega
        have Q := Lib.hid (HBAD.out fun h => by rw [HDEF.out] at h; omega)
        go_wp2_with fail
        go_big_quiet (fail)
        go_wp2_with fail
        go_ret
        exact ⟨by rw [Q.out]; rfl, below_on HA.out (HB.out.trans (below_drewN _ _ _)) HA.out.size⟩
      have c2i : ¬ (l.length : Int) ≤ (n : Int) := by omega
      have d2 : decide ((l.length : Int) ≤ (n : Int)) = false := by simpa using c2i
      have d2n : decide (l.length ≤ n) = false := by simpa using c2
      by_cases hj0 : j = 0
      · skip
        have d3 : decide ((0 : Int) < (j : Int)) = false := by simp; omega
        have d3n : decide (0 < j) = false := by simp; omega
        have HJ0 := Lib.hid hj0
        clear hj0
        have HN := Lib.hid (okS_snoc HOK.out (by rw [HDEF.out]; exact ⟨by omega, fun h => absurd h (by have := HJ0.out; omega)⟩))
        go_wp2_with fail
        go_big_quiet (fail)
        go_wp2_with fail
        go_roundw
        case rel => exact ⟨j + 1, by omega, by go_num, HN.out, HB.out.trans (below_drewN _ _ _)⟩
        case measure => simp [intOf]; omega
      · skip
        have d3 : decide ((0 : Int) < (j : Int)) = true := by simp; omega
        have d3n : decide (0 < j) = true := by simp; omega
        have hy := HPREV.out (by omega)
        have hjm : (j : Int) - 1 = ((j - 1 : Nat) : Int) := by omega
        have hjw : IntKind.i64.wrap ((j - 1 : Nat) : Int) = ((j - 1 : Nat) : Int) := IntWalk.i64_in _ (by omega)
        have hjl : ((j - 1 : Nat) : Int) < (Z.length : Int) := by omega
        have hjl2 : j - 1 < Z.length := by omega
        have HJ0 := Lib.hid hj0
        clear hj0
        by_cases c3 : (n : Int) ≤ y
        · skip
          have Q := Lib.hid (HBAD.out fun h => by rw [HDEF.out] at h; have := h.2 (by have := HJ0.out; omega); omega)
          go_wp2_with fail
          go_big_quiet (fail)
          go_wp2_with fail
          go_ret
          exact ⟨by rw [Q.out]; rfl, below_on HA.out (HB.out.trans (below_drewN _ _ _)) HA.out.size⟩
        have d4 : decide ((n : Int) ≤ y) = false := by simpa using c3
        have HN := Lib.hid (okS_snoc HOK.out (by rw [HDEF.out]; exact ⟨by omega, fun _ => by omega⟩))
        go_wp2_with fail
        go_big_quiet (fail)
        go_wp2_with fail
        go_roundw
        case rel => exact ⟨j + 1, by omega, by go_num, HN.out, HB.out.trans (below_drewN _ _ _)⟩
        case measure => simp [intOf]; omega
    · obtain rfl : j = Z.length := by omega
      have HL1 := Lib.hid (HL.out.within (within_of hb) (.inr (Nat.zero_le _)))
      have HQ := Lib.hid (setB_all (p := p) HOK.out)
      clear hb hok
      go_wp2_with fail
      refine (specIsGraph' p l A cap _ HL1.out.at hn).mono ?_
      rintro e w2 ⟨rfl, hb⟩
      have HB2 := Lib.hid (below_on (below_on HA.out HB.out HA.out.size) hb (by have := HA.out.size; have := HB.out.size; omega))
      clear hb
      go_wp2_with fail
      go_ret
      exact ⟨by rw [HQ.out]; rfl, HB2.out⟩
end Go.Proofs.Ytdkpmaahinbhlaa
