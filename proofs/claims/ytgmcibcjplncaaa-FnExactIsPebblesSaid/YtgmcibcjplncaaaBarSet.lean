/- What isBarSet answers. No condition. -/
import Derived.Test.YtgmcibcjplncaaaBarSetM
import Derived.Test.YtgmcibcjplncaaaIsGraphI
import Derived.Deep.QuietTactic
import Derived.BigQuiet
import Derived.Deep.RegionHeld3
namespace Go.Proofs.Ytgmcibcjplncaaa
open Go.RowKit

set_option maxHeartbeats 2000000 in
set_option maxRecDepth 100000 in
theorem isBarSet_c (p : Int) (l : List (Int × Int)) (A AZ : Option Addr) (cap cZ lo hi : Nat) (Z : List Int) (w : World) (hl : BarsAt w w.heap.size A l) (hz : IntsIn w lo hi AZ Z) (hn : l.length ≤ 1048576) (hZ : Z.length ≤ 1048576) :
    Calls Try.prog 88 #[.agg #[.int .i64 p, .slice A l.length cap], .slice AZ Z.length cZ] w fun e w' => e = .returned (.bool (setB p l Z)) ∧ Below w.heap.size w w' := by
  have hA := new_below w (.cells #[.int .i64 p, .slice A l.length cap] 35)
  have HA := Lib.hid hA
  have HL := Lib.hid ((bars_in hl).within (within_of hA) (.inr (Nat.zero_le _)))
  have HZ := Lib.hid (hz.within (within_of hA) (.inr (Nat.zero_le _)))
  have BX := Lib.hid (box_new w p (.slice A l.length cap) 35)
  clear hl hz hA
  go_enter Try.func88, Try.ntmps88
  go_wp2_with fail
  generalize (w.alloc (.cells #[.int .i64 p, .slice A l.length cap] 35)) = w1 at *
  go_loopw [5, 10] (fun la i wr => ∃ j : Nat, j ≤ Z.length ∧ i = .int .i64 j ∧ la = .int .i64 (lastP Z j) ∧ (∀ u, u < j → OkS l.length Z u) ∧ Below w1.heap.size w1 wr) (fun _ i _ => Z.length - (intOf i).toNat)
  case atStart => exact ⟨0, Nat.zero_le _, rfl, rfl, fun u hu => absurd hu (Nat.not_lt_zero _), Below.refl _ _⟩
  case round =>
    obtain ⟨j, hj, rfl, rfl, hok, hb⟩ := hrel
    have HB := Lib.hid hb
    have HOK := Lib.hid hok
    have BX1 := Lib.hid (BX.out.kept hb)
    obtain ⟨_, g0, g1⟩ := BX1.out
    by_cases hlt : j < Z.length
    · have hji : (j : Int) < (Z.length : Int) := by omega
      obtain ⟨b, off, rfl, hzc⟩ := row_at (HZ.out.within (within_of hb) (.inr (Nat.zero_le _))) (by omega)
      have hz := hzc j hlt
      have HLO := Lib.hid (lastP_ok hok)
      have HBAD := Lib.hid (fun h : ¬ OkS l.length Z j => setB_bad (p := p) hlt h)
      have HLN := Lib.hid (lastP_s Z j)
      clear hb hok hzc
      obtain ⟨y, hyd⟩ : ∃ y, Z.getD j 0 = y := ⟨_, rfl⟩
      obtain ⟨la, hla⟩ : ∃ la, lastP Z j = la := ⟨_, rfl⟩
      rw [hyd] at hz HLO HLN
      rw [hla] at HLO ⊢
      clear hyd hla
      by_cases c1 : y ≤ la
      · have Q := Lib.hid (HBAD.out fun h => by have := HLO.out.1 h; omega)
        have d1 : decide (y ≤ la) = true := by simpa using c1
        go_wp2_with fail
        go_ret
        exact ⟨by rw [Q.out]; rfl, below_on HA.out HB.out HA.out.size⟩
      · have d1 : decide (y ≤ la) = false := by simpa using c1
        by_cases c2 : (l.length : Int) ≤ y
        · have Q := Lib.hid (HBAD.out fun h => by have := HLO.out.1 h; omega)
          go_wp2_with fail
          go_ret
          exact ⟨by rw [Q.out]; rfl, below_on HA.out HB.out HA.out.size⟩
        · have HN := Lib.hid (okS_snoc HOK.out (HLO.out.2 ⟨by omega, by omega⟩))
          go_wp2_with fail
          go_roundw
          case rel => exact ⟨j + 1, by omega, by go_num, by rw [HLN.out], HN.out, HB.out⟩
          case measure => simp [intOf]; omega
    · obtain rfl : j = Z.length := by omega
      have HL1 := Lib.hid (HL.out.within (within_of hb) (.inr (Nat.zero_le _)))
      have HQ := Lib.hid (setB_all (p := p) HOK.out)
      clear hb hok
      go_wp2_with fail
      refine (implIsGraph p l A cap _ HL1.out.at hn).mono ?_
      rintro e w2 ⟨rfl, hb⟩
      have HB2 := Lib.hid (below_on (below_on HA.out HB.out HA.out.size) hb (by have := HA.out.size; have := HB.out.size; omega))
      clear hb
      go_wp2_with fail
      go_ret
      exact ⟨by rw [HQ.out]; rfl, HB2.out⟩
end Go.Proofs.Ytgmcibcjplncaaa
