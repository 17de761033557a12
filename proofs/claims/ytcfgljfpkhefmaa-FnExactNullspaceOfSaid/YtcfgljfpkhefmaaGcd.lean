/- The greatest common divisor of two numbers, as both sides find it. No condition. -/
import Derived.Test.YtcfgljfpkhefmaaIn
import Derived.Test.YtcfgljfpkhefmaaPrimM
import Derived.Lib.MinMax
import Derived.Deep.QuietTactic
import Derived.BigQuiet
namespace Go.Proofs.Ytcfgljfpkhefmaa
open Go.RowKit

/-- A number that is not too large. -/
def OkG (a : Int) : Prop := -9000000000000000000 ≤ a ∧ a ≤ 9000000000000000000
instance (a : Int) : Decidable (OkG a) := by unfold OkG; exact inferInstance
def gcdV (a b : Int) : Int := if OkG a ∧ OkG b then (Int.gcd a b : Int) else 0
theorem l1In_g (a : Int) (w : World) :
    Calls Try.prog 96 #[.int .i64 a, .int .i64 (-9000000000000000000), .int .i64 9000000000000000000] w fun e w' => e = .returned (.bool (decide (OkG a))) ∧ w = w' := by
  by_cases h : OkG a
  · rw [decide_eq_true h]; exact l1In_yes a _ _ w h.1 h.2
  · rw [decide_eq_false h]; exact l1In_no a _ _ w (by unfold OkG at h; omega)
theorem hasGcd_c (a : Int) (w : World) :
    Calls Try.prog 106 #[.int .i64 a] w fun e w' => e = .returned (.bool (decide (OkG a))) ∧ w = w' := by
  by_cases h1 : -9000000000000000000 ≤ a
  · have h1' : decide (-9000000000000000000 ≤ a) = true := by simpa using h1
    by_cases h2 : a ≤ 9000000000000000000
    · have h2' : decide (a ≤ 9000000000000000000) = true := by simpa using h2
      rw [decide_eq_true (show OkG a from ⟨h1, h2⟩)]
      go_enter Try.func106, Try.ntmps106
      go_wp2
      go_ret
      exact ⟨rfl, rfl⟩
    · have h2' : decide (a ≤ 9000000000000000000) = false := by simp; omega
      rw [decide_eq_false (show ¬ OkG a from fun h => h2 h.2)]
      clear h2
      go_enter Try.func106, Try.ntmps106
      go_wp2
      go_ret
      exact ⟨rfl, rfl⟩
  · have h1' : decide (-9000000000000000000 ≤ a) = false := by simp; omega
    rw [decide_eq_false (show ¬ OkG a from fun h => h1 h.1)]
    clear h1
    go_enter Try.func106, Try.ntmps106
    go_wp2
    go_ret
    exact ⟨rfl, rfl⟩

set_option maxHeartbeats 2000000 in
set_option maxRecDepth 100000 in
theorem specGcd (a b : Int) (w : World) :
    Calls Try.prog 35 #[.int .i64 a, .int .i64 b] w fun e w' => e = .returned (.int .i64 (gcdV a b)) ∧ w = w' := by
  have HA := Lib.hid (l1In_g a w)
  have HB := Lib.hid (l1In_g b w)
  by_cases ha : OkG a
  · by_cases hb : OkG b
    · have hv : gcdV a b = (Int.gcd a b : Int) := if_pos ⟨ha, hb⟩
      rw [hv]
      rw [decide_eq_true ha] at HA
      rw [decide_eq_true hb] at HB
      obtain ⟨a1, a2⟩ := ha
      obtain ⟨b1, b2⟩ := hb
      clear hv
      obtain ⟨g, hg⟩ : ∃ g, (Int.gcd a b : Int) = g := ⟨_, rfl⟩
      rw [hg]
      have HG := Lib.hid hg
      clear hg
      go_enter Try.func35, Try.ntmps35
      go_wp2_with fail
      refine HA.out.mono ?_
      rintro e w1 ⟨rfl, rfl⟩
      go_wp2_with fail
      refine HB.out.mono ?_
      rintro e w1 ⟨rfl, rfl⟩
      go_wp2_with fail
      go_loopw [0, 1, 5] (fun x y _ wr => wr = w ∧ ∃ p q : Nat, x = .int .i64 p ∧ y = .int .i64 q ∧ p ≤ 9000000000000000000 ∧ q ≤ 9000000000000000000 ∧ (Nat.gcd p q : Int) = g) (fun _ y _ _ => (intOf y).toNat)
      case atStart => exact ⟨rfl, a.natAbs, b.natAbs, by congr 1; omega, by congr 1; omega, by omega, by omega, HG.out⟩
      case round =>
        obtain ⟨rfl, p, q, rfl, rfl, hp, hq, hpq⟩ := hrel
        have HPQ := Lib.hid hpq
        clear hpq
        by_cases h0 : 0 < q
        · have h0' : (0 : Int) < (q : Int) := by omega
          have hr : Int.tmod (p : Int) (q : Int) = ((p % q : Nat) : Int) := rfl
          have hlt := Nat.mod_lt p h0
          go_wp2_with fail
          go_roundw
          case rel => exact ⟨by simp, q, p % q, rfl, by go_num, hq, by omega, by rw [← HPQ.out, Nat.gcd_comm q, ← Nat.gcd_rec, Nat.gcd_comm]⟩
          case measure => simp [intOf]; omega
        · obtain rfl : q = 0 := by omega
          have hgp : (p : Int) = g := by rw [← HPQ.out, Nat.gcd_zero_right]
          go_wp2_with fail
          go_ret
          exact ⟨by simp [hgp], by simp⟩
    · have hv : gcdV a b = 0 := if_neg fun h => hb h.2
      rw [hv]
      rw [decide_eq_true ha] at HA
      rw [decide_eq_false hb] at HB
      clear hv ha hb
      go_enter Try.func35, Try.ntmps35
      go_wp2_with fail
      refine HA.out.mono ?_
      rintro e w1 ⟨rfl, rfl⟩
      go_wp2_with fail
      refine HB.out.mono ?_
      rintro e w1 ⟨rfl, rfl⟩
      go_wp2_with fail
      go_ret
      exact ⟨rfl, rfl⟩
  · have hv : gcdV a b = 0 := if_neg fun h => ha h.1
    rw [hv]
    rw [decide_eq_false ha] at HA
    clear hv ha
    go_enter Try.func35, Try.ntmps35
    go_wp2_with fail
    refine HA.out.mono ?_
    rintro e w1 ⟨rfl, rfl⟩
    go_wp2_with fail
    go_ret
    exact ⟨rfl, rfl⟩

set_option maxHeartbeats 2000000 in
set_option maxRecDepth 100000 in
theorem implGcd (a b : Int) (w : World) :
    Calls Try.prog 36 #[.int .i64 a, .int .i64 b] w fun e w' => e = .returned (.int .i64 (gcdV a b)) ∧ Below w.heap.size w w' := by
  have HA := Lib.hid (hasGcd_c a w)
  have HB := Lib.hid (hasGcd_c b w)
  by_cases ha : OkG a
  · by_cases hb : OkG b
    · have hv : gcdV a b = (Int.gcd a b : Int) := if_pos ⟨ha, hb⟩
      rw [hv]
      rw [decide_eq_true ha] at HA
      rw [decide_eq_true hb] at HB
      obtain ⟨a1, a2⟩ := ha
      obtain ⟨b1, b2⟩ := hb
      clear hv
      obtain ⟨g, hg⟩ : ∃ g, (Int.gcd a b : Int) = g := ⟨_, rfl⟩
      rw [hg]
      have HG := Lib.hid hg
      clear hg
      go_enter Try.func36, Try.ntmps36
      go_wp2_with fail
      refine HA.out.mono ?_
      rintro e w1 ⟨rfl, rfl⟩
      go_wp2_with fail
      refine HB.out.mono ?_
      rintro e w1 ⟨rfl, rfl⟩
      go_wp2_with fail
      go_loopw [0, 1] (fun x y wr => Below w.heap.size w wr ∧ ∃ p q : Int, x = .int .i64 p ∧ y = .int .i64 q ∧ OkG p ∧ OkG q ∧ (Nat.gcd p.natAbs q.natAbs : Int) = g) (fun _ y _ => (intOf y).natAbs)
      case atStart => exact ⟨Below.refl _ _, a, b, rfl, rfl, ⟨a1, a2⟩, ⟨b1, b2⟩, HG.out⟩
      case round =>
        obtain ⟨hbel, p, q, rfl, rfl, ⟨p1, p2⟩, ⟨q1, q2⟩, hpq⟩ := hrel
        have HPQ := Lib.hid hpq
        have HBL := Lib.hid hbel
        clear hpq hbel
        by_cases h0 : q = 0
        · subst h0
          have hgp : max p (-p) = g := by rw [← HPQ.out]; simp only [Int.natAbs_zero, Nat.gcd_zero_right]; omega
          go_wp2_with fail
          go_ret
          exact ⟨rfl, HBL.out⟩
        · have h0' : (q != 0) = true := by simpa using h0
          have hm := Int.natAbs_tmod p q
          have hlt := Nat.mod_lt p.natAbs (show 0 < q.natAbs by omega)
          have hstep := gcd_step p q
          obtain ⟨r, hr⟩ : ∃ r, Int.tmod p q = r := ⟨_, rfl⟩
          have hr1 : -9000000000000000000 ≤ r ∧ r ≤ 9000000000000000000 := by rw [hr] at hm; omega
          go_wp2_with fail
          go_quiet (fail)
          go_wp2_with fail
          go_roundw
          case rel => exact ⟨HBL.out.trans (below_drewN _ _ _), q, r, rfl, by go_num, ⟨q1, q2⟩, hr1, by rw [← HPQ.out, ← hstep, hr]⟩
          case measure => simp only [intOf]; rw [← hr, hm]; exact hlt
    · have hv : gcdV a b = 0 := if_neg fun h => hb h.2
      rw [hv]
      rw [decide_eq_true ha] at HA
      rw [decide_eq_false hb] at HB
      clear hv ha hb
      go_enter Try.func36, Try.ntmps36
      go_wp2_with fail
      refine HA.out.mono ?_
      rintro e w1 ⟨rfl, rfl⟩
      go_wp2_with fail
      refine HB.out.mono ?_
      rintro e w1 ⟨rfl, rfl⟩
      go_wp2_with fail
      go_ret
      exact ⟨rfl, Below.refl _ _⟩
  · have hv : gcdV a b = 0 := if_neg fun h => ha h.1
    rw [hv]
    rw [decide_eq_false ha] at HA
    clear hv ha
    go_enter Try.func36, Try.ntmps36
    go_wp2_with fail
    refine HA.out.mono ?_
    rintro e w1 ⟨rfl, rfl⟩
    go_wp2_with fail
    go_ret
    exact ⟨rfl, Below.refl _ _⟩
end Go.Proofs.Ytcfgljfpkhefmaa
