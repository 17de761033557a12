/- What spec.IsIndependent answers. No condition. -/
import Derived.Test.YtdkpmaahinbhlaaFqB1
import Derived.Test.YtdkpmaahinbhlaaFqL5S
import Derived.Test.YtdkpmaahinbhlaaFqRkS
namespace Go.Proofs.Ytdkpmaahinbhlaa
open Go.RowKit

set_option maxHeartbeats 4000000 in
set_option maxRecDepth 100000 in
theorem specInd (p k c : Int) (l : List (Int × Int)) (zs : List Int) (A Z : Option Addr) (cap cz lo hi : Nat) (w : World) (hl : BarsAt w w.heap.size A l) (hz : IntsIn w lo hi Z zs) (hn : l.length ≤ 1048576) (hnz : zs.length ≤ 1048576) :
    Calls Try.prog 48 #[.agg #[.int .i64 p, .slice A l.length cap], .int .i64 k, .int .i64 c, .slice Z zs.length cz] w fun e w' => e = .returned (.bool (indB p k c l zs)) ∧ Below w.heap.size w w' := by
  obtain ⟨rv, hrv⟩ : ∃ rv, indB p k c l zs = rv := ⟨_, rfl⟩
  rw [hrv]
  have HSET : ∀ W : World, BarsAt W W.heap.size A l → ∀ lo hi, IntsIn W lo hi Z zs → Calls Try.prog 138 #[.agg #[.int .i64 p, .slice A l.length cap], .slice Z zs.length cz] W fun e w' => e = .returned (.bool (setB p l zs)) ∧ Below W.heap.size W w' := fun W h lo hi h2 => l5Set_c p l A Z cap cz lo hi zs W h h2 hn hnz
  cases hs : setB p l zs with
  | false =>
    have HRV := Lib.hid (show rv = false from by rw [← hrv]; exact indB_set hs)
    clear hrv
    rw [hs] at HSET
    clear hs
    have W0 := Lib.hid (Below.refl w.heap.size w)
    have HB_0 := Lib.hid (bars_in hl)
    have HZ_0 := Lib.hid (hz)
    clear hl hz
    have Z1 := Lib.hid (within_alloc w (.cells #[.int .i64 p, (.slice A l.length cap)] 26)).size
    have W1 := Lib.hid (within_on W0.out (within_alloc w (.cells #[.int .i64 p, (.slice A l.length cap)] 26)) W0.out.size (.inr (Nat.le_refl _)))
    have HB_1 := Lib.hid (HB_0.out.within (within_alloc w (.cells #[.int .i64 p, (.slice A l.length cap)] 26)) (by omega))
    have HZ_1 := Lib.hid (HZ_0.out.within (within_alloc w (.cells #[.int .i64 p, (.slice A l.length cap)] 26)) (by omega))
    have Y1 := Lib.hid (show (w.alloc (.cells #[.int .i64 p, (.slice A l.length cap)] 26)).heap.size = w.heap.size + 1 by simp)
    have hnew := box_new w p (.slice A l.length cap) 26
    have BX_1 := Lib.hid hnew
    clear hnew
    go_enter Try.func48, Try.ntmps48
    obtain ⟨g0_0, g0_1, g0_2⟩ := BX_1.out
    go_wp2_with fail
    clear g0_0 g0_1 g0_2
    generalize (w.alloc (.cells #[.int .i64 p, (.slice A l.length cap)] 26)) = w1 at *
    refine (HSET _ HB_1.out.at _ _ HZ_1.out).mono ?_
    rintro e w2 ⟨rfl, hb⟩
    have Z2 := Lib.hid (within_of hb).size
    have W2 := Lib.hid (within_on W1.out (within_of hb) W1.out.size (.inr (Nat.le_refl _)))
    have HB_2 := Lib.hid (HB_1.out.within (within_of hb) (by omega))
    have HZ_2 := Lib.hid (HZ_1.out.within (within_of hb) (by omega))
    have BX_2 := Lib.hid (BX_1.out.within (within_of hb) (by omega))
    clear hb HSET
    go_wp2_with fail
    go_ret
    exact ⟨by rw [HRV.out]; rfl, W2.out⟩
  | true =>
    cases hr : rangeB k c with
    | false =>
      have HRV := Lib.hid (show rv = false from by rw [← hrv]; exact indB_rng hr)
      have HRG := Lib.hid hr
      clear hrv hr
      rw [hs] at HSET
      clear hs
      have W0 := Lib.hid (Below.refl w.heap.size w)
      have HB_0 := Lib.hid (bars_in hl)
      have HZ_0 := Lib.hid (hz)
      clear hl hz
      have Z1 := Lib.hid (within_alloc w (.cells #[.int .i64 p, (.slice A l.length cap)] 26)).size
      have W1 := Lib.hid (within_on W0.out (within_alloc w (.cells #[.int .i64 p, (.slice A l.length cap)] 26)) W0.out.size (.inr (Nat.le_refl _)))
      have HB_1 := Lib.hid (HB_0.out.within (within_alloc w (.cells #[.int .i64 p, (.slice A l.length cap)] 26)) (by omega))
      have HZ_1 := Lib.hid (HZ_0.out.within (within_alloc w (.cells #[.int .i64 p, (.slice A l.length cap)] 26)) (by omega))
      have Y1 := Lib.hid (show (w.alloc (.cells #[.int .i64 p, (.slice A l.length cap)] 26)).heap.size = w.heap.size + 1 by simp)
      have hnew := box_new w p (.slice A l.length cap) 26
      have BX_1 := Lib.hid hnew
      clear hnew
      go_enter Try.func48, Try.ntmps48
      obtain ⟨g0_0, g0_1, g0_2⟩ := BX_1.out
      go_wp2_with fail
      clear g0_0 g0_1 g0_2
      generalize (w.alloc (.cells #[.int .i64 p, (.slice A l.length cap)] 26)) = w1 at *
      refine (HSET _ HB_1.out.at _ _ HZ_1.out).mono ?_
      rintro e w2 ⟨rfl, hb⟩
      have Z2 := Lib.hid (within_of hb).size
      have W2 := Lib.hid (within_on W1.out (within_of hb) W1.out.size (.inr (Nat.le_refl _)))
      have HB_2 := Lib.hid (HB_1.out.within (within_of hb) (by omega))
      have HZ_2 := Lib.hid (HZ_1.out.within (within_of hb) (by omega))
      have BX_2 := Lib.hid (BX_1.out.within (within_of hb) (by omega))
      clear hb HSET
      go_wp2_with fail
      refine (specRange k c _).mono ?_
      rintro e w9 ⟨rfl, rfl⟩
      rw [HRG.out]
      go_wp2_with fail
      go_ret
      exact ⟨by rw [HRV.out]; rfl, W2.out⟩
    | true =>
      have HRG := Lib.hid hr
      have hq := indB_yes (c := c) hs hr
      rw [hrv] at hq
      have HRV := Lib.hid hq
      clear hrv hr hq
      rw [hs] at HSET
      clear hs
      have W0 := Lib.hid (Below.refl w.heap.size w)
      have HB_0 := Lib.hid (bars_in hl)
      have HZ_0 := Lib.hid (hz)
      clear hl hz
      have Z1 := Lib.hid (within_alloc w (.cells #[.int .i64 p, (.slice A l.length cap)] 26)).size
      have W1 := Lib.hid (within_on W0.out (within_alloc w (.cells #[.int .i64 p, (.slice A l.length cap)] 26)) W0.out.size (.inr (Nat.le_refl _)))
      have HB_1 := Lib.hid (HB_0.out.within (within_alloc w (.cells #[.int .i64 p, (.slice A l.length cap)] 26)) (by omega))
      have HZ_1 := Lib.hid (HZ_0.out.within (within_alloc w (.cells #[.int .i64 p, (.slice A l.length cap)] 26)) (by omega))
      have Y1 := Lib.hid (show (w.alloc (.cells #[.int .i64 p, (.slice A l.length cap)] 26)).heap.size = w.heap.size + 1 by simp)
      have hnew := box_new w p (.slice A l.length cap) 26
      have BX_1 := Lib.hid hnew
      clear hnew
      go_enter Try.func48, Try.ntmps48
      obtain ⟨g0_0, g0_1, g0_2⟩ := BX_1.out
      go_wp2_with fail
      clear g0_0 g0_1 g0_2
      generalize (w.alloc (.cells #[.int .i64 p, (.slice A l.length cap)] 26)) = w1 at *
      refine (HSET _ HB_1.out.at _ _ HZ_1.out).mono ?_
      rintro e w2 ⟨rfl, hb⟩
      have Z2 := Lib.hid (within_of hb).size
      have W2 := Lib.hid (within_on W1.out (within_of hb) W1.out.size (.inr (Nat.le_refl _)))
      have HB_2 := Lib.hid (HB_1.out.within (within_of hb) (by omega))
      have HZ_2 := Lib.hid (HZ_1.out.within (within_of hb) (by omega))
      have BX_2 := Lib.hid (BX_1.out.within (within_of hb) (by omega))
      clear hb HSET
      go_wp2_with fail
      refine (specRange k c _).mono ?_
      rintro e w9 ⟨rfl, rfl⟩
      rw [HRG.out]
      obtain ⟨g1_0, g1_1, g1_2⟩ := BX_2.out
      go_wp2_with fail
      clear g1_0 g1_1 g1_2
      refine (specRankSet p k c l zs A Z cap cz _ _ _ HB_2.out.at HZ_2.out hn hnz).mono ?_
      rintro e w3 ⟨rfl, hb⟩
      have Z3 := Lib.hid (within_of hb).size
      have W3 := Lib.hid (within_on W2.out (within_of hb) W2.out.size (.inr (Nat.le_refl _)))
      have HB_3 := Lib.hid (HB_2.out.within (within_of hb) (by omega))
      have HZ_3 := Lib.hid (HZ_2.out.within (within_of hb) (by omega))
      have BX_3 := Lib.hid (BX_2.out.within (within_of hb) (by omega))
      clear hb
      obtain ⟨r, hr⟩ : ∃ r, rankSV p k c l zs = r := ⟨_, rfl⟩
      rw [hr] at HRV ⊢
      clear hr
      go_wp2_with fail
      go_ret
      exact ⟨by rw [HRV.out]; first | rfl | simp, W3.out⟩
end Go.Proofs.Ytdkpmaahinbhlaa
