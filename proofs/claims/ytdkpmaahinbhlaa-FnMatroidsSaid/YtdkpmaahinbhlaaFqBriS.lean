/- What spec.BridgesOf answers. No condition. -/
import Derived.Test.YtdkpmaahinbhlaaFqB2
import Derived.Test.YtdkpmaahinbhlaaFqRankS
import Derived.Test.YtdkpmaahinbhlaaFqB1
namespace Go.Proofs.Ytdkpmaahinbhlaa
open Go.RowKit

set_option maxHeartbeats 4000000 in
set_option maxRecDepth 100000 in
theorem specBri (p k c : Int) (l : List (Int × Int)) (A : Option Addr) (cap : Nat) (w : World) (hl : BarsAt w w.heap.size A l) (hn : l.length ≤ 1048576) (hA : ∃ a, A = some a) (hcap : l.length ≤ cap) :
    Calls Try.prog 50 #[.agg #[.int .i64 p, .slice A l.length cap], .int .i64 k, .int .i64 c] w (IntsO w (briV p k c l)) := by
  have HRK : ∀ W : World, BarsAt W W.heap.size A l → Calls Try.prog 46 #[.agg #[.int .i64 p, .slice A l.length cap], .int .i64 k, .int .i64 c] W fun e w' => e = .returned (.int .i64 (rankV p k c l)) ∧ Below W.heap.size W w' := fun W h => specRank p k c l A cap W h hn
  have HA := Lib.hid hA
  clear hA
  cases hb : runB p k c l with
  | false =>
    have HR := Lib.hid (briV_no hb)
    have hr : rankV p k c l = -1 := by unfold rankV; rw [hb]; rfl
    rw [hr] at HRK
    clear hb hr
    have W0 := Lib.hid (Below.refl w.heap.size w)
    have HB_0 := Lib.hid (bars_in hl)
    clear hl
    have Z1 := Lib.hid (within_alloc w (.cells #[.int .i64 p, (.slice A l.length cap)] 26)).size
    have W1 := Lib.hid (within_on W0.out (within_alloc w (.cells #[.int .i64 p, (.slice A l.length cap)] 26)) W0.out.size (.inr (Nat.le_refl _)))
    have HB_1 := Lib.hid (HB_0.out.within (within_alloc w (.cells #[.int .i64 p, (.slice A l.length cap)] 26)) (by omega))
    have Y1 := Lib.hid (show (w.alloc (.cells #[.int .i64 p, (.slice A l.length cap)] 26)).heap.size = w.heap.size + 1 by simp)
    have hnew := box_new w p (.slice A l.length cap) 26
    have BX_1 := Lib.hid hnew
    clear hnew
    have Z2 := Lib.hid (within_alloc (w.alloc (.cells #[.int .i64 p, (.slice A l.length cap)] 26)) (.cells #[] 3)).size
    have W2 := Lib.hid (within_on W1.out (within_alloc (w.alloc (.cells #[.int .i64 p, (.slice A l.length cap)] 26)) (.cells #[] 3)) W1.out.size (.inr (Nat.le_refl _)))
    have HB_2 := Lib.hid (HB_1.out.within (within_alloc (w.alloc (.cells #[.int .i64 p, (.slice A l.length cap)] 26)) (.cells #[] 3)) (by omega))
    have BX_2 := Lib.hid (BX_1.out.within (within_alloc (w.alloc (.cells #[.int .i64 p, (.slice A l.length cap)] 26)) (.cells #[] 3)) (by omega))
    have Y2 := Lib.hid (show ((w.alloc (.cells #[.int .i64 p, (.slice A l.length cap)] 26)).alloc (.cells #[] 3)).heap.size = (w.alloc (.cells #[.int .i64 p, (.slice A l.length cap)] 26)).heap.size + 1 by simp)
    have hown := ownR_empty (w.alloc (.cells #[.int .i64 p, (.slice A l.length cap)] 26))
    rw [show (w.alloc (.cells #[.int .i64 p, (.slice A l.length cap)] 26)).heap.size = w.heap.size + 1 by simp] at hown
    have OE_2 := Lib.hid hown
    clear hown
    go_enter Try.func50, Try.ntmps50
    obtain ⟨g0_0, g0_1, g0_2⟩ := BX_2.out
    go_wp2_with fail
    clear g0_0 g0_1 g0_2
    generalize ((w.alloc (.cells #[.int .i64 p, (.slice A l.length cap)] 26)).alloc (.cells #[] 3)) = w2 at *
    generalize (w.alloc (.cells #[.int .i64 p, (.slice A l.length cap)] 26)) = w1 at *
    refine (HRK _ HB_2.out.at).mono ?_
    rintro e w3 ⟨rfl, hb⟩
    have Z3 := Lib.hid (within_of hb).size
    have W3 := Lib.hid (within_on W2.out (within_of hb) W2.out.size (.inr (Nat.le_refl _)))
    have HB_3 := Lib.hid (HB_2.out.within (within_of hb) (by omega))
    have BX_3 := Lib.hid (BX_2.out.within (within_of hb) (by omega))
    have OE_3 := Lib.hid (OE_2.out.within (within_of hb) (by omega))
    clear hb HRK
    go_wp2_with fail
    go_loopw [7, 9] (fun u i wr => u = .slice (some ⟨w.heap.size + 1, 0, none⟩) 0 0 ∧ i = .int .i64 0 ∧ wr = w3) (fun _ _ _ => 0)
    case atStart => exact ⟨rfl, rfl, rfl⟩
    case round =>
      obtain ⟨rfl, rfl, rfl⟩ := hrel
      obtain ⟨_, g1, g2⟩ := BX_3.out
      by_cases h0 : 0 < l.length
      · have h0i : (0 : Int) < (l.length : Int) := by omega
        go_wp2_with fail
        go_ret
        exact ⟨some ⟨w.heap.size + 1, 0, none⟩, 0, by rw [HR.out]; rfl, by rw [HR.out]; exact ⟨Nat.le_refl _, .inl rfl⟩, W3.out⟩
      · have h0i : ¬ (0 : Int) < (l.length : Int) := by omega
        go_wp2_with fail
        go_ret
        exact ⟨some ⟨w.heap.size + 1, 0, none⟩, 0, by rw [HR.out]; rfl, by rw [HR.out]; exact ⟨Nat.le_refl _, .inl rfl⟩, W3.out⟩
  | true =>
    have HF := Lib.hid (briF hb)
    have hpos := HF.out.pos
    obtain ⟨r, hr⟩ : ∃ r, rankV p k c l = r := ⟨_, rfl⟩
    rw [hr] at HRK hpos
    have HR := Lib.hid hr
    clear hb hr
    have W0 := Lib.hid (Below.refl w.heap.size w)
    have HB_0 := Lib.hid (bars_in hl)
    clear hl
    have Z1 := Lib.hid (within_alloc w (.cells #[.int .i64 p, (.slice A l.length cap)] 26)).size
    have W1 := Lib.hid (within_on W0.out (within_alloc w (.cells #[.int .i64 p, (.slice A l.length cap)] 26)) W0.out.size (.inr (Nat.le_refl _)))
    have HB_1 := Lib.hid (HB_0.out.within (within_alloc w (.cells #[.int .i64 p, (.slice A l.length cap)] 26)) (by omega))
    have Y1 := Lib.hid (show (w.alloc (.cells #[.int .i64 p, (.slice A l.length cap)] 26)).heap.size = w.heap.size + 1 by simp)
    have hnew := box_new w p (.slice A l.length cap) 26
    have BX_1 := Lib.hid hnew
    clear hnew
    have Z2 := Lib.hid (within_alloc (w.alloc (.cells #[.int .i64 p, (.slice A l.length cap)] 26)) (.cells #[] 3)).size
    have W2 := Lib.hid (within_on W1.out (within_alloc (w.alloc (.cells #[.int .i64 p, (.slice A l.length cap)] 26)) (.cells #[] 3)) W1.out.size (.inr (Nat.le_refl _)))
    have HB_2 := Lib.hid (HB_1.out.within (within_alloc (w.alloc (.cells #[.int .i64 p, (.slice A l.length cap)] 26)) (.cells #[] 3)) (by omega))
    have BX_2 := Lib.hid (BX_1.out.within (within_alloc (w.alloc (.cells #[.int .i64 p, (.slice A l.length cap)] 26)) (.cells #[] 3)) (by omega))
    have Y2 := Lib.hid (show ((w.alloc (.cells #[.int .i64 p, (.slice A l.length cap)] 26)).alloc (.cells #[] 3)).heap.size = (w.alloc (.cells #[.int .i64 p, (.slice A l.length cap)] 26)).heap.size + 1 by simp)
    have hown := ownR_empty (w.alloc (.cells #[.int .i64 p, (.slice A l.length cap)] 26))
    rw [show (w.alloc (.cells #[.int .i64 p, (.slice A l.length cap)] 26)).heap.size = w.heap.size + 1 by simp] at hown
    have OE_2 := Lib.hid hown
    clear hown
    go_enter Try.func50, Try.ntmps50
    obtain ⟨g0_0, g0_1, g0_2⟩ := BX_2.out
    go_wp2_with fail
    clear g0_0 g0_1 g0_2
    generalize ((w.alloc (.cells #[.int .i64 p, (.slice A l.length cap)] 26)).alloc (.cells #[] 3)) = w2 at *
    generalize (w.alloc (.cells #[.int .i64 p, (.slice A l.length cap)] 26)) = w1 at *
    refine (HRK _ HB_2.out.at).mono ?_
    rintro e w3 ⟨rfl, hb⟩
    have Z3 := Lib.hid (within_of hb).size
    have W3 := Lib.hid (within_on W2.out (within_of hb) W2.out.size (.inr (Nat.le_refl _)))
    have HB_3 := Lib.hid (HB_2.out.within (within_of hb) (by omega))
    have BX_3 := Lib.hid (BX_2.out.within (within_of hb) (by omega))
    have OE_3 := Lib.hid (OE_2.out.within (within_of hb) (by omega))
    clear hb HRK
    go_wp2_with fail
    have HG0 := Lib.hid (show GrowP (w.heap.size + 1) (w.heap.size + 1 + 1) w3 w3 (briK p k c l 0) (some ⟨w.heap.size + 1, 0, none⟩) 0 (w.heap.size + 1) (w.heap.size + 1 + 1) from ⟨OE_3.out, .inl ⟨rfl, rfl⟩, (by have := Z1.out; have := Z2.out; have := Z3.out; have := Y1.out; have := Y2.out; omega), Within.refl _ _ _⟩)
    have hd0 : decide ((0 : Int) ≤ r) = true := decide_eq_true hpos
    go_loopw [7, 9] (fun u i wr => ∃ j : Nat, j ≤ l.length ∧ i = .int .i64 j ∧ ∃ Ao co lo2 hi2, u = .slice Ao (briK p k c l j).length co ∧ GrowP (w.heap.size + 1) (w.heap.size + 1 + 1) w3 wr (briK p k c l j) Ao co lo2 hi2) (fun _ i _ => l.length - (intOf i).toNat)
    case atStart => exact ⟨0, Nat.zero_le _, rfl, _, 0, _, _, rfl, HG0.out⟩
    case round =>
      obtain ⟨j, hj, rfl, Ao, co, lo2, hi2, rfl, hg⟩ := hrel
      have HG := Lib.hid hg
      have HBX2 := Lib.hid (BX_3.out.within hg.wi (.inl (Nat.lt_succ_self _)))
      obtain ⟨_, g1, g2⟩ := HBX2.out
      have HB8 := Lib.hid (HB_3.out.within hg.wi (.inl (Nat.le_succ _)))
      have hcl := briK_len p k c l j
      have HCL := Lib.hid hcl
      clear hg hcl
      by_cases hlt : j < l.length
      · have hji : (j : Int) < (l.length : Int) := by omega
        have HDJ := Lib.hid (HF.out.drop j hlt).2
        rw [HR.out] at HDJ
        obtain ⟨r2, hr2⟩ : ∃ r2, rankV p k c (remL p (j : Int) l) = r2 := ⟨_, rfl⟩
        rw [hr2] at HDJ
        have HR2 := Lib.hid hr2
        clear hr2
        by_cases c9 : r2 < r
        · have HN := Lib.hid (briK_in (p := p) (k := k) (c := c) (l := l) (n := j) (by have := HDJ.out; rw [decide_eq_true c9] at this; simpa using this.symm))
          go_wp2_with (first
            | (at_builtin; refine wpList_pushR _ rfl _ _ rfl lo2 hi2 Ao co (briK p k c l j) (j : Int) rfl HGF.out.row _ (by first | rfl | (simp only [World.size_setCell]; rfl)) (by have := HCL.out; omega) HGF.out.le ?_; intro A6 c6 w16 lo6 hi6 hr6 hor6 hw6; have HG6 := Lib.hid (HGF.out.push hr6 hor6 hw6); clear hr6 hor6 hw6)
            | (go_at_call 46; refine (specRank p k c (remL p (j : Int) l) A5 c5 _ HS6.out.at (remL_len p (j : Int) l hn)).mono ?_; rintro e w7 ⟨rfl, hb⟩; rw [HR2.out]; have HGF := Lib.hid (HG.out.below (below_on HB6.out hb HB6.out.size)); clear hb)
            | (go_at_call 143; refine (specRemove p (j : Int) l A cap _ HB8.out.at hn HA.out hcap).mono ?_; rintro e w5 ⟨A5, c5, rfl, hs, hb⟩; have HS5 := Lib.hid (bars_in hs); have HB5 := Lib.hid hb; have hal := new_below w5 (.cells #[.int .i64 p, .slice A5 (remL p (j : Int) l).length c5] 26); have HAL := Lib.hid hal; have HBX6 := Lib.hid (box_new w5 p (.slice A5 (remL p (j : Int) l).length c5) 26); have HS6 := Lib.hid (HS5.out.within (within_of hal) (.inr (Nat.zero_le _))); have HB6 := Lib.hid (below_on hb hal hb.size); obtain ⟨_, q1, q2⟩ := HBX6.out; clear hs hb hal))
          go_roundw
          case rel => exact ⟨j + 1, by omega, by go_num, A6, c6, lo6, hi6, by rw [HN.out]; simp, by rw [HN.out]; exact HG6.out⟩
          case measure => simp [intOf]; omega
        · have HN := Lib.hid (briK_out (p := p) (k := k) (c := c) (l := l) (n := j) (by have := HDJ.out; rw [decide_eq_false c9] at this; simpa using this.symm))
          go_wp2_with (first
            | (go_at_call 46; refine (specRank p k c (remL p (j : Int) l) A5 c5 _ HS6.out.at (remL_len p (j : Int) l hn)).mono ?_; rintro e w7 ⟨rfl, hb⟩; rw [HR2.out]; have HGF := Lib.hid (HG.out.below (below_on HB6.out hb HB6.out.size)); clear hb)
            | (go_at_call 143; refine (specRemove p (j : Int) l A cap _ HB8.out.at hn HA.out hcap).mono ?_; rintro e w5 ⟨A5, c5, rfl, hs, hb⟩; have HS5 := Lib.hid (bars_in hs); have HB5 := Lib.hid hb; have hal := new_below w5 (.cells #[.int .i64 p, .slice A5 (remL p (j : Int) l).length c5] 26); have HAL := Lib.hid hal; have HBX6 := Lib.hid (box_new w5 p (.slice A5 (remL p (j : Int) l).length c5) 26); have HS6 := Lib.hid (HS5.out.within (within_of hal) (.inr (Nat.zero_le _))); have HB6 := Lib.hid (below_on hb hal hb.size); obtain ⟨_, q1, q2⟩ := HBX6.out; clear hs hb hal))
          go_roundw
          case rel => exact ⟨j + 1, by omega, by go_num, Ao, co, lo2, hi2, by rw [HN.out], by rw [HN.out]; exact HGF.out⟩
          case measure => simp [intOf]; omega
      · obtain rfl : j = l.length := by omega
        go_wp2_with fail
        go_ret
        rw [HF.out.val]
        have hbs := W3.out.size
        exact ⟨Ao, co, rfl, HG.out.out (Nat.le_succ _) hbs, within_on W3.out HG.out.wi hbs (.inl (Nat.le_succ _))⟩
end Go.Proofs.Ytdkpmaahinbhlaa
