/- What spec.RejectedBars answers. No condition. -/
import Derived.Test.YtdkpmaahinbhlaaFqB2
import Derived.Test.YtdkpmaahinbhlaaFqRunS
import Derived.Test.YtdkpmaahinbhlaaFqB1
namespace Go.Proofs.Ytdkpmaahinbhlaa
open Go.RowKit

set_option maxHeartbeats 4000000 in
set_option maxRecDepth 100000 in
theorem specRej (p k c : Int) (l : List (Int × Int)) (A : Option Addr) (cap : Nat) (w : World) (hl : BarsAt w w.heap.size A l) (hn : l.length ≤ 1048576) :
    Calls Try.prog 23 #[.agg #[.int .i64 p, .slice A l.length cap], .int .i64 k, .int .i64 c] w (IntsO w (rejV p k c l)) := by
  cases hb : runB p k c l with
  | false =>
    have HR := Lib.hid (rejV_no hb)
    have HNW : ∀ W : World, BarsAt W W.heap.size A l → Calls Try.prog 17 #[.agg #[.int .i64 p, .slice A l.length cap], .int .i64 k, .int .i64 c] W (PebOB W (runV p k c l).1 (runV p k c l).2.1 (runV p k c l).2.2 false) := fun W h => by have hc := specRunP p k c l A cap W h hn; rw [hb] at hc; exact hc
    clear hb
    have W0 := Lib.hid (Below.refl w.heap.size w)
    have HB_0 := Lib.hid (bars_in hl)
    clear hl
    have Z1 := Lib.hid (within_alloc w (.cells #[.int .i64 p, (.slice A l.length cap)] 26)).size
    have W1 := Lib.hid (within_on W0.out (within_alloc w (.cells #[.int .i64 p, (.slice A l.length cap)] 26)) W0.out.size (.inr (Nat.le_refl _)))
    have HB_1 := Lib.hid (HB_0.out.within (within_alloc w (.cells #[.int .i64 p, (.slice A l.length cap)] 26)) (by omega))
    have Y1 := Lib.hid (show (w.alloc (.cells #[.int .i64 p, (.slice A l.length cap)] 26)).heap.size = w.heap.size + 1 by simp)
    have hnew := box_new w p (.slice A l.length cap) 26
    have BX_1 := Lib.hid hnew
    clear hnew
    have Z2 := Lib.hid (within_alloc (w.alloc (.cells #[.int .i64 p, (.slice A l.length cap)] 26)) (.cells #[] 3)).size
    have W2 := Lib.hid (within_on W1.out (within_alloc (w.alloc (.cells #[.int .i64 p, (.slice A l.length cap)] 26)) (.cells #[] 3)) W1.out.size (.inr (Nat.le_refl _)))
    have HB_2 := Lib.hid (HB_1.out.within (within_alloc (w.alloc (.cells #[.int .i64 p, (.slice A l.length cap)] 26)) (.cells #[] 3)) (by omega))
    have BX_2 := Lib.hid (BX_1.out.within (within_alloc (w.alloc (.cells #[.int .i64 p, (.slice A l.length cap)] 26)) (.cells #[] 3)) (by omega))
    have Y2 := Lib.hid (show ((w.alloc (.cells #[.int .i64 p, (.slice A l.length cap)] 26)).alloc (.cells #[] 3)).heap.size = (w.alloc (.cells #[.int .i64 p, (.slice A l.length cap)] 26)).heap.size + 1 by simp)
    have hown := ownR_empty (w.alloc (.cells #[.int .i64 p, (.slice A l.length cap)] 26))
    rw [show (w.alloc (.cells #[.int .i64 p, (.slice A l.length cap)] 26)).heap.size = w.heap.size + 1 by simp] at hown
    have OE_2 := Lib.hid hown
    clear hown
    go_enter Try.func23, Try.ntmps23
    obtain ⟨g0_0, g0_1, g0_2⟩ := BX_2.out
    go_wp2_with fail
    clear g0_0 g0_1 g0_2
    generalize ((w.alloc (.cells #[.int .i64 p, (.slice A l.length cap)] 26)).alloc (.cells #[] 3)) = w2 at *
    generalize (w.alloc (.cells #[.int .i64 p, (.slice A l.length cap)] 26)) = w1 at *
    refine (HNW _ HB_2.out.at).mono ?_
    rintro e w3 ⟨AF, cF, AT, cT, AZ, cZ, rfl, ho, hb⟩
    have Z3 := Lib.hid (within_of hb).size
    have W3 := Lib.hid (within_on W2.out (within_of hb) W2.out.size (.inr (Nat.le_refl _)))
    have HB_3 := Lib.hid (HB_2.out.within (within_of hb) (by omega))
    have BX_3 := Lib.hid (BX_2.out.within (within_of hb) (by omega))
    have OE_3 := Lib.hid (OE_2.out.within (within_of hb) (by omega))
    have OP_3 := Lib.hid (ho)
    clear ho hb
    have Z4 := Lib.hid (within_alloc w3 (.cells #[(.slice AF (runV p k c l).1.length cF), (.slice AT (runV p k c l).2.1.length cT), (.slice AZ (runV p k c l).2.2.length cZ)] 31)).size
    have W4 := Lib.hid (within_on W3.out (within_alloc w3 (.cells #[(.slice AF (runV p k c l).1.length cF), (.slice AT (runV p k c l).2.1.length cT), (.slice AZ (runV p k c l).2.2.length cZ)] 31)) W3.out.size (.inr (Nat.le_refl _)))
    have HB_4 := Lib.hid (HB_3.out.within (within_alloc w3 (.cells #[(.slice AF (runV p k c l).1.length cF), (.slice AT (runV p k c l).2.1.length cT), (.slice AZ (runV p k c l).2.2.length cZ)] 31)) (by omega))
    have BX_4 := Lib.hid (BX_3.out.within (within_alloc w3 (.cells #[(.slice AF (runV p k c l).1.length cF), (.slice AT (runV p k c l).2.1.length cT), (.slice AZ (runV p k c l).2.2.length cZ)] 31)) (by omega))
    have OE_4 := Lib.hid (OE_3.out.within (within_alloc w3 (.cells #[(.slice AF (runV p k c l).1.length cF), (.slice AT (runV p k c l).2.1.length cT), (.slice AZ (runV p k c l).2.2.length cZ)] 31)) (by omega))
    have OP_4 := Lib.hid (OP_3.out.within (within_alloc w3 (.cells #[(.slice AF (runV p k c l).1.length cF), (.slice AT (runV p k c l).2.1.length cT), (.slice AZ (runV p k c l).2.2.length cZ)] 31)) (by omega))
    have Y4 := Lib.hid (show (w3.alloc (.cells #[(.slice AF (runV p k c l).1.length cF), (.slice AT (runV p k c l).2.1.length cT), (.slice AZ (runV p k c l).2.2.length cZ)] 31)).heap.size = w3.heap.size + 1 by simp)
    have hnew := cel3_new w3 (.slice AF (runV p k c l).1.length cF) (.slice AT (runV p k c l).2.1.length cT) (.slice AZ (runV p k c l).2.2.length cZ) 31
    have BP_4 := Lib.hid hnew
    clear hnew
    go_wp2_with fail
    generalize (w3.alloc (.cells #[(.slice AF (runV p k c l).1.length cF), (.slice AT (runV p k c l).2.1.length cT), (.slice AZ (runV p k c l).2.2.length cZ)] 31)) = w4 at *
    go_loopw [7, 10] (fun u i wr => u = .slice (some ⟨w.heap.size + 1, 0, none⟩) 0 0 ∧ i = .int .i64 0 ∧ wr = w4) (fun _ _ _ => 0)
    case atStart => exact ⟨rfl, rfl, rfl⟩
    case round =>
      obtain ⟨rfl, rfl, rfl⟩ := hrel
      obtain ⟨_, g1, g2⟩ := BX_4.out
      by_cases hlt : 0 < l.length
      · have hji : (0 : Int) < (l.length : Int) := by omega
        go_wp2_with fail
        go_ret
        exact ⟨some ⟨w.heap.size + 1, 0, none⟩, 0, by rw [HR.out]; rfl, by rw [HR.out]; exact ⟨Nat.le_refl _, .inl rfl⟩, W4.out⟩
      · have hji : ¬ (0 : Int) < (l.length : Int) := by omega
        go_wp2_with fail
        go_ret
        exact ⟨some ⟨w.heap.size + 1, 0, none⟩, 0, by rw [HR.out]; rfl, by rw [HR.out]; exact ⟨Nat.le_refl _, .inl rfl⟩, W4.out⟩
  | true =>
    have HR := Lib.hid (rejV_yes hb)
    have HNW : ∀ W : World, BarsAt W W.heap.size A l → Calls Try.prog 17 #[.agg #[.int .i64 p, .slice A l.length cap], .int .i64 k, .int .i64 c] W (PebOB W (runV p k c l).1 (runV p k c l).2.1 (runV p k c l).2.2 true) := fun W h => by have hc := specRunP p k c l A cap W h hn; rw [hb] at hc; exact hc
    clear hb
    have W0 := Lib.hid (Below.refl w.heap.size w)
    have HB_0 := Lib.hid (bars_in hl)
    clear hl
    have Z1 := Lib.hid (within_alloc w (.cells #[.int .i64 p, (.slice A l.length cap)] 26)).size
    have W1 := Lib.hid (within_on W0.out (within_alloc w (.cells #[.int .i64 p, (.slice A l.length cap)] 26)) W0.out.size (.inr (Nat.le_refl _)))
    have HB_1 := Lib.hid (HB_0.out.within (within_alloc w (.cells #[.int .i64 p, (.slice A l.length cap)] 26)) (by omega))
    have Y1 := Lib.hid (show (w.alloc (.cells #[.int .i64 p, (.slice A l.length cap)] 26)).heap.size = w.heap.size + 1 by simp)
    have hnew := box_new w p (.slice A l.length cap) 26
    have BX_1 := Lib.hid hnew
    clear hnew
    have Z2 := Lib.hid (within_alloc (w.alloc (.cells #[.int .i64 p, (.slice A l.length cap)] 26)) (.cells #[] 3)).size
    have W2 := Lib.hid (within_on W1.out (within_alloc (w.alloc (.cells #[.int .i64 p, (.slice A l.length cap)] 26)) (.cells #[] 3)) W1.out.size (.inr (Nat.le_refl _)))
    have HB_2 := Lib.hid (HB_1.out.within (within_alloc (w.alloc (.cells #[.int .i64 p, (.slice A l.length cap)] 26)) (.cells #[] 3)) (by omega))
    have BX_2 := Lib.hid (BX_1.out.within (within_alloc (w.alloc (.cells #[.int .i64 p, (.slice A l.length cap)] 26)) (.cells #[] 3)) (by omega))
    have Y2 := Lib.hid (show ((w.alloc (.cells #[.int .i64 p, (.slice A l.length cap)] 26)).alloc (.cells #[] 3)).heap.size = (w.alloc (.cells #[.int .i64 p, (.slice A l.length cap)] 26)).heap.size + 1 by simp)
    have hown := ownR_empty (w.alloc (.cells #[.int .i64 p, (.slice A l.length cap)] 26))
    rw [show (w.alloc (.cells #[.int .i64 p, (.slice A l.length cap)] 26)).heap.size = w.heap.size + 1 by simp] at hown
    have OE_2 := Lib.hid hown
    clear hown
    go_enter Try.func23, Try.ntmps23
    obtain ⟨g0_0, g0_1, g0_2⟩ := BX_2.out
    go_wp2_with fail
    clear g0_0 g0_1 g0_2
    generalize ((w.alloc (.cells #[.int .i64 p, (.slice A l.length cap)] 26)).alloc (.cells #[] 3)) = w2 at *
    generalize (w.alloc (.cells #[.int .i64 p, (.slice A l.length cap)] 26)) = w1 at *
    refine (HNW _ HB_2.out.at).mono ?_
    rintro e w3 ⟨AF, cF, AT, cT, AZ, cZ, rfl, ho, hb⟩
    have Z3 := Lib.hid (within_of hb).size
    have W3 := Lib.hid (within_on W2.out (within_of hb) W2.out.size (.inr (Nat.le_refl _)))
    have HB_3 := Lib.hid (HB_2.out.within (within_of hb) (by omega))
    have BX_3 := Lib.hid (BX_2.out.within (within_of hb) (by omega))
    have OE_3 := Lib.hid (OE_2.out.within (within_of hb) (by omega))
    have OP_3 := Lib.hid (ho)
    clear ho hb
    have Z4 := Lib.hid (within_alloc w3 (.cells #[(.slice AF (runV p k c l).1.length cF), (.slice AT (runV p k c l).2.1.length cT), (.slice AZ (runV p k c l).2.2.length cZ)] 31)).size
    have W4 := Lib.hid (within_on W3.out (within_alloc w3 (.cells #[(.slice AF (runV p k c l).1.length cF), (.slice AT (runV p k c l).2.1.length cT), (.slice AZ (runV p k c l).2.2.length cZ)] 31)) W3.out.size (.inr (Nat.le_refl _)))
    have HB_4 := Lib.hid (HB_3.out.within (within_alloc w3 (.cells #[(.slice AF (runV p k c l).1.length cF), (.slice AT (runV p k c l).2.1.length cT), (.slice AZ (runV p k c l).2.2.length cZ)] 31)) (by omega))
    have BX_4 := Lib.hid (BX_3.out.within (within_alloc w3 (.cells #[(.slice AF (runV p k c l).1.length cF), (.slice AT (runV p k c l).2.1.length cT), (.slice AZ (runV p k c l).2.2.length cZ)] 31)) (by omega))
    have OE_4 := Lib.hid (OE_3.out.within (within_alloc w3 (.cells #[(.slice AF (runV p k c l).1.length cF), (.slice AT (runV p k c l).2.1.length cT), (.slice AZ (runV p k c l).2.2.length cZ)] 31)) (by omega))
    have OP_4 := Lib.hid (OP_3.out.within (within_alloc w3 (.cells #[(.slice AF (runV p k c l).1.length cF), (.slice AT (runV p k c l).2.1.length cT), (.slice AZ (runV p k c l).2.2.length cZ)] 31)) (by omega))
    have Y4 := Lib.hid (show (w3.alloc (.cells #[(.slice AF (runV p k c l).1.length cF), (.slice AT (runV p k c l).2.1.length cT), (.slice AZ (runV p k c l).2.2.length cZ)] 31)).heap.size = w3.heap.size + 1 by simp)
    have hnew := cel3_new w3 (.slice AF (runV p k c l).1.length cF) (.slice AT (runV p k c l).2.1.length cT) (.slice AZ (runV p k c l).2.2.length cZ) 31
    have BP_4 := Lib.hid hnew
    clear hnew
    go_wp2_with fail
    generalize (w3.alloc (.cells #[(.slice AF (runV p k c l).1.length cF), (.slice AT (runV p k c l).2.1.length cT), (.slice AZ (runV p k c l).2.2.length cZ)] 31)) = w4 at *
    have hlen := (runV_len p k c l).2.2
    have HLEN := Lib.hid hlen
    clear hlen
    have hzr := OP_4.out.reads.z
    have HZ := Lib.hid hzr
    clear hzr
    have HPB := Lib.hid (show w.heap.size + 1 + 1 ≤ w3.heap.size from (by have := Z1.out; have := Z2.out; have := Z3.out; have := Z4.out; have := Y1.out; have := Y2.out; have := Y4.out; omega))
    have HP0 := Lib.hid (show RejP (w.heap.size + 1) (w.heap.size + 1 + 1) w4 w4 (runV p k c l).2.2 0 (some ⟨w.heap.size + 1, 0, none⟩) 0 (w.heap.size + 1) (w.heap.size + 1 + 1) from ⟨OE_4.out, .inl ⟨rfl, rfl⟩, (by have := Z1.out; have := Z2.out; have := Z3.out; have := Z4.out; have := Y1.out; have := Y2.out; have := Y4.out; omega), Within.refl _ _ w4⟩)
    go_loopw [7, 10] (fun u i wr => ∃ j : Nat, j ≤ l.length ∧ i = .int .i64 j ∧ ∃ Ao co lo hi, u = .slice Ao (rejK (runV p k c l).2.2 j).length co ∧ RejP (w.heap.size + 1) (w.heap.size + 1 + 1) w4 wr (runV p k c l).2.2 j Ao co lo hi) (fun _ i _ => l.length - (intOf i).toNat)
    case atStart => exact ⟨0, Nat.zero_le _, rfl, _, 0, _, _, rfl, HP0.out⟩
    case round =>
      obtain ⟨j, hj, rfl, Ao, co, lo, hi, rfl, hst⟩ := hrel
      have HS := Lib.hid hst
      obtain ⟨_, g1, g2⟩ := BX_4.out.within hst.wi (.inl (Nat.lt_succ_self _))
      obtain ⟨c0, c1, c2, _, _, _⟩ := (BP_4.out.within hst.wi (.inr HPB.out)).cells
      have HZ2 := Lib.hid (HZ.out.within hst.wi (.inr (by have := Z1.out; have := Z2.out; have := Z3.out; have := Z4.out; have := Y1.out; have := Y2.out; have := Y4.out; omega)))
      clear hst
      by_cases hlt : j < l.length
      · have hji : (j : Int) < (l.length : Int) := by omega
        have hjr := rejK_len (runV p k c l).2.2 j
        by_cases hm : (j : Int) ∈ (runV p k c l).2.2
        · have HM := Lib.hid (decide_eq_true hm)
          have HN := Lib.hid (HS.out.same hm)
          have HK := Lib.hid (rejK_in hm)
          clear hm
          go_wp2_with (go_at_call 112; refine (has_c (runV p k c l).2.2 (j : Int) AZ cZ _ _ _ HZ2.out (by have := HLEN.out; omega)).mono ?_; rintro e w9 ⟨rfl, rfl⟩; rw [HM.out])
          go_roundw
          case rel => exact ⟨j + 1, by omega, by go_num, Ao, co, lo, hi, by rw [HK.out], HN.out⟩
          case measure => simp [intOf]; omega
        · have HM := Lib.hid (decide_eq_false hm)
          have HNM := Lib.hid hm
          have HK := Lib.hid (show (rejK (runV p k c l).2.2 (j + 1)).length = (rejK (runV p k c l).2.2 j).length + 1 by rw [rejK_out hm]; simp)
          clear hm
          go_wp2_with (first
            | (at_builtin; refine wpList_pushR _ rfl _ _ rfl lo hi Ao co (rejK (runV p k c l).2.2 j) (j : Int) rfl HS.out.row _ (by first | rfl | (simp only [World.size_setCell]; rfl)) (by omega) HS.out.le ?_; intro A5 c5 w15 lo5 hi5 hr5 hor5 hw5; have HN := Lib.hid (HS.out.push HNM.out hr5 hor5 hw5); clear hr5 hor5 hw5)
            | (go_at_call 112; refine (has_c (runV p k c l).2.2 (j : Int) AZ cZ _ _ _ HZ2.out (by have := HLEN.out; omega)).mono ?_; rintro e w9 ⟨rfl, rfl⟩; rw [HM.out]))
          go_roundw
          case rel => exact ⟨j + 1, by omega, by go_num, A5, c5, lo5, hi5, by rw [HK.out], HN.out⟩
          case measure => simp [intOf]; omega
      · obtain rfl : j = l.length := by omega
        go_wp2_with fail
        go_ret
        rw [HR.out]
        have hbs := W4.out.size
        exact ⟨Ao, co, rfl, HS.out.out (by omega) hbs, within_on W4.out HS.out.wi hbs (.inl (by omega))⟩
end Go.Proofs.Ytdkpmaahinbhlaa
