/- What spec.ClosureOf answers. No condition. -/
import Derived.Test.YtdkpmaahinbhlaaFqB2
import Derived.Test.YtdkpmaahinbhlaaFqB1
import Derived.Test.YtdkpmaahinbhlaaFqL5S
import Derived.Test.YtdkpmaahinbhlaaFqRkS
import Derived.Test.YtdkpmaahinbhlaaFqCirI
import Derived.Deep.RegionHeld3
namespace Go.Proofs.Ytdkpmaahinbhlaa
open Go.RowKit

set_option maxHeartbeats 4000000 in
set_option maxRecDepth 100000 in
theorem specClo (p k c : Int) (l : List (Int × Int)) (zs : List Int) (A Z : Option Addr) (cap cz lo hi : Nat) (w : World) (hl : BarsAt w w.heap.size A l) (hz : IntsIn w lo hi Z zs) (hn : l.length ≤ 1048576) (hnz : zs.length ≤ 1048576) :
    Calls Try.prog 43 #[.agg #[.int .i64 p, .slice A l.length cap], .int .i64 k, .int .i64 c, .slice Z zs.length cz] w (IntsO w (cloV p k c l zs)) := by
  have HSET : ∀ W : World, BarsAt W W.heap.size A l → ∀ lo hi, IntsIn W lo hi Z zs → Calls Try.prog 138 #[.agg #[.int .i64 p, .slice A l.length cap], .slice Z zs.length cz] W fun e w' => e = .returned (.bool (setB p l zs)) ∧ Below W.heap.size W w' := fun W h lo hi h2 => l5Set_c p l A Z cap cz lo hi zs W h h2 hn hnz
  cases hs : setB p l zs with
  | false =>
    have HR := Lib.hid (cloV_no (k := k) (c := c) (.inl hs))
    rw [hs] at HSET
    clear hs
    have hzh := hz.1
    have W0 := Lib.hid (Below.refl w.heap.size w)
    have HB_0 := Lib.hid (bars_in hl)
    have HZ_0 := Lib.hid (hz)
    clear hl hz
    have Z1 := Lib.hid (within_alloc w (.cells #[.int .i64 p, (.slice A l.length cap)] 26)).size
    have W1 := Lib.hid (within_on W0.out (within_alloc w (.cells #[.int .i64 p, (.slice A l.length cap)] 26)) W0.out.size (.inr (Nat.le_refl _)))
    have HB_1 := Lib.hid (HB_0.out.within (within_alloc w (.cells #[.int .i64 p, (.slice A l.length cap)] 26)) (by omega))
    have HZ_1 := Lib.hid (HZ_0.out.within (within_alloc w (.cells #[.int .i64 p, (.slice A l.length cap)] 26)) (by omega))
    have Y1 := Lib.hid (show (w.alloc (.cells #[.int .i64 p, (.slice A l.length cap)] 26)).heap.size = w.heap.size + 1 by simp)
    have hnew := box_new w p (.slice A l.length cap) 26
    have BX_1 := Lib.hid hnew
    clear hnew
    have Z2 := Lib.hid (within_alloc (w.alloc (.cells #[.int .i64 p, (.slice A l.length cap)] 26)) (.cells #[] 3)).size
    have W2 := Lib.hid (within_on W1.out (within_alloc (w.alloc (.cells #[.int .i64 p, (.slice A l.length cap)] 26)) (.cells #[] 3)) W1.out.size (.inr (Nat.le_refl _)))
    have HB_2 := Lib.hid (HB_1.out.within (within_alloc (w.alloc (.cells #[.int .i64 p, (.slice A l.length cap)] 26)) (.cells #[] 3)) (by omega))
    have HZ_2 := Lib.hid (HZ_1.out.within (within_alloc (w.alloc (.cells #[.int .i64 p, (.slice A l.length cap)] 26)) (.cells #[] 3)) (by omega))
    have BX_2 := Lib.hid (BX_1.out.within (within_alloc (w.alloc (.cells #[.int .i64 p, (.slice A l.length cap)] 26)) (.cells #[] 3)) (by omega))
    have Y2 := Lib.hid (show ((w.alloc (.cells #[.int .i64 p, (.slice A l.length cap)] 26)).alloc (.cells #[] 3)).heap.size = (w.alloc (.cells #[.int .i64 p, (.slice A l.length cap)] 26)).heap.size + 1 by simp)
    have hown := ownR_empty (w.alloc (.cells #[.int .i64 p, (.slice A l.length cap)] 26))
    rw [show (w.alloc (.cells #[.int .i64 p, (.slice A l.length cap)] 26)).heap.size = w.heap.size + 1 by simp] at hown
    have OE_2 := Lib.hid hown
    clear hown
    go_enter Try.func43, Try.ntmps43
    obtain ⟨g0_0, g0_1, g0_2⟩ := BX_2.out
    go_wp2_with fail
    clear g0_0 g0_1 g0_2
    generalize ((w.alloc (.cells #[.int .i64 p, (.slice A l.length cap)] 26)).alloc (.cells #[] 3)) = w2 at *
    generalize (w.alloc (.cells #[.int .i64 p, (.slice A l.length cap)] 26)) = w1 at *
    refine (HSET _ HB_2.out.at _ _ HZ_2.out).mono ?_
    rintro e w3 ⟨rfl, hb⟩
    have Z3 := Lib.hid (within_of hb).size
    have W3 := Lib.hid (within_on W2.out (within_of hb) W2.out.size (.inr (Nat.le_refl _)))
    have HB_3 := Lib.hid (HB_2.out.within (within_of hb) (by omega))
    have HZ_3 := Lib.hid (HZ_2.out.within (within_of hb) (by omega))
    have BX_3 := Lib.hid (BX_2.out.within (within_of hb) (by omega))
    have OE_3 := Lib.hid (OE_2.out.within (within_of hb) (by omega))
    clear hb HSET
    go_wp2_with fail
    go_ret
    exact ⟨some ⟨w.heap.size + 1, 0, none⟩, 0, by rw [HR.out]; rfl, by rw [HR.out]; exact ⟨Nat.le_refl _, .inl rfl⟩, W3.out⟩
  | true =>
    cases hr : rangeB k c with
    | false =>
      have HR := Lib.hid (cloV_no (p := p) (l := l) (zs := zs) (.inr hr))
      have HRG := Lib.hid hr
      clear hr
      rw [hs] at HSET
      clear hs
      have hzh := hz.1
      have W0 := Lib.hid (Below.refl w.heap.size w)
      have HB_0 := Lib.hid (bars_in hl)
      have HZ_0 := Lib.hid (hz)
      clear hl hz
      have Z1 := Lib.hid (within_alloc w (.cells #[.int .i64 p, (.slice A l.length cap)] 26)).size
      have W1 := Lib.hid (within_on W0.out (within_alloc w (.cells #[.int .i64 p, (.slice A l.length cap)] 26)) W0.out.size (.inr (Nat.le_refl _)))
      have HB_1 := Lib.hid (HB_0.out.within (within_alloc w (.cells #[.int .i64 p, (.slice A l.length cap)] 26)) (by omega))
      have HZ_1 := Lib.hid (HZ_0.out.within (within_alloc w (.cells #[.int .i64 p, (.slice A l.length cap)] 26)) (by omega))
      have Y1 := Lib.hid (show (w.alloc (.cells #[.int .i64 p, (.slice A l.length cap)] 26)).heap.size = w.heap.size + 1 by simp)
      have hnew := box_new w p (.slice A l.length cap) 26
      have BX_1 := Lib.hid hnew
      clear hnew
      have Z2 := Lib.hid (within_alloc (w.alloc (.cells #[.int .i64 p, (.slice A l.length cap)] 26)) (.cells #[] 3)).size
      have W2 := Lib.hid (within_on W1.out (within_alloc (w.alloc (.cells #[.int .i64 p, (.slice A l.length cap)] 26)) (.cells #[] 3)) W1.out.size (.inr (Nat.le_refl _)))
      have HB_2 := Lib.hid (HB_1.out.within (within_alloc (w.alloc (.cells #[.int .i64 p, (.slice A l.length cap)] 26)) (.cells #[] 3)) (by omega))
      have HZ_2 := Lib.hid (HZ_1.out.within (within_alloc (w.alloc (.cells #[.int .i64 p, (.slice A l.length cap)] 26)) (.cells #[] 3)) (by omega))
      have BX_2 := Lib.hid (BX_1.out.within (within_alloc (w.alloc (.cells #[.int .i64 p, (.slice A l.length cap)] 26)) (.cells #[] 3)) (by omega))
      have Y2 := Lib.hid (show ((w.alloc (.cells #[.int .i64 p, (.slice A l.length cap)] 26)).alloc (.cells #[] 3)).heap.size = (w.alloc (.cells #[.int .i64 p, (.slice A l.length cap)] 26)).heap.size + 1 by simp)
      have hown := ownR_empty (w.alloc (.cells #[.int .i64 p, (.slice A l.length cap)] 26))
      rw [show (w.alloc (.cells #[.int .i64 p, (.slice A l.length cap)] 26)).heap.size = w.heap.size + 1 by simp] at hown
      have OE_2 := Lib.hid hown
      clear hown
      go_enter Try.func43, Try.ntmps43
      obtain ⟨g0_0, g0_1, g0_2⟩ := BX_2.out
      go_wp2_with fail
      clear g0_0 g0_1 g0_2
      generalize ((w.alloc (.cells #[.int .i64 p, (.slice A l.length cap)] 26)).alloc (.cells #[] 3)) = w2 at *
      generalize (w.alloc (.cells #[.int .i64 p, (.slice A l.length cap)] 26)) = w1 at *
      refine (HSET _ HB_2.out.at _ _ HZ_2.out).mono ?_
      rintro e w3 ⟨rfl, hb⟩
      have Z3 := Lib.hid (within_of hb).size
      have W3 := Lib.hid (within_on W2.out (within_of hb) W2.out.size (.inr (Nat.le_refl _)))
      have HB_3 := Lib.hid (HB_2.out.within (within_of hb) (by omega))
      have HZ_3 := Lib.hid (HZ_2.out.within (within_of hb) (by omega))
      have BX_3 := Lib.hid (BX_2.out.within (within_of hb) (by omega))
      have OE_3 := Lib.hid (OE_2.out.within (within_of hb) (by omega))
      clear hb HSET
      go_wp2_with fail
      refine (specRange k c _).mono ?_
      rintro e w9 ⟨rfl, rfl⟩
      rw [HRG.out]
      go_wp2_with fail
      go_ret
      exact ⟨some ⟨w.heap.size + 1, 0, none⟩, 0, by rw [HR.out]; rfl, by rw [HR.out]; exact ⟨Nat.le_refl _, .inl rfl⟩, W3.out⟩
    | true =>
      have HR := Lib.hid (cloV_yes hs hr)
      have HRG := Lib.hid hr
      have H24 := Lib.hid (show zs.length ≤ 1048560 from by have h1 := okS_len (setB_is hs).1; have h2 := (setB_is hs).2.2.1; omega)
      rw [hs] at HSET
      clear hs hr
      have hzh := hz.1
      have W0 := Lib.hid (Below.refl w.heap.size w)
      have HB_0 := Lib.hid (bars_in hl)
      have HZ_0 := Lib.hid (hz)
      clear hl hz
      have Z1 := Lib.hid (within_alloc w (.cells #[.int .i64 p, (.slice A l.length cap)] 26)).size
      have W1 := Lib.hid (within_on W0.out (within_alloc w (.cells #[.int .i64 p, (.slice A l.length cap)] 26)) W0.out.size (.inr (Nat.le_refl _)))
      have HB_1 := Lib.hid (HB_0.out.within (within_alloc w (.cells #[.int .i64 p, (.slice A l.length cap)] 26)) (by omega))
      have HZ_1 := Lib.hid (HZ_0.out.within (within_alloc w (.cells #[.int .i64 p, (.slice A l.length cap)] 26)) (by omega))
      have Y1 := Lib.hid (show (w.alloc (.cells #[.int .i64 p, (.slice A l.length cap)] 26)).heap.size = w.heap.size + 1 by simp)
      have hnew := box_new w p (.slice A l.length cap) 26
      have BX_1 := Lib.hid hnew
      clear hnew
      have Z2 := Lib.hid (within_alloc (w.alloc (.cells #[.int .i64 p, (.slice A l.length cap)] 26)) (.cells #[] 3)).size
      have W2 := Lib.hid (within_on W1.out (within_alloc (w.alloc (.cells #[.int .i64 p, (.slice A l.length cap)] 26)) (.cells #[] 3)) W1.out.size (.inr (Nat.le_refl _)))
      have HB_2 := Lib.hid (HB_1.out.within (within_alloc (w.alloc (.cells #[.int .i64 p, (.slice A l.length cap)] 26)) (.cells #[] 3)) (by omega))
      have HZ_2 := Lib.hid (HZ_1.out.within (within_alloc (w.alloc (.cells #[.int .i64 p, (.slice A l.length cap)] 26)) (.cells #[] 3)) (by omega))
      have BX_2 := Lib.hid (BX_1.out.within (within_alloc (w.alloc (.cells #[.int .i64 p, (.slice A l.length cap)] 26)) (.cells #[] 3)) (by omega))
      have Y2 := Lib.hid (show ((w.alloc (.cells #[.int .i64 p, (.slice A l.length cap)] 26)).alloc (.cells #[] 3)).heap.size = (w.alloc (.cells #[.int .i64 p, (.slice A l.length cap)] 26)).heap.size + 1 by simp)
      have hown := ownR_empty (w.alloc (.cells #[.int .i64 p, (.slice A l.length cap)] 26))
      rw [show (w.alloc (.cells #[.int .i64 p, (.slice A l.length cap)] 26)).heap.size = w.heap.size + 1 by simp] at hown
      have OE_2 := Lib.hid hown
      clear hown
      go_enter Try.func43, Try.ntmps43
      obtain ⟨g0_0, g0_1, g0_2⟩ := BX_2.out
      go_wp2_with fail
      clear g0_0 g0_1 g0_2
      generalize ((w.alloc (.cells #[.int .i64 p, (.slice A l.length cap)] 26)).alloc (.cells #[] 3)) = w2 at *
      generalize (w.alloc (.cells #[.int .i64 p, (.slice A l.length cap)] 26)) = w1 at *
      refine (HSET _ HB_2.out.at _ _ HZ_2.out).mono ?_
      rintro e w3 ⟨rfl, hb⟩
      have Z3 := Lib.hid (within_of hb).size
      have W3 := Lib.hid (within_on W2.out (within_of hb) W2.out.size (.inr (Nat.le_refl _)))
      have HB_3 := Lib.hid (HB_2.out.within (within_of hb) (by omega))
      have HZ_3 := Lib.hid (HZ_2.out.within (within_of hb) (by omega))
      have BX_3 := Lib.hid (BX_2.out.within (within_of hb) (by omega))
      have OE_3 := Lib.hid (OE_2.out.within (within_of hb) (by omega))
      clear hb HSET
      go_wp2_with fail
      refine (specRange k c _).mono ?_
      rintro e w9 ⟨rfl, rfl⟩
      rw [HRG.out]
      obtain ⟨g1_0, g1_1, g1_2⟩ := BX_3.out
      go_wp2_with fail
      clear g1_0 g1_1 g1_2
      refine (specRankSet p k c l zs A Z cap cz _ _ _ HB_3.out.at HZ_3.out hn hnz).mono ?_
      rintro e w4 ⟨rfl, hb⟩
      have Z4 := Lib.hid (within_of hb).size
      have W4 := Lib.hid (within_on W3.out (within_of hb) W3.out.size (.inr (Nat.le_refl _)))
      have HB_4 := Lib.hid (HB_3.out.within (within_of hb) (by omega))
      have HZ_4 := Lib.hid (HZ_3.out.within (within_of hb) (by omega))
      have BX_4 := Lib.hid (BX_3.out.within (within_of hb) (by omega))
      have OE_4 := Lib.hid (OE_3.out.within (within_of hb) (by omega))
      clear hb
      obtain ⟨r, hr⟩ : ∃ r, rankSV p k c l zs = r := ⟨_, rfl⟩
      rw [hr] at HR ⊢
      clear hr
      go_wp2_with fail
      have HG0 := Lib.hid (show GrowP (w.heap.size + 1) (w.heap.size + 1 + 1) w4 w4 (cloK p k c l zs r 0) (some ⟨w.heap.size + 1, 0, none⟩) 0 (w.heap.size + 1) (w.heap.size + 1 + 1) from ⟨OE_4.out, .inl ⟨rfl, rfl⟩, (by have := Z1.out; have := Z2.out; have := Z3.out; have := Z4.out; have := Y1.out; have := Y2.out; omega), Within.refl _ _ _⟩)
      go_loopw [9, 11] (fun u i wr => ∃ j : Nat, j ≤ l.length ∧ i = .int .i64 j ∧ ∃ Ao co lo2 hi2, u = .slice Ao (cloK p k c l zs r j).length co ∧ GrowP (w.heap.size + 1) (w.heap.size + 1 + 1) w4 wr (cloK p k c l zs r j) Ao co lo2 hi2) (fun _ i _ => l.length - (intOf i).toNat)
      case atStart => exact ⟨0, Nat.zero_le _, rfl, _, 0, _, _, rfl, HG0.out⟩
      case round =>
        obtain ⟨j, hj, rfl, Ao, co, lo2, hi2, rfl, hg⟩ := hrel
        have HG := Lib.hid hg
        have HBX2 := Lib.hid (BX_4.out.within hg.wi (.inl (Nat.lt_succ_self _)))
        obtain ⟨_, g1, g2⟩ := HBX2.out
        have hcl := cloK_len p k c l zs r j
        have HCL := Lib.hid hcl
        clear hcl
        by_cases hlt : j < l.length
        · have hji : (j : Int) < (l.length : Int) := by omega
          have hdr : Below wr.heap.size wr wr.drew := (Below.refl _ _).drew
          have HB8 := Lib.hid ((HB_4.out.within hg.wi (.inl (Nat.le_succ _))).within (within_of hdr) (.inr (Nat.zero_le _)))
          have HZ8 := Lib.hid ((HZ_4.out.within hg.wi (.inl (Nat.le_trans hzh (Nat.le_succ _)))).within (within_of hdr) (.inr (Nat.zero_le _)))
          have HDR := Lib.hid hdr
          have hxlt := HBX2.out.1
          have HKK := Lib.hid (show (fun W' => W'.cell? ⟨w.heap.size, 0, none⟩ = some (.int .i64 p) ∧ W'.cell? ⟨w.heap.size, 1, none⟩ = some (.slice A l.length cap)) wr from ⟨g1, g2⟩)
          have HKB := Lib.hid (fun (W' : World) (h : Below wr.heap.size wr W') => show (fun W' => W'.cell? ⟨w.heap.size, 0, none⟩ = some (.int .i64 p) ∧ W'.cell? ⟨w.heap.size, 1, none⟩ = some (.slice A l.length cap)) W' from ⟨(h.cell (p := ⟨w.heap.size, 0, none⟩) hxlt).trans g1, (h.cell (p := ⟨w.heap.size, 1, none⟩) hxlt).trans g2⟩)
          clear hdr hg hxlt
          have hwl := wiL_len zs (j : Int)
          have HWL := Lib.hid (show (wiL zs (j : Int)).length ≤ 1048576 from by have := H24.out; omega)
          clear hwl
          obtain ⟨r2, hr2⟩ : ∃ r2, rankSV p k c l (zs ++ [(j : Int)]) = r2 := ⟨_, rfl⟩
          have HR2 := Lib.hid ((rank_wi p k c l zs (j : Int)).trans hr2)
          by_cases c9 : r2 = r
          · have HN := Lib.hid (cloK_in (r := r) (hr2.trans c9))
            have d9 : (r2 == r) = true := by simpa using c9
            clear c9 hr2
            go_wp2_with fail
            go_region_held3 (fun W' => W'.cell? ⟨w.heap.size, 0, none⟩ = some (.int .i64 p) ∧ W'.cell? ⟨w.heap.size, 1, none⟩ = some (.slice A l.length cap))
              (first | exact HKK.out | exact HKB.out _ HDR.out | exact HKB.out _ HB5.out | exact HKB.out _ HB6.out | fail)
              (first
                | (go_at_call 44; refine (specRankSet p k c l (wiL zs (j : Int)) A A2 cap c2 _ _ _ ?_ HO5.out hn HWL.out).mono ?_; (exact HB9.out.at); rintro e w6 ⟨rfl, hb⟩; rw [HR2.out]; have HB6 := Lib.hid (below_on HB5.out hb HB5.out.size); have HGF := Lib.hid (HG.out.below HB6.out); clear hb)
                | (go_at_call 139; refine (wi_c zs (j : Int) Z cz lo hi _ ?_ (by have := H24.out; omega)).mono ?_; (exact HZ8.out); rintro e w5 ⟨A2, c2, rfl, ho, hb⟩; have HB5 := Lib.hid (below_on HDR.out hb HDR.out.size); have HB9 := Lib.hid (HB8.out.within (within_of hb) (.inr (Nat.zero_le _))); have HO5 := Lib.hid ho.reads; clear ho hb))
            go_wp2_with (at_builtin; refine wpList_pushR _ rfl _ _ rfl lo2 hi2 Ao co (cloK p k c l zs r j) (j : Int) rfl HGF.out.row _ (by first | rfl | (simp only [World.size_setCell]; rfl)) (by have := HCL.out; omega) HGF.out.le ?_; intro A6 c6 w16 lo6 hi6 hr6 hor6 hw6; have HG6 := Lib.hid (HGF.out.push hr6 hor6 hw6); clear hr6 hor6 hw6)
            go_roundw
            case rel => exact ⟨j + 1, by omega, by go_num, A6, c6, lo6, hi6, by rw [HN.out]; simp, by rw [HN.out]; exact HG6.out⟩
            case measure => simp [intOf]; omega
          · have HN := Lib.hid (cloK_out (r := r) (fun q => c9 (hr2.symm.trans q)))
            have d9 : (r2 == r) = false := by simpa using c9
            clear c9 hr2
            go_wp2_with fail
            go_region_held3 (fun W' => W'.cell? ⟨w.heap.size, 0, none⟩ = some (.int .i64 p) ∧ W'.cell? ⟨w.heap.size, 1, none⟩ = some (.slice A l.length cap))
              (first | exact HKK.out | exact HKB.out _ HDR.out | exact HKB.out _ HB5.out | exact HKB.out _ HB6.out | fail)
              (first
                | (go_at_call 44; refine (specRankSet p k c l (wiL zs (j : Int)) A A2 cap c2 _ _ _ ?_ HO5.out hn HWL.out).mono ?_; (exact HB9.out.at); rintro e w6 ⟨rfl, hb⟩; rw [HR2.out]; have HB6 := Lib.hid (below_on HB5.out hb HB5.out.size); have HGF := Lib.hid (HG.out.below HB6.out); clear hb)
                | (go_at_call 139; refine (wi_c zs (j : Int) Z cz lo hi _ ?_ (by have := H24.out; omega)).mono ?_; (exact HZ8.out); rintro e w5 ⟨A2, c2, rfl, ho, hb⟩; have HB5 := Lib.hid (below_on HDR.out hb HDR.out.size); have HB9 := Lib.hid (HB8.out.within (within_of hb) (.inr (Nat.zero_le _))); have HO5 := Lib.hid ho.reads; clear ho hb))
            go_wp2_with fail
            go_roundw
            case rel => exact ⟨j + 1, by omega, by go_num, Ao, co, lo2, hi2, by rw [HN.out], by rw [HN.out]; exact HGF.out⟩
            case measure => simp [intOf]; omega
        · obtain rfl : j = l.length := by omega
          go_wp2_with fail
          go_ret
          rw [HR.out]
          have hbs := W4.out.size
          exact ⟨Ao, co, rfl, HG.out.out (Nat.le_succ _) hbs, within_on W4.out HG.out.wi hbs (.inl (Nat.le_succ _))⟩
end Go.Proofs.Ytdkpmaahinbhlaa
