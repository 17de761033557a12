/- The law FnExactSpannedBars returns true at every input. No condition. -/
import Derived.Test.YtimgkekllanhmaaSpanI
import Derived.Test.YtimgkekllanhmaaArgW
import Derived.Test.YtimgkekllanhmaaState
import Derived.Deep.RegionHeld3
namespace Go.Proofs.Ytimgkekllanhmaa
open Go.RowKit

set_option maxHeartbeats 2000000 in
set_option maxRecDepth 100000 in
theorem lawSpannedBars (q : Int) (A : Option Addr) (cap : Nat) (l : List (Int × Int)) (Z : Option Addr) (len cz : Nat) (zs : List Int) (w : World) (hl : l.length ≤ maxLen) (hb : BarsAt w w.heap.size A l) (hw : WfB l) (hz : IsRow .i64 w Z len cz zs) :
    Calls Try.prog 3 #[.agg #[.int .i64 q, .slice A l.length cap], .slice Z len cz] w fun e w' => e = .returned (.bool true) ∧ Below w.heap.size w w' := by
  obtain ⟨ys, rfl, hi, hym, hwy⟩ := hz.intsW
  have HB_0 := Lib.hid (bars_in hb)
  have HZ_0 := Lib.hid hi
  have HW := Lib.hid hw
  have HWY := Lib.hid hwy
  clear hb hz hi hw hwy
  by_cases hny : ys.length ≤ 1048576
  · have hny' : ¬ (1048576 : Int) < (ys.length : Int) := by omega
    by_cases hn : l.length ≤ 1048576
    · have W0 := Lib.hid (Below.refl w.heap.size w)
      have hzl : (spanL l (memS ys)).length ≤ 1048576 := Nat.le_trans (spanL_len l (memS ys)) hn
      have hal := new_below w (.cells #[.int .i64 q, .slice A l.length cap] 24)
      have Z1 := Lib.hid (within_of hal).size
      have W1 := Lib.hid (within_on W0.out (within_of hal) W0.out.size (.inr (Nat.le_refl _)))
      have HB_1 := Lib.hid (HB_0.out.within (within_of hal) (by omega))
      have HZ_1 := Lib.hid (HZ_0.out.within (within_of hal) (by omega))
      clear hal
      have hsz : (w.alloc (.cells #[.int .i64 q, .slice A l.length cap] 24)).heap.size = w.heap.size + 1 := by simp
      have Y1 := Lib.hid hsz
      clear hsz
      have BX_1 := Lib.hid (box_new w q (.slice A l.length cap) 24)
      go_enter Try.func3, Try.ntmps3
      go_wp2_with fail
      generalize (w.alloc (.cells #[.int .i64 q, .slice A l.length cap] 24)) = w1 at *
      refine (szGraph_c q A l.length cap 1048576 _ (by omega) (by omega)).mono ?_
      rintro e w2 ⟨rfl, hb⟩
      have Z2 := Lib.hid (within_of hb).size
      have W2 := Lib.hid (within_on W1.out (within_of hb) W1.out.size (.inr (Nat.le_refl _)))
      have HB_2 := Lib.hid (HB_1.out.within (within_of hb) (by omega))
      have HZ_2 := Lib.hid (HZ_1.out.within (within_of hb) (by omega))
      have BX_2 := Lib.hid (BX_1.out.within (within_of hb) (by omega))
      clear hb
      have hnn : ¬ (1048576 : Int) - (l.length : Int) < 0 := by omega
      obtain ⟨g01, g02, g03⟩ := BX_2.out
      go_wp2_with fail
      clear g01 g02 g03
      refine (toGraph_c q l A cap _ HB_2.out.at hn).mono ?_
      rintro e w3 ⟨g0, rfl, ho, hb⟩
      have Z3 := Lib.hid (within_of hb).size
      have W3 := Lib.hid (within_on W2.out (within_of hb) W2.out.size (.inr (Nat.le_refl _)))
      have HB_3 := Lib.hid (HB_2.out.within (within_of hb) (by omega))
      have HZ_3 := Lib.hid (HZ_2.out.within (within_of hb) (by omega))
      have BX_3 := Lib.hid (BX_2.out.within (within_of hb) (by omega))
      have SG_3 := Lib.hid ((own_in ho).bars)
      clear ho hb
      go_wp2_with fail
      refine (toInts_c ys Z cz 0 _ _ HZ_3.out hny).mono ?_
      rintro e w4 ⟨g1, rfl, ho, hb⟩
      have Z4 := Lib.hid (within_of hb).size
      have W4 := Lib.hid (within_on W3.out (within_of hb) W3.out.size (.inr (Nat.le_refl _)))
      have HB_4 := Lib.hid (HB_3.out.within (within_of hb) (by omega))
      have HZ_4 := Lib.hid (HZ_3.out.within (within_of hb) (by omega))
      have BX_4 := Lib.hid (BX_3.out.within (within_of hb) (by omega))
      have SG_4 := Lib.hid (SG_3.out.within (within_of hb) (by omega))
      have SI_4 := Lib.hid ((own_ints' ho).reads)
      clear ho hb
      go_wp2_with fail
      refine (specSpan q l ys (some ⟨g0, 0, none⟩) (some ⟨g1, 0, none⟩) l.length ys.length _ _ _ SG_4.out.at SI_4.out hn hny).mono ?_
      rintro e w5 ⟨AS, cs, rfl, hs, hb⟩
      have Z5 := Lib.hid (within_of hb).size
      have W5 := Lib.hid (within_on W4.out (within_of hb) W4.out.size (.inr (Nat.le_refl _)))
      have HB_5 := Lib.hid (HB_4.out.within (within_of hb) (by omega))
      have HZ_5 := Lib.hid (HZ_4.out.within (within_of hb) (by omega))
      have BX_5 := Lib.hid (BX_4.out.within (within_of hb) (by omega))
      have SG_5 := Lib.hid (SG_4.out.within (within_of hb) (by omega))
      have SI_5 := Lib.hid (SI_4.out.within (within_of hb) (by omega))
      have SR_5 := Lib.hid (hs.reads)
      clear hs hb
      obtain ⟨g01, g02, g03⟩ := BX_5.out
      go_wp2_with fail
      clear g01 g02 g03
      refine (toGraph_c q l A cap _ HB_5.out.at hn).mono ?_
      rintro e w6 ⟨x0, rfl, ho, hb⟩
      have Z6 := Lib.hid (within_of hb).size
      have W6 := Lib.hid (within_on W5.out (within_of hb) W5.out.size (.inr (Nat.le_refl _)))
      have HB_6 := Lib.hid (HB_5.out.within (within_of hb) (by omega))
      have HZ_6 := Lib.hid (HZ_5.out.within (within_of hb) (by omega))
      have BX_6 := Lib.hid (BX_5.out.within (within_of hb) (by omega))
      have SG_6 := Lib.hid (SG_5.out.within (within_of hb) (by omega))
      have SI_6 := Lib.hid (SI_5.out.within (within_of hb) (by omega))
      have SR_6 := Lib.hid (SR_5.out.within (within_of hb) (by omega))
      have SX_6 := Lib.hid (own_in ho)
      clear ho hb
      go_wp2_with fail
      have hal := new_below w6 (.cells #[.int .i64 q, .slice (some ⟨x0, 0, none⟩) l.length l.length] 30)
      have Z7 := Lib.hid (within_of hal).size
      have W7 := Lib.hid (within_on W6.out (within_of hal) W6.out.size (.inr (Nat.le_refl _)))
      have HB_7 := Lib.hid (HB_6.out.within (within_of hal) (by omega))
      have HZ_7 := Lib.hid (HZ_6.out.within (within_of hal) (by omega))
      have BX_7 := Lib.hid (BX_6.out.within (within_of hal) (by omega))
      have SG_7 := Lib.hid (SG_6.out.within (within_of hal) (by omega))
      have SI_7 := Lib.hid (SI_6.out.within (within_of hal) (by omega))
      have SR_7 := Lib.hid (SR_6.out.within (within_of hal) (by omega))
      have SX_7 := Lib.hid (SX_6.out.within (within_of hal) (by omega))
      clear hal
      have hsz : (w6.alloc (.cells #[.int .i64 q, .slice (some ⟨x0, 0, none⟩) l.length l.length] 30)).heap.size = w6.heap.size + 1 := by simp
      have Y7 := Lib.hid hsz
      clear hsz
      have XX_7 := Lib.hid (box_new w6 q (.slice (some ⟨x0, 0, none⟩) l.length l.length) 30)
      generalize (w6.alloc (.cells #[.int .i64 q, .slice (some ⟨x0, 0, none⟩) l.length l.length] 30)) = w7 at *
      refine (toInts_c ys Z cz 0 _ _ HZ_7.out hny).mono ?_
      rintro e w8 ⟨x1, rfl, ho, hb⟩
      have Z8 := Lib.hid (within_of hb).size
      have W8 := Lib.hid (within_on W7.out (within_of hb) W7.out.size (.inr (Nat.le_refl _)))
      have HB_8 := Lib.hid (HB_7.out.within (within_of hb) (by omega))
      have HZ_8 := Lib.hid (HZ_7.out.within (within_of hb) (by omega))
      have BX_8 := Lib.hid (BX_7.out.within (within_of hb) (by omega))
      have SG_8 := Lib.hid (SG_7.out.within (within_of hb) (by omega))
      have SI_8 := Lib.hid (SI_7.out.within (within_of hb) (by omega))
      have SR_8 := Lib.hid (SR_7.out.within (within_of hb) (by omega))
      have SX_8 := Lib.hid (SX_7.out.within (within_of hb) (by omega))
      have XX_8 := Lib.hid (XX_7.out.within (within_of hb) (by omega))
      have SY_8 := Lib.hid (own_ints' ho)
      clear ho hb
      obtain ⟨g01, g02, g03⟩ := XX_8.out
      go_wp2_with fail
      clear g01 g02 g03
      refine (implSpan q l ys (some ⟨x0, 0, none⟩) (some ⟨x1, 0, none⟩) l.length ys.length _ _ _ SX_8.out.bars.at SY_8.out.reads hn hny HW.out HWY.out).mono ?_
      rintro e w9 ⟨AG, cg, rfl, ho, hb⟩
      have Z9 := Lib.hid (within_of hb).size
      have W9 := Lib.hid (within_on W8.out (within_of hb) W8.out.size (.inr (Nat.le_refl _)))
      have HB_9 := Lib.hid (HB_8.out.within (within_of hb) (by omega))
      have HZ_9 := Lib.hid (HZ_8.out.within (within_of hb) (by omega))
      have BX_9 := Lib.hid (BX_8.out.within (within_of hb) (by omega))
      have SG_9 := Lib.hid (SG_8.out.within (within_of hb) (by omega))
      have SI_9 := Lib.hid (SI_8.out.within (within_of hb) (by omega))
      have SR_9 := Lib.hid (SR_8.out.within (within_of hb) (by omega))
      have SX_9 := Lib.hid (SX_8.out.within (within_of hb) (by omega))
      have XX_9 := Lib.hid (XX_8.out.within (within_of hb) (by omega))
      have SY_9 := Lib.hid (SY_8.out.within (within_of hb) (by omega))
      have SO_9 := Lib.hid (ho)
      clear ho hb
      go_wp2_with fail
      refine (eqInts_c (spanL l (memS ys)) AG AS cg cs _ _ _ _ _ SO_9.out.reads SR_9.out hzl).mono ?_
      rintro e w10 ⟨rfl, hb⟩
      have Z10 := Lib.hid (within_of hb).size
      have W10 := Lib.hid (within_on W9.out (within_of hb) W9.out.size (.inr (Nat.le_refl _)))
      have HB_10 := Lib.hid (HB_9.out.within (within_of hb) (by omega))
      have HZ_10 := Lib.hid (HZ_9.out.within (within_of hb) (by omega))
      have BX_10 := Lib.hid (BX_9.out.within (within_of hb) (by omega))
      have SG_10 := Lib.hid (SG_9.out.within (within_of hb) (by omega))
      have SI_10 := Lib.hid (SI_9.out.within (within_of hb) (by omega))
      have SR_10 := Lib.hid (SR_9.out.within (within_of hb) (by omega))
      have SX_10 := Lib.hid (SX_9.out.within (within_of hb) (by omega))
      have XX_10 := Lib.hid (XX_9.out.within (within_of hb) (by omega))
      have SY_10 := Lib.hid (SY_9.out.within (within_of hb) (by omega))
      have SO_10 := Lib.hid (SO_9.out.within (within_of hb) (by omega))
      clear hb
      have kk0 := box2 BX_10.out XX_10.out
      have kk := box2 BX_10.out XX_10.out
      have hdr : Below w10.heap.size w10 w10.drew := (Below.refl _ _).drew
      have Z11 := Lib.hid (within_of hdr).size
      have W11 := Lib.hid (within_on W10.out (within_of hdr) W10.out.size (.inr (Nat.le_refl _)))
      have HB_11 := Lib.hid (HB_10.out.within (within_of hdr) (by omega))
      have HZ_11 := Lib.hid (HZ_10.out.within (within_of hdr) (by omega))
      have BX_11 := Lib.hid (BX_10.out.within (within_of hdr) (by omega))
      have SG_11 := Lib.hid (SG_10.out.within (within_of hdr) (by omega))
      have SI_11 := Lib.hid (SI_10.out.within (within_of hdr) (by omega))
      have SR_11 := Lib.hid (SR_10.out.within (within_of hdr) (by omega))
      have SX_11 := Lib.hid (SX_10.out.within (within_of hdr) (by omega))
      have XX_11 := Lib.hid (XX_10.out.within (within_of hdr) (by omega))
      have SY_11 := Lib.hid (SY_10.out.within (within_of hdr) (by omega))
      have SO_11 := Lib.hid (SO_10.out.within (within_of hdr) (by omega))
      clear hdr
      go_wp2_with fail
      go_region_held3 (fun W' => W'.cell? ⟨w.heap.size, 0, none⟩ = some (.int .i64 q) ∧ W'.cell? ⟨w.heap.size, 1, none⟩ = some ((.slice A l.length cap)) ∧ W'.cell? ⟨w6.heap.size, 0, none⟩ = some (.int .i64 q) ∧ W'.cell? ⟨w6.heap.size, 1, none⟩ = some ((.slice (some ⟨x0, 0, none⟩) l.length l.length)))
        (first | exact kk | exact box2 BX_12.out XX_12.out | exact box2 BX_13.out XX_13.out | fail)
        (first
          | (go_at_call 12; refine (toGraph_c q l A cap _ ?_ hn).mono ?_; (exact HB_11.out.at); rintro e w12 ⟨y0, rfl, ho, hb⟩; have Z12 := Lib.hid (within_of hb).size; have W12 := Lib.hid (within_on W11.out (within_of hb) W11.out.size (.inr (Nat.le_refl _))); have HB_12 := Lib.hid (HB_11.out.within (within_of hb) (by omega)); have HZ_12 := Lib.hid (HZ_11.out.within (within_of hb) (by omega)); have BX_12 := Lib.hid (BX_11.out.within (within_of hb) (by omega)); have SG_12 := Lib.hid (SG_11.out.within (within_of hb) (by omega)); have SI_12 := Lib.hid (SI_11.out.within (within_of hb) (by omega)); have SR_12 := Lib.hid (SR_11.out.within (within_of hb) (by omega)); have SX_12 := Lib.hid (SX_11.out.within (within_of hb) (by omega)); have XX_12 := Lib.hid (XX_11.out.within (within_of hb) (by omega)); have SY_12 := Lib.hid (SY_11.out.within (within_of hb) (by omega)); have SO_12 := Lib.hid (SO_11.out.within (within_of hb) (by omega)); have YY := Lib.hid (own_bars ho); clear ho hb)
          | (go_at_call 16; refine (eqGraph_c q l _ _ l.length l.length _ ?_ ?_ hn).mono ?_; (exact SX_12.out.bars.at); (exact YY.out); rintro e w13 ⟨rfl, hb⟩; have Z13 := Lib.hid (within_of hb).size; have W13 := Lib.hid (within_on W12.out (within_of hb) W12.out.size (.inr (Nat.le_refl _))); have HB_13 := Lib.hid (HB_12.out.within (within_of hb) (by omega)); have HZ_13 := Lib.hid (HZ_12.out.within (within_of hb) (by omega)); have BX_13 := Lib.hid (BX_12.out.within (within_of hb) (by omega)); have SG_13 := Lib.hid (SG_12.out.within (within_of hb) (by omega)); have SI_13 := Lib.hid (SI_12.out.within (within_of hb) (by omega)); have SR_13 := Lib.hid (SR_12.out.within (within_of hb) (by omega)); have SX_13 := Lib.hid (SX_12.out.within (within_of hb) (by omega)); have XX_13 := Lib.hid (XX_12.out.within (within_of hb) (by omega)); have SY_13 := Lib.hid (SY_12.out.within (within_of hb) (by omega)); have SO_13 := Lib.hid (SO_12.out.within (within_of hb) (by omega)); clear hb))
      go_wp2_with fail
      refine (toInts_c ys Z cz 0 _ _ HZ_13.out hny).mono ?_
      rintro e w14 ⟨y1, rfl, ho, hb⟩
      have Z14 := Lib.hid (within_of hb).size
      have W14 := Lib.hid (within_on W13.out (within_of hb) W13.out.size (.inr (Nat.le_refl _)))
      have HB_14 := Lib.hid (HB_13.out.within (within_of hb) (by omega))
      have HZ_14 := Lib.hid (HZ_13.out.within (within_of hb) (by omega))
      have BX_14 := Lib.hid (BX_13.out.within (within_of hb) (by omega))
      have SG_14 := Lib.hid (SG_13.out.within (within_of hb) (by omega))
      have SI_14 := Lib.hid (SI_13.out.within (within_of hb) (by omega))
      have SR_14 := Lib.hid (SR_13.out.within (within_of hb) (by omega))
      have SX_14 := Lib.hid (SX_13.out.within (within_of hb) (by omega))
      have XX_14 := Lib.hid (XX_13.out.within (within_of hb) (by omega))
      have SY_14 := Lib.hid (SY_13.out.within (within_of hb) (by omega))
      have SO_14 := Lib.hid (SO_13.out.within (within_of hb) (by omega))
      have SZ_14 := Lib.hid ((own_ints' ho).reads)
      clear ho hb
      go_wp2_with fail
      refine (eqInts_c ys (some ⟨x1, 0, none⟩) (some ⟨y1, 0, none⟩) ys.length ys.length _ _ _ _ _ SY_14.out.reads SZ_14.out hny).mono ?_
      rintro e w15 ⟨rfl, hb⟩
      have Z15 := Lib.hid (within_of hb).size
      have W15 := Lib.hid (within_on W14.out (within_of hb) W14.out.size (.inr (Nat.le_refl _)))
      have HB_15 := Lib.hid (HB_14.out.within (within_of hb) (by omega))
      have HZ_15 := Lib.hid (HZ_14.out.within (within_of hb) (by omega))
      have BX_15 := Lib.hid (BX_14.out.within (within_of hb) (by omega))
      have SG_15 := Lib.hid (SG_14.out.within (within_of hb) (by omega))
      have SI_15 := Lib.hid (SI_14.out.within (within_of hb) (by omega))
      have SR_15 := Lib.hid (SR_14.out.within (within_of hb) (by omega))
      have SX_15 := Lib.hid (SX_14.out.within (within_of hb) (by omega))
      have XX_15 := Lib.hid (XX_14.out.within (within_of hb) (by omega))
      have SY_15 := Lib.hid (SY_14.out.within (within_of hb) (by omega))
      have SO_15 := Lib.hid (SO_14.out.within (within_of hb) (by omega))
      have SZ_15 := Lib.hid (SZ_14.out.within (within_of hb) (by omega))
      clear hb
      obtain ⟨g01, g02, g03⟩ := XX_15.out
      go_wp2_with fail
      clear g01 g02 g03
      refine (markGraph_o q (some ⟨x0, 0, none⟩) l.length l 1 w5.heap.size w6.heap.size _ SX_15.out hn (by omega) (by omega)).mono ?_
      rintro e w16 ⟨rfl, hin, hox⟩
      have Z16 := Lib.hid (hin).size
      have W16 := Lib.hid (within_on W15.out (hin) W15.out.size (by have := W15.out.size; have := Z1.out; have := Z2.out; have := Z3.out; have := Z4.out; have := Z5.out; have := Z6.out; have := Z7.out; have := Z8.out; have := Z9.out; have := Z10.out; have := Z11.out; have := Z12.out; have := Z13.out; have := Z14.out; have := Z15.out; have := Z16.out; have := Y1.out; have := Y7.out; omega))
      have HB_16 := Lib.hid (HB_15.out.within (hin) (by have := Z1.out; have := Z2.out; have := Z3.out; have := Z4.out; have := Z5.out; have := Z6.out; have := Z7.out; have := Z8.out; have := Z9.out; have := Z10.out; have := Z11.out; have := Z12.out; have := Z13.out; have := Z14.out; have := Z15.out; have := Z16.out; have := Y1.out; have := Y7.out; omega))
      have HZ_16 := Lib.hid (HZ_15.out.within (hin) (by have := Z1.out; have := Z2.out; have := Z3.out; have := Z4.out; have := Z5.out; have := Z6.out; have := Z7.out; have := Z8.out; have := Z9.out; have := Z10.out; have := Z11.out; have := Z12.out; have := Z13.out; have := Z14.out; have := Z15.out; have := Z16.out; have := Y1.out; have := Y7.out; omega))
      have BX_16 := Lib.hid (BX_15.out.within (hin) (by have := Z1.out; have := Z2.out; have := Z3.out; have := Z4.out; have := Z5.out; have := Z6.out; have := Z7.out; have := Z8.out; have := Z9.out; have := Z10.out; have := Z11.out; have := Z12.out; have := Z13.out; have := Z14.out; have := Z15.out; have := Z16.out; have := Y1.out; have := Y7.out; omega))
      have SG_16 := Lib.hid (SG_15.out.within (hin) (by have := Z1.out; have := Z2.out; have := Z3.out; have := Z4.out; have := Z5.out; have := Z6.out; have := Z7.out; have := Z8.out; have := Z9.out; have := Z10.out; have := Z11.out; have := Z12.out; have := Z13.out; have := Z14.out; have := Z15.out; have := Z16.out; have := Y1.out; have := Y7.out; omega))
      have SI_16 := Lib.hid (SI_15.out.within (hin) (by have := Z1.out; have := Z2.out; have := Z3.out; have := Z4.out; have := Z5.out; have := Z6.out; have := Z7.out; have := Z8.out; have := Z9.out; have := Z10.out; have := Z11.out; have := Z12.out; have := Z13.out; have := Z14.out; have := Z15.out; have := Z16.out; have := Y1.out; have := Y7.out; omega))
      have SR_16 := Lib.hid (SR_15.out.within (hin) (by have := Z1.out; have := Z2.out; have := Z3.out; have := Z4.out; have := Z5.out; have := Z6.out; have := Z7.out; have := Z8.out; have := Z9.out; have := Z10.out; have := Z11.out; have := Z12.out; have := Z13.out; have := Z14.out; have := Z15.out; have := Z16.out; have := Y1.out; have := Y7.out; omega))
      have XX_16 := Lib.hid (XX_15.out.within (hin) (by have := Z1.out; have := Z2.out; have := Z3.out; have := Z4.out; have := Z5.out; have := Z6.out; have := Z7.out; have := Z8.out; have := Z9.out; have := Z10.out; have := Z11.out; have := Z12.out; have := Z13.out; have := Z14.out; have := Z15.out; have := Z16.out; have := Y1.out; have := Y7.out; omega))
      have SY_16 := Lib.hid (SY_15.out.within (hin) (by have := Z1.out; have := Z2.out; have := Z3.out; have := Z4.out; have := Z5.out; have := Z6.out; have := Z7.out; have := Z8.out; have := Z9.out; have := Z10.out; have := Z11.out; have := Z12.out; have := Z13.out; have := Z14.out; have := Z15.out; have := Z16.out; have := Y1.out; have := Y7.out; omega))
      have SO_16 := Lib.hid (SO_15.out.within (hin) (by have := Z1.out; have := Z2.out; have := Z3.out; have := Z4.out; have := Z5.out; have := Z6.out; have := Z7.out; have := Z8.out; have := Z9.out; have := Z10.out; have := Z11.out; have := Z12.out; have := Z13.out; have := Z14.out; have := Z15.out; have := Z16.out; have := Y1.out; have := Y7.out; omega))
      have SZ_16 := Lib.hid (SZ_15.out.within (hin) (by have := Z1.out; have := Z2.out; have := Z3.out; have := Z4.out; have := Z5.out; have := Z6.out; have := Z7.out; have := Z8.out; have := Z9.out; have := Z10.out; have := Z11.out; have := Z12.out; have := Z13.out; have := Z14.out; have := Z15.out; have := Z16.out; have := Y1.out; have := Y7.out; omega))
      clear hox hin
      go_wp2_with fail
      refine (markInts_o (some ⟨x1, 0, none⟩) ys.length ys (1 + 2 * (l.length : Int)) w7.heap.size w8.heap.size _ SY_16.out hny (by omega) (by omega)).mono ?_
      rintro e w17 ⟨rfl, hin, hox⟩
      have Z17 := Lib.hid (hin).size
      have W17 := Lib.hid (within_on W16.out (hin) W16.out.size (by have := W16.out.size; have := Z1.out; have := Z2.out; have := Z3.out; have := Z4.out; have := Z5.out; have := Z6.out; have := Z7.out; have := Z8.out; have := Z9.out; have := Z10.out; have := Z11.out; have := Z12.out; have := Z13.out; have := Z14.out; have := Z15.out; have := Z16.out; have := Z17.out; have := Y1.out; have := Y7.out; omega))
      have HB_17 := Lib.hid (HB_16.out.within (hin) (by have := Z1.out; have := Z2.out; have := Z3.out; have := Z4.out; have := Z5.out; have := Z6.out; have := Z7.out; have := Z8.out; have := Z9.out; have := Z10.out; have := Z11.out; have := Z12.out; have := Z13.out; have := Z14.out; have := Z15.out; have := Z16.out; have := Z17.out; have := Y1.out; have := Y7.out; omega))
      have HZ_17 := Lib.hid (HZ_16.out.within (hin) (by have := Z1.out; have := Z2.out; have := Z3.out; have := Z4.out; have := Z5.out; have := Z6.out; have := Z7.out; have := Z8.out; have := Z9.out; have := Z10.out; have := Z11.out; have := Z12.out; have := Z13.out; have := Z14.out; have := Z15.out; have := Z16.out; have := Z17.out; have := Y1.out; have := Y7.out; omega))
      have BX_17 := Lib.hid (BX_16.out.within (hin) (by have := Z1.out; have := Z2.out; have := Z3.out; have := Z4.out; have := Z5.out; have := Z6.out; have := Z7.out; have := Z8.out; have := Z9.out; have := Z10.out; have := Z11.out; have := Z12.out; have := Z13.out; have := Z14.out; have := Z15.out; have := Z16.out; have := Z17.out; have := Y1.out; have := Y7.out; omega))
      have SG_17 := Lib.hid (SG_16.out.within (hin) (by have := Z1.out; have := Z2.out; have := Z3.out; have := Z4.out; have := Z5.out; have := Z6.out; have := Z7.out; have := Z8.out; have := Z9.out; have := Z10.out; have := Z11.out; have := Z12.out; have := Z13.out; have := Z14.out; have := Z15.out; have := Z16.out; have := Z17.out; have := Y1.out; have := Y7.out; omega))
      have SI_17 := Lib.hid (SI_16.out.within (hin) (by have := Z1.out; have := Z2.out; have := Z3.out; have := Z4.out; have := Z5.out; have := Z6.out; have := Z7.out; have := Z8.out; have := Z9.out; have := Z10.out; have := Z11.out; have := Z12.out; have := Z13.out; have := Z14.out; have := Z15.out; have := Z16.out; have := Z17.out; have := Y1.out; have := Y7.out; omega))
      have SR_17 := Lib.hid (SR_16.out.within (hin) (by have := Z1.out; have := Z2.out; have := Z3.out; have := Z4.out; have := Z5.out; have := Z6.out; have := Z7.out; have := Z8.out; have := Z9.out; have := Z10.out; have := Z11.out; have := Z12.out; have := Z13.out; have := Z14.out; have := Z15.out; have := Z16.out; have := Z17.out; have := Y1.out; have := Y7.out; omega))
      have XX_17 := Lib.hid (XX_16.out.within (hin) (by have := Z1.out; have := Z2.out; have := Z3.out; have := Z4.out; have := Z5.out; have := Z6.out; have := Z7.out; have := Z8.out; have := Z9.out; have := Z10.out; have := Z11.out; have := Z12.out; have := Z13.out; have := Z14.out; have := Z15.out; have := Z16.out; have := Z17.out; have := Y1.out; have := Y7.out; omega))
      have SO_17 := Lib.hid (SO_16.out.within (hin) (by have := Z1.out; have := Z2.out; have := Z3.out; have := Z4.out; have := Z5.out; have := Z6.out; have := Z7.out; have := Z8.out; have := Z9.out; have := Z10.out; have := Z11.out; have := Z12.out; have := Z13.out; have := Z14.out; have := Z15.out; have := Z16.out; have := Z17.out; have := Y1.out; have := Y7.out; omega))
      have SZ_17 := Lib.hid (SZ_16.out.within (hin) (by have := Z1.out; have := Z2.out; have := Z3.out; have := Z4.out; have := Z5.out; have := Z6.out; have := Z7.out; have := Z8.out; have := Z9.out; have := Z10.out; have := Z11.out; have := Z12.out; have := Z13.out; have := Z14.out; have := Z15.out; have := Z16.out; have := Z17.out; have := Y1.out; have := Y7.out; omega))
      clear hox hin
      have hk1 : ¬ (1 : Int) + 2 * (l.length : Int) + (ys.length : Int) < 0 := by omega
      go_wp2_with fail
      refine (eqInts_c (spanL l (memS ys)) AG AS cg cs _ _ _ _ _ SO_17.out.reads SR_17.out hzl).mono ?_
      rintro e w18 ⟨rfl, hb⟩
      have Z18 := Lib.hid (within_of hb).size
      have W18 := Lib.hid (within_on W17.out (within_of hb) W17.out.size (.inr (Nat.le_refl _)))
      have HB_18 := Lib.hid (HB_17.out.within (within_of hb) (by omega))
      have HZ_18 := Lib.hid (HZ_17.out.within (within_of hb) (by omega))
      have BX_18 := Lib.hid (BX_17.out.within (within_of hb) (by omega))
      have SG_18 := Lib.hid (SG_17.out.within (within_of hb) (by omega))
      have SI_18 := Lib.hid (SI_17.out.within (within_of hb) (by omega))
      have SR_18 := Lib.hid (SR_17.out.within (within_of hb) (by omega))
      have XX_18 := Lib.hid (XX_17.out.within (within_of hb) (by omega))
      have SO_18 := Lib.hid (SO_17.out.within (within_of hb) (by omega))
      have SZ_18 := Lib.hid (SZ_17.out.within (within_of hb) (by omega))
      clear hb
      go_wp2_with fail
      refine (markInts_o AG cg (spanL l (memS ys)) 1 w8.heap.size w9.heap.size _ SO_18.out hzl (by omega) (by omega)).mono ?_
      rintro e w19 ⟨rfl, hin, hog⟩
      have Z19 := Lib.hid (hin).size
      have W19 := Lib.hid (within_on W18.out (hin) W18.out.size (by have := W18.out.size; have := Z1.out; have := Z2.out; have := Z3.out; have := Z4.out; have := Z5.out; have := Z6.out; have := Z7.out; have := Z8.out; have := Z9.out; have := Z10.out; have := Z11.out; have := Z12.out; have := Z13.out; have := Z14.out; have := Z15.out; have := Z16.out; have := Z17.out; have := Z18.out; have := Z19.out; have := Y1.out; have := Y7.out; omega))
      have HB_19 := Lib.hid (HB_18.out.within (hin) (by have := Z1.out; have := Z2.out; have := Z3.out; have := Z4.out; have := Z5.out; have := Z6.out; have := Z7.out; have := Z8.out; have := Z9.out; have := Z10.out; have := Z11.out; have := Z12.out; have := Z13.out; have := Z14.out; have := Z15.out; have := Z16.out; have := Z17.out; have := Z18.out; have := Z19.out; have := Y1.out; have := Y7.out; omega))
      have HZ_19 := Lib.hid (HZ_18.out.within (hin) (by have := Z1.out; have := Z2.out; have := Z3.out; have := Z4.out; have := Z5.out; have := Z6.out; have := Z7.out; have := Z8.out; have := Z9.out; have := Z10.out; have := Z11.out; have := Z12.out; have := Z13.out; have := Z14.out; have := Z15.out; have := Z16.out; have := Z17.out; have := Z18.out; have := Z19.out; have := Y1.out; have := Y7.out; omega))
      have BX_19 := Lib.hid (BX_18.out.within (hin) (by have := Z1.out; have := Z2.out; have := Z3.out; have := Z4.out; have := Z5.out; have := Z6.out; have := Z7.out; have := Z8.out; have := Z9.out; have := Z10.out; have := Z11.out; have := Z12.out; have := Z13.out; have := Z14.out; have := Z15.out; have := Z16.out; have := Z17.out; have := Z18.out; have := Z19.out; have := Y1.out; have := Y7.out; omega))
      have SG_19 := Lib.hid (SG_18.out.within (hin) (by have := Z1.out; have := Z2.out; have := Z3.out; have := Z4.out; have := Z5.out; have := Z6.out; have := Z7.out; have := Z8.out; have := Z9.out; have := Z10.out; have := Z11.out; have := Z12.out; have := Z13.out; have := Z14.out; have := Z15.out; have := Z16.out; have := Z17.out; have := Z18.out; have := Z19.out; have := Y1.out; have := Y7.out; omega))
      have SI_19 := Lib.hid (SI_18.out.within (hin) (by have := Z1.out; have := Z2.out; have := Z3.out; have := Z4.out; have := Z5.out; have := Z6.out; have := Z7.out; have := Z8.out; have := Z9.out; have := Z10.out; have := Z11.out; have := Z12.out; have := Z13.out; have := Z14.out; have := Z15.out; have := Z16.out; have := Z17.out; have := Z18.out; have := Z19.out; have := Y1.out; have := Y7.out; omega))
      have SR_19 := Lib.hid (SR_18.out.within (hin) (by have := Z1.out; have := Z2.out; have := Z3.out; have := Z4.out; have := Z5.out; have := Z6.out; have := Z7.out; have := Z8.out; have := Z9.out; have := Z10.out; have := Z11.out; have := Z12.out; have := Z13.out; have := Z14.out; have := Z15.out; have := Z16.out; have := Z17.out; have := Z18.out; have := Z19.out; have := Y1.out; have := Y7.out; omega))
      have XX_19 := Lib.hid (XX_18.out.within (hin) (by have := Z1.out; have := Z2.out; have := Z3.out; have := Z4.out; have := Z5.out; have := Z6.out; have := Z7.out; have := Z8.out; have := Z9.out; have := Z10.out; have := Z11.out; have := Z12.out; have := Z13.out; have := Z14.out; have := Z15.out; have := Z16.out; have := Z17.out; have := Z18.out; have := Z19.out; have := Y1.out; have := Y7.out; omega))
      have SZ_19 := Lib.hid (SZ_18.out.within (hin) (by have := Z1.out; have := Z2.out; have := Z3.out; have := Z4.out; have := Z5.out; have := Z6.out; have := Z7.out; have := Z8.out; have := Z9.out; have := Z10.out; have := Z11.out; have := Z12.out; have := Z13.out; have := Z14.out; have := Z15.out; have := Z16.out; have := Z17.out; have := Z18.out; have := Z19.out; have := Y1.out; have := Y7.out; omega))
      have SM_19 := Lib.hid (hog)
      clear hog hin
      have hk2 : ¬ (1 : Int) + ((spanL l (memS ys)).length : Int) < 0 := by omega
      go_wp2_with fail
      refine (heldInts_c (spanL l (memS ys)).length AG cg 1 _ _ _ SM_19.out.reads hzl (by omega) (by omega)).mono ?_
      rintro e w20 ⟨rfl, hb⟩
      have Z20 := Lib.hid (within_of hb).size
      have W20 := Lib.hid (within_on W19.out (within_of hb) W19.out.size (.inr (Nat.le_refl _)))
      have HB_20 := Lib.hid (HB_19.out.within (within_of hb) (by omega))
      have HZ_20 := Lib.hid (HZ_19.out.within (within_of hb) (by omega))
      have BX_20 := Lib.hid (BX_19.out.within (within_of hb) (by omega))
      have SG_20 := Lib.hid (SG_19.out.within (within_of hb) (by omega))
      have SI_20 := Lib.hid (SI_19.out.within (within_of hb) (by omega))
      have SR_20 := Lib.hid (SR_19.out.within (within_of hb) (by omega))
      have XX_20 := Lib.hid (XX_19.out.within (within_of hb) (by omega))
      have SZ_20 := Lib.hid (SZ_19.out.within (within_of hb) (by omega))
      have SM_20 := Lib.hid (SM_19.out.within (within_of hb) (by omega))
      clear hb
      obtain ⟨g01, g02, g03⟩ := BX_20.out
      go_wp2_with fail
      clear g01 g02 g03
      refine (toGraph_c q l A cap _ HB_20.out.at hn).mono ?_
      rintro e w21 ⟨z0, rfl, ho, hb⟩
      have Z21 := Lib.hid (within_of hb).size
      have W21 := Lib.hid (within_on W20.out (within_of hb) W20.out.size (.inr (Nat.le_refl _)))
      have HB_21 := Lib.hid (HB_20.out.within (within_of hb) (by omega))
      have HZ_21 := Lib.hid (HZ_20.out.within (within_of hb) (by omega))
      have BX_21 := Lib.hid (BX_20.out.within (within_of hb) (by omega))
      have SG_21 := Lib.hid (SG_20.out.within (within_of hb) (by omega))
      have SI_21 := Lib.hid (SI_20.out.within (within_of hb) (by omega))
      have SR_21 := Lib.hid (SR_20.out.within (within_of hb) (by omega))
      have XX_21 := Lib.hid (XX_20.out.within (within_of hb) (by omega))
      have SZ_21 := Lib.hid (SZ_20.out.within (within_of hb) (by omega))
      have SM_21 := Lib.hid (SM_20.out.within (within_of hb) (by omega))
      have ST_21 := Lib.hid ((own_in ho).bars)
      clear ho hb
      go_wp2_with fail
      refine (toInts_c ys Z cz 0 _ _ HZ_21.out hny).mono ?_
      rintro e w22 ⟨z1, rfl, ho, hb⟩
      have Z22 := Lib.hid (within_of hb).size
      have W22 := Lib.hid (within_on W21.out (within_of hb) W21.out.size (.inr (Nat.le_refl _)))
      have HB_22 := Lib.hid (HB_21.out.within (within_of hb) (by omega))
      have HZ_22 := Lib.hid (HZ_21.out.within (within_of hb) (by omega))
      have BX_22 := Lib.hid (BX_21.out.within (within_of hb) (by omega))
      have SG_22 := Lib.hid (SG_21.out.within (within_of hb) (by omega))
      have SI_22 := Lib.hid (SI_21.out.within (within_of hb) (by omega))
      have SR_22 := Lib.hid (SR_21.out.within (within_of hb) (by omega))
      have XX_22 := Lib.hid (XX_21.out.within (within_of hb) (by omega))
      have SZ_22 := Lib.hid (SZ_21.out.within (within_of hb) (by omega))
      have SM_22 := Lib.hid (SM_21.out.within (within_of hb) (by omega))
      have ST_22 := Lib.hid (ST_21.out.within (within_of hb) (by omega))
      have SV_22 := Lib.hid ((own_ints' ho).reads)
      clear ho hb
      go_wp2_with fail
      refine (implSpan q l ys (some ⟨z0, 0, none⟩) (some ⟨z1, 0, none⟩) l.length ys.length _ _ _ ST_22.out.at SV_22.out hn hny HW.out HWY.out).mono ?_
      rintro e w23 ⟨AH, ch, rfl, ho, hb⟩
      have Z23 := Lib.hid (within_of hb).size
      have W23 := Lib.hid (within_on W22.out (within_of hb) W22.out.size (.inr (Nat.le_refl _)))
      have HB_23 := Lib.hid (HB_22.out.within (within_of hb) (by omega))
      have HZ_23 := Lib.hid (HZ_22.out.within (within_of hb) (by omega))
      have BX_23 := Lib.hid (BX_22.out.within (within_of hb) (by omega))
      have SG_23 := Lib.hid (SG_22.out.within (within_of hb) (by omega))
      have SI_23 := Lib.hid (SI_22.out.within (within_of hb) (by omega))
      have SR_23 := Lib.hid (SR_22.out.within (within_of hb) (by omega))
      have XX_23 := Lib.hid (XX_22.out.within (within_of hb) (by omega))
      have SZ_23 := Lib.hid (SZ_22.out.within (within_of hb) (by omega))
      have SM_23 := Lib.hid (SM_22.out.within (within_of hb) (by omega))
      have ST_23 := Lib.hid (ST_22.out.within (within_of hb) (by omega))
      have SV_23 := Lib.hid (SV_22.out.within (within_of hb) (by omega))
      have SH_23 := Lib.hid (ho.reads)
      clear ho hb
      go_wp2_with fail
      refine (eqInts_c (spanL l (memS ys)) AH AS ch cs _ _ _ _ _ SH_23.out SR_23.out hzl).mono ?_
      rintro e w24 ⟨rfl, hb⟩
      have Z24 := Lib.hid (within_of hb).size
      have W24 := Lib.hid (within_on W23.out (within_of hb) W23.out.size (.inr (Nat.le_refl _)))
      have HB_24 := Lib.hid (HB_23.out.within (within_of hb) (by omega))
      have HZ_24 := Lib.hid (HZ_23.out.within (within_of hb) (by omega))
      have BX_24 := Lib.hid (BX_23.out.within (within_of hb) (by omega))
      have SG_24 := Lib.hid (SG_23.out.within (within_of hb) (by omega))
      have SI_24 := Lib.hid (SI_23.out.within (within_of hb) (by omega))
      have SR_24 := Lib.hid (SR_23.out.within (within_of hb) (by omega))
      have XX_24 := Lib.hid (XX_23.out.within (within_of hb) (by omega))
      have SZ_24 := Lib.hid (SZ_23.out.within (within_of hb) (by omega))
      have SM_24 := Lib.hid (SM_23.out.within (within_of hb) (by omega))
      have ST_24 := Lib.hid (ST_23.out.within (within_of hb) (by omega))
      have SV_24 := Lib.hid (SV_23.out.within (within_of hb) (by omega))
      have SH_24 := Lib.hid (SH_23.out.within (within_of hb) (by omega))
      clear hb
      go_wp2_with fail
      refine (heldInts_c (spanL l (memS ys)).length AG cg 1 _ _ _ SM_24.out.reads hzl (by omega) (by omega)).mono ?_
      rintro e w25 ⟨rfl, hb⟩
      have Z25 := Lib.hid (within_of hb).size
      have W25 := Lib.hid (within_on W24.out (within_of hb) W24.out.size (.inr (Nat.le_refl _)))
      have HB_25 := Lib.hid (HB_24.out.within (within_of hb) (by omega))
      have HZ_25 := Lib.hid (HZ_24.out.within (within_of hb) (by omega))
      have BX_25 := Lib.hid (BX_24.out.within (within_of hb) (by omega))
      have SG_25 := Lib.hid (SG_24.out.within (within_of hb) (by omega))
      have SI_25 := Lib.hid (SI_24.out.within (within_of hb) (by omega))
      have SR_25 := Lib.hid (SR_24.out.within (within_of hb) (by omega))
      have XX_25 := Lib.hid (XX_24.out.within (within_of hb) (by omega))
      have SZ_25 := Lib.hid (SZ_24.out.within (within_of hb) (by omega))
      have SM_25 := Lib.hid (SM_24.out.within (within_of hb) (by omega))
      have ST_25 := Lib.hid (ST_24.out.within (within_of hb) (by omega))
      have SV_25 := Lib.hid (SV_24.out.within (within_of hb) (by omega))
      have SH_25 := Lib.hid (SH_24.out.within (within_of hb) (by omega))
      clear hb
      go_wp2_with fail
      go_ret
      exact ⟨rfl, W25.out⟩
    · have hx : (1048576 : Int) < (l.length : Int) := by omega
      have h63 : l.length ≤ 9223372036854775807 := by unfold maxLen at hl; omega
      have HA := Lib.hid (new_below w (.cells #[.int .i64 q, .slice A l.length cap] 24))
      go_enter Try.func3, Try.ntmps3
      go_wp2_with fail
      refine (szGraph_no q A l.length cap 1048576 _ h63 hx (by omega)).mono ?_
      rintro e w1 ⟨rfl, hb1⟩
      have W1 := Lib.hid (below_on HA.out hb1 HA.out.size)
      clear hb1
      go_wp2_with fail
      go_ret
      exact ⟨rfl, W1.out⟩
  · have hx : (1048576 : Int) < (ys.length : Int) := by omega
    have HA := Lib.hid (new_below w (.cells #[.int .i64 q, .slice A l.length cap] 24))
    go_enter Try.func3, Try.ntmps3
    go_wp2_with fail
    go_ret
    exact ⟨rfl, HA.out⟩
end Go.Proofs.Ytimgkekllanhmaa
