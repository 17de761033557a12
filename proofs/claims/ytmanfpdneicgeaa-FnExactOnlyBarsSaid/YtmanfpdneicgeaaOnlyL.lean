/- The law FnExactOnlyBars returns true at every input. No condition. -/
import Derived.Test.YtmanfpdneicgeaaOnlyI
import Derived.Test.YtmanfpdneicgeaaIntArg
import Derived.Test.YtmanfpdneicgeaaState
import Derived.Deep.RegionHeld3
namespace Go.Proofs.Ytmanfpdneicgeaa
open Go.RowKit

set_option maxHeartbeats 2000000 in
set_option maxRecDepth 100000 in
theorem lawOnlyBars (q : Int) (A : Option Addr) (cap : Nat) (l : List (Int × Int)) (Z : Option Addr) (len cz : Nat) (zs : List Int) (w : World) (hl : l.length ≤ maxLen) (hb : BarsAt w w.heap.size A l) (hz : IsRow .i64 w Z len cz zs) :
    Calls Try.prog 11 #[.agg #[.int .i64 q, .slice A l.length cap], .slice Z len cz] w fun e w' => e = .returned (.bool true) ∧ Below w.heap.size w w' := by
  obtain ⟨ys, rfl, hi, hym⟩ := hz.ints
  have HB_0 := Lib.hid (bars_in hb)
  have HZ_0 := Lib.hid hi
  clear hb hz hi
  by_cases hny : ys.length ≤ 1048576
  · have hny' : ¬ (1048576 : Int) < (ys.length : Int) := by omega
    by_cases hn : l.length ≤ 1048576
    · have W0 := Lib.hid (Below.refl w.heap.size w)
      have hal := new_below w (.cells #[.int .i64 q, .slice A l.length cap] 24)
      have Z1 := Lib.hid (within_of hal).size
      have W1 := Lib.hid (within_on W0.out (within_of hal) W0.out.size (.inr (Nat.le_refl _)))
      have HB_1 := Lib.hid (HB_0.out.within (within_of hal) (by omega))
      have HZ_1 := Lib.hid (HZ_0.out.within (within_of hal) (by omega))
      clear hal
      have hsz : (w.alloc (.cells #[.int .i64 q, .slice A l.length cap] 24)).heap.size = w.heap.size + 1 := by simp
      have Y1 := Lib.hid hsz
      clear hsz
      have BX_1 := Lib.hid (box_new w q (.slice A l.length cap) 24)
      go_enter Try.func11, Try.ntmps11
      go_wp2_with fail
      generalize (w.alloc (.cells #[.int .i64 q, .slice A l.length cap] 24)) = w1 at *
      refine (szGraph_c q A l.length cap 1048576 _ (by omega) (by omega)).mono ?_
      rintro e w2 ⟨rfl, hb⟩
      have Z2 := Lib.hid (within_of hb).size
      have W2 := Lib.hid (within_on W1.out (within_of hb) W1.out.size (.inr (Nat.le_refl _)))
      have HB_2 := Lib.hid (HB_1.out.within (within_of hb) (by omega))
      have HZ_2 := Lib.hid (HZ_1.out.within (within_of hb) (by omega))
      have BX_2 := Lib.hid (BX_1.out.within (within_of hb) (by omega))
      clear hb
      have hnn : ¬ (1048576 : Int) - (l.length : Int) < 0 := by omega
      obtain ⟨g01, g02, g03⟩ := BX_2.out
      go_wp2_with fail
      clear g01 g02 g03
      refine (toGraph_c q l A cap _ HB_2.out.at hn).mono ?_
      rintro e w3 ⟨g0, rfl, ho, hb⟩
      have Z3 := Lib.hid (within_of hb).size
      have W3 := Lib.hid (within_on W2.out (within_of hb) W2.out.size (.inr (Nat.le_refl _)))
      have HB_3 := Lib.hid (HB_2.out.within (within_of hb) (by omega))
      have HZ_3 := Lib.hid (HZ_2.out.within (within_of hb) (by omega))
      have BX_3 := Lib.hid (BX_2.out.within (within_of hb) (by omega))
      have SG_3 := Lib.hid ((own_in ho).bars)
      clear ho hb
      go_wp2_with fail
      refine (toInts_c ys Z cz 0 _ _ HZ_3.out hny).mono ?_
      rintro e w4 ⟨g1, rfl, ho, hb⟩
      have Z4 := Lib.hid (within_of hb).size
      have W4 := Lib.hid (within_on W3.out (within_of hb) W3.out.size (.inr (Nat.le_refl _)))
      have HB_4 := Lib.hid (HB_3.out.within (within_of hb) (by omega))
      have HZ_4 := Lib.hid (HZ_3.out.within (within_of hb) (by omega))
      have BX_4 := Lib.hid (BX_3.out.within (within_of hb) (by omega))
      have SG_4 := Lib.hid (SG_3.out.within (within_of hb) (by omega))
      have SI_4 := Lib.hid ((own_ints' ho).reads)
      clear ho hb
      go_wp2_with fail
      refine (specOnly q l ys (some ⟨g0, 0, none⟩) (some ⟨g1, 0, none⟩) l.length ys.length _ _ _ SG_4.out.at SI_4.out hn hny).mono ?_
      rintro e w5 ⟨AS, cs, rfl, hs, hb⟩
      have Z5 := Lib.hid (within_of hb).size
      have W5 := Lib.hid (within_on W4.out (within_of hb) W4.out.size (.inr (Nat.le_refl _)))
      have HB_5 := Lib.hid (HB_4.out.within (within_of hb) (by omega))
      have HZ_5 := Lib.hid (HZ_4.out.within (within_of hb) (by omega))
      have BX_5 := Lib.hid (BX_4.out.within (within_of hb) (by omega))
      have SG_5 := Lib.hid (SG_4.out.within (within_of hb) (by omega))
      have SI_5 := Lib.hid (SI_4.out.within (within_of hb) (by omega))
      have SR_5 := Lib.hid (bars_in hs)
      clear hs hb
      obtain ⟨g01, g02, g03⟩ := BX_5.out
      go_wp2_with fail
      clear g01 g02 g03
      have hal := new_below w5 (.cells #[.int .i64 q, .slice AS (onlyL l ys).length cs] 29)
      have Z6 := Lib.hid (within_of hal).size
      have W6 := Lib.hid (within_on W5.out (within_of hal) W5.out.size (.inr (Nat.le_refl _)))
      have HB_6 := Lib.hid (HB_5.out.within (within_of hal) (by omega))
      have HZ_6 := Lib.hid (HZ_5.out.within (within_of hal) (by omega))
      have BX_6 := Lib.hid (BX_5.out.within (within_of hal) (by omega))
      have SG_6 := Lib.hid (SG_5.out.within (within_of hal) (by omega))
      have SI_6 := Lib.hid (SI_5.out.within (within_of hal) (by omega))
      have SR_6 := Lib.hid (SR_5.out.within (within_of hal) (by omega))
      clear hal
      have hsz : (w5.alloc (.cells #[.int .i64 q, .slice AS (onlyL l ys).length cs] 29)).heap.size = w5.heap.size + 1 := by simp
      have Y6 := Lib.hid hsz
      clear hsz
      have BW_6 := Lib.hid (box_new w5 q (.slice AS (onlyL l ys).length cs) 29)
      generalize (w5.alloc (.cells #[.int .i64 q, .slice AS (onlyL l ys).length cs] 29)) = w6 at *
      refine (toGraph_c q l A cap _ HB_6.out.at hn).mono ?_
      rintro e w7 ⟨x0, rfl, ho, hb⟩
      have Z7 := Lib.hid (within_of hb).size
      have W7 := Lib.hid (within_on W6.out (within_of hb) W6.out.size (.inr (Nat.le_refl _)))
      have HB_7 := Lib.hid (HB_6.out.within (within_of hb) (by omega))
      have HZ_7 := Lib.hid (HZ_6.out.within (within_of hb) (by omega))
      have BX_7 := Lib.hid (BX_6.out.within (within_of hb) (by omega))
      have SG_7 := Lib.hid (SG_6.out.within (within_of hb) (by omega))
      have SI_7 := Lib.hid (SI_6.out.within (within_of hb) (by omega))
      have SR_7 := Lib.hid (SR_6.out.within (within_of hb) (by omega))
      have BW_7 := Lib.hid (BW_6.out.within (within_of hb) (by omega))
      have SX_7 := Lib.hid (own_in ho)
      clear ho hb
      go_wp2_with fail
      have hal := new_below w7 (.cells #[.int .i64 q, .slice (some ⟨x0, 0, none⟩) l.length l.length] 29)
      have Z8 := Lib.hid (within_of hal).size
      have W8 := Lib.hid (within_on W7.out (within_of hal) W7.out.size (.inr (Nat.le_refl _)))
      have HB_8 := Lib.hid (HB_7.out.within (within_of hal) (by omega))
      have HZ_8 := Lib.hid (HZ_7.out.within (within_of hal) (by omega))
      have BX_8 := Lib.hid (BX_7.out.within (within_of hal) (by omega))
      have SG_8 := Lib.hid (SG_7.out.within (within_of hal) (by omega))
      have SI_8 := Lib.hid (SI_7.out.within (within_of hal) (by omega))
      have SR_8 := Lib.hid (SR_7.out.within (within_of hal) (by omega))
      have BW_8 := Lib.hid (BW_7.out.within (within_of hal) (by omega))
      have SX_8 := Lib.hid (SX_7.out.within (within_of hal) (by omega))
      clear hal
      have hsz : (w7.alloc (.cells #[.int .i64 q, .slice (some ⟨x0, 0, none⟩) l.length l.length] 29)).heap.size = w7.heap.size + 1 := by simp
      have Y8 := Lib.hid hsz
      clear hsz
      have XX_8 := Lib.hid (box_new w7 q (.slice (some ⟨x0, 0, none⟩) l.length l.length) 29)
      generalize (w7.alloc (.cells #[.int .i64 q, .slice (some ⟨x0, 0, none⟩) l.length l.length] 29)) = w8 at *
      refine (toInts_c ys Z cz 0 _ _ HZ_8.out hny).mono ?_
      rintro e w9 ⟨x1, rfl, ho, hb⟩
      have Z9 := Lib.hid (within_of hb).size
      have W9 := Lib.hid (within_on W8.out (within_of hb) W8.out.size (.inr (Nat.le_refl _)))
      have HB_9 := Lib.hid (HB_8.out.within (within_of hb) (by omega))
      have HZ_9 := Lib.hid (HZ_8.out.within (within_of hb) (by omega))
      have BX_9 := Lib.hid (BX_8.out.within (within_of hb) (by omega))
      have SG_9 := Lib.hid (SG_8.out.within (within_of hb) (by omega))
      have SI_9 := Lib.hid (SI_8.out.within (within_of hb) (by omega))
      have SR_9 := Lib.hid (SR_8.out.within (within_of hb) (by omega))
      have BW_9 := Lib.hid (BW_8.out.within (within_of hb) (by omega))
      have SX_9 := Lib.hid (SX_8.out.within (within_of hb) (by omega))
      have XX_9 := Lib.hid (XX_8.out.within (within_of hb) (by omega))
      have SY_9 := Lib.hid (own_ints' ho)
      clear ho hb
      obtain ⟨g01, g02, g03⟩ := XX_9.out
      go_wp2_with fail
      clear g01 g02 g03
      refine (implOnly q l ys (some ⟨x0, 0, none⟩) (some ⟨x1, 0, none⟩) l.length ys.length _ _ _ SX_9.out.bars.at SY_9.out.reads hn hny).mono ?_
      rintro e w10 ⟨AG, cg, rfl, ho, hb⟩
      have Z10 := Lib.hid (within_of hb).size
      have W10 := Lib.hid (within_on W9.out (within_of hb) W9.out.size (.inr (Nat.le_refl _)))
      have HB_10 := Lib.hid (HB_9.out.within (within_of hb) (by omega))
      have HZ_10 := Lib.hid (HZ_9.out.within (within_of hb) (by omega))
      have BX_10 := Lib.hid (BX_9.out.within (within_of hb) (by omega))
      have SG_10 := Lib.hid (SG_9.out.within (within_of hb) (by omega))
      have SI_10 := Lib.hid (SI_9.out.within (within_of hb) (by omega))
      have SR_10 := Lib.hid (SR_9.out.within (within_of hb) (by omega))
      have BW_10 := Lib.hid (BW_9.out.within (within_of hb) (by omega))
      have SX_10 := Lib.hid (SX_9.out.within (within_of hb) (by omega))
      have XX_10 := Lib.hid (XX_9.out.within (within_of hb) (by omega))
      have SY_10 := Lib.hid (SY_9.out.within (within_of hb) (by omega))
      have SO_10 := Lib.hid (ho)
      clear ho hb
      obtain ⟨g01, g02, g03⟩ := BW_10.out
      go_wp2_with fail
      clear g01 g02 g03
      have hal := new_below w10 (.cells #[.int .i64 q, .slice AG (onlyL l ys).length cg] 29)
      have Z11 := Lib.hid (within_of hal).size
      have W11 := Lib.hid (within_on W10.out (within_of hal) W10.out.size (.inr (Nat.le_refl _)))
      have HB_11 := Lib.hid (HB_10.out.within (within_of hal) (by omega))
      have HZ_11 := Lib.hid (HZ_10.out.within (within_of hal) (by omega))
      have BX_11 := Lib.hid (BX_10.out.within (within_of hal) (by omega))
      have SG_11 := Lib.hid (SG_10.out.within (within_of hal) (by omega))
      have SI_11 := Lib.hid (SI_10.out.within (within_of hal) (by omega))
      have SR_11 := Lib.hid (SR_10.out.within (within_of hal) (by omega))
      have BW_11 := Lib.hid (BW_10.out.within (within_of hal) (by omega))
      have SX_11 := Lib.hid (SX_10.out.within (within_of hal) (by omega))
      have XX_11 := Lib.hid (XX_10.out.within (within_of hal) (by omega))
      have SY_11 := Lib.hid (SY_10.out.within (within_of hal) (by omega))
      have SO_11 := Lib.hid (SO_10.out.within (within_of hal) (by omega))
      clear hal
      have hsz : (w10.alloc (.cells #[.int .i64 q, .slice AG (onlyL l ys).length cg] 29)).heap.size = w10.heap.size + 1 := by simp
      have Y11 := Lib.hid hsz
      clear hsz
      have BG_11 := Lib.hid (box_new w10 q (.slice AG (onlyL l ys).length cg) 29)
      generalize (w10.alloc (.cells #[.int .i64 q, .slice AG (onlyL l ys).length cg] 29)) = w11 at *
      refine (eqGraph_c q (onlyL l ys) AG AS cg cs _ SO_11.out.bars.at SR_11.out.at (onlyL_len l ys hn)).mono ?_
      rintro e w12 ⟨rfl, hb⟩
      have Z12 := Lib.hid (within_of hb).size
      have W12 := Lib.hid (within_on W11.out (within_of hb) W11.out.size (.inr (Nat.le_refl _)))
      have HB_12 := Lib.hid (HB_11.out.within (within_of hb) (by omega))
      have HZ_12 := Lib.hid (HZ_11.out.within (within_of hb) (by omega))
      have BX_12 := Lib.hid (BX_11.out.within (within_of hb) (by omega))
      have SG_12 := Lib.hid (SG_11.out.within (within_of hb) (by omega))
      have SI_12 := Lib.hid (SI_11.out.within (within_of hb) (by omega))
      have SR_12 := Lib.hid (SR_11.out.within (within_of hb) (by omega))
      have BW_12 := Lib.hid (BW_11.out.within (within_of hb) (by omega))
      have SX_12 := Lib.hid (SX_11.out.within (within_of hb) (by omega))
      have XX_12 := Lib.hid (XX_11.out.within (within_of hb) (by omega))
      have SY_12 := Lib.hid (SY_11.out.within (within_of hb) (by omega))
      have SO_12 := Lib.hid (SO_11.out.within (within_of hb) (by omega))
      have BG_12 := Lib.hid (BG_11.out.within (within_of hb) (by omega))
      clear hb
      have kk0 := box2 BX_12.out XX_12.out
      have kk := box2 BX_12.out XX_12.out
      have hdr : Below w12.heap.size w12 w12.drew := (Below.refl _ _).drew
      have Z13 := Lib.hid (within_of hdr).size
      have W13 := Lib.hid (within_on W12.out (within_of hdr) W12.out.size (.inr (Nat.le_refl _)))
      have HB_13 := Lib.hid (HB_12.out.within (within_of hdr) (by omega))
      have HZ_13 := Lib.hid (HZ_12.out.within (within_of hdr) (by omega))
      have BX_13 := Lib.hid (BX_12.out.within (within_of hdr) (by omega))
      have SG_13 := Lib.hid (SG_12.out.within (within_of hdr) (by omega))
      have SI_13 := Lib.hid (SI_12.out.within (within_of hdr) (by omega))
      have SR_13 := Lib.hid (SR_12.out.within (within_of hdr) (by omega))
      have BW_13 := Lib.hid (BW_12.out.within (within_of hdr) (by omega))
      have SX_13 := Lib.hid (SX_12.out.within (within_of hdr) (by omega))
      have XX_13 := Lib.hid (XX_12.out.within (within_of hdr) (by omega))
      have SY_13 := Lib.hid (SY_12.out.within (within_of hdr) (by omega))
      have SO_13 := Lib.hid (SO_12.out.within (within_of hdr) (by omega))
      have BG_13 := Lib.hid (BG_12.out.within (within_of hdr) (by omega))
      clear hdr
      go_wp2_with fail
      go_region_held3 (fun W' => W'.cell? ⟨w.heap.size, 0, none⟩ = some (.int .i64 q) ∧ W'.cell? ⟨w.heap.size, 1, none⟩ = some ((.slice A l.length cap)) ∧ W'.cell? ⟨w7.heap.size, 0, none⟩ = some (.int .i64 q) ∧ W'.cell? ⟨w7.heap.size, 1, none⟩ = some ((.slice (some ⟨x0, 0, none⟩) l.length l.length)))
        (first | exact kk | exact box2 BX_14.out XX_14.out | exact box2 BX_15.out XX_15.out | fail)
        (first
          | (go_at_call 15; refine (toGraph_c q l A cap _ ?_ hn).mono ?_; (exact HB_13.out.at); rintro e w14 ⟨y0, rfl, ho, hb⟩; have Z14 := Lib.hid (within_of hb).size; have W14 := Lib.hid (within_on W13.out (within_of hb) W13.out.size (.inr (Nat.le_refl _))); have HB_14 := Lib.hid (HB_13.out.within (within_of hb) (by omega)); have HZ_14 := Lib.hid (HZ_13.out.within (within_of hb) (by omega)); have BX_14 := Lib.hid (BX_13.out.within (within_of hb) (by omega)); have SG_14 := Lib.hid (SG_13.out.within (within_of hb) (by omega)); have SI_14 := Lib.hid (SI_13.out.within (within_of hb) (by omega)); have SR_14 := Lib.hid (SR_13.out.within (within_of hb) (by omega)); have BW_14 := Lib.hid (BW_13.out.within (within_of hb) (by omega)); have SX_14 := Lib.hid (SX_13.out.within (within_of hb) (by omega)); have XX_14 := Lib.hid (XX_13.out.within (within_of hb) (by omega)); have SY_14 := Lib.hid (SY_13.out.within (within_of hb) (by omega)); have SO_14 := Lib.hid (SO_13.out.within (within_of hb) (by omega)); have BG_14 := Lib.hid (BG_13.out.within (within_of hb) (by omega)); have YY := Lib.hid (own_bars ho); clear ho hb)
          | (go_at_call 17; refine (eqGraph_c q l _ _ l.length l.length _ ?_ ?_ hn).mono ?_; (exact SX_14.out.bars.at); (exact YY.out); rintro e w15 ⟨rfl, hb⟩; have Z15 := Lib.hid (within_of hb).size; have W15 := Lib.hid (within_on W14.out (within_of hb) W14.out.size (.inr (Nat.le_refl _))); have HB_15 := Lib.hid (HB_14.out.within (within_of hb) (by omega)); have HZ_15 := Lib.hid (HZ_14.out.within (within_of hb) (by omega)); have BX_15 := Lib.hid (BX_14.out.within (within_of hb) (by omega)); have SG_15 := Lib.hid (SG_14.out.within (within_of hb) (by omega)); have SI_15 := Lib.hid (SI_14.out.within (within_of hb) (by omega)); have SR_15 := Lib.hid (SR_14.out.within (within_of hb) (by omega)); have BW_15 := Lib.hid (BW_14.out.within (within_of hb) (by omega)); have SX_15 := Lib.hid (SX_14.out.within (within_of hb) (by omega)); have XX_15 := Lib.hid (XX_14.out.within (within_of hb) (by omega)); have SY_15 := Lib.hid (SY_14.out.within (within_of hb) (by omega)); have SO_15 := Lib.hid (SO_14.out.within (within_of hb) (by omega)); have BG_15 := Lib.hid (BG_14.out.within (within_of hb) (by omega)); clear hb))
      go_wp2_with fail
      refine (toInts_c ys Z cz 0 _ _ HZ_15.out hny).mono ?_
      rintro e w16 ⟨y1, rfl, ho, hb⟩
      have Z16 := Lib.hid (within_of hb).size
      have W16 := Lib.hid (within_on W15.out (within_of hb) W15.out.size (.inr (Nat.le_refl _)))
      have HB_16 := Lib.hid (HB_15.out.within (within_of hb) (by omega))
      have HZ_16 := Lib.hid (HZ_15.out.within (within_of hb) (by omega))
      have BX_16 := Lib.hid (BX_15.out.within (within_of hb) (by omega))
      have SG_16 := Lib.hid (SG_15.out.within (within_of hb) (by omega))
      have SI_16 := Lib.hid (SI_15.out.within (within_of hb) (by omega))
      have SR_16 := Lib.hid (SR_15.out.within (within_of hb) (by omega))
      have BW_16 := Lib.hid (BW_15.out.within (within_of hb) (by omega))
      have SX_16 := Lib.hid (SX_15.out.within (within_of hb) (by omega))
      have XX_16 := Lib.hid (XX_15.out.within (within_of hb) (by omega))
      have SY_16 := Lib.hid (SY_15.out.within (within_of hb) (by omega))
      have SO_16 := Lib.hid (SO_15.out.within (within_of hb) (by omega))
      have BG_16 := Lib.hid (BG_15.out.within (within_of hb) (by omega))
      have SZ_16 := Lib.hid ((own_ints' ho).reads)
      clear ho hb
      go_wp2_with fail
      refine (eqInts_c ys (some ⟨x1, 0, none⟩) (some ⟨y1, 0, none⟩) ys.length ys.length _ _ _ _ _ SY_16.out.reads SZ_16.out hny).mono ?_
      rintro e w17 ⟨rfl, hb⟩
      have Z17 := Lib.hid (within_of hb).size
      have W17 := Lib.hid (within_on W16.out (within_of hb) W16.out.size (.inr (Nat.le_refl _)))
      have HB_17 := Lib.hid (HB_16.out.within (within_of hb) (by omega))
      have HZ_17 := Lib.hid (HZ_16.out.within (within_of hb) (by omega))
      have BX_17 := Lib.hid (BX_16.out.within (within_of hb) (by omega))
      have SG_17 := Lib.hid (SG_16.out.within (within_of hb) (by omega))
      have SI_17 := Lib.hid (SI_16.out.within (within_of hb) (by omega))
      have SR_17 := Lib.hid (SR_16.out.within (within_of hb) (by omega))
      have BW_17 := Lib.hid (BW_16.out.within (within_of hb) (by omega))
      have SX_17 := Lib.hid (SX_16.out.within (within_of hb) (by omega))
      have XX_17 := Lib.hid (XX_16.out.within (within_of hb) (by omega))
      have SY_17 := Lib.hid (SY_16.out.within (within_of hb) (by omega))
      have SO_17 := Lib.hid (SO_16.out.within (within_of hb) (by omega))
      have BG_17 := Lib.hid (BG_16.out.within (within_of hb) (by omega))
      have SZ_17 := Lib.hid (SZ_16.out.within (within_of hb) (by omega))
      clear hb
      obtain ⟨g01, g02, g03⟩ := XX_17.out
      go_wp2_with fail
      clear g01 g02 g03
      refine (markGraph_o q (some ⟨x0, 0, none⟩) l.length l 1 w6.heap.size w7.heap.size _ SX_17.out hn (by omega) (by omega)).mono ?_
      rintro e w18 ⟨rfl, hin, hox⟩
      have Z18 := Lib.hid (hin).size
      have W18 := Lib.hid (within_on W17.out (hin) W17.out.size (by have := W17.out.size; have := Z1.out; have := Z2.out; have := Z3.out; have := Z4.out; have := Z5.out; have := Z6.out; have := Z7.out; have := Z8.out; have := Z9.out; have := Z10.out; have := Z11.out; have := Z12.out; have := Z13.out; have := Z14.out; have := Z15.out; have := Z16.out; have := Z17.out; have := Z18.out; have := Y1.out; have := Y6.out; have := Y8.out; have := Y11.out; omega))
      have HB_18 := Lib.hid (HB_17.out.within (hin) (by have := Z1.out; have := Z2.out; have := Z3.out; have := Z4.out; have := Z5.out; have := Z6.out; have := Z7.out; have := Z8.out; have := Z9.out; have := Z10.out; have := Z11.out; have := Z12.out; have := Z13.out; have := Z14.out; have := Z15.out; have := Z16.out; have := Z17.out; have := Z18.out; have := Y1.out; have := Y6.out; have := Y8.out; have := Y11.out; omega))
      have HZ_18 := Lib.hid (HZ_17.out.within (hin) (by have := Z1.out; have := Z2.out; have := Z3.out; have := Z4.out; have := Z5.out; have := Z6.out; have := Z7.out; have := Z8.out; have := Z9.out; have := Z10.out; have := Z11.out; have := Z12.out; have := Z13.out; have := Z14.out; have := Z15.out; have := Z16.out; have := Z17.out; have := Z18.out; have := Y1.out; have := Y6.out; have := Y8.out; have := Y11.out; omega))
      have BX_18 := Lib.hid (BX_17.out.within (hin) (by have := Z1.out; have := Z2.out; have := Z3.out; have := Z4.out; have := Z5.out; have := Z6.out; have := Z7.out; have := Z8.out; have := Z9.out; have := Z10.out; have := Z11.out; have := Z12.out; have := Z13.out; have := Z14.out; have := Z15.out; have := Z16.out; have := Z17.out; have := Z18.out; have := Y1.out; have := Y6.out; have := Y8.out; have := Y11.out; omega))
      have SG_18 := Lib.hid (SG_17.out.within (hin) (by have := Z1.out; have := Z2.out; have := Z3.out; have := Z4.out; have := Z5.out; have := Z6.out; have := Z7.out; have := Z8.out; have := Z9.out; have := Z10.out; have := Z11.out; have := Z12.out; have := Z13.out; have := Z14.out; have := Z15.out; have := Z16.out; have := Z17.out; have := Z18.out; have := Y1.out; have := Y6.out; have := Y8.out; have := Y11.out; omega))
      have SI_18 := Lib.hid (SI_17.out.within (hin) (by have := Z1.out; have := Z2.out; have := Z3.out; have := Z4.out; have := Z5.out; have := Z6.out; have := Z7.out; have := Z8.out; have := Z9.out; have := Z10.out; have := Z11.out; have := Z12.out; have := Z13.out; have := Z14.out; have := Z15.out; have := Z16.out; have := Z17.out; have := Z18.out; have := Y1.out; have := Y6.out; have := Y8.out; have := Y11.out; omega))
      have SR_18 := Lib.hid (SR_17.out.within (hin) (by have := Z1.out; have := Z2.out; have := Z3.out; have := Z4.out; have := Z5.out; have := Z6.out; have := Z7.out; have := Z8.out; have := Z9.out; have := Z10.out; have := Z11.out; have := Z12.out; have := Z13.out; have := Z14.out; have := Z15.out; have := Z16.out; have := Z17.out; have := Z18.out; have := Y1.out; have := Y6.out; have := Y8.out; have := Y11.out; omega))
      have BW_18 := Lib.hid (BW_17.out.within (hin) (by have := Z1.out; have := Z2.out; have := Z3.out; have := Z4.out; have := Z5.out; have := Z6.out; have := Z7.out; have := Z8.out; have := Z9.out; have := Z10.out; have := Z11.out; have := Z12.out; have := Z13.out; have := Z14.out; have := Z15.out; have := Z16.out; have := Z17.out; have := Z18.out; have := Y1.out; have := Y6.out; have := Y8.out; have := Y11.out; omega))
      have XX_18 := Lib.hid (XX_17.out.within (hin) (by have := Z1.out; have := Z2.out; have := Z3.out; have := Z4.out; have := Z5.out; have := Z6.out; have := Z7.out; have := Z8.out; have := Z9.out; have := Z10.out; have := Z11.out; have := Z12.out; have := Z13.out; have := Z14.out; have := Z15.out; have := Z16.out; have := Z17.out; have := Z18.out; have := Y1.out; have := Y6.out; have := Y8.out; have := Y11.out; omega))
      have SY_18 := Lib.hid (SY_17.out.within (hin) (by have := Z1.out; have := Z2.out; have := Z3.out; have := Z4.out; have := Z5.out; have := Z6.out; have := Z7.out; have := Z8.out; have := Z9.out; have := Z10.out; have := Z11.out; have := Z12.out; have := Z13.out; have := Z14.out; have := Z15.out; have := Z16.out; have := Z17.out; have := Z18.out; have := Y1.out; have := Y6.out; have := Y8.out; have := Y11.out; omega))
      have SO_18 := Lib.hid (SO_17.out.within (hin) (by have := Z1.out; have := Z2.out; have := Z3.out; have := Z4.out; have := Z5.out; have := Z6.out; have := Z7.out; have := Z8.out; have := Z9.out; have := Z10.out; have := Z11.out; have := Z12.out; have := Z13.out; have := Z14.out; have := Z15.out; have := Z16.out; have := Z17.out; have := Z18.out; have := Y1.out; have := Y6.out; have := Y8.out; have := Y11.out; omega))
      have BG_18 := Lib.hid (BG_17.out.within (hin) (by have := Z1.out; have := Z2.out; have := Z3.out; have := Z4.out; have := Z5.out; have := Z6.out; have := Z7.out; have := Z8.out; have := Z9.out; have := Z10.out; have := Z11.out; have := Z12.out; have := Z13.out; have := Z14.out; have := Z15.out; have := Z16.out; have := Z17.out; have := Z18.out; have := Y1.out; have := Y6.out; have := Y8.out; have := Y11.out; omega))
      have SZ_18 := Lib.hid (SZ_17.out.within (hin) (by have := Z1.out; have := Z2.out; have := Z3.out; have := Z4.out; have := Z5.out; have := Z6.out; have := Z7.out; have := Z8.out; have := Z9.out; have := Z10.out; have := Z11.out; have := Z12.out; have := Z13.out; have := Z14.out; have := Z15.out; have := Z16.out; have := Z17.out; have := Z18.out; have := Y1.out; have := Y6.out; have := Y8.out; have := Y11.out; omega))
      clear hox hin
      go_wp2_with fail
      refine (markInts_o (some ⟨x1, 0, none⟩) ys.length ys (1 + 2 * (l.length : Int)) w8.heap.size w9.heap.size _ SY_18.out hny (by omega) (by omega)).mono ?_
      rintro e w19 ⟨rfl, hin, hox⟩
      have Z19 := Lib.hid (hin).size
      have W19 := Lib.hid (within_on W18.out (hin) W18.out.size (by have := W18.out.size; have := Z1.out; have := Z2.out; have := Z3.out; have := Z4.out; have := Z5.out; have := Z6.out; have := Z7.out; have := Z8.out; have := Z9.out; have := Z10.out; have := Z11.out; have := Z12.out; have := Z13.out; have := Z14.out; have := Z15.out; have := Z16.out; have := Z17.out; have := Z18.out; have := Z19.out; have := Y1.out; have := Y6.out; have := Y8.out; have := Y11.out; omega))
      have HB_19 := Lib.hid (HB_18.out.within (hin) (by have := Z1.out; have := Z2.out; have := Z3.out; have := Z4.out; have := Z5.out; have := Z6.out; have := Z7.out; have := Z8.out; have := Z9.out; have := Z10.out; have := Z11.out; have := Z12.out; have := Z13.out; have := Z14.out; have := Z15.out; have := Z16.out; have := Z17.out; have := Z18.out; have := Z19.out; have := Y1.out; have := Y6.out; have := Y8.out; have := Y11.out; omega))
      have HZ_19 := Lib.hid (HZ_18.out.within (hin) (by have := Z1.out; have := Z2.out; have := Z3.out; have := Z4.out; have := Z5.out; have := Z6.out; have := Z7.out; have := Z8.out; have := Z9.out; have := Z10.out; have := Z11.out; have := Z12.out; have := Z13.out; have := Z14.out; have := Z15.out; have := Z16.out; have := Z17.out; have := Z18.out; have := Z19.out; have := Y1.out; have := Y6.out; have := Y8.out; have := Y11.out; omega))
      have BX_19 := Lib.hid (BX_18.out.within (hin) (by have := Z1.out; have := Z2.out; have := Z3.out; have := Z4.out; have := Z5.out; have := Z6.out; have := Z7.out; have := Z8.out; have := Z9.out; have := Z10.out; have := Z11.out; have := Z12.out; have := Z13.out; have := Z14.out; have := Z15.out; have := Z16.out; have := Z17.out; have := Z18.out; have := Z19.out; have := Y1.out; have := Y6.out; have := Y8.out; have := Y11.out; omega))
      have SG_19 := Lib.hid (SG_18.out.within (hin) (by have := Z1.out; have := Z2.out; have := Z3.out; have := Z4.out; have := Z5.out; have := Z6.out; have := Z7.out; have := Z8.out; have := Z9.out; have := Z10.out; have := Z11.out; have := Z12.out; have := Z13.out; have := Z14.out; have := Z15.out; have := Z16.out; have := Z17.out; have := Z18.out; have := Z19.out; have := Y1.out; have := Y6.out; have := Y8.out; have := Y11.out; omega))
      have SI_19 := Lib.hid (SI_18.out.within (hin) (by have := Z1.out; have := Z2.out; have := Z3.out; have := Z4.out; have := Z5.out; have := Z6.out; have := Z7.out; have := Z8.out; have := Z9.out; have := Z10.out; have := Z11.out; have := Z12.out; have := Z13.out; have := Z14.out; have := Z15.out; have := Z16.out; have := Z17.out; have := Z18.out; have := Z19.out; have := Y1.out; have := Y6.out; have := Y8.out; have := Y11.out; omega))
      have SR_19 := Lib.hid (SR_18.out.within (hin) (by have := Z1.out; have := Z2.out; have := Z3.out; have := Z4.out; have := Z5.out; have := Z6.out; have := Z7.out; have := Z8.out; have := Z9.out; have := Z10.out; have := Z11.out; have := Z12.out; have := Z13.out; have := Z14.out; have := Z15.out; have := Z16.out; have := Z17.out; have := Z18.out; have := Z19.out; have := Y1.out; have := Y6.out; have := Y8.out; have := Y11.out; omega))
      have BW_19 := Lib.hid (BW_18.out.within (hin) (by have := Z1.out; have := Z2.out; have := Z3.out; have := Z4.out; have := Z5.out; have := Z6.out; have := Z7.out; have := Z8.out; have := Z9.out; have := Z10.out; have := Z11.out; have := Z12.out; have := Z13.out; have := Z14.out; have := Z15.out; have := Z16.out; have := Z17.out; have := Z18.out; have := Z19.out; have := Y1.out; have := Y6.out; have := Y8.out; have := Y11.out; omega))
      have XX_19 := Lib.hid (XX_18.out.within (hin) (by have := Z1.out; have := Z2.out; have := Z3.out; have := Z4.out; have := Z5.out; have := Z6.out; have := Z7.out; have := Z8.out; have := Z9.out; have := Z10.out; have := Z11.out; have := Z12.out; have := Z13.out; have := Z14.out; have := Z15.out; have := Z16.out; have := Z17.out; have := Z18.out; have := Z19.out; have := Y1.out; have := Y6.out; have := Y8.out; have := Y11.out; omega))
      have SO_19 := Lib.hid (SO_18.out.within (hin) (by have := Z1.out; have := Z2.out; have := Z3.out; have := Z4.out; have := Z5.out; have := Z6.out; have := Z7.out; have := Z8.out; have := Z9.out; have := Z10.out; have := Z11.out; have := Z12.out; have := Z13.out; have := Z14.out; have := Z15.out; have := Z16.out; have := Z17.out; have := Z18.out; have := Z19.out; have := Y1.out; have := Y6.out; have := Y8.out; have := Y11.out; omega))
      have BG_19 := Lib.hid (BG_18.out.within (hin) (by have := Z1.out; have := Z2.out; have := Z3.out; have := Z4.out; have := Z5.out; have := Z6.out; have := Z7.out; have := Z8.out; have := Z9.out; have := Z10.out; have := Z11.out; have := Z12.out; have := Z13.out; have := Z14.out; have := Z15.out; have := Z16.out; have := Z17.out; have := Z18.out; have := Z19.out; have := Y1.out; have := Y6.out; have := Y8.out; have := Y11.out; omega))
      have SZ_19 := Lib.hid (SZ_18.out.within (hin) (by have := Z1.out; have := Z2.out; have := Z3.out; have := Z4.out; have := Z5.out; have := Z6.out; have := Z7.out; have := Z8.out; have := Z9.out; have := Z10.out; have := Z11.out; have := Z12.out; have := Z13.out; have := Z14.out; have := Z15.out; have := Z16.out; have := Z17.out; have := Z18.out; have := Z19.out; have := Y1.out; have := Y6.out; have := Y8.out; have := Y11.out; omega))
      clear hox hin
      have hk1 : ¬ (1 : Int) + 2 * (l.length : Int) + (ys.length : Int) < 0 := by omega
      obtain ⟨g01, g02, g03⟩ := BG_19.out
      obtain ⟨g11, g12, g13⟩ := BW_19.out
      go_wp2_with fail
      clear g01 g02 g03 g11 g12 g13
      refine (eqGraph_c q (onlyL l ys) AG AS cg cs _ SO_19.out.bars.at SR_19.out.at (onlyL_len l ys hn)).mono ?_
      rintro e w20 ⟨rfl, hb⟩
      have Z20 := Lib.hid (within_of hb).size
      have W20 := Lib.hid (within_on W19.out (within_of hb) W19.out.size (.inr (Nat.le_refl _)))
      have HB_20 := Lib.hid (HB_19.out.within (within_of hb) (by omega))
      have HZ_20 := Lib.hid (HZ_19.out.within (within_of hb) (by omega))
      have BX_20 := Lib.hid (BX_19.out.within (within_of hb) (by omega))
      have SG_20 := Lib.hid (SG_19.out.within (within_of hb) (by omega))
      have SI_20 := Lib.hid (SI_19.out.within (within_of hb) (by omega))
      have SR_20 := Lib.hid (SR_19.out.within (within_of hb) (by omega))
      have BW_20 := Lib.hid (BW_19.out.within (within_of hb) (by omega))
      have XX_20 := Lib.hid (XX_19.out.within (within_of hb) (by omega))
      have SO_20 := Lib.hid (SO_19.out.within (within_of hb) (by omega))
      have BG_20 := Lib.hid (BG_19.out.within (within_of hb) (by omega))
      have SZ_20 := Lib.hid (SZ_19.out.within (within_of hb) (by omega))
      clear hb
      obtain ⟨g01, g02, g03⟩ := BG_20.out
      go_wp2_with fail
      clear g01 g02 g03
      refine (markGraph_o q AG cg (onlyL l ys) 1 w9.heap.size w10.heap.size _ SO_20.out (onlyL_len l ys hn) (by omega) (by omega)).mono ?_
      rintro e w21 ⟨rfl, hin, hog⟩
      have Z21 := Lib.hid (hin).size
      have W21 := Lib.hid (within_on W20.out (hin) W20.out.size (by have := W20.out.size; have := Z1.out; have := Z2.out; have := Z3.out; have := Z4.out; have := Z5.out; have := Z6.out; have := Z7.out; have := Z8.out; have := Z9.out; have := Z10.out; have := Z11.out; have := Z12.out; have := Z13.out; have := Z14.out; have := Z15.out; have := Z16.out; have := Z17.out; have := Z18.out; have := Z19.out; have := Z20.out; have := Z21.out; have := Y1.out; have := Y6.out; have := Y8.out; have := Y11.out; omega))
      have HB_21 := Lib.hid (HB_20.out.within (hin) (by have := Z1.out; have := Z2.out; have := Z3.out; have := Z4.out; have := Z5.out; have := Z6.out; have := Z7.out; have := Z8.out; have := Z9.out; have := Z10.out; have := Z11.out; have := Z12.out; have := Z13.out; have := Z14.out; have := Z15.out; have := Z16.out; have := Z17.out; have := Z18.out; have := Z19.out; have := Z20.out; have := Z21.out; have := Y1.out; have := Y6.out; have := Y8.out; have := Y11.out; omega))
      have HZ_21 := Lib.hid (HZ_20.out.within (hin) (by have := Z1.out; have := Z2.out; have := Z3.out; have := Z4.out; have := Z5.out; have := Z6.out; have := Z7.out; have := Z8.out; have := Z9.out; have := Z10.out; have := Z11.out; have := Z12.out; have := Z13.out; have := Z14.out; have := Z15.out; have := Z16.out; have := Z17.out; have := Z18.out; have := Z19.out; have := Z20.out; have := Z21.out; have := Y1.out; have := Y6.out; have := Y8.out; have := Y11.out; omega))
      have BX_21 := Lib.hid (BX_20.out.within (hin) (by have := Z1.out; have := Z2.out; have := Z3.out; have := Z4.out; have := Z5.out; have := Z6.out; have := Z7.out; have := Z8.out; have := Z9.out; have := Z10.out; have := Z11.out; have := Z12.out; have := Z13.out; have := Z14.out; have := Z15.out; have := Z16.out; have := Z17.out; have := Z18.out; have := Z19.out; have := Z20.out; have := Z21.out; have := Y1.out; have := Y6.out; have := Y8.out; have := Y11.out; omega))
      have SG_21 := Lib.hid (SG_20.out.within (hin) (by have := Z1.out; have := Z2.out; have := Z3.out; have := Z4.out; have := Z5.out; have := Z6.out; have := Z7.out; have := Z8.out; have := Z9.out; have := Z10.out; have := Z11.out; have := Z12.out; have := Z13.out; have := Z14.out; have := Z15.out; have := Z16.out; have := Z17.out; have := Z18.out; have := Z19.out; have := Z20.out; have := Z21.out; have := Y1.out; have := Y6.out; have := Y8.out; have := Y11.out; omega))
      have SI_21 := Lib.hid (SI_20.out.within (hin) (by have := Z1.out; have := Z2.out; have := Z3.out; have := Z4.out; have := Z5.out; have := Z6.out; have := Z7.out; have := Z8.out; have := Z9.out; have := Z10.out; have := Z11.out; have := Z12.out; have := Z13.out; have := Z14.out; have := Z15.out; have := Z16.out; have := Z17.out; have := Z18.out; have := Z19.out; have := Z20.out; have := Z21.out; have := Y1.out; have := Y6.out; have := Y8.out; have := Y11.out; omega))
      have SR_21 := Lib.hid (SR_20.out.within (hin) (by have := Z1.out; have := Z2.out; have := Z3.out; have := Z4.out; have := Z5.out; have := Z6.out; have := Z7.out; have := Z8.out; have := Z9.out; have := Z10.out; have := Z11.out; have := Z12.out; have := Z13.out; have := Z14.out; have := Z15.out; have := Z16.out; have := Z17.out; have := Z18.out; have := Z19.out; have := Z20.out; have := Z21.out; have := Y1.out; have := Y6.out; have := Y8.out; have := Y11.out; omega))
      have BW_21 := Lib.hid (BW_20.out.within (hin) (by have := Z1.out; have := Z2.out; have := Z3.out; have := Z4.out; have := Z5.out; have := Z6.out; have := Z7.out; have := Z8.out; have := Z9.out; have := Z10.out; have := Z11.out; have := Z12.out; have := Z13.out; have := Z14.out; have := Z15.out; have := Z16.out; have := Z17.out; have := Z18.out; have := Z19.out; have := Z20.out; have := Z21.out; have := Y1.out; have := Y6.out; have := Y8.out; have := Y11.out; omega))
      have XX_21 := Lib.hid (XX_20.out.within (hin) (by have := Z1.out; have := Z2.out; have := Z3.out; have := Z4.out; have := Z5.out; have := Z6.out; have := Z7.out; have := Z8.out; have := Z9.out; have := Z10.out; have := Z11.out; have := Z12.out; have := Z13.out; have := Z14.out; have := Z15.out; have := Z16.out; have := Z17.out; have := Z18.out; have := Z19.out; have := Z20.out; have := Z21.out; have := Y1.out; have := Y6.out; have := Y8.out; have := Y11.out; omega))
      have BG_21 := Lib.hid (BG_20.out.within (hin) (by have := Z1.out; have := Z2.out; have := Z3.out; have := Z4.out; have := Z5.out; have := Z6.out; have := Z7.out; have := Z8.out; have := Z9.out; have := Z10.out; have := Z11.out; have := Z12.out; have := Z13.out; have := Z14.out; have := Z15.out; have := Z16.out; have := Z17.out; have := Z18.out; have := Z19.out; have := Z20.out; have := Z21.out; have := Y1.out; have := Y6.out; have := Y8.out; have := Y11.out; omega))
      have SZ_21 := Lib.hid (SZ_20.out.within (hin) (by have := Z1.out; have := Z2.out; have := Z3.out; have := Z4.out; have := Z5.out; have := Z6.out; have := Z7.out; have := Z8.out; have := Z9.out; have := Z10.out; have := Z11.out; have := Z12.out; have := Z13.out; have := Z14.out; have := Z15.out; have := Z16.out; have := Z17.out; have := Z18.out; have := Z19.out; have := Z20.out; have := Z21.out; have := Y1.out; have := Y6.out; have := Y8.out; have := Y11.out; omega))
      have SM_21 := Lib.hid (hog)
      clear hog hin
      have hk2 : ¬ (1 : Int) + 2 * ((onlyL l ys).length : Int) < 0 := by omega
      obtain ⟨g01, g02, g03⟩ := BG_21.out
      go_wp2_with fail
      clear g01 g02 g03
      refine (heldGraph_o q (onlyL l ys).length AG cg 1 w9.heap.size w10.heap.size _ SM_21.out (onlyL_len l ys hn) (by omega) (by omega)).mono ?_
      rintro e w22 ⟨rfl, hb⟩
      have Z22 := Lib.hid (within_of hb).size
      have W22 := Lib.hid (within_on W21.out (within_of hb) W21.out.size (.inr (Nat.le_refl _)))
      have HB_22 := Lib.hid (HB_21.out.within (within_of hb) (by omega))
      have HZ_22 := Lib.hid (HZ_21.out.within (within_of hb) (by omega))
      have BX_22 := Lib.hid (BX_21.out.within (within_of hb) (by omega))
      have SG_22 := Lib.hid (SG_21.out.within (within_of hb) (by omega))
      have SI_22 := Lib.hid (SI_21.out.within (within_of hb) (by omega))
      have SR_22 := Lib.hid (SR_21.out.within (within_of hb) (by omega))
      have BW_22 := Lib.hid (BW_21.out.within (within_of hb) (by omega))
      have XX_22 := Lib.hid (XX_21.out.within (within_of hb) (by omega))
      have BG_22 := Lib.hid (BG_21.out.within (within_of hb) (by omega))
      have SZ_22 := Lib.hid (SZ_21.out.within (within_of hb) (by omega))
      have SM_22 := Lib.hid (SM_21.out.within (within_of hb) (by omega))
      clear hb
      obtain ⟨g01, g02, g03⟩ := BX_22.out
      go_wp2_with fail
      clear g01 g02 g03
      refine (toGraph_c q l A cap _ HB_22.out.at hn).mono ?_
      rintro e w23 ⟨z0, rfl, ho, hb⟩
      have Z23 := Lib.hid (within_of hb).size
      have W23 := Lib.hid (within_on W22.out (within_of hb) W22.out.size (.inr (Nat.le_refl _)))
      have HB_23 := Lib.hid (HB_22.out.within (within_of hb) (by omega))
      have HZ_23 := Lib.hid (HZ_22.out.within (within_of hb) (by omega))
      have BX_23 := Lib.hid (BX_22.out.within (within_of hb) (by omega))
      have SG_23 := Lib.hid (SG_22.out.within (within_of hb) (by omega))
      have SI_23 := Lib.hid (SI_22.out.within (within_of hb) (by omega))
      have SR_23 := Lib.hid (SR_22.out.within (within_of hb) (by omega))
      have BW_23 := Lib.hid (BW_22.out.within (within_of hb) (by omega))
      have XX_23 := Lib.hid (XX_22.out.within (within_of hb) (by omega))
      have BG_23 := Lib.hid (BG_22.out.within (within_of hb) (by omega))
      have SZ_23 := Lib.hid (SZ_22.out.within (within_of hb) (by omega))
      have SM_23 := Lib.hid (SM_22.out.within (within_of hb) (by omega))
      have ST_23 := Lib.hid ((own_in ho).bars)
      clear ho hb
      go_wp2_with fail
      refine (toInts_c ys Z cz 0 _ _ HZ_23.out hny).mono ?_
      rintro e w24 ⟨z1, rfl, ho, hb⟩
      have Z24 := Lib.hid (within_of hb).size
      have W24 := Lib.hid (within_on W23.out (within_of hb) W23.out.size (.inr (Nat.le_refl _)))
      have HB_24 := Lib.hid (HB_23.out.within (within_of hb) (by omega))
      have HZ_24 := Lib.hid (HZ_23.out.within (within_of hb) (by omega))
      have BX_24 := Lib.hid (BX_23.out.within (within_of hb) (by omega))
      have SG_24 := Lib.hid (SG_23.out.within (within_of hb) (by omega))
      have SI_24 := Lib.hid (SI_23.out.within (within_of hb) (by omega))
      have SR_24 := Lib.hid (SR_23.out.within (within_of hb) (by omega))
      have BW_24 := Lib.hid (BW_23.out.within (within_of hb) (by omega))
      have XX_24 := Lib.hid (XX_23.out.within (within_of hb) (by omega))
      have BG_24 := Lib.hid (BG_23.out.within (within_of hb) (by omega))
      have SZ_24 := Lib.hid (SZ_23.out.within (within_of hb) (by omega))
      have SM_24 := Lib.hid (SM_23.out.within (within_of hb) (by omega))
      have ST_24 := Lib.hid (ST_23.out.within (within_of hb) (by omega))
      have SV_24 := Lib.hid ((own_ints' ho).reads)
      clear ho hb
      go_wp2_with fail
      refine (implOnly q l ys (some ⟨z0, 0, none⟩) (some ⟨z1, 0, none⟩) l.length ys.length _ _ _ ST_24.out.at SV_24.out hn hny).mono ?_
      rintro e w25 ⟨AH, ch, rfl, ho, hb⟩
      have Z25 := Lib.hid (within_of hb).size
      have W25 := Lib.hid (within_on W24.out (within_of hb) W24.out.size (.inr (Nat.le_refl _)))
      have HB_25 := Lib.hid (HB_24.out.within (within_of hb) (by omega))
      have HZ_25 := Lib.hid (HZ_24.out.within (within_of hb) (by omega))
      have BX_25 := Lib.hid (BX_24.out.within (within_of hb) (by omega))
      have SG_25 := Lib.hid (SG_24.out.within (within_of hb) (by omega))
      have SI_25 := Lib.hid (SI_24.out.within (within_of hb) (by omega))
      have SR_25 := Lib.hid (SR_24.out.within (within_of hb) (by omega))
      have BW_25 := Lib.hid (BW_24.out.within (within_of hb) (by omega))
      have XX_25 := Lib.hid (XX_24.out.within (within_of hb) (by omega))
      have BG_25 := Lib.hid (BG_24.out.within (within_of hb) (by omega))
      have SZ_25 := Lib.hid (SZ_24.out.within (within_of hb) (by omega))
      have SM_25 := Lib.hid (SM_24.out.within (within_of hb) (by omega))
      have ST_25 := Lib.hid (ST_24.out.within (within_of hb) (by omega))
      have SV_25 := Lib.hid (SV_24.out.within (within_of hb) (by omega))
      have SH_25 := Lib.hid (ho.bars)
      clear ho hb
      obtain ⟨g01, g02, g03⟩ := BW_25.out
      go_wp2_with fail
      clear g01 g02 g03
      have hal := new_below w25 (.cells #[.int .i64 q, .slice AH (onlyL l ys).length ch] 29)
      have Z26 := Lib.hid (within_of hal).size
      have W26 := Lib.hid (within_on W25.out (within_of hal) W25.out.size (.inr (Nat.le_refl _)))
      have HB_26 := Lib.hid (HB_25.out.within (within_of hal) (by omega))
      have HZ_26 := Lib.hid (HZ_25.out.within (within_of hal) (by omega))
      have BX_26 := Lib.hid (BX_25.out.within (within_of hal) (by omega))
      have SG_26 := Lib.hid (SG_25.out.within (within_of hal) (by omega))
      have SI_26 := Lib.hid (SI_25.out.within (within_of hal) (by omega))
      have SR_26 := Lib.hid (SR_25.out.within (within_of hal) (by omega))
      have BW_26 := Lib.hid (BW_25.out.within (within_of hal) (by omega))
      have XX_26 := Lib.hid (XX_25.out.within (within_of hal) (by omega))
      have BG_26 := Lib.hid (BG_25.out.within (within_of hal) (by omega))
      have SZ_26 := Lib.hid (SZ_25.out.within (within_of hal) (by omega))
      have SM_26 := Lib.hid (SM_25.out.within (within_of hal) (by omega))
      have ST_26 := Lib.hid (ST_25.out.within (within_of hal) (by omega))
      have SV_26 := Lib.hid (SV_25.out.within (within_of hal) (by omega))
      have SH_26 := Lib.hid (SH_25.out.within (within_of hal) (by omega))
      clear hal
      have hsz : (w25.alloc (.cells #[.int .i64 q, .slice AH (onlyL l ys).length ch] 29)).heap.size = w25.heap.size + 1 := by simp
      have Y26 := Lib.hid hsz
      clear hsz
      have BH_26 := Lib.hid (box_new w25 q (.slice AH (onlyL l ys).length ch) 29)
      generalize (w25.alloc (.cells #[.int .i64 q, .slice AH (onlyL l ys).length ch] 29)) = w26 at *
      refine (eqGraph_c q (onlyL l ys) AH AS ch cs _ SH_26.out.at SR_26.out.at (onlyL_len l ys hn)).mono ?_
      rintro e w27 ⟨rfl, hb⟩
      have Z27 := Lib.hid (within_of hb).size
      have W27 := Lib.hid (within_on W26.out (within_of hb) W26.out.size (.inr (Nat.le_refl _)))
      have HB_27 := Lib.hid (HB_26.out.within (within_of hb) (by omega))
      have HZ_27 := Lib.hid (HZ_26.out.within (within_of hb) (by omega))
      have BX_27 := Lib.hid (BX_26.out.within (within_of hb) (by omega))
      have SG_27 := Lib.hid (SG_26.out.within (within_of hb) (by omega))
      have SI_27 := Lib.hid (SI_26.out.within (within_of hb) (by omega))
      have SR_27 := Lib.hid (SR_26.out.within (within_of hb) (by omega))
      have BW_27 := Lib.hid (BW_26.out.within (within_of hb) (by omega))
      have XX_27 := Lib.hid (XX_26.out.within (within_of hb) (by omega))
      have BG_27 := Lib.hid (BG_26.out.within (within_of hb) (by omega))
      have SZ_27 := Lib.hid (SZ_26.out.within (within_of hb) (by omega))
      have SM_27 := Lib.hid (SM_26.out.within (within_of hb) (by omega))
      have ST_27 := Lib.hid (ST_26.out.within (within_of hb) (by omega))
      have SV_27 := Lib.hid (SV_26.out.within (within_of hb) (by omega))
      have SH_27 := Lib.hid (SH_26.out.within (within_of hb) (by omega))
      have BH_27 := Lib.hid (BH_26.out.within (within_of hb) (by omega))
      clear hb
      obtain ⟨g01, g02, g03⟩ := BG_27.out
      go_wp2_with fail
      clear g01 g02 g03
      refine (heldGraph_o q (onlyL l ys).length AG cg 1 w9.heap.size w10.heap.size _ SM_27.out (onlyL_len l ys hn) (by omega) (by omega)).mono ?_
      rintro e w28 ⟨rfl, hb⟩
      have Z28 := Lib.hid (within_of hb).size
      have W28 := Lib.hid (within_on W27.out (within_of hb) W27.out.size (.inr (Nat.le_refl _)))
      have HB_28 := Lib.hid (HB_27.out.within (within_of hb) (by omega))
      have HZ_28 := Lib.hid (HZ_27.out.within (within_of hb) (by omega))
      have BX_28 := Lib.hid (BX_27.out.within (within_of hb) (by omega))
      have SG_28 := Lib.hid (SG_27.out.within (within_of hb) (by omega))
      have SI_28 := Lib.hid (SI_27.out.within (within_of hb) (by omega))
      have SR_28 := Lib.hid (SR_27.out.within (within_of hb) (by omega))
      have BW_28 := Lib.hid (BW_27.out.within (within_of hb) (by omega))
      have XX_28 := Lib.hid (XX_27.out.within (within_of hb) (by omega))
      have BG_28 := Lib.hid (BG_27.out.within (within_of hb) (by omega))
      have SZ_28 := Lib.hid (SZ_27.out.within (within_of hb) (by omega))
      have SM_28 := Lib.hid (SM_27.out.within (within_of hb) (by omega))
      have ST_28 := Lib.hid (ST_27.out.within (within_of hb) (by omega))
      have SV_28 := Lib.hid (SV_27.out.within (within_of hb) (by omega))
      have SH_28 := Lib.hid (SH_27.out.within (within_of hb) (by omega))
      have BH_28 := Lib.hid (BH_27.out.within (within_of hb) (by omega))
      clear hb
      go_wp2_with fail
      go_ret
      exact ⟨rfl, W28.out⟩
    · have hx : (1048576 : Int) < (l.length : Int) := by omega
      have h63 : l.length ≤ 9223372036854775807 := by unfold maxLen at hl; omega
      have HA := Lib.hid (new_below w (.cells #[.int .i64 q, .slice A l.length cap] 24))
      go_enter Try.func11, Try.ntmps11
      go_wp2_with fail
      refine (szGraph_no q A l.length cap 1048576 _ h63 hx (by omega)).mono ?_
      rintro e w1 ⟨rfl, hb1⟩
      have W1 := Lib.hid (below_on HA.out hb1 HA.out.size)
      clear hb1
      go_wp2_with fail
      go_ret
      exact ⟨rfl, W1.out⟩
  · have hx : (1048576 : Int) < (ys.length : Int) := by omega
    have HA := Lib.hid (new_below w (.cells #[.int .i64 q, .slice A l.length cap] 24))
    go_enter Try.func11, Try.ntmps11
    go_wp2_with fail
    go_ret
    exact ⟨rfl, HA.out⟩
end Go.Proofs.Ytmanfpdneicgeaa
