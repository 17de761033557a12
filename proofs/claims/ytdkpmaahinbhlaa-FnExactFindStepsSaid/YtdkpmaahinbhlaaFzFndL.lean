/- The law FnExactFindSteps returns true at every input. No condition. -/
import Derived.Test.YtdkpmaahinbhlaaFzStpO
import Derived.Test.YtdkpmaahinbhlaaFzFndS
import Derived.Test.YtdkpmaahinbhlaaFzFndI
import Derived.Test.YtdkpmaahinbhlaaFzB1
import Derived.Deep.RegionHeld3
namespace Go.Proofs.Ytdkpmaahinbhlaa
open Go.RowKit

theorem findV_len (p : Int) (l : List (Int × Int)) : (findV p l).length ≤ 1048576 := by
  by_cases h : minB p l = true ∧ 0 < l.length
  · obtain ⟨P, rfl, h1, h2, h3, h4⟩ := min_pos h.1 h.2
    rw [(findV_yes h.1 h.2).1, Int.toNat_natCast, findN_len (P - 1) l [] (by omega) (by rw [show P - 1 + 1 = P by omega]; exact h1) h2]
    simp
    omega
  · rw [(findV_no h).1]
    simp

set_option maxHeartbeats 2000000 in
set_option maxRecDepth 100000 in
theorem lawFindSteps (q : Int) (A : Option Addr) (cap : Nat) (l : List (Int × Int)) (w : World) (hl : l.length ≤ maxLen) (hb : BarsAt w w.heap.size A l) :
    Calls Try.prog 6 #[.agg #[.int .i64 q, .slice A l.length cap]] w fun e w' => e = .returned (.bool true) ∧ Below w.heap.size w w' := by
  have HB_0 := Lib.hid (bars_in hb)
  clear hb
  by_cases hn : l.length ≤ 1048576
  · have W0 := Lib.hid (Below.refl w.heap.size w)
    obtain ⟨V, R, hz, hsp, him⟩ : ∃ (V : List Stp) (R : Bool), V.length ≤ 1048576 ∧ (∀ (a : Addr) (cap : Nat) (W : World) (h : BarsAt W W.heap.size (some a) l), Calls Try.prog 78 #[.agg #[.int .i64 q, .slice (some a) l.length cap]] W (FindR W V R)) ∧ (∀ (A : Option Addr) (cap : Nat) (W : World) (h : BarsAt W W.heap.size A l), Calls Try.prog 80 #[.agg #[.int .i64 q, .slice A l.length cap]] W (FindO W V R)) :=
      ⟨findV q l, findB q l, findV_len q l, fun a cap W h => specFind q l a cap W h hn, fun A cap W h => implFind q l A cap W h hn⟩
    have HSP := Lib.hid hsp
    have HIM := Lib.hid him
    clear hsp him
    have hal := new_below w (.cells #[.int .i64 q, .slice A l.length cap] 79)
    have Z1 := Lib.hid (within_of hal).size
    have W1 := Lib.hid (within_on W0.out (within_of hal) W0.out.size (.inr (Nat.le_refl _)))
    have HB_1 := Lib.hid (HB_0.out.within (within_of hal) (by omega))
    clear hal
    have hsz : (w.alloc (.cells #[.int .i64 q, .slice A l.length cap] 79)).heap.size = w.heap.size + 1 := by simp
    have Y1 := Lib.hid hsz
    clear hsz
    have BX_1 := Lib.hid (box_new w q (.slice A l.length cap) 79)
    go_enter Try.func6, Try.ntmps6
    go_wp2_with fail
    generalize (w.alloc (.cells #[.int .i64 q, .slice A l.length cap] 79)) = w1 at *
    refine (szGraph_c q A l.length cap 1048576 _ (by omega) (by omega)).mono ?_
    rintro e w2 ⟨rfl, hb⟩
    have Z2 := Lib.hid (within_of hb).size
    have W2 := Lib.hid (within_on W1.out (within_of hb) W1.out.size (.inr (Nat.le_refl _)))
    have HB_2 := Lib.hid (HB_1.out.within (within_of hb) (by omega))
    have BX_2 := Lib.hid (BX_1.out.within (within_of hb) (by omega))
    clear hb
    have hnn : ¬ (1048576 : Int) - (l.length : Int) < 0 := by omega
    obtain ⟨g01, g02, g03⟩ := BX_2.out
    go_wp2_with fail
    clear g01 g02 g03
    refine (toGraph_c q l A cap _ HB_2.out.at hn).mono ?_
    rintro e w3 ⟨g0, rfl, ho, hb⟩
    have Z3 := Lib.hid (within_of hb).size
    have W3 := Lib.hid (within_on W2.out (within_of hb) W2.out.size (.inr (Nat.le_refl _)))
    have HB_3 := Lib.hid (HB_2.out.within (within_of hb) (by omega))
    have BX_3 := Lib.hid (BX_2.out.within (within_of hb) (by omega))
    have SG_3 := Lib.hid ((own_in ho).bars)
    clear ho hb
    go_wp2_with fail
    refine (HSP.out ⟨g0, 0, none⟩ l.length _ SG_3.out.at).mono ?_
    rintro e w4 ⟨AS, cs, rfl, hs, hb⟩
    have Z4 := Lib.hid (within_of hb).size
    have W4 := Lib.hid (within_on W3.out (within_of hb) W3.out.size (.inr (Nat.le_refl _)))
    have HB_4 := Lib.hid (HB_3.out.within (within_of hb) (by omega))
    have BX_4 := Lib.hid (BX_3.out.within (within_of hb) (by omega))
    have SG_4 := Lib.hid (SG_3.out.within (within_of hb) (by omega))
    have SR_4 := Lib.hid (stps_in hs)
    clear hs hb
    obtain ⟨g01, g02, g03⟩ := BX_4.out
    go_wp2_with fail
    clear g01 g02 g03
    refine (toGraph_c q l A cap _ HB_4.out.at hn).mono ?_
    rintro e w5 ⟨x0, rfl, ho, hb⟩
    have Z5 := Lib.hid (within_of hb).size
    have W5 := Lib.hid (within_on W4.out (within_of hb) W4.out.size (.inr (Nat.le_refl _)))
    have HB_5 := Lib.hid (HB_4.out.within (within_of hb) (by omega))
    have BX_5 := Lib.hid (BX_4.out.within (within_of hb) (by omega))
    have SG_5 := Lib.hid (SG_4.out.within (within_of hb) (by omega))
    have SR_5 := Lib.hid (SR_4.out.within (within_of hb) (by omega))
    have SX_5 := Lib.hid (own_in ho)
    clear ho hb
    go_wp2_with fail
    have hal := new_below w5 (.cells #[.int .i64 q, .slice (some ⟨x0, 0, none⟩) l.length l.length] 26)
    have Z6 := Lib.hid (within_of hal).size
    have W6 := Lib.hid (within_on W5.out (within_of hal) W5.out.size (.inr (Nat.le_refl _)))
    have HB_6 := Lib.hid (HB_5.out.within (within_of hal) (by omega))
    have BX_6 := Lib.hid (BX_5.out.within (within_of hal) (by omega))
    have SG_6 := Lib.hid (SG_5.out.within (within_of hal) (by omega))
    have SR_6 := Lib.hid (SR_5.out.within (within_of hal) (by omega))
    have SX_6 := Lib.hid (SX_5.out.within (within_of hal) (by omega))
    clear hal
    have hsz : (w5.alloc (.cells #[.int .i64 q, .slice (some ⟨x0, 0, none⟩) l.length l.length] 26)).heap.size = w5.heap.size + 1 := by simp
    have Y6 := Lib.hid hsz
    clear hsz
    have XX_6 := Lib.hid (box_new w5 q (.slice (some ⟨x0, 0, none⟩) l.length l.length) 26)
    generalize (w5.alloc (.cells #[.int .i64 q, .slice (some ⟨x0, 0, none⟩) l.length l.length] 26)) = w6 at *
    refine (HIM.out (some ⟨x0, 0, none⟩) l.length _ SX_6.out.bars.at).mono ?_
    rintro e w7 ⟨AG, cg, rfl, ho, hb⟩
    have Z7 := Lib.hid (within_of hb).size
    have W7 := Lib.hid (within_on W6.out (within_of hb) W6.out.size (.inr (Nat.le_refl _)))
    have HB_7 := Lib.hid (HB_6.out.within (within_of hb) (by omega))
    have BX_7 := Lib.hid (BX_6.out.within (within_of hb) (by omega))
    have SG_7 := Lib.hid (SG_6.out.within (within_of hb) (by omega))
    have SR_7 := Lib.hid (SR_6.out.within (within_of hb) (by omega))
    have SX_7 := Lib.hid (SX_6.out.within (within_of hb) (by omega))
    have XX_7 := Lib.hid (XX_6.out.within (within_of hb) (by omega))
    have SO_7 := Lib.hid (ho)
    clear ho hb
    go_wp2_with fail
    refine (eqSteps_c V AG AS cg cs _ SO_7.out.reads.at SR_7.out.at hz).mono ?_
    rintro e w8 ⟨rfl, hb⟩
    have Z8 := Lib.hid (within_of hb).size
    have W8 := Lib.hid (within_on W7.out (within_of hb) W7.out.size (.inr (Nat.le_refl _)))
    have HB_8 := Lib.hid (HB_7.out.within (within_of hb) (by omega))
    have BX_8 := Lib.hid (BX_7.out.within (within_of hb) (by omega))
    have SG_8 := Lib.hid (SG_7.out.within (within_of hb) (by omega))
    have SR_8 := Lib.hid (SR_7.out.within (within_of hb) (by omega))
    have SX_8 := Lib.hid (SX_7.out.within (within_of hb) (by omega))
    have XX_8 := Lib.hid (XX_7.out.within (within_of hb) (by omega))
    have SO_8 := Lib.hid (SO_7.out.within (within_of hb) (by omega))
    clear hb
    have kk0 := box2 BX_8.out XX_8.out
    have kk := box2 BX_8.out XX_8.out
    have hdr : Below w8.heap.size w8 w8.drew := (Below.refl _ _).drew
    have Z9 := Lib.hid (within_of hdr).size
    have W9 := Lib.hid (within_on W8.out (within_of hdr) W8.out.size (.inr (Nat.le_refl _)))
    have HB_9 := Lib.hid (HB_8.out.within (within_of hdr) (by omega))
    have BX_9 := Lib.hid (BX_8.out.within (within_of hdr) (by omega))
    have SG_9 := Lib.hid (SG_8.out.within (within_of hdr) (by omega))
    have SR_9 := Lib.hid (SR_8.out.within (within_of hdr) (by omega))
    have SX_9 := Lib.hid (SX_8.out.within (within_of hdr) (by omega))
    have XX_9 := Lib.hid (XX_8.out.within (within_of hdr) (by omega))
    have SO_9 := Lib.hid (SO_8.out.within (within_of hdr) (by omega))
    clear hdr
    go_wp2_with fail
    go_region_held3 (fun W' => W'.cell? ⟨w.heap.size, 0, none⟩ = some (.int .i64 q) ∧ W'.cell? ⟨w.heap.size, 1, none⟩ = some ((.slice A l.length cap)) ∧ W'.cell? ⟨w5.heap.size, 0, none⟩ = some (.int .i64 q) ∧ W'.cell? ⟨w5.heap.size, 1, none⟩ = some ((.slice (some ⟨x0, 0, none⟩) l.length l.length)))
      (first | exact kk | exact box2 BX_10.out XX_10.out | exact box2 BX_11.out XX_11.out | fail)
      (first
        | (go_at_call 79; refine (toGraph_c q l A cap _ ?_ hn).mono ?_; (exact HB_9.out.at); rintro e w10 ⟨y0, rfl, ho, hb⟩; have Z10 := Lib.hid (within_of hb).size; have W10 := Lib.hid (within_on W9.out (within_of hb) W9.out.size (.inr (Nat.le_refl _))); have HB_10 := Lib.hid (HB_9.out.within (within_of hb) (by omega)); have BX_10 := Lib.hid (BX_9.out.within (within_of hb) (by omega)); have SG_10 := Lib.hid (SG_9.out.within (within_of hb) (by omega)); have SR_10 := Lib.hid (SR_9.out.within (within_of hb) (by omega)); have SX_10 := Lib.hid (SX_9.out.within (within_of hb) (by omega)); have XX_10 := Lib.hid (XX_9.out.within (within_of hb) (by omega)); have SO_10 := Lib.hid (SO_9.out.within (within_of hb) (by omega)); have YY := Lib.hid (own_bars ho); clear ho hb)
        | (go_at_call 82; refine (eqGraph_c q l _ _ l.length l.length _ ?_ ?_ hn).mono ?_; (exact SX_10.out.bars.at); (exact YY.out); rintro e w11 ⟨rfl, hb⟩; have Z11 := Lib.hid (within_of hb).size; have W11 := Lib.hid (within_on W10.out (within_of hb) W10.out.size (.inr (Nat.le_refl _))); have HB_11 := Lib.hid (HB_10.out.within (within_of hb) (by omega)); have BX_11 := Lib.hid (BX_10.out.within (within_of hb) (by omega)); have SG_11 := Lib.hid (SG_10.out.within (within_of hb) (by omega)); have SR_11 := Lib.hid (SR_10.out.within (within_of hb) (by omega)); have SX_11 := Lib.hid (SX_10.out.within (within_of hb) (by omega)); have XX_11 := Lib.hid (XX_10.out.within (within_of hb) (by omega)); have SO_11 := Lib.hid (SO_10.out.within (within_of hb) (by omega)); clear hb))
    obtain ⟨g01, g02, g03⟩ := XX_11.out
    go_wp2_with fail
    clear g01 g02 g03
    refine (markGraph_o q (some ⟨x0, 0, none⟩) l.length l 1 w4.heap.size w5.heap.size _ SX_11.out hn (by omega) (by omega)).mono ?_
    rintro e w12 ⟨rfl, hin, hox⟩
    have Z12 := Lib.hid (hin).size
    have W12 := Lib.hid (within_on W11.out (hin) W11.out.size (by have := W11.out.size; have := Z1.out; have := Z2.out; have := Z3.out; have := Z4.out; have := Z5.out; have := Z6.out; have := Z7.out; have := Z8.out; have := Z9.out; have := Z10.out; have := Z11.out; have := Z12.out; have := Y1.out; have := Y6.out; omega))
    have HB_12 := Lib.hid (HB_11.out.within (hin) (by have := Z1.out; have := Z2.out; have := Z3.out; have := Z4.out; have := Z5.out; have := Z6.out; have := Z7.out; have := Z8.out; have := Z9.out; have := Z10.out; have := Z11.out; have := Z12.out; have := Y1.out; have := Y6.out; omega))
    have BX_12 := Lib.hid (BX_11.out.within (hin) (by have := Z1.out; have := Z2.out; have := Z3.out; have := Z4.out; have := Z5.out; have := Z6.out; have := Z7.out; have := Z8.out; have := Z9.out; have := Z10.out; have := Z11.out; have := Z12.out; have := Y1.out; have := Y6.out; omega))
    have SG_12 := Lib.hid (SG_11.out.within (hin) (by have := Z1.out; have := Z2.out; have := Z3.out; have := Z4.out; have := Z5.out; have := Z6.out; have := Z7.out; have := Z8.out; have := Z9.out; have := Z10.out; have := Z11.out; have := Z12.out; have := Y1.out; have := Y6.out; omega))
    have SR_12 := Lib.hid (SR_11.out.within (hin) (by have := Z1.out; have := Z2.out; have := Z3.out; have := Z4.out; have := Z5.out; have := Z6.out; have := Z7.out; have := Z8.out; have := Z9.out; have := Z10.out; have := Z11.out; have := Z12.out; have := Y1.out; have := Y6.out; omega))
    have XX_12 := Lib.hid (XX_11.out.within (hin) (by have := Z1.out; have := Z2.out; have := Z3.out; have := Z4.out; have := Z5.out; have := Z6.out; have := Z7.out; have := Z8.out; have := Z9.out; have := Z10.out; have := Z11.out; have := Z12.out; have := Y1.out; have := Y6.out; omega))
    have SO_12 := Lib.hid (SO_11.out.within (hin) (by have := Z1.out; have := Z2.out; have := Z3.out; have := Z4.out; have := Z5.out; have := Z6.out; have := Z7.out; have := Z8.out; have := Z9.out; have := Z10.out; have := Z11.out; have := Z12.out; have := Y1.out; have := Y6.out; omega))
    clear hox hin
    have hk1 : ¬ (1 : Int) + 2 * (l.length : Int) < 0 := by omega
    go_wp2_with fail
    refine (eqSteps_c V AG AS cg cs _ SO_12.out.reads.at SR_12.out.at hz).mono ?_
    rintro e w13 ⟨rfl, hb⟩
    have Z13 := Lib.hid (within_of hb).size
    have W13 := Lib.hid (within_on W12.out (within_of hb) W12.out.size (.inr (Nat.le_refl _)))
    have HB_13 := Lib.hid (HB_12.out.within (within_of hb) (by omega))
    have BX_13 := Lib.hid (BX_12.out.within (within_of hb) (by omega))
    have SG_13 := Lib.hid (SG_12.out.within (within_of hb) (by omega))
    have SR_13 := Lib.hid (SR_12.out.within (within_of hb) (by omega))
    have XX_13 := Lib.hid (XX_12.out.within (within_of hb) (by omega))
    have SO_13 := Lib.hid (SO_12.out.within (within_of hb) (by omega))
    clear hb
    go_wp2_with fail
    refine (markSt_o AG cg V 1 w6.heap.size w7.heap.size _ SO_13.out hz (by omega) (by omega)).mono ?_
    rintro e w14 ⟨rfl, hin, hog⟩
    have Z14 := Lib.hid (hin).size
    have W14 := Lib.hid (within_on W13.out (hin) W13.out.size (by have := W13.out.size; have := Z1.out; have := Z2.out; have := Z3.out; have := Z4.out; have := Z5.out; have := Z6.out; have := Z7.out; have := Z8.out; have := Z9.out; have := Z10.out; have := Z11.out; have := Z12.out; have := Z13.out; have := Z14.out; have := Y1.out; have := Y6.out; omega))
    have HB_14 := Lib.hid (HB_13.out.within (hin) (by have := Z1.out; have := Z2.out; have := Z3.out; have := Z4.out; have := Z5.out; have := Z6.out; have := Z7.out; have := Z8.out; have := Z9.out; have := Z10.out; have := Z11.out; have := Z12.out; have := Z13.out; have := Z14.out; have := Y1.out; have := Y6.out; omega))
    have BX_14 := Lib.hid (BX_13.out.within (hin) (by have := Z1.out; have := Z2.out; have := Z3.out; have := Z4.out; have := Z5.out; have := Z6.out; have := Z7.out; have := Z8.out; have := Z9.out; have := Z10.out; have := Z11.out; have := Z12.out; have := Z13.out; have := Z14.out; have := Y1.out; have := Y6.out; omega))
    have SG_14 := Lib.hid (SG_13.out.within (hin) (by have := Z1.out; have := Z2.out; have := Z3.out; have := Z4.out; have := Z5.out; have := Z6.out; have := Z7.out; have := Z8.out; have := Z9.out; have := Z10.out; have := Z11.out; have := Z12.out; have := Z13.out; have := Z14.out; have := Y1.out; have := Y6.out; omega))
    have SR_14 := Lib.hid (SR_13.out.within (hin) (by have := Z1.out; have := Z2.out; have := Z3.out; have := Z4.out; have := Z5.out; have := Z6.out; have := Z7.out; have := Z8.out; have := Z9.out; have := Z10.out; have := Z11.out; have := Z12.out; have := Z13.out; have := Z14.out; have := Y1.out; have := Y6.out; omega))
    have XX_14 := Lib.hid (XX_13.out.within (hin) (by have := Z1.out; have := Z2.out; have := Z3.out; have := Z4.out; have := Z5.out; have := Z6.out; have := Z7.out; have := Z8.out; have := Z9.out; have := Z10.out; have := Z11.out; have := Z12.out; have := Z13.out; have := Z14.out; have := Y1.out; have := Y6.out; omega))
    have SM_14 := Lib.hid (hog.reads)
    clear hog hin
    have hk2 : ¬ (1 : Int) + 5 * (V.length : Int) < 0 := by omega
    go_wp2_with fail
    refine (heldSt_c V.length AG cg 1 _ _ _ SM_14.out hz (by omega) (by omega)).mono ?_
    rintro e w15 ⟨rfl, hb⟩
    have Z15 := Lib.hid (within_of hb).size
    have W15 := Lib.hid (within_on W14.out (within_of hb) W14.out.size (.inr (Nat.le_refl _)))
    have HB_15 := Lib.hid (HB_14.out.within (within_of hb) (by omega))
    have BX_15 := Lib.hid (BX_14.out.within (within_of hb) (by omega))
    have SG_15 := Lib.hid (SG_14.out.within (within_of hb) (by omega))
    have SR_15 := Lib.hid (SR_14.out.within (within_of hb) (by omega))
    have XX_15 := Lib.hid (XX_14.out.within (within_of hb) (by omega))
    have SM_15 := Lib.hid (SM_14.out.within (within_of hb) (by omega))
    clear hb
    obtain ⟨g01, g02, g03⟩ := BX_15.out
    go_wp2_with fail
    clear g01 g02 g03
    refine (toGraph_c q l A cap _ HB_15.out.at hn).mono ?_
    rintro e w16 ⟨z0, rfl, ho, hb⟩
    have Z16 := Lib.hid (within_of hb).size
    have W16 := Lib.hid (within_on W15.out (within_of hb) W15.out.size (.inr (Nat.le_refl _)))
    have HB_16 := Lib.hid (HB_15.out.within (within_of hb) (by omega))
    have BX_16 := Lib.hid (BX_15.out.within (within_of hb) (by omega))
    have SG_16 := Lib.hid (SG_15.out.within (within_of hb) (by omega))
    have SR_16 := Lib.hid (SR_15.out.within (within_of hb) (by omega))
    have XX_16 := Lib.hid (XX_15.out.within (within_of hb) (by omega))
    have SM_16 := Lib.hid (SM_15.out.within (within_of hb) (by omega))
    have ST_16 := Lib.hid ((own_in ho).bars)
    clear ho hb
    go_wp2_with fail
    refine (HIM.out (some ⟨z0, 0, none⟩) l.length _ ST_16.out.at).mono ?_
    rintro e w17 ⟨AH, ch, rfl, ho, hb⟩
    have Z17 := Lib.hid (within_of hb).size
    have W17 := Lib.hid (within_on W16.out (within_of hb) W16.out.size (.inr (Nat.le_refl _)))
    have HB_17 := Lib.hid (HB_16.out.within (within_of hb) (by omega))
    have BX_17 := Lib.hid (BX_16.out.within (within_of hb) (by omega))
    have SG_17 := Lib.hid (SG_16.out.within (within_of hb) (by omega))
    have SR_17 := Lib.hid (SR_16.out.within (within_of hb) (by omega))
    have XX_17 := Lib.hid (XX_16.out.within (within_of hb) (by omega))
    have SM_17 := Lib.hid (SM_16.out.within (within_of hb) (by omega))
    have ST_17 := Lib.hid (ST_16.out.within (within_of hb) (by omega))
    have SH_17 := Lib.hid (ho.reads)
    clear ho hb
    go_wp2_with fail
    refine (eqSteps_c V AH AS ch cs _ SH_17.out.at SR_17.out.at hz).mono ?_
    rintro e w18 ⟨rfl, hb⟩
    have Z18 := Lib.hid (within_of hb).size
    have W18 := Lib.hid (within_on W17.out (within_of hb) W17.out.size (.inr (Nat.le_refl _)))
    have HB_18 := Lib.hid (HB_17.out.within (within_of hb) (by omega))
    have BX_18 := Lib.hid (BX_17.out.within (within_of hb) (by omega))
    have SG_18 := Lib.hid (SG_17.out.within (within_of hb) (by omega))
    have SR_18 := Lib.hid (SR_17.out.within (within_of hb) (by omega))
    have XX_18 := Lib.hid (XX_17.out.within (within_of hb) (by omega))
    have SM_18 := Lib.hid (SM_17.out.within (within_of hb) (by omega))
    have ST_18 := Lib.hid (ST_17.out.within (within_of hb) (by omega))
    have SH_18 := Lib.hid (SH_17.out.within (within_of hb) (by omega))
    clear hb
    go_wp2_with fail
    refine (heldSt_c V.length AG cg 1 _ _ _ SM_18.out hz (by omega) (by omega)).mono ?_
    rintro e w19 ⟨rfl, hb⟩
    have Z19 := Lib.hid (within_of hb).size
    have W19 := Lib.hid (within_on W18.out (within_of hb) W18.out.size (.inr (Nat.le_refl _)))
    have HB_19 := Lib.hid (HB_18.out.within (within_of hb) (by omega))
    have BX_19 := Lib.hid (BX_18.out.within (within_of hb) (by omega))
    have SG_19 := Lib.hid (SG_18.out.within (within_of hb) (by omega))
    have SR_19 := Lib.hid (SR_18.out.within (within_of hb) (by omega))
    have XX_19 := Lib.hid (XX_18.out.within (within_of hb) (by omega))
    have SM_19 := Lib.hid (SM_18.out.within (within_of hb) (by omega))
    have ST_19 := Lib.hid (ST_18.out.within (within_of hb) (by omega))
    have SH_19 := Lib.hid (SH_18.out.within (within_of hb) (by omega))
    clear hb
    go_wp2_with fail
    go_ret
    exact ⟨rfl, W19.out⟩
  · have hx : (1048576 : Int) < (l.length : Int) := by omega
    have h63 : l.length ≤ 9223372036854775807 := by unfold maxLen at hl; omega
    have HA := Lib.hid (new_below w (.cells #[.int .i64 q, .slice A l.length cap] 79))
    go_enter Try.func6, Try.ntmps6
    go_wp2_with fail
    refine (szGraph_no q A l.length cap 1048576 _ h63 hx (by omega)).mono ?_
    rintro e w1 ⟨rfl, hb1⟩
    have W1 := Lib.hid (below_on HA.out hb1 HA.out.size)
    clear hb1
    go_wp2_with fail
    go_ret
    exact ⟨rfl, W1.out⟩
end Go.Proofs.Ytdkpmaahinbhlaa
