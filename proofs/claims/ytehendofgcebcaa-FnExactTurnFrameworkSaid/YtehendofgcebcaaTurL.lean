/- The law FnExactTurnFramework returns true at every input. No condition. -/
import Derived.Test.YtehendofgcebcaaTurS
import Derived.Test.YtehendofgcebcaaTurI
import Derived.Test.YtehendofgcebcaaFw
import Derived.Deep.RegionHeld3
namespace Go.Proofs.Ytehendofgcebcaa
open Go.RowKit

set_option maxHeartbeats 4000000 in
set_option maxRecDepth 100000 in
theorem lawTurnFramework (q : Int) (A : Option Addr) (cap : Nat) (l : List (Int × Int)) (B : Option Addr) (cb : Nat) (m : List (Int × Int)) (w : World) (hl : l.length ≤ maxLen ∧ m.length ≤ maxLen) (hb : BarsAt w w.heap.size A l) (hc : BarsAt w w.heap.size B m) :
    Calls Try.prog 9 #[.agg #[.int .i64 q, .slice A l.length cap, .slice B m.length cb]] w fun e w' => e = .returned (.bool true) ∧ Below w.heap.size w w' := by
  have HB_0 := Lib.hid (fw_in hb hc)
  clear hb hc
  by_cases hn : l.length + m.length ≤ 1048576
  · have W0 := Lib.hid (Below.refl w.heap.size w)
    obtain ⟨ms, hms⟩ : ∃ ms, (chgL turF q l m) = ms := ⟨_, rfl⟩
    have hml : ms.length = m.length := by rw [← hms]; exact (chgL_len turF q l m)
    have hnm : l.length + ms.length ≤ 1048576 := by omega
    have HML := Lib.hid hml
    have HSP := Lib.hid (specTur q l m)
    have HIP := Lib.hid (implTur q l m)
    rw [hms] at HSP HIP
    clear hms hml
    have hal := new_below w (.cells #[.int .i64 q, .slice A l.length cap, .slice B m.length cb] 58)
    have Z1 := Lib.hid (within_of hal).size
    have W1 := Lib.hid (within_on W0.out (within_of hal) W0.out.size (.inr (Nat.le_refl _)))
    have HB_1 := Lib.hid (HB_0.out.within (within_of hal) (by omega))
    clear hal
    have hsz : (w.alloc (.cells #[.int .i64 q, .slice A l.length cap, .slice B m.length cb] 58)).heap.size = w.heap.size + 1 := by simp
    have Y1 := Lib.hid hsz
    clear hsz
    have BX_1 := Lib.hid (box3_new w q (.slice A l.length cap) (.slice B m.length cb) 58)
    go_enter Try.func9, Try.ntmps9
    go_wp2_with fail
    generalize (w.alloc (.cells #[.int .i64 q, .slice A l.length cap, .slice B m.length cb] 58)) = w1 at *
    refine (szFw_c q A l.length cap B m.length cb 1048576 _ (by omega) (by omega)).mono ?_
    rintro e w2 ⟨rfl, hb⟩
    have Z2 := Lib.hid (within_of hb).size
    have W2 := Lib.hid (within_on W1.out (within_of hb) W1.out.size (.inr (Nat.le_refl _)))
    have HB_2 := Lib.hid (HB_1.out.within (within_of hb) (by omega))
    have BX_2 := Lib.hid (BX_1.out.within (within_of hb) (by omega))
    clear hb
    have hnn : ¬ (1048576 : Int) - (l.length : Int) - (m.length : Int) < 0 := by omega
    obtain ⟨g01, g02, g03, g04⟩ := BX_2.out
    go_wp2_with fail
    clear g01 g02 g03 g04
    refine (toFw_c q l m A cap B cb _ _ _ HB_2.out hn).mono ?_
    rintro e w3 ⟨g0, g1, rfl, ho, hb⟩
    have Z3 := Lib.hid (within_of hb).size
    have W3 := Lib.hid (within_on W2.out (within_of hb) W2.out.size (.inr (Nat.le_refl _)))
    have HB_3 := Lib.hid (HB_2.out.within (within_of hb) (by omega))
    have BX_3 := Lib.hid (BX_2.out.within (within_of hb) (by omega))
    have SG_3 := Lib.hid (ho.reads)
    clear ho hb
    go_wp2_with fail
    refine (HSP.out ⟨g0, 0, none⟩ l.length ⟨g1, 0, none⟩ m.length _ _ _ SG_3.out hn).mono ?_
    rintro e w4 ⟨AS, cs, BS, ds, rfl, hs, hb⟩
    have Z4 := Lib.hid (within_of hb).size
    have W4 := Lib.hid (within_on W3.out (within_of hb) W3.out.size (.inr (Nat.le_refl _)))
    have HB_4 := Lib.hid (HB_3.out.within (within_of hb) (by omega))
    have BX_4 := Lib.hid (BX_3.out.within (within_of hb) (by omega))
    have SG_4 := Lib.hid (SG_3.out.within (within_of hb) (by omega))
    have SR_4 := Lib.hid (hs.reads)
    clear hs hb
    obtain ⟨g01, g02, g03, g04⟩ := BX_4.out
    go_wp2_with fail
    clear g01 g02 g03 g04
    have hal := new_below w4 (.cells #[.int .i64 q, .slice AS l.length cs, .slice BS ms.length ds] 63)
    have Z5 := Lib.hid (within_of hal).size
    have W5 := Lib.hid (within_on W4.out (within_of hal) W4.out.size (.inr (Nat.le_refl _)))
    have HB_5 := Lib.hid (HB_4.out.within (within_of hal) (by omega))
    have BX_5 := Lib.hid (BX_4.out.within (within_of hal) (by omega))
    have SG_5 := Lib.hid (SG_4.out.within (within_of hal) (by omega))
    have SR_5 := Lib.hid (SR_4.out.within (within_of hal) (by omega))
    clear hal
    have hsz : (w4.alloc (.cells #[.int .i64 q, .slice AS l.length cs, .slice BS ms.length ds] 63)).heap.size = w4.heap.size + 1 := by simp
    have Y5 := Lib.hid hsz
    clear hsz
    have BW_5 := Lib.hid (box3_new w4 q (.slice AS l.length cs) (.slice BS ms.length ds) 63)
    generalize (w4.alloc (.cells #[.int .i64 q, .slice AS l.length cs, .slice BS ms.length ds] 63)) = w5 at *
    refine (toFw_c q l m A cap B cb _ _ _ HB_5.out hn).mono ?_
    rintro e w6 ⟨x0, x1, rfl, ho, hb⟩
    have Z6 := Lib.hid (within_of hb).size
    have W6 := Lib.hid (within_on W5.out (within_of hb) W5.out.size (.inr (Nat.le_refl _)))
    have HB_6 := Lib.hid (HB_5.out.within (within_of hb) (by omega))
    have BX_6 := Lib.hid (BX_5.out.within (within_of hb) (by omega))
    have SG_6 := Lib.hid (SG_5.out.within (within_of hb) (by omega))
    have SR_6 := Lib.hid (SR_5.out.within (within_of hb) (by omega))
    have BW_6 := Lib.hid (BW_5.out.within (within_of hb) (by omega))
    have SX_6 := Lib.hid (ho)
    clear ho hb
    go_wp2_with fail
    have hal := new_below w6 (.cells #[.int .i64 q, .slice (some ⟨x0, 0, none⟩) l.length l.length, .slice (some ⟨x1, 0, none⟩) m.length m.length] 63)
    have Z7 := Lib.hid (within_of hal).size
    have W7 := Lib.hid (within_on W6.out (within_of hal) W6.out.size (.inr (Nat.le_refl _)))
    have HB_7 := Lib.hid (HB_6.out.within (within_of hal) (by omega))
    have BX_7 := Lib.hid (BX_6.out.within (within_of hal) (by omega))
    have SG_7 := Lib.hid (SG_6.out.within (within_of hal) (by omega))
    have SR_7 := Lib.hid (SR_6.out.within (within_of hal) (by omega))
    have BW_7 := Lib.hid (BW_6.out.within (within_of hal) (by omega))
    have SX_7 := Lib.hid (SX_6.out.within (within_of hal) (by omega))
    clear hal
    have hsz : (w6.alloc (.cells #[.int .i64 q, .slice (some ⟨x0, 0, none⟩) l.length l.length, .slice (some ⟨x1, 0, none⟩) m.length m.length] 63)).heap.size = w6.heap.size + 1 := by simp
    have Y7 := Lib.hid hsz
    clear hsz
    have XX_7 := Lib.hid (box3_new w6 q (.slice (some ⟨x0, 0, none⟩) l.length l.length) (.slice (some ⟨x1, 0, none⟩) m.length m.length) 63)
    generalize (w6.alloc (.cells #[.int .i64 q, .slice (some ⟨x0, 0, none⟩) l.length l.length, .slice (some ⟨x1, 0, none⟩) m.length m.length] 63)) = w7 at *
    refine (HIP.out (some ⟨x0, 0, none⟩) l.length (some ⟨x1, 0, none⟩) m.length _ _ _ SX_7.out.reads hn).mono ?_
    rintro e w8 ⟨AG, cg, BG, dg, rfl, ho, hb⟩
    have Z8 := Lib.hid (within_of hb).size
    have W8 := Lib.hid (within_on W7.out (within_of hb) W7.out.size (.inr (Nat.le_refl _)))
    have HB_8 := Lib.hid (HB_7.out.within (within_of hb) (by omega))
    have BX_8 := Lib.hid (BX_7.out.within (within_of hb) (by omega))
    have SG_8 := Lib.hid (SG_7.out.within (within_of hb) (by omega))
    have SR_8 := Lib.hid (SR_7.out.within (within_of hb) (by omega))
    have BW_8 := Lib.hid (BW_7.out.within (within_of hb) (by omega))
    have SX_8 := Lib.hid (SX_7.out.within (within_of hb) (by omega))
    have XX_8 := Lib.hid (XX_7.out.within (within_of hb) (by omega))
    have SO_8 := Lib.hid (ho)
    clear ho hb
    obtain ⟨g01, g02, g03, g04⟩ := BW_8.out
    go_wp2_with fail
    clear g01 g02 g03 g04
    have hal := new_below w8 (.cells #[.int .i64 q, .slice AG l.length cg, .slice BG ms.length dg] 63)
    have Z9 := Lib.hid (within_of hal).size
    have W9 := Lib.hid (within_on W8.out (within_of hal) W8.out.size (.inr (Nat.le_refl _)))
    have HB_9 := Lib.hid (HB_8.out.within (within_of hal) (by omega))
    have BX_9 := Lib.hid (BX_8.out.within (within_of hal) (by omega))
    have SG_9 := Lib.hid (SG_8.out.within (within_of hal) (by omega))
    have SR_9 := Lib.hid (SR_8.out.within (within_of hal) (by omega))
    have BW_9 := Lib.hid (BW_8.out.within (within_of hal) (by omega))
    have SX_9 := Lib.hid (SX_8.out.within (within_of hal) (by omega))
    have XX_9 := Lib.hid (XX_8.out.within (within_of hal) (by omega))
    have SO_9 := Lib.hid (SO_8.out.within (within_of hal) (by omega))
    clear hal
    have hsz : (w8.alloc (.cells #[.int .i64 q, .slice AG l.length cg, .slice BG ms.length dg] 63)).heap.size = w8.heap.size + 1 := by simp
    have Y9 := Lib.hid hsz
    clear hsz
    have BG_9 := Lib.hid (box3_new w8 q (.slice AG l.length cg) (.slice BG ms.length dg) 63)
    generalize (w8.alloc (.cells #[.int .i64 q, .slice AG l.length cg, .slice BG ms.length dg] 63)) = w9 at *
    refine (eqFw_c q l ms AG AS cg cs BG BS dg ds _ _ _ _ _ SO_9.out.reads SR_9.out hnm).mono ?_
    rintro e w10 ⟨rfl, hb⟩
    have Z10 := Lib.hid (within_of hb).size
    have W10 := Lib.hid (within_on W9.out (within_of hb) W9.out.size (.inr (Nat.le_refl _)))
    have HB_10 := Lib.hid (HB_9.out.within (within_of hb) (by omega))
    have BX_10 := Lib.hid (BX_9.out.within (within_of hb) (by omega))
    have SG_10 := Lib.hid (SG_9.out.within (within_of hb) (by omega))
    have SR_10 := Lib.hid (SR_9.out.within (within_of hb) (by omega))
    have BW_10 := Lib.hid (BW_9.out.within (within_of hb) (by omega))
    have SX_10 := Lib.hid (SX_9.out.within (within_of hb) (by omega))
    have XX_10 := Lib.hid (XX_9.out.within (within_of hb) (by omega))
    have SO_10 := Lib.hid (SO_9.out.within (within_of hb) (by omega))
    have BG_10 := Lib.hid (BG_9.out.within (within_of hb) (by omega))
    clear hb
    have kk0 := box3s2 BX_10.out XX_10.out
    have kk := box3s2 BX_10.out XX_10.out
    have hdr : Below w10.heap.size w10 w10.drew := (Below.refl _ _).drew
    have Z11 := Lib.hid (within_of hdr).size
    have W11 := Lib.hid (within_on W10.out (within_of hdr) W10.out.size (.inr (Nat.le_refl _)))
    have HB_11 := Lib.hid (HB_10.out.within (within_of hdr) (by omega))
    have BX_11 := Lib.hid (BX_10.out.within (within_of hdr) (by omega))
    have SG_11 := Lib.hid (SG_10.out.within (within_of hdr) (by omega))
    have SR_11 := Lib.hid (SR_10.out.within (within_of hdr) (by omega))
    have BW_11 := Lib.hid (BW_10.out.within (within_of hdr) (by omega))
    have SX_11 := Lib.hid (SX_10.out.within (within_of hdr) (by omega))
    have XX_11 := Lib.hid (XX_10.out.within (within_of hdr) (by omega))
    have SO_11 := Lib.hid (SO_10.out.within (within_of hdr) (by omega))
    have BG_11 := Lib.hid (BG_10.out.within (within_of hdr) (by omega))
    clear hdr
    go_wp2_with fail
    go_region_held3 (fun W' => W'.cell? ⟨w.heap.size, 0, none⟩ = some (.int .i64 q) ∧ W'.cell? ⟨w.heap.size, 1, none⟩ = some (.slice A l.length cap) ∧ W'.cell? ⟨w.heap.size, 2, none⟩ = some (.slice B m.length cb) ∧ W'.cell? ⟨w6.heap.size, 0, none⟩ = some (.int .i64 q) ∧ W'.cell? ⟨w6.heap.size, 1, none⟩ = some (.slice (some ⟨x0, 0, none⟩) l.length l.length) ∧ W'.cell? ⟨w6.heap.size, 2, none⟩ = some (.slice (some ⟨x1, 0, none⟩) m.length m.length))
      (first | exact kk | exact box3s2 BX_12.out XX_12.out | exact box3s2 BX_13.out XX_13.out | fail)
      (first
        | (go_at_call 45; refine (toFw_c q l m A cap B cb _ _ _ HB_11.out hn).mono ?_; rintro e w12 ⟨u0, u1, rfl, ho, hb⟩; have Z12 := Lib.hid (within_of hb).size; have W12 := Lib.hid (within_on W11.out (within_of hb) W11.out.size (.inr (Nat.le_refl _))); have HB_12 := Lib.hid (HB_11.out.within (within_of hb) (by omega)); have BX_12 := Lib.hid (BX_11.out.within (within_of hb) (by omega)); have SG_12 := Lib.hid (SG_11.out.within (within_of hb) (by omega)); have SR_12 := Lib.hid (SR_11.out.within (within_of hb) (by omega)); have BW_12 := Lib.hid (BW_11.out.within (within_of hb) (by omega)); have SX_12 := Lib.hid (SX_11.out.within (within_of hb) (by omega)); have XX_12 := Lib.hid (XX_11.out.within (within_of hb) (by omega)); have SO_12 := Lib.hid (SO_11.out.within (within_of hb) (by omega)); have BG_12 := Lib.hid (BG_11.out.within (within_of hb) (by omega)); have YY := Lib.hid ho.reads; clear ho hb)
        | (go_at_call 47; refine (eqFw_c q l m _ _ _ _ _ _ _ _ _ _ _ _ _ SX_12.out.reads YY.out hn).mono ?_; rintro e w13 ⟨rfl, hb⟩; have Z13 := Lib.hid (within_of hb).size; have W13 := Lib.hid (within_on W12.out (within_of hb) W12.out.size (.inr (Nat.le_refl _))); have HB_13 := Lib.hid (HB_12.out.within (within_of hb) (by omega)); have BX_13 := Lib.hid (BX_12.out.within (within_of hb) (by omega)); have SG_13 := Lib.hid (SG_12.out.within (within_of hb) (by omega)); have SR_13 := Lib.hid (SR_12.out.within (within_of hb) (by omega)); have BW_13 := Lib.hid (BW_12.out.within (within_of hb) (by omega)); have SX_13 := Lib.hid (SX_12.out.within (within_of hb) (by omega)); have XX_13 := Lib.hid (XX_12.out.within (within_of hb) (by omega)); have SO_13 := Lib.hid (SO_12.out.within (within_of hb) (by omega)); have BG_13 := Lib.hid (BG_12.out.within (within_of hb) (by omega)); clear hb))
    clear kk0 kk YY
    obtain ⟨g01, g02, g03, g04⟩ := XX_13.out
    go_wp2_with fail
    clear g01 g02 g03 g04
    refine (markFw_o q l m (some ⟨x0, 0, none⟩) l.length (some ⟨x1, 0, none⟩) m.length 1 w5.heap.size w6.heap.size _ SX_13.out hn (by omega) (by omega)).mono ?_
    rintro e w14 ⟨rfl, hin, hox⟩
    have Z14 := Lib.hid (hin).size
    have W14 := Lib.hid (within_on W13.out (hin) W13.out.size (by have := W13.out.size; have := Z1.out; have := Z2.out; have := Z3.out; have := Z4.out; have := Z5.out; have := Z6.out; have := Z7.out; have := Z8.out; have := Z9.out; have := Z10.out; have := Z11.out; have := Z12.out; have := Z13.out; have := Z14.out; have := Y1.out; have := Y5.out; have := Y7.out; have := Y9.out; omega))
    have HB_14 := Lib.hid (HB_13.out.within (hin) (by have := Z1.out; have := Z2.out; have := Z3.out; have := Z4.out; have := Z5.out; have := Z6.out; have := Z7.out; have := Z8.out; have := Z9.out; have := Z10.out; have := Z11.out; have := Z12.out; have := Z13.out; have := Z14.out; have := Y1.out; have := Y5.out; have := Y7.out; have := Y9.out; omega))
    have BX_14 := Lib.hid (BX_13.out.within (hin) (by have := Z1.out; have := Z2.out; have := Z3.out; have := Z4.out; have := Z5.out; have := Z6.out; have := Z7.out; have := Z8.out; have := Z9.out; have := Z10.out; have := Z11.out; have := Z12.out; have := Z13.out; have := Z14.out; have := Y1.out; have := Y5.out; have := Y7.out; have := Y9.out; omega))
    have SG_14 := Lib.hid (SG_13.out.within (hin) (by have := Z1.out; have := Z2.out; have := Z3.out; have := Z4.out; have := Z5.out; have := Z6.out; have := Z7.out; have := Z8.out; have := Z9.out; have := Z10.out; have := Z11.out; have := Z12.out; have := Z13.out; have := Z14.out; have := Y1.out; have := Y5.out; have := Y7.out; have := Y9.out; omega))
    have SR_14 := Lib.hid (SR_13.out.within (hin) (by have := Z1.out; have := Z2.out; have := Z3.out; have := Z4.out; have := Z5.out; have := Z6.out; have := Z7.out; have := Z8.out; have := Z9.out; have := Z10.out; have := Z11.out; have := Z12.out; have := Z13.out; have := Z14.out; have := Y1.out; have := Y5.out; have := Y7.out; have := Y9.out; omega))
    have BW_14 := Lib.hid (BW_13.out.within (hin) (by have := Z1.out; have := Z2.out; have := Z3.out; have := Z4.out; have := Z5.out; have := Z6.out; have := Z7.out; have := Z8.out; have := Z9.out; have := Z10.out; have := Z11.out; have := Z12.out; have := Z13.out; have := Z14.out; have := Y1.out; have := Y5.out; have := Y7.out; have := Y9.out; omega))
    have XX_14 := Lib.hid (XX_13.out.within (hin) (by have := Z1.out; have := Z2.out; have := Z3.out; have := Z4.out; have := Z5.out; have := Z6.out; have := Z7.out; have := Z8.out; have := Z9.out; have := Z10.out; have := Z11.out; have := Z12.out; have := Z13.out; have := Z14.out; have := Y1.out; have := Y5.out; have := Y7.out; have := Y9.out; omega))
    have SO_14 := Lib.hid (SO_13.out.within (hin) (by have := Z1.out; have := Z2.out; have := Z3.out; have := Z4.out; have := Z5.out; have := Z6.out; have := Z7.out; have := Z8.out; have := Z9.out; have := Z10.out; have := Z11.out; have := Z12.out; have := Z13.out; have := Z14.out; have := Y1.out; have := Y5.out; have := Y7.out; have := Y9.out; omega))
    have BG_14 := Lib.hid (BG_13.out.within (hin) (by have := Z1.out; have := Z2.out; have := Z3.out; have := Z4.out; have := Z5.out; have := Z6.out; have := Z7.out; have := Z8.out; have := Z9.out; have := Z10.out; have := Z11.out; have := Z12.out; have := Z13.out; have := Z14.out; have := Y1.out; have := Y5.out; have := Y7.out; have := Y9.out; omega))
    clear hox hin
    have hk1 : ¬ (1 : Int) + 2 * (l.length : Int) + 2 * (m.length : Int) < 0 := by omega
    obtain ⟨g01, g02, g03, g04⟩ := BG_14.out
    obtain ⟨g11, g12, g13, g14⟩ := BW_14.out
    go_wp2_with fail
    clear g01 g02 g03 g04 g11 g12 g13 g14
    refine (eqFw_c q l ms AG AS cg cs BG BS dg ds _ _ _ _ _ SO_14.out.reads SR_14.out hnm).mono ?_
    rintro e w15 ⟨rfl, hb⟩
    have Z15 := Lib.hid (within_of hb).size
    have W15 := Lib.hid (within_on W14.out (within_of hb) W14.out.size (.inr (Nat.le_refl _)))
    have HB_15 := Lib.hid (HB_14.out.within (within_of hb) (by omega))
    have BX_15 := Lib.hid (BX_14.out.within (within_of hb) (by omega))
    have SG_15 := Lib.hid (SG_14.out.within (within_of hb) (by omega))
    have SR_15 := Lib.hid (SR_14.out.within (within_of hb) (by omega))
    have BW_15 := Lib.hid (BW_14.out.within (within_of hb) (by omega))
    have XX_15 := Lib.hid (XX_14.out.within (within_of hb) (by omega))
    have SO_15 := Lib.hid (SO_14.out.within (within_of hb) (by omega))
    have BG_15 := Lib.hid (BG_14.out.within (within_of hb) (by omega))
    clear hb
    obtain ⟨g01, g02, g03, g04⟩ := BG_15.out
    go_wp2_with fail
    clear g01 g02 g03 g04
    refine (markFw_o q l ms AG cg BG dg 1 w7.heap.size w8.heap.size _ SO_15.out hnm (by omega) (by omega)).mono ?_
    rintro e w16 ⟨rfl, hin, hog⟩
    have Z16 := Lib.hid (hin).size
    have W16 := Lib.hid (within_on W15.out (hin) W15.out.size (by have := W15.out.size; have := Z1.out; have := Z2.out; have := Z3.out; have := Z4.out; have := Z5.out; have := Z6.out; have := Z7.out; have := Z8.out; have := Z9.out; have := Z10.out; have := Z11.out; have := Z12.out; have := Z13.out; have := Z14.out; have := Z15.out; have := Z16.out; have := Y1.out; have := Y5.out; have := Y7.out; have := Y9.out; omega))
    have HB_16 := Lib.hid (HB_15.out.within (hin) (by have := Z1.out; have := Z2.out; have := Z3.out; have := Z4.out; have := Z5.out; have := Z6.out; have := Z7.out; have := Z8.out; have := Z9.out; have := Z10.out; have := Z11.out; have := Z12.out; have := Z13.out; have := Z14.out; have := Z15.out; have := Z16.out; have := Y1.out; have := Y5.out; have := Y7.out; have := Y9.out; omega))
    have BX_16 := Lib.hid (BX_15.out.within (hin) (by have := Z1.out; have := Z2.out; have := Z3.out; have := Z4.out; have := Z5.out; have := Z6.out; have := Z7.out; have := Z8.out; have := Z9.out; have := Z10.out; have := Z11.out; have := Z12.out; have := Z13.out; have := Z14.out; have := Z15.out; have := Z16.out; have := Y1.out; have := Y5.out; have := Y7.out; have := Y9.out; omega))
    have SG_16 := Lib.hid (SG_15.out.within (hin) (by have := Z1.out; have := Z2.out; have := Z3.out; have := Z4.out; have := Z5.out; have := Z6.out; have := Z7.out; have := Z8.out; have := Z9.out; have := Z10.out; have := Z11.out; have := Z12.out; have := Z13.out; have := Z14.out; have := Z15.out; have := Z16.out; have := Y1.out; have := Y5.out; have := Y7.out; have := Y9.out; omega))
    have SR_16 := Lib.hid (SR_15.out.within (hin) (by have := Z1.out; have := Z2.out; have := Z3.out; have := Z4.out; have := Z5.out; have := Z6.out; have := Z7.out; have := Z8.out; have := Z9.out; have := Z10.out; have := Z11.out; have := Z12.out; have := Z13.out; have := Z14.out; have := Z15.out; have := Z16.out; have := Y1.out; have := Y5.out; have := Y7.out; have := Y9.out; omega))
    have BW_16 := Lib.hid (BW_15.out.within (hin) (by have := Z1.out; have := Z2.out; have := Z3.out; have := Z4.out; have := Z5.out; have := Z6.out; have := Z7.out; have := Z8.out; have := Z9.out; have := Z10.out; have := Z11.out; have := Z12.out; have := Z13.out; have := Z14.out; have := Z15.out; have := Z16.out; have := Y1.out; have := Y5.out; have := Y7.out; have := Y9.out; omega))
    have XX_16 := Lib.hid (XX_15.out.within (hin) (by have := Z1.out; have := Z2.out; have := Z3.out; have := Z4.out; have := Z5.out; have := Z6.out; have := Z7.out; have := Z8.out; have := Z9.out; have := Z10.out; have := Z11.out; have := Z12.out; have := Z13.out; have := Z14.out; have := Z15.out; have := Z16.out; have := Y1.out; have := Y5.out; have := Y7.out; have := Y9.out; omega))
    have BG_16 := Lib.hid (BG_15.out.within (hin) (by have := Z1.out; have := Z2.out; have := Z3.out; have := Z4.out; have := Z5.out; have := Z6.out; have := Z7.out; have := Z8.out; have := Z9.out; have := Z10.out; have := Z11.out; have := Z12.out; have := Z13.out; have := Z14.out; have := Z15.out; have := Z16.out; have := Y1.out; have := Y5.out; have := Y7.out; have := Y9.out; omega))
    have SM_16 := Lib.hid (hog)
    clear hog hin
    have hk2 : ¬ (1 : Int) + 2 * (l.length : Int) + 2 * (ms.length : Int) < 0 := by omega
    obtain ⟨g01, g02, g03, g04⟩ := BG_16.out
    go_wp2_with fail
    clear g01 g02 g03 g04
    refine (heldFw_o q l.length ms.length AG cg BG dg 1 w7.heap.size w8.heap.size _ SM_16.out hnm (by omega) (by omega)).mono ?_
    rintro e w17 ⟨rfl, hb⟩
    have Z17 := Lib.hid (within_of hb).size
    have W17 := Lib.hid (within_on W16.out (within_of hb) W16.out.size (.inr (Nat.le_refl _)))
    have HB_17 := Lib.hid (HB_16.out.within (within_of hb) (by omega))
    have BX_17 := Lib.hid (BX_16.out.within (within_of hb) (by omega))
    have SG_17 := Lib.hid (SG_16.out.within (within_of hb) (by omega))
    have SR_17 := Lib.hid (SR_16.out.within (within_of hb) (by omega))
    have BW_17 := Lib.hid (BW_16.out.within (within_of hb) (by omega))
    have XX_17 := Lib.hid (XX_16.out.within (within_of hb) (by omega))
    have BG_17 := Lib.hid (BG_16.out.within (within_of hb) (by omega))
    have SM_17 := Lib.hid (SM_16.out.within (within_of hb) (by omega))
    clear hb
    obtain ⟨g01, g02, g03, g04⟩ := BX_17.out
    go_wp2_with fail
    clear g01 g02 g03 g04
    refine (toFw_c q l m A cap B cb _ _ _ HB_17.out hn).mono ?_
    rintro e w18 ⟨z0, z1, rfl, ho, hb⟩
    have Z18 := Lib.hid (within_of hb).size
    have W18 := Lib.hid (within_on W17.out (within_of hb) W17.out.size (.inr (Nat.le_refl _)))
    have HB_18 := Lib.hid (HB_17.out.within (within_of hb) (by omega))
    have BX_18 := Lib.hid (BX_17.out.within (within_of hb) (by omega))
    have SG_18 := Lib.hid (SG_17.out.within (within_of hb) (by omega))
    have SR_18 := Lib.hid (SR_17.out.within (within_of hb) (by omega))
    have BW_18 := Lib.hid (BW_17.out.within (within_of hb) (by omega))
    have XX_18 := Lib.hid (XX_17.out.within (within_of hb) (by omega))
    have BG_18 := Lib.hid (BG_17.out.within (within_of hb) (by omega))
    have SM_18 := Lib.hid (SM_17.out.within (within_of hb) (by omega))
    have ST_18 := Lib.hid (ho.reads)
    clear ho hb
    go_wp2_with fail
    refine (HIP.out (some ⟨z0, 0, none⟩) l.length (some ⟨z1, 0, none⟩) m.length _ _ _ ST_18.out hn).mono ?_
    rintro e w19 ⟨AH, ch, BH, dh, rfl, ho, hb⟩
    have Z19 := Lib.hid (within_of hb).size
    have W19 := Lib.hid (within_on W18.out (within_of hb) W18.out.size (.inr (Nat.le_refl _)))
    have HB_19 := Lib.hid (HB_18.out.within (within_of hb) (by omega))
    have BX_19 := Lib.hid (BX_18.out.within (within_of hb) (by omega))
    have SG_19 := Lib.hid (SG_18.out.within (within_of hb) (by omega))
    have SR_19 := Lib.hid (SR_18.out.within (within_of hb) (by omega))
    have BW_19 := Lib.hid (BW_18.out.within (within_of hb) (by omega))
    have XX_19 := Lib.hid (XX_18.out.within (within_of hb) (by omega))
    have BG_19 := Lib.hid (BG_18.out.within (within_of hb) (by omega))
    have SM_19 := Lib.hid (SM_18.out.within (within_of hb) (by omega))
    have ST_19 := Lib.hid (ST_18.out.within (within_of hb) (by omega))
    have SH_19 := Lib.hid (ho.reads)
    clear ho hb
    obtain ⟨g01, g02, g03, g04⟩ := BW_19.out
    go_wp2_with fail
    clear g01 g02 g03 g04
    have hal := new_below w19 (.cells #[.int .i64 q, .slice AH l.length ch, .slice BH ms.length dh] 63)
    have Z20 := Lib.hid (within_of hal).size
    have W20 := Lib.hid (within_on W19.out (within_of hal) W19.out.size (.inr (Nat.le_refl _)))
    have HB_20 := Lib.hid (HB_19.out.within (within_of hal) (by omega))
    have BX_20 := Lib.hid (BX_19.out.within (within_of hal) (by omega))
    have SG_20 := Lib.hid (SG_19.out.within (within_of hal) (by omega))
    have SR_20 := Lib.hid (SR_19.out.within (within_of hal) (by omega))
    have BW_20 := Lib.hid (BW_19.out.within (within_of hal) (by omega))
    have XX_20 := Lib.hid (XX_19.out.within (within_of hal) (by omega))
    have BG_20 := Lib.hid (BG_19.out.within (within_of hal) (by omega))
    have SM_20 := Lib.hid (SM_19.out.within (within_of hal) (by omega))
    have ST_20 := Lib.hid (ST_19.out.within (within_of hal) (by omega))
    have SH_20 := Lib.hid (SH_19.out.within (within_of hal) (by omega))
    clear hal
    have hsz : (w19.alloc (.cells #[.int .i64 q, .slice AH l.length ch, .slice BH ms.length dh] 63)).heap.size = w19.heap.size + 1 := by simp
    have Y20 := Lib.hid hsz
    clear hsz
    have BH_20 := Lib.hid (box3_new w19 q (.slice AH l.length ch) (.slice BH ms.length dh) 63)
    generalize (w19.alloc (.cells #[.int .i64 q, .slice AH l.length ch, .slice BH ms.length dh] 63)) = w20 at *
    refine (eqFw_c q l ms AH AS ch cs BH BS dh ds _ _ _ _ _ SH_20.out SR_20.out hnm).mono ?_
    rintro e w21 ⟨rfl, hb⟩
    have Z21 := Lib.hid (within_of hb).size
    have W21 := Lib.hid (within_on W20.out (within_of hb) W20.out.size (.inr (Nat.le_refl _)))
    have HB_21 := Lib.hid (HB_20.out.within (within_of hb) (by omega))
    have BX_21 := Lib.hid (BX_20.out.within (within_of hb) (by omega))
    have SG_21 := Lib.hid (SG_20.out.within (within_of hb) (by omega))
    have SR_21 := Lib.hid (SR_20.out.within (within_of hb) (by omega))
    have BW_21 := Lib.hid (BW_20.out.within (within_of hb) (by omega))
    have XX_21 := Lib.hid (XX_20.out.within (within_of hb) (by omega))
    have BG_21 := Lib.hid (BG_20.out.within (within_of hb) (by omega))
    have SM_21 := Lib.hid (SM_20.out.within (within_of hb) (by omega))
    have ST_21 := Lib.hid (ST_20.out.within (within_of hb) (by omega))
    have SH_21 := Lib.hid (SH_20.out.within (within_of hb) (by omega))
    have BH_21 := Lib.hid (BH_20.out.within (within_of hb) (by omega))
    clear hb
    obtain ⟨g01, g02, g03, g04⟩ := BG_21.out
    go_wp2_with fail
    clear g01 g02 g03 g04
    refine (heldFw_o q l.length ms.length AG cg BG dg 1 w7.heap.size w8.heap.size _ SM_21.out hnm (by omega) (by omega)).mono ?_
    rintro e w22 ⟨rfl, hb⟩
    have Z22 := Lib.hid (within_of hb).size
    have W22 := Lib.hid (within_on W21.out (within_of hb) W21.out.size (.inr (Nat.le_refl _)))
    have HB_22 := Lib.hid (HB_21.out.within (within_of hb) (by omega))
    have BX_22 := Lib.hid (BX_21.out.within (within_of hb) (by omega))
    have SG_22 := Lib.hid (SG_21.out.within (within_of hb) (by omega))
    have SR_22 := Lib.hid (SR_21.out.within (within_of hb) (by omega))
    have BW_22 := Lib.hid (BW_21.out.within (within_of hb) (by omega))
    have XX_22 := Lib.hid (XX_21.out.within (within_of hb) (by omega))
    have BG_22 := Lib.hid (BG_21.out.within (within_of hb) (by omega))
    have SM_22 := Lib.hid (SM_21.out.within (within_of hb) (by omega))
    have ST_22 := Lib.hid (ST_21.out.within (within_of hb) (by omega))
    have SH_22 := Lib.hid (SH_21.out.within (within_of hb) (by omega))
    have BH_22 := Lib.hid (BH_21.out.within (within_of hb) (by omega))
    clear hb
    go_wp2_with fail
    go_ret
    exact ⟨rfl, W22.out⟩
  · have W0 := Lib.hid (Below.refl w.heap.size w)
    have hal := new_below w (.cells #[.int .i64 q, .slice A l.length cap, .slice B m.length cb] 58)
    have Z1 := Lib.hid (within_of hal).size
    have W1 := Lib.hid (within_on W0.out (within_of hal) W0.out.size (.inr (Nat.le_refl _)))
    have HB_1 := Lib.hid (HB_0.out.within (within_of hal) (by omega))
    clear hal
    have hsz : (w.alloc (.cells #[.int .i64 q, .slice A l.length cap, .slice B m.length cb] 58)).heap.size = w.heap.size + 1 := by simp
    have Y1 := Lib.hid hsz
    clear hsz
    have BX_1 := Lib.hid (box3_new w q (.slice A l.length cap) (.slice B m.length cb) 58)
    go_enter Try.func9, Try.ntmps9
    go_wp2_with fail
    generalize (w.alloc (.cells #[.int .i64 q, .slice A l.length cap, .slice B m.length cb] 58)) = w1 at *
    refine (szFw_no q A l.length cap B m.length cb 1048576 _ hl.1 hl.2 (by omega) (by omega) (by omega)).mono ?_
    rintro e w2 ⟨rfl, hb⟩
    have Z2 := Lib.hid (within_of hb).size
    have W2 := Lib.hid (within_on W1.out (within_of hb) W1.out.size (.inr (Nat.le_refl _)))
    have HB_2 := Lib.hid (HB_1.out.within (within_of hb) (by omega))
    have BX_2 := Lib.hid (BX_1.out.within (within_of hb) (by omega))
    clear hb
    go_wp2_with fail
    go_ret
    exact ⟨rfl, W2.out⟩
end Go.Proofs.Ytehendofgcebcaa
