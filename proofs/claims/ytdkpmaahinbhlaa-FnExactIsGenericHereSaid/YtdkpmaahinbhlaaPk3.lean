/- Several texts in one, in the order in which they build on each other: what stands on the way to the laws; each names its own matter. No condition. -/
import Derived.Test.YtdkpmaahinbhlaaPk2
import Derived.Deep.RegionHeld3
import Derived.OrdersHeld
import Derived.Lib.MinMax
import Derived.Deep.QuietTactic
import Derived.BigQuiet
import Derived.Deep.RegionLaw
import Derived.StillTailTactics
import Derived.Laws.CopyOwn
/- The law FnExactRigidityMatrix returns true at every input. No condition. -/
namespace Go.Proofs.Ytdkpmaahinbhlaa
open Go.RowKit

set_option maxHeartbeats 4000000 in
set_option maxRecDepth 100000 in
theorem lawRigidityMatrix (q : Int) (A : Option Addr) (cap : Nat) (l : List (Int × Int)) (B : Option Addr) (cb : Nat) (m : List (Int × Int)) (w : World) (hl : l.length ≤ maxLen ∧ m.length ≤ maxLen) (hb : BarsAt w w.heap.size A l) (hc : BarsAt w w.heap.size B m) :
    Calls Try.prog 7 #[.agg #[.int .i64 q, .slice A l.length cap, .slice B m.length cb]] w fun e w' => e = .returned (.bool true) ∧ Below w.heap.size w w' := by
  have HB_0 := Lib.hid (fw_in hb hc)
  clear hb hc
  by_cases hn : l.length + m.length ≤ 1048576
  · have W0 := Lib.hid (Below.refl w.heap.size w)
    have hz : (rigV q l m).length ≤ 1048576 := (Nat.le_trans (rigV_len q l m) (by decide))
    have hrr : ∀ k, k < (rigV q l m).length → ((rigV q l m).getD k []).length ≤ 1048576 := (fun k _ => Nat.le_trans (rigV_row q l m k) (by decide))
    have htt : (1 : Int) + (tot (rigV q l m) (rigV q l m).length : Int) ≤ 10000000 := (by have := tot_bound (rigV q l m) 12 (rigV q l m).length (fun k _ => rigV_row q l m k); have := rigV_len q l m; omega)
    have HRR := Lib.hid hrr
    clear hrr
    have hal := new_below w (.cells #[.int .i64 q, .slice A l.length cap, .slice B m.length cb] 92)
    have Z1 := Lib.hid (within_of hal).size
    have W1 := Lib.hid (within_on W0.out (within_of hal) W0.out.size (.inr (Nat.le_refl _)))
    have HB_1 := Lib.hid (HB_0.out.within (within_of hal) (by omega))
    clear hal
    have hsz : (w.alloc (.cells #[.int .i64 q, .slice A l.length cap, .slice B m.length cb] 92)).heap.size = w.heap.size + 1 := by simp
    have Y1 := Lib.hid hsz
    clear hsz
    have BX_1 := Lib.hid (box3_new w q (.slice A l.length cap) (.slice B m.length cb) 92)
    go_enter Try.func7, Try.ntmps7
    go_wp2_with fail
    generalize (w.alloc (.cells #[.int .i64 q, .slice A l.length cap, .slice B m.length cb] 92)) = w1 at *
    refine (szFw_c q A l.length cap B m.length cb 1048576 _ (by omega) (by omega)).mono ?_
    rintro e w2 ⟨rfl, hb⟩
    have Z2 := Lib.hid (within_of hb).size
    have W2 := Lib.hid (within_on W1.out (within_of hb) W1.out.size (.inr (Nat.le_refl _)))
    have HB_2 := Lib.hid (HB_1.out.within (within_of hb) (by omega))
    have BX_2 := Lib.hid (BX_1.out.within (within_of hb) (by omega))
    clear hb
    have hnn : ¬ (1048576 : Int) - (l.length : Int) - (m.length : Int) < 0 := by omega
    obtain ⟨g01, g02, g03, g04⟩ := BX_2.out
    go_wp2_with fail
    clear g01 g02 g03 g04
    refine (toFw_c q l m A cap B cb _ _ _ HB_2.out hn).mono ?_
    rintro e w3 ⟨g0, g1, rfl, ho, hb⟩
    have Z3 := Lib.hid (within_of hb).size
    have W3 := Lib.hid (within_on W2.out (within_of hb) W2.out.size (.inr (Nat.le_refl _)))
    have HB_3 := Lib.hid (HB_2.out.within (within_of hb) (by omega))
    have BX_3 := Lib.hid (BX_2.out.within (within_of hb) (by omega))
    have SG_3 := Lib.hid (ho.reads)
    clear ho hb
    go_wp2_with fail
    refine (specRgm q l m (some ⟨g0, 0, none⟩) l.length (some ⟨g1, 0, none⟩) m.length _ _ _ SG_3.out hn).mono ?_
    rintro e w4 ⟨AS, cs, rfl, hs, hb⟩
    have Z4 := Lib.hid (within_of hb).size
    have W4 := Lib.hid (within_on W3.out (within_of hb) W3.out.size (.inr (Nat.le_refl _)))
    have HB_4 := Lib.hid (HB_3.out.within (within_of hb) (by omega))
    have BX_4 := Lib.hid (BX_3.out.within (within_of hb) (by omega))
    have SG_4 := Lib.hid (SG_3.out.within (within_of hb) (by omega))
    have SR_4 := Lib.hid (hs)
    clear hs hb
    obtain ⟨g01, g02, g03, g04⟩ := BX_4.out
    go_wp2_with fail
    clear g01 g02 g03 g04
    refine (toFw_c q l m A cap B cb _ _ _ HB_4.out hn).mono ?_
    rintro e w5 ⟨x0, x1, rfl, ho, hb⟩
    have Z5 := Lib.hid (within_of hb).size
    have W5 := Lib.hid (within_on W4.out (within_of hb) W4.out.size (.inr (Nat.le_refl _)))
    have HB_5 := Lib.hid (HB_4.out.within (within_of hb) (by omega))
    have BX_5 := Lib.hid (BX_4.out.within (within_of hb) (by omega))
    have SG_5 := Lib.hid (SG_4.out.within (within_of hb) (by omega))
    have SR_5 := Lib.hid (SR_4.out.within (within_of hb) (by omega))
    have SX_5 := Lib.hid (ho)
    clear ho hb
    go_wp2_with fail
    have hal := new_below w5 (.cells #[.int .i64 q, .slice (some ⟨x0, 0, none⟩) l.length l.length, .slice (some ⟨x1, 0, none⟩) m.length m.length] 97)
    have Z6 := Lib.hid (within_of hal).size
    have W6 := Lib.hid (within_on W5.out (within_of hal) W5.out.size (.inr (Nat.le_refl _)))
    have HB_6 := Lib.hid (HB_5.out.within (within_of hal) (by omega))
    have BX_6 := Lib.hid (BX_5.out.within (within_of hal) (by omega))
    have SG_6 := Lib.hid (SG_5.out.within (within_of hal) (by omega))
    have SR_6 := Lib.hid (SR_5.out.within (within_of hal) (by omega))
    have SX_6 := Lib.hid (SX_5.out.within (within_of hal) (by omega))
    clear hal
    have hsz : (w5.alloc (.cells #[.int .i64 q, .slice (some ⟨x0, 0, none⟩) l.length l.length, .slice (some ⟨x1, 0, none⟩) m.length m.length] 97)).heap.size = w5.heap.size + 1 := by simp
    have Y6 := Lib.hid hsz
    clear hsz
    have XX_6 := Lib.hid (box3_new w5 q (.slice (some ⟨x0, 0, none⟩) l.length l.length) (.slice (some ⟨x1, 0, none⟩) m.length m.length) 97)
    generalize (w5.alloc (.cells #[.int .i64 q, .slice (some ⟨x0, 0, none⟩) l.length l.length, .slice (some ⟨x1, 0, none⟩) m.length m.length] 97)) = w6 at *
    refine (implRgm q l m (some ⟨x0, 0, none⟩) l.length (some ⟨x1, 0, none⟩) m.length _ _ _ SX_6.out.reads hn).mono ?_
    rintro e w7 ⟨AG, cg, rfl, ho, hb⟩
    have Z7 := Lib.hid (within_of hb).size
    have W7 := Lib.hid (within_on W6.out (within_of hb) W6.out.size (.inr (Nat.le_refl _)))
    have HB_7 := Lib.hid (HB_6.out.within (within_of hb) (by omega))
    have BX_7 := Lib.hid (BX_6.out.within (within_of hb) (by omega))
    have SG_7 := Lib.hid (SG_6.out.within (within_of hb) (by omega))
    have SR_7 := Lib.hid (SR_6.out.within (within_of hb) (by omega))
    have SX_7 := Lib.hid (SX_6.out.within (within_of hb) (by omega))
    have XX_7 := Lib.hid (XX_6.out.within (within_of hb) (by omega))
    have SO_7 := Lib.hid (ho)
    clear ho hb
    go_wp2_with fail
    refine (eqRows_c (rigV q l m) AG AS cg cs _ _ _ _ _ SO_7.out.reads SR_7.out hz HRR.out).mono ?_
    rintro e w8 ⟨rfl, hb⟩
    have Z8 := Lib.hid (within_of hb).size
    have W8 := Lib.hid (within_on W7.out (within_of hb) W7.out.size (.inr (Nat.le_refl _)))
    have HB_8 := Lib.hid (HB_7.out.within (within_of hb) (by omega))
    have BX_8 := Lib.hid (BX_7.out.within (within_of hb) (by omega))
    have SG_8 := Lib.hid (SG_7.out.within (within_of hb) (by omega))
    have SR_8 := Lib.hid (SR_7.out.within (within_of hb) (by omega))
    have SX_8 := Lib.hid (SX_7.out.within (within_of hb) (by omega))
    have XX_8 := Lib.hid (XX_7.out.within (within_of hb) (by omega))
    have SO_8 := Lib.hid (SO_7.out.within (within_of hb) (by omega))
    clear hb
    have kk0 := box3s2 BX_8.out XX_8.out
    have kk := box3s2 BX_8.out XX_8.out
    have hdr : Below w8.heap.size w8 w8.drew := (Below.refl _ _).drew
    have Z9 := Lib.hid (within_of hdr).size
    have W9 := Lib.hid (within_on W8.out (within_of hdr) W8.out.size (.inr (Nat.le_refl _)))
    have HB_9 := Lib.hid (HB_8.out.within (within_of hdr) (by omega))
    have BX_9 := Lib.hid (BX_8.out.within (within_of hdr) (by omega))
    have SG_9 := Lib.hid (SG_8.out.within (within_of hdr) (by omega))
    have SR_9 := Lib.hid (SR_8.out.within (within_of hdr) (by omega))
    have SX_9 := Lib.hid (SX_8.out.within (within_of hdr) (by omega))
    have XX_9 := Lib.hid (XX_8.out.within (within_of hdr) (by omega))
    have SO_9 := Lib.hid (SO_8.out.within (within_of hdr) (by omega))
    clear hdr
    go_wp2_with fail
    go_region_held3 (fun W' => W'.cell? ⟨w.heap.size, 0, none⟩ = some (.int .i64 q) ∧ W'.cell? ⟨w.heap.size, 1, none⟩ = some (.slice A l.length cap) ∧ W'.cell? ⟨w.heap.size, 2, none⟩ = some (.slice B m.length cb) ∧ W'.cell? ⟨w5.heap.size, 0, none⟩ = some (.int .i64 q) ∧ W'.cell? ⟨w5.heap.size, 1, none⟩ = some (.slice (some ⟨x0, 0, none⟩) l.length l.length) ∧ W'.cell? ⟨w5.heap.size, 2, none⟩ = some (.slice (some ⟨x1, 0, none⟩) m.length m.length))
      (first | exact kk | exact box3s2 BX_10.out XX_10.out | exact box3s2 BX_11.out XX_11.out | fail)
      (first
        | (go_at_call 88; refine (toFw_c q l m A cap B cb _ _ _ HB_9.out hn).mono ?_; rintro e w10 ⟨u0, u1, rfl, ho, hb⟩; have Z10 := Lib.hid (within_of hb).size; have W10 := Lib.hid (within_on W9.out (within_of hb) W9.out.size (.inr (Nat.le_refl _))); have HB_10 := Lib.hid (HB_9.out.within (within_of hb) (by omega)); have BX_10 := Lib.hid (BX_9.out.within (within_of hb) (by omega)); have SG_10 := Lib.hid (SG_9.out.within (within_of hb) (by omega)); have SR_10 := Lib.hid (SR_9.out.within (within_of hb) (by omega)); have SX_10 := Lib.hid (SX_9.out.within (within_of hb) (by omega)); have XX_10 := Lib.hid (XX_9.out.within (within_of hb) (by omega)); have SO_10 := Lib.hid (SO_9.out.within (within_of hb) (by omega)); have YY := Lib.hid ho.reads; clear ho hb)
        | (go_at_call 91; refine (eqFw_c q l m _ _ _ _ _ _ _ _ _ _ _ _ _ SX_10.out.reads YY.out hn).mono ?_; rintro e w11 ⟨rfl, hb⟩; have Z11 := Lib.hid (within_of hb).size; have W11 := Lib.hid (within_on W10.out (within_of hb) W10.out.size (.inr (Nat.le_refl _))); have HB_11 := Lib.hid (HB_10.out.within (within_of hb) (by omega)); have BX_11 := Lib.hid (BX_10.out.within (within_of hb) (by omega)); have SG_11 := Lib.hid (SG_10.out.within (within_of hb) (by omega)); have SR_11 := Lib.hid (SR_10.out.within (within_of hb) (by omega)); have SX_11 := Lib.hid (SX_10.out.within (within_of hb) (by omega)); have XX_11 := Lib.hid (XX_10.out.within (within_of hb) (by omega)); have SO_11 := Lib.hid (SO_10.out.within (within_of hb) (by omega)); clear hb))
    clear kk0 kk YY
    obtain ⟨g01, g02, g03, g04⟩ := XX_11.out
    go_wp2_with fail
    clear g01 g02 g03 g04
    refine (markFw_o q l m (some ⟨x0, 0, none⟩) l.length (some ⟨x1, 0, none⟩) m.length 1 w4.heap.size w5.heap.size _ SX_11.out hn (by omega) (by omega)).mono ?_
    rintro e w12 ⟨rfl, hin, hox⟩
    have Z12 := Lib.hid (hin).size
    have W12 := Lib.hid (within_on W11.out (hin) W11.out.size (by have := W11.out.size; have := Z1.out; have := Z2.out; have := Z3.out; have := Z4.out; have := Z5.out; have := Z6.out; have := Z7.out; have := Z8.out; have := Z9.out; have := Z10.out; have := Z11.out; have := Z12.out; have := Y1.out; have := Y6.out; omega))
    have HB_12 := Lib.hid (HB_11.out.within (hin) (by have := Z1.out; have := Z2.out; have := Z3.out; have := Z4.out; have := Z5.out; have := Z6.out; have := Z7.out; have := Z8.out; have := Z9.out; have := Z10.out; have := Z11.out; have := Z12.out; have := Y1.out; have := Y6.out; omega))
    have BX_12 := Lib.hid (BX_11.out.within (hin) (by have := Z1.out; have := Z2.out; have := Z3.out; have := Z4.out; have := Z5.out; have := Z6.out; have := Z7.out; have := Z8.out; have := Z9.out; have := Z10.out; have := Z11.out; have := Z12.out; have := Y1.out; have := Y6.out; omega))
    have SG_12 := Lib.hid (SG_11.out.within (hin) (by have := Z1.out; have := Z2.out; have := Z3.out; have := Z4.out; have := Z5.out; have := Z6.out; have := Z7.out; have := Z8.out; have := Z9.out; have := Z10.out; have := Z11.out; have := Z12.out; have := Y1.out; have := Y6.out; omega))
    have SR_12 := Lib.hid (SR_11.out.within (hin) (by have := Z1.out; have := Z2.out; have := Z3.out; have := Z4.out; have := Z5.out; have := Z6.out; have := Z7.out; have := Z8.out; have := Z9.out; have := Z10.out; have := Z11.out; have := Z12.out; have := Y1.out; have := Y6.out; omega))
    have XX_12 := Lib.hid (XX_11.out.within (hin) (by have := Z1.out; have := Z2.out; have := Z3.out; have := Z4.out; have := Z5.out; have := Z6.out; have := Z7.out; have := Z8.out; have := Z9.out; have := Z10.out; have := Z11.out; have := Z12.out; have := Y1.out; have := Y6.out; omega))
    have SO_12 := Lib.hid (SO_11.out.within (hin) (by have := Z1.out; have := Z2.out; have := Z3.out; have := Z4.out; have := Z5.out; have := Z6.out; have := Z7.out; have := Z8.out; have := Z9.out; have := Z10.out; have := Z11.out; have := Z12.out; have := Y1.out; have := Y6.out; omega))
    clear hox hin
    have hk1 : ¬ (1 : Int) + 2 * (l.length : Int) + 2 * (m.length : Int) < 0 := by omega
    go_wp2_with fail
    refine (eqRows_c (rigV q l m) AG AS cg cs _ _ _ _ _ SO_12.out.reads SR_12.out hz HRR.out).mono ?_
    rintro e w13 ⟨rfl, hb⟩
    have Z13 := Lib.hid (within_of hb).size
    have W13 := Lib.hid (within_on W12.out (within_of hb) W12.out.size (.inr (Nat.le_refl _)))
    have HB_13 := Lib.hid (HB_12.out.within (within_of hb) (by omega))
    have BX_13 := Lib.hid (BX_12.out.within (within_of hb) (by omega))
    have SG_13 := Lib.hid (SG_12.out.within (within_of hb) (by omega))
    have SR_13 := Lib.hid (SR_12.out.within (within_of hb) (by omega))
    have XX_13 := Lib.hid (XX_12.out.within (within_of hb) (by omega))
    have SO_13 := Lib.hid (SO_12.out.within (within_of hb) (by omega))
    clear hb
    go_wp2_with fail
    refine (markRowsX_c (rigV q l m) AG cg w6.heap.size w7.heap.size 1 _ SO_13.out hz HRR.out (by omega) htt).mono ?_
    rintro e w14 ⟨rfl, hin, hog⟩
    have Z14 := Lib.hid (hin).size
    have W14 := Lib.hid (within_on W13.out (hin) W13.out.size (by have := W13.out.size; have := Z1.out; have := Z2.out; have := Z3.out; have := Z4.out; have := Z5.out; have := Z6.out; have := Z7.out; have := Z8.out; have := Z9.out; have := Z10.out; have := Z11.out; have := Z12.out; have := Z13.out; have := Z14.out; have := Y1.out; have := Y6.out; omega))
    have HB_14 := Lib.hid (HB_13.out.within (hin) (by have := Z1.out; have := Z2.out; have := Z3.out; have := Z4.out; have := Z5.out; have := Z6.out; have := Z7.out; have := Z8.out; have := Z9.out; have := Z10.out; have := Z11.out; have := Z12.out; have := Z13.out; have := Z14.out; have := Y1.out; have := Y6.out; omega))
    have BX_14 := Lib.hid (BX_13.out.within (hin) (by have := Z1.out; have := Z2.out; have := Z3.out; have := Z4.out; have := Z5.out; have := Z6.out; have := Z7.out; have := Z8.out; have := Z9.out; have := Z10.out; have := Z11.out; have := Z12.out; have := Z13.out; have := Z14.out; have := Y1.out; have := Y6.out; omega))
    have SG_14 := Lib.hid (SG_13.out.within (hin) (by have := Z1.out; have := Z2.out; have := Z3.out; have := Z4.out; have := Z5.out; have := Z6.out; have := Z7.out; have := Z8.out; have := Z9.out; have := Z10.out; have := Z11.out; have := Z12.out; have := Z13.out; have := Z14.out; have := Y1.out; have := Y6.out; omega))
    have SR_14 := Lib.hid (SR_13.out.within (hin) (by have := Z1.out; have := Z2.out; have := Z3.out; have := Z4.out; have := Z5.out; have := Z6.out; have := Z7.out; have := Z8.out; have := Z9.out; have := Z10.out; have := Z11.out; have := Z12.out; have := Z13.out; have := Z14.out; have := Y1.out; have := Y6.out; omega))
    have XX_14 := Lib.hid (XX_13.out.within (hin) (by have := Z1.out; have := Z2.out; have := Z3.out; have := Z4.out; have := Z5.out; have := Z6.out; have := Z7.out; have := Z8.out; have := Z9.out; have := Z10.out; have := Z11.out; have := Z12.out; have := Z13.out; have := Z14.out; have := Y1.out; have := Y6.out; omega))
    have SM_14 := Lib.hid (hog)
    clear hog hin
    have hk2 : ¬ (1 : Int) + (tot (rigV q l m) (rigV q l m).length : Int) < 0 := by omega
    go_wp2_with fail
    refine (heldRows_c (rigV q l m) AG cg _ _ 1 _ SM_14.out.reads hz HRR.out (by omega) htt).mono ?_
    rintro e w15 ⟨rfl, hb⟩
    have Z15 := Lib.hid (within_of hb).size
    have W15 := Lib.hid (within_on W14.out (within_of hb) W14.out.size (.inr (Nat.le_refl _)))
    have HB_15 := Lib.hid (HB_14.out.within (within_of hb) (by omega))
    have BX_15 := Lib.hid (BX_14.out.within (within_of hb) (by omega))
    have SG_15 := Lib.hid (SG_14.out.within (within_of hb) (by omega))
    have SR_15 := Lib.hid (SR_14.out.within (within_of hb) (by omega))
    have XX_15 := Lib.hid (XX_14.out.within (within_of hb) (by omega))
    have SM_15 := Lib.hid (SM_14.out.within (within_of hb) (by omega))
    clear hb
    obtain ⟨g01, g02, g03, g04⟩ := BX_15.out
    go_wp2_with fail
    clear g01 g02 g03 g04
    refine (toFw_c q l m A cap B cb _ _ _ HB_15.out hn).mono ?_
    rintro e w16 ⟨z0, z1, rfl, ho, hb⟩
    have Z16 := Lib.hid (within_of hb).size
    have W16 := Lib.hid (within_on W15.out (within_of hb) W15.out.size (.inr (Nat.le_refl _)))
    have HB_16 := Lib.hid (HB_15.out.within (within_of hb) (by omega))
    have BX_16 := Lib.hid (BX_15.out.within (within_of hb) (by omega))
    have SG_16 := Lib.hid (SG_15.out.within (within_of hb) (by omega))
    have SR_16 := Lib.hid (SR_15.out.within (within_of hb) (by omega))
    have XX_16 := Lib.hid (XX_15.out.within (within_of hb) (by omega))
    have SM_16 := Lib.hid (SM_15.out.within (within_of hb) (by omega))
    have ST_16 := Lib.hid (ho.reads)
    clear ho hb
    go_wp2_with fail
    refine (implRgm q l m (some ⟨z0, 0, none⟩) l.length (some ⟨z1, 0, none⟩) m.length _ _ _ ST_16.out hn).mono ?_
    rintro e w17 ⟨AH, ch, rfl, ho, hb⟩
    have Z17 := Lib.hid (within_of hb).size
    have W17 := Lib.hid (within_on W16.out (within_of hb) W16.out.size (.inr (Nat.le_refl _)))
    have HB_17 := Lib.hid (HB_16.out.within (within_of hb) (by omega))
    have BX_17 := Lib.hid (BX_16.out.within (within_of hb) (by omega))
    have SG_17 := Lib.hid (SG_16.out.within (within_of hb) (by omega))
    have SR_17 := Lib.hid (SR_16.out.within (within_of hb) (by omega))
    have XX_17 := Lib.hid (XX_16.out.within (within_of hb) (by omega))
    have SM_17 := Lib.hid (SM_16.out.within (within_of hb) (by omega))
    have ST_17 := Lib.hid (ST_16.out.within (within_of hb) (by omega))
    have SH_17 := Lib.hid (ho.reads)
    clear ho hb
    go_wp2_with fail
    refine (eqRows_c (rigV q l m) AH AS ch cs _ _ _ _ _ SH_17.out SR_17.out hz HRR.out).mono ?_
    rintro e w18 ⟨rfl, hb⟩
    have Z18 := Lib.hid (within_of hb).size
    have W18 := Lib.hid (within_on W17.out (within_of hb) W17.out.size (.inr (Nat.le_refl _)))
    have HB_18 := Lib.hid (HB_17.out.within (within_of hb) (by omega))
    have BX_18 := Lib.hid (BX_17.out.within (within_of hb) (by omega))
    have SG_18 := Lib.hid (SG_17.out.within (within_of hb) (by omega))
    have SR_18 := Lib.hid (SR_17.out.within (within_of hb) (by omega))
    have XX_18 := Lib.hid (XX_17.out.within (within_of hb) (by omega))
    have SM_18 := Lib.hid (SM_17.out.within (within_of hb) (by omega))
    have ST_18 := Lib.hid (ST_17.out.within (within_of hb) (by omega))
    have SH_18 := Lib.hid (SH_17.out.within (within_of hb) (by omega))
    clear hb
    go_wp2_with fail
    refine (heldRows_c (rigV q l m) AG cg _ _ 1 _ SM_18.out.reads hz HRR.out (by omega) htt).mono ?_
    rintro e w19 ⟨rfl, hb⟩
    have Z19 := Lib.hid (within_of hb).size
    have W19 := Lib.hid (within_on W18.out (within_of hb) W18.out.size (.inr (Nat.le_refl _)))
    have HB_19 := Lib.hid (HB_18.out.within (within_of hb) (by omega))
    have BX_19 := Lib.hid (BX_18.out.within (within_of hb) (by omega))
    have SG_19 := Lib.hid (SG_18.out.within (within_of hb) (by omega))
    have SR_19 := Lib.hid (SR_18.out.within (within_of hb) (by omega))
    have XX_19 := Lib.hid (XX_18.out.within (within_of hb) (by omega))
    have SM_19 := Lib.hid (SM_18.out.within (within_of hb) (by omega))
    have ST_19 := Lib.hid (ST_18.out.within (within_of hb) (by omega))
    have SH_19 := Lib.hid (SH_18.out.within (within_of hb) (by omega))
    clear hb
    go_wp2_with fail
    go_ret
    exact ⟨rfl, W19.out⟩
  · have W0 := Lib.hid (Below.refl w.heap.size w)
    have hal := new_below w (.cells #[.int .i64 q, .slice A l.length cap, .slice B m.length cb] 92)
    have Z1 := Lib.hid (within_of hal).size
    have W1 := Lib.hid (within_on W0.out (within_of hal) W0.out.size (.inr (Nat.le_refl _)))
    have HB_1 := Lib.hid (HB_0.out.within (within_of hal) (by omega))
    clear hal
    have hsz : (w.alloc (.cells #[.int .i64 q, .slice A l.length cap, .slice B m.length cb] 92)).heap.size = w.heap.size + 1 := by simp
    have Y1 := Lib.hid hsz
    clear hsz
    have BX_1 := Lib.hid (box3_new w q (.slice A l.length cap) (.slice B m.length cb) 92)
    go_enter Try.func7, Try.ntmps7
    go_wp2_with fail
    generalize (w.alloc (.cells #[.int .i64 q, .slice A l.length cap, .slice B m.length cb] 92)) = w1 at *
    refine (szFw_no q A l.length cap B m.length cb 1048576 _ hl.1 hl.2 (by omega) (by omega) (by omega)).mono ?_
    rintro e w2 ⟨rfl, hb⟩
    have Z2 := Lib.hid (within_of hb).size
    have W2 := Lib.hid (within_on W1.out (within_of hb) W1.out.size (.inr (Nat.le_refl _)))
    have HB_2 := Lib.hid (HB_1.out.within (within_of hb) (by omega))
    have BX_2 := Lib.hid (BX_1.out.within (within_of hb) (by omega))
    clear hb
    go_wp2_with fail
    go_ret
    exact ⟨rfl, W2.out⟩
end Go.Proofs.Ytdkpmaahinbhlaa
/- What spec.AreCollinear answers. No condition. -/
namespace Go.Proofs.Ytdkpmaahinbhlaa
open Go.RowKit

theorem on_c (x y : Int) (w : World) :
    Calls Try.prog 221 #[.agg #[.int .i64 x, .int .i64 y]] w fun e w' => e = .returned (.bool (decide (OnG (x, y)))) ∧ Below w.heap.size w w' := by
  have HX := Lib.hid (box_new w x (.int .i64 y) 167)
  have HB := Lib.hid (new_below w (.cells #[.int .i64 x, .int .i64 y] 167))
  by_cases c1 : 0 ≤ x ∧ x ≤ 4
  · by_cases c2 : 0 ≤ y ∧ y ≤ 4
    · have hd : decide (OnG (x, y)) = true := decide_eq_true ⟨c1, c2⟩
      have HD := Lib.hid hd
      clear hd
      go_enter Try.func221, Try.ntmps221
      go_wp2_with fail
      refine (l1In_yes _ _ _ _ c1.1 c1.2).mono ?_
      rintro e w2 ⟨rfl, rfl⟩
      go_wp2_with fail
      refine (l1In_yes _ _ _ _ c2.1 c2.2).mono ?_
      rintro e w2 ⟨rfl, rfl⟩
      go_wp2_with fail
      go_ret
      exact ⟨by rw [HD.out]; rfl, HB.out⟩
    · have hc' : y < 0 ∨ 4 < y := by omega
      have hd : decide (OnG (x, y)) = false := decide_eq_false fun h => c2 h.2
      have HD := Lib.hid hd
      clear hd c2
      go_enter Try.func221, Try.ntmps221
      go_wp2_with fail
      refine (l1In_yes _ _ _ _ c1.1 c1.2).mono ?_
      rintro e w2 ⟨rfl, rfl⟩
      go_wp2_with fail
      refine (l1In_no _ _ _ _ hc').mono ?_
      rintro e w2 ⟨rfl, rfl⟩
      go_wp2_with fail
      go_ret
      exact ⟨by rw [HD.out]; rfl, HB.out⟩
  · have hc' : x < 0 ∨ 4 < x := by omega
    have hd : decide (OnG (x, y)) = false := decide_eq_false fun h => c1 h.1
    have HD := Lib.hid hd
    clear hd c1
    go_enter Try.func221, Try.ntmps221
    go_wp2_with fail
    refine (l1In_no _ _ _ _ hc').mono ?_
    rintro e w2 ⟨rfl, rfl⟩
    go_wp2_with fail
    go_ret
    exact ⟨by rw [HD.out]; rfl, HB.out⟩

/-- Three places in boxes side by side. -/
structure B3I (w wr : World) (x1 x2 y1 y2 z1 z2 : Int) : Prop where
  bel : Below w.heap.size w wr
  ba : Box wr w.heap.size x1 (.int .i64 x2)
  bb : Box wr (w.heap.size + 1) y1 (.int .i64 y2)
  bc : Box wr (w.heap.size + 2) z1 (.int .i64 z2)
theorem B3I.below {w a b : World} {x1 x2 y1 y2 z1 z2 : Int} (h : B3I w a x1 x2 y1 y2 z1 z2) (hb : Below a.heap.size a b) : B3I w b x1 x2 y1 y2 z1 z2 :=
  ⟨below_on h.bel hb h.bel.size, h.ba.kept hb, h.bb.kept hb, h.bc.kept hb⟩
theorem B3I.new (w : World) (x1 x2 y1 y2 z1 z2 : Int) (t : TypeId) : B3I w (((w.alloc (.cells #[.int .i64 x1, .int .i64 x2] t)).alloc (.cells #[.int .i64 y1, .int .i64 y2] t)).alloc (.cells #[.int .i64 z1, .int .i64 z2] t)) x1 x2 y1 y2 z1 z2 := by
  have h1 := new_below w (.cells #[.int .i64 x1, .int .i64 x2] t)
  have h2 := new_below (w.alloc (.cells #[.int .i64 x1, .int .i64 x2] t)) (.cells #[.int .i64 y1, .int .i64 y2] t)
  have h3 := new_below ((w.alloc (.cells #[.int .i64 x1, .int .i64 x2] t)).alloc (.cells #[.int .i64 y1, .int .i64 y2] t)) (.cells #[.int .i64 z1, .int .i64 z2] t)
  have s1 : (w.alloc (.cells #[.int .i64 x1, .int .i64 x2] t)).heap.size = w.heap.size + 1 := by simp
  have s2 : ((w.alloc (.cells #[.int .i64 x1, .int .i64 x2] t)).alloc (.cells #[.int .i64 y1, .int .i64 y2] t)).heap.size = w.heap.size + 2 := by simp
  have hy := box_new (w.alloc (.cells #[.int .i64 x1, .int .i64 x2] t)) y1 (.int .i64 y2) t
  have hz := box_new ((w.alloc (.cells #[.int .i64 x1, .int .i64 x2] t)).alloc (.cells #[.int .i64 y1, .int .i64 y2] t)) z1 (.int .i64 z2) t
  rw [s1] at hy
  rw [s2] at hz
  have hb := below_on h1 h2 h1.size
  exact ⟨below_on hb h3 hb.size, ((box_new _ _ _ _).kept h2).kept h3, hy.kept h3, hz⟩
theorem beqD (a b : Int) : (a == b) = decide (a = b) := by
  rw [Bool.eq_iff_iff]
  simp
theorem mul_le {a b : Int} (ha : -4 ≤ a) (ha' : a ≤ 4) (hb : -4 ≤ b) (hb' : b ≤ 4) : -64 ≤ a * b ∧ a * b ≤ 64 := by
  have h1 := Int.mul_nonneg (show 0 ≤ 4 - a by omega) (show 0 ≤ 4 - b by omega)
  have h2 := Int.mul_nonneg (show 0 ≤ 4 + a by omega) (show 0 ≤ 4 + b by omega)
  have h3 := Int.mul_nonneg (show 0 ≤ 4 - a by omega) (show 0 ≤ 4 + b by omega)
  have h4 := Int.mul_nonneg (show 0 ≤ 4 + a by omega) (show 0 ≤ 4 - b by omega)
  rw [Int.sub_mul, Int.mul_sub, Int.mul_sub] at h1
  rw [Int.add_mul, Int.mul_add, Int.mul_add] at h2
  rw [Int.sub_mul, Int.mul_add, Int.mul_add] at h3
  rw [Int.add_mul, Int.mul_sub, Int.mul_sub] at h4
  constructor <;> omega

set_option maxHeartbeats 2000000 in
set_option maxRecDepth 100000 in
theorem specCol (x1 x2 y1 y2 z1 z2 : Int) (w : World) :
    Calls Try.prog 185 #[.agg #[.int .i64 x1, .int .i64 x2], .agg #[.int .i64 y1, .int .i64 y2], .agg #[.int .i64 z1, .int .i64 z2]] w fun e w' => e = .returned (.bool (colB (x1, x2) (y1, y2) (z1, z2))) ∧ Below w.heap.size w w' := by
  have HB := Lib.hid (B3I.new w x1 x2 y1 y2 z1 z2 167)
  have HX := Lib.hid fun (W : World) => on_c x1 x2 W
  have HY := Lib.hid fun (W : World) => on_c y1 y2 W
  have HZ := Lib.hid fun (W : World) => on_c z1 z2 W
  obtain ⟨r, hr⟩ : ∃ r, colB (x1, x2) (y1, y2) (z1, z2) = r := ⟨_, rfl⟩
  rw [hr]
  unfold colB at hr
  go_enter Try.func185, Try.ntmps185
  go_wp2_with fail
  generalize (((w.alloc (.cells #[.int .i64 x1, .int .i64 x2] 167)).alloc (.cells #[.int .i64 y1, .int .i64 y2] 167)).alloc (.cells #[.int .i64 z1, .int .i64 z2] 167)) = w1 at *
  by_cases h1 : OnG (x1, x2)
  · rw [decide_eq_true h1] at HX hr
    refine (HX.out _).mono ?_
    rintro e w2 ⟨rfl, hb⟩
    have HB2 := Lib.hid (HB.out.below hb)
    obtain ⟨_, q0, q1⟩ := HB2.out.bb
    clear hb HB HX
    by_cases h2 : OnG (y1, y2)
    · rw [decide_eq_true h2] at HY hr
      have HR := Lib.hid hr
      clear hr
      go_wp2_with fail
      refine (HY.out _).mono ?_
      rintro e w3 ⟨rfl, hb⟩
      have HB3 := Lib.hid (HB2.out.below hb)
      clear hb HB2 HY q0 q1
      obtain ⟨_, q0, q1⟩ := HB3.out.bc
      by_cases h3 : OnG (z1, z2)
      · rw [decide_eq_true h3] at HZ
        have hr := HR.out
        rw [decide_eq_true h3] at hr
        simp only [Bool.true_and] at hr
        have HR2 := Lib.hid hr
        clear HR hr
        go_wp2_with fail
        refine (HZ.out _).mono ?_
        rintro e w4 ⟨rfl, hb⟩
        have HB4 := Lib.hid (HB3.out.below hb)
        clear hb HB3 HZ q0 q1
        obtain ⟨_, p0, p1⟩ := HB4.out.ba
        obtain ⟨_, q0, q1⟩ := HB4.out.bb
        obtain ⟨_, r0, r1⟩ := HB4.out.bc
        obtain ⟨⟨a1, a2⟩, a3, a4⟩ := h1
        obtain ⟨⟨b1, b2⟩, b3, b4⟩ := h2
        obtain ⟨⟨c1, c2⟩, c3, c4⟩ := h3
        simp only at a1 a2 a3 a4 b1 b2 b3 b4 c1 c2 c3 c4
        have m1 := mul_le (a := y1 - x1) (b := z2 - x2) (by omega) (by omega) (by omega) (by omega)
        have m2 := mul_le (a := y2 - x2) (b := z1 - x1) (by omega) (by omega) (by omega) (by omega)
        go_wp2_with fail
        go_ret
        refine ⟨?_, HB4.out.bel⟩
        rw [← HR2.out, ← beqD]
        rfl
      · rw [decide_eq_false h3] at HZ
        have hr := HR.out
        rw [decide_eq_false h3] at hr
        simp only [Bool.true_and, Bool.false_and] at hr
        subst hr
        clear HR
        go_wp2_with fail
        refine (HZ.out _).mono ?_
        rintro e w4 ⟨rfl, hb⟩
        have HB4 := Lib.hid (HB3.out.below hb)
        clear hb
        go_wp2_with fail
        go_ret
        exact ⟨rfl, HB4.out.bel⟩
    · rw [decide_eq_false h2] at HY hr
      simp only [Bool.true_and, Bool.false_and] at hr
      subst hr
      go_wp2_with fail
      refine (HY.out _).mono ?_
      rintro e w3 ⟨rfl, hb⟩
      have HB3 := Lib.hid (HB2.out.below hb)
      clear hb
      go_wp2_with fail
      go_ret
      exact ⟨rfl, HB3.out.bel⟩
  · rw [decide_eq_false h1] at HX hr
    simp only [Bool.false_and] at hr
    subst hr
    refine (HX.out _).mono ?_
    rintro e w2 ⟨rfl, hb⟩
    have HB2 := Lib.hid (HB.out.below hb)
    clear hb
    go_wp2_with fail
    go_ret
    exact ⟨rfl, HB2.out.bel⟩
end Go.Proofs.Ytdkpmaahinbhlaa
/- Triples of joints on one line, as the loops find them; a row of three numbers of one's own. No condition. -/
namespace Go.Proofs.Ytdkpmaahinbhlaa
open Go.RowKit

/-- Those with the first joint a and the second b, where the third is one of the t joints behind b. -/
noncomputable def flC (m : List (Int × Int)) (a b : Nat) : Nat → List (List Int)
  | 0 => []
  | t + 1 => flC m a b t ++ (if colB (m.getD a (0, 0)) (m.getD b (0, 0)) (m.getD (b + 1 + t) (0, 0)) = true then [[(a : Int), (b : Int), ((b + 1 + t : Nat) : Int)]] else [])
noncomputable def flB (m : List (Int × Int)) (a : Nat) : Nat → List (List Int)
  | 0 => []
  | j + 1 => flB m a j ++ flC m a (a + 1 + j) (m.length - (a + 1 + j) - 1)
noncomputable def flA (m : List (Int × Int)) : Nat → List (List Int)
  | 0 => []
  | k + 1 => flA m k ++ flB m k (m.length - k - 1)
/-- What FlatSets answers. -/
noncomputable def flaV (p : Int) (l m : List (Int × Int)) : List (List Int) := if isFB p l m = true then flA m m.length else []
theorem flaV_yes {p : Int} {l m : List (Int × Int)} (h : isFB p l m = true) : flaV p l m = flA m m.length := if_pos h
theorem flaV_no {p : Int} {l m : List (Int × Int)} (h : isFB p l m = false) : flaV p l m = [] := if_neg (by rw [h]; simp)
theorem flC_step (m : List (Int × Int)) {a b c : Nat} (h : b + 1 ≤ c) : flC m a b (c + 1 - (b + 1)) = flC m a b (c - (b + 1)) ++ (if colB (m.getD a (0, 0)) (m.getD b (0, 0)) (m.getD c (0, 0)) = true then [[(a : Int), (b : Int), (c : Int)]] else []) := by
  have e : c + 1 - (b + 1) = (c - (b + 1)) + 1 := by omega
  have e2 : b + 1 + (c - (b + 1)) = c := by omega
  rw [e]
  show flC m a b (c - (b + 1)) ++ _ = _
  rw [e2]
theorem flB_step (m : List (Int × Int)) {a b : Nat} (h : a + 1 ≤ b) : flB m a (b + 1 - (a + 1)) = flB m a (b - (a + 1)) ++ flC m a b (m.length - (b + 1)) := by
  have e : b + 1 - (a + 1) = (b - (a + 1)) + 1 := by omega
  have e2 : a + 1 + (b - (a + 1)) = b := by omega
  rw [e]
  show flB m a (b - (a + 1)) ++ flC m a (a + 1 + (b - (a + 1))) (m.length - (a + 1 + (b - (a + 1))) - 1) = _
  rw [e2, Nat.sub_sub]
theorem flA_step (m : List (Int × Int)) (k : Nat) : flA m (k + 1) = flA m k ++ flB m k (m.length - (k + 1)) := by
  show flA m k ++ flB m k (m.length - k - 1) = _
  rw [Nat.sub_sub]
theorem flC_all {m : List (Int × Int)} {a b : Nat} (t : Nat) : (flC m a b t).length ≤ t ∧ ∀ x ∈ flC m a b t, x.length = 3 := by
  induction t with
  | zero => exact ⟨Nat.le_refl _, fun x hx => by cases hx⟩
  | succ t ih =>
    unfold flC
    rw [List.length_append]
    split
    · refine ⟨by simp; omega, fun x hx => ?_⟩
      rcases List.mem_append.1 hx with h | h
      · exact ih.2 x h
      · rw [List.mem_singleton.1 h]; rfl
    · refine ⟨by simp; omega, fun x hx => ?_⟩
      rcases List.mem_append.1 hx with h | h
      · exact ih.2 x h
      · cases h
theorem flB_all {m : List (Int × Int)} (hm : m.length ≤ 6) {a : Nat} (j : Nat) : (flB m a j).length ≤ 6 * j ∧ ∀ x ∈ flB m a j, x.length = 3 := by
  induction j with
  | zero => exact ⟨Nat.le_refl _, fun x hx => by cases hx⟩
  | succ j ih =>
    have hc := flC_all (m := m) (a := a) (b := a + 1 + j) (m.length - (a + 1 + j) - 1)
    unfold flB
    rw [List.length_append]
    refine ⟨by omega, fun x hx => ?_⟩
    rcases List.mem_append.1 hx with h | h
    · exact ih.2 x h
    · exact hc.2 x h
theorem flA_all {m : List (Int × Int)} (hm : m.length ≤ 6) (k : Nat) : (flA m k).length ≤ 36 * k ∧ ∀ x ∈ flA m k, x.length = 3 := by
  induction k with
  | zero => exact ⟨Nat.le_refl _, fun x hx => by cases hx⟩
  | succ k ih =>
    have hc := flB_all hm (a := k) (m.length - k - 1)
    unfold flA
    rw [List.length_append]
    refine ⟨by omega, fun x hx => ?_⟩
    rcases List.mem_append.1 hx with h | h
    · exact ih.2 x h
    · exact hc.2 x h
theorem flaV_len (p : Int) (l m : List (Int × Int)) : (flaV p l m).length ≤ 216 := by
  by_cases h : isFB p l m = true
  · have h6 : m.length ≤ 6 := by have := (isFB_iff.1 h).len; have := (isFB_iff.1 h).six; omega
    rw [flaV_yes h]
    have := (flA_all h6 m.length).1
    omega
  · rw [flaV_no (by simpa using h)]; simp
theorem flaV_row (p : Int) (l m : List (Int × Int)) (k : Nat) : ((flaV p l m).getD k []).length ≤ 3 := by
  by_cases h : isFB p l m = true
  · have h6 : m.length ≤ 6 := by have := (isFB_iff.1 h).len; have := (isFB_iff.1 h).six; omega
    rw [flaV_yes h]
    by_cases hk : k < (flA m m.length).length
    · rw [List.getD_eq_getElem?_getD, List.getElem?_eq_getElem hk, Option.getD_some, (flA_all h6 m.length).2 _ (List.getElem_mem hk)]
      exact Nat.le_refl _
    · rw [List.getD_eq_getElem?_getD, List.getElem?_eq_none (by omega)]; simp
  · rw [flaV_no (by simpa using h)]; simp
/-- A row of three numbers that is laid out. -/
theorem row3_own (W : World) (x y z : Int) : OwnInts (W.alloc (.cells #[.int .i64 x, .int .i64 y, .int .i64 z] 3)) W.heap.size (W.heap.size + 1) (some ⟨W.heap.size, 0, none⟩) 3 [x, y, z] := by
  have hb : (W.alloc (.cells #[.int .i64 x, .int .i64 y, .int .i64 z] 3)).heap[W.heap.size]? = some (.cells #[.int .i64 x, .int .i64 y, .int .i64 z] 3) := by
    show (W.heap.push _)[W.heap.size]? = _
    simp
  exact ⟨by simp, .inr ⟨W.heap.size, rfl, Nat.le_refl _, Nat.lt_succ_self _, rfl, .inr ⟨W.heap.size, 3, #[.int .i64 x, .int .i64 y, .int .i64 z], rfl, Nat.le_refl _, hb, Nat.le_refl _, by unfold maxLen; omega, rfl, rfl⟩⟩⟩
theorem rowsOwn_widen {W : World} {lo hi lo' hi' : Nat} {A : Option Addr} {rs : List (List Int)} (h : RowsOwn W lo hi A rs) (h1 : lo' ≤ lo) (h2 : hi ≤ hi') (h3 : hi' ≤ W.heap.size) : RowsOwn W lo' hi' A rs :=
  ⟨h3, fun hl => by
    obtain ⟨g, r, S, e, q1, q2, hd, hc⟩ := h.2 hl
    exact ⟨g, r, S, e, by omega, by omega, hd, fun k hk => by
      obtain ⟨c1, c2, c3, c4, c5⟩ := hc k hk
      exact ⟨c1, c2, by omega, by omega, c5⟩⟩⟩
end Go.Proofs.Ytdkpmaahinbhlaa
/- What spec.FlatSets answers. No condition. -/
namespace Go.Proofs.Ytdkpmaahinbhlaa
open Go.RowKit

set_option maxHeartbeats 8000000 in
set_option maxRecDepth 100000 in
theorem specFla (p : Int) (l m : List (Int × Int)) (A : Option Addr) (ca : Nat) (B : Option Addr) (cb : Nat) (lo hi : Nat) (w : World) (hl : FwIn w lo hi A l B m) (hn : l.length + m.length ≤ 1048576) :
    Calls Try.prog 105 #[.agg #[.int .i64 p, .slice A l.length ca, .slice B m.length cb]] w fun e w' => ∃ A' c', e = .returned (.slice A' (flaV p l m).length c') ∧ RowsIn w' w.heap.size w'.heap.size A' (flaV p l m) ∧ Below w.heap.size w w' := by
  have hhi := hl.b.1
  have HC := Lib.hid fun (W : World) (h : FwIn W lo hi A l B m) => specIsF p l m A ca B cb lo hi W h hn
  have HCO := Lib.hid fun (X Y Z : Int × Int) (W : World) => specCol X.1 X.2 Y.1 Y.2 Z.1 Z.2 W
  have hf := FbI.new (p := p) (ca := ca) (cb := cb) hl 97
  have hs1 : (w.alloc (.cells #[.int .i64 p, .slice A l.length ca, .slice B m.length cb] 97)).heap.size = w.heap.size + 1 := by simp
  clear hl
  go_enter Try.func105, Try.ntmps105
  go_wp2_with fail
  generalize (w.alloc (.cells #[.int .i64 p, .slice A l.length ca, .slice B m.length cb] 97)) = w1 at *
  have HG0 := Lib.hid (RowsG.made w1)
  have HF := Lib.hid (hf.below (new_below w1 (.cells #[] 29)))
  rw [hs1] at HG0
  clear hf hs1
  generalize (w1.alloc (.cells #[] 29)) = w2 at *
  by_cases hg : isFB p l m = true
  · rw [hg] at HC
    have HS := Lib.hid (flaV_yes hg)
    have h6 : m.length ≤ 6 := by have := (isFB_iff.1 hg).len; have := (isFB_iff.1 hg).six; omega
    clear hg
    go_loopw [3, 4] (fun o i wr => ∃ (k T lo2 hi2 : Nat) (A' : Option Addr) (c' : Nat), k ≤ m.length ∧ i = .int .i64 k ∧ o = .slice A' (flA m k).length c' ∧ RowsG wr (w.heap.size + 1) T lo2 hi2 A' c' (flA m k) ∧ FbI w wr lo hi p A ca l B cb m) (fun _ i _ => m.length - (intOf i).toNat)
    case atStart => exact ⟨0, _, _, _, _, _, Nat.zero_le _, rfl, rfl, HG0.out, HF.out⟩
    case round =>
      clear HF HG0
      obtain ⟨k, T, lo2, hi2, A2, c2, hk, rfl, rfl, hrg, hf⟩ := hrel
      have HF := Lib.hid hf
      have HRG := Lib.hid hrg
      clear hf hrg
      obtain ⟨_, x0, x1, x2⟩ := HF.out.x
      by_cases hkl : k < m.length
      · have hki : (k : Int) < (m.length : Int) := by omega
        obtain ⟨rs, hrs⟩ : ∃ rs, flA m k = rs := ⟨_, rfl⟩
        have HRS := Lib.hid hrs
        have hrl : rs.length ≤ 216 := by rw [← hrs]; have := (flA_all h6 k).1; omega
        have HNA := Lib.hid (show flA m (k + 1) = rs ++ flB m k (m.length - (k + 1)) by rw [flA_step, hrs])
        rw [hrs] at HRG ⊢
        clear hrs
        go_wp2_with fail
        refine (HC.out _ HF.out.f).mono ?_
        rintro e w3 ⟨rfl, hb⟩
        have HF3 := Lib.hid (HF.out.below hb)
        have HRG3 := Lib.hid (HRG.out.below hb)
        clear hb HF HRG x0 x1 x2
        obtain ⟨_, x0, x1, x2⟩ := HF3.out.x
        go_wp2_with fail
        clear x0 x1 x2
        go_loopw [3, 5] (fun o i wr => ∃ (b T lo2 hi2 : Nat) (A' : Option Addr) (c' : Nat), k + 1 ≤ b ∧ b ≤ m.length ∧ i = .int .i64 b ∧ o = .slice A' (rs ++ flB m k (b - (k + 1))).length c' ∧ RowsG wr (w.heap.size + 1) T lo2 hi2 A' c' (rs ++ flB m k (b - (k + 1))) ∧ FbI w wr lo hi p A ca l B cb m) (fun _ i _ => m.length - (intOf i).toNat)
        case atStart => exact ⟨k + 1, T, lo2, hi2, A2, c2, Nat.le_refl _, by omega, by go_num, by rw [Nat.sub_self]; simp [flB], by rw [Nat.sub_self]; simp only [flB, List.append_nil]; exact HRG3.out, HF3.out⟩
        case round =>
          clear HF3 HRG3
          obtain ⟨b, T, lo2, hi2, A2, c2, hb0, hb1, rfl, rfl, hrg, hf⟩ := hrel
          have HF := Lib.hid hf
          have HRG := Lib.hid hrg
          clear hf hrg
          obtain ⟨_, x0, x1, x2⟩ := HF.out.x
          by_cases hbl : b < m.length
          · have hbi : (b : Int) < (m.length : Int) := by omega
            have HNB := Lib.hid (flB_step m hb0)
            have hql : (rs ++ flB m k (b - (k + 1))).length ≤ 300 := by rw [List.length_append]; have := (flB_all h6 (a := k) (b - (k + 1))).1; omega
            obtain ⟨qs, hqs⟩ : ∃ qs, rs ++ flB m k (b - (k + 1)) = qs := ⟨_, rfl⟩
            have HNQ := Lib.hid (show rs ++ flB m k (b + 1 - (k + 1)) = qs ++ flC m k b (m.length - (b + 1)) by rw [HNB.out, ← List.append_assoc, hqs])
            rw [hqs] at HRG hql ⊢
            clear hqs HNB
            go_wp2_with fail
            clear x0 x1 x2
            go_loopw [3, 6] (fun o i wr => ∃ (c T lo2 hi2 : Nat) (A' : Option Addr) (c' : Nat), b + 1 ≤ c ∧ c ≤ m.length ∧ i = .int .i64 c ∧ o = .slice A' (qs ++ flC m k b (c - (b + 1))).length c' ∧ RowsG wr (w.heap.size + 1) T lo2 hi2 A' c' (qs ++ flC m k b (c - (b + 1))) ∧ FbI w wr lo hi p A ca l B cb m) (fun _ i _ => m.length - (intOf i).toNat)
            case atStart => exact ⟨b + 1, T, lo2, hi2, A2, c2, Nat.le_refl _, by omega, by go_num, by rw [Nat.sub_self]; simp [flC], by rw [Nat.sub_self]; simp only [flC, List.append_nil]; exact HRG.out, HF.out⟩
            case round =>
              clear HF HRG
              obtain ⟨c, T, lo2, hi2, A2, c2, hc0, hc1, rfl, rfl, hrg, hf⟩ := hrel
              have HF := Lib.hid hf
              have HRG := Lib.hid hrg
              clear hf hrg
              obtain ⟨_, x0, x1, x2⟩ := HF.out.x
              by_cases hcl : c < m.length
              · have hci : (c : Int) < (m.length : Int) := by omega
                have HNC := Lib.hid (flC_step m (a := k) hc0)
                have hul : (qs ++ flC m k b (c - (b + 1))).length ≤ 400 := by rw [List.length_append]; have := (flC_all (m := m) (a := k) (b := b) (c - (b + 1))).1; omega
                obtain ⟨us, hus⟩ : ∃ us, qs ++ flC m k b (c - (b + 1)) = us := ⟨_, rfl⟩
                have HNU := Lib.hid (show qs ++ flC m k b (c + 1 - (b + 1)) = us ++ (if colB (m.getD k (0, 0)) (m.getD b (0, 0)) (m.getD c (0, 0)) = true then [[(k : Int), (b : Int), (c : Int)]] else []) by rw [HNC.out, ← List.append_assoc, hus])
                rw [hus] at HRG hul ⊢
                clear hus HNC
                obtain ⟨bb, ob, rfl, hbb, hcb⟩ := HF.out.place hkl
                have HPL := Lib.hid (fun (W : World) (h : FbI w W lo hi p A ca l (some ⟨bb, ob, none⟩) cb m) (j : Nat) (hj : j < m.length) => (show W.cell? ⟨bb, ob + j * 2, none⟩ = some (.int .i64 (m.getD j (0, 0)).1) ∧ W.cell? ⟨bb, ob + j * 2 + 1, none⟩ = some (.int .i64 (m.getD j (0, 0)).2) from by
                  obtain ⟨b2, o2, e2, _, hc2⟩ := h.place hj
                  cases e2
                  exact hc2 j hj))
                obtain ⟨X, hX⟩ : ∃ X, m.getD k (0, 0) = X := ⟨_, rfl⟩
                obtain ⟨Y, hY⟩ : ∃ Y, m.getD b (0, 0) = Y := ⟨_, rfl⟩
                obtain ⟨Z, hZ⟩ : ∃ Z, m.getD c (0, 0) = Z := ⟨_, rfl⟩
                have HPX := Lib.hid (fun (W : World) (h : FbI w W lo hi p A ca l (some ⟨bb, ob, none⟩) cb m) => (show W.cell? ⟨w.heap.size, 2, none⟩ = some (.slice (some ⟨bb, ob, none⟩) m.length cb) ∧ W.cell? ⟨bb, ob + k * 2, none⟩ = some (.int .i64 X.1) ∧ W.cell? ⟨bb, ob + k * 2 + 1, none⟩ = some (.int .i64 X.2) ∧ W.cell? ⟨bb, ob + b * 2, none⟩ = some (.int .i64 Y.1) ∧ W.cell? ⟨bb, ob + b * 2 + 1, none⟩ = some (.int .i64 Y.2) ∧ W.cell? ⟨bb, ob + c * 2, none⟩ = some (.int .i64 Z.1) ∧ W.cell? ⟨bb, ob + c * 2 + 1, none⟩ = some (.int .i64 Z.2) from by
                  have h1 := HPL.out W h k hkl
                  have h2 := HPL.out W h b hbl
                  have h3 := HPL.out W h c hcl
                  rw [hX] at h1
                  rw [hY] at h2
                  rw [hZ] at h3
                  exact ⟨h.x.2.2.2, h1.1, h1.2, h2.1, h2.2, h3.1, h3.2⟩))
                rw [hX, hY, hZ] at HNU
                have hcol := HCO.out X Y Z
                have e3 : colB (X.1, X.2) (Y.1, Y.2) (Z.1, Z.2) = colB X Y Z := rfl
                rw [e3] at hcol
                have HCL := Lib.hid hcol
                clear hX hY hZ hcb HPL hcol e3
                have HFD := Lib.hid (HF.out.below (show Below wr.heap.size wr wr.drew from (Below.refl _ _).drew))
                have HRD := Lib.hid (HRG.out.below (show Below wr.heap.size wr wr.drew from (Below.refl _ _).drew))
                obtain ⟨v, hv⟩ : ∃ v, colB X Y Z = v := ⟨_, rfl⟩
                rw [hv] at HCL HNU
                clear hv HRG
                go_wp2_with fail
                go_region_held3 (fun W' => W'.cell? ⟨w.heap.size, 2, none⟩ = some (.slice (some ⟨bb, ob, none⟩) m.length cb) ∧ W'.cell? ⟨bb, ob + k * 2, none⟩ = some (.int .i64 X.1) ∧ W'.cell? ⟨bb, ob + k * 2 + 1, none⟩ = some (.int .i64 X.2) ∧ W'.cell? ⟨bb, ob + b * 2, none⟩ = some (.int .i64 Y.1) ∧ W'.cell? ⟨bb, ob + b * 2 + 1, none⟩ = some (.int .i64 Y.2) ∧ W'.cell? ⟨bb, ob + c * 2, none⟩ = some (.int .i64 Z.1) ∧ W'.cell? ⟨bb, ob + c * 2 + 1, none⟩ = some (.int .i64 Z.2))
                  (first | exact HPX.out _ HFD.out | exact HPX.out _ HF5.out | fail)
                  (first
                    | (go_at_call 185; refine (HCL.out _).mono ?_; rintro e w5 ⟨rfl, hb⟩; have HF5 := Lib.hid (HFD.out.below hb); have HRG5 := Lib.hid (HRD.out.below hb); clear hb)
                    | fail)
                clear x0 x1 x2
                cases v
                · rw [if_neg (by simp), List.append_nil] at HNU
                  go_wp2_with fail
                  go_roundw
                  case rel => exact ⟨c + 1, _, _, _, _, _, by omega, by omega, by go_num, by rw [HNU.out], by rw [HNU.out]; exact HRG5.out, HF5.out⟩
                  case measure => simp [intOf]; omega
                · rw [if_pos rfl] at HNU
                  have hal := new_below w5 (.cells #[.int .i64 (k : Int), .int .i64 (b : Int), .int .i64 (c : Int)] 3)
                  have HF6 := Lib.hid (HF5.out.below hal)
                  have HRG6 := Lib.hid (HRG5.out.below hal)
                  have HO6 := Lib.hid (row3_own w5 (k : Int) (b : Int) (c : Int))
                  have HS6 := Lib.hid (show (w5.alloc (.cells #[.int .i64 (k : Int), .int .i64 (b : Int), .int .i64 (c : Int)] 3)).heap.size = w5.heap.size + 1 by simp)
                  have HTOP := Lib.hid (show T ≤ w5.heap.size from HRG5.out.top)
                  clear hal HF5 HRG5
                  obtain ⟨zs, r, S', z1, z2, z3, z4⟩ := HRG6.out.rows
                  have HZ1 := Lib.hid z1
                  have HZ2 := Lib.hid z2
                  have HZ3 := Lib.hid (show RowsP _ (w.heap.size + 1) T lo2 hi2 zs us from ⟨r, S', z3, z4⟩)
                  have HLO := Lib.hid (show lo2 ≤ _ from Nat.le_trans HRG6.out.out.2.1 HRG6.out.top)
                  have HOB := Lib.hid (HRG6.out.out.1)
                  clear z1 z2 z3 z4
                  go_wp2_with (at_builtin; refine wpList_pushS _ rfl _ _ rfl lo2 hi2 A2 c2 zs (.slice (some ⟨w5.heap.size, 0, none⟩) 3 3) rfl (by rw [HZ1.out]; rfl) HZ2.out _ (by rw [HS6.out]; rfl) (by have := HZ1.out; omega) HLO.out ?_; intro A7 c7 w7 lo7 hi7 ho7 hd7 hw7; have HO7 := Lib.hid ho7; have HD7 := Lib.hid hd7; have HW7 := Lib.hid hw7; clear ho7 hd7 hw7)
                  have HRG7 := Lib.hid (HRG6.out.push (q := (w5.heap.size, w5.heap.size + 1)) HO6.out HTOP.out HZ1.out HZ3.out HO7.out HD7.out HW7.out)
                  go_roundw
                  case rel => exact ⟨c + 1, _, _, _, _, _, by omega, by omega, by go_num, by rw [HNU.out, List.length_append, HZ1.out]; rfl, by rw [HNU.out]; exact HRG7.out, HF6.out.on HW7.out HOB.out hhi⟩
                  case measure => simp [intOf]; omega
              · obtain rfl : c = m.length := by omega
                go_wp2_with fail
                go_roundw
                case rel => exact ⟨b + 1, _, _, _, _, _, by omega, by omega, by go_num, by rw [HNQ.out], by rw [HNQ.out]; exact HRG.out, HF.out⟩
                case measure => simp [intOf]; omega
          · obtain rfl : b = m.length := by omega
            go_wp2_with fail
            go_roundw
            case rel => exact ⟨k + 1, _, _, _, _, _, by omega, by go_num, by rw [HNA.out], by rw [HNA.out]; exact HRG.out, HF.out⟩
            case measure => simp [intOf]; omega
      · obtain rfl : k = m.length := by omega
        go_wp2_with fail
        go_ret
        have ht := HRG.out.top
        refine ⟨A2, c2, ?_, ?_, HF.out.b⟩
        · rw [HS.out]; rfl
        · rw [HS.out]
          exact rowsIn_widen HRG.out.cells.reads (by omega) ht (Nat.le_refl _)
  · have hgf : isFB p l m = false := by simpa using hg
    rw [hgf] at HC
    have HS := Lib.hid (flaV_no hgf)
    clear hg hgf
    go_loopw [3, 4] (fun o i wr => i = .int .i64 0 ∧ (∃ A' c', o = .slice A' 0 c') ∧ FbI w wr lo hi p A ca l B cb m) (fun _ _ _ => 0)
    case atStart => exact ⟨rfl, ⟨_, _, rfl⟩, HF.out⟩
    case round =>
      clear HF HG0
      obtain ⟨rfl, ⟨A2, c2, rfl⟩, hf⟩ := hrel
      have HF := Lib.hid hf
      clear hf
      obtain ⟨_, x0, x1, x2⟩ := HF.out.x
      by_cases h0 : 0 < m.length
      · go_wp2_with fail
        refine (HC.out _ HF.out.f).mono ?_
        rintro e w3 ⟨rfl, hb⟩
        have HF3 := Lib.hid (HF.out.below hb)
        clear hb
        go_wp2_with fail
        go_ret
        exact ⟨A2, c2, by rw [HS.out]; rfl, by rw [HS.out]; exact ⟨Nat.le_refl _, fun h => absurd h (by simp)⟩, HF3.out.b⟩
      · go_wp2_with fail
        go_ret
        exact ⟨A2, c2, by rw [HS.out]; rfl, by rw [HS.out]; exact ⟨Nat.le_refl _, fun h => absurd h (by simp)⟩, HF.out.b⟩
end Go.Proofs.Ytdkpmaahinbhlaa
/- What the program's AreCollinear answers: the same as the specification's. No condition. -/
namespace Go.Proofs.Ytdkpmaahinbhlaa
open Go.RowKit

theorem along_c (a b c d : Int) (w : World) (a0 : -4 ≤ a) (a1 : a ≤ 4) (b0 : -4 ≤ b) (b1 : b ≤ 4) (c0 : -4 ≤ c) (c1 : c ≤ 4) (d0 : -4 ≤ d) (d1 : d ≤ 4) :
    Calls Try.prog 223 #[.agg #[.int .i64 a, .int .i64 b], .agg #[.int .i64 c, .int .i64 d]] w fun e w' => e = .returned (.bool (decide (a * d = b * c))) ∧ Below w.heap.size w w' := by
  have m1 := mul_le (a := a) (b := d) a0 a1 d0 d1
  have m2 := mul_le (a := b) (b := c) b0 b1 c0 c1
  have hB := below_on (new_below w (.cells #[.int .i64 a, .int .i64 b] 202)) (new_below _ (.cells #[.int .i64 c, .int .i64 d] 202)) (by simp)
  go_enter Try.func223, Try.ntmps223
  go_wp2_with fail
  go_ret
  exact ⟨by rw [← beqD]; rfl, hB⟩

set_option maxHeartbeats 4000000 in
set_option maxRecDepth 100000 in
theorem implCol (x1 x2 y1 y2 z1 z2 : Int) (w : World) :
    Calls Try.prog 186 #[.agg #[.int .i64 x1, .int .i64 x2], .agg #[.int .i64 y1, .int .i64 y2], .agg #[.int .i64 z1, .int .i64 z2]] w fun e w' => e = .returned (.bool (colB (x1, x2) (y1, y2) (z1, z2))) ∧ Below w.heap.size w w' := by
  have HB := Lib.hid (B3I.new w x1 x2 y1 y2 z1 z2 167)
  have HX := Lib.hid fun (W : World) => onGrid_c (x1, x2) W
  have HY := Lib.hid fun (W : World) => onGrid_c (y1, y2) W
  have HZ := Lib.hid fun (W : World) => onGrid_c (z1, z2) W
  obtain ⟨r, hr⟩ : ∃ r, colB (x1, x2) (y1, y2) (z1, z2) = r := ⟨_, rfl⟩
  rw [hr]
  unfold colB at hr
  by_cases h1 : OnG (x1, x2)
  · rw [decide_eq_true h1] at HX hr
    by_cases h2 : OnG (y1, y2)
    · rw [decide_eq_true h2] at HY hr
      by_cases h3 : OnG (z1, z2)
      · rw [decide_eq_true h3] at HZ hr
        simp only [Bool.true_and] at hr
        have HM1 := Lib.hid fun (W : World) => minus_c (y1, y2) (x1, x2) W h2 h1
        have HM2 := Lib.hid fun (W : World) => minus_c (z1, z2) (x1, x2) W h3 h1
        obtain ⟨⟨a1, a2⟩, a3, a4⟩ := h1
        obtain ⟨⟨b1, b2⟩, b3, b4⟩ := h2
        obtain ⟨⟨c1, c2⟩, c3, c4⟩ := h3
        simp only at a1 a2 a3 a4 b1 b2 b3 b4 c1 c2 c3 c4
        have HAL := Lib.hid fun (W : World) => along_c (y1 - x1) (y2 - x2) (z1 - x1) (z2 - x2) W (by omega) (by omega) (by omega) (by omega) (by omega) (by omega) (by omega) (by omega)
        rw [hr] at HAL
        clear hr
        go_enter Try.func186, Try.ntmps186
        go_wp2_with fail
        generalize (((w.alloc (.cells #[.int .i64 x1, .int .i64 x2] 167)).alloc (.cells #[.int .i64 y1, .int .i64 y2] 167)).alloc (.cells #[.int .i64 z1, .int .i64 z2] 167)) = w1 at *
        have hdr : Below w1.heap.size w1 w1.drew := (Below.refl _ _).drew
        have HBD := Lib.hid (HB.out.below hdr)
        clear hdr HB
        refine wp_region_held_drew (S := (fun W' : World => W'.cell? ⟨w.heap.size, 0, none⟩ = some (.int .i64 x1) ∧ W'.cell? ⟨w.heap.size, 1, none⟩ = some (.int .i64 x2) ∧ W'.cell? ⟨w.heap.size + 1, 0, none⟩ = some (.int .i64 y1) ∧ W'.cell? ⟨w.heap.size + 1, 1, none⟩ = some (.int .i64 y2) ∧ W'.cell? ⟨w.heap.size + 2, 0, none⟩ = some (.int .i64 z1) ∧ W'.cell? ⟨w.heap.size + 2, 1, none⟩ = some (.int .i64 z2))) (by kernel_rfl) ?_ (fun hHeld => ?_)
        · exact ⟨HBD.out.ba.2.1, HBD.out.ba.2.2, HBD.out.bb.2.1, HBD.out.bb.2.2, HBD.out.bc.2.1, HBD.out.bc.2.2⟩
        generalize w1.drew = WD at *
        refine wpAnyH_take (i := 0) (v := .agg #[.int .i64 x1, .int .i64 x2]) rfl (by kernel_rfl) (by kernel_rfl) (by kernel_rfl) (fun _ _ _ h => h) (Or.inl ⟨by kernel_rfl, fun w hSw => by (try dsimp only at hSw); go_simp; all_goals first | omega | exact IntWalk.i64_in _ (by omega)⟩) (by assumption) ?_
        try simp only [Act.put, List.getElem_toArray, List.getElem_cons_zero, List.setIfInBounds_toArray, List.set_cons_zero, List.set_cons_succ]
        refine wpAnyH_ready (rs := [1]) (by kernel_rfl) (by simp) (AllReadyH.cons rfl (fun K hK => ?_) AllReadyH.nil)
        go_simp
        go_at_call 216
        refine (HX.out _).mono ?_
        rintro e wc1 ⟨rfl, hb⟩
        have HB1 := Lib.hid (HBD.out.below hb)
        clear hb
        refine hK.out _ _ ⟨HB1.out.ba.2.1, HB1.out.ba.2.2, HB1.out.bb.2.1, HB1.out.bb.2.2, HB1.out.bc.2.1, HB1.out.bc.2.2⟩ (fun hHeld => ?_)
        clear hK K
        try simp only [Act.put, List.getElem_toArray, List.getElem_cons_zero, List.getElem_cons_succ, List.setIfInBounds_toArray, List.set_cons_zero, List.set_cons_succ]
        refine wpAnyH_take (i := 2) (v := .bool true) rfl (by kernel_rfl) (by kernel_rfl) (by kernel_rfl) (fun _ _ _ h => h) (Or.inl ⟨by kernel_rfl, fun w hSw => by (try dsimp only at hSw); go_simp; all_goals first | omega | exact IntWalk.i64_in _ (by omega)⟩) (by assumption) ?_
        try simp only [Act.put, List.getElem_toArray, List.getElem_cons_zero, List.getElem_cons_succ, List.setIfInBounds_toArray, List.set_cons_zero, List.set_cons_succ]
        refine wpAnyH_take (i := 3) (v := .agg #[.int .i64 y1, .int .i64 y2]) rfl (by kernel_rfl) (by kernel_rfl) (by kernel_rfl) (fun _ _ _ h => h) (Or.inl ⟨by kernel_rfl, fun w hSw => by (try dsimp only at hSw); go_simp; all_goals first | omega | exact IntWalk.i64_in _ (by omega)⟩) (by assumption) ?_
        try simp only [Act.put, List.getElem_toArray, List.getElem_cons_zero, List.getElem_cons_succ, List.setIfInBounds_toArray, List.set_cons_zero, List.set_cons_succ]
        refine wpAnyH_ready (rs := [4]) (by kernel_rfl) (by simp) (AllReadyH.cons rfl (fun K hK => ?_) AllReadyH.nil)
        go_simp
        go_at_call 216
        refine (HY.out _).mono ?_
        rintro e wc2 ⟨rfl, hb⟩
        have HB2 := Lib.hid (HB1.out.below hb)
        clear hb
        refine hK.out _ _ ⟨HB2.out.ba.2.1, HB2.out.ba.2.2, HB2.out.bb.2.1, HB2.out.bb.2.2, HB2.out.bc.2.1, HB2.out.bc.2.2⟩ (fun hHeld => ?_)
        clear hK K
        try simp only [Act.put, List.getElem_toArray, List.getElem_cons_zero, List.getElem_cons_succ, List.setIfInBounds_toArray, List.set_cons_zero, List.set_cons_succ]
        refine wpAnyH_take (i := 5) (v := .bool true) rfl (by kernel_rfl) (by kernel_rfl) (by kernel_rfl) (fun _ _ _ h => h) (Or.inl ⟨by kernel_rfl, fun w hSw => by (try dsimp only at hSw); go_simp; all_goals first | omega | exact IntWalk.i64_in _ (by omega)⟩) (by assumption) ?_
        try simp only [Act.put, List.getElem_toArray, List.getElem_cons_zero, List.getElem_cons_succ, List.setIfInBounds_toArray, List.set_cons_zero, List.set_cons_succ]
        refine wpAnyH_take (i := 6) (v := .bool true) rfl (by kernel_rfl) (by kernel_rfl) (by kernel_rfl) (fun _ _ _ h => h) (Or.inl ⟨by kernel_rfl, fun w hSw => by (try dsimp only at hSw); go_simp; all_goals first | omega | exact IntWalk.i64_in _ (by omega)⟩) (by assumption) ?_
        try simp only [Act.put, List.getElem_toArray, List.getElem_cons_zero, List.getElem_cons_succ, List.setIfInBounds_toArray, List.set_cons_zero, List.set_cons_succ]
        refine wpAnyH_take (i := 7) (v := .agg #[.int .i64 z1, .int .i64 z2]) rfl (by kernel_rfl) (by kernel_rfl) (by kernel_rfl) (fun _ _ _ h => h) (Or.inl ⟨by kernel_rfl, fun w hSw => by (try dsimp only at hSw); go_simp; all_goals first | omega | exact IntWalk.i64_in _ (by omega)⟩) (by assumption) ?_
        try simp only [Act.put, List.getElem_toArray, List.getElem_cons_zero, List.getElem_cons_succ, List.setIfInBounds_toArray, List.set_cons_zero, List.set_cons_succ]
        refine wpAnyH_ready (rs := [8]) (by kernel_rfl) (by simp) (AllReadyH.cons rfl (fun K hK => ?_) AllReadyH.nil)
        go_simp
        go_at_call 216
        refine (HZ.out _).mono ?_
        rintro e wc3 ⟨rfl, hb⟩
        have HB3 := Lib.hid (HB2.out.below hb)
        clear hb
        refine hK.out _ _ ⟨HB3.out.ba.2.1, HB3.out.ba.2.2, HB3.out.bb.2.1, HB3.out.bb.2.2, HB3.out.bc.2.1, HB3.out.bc.2.2⟩ (fun hHeld => ?_)
        clear hK K
        try simp only [Act.put, List.getElem_toArray, List.getElem_cons_zero, List.getElem_cons_succ, List.setIfInBounds_toArray, List.set_cons_zero, List.set_cons_succ]
        refine wpAnyH_take (i := 9) (v := .bool true) rfl (by kernel_rfl) (by kernel_rfl) (by kernel_rfl) (fun _ _ _ h => h) (Or.inl ⟨by kernel_rfl, fun w hSw => by (try dsimp only at hSw); go_simp; all_goals first | omega | exact IntWalk.i64_in _ (by omega)⟩) (by assumption) ?_
        try simp only [Act.put, List.getElem_toArray, List.getElem_cons_zero, List.getElem_cons_succ, List.setIfInBounds_toArray, List.set_cons_zero, List.set_cons_succ]
        refine wpAnyH_take (i := 10) (v := .bool true) rfl (by kernel_rfl) (by kernel_rfl) (by kernel_rfl) (fun _ _ _ h => h) (Or.inl ⟨by kernel_rfl, fun w hSw => by (try dsimp only at hSw); go_simp; all_goals first | omega | exact IntWalk.i64_in _ (by omega)⟩) (by assumption) ?_
        try simp only [Act.put, List.getElem_toArray, List.getElem_cons_zero, List.getElem_cons_succ, List.setIfInBounds_toArray, List.set_cons_zero, List.set_cons_succ]
        refine wpAnyH_take (i := 11) (v := .agg #[.int .i64 y1, .int .i64 y2]) rfl (by kernel_rfl) (by kernel_rfl) (by kernel_rfl) (fun _ _ _ h => h) (Or.inl ⟨by kernel_rfl, fun w hSw => by (try dsimp only at hSw); go_simp; all_goals first | omega | exact IntWalk.i64_in _ (by omega)⟩) (by assumption) ?_
        try simp only [Act.put, List.getElem_toArray, List.getElem_cons_zero, List.getElem_cons_succ, List.setIfInBounds_toArray, List.set_cons_zero, List.set_cons_succ]
        refine wpAnyH_take (i := 12) (v := .agg #[.int .i64 x1, .int .i64 x2]) rfl (by kernel_rfl) (by kernel_rfl) (by kernel_rfl) (fun _ _ _ h => h) (Or.inl ⟨by kernel_rfl, fun w hSw => by (try dsimp only at hSw); go_simp; all_goals first | omega | exact IntWalk.i64_in _ (by omega)⟩) (by assumption) ?_
        try simp only [Act.put, List.getElem_toArray, List.getElem_cons_zero, List.getElem_cons_succ, List.setIfInBounds_toArray, List.set_cons_zero, List.set_cons_succ]
        refine wpAnyH_take (i := 14) (v := .agg #[.int .i64 z1, .int .i64 z2]) rfl (by kernel_rfl) (by kernel_rfl) (by kernel_rfl) (fun _ _ _ h => h) (Or.inl ⟨by kernel_rfl, fun w hSw => by (try dsimp only at hSw); go_simp; all_goals first | omega | exact IntWalk.i64_in _ (by omega)⟩) (by assumption) ?_
        try simp only [Act.put, List.getElem_toArray, List.getElem_cons_zero, List.getElem_cons_succ, List.setIfInBounds_toArray, List.set_cons_zero, List.set_cons_succ]
        refine wpAnyH_take (i := 15) (v := .agg #[.int .i64 x1, .int .i64 x2]) rfl (by kernel_rfl) (by kernel_rfl) (by kernel_rfl) (fun _ _ _ h => h) (Or.inl ⟨by kernel_rfl, fun w hSw => by (try dsimp only at hSw); go_simp; all_goals first | omega | exact IntWalk.i64_in _ (by omega)⟩) (by assumption) ?_
        try simp only [Act.put, List.getElem_toArray, List.getElem_cons_zero, List.getElem_cons_succ, List.setIfInBounds_toArray, List.set_cons_zero, List.set_cons_succ]
        refine wpAnyH_ready (rs := [13]) (by kernel_rfl) (by simp) (AllReadyH.cons rfl (fun K hK => ?_) AllReadyH.nil)
        go_simp
        go_at_call 222
        refine (HM1.out _).mono ?_
        rintro e wc4 ⟨rfl, hb⟩
        have HB4 := Lib.hid (HB3.out.below hb)
        clear hb
        refine hK.out _ _ ⟨HB4.out.ba.2.1, HB4.out.ba.2.2, HB4.out.bb.2.1, HB4.out.bb.2.2, HB4.out.bc.2.1, HB4.out.bc.2.2⟩ (fun hHeld => ?_)
        clear hK K
        try simp only [Act.put, List.getElem_toArray, List.getElem_cons_zero, List.getElem_cons_succ, List.setIfInBounds_toArray, List.set_cons_zero, List.set_cons_succ]
        refine wpAnyH_ready (rs := [16]) (by kernel_rfl) (by simp) (AllReadyH.cons rfl (fun K hK => ?_) AllReadyH.nil)
        go_simp
        go_at_call 222
        refine (HM2.out _).mono ?_
        rintro e wc5 ⟨rfl, hb⟩
        have HB5 := Lib.hid (HB4.out.below hb)
        clear hb
        refine hK.out _ _ ⟨HB5.out.ba.2.1, HB5.out.ba.2.2, HB5.out.bb.2.1, HB5.out.bb.2.2, HB5.out.bc.2.1, HB5.out.bc.2.2⟩ (fun hHeld => ?_)
        clear hK K
        try simp only [Act.put, List.getElem_toArray, List.getElem_cons_zero, List.getElem_cons_succ, List.setIfInBounds_toArray, List.set_cons_zero, List.set_cons_succ]
        refine wpAnyH_ready (rs := [17]) (by kernel_rfl) (by simp) (AllReadyH.cons rfl (fun K hK => ?_) AllReadyH.nil)
        go_simp
        go_at_call 223
        refine (HAL.out _).mono ?_
        rintro e wc6 ⟨rfl, hb⟩
        have HB6 := Lib.hid (HB5.out.below hb)
        clear hb
        refine hK.out _ _ ⟨HB6.out.ba.2.1, HB6.out.ba.2.2, HB6.out.bb.2.1, HB6.out.bb.2.2, HB6.out.bc.2.1, HB6.out.bc.2.2⟩ (fun hHeld => ?_)
        clear hK K
        try simp only [Act.put, List.getElem_toArray, List.getElem_cons_zero, List.getElem_cons_succ, List.setIfInBounds_toArray, List.set_cons_zero, List.set_cons_succ]
        refine wpAnyH_take (i := 18) (v := .bool r) rfl (by kernel_rfl) (by kernel_rfl) (by kernel_rfl) (fun _ _ _ h => h) (Or.inl ⟨by kernel_rfl, fun w hSw => by (try dsimp only at hSw); go_simp; all_goals first | omega | exact IntWalk.i64_in _ (by omega)⟩) (by assumption) ?_
        try simp only [Act.put, List.getElem_toArray, List.getElem_cons_zero, List.getElem_cons_succ, List.setIfInBounds_toArray, List.set_cons_zero, List.set_cons_succ]
        refine wpAnyH_ready (rs := [19]) (by kernel_rfl) (by simp) (AllReadyH.cons rfl (fun K hK => ?_) AllReadyH.nil)
        go_simp
        refine hK.out _ _ ⟨HB6.out.ba.2.1, HB6.out.ba.2.2, HB6.out.bb.2.1, HB6.out.bb.2.2, HB6.out.bc.2.1, HB6.out.bc.2.2⟩ (fun hHeld => ?_)
        clear hK K
        try simp only [Act.put, List.getElem_toArray, List.getElem_cons_zero, List.getElem_cons_succ, List.setIfInBounds_toArray, List.set_cons_zero, List.set_cons_succ]
        refine wpAnyH_done (by kernel_rfl) ?_ _
        clear hHeld
        go_wp2_with fail
        go_ret
        exact ⟨rfl, HB6.out.bel⟩
      · rw [decide_eq_false h3] at HZ hr
        simp only [Bool.true_and, Bool.false_and] at hr
        subst hr
        go_enter Try.func186, Try.ntmps186
        go_wp2_with fail
        generalize (((w.alloc (.cells #[.int .i64 x1, .int .i64 x2] 167)).alloc (.cells #[.int .i64 y1, .int .i64 y2] 167)).alloc (.cells #[.int .i64 z1, .int .i64 z2] 167)) = w1 at *
        have hdr : Below w1.heap.size w1 w1.drew := (Below.refl _ _).drew
        have HBD := Lib.hid (HB.out.below hdr)
        clear hdr HB
        refine wp_region_held_drew (S := (fun W' : World => W'.cell? ⟨w.heap.size, 0, none⟩ = some (.int .i64 x1) ∧ W'.cell? ⟨w.heap.size, 1, none⟩ = some (.int .i64 x2) ∧ W'.cell? ⟨w.heap.size + 1, 0, none⟩ = some (.int .i64 y1) ∧ W'.cell? ⟨w.heap.size + 1, 1, none⟩ = some (.int .i64 y2) ∧ W'.cell? ⟨w.heap.size + 2, 0, none⟩ = some (.int .i64 z1) ∧ W'.cell? ⟨w.heap.size + 2, 1, none⟩ = some (.int .i64 z2))) (by kernel_rfl) ?_ (fun hHeld => ?_)
        · exact ⟨HBD.out.ba.2.1, HBD.out.ba.2.2, HBD.out.bb.2.1, HBD.out.bb.2.2, HBD.out.bc.2.1, HBD.out.bc.2.2⟩
        generalize w1.drew = WD at *
        refine wpAnyH_take (i := 0) (v := .agg #[.int .i64 x1, .int .i64 x2]) rfl (by kernel_rfl) (by kernel_rfl) (by kernel_rfl) (fun _ _ _ h => h) (Or.inl ⟨by kernel_rfl, fun w hSw => by (try dsimp only at hSw); go_simp; all_goals first | omega | exact IntWalk.i64_in _ (by omega)⟩) (by assumption) ?_
        try simp only [Act.put, List.getElem_toArray, List.getElem_cons_zero, List.setIfInBounds_toArray, List.set_cons_zero, List.set_cons_succ]
        refine wpAnyH_ready (rs := [1]) (by kernel_rfl) (by simp) (AllReadyH.cons rfl (fun K hK => ?_) AllReadyH.nil)
        go_simp
        go_at_call 216
        refine (HX.out _).mono ?_
        rintro e wc1 ⟨rfl, hb⟩
        have HB1 := Lib.hid (HBD.out.below hb)
        clear hb
        refine hK.out _ _ ⟨HB1.out.ba.2.1, HB1.out.ba.2.2, HB1.out.bb.2.1, HB1.out.bb.2.2, HB1.out.bc.2.1, HB1.out.bc.2.2⟩ (fun hHeld => ?_)
        clear hK K
        try simp only [Act.put, List.getElem_toArray, List.getElem_cons_zero, List.getElem_cons_succ, List.setIfInBounds_toArray, List.set_cons_zero, List.set_cons_succ]
        refine wpAnyH_take (i := 2) (v := .bool true) rfl (by kernel_rfl) (by kernel_rfl) (by kernel_rfl) (fun _ _ _ h => h) (Or.inl ⟨by kernel_rfl, fun w hSw => by (try dsimp only at hSw); go_simp; all_goals first | omega | exact IntWalk.i64_in _ (by omega)⟩) (by assumption) ?_
        try simp only [Act.put, List.getElem_toArray, List.getElem_cons_zero, List.getElem_cons_succ, List.setIfInBounds_toArray, List.set_cons_zero, List.set_cons_succ]
        refine wpAnyH_take (i := 3) (v := .agg #[.int .i64 y1, .int .i64 y2]) rfl (by kernel_rfl) (by kernel_rfl) (by kernel_rfl) (fun _ _ _ h => h) (Or.inl ⟨by kernel_rfl, fun w hSw => by (try dsimp only at hSw); go_simp; all_goals first | omega | exact IntWalk.i64_in _ (by omega)⟩) (by assumption) ?_
        try simp only [Act.put, List.getElem_toArray, List.getElem_cons_zero, List.getElem_cons_succ, List.setIfInBounds_toArray, List.set_cons_zero, List.set_cons_succ]
        refine wpAnyH_ready (rs := [4]) (by kernel_rfl) (by simp) (AllReadyH.cons rfl (fun K hK => ?_) AllReadyH.nil)
        go_simp
        go_at_call 216
        refine (HY.out _).mono ?_
        rintro e wc2 ⟨rfl, hb⟩
        have HB2 := Lib.hid (HB1.out.below hb)
        clear hb
        refine hK.out _ _ ⟨HB2.out.ba.2.1, HB2.out.ba.2.2, HB2.out.bb.2.1, HB2.out.bb.2.2, HB2.out.bc.2.1, HB2.out.bc.2.2⟩ (fun hHeld => ?_)
        clear hK K
        try simp only [Act.put, List.getElem_toArray, List.getElem_cons_zero, List.getElem_cons_succ, List.setIfInBounds_toArray, List.set_cons_zero, List.set_cons_succ]
        refine wpAnyH_take (i := 5) (v := .bool true) rfl (by kernel_rfl) (by kernel_rfl) (by kernel_rfl) (fun _ _ _ h => h) (Or.inl ⟨by kernel_rfl, fun w hSw => by (try dsimp only at hSw); go_simp; all_goals first | omega | exact IntWalk.i64_in _ (by omega)⟩) (by assumption) ?_
        try simp only [Act.put, List.getElem_toArray, List.getElem_cons_zero, List.getElem_cons_succ, List.setIfInBounds_toArray, List.set_cons_zero, List.set_cons_succ]
        refine wpAnyH_take (i := 6) (v := .bool true) rfl (by kernel_rfl) (by kernel_rfl) (by kernel_rfl) (fun _ _ _ h => h) (Or.inl ⟨by kernel_rfl, fun w hSw => by (try dsimp only at hSw); go_simp; all_goals first | omega | exact IntWalk.i64_in _ (by omega)⟩) (by assumption) ?_
        try simp only [Act.put, List.getElem_toArray, List.getElem_cons_zero, List.getElem_cons_succ, List.setIfInBounds_toArray, List.set_cons_zero, List.set_cons_succ]
        refine wpAnyH_take (i := 7) (v := .agg #[.int .i64 z1, .int .i64 z2]) rfl (by kernel_rfl) (by kernel_rfl) (by kernel_rfl) (fun _ _ _ h => h) (Or.inl ⟨by kernel_rfl, fun w hSw => by (try dsimp only at hSw); go_simp; all_goals first | omega | exact IntWalk.i64_in _ (by omega)⟩) (by assumption) ?_
        try simp only [Act.put, List.getElem_toArray, List.getElem_cons_zero, List.getElem_cons_succ, List.setIfInBounds_toArray, List.set_cons_zero, List.set_cons_succ]
        refine wpAnyH_ready (rs := [8]) (by kernel_rfl) (by simp) (AllReadyH.cons rfl (fun K hK => ?_) AllReadyH.nil)
        go_simp
        go_at_call 216
        refine (HZ.out _).mono ?_
        rintro e wc3 ⟨rfl, hb⟩
        have HB3 := Lib.hid (HB2.out.below hb)
        clear hb
        refine hK.out _ _ ⟨HB3.out.ba.2.1, HB3.out.ba.2.2, HB3.out.bb.2.1, HB3.out.bb.2.2, HB3.out.bc.2.1, HB3.out.bc.2.2⟩ (fun hHeld => ?_)
        clear hK K
        try simp only [Act.put, List.getElem_toArray, List.getElem_cons_zero, List.getElem_cons_succ, List.setIfInBounds_toArray, List.set_cons_zero, List.set_cons_succ]
        refine wpAnyH_take (i := 9) (v := .bool false) rfl (by kernel_rfl) (by kernel_rfl) (by kernel_rfl) (fun _ _ _ h => h) (Or.inl ⟨by kernel_rfl, fun w hSw => by (try dsimp only at hSw); go_simp; all_goals first | omega | exact IntWalk.i64_in _ (by omega)⟩) (by assumption) ?_
        try simp only [Act.put, List.getElem_toArray, List.getElem_cons_zero, List.getElem_cons_succ, List.setIfInBounds_toArray, List.set_cons_zero, List.set_cons_succ]
        refine wpAnyH_take (i := 10) (v := .bool false) rfl (by kernel_rfl) (by kernel_rfl) (by kernel_rfl) (fun _ _ _ h => h) (Or.inl ⟨by kernel_rfl, fun w hSw => by (try dsimp only at hSw); go_simp; all_goals first | omega | exact IntWalk.i64_in _ (by omega)⟩) (by assumption) ?_
        try simp only [Act.put, List.getElem_toArray, List.getElem_cons_zero, List.getElem_cons_succ, List.setIfInBounds_toArray, List.set_cons_zero, List.set_cons_succ]
        refine wpAnyH_take (i := 11) (v := undef) rfl (by kernel_rfl) (by kernel_rfl) (by kernel_rfl) (fun _ _ _ h => h) (Or.inr ⟨by kernel_rfl, rfl⟩) (by assumption) ?_
        try simp only [Act.put, List.getElem_toArray, List.getElem_cons_zero, List.getElem_cons_succ, List.setIfInBounds_toArray, List.set_cons_zero, List.set_cons_succ]
        refine wpAnyH_take (i := 12) (v := undef) rfl (by kernel_rfl) (by kernel_rfl) (by kernel_rfl) (fun _ _ _ h => h) (Or.inr ⟨by kernel_rfl, rfl⟩) (by assumption) ?_
        try simp only [Act.put, List.getElem_toArray, List.getElem_cons_zero, List.getElem_cons_succ, List.setIfInBounds_toArray, List.set_cons_zero, List.set_cons_succ]
        refine wpAnyH_take (i := 13) (v := undef) rfl (by kernel_rfl) (by kernel_rfl) (by kernel_rfl) (fun _ _ _ h => h) (Or.inr ⟨by kernel_rfl, rfl⟩) (by assumption) ?_
        try simp only [Act.put, List.getElem_toArray, List.getElem_cons_zero, List.getElem_cons_succ, List.setIfInBounds_toArray, List.set_cons_zero, List.set_cons_succ]
        refine wpAnyH_take (i := 14) (v := undef) rfl (by kernel_rfl) (by kernel_rfl) (by kernel_rfl) (fun _ _ _ h => h) (Or.inr ⟨by kernel_rfl, rfl⟩) (by assumption) ?_
        try simp only [Act.put, List.getElem_toArray, List.getElem_cons_zero, List.getElem_cons_succ, List.setIfInBounds_toArray, List.set_cons_zero, List.set_cons_succ]
        refine wpAnyH_take (i := 15) (v := undef) rfl (by kernel_rfl) (by kernel_rfl) (by kernel_rfl) (fun _ _ _ h => h) (Or.inr ⟨by kernel_rfl, rfl⟩) (by assumption) ?_
        try simp only [Act.put, List.getElem_toArray, List.getElem_cons_zero, List.getElem_cons_succ, List.setIfInBounds_toArray, List.set_cons_zero, List.set_cons_succ]
        refine wpAnyH_take (i := 16) (v := undef) rfl (by kernel_rfl) (by kernel_rfl) (by kernel_rfl) (fun _ _ _ h => h) (Or.inr ⟨by kernel_rfl, rfl⟩) (by assumption) ?_
        try simp only [Act.put, List.getElem_toArray, List.getElem_cons_zero, List.getElem_cons_succ, List.setIfInBounds_toArray, List.set_cons_zero, List.set_cons_succ]
        refine wpAnyH_take (i := 17) (v := undef) rfl (by kernel_rfl) (by kernel_rfl) (by kernel_rfl) (fun _ _ _ h => h) (Or.inr ⟨by kernel_rfl, rfl⟩) (by assumption) ?_
        try simp only [Act.put, List.getElem_toArray, List.getElem_cons_zero, List.getElem_cons_succ, List.setIfInBounds_toArray, List.set_cons_zero, List.set_cons_succ]
        refine wpAnyH_take (i := 18) (v := .bool false) rfl (by kernel_rfl) (by kernel_rfl) (by kernel_rfl) (fun _ _ _ h => h) (Or.inl ⟨by kernel_rfl, fun w hSw => by (try dsimp only at hSw); go_simp; all_goals first | omega | exact IntWalk.i64_in _ (by omega)⟩) (by assumption) ?_
        try simp only [Act.put, List.getElem_toArray, List.getElem_cons_zero, List.getElem_cons_succ, List.setIfInBounds_toArray, List.set_cons_zero, List.set_cons_succ]
        refine wpAnyH_ready (rs := [19]) (by kernel_rfl) (by simp) (AllReadyH.cons rfl (fun K hK => ?_) AllReadyH.nil)
        go_simp
        refine hK.out _ _ ⟨HB3.out.ba.2.1, HB3.out.ba.2.2, HB3.out.bb.2.1, HB3.out.bb.2.2, HB3.out.bc.2.1, HB3.out.bc.2.2⟩ (fun hHeld => ?_)
        clear hK K
        try simp only [Act.put, List.getElem_toArray, List.getElem_cons_zero, List.getElem_cons_succ, List.setIfInBounds_toArray, List.set_cons_zero, List.set_cons_succ]
        refine wpAnyH_done (by kernel_rfl) ?_ _
        clear hHeld
        go_wp2_with fail
        go_ret
        exact ⟨rfl, HB3.out.bel⟩
    · rw [decide_eq_false h2] at HY hr
      simp only [Bool.true_and, Bool.false_and] at hr
      subst hr
      go_enter Try.func186, Try.ntmps186
      go_wp2_with fail
      generalize (((w.alloc (.cells #[.int .i64 x1, .int .i64 x2] 167)).alloc (.cells #[.int .i64 y1, .int .i64 y2] 167)).alloc (.cells #[.int .i64 z1, .int .i64 z2] 167)) = w1 at *
      have hdr : Below w1.heap.size w1 w1.drew := (Below.refl _ _).drew
      have HBD := Lib.hid (HB.out.below hdr)
      clear hdr HB
      refine wp_region_held_drew (S := (fun W' : World => W'.cell? ⟨w.heap.size, 0, none⟩ = some (.int .i64 x1) ∧ W'.cell? ⟨w.heap.size, 1, none⟩ = some (.int .i64 x2) ∧ W'.cell? ⟨w.heap.size + 1, 0, none⟩ = some (.int .i64 y1) ∧ W'.cell? ⟨w.heap.size + 1, 1, none⟩ = some (.int .i64 y2) ∧ W'.cell? ⟨w.heap.size + 2, 0, none⟩ = some (.int .i64 z1) ∧ W'.cell? ⟨w.heap.size + 2, 1, none⟩ = some (.int .i64 z2))) (by kernel_rfl) ?_ (fun hHeld => ?_)
      · exact ⟨HBD.out.ba.2.1, HBD.out.ba.2.2, HBD.out.bb.2.1, HBD.out.bb.2.2, HBD.out.bc.2.1, HBD.out.bc.2.2⟩
      generalize w1.drew = WD at *
      refine wpAnyH_take (i := 0) (v := .agg #[.int .i64 x1, .int .i64 x2]) rfl (by kernel_rfl) (by kernel_rfl) (by kernel_rfl) (fun _ _ _ h => h) (Or.inl ⟨by kernel_rfl, fun w hSw => by (try dsimp only at hSw); go_simp; all_goals first | omega | exact IntWalk.i64_in _ (by omega)⟩) (by assumption) ?_
      try simp only [Act.put, List.getElem_toArray, List.getElem_cons_zero, List.setIfInBounds_toArray, List.set_cons_zero, List.set_cons_succ]
      refine wpAnyH_ready (rs := [1]) (by kernel_rfl) (by simp) (AllReadyH.cons rfl (fun K hK => ?_) AllReadyH.nil)
      go_simp
      go_at_call 216
      refine (HX.out _).mono ?_
      rintro e wc1 ⟨rfl, hb⟩
      have HB1 := Lib.hid (HBD.out.below hb)
      clear hb
      refine hK.out _ _ ⟨HB1.out.ba.2.1, HB1.out.ba.2.2, HB1.out.bb.2.1, HB1.out.bb.2.2, HB1.out.bc.2.1, HB1.out.bc.2.2⟩ (fun hHeld => ?_)
      clear hK K
      try simp only [Act.put, List.getElem_toArray, List.getElem_cons_zero, List.getElem_cons_succ, List.setIfInBounds_toArray, List.set_cons_zero, List.set_cons_succ]
      refine wpAnyH_take (i := 2) (v := .bool true) rfl (by kernel_rfl) (by kernel_rfl) (by kernel_rfl) (fun _ _ _ h => h) (Or.inl ⟨by kernel_rfl, fun w hSw => by (try dsimp only at hSw); go_simp; all_goals first | omega | exact IntWalk.i64_in _ (by omega)⟩) (by assumption) ?_
      try simp only [Act.put, List.getElem_toArray, List.getElem_cons_zero, List.getElem_cons_succ, List.setIfInBounds_toArray, List.set_cons_zero, List.set_cons_succ]
      refine wpAnyH_take (i := 3) (v := .agg #[.int .i64 y1, .int .i64 y2]) rfl (by kernel_rfl) (by kernel_rfl) (by kernel_rfl) (fun _ _ _ h => h) (Or.inl ⟨by kernel_rfl, fun w hSw => by (try dsimp only at hSw); go_simp; all_goals first | omega | exact IntWalk.i64_in _ (by omega)⟩) (by assumption) ?_
      try simp only [Act.put, List.getElem_toArray, List.getElem_cons_zero, List.getElem_cons_succ, List.setIfInBounds_toArray, List.set_cons_zero, List.set_cons_succ]
      refine wpAnyH_ready (rs := [4]) (by kernel_rfl) (by simp) (AllReadyH.cons rfl (fun K hK => ?_) AllReadyH.nil)
      go_simp
      go_at_call 216
      refine (HY.out _).mono ?_
      rintro e wc2 ⟨rfl, hb⟩
      have HB2 := Lib.hid (HB1.out.below hb)
      clear hb
      refine hK.out _ _ ⟨HB2.out.ba.2.1, HB2.out.ba.2.2, HB2.out.bb.2.1, HB2.out.bb.2.2, HB2.out.bc.2.1, HB2.out.bc.2.2⟩ (fun hHeld => ?_)
      clear hK K
      try simp only [Act.put, List.getElem_toArray, List.getElem_cons_zero, List.getElem_cons_succ, List.setIfInBounds_toArray, List.set_cons_zero, List.set_cons_succ]
      refine wpAnyH_take (i := 5) (v := .bool false) rfl (by kernel_rfl) (by kernel_rfl) (by kernel_rfl) (fun _ _ _ h => h) (Or.inl ⟨by kernel_rfl, fun w hSw => by (try dsimp only at hSw); go_simp; all_goals first | omega | exact IntWalk.i64_in _ (by omega)⟩) (by assumption) ?_
      try simp only [Act.put, List.getElem_toArray, List.getElem_cons_zero, List.getElem_cons_succ, List.setIfInBounds_toArray, List.set_cons_zero, List.set_cons_succ]
      refine wpAnyH_take (i := 6) (v := .bool false) rfl (by kernel_rfl) (by kernel_rfl) (by kernel_rfl) (fun _ _ _ h => h) (Or.inl ⟨by kernel_rfl, fun w hSw => by (try dsimp only at hSw); go_simp; all_goals first | omega | exact IntWalk.i64_in _ (by omega)⟩) (by assumption) ?_
      try simp only [Act.put, List.getElem_toArray, List.getElem_cons_zero, List.getElem_cons_succ, List.setIfInBounds_toArray, List.set_cons_zero, List.set_cons_succ]
      refine wpAnyH_take (i := 7) (v := undef) rfl (by kernel_rfl) (by kernel_rfl) (by kernel_rfl) (fun _ _ _ h => h) (Or.inr ⟨by kernel_rfl, rfl⟩) (by assumption) ?_
      try simp only [Act.put, List.getElem_toArray, List.getElem_cons_zero, List.getElem_cons_succ, List.setIfInBounds_toArray, List.set_cons_zero, List.set_cons_succ]
      refine wpAnyH_take (i := 8) (v := undef) rfl (by kernel_rfl) (by kernel_rfl) (by kernel_rfl) (fun _ _ _ h => h) (Or.inr ⟨by kernel_rfl, rfl⟩) (by assumption) ?_
      try simp only [Act.put, List.getElem_toArray, List.getElem_cons_zero, List.getElem_cons_succ, List.setIfInBounds_toArray, List.set_cons_zero, List.set_cons_succ]
      refine wpAnyH_take (i := 9) (v := .bool false) rfl (by kernel_rfl) (by kernel_rfl) (by kernel_rfl) (fun _ _ _ h => h) (Or.inl ⟨by kernel_rfl, fun w hSw => by (try dsimp only at hSw); go_simp; all_goals first | omega | exact IntWalk.i64_in _ (by omega)⟩) (by assumption) ?_
      try simp only [Act.put, List.getElem_toArray, List.getElem_cons_zero, List.getElem_cons_succ, List.setIfInBounds_toArray, List.set_cons_zero, List.set_cons_succ]
      refine wpAnyH_take (i := 10) (v := .bool false) rfl (by kernel_rfl) (by kernel_rfl) (by kernel_rfl) (fun _ _ _ h => h) (Or.inl ⟨by kernel_rfl, fun w hSw => by (try dsimp only at hSw); go_simp; all_goals first | omega | exact IntWalk.i64_in _ (by omega)⟩) (by assumption) ?_
      try simp only [Act.put, List.getElem_toArray, List.getElem_cons_zero, List.getElem_cons_succ, List.setIfInBounds_toArray, List.set_cons_zero, List.set_cons_succ]
      refine wpAnyH_take (i := 11) (v := undef) rfl (by kernel_rfl) (by kernel_rfl) (by kernel_rfl) (fun _ _ _ h => h) (Or.inr ⟨by kernel_rfl, rfl⟩) (by assumption) ?_
      try simp only [Act.put, List.getElem_toArray, List.getElem_cons_zero, List.getElem_cons_succ, List.setIfInBounds_toArray, List.set_cons_zero, List.set_cons_succ]
      refine wpAnyH_take (i := 12) (v := undef) rfl (by kernel_rfl) (by kernel_rfl) (by kernel_rfl) (fun _ _ _ h => h) (Or.inr ⟨by kernel_rfl, rfl⟩) (by assumption) ?_
      try simp only [Act.put, List.getElem_toArray, List.getElem_cons_zero, List.getElem_cons_succ, List.setIfInBounds_toArray, List.set_cons_zero, List.set_cons_succ]
      refine wpAnyH_take (i := 13) (v := undef) rfl (by kernel_rfl) (by kernel_rfl) (by kernel_rfl) (fun _ _ _ h => h) (Or.inr ⟨by kernel_rfl, rfl⟩) (by assumption) ?_
      try simp only [Act.put, List.getElem_toArray, List.getElem_cons_zero, List.getElem_cons_succ, List.setIfInBounds_toArray, List.set_cons_zero, List.set_cons_succ]
      refine wpAnyH_take (i := 14) (v := undef) rfl (by kernel_rfl) (by kernel_rfl) (by kernel_rfl) (fun _ _ _ h => h) (Or.inr ⟨by kernel_rfl, rfl⟩) (by assumption) ?_
      try simp only [Act.put, List.getElem_toArray, List.getElem_cons_zero, List.getElem_cons_succ, List.setIfInBounds_toArray, List.set_cons_zero, List.set_cons_succ]
      refine wpAnyH_take (i := 15) (v := undef) rfl (by kernel_rfl) (by kernel_rfl) (by kernel_rfl) (fun _ _ _ h => h) (Or.inr ⟨by kernel_rfl, rfl⟩) (by assumption) ?_
      try simp only [Act.put, List.getElem_toArray, List.getElem_cons_zero, List.getElem_cons_succ, List.setIfInBounds_toArray, List.set_cons_zero, List.set_cons_succ]
      refine wpAnyH_take (i := 16) (v := undef) rfl (by kernel_rfl) (by kernel_rfl) (by kernel_rfl) (fun _ _ _ h => h) (Or.inr ⟨by kernel_rfl, rfl⟩) (by assumption) ?_
      try simp only [Act.put, List.getElem_toArray, List.getElem_cons_zero, List.getElem_cons_succ, List.setIfInBounds_toArray, List.set_cons_zero, List.set_cons_succ]
      refine wpAnyH_take (i := 17) (v := undef) rfl (by kernel_rfl) (by kernel_rfl) (by kernel_rfl) (fun _ _ _ h => h) (Or.inr ⟨by kernel_rfl, rfl⟩) (by assumption) ?_
      try simp only [Act.put, List.getElem_toArray, List.getElem_cons_zero, List.getElem_cons_succ, List.setIfInBounds_toArray, List.set_cons_zero, List.set_cons_succ]
      refine wpAnyH_take (i := 18) (v := .bool false) rfl (by kernel_rfl) (by kernel_rfl) (by kernel_rfl) (fun _ _ _ h => h) (Or.inl ⟨by kernel_rfl, fun w hSw => by (try dsimp only at hSw); go_simp; all_goals first | omega | exact IntWalk.i64_in _ (by omega)⟩) (by assumption) ?_
      try simp only [Act.put, List.getElem_toArray, List.getElem_cons_zero, List.getElem_cons_succ, List.setIfInBounds_toArray, List.set_cons_zero, List.set_cons_succ]
      refine wpAnyH_ready (rs := [19]) (by kernel_rfl) (by simp) (AllReadyH.cons rfl (fun K hK => ?_) AllReadyH.nil)
      go_simp
      refine hK.out _ _ ⟨HB2.out.ba.2.1, HB2.out.ba.2.2, HB2.out.bb.2.1, HB2.out.bb.2.2, HB2.out.bc.2.1, HB2.out.bc.2.2⟩ (fun hHeld => ?_)
      clear hK K
      try simp only [Act.put, List.getElem_toArray, List.getElem_cons_zero, List.getElem_cons_succ, List.setIfInBounds_toArray, List.set_cons_zero, List.set_cons_succ]
      refine wpAnyH_done (by kernel_rfl) ?_ _
      clear hHeld
      go_wp2_with fail
      go_ret
      exact ⟨rfl, HB2.out.bel⟩
  · rw [decide_eq_false h1] at HX hr
    simp only [Bool.false_and] at hr
    subst hr
    go_enter Try.func186, Try.ntmps186
    go_wp2_with fail
    generalize (((w.alloc (.cells #[.int .i64 x1, .int .i64 x2] 167)).alloc (.cells #[.int .i64 y1, .int .i64 y2] 167)).alloc (.cells #[.int .i64 z1, .int .i64 z2] 167)) = w1 at *
    have hdr : Below w1.heap.size w1 w1.drew := (Below.refl _ _).drew
    have HBD := Lib.hid (HB.out.below hdr)
    clear hdr HB
    refine wp_region_held_drew (S := (fun W' : World => W'.cell? ⟨w.heap.size, 0, none⟩ = some (.int .i64 x1) ∧ W'.cell? ⟨w.heap.size, 1, none⟩ = some (.int .i64 x2) ∧ W'.cell? ⟨w.heap.size + 1, 0, none⟩ = some (.int .i64 y1) ∧ W'.cell? ⟨w.heap.size + 1, 1, none⟩ = some (.int .i64 y2) ∧ W'.cell? ⟨w.heap.size + 2, 0, none⟩ = some (.int .i64 z1) ∧ W'.cell? ⟨w.heap.size + 2, 1, none⟩ = some (.int .i64 z2))) (by kernel_rfl) ?_ (fun hHeld => ?_)
    · exact ⟨HBD.out.ba.2.1, HBD.out.ba.2.2, HBD.out.bb.2.1, HBD.out.bb.2.2, HBD.out.bc.2.1, HBD.out.bc.2.2⟩
    generalize w1.drew = WD at *
    refine wpAnyH_take (i := 0) (v := .agg #[.int .i64 x1, .int .i64 x2]) rfl (by kernel_rfl) (by kernel_rfl) (by kernel_rfl) (fun _ _ _ h => h) (Or.inl ⟨by kernel_rfl, fun w hSw => by (try dsimp only at hSw); go_simp; all_goals first | omega | exact IntWalk.i64_in _ (by omega)⟩) (by assumption) ?_
    try simp only [Act.put, List.getElem_toArray, List.getElem_cons_zero, List.setIfInBounds_toArray, List.set_cons_zero, List.set_cons_succ]
    refine wpAnyH_ready (rs := [1]) (by kernel_rfl) (by simp) (AllReadyH.cons rfl (fun K hK => ?_) AllReadyH.nil)
    go_simp
    go_at_call 216
    refine (HX.out _).mono ?_
    rintro e wc1 ⟨rfl, hb⟩
    have HB1 := Lib.hid (HBD.out.below hb)
    clear hb
    refine hK.out _ _ ⟨HB1.out.ba.2.1, HB1.out.ba.2.2, HB1.out.bb.2.1, HB1.out.bb.2.2, HB1.out.bc.2.1, HB1.out.bc.2.2⟩ (fun hHeld => ?_)
    clear hK K
    try simp only [Act.put, List.getElem_toArray, List.getElem_cons_zero, List.getElem_cons_succ, List.setIfInBounds_toArray, List.set_cons_zero, List.set_cons_succ]
    refine wpAnyH_take (i := 2) (v := .bool false) rfl (by kernel_rfl) (by kernel_rfl) (by kernel_rfl) (fun _ _ _ h => h) (Or.inl ⟨by kernel_rfl, fun w hSw => by (try dsimp only at hSw); go_simp; all_goals first | omega | exact IntWalk.i64_in _ (by omega)⟩) (by assumption) ?_
    try simp only [Act.put, List.getElem_toArray, List.getElem_cons_zero, List.getElem_cons_succ, List.setIfInBounds_toArray, List.set_cons_zero, List.set_cons_succ]
    refine wpAnyH_take (i := 3) (v := undef) rfl (by kernel_rfl) (by kernel_rfl) (by kernel_rfl) (fun _ _ _ h => h) (Or.inr ⟨by kernel_rfl, rfl⟩) (by assumption) ?_
    try simp only [Act.put, List.getElem_toArray, List.getElem_cons_zero, List.getElem_cons_succ, List.setIfInBounds_toArray, List.set_cons_zero, List.set_cons_succ]
    refine wpAnyH_take (i := 4) (v := undef) rfl (by kernel_rfl) (by kernel_rfl) (by kernel_rfl) (fun _ _ _ h => h) (Or.inr ⟨by kernel_rfl, rfl⟩) (by assumption) ?_
    try simp only [Act.put, List.getElem_toArray, List.getElem_cons_zero, List.getElem_cons_succ, List.setIfInBounds_toArray, List.set_cons_zero, List.set_cons_succ]
    refine wpAnyH_take (i := 5) (v := .bool false) rfl (by kernel_rfl) (by kernel_rfl) (by kernel_rfl) (fun _ _ _ h => h) (Or.inl ⟨by kernel_rfl, fun w hSw => by (try dsimp only at hSw); go_simp; all_goals first | omega | exact IntWalk.i64_in _ (by omega)⟩) (by assumption) ?_
    try simp only [Act.put, List.getElem_toArray, List.getElem_cons_zero, List.getElem_cons_succ, List.setIfInBounds_toArray, List.set_cons_zero, List.set_cons_succ]
    refine wpAnyH_take (i := 6) (v := .bool false) rfl (by kernel_rfl) (by kernel_rfl) (by kernel_rfl) (fun _ _ _ h => h) (Or.inl ⟨by kernel_rfl, fun w hSw => by (try dsimp only at hSw); go_simp; all_goals first | omega | exact IntWalk.i64_in _ (by omega)⟩) (by assumption) ?_
    try simp only [Act.put, List.getElem_toArray, List.getElem_cons_zero, List.getElem_cons_succ, List.setIfInBounds_toArray, List.set_cons_zero, List.set_cons_succ]
    refine wpAnyH_take (i := 7) (v := undef) rfl (by kernel_rfl) (by kernel_rfl) (by kernel_rfl) (fun _ _ _ h => h) (Or.inr ⟨by kernel_rfl, rfl⟩) (by assumption) ?_
    try simp only [Act.put, List.getElem_toArray, List.getElem_cons_zero, List.getElem_cons_succ, List.setIfInBounds_toArray, List.set_cons_zero, List.set_cons_succ]
    refine wpAnyH_take (i := 8) (v := undef) rfl (by kernel_rfl) (by kernel_rfl) (by kernel_rfl) (fun _ _ _ h => h) (Or.inr ⟨by kernel_rfl, rfl⟩) (by assumption) ?_
    try simp only [Act.put, List.getElem_toArray, List.getElem_cons_zero, List.getElem_cons_succ, List.setIfInBounds_toArray, List.set_cons_zero, List.set_cons_succ]
    refine wpAnyH_take (i := 9) (v := .bool false) rfl (by kernel_rfl) (by kernel_rfl) (by kernel_rfl) (fun _ _ _ h => h) (Or.inl ⟨by kernel_rfl, fun w hSw => by (try dsimp only at hSw); go_simp; all_goals first | omega | exact IntWalk.i64_in _ (by omega)⟩) (by assumption) ?_
    try simp only [Act.put, List.getElem_toArray, List.getElem_cons_zero, List.getElem_cons_succ, List.setIfInBounds_toArray, List.set_cons_zero, List.set_cons_succ]
    refine wpAnyH_take (i := 10) (v := .bool false) rfl (by kernel_rfl) (by kernel_rfl) (by kernel_rfl) (fun _ _ _ h => h) (Or.inl ⟨by kernel_rfl, fun w hSw => by (try dsimp only at hSw); go_simp; all_goals first | omega | exact IntWalk.i64_in _ (by omega)⟩) (by assumption) ?_
    try simp only [Act.put, List.getElem_toArray, List.getElem_cons_zero, List.getElem_cons_succ, List.setIfInBounds_toArray, List.set_cons_zero, List.set_cons_succ]
    refine wpAnyH_take (i := 11) (v := undef) rfl (by kernel_rfl) (by kernel_rfl) (by kernel_rfl) (fun _ _ _ h => h) (Or.inr ⟨by kernel_rfl, rfl⟩) (by assumption) ?_
    try simp only [Act.put, List.getElem_toArray, List.getElem_cons_zero, List.getElem_cons_succ, List.setIfInBounds_toArray, List.set_cons_zero, List.set_cons_succ]
    refine wpAnyH_take (i := 12) (v := undef) rfl (by kernel_rfl) (by kernel_rfl) (by kernel_rfl) (fun _ _ _ h => h) (Or.inr ⟨by kernel_rfl, rfl⟩) (by assumption) ?_
    try simp only [Act.put, List.getElem_toArray, List.getElem_cons_zero, List.getElem_cons_succ, List.setIfInBounds_toArray, List.set_cons_zero, List.set_cons_succ]
    refine wpAnyH_take (i := 13) (v := undef) rfl (by kernel_rfl) (by kernel_rfl) (by kernel_rfl) (fun _ _ _ h => h) (Or.inr ⟨by kernel_rfl, rfl⟩) (by assumption) ?_
    try simp only [Act.put, List.getElem_toArray, List.getElem_cons_zero, List.getElem_cons_succ, List.setIfInBounds_toArray, List.set_cons_zero, List.set_cons_succ]
    refine wpAnyH_take (i := 14) (v := undef) rfl (by kernel_rfl) (by kernel_rfl) (by kernel_rfl) (fun _ _ _ h => h) (Or.inr ⟨by kernel_rfl, rfl⟩) (by assumption) ?_
    try simp only [Act.put, List.getElem_toArray, List.getElem_cons_zero, List.getElem_cons_succ, List.setIfInBounds_toArray, List.set_cons_zero, List.set_cons_succ]
    refine wpAnyH_take (i := 15) (v := undef) rfl (by kernel_rfl) (by kernel_rfl) (by kernel_rfl) (fun _ _ _ h => h) (Or.inr ⟨by kernel_rfl, rfl⟩) (by assumption) ?_
    try simp only [Act.put, List.getElem_toArray, List.getElem_cons_zero, List.getElem_cons_succ, List.setIfInBounds_toArray, List.set_cons_zero, List.set_cons_succ]
    refine wpAnyH_take (i := 16) (v := undef) rfl (by kernel_rfl) (by kernel_rfl) (by kernel_rfl) (fun _ _ _ h => h) (Or.inr ⟨by kernel_rfl, rfl⟩) (by assumption) ?_
    try simp only [Act.put, List.getElem_toArray, List.getElem_cons_zero, List.getElem_cons_succ, List.setIfInBounds_toArray, List.set_cons_zero, List.set_cons_succ]
    refine wpAnyH_take (i := 17) (v := undef) rfl (by kernel_rfl) (by kernel_rfl) (by kernel_rfl) (fun _ _ _ h => h) (Or.inr ⟨by kernel_rfl, rfl⟩) (by assumption) ?_
    try simp only [Act.put, List.getElem_toArray, List.getElem_cons_zero, List.getElem_cons_succ, List.setIfInBounds_toArray, List.set_cons_zero, List.set_cons_succ]
    refine wpAnyH_take (i := 18) (v := .bool false) rfl (by kernel_rfl) (by kernel_rfl) (by kernel_rfl) (fun _ _ _ h => h) (Or.inl ⟨by kernel_rfl, fun w hSw => by (try dsimp only at hSw); go_simp; all_goals first | omega | exact IntWalk.i64_in _ (by omega)⟩) (by assumption) ?_
    try simp only [Act.put, List.getElem_toArray, List.getElem_cons_zero, List.getElem_cons_succ, List.setIfInBounds_toArray, List.set_cons_zero, List.set_cons_succ]
    refine wpAnyH_ready (rs := [19]) (by kernel_rfl) (by simp) (AllReadyH.cons rfl (fun K hK => ?_) AllReadyH.nil)
    go_simp
    refine hK.out _ _ ⟨HB1.out.ba.2.1, HB1.out.ba.2.2, HB1.out.bb.2.1, HB1.out.bb.2.2, HB1.out.bc.2.1, HB1.out.bc.2.2⟩ (fun hHeld => ?_)
    clear hK K
    try simp only [Act.put, List.getElem_toArray, List.getElem_cons_zero, List.getElem_cons_succ, List.setIfInBounds_toArray, List.set_cons_zero, List.set_cons_succ]
    refine wpAnyH_done (by kernel_rfl) ?_ _
    clear hHeld
    go_wp2_with fail
    go_ret
    exact ⟨rfl, HB1.out.bel⟩
end Go.Proofs.Ytdkpmaahinbhlaa
/- What impl.FlatSets answers. No condition. -/
namespace Go.Proofs.Ytdkpmaahinbhlaa
open Go.RowKit

set_option maxHeartbeats 8000000 in
set_option maxRecDepth 100000 in
theorem implFla (p : Int) (l m : List (Int × Int)) (A : Option Addr) (ca : Nat) (B : Option Addr) (cb : Nat) (lo hi : Nat) (w : World) (hl : FwIn w lo hi A l B m) (hn : l.length + m.length ≤ 1048576) :
    Calls Try.prog 106 #[.agg #[.int .i64 p, .slice A l.length ca, .slice B m.length cb]] w fun e w' => ∃ A' c', e = .returned (.slice A' (flaV p l m).length c') ∧ RowsX w' w.heap.size w'.heap.size A' (flaV p l m) ∧ Below w.heap.size w w' := by
  have hhi := hl.b.1
  have HC := Lib.hid fun (W : World) (h : FwIn W lo hi A l B m) => implIsF p l m A ca B cb lo hi W h hn
  have HCO := Lib.hid fun (X Y Z : Int × Int) (W : World) => implCol X.1 X.2 Y.1 Y.2 Z.1 Z.2 W
  have hf := FbI.new (p := p) (ca := ca) (cb := cb) hl 97
  have HF0 := Lib.hid hf
  clear hl hf
  go_enter Try.func106, Try.ntmps106
  go_wp2_with fail
  generalize (w.alloc (.cells #[.int .i64 p, .slice A l.length ca, .slice B m.length cb] 97)) = w1 at *
  by_cases hg : isFB p l m = true
  · rw [hg] at HC
    have HS := Lib.hid (flaV_yes hg)
    have h6 : m.length ≤ 6 := by have := (isFB_iff.1 hg).len; have := (isFB_iff.1 hg).six; omega
    clear hg
    refine (HC.out _ HF0.out.f).mono ?_
    rintro e w2 ⟨rfl, hb⟩
    have HF := Lib.hid (HF0.out.below hb)
    have HG0 := Lib.hid (RowsG.nil w2)
    have HB2 := Lib.hid (show w.heap.size + 1 ≤ w2.heap.size from HF.out.x.1)
    clear hb HF0 HC
    obtain ⟨_, x0, x1, x2⟩ := HF.out.x
    go_wp2_with fail
    clear x0 x1 x2
    go_loopw [3, 13] (fun o i wr => ∃ (k T lo2 hi2 : Nat) (A' : Option Addr) (c' : Nat), k ≤ m.length ∧ i = .int .i64 k ∧ o = .slice A' (flA m k).length c' ∧ RowsG wr w2.heap.size T lo2 hi2 A' c' (flA m k) ∧ FbI w wr lo hi p A ca l B cb m) (fun _ i _ => m.length - (intOf i).toNat)
    case atStart => exact ⟨0, _, _, _, _, _, Nat.zero_le _, rfl, rfl, HG0.out, HF.out⟩
    case round =>
      clear HF HG0
      obtain ⟨k, T, lo2, hi2, A2, c2, hk, rfl, rfl, hrg, hf⟩ := hrel
      have HF := Lib.hid hf
      have HRG := Lib.hid hrg
      clear hf hrg
      obtain ⟨_, x0, x1, x2⟩ := HF.out.x
      by_cases hkl : k < m.length
      · have hki : (k : Int) < (m.length : Int) := by omega
        obtain ⟨rs, hrs⟩ : ∃ rs, flA m k = rs := ⟨_, rfl⟩
        have HRS := Lib.hid hrs
        have hrl : rs.length ≤ 216 := by rw [← hrs]; have := (flA_all h6 k).1; omega
        have HNA := Lib.hid (show flA m (k + 1) = rs ++ flB m k (m.length - (k + 1)) by rw [flA_step, hrs])
        rw [hrs] at HRG ⊢
        clear hrs
        have HF3 := Lib.hid HF.out
        have HRG3 := Lib.hid HRG.out
        clear HF HRG
        go_wp2_with fail
        clear x0 x1 x2
        go_loopw [3, 5] (fun o i wr => ∃ (b T lo2 hi2 : Nat) (A' : Option Addr) (c' : Nat), k + 1 ≤ b ∧ b ≤ m.length ∧ i = .int .i64 b ∧ o = .slice A' (rs ++ flB m k (b - (k + 1))).length c' ∧ RowsG wr w2.heap.size T lo2 hi2 A' c' (rs ++ flB m k (b - (k + 1))) ∧ FbI w wr lo hi p A ca l B cb m) (fun _ i _ => m.length - (intOf i).toNat)
        case atStart => exact ⟨k + 1, T, lo2, hi2, A2, c2, Nat.le_refl _, by omega, by go_num, by rw [Nat.sub_self]; simp [flB], by rw [Nat.sub_self]; simp only [flB, List.append_nil]; exact HRG3.out, HF3.out⟩
        case round =>
          clear HF3 HRG3
          obtain ⟨b, T, lo2, hi2, A2, c2, hb0, hb1, rfl, rfl, hrg, hf⟩ := hrel
          have HF := Lib.hid hf
          have HRG := Lib.hid hrg
          clear hf hrg
          obtain ⟨_, x0, x1, x2⟩ := HF.out.x
          by_cases hbl : b < m.length
          · have hbi : (b : Int) < (m.length : Int) := by omega
            have HNB := Lib.hid (flB_step m hb0)
            have hql : (rs ++ flB m k (b - (k + 1))).length ≤ 300 := by rw [List.length_append]; have := (flB_all h6 (a := k) (b - (k + 1))).1; omega
            obtain ⟨qs, hqs⟩ : ∃ qs, rs ++ flB m k (b - (k + 1)) = qs := ⟨_, rfl⟩
            have HNQ := Lib.hid (show rs ++ flB m k (b + 1 - (k + 1)) = qs ++ flC m k b (m.length - (b + 1)) by rw [HNB.out, ← List.append_assoc, hqs])
            rw [hqs] at HRG hql ⊢
            clear hqs HNB
            go_wp2_with fail
            clear x0 x1 x2
            go_loopw [3, 6] (fun o i wr => ∃ (c T lo2 hi2 : Nat) (A' : Option Addr) (c' : Nat), b + 1 ≤ c ∧ c ≤ m.length ∧ i = .int .i64 c ∧ o = .slice A' (qs ++ flC m k b (c - (b + 1))).length c' ∧ RowsG wr w2.heap.size T lo2 hi2 A' c' (qs ++ flC m k b (c - (b + 1))) ∧ FbI w wr lo hi p A ca l B cb m) (fun _ i _ => m.length - (intOf i).toNat)
            case atStart => exact ⟨b + 1, T, lo2, hi2, A2, c2, Nat.le_refl _, by omega, by go_num, by rw [Nat.sub_self]; simp [flC], by rw [Nat.sub_self]; simp only [flC, List.append_nil]; exact HRG.out, HF.out⟩
            case round =>
              clear HF HRG
              obtain ⟨c, T, lo2, hi2, A2, c2, hc0, hc1, rfl, rfl, hrg, hf⟩ := hrel
              have HF := Lib.hid hf
              have HRG := Lib.hid hrg
              clear hf hrg
              obtain ⟨_, x0, x1, x2⟩ := HF.out.x
              by_cases hcl : c < m.length
              · have hci : (c : Int) < (m.length : Int) := by omega
                have HNC := Lib.hid (flC_step m (a := k) hc0)
                have hul : (qs ++ flC m k b (c - (b + 1))).length ≤ 400 := by rw [List.length_append]; have := (flC_all (m := m) (a := k) (b := b) (c - (b + 1))).1; omega
                obtain ⟨us, hus⟩ : ∃ us, qs ++ flC m k b (c - (b + 1)) = us := ⟨_, rfl⟩
                have HNU := Lib.hid (show qs ++ flC m k b (c + 1 - (b + 1)) = us ++ (if colB (m.getD k (0, 0)) (m.getD b (0, 0)) (m.getD c (0, 0)) = true then [[(k : Int), (b : Int), (c : Int)]] else []) by rw [HNC.out, ← List.append_assoc, hus])
                rw [hus] at HRG hul ⊢
                clear hus HNC
                obtain ⟨bb, ob, rfl, hbb, hcb⟩ := HF.out.place hkl
                have HPL := Lib.hid (fun (W : World) (h : FbI w W lo hi p A ca l (some ⟨bb, ob, none⟩) cb m) (j : Nat) (hj : j < m.length) => (show W.cell? ⟨bb, ob + j * 2, none⟩ = some (.int .i64 (m.getD j (0, 0)).1) ∧ W.cell? ⟨bb, ob + j * 2 + 1, none⟩ = some (.int .i64 (m.getD j (0, 0)).2) from by
                  obtain ⟨b2, o2, e2, _, hc2⟩ := h.place hj
                  cases e2
                  exact hc2 j hj))
                obtain ⟨X, hX⟩ : ∃ X, m.getD k (0, 0) = X := ⟨_, rfl⟩
                obtain ⟨Y, hY⟩ : ∃ Y, m.getD b (0, 0) = Y := ⟨_, rfl⟩
                obtain ⟨Z, hZ⟩ : ∃ Z, m.getD c (0, 0) = Z := ⟨_, rfl⟩
                have HPX := Lib.hid (fun (W : World) (h : FbI w W lo hi p A ca l (some ⟨bb, ob, none⟩) cb m) => (show W.cell? ⟨w.heap.size, 2, none⟩ = some (.slice (some ⟨bb, ob, none⟩) m.length cb) ∧ W.cell? ⟨bb, ob + k * 2, none⟩ = some (.int .i64 X.1) ∧ W.cell? ⟨bb, ob + k * 2 + 1, none⟩ = some (.int .i64 X.2) ∧ W.cell? ⟨bb, ob + b * 2, none⟩ = some (.int .i64 Y.1) ∧ W.cell? ⟨bb, ob + b * 2 + 1, none⟩ = some (.int .i64 Y.2) ∧ W.cell? ⟨bb, ob + c * 2, none⟩ = some (.int .i64 Z.1) ∧ W.cell? ⟨bb, ob + c * 2 + 1, none⟩ = some (.int .i64 Z.2) from by
                  have h1 := HPL.out W h k hkl
                  have h2 := HPL.out W h b hbl
                  have h3 := HPL.out W h c hcl
                  rw [hX] at h1
                  rw [hY] at h2
                  rw [hZ] at h3
                  exact ⟨h.x.2.2.2, h1.1, h1.2, h2.1, h2.2, h3.1, h3.2⟩))
                rw [hX, hY, hZ] at HNU
                have hcol := HCO.out X Y Z
                have e3 : colB (X.1, X.2) (Y.1, Y.2) (Z.1, Z.2) = colB X Y Z := rfl
                rw [e3] at hcol
                have HCL := Lib.hid hcol
                clear hX hY hZ hcb HPL hcol e3
                have HFD := Lib.hid (HF.out.below (show Below wr.heap.size wr wr.drew from (Below.refl _ _).drew))
                have HRD := Lib.hid (HRG.out.below (show Below wr.heap.size wr wr.drew from (Below.refl _ _).drew))
                obtain ⟨v, hv⟩ : ∃ v, colB X Y Z = v := ⟨_, rfl⟩
                rw [hv] at HCL HNU
                clear hv HRG
                go_wp2_with fail
                go_region_held3 (fun W' => W'.cell? ⟨w.heap.size, 2, none⟩ = some (.slice (some ⟨bb, ob, none⟩) m.length cb) ∧ W'.cell? ⟨bb, ob + k * 2, none⟩ = some (.int .i64 X.1) ∧ W'.cell? ⟨bb, ob + k * 2 + 1, none⟩ = some (.int .i64 X.2) ∧ W'.cell? ⟨bb, ob + b * 2, none⟩ = some (.int .i64 Y.1) ∧ W'.cell? ⟨bb, ob + b * 2 + 1, none⟩ = some (.int .i64 Y.2) ∧ W'.cell? ⟨bb, ob + c * 2, none⟩ = some (.int .i64 Z.1) ∧ W'.cell? ⟨bb, ob + c * 2 + 1, none⟩ = some (.int .i64 Z.2))
                  (first | exact HPX.out _ HFD.out | exact HPX.out _ HF5.out | fail)
                  (first
                    | (go_at_call 186; refine (HCL.out _).mono ?_; rintro e w5 ⟨rfl, hb⟩; have HF5 := Lib.hid (HFD.out.below hb); have HRG5 := Lib.hid (HRD.out.below hb); clear hb)
                    | fail)
                clear x0 x1 x2
                cases v
                · rw [if_neg (by simp), List.append_nil] at HNU
                  go_wp2_with fail
                  go_roundw
                  case rel => exact ⟨c + 1, _, _, _, _, _, by omega, by omega, by go_num, by rw [HNU.out], by rw [HNU.out]; exact HRG5.out, HF5.out⟩
                  case measure => simp [intOf]; omega
                · rw [if_pos rfl] at HNU
                  have hal := new_below w5 (.cells #[.int .i64 (k : Int), .int .i64 (b : Int), .int .i64 (c : Int)] 3)
                  have HF6 := Lib.hid (HF5.out.below hal)
                  have HRG6 := Lib.hid (HRG5.out.below hal)
                  have HO6 := Lib.hid (row3_own w5 (k : Int) (b : Int) (c : Int))
                  have HS6 := Lib.hid (show (w5.alloc (.cells #[.int .i64 (k : Int), .int .i64 (b : Int), .int .i64 (c : Int)] 3)).heap.size = w5.heap.size + 1 by simp)
                  have HTOP := Lib.hid (show T ≤ w5.heap.size from HRG5.out.top)
                  clear hal HF5 HRG5
                  obtain ⟨zs, r, S', z1, z2, z3, z4⟩ := HRG6.out.rows
                  have HZ1 := Lib.hid z1
                  have HZ2 := Lib.hid z2
                  have HZ3 := Lib.hid (show RowsP _ w2.heap.size T lo2 hi2 zs us from ⟨r, S', z3, z4⟩)
                  have HLO := Lib.hid (show lo2 ≤ _ from Nat.le_trans HRG6.out.out.2.1 HRG6.out.top)
                  have HOB := Lib.hid (HRG6.out.out.1)
                  clear z1 z2 z3 z4
                  go_wp2_with (at_builtin; refine wpList_pushS _ rfl _ _ rfl lo2 hi2 A2 c2 zs (.slice (some ⟨w5.heap.size, 0, none⟩) 3 3) rfl (by rw [HZ1.out]; rfl) HZ2.out _ (by rw [HS6.out]; rfl) (by have := HZ1.out; omega) HLO.out ?_; intro A7 c7 w7 lo7 hi7 ho7 hd7 hw7; have HO7 := Lib.hid ho7; have HD7 := Lib.hid hd7; have HW7 := Lib.hid hw7; clear ho7 hd7 hw7)
                  have HRG7 := Lib.hid (HRG6.out.push (q := (w5.heap.size, w5.heap.size + 1)) HO6.out HTOP.out HZ1.out HZ3.out HO7.out HD7.out HW7.out)
                  go_roundw
                  case rel => exact ⟨c + 1, _, _, _, _, _, by omega, by omega, by go_num, by rw [HNU.out, List.length_append, HZ1.out]; rfl, by rw [HNU.out]; exact HRG7.out, HF6.out.on HW7.out (Nat.le_trans HB2.out HOB.out) hhi⟩
                  case measure => simp [intOf]; omega
              · obtain rfl : c = m.length := by omega
                go_wp2_with fail
                go_roundw
                case rel => exact ⟨b + 1, _, _, _, _, _, by omega, by omega, by go_num, by rw [HNQ.out], by rw [HNQ.out]; exact HRG.out, HF.out⟩
                case measure => simp [intOf]; omega
          · obtain rfl : b = m.length := by omega
            go_wp2_with fail
            go_roundw
            case rel => exact ⟨k + 1, _, _, _, _, _, by omega, by go_num, by rw [HNA.out], by rw [HNA.out]; exact HRG.out, HF.out⟩
            case measure => simp [intOf]; omega
      · obtain rfl : k = m.length := by omega
        go_wp2_with fail
        go_ret
        have ht := HRG.out.top
        refine ⟨A2, c2, ?_, ?_, HF.out.b⟩
        · rw [HS.out]; rfl
        · rw [HS.out]
          exact .inl (rowsOwn_widen HRG.out.cells (by have := HB2.out; omega) ht (Nat.le_refl _))
  · have hgf : isFB p l m = false := by simpa using hg
    rw [hgf] at HC
    have HS := Lib.hid (flaV_no hgf)
    clear hg hgf
    refine (HC.out _ HF0.out.f).mono ?_
    rintro e w2 ⟨rfl, hb⟩
    have HF2 := Lib.hid (HF0.out.below hb)
    clear hb
    go_wp2_with fail
    go_ret
    exact ⟨none, 0, by rw [HS.out]; rfl, .inl (by rw [HS.out]; exact ⟨Nat.le_refl _, fun h => absurd h (by simp)⟩), HF2.out.b⟩
end Go.Proofs.Ytdkpmaahinbhlaa
/- The law FnExactFlatSets returns true at every input. No condition. -/
namespace Go.Proofs.Ytdkpmaahinbhlaa
open Go.RowKit

set_option maxHeartbeats 4000000 in
set_option maxRecDepth 100000 in
theorem lawFlatSets (q : Int) (A : Option Addr) (cap : Nat) (l : List (Int × Int)) (B : Option Addr) (cb : Nat) (m : List (Int × Int)) (w : World) (hl : l.length ≤ maxLen ∧ m.length ≤ maxLen) (hb : BarsAt w w.heap.size A l) (hc : BarsAt w w.heap.size B m) :
    Calls Try.prog 13 #[.agg #[.int .i64 q, .slice A l.length cap, .slice B m.length cb]] w fun e w' => e = .returned (.bool true) ∧ Below w.heap.size w w' := by
  have HB_0 := Lib.hid (fw_in hb hc)
  clear hb hc
  by_cases hn : l.length + m.length ≤ 1048576
  · have W0 := Lib.hid (Below.refl w.heap.size w)
    have hz : (flaV q l m).length ≤ 1048576 := (Nat.le_trans (flaV_len q l m) (by decide))
    have hrr : ∀ k, k < (flaV q l m).length → ((flaV q l m).getD k []).length ≤ 1048576 := (fun k _ => Nat.le_trans (flaV_row q l m k) (by decide))
    have htt : (1 : Int) + (tot (flaV q l m) (flaV q l m).length : Int) ≤ 10000000 := (by have := tot_bound (flaV q l m) 3 (flaV q l m).length (fun k _ => flaV_row q l m k); have := flaV_len q l m; omega)
    have HRR := Lib.hid hrr
    clear hrr
    have hal := new_below w (.cells #[.int .i64 q, .slice A l.length cap, .slice B m.length cb] 92)
    have Z1 := Lib.hid (within_of hal).size
    have W1 := Lib.hid (within_on W0.out (within_of hal) W0.out.size (.inr (Nat.le_refl _)))
    have HB_1 := Lib.hid (HB_0.out.within (within_of hal) (by omega))
    clear hal
    have hsz : (w.alloc (.cells #[.int .i64 q, .slice A l.length cap, .slice B m.length cb] 92)).heap.size = w.heap.size + 1 := by simp
    have Y1 := Lib.hid hsz
    clear hsz
    have BX_1 := Lib.hid (box3_new w q (.slice A l.length cap) (.slice B m.length cb) 92)
    go_enter Try.func13, Try.ntmps13
    go_wp2_with fail
    generalize (w.alloc (.cells #[.int .i64 q, .slice A l.length cap, .slice B m.length cb] 92)) = w1 at *
    refine (szFw_c q A l.length cap B m.length cb 1048576 _ (by omega) (by omega)).mono ?_
    rintro e w2 ⟨rfl, hb⟩
    have Z2 := Lib.hid (within_of hb).size
    have W2 := Lib.hid (within_on W1.out (within_of hb) W1.out.size (.inr (Nat.le_refl _)))
    have HB_2 := Lib.hid (HB_1.out.within (within_of hb) (by omega))
    have BX_2 := Lib.hid (BX_1.out.within (within_of hb) (by omega))
    clear hb
    have hnn : ¬ (1048576 : Int) - (l.length : Int) - (m.length : Int) < 0 := by omega
    obtain ⟨g01, g02, g03, g04⟩ := BX_2.out
    go_wp2_with fail
    clear g01 g02 g03 g04
    refine (toFw_c q l m A cap B cb _ _ _ HB_2.out hn).mono ?_
    rintro e w3 ⟨g0, g1, rfl, ho, hb⟩
    have Z3 := Lib.hid (within_of hb).size
    have W3 := Lib.hid (within_on W2.out (within_of hb) W2.out.size (.inr (Nat.le_refl _)))
    have HB_3 := Lib.hid (HB_2.out.within (within_of hb) (by omega))
    have BX_3 := Lib.hid (BX_2.out.within (within_of hb) (by omega))
    have SG_3 := Lib.hid (ho.reads)
    clear ho hb
    go_wp2_with fail
    refine (specFla q l m (some ⟨g0, 0, none⟩) l.length (some ⟨g1, 0, none⟩) m.length _ _ _ SG_3.out hn).mono ?_
    rintro e w4 ⟨AS, cs, rfl, hs, hb⟩
    have Z4 := Lib.hid (within_of hb).size
    have W4 := Lib.hid (within_on W3.out (within_of hb) W3.out.size (.inr (Nat.le_refl _)))
    have HB_4 := Lib.hid (HB_3.out.within (within_of hb) (by omega))
    have BX_4 := Lib.hid (BX_3.out.within (within_of hb) (by omega))
    have SG_4 := Lib.hid (SG_3.out.within (within_of hb) (by omega))
    have SR_4 := Lib.hid (hs)
    clear hs hb
    obtain ⟨g01, g02, g03, g04⟩ := BX_4.out
    go_wp2_with fail
    clear g01 g02 g03 g04
    refine (toFw_c q l m A cap B cb _ _ _ HB_4.out hn).mono ?_
    rintro e w5 ⟨x0, x1, rfl, ho, hb⟩
    have Z5 := Lib.hid (within_of hb).size
    have W5 := Lib.hid (within_on W4.out (within_of hb) W4.out.size (.inr (Nat.le_refl _)))
    have HB_5 := Lib.hid (HB_4.out.within (within_of hb) (by omega))
    have BX_5 := Lib.hid (BX_4.out.within (within_of hb) (by omega))
    have SG_5 := Lib.hid (SG_4.out.within (within_of hb) (by omega))
    have SR_5 := Lib.hid (SR_4.out.within (within_of hb) (by omega))
    have SX_5 := Lib.hid (ho)
    clear ho hb
    go_wp2_with fail
    have hal := new_below w5 (.cells #[.int .i64 q, .slice (some ⟨x0, 0, none⟩) l.length l.length, .slice (some ⟨x1, 0, none⟩) m.length m.length] 97)
    have Z6 := Lib.hid (within_of hal).size
    have W6 := Lib.hid (within_on W5.out (within_of hal) W5.out.size (.inr (Nat.le_refl _)))
    have HB_6 := Lib.hid (HB_5.out.within (within_of hal) (by omega))
    have BX_6 := Lib.hid (BX_5.out.within (within_of hal) (by omega))
    have SG_6 := Lib.hid (SG_5.out.within (within_of hal) (by omega))
    have SR_6 := Lib.hid (SR_5.out.within (within_of hal) (by omega))
    have SX_6 := Lib.hid (SX_5.out.within (within_of hal) (by omega))
    clear hal
    have hsz : (w5.alloc (.cells #[.int .i64 q, .slice (some ⟨x0, 0, none⟩) l.length l.length, .slice (some ⟨x1, 0, none⟩) m.length m.length] 97)).heap.size = w5.heap.size + 1 := by simp
    have Y6 := Lib.hid hsz
    clear hsz
    have XX_6 := Lib.hid (box3_new w5 q (.slice (some ⟨x0, 0, none⟩) l.length l.length) (.slice (some ⟨x1, 0, none⟩) m.length m.length) 97)
    generalize (w5.alloc (.cells #[.int .i64 q, .slice (some ⟨x0, 0, none⟩) l.length l.length, .slice (some ⟨x1, 0, none⟩) m.length m.length] 97)) = w6 at *
    refine (implFla q l m (some ⟨x0, 0, none⟩) l.length (some ⟨x1, 0, none⟩) m.length _ _ _ SX_6.out.reads hn).mono ?_
    rintro e w7 ⟨AG, cg, rfl, ho, hb⟩
    have Z7 := Lib.hid (within_of hb).size
    have W7 := Lib.hid (within_on W6.out (within_of hb) W6.out.size (.inr (Nat.le_refl _)))
    have HB_7 := Lib.hid (HB_6.out.within (within_of hb) (by omega))
    have BX_7 := Lib.hid (BX_6.out.within (within_of hb) (by omega))
    have SG_7 := Lib.hid (SG_6.out.within (within_of hb) (by omega))
    have SR_7 := Lib.hid (SR_6.out.within (within_of hb) (by omega))
    have SX_7 := Lib.hid (SX_6.out.within (within_of hb) (by omega))
    have XX_7 := Lib.hid (XX_6.out.within (within_of hb) (by omega))
    have SO_7 := Lib.hid (ho)
    clear ho hb
    go_wp2_with fail
    refine (eqRows_c (flaV q l m) AG AS cg cs _ _ _ _ _ SO_7.out.reads SR_7.out hz HRR.out).mono ?_
    rintro e w8 ⟨rfl, hb⟩
    have Z8 := Lib.hid (within_of hb).size
    have W8 := Lib.hid (within_on W7.out (within_of hb) W7.out.size (.inr (Nat.le_refl _)))
    have HB_8 := Lib.hid (HB_7.out.within (within_of hb) (by omega))
    have BX_8 := Lib.hid (BX_7.out.within (within_of hb) (by omega))
    have SG_8 := Lib.hid (SG_7.out.within (within_of hb) (by omega))
    have SR_8 := Lib.hid (SR_7.out.within (within_of hb) (by omega))
    have SX_8 := Lib.hid (SX_7.out.within (within_of hb) (by omega))
    have XX_8 := Lib.hid (XX_7.out.within (within_of hb) (by omega))
    have SO_8 := Lib.hid (SO_7.out.within (within_of hb) (by omega))
    clear hb
    have kk0 := box3s2 BX_8.out XX_8.out
    have kk := box3s2 BX_8.out XX_8.out
    have hdr : Below w8.heap.size w8 w8.drew := (Below.refl _ _).drew
    have Z9 := Lib.hid (within_of hdr).size
    have W9 := Lib.hid (within_on W8.out (within_of hdr) W8.out.size (.inr (Nat.le_refl _)))
    have HB_9 := Lib.hid (HB_8.out.within (within_of hdr) (by omega))
    have BX_9 := Lib.hid (BX_8.out.within (within_of hdr) (by omega))
    have SG_9 := Lib.hid (SG_8.out.within (within_of hdr) (by omega))
    have SR_9 := Lib.hid (SR_8.out.within (within_of hdr) (by omega))
    have SX_9 := Lib.hid (SX_8.out.within (within_of hdr) (by omega))
    have XX_9 := Lib.hid (XX_8.out.within (within_of hdr) (by omega))
    have SO_9 := Lib.hid (SO_8.out.within (within_of hdr) (by omega))
    clear hdr
    go_wp2_with fail
    go_region_held3 (fun W' => W'.cell? ⟨w.heap.size, 0, none⟩ = some (.int .i64 q) ∧ W'.cell? ⟨w.heap.size, 1, none⟩ = some (.slice A l.length cap) ∧ W'.cell? ⟨w.heap.size, 2, none⟩ = some (.slice B m.length cb) ∧ W'.cell? ⟨w5.heap.size, 0, none⟩ = some (.int .i64 q) ∧ W'.cell? ⟨w5.heap.size, 1, none⟩ = some (.slice (some ⟨x0, 0, none⟩) l.length l.length) ∧ W'.cell? ⟨w5.heap.size, 2, none⟩ = some (.slice (some ⟨x1, 0, none⟩) m.length m.length))
      (first | exact kk | exact box3s2 BX_10.out XX_10.out | exact box3s2 BX_11.out XX_11.out | fail)
      (first
        | (go_at_call 88; refine (toFw_c q l m A cap B cb _ _ _ HB_9.out hn).mono ?_; rintro e w10 ⟨u0, u1, rfl, ho, hb⟩; have Z10 := Lib.hid (within_of hb).size; have W10 := Lib.hid (within_on W9.out (within_of hb) W9.out.size (.inr (Nat.le_refl _))); have HB_10 := Lib.hid (HB_9.out.within (within_of hb) (by omega)); have BX_10 := Lib.hid (BX_9.out.within (within_of hb) (by omega)); have SG_10 := Lib.hid (SG_9.out.within (within_of hb) (by omega)); have SR_10 := Lib.hid (SR_9.out.within (within_of hb) (by omega)); have SX_10 := Lib.hid (SX_9.out.within (within_of hb) (by omega)); have XX_10 := Lib.hid (XX_9.out.within (within_of hb) (by omega)); have SO_10 := Lib.hid (SO_9.out.within (within_of hb) (by omega)); have YY := Lib.hid ho.reads; clear ho hb)
        | (go_at_call 91; refine (eqFw_c q l m _ _ _ _ _ _ _ _ _ _ _ _ _ SX_10.out.reads YY.out hn).mono ?_; rintro e w11 ⟨rfl, hb⟩; have Z11 := Lib.hid (within_of hb).size; have W11 := Lib.hid (within_on W10.out (within_of hb) W10.out.size (.inr (Nat.le_refl _))); have HB_11 := Lib.hid (HB_10.out.within (within_of hb) (by omega)); have BX_11 := Lib.hid (BX_10.out.within (within_of hb) (by omega)); have SG_11 := Lib.hid (SG_10.out.within (within_of hb) (by omega)); have SR_11 := Lib.hid (SR_10.out.within (within_of hb) (by omega)); have SX_11 := Lib.hid (SX_10.out.within (within_of hb) (by omega)); have XX_11 := Lib.hid (XX_10.out.within (within_of hb) (by omega)); have SO_11 := Lib.hid (SO_10.out.within (within_of hb) (by omega)); clear hb))
    clear kk0 kk YY
    obtain ⟨g01, g02, g03, g04⟩ := XX_11.out
    go_wp2_with fail
    clear g01 g02 g03 g04
    refine (markFw_o q l m (some ⟨x0, 0, none⟩) l.length (some ⟨x1, 0, none⟩) m.length 1 w4.heap.size w5.heap.size _ SX_11.out hn (by omega) (by omega)).mono ?_
    rintro e w12 ⟨rfl, hin, hox⟩
    have Z12 := Lib.hid (hin).size
    have W12 := Lib.hid (within_on W11.out (hin) W11.out.size (by have := W11.out.size; have := Z1.out; have := Z2.out; have := Z3.out; have := Z4.out; have := Z5.out; have := Z6.out; have := Z7.out; have := Z8.out; have := Z9.out; have := Z10.out; have := Z11.out; have := Z12.out; have := Y1.out; have := Y6.out; omega))
    have HB_12 := Lib.hid (HB_11.out.within (hin) (by have := Z1.out; have := Z2.out; have := Z3.out; have := Z4.out; have := Z5.out; have := Z6.out; have := Z7.out; have := Z8.out; have := Z9.out; have := Z10.out; have := Z11.out; have := Z12.out; have := Y1.out; have := Y6.out; omega))
    have BX_12 := Lib.hid (BX_11.out.within (hin) (by have := Z1.out; have := Z2.out; have := Z3.out; have := Z4.out; have := Z5.out; have := Z6.out; have := Z7.out; have := Z8.out; have := Z9.out; have := Z10.out; have := Z11.out; have := Z12.out; have := Y1.out; have := Y6.out; omega))
    have SG_12 := Lib.hid (SG_11.out.within (hin) (by have := Z1.out; have := Z2.out; have := Z3.out; have := Z4.out; have := Z5.out; have := Z6.out; have := Z7.out; have := Z8.out; have := Z9.out; have := Z10.out; have := Z11.out; have := Z12.out; have := Y1.out; have := Y6.out; omega))
    have SR_12 := Lib.hid (SR_11.out.within (hin) (by have := Z1.out; have := Z2.out; have := Z3.out; have := Z4.out; have := Z5.out; have := Z6.out; have := Z7.out; have := Z8.out; have := Z9.out; have := Z10.out; have := Z11.out; have := Z12.out; have := Y1.out; have := Y6.out; omega))
    have XX_12 := Lib.hid (XX_11.out.within (hin) (by have := Z1.out; have := Z2.out; have := Z3.out; have := Z4.out; have := Z5.out; have := Z6.out; have := Z7.out; have := Z8.out; have := Z9.out; have := Z10.out; have := Z11.out; have := Z12.out; have := Y1.out; have := Y6.out; omega))
    have SO_12 := Lib.hid (SO_11.out.within (hin) (by have := Z1.out; have := Z2.out; have := Z3.out; have := Z4.out; have := Z5.out; have := Z6.out; have := Z7.out; have := Z8.out; have := Z9.out; have := Z10.out; have := Z11.out; have := Z12.out; have := Y1.out; have := Y6.out; omega))
    clear hox hin
    have hk1 : ¬ (1 : Int) + 2 * (l.length : Int) + 2 * (m.length : Int) < 0 := by omega
    go_wp2_with fail
    refine (eqRows_c (flaV q l m) AG AS cg cs _ _ _ _ _ SO_12.out.reads SR_12.out hz HRR.out).mono ?_
    rintro e w13 ⟨rfl, hb⟩
    have Z13 := Lib.hid (within_of hb).size
    have W13 := Lib.hid (within_on W12.out (within_of hb) W12.out.size (.inr (Nat.le_refl _)))
    have HB_13 := Lib.hid (HB_12.out.within (within_of hb) (by omega))
    have BX_13 := Lib.hid (BX_12.out.within (within_of hb) (by omega))
    have SG_13 := Lib.hid (SG_12.out.within (within_of hb) (by omega))
    have SR_13 := Lib.hid (SR_12.out.within (within_of hb) (by omega))
    have XX_13 := Lib.hid (XX_12.out.within (within_of hb) (by omega))
    have SO_13 := Lib.hid (SO_12.out.within (within_of hb) (by omega))
    clear hb
    go_wp2_with fail
    refine (markRowsX_c (flaV q l m) AG cg w6.heap.size w7.heap.size 1 _ SO_13.out hz HRR.out (by omega) htt).mono ?_
    rintro e w14 ⟨rfl, hin, hog⟩
    have Z14 := Lib.hid (hin).size
    have W14 := Lib.hid (within_on W13.out (hin) W13.out.size (by have := W13.out.size; have := Z1.out; have := Z2.out; have := Z3.out; have := Z4.out; have := Z5.out; have := Z6.out; have := Z7.out; have := Z8.out; have := Z9.out; have := Z10.out; have := Z11.out; have := Z12.out; have := Z13.out; have := Z14.out; have := Y1.out; have := Y6.out; omega))
    have HB_14 := Lib.hid (HB_13.out.within (hin) (by have := Z1.out; have := Z2.out; have := Z3.out; have := Z4.out; have := Z5.out; have := Z6.out; have := Z7.out; have := Z8.out; have := Z9.out; have := Z10.out; have := Z11.out; have := Z12.out; have := Z13.out; have := Z14.out; have := Y1.out; have := Y6.out; omega))
    have BX_14 := Lib.hid (BX_13.out.within (hin) (by have := Z1.out; have := Z2.out; have := Z3.out; have := Z4.out; have := Z5.out; have := Z6.out; have := Z7.out; have := Z8.out; have := Z9.out; have := Z10.out; have := Z11.out; have := Z12.out; have := Z13.out; have := Z14.out; have := Y1.out; have := Y6.out; omega))
    have SG_14 := Lib.hid (SG_13.out.within (hin) (by have := Z1.out; have := Z2.out; have := Z3.out; have := Z4.out; have := Z5.out; have := Z6.out; have := Z7.out; have := Z8.out; have := Z9.out; have := Z10.out; have := Z11.out; have := Z12.out; have := Z13.out; have := Z14.out; have := Y1.out; have := Y6.out; omega))
    have SR_14 := Lib.hid (SR_13.out.within (hin) (by have := Z1.out; have := Z2.out; have := Z3.out; have := Z4.out; have := Z5.out; have := Z6.out; have := Z7.out; have := Z8.out; have := Z9.out; have := Z10.out; have := Z11.out; have := Z12.out; have := Z13.out; have := Z14.out; have := Y1.out; have := Y6.out; omega))
    have XX_14 := Lib.hid (XX_13.out.within (hin) (by have := Z1.out; have := Z2.out; have := Z3.out; have := Z4.out; have := Z5.out; have := Z6.out; have := Z7.out; have := Z8.out; have := Z9.out; have := Z10.out; have := Z11.out; have := Z12.out; have := Z13.out; have := Z14.out; have := Y1.out; have := Y6.out; omega))
    have SM_14 := Lib.hid (hog)
    clear hog hin
    have hk2 : ¬ (1 : Int) + (tot (flaV q l m) (flaV q l m).length : Int) < 0 := by omega
    go_wp2_with fail
    refine (heldRows_c (flaV q l m) AG cg _ _ 1 _ SM_14.out.reads hz HRR.out (by omega) htt).mono ?_
    rintro e w15 ⟨rfl, hb⟩
    have Z15 := Lib.hid (within_of hb).size
    have W15 := Lib.hid (within_on W14.out (within_of hb) W14.out.size (.inr (Nat.le_refl _)))
    have HB_15 := Lib.hid (HB_14.out.within (within_of hb) (by omega))
    have BX_15 := Lib.hid (BX_14.out.within (within_of hb) (by omega))
    have SG_15 := Lib.hid (SG_14.out.within (within_of hb) (by omega))
    have SR_15 := Lib.hid (SR_14.out.within (within_of hb) (by omega))
    have XX_15 := Lib.hid (XX_14.out.within (within_of hb) (by omega))
    have SM_15 := Lib.hid (SM_14.out.within (within_of hb) (by omega))
    clear hb
    obtain ⟨g01, g02, g03, g04⟩ := BX_15.out
    go_wp2_with fail
    clear g01 g02 g03 g04
    refine (toFw_c q l m A cap B cb _ _ _ HB_15.out hn).mono ?_
    rintro e w16 ⟨z0, z1, rfl, ho, hb⟩
    have Z16 := Lib.hid (within_of hb).size
    have W16 := Lib.hid (within_on W15.out (within_of hb) W15.out.size (.inr (Nat.le_refl _)))
    have HB_16 := Lib.hid (HB_15.out.within (within_of hb) (by omega))
    have BX_16 := Lib.hid (BX_15.out.within (within_of hb) (by omega))
    have SG_16 := Lib.hid (SG_15.out.within (within_of hb) (by omega))
    have SR_16 := Lib.hid (SR_15.out.within (within_of hb) (by omega))
    have XX_16 := Lib.hid (XX_15.out.within (within_of hb) (by omega))
    have SM_16 := Lib.hid (SM_15.out.within (within_of hb) (by omega))
    have ST_16 := Lib.hid (ho.reads)
    clear ho hb
    go_wp2_with fail
    refine (implFla q l m (some ⟨z0, 0, none⟩) l.length (some ⟨z1, 0, none⟩) m.length _ _ _ ST_16.out hn).mono ?_
    rintro e w17 ⟨AH, ch, rfl, ho, hb⟩
    have Z17 := Lib.hid (within_of hb).size
    have W17 := Lib.hid (within_on W16.out (within_of hb) W16.out.size (.inr (Nat.le_refl _)))
    have HB_17 := Lib.hid (HB_16.out.within (within_of hb) (by omega))
    have BX_17 := Lib.hid (BX_16.out.within (within_of hb) (by omega))
    have SG_17 := Lib.hid (SG_16.out.within (within_of hb) (by omega))
    have SR_17 := Lib.hid (SR_16.out.within (within_of hb) (by omega))
    have XX_17 := Lib.hid (XX_16.out.within (within_of hb) (by omega))
    have SM_17 := Lib.hid (SM_16.out.within (within_of hb) (by omega))
    have ST_17 := Lib.hid (ST_16.out.within (within_of hb) (by omega))
    have SH_17 := Lib.hid (ho.reads)
    clear ho hb
    go_wp2_with fail
    refine (eqRows_c (flaV q l m) AH AS ch cs _ _ _ _ _ SH_17.out SR_17.out hz HRR.out).mono ?_
    rintro e w18 ⟨rfl, hb⟩
    have Z18 := Lib.hid (within_of hb).size
    have W18 := Lib.hid (within_on W17.out (within_of hb) W17.out.size (.inr (Nat.le_refl _)))
    have HB_18 := Lib.hid (HB_17.out.within (within_of hb) (by omega))
    have BX_18 := Lib.hid (BX_17.out.within (within_of hb) (by omega))
    have SG_18 := Lib.hid (SG_17.out.within (within_of hb) (by omega))
    have SR_18 := Lib.hid (SR_17.out.within (within_of hb) (by omega))
    have XX_18 := Lib.hid (XX_17.out.within (within_of hb) (by omega))
    have SM_18 := Lib.hid (SM_17.out.within (within_of hb) (by omega))
    have ST_18 := Lib.hid (ST_17.out.within (within_of hb) (by omega))
    have SH_18 := Lib.hid (SH_17.out.within (within_of hb) (by omega))
    clear hb
    go_wp2_with fail
    refine (heldRows_c (flaV q l m) AG cg _ _ 1 _ SM_18.out.reads hz HRR.out (by omega) htt).mono ?_
    rintro e w19 ⟨rfl, hb⟩
    have Z19 := Lib.hid (within_of hb).size
    have W19 := Lib.hid (within_on W18.out (within_of hb) W18.out.size (.inr (Nat.le_refl _)))
    have HB_19 := Lib.hid (HB_18.out.within (within_of hb) (by omega))
    have BX_19 := Lib.hid (BX_18.out.within (within_of hb) (by omega))
    have SG_19 := Lib.hid (SG_18.out.within (within_of hb) (by omega))
    have SR_19 := Lib.hid (SR_18.out.within (within_of hb) (by omega))
    have XX_19 := Lib.hid (XX_18.out.within (within_of hb) (by omega))
    have SM_19 := Lib.hid (SM_18.out.within (within_of hb) (by omega))
    have ST_19 := Lib.hid (ST_18.out.within (within_of hb) (by omega))
    have SH_19 := Lib.hid (SH_18.out.within (within_of hb) (by omega))
    clear hb
    go_wp2_with fail
    go_ret
    exact ⟨rfl, W19.out⟩
  · have W0 := Lib.hid (Below.refl w.heap.size w)
    have hal := new_below w (.cells #[.int .i64 q, .slice A l.length cap, .slice B m.length cb] 92)
    have Z1 := Lib.hid (within_of hal).size
    have W1 := Lib.hid (within_on W0.out (within_of hal) W0.out.size (.inr (Nat.le_refl _)))
    have HB_1 := Lib.hid (HB_0.out.within (within_of hal) (by omega))
    clear hal
    have hsz : (w.alloc (.cells #[.int .i64 q, .slice A l.length cap, .slice B m.length cb] 92)).heap.size = w.heap.size + 1 := by simp
    have Y1 := Lib.hid hsz
    clear hsz
    have BX_1 := Lib.hid (box3_new w q (.slice A l.length cap) (.slice B m.length cb) 92)
    go_enter Try.func13, Try.ntmps13
    go_wp2_with fail
    generalize (w.alloc (.cells #[.int .i64 q, .slice A l.length cap, .slice B m.length cb] 92)) = w1 at *
    refine (szFw_no q A l.length cap B m.length cb 1048576 _ hl.1 hl.2 (by omega) (by omega) (by omega)).mono ?_
    rintro e w2 ⟨rfl, hb⟩
    have Z2 := Lib.hid (within_of hb).size
    have W2 := Lib.hid (within_on W1.out (within_of hb) W1.out.size (.inr (Nat.le_refl _)))
    have HB_2 := Lib.hid (HB_1.out.within (within_of hb) (by omega))
    have BX_2 := Lib.hid (BX_1.out.within (within_of hb) (by omega))
    clear hb
    go_wp2_with fail
    go_ret
    exact ⟨rfl, W2.out⟩
end Go.Proofs.Ytdkpmaahinbhlaa
/- The greatest common divisor of two numbers, as both sides find it. No condition. -/
namespace Go.Proofs.Ytdkpmaahinbhlaa
open Go.RowKit

/-- A number that is not too large. -/
def OkG (a : Int) : Prop := -9000000000000000000 ≤ a ∧ a ≤ 9000000000000000000
instance (a : Int) : Decidable (OkG a) := by unfold OkG; exact inferInstance
def gcdV (a b : Int) : Int := if OkG a ∧ OkG b then (Int.gcd a b : Int) else 0
theorem l1In_g (a : Int) (w : World) :
    Calls Try.prog 125 #[.int .i64 a, .int .i64 (-9000000000000000000), .int .i64 9000000000000000000] w fun e w' => e = .returned (.bool (decide (OkG a))) ∧ w = w' := by
  by_cases h : OkG a
  · rw [decide_eq_true h]; exact l1In_yes a _ _ w h.1 h.2
  · rw [decide_eq_false h]; exact l1In_no a _ _ w (by unfold OkG at h; omega)
theorem hasGcd_c (a : Int) (w : World) :
    Calls Try.prog 157 #[.int .i64 a] w fun e w' => e = .returned (.bool (decide (OkG a))) ∧ w = w' := by
  by_cases h1 : -9000000000000000000 ≤ a
  · have h1' : decide (-9000000000000000000 ≤ a) = true := by simpa using h1
    by_cases h2 : a ≤ 9000000000000000000
    · have h2' : decide (a ≤ 9000000000000000000) = true := by simpa using h2
      rw [decide_eq_true (show OkG a from ⟨h1, h2⟩)]
      go_enter Try.func157, Try.ntmps157
      go_wp2
      go_ret
      exact ⟨rfl, rfl⟩
    · have h2' : decide (a ≤ 9000000000000000000) = false := by simp; omega
      rw [decide_eq_false (show ¬ OkG a from fun h => h2 h.2)]
      clear h2
      go_enter Try.func157, Try.ntmps157
      go_wp2
      go_ret
      exact ⟨rfl, rfl⟩
  · have h1' : decide (-9000000000000000000 ≤ a) = false := by simp; omega
    rw [decide_eq_false (show ¬ OkG a from fun h => h1 h.1)]
    clear h1
    go_enter Try.func157, Try.ntmps157
    go_wp2
    go_ret
    exact ⟨rfl, rfl⟩

set_option maxHeartbeats 2000000 in
set_option maxRecDepth 100000 in
theorem specGcd (a b : Int) (w : World) :
    Calls Try.prog 76 #[.int .i64 a, .int .i64 b] w fun e w' => e = .returned (.int .i64 (gcdV a b)) ∧ w = w' := by
  have HA := Lib.hid (l1In_g a w)
  have HB := Lib.hid (l1In_g b w)
  by_cases ha : OkG a
  · by_cases hb : OkG b
    · have hv : gcdV a b = (Int.gcd a b : Int) := if_pos ⟨ha, hb⟩
      rw [hv]
      rw [decide_eq_true ha] at HA
      rw [decide_eq_true hb] at HB
      obtain ⟨a1, a2⟩ := ha
      obtain ⟨b1, b2⟩ := hb
      clear hv
      obtain ⟨g, hg⟩ : ∃ g, (Int.gcd a b : Int) = g := ⟨_, rfl⟩
      rw [hg]
      have HG := Lib.hid hg
      clear hg
      go_enter Try.func76, Try.ntmps76
      go_wp2_with fail
      refine HA.out.mono ?_
      rintro e w1 ⟨rfl, rfl⟩
      go_wp2_with fail
      refine HB.out.mono ?_
      rintro e w1 ⟨rfl, rfl⟩
      go_wp2_with fail
      go_loopw [0, 1, 5] (fun x y _ wr => wr = w ∧ ∃ p q : Nat, x = .int .i64 p ∧ y = .int .i64 q ∧ p ≤ 9000000000000000000 ∧ q ≤ 9000000000000000000 ∧ (Nat.gcd p q : Int) = g) (fun _ y _ _ => (intOf y).toNat)
      case atStart => exact ⟨rfl, a.natAbs, b.natAbs, by congr 1; omega, by congr 1; omega, by omega, by omega, HG.out⟩
      case round =>
        obtain ⟨rfl, p, q, rfl, rfl, hp, hq, hpq⟩ := hrel
        have HPQ := Lib.hid hpq
        clear hpq
        by_cases h0 : 0 < q
        · have h0' : (0 : Int) < (q : Int) := by omega
          have hr : Int.tmod (p : Int) (q : Int) = ((p % q : Nat) : Int) := rfl
          have hlt := Nat.mod_lt p h0
          go_wp2_with fail
          go_roundw
          case rel => exact ⟨by simp, q, p % q, rfl, by go_num, hq, by omega, by rw [← HPQ.out, Nat.gcd_comm q, ← Nat.gcd_rec, Nat.gcd_comm]⟩
          case measure => simp [intOf]; omega
        · obtain rfl : q = 0 := by omega
          have hgp : (p : Int) = g := by rw [← HPQ.out, Nat.gcd_zero_right]
          go_wp2_with fail
          go_ret
          exact ⟨by simp [hgp], by simp⟩
    · have hv : gcdV a b = 0 := if_neg fun h => hb h.2
      rw [hv]
      rw [decide_eq_true ha] at HA
      rw [decide_eq_false hb] at HB
      clear hv ha hb
      go_enter Try.func76, Try.ntmps76
      go_wp2_with fail
      refine HA.out.mono ?_
      rintro e w1 ⟨rfl, rfl⟩
      go_wp2_with fail
      refine HB.out.mono ?_
      rintro e w1 ⟨rfl, rfl⟩
      go_wp2_with fail
      go_ret
      exact ⟨rfl, rfl⟩
  · have hv : gcdV a b = 0 := if_neg fun h => ha h.1
    rw [hv]
    rw [decide_eq_false ha] at HA
    clear hv ha
    go_enter Try.func76, Try.ntmps76
    go_wp2_with fail
    refine HA.out.mono ?_
    rintro e w1 ⟨rfl, rfl⟩
    go_wp2_with fail
    go_ret
    exact ⟨rfl, rfl⟩

set_option maxHeartbeats 2000000 in
set_option maxRecDepth 100000 in
theorem implGcd (a b : Int) (w : World) :
    Calls Try.prog 75 #[.int .i64 a, .int .i64 b] w fun e w' => e = .returned (.int .i64 (gcdV a b)) ∧ Below w.heap.size w w' := by
  have HA := Lib.hid (hasGcd_c a w)
  have HB := Lib.hid (hasGcd_c b w)
  by_cases ha : OkG a
  · by_cases hb : OkG b
    · have hv : gcdV a b = (Int.gcd a b : Int) := if_pos ⟨ha, hb⟩
      rw [hv]
      rw [decide_eq_true ha] at HA
      rw [decide_eq_true hb] at HB
      obtain ⟨a1, a2⟩ := ha
      obtain ⟨b1, b2⟩ := hb
      clear hv
      obtain ⟨g, hg⟩ : ∃ g, (Int.gcd a b : Int) = g := ⟨_, rfl⟩
      rw [hg]
      have HG := Lib.hid hg
      clear hg
      go_enter Try.func75, Try.ntmps75
      go_wp2_with fail
      refine HA.out.mono ?_
      rintro e w1 ⟨rfl, rfl⟩
      go_wp2_with fail
      refine HB.out.mono ?_
      rintro e w1 ⟨rfl, rfl⟩
      go_wp2_with fail
      go_loopw [0, 1] (fun x y wr => Below w.heap.size w wr ∧ ∃ p q : Int, x = .int .i64 p ∧ y = .int .i64 q ∧ OkG p ∧ OkG q ∧ (Nat.gcd p.natAbs q.natAbs : Int) = g) (fun _ y _ => (intOf y).natAbs)
      case atStart => exact ⟨Below.refl _ _, a, b, rfl, rfl, ⟨a1, a2⟩, ⟨b1, b2⟩, HG.out⟩
      case round =>
        obtain ⟨hbel, p, q, rfl, rfl, ⟨p1, p2⟩, ⟨q1, q2⟩, hpq⟩ := hrel
        have HPQ := Lib.hid hpq
        have HBL := Lib.hid hbel
        clear hpq hbel
        by_cases h0 : q = 0
        · subst h0
          have hgp : max p (-p) = g := by rw [← HPQ.out]; simp only [Int.natAbs_zero, Nat.gcd_zero_right]; omega
          go_wp2_with fail
          go_ret
          exact ⟨rfl, HBL.out⟩
        · have h0' : (q != 0) = true := by simpa using h0
          have hm := Int.natAbs_tmod p q
          have hlt := Nat.mod_lt p.natAbs (show 0 < q.natAbs by omega)
          have hstep := gcd_step p q
          obtain ⟨r, hr⟩ : ∃ r, Int.tmod p q = r := ⟨_, rfl⟩
          have hr1 : -9000000000000000000 ≤ r ∧ r ≤ 9000000000000000000 := by rw [hr] at hm; omega
          go_wp2_with fail
          go_quiet (fail)
          go_wp2_with fail
          go_roundw
          case rel => exact ⟨HBL.out.trans (below_drewN _ _ _), q, r, rfl, by go_num, ⟨q1, q2⟩, hr1, by rw [← HPQ.out, ← hstep, hr]⟩
          case measure => simp only [intOf]; rw [← hr, hm]; exact hlt
    · have hv : gcdV a b = 0 := if_neg fun h => hb h.2
      rw [hv]
      rw [decide_eq_true ha] at HA
      rw [decide_eq_false hb] at HB
      clear hv ha hb
      go_enter Try.func75, Try.ntmps75
      go_wp2_with fail
      refine HA.out.mono ?_
      rintro e w1 ⟨rfl, rfl⟩
      go_wp2_with fail
      refine HB.out.mono ?_
      rintro e w1 ⟨rfl, rfl⟩
      go_wp2_with fail
      go_ret
      exact ⟨rfl, Below.refl _ _⟩
  · have hv : gcdV a b = 0 := if_neg fun h => ha h.1
    rw [hv]
    rw [decide_eq_false ha] at HA
    clear hv ha
    go_enter Try.func75, Try.ntmps75
    go_wp2_with fail
    refine HA.out.mono ?_
    rintro e w1 ⟨rfl, rfl⟩
    go_wp2_with fail
    go_ret
    exact ⟨rfl, Below.refl _ _⟩
end Go.Proofs.Ytdkpmaahinbhlaa
/- What PrimitiveVector answers: a row in lowest terms, or the row itself where a number is too large. Words on numbers. No condition. -/
namespace Go.Proofs.Ytdkpmaahinbhlaa

def AllG (v : List Int) (k : Nat) : Prop := ∀ j, j < k → OkG (v.getD j 0)
instance (v : List Int) (k : Nat) : Decidable (AllG v k) := by unfold AllG; exact inferInstance
def pV (v : List Int) : List Int := if AllG v v.length then primV v else v
theorem pV_len (v : List Int) : (pV v).length = v.length := by
  unfold pV; split
  · exact primV_len v
  · rfl
theorem pV_ok {v : List Int} (h : AllG v v.length) : pV v = primV v := if_pos h
theorem pV_no {v : List Int} (h : ¬ AllG v v.length) : pV v = v := if_neg h
/-- The divisor of the first k numbers. -/
def gP (v : List Int) (k : Nat) : Nat := gcdL (v.take k)
theorem take_snoc {v : List Int} {k : Nat} (h : k < v.length) : v.take (k + 1) = v.take k ++ [v.getD k 0] := by
  rw [List.take_succ_eq_append_getElem h, List.getD_eq_getElem?_getD, List.getElem?_eq_getElem h, Option.getD_some]
theorem gP_succ {v : List Int} {k : Nat} (h : k < v.length) : gP v (k + 1) = Nat.gcd (gP v k) (v.getD k 0).natAbs := by
  unfold gP; rw [take_snoc h, gcdL_snoc]
theorem gP_all (v : List Int) : gP v v.length = gcdL v := by unfold gP; rw [List.take_length]
theorem gP_le {v : List Int} : ∀ k, k ≤ v.length → AllG v k → gP v k ≤ 9000000000000000000 := by
  intro k
  induction k with
  | zero => intro _ _; simp [gP, gcdL]
  | succ k ih =>
    intro hk h
    rw [gP_succ (by omega)]
    have h1 := ih (by omega) fun j hj => h j (by omega)
    have h2 := h k (by omega)
    unfold OkG at h2
    rcases Nat.eq_zero_or_pos (v.getD k 0).natAbs with e | e
    · rw [e, Nat.gcd_zero_right]; exact h1
    · exact Nat.le_trans (Nat.gcd_le_right _ e) (by omega)
def fP (v : List Int) (k : Nat) : Int := firstZ (v.take k)
theorem fP_succ {v : List Int} {k : Nat} (h : k < v.length) : fP v (k + 1) = if fP v k = 0 then v.getD k 0 else fP v k := by
  unfold fP; rw [take_snoc h, firstZ_snoc]
theorem fP_all (v : List Int) : fP v v.length = firstZ v := by unfold fP; rw [List.take_length]
theorem fP_first {v : List Int} {f : Nat} (hf : f < v.length) (h0 : ∀ i, i < f → v.getD i 0 = 0) (hz : v.getD f 0 ≠ 0) : firstZ v = v.getD f 0 := by
  have h1 : ∀ k, k ≤ f → fP v k = 0 := by
    intro k
    induction k with
    | zero => intro _; rfl
    | succ k ih => intro hk; rw [fP_succ (by omega), ih (by omega), if_pos rfl]; exact h0 k (by omega)
  have h2 : ∀ k, f < k → k ≤ v.length → fP v k = v.getD f 0 := by
    intro k
    induction k with
    | zero => intro h; omega
    | succ k ih =>
      intro hk hl
      rw [fP_succ (by omega)]
      by_cases e : k = f
      · subst e; rw [h1 k (Nat.le_refl _), if_pos rfl]
      · rw [ih (by omega) (by omega), if_neg hz]
  rw [← fP_all]
  exact h2 _ hf (Nat.le_refl _)
theorem zero_all {v : List Int} (h : ∀ i, i < v.length → v.getD i 0 = 0) : gcdL v = 0 := by
  rw [gcdL_zero]
  intro x hx
  obtain ⟨i, hi, rfl⟩ := List.getElem_of_mem hx
  have := h i hi
  rw [List.getD_eq_getElem?_getD, List.getElem?_eq_getElem hi, Option.getD_some] at this
  exact this
theorem gcd_nz {v : List Int} {f : Nat} (hf : f < v.length) (hz : v.getD f 0 ≠ 0) : gcdL v ≠ 0 := by
  intro h
  have := gcdL_zero.1 h (v.getD f 0) (by
    rw [List.getD_eq_getElem?_getD, List.getElem?_eq_getElem hf, Option.getD_some]; exact List.getElem_mem hf)
  exact hz this
theorem primV_row {v : List Int} (h : gcdL v ≠ 0) : primV v = rowF v.length fun j => Int.tdiv (v.getD j 0) (divZ v) := by
  unfold primV
  rw [if_neg h]
  apply List.ext_getElem (by rw [rowF_len, List.length_map])
  intro i h1 h2
  have hi : i < v.length := by simpa using h1
  rw [List.getElem_map, rowF_get h2, List.getD_eq_getElem?_getD, List.getElem?_eq_getElem hi, Option.getD_some]
theorem primV_zero {v : List Int} (h : gcdL v = 0) : primV v = v := if_pos h
/-- What a number is divided by is not 0, and the quotient is no greater. -/
theorem quo_ok {x d : Int} (hx : OkG x) (_hd : d ≠ 0) : OkG (Int.tdiv x d) := by
  unfold OkG at *
  have h1 := Int.natAbs_tdiv x d
  have h2 : x.natAbs.div d.natAbs ≤ x.natAbs := Nat.div_le_self x.natAbs d.natAbs
  rw [← h1] at h2
  clear h1
  generalize Int.tdiv x d = q at *
  omega
end Go.Proofs.Ytdkpmaahinbhlaa
/- The numbers of spec.l9Without stay small. Words on numbers. No condition. -/
namespace Go.Proofs.Ytdkpmaahinbhlaa

/-- A row of n numbers of at most 2 to the power of 27. -/
def Sm (P : List Int) (n : Nat) : Prop := P.length = n ∧ ∀ j, j < n → -134217728 ≤ P.getD j 0 ∧ P.getD j 0 ≤ 134217728
theorem mul_bd {x y b c : Int} (h1 : -b ≤ x ∧ x ≤ b) (h2 : -c ≤ y ∧ y ≤ c) : -(b * c) ≤ x * y ∧ x * y ≤ b * c := by
  have hx : (x.natAbs : Int) ≤ b := by omega
  have hy : (y.natAbs : Int) ≤ c := by omega
  have hp : (x.natAbs : Int) * (y.natAbs : Int) ≤ b * c := Int.mul_le_mul hx hy (by omega) (by omega)
  rw [← Int.natCast_mul, ← Int.natAbs_mul] at hp
  omega
theorem tdiv_bd {x d : Int} : -(x.natAbs : Int) ≤ Int.tdiv x d ∧ Int.tdiv x d ≤ x.natAbs := by
  have h1 := Int.natAbs_tdiv x d
  have h2 : x.natAbs.div d.natAbs ≤ x.natAbs := Nat.div_le_self x.natAbs d.natAbs
  rw [← h1] at h2
  clear h1
  generalize Int.tdiv x d = q at *
  omega
theorem tdiv_sm {x d : Int} (h : -134217728 ≤ x ∧ x ≤ 134217728) : -134217728 ≤ Int.tdiv x d ∧ Int.tdiv x d ≤ 134217728 := by
  have := tdiv_bd (x := x) (d := d)
  generalize Int.tdiv x d = q at *
  omega
theorem wOut_len (P Q : List Int) (c n : Nat) : (wOut P Q c n).length = n := rowF_len ..
theorem wOut_cell {P Q : List Int} {c n : Nat} (hP : Sm P n) (hQ : Sm Q n) (hc : c < n) {j : Nat} (hj : j < n) :
    (-18014398509481984 ≤ P.getD j 0 * Int.tdiv (Q.getD c 0) (Int.gcd (P.getD c 0) (Q.getD c 0)) ∧ P.getD j 0 * Int.tdiv (Q.getD c 0) (Int.gcd (P.getD c 0) (Q.getD c 0)) ≤ 18014398509481984) ∧
    (-18014398509481984 ≤ Q.getD j 0 * Int.tdiv (P.getD c 0) (Int.gcd (P.getD c 0) (Q.getD c 0)) ∧ Q.getD j 0 * Int.tdiv (P.getD c 0) (Int.gcd (P.getD c 0) (Q.getD c 0)) ≤ 18014398509481984) :=
  ⟨mul_bd (hP.2 j hj) (tdiv_sm (hQ.2 c hc)), mul_bd (hQ.2 j hj) (tdiv_sm (hP.2 c hc))⟩
theorem wOut_ok {P Q : List Int} {c n : Nat} (hP : Sm P n) (hQ : Sm Q n) (hc : c < n) : pV (wOut P Q c n) = primV (wOut P Q c n) := by
  apply pV_ok
  intro j hj
  rw [wOut_len] at hj
  unfold wOut
  rw [rowF_getD hj]
  have := wOut_cell hP hQ hc hj
  unfold OkG
  omega
theorem pV_sm {P : List Int} {n : Nat} (h : Sm P n) : pV P = primV P := by
  apply pV_ok
  intro j hj
  have := h.2 j (by rw [← h.1]; exact hj)
  unfold OkG
  omega
theorem RedS.psm {n m c : Nat} {s : Red} (h : RedS n m s c) (hm : LimS n m s) {i : Nat} (hi : i < m) : Sm (primV (rowF n (s.R i))) n :=
  ⟨by rw [primV_len, rowF_len], fun _ hj => pcell_lim h hm hi hj⟩
end Go.Proofs.Ytdkpmaahinbhlaa
/- What spec.PrimitiveVector answers. No condition. -/
namespace Go.Proofs.Ytdkpmaahinbhlaa
open Go.RowKit

theorem wpList_copyV {w : World} {ops : Array Oper} {rest : List Oper} {o : Oper} {a : Act} {Q : Exit → Act → World → Prop} (hgd : o.guard = none) (s x : Operand) (ho : o.op = .call { callee := .builtin .append, args := #[s, x], argTypes := #[29, 29] })
    (g : Nat) (A : Option Addr) (zs : List Int) (cap lo hi : Nat) (hs : a.eval s = .slice (some ⟨g, 0, none⟩) 0 0) (hx : a.eval x = .slice A zs.length cap) (hz : IntsIn w lo hi A zs) (hn : zs.length ≤ 1048576)
    (h : ∀ A' c' w', OwnInts w' w.heap.size w'.heap.size A' c' zs → Below w.heap.size w w' → wpList Try.prog ops Q rest (a.put o.dst (.slice A' zs.length c')) w') : wpList Try.prog ops Q (o :: rest) a w :=
  wpList_plain hgd fun _ hK => wp_copyI s x ho g A zs cap lo hi hs hx hz hn fun A' c' w' h1 h2 => hK _ _ (h A' c' w' h1 h2)

set_option maxHeartbeats 4000000 in
set_option maxRecDepth 100000 in
theorem specPv (v : List Int) (A : Option Addr) (cap lo hi : Nat) (w : World) (hl : IntsIn w lo hi A v) (hn : v.length ≤ 1048576) :
    Calls Try.prog 74 #[.slice A v.length cap] w fun e w' => ∃ A' c', e = .returned (.slice A' (pV v).length c') ∧ OwnInts w' w.heap.size w'.heap.size A' c' (pV v) ∧ Below w.heap.size w w' := by
  have HL := Lib.hid hl
  have HAL := Lib.hid (new_below w (.cells #[] 3))
  have HLA := Lib.hid (hl.within (within_of HAL.out) (.inr (Nat.zero_le _)))
  have HOE := Lib.hid (ownR_empty w)
  have HSZ := Lib.hid (show (w.alloc (.cells #[] 3)).heap.size = w.heap.size + 1 by simp)
  clear hl
  obtain ⟨r, hr⟩ : ∃ r, pV v = r := ⟨_, rfl⟩
  rw [hr]
  have HR := Lib.hid hr
  clear hr
  go_enter Try.func74, Try.ntmps74
  go_wp2_with fail
  go_loopw [3, 4] (fun g i wr => w = wr ∧ ∃ k : Nat, k ≤ v.length ∧ i = .int .i64 k ∧ g = .int .i64 (gP v k) ∧ AllG v k) (fun _ i _ => v.length - (intOf i).toNat)
  case atStart => exact ⟨rfl, 0, by omega, rfl, rfl, fun j hj => absurd hj (Nat.not_lt_zero j)⟩
  case round =>
    obtain ⟨rfl, k, hk, rfl, rfl, hg⟩ := hrel
    have hgl := gP_le k hk hg
    have HG := Lib.hid hg
    clear hg
    by_cases hlt : k < v.length
    · have hki : (k : Int) < (v.length : Int) := by omega
      obtain ⟨bi, oi, rfl, _, _, hc⟩ := HL.out.2 (by omega)
      have c1 := hc k hlt
      clear hc
      have HNX := Lib.hid (gP_succ hlt)
      obtain ⟨x, hxv⟩ : ∃ x, v.getD k 0 = x := ⟨_, rfl⟩
      rw [hxv] at c1 HNX
      have HXV := Lib.hid hxv
      obtain ⟨gk, hgk⟩ : ∃ gk, gP v k = gk := ⟨_, rfl⟩
      rw [hgk] at hgl HNX ⊢
      clear hxv hgk
      by_cases hx : OkG x
      · have HX := Lib.hid hx
        have HLI := Lib.hid (l1In_g x w)
        rw [decide_eq_true hx] at HLI
        have HGC := Lib.hid (specGcd gk x w)
        have hgv : gcdV gk x = (gP v (k + 1) : Int) := by
          unfold gcdV
          rw [if_pos ⟨by unfold OkG; omega, hx⟩, HNX.out]
          rfl
        rw [hgv] at HGC
        clear hgv hx
        go_wp2_with fail
        refine HLI.out.mono ?_
        rintro e w3 ⟨rfl, rfl⟩
        go_wp2_with fail
        refine HGC.out.mono ?_
        rintro e w3 ⟨rfl, rfl⟩
        go_wp2_with fail
        go_roundw
        case rel => exact ⟨by simp, k + 1, by omega, by go_num, rfl, fun u hu => by
          by_cases e : u = k
          · subst e; rw [HXV.out]; exact HX.out
          · exact HG.out u (by omega)⟩
        case measure => simp [intOf]; omega
      · have HLI := Lib.hid (l1In_g x w)
        rw [decide_eq_false hx] at HLI
        have HE := Lib.hid (show r = v by rw [← HR.out]; exact pV_no fun h => hx (by have := h k hlt; rw [HXV.out] at this; exact this))
        clear hx
        go_wp2_with fail
        refine HLI.out.mono ?_
        rintro e w3 ⟨rfl, rfl⟩
        go_wp2_with (at_builtin; refine wpList_copyV rfl _ _ rfl w.heap.size _ v cap lo hi rfl rfl HLA.out hn ?_; intro A6 c6 w6 ho6 hb6; have HO6 := Lib.hid ho6; have HB6 := Lib.hid hb6; clear ho6 hb6)
        go_ret
        have hs1 := HAL.out.size
        rw [HE.out]
        exact ⟨A6, c6, rfl, HO6.out.widen hs1 (Nat.le_refl _) (Nat.le_refl _), HAL.out.trans (HB6.out.mono hs1)⟩
    · obtain rfl : k = v.length := by omega
      rw [gP_all] at hgl ⊢
      have HPV := Lib.hid (show r = primV v by rw [← HR.out]; exact pV_ok HG.out)
      by_cases h0 : gcdL v = 0
      · have h0' : ((gcdL v : Int) == 0) = true := by simp [h0]
        have HE := Lib.hid (show r = v by rw [HPV.out]; exact primV_zero h0)
        clear h0
        go_wp2_with (at_builtin; refine wpList_copyV rfl _ _ rfl w.heap.size _ v cap lo hi rfl rfl HLA.out hn ?_; intro A6 c6 w6 ho6 hb6; have HO6 := Lib.hid ho6; have HB6 := Lib.hid hb6; clear ho6 hb6)
        go_ret
        have hs1 := HAL.out.size
        rw [HE.out]
        exact ⟨A6, c6, rfl, HO6.out.widen hs1 (Nat.le_refl _) (Nat.le_refl _), HAL.out.trans (HB6.out.mono hs1)⟩
      · have h0' : ((gcdL v : Int) == 0) = false := by simp; omega
        have HE := Lib.hid (show r = rowF v.length fun j => Int.tdiv (v.getD j 0) (divZ v) by rw [HPV.out]; exact primV_row h0)
        have hfz : firstZ v ≠ 0 := fun h => h0 (gcdL_zero.2 (firstZ_zero.1 h))
        have HDZ := Lib.hid (divZ_nz h0)
        have HDV := Lib.hid (show divZ v = if firstZ v < 0 then -(gcdL v : Int) else gcdL v from rfl)
        obtain ⟨g, hgg⟩ : ∃ g, gcdL v = g := ⟨_, rfl⟩
        rw [hgg] at hgl h0' HDV ⊢
        clear hgg h0
        go_wp2_with fail
        go_loopw [5, 6] (fun f i wr => w = wr ∧ ∃ k : Nat, k ≤ v.length ∧ i = .int .i64 k ∧ f = .int .i64 (fP v k)) (fun _ i _ => v.length - (intOf i).toNat)
        case atStart => exact ⟨rfl, 0, by omega, rfl, rfl⟩
        case round =>
          obtain ⟨rfl, k, hk, rfl, rfl⟩ := hrel
          by_cases hlt : k < v.length
          · have hki : (k : Int) < (v.length : Int) := by omega
            obtain ⟨bi, oi, rfl, _, _, hc⟩ := HL.out.2 (by omega)
            have c1 := hc k hlt
            clear hc
            have HNX := Lib.hid (fP_succ hlt)
            obtain ⟨x, hxv⟩ : ∃ x, v.getD k 0 = x := ⟨_, rfl⟩
            rw [hxv] at c1 HNX
            obtain ⟨f, hf⟩ : ∃ f, fP v k = f := ⟨_, rfl⟩
            rw [hf] at HNX ⊢
            clear hxv hf
            by_cases hf0 : f = 0
            · have hf0' : (f == 0) = true := by simp [hf0]
              have HN := Lib.hid (show fP v (k + 1) = x by rw [HNX.out, if_pos hf0])
              clear hf0
              go_wp2_with fail
              go_roundw
              case rel => exact ⟨by simp, k + 1, by omega, by go_num, by rw [HN.out]⟩
              case measure => simp [intOf]; omega
            · have hf0' : (f == 0) = false := by simp [hf0]
              have HN := Lib.hid (show fP v (k + 1) = f by rw [HNX.out, if_neg hf0])
              clear hf0
              go_wp2_with fail
              go_roundw
              case rel => exact ⟨by simp, k + 1, by omega, by go_num, by rw [HN.out]⟩
              case measure => simp [intOf]; omega
          · obtain rfl : k = v.length := by omega
            rw [fP_all]
            have HDV2 := Lib.hid HDV.out
            obtain ⟨f, hf⟩ : ∃ f, firstZ v = f := ⟨_, rfl⟩
            rw [hf] at hfz HDV ⊢
            clear hf
            by_cases hneg : f < 0
            · skip
              clear hfz
              have hAG := HG.out
              have HGG := Lib.hid hAG
              clear hAG
              have HSZ2 := HSZ.out
              have HEL := Lib.hid (show r.length = v.length by rw [HE.out, rowF_len])
              have HG0 := Lib.hid (show GrowP w.heap.size (w.heap.size + 1) (w.alloc (.cells #[] 3)) (w.alloc (.cells #[] 3)) (rowF 0 fun j => Int.tdiv (v.getD j 0) (divZ v)) (some ⟨w.heap.size, 0, none⟩) 0 w.heap.size (w.heap.size + 1) from ⟨HOE.out, .inl ⟨rfl, rfl⟩, (by omega), Within.refl _ _ _⟩)
              obtain ⟨d, hng⟩ : ∃ d, -(g : Int) = d := ⟨_, rfl⟩
              have HDN := Lib.hid (show divZ v = d by rw [HDV.out, if_pos hneg, hng])
              have hd0 : (d != 0) = true := by simp at h0' ⊢; omega
              have hs0 : decide (f < 0) = true := by simpa using hneg
              have hgz : ¬ d = 0 := by simpa using hd0
              clear hneg
              go_wp2_with fail
              generalize w.alloc (.cells #[] 3) = wA at *
              go_loopw [7, 8] (fun o i w' => ∃ (k lo3 hi3 : Nat) (Ar : Option Addr) (cr : Nat), k ≤ v.length ∧ i = .int .i64 k ∧ o = .slice Ar (rowF k fun j => Int.tdiv (v.getD j 0) (divZ v)).length cr ∧ GrowP w.heap.size (w.heap.size + 1) wA w' (rowF k fun j => Int.tdiv (v.getD j 0) (divZ v)) Ar cr lo3 hi3) (fun _ i _ => v.length - (intOf i).toNat)
              case atStart => exact ⟨0, _, _, _, _, by omega, rfl, rfl, HG0.out⟩
              case round =>
                obtain ⟨k, lo3, hi3, Ar, cr, hk, rfl, rfl, hgp⟩ := hrel
                have HGP := Lib.hid hgp
                have hbw2 := within_on HAL.out hgp.wi HAL.out.size (.inl (Nat.le_refl _))
                have HBX := Lib.hid hbw2
                clear hgp hbw2
                have HSTEP := Lib.hid (rowF_succ k fun j => Int.tdiv (v.getD j 0) (divZ v))
                have hlk : (rowF k fun j => Int.tdiv (v.getD j 0) (divZ v)).length ≤ 1048576 := by rw [rowF_len]; omega
                have HEQ := Lib.hid (fun h : k = v.length => (show (rowF k fun j => Int.tdiv (v.getD j 0) (divZ v)) = r by rw [HE.out, h]))
                obtain ⟨ys, hys⟩ : ∃ ys, (rowF k fun j => Int.tdiv (v.getD j 0) (divZ v)) = ys := ⟨_, rfl⟩
                rw [hys] at HGP hlk HSTEP HEQ ⊢
                clear hys
                by_cases hlt : k < v.length
                · have hki : (k : Int) < (v.length : Int) := by omega
                  have hvi := HL.out.within (within_of HBX.out) (.inr (Nat.zero_le _))
                  obtain ⟨bi, oi, rfl, _, _, hc⟩ := hvi.2 (by omega)
                  have c1 := hc k hlt
                  have hxg := HGG.out k hlt
                  rw [HDN.out] at HSTEP
                  obtain ⟨x, hxv⟩ : ∃ x, v.getD k 0 = x := ⟨_, rfl⟩
                  rw [hxv] at c1 HSTEP hxg
                  obtain ⟨q, hq⟩ : ∃ q, Int.tdiv x d = q := ⟨_, rfl⟩
                  have hqg := quo_ok (d := d) hxg (by rw [← HDN.out]; exact HDZ.out)
                  rw [hq] at HSTEP hqg
                  have hqw : IntKind.i64.wrap (Int.tdiv x d) = q := by rw [hq]; exact IntWalk.i64_in _ (by unfold OkG at hqg; omega)
                  have HQ := Lib.hid hqg
                  clear hc hvi hxv hq hqg hxg
                  go_wp2_with (at_builtin; refine wpList_pushR _ rfl _ _ rfl lo3 hi3 Ar cr ys q rfl HGP.out.row _ (by first | rfl | (simp only [World.size_setCell]; rfl)) (by omega) HGP.out.le ?_; intro A6 c6 w16 lo6 hi6 hr6 hor6 hw6; have HG6 := Lib.hid (HGP.out.push hr6 hor6 hw6); clear hr6 hor6 hw6)
                  go_roundw
                  case rel => exact ⟨k + 1, lo6, hi6, A6, c6, by omega, by go_num, by rw [HDN.out, HSTEP.out, List.length_append]; rfl, by rw [HDN.out, HSTEP.out]; exact HG6.out⟩
                  case measure => simp [intOf]; omega
                · have hkv : k = v.length := by omega
                  have HY := Lib.hid (HEQ.out hkv)
                  subst hkv
                  go_wp2_with fail
                  go_ret
                  have hs2 := HBX.out.size
                  rw [← HY.out]
                  exact ⟨Ar, cr, rfl, HGP.out.out (Nat.le_refl _) HAL.out.size, HBX.out⟩
            · skip
              clear hfz
              have hAG := HG.out
              have HGG := Lib.hid hAG
              clear hAG
              have HSZ2 := HSZ.out
              have HEL := Lib.hid (show r.length = v.length by rw [HE.out, rowF_len])
              have HG0 := Lib.hid (show GrowP w.heap.size (w.heap.size + 1) (w.alloc (.cells #[] 3)) (w.alloc (.cells #[] 3)) (rowF 0 fun j => Int.tdiv (v.getD j 0) (divZ v)) (some ⟨w.heap.size, 0, none⟩) 0 w.heap.size (w.heap.size + 1) from ⟨HOE.out, .inl ⟨rfl, rfl⟩, (by omega), Within.refl _ _ _⟩)
              have HDN := Lib.hid (show divZ v = (g : Int) by rw [HDV.out, if_neg (by omega)])
              have hd0 : ((g : Int) != 0) = true := by simpa using h0'
              have hs0 : decide (f < 0) = false := by simpa using hneg
              have hgz : ¬ (g : Int) = 0 := by simpa using hd0
              clear hneg
              go_wp2_with fail
              generalize w.alloc (.cells #[] 3) = wA at *
              go_loopw [7, 8] (fun o i w' => ∃ (k lo3 hi3 : Nat) (Ar : Option Addr) (cr : Nat), k ≤ v.length ∧ i = .int .i64 k ∧ o = .slice Ar (rowF k fun j => Int.tdiv (v.getD j 0) (divZ v)).length cr ∧ GrowP w.heap.size (w.heap.size + 1) wA w' (rowF k fun j => Int.tdiv (v.getD j 0) (divZ v)) Ar cr lo3 hi3) (fun _ i _ => v.length - (intOf i).toNat)
              case atStart => exact ⟨0, _, _, _, _, by omega, rfl, rfl, HG0.out⟩
              case round =>
                obtain ⟨k, lo3, hi3, Ar, cr, hk, rfl, rfl, hgp⟩ := hrel
                have HGP := Lib.hid hgp
                have hbw2 := within_on HAL.out hgp.wi HAL.out.size (.inl (Nat.le_refl _))
                have HBX := Lib.hid hbw2
                clear hgp hbw2
                have HSTEP := Lib.hid (rowF_succ k fun j => Int.tdiv (v.getD j 0) (divZ v))
                have hlk : (rowF k fun j => Int.tdiv (v.getD j 0) (divZ v)).length ≤ 1048576 := by rw [rowF_len]; omega
                have HEQ := Lib.hid (fun h : k = v.length => (show (rowF k fun j => Int.tdiv (v.getD j 0) (divZ v)) = r by rw [HE.out, h]))
                obtain ⟨ys, hys⟩ : ∃ ys, (rowF k fun j => Int.tdiv (v.getD j 0) (divZ v)) = ys := ⟨_, rfl⟩
                rw [hys] at HGP hlk HSTEP HEQ ⊢
                clear hys
                by_cases hlt : k < v.length
                · have hki : (k : Int) < (v.length : Int) := by omega
                  have hvi := HL.out.within (within_of HBX.out) (.inr (Nat.zero_le _))
                  obtain ⟨bi, oi, rfl, _, _, hc⟩ := hvi.2 (by omega)
                  have c1 := hc k hlt
                  have hxg := HGG.out k hlt
                  rw [HDN.out] at HSTEP
                  obtain ⟨x, hxv⟩ : ∃ x, v.getD k 0 = x := ⟨_, rfl⟩
                  rw [hxv] at c1 HSTEP hxg
                  obtain ⟨q, hq⟩ : ∃ q, Int.tdiv x (g : Int) = q := ⟨_, rfl⟩
                  have hqg := quo_ok (d := (g : Int)) hxg (by rw [← HDN.out]; exact HDZ.out)
                  rw [hq] at HSTEP hqg
                  have hqw : IntKind.i64.wrap (Int.tdiv x (g : Int)) = q := by rw [hq]; exact IntWalk.i64_in _ (by unfold OkG at hqg; omega)
                  have HQ := Lib.hid hqg
                  clear hc hvi hxv hq hqg hxg
                  go_wp2_with (at_builtin; refine wpList_pushR _ rfl _ _ rfl lo3 hi3 Ar cr ys q rfl HGP.out.row _ (by first | rfl | (simp only [World.size_setCell]; rfl)) (by omega) HGP.out.le ?_; intro A6 c6 w16 lo6 hi6 hr6 hor6 hw6; have HG6 := Lib.hid (HGP.out.push hr6 hor6 hw6); clear hr6 hor6 hw6)
                  go_roundw
                  case rel => exact ⟨k + 1, lo6, hi6, A6, c6, by omega, by go_num, by rw [HDN.out, HSTEP.out, List.length_append]; rfl, by rw [HDN.out, HSTEP.out]; exact HG6.out⟩
                  case measure => simp [intOf]; omega
                · have hkv : k = v.length := by omega
                  have HY := Lib.hid (HEQ.out hkv)
                  subst hkv
                  go_wp2_with fail
                  go_ret
                  have hs2 := HBX.out.size
                  rw [← HY.out]
                  exact ⟨Ar, cr, rfl, HGP.out.out (Nat.le_refl _) HAL.out.size, HBX.out⟩
end Go.Proofs.Ytdkpmaahinbhlaa
/- An append of one number, in a region that draws its order. No condition. -/
namespace Go.Proofs.Ytdkpmaahinbhlaa
open Go.RowKit

/-- An append of one number, in a region that draws its order. -/
theorem step_pushZ (w : World) {ops : Array Oper} {o : Oper} {a : Act} {K : Act → World → Prop} {Q : Exit → Act → World → Prop} {E : Prop} (hgd : o.guard = none) (s x : Operand)
    (ho : o.op = .call { callee := .builtin .append, args := #[s, x], argTypes := #[29, 29] }) (lo hi : Nat) (A : Option Addr) (cap : Nat) (zs : List Int) (y : Int) (hs : a.eval s = .slice A zs.length cap) (hr : OwnR w lo hi A cap zs)
    (tb : TypeId) (hx : a.eval x = .slice (some ⟨w.heap.size, 0, none⟩) 1 1) (hn : zs.length ≤ 1048576) (hlo : lo ≤ w.heap.size)
    (h : ∀ A' c' w' lo' hi', OwnR w' lo' hi' A' c' (zs ++ [y]) → ((lo' = lo ∧ hi' = hi) ∨ (w.heap.size ≤ lo' ∧ lo' ≤ w'.heap.size ∧ hi' ≤ w'.heap.size)) → Within lo hi w w' → K (a.put o.dst (.slice A' (zs.length + 1) c')) w') : if Region.wanted o (yielded ops a.tmps) = true then Oper.wp Try.prog o a (w.alloc (.cells #[.int .i64 y] tb)) K Q else E := by
  have hwt : Region.wanted o (yielded ops a.tmps) = true := by simp [Region.wanted, hgd]
  rw [if_pos hwt]
  have hlen : (zs ++ [y]).length = zs.length + 1 := by simp
  have hcells : intCells (zs ++ [y]) = intCells zs ++ [.int .i64 y] := by simp [intCells]
  obtain ⟨i, hi0, hz0, hz1, hz2⟩ := info_parts infoInt
  obtain ⟨v', w', hrun, hown, hg, _, hat⟩ := run_append_own_at (P := Try.prog) (w.alloc (.cells #[.int .i64 y] tb)) lo 29 o.type 3 i (.int .i64 0) 1 8 Try.underlying29 hi0 hz0 hz1 hz2 rfl (by decide) _ zs.length (intCells zs) (hr.row.alloc _) ⟨w.heap.size, 0, none⟩ 1 1 [.int .i64 y] rfl (cell_one_new w _ _) (by simp [Value.oneCell']) (by unfold maxLen; omega) (by omega) (by simp; omega)
  unfold Oper.wp execOp
  simp only [ho, resolve, invoke, builtin, Sem.run_bind, Sem.run_pure, Result.andThen_ok, List.map_toArray, List.map_cons, List.map_nil, hs, hx, hrun]
  obtain ⟨A', c', rfl⟩ := own_shape hown
  rw [← hcells, ← hlen] at hown
  rw [← hlen] at hat ⊢
  have hg := (World.grownBy_alloc w (.cells #[.int .i64 y] tb) (Value.slice A zs.length cap).ownBlock).trans_ hg
  have hw : Within lo hi w w' := ⟨hg.os, hg.tape, hg.output, hg.size, fun k hk hd => hg.block k hk fun e => by
    rcases hr.2 with ⟨rfl, rfl, rfl⟩ | ⟨g, rfl, g1, g2, _⟩
    · cases e
    · have : k = g := by simpa [Value.ownBlock] using e
      omega⟩
  rcases hown.2 with ⟨_, e0⟩ | ⟨g', cap', cur, e1, _⟩
  · rw [hlen] at e0; omega
  · injection e1 with q1 q2 q3
    subst q1
    have hlt := hown.lt g' rfl
    have hat : (Value.slice (some ⟨g', 0, none⟩) (zs ++ [y]).length c').ownBlock = (Value.slice A zs.length cap).ownBlock ∨ (Value.slice (some ⟨g', 0, none⟩) (zs ++ [y]).length c').ownBlock = some (w.heap.size + 1) := by simpa using hat
    rcases hat with e | e
    · rcases hr.2 with ⟨rfl, rfl, rfl⟩ | ⟨g, rfl, g1, g2, _⟩
      · cases e
      · have : g' = g := by simpa [Value.ownBlock] using e
        subst this
        have := h _ c' w' lo hi ⟨Nat.le_trans hr.1 hg.size, .inr ⟨g', rfl, g1, g2, hown⟩⟩ (.inl ⟨rfl, rfl⟩) hw
        rwa [← hlen] at this
    · have : g' = w.heap.size + 1 := by simpa [Value.ownBlock] using e
      have := h _ c' w' g' (g' + 1) ⟨hlt.2, .inr ⟨g', rfl, Nat.le_refl _, by omega, own_rebase hown (Nat.le_refl _)⟩⟩ (.inr ⟨by omega, by omega, hlt.2⟩) hw
      rwa [← hlen] at this
end Go.Proofs.Ytdkpmaahinbhlaa
/- What spec.l9Without and l9Clean answer. No condition. -/
namespace Go.Proofs.Ytdkpmaahinbhlaa
open Go.RowKit

theorem clean_c (v : List Int) (A : Option Addr) (cap lo hi : Nat) (w : World) (hl : IntsIn w lo hi A v) (hn : v.length ≤ 1048576) :
    Calls Try.prog 201 #[.slice A v.length cap] w fun e w' => ∃ A' c', e = .returned (.slice A' (pV v).length c') ∧ OwnInts w' w.heap.size w'.heap.size A' c' (pV v) ∧ Below w.heap.size w w' := by
  have HP := Lib.hid (specPv v A cap lo hi w hl hn)
  clear hl
  go_enter Try.func201, Try.ntmps201
  go_wp2_with fail
  refine HP.out.mono ?_
  rintro e w1 ⟨A2, c2, rfl, ho, hb⟩
  have HO := Lib.hid ho
  have HB := Lib.hid hb
  clear ho hb
  go_wp2_with fail
  go_ret
  exact ⟨A2, c2, rfl, HO.out, HB.out⟩

set_option maxHeartbeats 4000000 in
set_option maxRecDepth 100000 in
theorem wout_c (P Q : List Int) (c n : Nat) (A1 A2 : Option Addr) (c1 c2 l1 h1 l2 h2 : Nat) (w : World) (hl1 : IntsIn w l1 h1 A1 P) (hl2 : IntsIn w l2 h2 A2 Q) (hP : Sm P n) (hQ : Sm Q n) (hc : c < n) (hn : n ≤ 12) (hz : Q.getD c 0 ≠ 0) :
    Calls Try.prog 202 #[.slice A1 n c1, .slice A2 n c2, .int .i64 c] w fun e w' => ∃ A' c', e = .returned (.slice A' n c') ∧ OwnInts w' w.heap.size w'.heap.size A' c' (primV (wOut P Q c n)) ∧ Below w.heap.size w w' := by
  have hP1 := hP.1
  have hQ1 := hQ.1
  obtain ⟨b1, o1, rfl, _, q1, hc1⟩ := hl1.2 (by omega)
  obtain ⟨b2, o2, rfl, _, q2, hc2⟩ := hl2.2 (by omega)
  have hb1 : b1 < w.heap.size := Nat.lt_of_lt_of_le q1 hl1.1
  have hb2 : b2 < w.heap.size := Nat.lt_of_lt_of_le q2 hl2.1
  have d1 := hc1 c (by omega)
  have d2 := hc2 c (by omega)
  have HC1 := Lib.hid hc1
  have HC2 := Lib.hid hc2
  have HPV := Lib.hid (show pV (wOut P Q c n) = primV (wOut P Q c n) from wOut_ok hP hQ hc)
  have HW := Lib.hid (show wOut P Q c n = rowF n fun j => P.getD j 0 * Int.tdiv (Q.getD c 0) (Int.gcd (P.getD c 0) (Q.getD c 0)) - Q.getD j 0 * Int.tdiv (P.getD c 0) (Int.gcd (P.getD c 0) (Q.getD c 0)) from rfl)
  have HBD := Lib.hid (fun (j : Nat) (hj : j < n) => wOut_cell hP hQ hc hj)
  have hpc := hP.2 c hc
  have hqc := hQ.2 c hc
  have HPL := Lib.hid hP1
  have HQL := Lib.hid hQ1
  clear hc1 hc2 hl1 hl2 q1 q2
  obtain ⟨r, hr⟩ : ∃ r, wOut P Q c n = r := ⟨_, rfl⟩
  have HRL := Lib.hid (show r.length = n by rw [← hr]; exact wOut_len ..)
  rw [hr] at HPV HW ⊢
  clear hr
  obtain ⟨x, hx⟩ : ∃ x, P.getD c 0 = x := ⟨_, rfl⟩
  obtain ⟨y, hy⟩ : ∃ y, Q.getD c 0 = y := ⟨_, rfl⟩
  rw [hx] at d1 hpc HW HBD
  rw [hy] at d2 hqc HW HBD hz
  clear hx hy hP hQ hP1 hQ1
  have hg0 : Int.gcd x y ≠ 0 := fun h => hz (Int.gcd_eq_zero_iff.1 h).2
  have hgv : gcdV x y = (Int.gcd x y : Int) := if_pos ⟨by unfold OkG; omega, by unfold OkG; omega⟩
  have HGC := Lib.hid (fun W : World => specGcd x y W)
  rw [hgv] at HGC
  obtain ⟨g, hg⟩ : ∃ g : Int, (Int.gcd x y : Int) = g := ⟨_, rfl⟩
  have hgz : ¬ g = 0 := by omega
  have hgz' : (g != 0) = true := by simpa using hgz
  rw [hg] at HGC HW HBD
  have k1 := tdiv_sm (d := g) hqc
  have k2 := tdiv_sm (d := g) hpc
  obtain ⟨u, hu⟩ : ∃ u, Int.tdiv y g = u := ⟨_, rfl⟩
  obtain ⟨v, hv⟩ : ∃ v, Int.tdiv x g = v := ⟨_, rfl⟩
  rw [hu] at k1 HW HBD
  rw [hv] at k2 HW HBD
  have e1 : IntKind.i64.wrap (Int.tdiv y g) = u := by rw [hu]; exact IntWalk.i64_in _ (by omega)
  have e2 : IntKind.i64.wrap (Int.tdiv x g) = v := by rw [hv]; exact IntWalk.i64_in _ (by omega)
  clear hg hgv hg0 hu hv hz
  have hci : (c : Int) < (n : Int) := by omega
  go_enter Try.func202, Try.ntmps202
  go_wp2_with fail
  go_still_tail 8, (by kernel_rfl)
  change wpList _ _ _ _ _ w.drew
  have d1' : w.drew.cell? ⟨b1, o1 + c, none⟩ = some (.int .i64 x) := d1
  have d2' : w.drew.cell? ⟨b2, o2 + c, none⟩ = some (.int .i64 y) := d2
  have HBD0 := Lib.hid (show Below w.heap.size w w.drew from (Below.refl _ _).drew)
  have HSS := Lib.hid (show w.drew.heap.size = w.heap.size from rfl)
  generalize w.drew = wd at *
  go_wp2_with fail
  refine (HGC.out _).mono ?_
  rintro e w1 ⟨rfl, rfl⟩
  have hal := new_below wd (.cells #[] 3)
  have HAL := Lib.hid hal
  have HB1 := Lib.hid (HBD0.out.trans (hal.mono (by rw [HSS.out]; exact Nat.le_refl _)))
  have HOE := Lib.hid (ownR_empty wd)
  have HSZ := Lib.hid (show (wd.alloc (.cells #[] 3)).heap.size = wd.heap.size + 1 by simp)
  have HG0 := Lib.hid (show GrowP wd.heap.size (wd.heap.size + 1) (wd.alloc (.cells #[] 3)) (wd.alloc (.cells #[] 3)) (rowF 0 fun j => P.getD j 0 * u - Q.getD j 0 * v) (some ⟨wd.heap.size, 0, none⟩) 0 wd.heap.size (wd.heap.size + 1) from ⟨HOE.out, .inl ⟨rfl, rfl⟩, (by have := HSZ.out; omega), Within.refl _ _ _⟩)
  clear hal
  go_wp2_with fail
  clear d1 d2 d1' d2'
  generalize wd.alloc (.cells #[] 3) = wA at *
  go_loopw [10, 11] (fun o i w' => ∃ (k lo3 hi3 : Nat) (Ar : Option Addr) (cr : Nat), k ≤ n ∧ i = .int .i64 k ∧ o = .slice Ar (rowF k fun j => P.getD j 0 * u - Q.getD j 0 * v).length cr ∧ OwnR w' lo3 hi3 Ar cr (rowF k fun j => P.getD j 0 * u - Q.getD j 0 * v) ∧ (w.heap.size ≤ lo3 ∧ lo3 ≤ w'.heap.size) ∧ Below w.heap.size w w') (fun _ i _ => n - (intOf i).toNat)
  case atStart => exact ⟨0, _, _, _, _, by omega, rfl, rfl, HG0.out.row, ⟨by rw [HSS.out]; exact Nat.le_refl _, (by have := HSZ.out; have := HSS.out; omega)⟩, HB1.out⟩
  case round =>
    obtain ⟨k, lo3, hi3, Ar, cr, hk, rfl, rfl, ho, hlo3, hb⟩ := hrel
    have HO := Lib.hid ho
    have HB := Lib.hid hb
    clear ho hb
    have HSTEP := Lib.hid (rowF_succ k fun j => P.getD j 0 * u - Q.getD j 0 * v)
    have hlk : (rowF k fun j => P.getD j 0 * u - Q.getD j 0 * v).length ≤ 1048576 := by rw [rowF_len]; omega
    have HEQ := Lib.hid (fun h : k = n => (show (rowF k fun j => P.getD j 0 * u - Q.getD j 0 * v) = r by rw [HW.out, h]))
    obtain ⟨ys, hys⟩ : ∃ ys, (rowF k fun j => P.getD j 0 * u - Q.getD j 0 * v) = ys := ⟨_, rfl⟩
    rw [hys] at HO hlk HSTEP HEQ ⊢
    clear hys
    by_cases hlt : k < n
    · have hki : (k : Int) < (n : Int) := by omega
      have d1 := (HB.out.cell (p := ⟨b1, o1 + k, none⟩) hb1).trans (HC1.out k (by have := HPL.out; omega))
      have d2 := (HB.out.cell (p := ⟨b2, o2 + k, none⟩) hb2).trans (HC2.out k (by have := HQL.out; omega))
      have hbd := HBD.out k hlt
      obtain ⟨p, hp⟩ : ∃ p, P.getD k 0 = p := ⟨_, rfl⟩
      obtain ⟨q, hq⟩ : ∃ q, Q.getD k 0 = q := ⟨_, rfl⟩
      rw [hp] at d1 hbd HSTEP
      rw [hq] at d2 hbd HSTEP
      obtain ⟨pu, hpu⟩ : ∃ pu, p * u = pu := ⟨_, rfl⟩
      obtain ⟨qv, hqv⟩ : ∃ qv, q * v = qv := ⟨_, rfl⟩
      rw [hpu, hqv] at hbd HSTEP
      have f1 : IntKind.i64.wrap (p * u) = pu := by rw [hpu]; exact IntWalk.i64_in _ (by omega)
      have f2 : IntKind.i64.wrap (q * v) = qv := by rw [hqv]; exact IntWalk.i64_in _ (by omega)
      have hbd2 : -18014398509481984 ≤ pu ∧ pu ≤ 18014398509481984 := hbd.1
      have hbd3 : -18014398509481984 ≤ qv ∧ qv ≤ 18014398509481984 := hbd.2
      obtain ⟨z, hz⟩ : ∃ z, pu - qv = z := ⟨_, rfl⟩
      have f3 : IntKind.i64.wrap (pu - qv) = z := by rw [hz]; exact IntWalk.i64_in _ (by omega)
      rw [hz] at HSTEP
      clear hz
      have HBD2 := Lib.hid HB.out.drew
      have HOD := Lib.hid (show OwnR wr.drew lo3 hi3 Ar cr ys from HO.out)
      clear hp hq hpu hqv hbd
      go_wp2_with fail
      go_region_law (refine step_pushZ wr.drew (by rfl) _ _ (by rfl) lo3 hi3 Ar cr ys z (by rfl) HOD.out _ (by rfl) (by omega) hlo3.2 ?_; intro A6 c6 w16 lo6 hi6 hr6 hor6 hw6; have HR6 := Lib.hid hr6; have HOR := Lib.hid hor6; have HW6 := Lib.hid hw6; clear hr6 hor6 hw6)
      all_goals
        go_wp2_with fail
        go_roundw
        case rel => exact ⟨k + 1, lo6, hi6, A6, c6, by omega, by go_num, by rw [HSTEP.out, List.length_append]; rfl, by rw [HSTEP.out]; exact HR6.out, (by have := HOR.out; have := HW6.out.size; have : wr.drew.heap.size = wr.heap.size := rfl; omega), within_on HBD2.out HW6.out HBD2.out.size (.inl hlo3.1)⟩
        case measure => simp [intOf]; omega
    · obtain rfl : k = n := by omega
      have HE := Lib.hid (HEQ.out rfl)
      have hyl : ys.length = k := by rw [HE.out, HRL.out]
      have HCL := Lib.hid (clean_c ys Ar cr lo3 hi3 wr HO.out.ints.reads hlk)
      have HYL := Lib.hid hyl
      clear hyl
      go_wp2_with fail
      refine HCL.out.mono ?_
      rintro e w5 ⟨A5, c5, rfl, ho5, hb5⟩
      have HO5 := Lib.hid ho5
      have HB5 := Lib.hid (below_on HB.out hb5 HB.out.size)
      have hs5 := HB.out.size
      have hs6 := hb5.size
      clear ho5 hb5
      go_wp2_with fail
      go_ret
      refine ⟨A5, c5, by rw [pV_len, HYL.out]; rfl, ?_, HB5.out⟩
      have := HO5.out
      rw [HE.out, HPV.out] at this
      exact this.widen hs5 (Nat.le_refl _) (Nat.le_refl _)
end Go.Proofs.Ytdkpmaahinbhlaa
/- What stands in memory while spec.l9Reduced runs: the rows, their row, and the columns. No program's walk. No condition. -/
namespace Go.Proofs.Ytdkpmaahinbhlaa
open Go.RowKit

structure RedW (W : World) (B gh cap m n : Nat) (S : Nat → Option Addr × Nat) (P : Nat → List Int) (Ac : Option Addr) (cc clo chi : Nat) (cs : List Int) : Prop where
  own : W.ownsRow B 29 1 (.slice (some ⟨gh, 0, none⟩) m cap) m ((List.range m).map fun i => .slice (S i).1 n (S i).2)
  row : ∀ i, i < m → (P i).length = n ∧ ∃ r : Nat × Nat, IntsIn W r.1 r.2 (S i).1 (P i) ∧ B ≤ r.1 ∧ (gh < r.1 ∨ r.2 ≤ gh) ∧ (r.2 ≤ clo ∨ chi ≤ r.1)
  col : OwnR W clo chi Ac cc cs
  sep : gh < clo ∨ chi ≤ gh
  bnd : B ≤ clo ∧ clo ≤ W.heap.size
theorem RedW.lt {W : World} {B gh cap m n : Nat} {S : Nat → Option Addr × Nat} {P : Nat → List Int} {Ac : Option Addr} {cc clo chi : Nat} {cs : List Int} (h : RedW W B gh cap m n S P Ac cc clo chi cs) : B ≤ gh ∧ gh < W.heap.size := World.ownsRow.lt h.own gh rfl
theorem RedW.head {W : World} {B gh cap m n : Nat} {S : Nat → Option Addr × Nat} {P : Nat → List Int} {Ac : Option Addr} {cc clo chi : Nat} {cs : List Int} (h : RedW W B gh cap m n S P Ac cc clo chi cs) {i : Nat} (hi : i < m) : W.cell? ⟨gh, i, none⟩ = some (.slice (S i).1 n (S i).2) := by
  have := World.ownsRow.cellAt h.own i (by omega)
  rw [List.getElem?_map, List.getElem?_range hi] at this
  exact this
theorem RedW.num {W : World} {B gh cap m n : Nat} {S : Nat → Option Addr × Nat} {P : Nat → List Int} {Ac : Option Addr} {cc clo chi : Nat} {cs : List Int} (h : RedW W B gh cap m n S P Ac cc clo chi cs) {i j : Nat} (hi : i < m) (hj : j < n) :
    ∃ bi oi, (S i).1 = some ⟨bi, oi, none⟩ ∧ W.cell? ⟨bi, oi + j, none⟩ = some (.int .i64 ((P i).getD j 0)) := by
  obtain ⟨hl, r, hI, _⟩ := h.row i hi
  obtain ⟨bi, oi, e, _, _, hc⟩ := hI.2 (by omega)
  exact ⟨bi, oi, e, hc j (by omega)⟩
theorem own_blk {W W' : World} {B gh cap m : Nat} {t : TypeId} {xs : List Value} (h : W.ownsRow B t 1 (.slice (some ⟨gh, 0, none⟩) m cap) m xs) (e : W'.heap[gh]? = W.heap[gh]?) : W'.ownsRow B t 1 (.slice (some ⟨gh, 0, none⟩) m cap) m xs := by
  obtain ⟨l1, l2⟩ := h
  refine ⟨l1, ?_⟩
  rcases l2 with l2 | ⟨g2, c2, cur, e1, e2, e3, e4⟩
  · cases l2.1
  · cases e1
    exact .inr ⟨gh, cap, cur, rfl, e2, e.trans e3, e4⟩
theorem RedW.below {W W' : World} {B gh cap m n : Nat} {S : Nat → Option Addr × Nat} {P : Nat → List Int} {Ac : Option Addr} {cc clo chi : Nat} {cs : List Int} (h : RedW W B gh cap m n S P Ac cc clo chi cs) (hb : Below W.heap.size W W') : RedW W' B gh cap m n S P Ac cc clo chi cs := by
  have hl := h.lt
  refine ⟨own_blk h.own (hb.block gh hl.2), fun i hi => ?_, h.col.within (within_of hb) (.inr (Nat.zero_le _)), h.sep, h.bnd.1, Nat.le_trans h.bnd.2 hb.size⟩
  obtain ⟨h1, r, h2, h3⟩ := h.row i hi
  exact ⟨h1, r, h2.within (within_of hb) (.inr (Nat.zero_le _)), h3⟩
def updA {α : Type} (f : Nat → α) (i : Nat) (x : α) : Nat → α := fun j => if j = i then x else f j
/-- Another row put in its place. -/
theorem RedW.put {W : World} {B gh cap m n : Nat} {S : Nat → Option Addr × Nat} {P : Nat → List Int} {Ac : Option Addr} {cc clo chi : Nat} {cs : List Int} (h : RedW W B gh cap m n S P Ac cc clo chi cs) {i : Nat} (_hi : i < m) {A' : Option Addr} {c' : Nat} {Z : List Int}
    (hZ : Z.length = n) (hr : ∃ r : Nat × Nat, IntsIn W r.1 r.2 A' Z ∧ B ≤ r.1 ∧ (gh < r.1 ∨ r.2 ≤ gh) ∧ (r.2 ≤ clo ∨ chi ≤ r.1)) :
    RedW (W.setCell ⟨gh, i, none⟩ (.slice A' n c')) B gh cap m n (updA S i (A', c')) (updA P i Z) Ac cc clo chi cs ∧ Within gh (gh + 1) W (W.setCell ⟨gh, i, none⟩ (.slice A' n c')) := by
  have hst := World.ownsRow.stored h.own i (.slice A' n c')
  have hw : Within gh (gh + 1) W (W.setCell ⟨gh, i, none⟩ (.slice A' n c')) := ⟨hst.2.os, hst.2.tape, hst.2.output, hst.2.size, fun k hk hd => hst.2.block k hk (by simp; omega)⟩
  refine ⟨⟨?_, fun k hk => ?_, ?_, h.sep, h.bnd.1, Nat.le_trans h.bnd.2 hw.size⟩, hw⟩
  · have e : ((List.range m).map fun i => Value.slice (S i).1 n (S i).2).set i (.slice A' n c') = (List.range m).map fun k => Value.slice (updA S i (A', c') k).1 n (updA S i (A', c') k).2 := by
      apply List.ext_getElem (by simp)
      intro k h1 h2
      have r1 : ((List.range m).map fun k => Value.slice (updA S i (A', c') k).1 n (updA S i (A', c') k).2)[k]'h2 = Value.slice (updA S i (A', c') k).1 n (updA S i (A', c') k).2 := by
        rw [List.getElem_map, List.getElem_range]
      rw [r1, List.getElem_set]
      by_cases e : i = k
      · subst e; rw [if_pos rfl, updA, if_pos rfl]
      · rw [if_neg e, updA, if_neg (fun h => e h.symm), List.getElem_map, List.getElem_range]
    rw [← e]; exact hst.1
  · obtain ⟨h1, r, h2, h3, h4, h5⟩ := h.row k hk
    unfold updA
    by_cases e : k = i
    · rw [if_pos e, if_pos e]
      obtain ⟨q, q1, q2, q3, q4⟩ := hr
      exact ⟨hZ, q, q1.within hw (by omega), q2, q3, q4⟩
    · rw [if_neg e, if_neg e]
      exact ⟨h1, r, h2.within hw (by omega), h3, h4, h5⟩
  · have := h.sep
    exact h.col.within hw (by omega)
/-- A column more. -/
theorem RedW.push {W W' : World} {B gh cap m n : Nat} {S : Nat → Option Addr × Nat} {P : Nat → List Int} {Ac A' : Option Addr} {cc c' clo chi lo' hi' : Nat} {cs : List Int} {y : Int} (h : RedW W B gh cap m n S P Ac cc clo chi cs)
    (hr : OwnR W' lo' hi' A' c' (cs ++ [y])) (hd : (lo' = clo ∧ hi' = chi) ∨ (W.heap.size ≤ lo' ∧ lo' ≤ W'.heap.size ∧ hi' ≤ W'.heap.size)) (hw : Within clo chi W W') : RedW W' B gh cap m n S P A' c' lo' hi' (cs ++ [y]) := by
  have hl := h.lt
  have hs := h.sep
  have hb := h.bnd
  have hsz := hw.size
  refine ⟨own_blk h.own (hw.block gh hl.2 (by omega)), fun i hi => ?_, hr, by omega, by omega⟩
  obtain ⟨h1, r, h2, h3, h4, h5⟩ := h.row i hi
  have := h2.1
  exact ⟨h1, r, h2.within hw (by omega), h3, h4, by omega⟩
theorem RowsG.red {W : World} {B T lo hi : Nat} {A : Option Addr} {cap : Nat} {rs : List (List Int)} (h : RowsG W B T lo hi A cap rs) {n : Nat} (h0 : 0 < rs.length) (hn : ∀ i, i < rs.length → (rs.getD i []).length = n) :
    ∃ gh S, A = some ⟨gh, 0, none⟩ ∧ ∀ W', Below W.heap.size W W' → ∀ Ac cc clo chi cs, OwnR W' clo chi Ac cc cs → W.heap.size ≤ clo → clo ≤ W'.heap.size → RedW W' B gh cap rs.length n S (fun i => rs.getD i []) Ac cc clo chi cs := by
  obtain ⟨ht, hoB, zs, r, S, h1, h2, h3, h4⟩ := h
  rcases h2.2 with ⟨_, _, e⟩ | ⟨gh, rfl, g1, g2, ho⟩
  · rw [e] at h1; simp at h1; omega
  · refine ⟨gh, S, rfl, fun W' hb Ac cc clo chi cs hc hc1 hc2 => ?_⟩
    have hsz := h2.1
    have e : zs = (List.range rs.length).map fun i => Value.slice (S i).1 n (S i).2 := by
      apply List.ext_getElem (by simp [h1])
      intro k k1 k2
      have hk : k < rs.length := by omega
      have := (h4 k hk).1
      rw [hn k hk, List.getD_eq_getElem?_getD, List.getElem?_eq_getElem k1, Option.getD_some] at this
      rw [this]; simp
    refine ⟨?_, fun i hi => ?_, hc, by omega, by omega⟩
    · rw [← e, ← h1]
      have ho2 : W'.ownsRow lo 29 1 (.slice (some ⟨gh, 0, none⟩) zs.length cap) zs.length zs := own_blk ho (hb.block gh (by omega))
      obtain ⟨l1, l2⟩ := ho2
      refine ⟨l1, ?_⟩
      rcases l2 with l2 | ⟨g3, c3, cur, e1, e2, e3⟩
      · exact .inl l2
      · cases e1
        exact .inr ⟨gh, cap, cur, rfl, by omega, e3⟩
    · obtain ⟨q1, q2, q3, q4, q5⟩ := h4 i hi
      unfold Dis at q5
      dsimp only at q5
      exact ⟨hn i hi, r i, (q2.reads.within (within_of hb) (.inr (Nat.zero_le _))), q3, by omega, by omega⟩
theorem RedW.congr {W : World} {B gh cap m n : Nat} {S : Nat → Option Addr × Nat} {P P' : Nat → List Int} {Ac : Option Addr} {cc clo chi : Nat} {cs : List Int} (h : RedW W B gh cap m n S P Ac cc clo chi cs) (e : ∀ i, i < m → P i = P' i) : RedW W B gh cap m n S P' Ac cc clo chi cs :=
  ⟨h.own, fun i hi => by rw [← e i hi]; exact h.row i hi, h.col, h.sep, h.bnd⟩
end Go.Proofs.Ytdkpmaahinbhlaa
/- What spec.l9Reduced answers: the rows that the program's reduction has, in lowest terms, and the same columns. No condition. -/
namespace Go.Proofs.Ytdkpmaahinbhlaa
open Go.RowKit

def pvI (s : Red) : List Int := s.pv.map fun (x : Nat) => (x : Int)
theorem pvI_len (s : Red) : (pvI s).length = s.pv.length := List.length_map ..
/-- The first k rows in lowest terms. -/
def prK (m : List (List Int)) (k : Nat) : List (List Int) := (List.range k).map fun i => primV (m.getD i [])
theorem prK_succ (m : List (List Int)) (k : Nat) : prK m (k + 1) = prK m k ++ [primV (m.getD k [])] := by unfold prK; rw [List.range_succ, List.map_append]; rfl
theorem prK_len (m : List (List Int)) (k : Nat) : (prK m k).length = k := by unfold prK; rw [List.length_map, List.length_range]
theorem prK_get {m : List (List Int)} {k i : Nat} (h : i < k) : (prK m k).getD i [] = primV (m.getD i []) := by simp [prK, List.getD, h]
theorem MatQ.row_sm {m : List (List Int)} (h : MatQ m) {i : Nat} (hi : i < m.length) : Sm (m.getD i []) (widM m) :=
  ⟨(h.row i hi).1, fun j hj => by have := (h.row i hi).2 j hj; omega⟩
theorem MatQ.row_f {m : List (List Int)} (h : MatQ m) {i : Nat} (hi : i < m.length) : rowF (widM m) (atM m i) = m.getD i [] := by
  have := rowF_of (m.getD i [])
  rw [(h.row i hi).1] at this
  exact this
theorem rsIn_below {W W' : World} {lo hi : Nat} {A : Option Addr} {rs : List (List Int)} (h : RowsIn W lo hi A rs) (hb : Below W.heap.size W W') : RowsIn W' lo hi A rs := h.within (within_of hb) (.inr (Nat.zero_le _))
/-- The rows of the reduction, in lowest terms. -/
def prR (n : Nat) (s : Red) (i : Nat) : List Int := primV (rowF n (s.R i))

set_option maxHeartbeats 8000000 in
set_option maxRecDepth 100000 in
theorem rdc_c (m : List (List Int)) (hM : MatQ m) (A : Option Addr) (cap lo hi : Nat) (w : World) (hl : RowsIn w lo hi A m) :
    Calls Try.prog 152 #[.slice A m.length cap] w fun e w' => ∃ gh c1 S Ac cc clo chi, e = .returned (.tuple #[.slice (some ⟨gh, 0, none⟩) m.length c1, .slice Ac (pvI (Red.run m.length (atM m) (widM m))).length cc]) ∧
      RedW w' w.heap.size gh c1 m.length (widM m) S (prR (widM m) (Red.run m.length (atM m) (widM m))) Ac cc clo chi (pvI (Red.run m.length (atM m) (widM m))) ∧ Below w.heap.size w w' := by
  have HL := Lib.hid hl
  obtain ⟨b, off, S0, rfl, hbw, hc⟩ := rows_fn hl hM.h0
  have HC := Lib.hid hc
  have h0 := hM.h0
  have h9 := hM.h9
  have h12 := hM.w12
  have HM := Lib.hid hM
  have HRED := Lib.hid (fun (c : Nat) (h : c ≤ widM m) => hM.red h)
  have HLIM := Lib.hid (fun (c : Nat) (h : c ≤ widM m) => hM.limS h)
  have HROW := Lib.hid hM.row
  clear hc hl hM
  obtain ⟨n, hn⟩ : ∃ n, widM m = n := ⟨_, rfl⟩
  have HN := Lib.hid hn
  rw [hn] at h12 HRED HLIM ⊢
  obtain ⟨M, hMM⟩ : ∃ M, m.length = M := ⟨_, rfl⟩
  have HMM := Lib.hid hMM
  rw [hMM] at h0 h9 HRED HLIM ⊢
  clear hn hMM
  have HAL := Lib.hid (new_below w (.cells #[] 29))
  have HG0 := Lib.hid (RowsG.made w)
  have HSZ := Lib.hid (show (w.alloc (.cells #[] 29)).heap.size = w.heap.size + 1 by simp)
  go_enter Try.func152, Try.ntmps152
  go_wp2_with fail
  generalize w.alloc (.cells #[] 29) = wA at *
  go_loopw [4, 5] (fun o i w' => ∃ (k T lo2 hi2 : Nat) (A' : Option Addr) (c' : Nat), k ≤ M ∧ i = .int .i64 k ∧ o = .slice A' k c' ∧ RowsG w' w.heap.size T lo2 hi2 A' c' (prK m k) ∧ Below w.heap.size w w') (fun _ i _ => M - (intOf i).toNat)
  case atStart => exact ⟨0, _, _, _, _, _, Nat.zero_le _, rfl, rfl, HG0.out, HAL.out⟩
  case round =>
    obtain ⟨k, T, lo2, hi2, A2, c2, hk, rfl, rfl, hrg, hb⟩ := hrel
    have HRG := Lib.hid hrg
    have HB := Lib.hid hb
    clear hrg hb
    by_cases hlt : k < M
    · have hki : (k : Int) < (M : Int) := by omega
      have hltm : k < m.length := by rw [HMM.out]; exact hlt
      have c1 := rows_cell hbw HC.out HB.out hltm
      have hrs := HM.out.row_sm hltm
      have hint := (HC.out k hltm).2.within (within_of HB.out) (.inr (Nat.zero_le _))
      obtain ⟨⟨A', c'⟩, hSk⟩ : ∃ s, S0 k = s := ⟨_, rfl⟩
      rw [hSk] at c1 hint
      dsimp only at c1 hint
      have hpv := pV_sm hrs
      have hrl := hrs.1
      rw [HN.out] at hrl
      have HSTEP := Lib.hid (prK_succ m k)
      obtain ⟨row, hrow⟩ : ∃ row, m.getD k [] = row := ⟨_, rfl⟩
      rw [hrow] at c1 hint hpv hrl HSTEP
      have HCL := Lib.hid (clean_c row A' c' lo hi wr hint (by omega))
      rw [hpv] at HCL
      have HPL := Lib.hid (primV_len row)
      have HRL := Lib.hid hrl
      clear hint hpv hrow hrs hSk hrl
      obtain ⟨xs, hxs⟩ : ∃ xs, primV row = xs := ⟨_, rfl⟩
      rw [hxs] at HCL HSTEP HPL
      clear hxs
      go_wp2_with fail
      refine HCL.out.mono ?_
      rintro e w3 ⟨Ar, cr, rfl, ho3, hb3⟩
      have HO3 := Lib.hid ho3
      have HB3 := Lib.hid (below_on HB.out hb3 HB.out.size)
      have HRG5 := Lib.hid (HRG.out.below hb3)
      have HTOP := Lib.hid (show T ≤ wr.heap.size from HRG.out.top)
      have hs3 := hb3.size
      clear ho3 hb3
      obtain ⟨zs, r, S', z1, z2, z3, z4⟩ := HRG5.out.rows
      rw [prK_len] at z1
      have HZ1 := Lib.hid z1
      have HZ2 := Lib.hid z2
      have HZ3 := Lib.hid (show RowsP _ w.heap.size T lo2 hi2 zs (prK m k) from ⟨r, S', z3, z4⟩)
      have HLO := Lib.hid (show lo2 ≤ _ from Nat.le_trans HRG5.out.out.2.1 HRG5.out.top)
      have HOB := Lib.hid (HRG5.out.out.1)
      clear z1 z2 z3 z4
      go_wp2_with (at_builtin; refine wpList_pushS _ rfl _ _ rfl lo2 hi2 A2 c2 zs (.slice Ar xs.length cr) rfl (by rw [HZ1.out]; rfl) HZ2.out _ rfl (by have := HZ1.out; omega) HLO.out ?_; intro A7 c7 w7 lo7 hi7 ho7 hd7 hw7; have HO7 := Lib.hid ho7; have HD7 := Lib.hid hd7; have HW7 := Lib.hid hw7; clear ho7 hd7 hw7)
      have HRG7 := Lib.hid (HRG5.out.push (q := (wr.heap.size, w3.heap.size)) HO3.out HTOP.out (HZ1.out.trans (prK_len _ _).symm) HZ3.out HO7.out HD7.out HW7.out)
      go_roundw
      case rel => exact ⟨k + 1, _, _, _, _, _, by omega, by go_num, by rw [HZ1.out], by rw [HSTEP.out]; exact HRG7.out, within_on HB3.out HW7.out HB3.out.size (.inl HOB.out)⟩
      case measure => simp [intOf]; omega
    · obtain rfl : k = M := by omega
      obtain ⟨gh, S, hA2, hred⟩ := HRG.out.red (n := n) (by rw [prK_len]; exact h0) (fun i hi => by
        rw [prK_len] at hi
        rw [prK_get hi, primV_len, (HROW.out i (by rw [HMM.out]; exact hi)).1, HN.out])
      subst hA2
      have HAL2 := Lib.hid (new_below wr (.cells #[] 3))
      have HOE := Lib.hid (ownR_empty wr)
      have HSZ2 := Lib.hid (show (wr.alloc (.cells #[] 3)).heap.size = wr.heap.size + 1 by simp)
      have HBA := Lib.hid (below_on HB.out HAL2.out HB.out.size)
      have HPR := Lib.hid (show ∀ i, i < k → (prK m k).getD i [] = prR n (Red.run k (atM m) 0) i from fun i hi => by
        rw [prK_get hi]
        have hi' : i < m.length := by rw [HMM.out]; exact hi
        have := HM.out.row_f hi'
        rw [HN.out] at this
        unfold prR
        rw [← this]; rfl)
      have HR0 := Lib.hid (hred _ HAL2.out _ _ _ _ [] HOE.out (Nat.le_refl _) (by rw [HSZ2.out]; omega))
      rw [prK_len] at HR0
      clear hred
      have HRS := Lib.hid (HR0.out.congr HPR.out)
      go_wp2_with fail
      generalize wr.alloc (.cells #[] 3) = wB at *
      go_loopw [6, 7] (fun o i w' => ∃ (j : Nat) (S : Nat → Option Addr × Nat) (Ac : Option Addr) (cc clo chi : Nat), j ≤ n ∧ i = .int .i64 j ∧ o = .slice Ac (pvI (Red.run k (atM m) j)).length cc ∧ RedW w' w.heap.size gh c2 k n S (prR n (Red.run k (atM m) j)) Ac cc clo chi (pvI (Red.run k (atM m) j)) ∧ Below w.heap.size w w') (fun _ i _ => n - (intOf i).toNat)
      case atStart => exact ⟨0, S, _, _, _, _, by omega, rfl, rfl, HRS.out, HBA.out⟩
      case round =>
        clear HRS HR0 HPR HBA HSZ2 HOE HAL2
        obtain ⟨j, S, Ac, cc, clo, chi, hj, rfl, rfl, hr, hb⟩ := hrel
        have HR := Lib.hid hr
        have HBJ := Lib.hid hb
        clear hr hb
        have hk0 : (0 : Int) < (k : Int) := by omega
        have c0 := HR.out.head (i := 0) h0
        obtain ⟨⟨A0, z0⟩, hS0⟩ : ∃ s, S 0 = s := ⟨_, rfl⟩
        rw [hS0] at c0
        dsimp only at c0
        clear hS0
        by_cases hjn : j < n
        · have hji : (j : Int) < (n : Int) := by omega
          have HS := Lib.hid (HRED.out j (by omega))
          have HLS := Lib.hid (HLIM.out j (by omega))
          have HNX := Lib.hid (show Red.run k (atM m) (j + 1) = (Red.run k (atM m) j).take k j from rfl)
          obtain ⟨s, hs⟩ : ∃ s, Red.run k (atM m) j = s := ⟨_, rfl⟩
          rw [hs] at HR HS HLS HNX ⊢
          clear hs
          have HPVL := Lib.hid (pvI_len s)
          have hle : (pvI s).length ≤ k := by rw [pvI_len]; exact HS.out.bar.le
          obtain ⟨cs, hcs⟩ : ∃ cs, pvI s = cs := ⟨_, rfl⟩
          rw [hcs] at HR HPVL hle ⊢
          have HCS := Lib.hid hcs
          clear hcs
          obtain ⟨wq, hwq⟩ : ∃ x, x = wr := ⟨_, rfl⟩
          rw [← hwq] at HR HBJ c0 ⊢
          clear hwq
          go_wp2_with fail
          clear c0
          go_loopw [8] (fun a wr2 => wq = wr2 ∧ ∃ t : Nat, a = .int .i64 t ∧ cs.length ≤ t ∧ t ≤ k ∧ ∀ i, cs.length ≤ i → i < t → (prR n s i).getD j 0 = 0) (fun a _ => k - (intOf a).toNat)
          case atStart => exact ⟨rfl, cs.length, rfl, Nat.le_refl _, hle, fun i h1 h2 => absurd h2 (Nat.not_lt.2 h1)⟩
          case round =>
            obtain ⟨rfl, t, rfl, ht1, ht2, hz⟩ := hrel
            have HZ := Lib.hid hz
            clear hz
            by_cases htk : t < k
            · have hti : (t : Int) < (k : Int) := by omega
              have c1 := HR.out.head htk
              obtain ⟨bi, oi, e1, c2'⟩ := HR.out.num htk hjn
              rw [e1] at c1
              have HE1 := Lib.hid e1
              obtain ⟨x, hx⟩ : ∃ x, (prR n s t).getD j 0 = x := ⟨_, rfl⟩
              rw [hx] at c2'
              have HX := Lib.hid hx
              clear hx e1
              by_cases hx0 : x = 0
              · have hx0' : (x == 0) = true := by simp [hx0]
                have HX0 := Lib.hid hx0
                clear hx0
                go_wp2_with fail
                go_roundw
                case rel => exact ⟨by simp, t + 1, by go_num, by omega, by omega, fun i h1 h2 => by
                  by_cases e : i = t
                  · subst e; rw [HX.out]; exact HX0.out
                  · exact HZ.out i h1 (by omega)⟩
                case measure => simp [intOf]; omega
              · have hx0' : (x == 0) = false := by simpa using hx0
                have hne : ((t : Int) == (k : Int)) = false := by simp; omega
                have HX0 := Lib.hid hx0
                have HFI := Lib.hid (show s.first k j = t from fstI_uniq (by rw [← HPVL.out]; exact ht1) (by omega) (fun _ => by
                  have : s.R t j ≠ 0 := fun h => hx0 (by rw [← HX.out]; exact (prim_zero hjn _).2 h)
                  simpa using this) (fun i h1 h2 => by
                  have := (prim_zero hjn _).1 (HZ.out i (by rw [HPVL.out]; exact h1) h2)
                  simpa using this))
                have hltk : cs.length < k := by omega
                have hcki : (cs.length : Int) < (k : Int) := by omega
                have ck := HR.out.head hltk
                obtain ⟨⟨AK, cK⟩, hSK⟩ : ∃ s, S cs.length = s := ⟨_, rfl⟩
                rw [hSK] at ck
                dsimp only at ck
                obtain ⟨cf, hcf⟩ : ∃ c, (S t).2 = c := ⟨_, rfl⟩
                rw [hcf] at c1
                have HSf := Lib.hid (show S t = (some ⟨bi, oi, none⟩, cf) from Prod.ext HE1.out hcf)
                have HSK := Lib.hid hSK
                have fz1 := World.ownsRow.frozenAt HR.out.own t
                have hrK := (HR.out.row cs.length hltk).2
                have hrf := (HR.out.row t htk).2
                rw [hSK] at hrK
                rw [HSf.out] at hrf
                dsimp only at hrK hrf
                have hp1 := HR.out.put htk (A' := AK) (c' := cK) (HR.out.row cs.length hltk).1 hrK
                have HW1 := Lib.hid hp1.2
                have HR1 := Lib.hid hp1.1
                have hck1 := HR1.out.head hltk
                have hupk : updA S t (AK, cK) cs.length = (AK, cK) := by
                  unfold updA
                  by_cases e : cs.length = t
                  · rw [if_pos e]
                  · rw [if_neg e, hSK]
                rw [hupk] at hck1
                dsimp only at hck1
                have fz2 := World.ownsRow.frozenAt HR1.out.own cs.length
                have hlg := HR.out.lt
                have hp2 := HR1.out.put hltk (Z := prR n s t) (A' := some ⟨bi, oi, none⟩) (c' := cf) (HR.out.row t htk).1 (by
                  obtain ⟨r, r1, r2, r3, r4⟩ := hrf
                  exact ⟨r, r1.within HW1.out (by omega), r2, r3, r4⟩)
                have HW2 := Lib.hid hp2.2
                have HR2 := Lib.hid hp2.1
                have HBW := Lib.hid (within_on (within_on HBJ.out HW1.out HBJ.out.size (.inl hlg.1)) HW2.out (Nat.le_trans HBJ.out.size HW1.out.size) (.inl hlg.1))
                clear hp1 hp2 hrK hrf hcf hSK hupk
                go_wp2_with fail
                clear c1 c2' ck hck1 fz1 fz2
                have HKL := Lib.hid (show s.pv.length = cs.length from HPVL.out.symm)
                have HQ := Lib.hid (show ∀ i, i < k → updA (updA (prR n s) t (prR n s cs.length)) cs.length (prR n s t) i = primV (rowF n (barSwap s.R cs.length t i)) from fun i _ => by
                  unfold updA barSwap prR
                  by_cases e : i = cs.length
                  · rw [if_pos e, if_pos e]
                  · rw [if_neg e, if_neg e]
                    by_cases e2 : i = t
                    · rw [if_pos e2, if_pos e2]
                    · rw [if_neg e2, if_neg e2])
                have HSR := Lib.hid (fun (i : Nat) (hi : i < k) => HS.out.spec_row hjn (show s.first k j < k by rw [HFI.out]; exact htk) hi)
                have HFZ := Lib.hid (HS.out.first_nz (show s.first k j < k by rw [HFI.out]; exact htk))
                rw [HFI.out, HKL.out] at HSR HFZ
                have HTP := Lib.hid (Red.take_pv (show s.first k j < k by rw [HFI.out]; exact htk))
                have HPSM := Lib.hid (fun (i : Nat) (hi : i < k) => HS.out.psm HLS.out hi)
                obtain ⟨w2, hw2⟩ : ∃ x, x = (wq.setCell ⟨gh, t, none⟩ (.slice AK n cK)).setCell ⟨gh, cs.length, none⟩ (.slice (some ⟨bi, oi, none⟩) n cf) := ⟨_, rfl⟩
                rw [← hw2] at HR2 HBW ⊢
                clear hw2 HW2 HR1 HW1
                go_loopw [10] (fun i wr3 => ∃ (u : Nat) (S4 : Nat → Option Addr × Nat), u ≤ k ∧ i = .int .i64 u ∧ RedW wr3 w.heap.size gh c2 k n S4 (fun i => if i < u then prR n (s.take k j) i else primV (rowF n (barSwap s.R cs.length t i))) Ac cc clo chi cs ∧ S4 cs.length = (some ⟨bi, oi, none⟩, cf) ∧ Below w.heap.size w wr3) (fun i _ => k - (intOf i).toNat)
                case atStart => exact ⟨0, _, by omega, rfl, HR2.out.congr fun i hi => by rw [HQ.out i hi, if_neg (by omega)], by unfold updA; rw [if_pos rfl], HBW.out⟩
                case round =>
                  obtain ⟨u, S4, hu, rfl, hr4, hs4, hb4⟩ := hrel
                  have HR4 := Lib.hid hr4
                  have HS4 := Lib.hid hs4
                  have HB4 := Lib.hid hb4
                  clear hr4 hs4 hb4
                  by_cases huk : u < k
                  · have hui : (u : Int) < (k : Int) := by omega
                    have HN4 := Lib.hid (fun (h : (if u < u then prR n (s.take k j) u else primV (rowF n (barSwap s.R cs.length t u))) = prR n (s.take k j) u) => (HR4.out.congr (P' := fun i => if i < u + 1 then prR n (s.take k j) i else primV (rowF n (barSwap s.R cs.length t i))) fun i hi => by
                      by_cases e : i = u
                      · subst e
                        rw [h, if_pos (by omega)]
                      · by_cases e2 : i < u
                        · rw [if_pos e2, if_pos (by omega)]
                        · rw [if_neg e2, if_neg (by omega)]))
                    have HUU := Lib.hid (show (if u < u then prR n (s.take k j) u else primV (rowF n (barSwap s.R cs.length t u))) = primV (rowF n (barSwap s.R cs.length t u)) from if_neg (by omega))
                    by_cases hu2 : u = cs.length
                    · have hne : ((u : Int) != (cs.length : Int)) = false := by simp [hu2]
                      have HQ5 := Lib.hid (HN4.out (by
                        rw [HUU.out]
                        have := HSR.out u huk
                        rw [if_pos hu2] at this
                        unfold prR
                        rw [this]
                        unfold barSwap
                        rw [if_pos hu2]))
                      clear hu2
                      go_wp2_with fail
                      go_roundw
                      case rel => exact ⟨u + 1, S4, by omega, by go_num, HQ5.out, HS4.out, HB4.out⟩
                      case measure => simp [intOf]; omega
                    · have hne : ((u : Int) != (cs.length : Int)) = true := by simp; omega
                      have HU2 := Lib.hid hu2
                      have cu := HR4.out.head huk
                      obtain ⟨b4, o4, e4, cn⟩ := HR4.out.num huk hjn
                      obtain ⟨cu4, hcu4⟩ : ∃ c, (S4 u).2 = c := ⟨_, rfl⟩
                      rw [e4, hcu4] at cu
                      try dsimp only at cn
                      rw [HUU.out] at cn
                      have HSU := Lib.hid (show S4 u = (some ⟨b4, o4, none⟩, cu4) from Prod.ext e4 hcu4)
                      obtain ⟨x4, hx4⟩ : ∃ x, (primV (rowF n (barSwap s.R cs.length t u))).getD j 0 = x := ⟨_, rfl⟩
                      rw [hx4] at cn
                      have HSR5 := HSR.out u huk
                      rw [if_neg hu2, hx4] at HSR5
                      have HX4 := Lib.hid hx4
                      clear hx4 e4 hcu4 hu2
                      by_cases hx0' : x4 = 0
                      · have hxb : (x4 != 0) = false := by simp [hx0']
                        have HQ5 := Lib.hid (HN4.out (by
                          rw [HUU.out]
                          rw [if_pos hx0'] at HSR5
                          exact HSR5.symm))
                        clear HSR5 hx0'
                        go_wp2_with fail
                        go_roundw
                        case rel => exact ⟨u + 1, S4, by omega, by go_num, HQ5.out, HS4.out, HB4.out⟩
                        case measure => simp [intOf]; omega
                      · have hxb : (x4 != 0) = true := by simpa using hx0'
                        rw [if_neg hx0'] at HSR5
                        have HSRX := Lib.hid HSR5
                        have hrow4 := HR4.out.row u huk
                        try dsimp only at hrow4
                        rw [HUU.out, HSU.out] at hrow4
                        obtain ⟨_, r4, hI4, _⟩ := hrow4
                        have hrowK := HR4.out.row cs.length hltk
                        have hKK : (if cs.length < u then prR n (s.take k j) cs.length else primV (rowF n (barSwap s.R cs.length t cs.length))) = primV (rowF n (s.R t)) := by
                          have := HSR.out cs.length hltk
                          rw [if_pos rfl] at this
                          by_cases e : cs.length < u
                          · rw [if_pos e]; exact this
                          · rw [if_neg e]; unfold barSwap; rw [if_pos rfl]
                        try dsimp only at hrowK
                        rw [hKK, HS4.out] at hrowK
                        obtain ⟨_, rK, hIK, _⟩ := hrowK
                        have hsmu : Sm (primV (rowF n (barSwap s.R cs.length t u))) n := by
                          unfold barSwap
                          split
                          · exact HPSM.out t htk
                          · split
                            · exact HPSM.out cs.length hltk
                            · exact HPSM.out u huk
                        have HWC := Lib.hid (wout_c (primV (rowF n (barSwap s.R cs.length t u))) (primV (rowF n (s.R t))) j n (some ⟨b4, o4, none⟩) (some ⟨bi, oi, none⟩) cu4 cf _ _ _ _ wr hI4 hIK hsmu (HPSM.out t htk) hjn h12 (fun h => HFZ.out.1 ((prim_zero hjn _).1 h)))
                        rw [← HSRX.out] at HWC
                        clear hx0' HSR5 hI4 hIK hsmu hKK
                        go_wp2_with fail
                        refine HWC.out.mono ?_
                        rintro e w5 ⟨A5, c5, rfl, ho5, hb5⟩
                        have HR5 := Lib.hid (HR4.out.below hb5)
                        have cu5 := HR5.out.head huk
                        rw [HSU.out] at cu5
                        try dsimp only at cu5
                        have fz5 := World.ownsRow.frozenAt HR5.out.own u
                        have hs5 := hb5.size
                        have hlt4 := HR4.out.lt
                        have hcol4 := HR4.out.col.1
                        have hbs4 := HB4.out.size
                        have hlen5 : (primV (rowF n ((s.take k j).R u))).length = n := by rw [primV_len, rowF_len]
                        have hp5 := HR5.out.put huk (A' := A5) (c' := c5) hlen5 ⟨(wr.heap.size, w5.heap.size), ho5.reads, hbs4, .inl hlt4.2, .inr hcol4⟩
                        have HR6 := Lib.hid (hp5.1.congr (P' := fun i => if i < u + 1 then prR n (s.take k j) i else primV (rowF n (barSwap s.R cs.length t i))) fun i hi => by
                          unfold updA
                          by_cases e : i = u
                          · subst e
                            rw [if_pos rfl, if_pos (by omega)]; rfl
                          · rw [if_neg e]
                            dsimp only
                            by_cases e2 : i < u
                            · rw [if_pos e2, if_pos (by omega)]
                            · rw [if_neg e2, if_neg (by omega)])
                        have HB6 := Lib.hid (within_on (below_on HB4.out hb5 hbs4) hp5.2 (Nat.le_trans hbs4 hs5) (.inl hlt4.1))
                        have HS6 := Lib.hid (show updA S4 u (A5, c5) cs.length = (some ⟨bi, oi, none⟩, cf) by
                          unfold updA
                          rw [if_neg (fun e => HU2.out e.symm)]; exact HS4.out)
                        clear hp5 ho5 hb5 cu cn hlen5
                        go_wp2_with fail
                        go_roundw
                        case rel => exact ⟨u + 1, _, by omega, by go_num, HR6.out, HS6.out, HB6.out⟩
                        case measure => simp [intOf]; omega
                  · obtain rfl : u = k := by omega
                    have HRE := Lib.hid (HR4.out.congr (P' := prR n (s.take u j)) fun i hi => if_pos hi)
                    have hcl := HRE.out.bnd
                    have hcs := HRE.out.col
                    have hcl2 : cs.length ≤ 1048576 := by omega
                    have HPE := Lib.hid (show pvI (s.take u j) = cs ++ [(j : Int)] by
                      unfold pvI
                      rw [HTP.out.1, List.map_append, ← HCS.out]; rfl)
                    have HCO := Lib.hid hcs
                    clear hcs
                    go_wp2_with (at_builtin; refine wpList_pushR _ rfl _ _ rfl clo chi Ac cc cs (j : Int) rfl HCO.out _ (by first | rfl | (simp only [World.size_setCell]; rfl)) hcl2 hcl.2 ?_; intro A6 c6 w16 lo6 hi6 hr6 hor6 hw6; have HR7 := Lib.hid (HRE.out.push hr6 hor6 hw6); have HW7 := Lib.hid hw6; clear hr6 hor6 hw6)
                    go_roundw
                    case rel => exact ⟨j + 1, S4, A6, c6, lo6, hi6, by omega, by go_num, by rw [HNX.out, HPE.out, List.length_append]; rfl, by rw [HNX.out, HPE.out]; exact HR7.out, within_on HB4.out HW7.out HB4.out.size (.inl hcl.1)⟩
                    case measure => simp [intOf]; omega
            · obtain rfl : t = k := by omega
              have hee : ((t : Int) == (t : Int)) = true := by simp
              have HFI := Lib.hid (show s.first t j = t from fstI_uniq (by rw [← HPVL.out]; exact ht1) (by have := HPVL.out; omega) (fun h => absurd h (by have := HPVL.out; omega)) (fun i h1 h2 => by
                have := (prim_zero hjn _).1 (HZ.out i (by rw [HPVL.out]; exact h1) h2)
                simpa using this))
              have HTK := Lib.hid (show s.take t j = s from Red.take_no (by rw [HFI.out]; omega))
              go_wp2_with fail
              go_roundw
              case rel => exact ⟨j + 1, S, Ac, cc, clo, chi, by omega, by go_num, by rw [HNX.out, HTK.out, HCS.out], by rw [HNX.out, HTK.out, HCS.out]; exact HR.out, HBJ.out⟩
              case measure => simp [intOf]; omega
        · obtain rfl : j = n := by omega
          go_wp2_with fail
          go_ret2
          exact ⟨gh, c2, S, Ac, cc, clo, chi, rfl, HR.out, HBJ.out⟩
end Go.Proofs.Ytdkpmaahinbhlaa
/- What spec.l9Reduced answers where there are no rows: nothing. No condition. -/
namespace Go.Proofs.Ytdkpmaahinbhlaa
open Go.RowKit

set_option maxHeartbeats 2000000 in
set_option maxRecDepth 100000 in
theorem rdc0_c (A : Option Addr) (cap : Nat) (w : World) :
    Calls Try.prog 152 #[.slice A 0 cap] w fun e w' => ∃ A1 c1 A2 c2, e = .returned (.tuple #[.slice A1 0 c1, .slice A2 0 c2]) ∧ Below w.heap.size w w' := by
  have HAL := Lib.hid (new_below w (.cells #[] 29))
  go_enter Try.func152, Try.ntmps152
  go_wp2_with fail
  generalize w.alloc (.cells #[] 29) = wA at *
  refine wp_loop_rounds 1 ?_
  rw [rounds_succ]
  have HB := Lib.hid (below_on HAL.out (new_below wA (.cells #[] 3)) HAL.out.size)
  go_wp2_with fail
  generalize wA.alloc (.cells #[] 3) = wB at *
  refine wp_loop_rounds 1 ?_
  rw [rounds_succ]
  go_wp2_with fail
  go_ret2
  exact ⟨_, _, _, _, rfl, HB.out⟩
end Go.Proofs.Ytdkpmaahinbhlaa
/- What spec.FrameworkRank answers. No condition. -/
namespace Go.Proofs.Ytdkpmaahinbhlaa
open Go.RowKit

set_option maxHeartbeats 4000000 in
set_option maxRecDepth 100000 in
theorem specFrk (p : Int) (l m : List (Int × Int)) (A : Option Addr) (ca : Nat) (B : Option Addr) (cb : Nat) (lo hi : Nat) (w : World) (hl : FwIn w lo hi A l B m) (hn : l.length + m.length ≤ 1048576) :
    Calls Try.prog 95 #[.agg #[.int .i64 p, .slice A l.length ca, .slice B m.length cb]] w fun e w' => e = .returned (.int .i64 (frkV p l m)) ∧ Below w.heap.size w w' := by
  have HC := Lib.hid (fun (W : World) (h : FwIn W lo hi A l B m) => specIsF p l m A ca B cb lo hi W h hn)
  have HG := Lib.hid (fun (W : World) (h : FwIn W lo hi A l B m) => specRgm p l m A ca B cb lo hi W h hn)
  by_cases hg : isFB p l m = true
  · rw [hg] at HC
    have HI := Lib.hid (isFB_iff.1 hg)
    have HV := Lib.hid (frkV_yes hg)
    rw [rigV_yes hg] at HG
    clear hg
    have HF := Lib.hid (FbI.new (p := p) (ca := ca) (cb := cb) hl 97)
    clear hl
    go_enter Try.func95, Try.ntmps95
    go_wp2_with fail
    generalize (w.alloc (.cells #[.int .i64 p, .slice A l.length ca, .slice B m.length cb] 97)) = w1 at *
    refine (HC.out _ HF.out.f).mono ?_
    rintro e w2 ⟨rfl, hb⟩
    have HF2 := Lib.hid (HF.out.below hb)
    obtain ⟨_, x0, x1, x2⟩ := HF2.out.x
    clear hb HF
    go_wp2_with fail
    refine (HG.out _ HF2.out.f).mono ?_
    rintro e w3 ⟨A2, c2, rfl, hr, hb⟩
    have HF3 := Lib.hid (HF2.out.below hb)
    have HR3 := Lib.hid hr
    clear hb hr x0 x1 x2
    have HP := Lib.hid (show (pvI (Red.run (rigL p l m).length (atM (rigL p l m)) (widM (rigL p l m)))).length = rigP p l m from pvI_len _)
    by_cases h0 : 0 < l.length
    · have HQ := Lib.hid (rdc_c (rigL p l m) (rig_q HI.out h0) A2 c2 _ _ w3 HR3.out)
      obtain ⟨ps, hps⟩ : ∃ ps, pvI (Red.run (rigL p l m).length (atM (rigL p l m)) (widM (rigL p l m))) = ps := ⟨_, rfl⟩
      rw [hps] at HQ HP
      clear hps
      go_wp2_with fail
      refine HQ.out.mono ?_
      rintro e w4 ⟨gh, c1, S, Ac, cc, clo, chi, rfl, _, hb⟩
      have HF4 := Lib.hid (HF3.out.below hb)
      clear hb
      go_wp2_with fail
      go_ret
      exact ⟨by rw [HV.out, ← HP.out]; rfl, HF4.out.b⟩
    · obtain rfl : l = [] := List.length_eq_zero_iff.1 (by omega)
      have HQ := Lib.hid (rdc0_c A2 c2 w3)
      go_wp2_with fail
      refine HQ.out.mono ?_
      rintro e w4 ⟨A3, c3, A4, c4, rfl, hb⟩
      have HF4 := Lib.hid (HF3.out.below hb)
      clear hb
      go_wp2_with fail
      go_ret
      exact ⟨by rw [HV.out, rigP_nil]; rfl, HF4.out.b⟩
  · have hgf : isFB p l m = false := by simpa using hg
    rw [hgf] at HC
    have HV := Lib.hid (frkV_no hgf)
    clear hg hgf HG
    have HF := Lib.hid (FbI.new (p := p) (ca := ca) (cb := cb) hl 97)
    clear hl
    go_enter Try.func95, Try.ntmps95
    go_wp2_with fail
    generalize (w.alloc (.cells #[.int .i64 p, .slice A l.length ca, .slice B m.length cb] 97)) = w1 at *
    refine (HC.out _ HF.out.f).mono ?_
    rintro e w2 ⟨rfl, hb⟩
    have HF2 := Lib.hid (HF.out.below hb)
    obtain ⟨_, x0, x1, x2⟩ := HF2.out.x
    clear hb HF
    go_wp2_with fail
    go_wp2_with fail
    go_ret
    exact ⟨by rw [HV.out]; rfl, HF2.out.b⟩
end Go.Proofs.Ytdkpmaahinbhlaa
/- What stands in memory while the program reduces a matrix: the struct, its rows in one block, and its pivots. No program's walk. No condition. -/
namespace Go.Proofs.Ytdkpmaahinbhlaa
open Go.RowKit

/-- The struct's block. -/
def BoxR (W : World) (bs gh m : Nat) (Ap : Option Addr) (L cp : Nat) (D : Int) : Prop := Cel3 W bs 142 (.slice (some ⟨gh, 0, none⟩) m m) (.slice Ap L cp) (.int .i64 D)
structure RedI (W : World) (B bs lo hi gh g m n : Nat) (p : Nat → Nat) (f : Nat → Int) (Ap : Option Addr) (cp plo phi : Nat) (ps : List Int) (D : Int) : Prop where
  bx : BoxR W bs gh m Ap ps.length cp D
  rows : RowsF W lo hi gh g m n p f
  piv : OwnR W plo phi Ap cp ps
  low : B ≤ bs ∧ B ≤ lo ∧ B ≤ plo
  ple : plo ≤ W.heap.size
  sep : (bs < lo ∨ hi ≤ bs) ∧ (bs < plo ∨ phi ≤ bs) ∧ (hi ≤ plo ∨ phi ≤ lo)
section
variable {W W' : World} {B bs lo hi gh g m n : Nat} {p : Nat → Nat} {f : Nat → Int} {Ap : Option Addr} {cp plo phi : Nat} {ps : List Int} {D : Int}
theorem RedI.bsz (h : RedI W B bs lo hi gh g m n p f Ap cp plo phi ps D) : bs < W.heap.size := Cel3.lt h.bx
theorem RedI.below (h : RedI W B bs lo hi gh g m n p f Ap cp plo phi ps D) (hb : Below W.heap.size W W') : RedI W' B bs lo hi gh g m n p f Ap cp plo phi ps D :=
  ⟨Cel3.kept h.bx hb, h.rows.within (within_of hb) (.inr (Nat.zero_le _)), h.piv.within (within_of hb) (.inr (Nat.zero_le _)), h.low, Nat.le_trans h.ple hb.size, h.sep⟩
/-- A number of the rows stored. -/
theorem RedI.num (h : RedI W B bs lo hi gh g m n p f Ap cp plo phi ps D) {t : Nat} (ht : t < m * n) (x : Int) :
    RedI (W.setCell ⟨g, t, none⟩ (.int .i64 x)) B bs lo hi gh g m n p (fun s => if s = t then x else f s) Ap cp plo phi ps D ∧ Within g (g + 1) W (W.setCell ⟨g, t, none⟩ (.int .i64 x)) := by
  have hst := h.rows.store ht x
  have hn := h.rows.nm
  have hs := h.sep
  exact ⟨⟨Cel3.within h.bx hst.2 (by omega), hst.1, h.piv.within hst.2 (by omega), h.low, Nat.le_trans h.ple hst.2.size, h.sep⟩, hst.2⟩
/-- A row put in another's place. -/
theorem RowsF.put (r : RowsF W lo hi gh g m n p f) {i q : Nat} (_hi : i < m) (hq : q < m) :
    RowsF (W.setCell ⟨gh, i, none⟩ (.slice (some ⟨g, q * n, none⟩) n n)) lo hi gh g m n (updA p i q) f ∧ Within gh (gh + 1) W (W.setCell ⟨gh, i, none⟩ (.slice (some ⟨g, q * n, none⟩) n n)) := by
  have hst := World.ownsRow.stored r.row i (.slice (some ⟨g, q * n, none⟩) n n)
  have hw : Within gh (gh + 1) W (W.setCell ⟨gh, i, none⟩ (.slice (some ⟨g, q * n, none⟩) n n)) := within_set ..
  have hne := r.ne
  refine ⟨⟨Nat.le_trans r.top hw.size, r.hd, r.nm, r.ne, fun k hk => ?_, ?_, r.num.within hw (by omega)⟩, hw⟩
  · unfold updA; split
    · exact hq
    · exact r.per k hk
  · have e : ((List.range m).map fun i => Value.slice (some ⟨g, p i * n, none⟩) n n).set i (.slice (some ⟨g, q * n, none⟩) n n) = (List.range m).map fun k => Value.slice (some ⟨g, updA p i q k * n, none⟩) n n := by
      apply List.ext_getElem (by simp)
      intro k h1 h2
      have r1 : ((List.range m).map fun k => Value.slice (some ⟨g, updA p i q k * n, none⟩) n n)[k]'h2 = Value.slice (some ⟨g, updA p i q k * n, none⟩) n n := by rw [List.getElem_map, List.getElem_range]
      rw [r1, List.getElem_set]
      by_cases e : i = k
      · subst e; rw [if_pos rfl, updA, if_pos rfl]
      · rw [if_neg e, updA, if_neg (fun h => e h.symm), List.getElem_map, List.getElem_range]
    rw [← e]; exact hst.1
theorem RedI.put (h : RedI W B bs lo hi gh g m n p f Ap cp plo phi ps D) {i q : Nat} (hi' : i < m) (hq : q < m) :
    RedI (W.setCell ⟨gh, i, none⟩ (.slice (some ⟨g, q * n, none⟩) n n)) B bs lo hi gh g m n (updA p i q) f Ap cp plo phi ps D ∧ Within gh (gh + 1) W (W.setCell ⟨gh, i, none⟩ (.slice (some ⟨g, q * n, none⟩) n n)) := by
  have hst := h.rows.put hi' hq
  have hn := h.rows.hd
  have hs := h.sep
  exact ⟨⟨Cel3.within h.bx hst.2 (by omega), hst.1, h.piv.within hst.2 (by omega), h.low, Nat.le_trans h.ple hst.2.size, h.sep⟩, hst.2⟩
/-- What an append onto the pivots leaves, and the struct behind it. -/
theorem RedI.app (h : RedI W B bs lo hi gh g m n p f Ap cp plo phi ps D) {A' : Option Addr} {c' lo' hi' : Nat} {y : Int}
    (hr : OwnR W' lo' hi' A' c' (ps ++ [y])) (hd : (lo' = plo ∧ hi' = phi) ∨ (W.heap.size ≤ lo' ∧ lo' ≤ W'.heap.size ∧ hi' ≤ W'.heap.size)) (hw : Within plo phi W W') (D' : Int) :
    BoxR W' bs gh m Ap ps.length cp D ∧ RowsF W' lo hi gh g m n p f ∧
      RedI ((W'.setCell ⟨bs, 1, none⟩ (.slice A' (ps.length + 1) c')).setCell ⟨bs, 2, none⟩ (.int .i64 D')) B bs lo hi gh g m n p f A' c' lo' hi' (ps ++ [y]) D' ∧
      Below B W ((W'.setCell ⟨bs, 1, none⟩ (.slice A' (ps.length + 1) c')).setCell ⟨bs, 2, none⟩ (.int .i64 D')) := by
  have hs := h.sep
  have hb := h.bsz
  have hl := h.low
  have hp := h.ple
  have ht := h.rows.top
  have hsz := hw.size
  have b1 : BoxR W' bs gh m Ap ps.length cp D := Cel3.within h.bx hw (by omega)
  have r1 := h.rows.within hw (by omega)
  have w1 := within_set W' bs 1 (.slice A' (ps.length + 1) c')
  have w2 := within_set (W'.setCell ⟨bs, 1, none⟩ (.slice A' (ps.length + 1) c')) bs 2 (.int .i64 D')
  have w3 := w1.trans w2
  refine ⟨b1, r1, ⟨?_, r1.within w3 (by omega), hr.within w3 (by omega), by omega, ?_, by omega⟩, ?_⟩
  · have := Cel3.set2 (Cel3.set1 b1 (.slice A' (ps.length + 1) c')) (.int .i64 D')
    unfold BoxR
    rw [List.length_append]
    exact this
  · have := w3.size; omega
  · have k1 : Below B W W' := within_on (Below.refl B W) hw (by omega) (.inl hl.2.2)
    exact within_on k1 w3 (by omega) (.inl hl.1)
end
/-- No two rows lie in one place. -/
def InjP (p : Nat → Nat) (m : Nat) : Prop := ∀ i j, i < m → j < m → p i = p j → i = j
theorem InjP.swap {p : Nat → Nat} {m a b : Nat} (h : InjP p m) (ha : a < m) (hb : b < m) : InjP (updA (updA p a (p b)) b (p a)) m := by
  intro i j hi hj
  unfold updA
  by_cases e1 : i = b
  · rw [if_pos e1]
    by_cases e2 : j = b
    · intro _; omega
    · rw [if_neg e2]
      by_cases e3 : j = a
      · rw [if_pos e3]; intro e; have := h _ _ ha hb e; omega
      · rw [if_neg e3]; intro e; have := h _ _ ha hj e; omega
  · rw [if_neg e1]
    by_cases e4 : i = a
    · rw [if_pos e4]
      by_cases e2 : j = b
      · rw [if_pos e2]; intro e; have := h _ _ hb ha e; omega
      · rw [if_neg e2]
        by_cases e3 : j = a
        · intro _; omega
        · rw [if_neg e3]; intro e; have := h _ _ hb hj e; omega
    · rw [if_neg e4]
      by_cases e2 : j = b
      · rw [if_pos e2]; intro e; have := h _ _ hi ha e; omega
      · rw [if_neg e2]
        by_cases e3 : j = a
        · rw [if_pos e3]; intro e; have := h _ _ hi hb e; omega
        · rw [if_neg e3]; intro e; exact h _ _ hi hj e
theorem swap_at {p : Nat → Nat} {a b : Nat} (R : Nat → Nat → Int) (f : Nat → Int) (n m : Nat) (h : ∀ i, i < m → ∀ j, j < n → f (p i * n + j) = R i j) (ha : a < m) (hb : b < m) :
    ∀ i, i < m → ∀ j, j < n → f (updA (updA p a (p b)) b (p a) i * n + j) = barSwap R a b i j := by
  intro i hi j hj
  unfold updA barSwap
  by_cases e1 : i = b
  · rw [if_pos e1]
    by_cases e2 : i = a
    · rw [if_pos e2, ← e1, e2]; exact h a ha j hj
    · rw [if_neg e2, if_pos e1]; exact h a ha j hj
  · rw [if_neg e1]
    by_cases e2 : i = a
    · rw [if_pos e2, if_pos e2]; exact h b hb j hj
    · rw [if_neg e2, if_neg e2, if_neg e1]; exact h i hi j hj
end Go.Proofs.Ytdkpmaahinbhlaa
/- slices.IndexFunc with the function value of the program's takeColumn: the first row with a number that is not 0 in a column. No condition. -/
namespace Go.Proofs.Ytdkpmaahinbhlaa
open Go.RowKit

/-- Rows that are read in a column: their slices, and their numbers there. -/
structure ColR (W : World) (bc c n gh K g : Nat) (q : Nat → Nat) (x : Nat → Int) (L : Nat) : Prop where
  col : W.cell? ⟨bc, 0, none⟩ = some (.int .i64 (c : Int))
  lt : c < n
  row : ∀ i, i < L → W.cell? ⟨gh, K + i, none⟩ = some (.slice (some ⟨g, q i, none⟩) n n)
  num : ∀ i, i < L → W.cell? ⟨g, q i + c, none⟩ = some (.int .i64 (x i))
theorem ne1_c (bc c n g o : Nat) (x : Int) (w : World) (h1 : w.cell? ⟨bc, 0, none⟩ = some (.int .i64 (c : Int))) (h2 : c < n) (h3 : w.cell? ⟨g, o + c, none⟩ = some (.int .i64 x)) :
    Calls Try.prog 236 #[.slice (some ⟨g, o, none⟩) n n, .pointer (some ⟨bc, 0, none⟩)] w fun e w' => e = .returned (.bool (x != 0)) ∧ w = w' := by
  have hci : (c : Int) < (n : Int) := by omega
  go_enter Try.func236, Try.ntmps236
  go_wp2
  go_ret
  exact ⟨rfl, rfl⟩
set_option maxHeartbeats 2000000 in
set_option maxRecDepth 100000 in
theorem idxR_c (bc c n gh K g L cap : Nat) (q : Nat → Nat) (x : Nat → Int) (w : World) (h : ColR w bc c n gh K g q x L) (hL : L ≤ 1000) (A : Option Addr) (hA : 0 < L → A = some ⟨gh, K, none⟩) :
    Calls Try.prog 235 #[.slice A L cap, .func (.func 236) #[] #[.pointer (some ⟨bc, 0, none⟩)]] w fun e w' => w = w' ∧
      ((e = .returned (.int .i64 (-1)) ∧ ∀ i, i < L → x i = 0) ∨ ∃ t : Nat, t < L ∧ e = .returned (.int .i64 t) ∧ x t ≠ 0 ∧ ∀ i, i < t → x i = 0) := by
  have HC := Lib.hid h
  have HA := Lib.hid hA
  clear h hA
  go_enter Try.func235, Try.ntmps235
  go_wp2_with fail
  go_loopw [5, 8] (fun _ i wr => w = wr ∧ ∃ j : Nat, j ≤ L ∧ i = .int .i64 j ∧ ∀ u : Nat, u < j → x u = 0) (fun _ i _ => L - (intOf i).toNat)
  case atStart => exact ⟨rfl, 0, Nat.zero_le _, rfl, fun u hu => absurd hu (Nat.not_lt_zero _)⟩
  case round =>
    obtain ⟨rfl, j, hj, rfl, hall⟩ := hrel
    have HALL := Lib.hid hall
    clear hall
    by_cases hlt : j < L
    · have hji : (j : Int) < (L : Int) := by omega
      obtain rfl := HA.out (by omega)
      have c1 := HC.out.row j hlt
      have HN := Lib.hid (ne1_c bc c n g (q j) (x j) w HC.out.col HC.out.lt (HC.out.num j hlt))
      obtain ⟨y, hy⟩ : ∃ y, x j = y := ⟨_, rfl⟩
      rw [hy] at HN
      have HY := Lib.hid hy
      clear hy
      by_cases hy0 : y = 0
      · have hb : (y != 0) = false := by simp [hy0]
        have HY0 := Lib.hid hy0
        rw [hb] at HN
        clear hy0 hb
        go_wp2_with (go_at_call 236; refine HN.out.mono ?_; rintro e w5 ⟨rfl, rfl⟩)
        go_roundw
        case rel => exact ⟨by simp, j + 1, by omega, by go_num, fun u hu => by
          by_cases e : u = j
          · subst e; rw [HY.out]; exact HY0.out
          · exact HALL.out u (by omega)⟩
        case measure => simp [intOf]; omega
      · have hb : (y != 0) = true := by simpa using hy0
        have HY0 := Lib.hid hy0
        rw [hb] at HN
        clear hy0 hb
        go_wp2_with (go_at_call 236; refine HN.out.mono ?_; rintro e w5 ⟨rfl, rfl⟩)
        go_ret
        exact ⟨by simp, .inr ⟨j, hlt, rfl, by rw [HY.out]; exact HY0.out, HALL.out⟩⟩
    · obtain rfl : j = L := by omega
      go_wp2_with fail
      go_ret
      exact ⟨by simp, .inl ⟨rfl, HALL.out⟩⟩
theorem idxR_no (bc c n gh K g L cap : Nat) (q : Nat → Nat) (x : Nat → Int) (w : World) (h : ColR w bc c n gh K g q x L) (hL : L ≤ 1000) (A : Option Addr) (hA : 0 < L → A = some ⟨gh, K, none⟩) (hz : ∀ i, i < L → x i = 0) :
    Calls Try.prog 235 #[.slice A L cap, .func (.func 236) #[] #[.pointer (some ⟨bc, 0, none⟩)]] w fun e w' => e = .returned (.int .i64 (-1)) ∧ w = w' :=
  (idxR_c bc c n gh K g L cap q x w h hL A hA).mono fun _ _ ⟨h1, h2⟩ => by
    rcases h2 with ⟨h3, _⟩ | ⟨t, ht, _, h4, _⟩
    · exact ⟨h3, h1⟩
    · exact absurd (hz t ht) h4
theorem idxR_yes (bc c n gh K g L cap t : Nat) (q : Nat → Nat) (x : Nat → Int) (w : World) (h : ColR w bc c n gh K g q x L) (hL : L ≤ 1000) (A : Option Addr) (hA : 0 < L → A = some ⟨gh, K, none⟩) (ht : t < L) (htz : x t ≠ 0) (hb : ∀ i, i < t → x i = 0) :
    Calls Try.prog 235 #[.slice A L cap, .func (.func 236) #[] #[.pointer (some ⟨bc, 0, none⟩)]] w fun e w' => e = .returned (.int .i64 (t : Int)) ∧ w = w' :=
  (idxR_c bc c n gh K g L cap q x w h hL A hA).mono fun _ _ ⟨h1, h2⟩ => by
    rcases h2 with ⟨_, h3⟩ | ⟨u, hu, h3, h4, h5⟩
    · exact absurd (h3 t ht) htz
    · have : u = t := by
        rcases Nat.lt_trichotomy u t with h | h | h
        · exact absurd (hb u h) h4
        · exact h
        · exact absurd (h5 t h) htz
      exact ⟨by rw [h3, this], h1⟩
end Go.Proofs.Ytdkpmaahinbhlaa
/- What (*impl.reducedMatrix).takeColumn does. No condition. -/
namespace Go.Proofs.Ytdkpmaahinbhlaa
open Go.RowKit

theorem box_int (w : World) (c : Int) : (w.alloc (.cells #[.int .i64 c] 3)).cell? ⟨w.heap.size, 0, none⟩ = some (.int .i64 c) := by
  rw [World.cell?_alloc_at _ _ _ _ rfl]; rfl
set_option maxHeartbeats 8000000 in
set_option maxRecDepth 100000 in
theorem take_c (B bs lo hi gh g m n c : Nat) (p : Nat → Nat) (f : Nat → Int) (Ap : Option Addr) (cp plo phi : Nat) (s : Red) (w : World) (h : RedI w B bs lo hi gh g m n p f Ap cp plo phi (pvI s) s.D)
    (hv : ∀ i, i < m → ∀ j, j < n → f (p i * n + j) = s.R i j) (hinj : InjP p m) (hS : RedS n m s c) (hc : c < n) (h9 : m ≤ 24) (hL : LimS n m s) (h12 : n ≤ 12) :
    Calls Try.prog 200 #[.pointer (some ⟨bs, 0, none⟩), .int .i64 (c : Int)] w fun e w' => e = .returned (.tuple #[]) ∧ ∃ p' f' Ap' cp' plo' phi',
      RedI w' B bs lo hi gh g m n p' f' Ap' cp' plo' phi' (pvI (s.take m c)) (s.take m c).D ∧ (∀ i, i < m → ∀ j, j < n → f' (p' i * n + j) = (s.take m c).R i j) ∧ InjP p' m ∧ Below B w w' := by
  have HS := Lib.hid hS
  have HLS := Lib.hid hL
  have HV := Lib.hid hv
  have HI := Lib.hid hinj
  have hle : (pvI s).length ≤ m := by rw [pvI_len]; exact hS.bar.le
  have HPL := Lib.hid (pvI_len s)
  clear hS hv hinj hL
  obtain ⟨ps, hps⟩ : ∃ ps, pvI s = ps := ⟨_, rfl⟩
  obtain ⟨D, hD⟩ : ∃ D, s.D = D := ⟨_, rfl⟩
  rw [hps, hD] at h
  rw [hps] at hle HPL
  have HPS := Lib.hid hps
  have HD := Lib.hid hD
  clear hps hD
  have hal := new_below w (.cells #[.int .i64 (c : Int)] 3)
  have HBA := Lib.hid (hal.mono (by have := h.low; have := h.bsz; omega : B ≤ w.heap.size))
  have HRA := Lib.hid (h.below hal)
  have HCB := Lib.hid (box_int w (c : Int))
  have HLOW := Lib.hid h.low
  have hbc : w.heap.size ≠ bs ∧ w.heap.size ≠ gh ∧ w.heap.size ≠ g := by
    have h1 := h.bsz
    have h2 := h.rows.hd
    have h3 := h.rows.nm
    have h4 := h.rows.top
    omega
  have hsz : (w.alloc (.cells #[.int .i64 (c : Int)] 3)).heap.size = w.heap.size + 1 := by simp
  have HSZ := Lib.hid hsz
  have HOLD := Lib.hid (show hi ≤ w.heap.size ∧ plo ≤ w.heap.size ∧ bs < w.heap.size ∧ phi ≤ w.heap.size from ⟨h.rows.top, h.ple, h.bsz, h.piv.1⟩)
  clear hal h hsz
  go_enter Try.func200, Try.ntmps200
  go_wp2_with fail
  generalize w.alloc (.cells #[.int .i64 (c : Int)] 3) = wA at *
  obtain ⟨bc, hbcE⟩ : ∃ bc, w.heap.size = bc := ⟨_, rfl⟩
  rw [hbcE] at hbc HCB ⊢
  have HBC := Lib.hid hbcE
  clear hbcE
  obtain ⟨b0, b1, b2, f0, f1, f2⟩ := Cel3.cells HRA.out.bx
  go_quiet (fail)
  have HB1 := Lib.hid (below_drewN wA.heap.size wA nq)
  have HR1 := Lib.hid (HRA.out.below HB1.out)
  have HBW := Lib.hid (HBA.out.trans (below_drewN B wA nq))
  have hcb : (wA.drewN nq).cell? ⟨bc, 0, none⟩ = some (.int .i64 (c : Int)) := (HB1.out.cell (p := ⟨bc, 0, none⟩) (by show bc < wA.heap.size; rw [HSZ.out, HBC.out]; omega)).trans HCB.out
  have hs1 : (wA.drewN nq).heap.size = bc + 1 := by
    have : (wA.drewN nq).heap.size = wA.heap.size := by simp
    rw [this, HSZ.out, HBC.out]
  have HSZ1 := Lib.hid hs1
  clear b0 b1 b2 f0 f1 f2 hs1
  generalize wA.drewN nq = w1 at *
  obtain ⟨b0, b1, b2, f0, f1, f2⟩ := Cel3.cells HR1.out.bx
  have hlei : (ps.length : Int) ≤ (m : Int) := by omega
  have HCOL := Lib.hid (show ColR w1 bc c n gh ps.length g (fun i => p (ps.length + i) * n) (fun i => s.R (ps.length + i) c) (m - ps.length) from ⟨hcb, hc, fun i hi => HR1.out.rows.head (by omega), fun i hi => by
    have hl : ps.length + i < m := by omega
    have := HR1.out.rows.num.cell (at_row (HR1.out.rows.per _ hl) hc)
    rw [HV.out _ hl c hc] at this
    exact this⟩)
  by_cases hfm : s.first m c < m
  · obtain ⟨t, hft⟩ : ∃ t, s.first m c = ps.length + t := ⟨s.first m c - ps.length, by have := (HS.out.first_nz hfm).2.1; have := HPL.out; omega⟩
    have HFI := Lib.hid hft
    have HFM := Lib.hid hfm
    have hF : ps.length + t < m := by omega
    have ht : t < m - ps.length := by omega
    have htz : s.R (ps.length + t) c ≠ 0 := by rw [← hft]; exact (HS.out.first_nz hfm).1
    have hbt : ∀ i, i < t → s.R (ps.length + i) c = 0 := fun i hi => by
      have := (fstI_spec (fun i => s.R i c != 0) (m - s.pv.length) s.pv.length).2.2.2 (ps.length + i) (by have := HPL.out; omega) (by show ps.length + i < s.first m c; omega)
      simpa using this
    have hKm : ¬ m = ps.length := by omega
    have hti : (t : Int) < ((m - ps.length : Nat) : Int) := by omega
    have h0i : (0 : Int) < ((m - ps.length : Nat) : Int) := by omega
    have hK : ps.length < m := by omega
    have ht0 : decide ((t : Int) < 0) = false := by simp
    have HTP := Lib.hid (Red.take_pv hfm)
    have HIX := Lib.hid (idxR_yes bc c n gh ps.length g (m - ps.length) (m - ps.length) t (fun i => p (ps.length + i) * n) (fun i => s.R (ps.length + i) c) w1 HCOL.out (by omega) (some ⟨gh, ps.length, none⟩) (fun _ => rfl) ht htz hbt)
    clear hft hfm htz hbt
    obtain ⟨wD, hwD⟩ : ∃ x, x = w1.drew := ⟨_, rfl⟩
    have HBD := Lib.hid (show Below w1.heap.size w1 wD by rw [hwD]; exact (Below.refl _ _).drew)
    have HRD := Lib.hid (HR1.out.below HBD.out)
    have hdF := HRD.out.rows.head hF
    have hdK := HRD.out.rows.head hK
    have fzF := World.ownsRow.frozenAt HRD.out.rows.row (ps.length + t)
    have fzK := World.ownsRow.frozenAt HRD.out.rows.row ps.length
    have hp1 := HRD.out.put hK (HRD.out.rows.per _ hF)
    have HP1 := Lib.hid hp1.2
    have HRP1 := Lib.hid hp1.1
    have hdF1 := HRP1.out.rows.head hF
    have fzF1 := World.ownsRow.frozenAt HRP1.out.rows.row (ps.length + t)
    have hp2 := HRP1.out.put hF (HRD.out.rows.per _ hK)
    have HP2 := Lib.hid hp2.2
    have HRP2 := Lib.hid hp2.1
    clear hp1 hp2
    go_wp2_with (go_at_call 235; refine HIX.out.mono ?_; rintro e w3 ⟨rfl, rfl⟩)
    clear b0 b1 b2 f0 f1 f2
    have HWD := Lib.hid hwD
    clear hwD
    refine (fun (rest : (?G : Prop)) => ?ways) ?rest
    case ways =>
      refine wp_region_held_drew (S := (fun _ => True)) (by kernel_rfl) ?_ (fun hHeld => ?_)
      · exact trivial
      rw [← HWD.out]
      refine wpAnyH_take (i := 0) (v := (.slice (some ⟨gh, ps.length, none⟩) (m - ps.length) (m - ps.length))) rfl (by kernel_rfl) (by kernel_rfl) (by kernel_rfl) (fun _ _ _ h => h) (Or.inl ⟨by kernel_rfl, fun w hSw => by (try dsimp only at hSw); go_simp; all_goals first | omega | exact IntWalk.i64_in _ (by omega)⟩) (by assumption) ?_
      refine wpAnyH_take (i := 1) (v := (.slice (some ⟨gh, ps.length, none⟩) (m - ps.length) (m - ps.length))) rfl (by kernel_rfl) (by kernel_rfl) (by kernel_rfl) (fun _ _ _ h => h) (Or.inl ⟨by kernel_rfl, fun w hSw => by (try dsimp only at hSw); go_simp; all_goals first | omega | exact IntWalk.i64_in _ (by omega)⟩) (by assumption) ?_
      refine wpAnyH_take (i := 2) (v := .int .i64 (t : Int)) rfl (by kernel_rfl) (by kernel_rfl) (by kernel_rfl) (fun _ _ _ h => h) (Or.inl ⟨by kernel_rfl, fun w hSw => by (try dsimp only at hSw); go_simp; all_goals first | omega | exact IntWalk.i64_in _ (by omega)⟩) (by assumption) ?_
      refine wpAnyH_take (i := 3) (v := (.slice (some ⟨gh, ps.length, none⟩) (m - ps.length) (m - ps.length))) rfl (by kernel_rfl) (by kernel_rfl) (by kernel_rfl) (fun _ _ _ h => h) (Or.inl ⟨by kernel_rfl, fun w hSw => by (try dsimp only at hSw); go_simp; all_goals first | omega | exact IntWalk.i64_in _ (by omega)⟩) (by assumption) ?_
      refine wpAnyH_take (i := 4) (v := .int .i64 (t : Int)) rfl (by kernel_rfl) (by kernel_rfl) (by kernel_rfl) (fun _ _ _ h => h) (Or.inl ⟨by kernel_rfl, fun w hSw => by (try dsimp only at hSw); go_simp; all_goals first | omega | exact IntWalk.i64_in _ (by omega)⟩) (by assumption) ?_
      refine wpAnyH_take (i := 5) (v := .pointer (some ⟨gh, ps.length + t, none⟩)) rfl (by kernel_rfl) (by kernel_rfl) (by kernel_rfl) (fun _ _ _ h => h) (Or.inl ⟨by kernel_rfl, fun w hSw => by (try dsimp only at hSw); go_simp; all_goals first | omega | exact IntWalk.i64_in _ (by omega)⟩) (by assumption) ?_
      refine wpAnyH_take (i := 7) (v := (.slice (some ⟨gh, ps.length, none⟩) (m - ps.length) (m - ps.length))) rfl (by kernel_rfl) (by kernel_rfl) (by kernel_rfl) (fun _ _ _ h => h) (Or.inl ⟨by kernel_rfl, fun w hSw => by (try dsimp only at hSw); go_simp; all_goals first | omega | exact IntWalk.i64_in _ (by omega)⟩) (by assumption) ?_
      refine wpAnyH_take (i := 8) (v := .pointer (some ⟨gh, ps.length, none⟩)) rfl (by kernel_rfl) (by kernel_rfl) (by kernel_rfl) (fun _ _ _ h => h) (Or.inl ⟨by kernel_rfl, fun w hSw => by (try dsimp only at hSw); go_simp; all_goals first | omega | exact IntWalk.i64_in _ (by omega)⟩) (by assumption) ?_
      refine wpAnyH_ready (rs := [6, 9]) (by kernel_rfl) (by simp) (AllReadyH.cons rfl (fun K hK => ?_) (AllReadyH.cons rfl (fun K hK => ?_) AllReadyH.nil))
      · go_simp
        refine hK _ _ trivial (fun hHeld => ?_)
        clear hK K
        refine wpAnyH_ready (rs := [9]) (by kernel_rfl) (by simp) (AllReadyH.cons rfl (fun K hK => ?_) AllReadyH.nil)
        go_simp
        refine hK _ _ trivial (fun hHeld => ?_)
        clear hK K
        refine wpAnyH_take (i := 10) (v := .pointer (some ⟨gh, ps.length, none⟩)) rfl (by kernel_rfl) (by kernel_rfl) (by kernel_rfl) (fun _ _ _ h => h) (Or.inl ⟨by kernel_rfl, fun w hSw => by (try dsimp only at hSw); go_simp; all_goals first | omega | exact IntWalk.i64_in _ (by omega)⟩) (by assumption) ?_
        refine wpAnyH_ready (rs := [11]) (by kernel_rfl) (by simp) (AllReadyH.cons rfl (fun K hK => ?_) AllReadyH.nil)
        go_simp
        refine hK _ _ trivial (fun hHeld => ?_)
        clear hK K
        refine wpAnyH_take (i := 12) (v := .pointer (some ⟨gh, ps.length + t, none⟩)) rfl (by kernel_rfl) (by kernel_rfl) (by kernel_rfl) (fun _ _ _ h => h) (Or.inl ⟨by kernel_rfl, fun w hSw => by (try dsimp only at hSw); go_simp; all_goals first | omega | exact IntWalk.i64_in _ (by omega)⟩) (by assumption) ?_
        refine wpAnyH_ready (rs := [13]) (by kernel_rfl) (by simp) (AllReadyH.cons rfl (fun K hK => ?_) AllReadyH.nil)
        go_simp
        refine hK _ _ trivial (fun hHeld => ?_)
        clear hK K
        refine wpAnyH_done (by kernel_rfl) ?_ _
        clear hHeld
        exact rest
      · go_simp
        refine hK _ _ trivial (fun hHeld => ?_)
        clear hK K
        refine wpAnyH_ready (rs := [6]) (by kernel_rfl) (by simp) (AllReadyH.cons rfl (fun K hK => ?_) AllReadyH.nil)
        go_simp
        refine hK _ _ trivial (fun hHeld => ?_)
        clear hK K
        refine wpAnyH_take (i := 10) (v := .pointer (some ⟨gh, ps.length, none⟩)) rfl (by kernel_rfl) (by kernel_rfl) (by kernel_rfl) (fun _ _ _ h => h) (Or.inl ⟨by kernel_rfl, fun w hSw => by (try dsimp only at hSw); go_simp; all_goals first | omega | exact IntWalk.i64_in _ (by omega)⟩) (by assumption) ?_
        refine wpAnyH_ready (rs := [11]) (by kernel_rfl) (by simp) (AllReadyH.cons rfl (fun K hK => ?_) AllReadyH.nil)
        go_simp
        refine hK _ _ trivial (fun hHeld => ?_)
        clear hK K
        refine wpAnyH_take (i := 12) (v := .pointer (some ⟨gh, ps.length + t, none⟩)) rfl (by kernel_rfl) (by kernel_rfl) (by kernel_rfl) (fun _ _ _ h => h) (Or.inl ⟨by kernel_rfl, fun w hSw => by (try dsimp only at hSw); go_simp; all_goals first | omega | exact IntWalk.i64_in _ (by omega)⟩) (by assumption) ?_
        refine wpAnyH_ready (rs := [13]) (by kernel_rfl) (by simp) (AllReadyH.cons rfl (fun K hK => ?_) AllReadyH.nil)
        go_simp
        refine hK _ _ trivial (fun hHeld => ?_)
        clear hK K
        refine wpAnyH_done (by kernel_rfl) ?_ _
        clear hHeld
        exact rest
    case rest =>
      have HSP := Lib.hid (show bs ≠ gh ∧ bs ≠ g ∧ bs ≠ bc by
        have h1 := HRP2.out.rows.hd
        have h2 := HRP2.out.rows.nm
        have h3 := HRP2.out.sep
        have h4 := hbc
        omega)
      have HV5 := Lib.hid (swap_at s.R f n m HV.out hK hF)
      have HI5 := Lib.hid (HI.out.swap hK hF)
      have HB5 := Lib.hid (show Below B w _ from within_on (within_on (HBW.out.trans (HBD.out.mono (by have := HSZ1.out; have := HOLD.out; have := HLOW.out; have := HBC.out; omega))) HP1.out (by have := HBD.out.size; have := HSZ1.out; have := HOLD.out; have := HLOW.out; have := HBC.out; omega) (.inl (by have := HRD.out.rows.hd; have := HLOW.out; omega))) HP2.out (by have := HP1.out.size; have := HBD.out.size; have := HSZ1.out; have := HOLD.out; have := HLOW.out; have := HBC.out; omega) (.inl (by have := HRD.out.rows.hd; have := HLOW.out; omega)))
      have hcb5 := (World.cell?_of_block (a := ⟨bc, 0, none⟩) (HP2.out.block bc (by have := HP1.out.size; have := HBD.out.size; have := HSZ1.out; omega) (by omega))).trans ((World.cell?_of_block (a := ⟨bc, 0, none⟩) (HP1.out.block bc (by have := HBD.out.size; have := HSZ1.out; omega) (by omega))).trans ((HBD.out.cell (p := ⟨bc, 0, none⟩) (by show bc < w1.heap.size; have := HSZ1.out; omega)).trans hcb))
      have HCB5 := Lib.hid hcb5
      have HSZ5 := Lib.hid (show bc < _ from Nat.lt_of_lt_of_le (by have := HSZ1.out; omega : bc < w1.heap.size) (Nat.le_trans HBD.out.size (Nat.le_trans HP1.out.size HP2.out.size)))
      clear hdF hdK fzF fzK hdF1 fzF1 hcb5 hcb HP1 HP2 HRP1 HRD
      obtain ⟨p5, hp5⟩ : ∃ q, updA (updA p ps.length (p (ps.length + t))) (ps.length + t) (p ps.length) = q := ⟨_, rfl⟩
      rw [hp5] at HRP2 HV5 HI5
      clear hp5
      generalize (wD.setCell ⟨gh, ps.length, none⟩ (.slice (some ⟨g, p (ps.length + t) * n, none⟩) n n)).setCell ⟨gh, ps.length + t, none⟩ (.slice (some ⟨g, p ps.length * n, none⟩) n n) = w5 at *
      obtain ⟨wE, hwE⟩ : ∃ x, x = w5.drew := ⟨_, rfl⟩
      have HBE := Lib.hid (show Below w5.heap.size w5 wE by rw [hwE]; exact (Below.refl _ _).drew)
      have HRE := Lib.hid (HRP2.out.below HBE.out)
      have HBWE := Lib.hid (show Below B w wE from HB5.out.trans (HBE.out.mono (by have := HSZ5.out; have := HBC.out; have := HOLD.out; have := HLOW.out; omega)))
      have HWE := Lib.hid hwE
      have HSZE := Lib.hid (show bc < wE.heap.size from Nat.lt_of_lt_of_le HSZ5.out HBE.out.size)
      have hK0 : ps.length < m := hK
      have hpk := HRE.out.rows.per _ hK
      obtain ⟨Q, hQ⟩ : ∃ Q, p5 ps.length * n = Q := ⟨_, rfl⟩
      have HQ0 := Lib.hid hQ
      obtain ⟨x, hx⟩ : ∃ x, s.R (ps.length + t) c = x := ⟨_, rfl⟩
      have HX := Lib.hid hx
      have HNUMF := Lib.hid (show f (Q + c) = x by
        rw [← hQ, HV5.out _ hK c hc, ← hx]
        unfold barSwap; rw [if_pos rfl])
      have HQN := Lib.hid (show Q + c < m * n by rw [← hQ]; exact at_row hpk hc)
      have HSE := Lib.hid (show wE.cell? ⟨bc, 0, none⟩ = some (.int .i64 (c : Int)) ∧ wE.cell? ⟨gh, ps.length, none⟩ = some (.slice (some ⟨g, Q, none⟩) n n) ∧ wE.cell? ⟨g, Q + c, none⟩ = some (.int .i64 x) from ⟨(HBE.out.cell (p := ⟨bc, 0, none⟩) HSZ5.out).trans HCB5.out, by have := HRE.out.rows.head hK; rw [hQ] at this; exact this, by have := HRE.out.rows.num.cell HQN.out; rw [HNUMF.out] at this; exact this⟩)
      have HAL := Lib.hid (new_below wE (.cells #[.int .i64 (c : Int)] 3))
      have HSA := Lib.hid (show (wE.alloc (.cells #[.int .i64 (c : Int)] 3)).cell? ⟨bc, 0, none⟩ = some (.int .i64 (c : Int)) ∧ (wE.alloc (.cells #[.int .i64 (c : Int)] 3)).cell? ⟨gh, ps.length, none⟩ = some (.slice (some ⟨g, Q, none⟩) n n) ∧ (wE.alloc (.cells #[.int .i64 (c : Int)] 3)).cell? ⟨g, Q + c, none⟩ = some (.int .i64 x) from ⟨(HAL.out.cell (p := ⟨bc, 0, none⟩) HSZE.out).trans HSE.out.1, (HAL.out.cell (p := ⟨gh, ps.length, none⟩) (by have := HRE.out.rows.hd; have := HRE.out.rows.top; show gh < wE.heap.size; omega)).trans HSE.out.2.1, (HAL.out.cell (p := ⟨g, Q + c, none⟩) (by have := HRE.out.rows.nm; have := HRE.out.rows.top; show g < wE.heap.size; omega)).trans HSE.out.2.2⟩)
      have HBX := Lib.hid (Cel3.cells HRE.out.bx)
      have HBXA := Lib.hid (Cel3.cells (Cel3.kept HRE.out.bx HAL.out))
      have b1 := HBX.out.2.1
      have b1a := HBXA.out.2.1
      have h0m : (0 : Int) < ((m - ps.length : Nat) : Int) := by omega
      have hcn : (c : Int) < (n : Int) := by omega
      clear hwE hQ hx
      go_wp2_with fail
      refine wp_region_held_drew (S := (fun W' : World => W'.cell? ⟨bc, 0, none⟩ = some (.int .i64 (c : Int)) ∧ W'.cell? ⟨gh, ps.length, none⟩ = some (.slice (some ⟨g, Q, none⟩) n n) ∧ W'.cell? ⟨g, Q + c, none⟩ = some (.int .i64 x))) (by kernel_rfl) ?_ (fun hHeld => ?_)
      · rw [← HWE.out]; exact HSE.out
      rw [← HWE.out] at hHeld ⊢
      refine wpAnyH_take (i := 0) (v := .pointer (some ⟨bs, 0, none⟩)) rfl (by kernel_rfl) (by kernel_rfl) (by kernel_rfl) (fun _ _ _ h => h) (Or.inl ⟨by kernel_rfl, fun w hSw => by (try dsimp only at hSw); go_simp; all_goals first | omega | exact IntWalk.i64_in _ (by omega)⟩) (by assumption) ?_
      refine wpAnyH_take (i := 1) (v := .pointer (some ⟨bs, 0, none⟩)) rfl (by kernel_rfl) (by kernel_rfl) (by kernel_rfl) (fun _ _ _ h => h) (Or.inl ⟨by kernel_rfl, fun w hSw => by (try dsimp only at hSw); go_simp; all_goals first | omega | exact IntWalk.i64_in _ (by omega)⟩) (by assumption) ?_
      refine wpAnyH_take (i := 2) (v := .pointer (some ⟨bs, 0, none⟩)) rfl (by kernel_rfl) (by kernel_rfl) (by kernel_rfl) (fun _ _ _ h => h) (Or.inl ⟨by kernel_rfl, fun w hSw => by (try dsimp only at hSw); go_simp; all_goals first | omega | exact IntWalk.i64_in _ (by omega)⟩) (by assumption) ?_
      refine wpAnyH_take (i := 3) (v := .pointer (some ⟨bs, 0, none⟩)) rfl (by kernel_rfl) (by kernel_rfl) (by kernel_rfl) (fun _ _ _ h => h) (Or.inl ⟨by kernel_rfl, fun w hSw => by (try dsimp only at hSw); go_simp; all_goals first | omega | exact IntWalk.i64_in _ (by omega)⟩) (by assumption) ?_
      refine wpAnyH_take (i := 4) (v := .pointer (some ⟨bs, 1, none⟩)) rfl (by kernel_rfl) (by kernel_rfl) (by kernel_rfl) (fun _ _ _ h => h) (Or.inl ⟨by kernel_rfl, fun w hSw => by (try dsimp only at hSw); go_simp; all_goals first | omega | exact IntWalk.i64_in _ (by omega)⟩) (by assumption) ?_
      refine wpAnyH_take (i := 6) (v := .int .i64 (c : Int)) rfl (by kernel_rfl) (by kernel_rfl) (by kernel_rfl) (fun _ _ _ h => h) (Or.inl ⟨by kernel_rfl, fun w hSw => by (try dsimp only at hSw); go_simp; all_goals first | omega | exact IntWalk.i64_in _ (by omega)⟩) (by assumption) ?_
      refine wpAnyH_take (i := 9) (v := .slice (some ⟨gh, ps.length, none⟩) (m - ps.length) (m - ps.length)) rfl (by kernel_rfl) (by kernel_rfl) (by kernel_rfl) (fun _ _ _ h => h) (Or.inl ⟨by kernel_rfl, fun w hSw => by (try dsimp only at hSw); go_simp; all_goals first | omega | exact IntWalk.i64_in _ (by omega)⟩) (by assumption) ?_
      refine wpAnyH_take (i := 10) (v := .pointer (some ⟨gh, ps.length, none⟩)) rfl (by kernel_rfl) (by kernel_rfl) (by kernel_rfl) (fun _ _ _ h => h) (Or.inl ⟨by kernel_rfl, fun w hSw => by (try dsimp only at hSw); go_simp; all_goals first | omega | exact IntWalk.i64_in _ (by omega)⟩) (by assumption) ?_
      refine wpAnyH_take (i := 11) (v := .slice (some ⟨g, Q, none⟩) n n) rfl (by kernel_rfl) (by kernel_rfl) (by kernel_rfl) (fun _ _ _ h => h) (Or.inl ⟨by kernel_rfl, fun w hSw => by (try dsimp only at hSw); go_simp; all_goals first | omega | exact IntWalk.i64_in _ (by omega)⟩) (by assumption) ?_
      refine wpAnyH_take (i := 12) (v := .int .i64 (c : Int)) rfl (by kernel_rfl) (by kernel_rfl) (by kernel_rfl) (fun _ _ _ h => h) (Or.inl ⟨by kernel_rfl, fun w hSw => by (try dsimp only at hSw); go_simp; all_goals first | omega | exact IntWalk.i64_in _ (by omega)⟩) (by assumption) ?_
      refine wpAnyH_take (i := 13) (v := .pointer (some ⟨g, Q + c, none⟩)) rfl (by kernel_rfl) (by kernel_rfl) (by kernel_rfl) (fun _ _ _ h => h) (Or.inl ⟨by kernel_rfl, fun w hSw => by (try dsimp only at hSw); go_simp; all_goals first | omega | exact IntWalk.i64_in _ (by omega)⟩) (by assumption) ?_
      refine wpAnyH_take (i := 14) (v := .int .i64 x) rfl (by kernel_rfl) (by kernel_rfl) (by kernel_rfl) (fun _ _ _ h => h) (Or.inl ⟨by kernel_rfl, fun w hSw => by (try dsimp only at hSw); go_simp; all_goals first | omega | exact IntWalk.i64_in _ (by omega)⟩) (by assumption) ?_
      refine (fun (rest2 : (?G2 : Prop)) => ?ways2) ?rest2
      case ways2 =>
        refine wpAnyH_ready (rs := [5, 7]) (by kernel_rfl) (by simp) (AllReadyH.cons rfl (fun K hK => ?_) (AllReadyH.cons rfl (fun K hK => ?_) AllReadyH.nil))
        · go_simp
          refine hK _ _ HSE.out (fun hHeld => ?_)
          clear hK K
          refine wpAnyH_ready (rs := [7]) (by kernel_rfl) (by simp) (AllReadyH.cons rfl (fun K hK => ?_) AllReadyH.nil)
          go_simp
          refine hK _ _ HSA.out (fun hHeld => ?_)
          clear hK K
          clear hHeld
          exact rest2
        · go_simp
          refine hK _ _ HSA.out (fun hHeld => ?_)
          clear hK K
          refine wpAnyH_ready (rs := [5]) (by kernel_rfl) (by simp) (AllReadyH.cons rfl (fun K hK => ?_) AllReadyH.nil)
          go_simp
          refine hK _ _ HSA.out (fun hHeld => ?_)
          clear hK K
          clear hHeld
          exact rest2
      case rest2 =>
        have hHeld := HSA.out
        refine wpAnyH_ready (rs := [8]) (by kernel_rfl) (by simp) (AllReadyH.cons rfl (fun K hK => ?_) AllReadyH.nil)
        refine step_pushZ wE (by rfl) _ _ (by rfl) plo phi Ap cp ps (c : Int) (by rfl) HRE.out.piv _ (by rfl) (by omega) HRE.out.ple ?_
        intro A6 c6 w16 lo6 hi6 hr6 hor6 hw6
        have HAP := Lib.hid (HRE.out.app hr6 hor6 hw6 x)
        have hcb6 : w16.cell? ⟨bc, 0, none⟩ = some (.int .i64 (c : Int)) := (World.cell?_of_block (a := ⟨bc, 0, none⟩) (hw6.block bc (by have := HSZE.out; omega) (by have := HOLD.out; have := HBC.out; omega))).trans HSE.out.1
        have HS6 := Lib.hid (show ∀ W' : World, Within bs (bs + 1) w16 W' → ((fun W' : World => W'.cell? ⟨bc, 0, none⟩ = some (.int .i64 (c : Int)) ∧ W'.cell? ⟨gh, ps.length, none⟩ = some (.slice (some ⟨g, Q, none⟩) n n) ∧ W'.cell? ⟨g, Q + c, none⟩ = some (.int .i64 x))) W' from fun W' hw => ⟨(World.cell?_of_block (a := ⟨bc, 0, none⟩) (hw.block bc (by have := hw6.size; have := HSZE.out; omega) (by omega))).trans hcb6, (World.cell?_of_block (a := ⟨gh, ps.length, none⟩) (hw.block gh (by have := HAP.out.2.1.hd; have := HAP.out.2.1.top; omega) (by have := HSP.out; omega))).trans (by have := HAP.out.2.1.head hK0; rw [HQ0.out] at this; exact this), (World.cell?_of_block (a := ⟨g, Q + c, none⟩) (hw.block g (by have := HAP.out.2.1.nm; have := HAP.out.2.1.top; omega) (by have := HSP.out; omega))).trans (by have := HAP.out.2.1.num.cell HQN.out; rw [HNUMF.out] at this; exact this)⟩)
        have HS60 := Lib.hid (HS6.out w16 (Within.refl _ _ _))
        have HS61 := Lib.hid (HS6.out _ (within_set w16 bs 1 (.slice A6 (ps.length + 1) c6)))
        have HS62 := Lib.hid (HS6.out _ ((within_set w16 bs 1 (.slice A6 (ps.length + 1) c6)).trans (within_set _ bs 2 (.int .i64 x))))
        obtain ⟨_, q1, q2, _, q4, q5⟩ := Cel3.cells HAP.out.1
        obtain ⟨_, _, q7, _, _, q8⟩ := Cel3.cells (Cel3.set1 HAP.out.1 (.slice A6 (ps.length + 1) c6))
        clear hr6 hor6 hw6 hcb6
        refine hK _ _ HS60.out (fun hHeld => ?_)
        clear hK K
        refine wpAnyH_take (i := 15) (v := .pointer (some ⟨bs, 0, none⟩)) rfl (by kernel_rfl) (by kernel_rfl) (by kernel_rfl) (fun _ _ _ h => h) (Or.inl ⟨by kernel_rfl, fun w hSw => by (try dsimp only at hSw); go_simp; all_goals first | omega | exact IntWalk.i64_in _ (by omega)⟩) (by assumption) ?_
        refine wpAnyH_take (i := 16) (v := .pointer (some ⟨bs, 1, none⟩)) rfl (by kernel_rfl) (by kernel_rfl) (by kernel_rfl) (fun _ _ _ h => h) (Or.inl ⟨by kernel_rfl, fun w hSw => by (try dsimp only at hSw); go_simp; all_goals first | omega | exact IntWalk.i64_in _ (by omega)⟩) (by assumption) ?_
        refine wpAnyH_ready (rs := [17]) (by kernel_rfl) (by simp) (AllReadyH.cons rfl (fun K hK => ?_) AllReadyH.nil)
        go_simp
        refine hK _ _ HS61.out (fun hHeld => ?_)
        clear hK K
        refine wpAnyH_take (i := 18) (v := .pointer (some ⟨bs, 0, none⟩)) rfl (by kernel_rfl) (by kernel_rfl) (by kernel_rfl) (fun _ _ _ h => h) (Or.inl ⟨by kernel_rfl, fun w hSw => by (try dsimp only at hSw); go_simp; all_goals first | omega | exact IntWalk.i64_in _ (by omega)⟩) (by assumption) ?_
        refine wpAnyH_take (i := 19) (v := .pointer (some ⟨bs, 2, none⟩)) rfl (by kernel_rfl) (by kernel_rfl) (by kernel_rfl) (fun _ _ _ h => h) (Or.inl ⟨by kernel_rfl, fun w hSw => by (try dsimp only at hSw); go_simp; all_goals first | omega | exact IntWalk.i64_in _ (by omega)⟩) (by assumption) ?_
        refine wpAnyH_ready (rs := [20]) (by kernel_rfl) (by simp) (AllReadyH.cons rfl (fun K hK => ?_) AllReadyH.nil)
        go_simp
        refine hK _ _ HS62.out (fun hHeld => ?_)
        clear hK K
        refine wpAnyH_done (by kernel_rfl) ?_ _
        have HRL := Lib.hid HAP.out.2.2.1
        have HBL := Lib.hid (show Below B w _ from HBWE.out.trans HAP.out.2.2.2)
        have HCL := Lib.hid HS62.out.1
        clear hHeld q1 q2 q4 q5 q7 q8 b1 b1a HS6 HS60 HS61 HS62 HAP HBX HBXA HSA HAL HSE HBWE HRE HBE HRP2 HB5
        generalize (w16.setCell ⟨bs, 1, none⟩ (.slice A6 (ps.length + 1) c6)).setCell ⟨bs, 2, none⟩ (.int .i64 x) = wL at *
        have HSPC := Lib.hid (show bc ≠ g from hbc.2.2)
        have HD0 := Lib.hid (show D ≠ 0 by rw [← HD.out]; exact HS.out.bar.nz)
        have HLIM := Lib.hid (fun (i : Nat) (hi : i < m) (j : Nat) (hj : j < n) => HLS.out.swap (a := s.pv.length) (by have := HPL.out; omega) hF hi hj)
        rw [← HPL.out] at HLIM
        have HTR := Lib.hid (show ∀ i j, (s.take m c).R i j = barStep (barSwap s.R ps.length (ps.length + t)) ps.length D c i j from fun i j => by
          unfold Red.take
          rw [if_pos (show s.first m c < m by rw [HFI.out]; exact hF), HFI.out, ← HPL.out, HD.out])
        have HTD := Lib.hid (show (s.take m c).D = x by rw [HTP.out.2, HFI.out]; exact HX.out)
        have HTV := Lib.hid (show pvI (s.take m c) = ps ++ [(c : Int)] by
          unfold pvI
          rw [HTP.out.1, List.map_append, ← HPS.out]; rfl)
        have HXR := Lib.hid (show x = barSwap s.R ps.length (ps.length + t) ps.length c by unfold barSwap; rw [if_pos rfl]; exact HX.out.symm)
        obtain ⟨R5, hR5⟩ : ∃ r, barSwap s.R ps.length (ps.length + t) = r := ⟨_, rfl⟩
        rw [hR5] at HV5 HLIM HTR HXR
        obtain ⟨RT, hRT⟩ : ∃ r, (s.take m c).R = r := ⟨_, rfl⟩
        rw [hRT] at HTR
        have HRT := Lib.hid hRT
        clear hR5 hRT
        obtain ⟨K, hKe⟩ : ∃ K, ps.length = K := ⟨_, rfl⟩
        rw [hKe] at HTR HXR hK0 hpk HQ0 h0m hKm ⊢
        have HKE := Lib.hid hKe
        have hKm2 : K < m := hK0
        obtain ⟨L0, hL0⟩ : ∃ L0, m - K = L0 := ⟨_, rfl⟩
        rw [hL0] at h0m ⊢
        have hl0 : 0 < L0 := by omega
        clear hL0 h0m
        clear hKe hlei hti h0i hF hK ht
        have hdz : ¬ D = 0 := HD0.out
        have hdz' : (D != 0) = true := by simpa using hdz
        obtain ⟨c0, c1, c2, g0, g1, g2⟩ := Cel3.cells HRL.out.bx
        go_wp2_with fail
        clear c0 c1 c2 g0 g1 g2
        go_loopw [8, 9, 68] (fun _ _ i wr => ∃ (u : Nat) (f3 : Nat → Int), u ≤ m ∧ i = .int .i64 u ∧ RedI wr B bs lo hi gh g m n p5 f3 A6 c6 lo6 hi6 (ps ++ [(c : Int)]) x ∧ (∀ i, i < m → ∀ j, j < n → f3 (p5 i * n + j) = if i < u then RT i j else R5 i j) ∧ wr.cell? ⟨bc, 0, none⟩ = some (.int .i64 (c : Int)) ∧ Below B w wr) (fun _ _ i _ => m - (intOf i).toNat)
        case atStart => exact ⟨0, f, by omega, rfl, HRL.out, fun i hi j hj => by rw [HV5.out i hi j hj, if_neg (by omega)], HCL.out, HBL.out⟩
        case round =>
          obtain ⟨u, f3, hu, rfl, hr3, hv3, hc3, hb3⟩ := hrel
          have HR3 := Lib.hid hr3
          have HV3 := Lib.hid hv3
          have HC3 := Lib.hid hc3
          have HB3 := Lib.hid hb3
          clear hr3 hv3 hc3 hb3
          by_cases hum : u < m
          · have hui : (u : Int) < (m : Int) := by omega
            have cu := HR3.out.rows.head hum
            by_cases huK : u = K
            · have hee : ((u : Int) == (K : Int)) = true := by simp [huK]
              have HUK := Lib.hid huK
              clear huK
              go_wp2_with fail
              go_roundw
              case rel => exact ⟨u + 1, f3, by omega, by go_num, HR3.out, fun i hi j hj => by
                rw [HV3.out i hi j hj]
                by_cases e : i < u
                · rw [if_pos e, if_pos (by omega)]
                · rw [if_neg e]
                  by_cases e2 : i = u
                  · rw [if_pos (by omega), HTR.out, barStep, if_pos (by rw [e2]; exact HUK.out), e2, HUK.out]
                  · rw [if_neg (by omega)], HC3.out, HB3.out⟩
              case measure => simp [intOf]; omega
            · have hee : ((u : Int) == (K : Int)) = false := by simp; omega
              have HUK := Lib.hid huK
              have hpu := HR3.out.rows.per _ hum
              have cy := HR3.out.rows.num.cell (at_row hpu hc)
              rw [HV3.out u hum c hc, if_neg (by omega)] at cy
              have hc3 := HC3.out
              have hy := HLIM.out u hum c hc
              obtain ⟨y, hyv⟩ : ∃ y, R5 u c = y := ⟨_, rfl⟩
              rw [hyv] at cy hy
              have HY := Lib.hid hyv
              obtain ⟨Pu, hPu⟩ : ∃ q, p5 u * n = q := ⟨_, rfl⟩
              rw [hPu] at cu cy
              have HPU := Lib.hid hPu
              clear hyv huK hPu
              obtain ⟨wq, hwq⟩ : ∃ v, v = wr := ⟨_, rfl⟩
              rw [← hwq] at HR3 HC3 HB3 cu cy hc3 ⊢
              clear hwq
              go_wp2_with fail
              clear cu cy hc3
              go_loopw [11, 82] (fun _ i wr2 => ∃ (v : Nat) (f4 : Nat → Int), v ≤ n ∧ i = .int .i64 v ∧ RedI wr2 B bs lo hi gh g m n p5 f4 A6 c6 lo6 hi6 (ps ++ [(c : Int)]) x ∧ (∀ i, i < m → ∀ j, j < n → f4 (p5 i * n + j) = if i < u then RT i j else if i = u then (if j < v then RT u j else R5 u j) else R5 i j) ∧ wr2.cell? ⟨bc, 0, none⟩ = some (.int .i64 (c : Int)) ∧ Below B w wr2) (fun _ i _ => n - (intOf i).toNat)
              case atStart => exact ⟨0, f3, by omega, rfl, HR3.out, fun i hi j hj => by
                rw [HV3.out i hi j hj]
                by_cases e : i < u
                · rw [if_pos e, if_pos e]
                · rw [if_neg e, if_neg e]
                  by_cases e2 : i = u
                  · rw [if_pos e2, if_neg (by omega), e2]
                  · rw [if_neg e2], HC3.out, HB3.out⟩
              case round =>
                obtain ⟨v, f4, hvn, rfl, hr4, hv4, hc4, hb4⟩ := hrel
                have HR4 := Lib.hid hr4
                have HV4 := Lib.hid hv4
                have HC4 := Lib.hid hc4
                have HB4 := Lib.hid hb4
                clear hr4 hv4 hc4 hb4
                by_cases hvl : v < n
                · have hvi : (v : Int) < (n : Int) := by omega
                  have hidx : Pu + v < m * n := by rw [← HPU.out]; exact at_row hpu hvl
                  have ca := HR4.out.rows.num.cell hidx
                  have cb := HR4.out.rows.num.cell (at_row hpk hvl)
                  have hfa : f4 (Pu + v) = R5 u v := by
                    rw [← HPU.out, HV4.out u hum v hvl, if_neg (by omega), if_pos rfl, if_neg (by omega)]
                  have hfb : f4 (p5 K * n + v) = R5 K v := by
                    rw [HV4.out K hKm2 v hvl]
                    by_cases e : K < u
                    · rw [if_pos e, HTR.out, barStep, if_pos rfl]
                    · rw [if_neg e, if_neg (fun h => HUK.out h.symm)]
                  rw [hfa] at ca
                  rw [hfb, HQ0.out] at cb
                  have ck := HR4.out.rows.head hKm2
                  rw [HQ0.out] at ck
                  obtain ⟨_, _, cx, _, _, _⟩ := Cel3.cells HR4.out.bx
                  have la := HLIM.out u hum v hvl
                  have lb := HLIM.out K hKm2 v hvl
                  have lx := HLIM.out K hKm2 c hc
                  rw [← HXR.out] at lx
                  have HQV := Lib.hid (show RT u v = Int.tdiv (R5 u v * x - R5 K v * y) D by
                    rw [HTR.out, barStep, if_neg HUK.out, ← HXR.out, HY.out])
                  obtain ⟨a, haE⟩ : ∃ a, R5 u v = a := ⟨_, rfl⟩
                  obtain ⟨b, hbE⟩ : ∃ b, R5 K v = b := ⟨_, rfl⟩
                  rw [haE] at ca la HQV
                  rw [hbE] at cb lb HQV
                  have m1 := mul_bd la lx
                  have m2 := mul_bd lb hy
                  obtain ⟨ax, hax⟩ : ∃ z, a * x = z := ⟨_, rfl⟩
                  obtain ⟨byy, hby⟩ : ∃ z, b * y = z := ⟨_, rfl⟩
                  rw [hax] at m1 HQV
                  rw [hby] at m2 HQV
                  have m1' : -18014398509481984 ≤ ax ∧ ax ≤ 18014398509481984 := m1
                  have m2' : -18014398509481984 ≤ byy ∧ byy ≤ 18014398509481984 := m2
                  have e1 : IntKind.i64.wrap (a * x) = ax := by rw [hax]; exact IntWalk.i64_in _ (by omega)
                  have e2 : IntKind.i64.wrap (b * y) = byy := by rw [hby]; exact IntWalk.i64_in _ (by omega)
                  obtain ⟨df, hdf⟩ : ∃ z, ax - byy = z := ⟨_, rfl⟩
                  rw [hdf] at HQV
                  have e3 : IntKind.i64.wrap (ax - byy) = df := by rw [hdf]; exact IntWalk.i64_in _ (by omega)
                  have hdfb : -36028797018963968 ≤ df ∧ df ≤ 36028797018963968 := by omega
                  have htd := tdiv_bd (x := df) (d := D)
                  obtain ⟨q, hq⟩ : ∃ z, Int.tdiv df D = z := ⟨_, rfl⟩
                  rw [hq] at HQV htd
                  have e4 : IntKind.i64.wrap (Int.tdiv df D) = q := by rw [hq]; exact IntWalk.i64_in _ (by omega)
                  have HR4D := Lib.hid (show RedI wr.drew B bs lo hi gh g m n p5 f4 A6 c6 lo6 hi6 (ps ++ [(c : Int)]) x from HR4.out.below (Below.refl _ _).drew)
                  have hst := HR4D.out.num hidx q
                  have HR5 := Lib.hid hst.1
                  have HC5 := Lib.hid (show (wr.drew.setCell ⟨g, Pu + v, none⟩ (.int .i64 q)).cell? ⟨bc, 0, none⟩ = some (.int .i64 (c : Int)) from (World.cell?_of_block (a := ⟨bc, 0, none⟩) (hst.2.block bc (World.block_lt_of_cell? wr _ HC4.out) (by have := HSPC.out; omega))).trans HC4.out)
                  have HB5 := Lib.hid (within_on HB4.out.drew hst.2 (by have := HLOW.out; have := HR4.out.bsz; have : wr.drew.heap.size = wr.heap.size := rfl; omega) (.inl (by have := HLOW.out; have := HR4.out.rows.nm; omega)))
                  clear hst haE hbE hax hby hdf hq hfa hfb m1 m2
                  go_wp2_with fail
                  go_still_tail 22, (by kernel_rfl)
                  change wpList _ _ _ _ _ wr.drew
                  have ca2 : wr.drew.cell? ⟨g, Pu + v, none⟩ = some (.int .i64 a) := ca
                  have fz2 := World.ownsRow.frozenAt HR4D.out.rows.num (Pu + v)
                  go_wp2_with fail
                  go_roundw
                  case rel => exact ⟨v + 1, _, by omega, by go_num, HR5.out, fun i hi j hj => by
                    by_cases e : p5 i * n + j = Pu + v
                    · rw [if_pos e]
                      rw [← HPU.out] at e
                      obtain ⟨ea, eb⟩ := at_inj hj hvl e
                      have ei := HI5.out i u hi hum ea
                      subst ei; subst eb
                      rw [if_neg (by omega), if_pos rfl, if_pos (by omega), HQV.out]
                    · rw [if_neg e, HV4.out i hi j hj]
                      by_cases e2 : i < u
                      · rw [if_pos e2, if_pos e2]
                      · rw [if_neg e2, if_neg e2]
                        by_cases e3 : i = u
                        · rw [if_pos e3, if_pos e3]
                          have hjv : j ≠ v := fun h => e (by rw [e3, h, HPU.out])
                          by_cases e4 : j < v
                          · rw [if_pos e4, if_pos (by omega)]
                          · rw [if_neg e4, if_neg (by omega)]
                        · rw [if_neg e3, if_neg e3], HC5.out, HB5.out⟩
                  case measure => simp [intOf]; omega
                · obtain rfl : v = n := by omega
                  go_wp2_with fail
                  go_roundw
                  case rel => exact ⟨u + 1, f4, by omega, by go_num, HR4.out, fun i hi j hj => by
                    rw [HV4.out i hi j hj]
                    by_cases e2 : i < u
                    · rw [if_pos e2, if_pos (by omega)]
                    · rw [if_neg e2]
                      by_cases e3 : i = u
                      · rw [if_pos e3, if_pos hj, if_pos (by omega), e3]
                      · rw [if_neg e3, if_neg (by omega)], HC4.out, HB4.out⟩
                  case measure => simp [intOf]; omega
          · obtain rfl : u = m := by omega
            go_wp2_with fail
            first | go_end0 | refine bodyPost_ret (results_none rfl _ _ _) rfl ?_
            rw [HTV.out, HTD.out, HRT.out]
            exact ⟨rfl, p5, f3, A6, c6, lo6, hi6, HR3.out, fun i hi j hj => by rw [HV3.out i hi j hj, if_pos hi], HI5.out, HB3.out⟩
  · have HFI := Lib.hid (show s.first m c = m by
      have := (fstI_spec (fun i => s.R i c != 0) (m - s.pv.length) s.pv.length).2.1
      have h2 : s.first m c ≤ s.pv.length + (m - s.pv.length) := this
      have := HPL.out
      omega)
    have HTK := Lib.hid (show s.take m c = s from Red.take_no hfm)
    have hz : ∀ i, i < m - ps.length → s.R (ps.length + i) c = 0 := fun i hi => by
      have := (fstI_spec (fun i => s.R i c != 0) (m - s.pv.length) s.pv.length).2.2.2 (ps.length + i) (by have := HPL.out; omega) (by show ps.length + i < s.first m c; rw [HFI.out]; omega)
      simpa using this
    clear hfm
    by_cases hKm : m = ps.length
    · subst hKm
      have HIX := Lib.hid (idxR_no bc c n gh ps.length g (ps.length - ps.length) (ps.length - ps.length) (fun i => p (ps.length + i) * n) (fun i => s.R (ps.length + i) c) w1 HCOL.out (by omega) (some ⟨gh, 0, none⟩) (fun hL => absurd hL (by omega)) hz)
      rw [Nat.sub_self] at HIX
      clear hz
      go_wp2_with (go_at_call 235; refine HIX.out.mono ?_; rintro e w3 ⟨rfl, rfl⟩)
      first | go_end0 | refine bodyPost_ret (results_none rfl _ _ _) rfl ?_
      rw [HTK.out, HPS.out, HD.out]
      exact ⟨rfl, p, f, Ap, cp, plo, phi, HR1.out, HV.out, HI.out, HBW.out⟩
    · have HIX := Lib.hid (idxR_no bc c n gh ps.length g (m - ps.length) (m - ps.length) (fun i => p (ps.length + i) * n) (fun i => s.R (ps.length + i) c) w1 HCOL.out (by omega) (some ⟨gh, ps.length, none⟩) (fun _ => rfl) hz)
      clear hz
      go_wp2_with (go_at_call 235; refine HIX.out.mono ?_; rintro e w3 ⟨rfl, rfl⟩)
      first | go_end0 | refine bodyPost_ret (results_none rfl _ _ _) rfl ?_
      rw [HTK.out, HPS.out, HD.out]
      exact ⟨rfl, p, f, Ap, cp, plo, phi, HR1.out, HV.out, HI.out, HBW.out⟩
end Go.Proofs.Ytdkpmaahinbhlaa
/- A copy of a row of ints into a part of a block of numbers. No condition. -/
namespace Go.Proofs.Ytdkpmaahinbhlaa
open Go.RowKit

theorem splice_F {N off n : Nat} {f : Nat → Int} {zs : List Int} (hl : zs.length = n) (hN : off + n ≤ N) :
    (intCells (rowF N f)).take off ++ (intCells zs ++ (intCells (rowF N f)).drop (off + n)) = intCells (rowF N fun i => if off ≤ i ∧ i < off + n then zs.getD (i - off) 0 else f i) := by
  have hL : (intCells (rowF N f)).length = N := by rw [intCells_len, rowF_len]
  have hz : (intCells zs).length = n := by rw [intCells_len, hl]
  apply List.ext_getElem?
  intro i
  by_cases hi : i < N
  · have h2 : (intCells (rowF N fun i => if off ≤ i ∧ i < off + n then zs.getD (i - off) 0 else f i))[i]? = some (.int .i64 (if off ≤ i ∧ i < off + n then zs.getD (i - off) 0 else f i)) := by
      rw [intCells_get _ i (by rw [rowF_len]; exact hi), rowF_getD hi]
    have h1 : (intCells (rowF N f))[i]? = some (.int .i64 (f i)) := by rw [intCells_get _ i (by rw [rowF_len]; exact hi), rowF_getD hi]
    rw [h2]
    by_cases e1 : i < off
    · rw [List.getElem?_append_left (by rw [List.length_take, hL]; omega), List.getElem?_take, if_pos e1, h1, if_neg (by omega)]
    · rw [List.getElem?_append_right (by rw [List.length_take, hL]; omega), List.length_take, hL, Nat.min_eq_left (by omega)]
      by_cases e2 : i < off + n
      · rw [List.getElem?_append_left (by rw [hz]; omega), intCells_get _ _ (by omega), if_pos (by omega)]
      · rw [List.getElem?_append_right (by rw [hz]; omega), hz, List.getElem?_drop, show off + n + (i - off - n) = i by omega, h1, if_neg (by omega)]
  · rw [List.getElem?_eq_none (by simp only [List.length_append, List.length_take, List.length_drop, hL, hz]; omega), List.getElem?_eq_none (by rw [intCells_len, rowF_len]; omega)]
theorem wpList_copyF {w : World} {ops : Array Oper} {rest : List Oper} {o : Oper} {a : Act} {Q : Exit → Act → World → Prop} (hgd : o.guard = none) (d s : Operand)
    (ho : o.op = .call { callee := .builtin .copy, args := #[d, s], argTypes := #[29, 29] }) (g off N n cd cs lo hi : Nat) (f : Nat → Int) (A : Option Addr) (zs : List Int) (hd : a.eval d = .slice (some ⟨g, off, none⟩) n cd) (hs : a.eval s = .slice A n cs)
    (hF : FlatAt w g N f) (hy : IntsIn w lo hi A zs) (hl : zs.length = n) (hn0 : 0 < n) (hN : off + n ≤ N)
    (h : ∀ w', FlatAt w' g N (fun i => if off ≤ i ∧ i < off + n then zs.getD (i - off) 0 else f i) → Within g (g + 1) w w' → wpList Try.prog ops Q rest (a.put o.dst (goInt n)) w') : wpList Try.prog ops Q (o :: rest) a w := by
  have hu := Try.underlying29
  have hsz : (Try.prog.info? 3).map (·.size) = some 1 := by kernel_rfl
  obtain ⟨b, bo, rfl, _, _, hc⟩ := hy.2 (by omega)
  rcases hF.2 with ⟨e0, _⟩ | ⟨g', cap', cur, e1, hg1, hheap, n1, n2, n3, n4⟩
  · cases e0
  · cases e1
    have hcl : (intCells zs).length = n := by rw [intCells_len, hl]
    have hcur : cur.toList = intCells (rowF N f) := by
      rw [← n4, Nat.mul_one]
      exact (List.take_of_length_le (by simp [n3])).symm
    have hcs : cur.size = N := by rw [n3, Nat.mul_one]
    refine wpList_copy_own hgd d s _ _ ho 3 hu hsz g off n cd ⟨b, bo, none⟩ n cs hd hs cur _ hheap (intCells zs) (by rw [hcl]; exact (Nat.min_self n).symm) ?_ (by rw [hcl, hcs]; exact hN) (intCells_one zs) ?_
    · intro j v hj
      have hjl : j < zs.length := by rw [hl, ← hcl]; exact (List.getElem?_eq_some_iff.1 hj).1
      have e := (hc j hjl).trans (intCells_get zs j hjl).symm
      rw [hj] at e
      have ha : (⟨b, bo, none⟩ : Addr).add j = ⟨b, bo + j, none⟩ := by unfold Addr.add; split <;> simp_all
      rw [ha]
      exact e
    · rw [hcl, hcur, splice_F hl hN]
      have hset := setRow_heap w g _ ((intCells (rowF N fun i => if off ≤ i ∧ i < off + n then zs.getD (i - off) 0 else f i)).toArray) _ _ hheap
      refine h _ ⟨by rw [intCells_len, rowF_len, Nat.mul_one], .inr ⟨g, N, _, rfl, hg1, hset, Nat.le_refl _, n2, ?_, ?_⟩⟩ ⟨rfl, rfl, rfl, ?_, fun k _ hd => setRow_other w g k _ (by omega)⟩
      · simp [intCells_len, rowF_len]
      · simp only [Nat.mul_one]
        exact List.take_of_length_le (by simp [intCells_len, rowF_len])
      · simp [World.setRow]
end Go.Proofs.Ytdkpmaahinbhlaa
/- The program's test of a matrix (impl.IsMatrix, isMatrixRow). No condition. -/
namespace Go.Proofs.Ytdkpmaahinbhlaa
open Go.RowKit

noncomputable def rowOkB (row : List Int) : Bool := @decide (RngP row row.length ∧ sqsP row row.length ≤ 64) (Classical.propDecidable _)
theorem rowOkB_yes {row : List Int} (h : RngP row row.length ∧ sqsP row row.length ≤ 64) : rowOkB row = true := by unfold rowOkB; exact @decide_eq_true _ (Classical.propDecidable _) h
theorem rowOkB_no {row : List Int} (h : ¬ (RngP row row.length ∧ sqsP row row.length ≤ 64)) : rowOkB row = false := by unfold rowOkB; exact @decide_eq_false _ (Classical.propDecidable _) h
set_option maxHeartbeats 2000000 in
set_option maxRecDepth 100000 in
theorem matRow_c (row : List Int) (A : Option Addr) (cap lo hi : Nat) (w : World) (hl : IntsIn w lo hi A row) (hn : row.length ≤ 12) :
    Calls Try.prog 154 #[.slice A row.length cap] w fun e w' => e = .returned (.bool (rowOkB row)) ∧ w = w' := by
  have HL := Lib.hid hl
  clear hl
  obtain ⟨bm, hbm⟩ : ∃ bm, rowOkB row = bm := ⟨_, rfl⟩
  rw [hbm]
  have HBM := Lib.hid hbm
  clear hbm
  go_enter Try.func154, Try.ntmps154
  go_wp2_with fail
  go_loopw [3, 5, 8] (fun s _ i wr => w = wr ∧ ∃ t : Nat, t ≤ row.length ∧ i = .int .i64 t ∧ s = .int .i64 (sqsP row t) ∧ RngP row t) (fun _ _ i _ => row.length - (intOf i).toNat)
  case atStart => exact ⟨rfl, 0, by omega, rfl, rfl, fun t ht => absurd ht (Nat.not_lt_zero t)⟩
  case round =>
    obtain ⟨rfl, t, ht, rfl, rfl, hg⟩ := hrel
    have HG := Lib.hid hg
    clear hg
    have hp := sqsP_pos row t
    have hq := sqsP_bd HG.out t (Nat.le_refl t)
    have HNX := Lib.hid (show sqsP row (t + 1) = sqsP row t + row.getD t 0 * row.getD t 0 from rfl)
    obtain ⟨y, hy⟩ : ∃ y, sqsP row t = y := ⟨_, rfl⟩
    rw [hy] at hp hq HNX ⊢
    have HY := Lib.hid hy
    clear hy
    by_cases htl : t < row.length
    · have hti : (t : Int) < (row.length : Int) := by omega
      obtain ⟨bi, oi, rfl, _, _, hc⟩ := HL.out.2 (by omega)
      have c2 := hc t htl
      clear hc
      obtain ⟨x, hxv⟩ : ∃ x, row.getD t 0 = x := ⟨_, rfl⟩
      rw [hxv] at c2 HNX
      have HXV := Lib.hid hxv
      clear hxv
      by_cases h1 : x < -8
      · have h1' : decide (x < -8) = true := by simpa using h1
        have hno : bm = false := by
          rw [← HBM.out]
          refine rowOkB_no fun h => ?_
          have := h.1 t htl
          rw [HXV.out] at this
          omega
        go_wp2_with fail
        go_ret
        exact ⟨by first | rfl | (rw [hno]; rfl), by simp⟩
      · have h1' : decide (x < -8) = false := by simpa using h1
        by_cases h2 : 8 < x
        · have h2' : decide (8 < x) = true := by simpa using h2
          have hno : bm = false := by
            rw [← HBM.out]
            refine rowOkB_no fun h => ?_
            have := h.1 t htl
            rw [HXV.out] at this
            omega
          go_wp2_with fail
          go_ret
          exact ⟨by first | rfl | (rw [hno]; rfl), by simp⟩
        · have h2' : decide (8 < x) = false := by simpa using h2
          have hx : -8 ≤ x ∧ x ≤ 8 := by omega
          have hsq := sq_bd hx
          have hsq0 := sq_pos x
          obtain ⟨z, hz⟩ : ∃ z, x * x = z := ⟨_, rfl⟩
          have hz1 : IntKind.i64.wrap (x * x) = z := by rw [hz]; exact IntWalk.i64_in _ (by omega)
          rw [hz] at hsq hsq0 HNX
          have HX := Lib.hid hx
          clear hz hx h1 h2
          go_wp2_with fail
          go_roundw
          case rel => exact ⟨by simp, t + 1, by omega, by go_num, by rw [HNX.out], fun u hu => by
            by_cases e : u = t
            · subst e; rw [HXV.out]; exact HX.out
            · exact HG.out u (by omega)⟩
          case measure => simp [intOf]; omega
    · obtain rfl : t = row.length := by omega
      have hv : bm = decide (y ≤ 64) := by
        rw [← HBM.out]
        by_cases h64 : y ≤ 64
        · rw [rowOkB_yes ⟨HG.out, by rw [HY.out]; exact h64⟩, decide_eq_true h64]
        · rw [rowOkB_no (fun h => h64 (by rw [← HY.out]; exact h.2)), decide_eq_false h64]
      go_wp2_with fail
      go_ret
      exact ⟨by first | rfl | (rw [hv]; rfl), by simp⟩

set_option maxHeartbeats 4000000 in
set_option maxRecDepth 100000 in
theorem implMat (m : List (List Int)) (A : Option Addr) (cap lo hi : Nat) (w : World) (hl : RowsIn w lo hi A m) (hn : m.length ≤ 1048576) (hr : ∀ k, k < m.length → (m.getD k []).length ≤ 1048576) :
    Calls Try.prog 64 #[.slice A m.length cap] w fun e w' => e = .returned (.bool (isMatB m)) ∧ w = w' := by
  obtain ⟨bm, hbm⟩ : ∃ bm, isMatB m = bm := ⟨_, rfl⟩
  rw [hbm]
  have HBM := Lib.hid hbm
  clear hbm
  by_cases h0 : m.length < 1
  · have hno : bm = false := by rw [← HBM.out]; exact isMatB_no fun h => by have := h.h0; omega
    have h0' : decide ((m.length : Int) < 1) = true := by simp; omega
    clear hl hr
    rw [hno]
    go_enter Try.func64, Try.ntmps64
    go_wp2_with fail
    go_ret
    exact ⟨rfl, rfl⟩
  · have h0' : decide ((m.length : Int) < 1) = false := by simp; omega
    by_cases h9 : m.length ≤ 9
    · have h9' : decide (9 < (m.length : Int)) = false := by simp; omega
      have HRR := Lib.hid hr
      obtain ⟨b, off, S, rfl, hbw, hc⟩ := rows_fn hl (by omega)
      have HC := Lib.hid hc
      clear hc hl hr
      have c0 := (HC.out 0 (by omega)).1
      rw [Nat.add_zero] at c0
      have hr0 := HRR.out 0 (by omega)
      obtain ⟨W, hW⟩ : ∃ W, (m.getD 0 []).length = W := ⟨_, rfl⟩
      rw [hW] at c0 hr0
      have HWD := Lib.hid (show widM m = W from hW)
      clear hW
      obtain ⟨⟨A0, cz⟩, hS0⟩ : ∃ s, S 0 = s := ⟨_, rfl⟩
      rw [hS0] at c0
      dsimp only at c0
      clear hS0
      have hmi : (0 : Int) < (m.length : Int) := by omega
      by_cases hw1 : W < 1
      · have hw1' : decide ((W : Int) < 1) = true := by simp; omega
        have hno : bm = false := by
          rw [← HBM.out]
          refine isMatB_no fun h => ?_
          have h1 := h.w1
          rw [HWD.out] at h1
          omega
        rw [hno]
        go_enter Try.func64, Try.ntmps64
        go_wp2_with fail
        go_ret
        exact ⟨rfl, rfl⟩
      · have hw1' : decide ((W : Int) < 1) = false := by simp; omega
        by_cases hw2 : 12 < W
        · have hw2' : decide (12 < (W : Int)) = true := by simp; omega
          have hno : bm = false := by
            rw [← HBM.out]
            refine isMatB_no fun h => ?_
            have h1 := h.w12
            rw [HWD.out] at h1
            omega
          rw [hno]
          go_enter Try.func64, Try.ntmps64
          go_wp2_with fail
          go_ret
          exact ⟨rfl, rfl⟩
        · have hw2' : decide (12 < (W : Int)) = false := by simp; omega
          go_enter Try.func64, Try.ntmps64
          go_wp2_with fail
          go_loopw [5, 26] (fun _ i wr => w = wr ∧ ∃ k : Nat, k ≤ m.length ∧ i = .int .i64 k ∧ ∀ u, u < k → (m.getD u []).length = W ∧ RngP (m.getD u []) W ∧ sqsP (m.getD u []) W ≤ 64) (fun _ i _ => m.length - (intOf i).toNat)
          case atStart => exact ⟨rfl, 0, by omega, rfl, fun t ht => absurd ht (Nat.not_lt_zero t)⟩
          case round =>
            obtain ⟨rfl, k, hk, rfl, hs⟩ := hrel
            have HS := Lib.hid hs
            clear hs
            by_cases hlt : k < m.length
            · have hki : (k : Int) < (m.length : Int) := by omega
              have c1 := (HC.out k hlt).1
              have HI := Lib.hid (HC.out k hlt).2
              have hrk := HRR.out k hlt
              obtain ⟨row, hrow⟩ : ∃ row, m.getD k [] = row := ⟨_, rfl⟩
              obtain ⟨⟨A', c'⟩, hSk⟩ : ∃ s, S k = s := ⟨_, rfl⟩
              rw [hrow] at c1 hrk HI
              rw [hSk] at c1 HI
              dsimp only at c1 HI
              have HROW := Lib.hid hrow
              clear hrow hSk
              by_cases hlw : row.length = W
              · have hne : ((row.length : Int) != (W : Int)) = false := by simp [hlw]
                have HRC := Lib.hid (matRow_c row A' c' lo hi w HI.out (by omega))
                have HLW := Lib.hid hlw
                clear hlw
                by_cases hok : RngP row row.length ∧ sqsP row row.length ≤ 64
                · have HOK := Lib.hid hok
                  rw [rowOkB_yes hok] at HRC
                  clear hok
                  go_wp2_with fail
                  refine HRC.out.mono ?_
                  rintro e w3 ⟨rfl, rfl⟩
                  go_wp2_with fail
                  go_roundw
                  case rel => exact ⟨by simp, k + 1, by omega, by go_num, fun u hu => by
                    by_cases e : u = k
                    · subst e; rw [HROW.out, ← HLW.out]; exact ⟨rfl, HOK.out⟩
                    · exact HS.out u (by omega)⟩
                  case measure => simp [intOf]; omega
                · have HOK := Lib.hid hok
                  rw [rowOkB_no hok] at HRC
                  clear hok
                  have hno : bm = false := by
                    rw [← HBM.out]
                    refine isMatB_no fun h => HOK.out ?_
                    have h1 := (h.row k hlt).2
                    have h2 := h.sq k hlt
                    rw [HROW.out, HWD.out, ← HLW.out] at h1 h2
                    exact ⟨h1, h2⟩
                  go_wp2_with fail
                  refine HRC.out.mono ?_
                  rintro e w3 ⟨rfl, rfl⟩
                  go_wp2_with fail
                  go_ret
                  exact ⟨by first | rfl | (rw [hno]; rfl), by simp⟩
              · have hne : ((row.length : Int) != (W : Int)) = true := by simp; omega
                have hno : bm = false := by
                  rw [← HBM.out]
                  refine isMatB_no fun h => hlw ?_
                  have := (h.row k hlt).1
                  rw [HROW.out, HWD.out] at this
                  exact this
                go_wp2_with fail
                go_ret
                exact ⟨by first | rfl | (rw [hno]; rfl), by simp⟩
            · obtain rfl : k = m.length := by omega
              have hyes : bm = true := by
                rw [← HBM.out]
                exact isMatB_yes ⟨by omega, h9, by rw [HWD.out]; omega, by rw [HWD.out]; omega, fun u hu => by rw [HWD.out]; exact ⟨(HS.out u hu).1, (HS.out u hu).2.1⟩, fun u hu => by rw [HWD.out]; exact (HS.out u hu).2.2⟩
              go_wp2_with fail
              go_ret
              exact ⟨by first | rfl | (rw [hyes]; rfl), by simp⟩
    · have h9' : decide (9 < (m.length : Int)) = true := by simp; omega
      have hno : bm = false := by rw [← HBM.out]; exact isMatB_no fun h => by have := h.h9; omega
      clear hl hr
      rw [hno]
      go_enter Try.func64, Try.ntmps64
      go_wp2_with fail
      go_ret
      exact ⟨rfl, rfl⟩
end Go.Proofs.Ytdkpmaahinbhlaa
/- What impl.reduceMatrix answers: the reduction, column by column. No condition. -/
namespace Go.Proofs.Ytdkpmaahinbhlaa
open Go.RowKit

set_option maxHeartbeats 8000000 in
set_option maxRecDepth 100000 in
theorem rdm_c (m : List (List Int)) (hM : MatQ m) (A : Option Addr) (cap lo hi : Nat) (w : World) (hl : RowsIn w lo hi A m) :
    Calls Try.prog 150 #[.slice A m.length cap] w fun e w' => ∃ gh g p f Ap cp plo phi lo2 hi2,
      e = .returned (.agg #[.slice (some ⟨gh, 0, none⟩) m.length m.length, .slice Ap (pvI (Red.run m.length (atM m) (widM m))).length cp, .int .i64 (Red.run m.length (atM m) (widM m)).D]) ∧
      RowsF w' lo2 hi2 gh g m.length (widM m) p f ∧ OwnR w' plo phi Ap cp (pvI (Red.run m.length (atM m) (widM m))) ∧ (∀ i, i < m.length → ∀ j, j < widM m → f (p i * widM m + j) = (Red.run m.length (atM m) (widM m)).R i j) ∧
      (w.heap.size ≤ lo2 ∧ w.heap.size ≤ plo) ∧ Below w.heap.size w w' := by
  obtain ⟨b, off, S0, rfl, hbw, hc⟩ := rows_fn hl hM.h0
  have HC := Lib.hid hc
  have h0 := hM.h0
  have h9 := hM.h9
  have h12 := hM.w12
  have hn1 := hM.w1
  have HRED := Lib.hid (fun (c : Nat) (h : c ≤ widM m) => hM.red h)
  have HLIM := Lib.hid (fun (c : Nat) (h : c ≤ widM m) => hM.limS h)
  have HROW := Lib.hid hM.row
  have hw0 := (hM.row 0 h0).1
  have hal := new_below w (.cells #[.slice none 0 0, .slice none 0 0, .int .i64 0] 142)
  have HBA := Lib.hid hal
  have HBR := Lib.hid (cel3_new w (.slice none 0 0) (.slice none 0 0) (.int .i64 0) 142)
  have hsz : (w.alloc (.cells #[.slice none 0 0, .slice none 0 0, .int .i64 0] 142)).heap.size = w.heap.size + 1 := by simp
  have HSZ := Lib.hid hsz
  have c0 := rows_cell hbw hc hal (i := 0) h0
  rw [Nat.add_zero, hw0] at c0
  clear hc hl hM hal hsz hw0
  obtain ⟨n, hn⟩ : ∃ n, widM m = n := ⟨_, rfl⟩
  have HN := Lib.hid hn
  rw [hn] at h12 HRED HLIM hn1 c0 ⊢
  obtain ⟨M, hMM⟩ : ∃ M, m.length = M := ⟨_, rfl⟩
  have HMM := Lib.hid hMM
  rw [hMM] at h0 h9 HRED HLIM ⊢
  obtain ⟨⟨A0, z0⟩, hS0⟩ : ∃ s, S0 0 = s := ⟨_, rfl⟩
  rw [hS0] at c0
  dsimp only at c0
  clear hn hMM hS0
  have hsl : (0 : Int) < (M : Int) := by omega
  go_enter Try.func150, Try.ntmps150
  go_wp2_with fail
  generalize w.alloc (.cells #[.slice none 0 0, .slice none 0 0, .int .i64 0] 142) = w0 at *
  refine (newRows_c M n w0 (by omega) (by omega) (by omega)).mono ?_
  rintro e w1 ⟨gh, g, rfl, hf, hb⟩
  have hal2 := new_below w1 (.cells #[.slice (some ⟨gh, 0, none⟩) M M, .slice none 0 0, .int .i64 1] 142)
  have HBS := Lib.hid (cel3_new w1 (.slice (some ⟨gh, 0, none⟩) M M) (.slice none 0 0) (.int .i64 1) 142)
  have hsz2 : (w1.alloc (.cells #[.slice (some ⟨gh, 0, none⟩) M M, .slice none 0 0, .int .i64 1] 142)).heap.size = w1.heap.size + 1 := by simp
  have HF2 := Lib.hid (hf.within (within_of hal2) (.inr (Nat.zero_le _)))
  have HB2 := Lib.hid (below_on hb hal2 hb.size)
  have hs1 := hb.size
  have HS1 := Lib.hid hs1
  have HR0 := Lib.hid (show RedI (w1.alloc (.cells #[.slice (some ⟨gh, 0, none⟩) M M, .slice none 0 0, .int .i64 1] 142)) w0.heap.size w1.heap.size w0.heap.size w1.heap.size gh g M n id (fun _ => 0) none 0 (w1.heap.size + 1) (w1.heap.size + 1) [] 1 from
    ⟨HBS.out, HF2.out, ownR_nil _ _ _ (by rw [hsz2]; exact Nat.le_refl _), by omega, by rw [hsz2]; exact Nat.le_refl _, by omega⟩)
  clear hf hb hal2 c0 hs1 hsz2
  go_wp2_with fail
  generalize w1.alloc (.cells #[.slice (some ⟨gh, 0, none⟩) M M, .slice none 0 0, .int .i64 1] 142) = w2 at *
  obtain ⟨bs, hbs⟩ : ∃ x, w1.heap.size = x := ⟨_, rfl⟩
  rw [hbs] at HR0 ⊢
  clear hbs HBS HF2
  go_loopw [5, 6, 19] (fun _ _ i wr => ∃ (k : Nat) (f : Nat → Int), k ≤ M ∧ i = .int .i64 k ∧ RedI wr w0.heap.size bs w0.heap.size bs gh g M n id f none 0 (bs + 1) (bs + 1) [] 1 ∧ Below w0.heap.size w0 wr ∧ ∀ i, i < k → ∀ j, j < n → f (i * n + j) = atM m i j) (fun _ _ i _ => M - (intOf i).toNat)
  case atStart => exact ⟨0, _, by omega, rfl, HR0.out, HB2.out, fun i hi => absurd hi (Nat.not_lt_zero i)⟩
  case round =>
    obtain ⟨k, f, hk, rfl, hr, hb, hv⟩ := hrel
    have HR := Lib.hid hr
    have HB := Lib.hid hb
    have HV := Lib.hid hv
    clear hr hb hv
    have HBW := Lib.hid (HBA.out.trans (HB.out.mono (by rw [HSZ.out]; omega)))
    by_cases hlt : k < M
    · have hki : (k : Int) < (M : Int) := by omega
      have hltm : k < m.length := by rw [HMM.out]; exact hlt
      have hrl := (HROW.out k hltm).1
      have c1 := rows_cell hbw HC.out HBW.out hltm
      rw [hrl, HN.out] at c1
      have hin := (HC.out k hltm).2.within (within_of HBW.out) (.inr (Nat.zero_le _))
      obtain ⟨⟨A', c'⟩, hSk⟩ : ∃ s, S0 k = s := ⟨_, rfl⟩
      rw [hSk] at c1 hin
      dsimp only at c1 hin
      have HIN := Lib.hid hin
      have HRL := Lib.hid (show (m.getD k []).length = n by rw [hrl, HN.out])
      obtain ⟨b0, b1, b2, q0, q1, q2⟩ := Cel3.cells HR.out.bx
      have ch := HR.out.rows.head hlt
      have hKN := Nat.mul_le_mul_right n (show k + 1 ≤ M from hlt)
      rw [Nat.add_mul, Nat.one_mul] at hKN
      have HKN := Lib.hid hKN
      have hid1 : id k * n = k * n := rfl
      rw [hid1] at ch
      obtain ⟨K, hK⟩ : ∃ K, k * n = K := ⟨_, rfl⟩
      rw [hK] at ch HKN
      have HK := Lib.hid hK
      clear hSk hin hrl hKN hid1 hK
      go_wp2_with (with_reducible refine wpList_copyF rfl _ _ rfl g K (M * n) n n c' lo hi f A' (m.getD k []) rfl rfl HR.out.rows.num HIN.out HRL.out (by omega) HKN.out ?_; intro w5 hf5 hw5; have HF5 := Lib.hid hf5; have HW5 := Lib.hid hw5; clear hf5 hw5)
      have hnm := HR.out.rows.nm
      have hsp := HR.out.sep
      have hR5 : RedI w5 w0.heap.size bs w0.heap.size bs gh g M n id (fun i => if K ≤ i ∧ i < K + n then (m.getD k []).getD (i - K) 0 else f i) none 0 (bs + 1) (bs + 1) [] 1 := by
        have hr := HR.out.rows
        have h1 := hr.hd
        have hne := hr.ne
        have ht := hr.top
        have hbz := HR.out.bsz
        refine ⟨Cel3.within HR.out.bx HW5.out (by omega), ⟨Nat.le_trans ht HW5.out.size, h1, hr.nm, hne, hr.per, own_blk hr.row (HW5.out.block gh (by omega) (by omega)), HF5.out⟩, HR.out.piv.within HW5.out (by omega), HR.out.low, Nat.le_trans HR.out.ple HW5.out.size, hsp⟩
      have HR5 := Lib.hid hR5
      have HB5 := Lib.hid (within_on HB.out HW5.out HB.out.size (.inl hnm.1))
      clear hR5
      go_roundw
      case rel => exact ⟨k + 1, _, by omega, by go_num, HR5.out, HB5.out, fun i hi j hj => by
        by_cases e : i = k
        · subst e
          rw [HK.out, if_pos (by omega), Nat.add_sub_cancel_left]; rfl
        · have h1 := HV.out i (by omega) j hj
          have h2 : i * n + j < k * n := at_row (by omega) hj
          rw [HK.out] at h2
          rw [if_neg (by omega)]
          exact h1⟩
      case measure => simp [intOf]; omega
    · obtain rfl : k = M := by omega
      have HR6 := Lib.hid (show ∃ p f Ap cp plo phi, RedI wr w0.heap.size bs w0.heap.size bs gh g k n p f Ap cp plo phi (pvI (Red.run k (atM m) 0)) (Red.run k (atM m) 0).D ∧ (∀ i, i < k → ∀ j, j < n → f (p i * n + j) = (Red.run k (atM m) 0).R i j) ∧ InjP p k from
        ⟨id, f, none, 0, bs + 1, bs + 1, HR.out, fun i hi j hj => HV.out i hi j hj, fun i j _ _ e => e⟩)
      clear HR HV HBW
      go_wp2_with fail
      go_loopw [7, 33] (fun _ i wr2 => ∃ c : Nat, c ≤ n ∧ i = .int .i64 c ∧ Below w0.heap.size w0 wr2 ∧ ∃ p f Ap cp plo phi, RedI wr2 w0.heap.size bs w0.heap.size bs gh g k n p f Ap cp plo phi (pvI (Red.run k (atM m) c)) (Red.run k (atM m) c).D ∧ (∀ i, i < k → ∀ j, j < n → f (p i * n + j) = (Red.run k (atM m) c).R i j) ∧ InjP p k) (fun _ i _ => n - (intOf i).toNat)
      case atStart => exact ⟨0, by omega, rfl, HB.out, HR6.out⟩
      case round =>
        clear HR6 HB
        obtain ⟨c, hc, rfl, hb, p, f, Ap, cp, plo, phi, hr, hv, hi⟩ := hrel
        have HB := Lib.hid hb
        have HR := Lib.hid hr
        have HV := Lib.hid hv
        have HI := Lib.hid hi
        clear hb hr hv hi
        by_cases hcn : c < n
        · have hci : (c : Int) < (n : Int) := by omega
          have HTK := Lib.hid (take_c w0.heap.size bs w0.heap.size bs gh g k n c p f Ap cp plo phi (Red.run k (atM m) c) wr HR.out HV.out HI.out (HRED.out c (by omega)) hcn h9 (HLIM.out c (by omega)) h12)
          go_wp2_with fail
          refine HTK.out.mono ?_
          rintro e w5 ⟨rfl, p', f', Ap', cp', plo', phi', hr', hv', hi', hb5⟩
          have HR5 := Lib.hid (show ∃ p f Ap cp plo phi, RedI w5 w0.heap.size bs w0.heap.size bs gh g k n p f Ap cp plo phi (pvI (Red.run k (atM m) (c + 1))) (Red.run k (atM m) (c + 1)).D ∧ (∀ i, i < k → ∀ j, j < n → f (p i * n + j) = (Red.run k (atM m) (c + 1)).R i j) ∧ InjP p k from ⟨p', f', Ap', cp', plo', phi', hr', hv', hi'⟩)
          have HB5 := Lib.hid (HB.out.trans hb5)
          clear hr' hv' hi' hb5
          go_wp2_with fail
          go_roundw
          case rel => exact ⟨c + 1, by omega, by go_num, HB5.out, HR5.out⟩
          case measure => simp [intOf]; omega
        · obtain rfl : c = n := by omega
          have HBW := Lib.hid (HBA.out.trans (HB.out.mono (by rw [HSZ.out]; omega)))
          have hbr := Cel3.kept HBR.out HB.out
          have hbs0 : w.heap.size < w0.heap.size := by rw [HSZ.out]; omega
          obtain ⟨PS, hPS⟩ : ∃ q, pvI (Red.run k (atM m) c) = q := ⟨_, rfl⟩
          obtain ⟨DD, hDD⟩ : ∃ q, (Red.run k (atM m) c).D = q := ⟨_, rfl⟩
          rw [hPS, hDD] at HR
          have HPS := Lib.hid hPS
          have HDD := Lib.hid hDD
          clear hPS hDD
          obtain ⟨b0, b1, b2, q0, q1, q2⟩ := Cel3.cells HR.out.bx
          obtain ⟨r0, r1, r2, t0, t1, t2⟩ := Cel3.cells hbr
          have h3 := ret3 hbr (.slice (some ⟨gh, 0, none⟩) k k) (.slice Ap PS.length cp) (.int .i64 DD)
          obtain ⟨s0, s1, s2, _⟩ := Cel3.cells h3.1
          have HW := Lib.hid h3.2
          clear h3 hbr
          go_wp2_with fail
          refine bodyPost_ret (v := .agg #[.slice (some ⟨gh, 0, none⟩) k k, .slice Ap PS.length cp, .int .i64 DD]) ?_ rfl ?_
          · simp [results, Try.results150, go_sem, s0, s1, s2]
          · have hl0 := HR.out.rows.hd
            have hl1 := HR.out.rows.nm
            have hlw := HR.out.low
            rw [HPS.out, HDD.out]
            exact ⟨gh, g, p, f, Ap, cp, plo, phi, w0.heap.size, bs, rfl, HR.out.rows.within HW.out (by omega), HR.out.piv.within HW.out (by omega), HV.out, by omega, within_on HBW.out HW.out HBW.out.size (.inl (Nat.le_refl _))⟩
end Go.Proofs.Ytdkpmaahinbhlaa
/- What spec.RankOfMatrix answers. No condition. -/
namespace Go.Proofs.Ytdkpmaahinbhlaa
open Go.RowKit

noncomputable def rkmV (m : List (List Int)) : Int := if isMatB m = true then ((pvI (Red.run m.length (atM m) (widM m))).length : Int) else -1
set_option maxHeartbeats 2000000 in
set_option maxRecDepth 100000 in
theorem specRkm (m : List (List Int)) (A : Option Addr) (cap lo hi : Nat) (w : World) (hl : RowsIn w lo hi A m) (hn : m.length ≤ 1048576) (hr : ∀ k, k < m.length → (m.getD k []).length ≤ 1048576) :
    Calls Try.prog 61 #[.slice A m.length cap] w fun e w' => e = .returned (.int .i64 (rkmV m)) ∧ Below w.heap.size w w' := by
  have HL := Lib.hid hl
  have HMAT := Lib.hid (specMat m A cap lo hi w hl hn hr)
  by_cases hM : MatP m
  · have HV := Lib.hid (show rkmV m = ((pvI (Red.run m.length (atM m) (widM m))).length : Int) from if_pos (isMatB_yes hM))
    rw [isMatB_yes hM] at HMAT
    have HRD := Lib.hid (fun (W : World) (h : RowsIn W lo hi A m) => rdc_c m hM.q A cap lo hi W h)
    clear hl hr hM
    go_enter Try.func61, Try.ntmps61
    go_wp2_with fail
    refine HMAT.out.mono ?_
    rintro e w1 ⟨rfl, hb⟩
    have HB := Lib.hid hb
    clear hb
    go_wp2_with fail
    refine (HRD.out _ (rsIn_below HL.out HB.out)).mono ?_
    rintro e w2 ⟨gh, c1, S, Ac, cc, clo, chi, rfl, _, hb2⟩
    have HB2 := Lib.hid (below_on HB.out hb2 HB.out.size)
    clear hb2
    go_wp2_with fail
    go_ret
    exact ⟨by rw [HV.out]; rfl, HB2.out⟩
  · have HV := Lib.hid (show rkmV m = -1 from if_neg (by rw [isMatB_no hM]; decide))
    rw [isMatB_no hM] at HMAT
    clear hl hr hM
    go_enter Try.func61, Try.ntmps61
    go_wp2_with fail
    refine HMAT.out.mono ?_
    rintro e w1 ⟨rfl, hb⟩
    have HB := Lib.hid hb
    clear hb
    go_wp2_with fail
    go_ret
    exact ⟨by rw [HV.out]; rfl, HB.out⟩
end Go.Proofs.Ytdkpmaahinbhlaa
