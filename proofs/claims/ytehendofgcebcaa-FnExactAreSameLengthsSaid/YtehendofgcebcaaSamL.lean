/- The law FnExactAreSameLengths returns true at every input. No condition. -/
import Derived.Test.YtehendofgcebcaaSamF
import Derived.Test.YtehendofgcebcaaFw
import Derived.Deep.RegionHeld3
namespace Go.Proofs.Ytehendofgcebcaa
open Go.RowKit

set_option maxHeartbeats 4000000 in
set_option maxRecDepth 100000 in
theorem lawAreSameLengths (q : Int) (A : Option Addr) (cap : Nat) (l : List (Int × Int)) (B : Option Addr) (cb : Nat) (m : List (Int × Int)) (r : Int) (C : Option Addr) (cc : Nat) (x : List (Int × Int)) (D : Option Addr) (cd : Nat) (y : List (Int × Int)) (w : World) (hl : l.length ≤ maxLen ∧ m.length ≤ maxLen) (hb : BarsAt w w.heap.size A l) (hc : BarsAt w w.heap.size B m) (hx : x.length ≤ maxLen ∧ y.length ≤ maxLen) (hd : BarsAt w w.heap.size C x) (he : BarsAt w w.heap.size D y) :
    Calls Try.prog 7 #[.agg #[.int .i64 q, .slice A l.length cap, .slice B m.length cb], .agg #[.int .i64 r, .slice C x.length cc, .slice D y.length cd]] w fun e w' => e = .returned (.bool true) ∧ Below w.heap.size w w' := by
  have HB_0 := Lib.hid (fw_in hb hc)
  have HC_0 := Lib.hid (fw_in hd he)
  clear hb hc hd he
  have W0 := Lib.hid (Below.refl w.heap.size w)
  have hal := new_below w (.cells #[.int .i64 q, .slice A l.length cap, .slice B m.length cb] 58)
  have Z1 := Lib.hid (within_of hal).size
  have W1 := Lib.hid (within_on W0.out (within_of hal) W0.out.size (.inr (Nat.le_refl _)))
  have HB_1 := Lib.hid (HB_0.out.within (within_of hal) (by omega))
  have HC_1 := Lib.hid (HC_0.out.within (within_of hal) (by omega))
  clear hal
  have hsz : (w.alloc (.cells #[.int .i64 q, .slice A l.length cap, .slice B m.length cb] 58)).heap.size = w.heap.size + 1 := by simp
  have Y1 := Lib.hid hsz
  clear hsz
  have BX_1 := Lib.hid (box3_new w q (.slice A l.length cap) (.slice B m.length cb) 58)
  have hal := new_below (w.alloc (.cells #[.int .i64 q, .slice A l.length cap, .slice B m.length cb] 58)) (.cells #[.int .i64 r, .slice C x.length cc, .slice D y.length cd] 58)
  have Z2 := Lib.hid (within_of hal).size
  have W2 := Lib.hid (within_on W1.out (within_of hal) W1.out.size (.inr (Nat.le_refl _)))
  have HB_2 := Lib.hid (HB_1.out.within (within_of hal) (by omega))
  have HC_2 := Lib.hid (HC_1.out.within (within_of hal) (by omega))
  have BX_2 := Lib.hid (BX_1.out.within (within_of hal) (by omega))
  clear hal
  have hsz : ((w.alloc (.cells #[.int .i64 q, .slice A l.length cap, .slice B m.length cb] 58)).alloc (.cells #[.int .i64 r, .slice C x.length cc, .slice D y.length cd] 58)).heap.size = (w.alloc (.cells #[.int .i64 q, .slice A l.length cap, .slice B m.length cb] 58)).heap.size + 1 := by simp
  have Y2 := Lib.hid hsz
  clear hsz
  have BY_2 := Lib.hid (box3_new (w.alloc (.cells #[.int .i64 q, .slice A l.length cap, .slice B m.length cb] 58)) r (.slice C x.length cc) (.slice D y.length cd) 58)
  have hby := BY_2.out
  rw [Y1.out] at hby
  clear BY_2
  have BY_2 := Lib.hid hby
  clear hby
  by_cases hn : l.length + m.length ≤ 1048576
  · by_cases hk : x.length + y.length ≤ 1048576 - (l.length + m.length)
    · go_enter Try.func7, Try.ntmps7
      go_wp2_with fail
      generalize ((w.alloc (.cells #[.int .i64 q, .slice A l.length cap, .slice B m.length cb] 58)).alloc (.cells #[.int .i64 r, .slice C x.length cc, .slice D y.length cd] 58)) = w2 at *
      generalize (w.alloc (.cells #[.int .i64 q, .slice A l.length cap, .slice B m.length cb] 58)) = w1 at *
      refine (szFw_c q A l.length cap B m.length cb 1048576 _ (by omega) (by omega)).mono ?_
      rintro e w3 ⟨rfl, hb⟩
      have Z3 := Lib.hid (within_of hb).size
      have W3 := Lib.hid (within_on W2.out (within_of hb) W2.out.size (.inr (Nat.le_refl _)))
      have HB_3 := Lib.hid (HB_2.out.within (within_of hb) (by omega))
      have HC_3 := Lib.hid (HC_2.out.within (within_of hb) (by omega))
      have BX_3 := Lib.hid (BX_2.out.within (within_of hb) (by omega))
      have BY_3 := Lib.hid (BY_2.out.within (within_of hb) (by omega))
      clear hb
      have hnn : ¬ (1048576 : Int) - (l.length : Int) - (m.length : Int) < 0 := by omega
      obtain ⟨g01, g02, g03, g04⟩ := BX_3.out
      obtain ⟨g11, g12, g13, g14⟩ := BY_3.out
      go_wp2_with fail
      clear g01 g02 g03 g04 g11 g12 g13 g14
      refine (szFw_c r C x.length cc D y.length cd (1048576 - (l.length : Int) - (m.length : Int)) _ (by omega) (by omega)).mono ?_
      rintro e w4 ⟨rfl, hb⟩
      have Z4 := Lib.hid (within_of hb).size
      have W4 := Lib.hid (within_on W3.out (within_of hb) W3.out.size (.inr (Nat.le_refl _)))
      have HB_4 := Lib.hid (HB_3.out.within (within_of hb) (by omega))
      have HC_4 := Lib.hid (HC_3.out.within (within_of hb) (by omega))
      have BX_4 := Lib.hid (BX_3.out.within (within_of hb) (by omega))
      have BY_4 := Lib.hid (BY_3.out.within (within_of hb) (by omega))
      clear hb
      have hnk : ¬ (1048576 : Int) - (l.length : Int) - (m.length : Int) - (x.length : Int) - (y.length : Int) < 0 := by omega
      have hm' : x.length + y.length ≤ 1048576 := by omega
      have kk := box3s2 BX_4.out BY_4.out
      have hdr : Below w4.heap.size w4 w4.drew := (Below.refl _ _).drew
      have Z5 := Lib.hid (within_of hdr).size
      have W5 := Lib.hid (within_on W4.out (within_of hdr) W4.out.size (.inr (Nat.le_refl _)))
      have HB_5 := Lib.hid (HB_4.out.within (within_of hdr) (by omega))
      have HC_5 := Lib.hid (HC_4.out.within (within_of hdr) (by omega))
      have BX_5 := Lib.hid (BX_4.out.within (within_of hdr) (by omega))
      have BY_5 := Lib.hid (BY_4.out.within (within_of hdr) (by omega))
      clear hdr
      obtain ⟨g01, g02, g03, g04⟩ := BX_5.out
      obtain ⟨g11, g12, g13, g14⟩ := BY_5.out
      go_wp2_with fail
      clear g01 g02 g03 g04 g11 g12 g13 g14
      go_region_held3 (fun W' => W'.cell? ⟨w.heap.size, 0, none⟩ = some (.int .i64 q) ∧ W'.cell? ⟨w.heap.size, 1, none⟩ = some (.slice A l.length cap) ∧ W'.cell? ⟨w.heap.size, 2, none⟩ = some (.slice B m.length cb) ∧ W'.cell? ⟨w.heap.size + 1, 0, none⟩ = some (.int .i64 r) ∧ W'.cell? ⟨w.heap.size + 1, 1, none⟩ = some (.slice C x.length cc) ∧ W'.cell? ⟨w.heap.size + 1, 2, none⟩ = some (.slice D y.length cd))
        (first | exact kk | exact box3s2 BX_6.out BY_6.out | exact box3s2 BX_7.out BY_7.out | exact box3s2 BX_8.out BY_8.out | fail)
        (first
          | (go_at_call_of 45 l; refine (toFw_c q l m A cap B cb _ _ _ HB_5.out hn).mono ?_; rintro e w6 ⟨g0, g1, rfl, ho, hb⟩; have Z6 := Lib.hid (within_of hb).size; have W6 := Lib.hid (within_on W5.out (within_of hb) W5.out.size (.inr (Nat.le_refl _))); have HB_6 := Lib.hid (HB_5.out.within (within_of hb) (by omega)); have HC_6 := Lib.hid (HC_5.out.within (within_of hb) (by omega)); have BX_6 := Lib.hid (BX_5.out.within (within_of hb) (by omega)); have BY_6 := Lib.hid (BY_5.out.within (within_of hb) (by omega)); have SG_6 := Lib.hid ho.reads; clear ho hb)
          | (go_at_call_of 45 x; refine (toFw_c r x y C cc D cd _ _ _ HC_6.out hm').mono ?_; rintro e w7 ⟨h0, h1, rfl, ho, hb⟩; have Z7 := Lib.hid (within_of hb).size; have W7 := Lib.hid (within_on W6.out (within_of hb) W6.out.size (.inr (Nat.le_refl _))); have HB_7 := Lib.hid (HB_6.out.within (within_of hb) (by omega)); have HC_7 := Lib.hid (HC_6.out.within (within_of hb) (by omega)); have BX_7 := Lib.hid (BX_6.out.within (within_of hb) (by omega)); have BY_7 := Lib.hid (BY_6.out.within (within_of hb) (by omega)); have SG_7 := Lib.hid (SG_6.out.within (within_of hb) (by omega)); have SH_7 := Lib.hid ho.reads; clear ho hb)
          | (go_at_call 54; refine (specSam q l m r x y _ _ _ _ _ _ _ _ _ _ _ _ _ SG_7.out SH_7.out hn hm').mono ?_; rintro e w8 ⟨rfl, hb⟩; have Z8 := Lib.hid (within_of hb).size; have W8 := Lib.hid (within_on W7.out (within_of hb) W7.out.size (.inr (Nat.le_refl _))); have HB_8 := Lib.hid (HB_7.out.within (within_of hb) (by omega)); have HC_8 := Lib.hid (HC_7.out.within (within_of hb) (by omega)); have BX_8 := Lib.hid (BX_7.out.within (within_of hb) (by omega)); have BY_8 := Lib.hid (BY_7.out.within (within_of hb) (by omega)); have SG_8 := Lib.hid (SG_7.out.within (within_of hb) (by omega)); have SH_8 := Lib.hid (SH_7.out.within (within_of hb) (by omega)); clear hb))
      clear kk
      obtain ⟨g01, g02, g03, g04⟩ := BX_8.out
      obtain ⟨g11, g12, g13, g14⟩ := BY_8.out
      go_wp2_with fail
      clear g01 g02 g03 g04 g11 g12 g13 g14
      refine (toFw_c q l m A cap B cb _ _ _ HB_8.out hn).mono ?_
      rintro e w9 ⟨x0, x1, rfl, ho, hb⟩
      have Z9 := Lib.hid (within_of hb).size
      have W9 := Lib.hid (within_on W8.out (within_of hb) W8.out.size (.inr (Nat.le_refl _)))
      have HB_9 := Lib.hid (HB_8.out.within (within_of hb) (by omega))
      have HC_9 := Lib.hid (HC_8.out.within (within_of hb) (by omega))
      have BX_9 := Lib.hid (BX_8.out.within (within_of hb) (by omega))
      have BY_9 := Lib.hid (BY_8.out.within (within_of hb) (by omega))
      have SG_9 := Lib.hid (SG_8.out.within (within_of hb) (by omega))
      have SH_9 := Lib.hid (SH_8.out.within (within_of hb) (by omega))
      have SX_9 := Lib.hid (ho.reads)
      clear ho hb
      obtain ⟨g01, g02, g03, g04⟩ := BX_9.out
      obtain ⟨g11, g12, g13, g14⟩ := BY_9.out
      go_wp2_with fail
      clear g01 g02 g03 g04 g11 g12 g13 g14
      have hal := new_below w9 (.cells #[.int .i64 q, .slice (some ⟨x0, 0, none⟩) l.length l.length, .slice (some ⟨x1, 0, none⟩) m.length m.length] 63)
      have Z10 := Lib.hid (within_of hal).size
      have W10 := Lib.hid (within_on W9.out (within_of hal) W9.out.size (.inr (Nat.le_refl _)))
      have HB_10 := Lib.hid (HB_9.out.within (within_of hal) (by omega))
      have HC_10 := Lib.hid (HC_9.out.within (within_of hal) (by omega))
      have BX_10 := Lib.hid (BX_9.out.within (within_of hal) (by omega))
      have BY_10 := Lib.hid (BY_9.out.within (within_of hal) (by omega))
      have SG_10 := Lib.hid (SG_9.out.within (within_of hal) (by omega))
      have SH_10 := Lib.hid (SH_9.out.within (within_of hal) (by omega))
      have SX_10 := Lib.hid (SX_9.out.within (within_of hal) (by omega))
      clear hal
      have hsz : (w9.alloc (.cells #[.int .i64 q, .slice (some ⟨x0, 0, none⟩) l.length l.length, .slice (some ⟨x1, 0, none⟩) m.length m.length] 63)).heap.size = w9.heap.size + 1 := by simp
      have Y10 := Lib.hid hsz
      clear hsz
      have XX_10 := Lib.hid (box3_new w9 q (.slice (some ⟨x0, 0, none⟩) l.length l.length) (.slice (some ⟨x1, 0, none⟩) m.length m.length) 63)
      generalize (w9.alloc (.cells #[.int .i64 q, .slice (some ⟨x0, 0, none⟩) l.length l.length, .slice (some ⟨x1, 0, none⟩) m.length m.length] 63)) = w10 at *
      refine (toFw_c r x y C cc D cd _ _ _ HC_10.out hm').mono ?_
      rintro e w11 ⟨y0, y1, rfl, ho, hb⟩
      have Z11 := Lib.hid (within_of hb).size
      have W11 := Lib.hid (within_on W10.out (within_of hb) W10.out.size (.inr (Nat.le_refl _)))
      have HB_11 := Lib.hid (HB_10.out.within (within_of hb) (by omega))
      have HC_11 := Lib.hid (HC_10.out.within (within_of hb) (by omega))
      have BX_11 := Lib.hid (BX_10.out.within (within_of hb) (by omega))
      have BY_11 := Lib.hid (BY_10.out.within (within_of hb) (by omega))
      have SG_11 := Lib.hid (SG_10.out.within (within_of hb) (by omega))
      have SH_11 := Lib.hid (SH_10.out.within (within_of hb) (by omega))
      have SX_11 := Lib.hid (SX_10.out.within (within_of hb) (by omega))
      have XX_11 := Lib.hid (XX_10.out.within (within_of hb) (by omega))
      have SY_11 := Lib.hid (ho.reads)
      clear ho hb
      obtain ⟨g01, g02, g03, g04⟩ := XX_11.out
      go_wp2_with fail
      clear g01 g02 g03 g04
      have hal := new_below w11 (.cells #[.int .i64 r, .slice (some ⟨y0, 0, none⟩) x.length x.length, .slice (some ⟨y1, 0, none⟩) y.length y.length] 63)
      have Z12 := Lib.hid (within_of hal).size
      have W12 := Lib.hid (within_on W11.out (within_of hal) W11.out.size (.inr (Nat.le_refl _)))
      have HB_12 := Lib.hid (HB_11.out.within (within_of hal) (by omega))
      have HC_12 := Lib.hid (HC_11.out.within (within_of hal) (by omega))
      have BX_12 := Lib.hid (BX_11.out.within (within_of hal) (by omega))
      have BY_12 := Lib.hid (BY_11.out.within (within_of hal) (by omega))
      have SG_12 := Lib.hid (SG_11.out.within (within_of hal) (by omega))
      have SH_12 := Lib.hid (SH_11.out.within (within_of hal) (by omega))
      have SX_12 := Lib.hid (SX_11.out.within (within_of hal) (by omega))
      have XX_12 := Lib.hid (XX_11.out.within (within_of hal) (by omega))
      have SY_12 := Lib.hid (SY_11.out.within (within_of hal) (by omega))
      clear hal
      have hsz : (w11.alloc (.cells #[.int .i64 r, .slice (some ⟨y0, 0, none⟩) x.length x.length, .slice (some ⟨y1, 0, none⟩) y.length y.length] 63)).heap.size = w11.heap.size + 1 := by simp
      have Y12 := Lib.hid hsz
      clear hsz
      have XY_12 := Lib.hid (box3_new w11 r (.slice (some ⟨y0, 0, none⟩) x.length x.length) (.slice (some ⟨y1, 0, none⟩) y.length y.length) 63)
      generalize (w11.alloc (.cells #[.int .i64 r, .slice (some ⟨y0, 0, none⟩) x.length x.length, .slice (some ⟨y1, 0, none⟩) y.length y.length] 63)) = w12 at *
      refine (implSam q l m r x y _ _ _ _ _ _ _ _ _ _ _ _ _ SX_12.out SY_12.out hn hm').mono ?_
      rintro e w13 ⟨rfl, hb⟩
      have Z13 := Lib.hid (within_of hb).size
      have W13 := Lib.hid (within_on W12.out (within_of hb) W12.out.size (.inr (Nat.le_refl _)))
      have HB_13 := Lib.hid (HB_12.out.within (within_of hb) (by omega))
      have HC_13 := Lib.hid (HC_12.out.within (within_of hb) (by omega))
      have BX_13 := Lib.hid (BX_12.out.within (within_of hb) (by omega))
      have BY_13 := Lib.hid (BY_12.out.within (within_of hb) (by omega))
      have SG_13 := Lib.hid (SG_12.out.within (within_of hb) (by omega))
      have SH_13 := Lib.hid (SH_12.out.within (within_of hb) (by omega))
      have SX_13 := Lib.hid (SX_12.out.within (within_of hb) (by omega))
      have XX_13 := Lib.hid (XX_12.out.within (within_of hb) (by omega))
      have SY_13 := Lib.hid (SY_12.out.within (within_of hb) (by omega))
      have XY_13 := Lib.hid (XY_12.out.within (within_of hb) (by omega))
      clear hb
      have kk0 := box3s2 BX_13.out XX_13.out
      have kk := box3s2 BX_13.out XX_13.out
      have hdr : Below w13.heap.size w13 w13.drew := (Below.refl _ _).drew
      have Z14 := Lib.hid (within_of hdr).size
      have W14 := Lib.hid (within_on W13.out (within_of hdr) W13.out.size (.inr (Nat.le_refl _)))
      have HB_14 := Lib.hid (HB_13.out.within (within_of hdr) (by omega))
      have HC_14 := Lib.hid (HC_13.out.within (within_of hdr) (by omega))
      have BX_14 := Lib.hid (BX_13.out.within (within_of hdr) (by omega))
      have BY_14 := Lib.hid (BY_13.out.within (within_of hdr) (by omega))
      have SG_14 := Lib.hid (SG_13.out.within (within_of hdr) (by omega))
      have SH_14 := Lib.hid (SH_13.out.within (within_of hdr) (by omega))
      have SX_14 := Lib.hid (SX_13.out.within (within_of hdr) (by omega))
      have XX_14 := Lib.hid (XX_13.out.within (within_of hdr) (by omega))
      have SY_14 := Lib.hid (SY_13.out.within (within_of hdr) (by omega))
      have XY_14 := Lib.hid (XY_13.out.within (within_of hdr) (by omega))
      clear hdr
      go_wp2_with fail
      go_region_held3 (fun W' => W'.cell? ⟨w.heap.size, 0, none⟩ = some (.int .i64 q) ∧ W'.cell? ⟨w.heap.size, 1, none⟩ = some (.slice A l.length cap) ∧ W'.cell? ⟨w.heap.size, 2, none⟩ = some (.slice B m.length cb) ∧ W'.cell? ⟨w9.heap.size, 0, none⟩ = some (.int .i64 q) ∧ W'.cell? ⟨w9.heap.size, 1, none⟩ = some (.slice (some ⟨x0, 0, none⟩) l.length l.length) ∧ W'.cell? ⟨w9.heap.size, 2, none⟩ = some (.slice (some ⟨x1, 0, none⟩) m.length m.length))
        (first | exact kk | exact box3s2 BX_15.out XX_15.out | exact box3s2 BX_16.out XX_16.out | fail)
        (first
          | (go_at_call 45; refine (toFw_c q l m A cap B cb _ _ _ HB_14.out hn).mono ?_; rintro e w15 ⟨u0, u1, rfl, ho, hb⟩; have Z15 := Lib.hid (within_of hb).size; have W15 := Lib.hid (within_on W14.out (within_of hb) W14.out.size (.inr (Nat.le_refl _))); have HB_15 := Lib.hid (HB_14.out.within (within_of hb) (by omega)); have HC_15 := Lib.hid (HC_14.out.within (within_of hb) (by omega)); have BX_15 := Lib.hid (BX_14.out.within (within_of hb) (by omega)); have BY_15 := Lib.hid (BY_14.out.within (within_of hb) (by omega)); have SG_15 := Lib.hid (SG_14.out.within (within_of hb) (by omega)); have SH_15 := Lib.hid (SH_14.out.within (within_of hb) (by omega)); have SX_15 := Lib.hid (SX_14.out.within (within_of hb) (by omega)); have XX_15 := Lib.hid (XX_14.out.within (within_of hb) (by omega)); have SY_15 := Lib.hid (SY_14.out.within (within_of hb) (by omega)); have XY_15 := Lib.hid (XY_14.out.within (within_of hb) (by omega)); have YY := Lib.hid ho.reads; clear ho hb)
          | (go_at_call 47; refine (eqFw_c q l m _ _ _ _ _ _ _ _ _ _ _ _ _ SX_15.out YY.out hn).mono ?_; rintro e w16 ⟨rfl, hb⟩; have Z16 := Lib.hid (within_of hb).size; have W16 := Lib.hid (within_on W15.out (within_of hb) W15.out.size (.inr (Nat.le_refl _))); have HB_16 := Lib.hid (HB_15.out.within (within_of hb) (by omega)); have HC_16 := Lib.hid (HC_15.out.within (within_of hb) (by omega)); have BX_16 := Lib.hid (BX_15.out.within (within_of hb) (by omega)); have BY_16 := Lib.hid (BY_15.out.within (within_of hb) (by omega)); have SG_16 := Lib.hid (SG_15.out.within (within_of hb) (by omega)); have SH_16 := Lib.hid (SH_15.out.within (within_of hb) (by omega)); have SX_16 := Lib.hid (SX_15.out.within (within_of hb) (by omega)); have XX_16 := Lib.hid (XX_15.out.within (within_of hb) (by omega)); have SY_16 := Lib.hid (SY_15.out.within (within_of hb) (by omega)); have XY_16 := Lib.hid (XY_15.out.within (within_of hb) (by omega)); clear hb))
      clear kk0 kk YY
      have kk0 := box3s2 BY_16.out XY_16.out
      have kk := box3s2 BY_16.out XY_16.out
      have hdr : Below w16.heap.size w16 w16.drew := (Below.refl _ _).drew
      have Z17 := Lib.hid (within_of hdr).size
      have W17 := Lib.hid (within_on W16.out (within_of hdr) W16.out.size (.inr (Nat.le_refl _)))
      have HB_17 := Lib.hid (HB_16.out.within (within_of hdr) (by omega))
      have HC_17 := Lib.hid (HC_16.out.within (within_of hdr) (by omega))
      have BX_17 := Lib.hid (BX_16.out.within (within_of hdr) (by omega))
      have BY_17 := Lib.hid (BY_16.out.within (within_of hdr) (by omega))
      have SG_17 := Lib.hid (SG_16.out.within (within_of hdr) (by omega))
      have SH_17 := Lib.hid (SH_16.out.within (within_of hdr) (by omega))
      have SX_17 := Lib.hid (SX_16.out.within (within_of hdr) (by omega))
      have XX_17 := Lib.hid (XX_16.out.within (within_of hdr) (by omega))
      have SY_17 := Lib.hid (SY_16.out.within (within_of hdr) (by omega))
      have XY_17 := Lib.hid (XY_16.out.within (within_of hdr) (by omega))
      clear hdr
      go_wp2_with fail
      go_region_held3 (fun W' => W'.cell? ⟨w.heap.size + 1, 0, none⟩ = some (.int .i64 r) ∧ W'.cell? ⟨w.heap.size + 1, 1, none⟩ = some (.slice C x.length cc) ∧ W'.cell? ⟨w.heap.size + 1, 2, none⟩ = some (.slice D y.length cd) ∧ W'.cell? ⟨w11.heap.size, 0, none⟩ = some (.int .i64 r) ∧ W'.cell? ⟨w11.heap.size, 1, none⟩ = some (.slice (some ⟨y0, 0, none⟩) x.length x.length) ∧ W'.cell? ⟨w11.heap.size, 2, none⟩ = some (.slice (some ⟨y1, 0, none⟩) y.length y.length))
        (first | exact kk | exact box3s2 BY_18.out XY_18.out | exact box3s2 BY_19.out XY_19.out | fail)
        (first
          | (go_at_call 45; refine (toFw_c r x y C cc D cd _ _ _ HC_17.out hm').mono ?_; rintro e w18 ⟨u0, u1, rfl, ho, hb⟩; have Z18 := Lib.hid (within_of hb).size; have W18 := Lib.hid (within_on W17.out (within_of hb) W17.out.size (.inr (Nat.le_refl _))); have HB_18 := Lib.hid (HB_17.out.within (within_of hb) (by omega)); have HC_18 := Lib.hid (HC_17.out.within (within_of hb) (by omega)); have BX_18 := Lib.hid (BX_17.out.within (within_of hb) (by omega)); have BY_18 := Lib.hid (BY_17.out.within (within_of hb) (by omega)); have SG_18 := Lib.hid (SG_17.out.within (within_of hb) (by omega)); have SH_18 := Lib.hid (SH_17.out.within (within_of hb) (by omega)); have SX_18 := Lib.hid (SX_17.out.within (within_of hb) (by omega)); have XX_18 := Lib.hid (XX_17.out.within (within_of hb) (by omega)); have SY_18 := Lib.hid (SY_17.out.within (within_of hb) (by omega)); have XY_18 := Lib.hid (XY_17.out.within (within_of hb) (by omega)); have YY := Lib.hid ho.reads; clear ho hb)
          | (go_at_call 47; refine (eqFw_c r x y _ _ _ _ _ _ _ _ _ _ _ _ _ SY_18.out YY.out hm').mono ?_; rintro e w19 ⟨rfl, hb⟩; have Z19 := Lib.hid (within_of hb).size; have W19 := Lib.hid (within_on W18.out (within_of hb) W18.out.size (.inr (Nat.le_refl _))); have HB_19 := Lib.hid (HB_18.out.within (within_of hb) (by omega)); have HC_19 := Lib.hid (HC_18.out.within (within_of hb) (by omega)); have BX_19 := Lib.hid (BX_18.out.within (within_of hb) (by omega)); have BY_19 := Lib.hid (BY_18.out.within (within_of hb) (by omega)); have SG_19 := Lib.hid (SG_18.out.within (within_of hb) (by omega)); have SH_19 := Lib.hid (SH_18.out.within (within_of hb) (by omega)); have SX_19 := Lib.hid (SX_18.out.within (within_of hb) (by omega)); have XX_19 := Lib.hid (XX_18.out.within (within_of hb) (by omega)); have SY_19 := Lib.hid (SY_18.out.within (within_of hb) (by omega)); have XY_19 := Lib.hid (XY_18.out.within (within_of hb) (by omega)); clear hb))
      clear kk0 kk YY
      go_wp2_with fail
      go_ret
      exact ⟨rfl, W19.out⟩
    · go_enter Try.func7, Try.ntmps7
      go_wp2_with fail
      generalize ((w.alloc (.cells #[.int .i64 q, .slice A l.length cap, .slice B m.length cb] 58)).alloc (.cells #[.int .i64 r, .slice C x.length cc, .slice D y.length cd] 58)) = w2 at *
      generalize (w.alloc (.cells #[.int .i64 q, .slice A l.length cap, .slice B m.length cb] 58)) = w1 at *
      refine (szFw_c q A l.length cap B m.length cb 1048576 _ (by omega) (by omega)).mono ?_
      rintro e w3 ⟨rfl, hb⟩
      have Z3 := Lib.hid (within_of hb).size
      have W3 := Lib.hid (within_on W2.out (within_of hb) W2.out.size (.inr (Nat.le_refl _)))
      have HB_3 := Lib.hid (HB_2.out.within (within_of hb) (by omega))
      have HC_3 := Lib.hid (HC_2.out.within (within_of hb) (by omega))
      have BX_3 := Lib.hid (BX_2.out.within (within_of hb) (by omega))
      have BY_3 := Lib.hid (BY_2.out.within (within_of hb) (by omega))
      clear hb
      have hnn : ¬ (1048576 : Int) - (l.length : Int) - (m.length : Int) < 0 := by omega
      obtain ⟨g01, g02, g03, g04⟩ := BX_3.out
      obtain ⟨g11, g12, g13, g14⟩ := BY_3.out
      go_wp2_with fail
      clear g01 g02 g03 g04 g11 g12 g13 g14
      refine (szFw_no r C x.length cc D y.length cd (1048576 - (l.length : Int) - (m.length : Int)) _ hx.1 hx.2 (by omega) (by omega) (by omega)).mono ?_
      rintro e w4 ⟨rfl, hb⟩
      have Z4 := Lib.hid (within_of hb).size
      have W4 := Lib.hid (within_on W3.out (within_of hb) W3.out.size (.inr (Nat.le_refl _)))
      have HB_4 := Lib.hid (HB_3.out.within (within_of hb) (by omega))
      have HC_4 := Lib.hid (HC_3.out.within (within_of hb) (by omega))
      have BX_4 := Lib.hid (BX_3.out.within (within_of hb) (by omega))
      have BY_4 := Lib.hid (BY_3.out.within (within_of hb) (by omega))
      clear hb
      go_wp2_with fail
      go_ret
      exact ⟨rfl, W4.out⟩
  · go_enter Try.func7, Try.ntmps7
    go_wp2_with fail
    generalize ((w.alloc (.cells #[.int .i64 q, .slice A l.length cap, .slice B m.length cb] 58)).alloc (.cells #[.int .i64 r, .slice C x.length cc, .slice D y.length cd] 58)) = w2 at *
    generalize (w.alloc (.cells #[.int .i64 q, .slice A l.length cap, .slice B m.length cb] 58)) = w1 at *
    refine (szFw_no q A l.length cap B m.length cb 1048576 _ hl.1 hl.2 (by omega) (by omega) (by omega)).mono ?_
    rintro e w3 ⟨rfl, hb⟩
    have Z3 := Lib.hid (within_of hb).size
    have W3 := Lib.hid (within_on W2.out (within_of hb) W2.out.size (.inr (Nat.le_refl _)))
    have HB_3 := Lib.hid (HB_2.out.within (within_of hb) (by omega))
    have HC_3 := Lib.hid (HC_2.out.within (within_of hb) (by omega))
    have BX_3 := Lib.hid (BX_2.out.within (within_of hb) (by omega))
    have BY_3 := Lib.hid (BY_2.out.within (within_of hb) (by omega))
    clear hb
    go_wp2_with fail
    go_ret
    exact ⟨rfl, W3.out⟩
end Go.Proofs.Ytehendofgcebcaa
