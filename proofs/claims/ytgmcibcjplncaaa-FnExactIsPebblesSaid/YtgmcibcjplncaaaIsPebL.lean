/- The law FnExactIsPebbles returns true at every input. No condition. -/
import Derived.Test.YtgmcibcjplncaaaIsPebS
import Derived.Test.YtgmcibcjplncaaaIsPebI
import Derived.Deep.RegionHeld3
namespace Go.Proofs.Ytgmcibcjplncaaa
open Go.RowKit

set_option maxHeartbeats 2000000 in
set_option maxRecDepth 100000 in
theorem lawIsPebbles (q : Int) (A : Option Addr) (cap : Nat) (l : List (Int × Int)) (a1 : Int) (AF : Option Addr) (cF : Nat) (F : List Int) (AT : Option Addr) (cT : Nat) (T : List Int) (AZ : Option Addr) (cZ : Nat) (Z : List Int) (w : World) (hl : l.length ≤ maxLen) (hb : BarsAt w w.heap.size A l) (_wa1 : (Lit.int .i64 a1).wf = true) (hp : F.length ≤ maxLen ∧ T.length ≤ maxLen ∧ Z.length ≤ maxLen) (hq : Peb3 w 0 w.heap.size AF AT AZ F T Z) (hv : WfI F ∧ WfI T ∧ WfI Z) :
    Calls Try.prog 8 #[.agg #[.int .i64 q, .slice A l.length cap], .int .i64 a1, pebV AF F.length cF AT T.length cT AZ Z.length cZ] w fun e w' => e = .returned (.bool true) ∧ Below w.heap.size w w' := by
  have HB_0 := Lib.hid (bars_in hb)
  clear hb
  have HQ_0 := Lib.hid hq
  clear hq
  obtain ⟨hp1, hp2, hp3⟩ := hp
  have HV := Lib.hid hv
  clear hv
  by_cases hn : l.length ≤ 1048576
  · skip
    by_cases hs : (F.length : Int) + (T.length : Int) + (Z.length : Int) ≤ 1048576 - (l.length : Int)
    · skip
      have hF : F.length ≤ 1048576 := by omega
      have hT : T.length ≤ 1048576 := by omega
      have hZ : Z.length ≤ 1048576 := by omega
      have W0 := Lib.hid (Below.refl w.heap.size w)
      have Z1 := Lib.hid (within_alloc w (.cells #[.int .i64 q, (.slice A l.length cap)] 24)).size
      have W1 := Lib.hid (within_on W0.out (within_alloc w (.cells #[.int .i64 q, (.slice A l.length cap)] 24)) W0.out.size (.inr (Nat.le_refl _)))
      have HB_1 := Lib.hid (HB_0.out.within (within_alloc w (.cells #[.int .i64 q, (.slice A l.length cap)] 24)) (by omega))
      have HQ_1 := Lib.hid (HQ_0.out.within (within_alloc w (.cells #[.int .i64 q, (.slice A l.length cap)] 24)) (by omega))
      have Y1 := Lib.hid (show (w.alloc (.cells #[.int .i64 q, (.slice A l.length cap)] 24)).heap.size = w.heap.size + 1 by simp)
      have hnew := box_new w q (.slice A l.length cap) 24
      have BX_1 := Lib.hid hnew
      clear hnew
      have Z2 := Lib.hid (within_alloc (w.alloc (.cells #[.int .i64 q, (.slice A l.length cap)] 24)) (.cells #[(.slice AF F.length cF), (.slice AT T.length cT), (.slice AZ Z.length cZ)] 27)).size
      have W2 := Lib.hid (within_on W1.out (within_alloc (w.alloc (.cells #[.int .i64 q, (.slice A l.length cap)] 24)) (.cells #[(.slice AF F.length cF), (.slice AT T.length cT), (.slice AZ Z.length cZ)] 27)) W1.out.size (.inr (Nat.le_refl _)))
      have HB_2 := Lib.hid (HB_1.out.within (within_alloc (w.alloc (.cells #[.int .i64 q, (.slice A l.length cap)] 24)) (.cells #[(.slice AF F.length cF), (.slice AT T.length cT), (.slice AZ Z.length cZ)] 27)) (by omega))
      have HQ_2 := Lib.hid (HQ_1.out.within (within_alloc (w.alloc (.cells #[.int .i64 q, (.slice A l.length cap)] 24)) (.cells #[(.slice AF F.length cF), (.slice AT T.length cT), (.slice AZ Z.length cZ)] 27)) (by omega))
      have BX_2 := Lib.hid (BX_1.out.within (within_alloc (w.alloc (.cells #[.int .i64 q, (.slice A l.length cap)] 24)) (.cells #[(.slice AF F.length cF), (.slice AT T.length cT), (.slice AZ Z.length cZ)] 27)) (by omega))
      have Y2 := Lib.hid (show ((w.alloc (.cells #[.int .i64 q, (.slice A l.length cap)] 24)).alloc (.cells #[(.slice AF F.length cF), (.slice AT T.length cT), (.slice AZ Z.length cZ)] 27)).heap.size = (w.alloc (.cells #[.int .i64 q, (.slice A l.length cap)] 24)).heap.size + 1 by simp)
      have hnew := cel3_new (w.alloc (.cells #[.int .i64 q, (.slice A l.length cap)] 24)) (.slice AF F.length cF) (.slice AT T.length cT) (.slice AZ Z.length cZ) 27
      rw [show (w.alloc (.cells #[.int .i64 q, (.slice A l.length cap)] 24)).heap.size = w.heap.size + 1 by simp] at hnew
      have BP_2 := Lib.hid hnew
      clear hnew
      go_enter Try.func8, Try.ntmps8
      obtain ⟨g0_0, g0_1, g0_2⟩ := BX_2.out
      obtain ⟨g1_0, g1_1, g1_2, g1_3, g1_4, g1_5⟩ := BP_2.out.cells
      go_wp2_with fail
      clear g0_0 g0_1 g0_2 g1_0 g1_1 g1_2 g1_3 g1_4 g1_5
      generalize ((w.alloc (.cells #[.int .i64 q, (.slice A l.length cap)] 24)).alloc (.cells #[(.slice AF F.length cF), (.slice AT T.length cT), (.slice AZ Z.length cZ)] 27)) = w2 at *
      generalize (w.alloc (.cells #[.int .i64 q, (.slice A l.length cap)] 24)) = w1 at *
      refine (szGraph_c q A l.length cap 1048576 _ (by omega) (by omega)).mono ?_
      rintro e w3 ⟨rfl, hb⟩
      have Z3 := Lib.hid (within_of hb).size
      have W3 := Lib.hid (within_on W2.out (within_of hb) W2.out.size (.inr (Nat.le_refl _)))
      have HB_3 := Lib.hid (HB_2.out.within (within_of hb) (by omega))
      have HQ_3 := Lib.hid (HQ_2.out.within (within_of hb) (by omega))
      have BX_3 := Lib.hid (BX_2.out.within (within_of hb) (by omega))
      have BP_3 := Lib.hid (BP_2.out.within (within_of hb) (by omega))
      clear hb
      have hnn : ¬ (1048576 : Int) - (l.length : Int) < 0 := by omega
      obtain ⟨g2_0, g2_1, g2_2⟩ := BX_3.out
      obtain ⟨g3_0, g3_1, g3_2, g3_3, g3_4, g3_5⟩ := BP_3.out.cells
      go_wp2_with fail
      clear g2_0 g2_1 g2_2 g3_0 g3_1 g3_2 g3_3 g3_4 g3_5
      refine (szPeb_c AF AT AZ F.length T.length Z.length cF cT cZ (1048576 - (l.length : Int)) _ (by unfold maxLen at hp1; omega) (by unfold maxLen at hp2; omega) (by unfold maxLen at hp3; omega) (by omega) (by omega) (by omega)).mono ?_
      rintro e w4 ⟨rfl, hb⟩
      have Z4 := Lib.hid (within_of hb).size
      have W4 := Lib.hid (within_on W3.out (within_of hb) W3.out.size (.inr (Nat.le_refl _)))
      have HB_4 := Lib.hid (HB_3.out.within (within_of hb) (by omega))
      have HQ_4 := Lib.hid (HQ_3.out.within (within_of hb) (by omega))
      have BX_4 := Lib.hid (BX_3.out.within (within_of hb) (by omega))
      have BP_4 := Lib.hid (BP_3.out.within (within_of hb) (by omega))
      clear hb
      have hmm : ¬ (1048576 - (l.length : Int)) - (F.length : Int) - (T.length : Int) - (Z.length : Int) < 0 := by omega
      have kk1 : (fun W' => W'.cell? ⟨w.heap.size, 0, none⟩ = some (.int .i64 q) ∧ W'.cell? ⟨w.heap.size, 1, none⟩ = some (.slice A l.length cap) ∧ W'.cell? ⟨w.heap.size + 1, 0, none⟩ = some (.slice AF F.length cF) ∧ W'.cell? ⟨w.heap.size + 1, 1, none⟩ = some (.slice AT T.length cT) ∧ W'.cell? ⟨w.heap.size + 1, 2, none⟩ = some (.slice AZ Z.length cZ)) w4 := ⟨BX_4.out.2.1, BX_4.out.2.2, BP_4.out.cells.1, BP_4.out.cells.2.1, BP_4.out.cells.2.2.1⟩
      have hdr : Below w4.heap.size w4 w4.drew := (Below.refl _ _).drew
      have Z5 := Lib.hid (within_of hdr).size
      have W5 := Lib.hid (within_on W4.out (within_of hdr) W4.out.size (.inr (Nat.le_refl _)))
      have HB_5 := Lib.hid (HB_4.out.within (within_of hdr) (by omega))
      have HQ_5 := Lib.hid (HQ_4.out.within (within_of hdr) (by omega))
      have BX_5 := Lib.hid (BX_4.out.within (within_of hdr) (by omega))
      have BP_5 := Lib.hid (BP_4.out.within (within_of hdr) (by omega))
      clear hdr
      go_wp2_with fail
      go_region_held3 (fun W' => W'.cell? ⟨w.heap.size, 0, none⟩ = some (.int .i64 q) ∧ W'.cell? ⟨w.heap.size, 1, none⟩ = some (.slice A l.length cap) ∧ W'.cell? ⟨w.heap.size + 1, 0, none⟩ = some (.slice AF F.length cF) ∧ W'.cell? ⟨w.heap.size + 1, 1, none⟩ = some (.slice AT T.length cT) ∧ W'.cell? ⟨w.heap.size + 1, 2, none⟩ = some (.slice AZ Z.length cZ))
        (first | exact kk1 | exact ⟨BX_6.out.2.1, BX_6.out.2.2, BP_6.out.cells.1, BP_6.out.cells.2.1, BP_6.out.cells.2.2.1⟩ | exact ⟨BX_7.out.2.1, BX_7.out.2.2, BP_7.out.cells.1, BP_7.out.cells.2.1, BP_7.out.cells.2.2.1⟩ | exact ⟨BX_8.out.2.1, BX_8.out.2.2, BP_8.out.cells.1, BP_8.out.cells.2.1, BP_8.out.cells.2.2.1⟩ | fail)
        (first
          | (go_at_call 20; refine (toGraph_c q l A cap _ HB_5.out.at hn).mono ?_; rintro e w6 ⟨g0, rfl, ho, hb⟩; have Z6 := Lib.hid (within_of hb).size; have W6 := Lib.hid (within_on W5.out (within_of hb) W5.out.size (.inr (Nat.le_refl _))); have HB_6 := Lib.hid (HB_5.out.within (within_of hb) (by omega)); have HQ_6 := Lib.hid (HQ_5.out.within (within_of hb) (by omega)); have BX_6 := Lib.hid (BX_5.out.within (within_of hb) (by omega)); have BP_6 := Lib.hid (BP_5.out.within (within_of hb) (by omega)); have SG_6 := Lib.hid ((own_in ho).bars); clear ho hb)
          | (go_at_call 21; refine (toPeb_c AF AT AZ cF cT cZ 0 w.heap.size F T Z _ HQ_6.out hF hT hZ).mono ?_; rintro e w7 ⟨g1F, g1T, g1Z, rfl, ho, hb⟩; have Z7 := Lib.hid (within_of hb).size; have W7 := Lib.hid (within_on W6.out (within_of hb) W6.out.size (.inr (Nat.le_refl _))); have HB_7 := Lib.hid (HB_6.out.within (within_of hb) (by omega)); have HQ_7 := Lib.hid (HQ_6.out.within (within_of hb) (by omega)); have BX_7 := Lib.hid (BX_6.out.within (within_of hb) (by omega)); have BP_7 := Lib.hid (BP_6.out.within (within_of hb) (by omega)); have SG_7 := Lib.hid (SG_6.out.within (within_of hb) (by omega)); have SP_7 := Lib.hid (ho.reads); clear ho hb)
          | (go_at_call 39; refine (specIsPeb q a1 l (some ⟨g0, 0, none⟩) l.length (some ⟨g1F, 0, none⟩) (some ⟨g1T, 0, none⟩) (some ⟨g1Z, 0, none⟩) F.length T.length Z.length _ _ F T Z _ SG_7.out.at SP_7.out hn hF hT hZ HV.out.1).mono ?_; rintro e w8 ⟨rfl, hb⟩; have Z8 := Lib.hid (within_of hb).size; have W8 := Lib.hid (within_on W7.out (within_of hb) W7.out.size (.inr (Nat.le_refl _))); have HB_8 := Lib.hid (HB_7.out.within (within_of hb) (by omega)); have HQ_8 := Lib.hid (HQ_7.out.within (within_of hb) (by omega)); have BX_8 := Lib.hid (BX_7.out.within (within_of hb) (by omega)); have BP_8 := Lib.hid (BP_7.out.within (within_of hb) (by omega)); have SG_8 := Lib.hid (SG_7.out.within (within_of hb) (by omega)); have SP_8 := Lib.hid (SP_7.out.within (within_of hb) (by omega)); clear hb))
      obtain ⟨g4_0, g4_1, g4_2⟩ := BX_8.out
      obtain ⟨g5_0, g5_1, g5_2, g5_3, g5_4, g5_5⟩ := BP_8.out.cells
      go_wp2_with fail
      clear g4_0 g4_1 g4_2 g5_0 g5_1 g5_2 g5_3 g5_4 g5_5
      refine (toGraph_c q l A cap _ HB_8.out.at hn).mono ?_
      rintro e w9 ⟨x0, rfl, ho, hb⟩
      have Z9 := Lib.hid (within_of hb).size
      have W9 := Lib.hid (within_on W8.out (within_of hb) W8.out.size (.inr (Nat.le_refl _)))
      have HB_9 := Lib.hid (HB_8.out.within (within_of hb) (by omega))
      have HQ_9 := Lib.hid (HQ_8.out.within (within_of hb) (by omega))
      have BX_9 := Lib.hid (BX_8.out.within (within_of hb) (by omega))
      have BP_9 := Lib.hid (BP_8.out.within (within_of hb) (by omega))
      have SG_9 := Lib.hid (SG_8.out.within (within_of hb) (by omega))
      have SP_9 := Lib.hid (SP_8.out.within (within_of hb) (by omega))
      have SX_9 := Lib.hid (own_in ho)
      clear ho hb
      have Z10 := Lib.hid (within_alloc w9 (.cells #[.int .i64 q, (.slice (some ⟨x0, 0, none⟩) l.length l.length)] 35)).size
      have W10 := Lib.hid (within_on W9.out (within_alloc w9 (.cells #[.int .i64 q, (.slice (some ⟨x0, 0, none⟩) l.length l.length)] 35)) W9.out.size (.inr (Nat.le_refl _)))
      have HB_10 := Lib.hid (HB_9.out.within (within_alloc w9 (.cells #[.int .i64 q, (.slice (some ⟨x0, 0, none⟩) l.length l.length)] 35)) (by omega))
      have HQ_10 := Lib.hid (HQ_9.out.within (within_alloc w9 (.cells #[.int .i64 q, (.slice (some ⟨x0, 0, none⟩) l.length l.length)] 35)) (by omega))
      have BX_10 := Lib.hid (BX_9.out.within (within_alloc w9 (.cells #[.int .i64 q, (.slice (some ⟨x0, 0, none⟩) l.length l.length)] 35)) (by omega))
      have BP_10 := Lib.hid (BP_9.out.within (within_alloc w9 (.cells #[.int .i64 q, (.slice (some ⟨x0, 0, none⟩) l.length l.length)] 35)) (by omega))
      have SG_10 := Lib.hid (SG_9.out.within (within_alloc w9 (.cells #[.int .i64 q, (.slice (some ⟨x0, 0, none⟩) l.length l.length)] 35)) (by omega))
      have SP_10 := Lib.hid (SP_9.out.within (within_alloc w9 (.cells #[.int .i64 q, (.slice (some ⟨x0, 0, none⟩) l.length l.length)] 35)) (by omega))
      have SX_10 := Lib.hid (SX_9.out.within (within_alloc w9 (.cells #[.int .i64 q, (.slice (some ⟨x0, 0, none⟩) l.length l.length)] 35)) (by omega))
      have Y10 := Lib.hid (show (w9.alloc (.cells #[.int .i64 q, (.slice (some ⟨x0, 0, none⟩) l.length l.length)] 35)).heap.size = w9.heap.size + 1 by simp)
      have hnew := box_new w9 q (.slice (some ⟨x0, 0, none⟩) l.length l.length) 35
      have XX_10 := Lib.hid hnew
      clear hnew
      obtain ⟨g6_0, g6_1, g6_2⟩ := XX_10.out
      obtain ⟨g7_0, g7_1, g7_2, g7_3, g7_4, g7_5⟩ := BP_10.out.cells
      go_wp2_with fail
      clear g6_0 g6_1 g6_2 g7_0 g7_1 g7_2 g7_3 g7_4 g7_5
      generalize (w9.alloc (.cells #[.int .i64 q, (.slice (some ⟨x0, 0, none⟩) l.length l.length)] 35)) = w10 at *
      refine (toPeb_c AF AT AZ cF cT cZ 0 w.heap.size F T Z _ HQ_10.out hF hT hZ).mono ?_
      rintro e w11 ⟨x1F, x1T, x1Z, rfl, ho, hb⟩
      have Z11 := Lib.hid (within_of hb).size
      have W11 := Lib.hid (within_on W10.out (within_of hb) W10.out.size (.inr (Nat.le_refl _)))
      have HB_11 := Lib.hid (HB_10.out.within (within_of hb) (by omega))
      have HQ_11 := Lib.hid (HQ_10.out.within (within_of hb) (by omega))
      have BX_11 := Lib.hid (BX_10.out.within (within_of hb) (by omega))
      have BP_11 := Lib.hid (BP_10.out.within (within_of hb) (by omega))
      have SG_11 := Lib.hid (SG_10.out.within (within_of hb) (by omega))
      have SP_11 := Lib.hid (SP_10.out.within (within_of hb) (by omega))
      have SX_11 := Lib.hid (SX_10.out.within (within_of hb) (by omega))
      have XX_11 := Lib.hid (XX_10.out.within (within_of hb) (by omega))
      have SY_11 := Lib.hid (ho)
      clear ho hb
      have Z12 := Lib.hid (within_alloc w11 (.cells #[(.slice (some ⟨x1F, 0, none⟩) F.length F.length), (.slice (some ⟨x1T, 0, none⟩) T.length T.length), (.slice (some ⟨x1Z, 0, none⟩) Z.length Z.length)] 30)).size
      have W12 := Lib.hid (within_on W11.out (within_alloc w11 (.cells #[(.slice (some ⟨x1F, 0, none⟩) F.length F.length), (.slice (some ⟨x1T, 0, none⟩) T.length T.length), (.slice (some ⟨x1Z, 0, none⟩) Z.length Z.length)] 30)) W11.out.size (.inr (Nat.le_refl _)))
      have HB_12 := Lib.hid (HB_11.out.within (within_alloc w11 (.cells #[(.slice (some ⟨x1F, 0, none⟩) F.length F.length), (.slice (some ⟨x1T, 0, none⟩) T.length T.length), (.slice (some ⟨x1Z, 0, none⟩) Z.length Z.length)] 30)) (by omega))
      have HQ_12 := Lib.hid (HQ_11.out.within (within_alloc w11 (.cells #[(.slice (some ⟨x1F, 0, none⟩) F.length F.length), (.slice (some ⟨x1T, 0, none⟩) T.length T.length), (.slice (some ⟨x1Z, 0, none⟩) Z.length Z.length)] 30)) (by omega))
      have BX_12 := Lib.hid (BX_11.out.within (within_alloc w11 (.cells #[(.slice (some ⟨x1F, 0, none⟩) F.length F.length), (.slice (some ⟨x1T, 0, none⟩) T.length T.length), (.slice (some ⟨x1Z, 0, none⟩) Z.length Z.length)] 30)) (by omega))
      have BP_12 := Lib.hid (BP_11.out.within (within_alloc w11 (.cells #[(.slice (some ⟨x1F, 0, none⟩) F.length F.length), (.slice (some ⟨x1T, 0, none⟩) T.length T.length), (.slice (some ⟨x1Z, 0, none⟩) Z.length Z.length)] 30)) (by omega))
      have SG_12 := Lib.hid (SG_11.out.within (within_alloc w11 (.cells #[(.slice (some ⟨x1F, 0, none⟩) F.length F.length), (.slice (some ⟨x1T, 0, none⟩) T.length T.length), (.slice (some ⟨x1Z, 0, none⟩) Z.length Z.length)] 30)) (by omega))
      have SP_12 := Lib.hid (SP_11.out.within (within_alloc w11 (.cells #[(.slice (some ⟨x1F, 0, none⟩) F.length F.length), (.slice (some ⟨x1T, 0, none⟩) T.length T.length), (.slice (some ⟨x1Z, 0, none⟩) Z.length Z.length)] 30)) (by omega))
      have SX_12 := Lib.hid (SX_11.out.within (within_alloc w11 (.cells #[(.slice (some ⟨x1F, 0, none⟩) F.length F.length), (.slice (some ⟨x1T, 0, none⟩) T.length T.length), (.slice (some ⟨x1Z, 0, none⟩) Z.length Z.length)] 30)) (by omega))
      have XX_12 := Lib.hid (XX_11.out.within (within_alloc w11 (.cells #[(.slice (some ⟨x1F, 0, none⟩) F.length F.length), (.slice (some ⟨x1T, 0, none⟩) T.length T.length), (.slice (some ⟨x1Z, 0, none⟩) Z.length Z.length)] 30)) (by omega))
      have SY_12 := Lib.hid (SY_11.out.within (within_alloc w11 (.cells #[(.slice (some ⟨x1F, 0, none⟩) F.length F.length), (.slice (some ⟨x1T, 0, none⟩) T.length T.length), (.slice (some ⟨x1Z, 0, none⟩) Z.length Z.length)] 30)) (by omega))
      have Y12 := Lib.hid (show (w11.alloc (.cells #[(.slice (some ⟨x1F, 0, none⟩) F.length F.length), (.slice (some ⟨x1T, 0, none⟩) T.length T.length), (.slice (some ⟨x1Z, 0, none⟩) Z.length Z.length)] 30)).heap.size = w11.heap.size + 1 by simp)
      have hnew := cel3_new w11 (.slice (some ⟨x1F, 0, none⟩) F.length F.length) (.slice (some ⟨x1T, 0, none⟩) T.length T.length) (.slice (some ⟨x1Z, 0, none⟩) Z.length Z.length) 30
      have XP_12 := Lib.hid hnew
      clear hnew
      obtain ⟨g8_0, g8_1, g8_2, g8_3, g8_4, g8_5⟩ := XP_12.out.cells
      obtain ⟨g9_0, g9_1, g9_2⟩ := XX_12.out
      go_wp2_with fail
      clear g8_0 g8_1 g8_2 g8_3 g8_4 g8_5 g9_0 g9_1 g9_2
      generalize (w11.alloc (.cells #[(.slice (some ⟨x1F, 0, none⟩) F.length F.length), (.slice (some ⟨x1T, 0, none⟩) T.length T.length), (.slice (some ⟨x1Z, 0, none⟩) Z.length Z.length)] 30)) = w12 at *
      refine (implIsPeb q a1 l (some ⟨x0, 0, none⟩) l.length (some ⟨x1F, 0, none⟩) (some ⟨x1T, 0, none⟩) (some ⟨x1Z, 0, none⟩) F.length T.length Z.length _ _ F T Z _ SX_12.out.bars.at SY_12.out.reads hn hF hT hZ).mono ?_
      rintro e w13 ⟨rfl, hb⟩
      have Z13 := Lib.hid (within_of hb).size
      have W13 := Lib.hid (within_on W12.out (within_of hb) W12.out.size (.inr (Nat.le_refl _)))
      have HB_13 := Lib.hid (HB_12.out.within (within_of hb) (by omega))
      have HQ_13 := Lib.hid (HQ_12.out.within (within_of hb) (by omega))
      have BX_13 := Lib.hid (BX_12.out.within (within_of hb) (by omega))
      have BP_13 := Lib.hid (BP_12.out.within (within_of hb) (by omega))
      have SG_13 := Lib.hid (SG_12.out.within (within_of hb) (by omega))
      have SP_13 := Lib.hid (SP_12.out.within (within_of hb) (by omega))
      have SX_13 := Lib.hid (SX_12.out.within (within_of hb) (by omega))
      have XX_13 := Lib.hid (XX_12.out.within (within_of hb) (by omega))
      have SY_13 := Lib.hid (SY_12.out.within (within_of hb) (by omega))
      have XP_13 := Lib.hid (XP_12.out.within (within_of hb) (by omega))
      clear hb
      have kk2 : (fun W' => W'.cell? ⟨w.heap.size, 0, none⟩ = some (.int .i64 q) ∧ W'.cell? ⟨w.heap.size, 1, none⟩ = some (.slice A l.length cap) ∧ W'.cell? ⟨w9.heap.size, 0, none⟩ = some (.int .i64 q) ∧ W'.cell? ⟨w9.heap.size, 1, none⟩ = some (.slice (some ⟨x0, 0, none⟩) l.length l.length)) w13 := ⟨BX_13.out.2.1, BX_13.out.2.2, XX_13.out.2.1, XX_13.out.2.2⟩
      have hdr : Below w13.heap.size w13 w13.drew := (Below.refl _ _).drew
      have Z14 := Lib.hid (within_of hdr).size
      have W14 := Lib.hid (within_on W13.out (within_of hdr) W13.out.size (.inr (Nat.le_refl _)))
      have HB_14 := Lib.hid (HB_13.out.within (within_of hdr) (by omega))
      have HQ_14 := Lib.hid (HQ_13.out.within (within_of hdr) (by omega))
      have BX_14 := Lib.hid (BX_13.out.within (within_of hdr) (by omega))
      have BP_14 := Lib.hid (BP_13.out.within (within_of hdr) (by omega))
      have SG_14 := Lib.hid (SG_13.out.within (within_of hdr) (by omega))
      have SP_14 := Lib.hid (SP_13.out.within (within_of hdr) (by omega))
      have SX_14 := Lib.hid (SX_13.out.within (within_of hdr) (by omega))
      have XX_14 := Lib.hid (XX_13.out.within (within_of hdr) (by omega))
      have SY_14 := Lib.hid (SY_13.out.within (within_of hdr) (by omega))
      have XP_14 := Lib.hid (XP_13.out.within (within_of hdr) (by omega))
      clear hdr
      go_wp2_with fail
      go_region_held3 (fun W' => W'.cell? ⟨w.heap.size, 0, none⟩ = some (.int .i64 q) ∧ W'.cell? ⟨w.heap.size, 1, none⟩ = some (.slice A l.length cap) ∧ W'.cell? ⟨w9.heap.size, 0, none⟩ = some (.int .i64 q) ∧ W'.cell? ⟨w9.heap.size, 1, none⟩ = some (.slice (some ⟨x0, 0, none⟩) l.length l.length))
        (first | exact kk2 | exact ⟨BX_15.out.2.1, BX_15.out.2.2, XX_15.out.2.1, XX_15.out.2.2⟩ | exact ⟨BX_16.out.2.1, BX_16.out.2.2, XX_16.out.2.1, XX_16.out.2.2⟩ | fail)
        (first
          | (go_at_call 20; refine (toGraph_c q l A cap _ HB_14.out.at hn).mono ?_; rintro e w15 ⟨y0, rfl, ho, hb⟩; have Z15 := Lib.hid (within_of hb).size; have W15 := Lib.hid (within_on W14.out (within_of hb) W14.out.size (.inr (Nat.le_refl _))); have HB_15 := Lib.hid (HB_14.out.within (within_of hb) (by omega)); have HQ_15 := Lib.hid (HQ_14.out.within (within_of hb) (by omega)); have BX_15 := Lib.hid (BX_14.out.within (within_of hb) (by omega)); have BP_15 := Lib.hid (BP_14.out.within (within_of hb) (by omega)); have SG_15 := Lib.hid (SG_14.out.within (within_of hb) (by omega)); have SP_15 := Lib.hid (SP_14.out.within (within_of hb) (by omega)); have SX_15 := Lib.hid (SX_14.out.within (within_of hb) (by omega)); have XX_15 := Lib.hid (XX_14.out.within (within_of hb) (by omega)); have SY_15 := Lib.hid (SY_14.out.within (within_of hb) (by omega)); have XP_15 := Lib.hid (XP_14.out.within (within_of hb) (by omega)); have YG_15 := Lib.hid ((own_in ho).bars); clear ho hb)
          | (go_at_call 24; refine (eqGraph_c q l _ _ l.length l.length _ SX_15.out.bars.at YG_15.out.at hn).mono ?_; rintro e w16 ⟨rfl, hb⟩; have Z16 := Lib.hid (within_of hb).size; have W16 := Lib.hid (within_on W15.out (within_of hb) W15.out.size (.inr (Nat.le_refl _))); have HB_16 := Lib.hid (HB_15.out.within (within_of hb) (by omega)); have HQ_16 := Lib.hid (HQ_15.out.within (within_of hb) (by omega)); have BX_16 := Lib.hid (BX_15.out.within (within_of hb) (by omega)); have BP_16 := Lib.hid (BP_15.out.within (within_of hb) (by omega)); have SG_16 := Lib.hid (SG_15.out.within (within_of hb) (by omega)); have SP_16 := Lib.hid (SP_15.out.within (within_of hb) (by omega)); have SX_16 := Lib.hid (SX_15.out.within (within_of hb) (by omega)); have XX_16 := Lib.hid (XX_15.out.within (within_of hb) (by omega)); have SY_16 := Lib.hid (SY_15.out.within (within_of hb) (by omega)); have XP_16 := Lib.hid (XP_15.out.within (within_of hb) (by omega)); have YG_16 := Lib.hid (YG_15.out.within (within_of hb) (by omega)); clear hb))
      have kk3 : (fun W' => W'.cell? ⟨w.heap.size + 1, 0, none⟩ = some (.slice AF F.length cF) ∧ W'.cell? ⟨w.heap.size + 1, 1, none⟩ = some (.slice AT T.length cT) ∧ W'.cell? ⟨w.heap.size + 1, 2, none⟩ = some (.slice AZ Z.length cZ) ∧ W'.cell? ⟨w11.heap.size, 0, none⟩ = some (.slice (some ⟨x1F, 0, none⟩) F.length F.length) ∧ W'.cell? ⟨w11.heap.size, 1, none⟩ = some (.slice (some ⟨x1T, 0, none⟩) T.length T.length) ∧ W'.cell? ⟨w11.heap.size, 2, none⟩ = some (.slice (some ⟨x1Z, 0, none⟩) Z.length Z.length)) w16 := ⟨BP_16.out.cells.1, BP_16.out.cells.2.1, BP_16.out.cells.2.2.1, XP_16.out.cells.1, XP_16.out.cells.2.1, XP_16.out.cells.2.2.1⟩
      have hdr : Below w16.heap.size w16 w16.drew := (Below.refl _ _).drew
      have Z17 := Lib.hid (within_of hdr).size
      have W17 := Lib.hid (within_on W16.out (within_of hdr) W16.out.size (.inr (Nat.le_refl _)))
      have HB_17 := Lib.hid (HB_16.out.within (within_of hdr) (by omega))
      have HQ_17 := Lib.hid (HQ_16.out.within (within_of hdr) (by omega))
      have BX_17 := Lib.hid (BX_16.out.within (within_of hdr) (by omega))
      have BP_17 := Lib.hid (BP_16.out.within (within_of hdr) (by omega))
      have SG_17 := Lib.hid (SG_16.out.within (within_of hdr) (by omega))
      have SP_17 := Lib.hid (SP_16.out.within (within_of hdr) (by omega))
      have SX_17 := Lib.hid (SX_16.out.within (within_of hdr) (by omega))
      have XX_17 := Lib.hid (XX_16.out.within (within_of hdr) (by omega))
      have SY_17 := Lib.hid (SY_16.out.within (within_of hdr) (by omega))
      have XP_17 := Lib.hid (XP_16.out.within (within_of hdr) (by omega))
      have YG_17 := Lib.hid (YG_16.out.within (within_of hdr) (by omega))
      clear hdr
      go_wp2_with fail
      go_region_held3 (fun W' => W'.cell? ⟨w.heap.size + 1, 0, none⟩ = some (.slice AF F.length cF) ∧ W'.cell? ⟨w.heap.size + 1, 1, none⟩ = some (.slice AT T.length cT) ∧ W'.cell? ⟨w.heap.size + 1, 2, none⟩ = some (.slice AZ Z.length cZ) ∧ W'.cell? ⟨w11.heap.size, 0, none⟩ = some (.slice (some ⟨x1F, 0, none⟩) F.length F.length) ∧ W'.cell? ⟨w11.heap.size, 1, none⟩ = some (.slice (some ⟨x1T, 0, none⟩) T.length T.length) ∧ W'.cell? ⟨w11.heap.size, 2, none⟩ = some (.slice (some ⟨x1Z, 0, none⟩) Z.length Z.length))
        (first | exact kk3 | exact ⟨BP_18.out.cells.1, BP_18.out.cells.2.1, BP_18.out.cells.2.2.1, XP_18.out.cells.1, XP_18.out.cells.2.1, XP_18.out.cells.2.2.1⟩ | exact ⟨BP_19.out.cells.1, BP_19.out.cells.2.1, BP_19.out.cells.2.2.1, XP_19.out.cells.1, XP_19.out.cells.2.1, XP_19.out.cells.2.2.1⟩ | fail)
        (first
          | (go_at_call 21; refine (toPeb_c AF AT AZ cF cT cZ 0 w.heap.size F T Z _ HQ_17.out hF hT hZ).mono ?_; rintro e w18 ⟨y1F, y1T, y1Z, rfl, ho, hb⟩; have Z18 := Lib.hid (within_of hb).size; have W18 := Lib.hid (within_on W17.out (within_of hb) W17.out.size (.inr (Nat.le_refl _))); have HB_18 := Lib.hid (HB_17.out.within (within_of hb) (by omega)); have HQ_18 := Lib.hid (HQ_17.out.within (within_of hb) (by omega)); have BX_18 := Lib.hid (BX_17.out.within (within_of hb) (by omega)); have BP_18 := Lib.hid (BP_17.out.within (within_of hb) (by omega)); have SG_18 := Lib.hid (SG_17.out.within (within_of hb) (by omega)); have SP_18 := Lib.hid (SP_17.out.within (within_of hb) (by omega)); have SX_18 := Lib.hid (SX_17.out.within (within_of hb) (by omega)); have XX_18 := Lib.hid (XX_17.out.within (within_of hb) (by omega)); have SY_18 := Lib.hid (SY_17.out.within (within_of hb) (by omega)); have XP_18 := Lib.hid (XP_17.out.within (within_of hb) (by omega)); have YG_18 := Lib.hid (YG_17.out.within (within_of hb) (by omega)); have YP_18 := Lib.hid (ho.reads); clear ho hb)
          | (go_at_call 23; refine (eqPeb_c _ _ _ _ _ _ F.length T.length Z.length F.length T.length Z.length _ _ _ _ F T Z _ SY_18.out.reads YP_18.out hF hT hZ).mono ?_; rintro e w19 ⟨rfl, hb⟩; have Z19 := Lib.hid (within_of hb).size; have W19 := Lib.hid (within_on W18.out (within_of hb) W18.out.size (.inr (Nat.le_refl _))); have HB_19 := Lib.hid (HB_18.out.within (within_of hb) (by omega)); have HQ_19 := Lib.hid (HQ_18.out.within (within_of hb) (by omega)); have BX_19 := Lib.hid (BX_18.out.within (within_of hb) (by omega)); have BP_19 := Lib.hid (BP_18.out.within (within_of hb) (by omega)); have SG_19 := Lib.hid (SG_18.out.within (within_of hb) (by omega)); have SP_19 := Lib.hid (SP_18.out.within (within_of hb) (by omega)); have SX_19 := Lib.hid (SX_18.out.within (within_of hb) (by omega)); have XX_19 := Lib.hid (XX_18.out.within (within_of hb) (by omega)); have SY_19 := Lib.hid (SY_18.out.within (within_of hb) (by omega)); have XP_19 := Lib.hid (XP_18.out.within (within_of hb) (by omega)); have YG_19 := Lib.hid (YG_18.out.within (within_of hb) (by omega)); have YP_19 := Lib.hid (YP_18.out.within (within_of hb) (by omega)); clear hb))
      go_wp2_with fail
      go_ret
      exact ⟨rfl, W19.out⟩
    · skip
      have W0 := Lib.hid (Below.refl w.heap.size w)
      have Z1 := Lib.hid (within_alloc w (.cells #[.int .i64 q, (.slice A l.length cap)] 24)).size
      have W1 := Lib.hid (within_on W0.out (within_alloc w (.cells #[.int .i64 q, (.slice A l.length cap)] 24)) W0.out.size (.inr (Nat.le_refl _)))
      have HB_1 := Lib.hid (HB_0.out.within (within_alloc w (.cells #[.int .i64 q, (.slice A l.length cap)] 24)) (by omega))
      have HQ_1 := Lib.hid (HQ_0.out.within (within_alloc w (.cells #[.int .i64 q, (.slice A l.length cap)] 24)) (by omega))
      have Y1 := Lib.hid (show (w.alloc (.cells #[.int .i64 q, (.slice A l.length cap)] 24)).heap.size = w.heap.size + 1 by simp)
      have hnew := box_new w q (.slice A l.length cap) 24
      have BX_1 := Lib.hid hnew
      clear hnew
      have Z2 := Lib.hid (within_alloc (w.alloc (.cells #[.int .i64 q, (.slice A l.length cap)] 24)) (.cells #[(.slice AF F.length cF), (.slice AT T.length cT), (.slice AZ Z.length cZ)] 27)).size
      have W2 := Lib.hid (within_on W1.out (within_alloc (w.alloc (.cells #[.int .i64 q, (.slice A l.length cap)] 24)) (.cells #[(.slice AF F.length cF), (.slice AT T.length cT), (.slice AZ Z.length cZ)] 27)) W1.out.size (.inr (Nat.le_refl _)))
      have HB_2 := Lib.hid (HB_1.out.within (within_alloc (w.alloc (.cells #[.int .i64 q, (.slice A l.length cap)] 24)) (.cells #[(.slice AF F.length cF), (.slice AT T.length cT), (.slice AZ Z.length cZ)] 27)) (by omega))
      have HQ_2 := Lib.hid (HQ_1.out.within (within_alloc (w.alloc (.cells #[.int .i64 q, (.slice A l.length cap)] 24)) (.cells #[(.slice AF F.length cF), (.slice AT T.length cT), (.slice AZ Z.length cZ)] 27)) (by omega))
      have BX_2 := Lib.hid (BX_1.out.within (within_alloc (w.alloc (.cells #[.int .i64 q, (.slice A l.length cap)] 24)) (.cells #[(.slice AF F.length cF), (.slice AT T.length cT), (.slice AZ Z.length cZ)] 27)) (by omega))
      have Y2 := Lib.hid (show ((w.alloc (.cells #[.int .i64 q, (.slice A l.length cap)] 24)).alloc (.cells #[(.slice AF F.length cF), (.slice AT T.length cT), (.slice AZ Z.length cZ)] 27)).heap.size = (w.alloc (.cells #[.int .i64 q, (.slice A l.length cap)] 24)).heap.size + 1 by simp)
      have hnew := cel3_new (w.alloc (.cells #[.int .i64 q, (.slice A l.length cap)] 24)) (.slice AF F.length cF) (.slice AT T.length cT) (.slice AZ Z.length cZ) 27
      rw [show (w.alloc (.cells #[.int .i64 q, (.slice A l.length cap)] 24)).heap.size = w.heap.size + 1 by simp] at hnew
      have BP_2 := Lib.hid hnew
      clear hnew
      go_enter Try.func8, Try.ntmps8
      obtain ⟨g0_0, g0_1, g0_2⟩ := BX_2.out
      obtain ⟨g1_0, g1_1, g1_2, g1_3, g1_4, g1_5⟩ := BP_2.out.cells
      go_wp2_with fail
      clear g0_0 g0_1 g0_2 g1_0 g1_1 g1_2 g1_3 g1_4 g1_5
      generalize ((w.alloc (.cells #[.int .i64 q, (.slice A l.length cap)] 24)).alloc (.cells #[(.slice AF F.length cF), (.slice AT T.length cT), (.slice AZ Z.length cZ)] 27)) = w2 at *
      generalize (w.alloc (.cells #[.int .i64 q, (.slice A l.length cap)] 24)) = w1 at *
      refine (szGraph_c q A l.length cap 1048576 _ (by omega) (by omega)).mono ?_
      rintro e w3 ⟨rfl, hb⟩
      have Z3 := Lib.hid (within_of hb).size
      have W3 := Lib.hid (within_on W2.out (within_of hb) W2.out.size (.inr (Nat.le_refl _)))
      have HB_3 := Lib.hid (HB_2.out.within (within_of hb) (by omega))
      have HQ_3 := Lib.hid (HQ_2.out.within (within_of hb) (by omega))
      have BX_3 := Lib.hid (BX_2.out.within (within_of hb) (by omega))
      have BP_3 := Lib.hid (BP_2.out.within (within_of hb) (by omega))
      clear hb
      have hnn : ¬ (1048576 : Int) - (l.length : Int) < 0 := by omega
      obtain ⟨g2_0, g2_1, g2_2⟩ := BX_3.out
      obtain ⟨g3_0, g3_1, g3_2, g3_3, g3_4, g3_5⟩ := BP_3.out.cells
      go_wp2_with fail
      clear g2_0 g2_1 g2_2 g3_0 g3_1 g3_2 g3_3 g3_4 g3_5
      refine (szPeb_no AF AT AZ F.length T.length Z.length cF cT cZ (1048576 - (l.length : Int)) _ (by unfold maxLen at hp1; omega) (by unfold maxLen at hp2; omega) (by unfold maxLen at hp3; omega) (by omega) (by omega) (by omega)).mono ?_
      rintro e w4 ⟨rfl, hb⟩
      have Z4 := Lib.hid (within_of hb).size
      have W4 := Lib.hid (within_on W3.out (within_of hb) W3.out.size (.inr (Nat.le_refl _)))
      have HB_4 := Lib.hid (HB_3.out.within (within_of hb) (by omega))
      have HQ_4 := Lib.hid (HQ_3.out.within (within_of hb) (by omega))
      have BX_4 := Lib.hid (BX_3.out.within (within_of hb) (by omega))
      have BP_4 := Lib.hid (BP_3.out.within (within_of hb) (by omega))
      clear hb
      go_wp2_with fail
      go_ret
      exact ⟨rfl, W4.out⟩
  · have hx : (1048576 : Int) < (l.length : Int) := by omega
    have h63 : l.length ≤ 9223372036854775807 := by unfold maxLen at hl; omega
    have W0 := Lib.hid (Below.refl w.heap.size w)
    have Z1 := Lib.hid (within_alloc w (.cells #[.int .i64 q, (.slice A l.length cap)] 24)).size
    have W1 := Lib.hid (within_on W0.out (within_alloc w (.cells #[.int .i64 q, (.slice A l.length cap)] 24)) W0.out.size (.inr (Nat.le_refl _)))
    have HB_1 := Lib.hid (HB_0.out.within (within_alloc w (.cells #[.int .i64 q, (.slice A l.length cap)] 24)) (by omega))
    have HQ_1 := Lib.hid (HQ_0.out.within (within_alloc w (.cells #[.int .i64 q, (.slice A l.length cap)] 24)) (by omega))
    have Y1 := Lib.hid (show (w.alloc (.cells #[.int .i64 q, (.slice A l.length cap)] 24)).heap.size = w.heap.size + 1 by simp)
    have hnew := box_new w q (.slice A l.length cap) 24
    have BX_1 := Lib.hid hnew
    clear hnew
    have Z2 := Lib.hid (within_alloc (w.alloc (.cells #[.int .i64 q, (.slice A l.length cap)] 24)) (.cells #[(.slice AF F.length cF), (.slice AT T.length cT), (.slice AZ Z.length cZ)] 27)).size
    have W2 := Lib.hid (within_on W1.out (within_alloc (w.alloc (.cells #[.int .i64 q, (.slice A l.length cap)] 24)) (.cells #[(.slice AF F.length cF), (.slice AT T.length cT), (.slice AZ Z.length cZ)] 27)) W1.out.size (.inr (Nat.le_refl _)))
    have HB_2 := Lib.hid (HB_1.out.within (within_alloc (w.alloc (.cells #[.int .i64 q, (.slice A l.length cap)] 24)) (.cells #[(.slice AF F.length cF), (.slice AT T.length cT), (.slice AZ Z.length cZ)] 27)) (by omega))
    have HQ_2 := Lib.hid (HQ_1.out.within (within_alloc (w.alloc (.cells #[.int .i64 q, (.slice A l.length cap)] 24)) (.cells #[(.slice AF F.length cF), (.slice AT T.length cT), (.slice AZ Z.length cZ)] 27)) (by omega))
    have BX_2 := Lib.hid (BX_1.out.within (within_alloc (w.alloc (.cells #[.int .i64 q, (.slice A l.length cap)] 24)) (.cells #[(.slice AF F.length cF), (.slice AT T.length cT), (.slice AZ Z.length cZ)] 27)) (by omega))
    have Y2 := Lib.hid (show ((w.alloc (.cells #[.int .i64 q, (.slice A l.length cap)] 24)).alloc (.cells #[(.slice AF F.length cF), (.slice AT T.length cT), (.slice AZ Z.length cZ)] 27)).heap.size = (w.alloc (.cells #[.int .i64 q, (.slice A l.length cap)] 24)).heap.size + 1 by simp)
    have hnew := cel3_new (w.alloc (.cells #[.int .i64 q, (.slice A l.length cap)] 24)) (.slice AF F.length cF) (.slice AT T.length cT) (.slice AZ Z.length cZ) 27
    rw [show (w.alloc (.cells #[.int .i64 q, (.slice A l.length cap)] 24)).heap.size = w.heap.size + 1 by simp] at hnew
    have BP_2 := Lib.hid hnew
    clear hnew
    go_enter Try.func8, Try.ntmps8
    obtain ⟨g0_0, g0_1, g0_2⟩ := BX_2.out
    obtain ⟨g1_0, g1_1, g1_2, g1_3, g1_4, g1_5⟩ := BP_2.out.cells
    go_wp2_with fail
    clear g0_0 g0_1 g0_2 g1_0 g1_1 g1_2 g1_3 g1_4 g1_5
    generalize ((w.alloc (.cells #[.int .i64 q, (.slice A l.length cap)] 24)).alloc (.cells #[(.slice AF F.length cF), (.slice AT T.length cT), (.slice AZ Z.length cZ)] 27)) = w2 at *
    generalize (w.alloc (.cells #[.int .i64 q, (.slice A l.length cap)] 24)) = w1 at *
    refine (szGraph_no q A l.length cap 1048576 _ h63 hx (by omega)).mono ?_
    rintro e w3 ⟨rfl, hb⟩
    have Z3 := Lib.hid (within_of hb).size
    have W3 := Lib.hid (within_on W2.out (within_of hb) W2.out.size (.inr (Nat.le_refl _)))
    have HB_3 := Lib.hid (HB_2.out.within (within_of hb) (by omega))
    have HQ_3 := Lib.hid (HQ_2.out.within (within_of hb) (by omega))
    have BX_3 := Lib.hid (BX_2.out.within (within_of hb) (by omega))
    have BP_3 := Lib.hid (BP_2.out.within (within_of hb) (by omega))
    clear hb
    go_wp2_with fail
    go_ret
    exact ⟨rfl, W3.out⟩
end Go.Proofs.Ytgmcibcjplncaaa
