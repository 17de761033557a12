/- The law FnExactNewPebbles returns true at every input. No condition. -/
import Derived.Test.YtbmfdkaggbfmmaaNewPS
import Derived.Deep.RegionHeld3
namespace Go.Proofs.Ytbmfdkaggbfmmaa
open Go.RowKit

set_option maxHeartbeats 2000000 in
set_option maxRecDepth 100000 in
theorem lawNewPebbles (q : Int) (A : Option Addr) (cap : Nat) (l : List (Int × Int)) (a1 : Int) (w : World) (hl : l.length ≤ maxLen) (hb : BarsAt w w.heap.size A l) (_wa1 : (Lit.int .i64 a1).wf = true) :
    Calls Try.prog 4 #[.agg #[.int .i64 q, .slice A l.length cap], .int .i64 a1] w fun e w' => e = .returned (.bool true) ∧ Below w.heap.size w w' := by
  have HB_0 := Lib.hid (bars_in hb)
  clear hb
  have hl1 : (newF q a1 l).length ≤ 1048576 := newF_len q a1 l
  have hl2 : ([] : List Int).length ≤ 1048576 := by simp
  have hl3 : ([] : List Int).length ≤ 1048576 := by simp
  by_cases hn : l.length ≤ 1048576
  · skip
    have W0 := Lib.hid (Below.refl w.heap.size w)
    have Z1 := Lib.hid (within_alloc w (.cells #[.int .i64 q, (.slice A l.length cap)] 54)).size
    have W1 := Lib.hid (within_on W0.out (within_alloc w (.cells #[.int .i64 q, (.slice A l.length cap)] 54)) W0.out.size (.inr (Nat.le_refl _)))
    have HB_1 := Lib.hid (HB_0.out.within (within_alloc w (.cells #[.int .i64 q, (.slice A l.length cap)] 54)) (by omega))
    have Y1 := Lib.hid (show (w.alloc (.cells #[.int .i64 q, (.slice A l.length cap)] 54)).heap.size = w.heap.size + 1 by simp)
    have hnew := box_new w q (.slice A l.length cap) 54
    have BX_1 := Lib.hid hnew
    clear hnew
    go_enter Try.func4, Try.ntmps4
    obtain ⟨g0_0, g0_1, g0_2⟩ := BX_1.out
    go_wp2_with fail
    clear g0_0 g0_1 g0_2
    generalize (w.alloc (.cells #[.int .i64 q, (.slice A l.length cap)] 54)) = w1 at *
    refine (szGraph_c q A l.length cap 1048576 _ (by omega) (by omega)).mono ?_
    rintro e w2 ⟨rfl, hb⟩
    have Z2 := Lib.hid (within_of hb).size
    have W2 := Lib.hid (within_on W1.out (within_of hb) W1.out.size (.inr (Nat.le_refl _)))
    have HB_2 := Lib.hid (HB_1.out.within (within_of hb) (by omega))
    have BX_2 := Lib.hid (BX_1.out.within (within_of hb) (by omega))
    clear hb
    have hnn : ¬ (1048576 : Int) - (l.length : Int) < 0 := by omega
    obtain ⟨g1_0, g1_1, g1_2⟩ := BX_2.out
    go_wp2_with fail
    clear g1_0 g1_1 g1_2
    refine (toGraph_c q l A cap _ HB_2.out.at hn).mono ?_
    rintro e w3 ⟨g0, rfl, ho, hb⟩
    have Z3 := Lib.hid (within_of hb).size
    have W3 := Lib.hid (within_on W2.out (within_of hb) W2.out.size (.inr (Nat.le_refl _)))
    have HB_3 := Lib.hid (HB_2.out.within (within_of hb) (by omega))
    have BX_3 := Lib.hid (BX_2.out.within (within_of hb) (by omega))
    have SG_3 := Lib.hid ((own_in ho).bars)
    clear ho hb
    go_wp2_with fail
    refine (specNewP q a1 l (some ⟨g0, 0, none⟩) l.length _ SG_3.out.at hn).mono ?_
    rintro e w4 ⟨ASF, cSF, AST, cST, ASZ, cSZ, rfl, ho, hb⟩
    have Z4 := Lib.hid (within_of hb).size
    have W4 := Lib.hid (within_on W3.out (within_of hb) W3.out.size (.inr (Nat.le_refl _)))
    have HB_4 := Lib.hid (HB_3.out.within (within_of hb) (by omega))
    have BX_4 := Lib.hid (BX_3.out.within (within_of hb) (by omega))
    have SG_4 := Lib.hid (SG_3.out.within (within_of hb) (by omega))
    have SR_4 := Lib.hid (ho)
    clear ho hb
    obtain ⟨g2_0, g2_1, g2_2⟩ := BX_4.out
    have Z5 := Lib.hid (within_alloc w4 (.cells #[(.slice ASF (newF q a1 l).length cSF), (.slice AST 0 cST), (.slice ASZ 0 cSZ)] 31)).size
    have W5 := Lib.hid (within_on W4.out (within_alloc w4 (.cells #[(.slice ASF (newF q a1 l).length cSF), (.slice AST 0 cST), (.slice ASZ 0 cSZ)] 31)) W4.out.size (.inr (Nat.le_refl _)))
    have HB_5 := Lib.hid (HB_4.out.within (within_alloc w4 (.cells #[(.slice ASF (newF q a1 l).length cSF), (.slice AST 0 cST), (.slice ASZ 0 cSZ)] 31)) (by omega))
    have BX_5 := Lib.hid (BX_4.out.within (within_alloc w4 (.cells #[(.slice ASF (newF q a1 l).length cSF), (.slice AST 0 cST), (.slice ASZ 0 cSZ)] 31)) (by omega))
    have SG_5 := Lib.hid (SG_4.out.within (within_alloc w4 (.cells #[(.slice ASF (newF q a1 l).length cSF), (.slice AST 0 cST), (.slice ASZ 0 cSZ)] 31)) (by omega))
    have SR_5 := Lib.hid (SR_4.out.within (within_alloc w4 (.cells #[(.slice ASF (newF q a1 l).length cSF), (.slice AST 0 cST), (.slice ASZ 0 cSZ)] 31)) (by omega))
    have Y5 := Lib.hid (show (w4.alloc (.cells #[(.slice ASF (newF q a1 l).length cSF), (.slice AST 0 cST), (.slice ASZ 0 cSZ)] 31)).heap.size = w4.heap.size + 1 by simp)
    have hnew := cel3_new w4 (.slice ASF (newF q a1 l).length cSF) (.slice AST 0 cST) (.slice ASZ 0 cSZ) 31
    have BW_5 := Lib.hid hnew
    clear hnew
    obtain ⟨g3_0, g3_1, g3_2⟩ := BX_5.out
    go_wp2_with fail
    clear g2_0 g2_1 g2_2 g3_0 g3_1 g3_2
    generalize (w4.alloc (.cells #[(.slice ASF (newF q a1 l).length cSF), (.slice AST 0 cST), (.slice ASZ 0 cSZ)] 31)) = w5 at *
    refine (toGraph_c q l A cap _ HB_5.out.at hn).mono ?_
    rintro e w6 ⟨x0, rfl, ho, hb⟩
    have Z6 := Lib.hid (within_of hb).size
    have W6 := Lib.hid (within_on W5.out (within_of hb) W5.out.size (.inr (Nat.le_refl _)))
    have HB_6 := Lib.hid (HB_5.out.within (within_of hb) (by omega))
    have BX_6 := Lib.hid (BX_5.out.within (within_of hb) (by omega))
    have SG_6 := Lib.hid (SG_5.out.within (within_of hb) (by omega))
    have SR_6 := Lib.hid (SR_5.out.within (within_of hb) (by omega))
    have BW_6 := Lib.hid (BW_5.out.within (within_of hb) (by omega))
    have SX_6 := Lib.hid (own_in ho)
    clear ho hb
    have Z7 := Lib.hid (within_alloc w6 (.cells #[.int .i64 q, (.slice (some ⟨x0, 0, none⟩) l.length l.length)] 26)).size
    have W7 := Lib.hid (within_on W6.out (within_alloc w6 (.cells #[.int .i64 q, (.slice (some ⟨x0, 0, none⟩) l.length l.length)] 26)) W6.out.size (.inr (Nat.le_refl _)))
    have HB_7 := Lib.hid (HB_6.out.within (within_alloc w6 (.cells #[.int .i64 q, (.slice (some ⟨x0, 0, none⟩) l.length l.length)] 26)) (by omega))
    have BX_7 := Lib.hid (BX_6.out.within (within_alloc w6 (.cells #[.int .i64 q, (.slice (some ⟨x0, 0, none⟩) l.length l.length)] 26)) (by omega))
    have SG_7 := Lib.hid (SG_6.out.within (within_alloc w6 (.cells #[.int .i64 q, (.slice (some ⟨x0, 0, none⟩) l.length l.length)] 26)) (by omega))
    have SR_7 := Lib.hid (SR_6.out.within (within_alloc w6 (.cells #[.int .i64 q, (.slice (some ⟨x0, 0, none⟩) l.length l.length)] 26)) (by omega))
    have BW_7 := Lib.hid (BW_6.out.within (within_alloc w6 (.cells #[.int .i64 q, (.slice (some ⟨x0, 0, none⟩) l.length l.length)] 26)) (by omega))
    have SX_7 := Lib.hid (SX_6.out.within (within_alloc w6 (.cells #[.int .i64 q, (.slice (some ⟨x0, 0, none⟩) l.length l.length)] 26)) (by omega))
    have Y7 := Lib.hid (show (w6.alloc (.cells #[.int .i64 q, (.slice (some ⟨x0, 0, none⟩) l.length l.length)] 26)).heap.size = w6.heap.size + 1 by simp)
    have hnew := box_new w6 q (.slice (some ⟨x0, 0, none⟩) l.length l.length) 26
    have XX_7 := Lib.hid hnew
    clear hnew
    obtain ⟨g4_0, g4_1, g4_2⟩ := XX_7.out
    go_wp2_with fail
    clear g4_0 g4_1 g4_2
    generalize (w6.alloc (.cells #[.int .i64 q, (.slice (some ⟨x0, 0, none⟩) l.length l.length)] 26)) = w7 at *
    refine (implNewP q a1 l (some ⟨x0, 0, none⟩) l.length _ SX_7.out.bars.at hn).mono ?_
    rintro e w8 ⟨AGF, cGF, AGT, cGT, AGZ, cGZ, rfl, ho, hb⟩
    have Z8 := Lib.hid (within_of hb).size
    have W8 := Lib.hid (within_on W7.out (within_of hb) W7.out.size (.inr (Nat.le_refl _)))
    have HB_8 := Lib.hid (HB_7.out.within (within_of hb) (by omega))
    have BX_8 := Lib.hid (BX_7.out.within (within_of hb) (by omega))
    have SG_8 := Lib.hid (SG_7.out.within (within_of hb) (by omega))
    have SR_8 := Lib.hid (SR_7.out.within (within_of hb) (by omega))
    have BW_8 := Lib.hid (BW_7.out.within (within_of hb) (by omega))
    have SX_8 := Lib.hid (SX_7.out.within (within_of hb) (by omega))
    have XX_8 := Lib.hid (XX_7.out.within (within_of hb) (by omega))
    have SO_8 := Lib.hid (ho)
    clear ho hb
    have Z9 := Lib.hid (within_alloc w8 (.cells #[(.slice AGF (newF q a1 l).length cGF), (.slice AGT 0 cGT), (.slice AGZ 0 cGZ)] 31)).size
    have W9 := Lib.hid (within_on W8.out (within_alloc w8 (.cells #[(.slice AGF (newF q a1 l).length cGF), (.slice AGT 0 cGT), (.slice AGZ 0 cGZ)] 31)) W8.out.size (.inr (Nat.le_refl _)))
    have HB_9 := Lib.hid (HB_8.out.within (within_alloc w8 (.cells #[(.slice AGF (newF q a1 l).length cGF), (.slice AGT 0 cGT), (.slice AGZ 0 cGZ)] 31)) (by omega))
    have BX_9 := Lib.hid (BX_8.out.within (within_alloc w8 (.cells #[(.slice AGF (newF q a1 l).length cGF), (.slice AGT 0 cGT), (.slice AGZ 0 cGZ)] 31)) (by omega))
    have SG_9 := Lib.hid (SG_8.out.within (within_alloc w8 (.cells #[(.slice AGF (newF q a1 l).length cGF), (.slice AGT 0 cGT), (.slice AGZ 0 cGZ)] 31)) (by omega))
    have SR_9 := Lib.hid (SR_8.out.within (within_alloc w8 (.cells #[(.slice AGF (newF q a1 l).length cGF), (.slice AGT 0 cGT), (.slice AGZ 0 cGZ)] 31)) (by omega))
    have BW_9 := Lib.hid (BW_8.out.within (within_alloc w8 (.cells #[(.slice AGF (newF q a1 l).length cGF), (.slice AGT 0 cGT), (.slice AGZ 0 cGZ)] 31)) (by omega))
    have SX_9 := Lib.hid (SX_8.out.within (within_alloc w8 (.cells #[(.slice AGF (newF q a1 l).length cGF), (.slice AGT 0 cGT), (.slice AGZ 0 cGZ)] 31)) (by omega))
    have XX_9 := Lib.hid (XX_8.out.within (within_alloc w8 (.cells #[(.slice AGF (newF q a1 l).length cGF), (.slice AGT 0 cGT), (.slice AGZ 0 cGZ)] 31)) (by omega))
    have SO_9 := Lib.hid (SO_8.out.within (within_alloc w8 (.cells #[(.slice AGF (newF q a1 l).length cGF), (.slice AGT 0 cGT), (.slice AGZ 0 cGZ)] 31)) (by omega))
    have Y9 := Lib.hid (show (w8.alloc (.cells #[(.slice AGF (newF q a1 l).length cGF), (.slice AGT 0 cGT), (.slice AGZ 0 cGZ)] 31)).heap.size = w8.heap.size + 1 by simp)
    have hnew := cel3_new w8 (.slice AGF (newF q a1 l).length cGF) (.slice AGT 0 cGT) (.slice AGZ 0 cGZ) 31
    have BG_9 := Lib.hid hnew
    clear hnew
    obtain ⟨g5_0, g5_1, g5_2, g5_3, g5_4, g5_5⟩ := BG_9.out.cells
    obtain ⟨g6_0, g6_1, g6_2, g6_3, g6_4, g6_5⟩ := BW_9.out.cells
    go_wp2_with fail
    clear g5_0 g5_1 g5_2 g5_3 g5_4 g5_5 g6_0 g6_1 g6_2 g6_3 g6_4 g6_5
    generalize (w8.alloc (.cells #[(.slice AGF (newF q a1 l).length cGF), (.slice AGT 0 cGT), (.slice AGZ 0 cGZ)] 31)) = w9 at *
    refine (eqPeb_c AGF AGT AGZ ASF AST ASZ cGF cGT cGZ cSF cST cSZ _ _ _ _ (newF q a1 l) [] [] _ SO_9.out.reads SR_9.out.reads hl1 hl2 hl3).mono ?_
    rintro e w10 ⟨rfl, hb⟩
    have Z10 := Lib.hid (within_of hb).size
    have W10 := Lib.hid (within_on W9.out (within_of hb) W9.out.size (.inr (Nat.le_refl _)))
    have HB_10 := Lib.hid (HB_9.out.within (within_of hb) (by omega))
    have BX_10 := Lib.hid (BX_9.out.within (within_of hb) (by omega))
    have SG_10 := Lib.hid (SG_9.out.within (within_of hb) (by omega))
    have SR_10 := Lib.hid (SR_9.out.within (within_of hb) (by omega))
    have BW_10 := Lib.hid (BW_9.out.within (within_of hb) (by omega))
    have SX_10 := Lib.hid (SX_9.out.within (within_of hb) (by omega))
    have XX_10 := Lib.hid (XX_9.out.within (within_of hb) (by omega))
    have SO_10 := Lib.hid (SO_9.out.within (within_of hb) (by omega))
    have BG_10 := Lib.hid (BG_9.out.within (within_of hb) (by omega))
    clear hb
    have kk1 : (fun W' => W'.cell? ⟨w.heap.size, 0, none⟩ = some (.int .i64 q) ∧ W'.cell? ⟨w.heap.size, 1, none⟩ = some (.slice A l.length cap) ∧ W'.cell? ⟨w6.heap.size, 0, none⟩ = some (.int .i64 q) ∧ W'.cell? ⟨w6.heap.size, 1, none⟩ = some (.slice (some ⟨x0, 0, none⟩) l.length l.length)) w10 := ⟨BX_10.out.2.1, BX_10.out.2.2, XX_10.out.2.1, XX_10.out.2.2⟩
    have hdr : Below w10.heap.size w10 w10.drew := (Below.refl _ _).drew
    have Z11 := Lib.hid (within_of hdr).size
    have W11 := Lib.hid (within_on W10.out (within_of hdr) W10.out.size (.inr (Nat.le_refl _)))
    have HB_11 := Lib.hid (HB_10.out.within (within_of hdr) (by omega))
    have BX_11 := Lib.hid (BX_10.out.within (within_of hdr) (by omega))
    have SG_11 := Lib.hid (SG_10.out.within (within_of hdr) (by omega))
    have SR_11 := Lib.hid (SR_10.out.within (within_of hdr) (by omega))
    have BW_11 := Lib.hid (BW_10.out.within (within_of hdr) (by omega))
    have SX_11 := Lib.hid (SX_10.out.within (within_of hdr) (by omega))
    have XX_11 := Lib.hid (XX_10.out.within (within_of hdr) (by omega))
    have SO_11 := Lib.hid (SO_10.out.within (within_of hdr) (by omega))
    have BG_11 := Lib.hid (BG_10.out.within (within_of hdr) (by omega))
    clear hdr
    go_wp2_with fail
    go_region_held3 (fun W' => W'.cell? ⟨w.heap.size, 0, none⟩ = some (.int .i64 q) ∧ W'.cell? ⟨w.heap.size, 1, none⟩ = some (.slice A l.length cap) ∧ W'.cell? ⟨w6.heap.size, 0, none⟩ = some (.int .i64 q) ∧ W'.cell? ⟨w6.heap.size, 1, none⟩ = some (.slice (some ⟨x0, 0, none⟩) l.length l.length))
      (first | exact kk1 | exact ⟨BX_12.out.2.1, BX_12.out.2.2, XX_12.out.2.1, XX_12.out.2.2⟩ | exact ⟨BX_13.out.2.1, BX_13.out.2.2, XX_13.out.2.1, XX_13.out.2.2⟩ | fail)
      (first
        | (go_at_call 39; refine (toGraph_c q l A cap _ HB_11.out.at hn).mono ?_; rintro e w12 ⟨y0, rfl, ho, hb⟩; have Z12 := Lib.hid (within_of hb).size; have W12 := Lib.hid (within_on W11.out (within_of hb) W11.out.size (.inr (Nat.le_refl _))); have HB_12 := Lib.hid (HB_11.out.within (within_of hb) (by omega)); have BX_12 := Lib.hid (BX_11.out.within (within_of hb) (by omega)); have SG_12 := Lib.hid (SG_11.out.within (within_of hb) (by omega)); have SR_12 := Lib.hid (SR_11.out.within (within_of hb) (by omega)); have BW_12 := Lib.hid (BW_11.out.within (within_of hb) (by omega)); have SX_12 := Lib.hid (SX_11.out.within (within_of hb) (by omega)); have XX_12 := Lib.hid (XX_11.out.within (within_of hb) (by omega)); have SO_12 := Lib.hid (SO_11.out.within (within_of hb) (by omega)); have BG_12 := Lib.hid (BG_11.out.within (within_of hb) (by omega)); have YG_12 := Lib.hid ((own_in ho).bars); clear ho hb)
        | (go_at_call 41; refine (eqGraph_c q l _ _ l.length l.length _ SX_12.out.bars.at YG_12.out.at hn).mono ?_; rintro e w13 ⟨rfl, hb⟩; have Z13 := Lib.hid (within_of hb).size; have W13 := Lib.hid (within_on W12.out (within_of hb) W12.out.size (.inr (Nat.le_refl _))); have HB_13 := Lib.hid (HB_12.out.within (within_of hb) (by omega)); have BX_13 := Lib.hid (BX_12.out.within (within_of hb) (by omega)); have SG_13 := Lib.hid (SG_12.out.within (within_of hb) (by omega)); have SR_13 := Lib.hid (SR_12.out.within (within_of hb) (by omega)); have BW_13 := Lib.hid (BW_12.out.within (within_of hb) (by omega)); have SX_13 := Lib.hid (SX_12.out.within (within_of hb) (by omega)); have XX_13 := Lib.hid (XX_12.out.within (within_of hb) (by omega)); have SO_13 := Lib.hid (SO_12.out.within (within_of hb) (by omega)); have BG_13 := Lib.hid (BG_12.out.within (within_of hb) (by omega)); have YG_13 := Lib.hid (YG_12.out.within (within_of hb) (by omega)); clear hb))
    obtain ⟨g7_0, g7_1, g7_2⟩ := XX_13.out
    go_wp2_with fail
    clear g7_0 g7_1 g7_2
    refine (markGraph_o q (some ⟨x0, 0, none⟩) l.length l 1 w5.heap.size w6.heap.size _ SX_13.out hn (by omega) (by omega)).mono ?_
    rintro e w14 ⟨rfl, hin, hox⟩
    have Z14 := Lib.hid (hin).size
    have W14 := Lib.hid (within_on W13.out (hin) W13.out.size (by have := Z1.out; have := Z2.out; have := Z3.out; have := Z4.out; have := Z5.out; have := Z6.out; have := Z7.out; have := Z8.out; have := Z9.out; have := Z10.out; have := Z11.out; have := Z12.out; have := Z13.out; have := Z14.out; have := Y1.out; have := Y5.out; have := Y7.out; have := Y9.out; omega))
    have HB_14 := Lib.hid (HB_13.out.within (hin) (by have := Z1.out; have := Z2.out; have := Z3.out; have := Z4.out; have := Z5.out; have := Z6.out; have := Z7.out; have := Z8.out; have := Z9.out; have := Z10.out; have := Z11.out; have := Z12.out; have := Z13.out; have := Z14.out; have := Y1.out; have := Y5.out; have := Y7.out; have := Y9.out; omega))
    have BX_14 := Lib.hid (BX_13.out.within (hin) (by have := Z1.out; have := Z2.out; have := Z3.out; have := Z4.out; have := Z5.out; have := Z6.out; have := Z7.out; have := Z8.out; have := Z9.out; have := Z10.out; have := Z11.out; have := Z12.out; have := Z13.out; have := Z14.out; have := Y1.out; have := Y5.out; have := Y7.out; have := Y9.out; omega))
    have SG_14 := Lib.hid (SG_13.out.within (hin) (by have := Z1.out; have := Z2.out; have := Z3.out; have := Z4.out; have := Z5.out; have := Z6.out; have := Z7.out; have := Z8.out; have := Z9.out; have := Z10.out; have := Z11.out; have := Z12.out; have := Z13.out; have := Z14.out; have := Y1.out; have := Y5.out; have := Y7.out; have := Y9.out; omega))
    have SR_14 := Lib.hid (SR_13.out.within (hin) (by have := Z1.out; have := Z2.out; have := Z3.out; have := Z4.out; have := Z5.out; have := Z6.out; have := Z7.out; have := Z8.out; have := Z9.out; have := Z10.out; have := Z11.out; have := Z12.out; have := Z13.out; have := Z14.out; have := Y1.out; have := Y5.out; have := Y7.out; have := Y9.out; omega))
    have BW_14 := Lib.hid (BW_13.out.within (hin) (by have := Z1.out; have := Z2.out; have := Z3.out; have := Z4.out; have := Z5.out; have := Z6.out; have := Z7.out; have := Z8.out; have := Z9.out; have := Z10.out; have := Z11.out; have := Z12.out; have := Z13.out; have := Z14.out; have := Y1.out; have := Y5.out; have := Y7.out; have := Y9.out; omega))
    have XX_14 := Lib.hid (XX_13.out.within (hin) (by have := Z1.out; have := Z2.out; have := Z3.out; have := Z4.out; have := Z5.out; have := Z6.out; have := Z7.out; have := Z8.out; have := Z9.out; have := Z10.out; have := Z11.out; have := Z12.out; have := Z13.out; have := Z14.out; have := Y1.out; have := Y5.out; have := Y7.out; have := Y9.out; omega))
    have SO_14 := Lib.hid (SO_13.out.within (hin) (by have := Z1.out; have := Z2.out; have := Z3.out; have := Z4.out; have := Z5.out; have := Z6.out; have := Z7.out; have := Z8.out; have := Z9.out; have := Z10.out; have := Z11.out; have := Z12.out; have := Z13.out; have := Z14.out; have := Y1.out; have := Y5.out; have := Y7.out; have := Y9.out; omega))
    have BG_14 := Lib.hid (BG_13.out.within (hin) (by have := Z1.out; have := Z2.out; have := Z3.out; have := Z4.out; have := Z5.out; have := Z6.out; have := Z7.out; have := Z8.out; have := Z9.out; have := Z10.out; have := Z11.out; have := Z12.out; have := Z13.out; have := Z14.out; have := Y1.out; have := Y5.out; have := Y7.out; have := Y9.out; omega))
    have YG_14 := Lib.hid (YG_13.out.within (hin) (by have := Z1.out; have := Z2.out; have := Z3.out; have := Z4.out; have := Z5.out; have := Z6.out; have := Z7.out; have := Z8.out; have := Z9.out; have := Z10.out; have := Z11.out; have := Z12.out; have := Z13.out; have := Z14.out; have := Y1.out; have := Y5.out; have := Y7.out; have := Y9.out; omega))
    clear hox hin
    have hk1 : ¬ ((1 : Int) + 2 * (l.length : Int)) < 0 := by omega
    obtain ⟨g8_0, g8_1, g8_2, g8_3, g8_4, g8_5⟩ := BG_14.out.cells
    obtain ⟨g9_0, g9_1, g9_2, g9_3, g9_4, g9_5⟩ := BW_14.out.cells
    go_wp2_with fail
    clear g8_0 g8_1 g8_2 g8_3 g8_4 g8_5 g9_0 g9_1 g9_2 g9_3 g9_4 g9_5
    refine (eqPeb_c AGF AGT AGZ ASF AST ASZ cGF cGT cGZ cSF cST cSZ _ _ _ _ (newF q a1 l) [] [] _ SO_14.out.reads SR_14.out.reads hl1 hl2 hl3).mono ?_
    rintro e w15 ⟨rfl, hb⟩
    have Z15 := Lib.hid (within_of hb).size
    have W15 := Lib.hid (within_on W14.out (within_of hb) W14.out.size (.inr (Nat.le_refl _)))
    have HB_15 := Lib.hid (HB_14.out.within (within_of hb) (by omega))
    have BX_15 := Lib.hid (BX_14.out.within (within_of hb) (by omega))
    have SG_15 := Lib.hid (SG_14.out.within (within_of hb) (by omega))
    have SR_15 := Lib.hid (SR_14.out.within (within_of hb) (by omega))
    have BW_15 := Lib.hid (BW_14.out.within (within_of hb) (by omega))
    have XX_15 := Lib.hid (XX_14.out.within (within_of hb) (by omega))
    have SO_15 := Lib.hid (SO_14.out.within (within_of hb) (by omega))
    have BG_15 := Lib.hid (BG_14.out.within (within_of hb) (by omega))
    have YG_15 := Lib.hid (YG_14.out.within (within_of hb) (by omega))
    clear hb
    obtain ⟨g10_0, g10_1, g10_2, g10_3, g10_4, g10_5⟩ := BG_15.out.cells
    go_wp2_with fail
    clear g10_0 g10_1 g10_2 g10_3 g10_4 g10_5
    refine (markPeb_o AGF AGT AGZ cGF cGT cGZ w7.heap.size w8.heap.size (newF q a1 l) [] [] 1 _ SO_15.out hl1 hl2 hl3 (by omega) (by omega)).mono ?_
    rintro e w16 ⟨rfl, hin, hog⟩
    have Z16 := Lib.hid (hin).size
    have W16 := Lib.hid (within_on W15.out (hin) W15.out.size (by have := Z1.out; have := Z2.out; have := Z3.out; have := Z4.out; have := Z5.out; have := Z6.out; have := Z7.out; have := Z8.out; have := Z9.out; have := Z10.out; have := Z11.out; have := Z12.out; have := Z13.out; have := Z14.out; have := Z15.out; have := Z16.out; have := Y1.out; have := Y5.out; have := Y7.out; have := Y9.out; omega))
    have HB_16 := Lib.hid (HB_15.out.within (hin) (by have := Z1.out; have := Z2.out; have := Z3.out; have := Z4.out; have := Z5.out; have := Z6.out; have := Z7.out; have := Z8.out; have := Z9.out; have := Z10.out; have := Z11.out; have := Z12.out; have := Z13.out; have := Z14.out; have := Z15.out; have := Z16.out; have := Y1.out; have := Y5.out; have := Y7.out; have := Y9.out; omega))
    have BX_16 := Lib.hid (BX_15.out.within (hin) (by have := Z1.out; have := Z2.out; have := Z3.out; have := Z4.out; have := Z5.out; have := Z6.out; have := Z7.out; have := Z8.out; have := Z9.out; have := Z10.out; have := Z11.out; have := Z12.out; have := Z13.out; have := Z14.out; have := Z15.out; have := Z16.out; have := Y1.out; have := Y5.out; have := Y7.out; have := Y9.out; omega))
    have SG_16 := Lib.hid (SG_15.out.within (hin) (by have := Z1.out; have := Z2.out; have := Z3.out; have := Z4.out; have := Z5.out; have := Z6.out; have := Z7.out; have := Z8.out; have := Z9.out; have := Z10.out; have := Z11.out; have := Z12.out; have := Z13.out; have := Z14.out; have := Z15.out; have := Z16.out; have := Y1.out; have := Y5.out; have := Y7.out; have := Y9.out; omega))
    have SR_16 := Lib.hid (SR_15.out.within (hin) (by have := Z1.out; have := Z2.out; have := Z3.out; have := Z4.out; have := Z5.out; have := Z6.out; have := Z7.out; have := Z8.out; have := Z9.out; have := Z10.out; have := Z11.out; have := Z12.out; have := Z13.out; have := Z14.out; have := Z15.out; have := Z16.out; have := Y1.out; have := Y5.out; have := Y7.out; have := Y9.out; omega))
    have BW_16 := Lib.hid (BW_15.out.within (hin) (by have := Z1.out; have := Z2.out; have := Z3.out; have := Z4.out; have := Z5.out; have := Z6.out; have := Z7.out; have := Z8.out; have := Z9.out; have := Z10.out; have := Z11.out; have := Z12.out; have := Z13.out; have := Z14.out; have := Z15.out; have := Z16.out; have := Y1.out; have := Y5.out; have := Y7.out; have := Y9.out; omega))
    have XX_16 := Lib.hid (XX_15.out.within (hin) (by have := Z1.out; have := Z2.out; have := Z3.out; have := Z4.out; have := Z5.out; have := Z6.out; have := Z7.out; have := Z8.out; have := Z9.out; have := Z10.out; have := Z11.out; have := Z12.out; have := Z13.out; have := Z14.out; have := Z15.out; have := Z16.out; have := Y1.out; have := Y5.out; have := Y7.out; have := Y9.out; omega))
    have BG_16 := Lib.hid (BG_15.out.within (hin) (by have := Z1.out; have := Z2.out; have := Z3.out; have := Z4.out; have := Z5.out; have := Z6.out; have := Z7.out; have := Z8.out; have := Z9.out; have := Z10.out; have := Z11.out; have := Z12.out; have := Z13.out; have := Z14.out; have := Z15.out; have := Z16.out; have := Y1.out; have := Y5.out; have := Y7.out; have := Y9.out; omega))
    have YG_16 := Lib.hid (YG_15.out.within (hin) (by have := Z1.out; have := Z2.out; have := Z3.out; have := Z4.out; have := Z5.out; have := Z6.out; have := Z7.out; have := Z8.out; have := Z9.out; have := Z10.out; have := Z11.out; have := Z12.out; have := Z13.out; have := Z14.out; have := Z15.out; have := Z16.out; have := Y1.out; have := Y5.out; have := Y7.out; have := Y9.out; omega))
    have SM_16 := Lib.hid (hog)
    clear hog hin
    obtain ⟨g11_0, g11_1, g11_2, g11_3, g11_4, g11_5⟩ := BG_16.out.cells
    have hk2 : ¬ (1 : Int) + ((newF q a1 l).length : Int) + (0 : Int) + (0 : Int) < 0 := by omega
    go_wp2_with fail
    clear g11_0 g11_1 g11_2 g11_3 g11_4 g11_5
    refine (heldPeb_c AGF AGT AGZ cGF cGT cGZ w7.heap.size w8.heap.size (newF q a1 l).length 0 0 1 _ SM_16.out.reads hl1 hl2 hl3 (by omega) (by omega)).mono ?_
    rintro e w17 ⟨rfl, hb⟩
    have Z17 := Lib.hid (within_of hb).size
    have W17 := Lib.hid (within_on W16.out (within_of hb) W16.out.size (.inr (Nat.le_refl _)))
    have HB_17 := Lib.hid (HB_16.out.within (within_of hb) (by omega))
    have BX_17 := Lib.hid (BX_16.out.within (within_of hb) (by omega))
    have SG_17 := Lib.hid (SG_16.out.within (within_of hb) (by omega))
    have SR_17 := Lib.hid (SR_16.out.within (within_of hb) (by omega))
    have BW_17 := Lib.hid (BW_16.out.within (within_of hb) (by omega))
    have XX_17 := Lib.hid (XX_16.out.within (within_of hb) (by omega))
    have BG_17 := Lib.hid (BG_16.out.within (within_of hb) (by omega))
    have YG_17 := Lib.hid (YG_16.out.within (within_of hb) (by omega))
    have SM_17 := Lib.hid (SM_16.out.within (within_of hb) (by omega))
    clear hb
    obtain ⟨g12_0, g12_1, g12_2⟩ := BX_17.out
    go_wp2_with fail
    clear g12_0 g12_1 g12_2
    refine (toGraph_c q l A cap _ HB_17.out.at hn).mono ?_
    rintro e w18 ⟨z0, rfl, ho, hb⟩
    have Z18 := Lib.hid (within_of hb).size
    have W18 := Lib.hid (within_on W17.out (within_of hb) W17.out.size (.inr (Nat.le_refl _)))
    have HB_18 := Lib.hid (HB_17.out.within (within_of hb) (by omega))
    have BX_18 := Lib.hid (BX_17.out.within (within_of hb) (by omega))
    have SG_18 := Lib.hid (SG_17.out.within (within_of hb) (by omega))
    have SR_18 := Lib.hid (SR_17.out.within (within_of hb) (by omega))
    have BW_18 := Lib.hid (BW_17.out.within (within_of hb) (by omega))
    have XX_18 := Lib.hid (XX_17.out.within (within_of hb) (by omega))
    have BG_18 := Lib.hid (BG_17.out.within (within_of hb) (by omega))
    have YG_18 := Lib.hid (YG_17.out.within (within_of hb) (by omega))
    have SM_18 := Lib.hid (SM_17.out.within (within_of hb) (by omega))
    have ST_18 := Lib.hid ((own_in ho).bars)
    clear ho hb
    go_wp2_with fail
    refine (implNewP q a1 l (some ⟨z0, 0, none⟩) l.length _ ST_18.out.at hn).mono ?_
    rintro e w19 ⟨AHF, cHF, AHT, cHT, AHZ, cHZ, rfl, ho, hb⟩
    have Z19 := Lib.hid (within_of hb).size
    have W19 := Lib.hid (within_on W18.out (within_of hb) W18.out.size (.inr (Nat.le_refl _)))
    have HB_19 := Lib.hid (HB_18.out.within (within_of hb) (by omega))
    have BX_19 := Lib.hid (BX_18.out.within (within_of hb) (by omega))
    have SG_19 := Lib.hid (SG_18.out.within (within_of hb) (by omega))
    have SR_19 := Lib.hid (SR_18.out.within (within_of hb) (by omega))
    have BW_19 := Lib.hid (BW_18.out.within (within_of hb) (by omega))
    have XX_19 := Lib.hid (XX_18.out.within (within_of hb) (by omega))
    have BG_19 := Lib.hid (BG_18.out.within (within_of hb) (by omega))
    have YG_19 := Lib.hid (YG_18.out.within (within_of hb) (by omega))
    have SM_19 := Lib.hid (SM_18.out.within (within_of hb) (by omega))
    have ST_19 := Lib.hid (ST_18.out.within (within_of hb) (by omega))
    have SH_19 := Lib.hid (ho)
    clear ho hb
    have Z20 := Lib.hid (within_alloc w19 (.cells #[(.slice AHF (newF q a1 l).length cHF), (.slice AHT 0 cHT), (.slice AHZ 0 cHZ)] 31)).size
    have W20 := Lib.hid (within_on W19.out (within_alloc w19 (.cells #[(.slice AHF (newF q a1 l).length cHF), (.slice AHT 0 cHT), (.slice AHZ 0 cHZ)] 31)) W19.out.size (.inr (Nat.le_refl _)))
    have HB_20 := Lib.hid (HB_19.out.within (within_alloc w19 (.cells #[(.slice AHF (newF q a1 l).length cHF), (.slice AHT 0 cHT), (.slice AHZ 0 cHZ)] 31)) (by omega))
    have BX_20 := Lib.hid (BX_19.out.within (within_alloc w19 (.cells #[(.slice AHF (newF q a1 l).length cHF), (.slice AHT 0 cHT), (.slice AHZ 0 cHZ)] 31)) (by omega))
    have SG_20 := Lib.hid (SG_19.out.within (within_alloc w19 (.cells #[(.slice AHF (newF q a1 l).length cHF), (.slice AHT 0 cHT), (.slice AHZ 0 cHZ)] 31)) (by omega))
    have SR_20 := Lib.hid (SR_19.out.within (within_alloc w19 (.cells #[(.slice AHF (newF q a1 l).length cHF), (.slice AHT 0 cHT), (.slice AHZ 0 cHZ)] 31)) (by omega))
    have BW_20 := Lib.hid (BW_19.out.within (within_alloc w19 (.cells #[(.slice AHF (newF q a1 l).length cHF), (.slice AHT 0 cHT), (.slice AHZ 0 cHZ)] 31)) (by omega))
    have XX_20 := Lib.hid (XX_19.out.within (within_alloc w19 (.cells #[(.slice AHF (newF q a1 l).length cHF), (.slice AHT 0 cHT), (.slice AHZ 0 cHZ)] 31)) (by omega))
    have BG_20 := Lib.hid (BG_19.out.within (within_alloc w19 (.cells #[(.slice AHF (newF q a1 l).length cHF), (.slice AHT 0 cHT), (.slice AHZ 0 cHZ)] 31)) (by omega))
    have YG_20 := Lib.hid (YG_19.out.within (within_alloc w19 (.cells #[(.slice AHF (newF q a1 l).length cHF), (.slice AHT 0 cHT), (.slice AHZ 0 cHZ)] 31)) (by omega))
    have SM_20 := Lib.hid (SM_19.out.within (within_alloc w19 (.cells #[(.slice AHF (newF q a1 l).length cHF), (.slice AHT 0 cHT), (.slice AHZ 0 cHZ)] 31)) (by omega))
    have ST_20 := Lib.hid (ST_19.out.within (within_alloc w19 (.cells #[(.slice AHF (newF q a1 l).length cHF), (.slice AHT 0 cHT), (.slice AHZ 0 cHZ)] 31)) (by omega))
    have SH_20 := Lib.hid (SH_19.out.within (within_alloc w19 (.cells #[(.slice AHF (newF q a1 l).length cHF), (.slice AHT 0 cHT), (.slice AHZ 0 cHZ)] 31)) (by omega))
    have Y20 := Lib.hid (show (w19.alloc (.cells #[(.slice AHF (newF q a1 l).length cHF), (.slice AHT 0 cHT), (.slice AHZ 0 cHZ)] 31)).heap.size = w19.heap.size + 1 by simp)
    have hnew := cel3_new w19 (.slice AHF (newF q a1 l).length cHF) (.slice AHT 0 cHT) (.slice AHZ 0 cHZ) 31
    have BH_20 := Lib.hid hnew
    clear hnew
    obtain ⟨g13_0, g13_1, g13_2, g13_3, g13_4, g13_5⟩ := BH_20.out.cells
    obtain ⟨g14_0, g14_1, g14_2, g14_3, g14_4, g14_5⟩ := BW_20.out.cells
    go_wp2_with fail
    clear g13_0 g13_1 g13_2 g13_3 g13_4 g13_5 g14_0 g14_1 g14_2 g14_3 g14_4 g14_5
    generalize (w19.alloc (.cells #[(.slice AHF (newF q a1 l).length cHF), (.slice AHT 0 cHT), (.slice AHZ 0 cHZ)] 31)) = w20 at *
    refine (eqPeb_c AHF AHT AHZ ASF AST ASZ cHF cHT cHZ cSF cST cSZ _ _ _ _ (newF q a1 l) [] [] _ SH_20.out.reads SR_20.out.reads hl1 hl2 hl3).mono ?_
    rintro e w21 ⟨rfl, hb⟩
    have Z21 := Lib.hid (within_of hb).size
    have W21 := Lib.hid (within_on W20.out (within_of hb) W20.out.size (.inr (Nat.le_refl _)))
    have HB_21 := Lib.hid (HB_20.out.within (within_of hb) (by omega))
    have BX_21 := Lib.hid (BX_20.out.within (within_of hb) (by omega))
    have SG_21 := Lib.hid (SG_20.out.within (within_of hb) (by omega))
    have SR_21 := Lib.hid (SR_20.out.within (within_of hb) (by omega))
    have BW_21 := Lib.hid (BW_20.out.within (within_of hb) (by omega))
    have XX_21 := Lib.hid (XX_20.out.within (within_of hb) (by omega))
    have BG_21 := Lib.hid (BG_20.out.within (within_of hb) (by omega))
    have YG_21 := Lib.hid (YG_20.out.within (within_of hb) (by omega))
    have SM_21 := Lib.hid (SM_20.out.within (within_of hb) (by omega))
    have ST_21 := Lib.hid (ST_20.out.within (within_of hb) (by omega))
    have SH_21 := Lib.hid (SH_20.out.within (within_of hb) (by omega))
    have BH_21 := Lib.hid (BH_20.out.within (within_of hb) (by omega))
    clear hb
    obtain ⟨g15_0, g15_1, g15_2, g15_3, g15_4, g15_5⟩ := BG_21.out.cells
    go_wp2_with fail
    clear g15_0 g15_1 g15_2 g15_3 g15_4 g15_5
    refine (heldPeb_c AGF AGT AGZ cGF cGT cGZ w7.heap.size w8.heap.size (newF q a1 l).length 0 0 1 _ SM_21.out.reads hl1 hl2 hl3 (by omega) (by omega)).mono ?_
    rintro e w22 ⟨rfl, hb⟩
    have Z22 := Lib.hid (within_of hb).size
    have W22 := Lib.hid (within_on W21.out (within_of hb) W21.out.size (.inr (Nat.le_refl _)))
    have HB_22 := Lib.hid (HB_21.out.within (within_of hb) (by omega))
    have BX_22 := Lib.hid (BX_21.out.within (within_of hb) (by omega))
    have SG_22 := Lib.hid (SG_21.out.within (within_of hb) (by omega))
    have SR_22 := Lib.hid (SR_21.out.within (within_of hb) (by omega))
    have BW_22 := Lib.hid (BW_21.out.within (within_of hb) (by omega))
    have XX_22 := Lib.hid (XX_21.out.within (within_of hb) (by omega))
    have BG_22 := Lib.hid (BG_21.out.within (within_of hb) (by omega))
    have YG_22 := Lib.hid (YG_21.out.within (within_of hb) (by omega))
    have SM_22 := Lib.hid (SM_21.out.within (within_of hb) (by omega))
    have ST_22 := Lib.hid (ST_21.out.within (within_of hb) (by omega))
    have SH_22 := Lib.hid (SH_21.out.within (within_of hb) (by omega))
    have BH_22 := Lib.hid (BH_21.out.within (within_of hb) (by omega))
    clear hb
    go_wp2_with fail
    go_ret
    exact ⟨rfl, W22.out⟩
  · have hx : (1048576 : Int) < (l.length : Int) := by omega
    have h63 : l.length ≤ 9223372036854775807 := by unfold maxLen at hl; omega
    have W0 := Lib.hid (Below.refl w.heap.size w)
    have Z1 := Lib.hid (within_alloc w (.cells #[.int .i64 q, (.slice A l.length cap)] 54)).size
    have W1 := Lib.hid (within_on W0.out (within_alloc w (.cells #[.int .i64 q, (.slice A l.length cap)] 54)) W0.out.size (.inr (Nat.le_refl _)))
    have HB_1 := Lib.hid (HB_0.out.within (within_alloc w (.cells #[.int .i64 q, (.slice A l.length cap)] 54)) (by omega))
    have Y1 := Lib.hid (show (w.alloc (.cells #[.int .i64 q, (.slice A l.length cap)] 54)).heap.size = w.heap.size + 1 by simp)
    have hnew := box_new w q (.slice A l.length cap) 54
    have BX_1 := Lib.hid hnew
    clear hnew
    go_enter Try.func4, Try.ntmps4
    obtain ⟨g0_0, g0_1, g0_2⟩ := BX_1.out
    go_wp2_with fail
    clear g0_0 g0_1 g0_2
    generalize (w.alloc (.cells #[.int .i64 q, (.slice A l.length cap)] 54)) = w1 at *
    refine (szGraph_no q A l.length cap 1048576 _ h63 hx (by omega)).mono ?_
    rintro e w2 ⟨rfl, hb⟩
    have Z2 := Lib.hid (within_of hb).size
    have W2 := Lib.hid (within_on W1.out (within_of hb) W1.out.size (.inr (Nat.le_refl _)))
    have HB_2 := Lib.hid (HB_1.out.within (within_of hb) (by omega))
    have BX_2 := Lib.hid (BX_1.out.within (within_of hb) (by omega))
    clear hb
    go_wp2_with fail
    go_ret
    exact ⟨rfl, W2.out⟩
end Go.Proofs.Ytbmfdkaggbfmmaa
