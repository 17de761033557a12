/- How the laws copy a state of the pebble game. No condition. -/
import Derived.Test.YtgmcibcjplncaaaPebA
namespace Go.Proofs.Ytgmcibcjplncaaa
open Go.RowKit

set_option maxHeartbeats 2000000 in
set_option maxRecDepth 100000 in
theorem toPeb_c (AF AT AZ : Option Addr) (cF cT cZ lo hi : Nat) (F T Z : List Int) (w : World) (h : Peb3 w lo hi AF AT AZ F T Z) (hF : F.length ≤ 1048576) (hT : T.length ≤ 1048576) (hZ : Z.length ≤ 1048576) :
    Calls Try.prog 21 #[pebV AF F.length cF AT T.length cT AZ Z.length cZ] w fun e w' => ∃ a b c : Nat, e = .returned (pebV (some ⟨a, 0, none⟩) F.length F.length (some ⟨b, 0, none⟩) T.length T.length (some ⟨c, 0, none⟩) Z.length Z.length) ∧ Own3 w' w.heap.size w'.heap.size (some ⟨a, 0, none⟩) F.length (some ⟨b, 0, none⟩) T.length (some ⟨c, 0, none⟩) Z.length F T Z ∧ Below w.heap.size w w' := by
  have hhi : hi ≤ w.heap.size := h.f.1
  have W0 := Lib.hid (Below.refl w.heap.size w)
  have H_0 := Lib.hid (h)
  clear h
  have Z1 := Lib.hid (within_alloc w (.cells #[(.slice AF F.length cF), (.slice AT T.length cT), (.slice AZ Z.length cZ)] 27)).size
  have W1 := Lib.hid (within_on W0.out (within_alloc w (.cells #[(.slice AF F.length cF), (.slice AT T.length cT), (.slice AZ Z.length cZ)] 27)) W0.out.size (.inr (Nat.le_refl _)))
  have H_1 := Lib.hid (H_0.out.within (within_alloc w (.cells #[(.slice AF F.length cF), (.slice AT T.length cT), (.slice AZ Z.length cZ)] 27)) (by omega))
  have Y1 := Lib.hid (show (w.alloc (.cells #[(.slice AF F.length cF), (.slice AT T.length cT), (.slice AZ Z.length cZ)] 27)).heap.size = w.heap.size + 1 by simp)
  have hnew := cel3_new w (.slice AF F.length cF) (.slice AT T.length cT) (.slice AZ Z.length cZ) 27
  have GA_1 := Lib.hid hnew
  clear hnew
  have Z2 := Lib.hid (within_alloc (w.alloc (.cells #[(.slice AF F.length cF), (.slice AT T.length cT), (.slice AZ Z.length cZ)] 27)) (.cells #[(.slice none 0 0), (.slice none 0 0), (.slice none 0 0)] 30)).size
  have W2 := Lib.hid (within_on W1.out (within_alloc (w.alloc (.cells #[(.slice AF F.length cF), (.slice AT T.length cT), (.slice AZ Z.length cZ)] 27)) (.cells #[(.slice none 0 0), (.slice none 0 0), (.slice none 0 0)] 30)) W1.out.size (.inr (Nat.le_refl _)))
  have H_2 := Lib.hid (H_1.out.within (within_alloc (w.alloc (.cells #[(.slice AF F.length cF), (.slice AT T.length cT), (.slice AZ Z.length cZ)] 27)) (.cells #[(.slice none 0 0), (.slice none 0 0), (.slice none 0 0)] 30)) (by omega))
  have GA_2 := Lib.hid (GA_1.out.within (within_alloc (w.alloc (.cells #[(.slice AF F.length cF), (.slice AT T.length cT), (.slice AZ Z.length cZ)] 27)) (.cells #[(.slice none 0 0), (.slice none 0 0), (.slice none 0 0)] 30)) (by omega))
  have Y2 := Lib.hid (show ((w.alloc (.cells #[(.slice AF F.length cF), (.slice AT T.length cT), (.slice AZ Z.length cZ)] 27)).alloc (.cells #[(.slice none 0 0), (.slice none 0 0), (.slice none 0 0)] 30)).heap.size = (w.alloc (.cells #[(.slice AF F.length cF), (.slice AT T.length cT), (.slice AZ Z.length cZ)] 27)).heap.size + 1 by simp)
  have hnew := cel3_new (w.alloc (.cells #[(.slice AF F.length cF), (.slice AT T.length cT), (.slice AZ Z.length cZ)] 27)) (.slice none 0 0) (.slice none 0 0) (.slice none 0 0) 30
  rw [show (w.alloc (.cells #[(.slice AF F.length cF), (.slice AT T.length cT), (.slice AZ Z.length cZ)] 27)).heap.size = w.heap.size + 1 by simp] at hnew
  have GR_2 := Lib.hid hnew
  clear hnew
  have Z3 := Lib.hid (within_alloc ((w.alloc (.cells #[(.slice AF F.length cF), (.slice AT T.length cT), (.slice AZ Z.length cZ)] 27)).alloc (.cells #[(.slice none 0 0), (.slice none 0 0), (.slice none 0 0)] 30)) (.cells #[(.slice none 0 0), (.slice none 0 0), (.slice none 0 0)] 30)).size
  have W3 := Lib.hid (within_on W2.out (within_alloc ((w.alloc (.cells #[(.slice AF F.length cF), (.slice AT T.length cT), (.slice AZ Z.length cZ)] 27)).alloc (.cells #[(.slice none 0 0), (.slice none 0 0), (.slice none 0 0)] 30)) (.cells #[(.slice none 0 0), (.slice none 0 0), (.slice none 0 0)] 30)) W2.out.size (.inr (Nat.le_refl _)))
  have H_3 := Lib.hid (H_2.out.within (within_alloc ((w.alloc (.cells #[(.slice AF F.length cF), (.slice AT T.length cT), (.slice AZ Z.length cZ)] 27)).alloc (.cells #[(.slice none 0 0), (.slice none 0 0), (.slice none 0 0)] 30)) (.cells #[(.slice none 0 0), (.slice none 0 0), (.slice none 0 0)] 30)) (by omega))
  have GA_3 := Lib.hid (GA_2.out.within (within_alloc ((w.alloc (.cells #[(.slice AF F.length cF), (.slice AT T.length cT), (.slice AZ Z.length cZ)] 27)).alloc (.cells #[(.slice none 0 0), (.slice none 0 0), (.slice none 0 0)] 30)) (.cells #[(.slice none 0 0), (.slice none 0 0), (.slice none 0 0)] 30)) (by omega))
  have GR_3 := Lib.hid (GR_2.out.within (within_alloc ((w.alloc (.cells #[(.slice AF F.length cF), (.slice AT T.length cT), (.slice AZ Z.length cZ)] 27)).alloc (.cells #[(.slice none 0 0), (.slice none 0 0), (.slice none 0 0)] 30)) (.cells #[(.slice none 0 0), (.slice none 0 0), (.slice none 0 0)] 30)) (by omega))
  have Y3 := Lib.hid (show (((w.alloc (.cells #[(.slice AF F.length cF), (.slice AT T.length cT), (.slice AZ Z.length cZ)] 27)).alloc (.cells #[(.slice none 0 0), (.slice none 0 0), (.slice none 0 0)] 30)).alloc (.cells #[(.slice none 0 0), (.slice none 0 0), (.slice none 0 0)] 30)).heap.size = ((w.alloc (.cells #[(.slice AF F.length cF), (.slice AT T.length cT), (.slice AZ Z.length cZ)] 27)).alloc (.cells #[(.slice none 0 0), (.slice none 0 0), (.slice none 0 0)] 30)).heap.size + 1 by simp)
  have hnew := cel3_new ((w.alloc (.cells #[(.slice AF F.length cF), (.slice AT T.length cT), (.slice AZ Z.length cZ)] 27)).alloc (.cells #[(.slice none 0 0), (.slice none 0 0), (.slice none 0 0)] 30)) (.slice none 0 0) (.slice none 0 0) (.slice none 0 0) 30
  rw [show ((w.alloc (.cells #[(.slice AF F.length cF), (.slice AT T.length cT), (.slice AZ Z.length cZ)] 27)).alloc (.cells #[(.slice none 0 0), (.slice none 0 0), (.slice none 0 0)] 30)).heap.size = w.heap.size + 1 + 1 by simp] at hnew
  have GO_3 := Lib.hid hnew
  clear hnew
  go_enter Try.func21, Try.ntmps21
  obtain ⟨g0_0, g0_1, g0_2, g0_3, g0_4, g0_5⟩ := GA_3.out.cells
  go_wp2_with fail
  clear g0_0 g0_1 g0_2 g0_3 g0_4 g0_5
  generalize (((w.alloc (.cells #[(.slice AF F.length cF), (.slice AT T.length cT), (.slice AZ Z.length cZ)] 27)).alloc (.cells #[(.slice none 0 0), (.slice none 0 0), (.slice none 0 0)] 30)).alloc (.cells #[(.slice none 0 0), (.slice none 0 0), (.slice none 0 0)] 30)) = w3 at *
  generalize ((w.alloc (.cells #[(.slice AF F.length cF), (.slice AT T.length cT), (.slice AZ Z.length cZ)] 27)).alloc (.cells #[(.slice none 0 0), (.slice none 0 0), (.slice none 0 0)] 30)) = w2 at *
  generalize (w.alloc (.cells #[(.slice AF F.length cF), (.slice AT T.length cT), (.slice AZ Z.length cZ)] 27)) = w1 at *
  refine (toInts_c F AF cF lo hi _ H_3.out.f hF).mono ?_
  rintro e w4 ⟨a, rfl, ho, hb⟩
  have Z4 := Lib.hid (within_of hb).size
  have W4 := Lib.hid (within_on W3.out (within_of hb) W3.out.size (.inr (Nat.le_refl _)))
  have H_4 := Lib.hid (H_3.out.within (within_of hb) (by omega))
  have GA_4 := Lib.hid (GA_3.out.within (within_of hb) (by omega))
  have GR_4 := Lib.hid (GR_3.out.within (within_of hb) (by omega))
  have GO_4 := Lib.hid (GO_3.out.within (within_of hb) (by omega))
  have OF_4 := Lib.hid (own_ints' ho)
  clear ho hb
  obtain ⟨g1_0, g1_1, g1_2, g1_3, g1_4, g1_5⟩ := GO_4.out.cells
  have Z5 := Lib.hid (within_set w4 (w.heap.size + 1 + 1) 0 (.slice (some ⟨a, 0, none⟩) F.length F.length)).size
  have W5 := Lib.hid (within_on W4.out (within_set w4 (w.heap.size + 1 + 1) 0 (.slice (some ⟨a, 0, none⟩) F.length F.length)) W4.out.size (by have := Z1.out; have := Z2.out; have := Z3.out; have := Z4.out; have := Z5.out; have := Y1.out; have := Y2.out; have := Y3.out; omega))
  have H_5 := Lib.hid (H_4.out.within (within_set w4 (w.heap.size + 1 + 1) 0 (.slice (some ⟨a, 0, none⟩) F.length F.length)) (by have := Z1.out; have := Z2.out; have := Z3.out; have := Z4.out; have := Z5.out; have := Y1.out; have := Y2.out; have := Y3.out; omega))
  have GA_5 := Lib.hid (GA_4.out.within (within_set w4 (w.heap.size + 1 + 1) 0 (.slice (some ⟨a, 0, none⟩) F.length F.length)) (by have := Z1.out; have := Z2.out; have := Z3.out; have := Z4.out; have := Z5.out; have := Y1.out; have := Y2.out; have := Y3.out; omega))
  have GR_5 := Lib.hid (GR_4.out.within (within_set w4 (w.heap.size + 1 + 1) 0 (.slice (some ⟨a, 0, none⟩) F.length F.length)) (by have := Z1.out; have := Z2.out; have := Z3.out; have := Z4.out; have := Z5.out; have := Y1.out; have := Y2.out; have := Y3.out; omega))
  have GO_5 := Lib.hid (GO_4.out.set0 (.slice (some ⟨a, 0, none⟩) F.length F.length))
  have OF_5 := Lib.hid (OF_4.out.within (within_set w4 (w.heap.size + 1 + 1) 0 (.slice (some ⟨a, 0, none⟩) F.length F.length)) (by have := Z1.out; have := Z2.out; have := Z3.out; have := Z4.out; have := Z5.out; have := Y1.out; have := Y2.out; have := Y3.out; omega))
  obtain ⟨g2_0, g2_1, g2_2, g2_3, g2_4, g2_5⟩ := GA_5.out.cells
  go_wp2_with fail
  clear g1_0 g1_1 g1_2 g1_3 g1_4 g1_5 g2_0 g2_1 g2_2 g2_3 g2_4 g2_5
  generalize (w4.setCell ⟨w.heap.size + 1 + 1, 0, none⟩ (.slice (some ⟨a, 0, none⟩) F.length F.length)) = w5 at *
  refine (toInts_c T AT cT lo hi _ H_5.out.t hT).mono ?_
  rintro e w6 ⟨b, rfl, ho, hb⟩
  have Z6 := Lib.hid (within_of hb).size
  have W6 := Lib.hid (within_on W5.out (within_of hb) W5.out.size (.inr (Nat.le_refl _)))
  have H_6 := Lib.hid (H_5.out.within (within_of hb) (by omega))
  have GA_6 := Lib.hid (GA_5.out.within (within_of hb) (by omega))
  have GR_6 := Lib.hid (GR_5.out.within (within_of hb) (by omega))
  have GO_6 := Lib.hid (GO_5.out.within (within_of hb) (by omega))
  have OF_6 := Lib.hid (OF_5.out.within (within_of hb) (by omega))
  have OT_6 := Lib.hid (own_ints' ho)
  clear ho hb
  obtain ⟨g3_0, g3_1, g3_2, g3_3, g3_4, g3_5⟩ := GO_6.out.cells
  have Z7 := Lib.hid (within_set w6 (w.heap.size + 1 + 1) 1 (.slice (some ⟨b, 0, none⟩) T.length T.length)).size
  have W7 := Lib.hid (within_on W6.out (within_set w6 (w.heap.size + 1 + 1) 1 (.slice (some ⟨b, 0, none⟩) T.length T.length)) W6.out.size (by have := Z1.out; have := Z2.out; have := Z3.out; have := Z4.out; have := Z5.out; have := Z6.out; have := Z7.out; have := Y1.out; have := Y2.out; have := Y3.out; omega))
  have H_7 := Lib.hid (H_6.out.within (within_set w6 (w.heap.size + 1 + 1) 1 (.slice (some ⟨b, 0, none⟩) T.length T.length)) (by have := Z1.out; have := Z2.out; have := Z3.out; have := Z4.out; have := Z5.out; have := Z6.out; have := Z7.out; have := Y1.out; have := Y2.out; have := Y3.out; omega))
  have GA_7 := Lib.hid (GA_6.out.within (within_set w6 (w.heap.size + 1 + 1) 1 (.slice (some ⟨b, 0, none⟩) T.length T.length)) (by have := Z1.out; have := Z2.out; have := Z3.out; have := Z4.out; have := Z5.out; have := Z6.out; have := Z7.out; have := Y1.out; have := Y2.out; have := Y3.out; omega))
  have GR_7 := Lib.hid (GR_6.out.within (within_set w6 (w.heap.size + 1 + 1) 1 (.slice (some ⟨b, 0, none⟩) T.length T.length)) (by have := Z1.out; have := Z2.out; have := Z3.out; have := Z4.out; have := Z5.out; have := Z6.out; have := Z7.out; have := Y1.out; have := Y2.out; have := Y3.out; omega))
  have GO_7 := Lib.hid (GO_6.out.set1 (.slice (some ⟨b, 0, none⟩) T.length T.length))
  have OF_7 := Lib.hid (OF_6.out.within (within_set w6 (w.heap.size + 1 + 1) 1 (.slice (some ⟨b, 0, none⟩) T.length T.length)) (by have := Z1.out; have := Z2.out; have := Z3.out; have := Z4.out; have := Z5.out; have := Z6.out; have := Z7.out; have := Y1.out; have := Y2.out; have := Y3.out; omega))
  have OT_7 := Lib.hid (OT_6.out.within (within_set w6 (w.heap.size + 1 + 1) 1 (.slice (some ⟨b, 0, none⟩) T.length T.length)) (by have := Z1.out; have := Z2.out; have := Z3.out; have := Z4.out; have := Z5.out; have := Z6.out; have := Z7.out; have := Y1.out; have := Y2.out; have := Y3.out; omega))
  obtain ⟨g4_0, g4_1, g4_2, g4_3, g4_4, g4_5⟩ := GA_7.out.cells
  go_wp2_with fail
  clear g3_0 g3_1 g3_2 g3_3 g3_4 g3_5 g4_0 g4_1 g4_2 g4_3 g4_4 g4_5
  generalize (w6.setCell ⟨w.heap.size + 1 + 1, 1, none⟩ (.slice (some ⟨b, 0, none⟩) T.length T.length)) = w7 at *
  refine (toInts_c Z AZ cZ lo hi _ H_7.out.z hZ).mono ?_
  rintro e w8 ⟨c, rfl, ho, hb⟩
  have Z8 := Lib.hid (within_of hb).size
  have W8 := Lib.hid (within_on W7.out (within_of hb) W7.out.size (.inr (Nat.le_refl _)))
  have H_8 := Lib.hid (H_7.out.within (within_of hb) (by omega))
  have GA_8 := Lib.hid (GA_7.out.within (within_of hb) (by omega))
  have GR_8 := Lib.hid (GR_7.out.within (within_of hb) (by omega))
  have GO_8 := Lib.hid (GO_7.out.within (within_of hb) (by omega))
  have OF_8 := Lib.hid (OF_7.out.within (within_of hb) (by omega))
  have OT_8 := Lib.hid (OT_7.out.within (within_of hb) (by omega))
  have OZ_8 := Lib.hid (own_ints' ho)
  clear ho hb
  obtain ⟨g5_0, g5_1, g5_2, g5_3, g5_4, g5_5⟩ := GO_8.out.cells
  have Z9 := Lib.hid (within_set w8 (w.heap.size + 1 + 1) 2 (.slice (some ⟨c, 0, none⟩) Z.length Z.length)).size
  have W9 := Lib.hid (within_on W8.out (within_set w8 (w.heap.size + 1 + 1) 2 (.slice (some ⟨c, 0, none⟩) Z.length Z.length)) W8.out.size (by have := Z1.out; have := Z2.out; have := Z3.out; have := Z4.out; have := Z5.out; have := Z6.out; have := Z7.out; have := Z8.out; have := Z9.out; have := Y1.out; have := Y2.out; have := Y3.out; omega))
  have H_9 := Lib.hid (H_8.out.within (within_set w8 (w.heap.size + 1 + 1) 2 (.slice (some ⟨c, 0, none⟩) Z.length Z.length)) (by have := Z1.out; have := Z2.out; have := Z3.out; have := Z4.out; have := Z5.out; have := Z6.out; have := Z7.out; have := Z8.out; have := Z9.out; have := Y1.out; have := Y2.out; have := Y3.out; omega))
  have GA_9 := Lib.hid (GA_8.out.within (within_set w8 (w.heap.size + 1 + 1) 2 (.slice (some ⟨c, 0, none⟩) Z.length Z.length)) (by have := Z1.out; have := Z2.out; have := Z3.out; have := Z4.out; have := Z5.out; have := Z6.out; have := Z7.out; have := Z8.out; have := Z9.out; have := Y1.out; have := Y2.out; have := Y3.out; omega))
  have GR_9 := Lib.hid (GR_8.out.within (within_set w8 (w.heap.size + 1 + 1) 2 (.slice (some ⟨c, 0, none⟩) Z.length Z.length)) (by have := Z1.out; have := Z2.out; have := Z3.out; have := Z4.out; have := Z5.out; have := Z6.out; have := Z7.out; have := Z8.out; have := Z9.out; have := Y1.out; have := Y2.out; have := Y3.out; omega))
  have GO_9 := Lib.hid (GO_8.out.set2 (.slice (some ⟨c, 0, none⟩) Z.length Z.length))
  have OF_9 := Lib.hid (OF_8.out.within (within_set w8 (w.heap.size + 1 + 1) 2 (.slice (some ⟨c, 0, none⟩) Z.length Z.length)) (by have := Z1.out; have := Z2.out; have := Z3.out; have := Z4.out; have := Z5.out; have := Z6.out; have := Z7.out; have := Z8.out; have := Z9.out; have := Y1.out; have := Y2.out; have := Y3.out; omega))
  have OT_9 := Lib.hid (OT_8.out.within (within_set w8 (w.heap.size + 1 + 1) 2 (.slice (some ⟨c, 0, none⟩) Z.length Z.length)) (by have := Z1.out; have := Z2.out; have := Z3.out; have := Z4.out; have := Z5.out; have := Z6.out; have := Z7.out; have := Z8.out; have := Z9.out; have := Y1.out; have := Y2.out; have := Y3.out; omega))
  have OZ_9 := Lib.hid (OZ_8.out.within (within_set w8 (w.heap.size + 1 + 1) 2 (.slice (some ⟨c, 0, none⟩) Z.length Z.length)) (by have := Z1.out; have := Z2.out; have := Z3.out; have := Z4.out; have := Z5.out; have := Z6.out; have := Z7.out; have := Z8.out; have := Z9.out; have := Y1.out; have := Y2.out; have := Y3.out; omega))
  obtain ⟨g6_0, g6_1, g6_2, g6_3, g6_4, g6_5⟩ := GA_9.out.cells
  obtain ⟨g7_0, g7_1, g7_2, g7_3, g7_4, g7_5⟩ := GO_9.out.cells
  obtain ⟨g8_0, g8_1, g8_2, g8_3, g8_4, g8_5⟩ := GR_9.out.cells
  have Z10 := Lib.hid ((ret3 GR_9.out (.slice (some ⟨a, 0, none⟩) F.length F.length) (.slice (some ⟨b, 0, none⟩) T.length T.length) (.slice (some ⟨c, 0, none⟩) Z.length Z.length)).2).size
  have W10 := Lib.hid (within_on W9.out ((ret3 GR_9.out (.slice (some ⟨a, 0, none⟩) F.length F.length) (.slice (some ⟨b, 0, none⟩) T.length T.length) (.slice (some ⟨c, 0, none⟩) Z.length Z.length)).2) W9.out.size (by have := Z1.out; have := Z2.out; have := Z3.out; have := Z4.out; have := Z5.out; have := Z6.out; have := Z7.out; have := Z8.out; have := Z9.out; have := Z10.out; have := Y1.out; have := Y2.out; have := Y3.out; omega))
  have H_10 := Lib.hid (H_9.out.within ((ret3 GR_9.out (.slice (some ⟨a, 0, none⟩) F.length F.length) (.slice (some ⟨b, 0, none⟩) T.length T.length) (.slice (some ⟨c, 0, none⟩) Z.length Z.length)).2) (by have := Z1.out; have := Z2.out; have := Z3.out; have := Z4.out; have := Z5.out; have := Z6.out; have := Z7.out; have := Z8.out; have := Z9.out; have := Z10.out; have := Y1.out; have := Y2.out; have := Y3.out; omega))
  have GA_10 := Lib.hid (GA_9.out.within ((ret3 GR_9.out (.slice (some ⟨a, 0, none⟩) F.length F.length) (.slice (some ⟨b, 0, none⟩) T.length T.length) (.slice (some ⟨c, 0, none⟩) Z.length Z.length)).2) (by have := Z1.out; have := Z2.out; have := Z3.out; have := Z4.out; have := Z5.out; have := Z6.out; have := Z7.out; have := Z8.out; have := Z9.out; have := Z10.out; have := Y1.out; have := Y2.out; have := Y3.out; omega))
  have GR_10 := Lib.hid ((ret3 GR_9.out (.slice (some ⟨a, 0, none⟩) F.length F.length) (.slice (some ⟨b, 0, none⟩) T.length T.length) (.slice (some ⟨c, 0, none⟩) Z.length Z.length)).1)
  have GO_10 := Lib.hid (GO_9.out.within ((ret3 GR_9.out (.slice (some ⟨a, 0, none⟩) F.length F.length) (.slice (some ⟨b, 0, none⟩) T.length T.length) (.slice (some ⟨c, 0, none⟩) Z.length Z.length)).2) (by have := Z1.out; have := Z2.out; have := Z3.out; have := Z4.out; have := Z5.out; have := Z6.out; have := Z7.out; have := Z8.out; have := Z9.out; have := Z10.out; have := Y1.out; have := Y2.out; have := Y3.out; omega))
  have OF_10 := Lib.hid (OF_9.out.within ((ret3 GR_9.out (.slice (some ⟨a, 0, none⟩) F.length F.length) (.slice (some ⟨b, 0, none⟩) T.length T.length) (.slice (some ⟨c, 0, none⟩) Z.length Z.length)).2) (by have := Z1.out; have := Z2.out; have := Z3.out; have := Z4.out; have := Z5.out; have := Z6.out; have := Z7.out; have := Z8.out; have := Z9.out; have := Z10.out; have := Y1.out; have := Y2.out; have := Y3.out; omega))
  have OT_10 := Lib.hid (OT_9.out.within ((ret3 GR_9.out (.slice (some ⟨a, 0, none⟩) F.length F.length) (.slice (some ⟨b, 0, none⟩) T.length T.length) (.slice (some ⟨c, 0, none⟩) Z.length Z.length)).2) (by have := Z1.out; have := Z2.out; have := Z3.out; have := Z4.out; have := Z5.out; have := Z6.out; have := Z7.out; have := Z8.out; have := Z9.out; have := Z10.out; have := Y1.out; have := Y2.out; have := Y3.out; omega))
  have OZ_10 := Lib.hid (OZ_9.out.within ((ret3 GR_9.out (.slice (some ⟨a, 0, none⟩) F.length F.length) (.slice (some ⟨b, 0, none⟩) T.length T.length) (.slice (some ⟨c, 0, none⟩) Z.length Z.length)).2) (by have := Z1.out; have := Z2.out; have := Z3.out; have := Z4.out; have := Z5.out; have := Z6.out; have := Z7.out; have := Z8.out; have := Z9.out; have := Z10.out; have := Y1.out; have := Y2.out; have := Y3.out; omega))
  obtain ⟨g9_0, g9_1, g9_2, g9_3, g9_4, g9_5⟩ := GR_10.out.cells
  go_wp2_with fail
  generalize ((((w8.setCell ⟨w.heap.size + 1 + 1, 2, none⟩ (.slice (some ⟨c, 0, none⟩) Z.length Z.length)).setCell ⟨w.heap.size + 1, 0, none⟩ (.slice (some ⟨a, 0, none⟩) F.length F.length)).setCell ⟨w.heap.size + 1, 1, none⟩ (.slice (some ⟨b, 0, none⟩) T.length T.length)).setCell ⟨w.heap.size + 1, 2, none⟩ (.slice (some ⟨c, 0, none⟩) Z.length Z.length)) = w10 at *
  generalize (w8.setCell ⟨w.heap.size + 1 + 1, 2, none⟩ (.slice (some ⟨c, 0, none⟩) Z.length Z.length)) = w9 at *
  refine bodyPost_ret (v := pebV (some ⟨a, 0, none⟩) F.length F.length (some ⟨b, 0, none⟩) T.length T.length (some ⟨c, 0, none⟩) Z.length Z.length) ?_ rfl ⟨a, b, c, rfl, ?_, W10.out⟩
  · obtain ⟨c0, c1, c2, _⟩ := GR_10.out.cells
    simp [results, Try.results21, go_sem, c0, c1, c2]
  · exact ⟨(w3.heap.size, w4.heap.size), (w5.heap.size, w6.heap.size), (w7.heap.size, w8.heap.size), OF_10.out, OT_10.out, OZ_10.out, .inl (by have := Z1.out; have := Z2.out; have := Z3.out; have := Z4.out; have := Z5.out; have := Z6.out; have := Z7.out; have := Z8.out; have := Z9.out; have := Z10.out; have := Y1.out; have := Y2.out; have := Y3.out; omega), .inl (by have := Z1.out; have := Z2.out; have := Z3.out; have := Z4.out; have := Z5.out; have := Z6.out; have := Z7.out; have := Z8.out; have := Z9.out; have := Z10.out; have := Y1.out; have := Y2.out; have := Y3.out; omega), .inl (by have := Z1.out; have := Z2.out; have := Z3.out; have := Z4.out; have := Z5.out; have := Z6.out; have := Z7.out; have := Z8.out; have := Z9.out; have := Z10.out; have := Y1.out; have := Y2.out; have := Y3.out; omega), (by have := Z1.out; have := Z2.out; have := Z3.out; have := Z4.out; have := Z5.out; have := Z6.out; have := Z7.out; have := Z8.out; have := Z9.out; have := Z10.out; have := Y1.out; have := Y2.out; have := Y3.out; omega), (by have := Z1.out; have := Z2.out; have := Z3.out; have := Z4.out; have := Z5.out; have := Z6.out; have := Z7.out; have := Z8.out; have := Z9.out; have := Z10.out; have := Y1.out; have := Y2.out; have := Y3.out; omega), (by have := Z1.out; have := Z2.out; have := Z3.out; have := Z4.out; have := Z5.out; have := Z6.out; have := Z7.out; have := Z8.out; have := Z9.out; have := Z10.out; have := Y1.out; have := Y2.out; have := Y3.out; omega), Nat.le_refl _⟩

end Go.Proofs.Ytgmcibcjplncaaa
