/- The law FnExactFreePebbles returns true at every input. No condition. -/
import Derived.Test.YtbmfdkaggbfmmaaFreeP
import Derived.Test.YtbmfdkaggbfmmaaPebC
import Derived.Deep.RegionHeld3
namespace Go.Proofs.Ytbmfdkaggbfmmaa
open Go.RowKit

set_option maxHeartbeats 2000000 in
set_option maxRecDepth 100000 in
theorem lawFreePebbles (AF : Option Addr) (cF : Nat) (F : List Int) (AT : Option Addr) (cT : Nat) (T : List Int) (AZ : Option Addr) (cZ : Nat) (Z : List Int) (w : World) (hp : F.length ≤ maxLen ∧ T.length ≤ maxLen ∧ Z.length ≤ maxLen) (hq : Peb3 w 0 w.heap.size AF AT AZ F T Z) (_hv : WfI F ∧ WfI T ∧ WfI Z) :
    Calls Try.prog 11 #[pebV AF F.length cF AT T.length cT AZ Z.length cZ] w fun e w' => e = .returned (.bool true) ∧ Below w.heap.size w w' := by
  have HQ_0 := Lib.hid hq
  clear hq
  obtain ⟨hp1, hp2, hp3⟩ := hp
  by_cases hs : (F.length : Int) + (T.length : Int) + (Z.length : Int) ≤ 1048576
  · skip
    have hF : F.length ≤ 1048576 := by omega
    have hT : T.length ≤ 1048576 := by omega
    have hZ : Z.length ≤ 1048576 := by omega
    have W0 := Lib.hid (Below.refl w.heap.size w)
    have Z1 := Lib.hid (within_alloc w (.cells #[(.slice AF F.length cF), (.slice AT T.length cT), (.slice AZ Z.length cZ)] 61)).size
    have W1 := Lib.hid (within_on W0.out (within_alloc w (.cells #[(.slice AF F.length cF), (.slice AT T.length cT), (.slice AZ Z.length cZ)] 61)) W0.out.size (.inr (Nat.le_refl _)))
    have HQ_1 := Lib.hid (HQ_0.out.within (within_alloc w (.cells #[(.slice AF F.length cF), (.slice AT T.length cT), (.slice AZ Z.length cZ)] 61)) (by omega))
    have Y1 := Lib.hid (show (w.alloc (.cells #[(.slice AF F.length cF), (.slice AT T.length cT), (.slice AZ Z.length cZ)] 61)).heap.size = w.heap.size + 1 by simp)
    have hnew := cel3_new w (.slice AF F.length cF) (.slice AT T.length cT) (.slice AZ Z.length cZ) 61
    have BP_1 := Lib.hid hnew
    clear hnew
    go_enter Try.func11, Try.ntmps11
    obtain ⟨g0_0, g0_1, g0_2, g0_3, g0_4, g0_5⟩ := BP_1.out.cells
    go_wp2_with fail
    clear g0_0 g0_1 g0_2 g0_3 g0_4 g0_5
    generalize (w.alloc (.cells #[(.slice AF F.length cF), (.slice AT T.length cT), (.slice AZ Z.length cZ)] 61)) = w1 at *
    refine (szPeb_c AF AT AZ F.length T.length Z.length cF cT cZ 1048576 _ (by unfold maxLen at hp1; omega) (by unfold maxLen at hp2; omega) (by unfold maxLen at hp3; omega) (by omega) (by omega) (by omega)).mono ?_
    rintro e w2 ⟨rfl, hb⟩
    have Z2 := Lib.hid (within_of hb).size
    have W2 := Lib.hid (within_on W1.out (within_of hb) W1.out.size (.inr (Nat.le_refl _)))
    have HQ_2 := Lib.hid (HQ_1.out.within (within_of hb) (by omega))
    have BP_2 := Lib.hid (BP_1.out.within (within_of hb) (by omega))
    clear hb
    have hmm : ¬ 1048576 - (F.length : Int) - (T.length : Int) - (Z.length : Int) < 0 := by omega
    obtain ⟨g1_0, g1_1, g1_2, g1_3, g1_4, g1_5⟩ := BP_2.out.cells
    go_wp2_with fail
    clear g1_0 g1_1 g1_2 g1_3 g1_4 g1_5
    refine (toPeb_c AF AT AZ cF cT cZ 0 w.heap.size F T Z _ HQ_2.out hF hT hZ).mono ?_
    rintro e w3 ⟨g1F, g1T, g1Z, rfl, ho, hb⟩
    have Z3 := Lib.hid (within_of hb).size
    have W3 := Lib.hid (within_on W2.out (within_of hb) W2.out.size (.inr (Nat.le_refl _)))
    have HQ_3 := Lib.hid (HQ_2.out.within (within_of hb) (by omega))
    have BP_3 := Lib.hid (BP_2.out.within (within_of hb) (by omega))
    have SP_3 := Lib.hid (ho.reads)
    clear ho hb
    go_wp2_with fail
    refine (specFreeP (some ⟨g1F, 0, none⟩) (some ⟨g1T, 0, none⟩) (some ⟨g1Z, 0, none⟩) F.length T.length Z.length _ _ F T Z _ SP_3.out hF).mono ?_
    rintro e w4 ⟨rfl, hb⟩
    have Z4 := Lib.hid (within_of hb).size
    have W4 := Lib.hid (within_on W3.out (within_of hb) W3.out.size (.inr (Nat.le_refl _)))
    have HQ_4 := Lib.hid (HQ_3.out.within (within_of hb) (by omega))
    have BP_4 := Lib.hid (BP_3.out.within (within_of hb) (by omega))
    have SP_4 := Lib.hid (SP_3.out.within (within_of hb) (by omega))
    clear hb
    obtain ⟨g2_0, g2_1, g2_2, g2_3, g2_4, g2_5⟩ := BP_4.out.cells
    go_wp2_with fail
    clear g2_0 g2_1 g2_2 g2_3 g2_4 g2_5
    refine (toPeb_c AF AT AZ cF cT cZ 0 w.heap.size F T Z _ HQ_4.out hF hT hZ).mono ?_
    rintro e w5 ⟨x1F, x1T, x1Z, rfl, ho, hb⟩
    have Z5 := Lib.hid (within_of hb).size
    have W5 := Lib.hid (within_on W4.out (within_of hb) W4.out.size (.inr (Nat.le_refl _)))
    have HQ_5 := Lib.hid (HQ_4.out.within (within_of hb) (by omega))
    have BP_5 := Lib.hid (BP_4.out.within (within_of hb) (by omega))
    have SP_5 := Lib.hid (SP_4.out.within (within_of hb) (by omega))
    have SY_5 := Lib.hid (ho)
    clear ho hb
    go_wp2_with fail
    have Z6 := Lib.hid (within_alloc w5 (.cells #[(.slice (some ⟨x1F, 0, none⟩) F.length F.length), (.slice (some ⟨x1T, 0, none⟩) T.length T.length), (.slice (some ⟨x1Z, 0, none⟩) Z.length Z.length)] 31)).size
    have W6 := Lib.hid (within_on W5.out (within_alloc w5 (.cells #[(.slice (some ⟨x1F, 0, none⟩) F.length F.length), (.slice (some ⟨x1T, 0, none⟩) T.length T.length), (.slice (some ⟨x1Z, 0, none⟩) Z.length Z.length)] 31)) W5.out.size (.inr (Nat.le_refl _)))
    have HQ_6 := Lib.hid (HQ_5.out.within (within_alloc w5 (.cells #[(.slice (some ⟨x1F, 0, none⟩) F.length F.length), (.slice (some ⟨x1T, 0, none⟩) T.length T.length), (.slice (some ⟨x1Z, 0, none⟩) Z.length Z.length)] 31)) (by omega))
    have BP_6 := Lib.hid (BP_5.out.within (within_alloc w5 (.cells #[(.slice (some ⟨x1F, 0, none⟩) F.length F.length), (.slice (some ⟨x1T, 0, none⟩) T.length T.length), (.slice (some ⟨x1Z, 0, none⟩) Z.length Z.length)] 31)) (by omega))
    have SP_6 := Lib.hid (SP_5.out.within (within_alloc w5 (.cells #[(.slice (some ⟨x1F, 0, none⟩) F.length F.length), (.slice (some ⟨x1T, 0, none⟩) T.length T.length), (.slice (some ⟨x1Z, 0, none⟩) Z.length Z.length)] 31)) (by omega))
    have SY_6 := Lib.hid (SY_5.out.within (within_alloc w5 (.cells #[(.slice (some ⟨x1F, 0, none⟩) F.length F.length), (.slice (some ⟨x1T, 0, none⟩) T.length T.length), (.slice (some ⟨x1Z, 0, none⟩) Z.length Z.length)] 31)) (by omega))
    have Y6 := Lib.hid (show (w5.alloc (.cells #[(.slice (some ⟨x1F, 0, none⟩) F.length F.length), (.slice (some ⟨x1T, 0, none⟩) T.length T.length), (.slice (some ⟨x1Z, 0, none⟩) Z.length Z.length)] 31)).heap.size = w5.heap.size + 1 by simp)
    have hnew := cel3_new w5 (.slice (some ⟨x1F, 0, none⟩) F.length F.length) (.slice (some ⟨x1T, 0, none⟩) T.length T.length) (.slice (some ⟨x1Z, 0, none⟩) Z.length Z.length) 31
    have XP_6 := Lib.hid hnew
    clear hnew
    generalize (w5.alloc (.cells #[(.slice (some ⟨x1F, 0, none⟩) F.length F.length), (.slice (some ⟨x1T, 0, none⟩) T.length T.length), (.slice (some ⟨x1Z, 0, none⟩) Z.length Z.length)] 31)) = w6 at *
    refine (implFreeP (some ⟨x1F, 0, none⟩) (some ⟨x1T, 0, none⟩) (some ⟨x1Z, 0, none⟩) F.length T.length Z.length _ _ F T Z _ SY_6.out.reads hF).mono ?_
    rintro e w7 ⟨rfl, hb⟩
    have Z7 := Lib.hid (within_of hb).size
    have W7 := Lib.hid (within_on W6.out (within_of hb) W6.out.size (.inr (Nat.le_refl _)))
    have HQ_7 := Lib.hid (HQ_6.out.within (within_of hb) (by omega))
    have BP_7 := Lib.hid (BP_6.out.within (within_of hb) (by omega))
    have SP_7 := Lib.hid (SP_6.out.within (within_of hb) (by omega))
    have SY_7 := Lib.hid (SY_6.out.within (within_of hb) (by omega))
    have XP_7 := Lib.hid (XP_6.out.within (within_of hb) (by omega))
    clear hb
    have kk1 : (fun W' => W'.cell? ⟨w.heap.size, 0, none⟩ = some (.slice AF F.length cF) ∧ W'.cell? ⟨w.heap.size, 1, none⟩ = some (.slice AT T.length cT) ∧ W'.cell? ⟨w.heap.size, 2, none⟩ = some (.slice AZ Z.length cZ) ∧ W'.cell? ⟨w5.heap.size, 0, none⟩ = some (.slice (some ⟨x1F, 0, none⟩) F.length F.length) ∧ W'.cell? ⟨w5.heap.size, 1, none⟩ = some (.slice (some ⟨x1T, 0, none⟩) T.length T.length) ∧ W'.cell? ⟨w5.heap.size, 2, none⟩ = some (.slice (some ⟨x1Z, 0, none⟩) Z.length Z.length)) w7 := ⟨BP_7.out.cells.1, BP_7.out.cells.2.1, BP_7.out.cells.2.2.1, XP_7.out.cells.1, XP_7.out.cells.2.1, XP_7.out.cells.2.2.1⟩
    have hdr : Below w7.heap.size w7 w7.drew := (Below.refl _ _).drew
    have Z8 := Lib.hid (within_of hdr).size
    have W8 := Lib.hid (within_on W7.out (within_of hdr) W7.out.size (.inr (Nat.le_refl _)))
    have HQ_8 := Lib.hid (HQ_7.out.within (within_of hdr) (by omega))
    have BP_8 := Lib.hid (BP_7.out.within (within_of hdr) (by omega))
    have SP_8 := Lib.hid (SP_7.out.within (within_of hdr) (by omega))
    have SY_8 := Lib.hid (SY_7.out.within (within_of hdr) (by omega))
    have XP_8 := Lib.hid (XP_7.out.within (within_of hdr) (by omega))
    clear hdr
    go_wp2_with fail
    go_region_held3 (fun W' => W'.cell? ⟨w.heap.size, 0, none⟩ = some (.slice AF F.length cF) ∧ W'.cell? ⟨w.heap.size, 1, none⟩ = some (.slice AT T.length cT) ∧ W'.cell? ⟨w.heap.size, 2, none⟩ = some (.slice AZ Z.length cZ) ∧ W'.cell? ⟨w5.heap.size, 0, none⟩ = some (.slice (some ⟨x1F, 0, none⟩) F.length F.length) ∧ W'.cell? ⟨w5.heap.size, 1, none⟩ = some (.slice (some ⟨x1T, 0, none⟩) T.length T.length) ∧ W'.cell? ⟨w5.heap.size, 2, none⟩ = some (.slice (some ⟨x1Z, 0, none⟩) Z.length Z.length))
      (first | exact kk1 | exact ⟨BP_9.out.cells.1, BP_9.out.cells.2.1, BP_9.out.cells.2.2.1, XP_9.out.cells.1, XP_9.out.cells.2.1, XP_9.out.cells.2.2.1⟩ | exact ⟨BP_10.out.cells.1, BP_10.out.cells.2.1, BP_10.out.cells.2.2.1, XP_10.out.cells.1, XP_10.out.cells.2.1, XP_10.out.cells.2.2.1⟩ | fail)
      (first
        | (go_at_call 46; refine (toPeb_c AF AT AZ cF cT cZ 0 w.heap.size F T Z _ HQ_8.out hF hT hZ).mono ?_; rintro e w9 ⟨y1F, y1T, y1Z, rfl, ho, hb⟩; have Z9 := Lib.hid (within_of hb).size; have W9 := Lib.hid (within_on W8.out (within_of hb) W8.out.size (.inr (Nat.le_refl _))); have HQ_9 := Lib.hid (HQ_8.out.within (within_of hb) (by omega)); have BP_9 := Lib.hid (BP_8.out.within (within_of hb) (by omega)); have SP_9 := Lib.hid (SP_8.out.within (within_of hb) (by omega)); have SY_9 := Lib.hid (SY_8.out.within (within_of hb) (by omega)); have XP_9 := Lib.hid (XP_8.out.within (within_of hb) (by omega)); have YP_9 := Lib.hid (ho.reads); clear ho hb)
        | (go_at_call 40; refine (eqPeb_c _ _ _ _ _ _ F.length T.length Z.length F.length T.length Z.length _ _ _ _ F T Z _ SY_9.out.reads YP_9.out hF hT hZ).mono ?_; rintro e w10 ⟨rfl, hb⟩; have Z10 := Lib.hid (within_of hb).size; have W10 := Lib.hid (within_on W9.out (within_of hb) W9.out.size (.inr (Nat.le_refl _))); have HQ_10 := Lib.hid (HQ_9.out.within (within_of hb) (by omega)); have BP_10 := Lib.hid (BP_9.out.within (within_of hb) (by omega)); have SP_10 := Lib.hid (SP_9.out.within (within_of hb) (by omega)); have SY_10 := Lib.hid (SY_9.out.within (within_of hb) (by omega)); have XP_10 := Lib.hid (XP_9.out.within (within_of hb) (by omega)); have YP_10 := Lib.hid (YP_9.out.within (within_of hb) (by omega)); clear hb))
    go_wp2_with fail
    go_ret
    exact ⟨rfl, W10.out⟩
  · skip
    have W0 := Lib.hid (Below.refl w.heap.size w)
    have Z1 := Lib.hid (within_alloc w (.cells #[(.slice AF F.length cF), (.slice AT T.length cT), (.slice AZ Z.length cZ)] 61)).size
    have W1 := Lib.hid (within_on W0.out (within_alloc w (.cells #[(.slice AF F.length cF), (.slice AT T.length cT), (.slice AZ Z.length cZ)] 61)) W0.out.size (.inr (Nat.le_refl _)))
    have HQ_1 := Lib.hid (HQ_0.out.within (within_alloc w (.cells #[(.slice AF F.length cF), (.slice AT T.length cT), (.slice AZ Z.length cZ)] 61)) (by omega))
    have Y1 := Lib.hid (show (w.alloc (.cells #[(.slice AF F.length cF), (.slice AT T.length cT), (.slice AZ Z.length cZ)] 61)).heap.size = w.heap.size + 1 by simp)
    have hnew := cel3_new w (.slice AF F.length cF) (.slice AT T.length cT) (.slice AZ Z.length cZ) 61
    have BP_1 := Lib.hid hnew
    clear hnew
    go_enter Try.func11, Try.ntmps11
    obtain ⟨g0_0, g0_1, g0_2, g0_3, g0_4, g0_5⟩ := BP_1.out.cells
    go_wp2_with fail
    clear g0_0 g0_1 g0_2 g0_3 g0_4 g0_5
    generalize (w.alloc (.cells #[(.slice AF F.length cF), (.slice AT T.length cT), (.slice AZ Z.length cZ)] 61)) = w1 at *
    refine (szPeb_no AF AT AZ F.length T.length Z.length cF cT cZ 1048576 _ (by unfold maxLen at hp1; omega) (by unfold maxLen at hp2; omega) (by unfold maxLen at hp3; omega) (by omega) (by omega) (by omega)).mono ?_
    rintro e w2 ⟨rfl, hb⟩
    have Z2 := Lib.hid (within_of hb).size
    have W2 := Lib.hid (within_on W1.out (within_of hb) W1.out.size (.inr (Nat.le_refl _)))
    have HQ_2 := Lib.hid (HQ_1.out.within (within_of hb) (by omega))
    have BP_2 := Lib.hid (BP_1.out.within (within_of hb) (by omega))
    clear hb
    go_wp2_with fail
    go_ret
    exact ⟨rfl, W2.out⟩
end Go.Proofs.Ytbmfdkaggbfmmaa
