/- Several texts in one, in the order in which they build on each other (part 7 of 7): what stands on the way to the law; each names its own matter. No condition. -/
import Derived.Test.YtgmcibcjplncaaaPlF
import Derived.Deep.RegionHeld3
/- The law FnExactPlaceBar returns true at every input. No condition. -/
namespace Go.Proofs.Ytgmcibcjplncaaa
open Go.RowKit

set_option maxHeartbeats 2000000 in
set_option maxRecDepth 100000 in
theorem lawPlaceBar (q : Int) (A : Option Addr) (cap : Nat) (l : List (Int × Int)) (a1 : Int) (a2 : Int) (AF : Option Addr) (cF : Nat) (F : List Int) (AT : Option Addr) (cT : Nat) (T : List Int) (AZ : Option Addr) (cZ : Nat) (Z : List Int) (a3 : Int) (w : World) (hl : l.length ≤ maxLen) (hb : BarsAt w w.heap.size A l) (_wa1 : (Lit.int .i64 a1).wf = true) (_wa2 : (Lit.int .i64 a2).wf = true) (hp : F.length ≤ maxLen ∧ T.length ≤ maxLen ∧ Z.length ≤ maxLen) (hq : Peb3 w 0 w.heap.size AF AT AZ F T Z) (hv : WfI F ∧ WfI T ∧ WfI Z) (_wa3 : (Lit.int .i64 a3).wf = true) :
    Calls Try.prog 4 #[.agg #[.int .i64 q, .slice A l.length cap], .int .i64 a1, .int .i64 a2, pebV AF F.length cF AT T.length cT AZ Z.length cZ, .int .i64 a3] w fun e w' => e = .returned (.bool true) ∧ Below w.heap.size w w' := by
  have HB_0 := Lib.hid (bars_in hb)
  clear hb
  have HQ_0 := Lib.hid hq
  clear hq
  obtain ⟨hp1, hp2, hp3⟩ := hp
  have HV := Lib.hid hv
  clear hv
  by_cases hn : l.length ≤ 1048576
  · skip
    by_cases hs : (F.length : Int) + (T.length : Int) + (Z.length : Int) ≤ 1048576 - (l.length : Int)
    · skip
      have hF : F.length ≤ 1048576 := by omega
      have hT : T.length ≤ 1048576 := by omega
      have hZ : Z.length ≤ 1048576 := by omega
      obtain ⟨RF, RT, RZ, RO, hl1, hl2, hl3, hsp, him⟩ : ∃ (RF RT RZ : List Int) (RO : Bool), RF.length ≤ 1048576 ∧ RT.length ≤ 1048576 ∧ RZ.length ≤ 1048576 ∧ (∀ (A : Option Addr) (cap : Nat) (AF AT AZ : Option Addr) (cF cT cZ lo hi : Nat) (W : World) (h1 : BarsAt W W.heap.size A l) (h2 : Peb3 W lo hi AF AT AZ F T Z), Calls Try.prog 28 #[.agg #[.int .i64 q, .slice A l.length cap], .int .i64 a1, .int .i64 a2, pebV AF F.length cF AT T.length cT AZ Z.length cZ, .int .i64 a3] W (PebOB W RF RT RZ RO)) ∧ (∀ (A : Option Addr) (cap : Nat) (AF AT AZ : Option Addr) (cF cT cZ lo hi : Nat) (W : World) (h1 : BarsAt W W.heap.size A l) (h2 : Peb3 W lo hi AF AT AZ F T Z), Calls Try.prog 29 #[.agg #[.int .i64 q, .slice A l.length cap], .int .i64 a1, .int .i64 a2, pebV AF F.length cF AT T.length cT AZ Z.length cZ, .int .i64 a3] W (PebOB W RF RT RZ RO)) := ⟨((plaV q a1 a2 l F T Z a3).getD (F, T, Z)).1, ((plaV q a1 a2 l F T Z a3).getD (F, T, Z)).2.1, ((plaV q a1 a2 l F T Z a3).getD (F, T, Z)).2.2, (plaV q a1 a2 l F T Z a3).isSome, (plaV_len q a1 a2 l F T Z a3 hF hT hZ).1, (plaV_len q a1 a2 l F T Z a3 hF hT hZ).2.1, (plaV_len q a1 a2 l F T Z a3 hF hT hZ).2.2, fun A cap AF AT AZ cF cT cZ lo hi W h1 h2 => specPlaP q a1 a2 l A cap AF AT AZ cF cT cZ lo hi F T Z a3 W h1 h2 hn hF hT hZ HV.out.1, fun A cap AF AT AZ cF cT cZ lo hi W h1 h2 => implPlaP q a1 a2 l A cap AF AT AZ cF cT cZ lo hi F T Z a3 W h1 h2 hn hF hT hZ⟩
      have HSP := Lib.hid hsp
      have HIM := Lib.hid him
      clear hsp him
      have W0 := Lib.hid (Below.refl w.heap.size w)
      have Z1 := Lib.hid (within_alloc w (.cells #[.int .i64 q, (.slice A l.length cap)] 24)).size
      have W1 := Lib.hid (within_on W0.out (within_alloc w (.cells #[.int .i64 q, (.slice A l.length cap)] 24)) W0.out.size (.inr (Nat.le_refl _)))
      have HB_1 := Lib.hid (HB_0.out.within (within_alloc w (.cells #[.int .i64 q, (.slice A l.length cap)] 24)) (by omega))
      have HQ_1 := Lib.hid (HQ_0.out.within (within_alloc w (.cells #[.int .i64 q, (.slice A l.length cap)] 24)) (by omega))
      have Y1 := Lib.hid (show (w.alloc (.cells #[.int .i64 q, (.slice A l.length cap)] 24)).heap.size = w.heap.size + 1 by simp)
      have hnew := box_new w q (.slice A l.length cap) 24
      have BX_1 := Lib.hid hnew
      clear hnew
      have Z2 := Lib.hid (within_alloc (w.alloc (.cells #[.int .i64 q, (.slice A l.length cap)] 24)) (.cells #[(.slice AF F.length cF), (.slice AT T.length cT), (.slice AZ Z.length cZ)] 27)).size
      have W2 := Lib.hid (within_on W1.out (within_alloc (w.alloc (.cells #[.int .i64 q, (.slice A l.length cap)] 24)) (.cells #[(.slice AF F.length cF), (.slice AT T.length cT), (.slice AZ Z.length cZ)] 27)) W1.out.size (.inr (Nat.le_refl _)))
      have HB_2 := Lib.hid (HB_1.out.within (within_alloc (w.alloc (.cells #[.int .i64 q, (.slice A l.length cap)] 24)) (.cells #[(.slice AF F.length cF), (.slice AT T.length cT), (.slice AZ Z.length cZ)] 27)) (by omega))
      have HQ_2 := Lib.hid (HQ_1.out.within (within_alloc (w.alloc (.cells #[.int .i64 q, (.slice A l.length cap)] 24)) (.cells #[(.slice AF F.length cF), (.slice AT T.length cT), (.slice AZ Z.length cZ)] 27)) (by omega))
      have BX_2 := Lib.hid (BX_1.out.within (within_alloc (w.alloc (.cells #[.int .i64 q, (.slice A l.length cap)] 24)) (.cells #[(.slice AF F.length cF), (.slice AT T.length cT), (.slice AZ Z.length cZ)] 27)) (by omega))
      have Y2 := Lib.hid (show ((w.alloc (.cells #[.int .i64 q, (.slice A l.length cap)] 24)).alloc (.cells #[(.slice AF F.length cF), (.slice AT T.length cT), (.slice AZ Z.length cZ)] 27)).heap.size = (w.alloc (.cells #[.int .i64 q, (.slice A l.length cap)] 24)).heap.size + 1 by simp)
      have hnew := cel3_new (w.alloc (.cells #[.int .i64 q, (.slice A l.length cap)] 24)) (.slice AF F.length cF) (.slice AT T.length cT) (.slice AZ Z.length cZ) 27
      rw [show (w.alloc (.cells #[.int .i64 q, (.slice A l.length cap)] 24)).heap.size = w.heap.size + 1 by simp] at hnew
      have BP_2 := Lib.hid hnew
      clear hnew
      go_enter Try.func4, Try.ntmps4
      obtain ⟨g0_0, g0_1, g0_2⟩ := BX_2.out
      obtain ⟨g1_0, g1_1, g1_2, g1_3, g1_4, g1_5⟩ := BP_2.out.cells
      go_wp2_with fail
      clear g0_0 g0_1 g0_2 g1_0 g1_1 g1_2 g1_3 g1_4 g1_5
      generalize ((w.alloc (.cells #[.int .i64 q, (.slice A l.length cap)] 24)).alloc (.cells #[(.slice AF F.length cF), (.slice AT T.length cT), (.slice AZ Z.length cZ)] 27)) = w2 at *
      generalize (w.alloc (.cells #[.int .i64 q, (.slice A l.length cap)] 24)) = w1 at *
      refine (szGraph_c q A l.length cap 1048576 _ (by omega) (by omega)).mono ?_
      rintro e w3 ⟨rfl, hb⟩
      have Z3 := Lib.hid (within_of hb).size
      have W3 := Lib.hid (within_on W2.out (within_of hb) W2.out.size (.inr (Nat.le_refl _)))
      have HB_3 := Lib.hid (HB_2.out.within (within_of hb) (by omega))
      have HQ_3 := Lib.hid (HQ_2.out.within (within_of hb) (by omega))
      have BX_3 := Lib.hid (BX_2.out.within (within_of hb) (by omega))
      have BP_3 := Lib.hid (BP_2.out.within (within_of hb) (by omega))
      clear hb
      have hnn : ¬ (1048576 : Int) - (l.length : Int) < 0 := by omega
      obtain ⟨g2_0, g2_1, g2_2⟩ := BX_3.out
      obtain ⟨g3_0, g3_1, g3_2, g3_3, g3_4, g3_5⟩ := BP_3.out.cells
      go_wp2_with fail
      clear g2_0 g2_1 g2_2 g3_0 g3_1 g3_2 g3_3 g3_4 g3_5
      refine (szPeb_c AF AT AZ F.length T.length Z.length cF cT cZ (1048576 - (l.length : Int)) _ (by unfold maxLen at hp1; omega) (by unfold maxLen at hp2; omega) (by unfold maxLen at hp3; omega) (by omega) (by omega) (by omega)).mono ?_
      rintro e w4 ⟨rfl, hb⟩
      have Z4 := Lib.hid (within_of hb).size
      have W4 := Lib.hid (within_on W3.out (within_of hb) W3.out.size (.inr (Nat.le_refl _)))
      have HB_4 := Lib.hid (HB_3.out.within (within_of hb) (by omega))
      have HQ_4 := Lib.hid (HQ_3.out.within (within_of hb) (by omega))
      have BX_4 := Lib.hid (BX_3.out.within (within_of hb) (by omega))
      have BP_4 := Lib.hid (BP_3.out.within (within_of hb) (by omega))
      clear hb
      have hmm : ¬ (1048576 - (l.length : Int)) - (F.length : Int) - (T.length : Int) - (Z.length : Int) < 0 := by omega
      have hdr : Below w4.heap.size w4 w4.drew := (Below.refl _ _).drew
      have HBd := Lib.hid (HB_4.out.within (within_of hdr) (.inr (Nat.zero_le _)))
      have HQd := Lib.hid (HQ_4.out.within (within_of hdr) (.inr (Nat.zero_le _)))
      have HS := Lib.hid (fun (W : World) (hb : Below w4.drew.heap.size w4.drew W) => (show (fun W' => W'.cell? ⟨w.heap.size, 0, none⟩ = some (.int .i64 q) ∧ W'.cell? ⟨w.heap.size, 1, none⟩ = some (.slice A l.length cap) ∧ W'.cell? ⟨w.heap.size + 1, 0, none⟩ = some (.slice AF F.length cF) ∧ W'.cell? ⟨w.heap.size + 1, 1, none⟩ = some (.slice AT T.length cT) ∧ W'.cell? ⟨w.heap.size + 1, 2, none⟩ = some (.slice AZ Z.length cZ)) W from ⟨((BX_4.out.kept hdr).kept hb).2.1, ((BX_4.out.kept hdr).kept hb).2.2, ((BP_4.out.kept hdr).kept hb).cells.1, ((BP_4.out.kept hdr).kept hb).cells.2.1, ((BP_4.out.kept hdr).kept hb).cells.2.2.1⟩))
      clear hdr
      go_wp2_with fail
      go_cut [12, 13] (fun b1 b2 wx => BoxR w4 RF.length RT.length RZ.length RF RT RZ RO  b1 b2 wx)
      case first =>
        go_region_held3 (fun W' => W'.cell? ⟨w.heap.size, 0, none⟩ = some (.int .i64 q) ∧ W'.cell? ⟨w.heap.size, 1, none⟩ = some (.slice A l.length cap) ∧ W'.cell? ⟨w.heap.size + 1, 0, none⟩ = some (.slice AF F.length cF) ∧ W'.cell? ⟨w.heap.size + 1, 1, none⟩ = some (.slice AT T.length cT) ∧ W'.cell? ⟨w.heap.size + 1, 2, none⟩ = some (.slice AZ Z.length cZ))
          (first | exact HS.out _ (Below.refl _ _) | exact HS.out _ (new_below _ _) | exact HS.out _ BwA.out | exact HS.out _ (below_on BwA.out (new_below _ _) BwA.out.size) | exact HS.out _ BwB.out | exact HS.out _ (below_on BwB.out (new_below _ _) BwB.out.size) | exact HS.out _ BwC.out | exact HS.out _ (below_on BwC.out (new_below _ _) BwC.out.size) | exact HS.out _ (((BwC.out.setCell (p := ⟨_, 0, none⟩) HGE.out _).setCell (p := ⟨_, 1, none⟩) HGE.out _).setCell (p := ⟨_, 2, none⟩) HGE.out _) | exact HS.out _ ((((below_on BwC.out (new_below _ _) BwC.out.size).setCell (p := ⟨_, 0, none⟩) BwC.out.size _).setCell (p := ⟨_, 1, none⟩) BwC.out.size _).setCell (p := ⟨_, 2, none⟩) BwC.out.size _))
          (first
            | (go_at_call 28; refine (HSP.out _ _ _ _ _ _ _ _ _ _ wB GwB.out.at PwB.out).mono ?_; rintro e wC ⟨ASF, cSF, AST, cST, ASZ, cSZ, rfl, ho, hb⟩; have BwC := Lib.hid (show Below w4.drew.heap.size w4.drew wC from (below_on BwB.out hb BwB.out.size)); have SwC := Lib.hid ho; have LwC := Lib.hid hb.size; (first | (have XwC := Lib.hid (XwB.out.kept hb); have HGL3 := Lib.hid (Nat.succ_le_of_lt HGL.out); have HGL := Lib.hid (Nat.lt_of_lt_of_le HGL.out hb.size); have HGL2 := HGL) | skip); (first | (obtain ⟨_, _, _, _, _, _⟩ := XwC.out.cells) | (obtain ⟨_, _, _, _, _, _⟩ := (cel3_new wC (.slice none 0 0) (.slice none 0 0) (.slice none 0 0) 30).cells)); clear ho hb)
            | (go_at_call 28; have hal := new_below wB (.cells #[.slice none 0 0, .slice none 0 0, .slice none 0 0] 30); refine (HSP.out _ _ _ _ _ _ _ _ _ _ (wB.alloc (.cells #[.slice none 0 0, .slice none 0 0, .slice none 0 0] 30)) (GwB.out.within (within_alloc wB (.cells #[.slice none 0 0, .slice none 0 0, .slice none 0 0] 30)) (.inr (Nat.zero_le _))).at (PwB.out.within (within_alloc wB (.cells #[.slice none 0 0, .slice none 0 0, .slice none 0 0] 30)) (.inr (Nat.zero_le _)))).mono ?_; rintro e wC ⟨ASF, cSF, AST, cST, ASZ, cSZ, rfl, ho, hb⟩; have BwC := Lib.hid (show Below w4.drew.heap.size w4.drew wC from (below_on (below_on BwB.out hal BwB.out.size) hb (below_on BwB.out hal BwB.out.size).size)); have SwC := Lib.hid ho; have LwC := Lib.hid hb.size; have XwC := Lib.hid (show Cel3 wC (wB.heap.size) 30 (.slice none 0 0) (.slice none 0 0) (.slice none 0 0) from (cel3_new wB (.slice none 0 0) (.slice none 0 0) (.slice none 0 0) 30).kept hb); have hge : w4.drew.heap.size ≤ wB.heap.size := BwB.out.size; have hgl : wB.heap.size < (wB.alloc (.cells #[.slice none 0 0, .slice none 0 0, .slice none 0 0] 30)).heap.size := (by simp); have HGE := Lib.hid hge; have HGL := Lib.hid (Nat.lt_of_lt_of_le hgl hb.size); have HGM := Lib.hid (show wB.heap.size + 1 ≤ (wB.alloc (.cells #[.slice none 0 0, .slice none 0 0, .slice none 0 0] 30)).heap.size from hgl); clear hge hgl; (first | (obtain ⟨_, _, _, _, _, _⟩ := XwC.out.cells) | (obtain ⟨_, _, _, _, _, _⟩ := (cel3_new wC (.slice none 0 0) (.slice none 0 0) (.slice none 0 0) 30).cells)); clear ho hb)
            | (go_at_call 21; refine (toPeb_c AF AT AZ cF cT cZ 0 w.heap.size F T Z wA QwA.out hF hT hZ).mono ?_; rintro e wB ⟨g1F, g1T, g1Z, rfl, ho, hb⟩; have BwB := Lib.hid (show Below w4.drew.heap.size w4.drew wB from (below_on BwA.out hb BwA.out.size)); have GwB := Lib.hid (GwA.out.within (within_of hb) (.inr (Nat.zero_le _))); have PwB := Lib.hid ho.reads; (first | (have XwB := Lib.hid (XwA.out.kept hb); have HGL3 := Lib.hid (Nat.succ_le_of_lt HGL.out); have HGL := Lib.hid (Nat.lt_of_lt_of_le HGL.out hb.size); have HGL2 := HGL) | skip); clear ho hb)
            | (go_at_call 21; have hal := new_below wA (.cells #[.slice none 0 0, .slice none 0 0, .slice none 0 0] 30); refine (toPeb_c AF AT AZ cF cT cZ 0 w.heap.size F T Z (wA.alloc (.cells #[.slice none 0 0, .slice none 0 0, .slice none 0 0] 30)) (QwA.out.within (within_alloc wA (.cells #[.slice none 0 0, .slice none 0 0, .slice none 0 0] 30)) (.inr (Nat.zero_le _))) hF hT hZ).mono ?_; rintro e wB ⟨g1F, g1T, g1Z, rfl, ho, hb⟩; have BwB := Lib.hid (show Below w4.drew.heap.size w4.drew wB from (below_on (below_on BwA.out hal BwA.out.size) hb (below_on BwA.out hal BwA.out.size).size)); have GwB := Lib.hid ((GwA.out.within (within_alloc wA (.cells #[.slice none 0 0, .slice none 0 0, .slice none 0 0] 30)) (.inr (Nat.zero_le _))).within (within_of hb) (.inr (Nat.zero_le _))); have PwB := Lib.hid ho.reads; have XwB := Lib.hid (show Cel3 wB (wA.heap.size) 30 (.slice none 0 0) (.slice none 0 0) (.slice none 0 0) from (cel3_new wA (.slice none 0 0) (.slice none 0 0) (.slice none 0 0) 30).kept hb); have hge : w4.drew.heap.size ≤ wA.heap.size := BwA.out.size; have hgl : wA.heap.size < (wA.alloc (.cells #[.slice none 0 0, .slice none 0 0, .slice none 0 0] 30)).heap.size := (by simp); have HGE := Lib.hid hge; have HGL := Lib.hid (Nat.lt_of_lt_of_le hgl hb.size); have HGM := Lib.hid (show wA.heap.size + 1 ≤ (wA.alloc (.cells #[.slice none 0 0, .slice none 0 0, .slice none 0 0] 30)).heap.size from hgl); clear hge hgl; clear ho hb)
            | (go_at_call 20; refine (toGraph_c q l A cap w4.drew HBd.out.at hn).mono ?_; rintro e wA ⟨g0, rfl, ho, hb⟩; have BwA := Lib.hid (show Below w4.drew.heap.size w4.drew wA from hb); have QwA := Lib.hid (HQd.out.within (within_of hb) (.inr (Nat.zero_le _))); have GwA := Lib.hid (own_in ho).bars; clear ho hb)
            | (go_at_call 20; have hal := new_below w4.drew (.cells #[.slice none 0 0, .slice none 0 0, .slice none 0 0] 30); refine (toGraph_c q l A cap (w4.drew.alloc (.cells #[.slice none 0 0, .slice none 0 0, .slice none 0 0] 30)) (HBd.out.within (within_alloc w4.drew (.cells #[.slice none 0 0, .slice none 0 0, .slice none 0 0] 30)) (.inr (Nat.zero_le _))).at hn).mono ?_; rintro e wA ⟨g0, rfl, ho, hb⟩; have BwA := Lib.hid (show Below w4.drew.heap.size w4.drew wA from (below_on (below_on (Below.refl w4.drew.heap.size w4.drew) hal (Below.refl w4.drew.heap.size w4.drew).size) hb (below_on (Below.refl w4.drew.heap.size w4.drew) hal (Below.refl w4.drew.heap.size w4.drew).size).size)); have QwA := Lib.hid ((HQd.out.within (within_alloc w4.drew (.cells #[.slice none 0 0, .slice none 0 0, .slice none 0 0] 30)) (.inr (Nat.zero_le _))).within (within_of hb) (.inr (Nat.zero_le _))); have GwA := Lib.hid (own_in ho).bars; have XwA := Lib.hid (show Cel3 wA (w4.heap.size) 30 (.slice none 0 0) (.slice none 0 0) (.slice none 0 0) from (cel3_new w4.drew (.slice none 0 0) (.slice none 0 0) (.slice none 0 0) 30).kept hb); have hge : w4.drew.heap.size ≤ w4.heap.size := (Below.refl w4.drew.heap.size w4.drew).size; have hgl : w4.heap.size < (w4.drew.alloc (.cells #[.slice none 0 0, .slice none 0 0, .slice none 0 0] 30)).heap.size := (by simp); have HGE := Lib.hid hge; have HGL := Lib.hid (Nat.lt_of_lt_of_le hgl hb.size); have HGM := Lib.hid (show w4.heap.size + 1 ≤ (w4.drew.alloc (.cells #[.slice none 0 0, .slice none 0 0, .slice none 0 0] 30)).heap.size from hgl); clear hge hgl; clear ho hb))
        all_goals (
          go_wp2_with fail
          go_meet
          case rel =>
            first
              | exact boxR_in ((Below.refl _ _).drew) BwC.out XwC.out HGE.out SwC.out HGL3.out HGL2.out
              | exact boxR_in ((Below.refl _ _).drew) BwC.out XwC.out HGE.out SwC.out HGM.out HGL.out
              | exact boxR_new ((Below.refl _ _).drew) BwC.out SwC.out)
      case rest =>
        obtain ⟨gb1, ASF, cSF, AST, cST, ASZ, cSZ, lo1, hi1, rfl, rfl, hb, hg1, hg2, hcb, ho⟩ := hcut
        obtain ⟨w5, hwn⟩ : ∃ x, x = wc := ⟨_, rfl⟩
        subst hwn
        have Z5 := Lib.hid (within_of hb).size
        have W5 := Lib.hid (within_on W4.out (within_of hb) W4.out.size (.inr (Nat.le_refl _)))
        have HB_5 := Lib.hid (HB_4.out.within (within_of hb) (by omega))
        have HQ_5 := Lib.hid (HQ_4.out.within (within_of hb) (by omega))
        have BX_5 := Lib.hid (BX_4.out.within (within_of hb) (by omega))
        have BP_5 := Lib.hid (BP_4.out.within (within_of hb) (by omega))
        have BW_5 := Lib.hid hcb
        have SR_5 := Lib.hid ho
        have Y5 := Lib.hid (And.intro hg1 hg2)
        clear hb hg1 hg2 hcb ho HBd HQd HS
        obtain ⟨g4_0, g4_1, g4_2⟩ := BX_5.out
        obtain ⟨g5_0, g5_1, g5_2, g5_3, g5_4, g5_5⟩ := BP_5.out.cells
        go_wp2_with fail
        clear g4_0 g4_1 g4_2 g5_0 g5_1 g5_2 g5_3 g5_4 g5_5
        refine (toGraph_c q l A cap _ HB_5.out.at hn).mono ?_
        rintro e w6 ⟨x0, rfl, ho, hb⟩
        have Z6 := Lib.hid (within_of hb).size
        have W6 := Lib.hid (within_on W5.out (within_of hb) W5.out.size (.inr (Nat.le_refl _)))
        have HB_6 := Lib.hid (HB_5.out.within (within_of hb) (by omega))
        have HQ_6 := Lib.hid (HQ_5.out.within (within_of hb) (by omega))
        have BX_6 := Lib.hid (BX_5.out.within (within_of hb) (by omega))
        have BP_6 := Lib.hid (BP_5.out.within (within_of hb) (by omega))
        have BW_6 := Lib.hid (BW_5.out.within (within_of hb) (by omega))
        have SR_6 := Lib.hid (SR_5.out.within (within_of hb) (by omega))
        have SX_6 := Lib.hid (own_in ho)
        clear ho hb
        have Z7 := Lib.hid (within_alloc w6 (.cells #[.int .i64 q, (.slice (some ⟨x0, 0, none⟩) l.length l.length)] 35)).size
        have W7 := Lib.hid (within_on W6.out (within_alloc w6 (.cells #[.int .i64 q, (.slice (some ⟨x0, 0, none⟩) l.length l.length)] 35)) W6.out.size (.inr (Nat.le_refl _)))
        have HB_7 := Lib.hid (HB_6.out.within (within_alloc w6 (.cells #[.int .i64 q, (.slice (some ⟨x0, 0, none⟩) l.length l.length)] 35)) (by omega))
        have HQ_7 := Lib.hid (HQ_6.out.within (within_alloc w6 (.cells #[.int .i64 q, (.slice (some ⟨x0, 0, none⟩) l.length l.length)] 35)) (by omega))
        have BX_7 := Lib.hid (BX_6.out.within (within_alloc w6 (.cells #[.int .i64 q, (.slice (some ⟨x0, 0, none⟩) l.length l.length)] 35)) (by omega))
        have BP_7 := Lib.hid (BP_6.out.within (within_alloc w6 (.cells #[.int .i64 q, (.slice (some ⟨x0, 0, none⟩) l.length l.length)] 35)) (by omega))
        have BW_7 := Lib.hid (BW_6.out.within (within_alloc w6 (.cells #[.int .i64 q, (.slice (some ⟨x0, 0, none⟩) l.length l.length)] 35)) (by omega))
        have SR_7 := Lib.hid (SR_6.out.within (within_alloc w6 (.cells #[.int .i64 q, (.slice (some ⟨x0, 0, none⟩) l.length l.length)] 35)) (by omega))
        have SX_7 := Lib.hid (SX_6.out.within (within_alloc w6 (.cells #[.int .i64 q, (.slice (some ⟨x0, 0, none⟩) l.length l.length)] 35)) (by omega))
        have Y7 := Lib.hid (show (w6.alloc (.cells #[.int .i64 q, (.slice (some ⟨x0, 0, none⟩) l.length l.length)] 35)).heap.size = w6.heap.size + 1 by simp)
        have hnew := box_new w6 q (.slice (some ⟨x0, 0, none⟩) l.length l.length) 35
        have XX_7 := Lib.hid hnew
        clear hnew
        obtain ⟨g6_0, g6_1, g6_2⟩ := XX_7.out
        obtain ⟨g7_0, g7_1, g7_2, g7_3, g7_4, g7_5⟩ := BP_7.out.cells
        go_wp2_with fail
        clear g6_0 g6_1 g6_2 g7_0 g7_1 g7_2 g7_3 g7_4 g7_5
        generalize (w6.alloc (.cells #[.int .i64 q, (.slice (some ⟨x0, 0, none⟩) l.length l.length)] 35)) = w7 at *
        refine (toPeb_c AF AT AZ cF cT cZ 0 w.heap.size F T Z _ HQ_7.out hF hT hZ).mono ?_
        rintro e w8 ⟨x1F, x1T, x1Z, rfl, ho, hb⟩
        have Z8 := Lib.hid (within_of hb).size
        have W8 := Lib.hid (within_on W7.out (within_of hb) W7.out.size (.inr (Nat.le_refl _)))
        have HB_8 := Lib.hid (HB_7.out.within (within_of hb) (by omega))
        have HQ_8 := Lib.hid (HQ_7.out.within (within_of hb) (by omega))
        have BX_8 := Lib.hid (BX_7.out.within (within_of hb) (by omega))
        have BP_8 := Lib.hid (BP_7.out.within (within_of hb) (by omega))
        have BW_8 := Lib.hid (BW_7.out.within (within_of hb) (by omega))
        have SR_8 := Lib.hid (SR_7.out.within (within_of hb) (by omega))
        have SX_8 := Lib.hid (SX_7.out.within (within_of hb) (by omega))
        have XX_8 := Lib.hid (XX_7.out.within (within_of hb) (by omega))
        have SY_8 := Lib.hid (ho)
        clear ho hb
        have Z9 := Lib.hid (within_alloc w8 (.cells #[(.slice (some ⟨x1F, 0, none⟩) F.length F.length), (.slice (some ⟨x1T, 0, none⟩) T.length T.length), (.slice (some ⟨x1Z, 0, none⟩) Z.length Z.length)] 30)).size
        have W9 := Lib.hid (within_on W8.out (within_alloc w8 (.cells #[(.slice (some ⟨x1F, 0, none⟩) F.length F.length), (.slice (some ⟨x1T, 0, none⟩) T.length T.length), (.slice (some ⟨x1Z, 0, none⟩) Z.length Z.length)] 30)) W8.out.size (.inr (Nat.le_refl _)))
        have HB_9 := Lib.hid (HB_8.out.within (within_alloc w8 (.cells #[(.slice (some ⟨x1F, 0, none⟩) F.length F.length), (.slice (some ⟨x1T, 0, none⟩) T.length T.length), (.slice (some ⟨x1Z, 0, none⟩) Z.length Z.length)] 30)) (by omega))
        have HQ_9 := Lib.hid (HQ_8.out.within (within_alloc w8 (.cells #[(.slice (some ⟨x1F, 0, none⟩) F.length F.length), (.slice (some ⟨x1T, 0, none⟩) T.length T.length), (.slice (some ⟨x1Z, 0, none⟩) Z.length Z.length)] 30)) (by omega))
        have BX_9 := Lib.hid (BX_8.out.within (within_alloc w8 (.cells #[(.slice (some ⟨x1F, 0, none⟩) F.length F.length), (.slice (some ⟨x1T, 0, none⟩) T.length T.length), (.slice (some ⟨x1Z, 0, none⟩) Z.length Z.length)] 30)) (by omega))
        have BP_9 := Lib.hid (BP_8.out.within (within_alloc w8 (.cells #[(.slice (some ⟨x1F, 0, none⟩) F.length F.length), (.slice (some ⟨x1T, 0, none⟩) T.length T.length), (.slice (some ⟨x1Z, 0, none⟩) Z.length Z.length)] 30)) (by omega))
        have BW_9 := Lib.hid (BW_8.out.within (within_alloc w8 (.cells #[(.slice (some ⟨x1F, 0, none⟩) F.length F.length), (.slice (some ⟨x1T, 0, none⟩) T.length T.length), (.slice (some ⟨x1Z, 0, none⟩) Z.length Z.length)] 30)) (by omega))
        have SR_9 := Lib.hid (SR_8.out.within (within_alloc w8 (.cells #[(.slice (some ⟨x1F, 0, none⟩) F.length F.length), (.slice (some ⟨x1T, 0, none⟩) T.length T.length), (.slice (some ⟨x1Z, 0, none⟩) Z.length Z.length)] 30)) (by omega))
        have SX_9 := Lib.hid (SX_8.out.within (within_alloc w8 (.cells #[(.slice (some ⟨x1F, 0, none⟩) F.length F.length), (.slice (some ⟨x1T, 0, none⟩) T.length T.length), (.slice (some ⟨x1Z, 0, none⟩) Z.length Z.length)] 30)) (by omega))
        have XX_9 := Lib.hid (XX_8.out.within (within_alloc w8 (.cells #[(.slice (some ⟨x1F, 0, none⟩) F.length F.length), (.slice (some ⟨x1T, 0, none⟩) T.length T.length), (.slice (some ⟨x1Z, 0, none⟩) Z.length Z.length)] 30)) (by omega))
        have SY_9 := Lib.hid (SY_8.out.within (within_alloc w8 (.cells #[(.slice (some ⟨x1F, 0, none⟩) F.length F.length), (.slice (some ⟨x1T, 0, none⟩) T.length T.length), (.slice (some ⟨x1Z, 0, none⟩) Z.length Z.length)] 30)) (by omega))
        have Y9 := Lib.hid (show (w8.alloc (.cells #[(.slice (some ⟨x1F, 0, none⟩) F.length F.length), (.slice (some ⟨x1T, 0, none⟩) T.length T.length), (.slice (some ⟨x1Z, 0, none⟩) Z.length Z.length)] 30)).heap.size = w8.heap.size + 1 by simp)
        have hnew := cel3_new w8 (.slice (some ⟨x1F, 0, none⟩) F.length F.length) (.slice (some ⟨x1T, 0, none⟩) T.length T.length) (.slice (some ⟨x1Z, 0, none⟩) Z.length Z.length) 30
        have XP_9 := Lib.hid hnew
        clear hnew
        obtain ⟨g8_0, g8_1, g8_2, g8_3, g8_4, g8_5⟩ := XP_9.out.cells
        obtain ⟨g9_0, g9_1, g9_2⟩ := XX_9.out
        go_wp2_with fail
        clear g8_0 g8_1 g8_2 g8_3 g8_4 g8_5 g9_0 g9_1 g9_2
        generalize (w8.alloc (.cells #[(.slice (some ⟨x1F, 0, none⟩) F.length F.length), (.slice (some ⟨x1T, 0, none⟩) T.length T.length), (.slice (some ⟨x1Z, 0, none⟩) Z.length Z.length)] 30)) = w9 at *
        refine (HIM.out _ _ _ _ _ _ _ _ _ _ _ SX_9.out.bars.at SY_9.out.reads).mono ?_
        rintro e w10 ⟨AGF, cGF, AGT, cGT, AGZ, cGZ, rfl, ho, hb⟩
        have Z10 := Lib.hid (within_of hb).size
        have W10 := Lib.hid (within_on W9.out (within_of hb) W9.out.size (.inr (Nat.le_refl _)))
        have HB_10 := Lib.hid (HB_9.out.within (within_of hb) (by omega))
        have HQ_10 := Lib.hid (HQ_9.out.within (within_of hb) (by omega))
        have BX_10 := Lib.hid (BX_9.out.within (within_of hb) (by omega))
        have BP_10 := Lib.hid (BP_9.out.within (within_of hb) (by omega))
        have BW_10 := Lib.hid (BW_9.out.within (within_of hb) (by omega))
        have SR_10 := Lib.hid (SR_9.out.within (within_of hb) (by omega))
        have SX_10 := Lib.hid (SX_9.out.within (within_of hb) (by omega))
        have XX_10 := Lib.hid (XX_9.out.within (within_of hb) (by omega))
        have SY_10 := Lib.hid (SY_9.out.within (within_of hb) (by omega))
        have XP_10 := Lib.hid (XP_9.out.within (within_of hb) (by omega))
        have SO_10 := Lib.hid (ho)
        clear ho hb
        have Z11 := Lib.hid (within_alloc w10 (.cells #[(.slice AGF RF.length cGF), (.slice AGT RT.length cGT), (.slice AGZ RZ.length cGZ)] 30)).size
        have W11 := Lib.hid (within_on W10.out (within_alloc w10 (.cells #[(.slice AGF RF.length cGF), (.slice AGT RT.length cGT), (.slice AGZ RZ.length cGZ)] 30)) W10.out.size (.inr (Nat.le_refl _)))
        have HB_11 := Lib.hid (HB_10.out.within (within_alloc w10 (.cells #[(.slice AGF RF.length cGF), (.slice AGT RT.length cGT), (.slice AGZ RZ.length cGZ)] 30)) (by omega))
        have HQ_11 := Lib.hid (HQ_10.out.within (within_alloc w10 (.cells #[(.slice AGF RF.length cGF), (.slice AGT RT.length cGT), (.slice AGZ RZ.length cGZ)] 30)) (by omega))
        have BX_11 := Lib.hid (BX_10.out.within (within_alloc w10 (.cells #[(.slice AGF RF.length cGF), (.slice AGT RT.length cGT), (.slice AGZ RZ.length cGZ)] 30)) (by omega))
        have BP_11 := Lib.hid (BP_10.out.within (within_alloc w10 (.cells #[(.slice AGF RF.length cGF), (.slice AGT RT.length cGT), (.slice AGZ RZ.length cGZ)] 30)) (by omega))
        have BW_11 := Lib.hid (BW_10.out.within (within_alloc w10 (.cells #[(.slice AGF RF.length cGF), (.slice AGT RT.length cGT), (.slice AGZ RZ.length cGZ)] 30)) (by omega))
        have SR_11 := Lib.hid (SR_10.out.within (within_alloc w10 (.cells #[(.slice AGF RF.length cGF), (.slice AGT RT.length cGT), (.slice AGZ RZ.length cGZ)] 30)) (by omega))
        have SX_11 := Lib.hid (SX_10.out.within (within_alloc w10 (.cells #[(.slice AGF RF.length cGF), (.slice AGT RT.length cGT), (.slice AGZ RZ.length cGZ)] 30)) (by omega))
        have XX_11 := Lib.hid (XX_10.out.within (within_alloc w10 (.cells #[(.slice AGF RF.length cGF), (.slice AGT RT.length cGT), (.slice AGZ RZ.length cGZ)] 30)) (by omega))
        have SY_11 := Lib.hid (SY_10.out.within (within_alloc w10 (.cells #[(.slice AGF RF.length cGF), (.slice AGT RT.length cGT), (.slice AGZ RZ.length cGZ)] 30)) (by omega))
        have XP_11 := Lib.hid (XP_10.out.within (within_alloc w10 (.cells #[(.slice AGF RF.length cGF), (.slice AGT RT.length cGT), (.slice AGZ RZ.length cGZ)] 30)) (by omega))
        have SO_11 := Lib.hid (SO_10.out.within (within_alloc w10 (.cells #[(.slice AGF RF.length cGF), (.slice AGT RT.length cGT), (.slice AGZ RZ.length cGZ)] 30)) (by omega))
        have Y11 := Lib.hid (show (w10.alloc (.cells #[(.slice AGF RF.length cGF), (.slice AGT RT.length cGT), (.slice AGZ RZ.length cGZ)] 30)).heap.size = w10.heap.size + 1 by simp)
        have hnew := cel3_new w10 (.slice AGF RF.length cGF) (.slice AGT RT.length cGT) (.slice AGZ RZ.length cGZ) 30
        have BG_11 := Lib.hid hnew
        clear hnew
        obtain ⟨g10_0, g10_1, g10_2, g10_3, g10_4, g10_5⟩ := BG_11.out.cells
        obtain ⟨g11_0, g11_1, g11_2, g11_3, g11_4, g11_5⟩ := BW_11.out.cells
        go_wp2_with fail
        clear g10_0 g10_1 g10_2 g10_3 g10_4 g10_5 g11_0 g11_1 g11_2 g11_3 g11_4 g11_5
        generalize (w10.alloc (.cells #[(.slice AGF RF.length cGF), (.slice AGT RT.length cGT), (.slice AGZ RZ.length cGZ)] 30)) = w11 at *
        refine (eqPeb_c AGF AGT AGZ ASF AST ASZ cGF cGT cGZ cSF cST cSZ _ _ _ _ RF RT RZ _ SO_11.out.reads SR_11.out.reads hl1 hl2 hl3).mono ?_
        rintro e w12 ⟨rfl, hb⟩
        have Z12 := Lib.hid (within_of hb).size
        have W12 := Lib.hid (within_on W11.out (within_of hb) W11.out.size (.inr (Nat.le_refl _)))
        have HB_12 := Lib.hid (HB_11.out.within (within_of hb) (by omega))
        have HQ_12 := Lib.hid (HQ_11.out.within (within_of hb) (by omega))
        have BX_12 := Lib.hid (BX_11.out.within (within_of hb) (by omega))
        have BP_12 := Lib.hid (BP_11.out.within (within_of hb) (by omega))
        have BW_12 := Lib.hid (BW_11.out.within (within_of hb) (by omega))
        have SR_12 := Lib.hid (SR_11.out.within (within_of hb) (by omega))
        have SX_12 := Lib.hid (SX_11.out.within (within_of hb) (by omega))
        have XX_12 := Lib.hid (XX_11.out.within (within_of hb) (by omega))
        have SY_12 := Lib.hid (SY_11.out.within (within_of hb) (by omega))
        have XP_12 := Lib.hid (XP_11.out.within (within_of hb) (by omega))
        have SO_12 := Lib.hid (SO_11.out.within (within_of hb) (by omega))
        have BG_12 := Lib.hid (BG_11.out.within (within_of hb) (by omega))
        clear hb
        have kk2 : (fun W' => W'.cell? ⟨w.heap.size, 0, none⟩ = some (.int .i64 q) ∧ W'.cell? ⟨w.heap.size, 1, none⟩ = some (.slice A l.length cap) ∧ W'.cell? ⟨w6.heap.size, 0, none⟩ = some (.int .i64 q) ∧ W'.cell? ⟨w6.heap.size, 1, none⟩ = some (.slice (some ⟨x0, 0, none⟩) l.length l.length)) w12 := ⟨BX_12.out.2.1, BX_12.out.2.2, XX_12.out.2.1, XX_12.out.2.2⟩
        have hdr : Below w12.heap.size w12 w12.drew := (Below.refl _ _).drew
        have Z13 := Lib.hid (within_of hdr).size
        have W13 := Lib.hid (within_on W12.out (within_of hdr) W12.out.size (.inr (Nat.le_refl _)))
        have HB_13 := Lib.hid (HB_12.out.within (within_of hdr) (by omega))
        have HQ_13 := Lib.hid (HQ_12.out.within (within_of hdr) (by omega))
        have BX_13 := Lib.hid (BX_12.out.within (within_of hdr) (by omega))
        have BP_13 := Lib.hid (BP_12.out.within (within_of hdr) (by omega))
        have BW_13 := Lib.hid (BW_12.out.within (within_of hdr) (by omega))
        have SR_13 := Lib.hid (SR_12.out.within (within_of hdr) (by omega))
        have SX_13 := Lib.hid (SX_12.out.within (within_of hdr) (by omega))
        have XX_13 := Lib.hid (XX_12.out.within (within_of hdr) (by omega))
        have SY_13 := Lib.hid (SY_12.out.within (within_of hdr) (by omega))
        have XP_13 := Lib.hid (XP_12.out.within (within_of hdr) (by omega))
        have SO_13 := Lib.hid (SO_12.out.within (within_of hdr) (by omega))
        have BG_13 := Lib.hid (BG_12.out.within (within_of hdr) (by omega))
        clear hdr
        go_wp2_with fail
        go_region_held3 (fun W' => W'.cell? ⟨w.heap.size, 0, none⟩ = some (.int .i64 q) ∧ W'.cell? ⟨w.heap.size, 1, none⟩ = some (.slice A l.length cap) ∧ W'.cell? ⟨w6.heap.size, 0, none⟩ = some (.int .i64 q) ∧ W'.cell? ⟨w6.heap.size, 1, none⟩ = some (.slice (some ⟨x0, 0, none⟩) l.length l.length))
          (first | exact kk2 | exact ⟨BX_14.out.2.1, BX_14.out.2.2, XX_14.out.2.1, XX_14.out.2.2⟩ | exact ⟨BX_15.out.2.1, BX_15.out.2.2, XX_15.out.2.1, XX_15.out.2.2⟩ | fail)
          (first
            | (go_at_call 20; refine (toGraph_c q l A cap _ HB_13.out.at hn).mono ?_; rintro e w14 ⟨y0, rfl, ho, hb⟩; have Z14 := Lib.hid (within_of hb).size; have W14 := Lib.hid (within_on W13.out (within_of hb) W13.out.size (.inr (Nat.le_refl _))); have HB_14 := Lib.hid (HB_13.out.within (within_of hb) (by omega)); have HQ_14 := Lib.hid (HQ_13.out.within (within_of hb) (by omega)); have BX_14 := Lib.hid (BX_13.out.within (within_of hb) (by omega)); have BP_14 := Lib.hid (BP_13.out.within (within_of hb) (by omega)); have BW_14 := Lib.hid (BW_13.out.within (within_of hb) (by omega)); have SR_14 := Lib.hid (SR_13.out.within (within_of hb) (by omega)); have SX_14 := Lib.hid (SX_13.out.within (within_of hb) (by omega)); have XX_14 := Lib.hid (XX_13.out.within (within_of hb) (by omega)); have SY_14 := Lib.hid (SY_13.out.within (within_of hb) (by omega)); have XP_14 := Lib.hid (XP_13.out.within (within_of hb) (by omega)); have SO_14 := Lib.hid (SO_13.out.within (within_of hb) (by omega)); have BG_14 := Lib.hid (BG_13.out.within (within_of hb) (by omega)); have YG_14 := Lib.hid ((own_in ho).bars); clear ho hb)
            | (go_at_call 24; refine (eqGraph_c q l _ _ l.length l.length _ SX_14.out.bars.at YG_14.out.at hn).mono ?_; rintro e w15 ⟨rfl, hb⟩; have Z15 := Lib.hid (within_of hb).size; have W15 := Lib.hid (within_on W14.out (within_of hb) W14.out.size (.inr (Nat.le_refl _))); have HB_15 := Lib.hid (HB_14.out.within (within_of hb) (by omega)); have HQ_15 := Lib.hid (HQ_14.out.within (within_of hb) (by omega)); have BX_15 := Lib.hid (BX_14.out.within (within_of hb) (by omega)); have BP_15 := Lib.hid (BP_14.out.within (within_of hb) (by omega)); have BW_15 := Lib.hid (BW_14.out.within (within_of hb) (by omega)); have SR_15 := Lib.hid (SR_14.out.within (within_of hb) (by omega)); have SX_15 := Lib.hid (SX_14.out.within (within_of hb) (by omega)); have XX_15 := Lib.hid (XX_14.out.within (within_of hb) (by omega)); have SY_15 := Lib.hid (SY_14.out.within (within_of hb) (by omega)); have XP_15 := Lib.hid (XP_14.out.within (within_of hb) (by omega)); have SO_15 := Lib.hid (SO_14.out.within (within_of hb) (by omega)); have BG_15 := Lib.hid (BG_14.out.within (within_of hb) (by omega)); have YG_15 := Lib.hid (YG_14.out.within (within_of hb) (by omega)); clear hb))
        have kk3 : (fun W' => W'.cell? ⟨w.heap.size + 1, 0, none⟩ = some (.slice AF F.length cF) ∧ W'.cell? ⟨w.heap.size + 1, 1, none⟩ = some (.slice AT T.length cT) ∧ W'.cell? ⟨w.heap.size + 1, 2, none⟩ = some (.slice AZ Z.length cZ) ∧ W'.cell? ⟨w8.heap.size, 0, none⟩ = some (.slice (some ⟨x1F, 0, none⟩) F.length F.length) ∧ W'.cell? ⟨w8.heap.size, 1, none⟩ = some (.slice (some ⟨x1T, 0, none⟩) T.length T.length) ∧ W'.cell? ⟨w8.heap.size, 2, none⟩ = some (.slice (some ⟨x1Z, 0, none⟩) Z.length Z.length)) w15 := ⟨BP_15.out.cells.1, BP_15.out.cells.2.1, BP_15.out.cells.2.2.1, XP_15.out.cells.1, XP_15.out.cells.2.1, XP_15.out.cells.2.2.1⟩
        have hdr : Below w15.heap.size w15 w15.drew := (Below.refl _ _).drew
        have Z16 := Lib.hid (within_of hdr).size
        have W16 := Lib.hid (within_on W15.out (within_of hdr) W15.out.size (.inr (Nat.le_refl _)))
        have HB_16 := Lib.hid (HB_15.out.within (within_of hdr) (by omega))
        have HQ_16 := Lib.hid (HQ_15.out.within (within_of hdr) (by omega))
        have BX_16 := Lib.hid (BX_15.out.within (within_of hdr) (by omega))
        have BP_16 := Lib.hid (BP_15.out.within (within_of hdr) (by omega))
        have BW_16 := Lib.hid (BW_15.out.within (within_of hdr) (by omega))
        have SR_16 := Lib.hid (SR_15.out.within (within_of hdr) (by omega))
        have SX_16 := Lib.hid (SX_15.out.within (within_of hdr) (by omega))
        have XX_16 := Lib.hid (XX_15.out.within (within_of hdr) (by omega))
        have SY_16 := Lib.hid (SY_15.out.within (within_of hdr) (by omega))
        have XP_16 := Lib.hid (XP_15.out.within (within_of hdr) (by omega))
        have SO_16 := Lib.hid (SO_15.out.within (within_of hdr) (by omega))
        have BG_16 := Lib.hid (BG_15.out.within (within_of hdr) (by omega))
        have YG_16 := Lib.hid (YG_15.out.within (within_of hdr) (by omega))
        clear hdr
        go_wp2_with fail
        go_region_held3 (fun W' => W'.cell? ⟨w.heap.size + 1, 0, none⟩ = some (.slice AF F.length cF) ∧ W'.cell? ⟨w.heap.size + 1, 1, none⟩ = some (.slice AT T.length cT) ∧ W'.cell? ⟨w.heap.size + 1, 2, none⟩ = some (.slice AZ Z.length cZ) ∧ W'.cell? ⟨w8.heap.size, 0, none⟩ = some (.slice (some ⟨x1F, 0, none⟩) F.length F.length) ∧ W'.cell? ⟨w8.heap.size, 1, none⟩ = some (.slice (some ⟨x1T, 0, none⟩) T.length T.length) ∧ W'.cell? ⟨w8.heap.size, 2, none⟩ = some (.slice (some ⟨x1Z, 0, none⟩) Z.length Z.length))
          (first | exact kk3 | exact ⟨BP_17.out.cells.1, BP_17.out.cells.2.1, BP_17.out.cells.2.2.1, XP_17.out.cells.1, XP_17.out.cells.2.1, XP_17.out.cells.2.2.1⟩ | exact ⟨BP_18.out.cells.1, BP_18.out.cells.2.1, BP_18.out.cells.2.2.1, XP_18.out.cells.1, XP_18.out.cells.2.1, XP_18.out.cells.2.2.1⟩ | fail)
          (first
            | (go_at_call 21; refine (toPeb_c AF AT AZ cF cT cZ 0 w.heap.size F T Z _ HQ_16.out hF hT hZ).mono ?_; rintro e w17 ⟨y1F, y1T, y1Z, rfl, ho, hb⟩; have Z17 := Lib.hid (within_of hb).size; have W17 := Lib.hid (within_on W16.out (within_of hb) W16.out.size (.inr (Nat.le_refl _))); have HB_17 := Lib.hid (HB_16.out.within (within_of hb) (by omega)); have HQ_17 := Lib.hid (HQ_16.out.within (within_of hb) (by omega)); have BX_17 := Lib.hid (BX_16.out.within (within_of hb) (by omega)); have BP_17 := Lib.hid (BP_16.out.within (within_of hb) (by omega)); have BW_17 := Lib.hid (BW_16.out.within (within_of hb) (by omega)); have SR_17 := Lib.hid (SR_16.out.within (within_of hb) (by omega)); have SX_17 := Lib.hid (SX_16.out.within (within_of hb) (by omega)); have XX_17 := Lib.hid (XX_16.out.within (within_of hb) (by omega)); have SY_17 := Lib.hid (SY_16.out.within (within_of hb) (by omega)); have XP_17 := Lib.hid (XP_16.out.within (within_of hb) (by omega)); have SO_17 := Lib.hid (SO_16.out.within (within_of hb) (by omega)); have BG_17 := Lib.hid (BG_16.out.within (within_of hb) (by omega)); have YG_17 := Lib.hid (YG_16.out.within (within_of hb) (by omega)); have YP_17 := Lib.hid (ho.reads); clear ho hb)
            | (go_at_call 23; refine (eqPeb_c _ _ _ _ _ _ F.length T.length Z.length F.length T.length Z.length _ _ _ _ F T Z _ SY_17.out.reads YP_17.out hF hT hZ).mono ?_; rintro e w18 ⟨rfl, hb⟩; have Z18 := Lib.hid (within_of hb).size; have W18 := Lib.hid (within_on W17.out (within_of hb) W17.out.size (.inr (Nat.le_refl _))); have HB_18 := Lib.hid (HB_17.out.within (within_of hb) (by omega)); have HQ_18 := Lib.hid (HQ_17.out.within (within_of hb) (by omega)); have BX_18 := Lib.hid (BX_17.out.within (within_of hb) (by omega)); have BP_18 := Lib.hid (BP_17.out.within (within_of hb) (by omega)); have BW_18 := Lib.hid (BW_17.out.within (within_of hb) (by omega)); have SR_18 := Lib.hid (SR_17.out.within (within_of hb) (by omega)); have SX_18 := Lib.hid (SX_17.out.within (within_of hb) (by omega)); have XX_18 := Lib.hid (XX_17.out.within (within_of hb) (by omega)); have SY_18 := Lib.hid (SY_17.out.within (within_of hb) (by omega)); have XP_18 := Lib.hid (XP_17.out.within (within_of hb) (by omega)); have SO_18 := Lib.hid (SO_17.out.within (within_of hb) (by omega)); have BG_18 := Lib.hid (BG_17.out.within (within_of hb) (by omega)); have YG_18 := Lib.hid (YG_17.out.within (within_of hb) (by omega)); have YP_18 := Lib.hid (YP_17.out.within (within_of hb) (by omega)); clear hb))
        obtain ⟨g12_0, g12_1, g12_2⟩ := XX_18.out
        go_wp2_with fail
        clear g12_0 g12_1 g12_2
        refine (markGraph_o q (some ⟨x0, 0, none⟩) l.length l 1 w5.heap.size w6.heap.size _ SX_18.out hn (by omega) (by omega)).mono ?_
        rintro e w19 ⟨rfl, hin, hox⟩
        have Z19 := Lib.hid (hin).size
        have W19 := Lib.hid (within_on W18.out (hin) W18.out.size (by have := Z1.out; have := Z2.out; have := Z3.out; have := Z4.out; have := Z5.out; have := Z6.out; have := Z7.out; have := Z8.out; have := Z9.out; have := Z10.out; have := Z11.out; have := Z12.out; have := Z13.out; have := Z14.out; have := Z15.out; have := Z16.out; have := Z17.out; have := Z18.out; have := Z19.out; have := Y1.out; have := Y2.out; have := Y5.out; have := Y7.out; have := Y9.out; have := Y11.out; omega))
        have HB_19 := Lib.hid (HB_18.out.within (hin) (by have := Z1.out; have := Z2.out; have := Z3.out; have := Z4.out; have := Z5.out; have := Z6.out; have := Z7.out; have := Z8.out; have := Z9.out; have := Z10.out; have := Z11.out; have := Z12.out; have := Z13.out; have := Z14.out; have := Z15.out; have := Z16.out; have := Z17.out; have := Z18.out; have := Z19.out; have := Y1.out; have := Y2.out; have := Y5.out; have := Y7.out; have := Y9.out; have := Y11.out; omega))
        have HQ_19 := Lib.hid (HQ_18.out.within (hin) (by have := Z1.out; have := Z2.out; have := Z3.out; have := Z4.out; have := Z5.out; have := Z6.out; have := Z7.out; have := Z8.out; have := Z9.out; have := Z10.out; have := Z11.out; have := Z12.out; have := Z13.out; have := Z14.out; have := Z15.out; have := Z16.out; have := Z17.out; have := Z18.out; have := Z19.out; have := Y1.out; have := Y2.out; have := Y5.out; have := Y7.out; have := Y9.out; have := Y11.out; omega))
        have BX_19 := Lib.hid (BX_18.out.within (hin) (by have := Z1.out; have := Z2.out; have := Z3.out; have := Z4.out; have := Z5.out; have := Z6.out; have := Z7.out; have := Z8.out; have := Z9.out; have := Z10.out; have := Z11.out; have := Z12.out; have := Z13.out; have := Z14.out; have := Z15.out; have := Z16.out; have := Z17.out; have := Z18.out; have := Z19.out; have := Y1.out; have := Y2.out; have := Y5.out; have := Y7.out; have := Y9.out; have := Y11.out; omega))
        have BP_19 := Lib.hid (BP_18.out.within (hin) (by have := Z1.out; have := Z2.out; have := Z3.out; have := Z4.out; have := Z5.out; have := Z6.out; have := Z7.out; have := Z8.out; have := Z9.out; have := Z10.out; have := Z11.out; have := Z12.out; have := Z13.out; have := Z14.out; have := Z15.out; have := Z16.out; have := Z17.out; have := Z18.out; have := Z19.out; have := Y1.out; have := Y2.out; have := Y5.out; have := Y7.out; have := Y9.out; have := Y11.out; omega))
        have BW_19 := Lib.hid (BW_18.out.within (hin) (by have := Z1.out; have := Z2.out; have := Z3.out; have := Z4.out; have := Z5.out; have := Z6.out; have := Z7.out; have := Z8.out; have := Z9.out; have := Z10.out; have := Z11.out; have := Z12.out; have := Z13.out; have := Z14.out; have := Z15.out; have := Z16.out; have := Z17.out; have := Z18.out; have := Z19.out; have := Y1.out; have := Y2.out; have := Y5.out; have := Y7.out; have := Y9.out; have := Y11.out; omega))
        have SR_19 := Lib.hid (SR_18.out.within (hin) (by have := Z1.out; have := Z2.out; have := Z3.out; have := Z4.out; have := Z5.out; have := Z6.out; have := Z7.out; have := Z8.out; have := Z9.out; have := Z10.out; have := Z11.out; have := Z12.out; have := Z13.out; have := Z14.out; have := Z15.out; have := Z16.out; have := Z17.out; have := Z18.out; have := Z19.out; have := Y1.out; have := Y2.out; have := Y5.out; have := Y7.out; have := Y9.out; have := Y11.out; omega))
        have XX_19 := Lib.hid (XX_18.out.within (hin) (by have := Z1.out; have := Z2.out; have := Z3.out; have := Z4.out; have := Z5.out; have := Z6.out; have := Z7.out; have := Z8.out; have := Z9.out; have := Z10.out; have := Z11.out; have := Z12.out; have := Z13.out; have := Z14.out; have := Z15.out; have := Z16.out; have := Z17.out; have := Z18.out; have := Z19.out; have := Y1.out; have := Y2.out; have := Y5.out; have := Y7.out; have := Y9.out; have := Y11.out; omega))
        have SY_19 := Lib.hid (SY_18.out.within (hin) (by have := Z1.out; have := Z2.out; have := Z3.out; have := Z4.out; have := Z5.out; have := Z6.out; have := Z7.out; have := Z8.out; have := Z9.out; have := Z10.out; have := Z11.out; have := Z12.out; have := Z13.out; have := Z14.out; have := Z15.out; have := Z16.out; have := Z17.out; have := Z18.out; have := Z19.out; have := Y1.out; have := Y2.out; have := Y5.out; have := Y7.out; have := Y9.out; have := Y11.out; omega))
        have XP_19 := Lib.hid (XP_18.out.within (hin) (by have := Z1.out; have := Z2.out; have := Z3.out; have := Z4.out; have := Z5.out; have := Z6.out; have := Z7.out; have := Z8.out; have := Z9.out; have := Z10.out; have := Z11.out; have := Z12.out; have := Z13.out; have := Z14.out; have := Z15.out; have := Z16.out; have := Z17.out; have := Z18.out; have := Z19.out; have := Y1.out; have := Y2.out; have := Y5.out; have := Y7.out; have := Y9.out; have := Y11.out; omega))
        have SO_19 := Lib.hid (SO_18.out.within (hin) (by have := Z1.out; have := Z2.out; have := Z3.out; have := Z4.out; have := Z5.out; have := Z6.out; have := Z7.out; have := Z8.out; have := Z9.out; have := Z10.out; have := Z11.out; have := Z12.out; have := Z13.out; have := Z14.out; have := Z15.out; have := Z16.out; have := Z17.out; have := Z18.out; have := Z19.out; have := Y1.out; have := Y2.out; have := Y5.out; have := Y7.out; have := Y9.out; have := Y11.out; omega))
        have BG_19 := Lib.hid (BG_18.out.within (hin) (by have := Z1.out; have := Z2.out; have := Z3.out; have := Z4.out; have := Z5.out; have := Z6.out; have := Z7.out; have := Z8.out; have := Z9.out; have := Z10.out; have := Z11.out; have := Z12.out; have := Z13.out; have := Z14.out; have := Z15.out; have := Z16.out; have := Z17.out; have := Z18.out; have := Z19.out; have := Y1.out; have := Y2.out; have := Y5.out; have := Y7.out; have := Y9.out; have := Y11.out; omega))
        have YG_19 := Lib.hid (YG_18.out.within (hin) (by have := Z1.out; have := Z2.out; have := Z3.out; have := Z4.out; have := Z5.out; have := Z6.out; have := Z7.out; have := Z8.out; have := Z9.out; have := Z10.out; have := Z11.out; have := Z12.out; have := Z13.out; have := Z14.out; have := Z15.out; have := Z16.out; have := Z17.out; have := Z18.out; have := Z19.out; have := Y1.out; have := Y2.out; have := Y5.out; have := Y7.out; have := Y9.out; have := Y11.out; omega))
        have YP_19 := Lib.hid (YP_18.out.within (hin) (by have := Z1.out; have := Z2.out; have := Z3.out; have := Z4.out; have := Z5.out; have := Z6.out; have := Z7.out; have := Z8.out; have := Z9.out; have := Z10.out; have := Z11.out; have := Z12.out; have := Z13.out; have := Z14.out; have := Z15.out; have := Z16.out; have := Z17.out; have := Z18.out; have := Z19.out; have := Y1.out; have := Y2.out; have := Y5.out; have := Y7.out; have := Y9.out; have := Y11.out; omega))
        clear hox hin
        obtain ⟨g13_0, g13_1, g13_2, g13_3, g13_4, g13_5⟩ := XP_19.out.cells
        go_wp2_with fail
        clear g13_0 g13_1 g13_2 g13_3 g13_4 g13_5
        refine (markPeb_o (some ⟨x1F, 0, none⟩) (some ⟨x1T, 0, none⟩) (some ⟨x1Z, 0, none⟩) F.length T.length Z.length w7.heap.size w8.heap.size F T Z ((1 : Int) + 2 * (l.length : Int)) _ SY_19.out hF hT hZ (by omega) (by omega)).mono ?_
        rintro e w20 ⟨rfl, hin, hox⟩
        have Z20 := Lib.hid (hin).size
        have W20 := Lib.hid (within_on W19.out (hin) W19.out.size (by have := Z1.out; have := Z2.out; have := Z3.out; have := Z4.out; have := Z5.out; have := Z6.out; have := Z7.out; have := Z8.out; have := Z9.out; have := Z10.out; have := Z11.out; have := Z12.out; have := Z13.out; have := Z14.out; have := Z15.out; have := Z16.out; have := Z17.out; have := Z18.out; have := Z19.out; have := Z20.out; have := Y1.out; have := Y2.out; have := Y5.out; have := Y7.out; have := Y9.out; have := Y11.out; omega))
        have HB_20 := Lib.hid (HB_19.out.within (hin) (by have := Z1.out; have := Z2.out; have := Z3.out; have := Z4.out; have := Z5.out; have := Z6.out; have := Z7.out; have := Z8.out; have := Z9.out; have := Z10.out; have := Z11.out; have := Z12.out; have := Z13.out; have := Z14.out; have := Z15.out; have := Z16.out; have := Z17.out; have := Z18.out; have := Z19.out; have := Z20.out; have := Y1.out; have := Y2.out; have := Y5.out; have := Y7.out; have := Y9.out; have := Y11.out; omega))
        have HQ_20 := Lib.hid (HQ_19.out.within (hin) (by have := Z1.out; have := Z2.out; have := Z3.out; have := Z4.out; have := Z5.out; have := Z6.out; have := Z7.out; have := Z8.out; have := Z9.out; have := Z10.out; have := Z11.out; have := Z12.out; have := Z13.out; have := Z14.out; have := Z15.out; have := Z16.out; have := Z17.out; have := Z18.out; have := Z19.out; have := Z20.out; have := Y1.out; have := Y2.out; have := Y5.out; have := Y7.out; have := Y9.out; have := Y11.out; omega))
        have BX_20 := Lib.hid (BX_19.out.within (hin) (by have := Z1.out; have := Z2.out; have := Z3.out; have := Z4.out; have := Z5.out; have := Z6.out; have := Z7.out; have := Z8.out; have := Z9.out; have := Z10.out; have := Z11.out; have := Z12.out; have := Z13.out; have := Z14.out; have := Z15.out; have := Z16.out; have := Z17.out; have := Z18.out; have := Z19.out; have := Z20.out; have := Y1.out; have := Y2.out; have := Y5.out; have := Y7.out; have := Y9.out; have := Y11.out; omega))
        have BP_20 := Lib.hid (BP_19.out.within (hin) (by have := Z1.out; have := Z2.out; have := Z3.out; have := Z4.out; have := Z5.out; have := Z6.out; have := Z7.out; have := Z8.out; have := Z9.out; have := Z10.out; have := Z11.out; have := Z12.out; have := Z13.out; have := Z14.out; have := Z15.out; have := Z16.out; have := Z17.out; have := Z18.out; have := Z19.out; have := Z20.out; have := Y1.out; have := Y2.out; have := Y5.out; have := Y7.out; have := Y9.out; have := Y11.out; omega))
        have BW_20 := Lib.hid (BW_19.out.within (hin) (by have := Z1.out; have := Z2.out; have := Z3.out; have := Z4.out; have := Z5.out; have := Z6.out; have := Z7.out; have := Z8.out; have := Z9.out; have := Z10.out; have := Z11.out; have := Z12.out; have := Z13.out; have := Z14.out; have := Z15.out; have := Z16.out; have := Z17.out; have := Z18.out; have := Z19.out; have := Z20.out; have := Y1.out; have := Y2.out; have := Y5.out; have := Y7.out; have := Y9.out; have := Y11.out; omega))
        have SR_20 := Lib.hid (SR_19.out.within (hin) (by have := Z1.out; have := Z2.out; have := Z3.out; have := Z4.out; have := Z5.out; have := Z6.out; have := Z7.out; have := Z8.out; have := Z9.out; have := Z10.out; have := Z11.out; have := Z12.out; have := Z13.out; have := Z14.out; have := Z15.out; have := Z16.out; have := Z17.out; have := Z18.out; have := Z19.out; have := Z20.out; have := Y1.out; have := Y2.out; have := Y5.out; have := Y7.out; have := Y9.out; have := Y11.out; omega))
        have XX_20 := Lib.hid (XX_19.out.within (hin) (by have := Z1.out; have := Z2.out; have := Z3.out; have := Z4.out; have := Z5.out; have := Z6.out; have := Z7.out; have := Z8.out; have := Z9.out; have := Z10.out; have := Z11.out; have := Z12.out; have := Z13.out; have := Z14.out; have := Z15.out; have := Z16.out; have := Z17.out; have := Z18.out; have := Z19.out; have := Z20.out; have := Y1.out; have := Y2.out; have := Y5.out; have := Y7.out; have := Y9.out; have := Y11.out; omega))
        have XP_20 := Lib.hid (XP_19.out.within (hin) (by have := Z1.out; have := Z2.out; have := Z3.out; have := Z4.out; have := Z5.out; have := Z6.out; have := Z7.out; have := Z8.out; have := Z9.out; have := Z10.out; have := Z11.out; have := Z12.out; have := Z13.out; have := Z14.out; have := Z15.out; have := Z16.out; have := Z17.out; have := Z18.out; have := Z19.out; have := Z20.out; have := Y1.out; have := Y2.out; have := Y5.out; have := Y7.out; have := Y9.out; have := Y11.out; omega))
        have SO_20 := Lib.hid (SO_19.out.within (hin) (by have := Z1.out; have := Z2.out; have := Z3.out; have := Z4.out; have := Z5.out; have := Z6.out; have := Z7.out; have := Z8.out; have := Z9.out; have := Z10.out; have := Z11.out; have := Z12.out; have := Z13.out; have := Z14.out; have := Z15.out; have := Z16.out; have := Z17.out; have := Z18.out; have := Z19.out; have := Z20.out; have := Y1.out; have := Y2.out; have := Y5.out; have := Y7.out; have := Y9.out; have := Y11.out; omega))
        have BG_20 := Lib.hid (BG_19.out.within (hin) (by have := Z1.out; have := Z2.out; have := Z3.out; have := Z4.out; have := Z5.out; have := Z6.out; have := Z7.out; have := Z8.out; have := Z9.out; have := Z10.out; have := Z11.out; have := Z12.out; have := Z13.out; have := Z14.out; have := Z15.out; have := Z16.out; have := Z17.out; have := Z18.out; have := Z19.out; have := Z20.out; have := Y1.out; have := Y2.out; have := Y5.out; have := Y7.out; have := Y9.out; have := Y11.out; omega))
        have YG_20 := Lib.hid (YG_19.out.within (hin) (by have := Z1.out; have := Z2.out; have := Z3.out; have := Z4.out; have := Z5.out; have := Z6.out; have := Z7.out; have := Z8.out; have := Z9.out; have := Z10.out; have := Z11.out; have := Z12.out; have := Z13.out; have := Z14.out; have := Z15.out; have := Z16.out; have := Z17.out; have := Z18.out; have := Z19.out; have := Z20.out; have := Y1.out; have := Y2.out; have := Y5.out; have := Y7.out; have := Y9.out; have := Y11.out; omega))
        have YP_20 := Lib.hid (YP_19.out.within (hin) (by have := Z1.out; have := Z2.out; have := Z3.out; have := Z4.out; have := Z5.out; have := Z6.out; have := Z7.out; have := Z8.out; have := Z9.out; have := Z10.out; have := Z11.out; have := Z12.out; have := Z13.out; have := Z14.out; have := Z15.out; have := Z16.out; have := Z17.out; have := Z18.out; have := Z19.out; have := Z20.out; have := Y1.out; have := Y2.out; have := Y5.out; have := Y7.out; have := Y9.out; have := Y11.out; omega))
        clear hox hin
        have hk1 : ¬ (((1 : Int) + 2 * (l.length : Int)) + (F.length : Int) + (T.length : Int) + (Z.length : Int)) < 0 := by omega
        obtain ⟨g14_0, g14_1, g14_2, g14_3, g14_4, g14_5⟩ := BG_20.out.cells
        obtain ⟨g15_0, g15_1, g15_2, g15_3, g15_4, g15_5⟩ := BW_20.out.cells
        go_wp2_with fail
        clear g14_0 g14_1 g14_2 g14_3 g14_4 g14_5 g15_0 g15_1 g15_2 g15_3 g15_4 g15_5
        refine (eqPeb_c AGF AGT AGZ ASF AST ASZ cGF cGT cGZ cSF cST cSZ _ _ _ _ RF RT RZ _ SO_20.out.reads SR_20.out.reads hl1 hl2 hl3).mono ?_
        rintro e w21 ⟨rfl, hb⟩
        have Z21 := Lib.hid (within_of hb).size
        have W21 := Lib.hid (within_on W20.out (within_of hb) W20.out.size (.inr (Nat.le_refl _)))
        have HB_21 := Lib.hid (HB_20.out.within (within_of hb) (by omega))
        have HQ_21 := Lib.hid (HQ_20.out.within (within_of hb) (by omega))
        have BX_21 := Lib.hid (BX_20.out.within (within_of hb) (by omega))
        have BP_21 := Lib.hid (BP_20.out.within (within_of hb) (by omega))
        have BW_21 := Lib.hid (BW_20.out.within (within_of hb) (by omega))
        have SR_21 := Lib.hid (SR_20.out.within (within_of hb) (by omega))
        have XX_21 := Lib.hid (XX_20.out.within (within_of hb) (by omega))
        have XP_21 := Lib.hid (XP_20.out.within (within_of hb) (by omega))
        have SO_21 := Lib.hid (SO_20.out.within (within_of hb) (by omega))
        have BG_21 := Lib.hid (BG_20.out.within (within_of hb) (by omega))
        have YG_21 := Lib.hid (YG_20.out.within (within_of hb) (by omega))
        have YP_21 := Lib.hid (YP_20.out.within (within_of hb) (by omega))
        clear hb
        obtain ⟨g16_0, g16_1, g16_2, g16_3, g16_4, g16_5⟩ := BG_21.out.cells
        go_wp2_with fail
        clear g16_0 g16_1 g16_2 g16_3 g16_4 g16_5
        refine (markPeb_o AGF AGT AGZ cGF cGT cGZ w9.heap.size w10.heap.size RF RT RZ 1 _ SO_21.out hl1 hl2 hl3 (by omega) (by omega)).mono ?_
        rintro e w22 ⟨rfl, hin, hog⟩
        have Z22 := Lib.hid (hin).size
        have W22 := Lib.hid (within_on W21.out (hin) W21.out.size (by have := Z1.out; have := Z2.out; have := Z3.out; have := Z4.out; have := Z5.out; have := Z6.out; have := Z7.out; have := Z8.out; have := Z9.out; have := Z10.out; have := Z11.out; have := Z12.out; have := Z13.out; have := Z14.out; have := Z15.out; have := Z16.out; have := Z17.out; have := Z18.out; have := Z19.out; have := Z20.out; have := Z21.out; have := Z22.out; have := Y1.out; have := Y2.out; have := Y5.out; have := Y7.out; have := Y9.out; have := Y11.out; omega))
        have HB_22 := Lib.hid (HB_21.out.within (hin) (by have := Z1.out; have := Z2.out; have := Z3.out; have := Z4.out; have := Z5.out; have := Z6.out; have := Z7.out; have := Z8.out; have := Z9.out; have := Z10.out; have := Z11.out; have := Z12.out; have := Z13.out; have := Z14.out; have := Z15.out; have := Z16.out; have := Z17.out; have := Z18.out; have := Z19.out; have := Z20.out; have := Z21.out; have := Z22.out; have := Y1.out; have := Y2.out; have := Y5.out; have := Y7.out; have := Y9.out; have := Y11.out; omega))
        have HQ_22 := Lib.hid (HQ_21.out.within (hin) (by have := Z1.out; have := Z2.out; have := Z3.out; have := Z4.out; have := Z5.out; have := Z6.out; have := Z7.out; have := Z8.out; have := Z9.out; have := Z10.out; have := Z11.out; have := Z12.out; have := Z13.out; have := Z14.out; have := Z15.out; have := Z16.out; have := Z17.out; have := Z18.out; have := Z19.out; have := Z20.out; have := Z21.out; have := Z22.out; have := Y1.out; have := Y2.out; have := Y5.out; have := Y7.out; have := Y9.out; have := Y11.out; omega))
        have BX_22 := Lib.hid (BX_21.out.within (hin) (by have := Z1.out; have := Z2.out; have := Z3.out; have := Z4.out; have := Z5.out; have := Z6.out; have := Z7.out; have := Z8.out; have := Z9.out; have := Z10.out; have := Z11.out; have := Z12.out; have := Z13.out; have := Z14.out; have := Z15.out; have := Z16.out; have := Z17.out; have := Z18.out; have := Z19.out; have := Z20.out; have := Z21.out; have := Z22.out; have := Y1.out; have := Y2.out; have := Y5.out; have := Y7.out; have := Y9.out; have := Y11.out; omega))
        have BP_22 := Lib.hid (BP_21.out.within (hin) (by have := Z1.out; have := Z2.out; have := Z3.out; have := Z4.out; have := Z5.out; have := Z6.out; have := Z7.out; have := Z8.out; have := Z9.out; have := Z10.out; have := Z11.out; have := Z12.out; have := Z13.out; have := Z14.out; have := Z15.out; have := Z16.out; have := Z17.out; have := Z18.out; have := Z19.out; have := Z20.out; have := Z21.out; have := Z22.out; have := Y1.out; have := Y2.out; have := Y5.out; have := Y7.out; have := Y9.out; have := Y11.out; omega))
        have BW_22 := Lib.hid (BW_21.out.within (hin) (by have := Z1.out; have := Z2.out; have := Z3.out; have := Z4.out; have := Z5.out; have := Z6.out; have := Z7.out; have := Z8.out; have := Z9.out; have := Z10.out; have := Z11.out; have := Z12.out; have := Z13.out; have := Z14.out; have := Z15.out; have := Z16.out; have := Z17.out; have := Z18.out; have := Z19.out; have := Z20.out; have := Z21.out; have := Z22.out; have := Y1.out; have := Y2.out; have := Y5.out; have := Y7.out; have := Y9.out; have := Y11.out; omega))
        have SR_22 := Lib.hid (SR_21.out.within (hin) (by have := Z1.out; have := Z2.out; have := Z3.out; have := Z4.out; have := Z5.out; have := Z6.out; have := Z7.out; have := Z8.out; have := Z9.out; have := Z10.out; have := Z11.out; have := Z12.out; have := Z13.out; have := Z14.out; have := Z15.out; have := Z16.out; have := Z17.out; have := Z18.out; have := Z19.out; have := Z20.out; have := Z21.out; have := Z22.out; have := Y1.out; have := Y2.out; have := Y5.out; have := Y7.out; have := Y9.out; have := Y11.out; omega))
        have XX_22 := Lib.hid (XX_21.out.within (hin) (by have := Z1.out; have := Z2.out; have := Z3.out; have := Z4.out; have := Z5.out; have := Z6.out; have := Z7.out; have := Z8.out; have := Z9.out; have := Z10.out; have := Z11.out; have := Z12.out; have := Z13.out; have := Z14.out; have := Z15.out; have := Z16.out; have := Z17.out; have := Z18.out; have := Z19.out; have := Z20.out; have := Z21.out; have := Z22.out; have := Y1.out; have := Y2.out; have := Y5.out; have := Y7.out; have := Y9.out; have := Y11.out; omega))
        have XP_22 := Lib.hid (XP_21.out.within (hin) (by have := Z1.out; have := Z2.out; have := Z3.out; have := Z4.out; have := Z5.out; have := Z6.out; have := Z7.out; have := Z8.out; have := Z9.out; have := Z10.out; have := Z11.out; have := Z12.out; have := Z13.out; have := Z14.out; have := Z15.out; have := Z16.out; have := Z17.out; have := Z18.out; have := Z19.out; have := Z20.out; have := Z21.out; have := Z22.out; have := Y1.out; have := Y2.out; have := Y5.out; have := Y7.out; have := Y9.out; have := Y11.out; omega))
        have BG_22 := Lib.hid (BG_21.out.within (hin) (by have := Z1.out; have := Z2.out; have := Z3.out; have := Z4.out; have := Z5.out; have := Z6.out; have := Z7.out; have := Z8.out; have := Z9.out; have := Z10.out; have := Z11.out; have := Z12.out; have := Z13.out; have := Z14.out; have := Z15.out; have := Z16.out; have := Z17.out; have := Z18.out; have := Z19.out; have := Z20.out; have := Z21.out; have := Z22.out; have := Y1.out; have := Y2.out; have := Y5.out; have := Y7.out; have := Y9.out; have := Y11.out; omega))
        have YG_22 := Lib.hid (YG_21.out.within (hin) (by have := Z1.out; have := Z2.out; have := Z3.out; have := Z4.out; have := Z5.out; have := Z6.out; have := Z7.out; have := Z8.out; have := Z9.out; have := Z10.out; have := Z11.out; have := Z12.out; have := Z13.out; have := Z14.out; have := Z15.out; have := Z16.out; have := Z17.out; have := Z18.out; have := Z19.out; have := Z20.out; have := Z21.out; have := Z22.out; have := Y1.out; have := Y2.out; have := Y5.out; have := Y7.out; have := Y9.out; have := Y11.out; omega))
        have YP_22 := Lib.hid (YP_21.out.within (hin) (by have := Z1.out; have := Z2.out; have := Z3.out; have := Z4.out; have := Z5.out; have := Z6.out; have := Z7.out; have := Z8.out; have := Z9.out; have := Z10.out; have := Z11.out; have := Z12.out; have := Z13.out; have := Z14.out; have := Z15.out; have := Z16.out; have := Z17.out; have := Z18.out; have := Z19.out; have := Z20.out; have := Z21.out; have := Z22.out; have := Y1.out; have := Y2.out; have := Y5.out; have := Y7.out; have := Y9.out; have := Y11.out; omega))
        have SM_22 := Lib.hid (hog)
        clear hog hin
        obtain ⟨g17_0, g17_1, g17_2, g17_3, g17_4, g17_5⟩ := BG_22.out.cells
        have hk2 : ¬ (1 : Int) + (RF.length : Int) + (RT.length : Int) + (RZ.length : Int) < 0 := by omega
        go_wp2_with fail
        clear g17_0 g17_1 g17_2 g17_3 g17_4 g17_5
        refine (heldPeb_c AGF AGT AGZ cGF cGT cGZ w9.heap.size w10.heap.size RF.length RT.length RZ.length 1 _ SM_22.out.reads hl1 hl2 hl3 (by omega) (by omega)).mono ?_
        rintro e w23 ⟨rfl, hb⟩
        have Z23 := Lib.hid (within_of hb).size
        have W23 := Lib.hid (within_on W22.out (within_of hb) W22.out.size (.inr (Nat.le_refl _)))
        have HB_23 := Lib.hid (HB_22.out.within (within_of hb) (by omega))
        have HQ_23 := Lib.hid (HQ_22.out.within (within_of hb) (by omega))
        have BX_23 := Lib.hid (BX_22.out.within (within_of hb) (by omega))
        have BP_23 := Lib.hid (BP_22.out.within (within_of hb) (by omega))
        have BW_23 := Lib.hid (BW_22.out.within (within_of hb) (by omega))
        have SR_23 := Lib.hid (SR_22.out.within (within_of hb) (by omega))
        have XX_23 := Lib.hid (XX_22.out.within (within_of hb) (by omega))
        have XP_23 := Lib.hid (XP_22.out.within (within_of hb) (by omega))
        have BG_23 := Lib.hid (BG_22.out.within (within_of hb) (by omega))
        have YG_23 := Lib.hid (YG_22.out.within (within_of hb) (by omega))
        have YP_23 := Lib.hid (YP_22.out.within (within_of hb) (by omega))
        have SM_23 := Lib.hid (SM_22.out.within (within_of hb) (by omega))
        clear hb
        have hdr : Below w23.heap.size w23 w23.drew := (Below.refl _ _).drew
        have HBd := Lib.hid (HB_23.out.within (within_of hdr) (.inr (Nat.zero_le _)))
        have HQd := Lib.hid (HQ_23.out.within (within_of hdr) (.inr (Nat.zero_le _)))
        have HS := Lib.hid (fun (W : World) (hb : Below w23.drew.heap.size w23.drew W) => (show (fun W' => W'.cell? ⟨w.heap.size, 0, none⟩ = some (.int .i64 q) ∧ W'.cell? ⟨w.heap.size, 1, none⟩ = some (.slice A l.length cap) ∧ W'.cell? ⟨w.heap.size + 1, 0, none⟩ = some (.slice AF F.length cF) ∧ W'.cell? ⟨w.heap.size + 1, 1, none⟩ = some (.slice AT T.length cT) ∧ W'.cell? ⟨w.heap.size + 1, 2, none⟩ = some (.slice AZ Z.length cZ)) W from ⟨((BX_23.out.kept hdr).kept hb).2.1, ((BX_23.out.kept hdr).kept hb).2.2, ((BP_23.out.kept hdr).kept hb).cells.1, ((BP_23.out.kept hdr).kept hb).cells.2.1, ((BP_23.out.kept hdr).kept hb).cells.2.2.1⟩))
        clear hdr
        go_wp2_with fail
        go_cut [21, 22] (fun b1 b2 wx => BoxR w23 RF.length RT.length RZ.length RF RT RZ RO  b1 b2 wx)
        case first =>
          go_region_held3 (fun W' => W'.cell? ⟨w.heap.size, 0, none⟩ = some (.int .i64 q) ∧ W'.cell? ⟨w.heap.size, 1, none⟩ = some (.slice A l.length cap) ∧ W'.cell? ⟨w.heap.size + 1, 0, none⟩ = some (.slice AF F.length cF) ∧ W'.cell? ⟨w.heap.size + 1, 1, none⟩ = some (.slice AT T.length cT) ∧ W'.cell? ⟨w.heap.size + 1, 2, none⟩ = some (.slice AZ Z.length cZ))
            (first | exact HS.out _ (Below.refl _ _) | exact HS.out _ (new_below _ _) | exact HS.out _ BwA.out | exact HS.out _ (below_on BwA.out (new_below _ _) BwA.out.size) | exact HS.out _ BwB.out | exact HS.out _ (below_on BwB.out (new_below _ _) BwB.out.size) | exact HS.out _ BwC.out | exact HS.out _ (below_on BwC.out (new_below _ _) BwC.out.size) | exact HS.out _ (((BwC.out.setCell (p := ⟨_, 0, none⟩) HGE.out _).setCell (p := ⟨_, 1, none⟩) HGE.out _).setCell (p := ⟨_, 2, none⟩) HGE.out _) | exact HS.out _ ((((below_on BwC.out (new_below _ _) BwC.out.size).setCell (p := ⟨_, 0, none⟩) BwC.out.size _).setCell (p := ⟨_, 1, none⟩) BwC.out.size _).setCell (p := ⟨_, 2, none⟩) BwC.out.size _))
            (first
              | (go_at_call 29; refine (HIM.out _ _ _ _ _ _ _ _ _ _ wB GwB.out.at PwB.out).mono ?_; rintro e wC ⟨AHF, cHF, AHT, cHT, AHZ, cHZ, rfl, ho, hb⟩; have BwC := Lib.hid (show Below w23.drew.heap.size w23.drew wC from (below_on BwB.out hb BwB.out.size)); have SwC := Lib.hid ho; have LwC := Lib.hid hb.size; (first | (have XwC := Lib.hid (XwB.out.kept hb); have HGL3 := Lib.hid (Nat.succ_le_of_lt HGL.out); have HGL := Lib.hid (Nat.lt_of_lt_of_le HGL.out hb.size); have HGL2 := HGL) | skip); (first | (obtain ⟨_, _, _, _, _, _⟩ := XwC.out.cells) | (obtain ⟨_, _, _, _, _, _⟩ := (cel3_new wC (.slice none 0 0) (.slice none 0 0) (.slice none 0 0) 30).cells)); clear ho hb)
              | (go_at_call 29; have hal := new_below wB (.cells #[.slice none 0 0, .slice none 0 0, .slice none 0 0] 30); refine (HIM.out _ _ _ _ _ _ _ _ _ _ (wB.alloc (.cells #[.slice none 0 0, .slice none 0 0, .slice none 0 0] 30)) (GwB.out.within (within_alloc wB (.cells #[.slice none 0 0, .slice none 0 0, .slice none 0 0] 30)) (.inr (Nat.zero_le _))).at (PwB.out.within (within_alloc wB (.cells #[.slice none 0 0, .slice none 0 0, .slice none 0 0] 30)) (.inr (Nat.zero_le _)))).mono ?_; rintro e wC ⟨AHF, cHF, AHT, cHT, AHZ, cHZ, rfl, ho, hb⟩; have BwC := Lib.hid (show Below w23.drew.heap.size w23.drew wC from (below_on (below_on BwB.out hal BwB.out.size) hb (below_on BwB.out hal BwB.out.size).size)); have SwC := Lib.hid ho; have LwC := Lib.hid hb.size; have XwC := Lib.hid (show Cel3 wC (wB.heap.size) 30 (.slice none 0 0) (.slice none 0 0) (.slice none 0 0) from (cel3_new wB (.slice none 0 0) (.slice none 0 0) (.slice none 0 0) 30).kept hb); have hge : w23.drew.heap.size ≤ wB.heap.size := BwB.out.size; have hgl : wB.heap.size < (wB.alloc (.cells #[.slice none 0 0, .slice none 0 0, .slice none 0 0] 30)).heap.size := (by simp); have HGE := Lib.hid hge; have HGL := Lib.hid (Nat.lt_of_lt_of_le hgl hb.size); have HGM := Lib.hid (show wB.heap.size + 1 ≤ (wB.alloc (.cells #[.slice none 0 0, .slice none 0 0, .slice none 0 0] 30)).heap.size from hgl); clear hge hgl; (first | (obtain ⟨_, _, _, _, _, _⟩ := XwC.out.cells) | (obtain ⟨_, _, _, _, _, _⟩ := (cel3_new wC (.slice none 0 0) (.slice none 0 0) (.slice none 0 0) 30).cells)); clear ho hb)
              | (go_at_call 21; refine (toPeb_c AF AT AZ cF cT cZ 0 w.heap.size F T Z wA QwA.out hF hT hZ).mono ?_; rintro e wB ⟨g1F, g1T, g1Z, rfl, ho, hb⟩; have BwB := Lib.hid (show Below w23.drew.heap.size w23.drew wB from (below_on BwA.out hb BwA.out.size)); have GwB := Lib.hid (GwA.out.within (within_of hb) (.inr (Nat.zero_le _))); have PwB := Lib.hid ho.reads; (first | (have XwB := Lib.hid (XwA.out.kept hb); have HGL3 := Lib.hid (Nat.succ_le_of_lt HGL.out); have HGL := Lib.hid (Nat.lt_of_lt_of_le HGL.out hb.size); have HGL2 := HGL) | skip); clear ho hb)
              | (go_at_call 21; have hal := new_below wA (.cells #[.slice none 0 0, .slice none 0 0, .slice none 0 0] 30); refine (toPeb_c AF AT AZ cF cT cZ 0 w.heap.size F T Z (wA.alloc (.cells #[.slice none 0 0, .slice none 0 0, .slice none 0 0] 30)) (QwA.out.within (within_alloc wA (.cells #[.slice none 0 0, .slice none 0 0, .slice none 0 0] 30)) (.inr (Nat.zero_le _))) hF hT hZ).mono ?_; rintro e wB ⟨g1F, g1T, g1Z, rfl, ho, hb⟩; have BwB := Lib.hid (show Below w23.drew.heap.size w23.drew wB from (below_on (below_on BwA.out hal BwA.out.size) hb (below_on BwA.out hal BwA.out.size).size)); have GwB := Lib.hid ((GwA.out.within (within_alloc wA (.cells #[.slice none 0 0, .slice none 0 0, .slice none 0 0] 30)) (.inr (Nat.zero_le _))).within (within_of hb) (.inr (Nat.zero_le _))); have PwB := Lib.hid ho.reads; have XwB := Lib.hid (show Cel3 wB (wA.heap.size) 30 (.slice none 0 0) (.slice none 0 0) (.slice none 0 0) from (cel3_new wA (.slice none 0 0) (.slice none 0 0) (.slice none 0 0) 30).kept hb); have hge : w23.drew.heap.size ≤ wA.heap.size := BwA.out.size; have hgl : wA.heap.size < (wA.alloc (.cells #[.slice none 0 0, .slice none 0 0, .slice none 0 0] 30)).heap.size := (by simp); have HGE := Lib.hid hge; have HGL := Lib.hid (Nat.lt_of_lt_of_le hgl hb.size); have HGM := Lib.hid (show wA.heap.size + 1 ≤ (wA.alloc (.cells #[.slice none 0 0, .slice none 0 0, .slice none 0 0] 30)).heap.size from hgl); clear hge hgl; clear ho hb)
              | (go_at_call 20; refine (toGraph_c q l A cap w23.drew HBd.out.at hn).mono ?_; rintro e wA ⟨g0, rfl, ho, hb⟩; have BwA := Lib.hid (show Below w23.drew.heap.size w23.drew wA from hb); have QwA := Lib.hid (HQd.out.within (within_of hb) (.inr (Nat.zero_le _))); have GwA := Lib.hid (own_in ho).bars; clear ho hb)
              | (go_at_call 20; have hal := new_below w23.drew (.cells #[.slice none 0 0, .slice none 0 0, .slice none 0 0] 30); refine (toGraph_c q l A cap (w23.drew.alloc (.cells #[.slice none 0 0, .slice none 0 0, .slice none 0 0] 30)) (HBd.out.within (within_alloc w23.drew (.cells #[.slice none 0 0, .slice none 0 0, .slice none 0 0] 30)) (.inr (Nat.zero_le _))).at hn).mono ?_; rintro e wA ⟨g0, rfl, ho, hb⟩; have BwA := Lib.hid (show Below w23.drew.heap.size w23.drew wA from (below_on (below_on (Below.refl w23.drew.heap.size w23.drew) hal (Below.refl w23.drew.heap.size w23.drew).size) hb (below_on (Below.refl w23.drew.heap.size w23.drew) hal (Below.refl w23.drew.heap.size w23.drew).size).size)); have QwA := Lib.hid ((HQd.out.within (within_alloc w23.drew (.cells #[.slice none 0 0, .slice none 0 0, .slice none 0 0] 30)) (.inr (Nat.zero_le _))).within (within_of hb) (.inr (Nat.zero_le _))); have GwA := Lib.hid (own_in ho).bars; have XwA := Lib.hid (show Cel3 wA (w23.heap.size) 30 (.slice none 0 0) (.slice none 0 0) (.slice none 0 0) from (cel3_new w23.drew (.slice none 0 0) (.slice none 0 0) (.slice none 0 0) 30).kept hb); have hge : w23.drew.heap.size ≤ w23.heap.size := (Below.refl w23.drew.heap.size w23.drew).size; have hgl : w23.heap.size < (w23.drew.alloc (.cells #[.slice none 0 0, .slice none 0 0, .slice none 0 0] 30)).heap.size := (by simp); have HGE := Lib.hid hge; have HGL := Lib.hid (Nat.lt_of_lt_of_le hgl hb.size); have HGM := Lib.hid (show w23.heap.size + 1 ≤ (w23.drew.alloc (.cells #[.slice none 0 0, .slice none 0 0, .slice none 0 0] 30)).heap.size from hgl); clear hge hgl; clear ho hb))
          all_goals (
            go_wp2_with fail
            go_meet
            case rel =>
              first
                | exact boxR_in ((Below.refl _ _).drew) BwC.out XwC.out HGE.out SwC.out HGL3.out HGL2.out
                | exact boxR_in ((Below.refl _ _).drew) BwC.out XwC.out HGE.out SwC.out HGM.out HGL.out
                | exact boxR_new ((Below.refl _ _).drew) BwC.out SwC.out)
        case rest =>
          obtain ⟨gb4, AHF, cHF, AHT, cHT, AHZ, cHZ, lo4, hi4, rfl, rfl, hb, hg1, hg2, hcb, ho⟩ := hcut
          obtain ⟨w24, hwn⟩ : ∃ x, x = wc := ⟨_, rfl⟩
          subst hwn
          have Z24 := Lib.hid (within_of hb).size
          have W24 := Lib.hid (within_on W23.out (within_of hb) W23.out.size (.inr (Nat.le_refl _)))
          have HB_24 := Lib.hid (HB_23.out.within (within_of hb) (by omega))
          have HQ_24 := Lib.hid (HQ_23.out.within (within_of hb) (by omega))
          have BX_24 := Lib.hid (BX_23.out.within (within_of hb) (by omega))
          have BP_24 := Lib.hid (BP_23.out.within (within_of hb) (by omega))
          have BW_24 := Lib.hid (BW_23.out.within (within_of hb) (by omega))
          have SR_24 := Lib.hid (SR_23.out.within (within_of hb) (by omega))
          have XX_24 := Lib.hid (XX_23.out.within (within_of hb) (by omega))
          have XP_24 := Lib.hid (XP_23.out.within (within_of hb) (by omega))
          have BG_24 := Lib.hid (BG_23.out.within (within_of hb) (by omega))
          have YG_24 := Lib.hid (YG_23.out.within (within_of hb) (by omega))
          have YP_24 := Lib.hid (YP_23.out.within (within_of hb) (by omega))
          have SM_24 := Lib.hid (SM_23.out.within (within_of hb) (by omega))
          have BH_24 := Lib.hid hcb
          have SH_24 := Lib.hid ho
          have Y24 := Lib.hid (And.intro hg1 hg2)
          clear hb hg1 hg2 hcb ho HBd HQd HS
          obtain ⟨g18_0, g18_1, g18_2, g18_3, g18_4, g18_5⟩ := BH_24.out.cells
          obtain ⟨g19_0, g19_1, g19_2, g19_3, g19_4, g19_5⟩ := BW_24.out.cells
          go_wp2_with fail
          clear g18_0 g18_1 g18_2 g18_3 g18_4 g18_5 g19_0 g19_1 g19_2 g19_3 g19_4 g19_5
          refine (eqPeb_c AHF AHT AHZ ASF AST ASZ cHF cHT cHZ cSF cST cSZ _ _ _ _ RF RT RZ _ SH_24.out.reads SR_24.out.reads hl1 hl2 hl3).mono ?_
          rintro e w25 ⟨rfl, hb⟩
          have Z25 := Lib.hid (within_of hb).size
          have W25 := Lib.hid (within_on W24.out (within_of hb) W24.out.size (.inr (Nat.le_refl _)))
          have HB_25 := Lib.hid (HB_24.out.within (within_of hb) (by omega))
          have HQ_25 := Lib.hid (HQ_24.out.within (within_of hb) (by omega))
          have BX_25 := Lib.hid (BX_24.out.within (within_of hb) (by omega))
          have BP_25 := Lib.hid (BP_24.out.within (within_of hb) (by omega))
          have BW_25 := Lib.hid (BW_24.out.within (within_of hb) (by omega))
          have SR_25 := Lib.hid (SR_24.out.within (within_of hb) (by omega))
          have XX_25 := Lib.hid (XX_24.out.within (within_of hb) (by omega))
          have XP_25 := Lib.hid (XP_24.out.within (within_of hb) (by omega))
          have BG_25 := Lib.hid (BG_24.out.within (within_of hb) (by omega))
          have YG_25 := Lib.hid (YG_24.out.within (within_of hb) (by omega))
          have YP_25 := Lib.hid (YP_24.out.within (within_of hb) (by omega))
          have SM_25 := Lib.hid (SM_24.out.within (within_of hb) (by omega))
          have BH_25 := Lib.hid (BH_24.out.within (within_of hb) (by omega))
          have SH_25 := Lib.hid (SH_24.out.within (within_of hb) (by omega))
          clear hb
          obtain ⟨g20_0, g20_1, g20_2, g20_3, g20_4, g20_5⟩ := BG_25.out.cells
          go_wp2_with fail
          clear g20_0 g20_1 g20_2 g20_3 g20_4 g20_5
          refine (heldPeb_c AGF AGT AGZ cGF cGT cGZ w9.heap.size w10.heap.size RF.length RT.length RZ.length 1 _ SM_25.out.reads hl1 hl2 hl3 (by omega) (by omega)).mono ?_
          rintro e w26 ⟨rfl, hb⟩
          have Z26 := Lib.hid (within_of hb).size
          have W26 := Lib.hid (within_on W25.out (within_of hb) W25.out.size (.inr (Nat.le_refl _)))
          have HB_26 := Lib.hid (HB_25.out.within (within_of hb) (by omega))
          have HQ_26 := Lib.hid (HQ_25.out.within (within_of hb) (by omega))
          have BX_26 := Lib.hid (BX_25.out.within (within_of hb) (by omega))
          have BP_26 := Lib.hid (BP_25.out.within (within_of hb) (by omega))
          have BW_26 := Lib.hid (BW_25.out.within (within_of hb) (by omega))
          have SR_26 := Lib.hid (SR_25.out.within (within_of hb) (by omega))
          have XX_26 := Lib.hid (XX_25.out.within (within_of hb) (by omega))
          have XP_26 := Lib.hid (XP_25.out.within (within_of hb) (by omega))
          have BG_26 := Lib.hid (BG_25.out.within (within_of hb) (by omega))
          have YG_26 := Lib.hid (YG_25.out.within (within_of hb) (by omega))
          have YP_26 := Lib.hid (YP_25.out.within (within_of hb) (by omega))
          have SM_26 := Lib.hid (SM_25.out.within (within_of hb) (by omega))
          have BH_26 := Lib.hid (BH_25.out.within (within_of hb) (by omega))
          have SH_26 := Lib.hid (SH_25.out.within (within_of hb) (by omega))
          clear hb
          go_wp2_with fail
          go_ret
          exact ⟨rfl, W26.out⟩
    · skip
      have W0 := Lib.hid (Below.refl w.heap.size w)
      have Z1 := Lib.hid (within_alloc w (.cells #[.int .i64 q, (.slice A l.length cap)] 24)).size
      have W1 := Lib.hid (within_on W0.out (within_alloc w (.cells #[.int .i64 q, (.slice A l.length cap)] 24)) W0.out.size (.inr (Nat.le_refl _)))
      have HB_1 := Lib.hid (HB_0.out.within (within_alloc w (.cells #[.int .i64 q, (.slice A l.length cap)] 24)) (by omega))
      have HQ_1 := Lib.hid (HQ_0.out.within (within_alloc w (.cells #[.int .i64 q, (.slice A l.length cap)] 24)) (by omega))
      have Y1 := Lib.hid (show (w.alloc (.cells #[.int .i64 q, (.slice A l.length cap)] 24)).heap.size = w.heap.size + 1 by simp)
      have hnew := box_new w q (.slice A l.length cap) 24
      have BX_1 := Lib.hid hnew
      clear hnew
      have Z2 := Lib.hid (within_alloc (w.alloc (.cells #[.int .i64 q, (.slice A l.length cap)] 24)) (.cells #[(.slice AF F.length cF), (.slice AT T.length cT), (.slice AZ Z.length cZ)] 27)).size
      have W2 := Lib.hid (within_on W1.out (within_alloc (w.alloc (.cells #[.int .i64 q, (.slice A l.length cap)] 24)) (.cells #[(.slice AF F.length cF), (.slice AT T.length cT), (.slice AZ Z.length cZ)] 27)) W1.out.size (.inr (Nat.le_refl _)))
      have HB_2 := Lib.hid (HB_1.out.within (within_alloc (w.alloc (.cells #[.int .i64 q, (.slice A l.length cap)] 24)) (.cells #[(.slice AF F.length cF), (.slice AT T.length cT), (.slice AZ Z.length cZ)] 27)) (by omega))
      have HQ_2 := Lib.hid (HQ_1.out.within (within_alloc (w.alloc (.cells #[.int .i64 q, (.slice A l.length cap)] 24)) (.cells #[(.slice AF F.length cF), (.slice AT T.length cT), (.slice AZ Z.length cZ)] 27)) (by omega))
      have BX_2 := Lib.hid (BX_1.out.within (within_alloc (w.alloc (.cells #[.int .i64 q, (.slice A l.length cap)] 24)) (.cells #[(.slice AF F.length cF), (.slice AT T.length cT), (.slice AZ Z.length cZ)] 27)) (by omega))
      have Y2 := Lib.hid (show ((w.alloc (.cells #[.int .i64 q, (.slice A l.length cap)] 24)).alloc (.cells #[(.slice AF F.length cF), (.slice AT T.length cT), (.slice AZ Z.length cZ)] 27)).heap.size = (w.alloc (.cells #[.int .i64 q, (.slice A l.length cap)] 24)).heap.size + 1 by simp)
      have hnew := cel3_new (w.alloc (.cells #[.int .i64 q, (.slice A l.length cap)] 24)) (.slice AF F.length cF) (.slice AT T.length cT) (.slice AZ Z.length cZ) 27
      rw [show (w.alloc (.cells #[.int .i64 q, (.slice A l.length cap)] 24)).heap.size = w.heap.size + 1 by simp] at hnew
      have BP_2 := Lib.hid hnew
      clear hnew
      go_enter Try.func4, Try.ntmps4
      obtain ⟨g0_0, g0_1, g0_2⟩ := BX_2.out
      obtain ⟨g1_0, g1_1, g1_2, g1_3, g1_4, g1_5⟩ := BP_2.out.cells
      go_wp2_with fail
      clear g0_0 g0_1 g0_2 g1_0 g1_1 g1_2 g1_3 g1_4 g1_5
      generalize ((w.alloc (.cells #[.int .i64 q, (.slice A l.length cap)] 24)).alloc (.cells #[(.slice AF F.length cF), (.slice AT T.length cT), (.slice AZ Z.length cZ)] 27)) = w2 at *
      generalize (w.alloc (.cells #[.int .i64 q, (.slice A l.length cap)] 24)) = w1 at *
      refine (szGraph_c q A l.length cap 1048576 _ (by omega) (by omega)).mono ?_
      rintro e w3 ⟨rfl, hb⟩
      have Z3 := Lib.hid (within_of hb).size
      have W3 := Lib.hid (within_on W2.out (within_of hb) W2.out.size (.inr (Nat.le_refl _)))
      have HB_3 := Lib.hid (HB_2.out.within (within_of hb) (by omega))
      have HQ_3 := Lib.hid (HQ_2.out.within (within_of hb) (by omega))
      have BX_3 := Lib.hid (BX_2.out.within (within_of hb) (by omega))
      have BP_3 := Lib.hid (BP_2.out.within (within_of hb) (by omega))
      clear hb
      have hnn : ¬ (1048576 : Int) - (l.length : Int) < 0 := by omega
      obtain ⟨g2_0, g2_1, g2_2⟩ := BX_3.out
      obtain ⟨g3_0, g3_1, g3_2, g3_3, g3_4, g3_5⟩ := BP_3.out.cells
      go_wp2_with fail
      clear g2_0 g2_1 g2_2 g3_0 g3_1 g3_2 g3_3 g3_4 g3_5
      refine (szPeb_no AF AT AZ F.length T.length Z.length cF cT cZ (1048576 - (l.length : Int)) _ (by unfold maxLen at hp1; omega) (by unfold maxLen at hp2; omega) (by unfold maxLen at hp3; omega) (by omega) (by omega) (by omega)).mono ?_
      rintro e w4 ⟨rfl, hb⟩
      have Z4 := Lib.hid (within_of hb).size
      have W4 := Lib.hid (within_on W3.out (within_of hb) W3.out.size (.inr (Nat.le_refl _)))
      have HB_4 := Lib.hid (HB_3.out.within (within_of hb) (by omega))
      have HQ_4 := Lib.hid (HQ_3.out.within (within_of hb) (by omega))
      have BX_4 := Lib.hid (BX_3.out.within (within_of hb) (by omega))
      have BP_4 := Lib.hid (BP_3.out.within (within_of hb) (by omega))
      clear hb
      go_wp2_with fail
      go_ret
      exact ⟨rfl, W4.out⟩
  · have hx : (1048576 : Int) < (l.length : Int) := by omega
    have h63 : l.length ≤ 9223372036854775807 := by unfold maxLen at hl; omega
    have W0 := Lib.hid (Below.refl w.heap.size w)
    have Z1 := Lib.hid (within_alloc w (.cells #[.int .i64 q, (.slice A l.length cap)] 24)).size
    have W1 := Lib.hid (within_on W0.out (within_alloc w (.cells #[.int .i64 q, (.slice A l.length cap)] 24)) W0.out.size (.inr (Nat.le_refl _)))
    have HB_1 := Lib.hid (HB_0.out.within (within_alloc w (.cells #[.int .i64 q, (.slice A l.length cap)] 24)) (by omega))
    have HQ_1 := Lib.hid (HQ_0.out.within (within_alloc w (.cells #[.int .i64 q, (.slice A l.length cap)] 24)) (by omega))
    have Y1 := Lib.hid (show (w.alloc (.cells #[.int .i64 q, (.slice A l.length cap)] 24)).heap.size = w.heap.size + 1 by simp)
    have hnew := box_new w q (.slice A l.length cap) 24
    have BX_1 := Lib.hid hnew
    clear hnew
    have Z2 := Lib.hid (within_alloc (w.alloc (.cells #[.int .i64 q, (.slice A l.length cap)] 24)) (.cells #[(.slice AF F.length cF), (.slice AT T.length cT), (.slice AZ Z.length cZ)] 27)).size
    have W2 := Lib.hid (within_on W1.out (within_alloc (w.alloc (.cells #[.int .i64 q, (.slice A l.length cap)] 24)) (.cells #[(.slice AF F.length cF), (.slice AT T.length cT), (.slice AZ Z.length cZ)] 27)) W1.out.size (.inr (Nat.le_refl _)))
    have HB_2 := Lib.hid (HB_1.out.within (within_alloc (w.alloc (.cells #[.int .i64 q, (.slice A l.length cap)] 24)) (.cells #[(.slice AF F.length cF), (.slice AT T.length cT), (.slice AZ Z.length cZ)] 27)) (by omega))
    have HQ_2 := Lib.hid (HQ_1.out.within (within_alloc (w.alloc (.cells #[.int .i64 q, (.slice A l.length cap)] 24)) (.cells #[(.slice AF F.length cF), (.slice AT T.length cT), (.slice AZ Z.length cZ)] 27)) (by omega))
    have BX_2 := Lib.hid (BX_1.out.within (within_alloc (w.alloc (.cells #[.int .i64 q, (.slice A l.length cap)] 24)) (.cells #[(.slice AF F.length cF), (.slice AT T.length cT), (.slice AZ Z.length cZ)] 27)) (by omega))
    have Y2 := Lib.hid (show ((w.alloc (.cells #[.int .i64 q, (.slice A l.length cap)] 24)).alloc (.cells #[(.slice AF F.length cF), (.slice AT T.length cT), (.slice AZ Z.length cZ)] 27)).heap.size = (w.alloc (.cells #[.int .i64 q, (.slice A l.length cap)] 24)).heap.size + 1 by simp)
    have hnew := cel3_new (w.alloc (.cells #[.int .i64 q, (.slice A l.length cap)] 24)) (.slice AF F.length cF) (.slice AT T.length cT) (.slice AZ Z.length cZ) 27
    rw [show (w.alloc (.cells #[.int .i64 q, (.slice A l.length cap)] 24)).heap.size = w.heap.size + 1 by simp] at hnew
    have BP_2 := Lib.hid hnew
    clear hnew
    go_enter Try.func4, Try.ntmps4
    obtain ⟨g0_0, g0_1, g0_2⟩ := BX_2.out
    obtain ⟨g1_0, g1_1, g1_2, g1_3, g1_4, g1_5⟩ := BP_2.out.cells
    go_wp2_with fail
    clear g0_0 g0_1 g0_2 g1_0 g1_1 g1_2 g1_3 g1_4 g1_5
    generalize ((w.alloc (.cells #[.int .i64 q, (.slice A l.length cap)] 24)).alloc (.cells #[(.slice AF F.length cF), (.slice AT T.length cT), (.slice AZ Z.length cZ)] 27)) = w2 at *
    generalize (w.alloc (.cells #[.int .i64 q, (.slice A l.length cap)] 24)) = w1 at *
    refine (szGraph_no q A l.length cap 1048576 _ h63 hx (by omega)).mono ?_
    rintro e w3 ⟨rfl, hb⟩
    have Z3 := Lib.hid (within_of hb).size
    have W3 := Lib.hid (within_on W2.out (within_of hb) W2.out.size (.inr (Nat.le_refl _)))
    have HB_3 := Lib.hid (HB_2.out.within (within_of hb) (by omega))
    have HQ_3 := Lib.hid (HQ_2.out.within (within_of hb) (by omega))
    have BX_3 := Lib.hid (BX_2.out.within (within_of hb) (by omega))
    have BP_3 := Lib.hid (BP_2.out.within (within_of hb) (by omega))
    clear hb
    go_wp2_with fail
    go_ret
    exact ⟨rfl, W3.out⟩
end Go.Proofs.Ytgmcibcjplncaaa
