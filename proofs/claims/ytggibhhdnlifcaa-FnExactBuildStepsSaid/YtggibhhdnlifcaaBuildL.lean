/- The law FnExactBuildSteps returns true at every input. No condition. -/
import Derived.Test.YtggibhhdnlifcaaBuildS
import Derived.Test.YtggibhhdnlifcaaBuildI
import Derived.Test.YtggibhhdnlifcaaMarkS
import Derived.Test.YtggibhhdnlifcaaHeld
namespace Go.Proofs.Ytggibhhdnlifcaa
open Go.RowKit

/-- The steps l lie in a block from lo to hi. -/
def StepsIn (W : World) (lo hi : Nat) (A : Option Addr) (l : List Stp) : Prop :=
  hi ≤ W.heap.size ∧ (0 < l.length → ∃ b off, A = some ⟨b, off, none⟩ ∧ lo ≤ b ∧ b < hi ∧ ∀ k, k < l.length → W.cell? ⟨b, off + k * 5, none⟩ = some (.int .i64 (l.getD k zS).1) ∧ W.cell? ⟨b, off + k * 5 + 1, none⟩ = some (.int .i64 (l.getD k zS).2.1) ∧ W.cell? ⟨b, off + k * 5 + 2, none⟩ = some (.int .i64 (l.getD k zS).2.2.1) ∧ W.cell? ⟨b, off + k * 5 + 3, none⟩ = some (.int .i64 (l.getD k zS).2.2.2.1) ∧ W.cell? ⟨b, off + k * 5 + 4, none⟩ = some (.int .i64 (l.getD k zS).2.2.2.2))
theorem StepsIn.within {W W' : World} {lo hi lo' hi' : Nat} {A : Option Addr} {l : List Stp} (h : StepsIn W lo hi A l) (hw : Within lo' hi' W W') (hd : hi ≤ lo' ∨ hi' ≤ lo) : StepsIn W' lo hi A l :=
  ⟨Nat.le_trans h.1 hw.size, fun hl => by
    obtain ⟨b, off, e, h1, h2, hc⟩ := h.2 hl
    have hk := hw.block b (Nat.lt_of_lt_of_le h2 h.1) (by omega)
    exact ⟨b, off, e, h1, h2, fun k hk' => ⟨(World.cell?_of_block (a := ⟨b, off + k * 5, none⟩) hk).trans (hc k hk').1, (World.cell?_of_block (a := ⟨b, off + k * 5 + 1, none⟩) hk).trans (hc k hk').2.1, (World.cell?_of_block (a := ⟨b, off + k * 5 + 2, none⟩) hk).trans (hc k hk').2.2.1, (World.cell?_of_block (a := ⟨b, off + k * 5 + 3, none⟩) hk).trans (hc k hk').2.2.2.1, (World.cell?_of_block (a := ⟨b, off + k * 5 + 4, none⟩) hk).trans (hc k hk').2.2.2.2⟩⟩⟩
theorem StepsIn.at {W : World} {lo hi : Nat} {A : Option Addr} {l : List Stp} (h : StepsIn W lo hi A l) : StepsAt W W.heap.size A l := fun hl => by
  obtain ⟨b, off, e, h1, h2, hc⟩ := h.2 hl
  exact ⟨b, off, e, Nat.lt_of_lt_of_le h2 h.1, hc⟩
theorem steps_in {W : World} {A : Option Addr} {l : List Stp} (h : StepsAt W W.heap.size A l) : StepsIn W 0 W.heap.size A l :=
  ⟨Nat.le_refl _, fun hl => by obtain ⟨b, off, e, h1, hc⟩ := h hl; exact ⟨b, off, e, Nat.zero_le _, h1, hc⟩⟩
/-- A row of steps of the call's own in a block from lo to hi. -/
def OwnS5 (W : World) (lo hi g : Nat) (l : List Stp) : Prop :=
  hi ≤ W.heap.size ∧ lo ≤ g ∧ g < hi ∧ W.ownsRow lo 41 5 (.slice (some ⟨g, 0, none⟩) l.length l.length) l.length (stepCells l)
theorem OwnS5.within {W W' : World} {lo hi g lo' hi' : Nat} {l : List Stp} (h : OwnS5 W lo hi g l) (hw : Within lo' hi' W W') (hd : hi ≤ lo' ∨ hi' ≤ lo) : OwnS5 W' lo hi g l :=
  ⟨Nat.le_trans h.1 hw.size, h.2.1, h.2.2.1, own_block h.2.2.2 (hw.block g (Nat.lt_of_lt_of_le h.2.2.1 h.1) (by have := h.2.1; have := h.2.2.1; omega))⟩
theorem OwnS5.steps {W : World} {lo hi g : Nat} {l : List Stp} (h : OwnS5 W lo hi g l) : StepsIn W lo hi (some ⟨g, 0, none⟩) l :=
  ⟨h.1, fun hl => by
    obtain ⟨b, off, e, _, hc⟩ := own_steps h.2.2.2 hl
    cases e
    exact ⟨g, 0, rfl, h.2.1, h.2.2.1, hc⟩⟩
theorem own5 {w' : World} {base g : Nat} {l : List Stp} (h : w'.ownsRow base 41 5 (.slice (some ⟨g, 0, none⟩) l.length l.length) l.length (stepCells l)) : OwnS5 w' base w'.heap.size g l := ⟨Nat.le_refl _, (h.lt g rfl).1, (h.lt g rfl).2, h⟩
theorem markSteps_o (g : Nat) (l : List Stp) (k : Int) (lo hi : Nat) (w : World) (h : OwnS5 w lo hi g l) (hn : l.length ≤ 1048576) (hk0 : 0 ≤ k) (hk1 : k ≤ 10000000) :
    Calls Try.prog 29 #[.slice (some ⟨g, 0, none⟩) l.length l.length, .int .i64 k] w fun e w' => e = .returned (.int .i64 (k + 5 * (l.length : Int))) ∧ Within lo hi w w' := by
  refine (markSteps_c g l l.length k lo w h.2.2.2 hn hk0 hk1).mono ?_
  rintro e w1 ⟨rfl, _, hg1⟩
  exact ⟨rfl, hg1.os, hg1.tape, hg1.output, hg1.size, fun j hj hd => hg1.block j hj (by have := h.2.1; have := h.2.2.1; simp; omega)⟩
theorem bldV_len (p : Int) (l : List Stp) : (bldV p l).length ≤ 1048576 := by
  unfold bldV
  split
  · exact bldL_len p l l.length
  · simp

set_option maxHeartbeats 2000000 in
set_option maxRecDepth 100000 in
theorem lawBuildSteps (p : Int) (A : Option Addr) (cap : Nat) (l : List Stp) (w : World) (_wp : (Lit.int .i64 p).wf = true) (hl : l.length ≤ maxLen) (hb : StepsAt w w.heap.size A l) (_hw : WfS l) :
    Calls Try.prog 5 #[.int .i64 p, .slice A l.length cap] w fun e w' => e = .returned (.bool true) ∧ Below w.heap.size w w' := by
  have HB_0 := Lib.hid (steps_in hb)
  clear hb
  by_cases hn : l.length ≤ 1048576
  · skip
    obtain ⟨P, V, R, hvl, hsp, him⟩ : ∃ (P : Int) (V : List (Int × Int)) (R : Bool), V.length ≤ 1048576 ∧ (∀ (A : Option Addr) (cap : Nat) (W : World) (h : StepsAt W W.heap.size A l), Calls Try.prog 25 #[.int .i64 p, .slice A l.length cap] W (GraphRB W P V R)) ∧ (∀ (A : Option Addr) (cap : Nat) (W : World) (h : StepsAt W W.heap.size A l), Calls Try.prog 27 #[.int .i64 p, .slice A l.length cap] W (GraphOB W P V R)) :=
      ⟨bldP p l, bldV p l, bldB p l, bldV_len p l, fun A cap W h => specBuild p l A cap W h hn, fun A cap W h => implBuild p l A cap W h hn⟩
    have HSP := Lib.hid hsp
    have HIM := Lib.hid him
    clear hsp him
    have hnn : ¬ (1048576 : Int) - (l.length : Int) < 0 := by omega
    have W0 := Lib.hid (Below.refl w.heap.size w)
    go_enter Try.func5, Try.ntmps5
    go_wp2_with fail
    refine (szSteps_c A l.length cap 1048576 _ (by omega) (by omega)).mono ?_
    rintro e w0 ⟨rfl, rfl⟩
    go_wp2_with fail
    refine (toSteps_c l A cap _ HB_0.out.at hn).mono ?_
    rintro e w1 ⟨s0, rfl, ho, hb⟩
    have Z1 := Lib.hid (within_of hb).size
    have W1 := Lib.hid (within_on W0.out (within_of hb) W0.out.size (.inr (Nat.le_refl _)))
    have HB_1 := Lib.hid (HB_0.out.within (within_of hb) (by omega))
    have SG_1 := Lib.hid (steps_in (own_steps ho))
    clear ho hb
    go_wp2_with fail
    refine (HSP.out _ l.length _ SG_1.out.at).mono ?_
    rintro e w2 ⟨AS, cS, rfl, ho, hb⟩
    have Z2 := Lib.hid (within_of hb).size
    have W2 := Lib.hid (within_on W1.out (within_of hb) W1.out.size (.inr (Nat.le_refl _)))
    have HB_2 := Lib.hid (HB_1.out.within (within_of hb) (by omega))
    have SG_2 := Lib.hid (SG_1.out.within (within_of hb) (by omega))
    have SR_2 := Lib.hid (bars_in ho)
    clear ho hb
    have Z3 := Lib.hid (within_alloc w2 (.cells #[.int .i64 P, (.slice AS V.length cS)] 30)).size
    have W3 := Lib.hid (within_on W2.out (within_alloc w2 (.cells #[.int .i64 P, (.slice AS V.length cS)] 30)) W2.out.size (.inr (Nat.le_refl _)))
    have HB_3 := Lib.hid (HB_2.out.within (within_alloc w2 (.cells #[.int .i64 P, (.slice AS V.length cS)] 30)) (by omega))
    have SG_3 := Lib.hid (SG_2.out.within (within_alloc w2 (.cells #[.int .i64 P, (.slice AS V.length cS)] 30)) (by omega))
    have SR_3 := Lib.hid (SR_2.out.within (within_alloc w2 (.cells #[.int .i64 P, (.slice AS V.length cS)] 30)) (by omega))
    have Y3 := Lib.hid (show (w2.alloc (.cells #[.int .i64 P, (.slice AS V.length cS)] 30)).heap.size = w2.heap.size + 1 by simp)
    have hnew := box_new w2 P (.slice AS V.length cS) 30
    have BW_3 := Lib.hid hnew
    clear hnew
    go_wp2_with fail
    generalize (w2.alloc (.cells #[.int .i64 P, (.slice AS V.length cS)] 30)) = w3 at *
    refine (toSteps_c l A cap _ HB_3.out.at hn).mono ?_
    rintro e w4 ⟨x0, rfl, ho, hb⟩
    have Z4 := Lib.hid (within_of hb).size
    have W4 := Lib.hid (within_on W3.out (within_of hb) W3.out.size (.inr (Nat.le_refl _)))
    have HB_4 := Lib.hid (HB_3.out.within (within_of hb) (by omega))
    have SG_4 := Lib.hid (SG_3.out.within (within_of hb) (by omega))
    have SR_4 := Lib.hid (SR_3.out.within (within_of hb) (by omega))
    have BW_4 := Lib.hid (BW_3.out.within (within_of hb) (by omega))
    have SX_4 := Lib.hid (own5 ho)
    clear ho hb
    go_wp2_with fail
    refine (HIM.out _ l.length _ SX_4.out.steps.at).mono ?_
    rintro e w5 ⟨AG, cG, rfl, ho, hb⟩
    have Z5 := Lib.hid (within_of hb).size
    have W5 := Lib.hid (within_on W4.out (within_of hb) W4.out.size (.inr (Nat.le_refl _)))
    have HB_5 := Lib.hid (HB_4.out.within (within_of hb) (by omega))
    have SG_5 := Lib.hid (SG_4.out.within (within_of hb) (by omega))
    have SR_5 := Lib.hid (SR_4.out.within (within_of hb) (by omega))
    have BW_5 := Lib.hid (BW_4.out.within (within_of hb) (by omega))
    have SX_5 := Lib.hid (SX_4.out.within (within_of hb) (by omega))
    have SO_5 := Lib.hid (ho)
    clear ho hb
    have Z6 := Lib.hid (within_alloc w5 (.cells #[.int .i64 P, (.slice AG V.length cG)] 30)).size
    have W6 := Lib.hid (within_on W5.out (within_alloc w5 (.cells #[.int .i64 P, (.slice AG V.length cG)] 30)) W5.out.size (.inr (Nat.le_refl _)))
    have HB_6 := Lib.hid (HB_5.out.within (within_alloc w5 (.cells #[.int .i64 P, (.slice AG V.length cG)] 30)) (by omega))
    have SG_6 := Lib.hid (SG_5.out.within (within_alloc w5 (.cells #[.int .i64 P, (.slice AG V.length cG)] 30)) (by omega))
    have SR_6 := Lib.hid (SR_5.out.within (within_alloc w5 (.cells #[.int .i64 P, (.slice AG V.length cG)] 30)) (by omega))
    have BW_6 := Lib.hid (BW_5.out.within (within_alloc w5 (.cells #[.int .i64 P, (.slice AG V.length cG)] 30)) (by omega))
    have SX_6 := Lib.hid (SX_5.out.within (within_alloc w5 (.cells #[.int .i64 P, (.slice AG V.length cG)] 30)) (by omega))
    have SO_6 := Lib.hid (SO_5.out.within (within_alloc w5 (.cells #[.int .i64 P, (.slice AG V.length cG)] 30)) (by omega))
    have Y6 := Lib.hid (show (w5.alloc (.cells #[.int .i64 P, (.slice AG V.length cG)] 30)).heap.size = w5.heap.size + 1 by simp)
    have hnew := box_new w5 P (.slice AG V.length cG) 30
    have BG_6 := Lib.hid hnew
    clear hnew
    obtain ⟨g0_0, g0_1, g0_2⟩ := BG_6.out
    obtain ⟨g1_0, g1_1, g1_2⟩ := BW_6.out
    go_wp2_with fail
    clear g0_0 g0_1 g0_2 g1_0 g1_1 g1_2
    generalize (w5.alloc (.cells #[.int .i64 P, (.slice AG V.length cG)] 30)) = w6 at *
    refine (eqGraph_c P V AG AS cG cS _ SO_6.out.bars.at SR_6.out.at hvl).mono ?_
    rintro e w7 ⟨rfl, hb⟩
    have Z7 := Lib.hid (within_of hb).size
    have W7 := Lib.hid (within_on W6.out (within_of hb) W6.out.size (.inr (Nat.le_refl _)))
    have HB_7 := Lib.hid (HB_6.out.within (within_of hb) (by omega))
    have SG_7 := Lib.hid (SG_6.out.within (within_of hb) (by omega))
    have SR_7 := Lib.hid (SR_6.out.within (within_of hb) (by omega))
    have BW_7 := Lib.hid (BW_6.out.within (within_of hb) (by omega))
    have SX_7 := Lib.hid (SX_6.out.within (within_of hb) (by omega))
    have SO_7 := Lib.hid (SO_6.out.within (within_of hb) (by omega))
    have BG_7 := Lib.hid (BG_6.out.within (within_of hb) (by omega))
    clear hb
    go_wp2_with fail
    refine (toSteps_c l A cap _ HB_7.out.at hn).mono ?_
    rintro e w8 ⟨y0, rfl, ho, hb⟩
    have Z8 := Lib.hid (within_of hb).size
    have W8 := Lib.hid (within_on W7.out (within_of hb) W7.out.size (.inr (Nat.le_refl _)))
    have HB_8 := Lib.hid (HB_7.out.within (within_of hb) (by omega))
    have SG_8 := Lib.hid (SG_7.out.within (within_of hb) (by omega))
    have SR_8 := Lib.hid (SR_7.out.within (within_of hb) (by omega))
    have BW_8 := Lib.hid (BW_7.out.within (within_of hb) (by omega))
    have SX_8 := Lib.hid (SX_7.out.within (within_of hb) (by omega))
    have SO_8 := Lib.hid (SO_7.out.within (within_of hb) (by omega))
    have BG_8 := Lib.hid (BG_7.out.within (within_of hb) (by omega))
    have YG_8 := Lib.hid (steps_in (own_steps ho))
    clear ho hb
    go_wp2_with fail
    refine (eqSteps_c l (some ⟨x0, 0, none⟩) (some ⟨y0, 0, none⟩) l.length l.length _ SX_8.out.steps.at YG_8.out.at hn).mono ?_
    rintro e w9 ⟨rfl, hb⟩
    have Z9 := Lib.hid (within_of hb).size
    have W9 := Lib.hid (within_on W8.out (within_of hb) W8.out.size (.inr (Nat.le_refl _)))
    have HB_9 := Lib.hid (HB_8.out.within (within_of hb) (by omega))
    have SG_9 := Lib.hid (SG_8.out.within (within_of hb) (by omega))
    have SR_9 := Lib.hid (SR_8.out.within (within_of hb) (by omega))
    have BW_9 := Lib.hid (BW_8.out.within (within_of hb) (by omega))
    have SX_9 := Lib.hid (SX_8.out.within (within_of hb) (by omega))
    have SO_9 := Lib.hid (SO_8.out.within (within_of hb) (by omega))
    have BG_9 := Lib.hid (BG_8.out.within (within_of hb) (by omega))
    have YG_9 := Lib.hid (YG_8.out.within (within_of hb) (by omega))
    clear hb
    go_wp2_with fail
    refine (markSteps_o x0 l 1 w3.heap.size w4.heap.size _ SX_9.out hn (by omega) (by omega)).mono ?_
    rintro e w10 ⟨rfl, hin⟩
    have Z10 := Lib.hid (hin).size
    have W10 := Lib.hid (within_on W9.out (hin) W9.out.size (by have := Z1.out; have := Z2.out; have := Z3.out; have := Z4.out; have := Z5.out; have := Z6.out; have := Z7.out; have := Z8.out; have := Z9.out; have := Z10.out; have := Y3.out; have := Y6.out; omega))
    have HB_10 := Lib.hid (HB_9.out.within (hin) (by have := Z1.out; have := Z2.out; have := Z3.out; have := Z4.out; have := Z5.out; have := Z6.out; have := Z7.out; have := Z8.out; have := Z9.out; have := Z10.out; have := Y3.out; have := Y6.out; omega))
    have SR_10 := Lib.hid (SR_9.out.within (hin) (by have := Z1.out; have := Z2.out; have := Z3.out; have := Z4.out; have := Z5.out; have := Z6.out; have := Z7.out; have := Z8.out; have := Z9.out; have := Z10.out; have := Y3.out; have := Y6.out; omega))
    have BW_10 := Lib.hid (BW_9.out.within (hin) (by have := Z1.out; have := Z2.out; have := Z3.out; have := Z4.out; have := Z5.out; have := Z6.out; have := Z7.out; have := Z8.out; have := Z9.out; have := Z10.out; have := Y3.out; have := Y6.out; omega))
    have SO_10 := Lib.hid (SO_9.out.within (hin) (by have := Z1.out; have := Z2.out; have := Z3.out; have := Z4.out; have := Z5.out; have := Z6.out; have := Z7.out; have := Z8.out; have := Z9.out; have := Z10.out; have := Y3.out; have := Y6.out; omega))
    have BG_10 := Lib.hid (BG_9.out.within (hin) (by have := Z1.out; have := Z2.out; have := Z3.out; have := Z4.out; have := Z5.out; have := Z6.out; have := Z7.out; have := Z8.out; have := Z9.out; have := Z10.out; have := Y3.out; have := Y6.out; omega))
    clear hin
    have hk1 : ¬ (1 : Int) + 5 * (l.length : Int) < 0 := by omega
    obtain ⟨g2_0, g2_1, g2_2⟩ := BG_10.out
    obtain ⟨g3_0, g3_1, g3_2⟩ := BW_10.out
    go_wp2_with fail
    clear g2_0 g2_1 g2_2 g3_0 g3_1 g3_2
    refine (eqGraph_c P V AG AS cG cS _ SO_10.out.bars.at SR_10.out.at hvl).mono ?_
    rintro e w11 ⟨rfl, hb⟩
    have Z11 := Lib.hid (within_of hb).size
    have W11 := Lib.hid (within_on W10.out (within_of hb) W10.out.size (.inr (Nat.le_refl _)))
    have HB_11 := Lib.hid (HB_10.out.within (within_of hb) (by omega))
    have SR_11 := Lib.hid (SR_10.out.within (within_of hb) (by omega))
    have BW_11 := Lib.hid (BW_10.out.within (within_of hb) (by omega))
    have SO_11 := Lib.hid (SO_10.out.within (within_of hb) (by omega))
    have BG_11 := Lib.hid (BG_10.out.within (within_of hb) (by omega))
    clear hb
    obtain ⟨g4_0, g4_1, g4_2⟩ := BG_11.out
    go_wp2_with fail
    clear g4_0 g4_1 g4_2
    refine (markGraph_o P AG cG V 1 w4.heap.size w5.heap.size _ SO_11.out hvl (by omega) (by omega)).mono ?_
    rintro e w12 ⟨rfl, hin, hog⟩
    have Z12 := Lib.hid (hin).size
    have W12 := Lib.hid (within_on W11.out (hin) W11.out.size (by have := Z1.out; have := Z2.out; have := Z3.out; have := Z4.out; have := Z5.out; have := Z6.out; have := Z7.out; have := Z8.out; have := Z9.out; have := Z10.out; have := Z11.out; have := Z12.out; have := Y3.out; have := Y6.out; omega))
    have HB_12 := Lib.hid (HB_11.out.within (hin) (by have := Z1.out; have := Z2.out; have := Z3.out; have := Z4.out; have := Z5.out; have := Z6.out; have := Z7.out; have := Z8.out; have := Z9.out; have := Z10.out; have := Z11.out; have := Z12.out; have := Y3.out; have := Y6.out; omega))
    have SR_12 := Lib.hid (SR_11.out.within (hin) (by have := Z1.out; have := Z2.out; have := Z3.out; have := Z4.out; have := Z5.out; have := Z6.out; have := Z7.out; have := Z8.out; have := Z9.out; have := Z10.out; have := Z11.out; have := Z12.out; have := Y3.out; have := Y6.out; omega))
    have BW_12 := Lib.hid (BW_11.out.within (hin) (by have := Z1.out; have := Z2.out; have := Z3.out; have := Z4.out; have := Z5.out; have := Z6.out; have := Z7.out; have := Z8.out; have := Z9.out; have := Z10.out; have := Z11.out; have := Z12.out; have := Y3.out; have := Y6.out; omega))
    have BG_12 := Lib.hid (BG_11.out.within (hin) (by have := Z1.out; have := Z2.out; have := Z3.out; have := Z4.out; have := Z5.out; have := Z6.out; have := Z7.out; have := Z8.out; have := Z9.out; have := Z10.out; have := Z11.out; have := Z12.out; have := Y3.out; have := Y6.out; omega))
    have SM_12 := Lib.hid (hog)
    clear hog hin
    obtain ⟨g5_0, g5_1, g5_2⟩ := BG_12.out
    go_wp2_with fail
    clear g5_0 g5_1 g5_2
    have hk2 : ¬ (1 : Int) + 2 * (V.length : Int) < 0 := by omega
    refine (heldGraph_o P V.length AG cG 1 w4.heap.size w5.heap.size _ SM_12.out hvl (by omega) (by omega)).mono ?_
    rintro e w13 ⟨rfl, hb⟩
    have Z13 := Lib.hid (within_of hb).size
    have W13 := Lib.hid (within_on W12.out (within_of hb) W12.out.size (.inr (Nat.le_refl _)))
    have HB_13 := Lib.hid (HB_12.out.within (within_of hb) (by omega))
    have SR_13 := Lib.hid (SR_12.out.within (within_of hb) (by omega))
    have BW_13 := Lib.hid (BW_12.out.within (within_of hb) (by omega))
    have BG_13 := Lib.hid (BG_12.out.within (within_of hb) (by omega))
    have SM_13 := Lib.hid (SM_12.out.within (within_of hb) (by omega))
    clear hb
    go_wp2_with fail
    refine (toSteps_c l A cap _ HB_13.out.at hn).mono ?_
    rintro e w14 ⟨z0, rfl, ho, hb⟩
    have Z14 := Lib.hid (within_of hb).size
    have W14 := Lib.hid (within_on W13.out (within_of hb) W13.out.size (.inr (Nat.le_refl _)))
    have HB_14 := Lib.hid (HB_13.out.within (within_of hb) (by omega))
    have SR_14 := Lib.hid (SR_13.out.within (within_of hb) (by omega))
    have BW_14 := Lib.hid (BW_13.out.within (within_of hb) (by omega))
    have BG_14 := Lib.hid (BG_13.out.within (within_of hb) (by omega))
    have SM_14 := Lib.hid (SM_13.out.within (within_of hb) (by omega))
    have SZ_14 := Lib.hid (steps_in (own_steps ho))
    clear ho hb
    go_wp2_with fail
    refine (HIM.out _ l.length _ SZ_14.out.at).mono ?_
    rintro e w15 ⟨AH, cH, rfl, ho, hb⟩
    have Z15 := Lib.hid (within_of hb).size
    have W15 := Lib.hid (within_on W14.out (within_of hb) W14.out.size (.inr (Nat.le_refl _)))
    have HB_15 := Lib.hid (HB_14.out.within (within_of hb) (by omega))
    have SR_15 := Lib.hid (SR_14.out.within (within_of hb) (by omega))
    have BW_15 := Lib.hid (BW_14.out.within (within_of hb) (by omega))
    have BG_15 := Lib.hid (BG_14.out.within (within_of hb) (by omega))
    have SM_15 := Lib.hid (SM_14.out.within (within_of hb) (by omega))
    have SZ_15 := Lib.hid (SZ_14.out.within (within_of hb) (by omega))
    have SH_15 := Lib.hid (ho)
    clear ho hb
    have Z16 := Lib.hid (within_alloc w15 (.cells #[.int .i64 P, (.slice AH V.length cH)] 30)).size
    have W16 := Lib.hid (within_on W15.out (within_alloc w15 (.cells #[.int .i64 P, (.slice AH V.length cH)] 30)) W15.out.size (.inr (Nat.le_refl _)))
    have HB_16 := Lib.hid (HB_15.out.within (within_alloc w15 (.cells #[.int .i64 P, (.slice AH V.length cH)] 30)) (by omega))
    have SR_16 := Lib.hid (SR_15.out.within (within_alloc w15 (.cells #[.int .i64 P, (.slice AH V.length cH)] 30)) (by omega))
    have BW_16 := Lib.hid (BW_15.out.within (within_alloc w15 (.cells #[.int .i64 P, (.slice AH V.length cH)] 30)) (by omega))
    have BG_16 := Lib.hid (BG_15.out.within (within_alloc w15 (.cells #[.int .i64 P, (.slice AH V.length cH)] 30)) (by omega))
    have SM_16 := Lib.hid (SM_15.out.within (within_alloc w15 (.cells #[.int .i64 P, (.slice AH V.length cH)] 30)) (by omega))
    have SZ_16 := Lib.hid (SZ_15.out.within (within_alloc w15 (.cells #[.int .i64 P, (.slice AH V.length cH)] 30)) (by omega))
    have SH_16 := Lib.hid (SH_15.out.within (within_alloc w15 (.cells #[.int .i64 P, (.slice AH V.length cH)] 30)) (by omega))
    have Y16 := Lib.hid (show (w15.alloc (.cells #[.int .i64 P, (.slice AH V.length cH)] 30)).heap.size = w15.heap.size + 1 by simp)
    have hnew := box_new w15 P (.slice AH V.length cH) 30
    have BH_16 := Lib.hid hnew
    clear hnew
    obtain ⟨g6_0, g6_1, g6_2⟩ := BH_16.out
    obtain ⟨g7_0, g7_1, g7_2⟩ := BW_16.out
    go_wp2_with fail
    clear g6_0 g6_1 g6_2 g7_0 g7_1 g7_2
    generalize (w15.alloc (.cells #[.int .i64 P, (.slice AH V.length cH)] 30)) = w16 at *
    refine (eqGraph_c P V AH AS cH cS _ SH_16.out.bars.at SR_16.out.at hvl).mono ?_
    rintro e w17 ⟨rfl, hb⟩
    have Z17 := Lib.hid (within_of hb).size
    have W17 := Lib.hid (within_on W16.out (within_of hb) W16.out.size (.inr (Nat.le_refl _)))
    have HB_17 := Lib.hid (HB_16.out.within (within_of hb) (by omega))
    have SR_17 := Lib.hid (SR_16.out.within (within_of hb) (by omega))
    have BW_17 := Lib.hid (BW_16.out.within (within_of hb) (by omega))
    have BG_17 := Lib.hid (BG_16.out.within (within_of hb) (by omega))
    have SM_17 := Lib.hid (SM_16.out.within (within_of hb) (by omega))
    have SZ_17 := Lib.hid (SZ_16.out.within (within_of hb) (by omega))
    have SH_17 := Lib.hid (SH_16.out.within (within_of hb) (by omega))
    have BH_17 := Lib.hid (BH_16.out.within (within_of hb) (by omega))
    clear hb
    obtain ⟨g8_0, g8_1, g8_2⟩ := BG_17.out
    go_wp2_with fail
    clear g8_0 g8_1 g8_2
    refine (heldGraph_o P V.length AG cG 1 w4.heap.size w5.heap.size _ SM_17.out hvl (by omega) (by omega)).mono ?_
    rintro e w18 ⟨rfl, hb⟩
    have Z18 := Lib.hid (within_of hb).size
    have W18 := Lib.hid (within_on W17.out (within_of hb) W17.out.size (.inr (Nat.le_refl _)))
    have HB_18 := Lib.hid (HB_17.out.within (within_of hb) (by omega))
    have SR_18 := Lib.hid (SR_17.out.within (within_of hb) (by omega))
    have BW_18 := Lib.hid (BW_17.out.within (within_of hb) (by omega))
    have BG_18 := Lib.hid (BG_17.out.within (within_of hb) (by omega))
    have SM_18 := Lib.hid (SM_17.out.within (within_of hb) (by omega))
    have SZ_18 := Lib.hid (SZ_17.out.within (within_of hb) (by omega))
    have SH_18 := Lib.hid (SH_17.out.within (within_of hb) (by omega))
    have BH_18 := Lib.hid (BH_17.out.within (within_of hb) (by omega))
    clear hb
    go_wp2_with fail
    go_ret
    exact ⟨rfl, W18.out⟩
  · have hx : (1048576 : Int) < (l.length : Int) := by omega
    have hnn : (1048576 : Int) - (l.length : Int) < 0 := by omega
    go_enter Try.func5, Try.ntmps5
    go_wp2_with fail
    refine (szSteps_no A l.length cap 1048576 _ (by unfold maxLen at hl; omega) (by omega) (by omega)).mono ?_
    rintro e w0 ⟨rfl, rfl⟩
    go_wp2_with fail
    go_ret
    exact ⟨rfl, Below.refl _ _⟩
end Go.Proofs.Ytggibhhdnlifcaa
