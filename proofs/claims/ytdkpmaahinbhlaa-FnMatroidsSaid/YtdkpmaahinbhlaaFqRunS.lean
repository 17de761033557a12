/- What spec.RunPebbles answers. No condition. -/
import Derived.Test.YtdkpmaahinbhlaaFqB1
import Derived.Test.YtdkpmaahinbhlaaFqPlaPS
import Derived.Test.YtdkpmaahinbhlaaFqB3
namespace Go.Proofs.Ytdkpmaahinbhlaa
open Go.RowKit

/-- What stands in the specification's run of the game: the graph's box, the result's box, the state's box. -/
structure RunS (w W : World) (P : Nat) (A : Option Addr) (cap : Nat) (l : List (Int × Int)) (pb lo hi : Nat) (AF AT AZ : Option Addr) (cF cT cZ : Nat) (R : List Int × List Int × List Int) : Prop where
  gb : Box W w.heap.size (P : Int) (.slice A l.length cap)
  rb : Cel3 W (w.heap.size + 1) 31 (.slice none 0 0) (.slice none 0 0) (.slice none 0 0)
  st : Cel3 W pb 31 (.slice AF R.1.length cF) (.slice AT R.2.1.length cT) (.slice AZ R.2.2.length cZ)
  own : Own3 W lo hi AF cF AT cT AZ cZ R.1 R.2.1 R.2.2
  bars : BarsIn W 0 w.heap.size A l
  bel : Below w.heap.size w W
  hlo : w.heap.size + 2 ≤ lo
  hpb : w.heap.size + 2 ≤ pb ∧ (pb < lo ∨ hi ≤ pb)
theorem RunS.put {w W W' : World} {P : Nat} {A : Option Addr} {cap : Nat} {l : List (Int × Int)} {pb lo hi : Nat} {AF AT AZ BF BT BZ : Option Addr} {cF cT cZ dF dT dZ : Nat} {R Q : List Int × List Int × List Int} (h : RunS w W P A cap l pb lo hi AF AT AZ cF cT cZ R)
    (ho : Own3 W' W.heap.size W'.heap.size BF dF BT dT BZ dZ Q.1 Q.2.1 Q.2.2) (hb : Below W.heap.size W W') :
    RunS w (((W'.setCell ⟨pb, 0, none⟩ (.slice BF Q.1.length dF)).setCell ⟨pb, 1, none⟩ (.slice BT Q.2.1.length dT)).setCell ⟨pb, 2, none⟩ (.slice BZ Q.2.2.length dZ)) P A cap l pb W.heap.size W'.heap.size BF BT BZ dF dT dZ Q := by
  obtain ⟨h1, h2, h3, _, h5, h6, h7, h8⟩ := h
  have hlt := h3.lt
  have r3 := ret3 (h3.kept hb) (.slice BF Q.1.length dF) (.slice BT Q.2.1.length dT) (.slice BZ Q.2.2.length dZ)
  have hs := h6.size
  have hs2 := hb.size
  exact ⟨(h1.kept hb).within r3.2 (by omega), (h2.kept hb).within r3.2 (by omega), r3.1, ho.within r3.2 (.inr (by omega)), (h5.within (within_of hb) (.inr (Nat.zero_le _))).within r3.2 (by omega), within_on (below_on h6 hb h6.size) r3.2 (by omega) (.inl (by omega)), by omega, by omega, .inl hlt⟩
theorem own3_hi {W : World} {lo hi : Nat} {AF AT AZ : Option Addr} {cF cT cZ : Nat} {F T Z : List Int} (h : Own3 W lo hi AF cF AT cT AZ cZ F T Z) : hi ≤ W.heap.size := by
  obtain ⟨_, _, _, _, _, _, _, _, _, _, _, _, h4⟩ := h
  exact h4
theorem runN_wf {P : Nat} {k c : Int} {l : List (Int × Int)} (h : newB (P : Int) k l = true) (h2 : rangeB k c = true) {n : Nat} (hn : n ≤ l.length) : WfI (runN P k c l n).1 := fun v hv => by
  have h3 := runN_at h h2 hn
  have h4 := h3.2.2.2.2.2 v hv
  have h5 := h3.2.1
  have h6 : (runN P k c l n).1.getD v 0 = 0 ∨ (runN P k c l n).1.getD v 0 = 1 ∨ (runN P k c l n).1.getD v 0 = 2 ∨ (runN P k c l n).1.getD v 0 = 3 := by omega
  unfold Wf
  rcases h6 with e | e | e | e <;> rw [e] <;> rfl
/-- The specification's next bar. -/
theorem specPlaRun {P : Nat} {k c : Int} {l : List (Int × Int)} (h : newB (P : Int) k l = true) (h2 : rangeB k c = true) {n : Nat} (hn : n < l.length) (A : Option Addr) (cap : Nat) (AF AT AZ : Option Addr) (cF cT cZ lo hi : Nat) (W : World) (hl : BarsAt W W.heap.size A l) (hp : Peb3 W lo hi AF AT AZ (runN P k c l n).1 (runN P k c l n).2.1 (runN P k c l n).2.2) :
    Calls Try.prog 34 #[.agg #[.int .i64 (P : Int), .slice A l.length cap], .int .i64 k, .int .i64 c, pebV AF (runN P k c l n).1.length cF AT (runN P k c l n).2.1.length cT AZ (runN P k c l n).2.2.length cZ, .int .i64 (n : Int)] W (fun e W' => ∃ r, PebOB W (runN P k c l (n + 1)).1 (runN P k c l (n + 1)).2.1 (runN P k c l (n + 1)).2.2 r e W') := by
  have hs := runN_step h h2 hn
  have hlen := runN_len h h2 (Nat.le_of_lt hn)
  have hG := (newB_is h).1.2.1
  refine (specPlaP P k c l A cap AF AT AZ cF cT cZ lo hi _ _ _ (n : Int) W hl hp (by omega) (by omega) (by omega) (by omega) (runN_wf h h2 (Nat.le_of_lt hn))).mono fun e W' he => ?_
  rw [hs.1] at he
  rw [hs.2]
  exact ⟨_, he⟩

set_option maxHeartbeats 4000000 in
set_option maxRecDepth 100000 in
theorem specRunP (p k c : Int) (l : List (Int × Int)) (A : Option Addr) (cap : Nat) (w : World) (hl : BarsAt w w.heap.size A l) (hn : l.length ≤ 1048576) :
    Calls Try.prog 17 #[.agg #[.int .i64 p, .slice A l.length cap], .int .i64 k, .int .i64 c] w (PebOB w (runV p k c l).1 (runV p k c l).2.1 (runV p k c l).2.2 (runB p k c l)) := by
  by_cases hb1 : newB p k l = true
  case neg =>
    have hb1' : newB p k l = false := by simpa using hb1
    have HR := Lib.hid (runV_no (c := c) (.inl hb1'))
    clear hb1
    rename newB p k l = false => hb1
    have HNW : ∀ W : World, BarsAt W W.heap.size A l → Calls Try.prog 37 #[.agg #[.int .i64 p, .slice A l.length cap], .int .i64 k] W (PebOB W (newF p k l) [] [] false) := fun W h => by have hc := specNewP p k l A cap W h hn; rw [hb1] at hc; exact hc
    clear hb1
    have W0 := Lib.hid (Below.refl w.heap.size w)
    have HB_0 := Lib.hid (bars_in hl)
    clear hl
    have Z1 := Lib.hid (within_alloc w (.cells #[.int .i64 p, (.slice A l.length cap)] 26)).size
    have W1 := Lib.hid (within_on W0.out (within_alloc w (.cells #[.int .i64 p, (.slice A l.length cap)] 26)) W0.out.size (.inr (Nat.le_refl _)))
    have HB_1 := Lib.hid (HB_0.out.within (within_alloc w (.cells #[.int .i64 p, (.slice A l.length cap)] 26)) (by omega))
    have Y1 := Lib.hid (show (w.alloc (.cells #[.int .i64 p, (.slice A l.length cap)] 26)).heap.size = w.heap.size + 1 by simp)
    have hnew := box_new w p (.slice A l.length cap) 26
    have BX_1 := Lib.hid hnew
    clear hnew
    have Z2 := Lib.hid (within_alloc (w.alloc (.cells #[.int .i64 p, (.slice A l.length cap)] 26)) (.cells #[(.slice none 0 0), (.slice none 0 0), (.slice none 0 0)] 31)).size
    have W2 := Lib.hid (within_on W1.out (within_alloc (w.alloc (.cells #[.int .i64 p, (.slice A l.length cap)] 26)) (.cells #[(.slice none 0 0), (.slice none 0 0), (.slice none 0 0)] 31)) W1.out.size (.inr (Nat.le_refl _)))
    have HB_2 := Lib.hid (HB_1.out.within (within_alloc (w.alloc (.cells #[.int .i64 p, (.slice A l.length cap)] 26)) (.cells #[(.slice none 0 0), (.slice none 0 0), (.slice none 0 0)] 31)) (by omega))
    have BX_2 := Lib.hid (BX_1.out.within (within_alloc (w.alloc (.cells #[.int .i64 p, (.slice A l.length cap)] 26)) (.cells #[(.slice none 0 0), (.slice none 0 0), (.slice none 0 0)] 31)) (by omega))
    have Y2 := Lib.hid (show ((w.alloc (.cells #[.int .i64 p, (.slice A l.length cap)] 26)).alloc (.cells #[(.slice none 0 0), (.slice none 0 0), (.slice none 0 0)] 31)).heap.size = (w.alloc (.cells #[.int .i64 p, (.slice A l.length cap)] 26)).heap.size + 1 by simp)
    have hnew := cel3_new (w.alloc (.cells #[.int .i64 p, (.slice A l.length cap)] 26)) (.slice none 0 0) (.slice none 0 0) (.slice none 0 0) 31
    rw [show (w.alloc (.cells #[.int .i64 p, (.slice A l.length cap)] 26)).heap.size = w.heap.size + 1 by simp] at hnew
    have GR_2 := Lib.hid hnew
    clear hnew
    go_enter Try.func17, Try.ntmps17
    obtain ⟨g0_0, g0_1, g0_2⟩ := BX_2.out
    go_wp2_with fail
    clear g0_0 g0_1 g0_2
    generalize ((w.alloc (.cells #[.int .i64 p, (.slice A l.length cap)] 26)).alloc (.cells #[(.slice none 0 0), (.slice none 0 0), (.slice none 0 0)] 31)) = w2 at *
    generalize (w.alloc (.cells #[.int .i64 p, (.slice A l.length cap)] 26)) = w1 at *
    refine (HNW _ HB_2.out.at).mono ?_
    rintro e w3 ⟨AF, cF, AT, cT, AZ, cZ, rfl, ho, hb⟩
    have Z3 := Lib.hid (within_of hb).size
    have W3 := Lib.hid (within_on W2.out (within_of hb) W2.out.size (.inr (Nat.le_refl _)))
    have HB_3 := Lib.hid (HB_2.out.within (within_of hb) (by omega))
    have BX_3 := Lib.hid (BX_2.out.within (within_of hb) (by omega))
    have GR_3 := Lib.hid (GR_2.out.within (within_of hb) (by omega))
    clear hb ho HNW
    have Z4 := Lib.hid (within_alloc w3 (.cells #[(.slice AF (newF p k l).length cF), (.slice AT 0 cT), (.slice AZ 0 cZ)] 31)).size
    have W4 := Lib.hid (within_on W3.out (within_alloc w3 (.cells #[(.slice AF (newF p k l).length cF), (.slice AT 0 cT), (.slice AZ 0 cZ)] 31)) W3.out.size (.inr (Nat.le_refl _)))
    have HB_4 := Lib.hid (HB_3.out.within (within_alloc w3 (.cells #[(.slice AF (newF p k l).length cF), (.slice AT 0 cT), (.slice AZ 0 cZ)] 31)) (by omega))
    have BX_4 := Lib.hid (BX_3.out.within (within_alloc w3 (.cells #[(.slice AF (newF p k l).length cF), (.slice AT 0 cT), (.slice AZ 0 cZ)] 31)) (by omega))
    have GR_4 := Lib.hid (GR_3.out.within (within_alloc w3 (.cells #[(.slice AF (newF p k l).length cF), (.slice AT 0 cT), (.slice AZ 0 cZ)] 31)) (by omega))
    have Y4 := Lib.hid (show (w3.alloc (.cells #[(.slice AF (newF p k l).length cF), (.slice AT 0 cT), (.slice AZ 0 cZ)] 31)).heap.size = w3.heap.size + 1 by simp)
    have hnew := cel3_new w3 (.slice AF (newF p k l).length cF) (.slice AT 0 cT) (.slice AZ 0 cZ) 31
    have BP_4 := Lib.hid hnew
    clear hnew
    obtain ⟨g1_0, g1_1, g1_2, g1_3, g1_4, g1_5⟩ := GR_4.out.cells
    have Z5 := Lib.hid ((ret3 GR_4.out (.slice none 0 0) (.slice none 0 0) (.slice none 0 0)).2).size
    have W5 := Lib.hid (within_on W4.out ((ret3 GR_4.out (.slice none 0 0) (.slice none 0 0) (.slice none 0 0)).2) W4.out.size (by have := Z1.out; have := Z2.out; have := Z3.out; have := Z4.out; have := Z5.out; have := Y1.out; have := Y2.out; have := Y4.out; omega))
    have HB_5 := Lib.hid (HB_4.out.within ((ret3 GR_4.out (.slice none 0 0) (.slice none 0 0) (.slice none 0 0)).2) (by have := Z1.out; have := Z2.out; have := Z3.out; have := Z4.out; have := Z5.out; have := Y1.out; have := Y2.out; have := Y4.out; omega))
    have BX_5 := Lib.hid (BX_4.out.within ((ret3 GR_4.out (.slice none 0 0) (.slice none 0 0) (.slice none 0 0)).2) (by have := Z1.out; have := Z2.out; have := Z3.out; have := Z4.out; have := Z5.out; have := Y1.out; have := Y2.out; have := Y4.out; omega))
    have GR_5 := Lib.hid ((ret3 GR_4.out (.slice none 0 0) (.slice none 0 0) (.slice none 0 0)).1)
    have BP_5 := Lib.hid (BP_4.out.within ((ret3 GR_4.out (.slice none 0 0) (.slice none 0 0) (.slice none 0 0)).2) (by have := Z1.out; have := Z2.out; have := Z3.out; have := Z4.out; have := Z5.out; have := Y1.out; have := Y2.out; have := Y4.out; omega))
    obtain ⟨g2_0, g2_1, g2_2, g2_3, g2_4, g2_5⟩ := GR_5.out.cells
    go_wp2_with fail
    generalize ((((w3.alloc (.cells #[(.slice AF (newF p k l).length cF), (.slice AT 0 cT), (.slice AZ 0 cZ)] 31)).setCell ⟨w.heap.size + 1, 0, none⟩ (.slice none 0 0)).setCell ⟨w.heap.size + 1, 1, none⟩ (.slice none 0 0)).setCell ⟨w.heap.size + 1, 2, none⟩ (.slice none 0 0)) = w5 at *
    generalize (w3.alloc (.cells #[(.slice AF (newF p k l).length cF), (.slice AT 0 cT), (.slice AZ 0 cZ)] 31)) = w4 at *
    refine bodyPost_ret (v := .tuple #[pebV none 0 0 none 0 0 none 0 0, .bool false]) ?_ rfl ?_
    · simp [results, Try.results17, go_sem, g2_0, g2_1, g2_2]
    · rw [HR.out.1, HR.out.2]
      exact ⟨none, 0, none, 0, none, 0, rfl, own3_nil _ _ W5.out.size _ _ _ _ _ _, W5.out⟩
  by_cases hb2 : rangeB k c = true
  case neg =>
    have hb2' : rangeB k c = false := by simpa using hb2
    have HR := Lib.hid (runV_no (p := p) (l := l) (.inr hb2'))
    have HRG := Lib.hid hb2'
    clear hb2 hb2'
    have HNW : ∀ W : World, BarsAt W W.heap.size A l → Calls Try.prog 37 #[.agg #[.int .i64 p, .slice A l.length cap], .int .i64 k] W (PebOB W (newF p k l) [] [] true) := fun W h => by have hc := specNewP p k l A cap W h hn; rw [hb1] at hc; exact hc
    clear hb1
    have W0 := Lib.hid (Below.refl w.heap.size w)
    have HB_0 := Lib.hid (bars_in hl)
    clear hl
    have Z1 := Lib.hid (within_alloc w (.cells #[.int .i64 p, (.slice A l.length cap)] 26)).size
    have W1 := Lib.hid (within_on W0.out (within_alloc w (.cells #[.int .i64 p, (.slice A l.length cap)] 26)) W0.out.size (.inr (Nat.le_refl _)))
    have HB_1 := Lib.hid (HB_0.out.within (within_alloc w (.cells #[.int .i64 p, (.slice A l.length cap)] 26)) (by omega))
    have Y1 := Lib.hid (show (w.alloc (.cells #[.int .i64 p, (.slice A l.length cap)] 26)).heap.size = w.heap.size + 1 by simp)
    have hnew := box_new w p (.slice A l.length cap) 26
    have BX_1 := Lib.hid hnew
    clear hnew
    have Z2 := Lib.hid (within_alloc (w.alloc (.cells #[.int .i64 p, (.slice A l.length cap)] 26)) (.cells #[(.slice none 0 0), (.slice none 0 0), (.slice none 0 0)] 31)).size
    have W2 := Lib.hid (within_on W1.out (within_alloc (w.alloc (.cells #[.int .i64 p, (.slice A l.length cap)] 26)) (.cells #[(.slice none 0 0), (.slice none 0 0), (.slice none 0 0)] 31)) W1.out.size (.inr (Nat.le_refl _)))
    have HB_2 := Lib.hid (HB_1.out.within (within_alloc (w.alloc (.cells #[.int .i64 p, (.slice A l.length cap)] 26)) (.cells #[(.slice none 0 0), (.slice none 0 0), (.slice none 0 0)] 31)) (by omega))
    have BX_2 := Lib.hid (BX_1.out.within (within_alloc (w.alloc (.cells #[.int .i64 p, (.slice A l.length cap)] 26)) (.cells #[(.slice none 0 0), (.slice none 0 0), (.slice none 0 0)] 31)) (by omega))
    have Y2 := Lib.hid (show ((w.alloc (.cells #[.int .i64 p, (.slice A l.length cap)] 26)).alloc (.cells #[(.slice none 0 0), (.slice none 0 0), (.slice none 0 0)] 31)).heap.size = (w.alloc (.cells #[.int .i64 p, (.slice A l.length cap)] 26)).heap.size + 1 by simp)
    have hnew := cel3_new (w.alloc (.cells #[.int .i64 p, (.slice A l.length cap)] 26)) (.slice none 0 0) (.slice none 0 0) (.slice none 0 0) 31
    rw [show (w.alloc (.cells #[.int .i64 p, (.slice A l.length cap)] 26)).heap.size = w.heap.size + 1 by simp] at hnew
    have GR_2 := Lib.hid hnew
    clear hnew
    go_enter Try.func17, Try.ntmps17
    obtain ⟨g0_0, g0_1, g0_2⟩ := BX_2.out
    go_wp2_with fail
    clear g0_0 g0_1 g0_2
    generalize ((w.alloc (.cells #[.int .i64 p, (.slice A l.length cap)] 26)).alloc (.cells #[(.slice none 0 0), (.slice none 0 0), (.slice none 0 0)] 31)) = w2 at *
    generalize (w.alloc (.cells #[.int .i64 p, (.slice A l.length cap)] 26)) = w1 at *
    refine (HNW _ HB_2.out.at).mono ?_
    rintro e w3 ⟨AF, cF, AT, cT, AZ, cZ, rfl, ho, hb⟩
    have Z3 := Lib.hid (within_of hb).size
    have W3 := Lib.hid (within_on W2.out (within_of hb) W2.out.size (.inr (Nat.le_refl _)))
    have HB_3 := Lib.hid (HB_2.out.within (within_of hb) (by omega))
    have BX_3 := Lib.hid (BX_2.out.within (within_of hb) (by omega))
    have GR_3 := Lib.hid (GR_2.out.within (within_of hb) (by omega))
    clear hb ho HNW
    have Z4 := Lib.hid (within_alloc w3 (.cells #[(.slice AF (newF p k l).length cF), (.slice AT 0 cT), (.slice AZ 0 cZ)] 31)).size
    have W4 := Lib.hid (within_on W3.out (within_alloc w3 (.cells #[(.slice AF (newF p k l).length cF), (.slice AT 0 cT), (.slice AZ 0 cZ)] 31)) W3.out.size (.inr (Nat.le_refl _)))
    have HB_4 := Lib.hid (HB_3.out.within (within_alloc w3 (.cells #[(.slice AF (newF p k l).length cF), (.slice AT 0 cT), (.slice AZ 0 cZ)] 31)) (by omega))
    have BX_4 := Lib.hid (BX_3.out.within (within_alloc w3 (.cells #[(.slice AF (newF p k l).length cF), (.slice AT 0 cT), (.slice AZ 0 cZ)] 31)) (by omega))
    have GR_4 := Lib.hid (GR_3.out.within (within_alloc w3 (.cells #[(.slice AF (newF p k l).length cF), (.slice AT 0 cT), (.slice AZ 0 cZ)] 31)) (by omega))
    have Y4 := Lib.hid (show (w3.alloc (.cells #[(.slice AF (newF p k l).length cF), (.slice AT 0 cT), (.slice AZ 0 cZ)] 31)).heap.size = w3.heap.size + 1 by simp)
    have hnew := cel3_new w3 (.slice AF (newF p k l).length cF) (.slice AT 0 cT) (.slice AZ 0 cZ) 31
    have BP_4 := Lib.hid hnew
    clear hnew
    obtain ⟨g1_0, g1_1, g1_2⟩ := BX_4.out
    go_wp2_with fail
    clear g1_0 g1_1 g1_2
    generalize (w3.alloc (.cells #[(.slice AF (newF p k l).length cF), (.slice AT 0 cT), (.slice AZ 0 cZ)] 31)) = w4 at *
    refine (specRange k c _).mono ?_
    rintro e w9 ⟨rfl, rfl⟩
    rw [HRG.out]
    obtain ⟨g2_0, g2_1, g2_2, g2_3, g2_4, g2_5⟩ := GR_4.out.cells
    have Z5 := Lib.hid ((ret3 GR_4.out (.slice none 0 0) (.slice none 0 0) (.slice none 0 0)).2).size
    have W5 := Lib.hid (within_on W4.out ((ret3 GR_4.out (.slice none 0 0) (.slice none 0 0) (.slice none 0 0)).2) W4.out.size (by have := Z1.out; have := Z2.out; have := Z3.out; have := Z4.out; have := Z5.out; have := Y1.out; have := Y2.out; have := Y4.out; omega))
    have HB_5 := Lib.hid (HB_4.out.within ((ret3 GR_4.out (.slice none 0 0) (.slice none 0 0) (.slice none 0 0)).2) (by have := Z1.out; have := Z2.out; have := Z3.out; have := Z4.out; have := Z5.out; have := Y1.out; have := Y2.out; have := Y4.out; omega))
    have BX_5 := Lib.hid (BX_4.out.within ((ret3 GR_4.out (.slice none 0 0) (.slice none 0 0) (.slice none 0 0)).2) (by have := Z1.out; have := Z2.out; have := Z3.out; have := Z4.out; have := Z5.out; have := Y1.out; have := Y2.out; have := Y4.out; omega))
    have GR_5 := Lib.hid ((ret3 GR_4.out (.slice none 0 0) (.slice none 0 0) (.slice none 0 0)).1)
    have BP_5 := Lib.hid (BP_4.out.within ((ret3 GR_4.out (.slice none 0 0) (.slice none 0 0) (.slice none 0 0)).2) (by have := Z1.out; have := Z2.out; have := Z3.out; have := Z4.out; have := Z5.out; have := Y1.out; have := Y2.out; have := Y4.out; omega))
    obtain ⟨g3_0, g3_1, g3_2, g3_3, g3_4, g3_5⟩ := GR_5.out.cells
    go_wp2_with fail
    generalize (((w4.setCell ⟨w.heap.size + 1, 0, none⟩ (.slice none 0 0)).setCell ⟨w.heap.size + 1, 1, none⟩ (.slice none 0 0)).setCell ⟨w.heap.size + 1, 2, none⟩ (.slice none 0 0)) = w5 at *
    refine bodyPost_ret (v := .tuple #[pebV none 0 0 none 0 0 none 0 0, .bool false]) ?_ rfl ?_
    · simp [results, Try.results17, go_sem, g3_0, g3_1, g3_2]
    · rw [HR.out.1, HR.out.2]
      exact ⟨none, 0, none, 0, none, 0, rfl, own3_nil _ _ W5.out.size _ _ _ _ _ _, W5.out⟩
  obtain ⟨P, rfl⟩ : ∃ P : Nat, p = (P : Int) := ⟨p.toNat, by have := (newB_is hb1).1.1; omega⟩
  have HP := Lib.hid (And.intro hb1 hb2)
  have HRG := Lib.hid hb2
  have HR := Lib.hid (runV_yes hb1 hb2)
  have hnf : newF (P : Int) k l = (runN P k c l 0).1 := by unfold newF; rw [if_pos hb1, Int.toNat_natCast]; rfl
  have HNW : ∀ W : World, BarsAt W W.heap.size A l → Calls Try.prog 37 #[.agg #[.int .i64 (P : Int), .slice A l.length cap], .int .i64 k] W (PebOB W (runN P k c l 0).1 (runN P k c l 0).2.1 (runN P k c l 0).2.2 true) := fun W h => by have hc := specNewP (P : Int) k l A cap W h hn; rw [hb1, hnf] at hc; exact hc
  clear hb1 hb2 hnf
  have W0 := Lib.hid (Below.refl w.heap.size w)
  have HB_0 := Lib.hid (bars_in hl)
  clear hl
  have Z1 := Lib.hid (within_alloc w (.cells #[.int .i64 (P : Int), (.slice A l.length cap)] 26)).size
  have W1 := Lib.hid (within_on W0.out (within_alloc w (.cells #[.int .i64 (P : Int), (.slice A l.length cap)] 26)) W0.out.size (.inr (Nat.le_refl _)))
  have HB_1 := Lib.hid (HB_0.out.within (within_alloc w (.cells #[.int .i64 (P : Int), (.slice A l.length cap)] 26)) (by omega))
  have Y1 := Lib.hid (show (w.alloc (.cells #[.int .i64 (P : Int), (.slice A l.length cap)] 26)).heap.size = w.heap.size + 1 by simp)
  have hnew := box_new w (P : Int) (.slice A l.length cap) 26
  have BX_1 := Lib.hid hnew
  clear hnew
  have Z2 := Lib.hid (within_alloc (w.alloc (.cells #[.int .i64 (P : Int), (.slice A l.length cap)] 26)) (.cells #[(.slice none 0 0), (.slice none 0 0), (.slice none 0 0)] 31)).size
  have W2 := Lib.hid (within_on W1.out (within_alloc (w.alloc (.cells #[.int .i64 (P : Int), (.slice A l.length cap)] 26)) (.cells #[(.slice none 0 0), (.slice none 0 0), (.slice none 0 0)] 31)) W1.out.size (.inr (Nat.le_refl _)))
  have HB_2 := Lib.hid (HB_1.out.within (within_alloc (w.alloc (.cells #[.int .i64 (P : Int), (.slice A l.length cap)] 26)) (.cells #[(.slice none 0 0), (.slice none 0 0), (.slice none 0 0)] 31)) (by omega))
  have BX_2 := Lib.hid (BX_1.out.within (within_alloc (w.alloc (.cells #[.int .i64 (P : Int), (.slice A l.length cap)] 26)) (.cells #[(.slice none 0 0), (.slice none 0 0), (.slice none 0 0)] 31)) (by omega))
  have Y2 := Lib.hid (show ((w.alloc (.cells #[.int .i64 (P : Int), (.slice A l.length cap)] 26)).alloc (.cells #[(.slice none 0 0), (.slice none 0 0), (.slice none 0 0)] 31)).heap.size = (w.alloc (.cells #[.int .i64 (P : Int), (.slice A l.length cap)] 26)).heap.size + 1 by simp)
  have hnew := cel3_new (w.alloc (.cells #[.int .i64 (P : Int), (.slice A l.length cap)] 26)) (.slice none 0 0) (.slice none 0 0) (.slice none 0 0) 31
  rw [show (w.alloc (.cells #[.int .i64 (P : Int), (.slice A l.length cap)] 26)).heap.size = w.heap.size + 1 by simp] at hnew
  have GR_2 := Lib.hid hnew
  clear hnew
  go_enter Try.func17, Try.ntmps17
  obtain ⟨g0_0, g0_1, g0_2⟩ := BX_2.out
  go_wp2_with fail
  clear g0_0 g0_1 g0_2
  generalize ((w.alloc (.cells #[.int .i64 (P : Int), (.slice A l.length cap)] 26)).alloc (.cells #[(.slice none 0 0), (.slice none 0 0), (.slice none 0 0)] 31)) = w2 at *
  generalize (w.alloc (.cells #[.int .i64 (P : Int), (.slice A l.length cap)] 26)) = w1 at *
  refine (HNW _ HB_2.out.at).mono ?_
  rintro e w3 ⟨AF, cF, AT, cT, AZ, cZ, rfl, ho, hb⟩
  have Z3 := Lib.hid (within_of hb).size
  have W3 := Lib.hid (within_on W2.out (within_of hb) W2.out.size (.inr (Nat.le_refl _)))
  have HB_3 := Lib.hid (HB_2.out.within (within_of hb) (by omega))
  have BX_3 := Lib.hid (BX_2.out.within (within_of hb) (by omega))
  have GR_3 := Lib.hid (GR_2.out.within (within_of hb) (by omega))
  have OP_3 := Lib.hid (ho)
  clear hb HNW
  clear ho
  have Z4 := Lib.hid (within_alloc w3 (.cells #[(.slice AF (runN P k c l 0).1.length cF), (.slice AT (runN P k c l 0).2.1.length cT), (.slice AZ (runN P k c l 0).2.2.length cZ)] 31)).size
  have W4 := Lib.hid (within_on W3.out (within_alloc w3 (.cells #[(.slice AF (runN P k c l 0).1.length cF), (.slice AT (runN P k c l 0).2.1.length cT), (.slice AZ (runN P k c l 0).2.2.length cZ)] 31)) W3.out.size (.inr (Nat.le_refl _)))
  have HB_4 := Lib.hid (HB_3.out.within (within_alloc w3 (.cells #[(.slice AF (runN P k c l 0).1.length cF), (.slice AT (runN P k c l 0).2.1.length cT), (.slice AZ (runN P k c l 0).2.2.length cZ)] 31)) (by omega))
  have BX_4 := Lib.hid (BX_3.out.within (within_alloc w3 (.cells #[(.slice AF (runN P k c l 0).1.length cF), (.slice AT (runN P k c l 0).2.1.length cT), (.slice AZ (runN P k c l 0).2.2.length cZ)] 31)) (by omega))
  have GR_4 := Lib.hid (GR_3.out.within (within_alloc w3 (.cells #[(.slice AF (runN P k c l 0).1.length cF), (.slice AT (runN P k c l 0).2.1.length cT), (.slice AZ (runN P k c l 0).2.2.length cZ)] 31)) (by omega))
  have OP_4 := Lib.hid (OP_3.out.within (within_alloc w3 (.cells #[(.slice AF (runN P k c l 0).1.length cF), (.slice AT (runN P k c l 0).2.1.length cT), (.slice AZ (runN P k c l 0).2.2.length cZ)] 31)) (by omega))
  have Y4 := Lib.hid (show (w3.alloc (.cells #[(.slice AF (runN P k c l 0).1.length cF), (.slice AT (runN P k c l 0).2.1.length cT), (.slice AZ (runN P k c l 0).2.2.length cZ)] 31)).heap.size = w3.heap.size + 1 by simp)
  have hnew := cel3_new w3 (.slice AF (runN P k c l 0).1.length cF) (.slice AT (runN P k c l 0).2.1.length cT) (.slice AZ (runN P k c l 0).2.2.length cZ) 31
  have BP_4 := Lib.hid hnew
  clear hnew
  obtain ⟨g1_0, g1_1, g1_2⟩ := BX_4.out
  go_wp2_with fail
  clear g1_0 g1_1 g1_2
  generalize (w3.alloc (.cells #[(.slice AF (runN P k c l 0).1.length cF), (.slice AT (runN P k c l 0).2.1.length cT), (.slice AZ (runN P k c l 0).2.2.length cZ)] 31)) = w4 at *
  refine (specRange k c _).mono ?_
  rintro e w9 ⟨rfl, rfl⟩
  rw [HRG.out]
  have HN := Lib.hid (show RunS w w4 P A cap l w3.heap.size w2.heap.size w3.heap.size AF AT AZ cF cT cZ (runN P k c l 0) from ⟨BX_4.out, GR_4.out, BP_4.out, OP_4.out, HB_4.out, W4.out, (by have := Z1.out; have := Z2.out; have := Z3.out; have := Z4.out; have := Y1.out; have := Y2.out; have := Y4.out; omega), (by have := Z1.out; have := Z2.out; have := Z3.out; have := Z4.out; have := Y1.out; have := Y2.out; have := Y4.out; omega), .inr (Nat.le_refl _)⟩)
  go_wp2_with fail
  go_loopw [10] (fun i wr => ∃ j : Nat, j ≤ l.length ∧ i = .int .i64 j ∧ ∃ lo hi AF AT AZ cF cT cZ, RunS w wr P A cap l w3.heap.size lo hi AF AT AZ cF cT cZ (runN P k c l j)) (fun i _ => l.length - (intOf i).toNat)
  case atStart => exact ⟨0, Nat.zero_le _, rfl, _, _, _, _, _, _, _, _, HN.out⟩
  case round =>
    obtain ⟨j, hj, rfl, lo, hi, AF, AT, AZ, cF, cT, cZ, hst⟩ := hrel
    have HS := Lib.hid hst
    obtain ⟨_, g1, g2⟩ := hst.gb
    obtain ⟨c0, c1, c2, f0, f1, f2⟩ := hst.st.cells
    clear hst
    by_cases hlt : j < l.length
    · have hji : (j : Int) < (l.length : Int) := by omega
      go_wp2_with (go_at_call 34; refine (specPlaRun HP.out.1 HP.out.2 hlt A cap AF AT AZ cF cT cZ lo hi _ HS.out.bars.at HS.out.own.reads).mono ?_; rintro e w5 ⟨r, BF, dF, BT, dT, BZ, dZ, rfl, ho, hb⟩; have HS2 := Lib.hid (HS.out.put ho hb); obtain ⟨d0, d1, d2, h0, h1, h2⟩ := (HS.out.st.kept hb).cells; clear ho hb)
      go_roundw
      case rel => exact ⟨j + 1, by omega, by go_num, _, _, _, _, _, _, _, _, HS2.out⟩
      case measure => simp [intOf]; omega
    · obtain rfl : j = l.length := by omega
      obtain ⟨r0, r1, r2, q0, q1, q2⟩ := HS.out.rb.cells
      have h3 := ret3 HS.out.rb (.slice AF (runN P k c l l.length).1.length cF) (.slice AT (runN P k c l l.length).2.1.length cT) (.slice AZ (runN P k c l l.length).2.2.length cZ)
      obtain ⟨s0, s1, s2, _⟩ := h3.1.cells
      have HW := Lib.hid h3.2
      clear h3
      go_wp2_with fail
      refine bodyPost_ret (v := .tuple #[pebV AF (runN P k c l l.length).1.length cF AT (runN P k c l l.length).2.1.length cT AZ (runN P k c l l.length).2.2.length cZ, .bool true]) ?_ rfl ?_
      · simp [results, Try.results17, go_sem, s0, s1, s2]
      · have hlo := HS.out.hlo
        have hz := HW.out.size
        have hown := HS.out.own.within HW.out (.inr hlo)
        have hhi := own3_hi HS.out.own
        have hbs := HS.out.bel.size
        rw [HR.out.1, HR.out.2]
        exact ⟨AF, cF, AT, cT, AZ, cZ, rfl, hown.widen (by omega) (Nat.le_trans hhi hz) (Nat.le_refl _), within_on HS.out.bel HW.out hbs (.inl (by omega))⟩
end Go.Proofs.Ytdkpmaahinbhlaa
