/- What impl.newBarSet answers. No condition. -/
import Derived.Test.YtdkpmaahinbhlaaFqB2
import Derived.Test.YtdkpmaahinbhlaaFqB1
namespace Go.Proofs.Ytdkpmaahinbhlaa
open Go.RowKit

open Go.Maps

theorem IntsIn.at_on {w W V : World} {lo hi g h : Nat} {A : Option Addr} {zs : List Int} (hz : IntsIn w lo hi A zs) (hb : Below w.heap.size w W) (hw : Within g h W V) (hg : w.heap.size ≤ g) : IntsIn V lo hi A zs :=
  (hz.within (show Within w.heap.size W.heap.size w W from ⟨hb.os, hb.tape, hb.output, hb.size, fun k hk _ => hb.block k hk⟩) (.inl hz.1)).within hw (.inl (Nat.le_trans hz.1 hg))
set_option maxHeartbeats 4000000 in
set_option maxRecDepth 100000 in
theorem newSet_no (p k c : Int) (l : List (Int × Int)) (zs : List Int) (A Z : Option Addr) (cap cz lo hi : Nat) (w : World) (hl : BarsAt w w.heap.size A l) (hz : IntsIn w lo hi Z zs) (hn : l.length ≤ 1048576) (hnz : zs.length ≤ 1048576) (hbad : setB p l zs = false ∨ rangeB k c = false) :
    Calls Try.prog 134 #[.agg #[.int .i64 p, .slice A l.length cap], .int .i64 k, .int .i64 c, .slice Z zs.length cz] w fun e w' => e = .returned (.tuple #[.agg #[.int .i64 0, .slice none 0 0, .int .i64 0, .int .i64 0, .map none], .bool false]) ∧ Below w.heap.size w w' := by
  have HSET : ∀ W : World, BarsAt W W.heap.size A l → ∀ lo hi, IntsIn W lo hi Z zs → Calls Try.prog 113 #[.agg #[.int .i64 p, .slice A l.length cap], .slice Z zs.length cz] W fun e w' => e = .returned (.bool (setB p l zs)) ∧ Below W.heap.size W w' := fun W h lo hi h2 => isBarSet_c p l A Z cap cz lo hi zs W h h2 hn hnz
  rcases hs : setB p l zs with _ | _
  · rw [hs] at HSET
    clear hbad hs
    have hzh := hz.1
    have W0 := Lib.hid (Below.refl w.heap.size w)
    have HB_0 := Lib.hid (bars_in hl)
    have HZ_0 := Lib.hid (hz)
    clear hl hz
    have Z1 := Lib.hid (within_alloc w (.cells #[.int .i64 p, (.slice A l.length cap)] 26)).size
    have W1 := Lib.hid (within_on W0.out (within_alloc w (.cells #[.int .i64 p, (.slice A l.length cap)] 26)) W0.out.size (.inr (Nat.le_refl _)))
    have HB_1 := Lib.hid (HB_0.out.within (within_alloc w (.cells #[.int .i64 p, (.slice A l.length cap)] 26)) (by omega))
    have HZ_1 := Lib.hid (HZ_0.out.within (within_alloc w (.cells #[.int .i64 p, (.slice A l.length cap)] 26)) (by omega))
    have Y1 := Lib.hid (show (w.alloc (.cells #[.int .i64 p, (.slice A l.length cap)] 26)).heap.size = w.heap.size + 1 by simp)
    have hnew := box_new w p (.slice A l.length cap) 26
    have BX_1 := Lib.hid hnew
    clear hnew
    have Z2 := Lib.hid (within_alloc (w.alloc (.cells #[.int .i64 p, (.slice A l.length cap)] 26)) (.cells #[(.int .i64 0), (.slice none 0 0), (.int .i64 0), (.int .i64 0), (.map none)] 128)).size
    have W2 := Lib.hid (within_on W1.out (within_alloc (w.alloc (.cells #[.int .i64 p, (.slice A l.length cap)] 26)) (.cells #[(.int .i64 0), (.slice none 0 0), (.int .i64 0), (.int .i64 0), (.map none)] 128)) W1.out.size (.inr (Nat.le_refl _)))
    have HB_2 := Lib.hid (HB_1.out.within (within_alloc (w.alloc (.cells #[.int .i64 p, (.slice A l.length cap)] 26)) (.cells #[(.int .i64 0), (.slice none 0 0), (.int .i64 0), (.int .i64 0), (.map none)] 128)) (by omega))
    have HZ_2 := Lib.hid (HZ_1.out.within (within_alloc (w.alloc (.cells #[.int .i64 p, (.slice A l.length cap)] 26)) (.cells #[(.int .i64 0), (.slice none 0 0), (.int .i64 0), (.int .i64 0), (.map none)] 128)) (by omega))
    have BX_2 := Lib.hid (BX_1.out.within (within_alloc (w.alloc (.cells #[.int .i64 p, (.slice A l.length cap)] 26)) (.cells #[(.int .i64 0), (.slice none 0 0), (.int .i64 0), (.int .i64 0), (.map none)] 128)) (by omega))
    have Y2 := Lib.hid (show ((w.alloc (.cells #[.int .i64 p, (.slice A l.length cap)] 26)).alloc (.cells #[(.int .i64 0), (.slice none 0 0), (.int .i64 0), (.int .i64 0), (.map none)] 128)).heap.size = (w.alloc (.cells #[.int .i64 p, (.slice A l.length cap)] 26)).heap.size + 1 by simp)
    have hnew := cel5_new (w.alloc (.cells #[.int .i64 p, (.slice A l.length cap)] 26)) (.int .i64 0) (.slice none 0 0) (.int .i64 0) (.int .i64 0) (.map none) 128
    rw [show (w.alloc (.cells #[.int .i64 p, (.slice A l.length cap)] 26)).heap.size = w.heap.size + 1 by simp] at hnew
    have GR_2 := Lib.hid hnew
    clear hnew
    go_enter Try.func134, Try.ntmps134
    obtain ⟨g0_0, g0_1, g0_2⟩ := BX_2.out
    go_wp2_with fail
    clear g0_0 g0_1 g0_2
    generalize ((w.alloc (.cells #[.int .i64 p, (.slice A l.length cap)] 26)).alloc (.cells #[(.int .i64 0), (.slice none 0 0), (.int .i64 0), (.int .i64 0), (.map none)] 128)) = w2 at *
    generalize (w.alloc (.cells #[.int .i64 p, (.slice A l.length cap)] 26)) = w1 at *
    refine (HSET _ HB_2.out.at _ _ HZ_2.out).mono ?_
    rintro e w3 ⟨rfl, hb⟩
    have Z3 := Lib.hid (within_of hb).size
    have W3 := Lib.hid (within_on W2.out (within_of hb) W2.out.size (.inr (Nat.le_refl _)))
    have HB_3 := Lib.hid (HB_2.out.within (within_of hb) (by omega))
    have HZ_3 := Lib.hid (HZ_2.out.within (within_of hb) (by omega))
    have BX_3 := Lib.hid (BX_2.out.within (within_of hb) (by omega))
    have GR_3 := Lib.hid (GR_2.out.within (within_of hb) (by omega))
    clear hb HSET
    obtain ⟨g1_0, g1_1, g1_2, g1_3, g1_4⟩ := GR_3.out.cells
    obtain ⟨g2_0, g2_1, g2_2, g2_3, g2_4⟩ := GR_3.out.frozen
    have Z4 := Lib.hid ((ret5 GR_3.out (.int .i64 0) (.slice none 0 0) (.int .i64 0) (.int .i64 0) (.map none)).2).size
    have W4 := Lib.hid (within_on W3.out ((ret5 GR_3.out (.int .i64 0) (.slice none 0 0) (.int .i64 0) (.int .i64 0) (.map none)).2) W3.out.size (by have := Z1.out; have := Z2.out; have := Z3.out; have := Z4.out; have := Y1.out; have := Y2.out; omega))
    have HB_4 := Lib.hid (HB_3.out.within ((ret5 GR_3.out (.int .i64 0) (.slice none 0 0) (.int .i64 0) (.int .i64 0) (.map none)).2) (by have := Z1.out; have := Z2.out; have := Z3.out; have := Z4.out; have := Y1.out; have := Y2.out; omega))
    have HZ_4 := Lib.hid (HZ_3.out.within ((ret5 GR_3.out (.int .i64 0) (.slice none 0 0) (.int .i64 0) (.int .i64 0) (.map none)).2) (by have := Z1.out; have := Z2.out; have := Z3.out; have := Z4.out; have := Y1.out; have := Y2.out; omega))
    have BX_4 := Lib.hid (BX_3.out.within ((ret5 GR_3.out (.int .i64 0) (.slice none 0 0) (.int .i64 0) (.int .i64 0) (.map none)).2) (by have := Z1.out; have := Z2.out; have := Z3.out; have := Z4.out; have := Y1.out; have := Y2.out; omega))
    have GR_4 := Lib.hid ((ret5 GR_3.out (.int .i64 0) (.slice none 0 0) (.int .i64 0) (.int .i64 0) (.map none)).1)
    obtain ⟨g3_0, g3_1, g3_2, g3_3, g3_4⟩ := GR_4.out.cells
    obtain ⟨g4_0, g4_1, g4_2, g4_3, g4_4⟩ := GR_4.out.frozen
    go_wp2_with fail
    generalize (((((w3.setCell ⟨w.heap.size + 1, 0, none⟩ (.int .i64 0)).setCell ⟨w.heap.size + 1, 1, none⟩ (.slice none 0 0)).setCell ⟨w.heap.size + 1, 2, none⟩ (.int .i64 0)).setCell ⟨w.heap.size + 1, 3, none⟩ (.int .i64 0)).setCell ⟨w.heap.size + 1, 4, none⟩ (.map none)) = w4 at *
    refine bodyPost_ret (v := .tuple #[.agg #[.int .i64 0, .slice none 0 0, .int .i64 0, .int .i64 0, .map none], .bool false]) ?_ rfl ?_
    · simp [results, Try.results134, go_sem, g3_0, g3_1, g3_2, g3_3, g3_4]
    · exact ⟨rfl, W4.out⟩
  · have hr : rangeB k c = false := by
      rcases hbad with h | h
      · rw [hs] at h; cases h
      · exact h
    have HRG := Lib.hid hr
    rw [hs] at HSET
    clear hbad hs hr
    have hzh := hz.1
    have W0 := Lib.hid (Below.refl w.heap.size w)
    have HB_0 := Lib.hid (bars_in hl)
    have HZ_0 := Lib.hid (hz)
    clear hl hz
    have Z1 := Lib.hid (within_alloc w (.cells #[.int .i64 p, (.slice A l.length cap)] 26)).size
    have W1 := Lib.hid (within_on W0.out (within_alloc w (.cells #[.int .i64 p, (.slice A l.length cap)] 26)) W0.out.size (.inr (Nat.le_refl _)))
    have HB_1 := Lib.hid (HB_0.out.within (within_alloc w (.cells #[.int .i64 p, (.slice A l.length cap)] 26)) (by omega))
    have HZ_1 := Lib.hid (HZ_0.out.within (within_alloc w (.cells #[.int .i64 p, (.slice A l.length cap)] 26)) (by omega))
    have Y1 := Lib.hid (show (w.alloc (.cells #[.int .i64 p, (.slice A l.length cap)] 26)).heap.size = w.heap.size + 1 by simp)
    have hnew := box_new w p (.slice A l.length cap) 26
    have BX_1 := Lib.hid hnew
    clear hnew
    have Z2 := Lib.hid (within_alloc (w.alloc (.cells #[.int .i64 p, (.slice A l.length cap)] 26)) (.cells #[(.int .i64 0), (.slice none 0 0), (.int .i64 0), (.int .i64 0), (.map none)] 128)).size
    have W2 := Lib.hid (within_on W1.out (within_alloc (w.alloc (.cells #[.int .i64 p, (.slice A l.length cap)] 26)) (.cells #[(.int .i64 0), (.slice none 0 0), (.int .i64 0), (.int .i64 0), (.map none)] 128)) W1.out.size (.inr (Nat.le_refl _)))
    have HB_2 := Lib.hid (HB_1.out.within (within_alloc (w.alloc (.cells #[.int .i64 p, (.slice A l.length cap)] 26)) (.cells #[(.int .i64 0), (.slice none 0 0), (.int .i64 0), (.int .i64 0), (.map none)] 128)) (by omega))
    have HZ_2 := Lib.hid (HZ_1.out.within (within_alloc (w.alloc (.cells #[.int .i64 p, (.slice A l.length cap)] 26)) (.cells #[(.int .i64 0), (.slice none 0 0), (.int .i64 0), (.int .i64 0), (.map none)] 128)) (by omega))
    have BX_2 := Lib.hid (BX_1.out.within (within_alloc (w.alloc (.cells #[.int .i64 p, (.slice A l.length cap)] 26)) (.cells #[(.int .i64 0), (.slice none 0 0), (.int .i64 0), (.int .i64 0), (.map none)] 128)) (by omega))
    have Y2 := Lib.hid (show ((w.alloc (.cells #[.int .i64 p, (.slice A l.length cap)] 26)).alloc (.cells #[(.int .i64 0), (.slice none 0 0), (.int .i64 0), (.int .i64 0), (.map none)] 128)).heap.size = (w.alloc (.cells #[.int .i64 p, (.slice A l.length cap)] 26)).heap.size + 1 by simp)
    have hnew := cel5_new (w.alloc (.cells #[.int .i64 p, (.slice A l.length cap)] 26)) (.int .i64 0) (.slice none 0 0) (.int .i64 0) (.int .i64 0) (.map none) 128
    rw [show (w.alloc (.cells #[.int .i64 p, (.slice A l.length cap)] 26)).heap.size = w.heap.size + 1 by simp] at hnew
    have GR_2 := Lib.hid hnew
    clear hnew
    go_enter Try.func134, Try.ntmps134
    obtain ⟨g0_0, g0_1, g0_2⟩ := BX_2.out
    go_wp2_with fail
    clear g0_0 g0_1 g0_2
    generalize ((w.alloc (.cells #[.int .i64 p, (.slice A l.length cap)] 26)).alloc (.cells #[(.int .i64 0), (.slice none 0 0), (.int .i64 0), (.int .i64 0), (.map none)] 128)) = w2 at *
    generalize (w.alloc (.cells #[.int .i64 p, (.slice A l.length cap)] 26)) = w1 at *
    refine (HSET _ HB_2.out.at _ _ HZ_2.out).mono ?_
    rintro e w3 ⟨rfl, hb⟩
    have Z3 := Lib.hid (within_of hb).size
    have W3 := Lib.hid (within_on W2.out (within_of hb) W2.out.size (.inr (Nat.le_refl _)))
    have HB_3 := Lib.hid (HB_2.out.within (within_of hb) (by omega))
    have HZ_3 := Lib.hid (HZ_2.out.within (within_of hb) (by omega))
    have BX_3 := Lib.hid (BX_2.out.within (within_of hb) (by omega))
    have GR_3 := Lib.hid (GR_2.out.within (within_of hb) (by omega))
    clear hb HSET
    go_wp2_with fail
    refine (implRange k c _).mono ?_
    rintro e w9 ⟨rfl, rfl⟩
    rw [HRG.out]
    obtain ⟨g1_0, g1_1, g1_2, g1_3, g1_4⟩ := GR_3.out.cells
    obtain ⟨g2_0, g2_1, g2_2, g2_3, g2_4⟩ := GR_3.out.frozen
    have Z4 := Lib.hid ((ret5 GR_3.out (.int .i64 0) (.slice none 0 0) (.int .i64 0) (.int .i64 0) (.map none)).2).size
    have W4 := Lib.hid (within_on W3.out ((ret5 GR_3.out (.int .i64 0) (.slice none 0 0) (.int .i64 0) (.int .i64 0) (.map none)).2) W3.out.size (by have := Z1.out; have := Z2.out; have := Z3.out; have := Z4.out; have := Y1.out; have := Y2.out; omega))
    have HB_4 := Lib.hid (HB_3.out.within ((ret5 GR_3.out (.int .i64 0) (.slice none 0 0) (.int .i64 0) (.int .i64 0) (.map none)).2) (by have := Z1.out; have := Z2.out; have := Z3.out; have := Z4.out; have := Y1.out; have := Y2.out; omega))
    have HZ_4 := Lib.hid (HZ_3.out.within ((ret5 GR_3.out (.int .i64 0) (.slice none 0 0) (.int .i64 0) (.int .i64 0) (.map none)).2) (by have := Z1.out; have := Z2.out; have := Z3.out; have := Z4.out; have := Y1.out; have := Y2.out; omega))
    have BX_4 := Lib.hid (BX_3.out.within ((ret5 GR_3.out (.int .i64 0) (.slice none 0 0) (.int .i64 0) (.int .i64 0) (.map none)).2) (by have := Z1.out; have := Z2.out; have := Z3.out; have := Z4.out; have := Y1.out; have := Y2.out; omega))
    have GR_4 := Lib.hid ((ret5 GR_3.out (.int .i64 0) (.slice none 0 0) (.int .i64 0) (.int .i64 0) (.map none)).1)
    obtain ⟨g3_0, g3_1, g3_2, g3_3, g3_4⟩ := GR_4.out.cells
    obtain ⟨g4_0, g4_1, g4_2, g4_3, g4_4⟩ := GR_4.out.frozen
    go_wp2_with fail
    generalize (((((w3.setCell ⟨w.heap.size + 1, 0, none⟩ (.int .i64 0)).setCell ⟨w.heap.size + 1, 1, none⟩ (.slice none 0 0)).setCell ⟨w.heap.size + 1, 2, none⟩ (.int .i64 0)).setCell ⟨w.heap.size + 1, 3, none⟩ (.int .i64 0)).setCell ⟨w.heap.size + 1, 4, none⟩ (.map none)) = w4 at *
    refine bodyPost_ret (v := .tuple #[.agg #[.int .i64 0, .slice none 0 0, .int .i64 0, .int .i64 0, .map none], .bool false]) ?_ rfl ?_
    · simp [results, Try.results134, go_sem, g3_0, g3_1, g3_2, g3_3, g3_4]
    · exact ⟨rfl, W4.out⟩
/-- A set in a map of the call's own. -/
def NewSetP (w : World) (p : Int) (A : Option Addr) (n cap : Nat) (k c : Int) (zs : List Int) (e : Ending) (w' : World) : Prop :=
  ∃ b, e = .returned (.tuple #[bsV p A n cap k c b, .bool true]) ∧ SetM w' b zs.length zs ∧ w.heap.size ≤ b ∧ Below w.heap.size w w'
theorem setM_step {W W' : World} {b : Nat} {zs : List Int} {j : Nat} (hj : j < zs.length) {D : DataW Unit} (h : OMap W b j D) (hs : SaysS D (zs.take j)) (h' : OMap W' b (j + 1) (D.put (.int .i64 (zs.getD j 0)) (.lit (.bool true)))) : SetM W' b (j + 1) (zs.take (j + 1)) :=
  ⟨_, h', by
    have := hs.put h.isMap (zs.getD j 0)
    rwa [show zs.take j ++ [zs.getD j 0] = zs.take (j + 1) by rw [List.take_add_one]; simp [List.getD, List.getElem?_eq_getElem hj]] at this⟩

set_option maxHeartbeats 4000000 in
set_option maxRecDepth 100000 in
theorem newSet_yes (p k c : Int) (l : List (Int × Int)) (zs : List Int) (A Z : Option Addr) (cap cz lo hi : Nat) (w : World) (hl : BarsAt w w.heap.size A l) (hz : IntsIn w lo hi Z zs) (hn : l.length ≤ 1048576) (hnz : zs.length ≤ 1048576) (hs : setB p l zs = true) (hr : rangeB k c = true) :
    Calls Try.prog 134 #[.agg #[.int .i64 p, .slice A l.length cap], .int .i64 k, .int .i64 c, .slice Z zs.length cz] w (NewSetP w p A l.length cap k c zs) := by
  have HSET : ∀ W : World, BarsAt W W.heap.size A l → ∀ lo hi, IntsIn W lo hi Z zs → Calls Try.prog 113 #[.agg #[.int .i64 p, .slice A l.length cap], .slice Z zs.length cz] W fun e w' => e = .returned (.bool (setB p l zs)) ∧ Below W.heap.size W w' := fun W h lo hi h2 => isBarSet_c p l A Z cap cz lo hi zs W h h2 hn hnz
  have HRG := Lib.hid hr
  have HW := Lib.hid (show ∀ j, j < zs.length → (Lit.int .i64 (zs.getD j 0)).wf = true from fun j hj => WalkArith.wf_i64 (by have := ((setB_is hs).1 j hj).1; omega))
  rw [hs] at HSET
  clear hs hr
  have hzh := hz.1
  have W0 := Lib.hid (Below.refl w.heap.size w)
  have HB_0 := Lib.hid (bars_in hl)
  have HZ_0 := Lib.hid (hz)
  clear hl hz
  have Z1 := Lib.hid (within_alloc w (.cells #[.int .i64 p, (.slice A l.length cap)] 26)).size
  have W1 := Lib.hid (within_on W0.out (within_alloc w (.cells #[.int .i64 p, (.slice A l.length cap)] 26)) W0.out.size (.inr (Nat.le_refl _)))
  have HB_1 := Lib.hid (HB_0.out.within (within_alloc w (.cells #[.int .i64 p, (.slice A l.length cap)] 26)) (by omega))
  have HZ_1 := Lib.hid (HZ_0.out.within (within_alloc w (.cells #[.int .i64 p, (.slice A l.length cap)] 26)) (by omega))
  have Y1 := Lib.hid (show (w.alloc (.cells #[.int .i64 p, (.slice A l.length cap)] 26)).heap.size = w.heap.size + 1 by simp)
  have hnew := box_new w p (.slice A l.length cap) 26
  have BX_1 := Lib.hid hnew
  clear hnew
  have Z2 := Lib.hid (within_alloc (w.alloc (.cells #[.int .i64 p, (.slice A l.length cap)] 26)) (.cells #[(.int .i64 0), (.slice none 0 0), (.int .i64 0), (.int .i64 0), (.map none)] 128)).size
  have W2 := Lib.hid (within_on W1.out (within_alloc (w.alloc (.cells #[.int .i64 p, (.slice A l.length cap)] 26)) (.cells #[(.int .i64 0), (.slice none 0 0), (.int .i64 0), (.int .i64 0), (.map none)] 128)) W1.out.size (.inr (Nat.le_refl _)))
  have HB_2 := Lib.hid (HB_1.out.within (within_alloc (w.alloc (.cells #[.int .i64 p, (.slice A l.length cap)] 26)) (.cells #[(.int .i64 0), (.slice none 0 0), (.int .i64 0), (.int .i64 0), (.map none)] 128)) (by omega))
  have HZ_2 := Lib.hid (HZ_1.out.within (within_alloc (w.alloc (.cells #[.int .i64 p, (.slice A l.length cap)] 26)) (.cells #[(.int .i64 0), (.slice none 0 0), (.int .i64 0), (.int .i64 0), (.map none)] 128)) (by omega))
  have BX_2 := Lib.hid (BX_1.out.within (within_alloc (w.alloc (.cells #[.int .i64 p, (.slice A l.length cap)] 26)) (.cells #[(.int .i64 0), (.slice none 0 0), (.int .i64 0), (.int .i64 0), (.map none)] 128)) (by omega))
  have Y2 := Lib.hid (show ((w.alloc (.cells #[.int .i64 p, (.slice A l.length cap)] 26)).alloc (.cells #[(.int .i64 0), (.slice none 0 0), (.int .i64 0), (.int .i64 0), (.map none)] 128)).heap.size = (w.alloc (.cells #[.int .i64 p, (.slice A l.length cap)] 26)).heap.size + 1 by simp)
  have hnew := cel5_new (w.alloc (.cells #[.int .i64 p, (.slice A l.length cap)] 26)) (.int .i64 0) (.slice none 0 0) (.int .i64 0) (.int .i64 0) (.map none) 128
  rw [show (w.alloc (.cells #[.int .i64 p, (.slice A l.length cap)] 26)).heap.size = w.heap.size + 1 by simp] at hnew
  have GR_2 := Lib.hid hnew
  clear hnew
  go_enter Try.func134, Try.ntmps134
  obtain ⟨g0_0, g0_1, g0_2⟩ := BX_2.out
  go_wp2_with fail
  clear g0_0 g0_1 g0_2
  generalize ((w.alloc (.cells #[.int .i64 p, (.slice A l.length cap)] 26)).alloc (.cells #[(.int .i64 0), (.slice none 0 0), (.int .i64 0), (.int .i64 0), (.map none)] 128)) = w2 at *
  generalize (w.alloc (.cells #[.int .i64 p, (.slice A l.length cap)] 26)) = w1 at *
  refine (HSET _ HB_2.out.at _ _ HZ_2.out).mono ?_
  rintro e w3 ⟨rfl, hb⟩
  have Z3 := Lib.hid (within_of hb).size
  have W3 := Lib.hid (within_on W2.out (within_of hb) W2.out.size (.inr (Nat.le_refl _)))
  have HB_3 := Lib.hid (HB_2.out.within (within_of hb) (by omega))
  have HZ_3 := Lib.hid (HZ_2.out.within (within_of hb) (by omega))
  have BX_3 := Lib.hid (BX_2.out.within (within_of hb) (by omega))
  have GR_3 := Lib.hid (GR_2.out.within (within_of hb) (by omega))
  clear hb HSET
  go_wp2_with fail
  refine (implRange k c _).mono ?_
  rintro e w9 ⟨rfl, rfl⟩
  rw [HRG.out]
  have hmm := @run_makeMap Try.prog
  obtain ⟨g1_0, g1_1, g1_2⟩ := BX_3.out
  have Z4 := Lib.hid (within_alloc w3 (.map #[] 0)).size
  have W4 := Lib.hid (within_on W3.out (within_alloc w3 (.map #[] 0)) W3.out.size (.inr (Nat.le_refl _)))
  have HB_4 := Lib.hid (HB_3.out.within (within_alloc w3 (.map #[] 0)) (by omega))
  have HZ_4 := Lib.hid (HZ_3.out.within (within_alloc w3 (.map #[] 0)) (by omega))
  have BX_4 := Lib.hid (BX_3.out.within (within_alloc w3 (.map #[] 0)) (by omega))
  have GR_4 := Lib.hid (GR_3.out.within (within_alloc w3 (.map #[] 0)) (by omega))
  have Y4 := Lib.hid (show (w3.alloc (.map #[] 0)).heap.size = w3.heap.size + 1 by simp)
  have hom := World.ownsMap_made (H := Unit) w3 Try.prog 3 (plainElem Try.prog 4)
  have MP_4 := Lib.hid (show SetM (w3.alloc (.map #[] 0)) w3.heap.size 0 (zs.take 0) from ⟨_, hom, saysS_nil⟩)
  clear hom
  have Z5 := Lib.hid (within_alloc (w3.alloc (.map #[] 0)) (.cells #[(.int .i64 p), (.slice A l.length cap), (.int .i64 k), (.int .i64 c), (.map (some w3.heap.size))] 128)).size
  have W5 := Lib.hid (within_on W4.out (within_alloc (w3.alloc (.map #[] 0)) (.cells #[(.int .i64 p), (.slice A l.length cap), (.int .i64 k), (.int .i64 c), (.map (some w3.heap.size))] 128)) W4.out.size (.inr (Nat.le_refl _)))
  have HB_5 := Lib.hid (HB_4.out.within (within_alloc (w3.alloc (.map #[] 0)) (.cells #[(.int .i64 p), (.slice A l.length cap), (.int .i64 k), (.int .i64 c), (.map (some w3.heap.size))] 128)) (by omega))
  have HZ_5 := Lib.hid (HZ_4.out.within (within_alloc (w3.alloc (.map #[] 0)) (.cells #[(.int .i64 p), (.slice A l.length cap), (.int .i64 k), (.int .i64 c), (.map (some w3.heap.size))] 128)) (by omega))
  have BX_5 := Lib.hid (BX_4.out.within (within_alloc (w3.alloc (.map #[] 0)) (.cells #[(.int .i64 p), (.slice A l.length cap), (.int .i64 k), (.int .i64 c), (.map (some w3.heap.size))] 128)) (by omega))
  have GR_5 := Lib.hid (GR_4.out.within (within_alloc (w3.alloc (.map #[] 0)) (.cells #[(.int .i64 p), (.slice A l.length cap), (.int .i64 k), (.int .i64 c), (.map (some w3.heap.size))] 128)) (by omega))
  have MP_5 := Lib.hid (MP_4.out.within (within_alloc (w3.alloc (.map #[] 0)) (.cells #[(.int .i64 p), (.slice A l.length cap), (.int .i64 k), (.int .i64 c), (.map (some w3.heap.size))] 128)) (by omega))
  have Y5 := Lib.hid (show ((w3.alloc (.map #[] 0)).alloc (.cells #[(.int .i64 p), (.slice A l.length cap), (.int .i64 k), (.int .i64 c), (.map (some w3.heap.size))] 128)).heap.size = (w3.alloc (.map #[] 0)).heap.size + 1 by simp)
  have hnew := cel5_new (w3.alloc (.map #[] 0)) (.int .i64 p) (.slice A l.length cap) (.int .i64 k) (.int .i64 c) (.map (some w3.heap.size)) 128
  rw [show (w3.alloc (.map #[] 0)).heap.size = w3.heap.size + 1 by simp] at hnew
  have BB_5 := Lib.hid hnew
  clear hnew
  go_wp2_with fail
  clear g1_0 g1_1 g1_2
  generalize ((w3.alloc (.map #[] 0)).alloc (.cells #[(.int .i64 p), (.slice A l.length cap), (.int .i64 k), (.int .i64 c), (.map (some w3.heap.size))] 128)) = w5 at *
  generalize (w3.alloc (.map #[] 0)) = w4 at *
  have HMB := Lib.hid (show w.heap.size + 2 ≤ w3.heap.size from (by have := Z1.out; have := Z2.out; have := Z3.out; have := Z4.out; have := Z5.out; have := Y1.out; have := Y2.out; have := Y4.out; have := Y5.out; omega))
  have HMP := Lib.hid MP_5.out
  go_loopw [12, 31] (fun _ i wr => ∃ j : Nat, j ≤ zs.length ∧ i = .int .i64 j ∧ SetM wr w3.heap.size j (zs.take j) ∧ Within w3.heap.size (w3.heap.size + 1) w5 wr) (fun _ i _ => zs.length - (intOf i).toNat)
  case atStart => exact ⟨0, Nat.zero_le _, rfl, HMP.out, Within.refl _ _ _⟩
  case round =>
    obtain ⟨j, hj, rfl, hset, hwi⟩ := hrel
    have HWI := Lib.hid hwi
    have HB5 := Lib.hid (BB_5.out.within hwi (.inr (Nat.le_refl _)))
    obtain ⟨c0, c1, c2, c3, c4⟩ := HB5.out.cells
    have hzr := HZ_0.out.at_on W5.out hwi (by have := HMB.out; omega)
    by_cases hlt : j < zs.length
    · have hji : (j : Int) < (zs.length : Int) := by omega
      obtain ⟨zb, zo, rfl, hzc⟩ := row_at hzr (by omega)
      have hz := hzc j hlt
      obtain ⟨D, hom, hsay⟩ := hset
      have HOM := Lib.hid hom
      have HSAY := Lib.hid hsay
      have HWF := Lib.hid (HW.out j hlt)
      have HSTEP := Lib.hid (fun (W' : World) h' => setM_step (W' := W') hlt hom hsay h')
      clear hom hsay hzc hzr hwi
      obtain ⟨z, hzd⟩ : ∃ z, zs.getD j 0 = z := ⟨_, rfl⟩
      rw [hzd] at hz HWF HSTEP
      clear hzd
      go_wp2_with (first
        | (at_mapUpdate; refine wpList_mapUpdate_own _ rfl _ _ _ 126 rfl 3 4 lawI Try.underlying126 _ w3.heap.size j D rfl HOM.out (by unfold maxLen; omega) _ _ (.int .i64 z) rfl rfl (keyOf_int_mk Try.underlying3 HWF.out) _ [] (plainElem_bool Try.underlying4 true) ?_; intro w8 hown8 hg8; have HN := Lib.hid (HSTEP.out w8 hown8); have HWN := Lib.hid (HWI.out.trans (within_grown hg8)); clear hown8 hg8)
        | go_in)
      go_roundw
      case rel => exact ⟨j + 1, by omega, by go_num, HN.out, HWN.out⟩
      case measure => simp [intOf]; omega
    · obtain rfl : j = zs.length := by omega
      rw [List.take_length] at hset
      have HSET2 := Lib.hid hset
      clear hset hzr hwi
      have hgr := GR_5.out.within HWI.out (.inl (by have := HMB.out; omega))
      have h5 := ret5 hgr (.int .i64 p) (.slice A l.length cap) (.int .i64 k) (.int .i64 c) (.map (some w3.heap.size))
      obtain ⟨e0, e1, e2, e3, e4⟩ := hgr.cells
      obtain ⟨f0, f1, f2, f3, f4⟩ := hgr.frozen
      obtain ⟨s0, s1, s2, s3, s4⟩ := h5.1.cells
      have HW5 := Lib.hid h5.2
      clear h5 hgr
      go_wp2_with fail
      refine bodyPost_ret (v := .tuple #[bsV p A l.length cap k c w3.heap.size, .bool true]) ?_ rfl ?_
      · simp [results, Try.results134, go_sem, s0, s1, s2, s3, s4]
      · have hmb := HMB.out
        have hb0 := W5.out.size
        have hb1 := HWI.out.size
        exact ⟨_, rfl, HSET2.out.within HW5.out (.inr (by omega)), by omega, within_on (within_on W5.out HWI.out hb0 (.inl (by omega))) HW5.out (by omega) (.inl (by omega))⟩
end Go.Proofs.Ytdkpmaahinbhlaa
