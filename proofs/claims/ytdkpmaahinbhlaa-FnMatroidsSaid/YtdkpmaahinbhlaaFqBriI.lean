/- What impl.BridgesOf answers. No condition. -/
import Derived.Test.YtdkpmaahinbhlaaFqBriI2
import Derived.Test.YtdkpmaahinbhlaaFqNewSet
import Derived.Test.YtdkpmaahinbhlaaFqB1
namespace Go.Proofs.Ytdkpmaahinbhlaa
open Go.RowKit

theorem bri_step (n k : Nat) (h : k < n) : (intCells ((allN n).take k ++ List.replicate (n - k) 0)).set k (.int .i64 (k : Int)) = intCells ((allN n).take (k + 1) ++ List.replicate (n - (k + 1)) 0) := by
  have := ints_step (allN n) k (by rw [allN_len]; exact h)
  rw [allN_get _ _ h, allN_len] at this
  exact this
theorem bri_full (n : Nat) : (allN n).take n ++ List.replicate (n - n) 0 = allN n := by
  rw [Nat.sub_self, List.replicate_zero, List.append_nil]
  exact List.take_of_length_le (by rw [allN_len]; exact Nat.le_refl _)
theorem row_ints {W : World} {g n c base : Nat} {X : List Int} (h : W.ownsRow base 3 1 (.slice (some ⟨g, 0, none⟩) n c) n (intCells X)) (hX : X.length = n) : IntsIn W g (g + 1) (some ⟨g, 0, none⟩) X := by
  refine ⟨(h.lt g rfl).2, fun h0 => ⟨g, 0, rfl, Nat.le_refl _, Nat.lt_succ_self _, fun j hj => ?_⟩⟩
  rw [Nat.zero_add]
  exact (h.cellAt j (by omega)).trans (intCells_get X j hj)
def RowG (W : World) (g n : Nat) (X : List Int) : Prop := W.ownsRow g 3 1 (.slice (some ⟨g, 0, none⟩) n n) n (intCells X)
theorem RowG.within {W W' : World} {g n lo hi : Nat} {X : List Int} (h : RowG W g n X) (hw : Within lo hi W W') (hd : g < lo ∨ hi ≤ g) : RowG W' g n X := own_block h (hw.block g (World.ownsRow.lt h g rfl).2 hd)
theorem runB_no {p k c : Int} {l : List (Int × Int)} (h : runB p k c l = false) : setB p l (allN l.length) = false ∨ rangeB k c = false := by
  cases hs : setB p l (allN l.length) with
  | false => exact .inl rfl
  | true =>
    cases hr : rangeB k c with
    | false => exact .inr rfl
    | true =>
      have hG := (setB_is hs).2
      have hk := rangeB_is hr
      unfold runB newB at h
      rw [isGB_yes hG, hr, decide_eq_true hk.1.1, decide_eq_true hk.1.2] at h
      cases h
set_option maxHeartbeats 8000000 in
set_option maxRecDepth 100000 in
theorem implBri (p k c : Int) (l : List (Int × Int)) (A : Option Addr) (cap : Nat) (w : World) (hl : BarsAt w w.heap.size A l) (hn : l.length ≤ 1048576) :
    Calls Try.prog 49 #[.agg #[.int .i64 p, .slice A l.length cap], .int .i64 k, .int .i64 c] w (IntsO w (briV p k c l)) := by
  have hmf : ∀ (fn : Fn) (first cap : Array Value) (w : World), (Instr.makeFunc fn first cap).run Try.prog w = .ok (.func fn first cap) w := fun _ _ _ _ => rfl
  have HLEN := Lib.hid (allN_len l.length)
  have W0 := Lib.hid (Below.refl w.heap.size w)
  have HB_0 := Lib.hid (bars_in hl)
  clear hl
  have Z1 := Lib.hid (within_alloc w (.cells #[.int .i64 p, (.slice A l.length cap)] 26)).size
  have W1 := Lib.hid (within_on W0.out (within_alloc w (.cells #[.int .i64 p, (.slice A l.length cap)] 26)) W0.out.size (.inr (Nat.le_refl _)))
  have HB_1 := Lib.hid (HB_0.out.within (within_alloc w (.cells #[.int .i64 p, (.slice A l.length cap)] 26)) (by omega))
  have Y1 := Lib.hid (show (w.alloc (.cells #[.int .i64 p, (.slice A l.length cap)] 26)).heap.size = w.heap.size + 1 by simp)
  have hnew := box_new w p (.slice A l.length cap) 26
  have BX_1 := Lib.hid hnew
  clear hnew
  have hw1s := W1.out.size
  go_enter Try.func49, Try.ntmps49
  obtain ⟨g0_0, g0_1, g0_2⟩ := BX_1.out
  go_wp2_with (at_make; generalize (w.alloc (.cells #[.int .i64 p, (.slice A l.length cap)] 26)) = w1 at *; refine wpList_mkn _ rfl _ _ 29 rfl w1.heap.size 3 (.int .i64 0) 8 Try.underlying29 infoInt rfl _ _ _ _ l.length rfl rfl rfl rfl (by omega) (by unfold maxLen; omega) (Nat.le_refl _) ?_; intro w0 hown0 hb0)
  rw [intsOf_zero] at hown0
  obtain ⟨g, hg⟩ : ∃ g, w1.heap.size = g := ⟨_, rfl⟩
  have hgw : w.heap.size < g := by rw [← hg]; exact BX_1.out.1
  have HG := Lib.hid hg
  have HGW := Lib.hid hgw
  rw [hg] at hown0 ⊢
  have HB0 := Lib.hid hb0
  have HOWN := Lib.hid hown0
  clear g0_0 g0_1 g0_2 hg hgw hb0 hown0 hw1s
  go_loopw [8, 18] (fun _ i wr => ∃ j : Nat, j ≤ l.length ∧ i = .int .i64 j ∧ wr.ownsRow g 3 1 (.slice (some ⟨g, 0, none⟩) l.length l.length) l.length (intCells ((allN l.length).take j ++ List.replicate (l.length - j) 0)) ∧ Below w1.heap.size w1 wr) (fun _ i _ => l.length - (intOf i).toNat)
  case atStart => exact ⟨0, Nat.zero_le _, rfl, by rw [List.take_zero, List.nil_append, Nat.sub_zero]; exact HOWN.out, HB0.out⟩
  case round =>
    obtain ⟨j, hj, rfl, hrow, hb⟩ := hrel
    have HBR := Lib.hid hb
    have HR := Lib.hid hrow
    have hlx : ((allN l.length).take j ++ List.replicate (l.length - j) 0).length = l.length := by have := HLEN.out; simp; omega
    by_cases hlt : j < l.length
    · have hji : (j : Int) < (l.length : Int) := by omega
      have hcj := (hrow.cellAt j (by omega)).trans (intCells_get _ j (by omega))
      have hfj := hrow.frozenAt j
      have hst := hrow.stored j (.int .i64 (j : Int))
      rw [bri_step _ _ hlt] at hst
      have HST := Lib.hid hst.1
      have HB2 := Lib.hid (hb.grown hst.2 hb.size fun g' e => by cases e; exact Nat.le_of_eq HG.out)
      clear hst hrow hb hlx
      obtain ⟨y, hy⟩ : ∃ y, ((allN l.length).take j ++ List.replicate (l.length - j) 0).getD j 0 = y := ⟨_, rfl⟩
      rw [hy] at hcj
      clear hy
      go_wp2_with fail
      go_roundw
      case rel => exact ⟨j + 1, by omega, by go_num, HST.out, HB2.out⟩
      case measure => simp [intOf]; omega
    · obtain rfl : j = l.length := by omega
      have hrw : ((allN l.length).take l.length ++ List.replicate (l.length - l.length) 0) = allN l.length := bri_full _
      rw [hrw] at hrow
      have HZ := Lib.hid (row_ints hrow HLEN.out)
      have hgn := (hrow.lt g rfl).2
      have HGN := Lib.hid hgn
      have HRW := Lib.hid (show RowG wr g l.length (allN l.length) from hrow)
      clear HR hlx hrow hrw hgn
      have Z2 := Lib.hid (within_of hb).size
      have W2 := Lib.hid (within_on W1.out (within_of hb) W1.out.size (.inr (Nat.le_refl _)))
      have HB_2 := Lib.hid (HB_1.out.within (within_of hb) (by omega))
      have BX_2 := Lib.hid (BX_1.out.within (within_of hb) (by omega))
      have HZ_2 := HZ
      have HRW_2 := HRW
      clear HBR hb HZ HRW
      obtain ⟨g1_0, g1_1, g1_2⟩ := BX_2.out
      cases hb : runB p k c l with
      | false =>
        have HV := Lib.hid (briV_no hb)
        have HBAD := Lib.hid (runB_no hb)
        clear hb
        go_wp2_with fail
        clear g1_0 g1_1 g1_2
        have hnz : (allN l.length).length ≤ 1048576 := by have := HLEN.out; omega
        have HNO := Lib.hid (newSet_no p k c l (allN l.length) A (some ⟨g, 0, none⟩) cap l.length g (g + 1) wr HB_2.out.at HZ_2.out hn hnz HBAD.out)
        rw [HLEN.out] at HNO
        refine (HNO.out).mono ?_
        rintro e w3 ⟨rfl, hb⟩
        have Z3 := Lib.hid (within_of hb).size
        have W3 := Lib.hid (within_on W2.out (within_of hb) W2.out.size (.inr (Nat.le_refl _)))
        have HB_3 := Lib.hid (HB_2.out.within (within_of hb) (by omega))
        have BX_3 := Lib.hid (BX_2.out.within (within_of hb) (by omega))
        have HZ_3 := Lib.hid (HZ_2.out.within (within_of hb) (by omega))
        have HRW_3 := Lib.hid (HRW_2.out.within (within_of hb) (by omega))
        clear hb
        have Z4 := Lib.hid (within_alloc w3 (.cells #[(.int .i64 0), (.slice none 0 0), (.int .i64 0), (.int .i64 0), (.map none)] 128)).size
        have W4 := Lib.hid (within_on W3.out (within_alloc w3 (.cells #[(.int .i64 0), (.slice none 0 0), (.int .i64 0), (.int .i64 0), (.map none)] 128)) W3.out.size (.inr (Nat.le_refl _)))
        have HB_4 := Lib.hid (HB_3.out.within (within_alloc w3 (.cells #[(.int .i64 0), (.slice none 0 0), (.int .i64 0), (.int .i64 0), (.map none)] 128)) (by omega))
        have BX_4 := Lib.hid (BX_3.out.within (within_alloc w3 (.cells #[(.int .i64 0), (.slice none 0 0), (.int .i64 0), (.int .i64 0), (.map none)] 128)) (by omega))
        have HZ_4 := Lib.hid (HZ_3.out.within (within_alloc w3 (.cells #[(.int .i64 0), (.slice none 0 0), (.int .i64 0), (.int .i64 0), (.map none)] 128)) (by omega))
        have HRW_4 := Lib.hid (HRW_3.out.within (within_alloc w3 (.cells #[(.int .i64 0), (.slice none 0 0), (.int .i64 0), (.int .i64 0), (.map none)] 128)) (by omega))
        have Y4 := Lib.hid (show (w3.alloc (.cells #[(.int .i64 0), (.slice none 0 0), (.int .i64 0), (.int .i64 0), (.map none)] 128)).heap.size = w3.heap.size + 1 by simp)
        have hnew := cel5_new w3 (.int .i64 0) (.slice none 0 0) (.int .i64 0) (.int .i64 0) (.map none) 128
        have BB_4 := Lib.hid hnew
        clear hnew
        go_wp2_with fail
        generalize (w3.alloc (.cells #[(.int .i64 0), (.slice none 0 0), (.int .i64 0), (.int .i64 0), (.map none)] 128)) = w4 at *
        go_ret
        exact ⟨none, 0, by rw [HV.out]; rfl, by rw [HV.out]; exact ⟨Nat.le_refl _, .inl rfl⟩, W4.out⟩
      | true =>
        have HF := Lib.hid (briF hb)
        clear hb
        have hnz : (allN l.length).length ≤ 1048576 := by have := HLEN.out; omega
        go_wp2_with fail
        clear g1_0 g1_1 g1_2
        have hyes := newSet_yes p k c l (allN l.length) A (some ⟨g, 0, none⟩) cap l.length g (g + 1) wr HB_2.out.at HZ_2.out hn hnz HF.out.set HF.out.rng
        rw [HLEN.out] at hyes
        refine (hyes).mono ?_
        rintro e w3 ⟨b, rfl, hset, hbge, hb⟩
        have Z3 := Lib.hid (within_of hb).size
        have W3 := Lib.hid (within_on W2.out (within_of hb) W2.out.size (.inr (Nat.le_refl _)))
        have HB_3 := Lib.hid (HB_2.out.within (within_of hb) (by omega))
        have BX_3 := Lib.hid (BX_2.out.within (within_of hb) (by omega))
        have HZ_3 := Lib.hid (HZ_2.out.within (within_of hb) (by omega))
        have HRW_3 := Lib.hid (HRW_2.out.within (within_of hb) (by omega))
        have SM_3 := Lib.hid (hset)
        clear hset hb hyes
        have HBG := Lib.hid hbge
        clear hbge
        have hblt := SM_3.out.lt
        have HBLT := Lib.hid hblt
        clear hblt
        have Z4 := Lib.hid (within_alloc w3 (.cells #[(.int .i64 p), (.slice A l.length cap), (.int .i64 k), (.int .i64 c), (.map (some b))] 128)).size
        have W4 := Lib.hid (within_on W3.out (within_alloc w3 (.cells #[(.int .i64 p), (.slice A l.length cap), (.int .i64 k), (.int .i64 c), (.map (some b))] 128)) W3.out.size (.inr (Nat.le_refl _)))
        have HB_4 := Lib.hid (HB_3.out.within (within_alloc w3 (.cells #[(.int .i64 p), (.slice A l.length cap), (.int .i64 k), (.int .i64 c), (.map (some b))] 128)) (by omega))
        have BX_4 := Lib.hid (BX_3.out.within (within_alloc w3 (.cells #[(.int .i64 p), (.slice A l.length cap), (.int .i64 k), (.int .i64 c), (.map (some b))] 128)) (by omega))
        have HZ_4 := Lib.hid (HZ_3.out.within (within_alloc w3 (.cells #[(.int .i64 p), (.slice A l.length cap), (.int .i64 k), (.int .i64 c), (.map (some b))] 128)) (by omega))
        have HRW_4 := Lib.hid (HRW_3.out.within (within_alloc w3 (.cells #[(.int .i64 p), (.slice A l.length cap), (.int .i64 k), (.int .i64 c), (.map (some b))] 128)) (by omega))
        have SM_4 := Lib.hid (SM_3.out.within (within_alloc w3 (.cells #[(.int .i64 p), (.slice A l.length cap), (.int .i64 k), (.int .i64 c), (.map (some b))] 128)) (by omega))
        have Y4 := Lib.hid (show (w3.alloc (.cells #[(.int .i64 p), (.slice A l.length cap), (.int .i64 k), (.int .i64 c), (.map (some b))] 128)).heap.size = w3.heap.size + 1 by simp)
        have hnew := cel5_new w3 (.int .i64 p) (.slice A l.length cap) (.int .i64 k) (.int .i64 c) (.map (some b)) 128
        have BB_4 := Lib.hid hnew
        clear hnew
        obtain ⟨x0, x1, x2, x3, x4⟩ := BB_4.out.cells
        go_wp2_with fail
        clear x0 x1 x2 x3 x4
        generalize (w3.alloc (.cells #[(.int .i64 p), (.slice A l.length cap), (.int .i64 k), (.int .i64 c), (.map (some b))] 128)) = w4 at *
        refine (mrank p k c l A cap b _ (allN l.length) _ HB_4.out.at SM_4.out hn hnz).mono ?_
        rintro e w5 ⟨rfl, hb⟩
        have Z5 := Lib.hid (within_of hb).size
        have W5 := Lib.hid (within_on W4.out (within_of hb) W4.out.size (.inr (Nat.le_refl _)))
        have HB_5 := Lib.hid (HB_4.out.within (within_of hb) (by omega))
        have BX_5 := Lib.hid (BX_4.out.within (within_of hb) (by omega))
        have HZ_5 := Lib.hid (HZ_4.out.within (within_of hb) (by omega))
        have HRW_5 := Lib.hid (HRW_4.out.within (within_of hb) (by omega))
        have SM_5 := Lib.hid (SM_4.out.within (within_of hb) (by omega))
        have BB_5 := Lib.hid (BB_4.out.within (within_of hb) (by omega))
        clear hb
        rw [HF.out.rank]
        have Z6 := Lib.hid (within_alloc w5 (.cells #[.int .i64 (rankV p k c l)] 3)).size
        have W6 := Lib.hid (within_on W5.out (within_alloc w5 (.cells #[.int .i64 (rankV p k c l)] 3)) W5.out.size (.inr (Nat.le_refl _)))
        have HB_6 := Lib.hid (HB_5.out.within (within_alloc w5 (.cells #[.int .i64 (rankV p k c l)] 3)) (by omega))
        have BX_6 := Lib.hid (BX_5.out.within (within_alloc w5 (.cells #[.int .i64 (rankV p k c l)] 3)) (by omega))
        have HZ_6 := Lib.hid (HZ_5.out.within (within_alloc w5 (.cells #[.int .i64 (rankV p k c l)] 3)) (by omega))
        have HRW_6 := Lib.hid (HRW_5.out.within (within_alloc w5 (.cells #[.int .i64 (rankV p k c l)] 3)) (by omega))
        have SM_6 := Lib.hid (SM_5.out.within (within_alloc w5 (.cells #[.int .i64 (rankV p k c l)] 3)) (by omega))
        have BB_6 := Lib.hid (BB_5.out.within (within_alloc w5 (.cells #[.int .i64 (rankV p k c l)] 3)) (by omega))
        have Y6 := Lib.hid (show (w5.alloc (.cells #[.int .i64 (rankV p k c l)] 3)).heap.size = w5.heap.size + 1 by simp)
        have hnw := heap_alloc_new w5 (.cells #[.int .i64 (rankV p k c l)] 3)
        have RB := Lib.hid hnw
        clear hnw
        go_wp2_with fail
        generalize (w5.alloc (.cells #[.int .i64 (rankV p k c l)] 3)) = w6 at *
        obtain ⟨rb, hrb⟩ : ∃ rb, w5.heap.size = rb := ⟨_, rfl⟩
        obtain ⟨sbx, hsb⟩ : ∃ sbx, w3.heap.size = sbx := ⟨_, rfl⟩
        rw [hrb] at RB ⊢
        have BBF := Lib.hid (show Cel5 w6 sbx 128 (.int .i64 p) (.slice A l.length cap) (.int .i64 k) (.int .i64 c) (.map (some b)) from by rw [← hsb]; exact BB_6.out)
        rw [hsb]
        have hsz : wr.heap.size ≤ b ∧ b < sbx ∧ sbx < rb := by
          have := HBG.out
          have := HBLT.out
          rw [← hsb, ← hrb]
          have := Z1.out
          have := Z2.out
          have := Z3.out
          have := Z4.out
          have := Z5.out
          have := Z6.out
          have := Y1.out
          have := Y4.out
          have := Y6.out
          refine ⟨by omega, by omega, by omega⟩
        have HSZ := Lib.hid hsz
        have HM := Lib.hid (show BrW p k c l A cap b sbx rb w.heap.size w6 (allN l.length).length from ⟨SM_6.out, HB_6.out, BBF.out, RB.out⟩)
        have hgn := HGN.out
        have hgw := HGW.out
        have h24 := HF.out.l24
        have hwle : w.heap.size ≤ w6.heap.size := W6.out.size
        refine (delF_c p k c l A cap b sbx rb w.heap.size _ g _ HM.out h24 ⟨by omega, by omega, hwle⟩ ⟨by omega, by omega⟩ ⟨by omega, by omega⟩ (by omega) (own_rebase (show World.ownsRow _ g _ _ _ _ _ from HRW_6.out) (Nat.zero_le _)) (by have := HLEN.out; omega)).mono ?_
        rintro e w99 ⟨rfl, hrow, hbel⟩
        have HRE := Lib.hid hrow
        have HBE := Lib.hid (W6.out.trans hbel)
        clear hrow hbel
        go_wp2_with fail
        go_ret
        rw [HF.out.val]
        exact ⟨some ⟨g, 0, none⟩, l.length, rfl, ⟨Nat.le_refl _, .inr ⟨g, rfl, by omega, (HRE.out.lt g rfl).2, own_rebase HRE.out (by omega)⟩⟩, HBE.out⟩
end Go.Proofs.Ytdkpmaahinbhlaa
