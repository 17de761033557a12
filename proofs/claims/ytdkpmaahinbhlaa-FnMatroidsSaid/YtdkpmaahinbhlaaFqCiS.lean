/- What spec.CircuitOf answers. No condition. -/
import Derived.Test.YtdkpmaahinbhlaaFqB2
import Derived.Test.YtdkpmaahinbhlaaFqB1
import Derived.Test.YtdkpmaahinbhlaaFqIndS
import Derived.Test.YtdkpmaahinbhlaaFqRejS
import Derived.Test.YtdkpmaahinbhlaaFqAccS
import Derived.Deep.RegionHeld3
namespace Go.Proofs.Ytdkpmaahinbhlaa
open Go.RowKit

theorem own_one (W : World) (x : Int) (lo : Nat) (h : lo ≤ W.heap.size) : OwnInts (W.alloc (.cells #[.int .i64 x] 3)) lo (W.alloc (.cells #[.int .i64 x] 3)).heap.size (some ⟨W.heap.size, 0, none⟩) 1 [x] := by
  exact ⟨Nat.le_refl _, .inr ⟨W.heap.size, rfl, h, by simp, heap_own (xs := [.int .i64 x]) (heap_alloc_new W _) rfl h (by simp [maxLen])⟩⟩
/-- The circuit's first bars, and x. -/
noncomputable def ciX (p k c : Int) (l : List (Int × Int)) (x : Int) (j : Nat) : List Int := ciK p k c l x j ++ [x]
theorem ciX_len (p k c : Int) (l : List (Int × Int)) (x : Int) (j : Nat) : (ciX p k c l x j).length ≤ j + 1 := by
  have := ciK_len p k c l x j
  unfold ciX
  simp
  omega
theorem ciX_zero (p k c : Int) (l : List (Int × Int)) (x : Int) : ciX p k c l x 0 = [x] := by simp [ciX, ciK]
theorem cell_ltB {W : World} {a : Addr} {v : Value} (h : W.cell? a = some v) : a.block < W.heap.size := by
  by_cases e : a.block < W.heap.size
  · exact e
  · exfalso
    unfold World.cell? at h
    rw [Array.getElem?_eq_none (by omega)] at h
    simp at h
theorem befL_step (Z : List Int) (x : Int) (j : Nat) (hj : j < Z.length) : befL (Z.take (j + 1)) x = if Z.getD j 0 < x then befL (Z.take j) x ++ [Z.getD j 0] else befL (Z.take j) x := by
  unfold befL
  rw [List.take_succ_eq_append_getElem hj, List.filter_append]
  have e : Z.getD j 0 = Z[j] := by simp [List.getD, List.getElem?_eq_getElem hj]
  rw [e]
  by_cases h : Z[j] < x
  · rw [if_pos h]; simp [h]
  · rw [if_neg h]; simp [h]
theorem OwnInts.grow {W W' : World} {lo : Nat} {A : Option Addr} {cap : Nat} {zs : List Int} (h : OwnInts W lo W.heap.size A cap zs) (hb : Below W.heap.size W W') : OwnInts W' lo W'.heap.size A cap zs :=
  (h.within (within_of hb) (.inr (Nat.zero_le _))).widen (Nat.le_refl _) hb.size (Nat.le_refl _)
set_option maxHeartbeats 6000000 in
set_option maxRecDepth 100000 in
theorem specCi (p k c x : Int) (l : List (Int × Int)) (A : Option Addr) (cap : Nat) (w : World) (hl : BarsAt w w.heap.size A l) (hn : l.length ≤ 1048576) :
    Calls Try.prog 53 #[.agg #[.int .i64 p, .slice A l.length cap], .int .i64 k, .int .i64 c, .int .i64 x] w (IntsOB w (ciV p k c l x) (ciB p k c l x)) := by
  have HREJ : ∀ W : World, BarsAt W W.heap.size A l → Calls Try.prog 23 #[.agg #[.int .i64 p, .slice A l.length cap], .int .i64 k, .int .i64 c] W (IntsO W (rejV p k c l)) := fun W h => specRej p k c l A cap W h hn
  have hrl : (rejV p k c l).length ≤ 1048576 := Nat.le_trans (rejV_len p k c l) hn
  cases hq : ciB p k c l x with
  | false =>
    have HV := Lib.hid (ciV_no hq)
    have HD := Lib.hid (show decide (x ∈ rejV p k c l) = false from hq)
    clear hq
    have W0 := Lib.hid (Below.refl w.heap.size w)
    have HB_0 := Lib.hid (bars_in hl)
    clear hl
    have Z1 := Lib.hid (within_alloc w (.cells #[.int .i64 p, (.slice A l.length cap)] 26)).size
    have W1 := Lib.hid (within_on W0.out (within_alloc w (.cells #[.int .i64 p, (.slice A l.length cap)] 26)) W0.out.size (.inr (Nat.le_refl _)))
    have HB_1 := Lib.hid (HB_0.out.within (within_alloc w (.cells #[.int .i64 p, (.slice A l.length cap)] 26)) (by omega))
    have Y1 := Lib.hid (show (w.alloc (.cells #[.int .i64 p, (.slice A l.length cap)] 26)).heap.size = w.heap.size + 1 by simp)
    have hnew := box_new w p (.slice A l.length cap) 26
    have BX_1 := Lib.hid hnew
    clear hnew
    go_enter Try.func53, Try.ntmps53
    obtain ⟨g0_0, g0_1, g0_2⟩ := BX_1.out
    go_wp2_with fail
    clear g0_0 g0_1 g0_2
    generalize (w.alloc (.cells #[.int .i64 p, (.slice A l.length cap)] 26)) = w1 at *
    refine (HREJ _ HB_1.out.at).mono ?_
    rintro e w2 ⟨AR, cR, rfl, ho, hb⟩
    have Z2 := Lib.hid (within_of hb).size
    have W2 := Lib.hid (within_on W1.out (within_of hb) W1.out.size (.inr (Nat.le_refl _)))
    have HB_2 := Lib.hid (HB_1.out.within (within_of hb) (by omega))
    have BX_2 := Lib.hid (BX_1.out.within (within_of hb) (by omega))
    have RJ_2 := Lib.hid (ho.reads)
    clear ho hb HREJ
    go_wp2_with fail
    refine (has_c (rejV p k c l) x AR cR _ _ _ RJ_2.out hrl).mono ?_
    rintro e w9 ⟨rfl, rfl⟩
    rw [HD.out]
    have Z3 := Lib.hid (within_alloc w2 (.cells #[] 3)).size
    have W3 := Lib.hid (within_on W2.out (within_alloc w2 (.cells #[] 3)) W2.out.size (.inr (Nat.le_refl _)))
    have HB_3 := Lib.hid (HB_2.out.within (within_alloc w2 (.cells #[] 3)) (by omega))
    have BX_3 := Lib.hid (BX_2.out.within (within_alloc w2 (.cells #[] 3)) (by omega))
    have RJ_3 := Lib.hid (RJ_2.out.within (within_alloc w2 (.cells #[] 3)) (by omega))
    have Y3 := Lib.hid (show (w2.alloc (.cells #[] 3)).heap.size = w2.heap.size + 1 by simp)
    have hcs := trivial
    go_wp2_with fail
    generalize (w2.alloc (.cells #[] 3)) = w3 at *
    go_ret2
    exact ⟨some ⟨w2.heap.size, 0, none⟩, 0, by rw [HV.out]; rfl, by rw [HV.out]; exact ⟨Nat.le_refl _, .inl rfl⟩, W3.out⟩
  | true =>
    have HF := Lib.hid (ciF hq)
    have HD := Lib.hid (show decide (x ∈ rejV p k c l) = true from hq)
    have HACC : ∀ W : World, BarsAt W W.heap.size A l → Calls Try.prog 22 #[.agg #[.int .i64 p, .slice A l.length cap], .int .i64 k, .int .i64 c] W (IntsO W (runV p k c l).2.2) := fun W h => specAcc p k c l A cap W h hn
    have hz24 := (runV_len p k c l).2.2
    have HB24 := Lib.hid (befV_len p k c l x)
    clear hq
    have W0 := Lib.hid (Below.refl w.heap.size w)
    have HB_0 := Lib.hid (bars_in hl)
    clear hl
    have Z1 := Lib.hid (within_alloc w (.cells #[.int .i64 p, (.slice A l.length cap)] 26)).size
    have W1 := Lib.hid (within_on W0.out (within_alloc w (.cells #[.int .i64 p, (.slice A l.length cap)] 26)) W0.out.size (.inr (Nat.le_refl _)))
    have HB_1 := Lib.hid (HB_0.out.within (within_alloc w (.cells #[.int .i64 p, (.slice A l.length cap)] 26)) (by omega))
    have Y1 := Lib.hid (show (w.alloc (.cells #[.int .i64 p, (.slice A l.length cap)] 26)).heap.size = w.heap.size + 1 by simp)
    have hnew := box_new w p (.slice A l.length cap) 26
    have BX_1 := Lib.hid hnew
    clear hnew
    go_enter Try.func53, Try.ntmps53
    obtain ⟨g0_0, g0_1, g0_2⟩ := BX_1.out
    go_wp2_with fail
    clear g0_0 g0_1 g0_2
    generalize (w.alloc (.cells #[.int .i64 p, (.slice A l.length cap)] 26)) = w1 at *
    refine (HREJ _ HB_1.out.at).mono ?_
    rintro e w2 ⟨AR, cR, rfl, ho, hb⟩
    have Z2 := Lib.hid (within_of hb).size
    have W2 := Lib.hid (within_on W1.out (within_of hb) W1.out.size (.inr (Nat.le_refl _)))
    have HB_2 := Lib.hid (HB_1.out.within (within_of hb) (by omega))
    have BX_2 := Lib.hid (BX_1.out.within (within_of hb) (by omega))
    have RJ_2 := Lib.hid (ho.reads)
    clear ho hb HREJ
    go_wp2_with fail
    refine (has_c (rejV p k c l) x AR cR _ _ _ RJ_2.out hrl).mono ?_
    rintro e w9 ⟨rfl, rfl⟩
    rw [HD.out]
    have Z3 := Lib.hid (within_alloc w2 (.cells #[] 3)).size
    have W3 := Lib.hid (within_on W2.out (within_alloc w2 (.cells #[] 3)) W2.out.size (.inr (Nat.le_refl _)))
    have HB_3 := Lib.hid (HB_2.out.within (within_alloc w2 (.cells #[] 3)) (by omega))
    have BX_3 := Lib.hid (BX_2.out.within (within_alloc w2 (.cells #[] 3)) (by omega))
    have RJ_3 := Lib.hid (RJ_2.out.within (within_alloc w2 (.cells #[] 3)) (by omega))
    have Y3 := Lib.hid (show (w2.alloc (.cells #[] 3)).heap.size = w2.heap.size + 1 by simp)
    have hown := ownR_empty w2
    have OE_3 := Lib.hid hown
    clear hown
    obtain ⟨g1_0, g1_1, g1_2⟩ := BX_3.out
    go_wp2_with fail
    clear g1_0 g1_1 g1_2
    generalize (w2.alloc (.cells #[] 3)) = w3 at *
    refine (HACC _ HB_3.out.at).mono ?_
    rintro e w4 ⟨AZ, cZ, rfl, ho, hb⟩
    have Z4 := Lib.hid (within_of hb).size
    have W4 := Lib.hid (within_on W3.out (within_of hb) W3.out.size (.inr (Nat.le_refl _)))
    have HB_4 := Lib.hid (HB_3.out.within (within_of hb) (by omega))
    have BX_4 := Lib.hid (BX_3.out.within (within_of hb) (by omega))
    have RJ_4 := Lib.hid (RJ_3.out.within (within_of hb) (by omega))
    have OE_4 := Lib.hid (OE_3.out.within (within_of hb) (by omega))
    have ZR_4 := Lib.hid (ho.reads)
    clear ho hb HACC
    obtain ⟨Z, hZ⟩ : ∃ Z, (runV p k c l).2.2 = Z := ⟨_, rfl⟩
    have HBV := Lib.hid (show befV p k c l x = befL Z x from by unfold befV; rw [hZ])
    rw [hZ] at ZR_4 hz24 ⊢
    clear hZ
    go_wp2_with fail
    have hws : w.heap.size < w2.heap.size := by have := BX_1.out.1; have := Z1.out; have := Z2.out; have := Z3.out; have := Z4.out; omega
    have HWS := Lib.hid hws
    clear hws
    have HG0 := Lib.hid (show GrowP w2.heap.size (w2.heap.size + 1) w4 w4 (befL (Z.take 0) x) (some ⟨w2.heap.size, 0, none⟩) 0 w2.heap.size (w2.heap.size + 1) from ⟨OE_4.out, .inl ⟨rfl, rfl⟩, (by have := Z1.out; have := Z2.out; have := Z3.out; have := Z4.out; have := Y1.out; have := Y3.out; omega), Within.refl _ _ _⟩)
    go_loopw [10, 12] (fun u i wr => ∃ j : Nat, j ≤ Z.length ∧ i = .int .i64 j ∧ ∃ Ao co lo2 hi2, u = .slice Ao (befL (Z.take j) x).length co ∧ GrowP w2.heap.size (w2.heap.size + 1) w4 wr (befL (Z.take j) x) Ao co lo2 hi2) (fun _ i _ => Z.length - (intOf i).toNat)
    case atStart => exact ⟨0, Nat.zero_le _, rfl, _, 0, _, _, rfl, HG0.out⟩
    case round =>
      obtain ⟨j, hj, rfl, Ao, co, lo2, hi2, rfl, hg⟩ := hrel
      have HG := Lib.hid hg
      have hcl : (befL (Z.take j) x).length ≤ 24 := Nat.le_trans (List.length_filter_le _ _) (by rw [List.length_take]; omega)
      have HCL := Lib.hid hcl
      clear hcl
      by_cases hlt : j < Z.length
      · have hji : (j : Int) < (Z.length : Int) := by omega
        obtain ⟨zb, zo, rfl, hzc⟩ := row_at (ZR_4.out.within hg.wi (by have := Z1.out; have := Z2.out; have := Z3.out; have := Z4.out; have := Y1.out; have := Y3.out; omega)) (by omega)
        have hz := hzc j hlt
        have HST := Lib.hid (befL_step Z x j hlt)
        obtain ⟨y, hy⟩ : ∃ y, Z.getD j 0 = y := ⟨_, rfl⟩
        rw [hy] at hz HST
        clear hzc hg hy
        by_cases c9 : y < x
        · have HN := Lib.hid (HST.out.trans (if_pos c9))
          go_wp2_with (at_builtin; refine wpList_pushR _ rfl _ _ rfl lo2 hi2 Ao co (befL (Z.take j) x) y rfl HG.out.row _ (by first | rfl | (simp only [World.size_setCell]; rfl)) (by have := HCL.out; omega) HG.out.le ?_; intro A6 c6 w16 lo6 hi6 hr6 hor6 hw6; have HG6 := Lib.hid (HG.out.push hr6 hor6 hw6); clear hr6 hor6 hw6)
          go_roundw
          case rel => exact ⟨j + 1, by omega, by go_num, A6, c6, lo6, hi6, by rw [HN.out]; simp, by rw [HN.out]; exact HG6.out⟩
          case measure => simp [intOf]; omega
        · have HN := Lib.hid (HST.out.trans (if_neg c9))
          go_wp2_with fail
          go_roundw
          case rel => exact ⟨j + 1, by omega, by go_num, Ao, co, lo2, hi2, by rw [HN.out], by rw [HN.out]; exact HG.out⟩
          case measure => simp [intOf]; omega
      · obtain rfl : j = Z.length := by omega
        have hbv : befL (Z.take Z.length) x = befV p k c l x := by rw [List.take_length, HBV.out]
        rw [hbv] at HG ⊢
        obtain ⟨B, hB⟩ : ∃ B, befV p k c l x = B := ⟨_, rfl⟩
        have HF2 := HF.out
        have hb24 := HB24.out
        rw [hB] at HG hb24 ⊢
        have HLOW := Lib.hid (show ∀ y ∈ B, y < x from by rw [← hB]; exact HF2.low)
        have HSET := Lib.hid (show setB p l (B ++ [x]) = true from by rw [← hB]; exact HF2.set)
        obtain ⟨F, hF⟩ : ∃ F, B ++ [x] = F := ⟨_, rfl⟩
        have HFF := Lib.hid hF
        have HMID := Lib.hid (fun (j : Nat) (hj : j < B.length) (h : indB p k c l (woL F (B.getD j 0)) = true) => (show wiL (ciX p k c l x j) (B.getD j 0) = ciX p k c l x (j + 1) from by subst hF; subst hB; unfold ciX; rw [HF2.mid j hj, ciK_in hj h]))
        have HOUT := Lib.hid (fun (j : Nat) (hj : j < B.length) (h : indB p k c l (woL F (B.getD j 0)) = false) => (show ciX p k c l x (j + 1) = ciX p k c l x j from by subst hF; subst hB; unfold ciX; rw [ciK_out hj h]))
        have HVAL := Lib.hid (show ciV p k c l x = ciX p k c l x B.length from by rw [← hB]; exact HF2.val)
        clear hB hbv HF2 hF
        have hgw := HG.out.wi
        have hbel : Below w.heap.size w wr := within_on W4.out hgw W4.out.size (.inl (Nat.le_of_lt HWS.out))
        have HBEL := Lib.hid hbel
        have HBW := Lib.hid (HB_4.out.within hgw (.inl (Nat.le_of_lt HWS.out)))
        have HBXW := Lib.hid (BX_4.out.within hgw (.inl HWS.out))
        have HBI := Lib.hid (HG.out.row.ints.reads)
        have HRH := Lib.hid (show hi2 ≤ wr.heap.size from HG.out.row.1)
        clear hgw hbel
        have hal := new_below wr (.cells #[.int .i64 x] 3)
        have HAL := Lib.hid hal
        have ho1 : OwnInts (wr.alloc (.cells #[.int .i64 x] 3)) w.heap.size (wr.alloc (.cells #[.int .i64 x] 3)).heap.size (some ⟨wr.heap.size, 0, none⟩) 1 [x] := own_one wr x w.heap.size HBEL.out.size
        have HO1 := Lib.hid ho1
        clear hal ho1
        have HBIA := Lib.hid (HBI.out.within (within_of HAL.out) (.inr (Nat.zero_le _)))
        go_wp2_with fail
        generalize (wr.alloc (.cells #[.int .i64 x] 3)) = wa at *
        refine (wi_c B x Ao co lo2 hi2 _ HBIA.out (by omega)).mono ?_
        rintro e wb ⟨AF, cF, rfl, hof, hb⟩
        rw [wiL_end HLOW.out, HFF.out] at hof ⊢
        have HFU := Lib.hid hof.reads
        have hbB := below_on (below_on HBEL.out HAL.out HBEL.out.size) hb (Nat.le_trans HBEL.out.size HAL.out.size)
        have HBB := Lib.hid hbB
        have HO2 := Lib.hid (HO1.out.grow hb)
        have HBJ := Lib.hid ((HBIA.out.within (within_of hb) (.inr (Nat.zero_le _))))
        have HBX2 := Lib.hid ((HBXW.out.kept HAL.out).kept hb)
        have HBR := Lib.hid ((HBW.out.within (within_of HAL.out) (.inr (Nat.zero_le _))).within (within_of hb) (.inr (Nat.zero_le _)))
        clear hof hb hbB
        go_wp2_with fail
        go_loopw [13, 15] (fun u i wr => ∃ j : Nat, j ≤ B.length ∧ i = .int .i64 j ∧ ∃ Aq cq, u = .slice Aq (ciX p k c l x j).length cq ∧ OwnInts wr w.heap.size wr.heap.size Aq cq (ciX p k c l x j) ∧ Below wb.heap.size wb wr) (fun _ i _ => B.length - (intOf i).toNat)
        case atStart => exact ⟨0, Nat.zero_le _, rfl, _, 1, by rw [ciX_zero]; rfl, by rw [ciX_zero]; exact HO2.out, Below.refl _ _⟩
        case round =>
          obtain ⟨j, hj, rfl, Aq, cq, rfl, hoq, hbq⟩ := hrel
          have HOQ := Lib.hid hoq
          have HBQ := Lib.hid hbq
          have hkl := ciX_len p k c l x j
          have HKL := Lib.hid (show (ciX p k c l x j).length ≤ 25 from by omega)
          clear hoq hkl
          by_cases hlt : j < B.length
          · have hji : (j : Int) < (B.length : Int) := by omega
            have hbi := HBJ.out.within (within_of hbq) (.inr (Nat.zero_le _))
            obtain ⟨zb, zo, rfl, hzc⟩ := row_at hbi (by omega)
            have hz := hzc j hlt
            have hzlt := cell_ltB hz
            have hbx3 := HBX2.out.kept hbq
            obtain ⟨hxlt, g1, g2⟩ := hbx3
            have hdr : Below wr.heap.size wr wr.drew := (Below.refl _ _).drew
            have HDR := Lib.hid hdr
            have HB8 := Lib.hid ((HBR.out.within (within_of hbq) (.inr (Nat.zero_le _))).within (within_of hdr) (.inr (Nat.zero_le _)))
            have HFU8 := Lib.hid ((HFU.out.within (within_of hbq) (.inr (Nat.zero_le _))).within (within_of hdr) (.inr (Nat.zero_le _)))
            have HOUTJ := Lib.hid (HOUT.out j hlt)
            have HMJ := Lib.hid (HMID.out j hlt)
            obtain ⟨z, hzd⟩ : ∃ z, B.getD j 0 = z := ⟨_, rfl⟩
            rw [hzd] at hz HOUTJ HMJ
            have HKK := Lib.hid (show (fun W' => (W'.cell? ⟨w.heap.size, 0, none⟩ = some (.int .i64 p) ∧ W'.cell? ⟨w.heap.size, 1, none⟩ = some (.slice A l.length cap)) ∧ W'.cell? ⟨zb, zo + j, none⟩ = some (.int .i64 z)) wr from ⟨⟨g1, g2⟩, hz⟩)
            have HKB := Lib.hid (fun (W' : World) (h : Below wr.heap.size wr W') => show (fun W' => (W'.cell? ⟨w.heap.size, 0, none⟩ = some (.int .i64 p) ∧ W'.cell? ⟨w.heap.size, 1, none⟩ = some (.slice A l.length cap)) ∧ W'.cell? ⟨zb, zo + j, none⟩ = some (.int .i64 z)) W' from ⟨⟨(h.cell (p := ⟨w.heap.size, 0, none⟩) hxlt).trans g1, (h.cell (p := ⟨w.heap.size, 1, none⟩) hxlt).trans g2⟩, (h.cell (p := ⟨zb, zo + j, none⟩) hzlt).trans hz⟩)
            have HWL := Lib.hid (show (woL F z).length ≤ 1048576 from by unfold woL; exact Nat.le_trans (List.length_filter_le _ _) (by rw [← HFF.out]; simp; omega))
            have hfl : F.length ≤ 1048576 := by rw [← HFF.out]; simp; omega
            clear hzd hzc hbi hdr hxlt hzlt hbq
            cases hi8 : indB p k c l (woL F z) with
            | false =>
              have HI := Lib.hid hi8
              have HN := Lib.hid (HOUTJ.out hi8)
              clear hi8
              go_wp2_with fail
              go_region_held3 (fun W' => (W'.cell? ⟨w.heap.size, 0, none⟩ = some (.int .i64 p) ∧ W'.cell? ⟨w.heap.size, 1, none⟩ = some (.slice A l.length cap)) ∧ W'.cell? ⟨zb, zo + j, none⟩ = some (.int .i64 z))
                (first | exact HKK.out | exact HKB.out _ HDR.out | exact HKB.out _ HB5.out | exact HKB.out _ HB6.out | fail)
                (first
                  | (go_at_call 48; refine (specInd p k c l (woL F z) A A2 cap c2 _ _ _ ?_ HO5.out hn HWL.out).mono ?_; (exact HB9.out.at); rintro e w6 ⟨rfl, hb⟩; rw [HI.out]; have HB6 := Lib.hid (below_on HB5.out hb HB5.out.size); clear hb)
                  | (go_at_call 147; refine (wo_c F z AF cF _ _ _ HFU8.out hfl).mono ?_; rintro e w5 ⟨A2, c2, rfl, ho, hb⟩; have HB5 := Lib.hid (below_on HDR.out hb HDR.out.size); have HB9 := Lib.hid (HB8.out.within (within_of hb) (.inr (Nat.zero_le _))); have HO5 := Lib.hid ho.reads; clear ho hb))
              go_wp2_with fail
              go_roundw
              case rel => exact ⟨j + 1, by omega, by go_num, Aq, cq, by rw [HN.out], by rw [HN.out]; exact HOQ.out.grow HB6.out, below_on HBQ.out HB6.out HBQ.out.size⟩
              case measure => simp [intOf]; omega
            | true =>
              have HI := Lib.hid hi8
              have HMK := Lib.hid (HMJ.out hi8)
              clear hi8
              go_wp2_with fail
              go_region_held3 (fun W' => (W'.cell? ⟨w.heap.size, 0, none⟩ = some (.int .i64 p) ∧ W'.cell? ⟨w.heap.size, 1, none⟩ = some (.slice A l.length cap)) ∧ W'.cell? ⟨zb, zo + j, none⟩ = some (.int .i64 z))
                (first | exact HKK.out | exact HKB.out _ HDR.out | exact HKB.out _ HB5.out | exact HKB.out _ HB6.out | fail)
                (first
                  | (go_at_call 48; refine (specInd p k c l (woL F z) A A2 cap c2 _ _ _ ?_ HO5.out hn HWL.out).mono ?_; (exact HB9.out.at); rintro e w6 ⟨rfl, hb⟩; rw [HI.out]; have HB6 := Lib.hid (below_on HB5.out hb HB5.out.size); clear hb)
                  | (go_at_call 147; refine (wo_c F z AF cF _ _ _ HFU8.out hfl).mono ?_; rintro e w5 ⟨A2, c2, rfl, ho, hb⟩; have HB5 := Lib.hid (below_on HDR.out hb HDR.out.size); have HB9 := Lib.hid (HB8.out.within (within_of hb) (.inr (Nat.zero_le _))); have HO5 := Lib.hid ho.reads; clear ho hb))
              have hk6 := HKB.out _ HB6.out
              have hz6 := hk6.2
              have HO6 := Lib.hid (HOQ.out.grow HB6.out)
              clear hk6
              go_wp2_with fail
              refine (wi_c (ciX p k c l x j) z Aq cq _ _ _ HO6.out.reads (by have := HKL.out; omega)).mono ?_
              rintro e w7 ⟨A7, c7, rfl, ho7, hb7⟩
              rw [HMK.out] at ho7 ⊢
              have HO7 := Lib.hid (ho7.widen (Nat.le_trans HBB.out.size (Nat.le_trans HBQ.out.size HB6.out.size)) (Nat.le_refl _) (Nat.le_refl _))
              have HB7 := Lib.hid (below_on (below_on HBQ.out HB6.out HBQ.out.size) hb7 (Nat.le_trans HBQ.out.size HB6.out.size))
              clear ho7 hb7 hz6
              go_wp2_with fail
              go_roundw
              case rel => exact ⟨j + 1, by omega, by go_num, A7, c7, rfl, HO7.out, HB7.out⟩
              case measure => simp [intOf]; omega
          · obtain rfl : j = B.length := by omega
            go_wp2_with fail
            go_ret2
            rw [HVAL.out]
            exact ⟨Aq, cq, rfl, HOQ.out, below_on HBB.out HBQ.out HBB.out.size⟩
end Go.Proofs.Ytdkpmaahinbhlaa
