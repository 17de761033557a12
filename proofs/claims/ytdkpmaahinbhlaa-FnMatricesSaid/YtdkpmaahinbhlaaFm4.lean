/- Several texts in one, in the order in which they build on each other: what stands on the way to the laws; each names its own matter. No condition. -/
import Derived.Test.YtdkpmaahinbhlaaFm3
import Derived.Deep.RegionHeld3
/- The law FnMatrices returns true at every input: on drawn matrices rank and null space add up to the columns, each vector of the null space is taken to zero, rows and columns have the same rank. No condition. -/
namespace Go.Proofs.Ytdkpmaahinbhlaa
open Go.RowKit

theorem CodeIs.within {W W' : World} {B lo hi : Nat} {A : Option Addr} {len : Nat} {zs : Nat → Int} (h : CodeIs W B A len zs) (hw : Within lo hi W W') (hd : B ≤ lo ∨ hi ≤ 0) : CodeIs W' B A len zs :=
  ⟨h.1, fun hl => by
    obtain ⟨b, off, e, hlt, hc⟩ := h.2 hl
    have hx := hc 0 hl
    have hlt2 := World.block_lt_of_cell? W _ hx
    exact ⟨b, off, e, hlt, fun k hk => (World.cell?_of_block (a := ⟨b, off + k, none⟩) (hw.block b hlt2 (by omega))).trans (hc k hk)⟩⟩
theorem CodeIs.up {W : World} {B B' : Nat} {A : Option Addr} {len : Nat} {zs : Nat → Int} (h : CodeIs W B A len zs) (hB : B ≤ B') : CodeIs W B' A len zs :=
  ⟨h.1, fun hl => by
    obtain ⟨b, off, e, hlt, hc⟩ := h.2 hl
    exact ⟨b, off, e, by omega, hc⟩⟩
/-- Nothing that stood at w0 was written. -/
def BelF (w0 W : World) : Prop := Below w0.heap.size w0 W
theorem BelF.within {w0 W W' : World} {lo hi : Nat} (h : BelF w0 W) (hw : Within lo hi W W') (hd : w0.heap.size ≤ lo ∨ hi ≤ lo) : BelF w0 W' := within_on h hw h.size hd
/-- A cell that holds v. -/
def HdF (b i : Nat) (v : Value) (W : World) : Prop := b < W.heap.size ∧ W.cell? ⟨b, i, none⟩ = some v
theorem HdF.within {b i lo hi : Nat} {v : Value} {W W' : World} (h : HdF b i v W) (hw : Within lo hi W W') (hd : b < lo ∨ hi ≤ b) : HdF b i v W' := ⟨Nat.lt_of_lt_of_le h.1 hw.size, (World.cell?_of_block (a := ⟨b, i, none⟩) (hw.block b h.1 hd)).trans h.2⟩
theorem gcdV_comm (a b : Int) : gcdV a b = gcdV b a := by
  unfold gcdV
  by_cases h1 : OkG a <;> by_cases h2 : OkG b <;> simp [h1, h2, Int.gcd_comm]
theorem mem_getD {rs : List (List Int)} {k : Nat} (h : k < rs.length) : rs.getD k [] ∈ rs := by
  rw [List.getD_eq_getElem?_getD, List.getElem?_eq_getElem h, Option.getD_some]; exact List.getElem_mem h

set_option maxHeartbeats 16000000 in
set_option maxRecDepth 100000 in
theorem lawMatrices0 (w : World) (A : Option Addr) (len cap : Nat) (zs : Nat → Int) (hc : CodeIs w w.heap.size A len zs) (hbig : (len : Int) ≤ 1048576) :
    Calls Try.prog 5 #[.slice A len cap] w fun e w' => e = .returned (.bool true) ∧ Below w.heap.size w w' := by
  have CO_0 := Lib.hid hc
  have hl48 : len ≤ 140737488351232 := by omega
  clear hc
  have W0 := Lib.hid (Below.refl w.heap.size w)
  go_enter Try.func5, Try.ntmps5
  go_wp2_with fail
  refine (big_no w A len cap hbig).mono ?_
  rintro e w' ⟨rfl, rfl⟩
  go_wp2_with fail
  refine (drawNul_c w A len cap zs CO_0.out hl48).mono ?_
  rintro e w1 ⟨AM, cm, m, rfl, hd, hr, hb⟩
  have Z1 := Lib.hid (within_of hb).size
  have W1 := Lib.hid (within_on W0.out (within_of hb) W0.out.size (.inr (Nat.le_refl _)))
  have CO_1 := Lib.hid (CO_0.out.within (within_of hb) (by omega))
  have MR_1 := Lib.hid (hr)
  have HD := Lib.hid hd
  clear hd hr hb
  have hn : m.length ≤ 1048576 := by have := HD.out.2.1; omega
  have HRW := Lib.hid (show ∀ k, k < m.length → (m.getD k []).length ≤ 1048576 from fun k hk => Nat.le_trans (HD.out.2.2 k hk) (by decide))
  have hz : (nulV m).length ≤ 1048576 := Nat.le_trans (nulV_len m) (by decide)
  have HNR := Lib.hid (show ∀ k, k < (nulV m).length → ((nulV m).getD k []).length ≤ 1048576 from fun k _ => Nat.le_trans (nulV_row m k) (by decide))
  have ht : (trV m).length ≤ 1048576 := Nat.le_trans (trV_len m) (by decide)
  have HTR := Lib.hid (show ∀ k, k < (trV m).length → ((trV m).getD k []).length ≤ 1048576 from fun k _ => Nat.le_trans (trV_row m k) (by decide))
  go_wp2_with fail
  refine (implRkm m AM cm _ _ _ MR_1.out hn HRW.out).mono ?_
  rintro e w2 ⟨rfl, hb⟩
  have Z2 := Lib.hid (within_of hb).size
  have W2 := Lib.hid (within_on W1.out (within_of hb) W1.out.size (.inr (Nat.le_refl _)))
  have CO_2 := Lib.hid (CO_1.out.within (within_of hb) (by omega))
  have MR_2 := Lib.hid (MR_1.out.within (within_of hb) (by omega))
  clear hb
  go_wp2_with fail
  refine (implNul m AM cm _ _ _ MR_2.out hn HRW.out).mono ?_
  rintro e w3 ⟨AL, cl, rfl, ho, hb⟩
  have Z3 := Lib.hid (within_of hb).size
  have W3 := Lib.hid (within_on W2.out (within_of hb) W2.out.size (.inr (Nat.le_refl _)))
  have CO_3 := Lib.hid (CO_2.out.within (within_of hb) (by omega))
  have MR_3 := Lib.hid (MR_2.out.within (within_of hb) (by omega))
  have LR_3 := Lib.hid (ho.reads)
  clear ho hb
  go_wp2_with fail
  refine (specRkm m AM cm _ _ _ MR_3.out hn HRW.out).mono ?_
  rintro e w4 ⟨rfl, hb⟩
  have Z4 := Lib.hid (within_of hb).size
  have W4 := Lib.hid (within_on W3.out (within_of hb) W3.out.size (.inr (Nat.le_refl _)))
  have CO_4 := Lib.hid (CO_3.out.within (within_of hb) (by omega))
  have MR_4 := Lib.hid (MR_3.out.within (within_of hb) (by omega))
  have LR_4 := Lib.hid (LR_3.out.within (within_of hb) (by omega))
  clear hb
  have hne1 : (rkmV m != rkmV m) = false := by simp
  have hne2 : (isMatB m != isMatB m) = false := by simp
  go_wp2_with fail
  refine (specNul m AM cm _ _ _ MR_4.out hn HRW.out).mono ?_
  rintro e w5 ⟨AS, cs, rfl, hs, hb⟩
  have Z5 := Lib.hid (within_of hb).size
  have W5 := Lib.hid (within_on W4.out (within_of hb) W4.out.size (.inr (Nat.le_refl _)))
  have CO_5 := Lib.hid (CO_4.out.within (within_of hb) (by omega))
  have MR_5 := Lib.hid (MR_4.out.within (within_of hb) (by omega))
  have LR_5 := Lib.hid (LR_4.out.within (within_of hb) (by omega))
  have NS_5 := Lib.hid (hs)
  clear hs hb
  go_wp2_with fail
  refine (sameSets_c (nulV m) AL AS cl cs _ _ _ _ _ LR_5.out NS_5.out hz HNR.out).mono ?_
  rintro e w6 ⟨rfl, hb⟩
  have Z6 := Lib.hid (within_of hb).size
  have W6 := Lib.hid (within_on W5.out (within_of hb) W5.out.size (.inr (Nat.le_refl _)))
  have CO_6 := Lib.hid (CO_5.out.within (within_of hb) (by omega))
  have MR_6 := Lib.hid (MR_5.out.within (within_of hb) (by omega))
  have LR_6 := Lib.hid (LR_5.out.within (within_of hb) (by omega))
  have NS_6 := Lib.hid (NS_5.out.within (within_of hb) (by omega))
  clear hb
  go_wp2_with fail
  refine (implMat m AM cm _ _ _ MR_6.out hn HRW.out).mono ?_
  rintro e w' ⟨rfl, rfl⟩
  go_wp2_with fail
  refine (specMat m AM cm _ _ _ MR_6.out hn HRW.out).mono ?_
  rintro e w7 ⟨rfl, hb⟩
  have Z7 := Lib.hid (within_of hb).size
  have W7 := Lib.hid (within_on W6.out (within_of hb) W6.out.size (.inr (Nat.le_refl _)))
  have CO_7 := Lib.hid (CO_6.out.within (within_of hb) (by omega))
  have MR_7 := Lib.hid (MR_6.out.within (within_of hb) (by omega))
  have LR_7 := Lib.hid (LR_6.out.within (within_of hb) (by omega))
  have NS_7 := Lib.hid (NS_6.out.within (within_of hb) (by omega))
  clear hb
  go_wp2_with fail
  refine (implTr m AM cm _ _ _ MR_7.out hn HRW.out).mono ?_
  rintro e w8 ⟨AT, ct, rfl, ho, hb⟩
  have Z8 := Lib.hid (within_of hb).size
  have W8 := Lib.hid (within_on W7.out (within_of hb) W7.out.size (.inr (Nat.le_refl _)))
  have CO_8 := Lib.hid (CO_7.out.within (within_of hb) (by omega))
  have MR_8 := Lib.hid (MR_7.out.within (within_of hb) (by omega))
  have LR_8 := Lib.hid (LR_7.out.within (within_of hb) (by omega))
  have NS_8 := Lib.hid (NS_7.out.within (within_of hb) (by omega))
  have TI_8 := Lib.hid (ho.reads)
  clear ho hb
  go_wp2_with fail
  refine (specTr m AM cm _ _ _ MR_8.out hn HRW.out).mono ?_
  rintro e w9 ⟨AU, cu, rfl, hs, hb⟩
  have Z9 := Lib.hid (within_of hb).size
  have W9 := Lib.hid (within_on W8.out (within_of hb) W8.out.size (.inr (Nat.le_refl _)))
  have CO_9 := Lib.hid (CO_8.out.within (within_of hb) (by omega))
  have MR_9 := Lib.hid (MR_8.out.within (within_of hb) (by omega))
  have LR_9 := Lib.hid (LR_8.out.within (within_of hb) (by omega))
  have NS_9 := Lib.hid (NS_8.out.within (within_of hb) (by omega))
  have TI_9 := Lib.hid (TI_8.out.within (within_of hb) (by omega))
  have TS_9 := Lib.hid (hs)
  clear hs hb
  go_wp2_with fail
  refine (sameSets_c (trV m) AT AU ct cu _ _ _ _ _ TI_9.out TS_9.out ht HTR.out).mono ?_
  rintro e w10 ⟨rfl, hb⟩
  have Z10 := Lib.hid (within_of hb).size
  have W10 := Lib.hid (within_on W9.out (within_of hb) W9.out.size (.inr (Nat.le_refl _)))
  have CO_10 := Lib.hid (CO_9.out.within (within_of hb) (by omega))
  have MR_10 := Lib.hid (MR_9.out.within (within_of hb) (by omega))
  have LR_10 := Lib.hid (LR_9.out.within (within_of hb) (by omega))
  have NS_10 := Lib.hid (NS_9.out.within (within_of hb) (by omega))
  have TI_10 := Lib.hid (TI_9.out.within (within_of hb) (by omega))
  have TS_10 := Lib.hid (TS_9.out.within (within_of hb) (by omega))
  clear hb
  clear NS_10
  clear TI_10
  clear TS_10
  clear hne1 hne2
  by_cases hM : MatP m
  · have HM := Lib.hid hM
    have HSM := Lib.hid (fun (W : World) (lo hi : Nat) (h : RowsIn W lo hi AM m) => specMat m AM cm lo hi W h hn HRW.out)
    rw [isMatB_yes hM] at HSM
    have HSUM := Lib.hid (nul_sum hM)
    have HWD := Lib.hid (show (m.getD 0 []).length = widM m from rfl)
    have h12 := hM.w12
    have h0 := hM.h0
    clear hM
    go_wp2_with fail
    refine (HSM.out _ _ _ MR_10.out).mono ?_
    rintro e w11 ⟨rfl, hb⟩
    have Z11 := Lib.hid (within_of hb).size
    have W11 := Lib.hid (within_on W10.out (within_of hb) W10.out.size (.inr (Nat.le_refl _)))
    have CO_11 := Lib.hid (CO_10.out.within (within_of hb) (by omega))
    have MR_11 := Lib.hid (MR_10.out.within (within_of hb) (by omega))
    have LR_11 := Lib.hid (LR_10.out.within (within_of hb) (by omega))
    clear hb
    go_wp2_with fail
    refine (specTr m AM cm _ _ _ MR_11.out hn HRW.out).mono ?_
    rintro e w12 ⟨AU, cu, rfl, hs, hb⟩
    have Z12 := Lib.hid (within_of hb).size
    have W12 := Lib.hid (within_on W11.out (within_of hb) W11.out.size (.inr (Nat.le_refl _)))
    have CO_12 := Lib.hid (CO_11.out.within (within_of hb) (by omega))
    have MR_12 := Lib.hid (MR_11.out.within (within_of hb) (by omega))
    have LR_12 := Lib.hid (LR_11.out.within (within_of hb) (by omega))
    have TS_12 := Lib.hid (hs)
    clear hs hb
    obtain ⟨bm, om, hAM, _, hbm, hmc⟩ := MR_12.out.2 h0
    obtain ⟨A0, c0, hc0, _⟩ := hmc 0 h0
    rw [Nat.add_zero, HWD.out] at hc0
    have hr12 : -1 ≤ rkmV m ∧ rkmV m ≤ 12 := by have := HSUM.out; have := nulV_le HM.out; omega
    have hsw : IntKind.i64.wrap (rkmV m + ((nulV m).length : Int)) = (widM m : Int) := by rw [HSUM.out]; exact IntWalk.i64_in _ (by omega)
    clear hr12
    have hslot : (Value.slice AM m.length cm) = Value.slice (some ⟨bm, om, none⟩) m.length cm := by rw [hAM]
    have HAM := Lib.hid hAM
    have HSL := Lib.hid hslot
    clear hAM hmc
    have hnn : ((widM m : Int) != (widM m : Int)) = false := by simp
    have h0i : (0 : Int) < (m.length : Int) := by omega
    rw [hslot]
    clear hslot
    go_wp2_with fail
    have HTT := Lib.hid (fun (W : World) (lo hi : Nat) (h : RowsIn W lo hi AU (trV m)) => specMat (trV m) AU cu lo hi W h ht HTR.out)
    by_cases hT : MatP (trV m)
    · rw [isMatB_yes hT] at HTT
      have HRT := Lib.hid (fun (W : World) (lo hi : Nat) (h : RowsIn W lo hi AU (trV m)) => implRkm (trV m) AU cu lo hi W h ht HTR.out)
      rw [rkm_tr HM.out hT] at HRT
      have hne1 : (rkmV m != rkmV m) = false := by simp
      clear hT
      refine (HTT.out _ _ _ TS_12.out).mono ?_
      rintro e w13 ⟨rfl, hb⟩
      have Z13 := Lib.hid (within_of hb).size
      have W13 := Lib.hid (within_on W12.out (within_of hb) W12.out.size (.inr (Nat.le_refl _)))
      have CO_13 := Lib.hid (CO_12.out.within (within_of hb) (by omega))
      have MR_13 := Lib.hid (MR_12.out.within (within_of hb) (by omega))
      have LR_13 := Lib.hid (LR_12.out.within (within_of hb) (by omega))
      have TS_13 := Lib.hid (TS_12.out.within (within_of hb) (by omega))
      clear hb
      go_wp2_with fail
      refine (HRT.out _ _ _ TS_13.out).mono ?_
      rintro e w14 ⟨rfl, hb⟩
      have Z14 := Lib.hid (within_of hb).size
      have W14 := Lib.hid (within_on W13.out (within_of hb) W13.out.size (.inr (Nat.le_refl _)))
      have CO_14 := Lib.hid (CO_13.out.within (within_of hb) (by omega))
      have MR_14 := Lib.hid (MR_13.out.within (within_of hb) (by omega))
      have LR_14 := Lib.hid (LR_13.out.within (within_of hb) (by omega))
      have TS_14 := Lib.hid (TS_13.out.within (within_of hb) (by omega))
      clear hb
      go_wp2_with fail
      clear hc0 hsw hnn hne1
      rw [← HSL.out]
      have hrs : w14.heap.size = w14.heap.size := rfl
      clear hrs
      obtain ⟨wq, hwq⟩ : ∃ x, x = w14 := ⟨_, rfl⟩
      clear hwq wq
      go_loopw [7] (fun i wr => ∃ k : Nat, k ≤ (nulV m).length ∧ i = .int .i64 k ∧ Below w14.heap.size w14 wr) (fun i _ => (nulV m).length - (intOf i).toNat)
      case atStart => exact ⟨0, Nat.zero_le _, rfl, Below.refl _ _⟩
      case round =>
        obtain ⟨k, hk, rfl, hb⟩ := hrel
        have Z15 := Lib.hid (within_of hb).size
        have W15 := Lib.hid (within_on W14.out (within_of hb) W14.out.size (.inr (Nat.le_refl _)))
        have CO_15 := Lib.hid (CO_14.out.within (within_of hb) (by omega))
        have MR_15 := Lib.hid (MR_14.out.within (within_of hb) (by omega))
        have LR_15 := Lib.hid (LR_14.out.within (within_of hb) (by omega))
        have TS_15 := Lib.hid (TS_14.out.within (within_of hb) (by omega))
        have BB_15 := Lib.hid (show BelF w14 wr from hb)
        clear hb
        by_cases hkl : k < (nulV m).length
        · have hki : (k : Int) < ((nulV m).length : Int) := by omega
          obtain ⟨hxl, htm, hpx⟩ := nul_each HM.out (mem_getD hkl)
          have hx12 := nulV_row m k
          obtain ⟨bl, ol, hAL, _, hbl, hlc⟩ := LR_15.out.2 (by omega)
          obtain ⟨Ax, cxx, hxc, hxi⟩ := hlc k hkl
          have hbl2 := LR_15.out.1
          obtain ⟨x, hx⟩ : ∃ x, (nulV m).getD k [] = x := ⟨_, rfl⟩
          rw [hx] at hxl htm hpx hx12 hxc hxi
          clear hx hlc
          have hxn : x.length ≤ 1048576 := by omega
          have HTM := Lib.hid htm
          have HPX := Lib.hid hpx
          clear hxl htm hpx
          have XI_15 := Lib.hid (hxi)
          have HX_15 := Lib.hid (show HdF bl (ol + k) (.slice Ax x.length cxx) wr from ⟨by omega, hxc⟩)
          have HAL := Lib.hid hAL
          have hslot : (Value.slice AL (nulV m).length cl) = Value.slice (some ⟨bl, ol, none⟩) (nulV m).length cl := by rw [hAL]
          clear hxi hAL
          rw [hslot]
          clear hslot
          go_wp2_with fail
          clear hxc
          have hTM := Lib.hid (implTm m x AM cm _ _ _ MR_15.out hn HRW.out Ax cxx _ _ XI_15.out hxn)
          rw [HTM.out] at hTM
          refine (hTM.out).mono ?_
          rintro e w16 ⟨AY, cy, rfl, ho, hb⟩
          have Z16 := Lib.hid (within_of hb).size
          have W16 := Lib.hid (within_on W15.out (within_of hb) W15.out.size (.inr (Nat.le_refl _)))
          have CO_16 := Lib.hid (CO_15.out.within (within_of hb) (by omega))
          have MR_16 := Lib.hid (MR_15.out.within (within_of hb) (by omega))
          have LR_16 := Lib.hid (LR_15.out.within (within_of hb) (by omega))
          have TS_16 := Lib.hid (TS_15.out.within (within_of hb) (by omega))
          have BB_16 := Lib.hid (BB_15.out.within (within_of hb) (by omega))
          have XI_16 := Lib.hid (XI_15.out.within (within_of hb) (by omega))
          have HX_16 := Lib.hid (HX_15.out.within (within_of hb) (by omega))
          have YR_16 := Lib.hid (ho.reads)
          clear ho hb hTM
          rw [rowF_len]
          go_wp2_with fail
          obtain ⟨wq, hwq⟩ : ∃ y, y = w16 := ⟨_, rfl⟩
          go_loopw [9] (fun i wz => w16 = wz ∧ ∃ j : Nat, j ≤ m.length ∧ i = .int .i64 j) (fun i _ => m.length - (intOf i).toNat)
          case atStart => exact ⟨rfl, 0, Nat.zero_le _, rfl⟩
          case round =>
            obtain ⟨rfl, j, hj, rfl⟩ := hrel
            by_cases hjl : j < m.length
            · have hji : (j : Int) < (m.length : Int) := by omega
              have hyl : (rowF m.length fun _ => (0 : Int)).length = m.length := rowF_len _ _
              obtain ⟨by', oy, hAY, _, _, hyc⟩ := YR_16.out.2 (by rw [hyl]; omega)
              have hy0 := hyc j (by rw [hyl]; exact hjl)
              rw [rowF_getD hjl] at hy0
              have hs2 : (Value.slice AY m.length cy) = Value.slice (some ⟨by', oy, none⟩) m.length cy := by rw [hAY]
              clear hyl hyc hAY
              rw [hs2]
              clear hs2
              go_wp2_with fail
              go_roundw
              case rel => exact ⟨by simp, j + 1, by omega, by go_num⟩
              case measure => simp [intOf]; omega
            · obtain rfl : j = m.length := by omega
              have hdr : Below w16.heap.size w16 w16.drew := (Below.refl _ _).drew
              have Z17 := Lib.hid (within_of hdr).size
              have W17 := Lib.hid (within_on W16.out (within_of hdr) W16.out.size (.inr (Nat.le_refl _)))
              have CO_17 := Lib.hid (CO_16.out.within (within_of hdr) (by omega))
              have MR_17 := Lib.hid (MR_16.out.within (within_of hdr) (by omega))
              have LR_17 := Lib.hid (LR_16.out.within (within_of hdr) (by omega))
              have TS_17 := Lib.hid (TS_16.out.within (within_of hdr) (by omega))
              have BB_17 := Lib.hid (BB_16.out.within (within_of hdr) (by omega))
              have XI_17 := Lib.hid (XI_16.out.within (within_of hdr) (by omega))
              have HX_17 := Lib.hid (HX_16.out.within (within_of hdr) (by omega))
              have YR_17 := Lib.hid (YR_16.out.within (within_of hdr) (by omega))
              clear hdr
              have hxc3 := HX_17.out.2
              have hPV := Lib.hid (fun (W : World) (lo hi : Nat) (h : IntsIn W lo hi Ax x) => implPv x Ax cxx lo hi W h hxn)
              rw [HPX.out] at hPV
              go_wp2_with fail
              go_region_held3 (fun W' => W'.cell? ⟨bl, ol + k, none⟩ = some (.slice Ax x.length cxx))
                (first | exact HX_17.out.2 | exact HX_18.out.2 | exact HX_19.out.2 | fail)
                (first
                  | (go_at_call 69; refine (hPV.out _ _ _ XI_17.out).mono ?_; rintro e w18 ⟨AQ, cq, rfl, ho, hb⟩; have Z18 := Lib.hid (within_of hb).size; have W18 := Lib.hid (within_on W17.out (within_of hb) W17.out.size (.inr (Nat.le_refl _))); have CO_18 := Lib.hid (CO_17.out.within (within_of hb) (by omega)); have MR_18 := Lib.hid (MR_17.out.within (within_of hb) (by omega)); have LR_18 := Lib.hid (LR_17.out.within (within_of hb) (by omega)); have TS_18 := Lib.hid (TS_17.out.within (within_of hb) (by omega)); have BB_18 := Lib.hid (BB_17.out.within (within_of hb) (by omega)); have XI_18 := Lib.hid (XI_17.out.within (within_of hb) (by omega)); have HX_18 := Lib.hid (HX_17.out.within (within_of hb) (by omega)); have YR_18 := Lib.hid (YR_17.out.within (within_of hb) (by omega)); have QR_18 := Lib.hid ho.reads; clear ho hb)
                  | (go_at_call 21; refine (sameInts_c x AQ Ax cq cxx _ _ _ _ _ QR_18.out XI_18.out hxn).mono ?_; rintro e w19 ⟨rfl, hb⟩; have Z19 := Lib.hid (within_of hb).size; have W19 := Lib.hid (within_on W18.out (within_of hb) W18.out.size (.inr (Nat.le_refl _))); have CO_19 := Lib.hid (CO_18.out.within (within_of hb) (by omega)); have MR_19 := Lib.hid (MR_18.out.within (within_of hb) (by omega)); have LR_19 := Lib.hid (LR_18.out.within (within_of hb) (by omega)); have TS_19 := Lib.hid (TS_18.out.within (within_of hb) (by omega)); have BB_19 := Lib.hid (BB_18.out.within (within_of hb) (by omega)); have XI_19 := Lib.hid (XI_18.out.within (within_of hb) (by omega)); have HX_19 := Lib.hid (HX_18.out.within (within_of hb) (by omega)); have YR_19 := Lib.hid (YR_18.out.within (within_of hb) (by omega)); have QR_19 := Lib.hid (QR_18.out.within (within_of hb) (by omega)); clear hb)
                  | fail)
              go_wp2_with fail
              go_roundw
              case rel => exact ⟨k + 1, by omega, by go_num, BB_19.out⟩
              case measure => simp [intOf]; omega
        · obtain rfl : k = (nulV m).length := by omega
          go_wp2_with fail
          refine (drawTm_c _ A len cap zs (CO_15.out.up W15.out.size) hl48).mono ?_
          rintro e w16 ⟨AX, cx, a, AV, cv, v, rfl, hd, hv5, hr, hi, hb⟩
          have Z16 := Lib.hid (within_of hb).size
          have W16 := Lib.hid (within_on W15.out (within_of hb) W15.out.size (.inr (Nat.le_refl _)))
          have CO_16 := Lib.hid (CO_15.out.within (within_of hb) (by omega))
          have MR_16 := Lib.hid (MR_15.out.within (within_of hb) (by omega))
          have LR_16 := Lib.hid (LR_15.out.within (within_of hb) (by omega))
          have TS_16 := Lib.hid (TS_15.out.within (within_of hb) (by omega))
          have BB_16 := Lib.hid (BB_15.out.within (within_of hb) (by omega))
          have XR_16 := Lib.hid (hr)
          have XV_16 := Lib.hid (hi)
          have HDA := Lib.hid hd
          clear hd hr hi hb
          have han : a.length ≤ 1048576 := by have := HDA.out.2.1; omega
          have HAW := Lib.hid (show ∀ k, k < a.length → (a.getD k []).length ≤ 1048576 from fun k hk => Nat.le_trans (HDA.out.2.2 k hk) (by decide))
          have hvn : v.length ≤ 1048576 := by omega
          go_wp2_with fail
          refine (drawPv_c _ A len cap zs (CO_16.out.up W16.out.size) hl48).mono ?_
          rintro e w17 ⟨AP, cp, p, rfl, hp5, hi, hb⟩
          have Z17 := Lib.hid (within_of hb).size
          have W17 := Lib.hid (within_on W16.out (within_of hb) W16.out.size (.inr (Nat.le_refl _)))
          have CO_17 := Lib.hid (CO_16.out.within (within_of hb) (by omega))
          have MR_17 := Lib.hid (MR_16.out.within (within_of hb) (by omega))
          have LR_17 := Lib.hid (LR_16.out.within (within_of hb) (by omega))
          have TS_17 := Lib.hid (TS_16.out.within (within_of hb) (by omega))
          have BB_17 := Lib.hid (BB_16.out.within (within_of hb) (by omega))
          have XR_17 := Lib.hid (XR_16.out.within (within_of hb) (by omega))
          have XV_17 := Lib.hid (XV_16.out.within (within_of hb) (by omega))
          have PR_17 := Lib.hid (hi)
          clear hi hb
          have hpn : p.length ≤ 1048576 := by omega
          go_wp2_with fail
          refine (drawGcd_c _ A len cap zs (CO_17.out.up W17.out.size) hl48).mono ?_
          rintro e w18 ⟨bb, cc, rfl, _, _, hb⟩
          have Z18 := Lib.hid (within_of hb).size
          have W18 := Lib.hid (within_on W17.out (within_of hb) W17.out.size (.inr (Nat.le_refl _)))
          have CO_18 := Lib.hid (CO_17.out.within (within_of hb) (by omega))
          have MR_18 := Lib.hid (MR_17.out.within (within_of hb) (by omega))
          have LR_18 := Lib.hid (LR_17.out.within (within_of hb) (by omega))
          have TS_18 := Lib.hid (TS_17.out.within (within_of hb) (by omega))
          have BB_18 := Lib.hid (BB_17.out.within (within_of hb) (by omega))
          have XR_18 := Lib.hid (XR_17.out.within (within_of hb) (by omega))
          have XV_18 := Lib.hid (XV_17.out.within (within_of hb) (by omega))
          have PR_18 := Lib.hid (PR_17.out.within (within_of hb) (by omega))
          clear hb
          go_wp2_with fail
          refine (implTm a v AX cx _ _ _ XR_18.out han HAW.out AV cv _ _ XV_18.out hvn).mono ?_
          rintro e w19 ⟨A1, c1, rfl, ho, hb⟩
          have Z19 := Lib.hid (within_of hb).size
          have W19 := Lib.hid (within_on W18.out (within_of hb) W18.out.size (.inr (Nat.le_refl _)))
          have CO_19 := Lib.hid (CO_18.out.within (within_of hb) (by omega))
          have MR_19 := Lib.hid (MR_18.out.within (within_of hb) (by omega))
          have LR_19 := Lib.hid (LR_18.out.within (within_of hb) (by omega))
          have TS_19 := Lib.hid (TS_18.out.within (within_of hb) (by omega))
          have BB_19 := Lib.hid (BB_18.out.within (within_of hb) (by omega))
          have XR_19 := Lib.hid (XR_18.out.within (within_of hb) (by omega))
          have XV_19 := Lib.hid (XV_18.out.within (within_of hb) (by omega))
          have PR_19 := Lib.hid (PR_18.out.within (within_of hb) (by omega))
          have T1_19 := Lib.hid (ho.reads)
          clear ho hb
          go_wp2_with fail
          refine (specTm a v AX cx _ _ _ XR_19.out han HAW.out AV cv _ _ XV_19.out hvn).mono ?_
          rintro e w20 ⟨A2, c2, rfl, hs, hb⟩
          have Z20 := Lib.hid (within_of hb).size
          have W20 := Lib.hid (within_on W19.out (within_of hb) W19.out.size (.inr (Nat.le_refl _)))
          have CO_20 := Lib.hid (CO_19.out.within (within_of hb) (by omega))
          have MR_20 := Lib.hid (MR_19.out.within (within_of hb) (by omega))
          have LR_20 := Lib.hid (LR_19.out.within (within_of hb) (by omega))
          have TS_20 := Lib.hid (TS_19.out.within (within_of hb) (by omega))
          have BB_20 := Lib.hid (BB_19.out.within (within_of hb) (by omega))
          have XR_20 := Lib.hid (XR_19.out.within (within_of hb) (by omega))
          have XV_20 := Lib.hid (XV_19.out.within (within_of hb) (by omega))
          have PR_20 := Lib.hid (PR_19.out.within (within_of hb) (by omega))
          have T1_20 := Lib.hid (T1_19.out.within (within_of hb) (by omega))
          have T2_20 := Lib.hid (hs)
          clear hs hb
          have htv : (tmV a v).length ≤ 1048576 := Nat.le_trans (tmV_len a v) (by decide)
          go_wp2_with fail
          refine (sameInts_c (tmV a v) A1 A2 c1 c2 _ _ _ _ _ T1_20.out T2_20.out htv).mono ?_
          rintro e w21 ⟨rfl, hb⟩
          have Z21 := Lib.hid (within_of hb).size
          have W21 := Lib.hid (within_on W20.out (within_of hb) W20.out.size (.inr (Nat.le_refl _)))
          have CO_21 := Lib.hid (CO_20.out.within (within_of hb) (by omega))
          have MR_21 := Lib.hid (MR_20.out.within (within_of hb) (by omega))
          have LR_21 := Lib.hid (LR_20.out.within (within_of hb) (by omega))
          have TS_21 := Lib.hid (TS_20.out.within (within_of hb) (by omega))
          have BB_21 := Lib.hid (BB_20.out.within (within_of hb) (by omega))
          have XR_21 := Lib.hid (XR_20.out.within (within_of hb) (by omega))
          have XV_21 := Lib.hid (XV_20.out.within (within_of hb) (by omega))
          have PR_21 := Lib.hid (PR_20.out.within (within_of hb) (by omega))
          have T1_21 := Lib.hid (T1_20.out.within (within_of hb) (by omega))
          have T2_21 := Lib.hid (T2_20.out.within (within_of hb) (by omega))
          clear hb
          go_wp2_with fail
          refine (implPv p AP cp _ _ _ PR_21.out hpn).mono ?_
          rintro e w22 ⟨A3, c3, rfl, ho, hb⟩
          have Z22 := Lib.hid (within_of hb).size
          have W22 := Lib.hid (within_on W21.out (within_of hb) W21.out.size (.inr (Nat.le_refl _)))
          have CO_22 := Lib.hid (CO_21.out.within (within_of hb) (by omega))
          have MR_22 := Lib.hid (MR_21.out.within (within_of hb) (by omega))
          have LR_22 := Lib.hid (LR_21.out.within (within_of hb) (by omega))
          have TS_22 := Lib.hid (TS_21.out.within (within_of hb) (by omega))
          have BB_22 := Lib.hid (BB_21.out.within (within_of hb) (by omega))
          have XR_22 := Lib.hid (XR_21.out.within (within_of hb) (by omega))
          have XV_22 := Lib.hid (XV_21.out.within (within_of hb) (by omega))
          have PR_22 := Lib.hid (PR_21.out.within (within_of hb) (by omega))
          have T1_22 := Lib.hid (T1_21.out.within (within_of hb) (by omega))
          have T2_22 := Lib.hid (T2_21.out.within (within_of hb) (by omega))
          have P1_22 := Lib.hid (ho.reads)
          clear ho hb
          go_wp2_with fail
          refine (specPv p AP cp _ _ _ PR_22.out hpn).mono ?_
          rintro e w23 ⟨A4, c4, rfl, ho, hb⟩
          have Z23 := Lib.hid (within_of hb).size
          have W23 := Lib.hid (within_on W22.out (within_of hb) W22.out.size (.inr (Nat.le_refl _)))
          have CO_23 := Lib.hid (CO_22.out.within (within_of hb) (by omega))
          have MR_23 := Lib.hid (MR_22.out.within (within_of hb) (by omega))
          have LR_23 := Lib.hid (LR_22.out.within (within_of hb) (by omega))
          have TS_23 := Lib.hid (TS_22.out.within (within_of hb) (by omega))
          have BB_23 := Lib.hid (BB_22.out.within (within_of hb) (by omega))
          have XR_23 := Lib.hid (XR_22.out.within (within_of hb) (by omega))
          have XV_23 := Lib.hid (XV_22.out.within (within_of hb) (by omega))
          have PR_23 := Lib.hid (PR_22.out.within (within_of hb) (by omega))
          have T1_23 := Lib.hid (T1_22.out.within (within_of hb) (by omega))
          have T2_23 := Lib.hid (T2_22.out.within (within_of hb) (by omega))
          have P1_23 := Lib.hid (P1_22.out.within (within_of hb) (by omega))
          have P2_23 := Lib.hid (ho.reads)
          clear ho hb
          have hpv : (pV p).length ≤ 1048576 := by rw [pV_len]; exact hpn
          go_wp2_with fail
          refine (sameInts_c (pV p) A3 A4 c3 c4 _ _ _ _ _ P1_23.out P2_23.out hpv).mono ?_
          rintro e w24 ⟨rfl, hb⟩
          have Z24 := Lib.hid (within_of hb).size
          have W24 := Lib.hid (within_on W23.out (within_of hb) W23.out.size (.inr (Nat.le_refl _)))
          have CO_24 := Lib.hid (CO_23.out.within (within_of hb) (by omega))
          have MR_24 := Lib.hid (MR_23.out.within (within_of hb) (by omega))
          have LR_24 := Lib.hid (LR_23.out.within (within_of hb) (by omega))
          have TS_24 := Lib.hid (TS_23.out.within (within_of hb) (by omega))
          have BB_24 := Lib.hid (BB_23.out.within (within_of hb) (by omega))
          have XR_24 := Lib.hid (XR_23.out.within (within_of hb) (by omega))
          have XV_24 := Lib.hid (XV_23.out.within (within_of hb) (by omega))
          have PR_24 := Lib.hid (PR_23.out.within (within_of hb) (by omega))
          have T1_24 := Lib.hid (T1_23.out.within (within_of hb) (by omega))
          have T2_24 := Lib.hid (T2_23.out.within (within_of hb) (by omega))
          have P1_24 := Lib.hid (P1_23.out.within (within_of hb) (by omega))
          have P2_24 := Lib.hid (P2_23.out.within (within_of hb) (by omega))
          clear hb
          have hcm := gcdV_comm cc bb
          obtain ⟨gv, hgv⟩ : ∃ gv, gcdV bb cc = gv := ⟨_, rfl⟩
          have hG1 := Lib.hid (fun (W : World) => implGcd bb cc W)
          have hG2 := Lib.hid (fun (W : World) => specGcd bb cc W)
          have hG3 := Lib.hid (fun (W : World) => implGcd cc bb W)
          rw [hcm] at hG3
          rw [hgv] at hG1 hG2 hG3
          clear hcm hgv
          have hgg : (gv == gv) = true := by simp
          go_wp2_with fail
          refine (hG1.out _).mono ?_
          rintro e w25 ⟨rfl, hb⟩
          have Z25 := Lib.hid (within_of hb).size
          have W25 := Lib.hid (within_on W24.out (within_of hb) W24.out.size (.inr (Nat.le_refl _)))
          have CO_25 := Lib.hid (CO_24.out.within (within_of hb) (by omega))
          have MR_25 := Lib.hid (MR_24.out.within (within_of hb) (by omega))
          have LR_25 := Lib.hid (LR_24.out.within (within_of hb) (by omega))
          have TS_25 := Lib.hid (TS_24.out.within (within_of hb) (by omega))
          have BB_25 := Lib.hid (BB_24.out.within (within_of hb) (by omega))
          have XR_25 := Lib.hid (XR_24.out.within (within_of hb) (by omega))
          have XV_25 := Lib.hid (XV_24.out.within (within_of hb) (by omega))
          have PR_25 := Lib.hid (PR_24.out.within (within_of hb) (by omega))
          have T1_25 := Lib.hid (T1_24.out.within (within_of hb) (by omega))
          have T2_25 := Lib.hid (T2_24.out.within (within_of hb) (by omega))
          have P1_25 := Lib.hid (P1_24.out.within (within_of hb) (by omega))
          have P2_25 := Lib.hid (P2_24.out.within (within_of hb) (by omega))
          clear hb
          go_wp2_with fail
          refine (hG2.out _).mono ?_
          rintro e w' ⟨rfl, rfl⟩
          go_wp2_with fail
          refine (hG1.out _).mono ?_
          rintro e w26 ⟨rfl, hb⟩
          have Z26 := Lib.hid (within_of hb).size
          have W26 := Lib.hid (within_on W25.out (within_of hb) W25.out.size (.inr (Nat.le_refl _)))
          have CO_26 := Lib.hid (CO_25.out.within (within_of hb) (by omega))
          have MR_26 := Lib.hid (MR_25.out.within (within_of hb) (by omega))
          have LR_26 := Lib.hid (LR_25.out.within (within_of hb) (by omega))
          have TS_26 := Lib.hid (TS_25.out.within (within_of hb) (by omega))
          have BB_26 := Lib.hid (BB_25.out.within (within_of hb) (by omega))
          have XR_26 := Lib.hid (XR_25.out.within (within_of hb) (by omega))
          have XV_26 := Lib.hid (XV_25.out.within (within_of hb) (by omega))
          have PR_26 := Lib.hid (PR_25.out.within (within_of hb) (by omega))
          have T1_26 := Lib.hid (T1_25.out.within (within_of hb) (by omega))
          have T2_26 := Lib.hid (T2_25.out.within (within_of hb) (by omega))
          have P1_26 := Lib.hid (P1_25.out.within (within_of hb) (by omega))
          have P2_26 := Lib.hid (P2_25.out.within (within_of hb) (by omega))
          clear hb
          go_wp2_with fail
          refine (hG3.out _).mono ?_
          rintro e w27 ⟨rfl, hb⟩
          have Z27 := Lib.hid (within_of hb).size
          have W27 := Lib.hid (within_on W26.out (within_of hb) W26.out.size (.inr (Nat.le_refl _)))
          have CO_27 := Lib.hid (CO_26.out.within (within_of hb) (by omega))
          have MR_27 := Lib.hid (MR_26.out.within (within_of hb) (by omega))
          have LR_27 := Lib.hid (LR_26.out.within (within_of hb) (by omega))
          have TS_27 := Lib.hid (TS_26.out.within (within_of hb) (by omega))
          have BB_27 := Lib.hid (BB_26.out.within (within_of hb) (by omega))
          have XR_27 := Lib.hid (XR_26.out.within (within_of hb) (by omega))
          have XV_27 := Lib.hid (XV_26.out.within (within_of hb) (by omega))
          have PR_27 := Lib.hid (PR_26.out.within (within_of hb) (by omega))
          have T1_27 := Lib.hid (T1_26.out.within (within_of hb) (by omega))
          have T2_27 := Lib.hid (T2_26.out.within (within_of hb) (by omega))
          have P1_27 := Lib.hid (P1_26.out.within (within_of hb) (by omega))
          have P2_27 := Lib.hid (P2_26.out.within (within_of hb) (by omega))
          clear hb
          go_wp2_with fail
          go_ret
          exact ⟨rfl, W27.out⟩
    · rw [isMatB_no hT] at HTT
      refine (HTT.out _ _ _ TS_12.out).mono ?_
      rintro e w13 ⟨rfl, hb⟩
      have Z13 := Lib.hid (within_of hb).size
      have W13 := Lib.hid (within_on W12.out (within_of hb) W12.out.size (.inr (Nat.le_refl _)))
      have CO_13 := Lib.hid (CO_12.out.within (within_of hb) (by omega))
      have MR_13 := Lib.hid (MR_12.out.within (within_of hb) (by omega))
      have LR_13 := Lib.hid (LR_12.out.within (within_of hb) (by omega))
      have TS_13 := Lib.hid (TS_12.out.within (within_of hb) (by omega))
      clear hb
      go_wp2_with fail
      clear hc0 hsw hnn
      rw [← HSL.out]
      have hrs : w13.heap.size = w13.heap.size := rfl
      clear hrs
      obtain ⟨wq, hwq⟩ : ∃ x, x = w13 := ⟨_, rfl⟩
      clear hwq wq
      go_loopw [7] (fun i wr => ∃ k : Nat, k ≤ (nulV m).length ∧ i = .int .i64 k ∧ Below w13.heap.size w13 wr) (fun i _ => (nulV m).length - (intOf i).toNat)
      case atStart => exact ⟨0, Nat.zero_le _, rfl, Below.refl _ _⟩
      case round =>
        obtain ⟨k, hk, rfl, hb⟩ := hrel
        have Z14 := Lib.hid (within_of hb).size
        have W14 := Lib.hid (within_on W13.out (within_of hb) W13.out.size (.inr (Nat.le_refl _)))
        have CO_14 := Lib.hid (CO_13.out.within (within_of hb) (by omega))
        have MR_14 := Lib.hid (MR_13.out.within (within_of hb) (by omega))
        have LR_14 := Lib.hid (LR_13.out.within (within_of hb) (by omega))
        have TS_14 := Lib.hid (TS_13.out.within (within_of hb) (by omega))
        have BB_14 := Lib.hid (show BelF w13 wr from hb)
        clear hb
        by_cases hkl : k < (nulV m).length
        · have hki : (k : Int) < ((nulV m).length : Int) := by omega
          obtain ⟨hxl, htm, hpx⟩ := nul_each HM.out (mem_getD hkl)
          have hx12 := nulV_row m k
          obtain ⟨bl, ol, hAL, _, hbl, hlc⟩ := LR_14.out.2 (by omega)
          obtain ⟨Ax, cxx, hxc, hxi⟩ := hlc k hkl
          have hbl2 := LR_14.out.1
          obtain ⟨x, hx⟩ : ∃ x, (nulV m).getD k [] = x := ⟨_, rfl⟩
          rw [hx] at hxl htm hpx hx12 hxc hxi
          clear hx hlc
          have hxn : x.length ≤ 1048576 := by omega
          have HTM := Lib.hid htm
          have HPX := Lib.hid hpx
          clear hxl htm hpx
          have XI_14 := Lib.hid (hxi)
          have HX_14 := Lib.hid (show HdF bl (ol + k) (.slice Ax x.length cxx) wr from ⟨by omega, hxc⟩)
          have HAL := Lib.hid hAL
          have hslot : (Value.slice AL (nulV m).length cl) = Value.slice (some ⟨bl, ol, none⟩) (nulV m).length cl := by rw [hAL]
          clear hxi hAL
          rw [hslot]
          clear hslot
          go_wp2_with fail
          clear hxc
          have hTM := Lib.hid (implTm m x AM cm _ _ _ MR_14.out hn HRW.out Ax cxx _ _ XI_14.out hxn)
          rw [HTM.out] at hTM
          refine (hTM.out).mono ?_
          rintro e w15 ⟨AY, cy, rfl, ho, hb⟩
          have Z15 := Lib.hid (within_of hb).size
          have W15 := Lib.hid (within_on W14.out (within_of hb) W14.out.size (.inr (Nat.le_refl _)))
          have CO_15 := Lib.hid (CO_14.out.within (within_of hb) (by omega))
          have MR_15 := Lib.hid (MR_14.out.within (within_of hb) (by omega))
          have LR_15 := Lib.hid (LR_14.out.within (within_of hb) (by omega))
          have TS_15 := Lib.hid (TS_14.out.within (within_of hb) (by omega))
          have BB_15 := Lib.hid (BB_14.out.within (within_of hb) (by omega))
          have XI_15 := Lib.hid (XI_14.out.within (within_of hb) (by omega))
          have HX_15 := Lib.hid (HX_14.out.within (within_of hb) (by omega))
          have YR_15 := Lib.hid (ho.reads)
          clear ho hb hTM
          rw [rowF_len]
          go_wp2_with fail
          obtain ⟨wq, hwq⟩ : ∃ y, y = w15 := ⟨_, rfl⟩
          go_loopw [9] (fun i wz => w15 = wz ∧ ∃ j : Nat, j ≤ m.length ∧ i = .int .i64 j) (fun i _ => m.length - (intOf i).toNat)
          case atStart => exact ⟨rfl, 0, Nat.zero_le _, rfl⟩
          case round =>
            obtain ⟨rfl, j, hj, rfl⟩ := hrel
            by_cases hjl : j < m.length
            · have hji : (j : Int) < (m.length : Int) := by omega
              have hyl : (rowF m.length fun _ => (0 : Int)).length = m.length := rowF_len _ _
              obtain ⟨by', oy, hAY, _, _, hyc⟩ := YR_15.out.2 (by rw [hyl]; omega)
              have hy0 := hyc j (by rw [hyl]; exact hjl)
              rw [rowF_getD hjl] at hy0
              have hs2 : (Value.slice AY m.length cy) = Value.slice (some ⟨by', oy, none⟩) m.length cy := by rw [hAY]
              clear hyl hyc hAY
              rw [hs2]
              clear hs2
              go_wp2_with fail
              go_roundw
              case rel => exact ⟨by simp, j + 1, by omega, by go_num⟩
              case measure => simp [intOf]; omega
            · obtain rfl : j = m.length := by omega
              have hdr : Below w15.heap.size w15 w15.drew := (Below.refl _ _).drew
              have Z16 := Lib.hid (within_of hdr).size
              have W16 := Lib.hid (within_on W15.out (within_of hdr) W15.out.size (.inr (Nat.le_refl _)))
              have CO_16 := Lib.hid (CO_15.out.within (within_of hdr) (by omega))
              have MR_16 := Lib.hid (MR_15.out.within (within_of hdr) (by omega))
              have LR_16 := Lib.hid (LR_15.out.within (within_of hdr) (by omega))
              have TS_16 := Lib.hid (TS_15.out.within (within_of hdr) (by omega))
              have BB_16 := Lib.hid (BB_15.out.within (within_of hdr) (by omega))
              have XI_16 := Lib.hid (XI_15.out.within (within_of hdr) (by omega))
              have HX_16 := Lib.hid (HX_15.out.within (within_of hdr) (by omega))
              have YR_16 := Lib.hid (YR_15.out.within (within_of hdr) (by omega))
              clear hdr
              have hxc3 := HX_16.out.2
              have hPV := Lib.hid (fun (W : World) (lo hi : Nat) (h : IntsIn W lo hi Ax x) => implPv x Ax cxx lo hi W h hxn)
              rw [HPX.out] at hPV
              go_wp2_with fail
              go_region_held3 (fun W' => W'.cell? ⟨bl, ol + k, none⟩ = some (.slice Ax x.length cxx))
                (first | exact HX_16.out.2 | exact HX_17.out.2 | exact HX_18.out.2 | fail)
                (first
                  | (go_at_call 69; refine (hPV.out _ _ _ XI_16.out).mono ?_; rintro e w17 ⟨AQ, cq, rfl, ho, hb⟩; have Z17 := Lib.hid (within_of hb).size; have W17 := Lib.hid (within_on W16.out (within_of hb) W16.out.size (.inr (Nat.le_refl _))); have CO_17 := Lib.hid (CO_16.out.within (within_of hb) (by omega)); have MR_17 := Lib.hid (MR_16.out.within (within_of hb) (by omega)); have LR_17 := Lib.hid (LR_16.out.within (within_of hb) (by omega)); have TS_17 := Lib.hid (TS_16.out.within (within_of hb) (by omega)); have BB_17 := Lib.hid (BB_16.out.within (within_of hb) (by omega)); have XI_17 := Lib.hid (XI_16.out.within (within_of hb) (by omega)); have HX_17 := Lib.hid (HX_16.out.within (within_of hb) (by omega)); have YR_17 := Lib.hid (YR_16.out.within (within_of hb) (by omega)); have QR_17 := Lib.hid ho.reads; clear ho hb)
                  | (go_at_call 21; refine (sameInts_c x AQ Ax cq cxx _ _ _ _ _ QR_17.out XI_17.out hxn).mono ?_; rintro e w18 ⟨rfl, hb⟩; have Z18 := Lib.hid (within_of hb).size; have W18 := Lib.hid (within_on W17.out (within_of hb) W17.out.size (.inr (Nat.le_refl _))); have CO_18 := Lib.hid (CO_17.out.within (within_of hb) (by omega)); have MR_18 := Lib.hid (MR_17.out.within (within_of hb) (by omega)); have LR_18 := Lib.hid (LR_17.out.within (within_of hb) (by omega)); have TS_18 := Lib.hid (TS_17.out.within (within_of hb) (by omega)); have BB_18 := Lib.hid (BB_17.out.within (within_of hb) (by omega)); have XI_18 := Lib.hid (XI_17.out.within (within_of hb) (by omega)); have HX_18 := Lib.hid (HX_17.out.within (within_of hb) (by omega)); have YR_18 := Lib.hid (YR_17.out.within (within_of hb) (by omega)); have QR_18 := Lib.hid (QR_17.out.within (within_of hb) (by omega)); clear hb)
                  | fail)
              go_wp2_with fail
              go_roundw
              case rel => exact ⟨k + 1, by omega, by go_num, BB_18.out⟩
              case measure => simp [intOf]; omega
        · obtain rfl : k = (nulV m).length := by omega
          go_wp2_with fail
          refine (drawTm_c _ A len cap zs (CO_14.out.up W14.out.size) hl48).mono ?_
          rintro e w15 ⟨AX, cx, a, AV, cv, v, rfl, hd, hv5, hr, hi, hb⟩
          have Z15 := Lib.hid (within_of hb).size
          have W15 := Lib.hid (within_on W14.out (within_of hb) W14.out.size (.inr (Nat.le_refl _)))
          have CO_15 := Lib.hid (CO_14.out.within (within_of hb) (by omega))
          have MR_15 := Lib.hid (MR_14.out.within (within_of hb) (by omega))
          have LR_15 := Lib.hid (LR_14.out.within (within_of hb) (by omega))
          have TS_15 := Lib.hid (TS_14.out.within (within_of hb) (by omega))
          have BB_15 := Lib.hid (BB_14.out.within (within_of hb) (by omega))
          have XR_15 := Lib.hid (hr)
          have XV_15 := Lib.hid (hi)
          have HDA := Lib.hid hd
          clear hd hr hi hb
          have han : a.length ≤ 1048576 := by have := HDA.out.2.1; omega
          have HAW := Lib.hid (show ∀ k, k < a.length → (a.getD k []).length ≤ 1048576 from fun k hk => Nat.le_trans (HDA.out.2.2 k hk) (by decide))
          have hvn : v.length ≤ 1048576 := by omega
          go_wp2_with fail
          refine (drawPv_c _ A len cap zs (CO_15.out.up W15.out.size) hl48).mono ?_
          rintro e w16 ⟨AP, cp, p, rfl, hp5, hi, hb⟩
          have Z16 := Lib.hid (within_of hb).size
          have W16 := Lib.hid (within_on W15.out (within_of hb) W15.out.size (.inr (Nat.le_refl _)))
          have CO_16 := Lib.hid (CO_15.out.within (within_of hb) (by omega))
          have MR_16 := Lib.hid (MR_15.out.within (within_of hb) (by omega))
          have LR_16 := Lib.hid (LR_15.out.within (within_of hb) (by omega))
          have TS_16 := Lib.hid (TS_15.out.within (within_of hb) (by omega))
          have BB_16 := Lib.hid (BB_15.out.within (within_of hb) (by omega))
          have XR_16 := Lib.hid (XR_15.out.within (within_of hb) (by omega))
          have XV_16 := Lib.hid (XV_15.out.within (within_of hb) (by omega))
          have PR_16 := Lib.hid (hi)
          clear hi hb
          have hpn : p.length ≤ 1048576 := by omega
          go_wp2_with fail
          refine (drawGcd_c _ A len cap zs (CO_16.out.up W16.out.size) hl48).mono ?_
          rintro e w17 ⟨bb, cc, rfl, _, _, hb⟩
          have Z17 := Lib.hid (within_of hb).size
          have W17 := Lib.hid (within_on W16.out (within_of hb) W16.out.size (.inr (Nat.le_refl _)))
          have CO_17 := Lib.hid (CO_16.out.within (within_of hb) (by omega))
          have MR_17 := Lib.hid (MR_16.out.within (within_of hb) (by omega))
          have LR_17 := Lib.hid (LR_16.out.within (within_of hb) (by omega))
          have TS_17 := Lib.hid (TS_16.out.within (within_of hb) (by omega))
          have BB_17 := Lib.hid (BB_16.out.within (within_of hb) (by omega))
          have XR_17 := Lib.hid (XR_16.out.within (within_of hb) (by omega))
          have XV_17 := Lib.hid (XV_16.out.within (within_of hb) (by omega))
          have PR_17 := Lib.hid (PR_16.out.within (within_of hb) (by omega))
          clear hb
          go_wp2_with fail
          refine (implTm a v AX cx _ _ _ XR_17.out han HAW.out AV cv _ _ XV_17.out hvn).mono ?_
          rintro e w18 ⟨A1, c1, rfl, ho, hb⟩
          have Z18 := Lib.hid (within_of hb).size
          have W18 := Lib.hid (within_on W17.out (within_of hb) W17.out.size (.inr (Nat.le_refl _)))
          have CO_18 := Lib.hid (CO_17.out.within (within_of hb) (by omega))
          have MR_18 := Lib.hid (MR_17.out.within (within_of hb) (by omega))
          have LR_18 := Lib.hid (LR_17.out.within (within_of hb) (by omega))
          have TS_18 := Lib.hid (TS_17.out.within (within_of hb) (by omega))
          have BB_18 := Lib.hid (BB_17.out.within (within_of hb) (by omega))
          have XR_18 := Lib.hid (XR_17.out.within (within_of hb) (by omega))
          have XV_18 := Lib.hid (XV_17.out.within (within_of hb) (by omega))
          have PR_18 := Lib.hid (PR_17.out.within (within_of hb) (by omega))
          have T1_18 := Lib.hid (ho.reads)
          clear ho hb
          go_wp2_with fail
          refine (specTm a v AX cx _ _ _ XR_18.out han HAW.out AV cv _ _ XV_18.out hvn).mono ?_
          rintro e w19 ⟨A2, c2, rfl, hs, hb⟩
          have Z19 := Lib.hid (within_of hb).size
          have W19 := Lib.hid (within_on W18.out (within_of hb) W18.out.size (.inr (Nat.le_refl _)))
          have CO_19 := Lib.hid (CO_18.out.within (within_of hb) (by omega))
          have MR_19 := Lib.hid (MR_18.out.within (within_of hb) (by omega))
          have LR_19 := Lib.hid (LR_18.out.within (within_of hb) (by omega))
          have TS_19 := Lib.hid (TS_18.out.within (within_of hb) (by omega))
          have BB_19 := Lib.hid (BB_18.out.within (within_of hb) (by omega))
          have XR_19 := Lib.hid (XR_18.out.within (within_of hb) (by omega))
          have XV_19 := Lib.hid (XV_18.out.within (within_of hb) (by omega))
          have PR_19 := Lib.hid (PR_18.out.within (within_of hb) (by omega))
          have T1_19 := Lib.hid (T1_18.out.within (within_of hb) (by omega))
          have T2_19 := Lib.hid (hs)
          clear hs hb
          have htv : (tmV a v).length ≤ 1048576 := Nat.le_trans (tmV_len a v) (by decide)
          go_wp2_with fail
          refine (sameInts_c (tmV a v) A1 A2 c1 c2 _ _ _ _ _ T1_19.out T2_19.out htv).mono ?_
          rintro e w20 ⟨rfl, hb⟩
          have Z20 := Lib.hid (within_of hb).size
          have W20 := Lib.hid (within_on W19.out (within_of hb) W19.out.size (.inr (Nat.le_refl _)))
          have CO_20 := Lib.hid (CO_19.out.within (within_of hb) (by omega))
          have MR_20 := Lib.hid (MR_19.out.within (within_of hb) (by omega))
          have LR_20 := Lib.hid (LR_19.out.within (within_of hb) (by omega))
          have TS_20 := Lib.hid (TS_19.out.within (within_of hb) (by omega))
          have BB_20 := Lib.hid (BB_19.out.within (within_of hb) (by omega))
          have XR_20 := Lib.hid (XR_19.out.within (within_of hb) (by omega))
          have XV_20 := Lib.hid (XV_19.out.within (within_of hb) (by omega))
          have PR_20 := Lib.hid (PR_19.out.within (within_of hb) (by omega))
          have T1_20 := Lib.hid (T1_19.out.within (within_of hb) (by omega))
          have T2_20 := Lib.hid (T2_19.out.within (within_of hb) (by omega))
          clear hb
          go_wp2_with fail
          refine (implPv p AP cp _ _ _ PR_20.out hpn).mono ?_
          rintro e w21 ⟨A3, c3, rfl, ho, hb⟩
          have Z21 := Lib.hid (within_of hb).size
          have W21 := Lib.hid (within_on W20.out (within_of hb) W20.out.size (.inr (Nat.le_refl _)))
          have CO_21 := Lib.hid (CO_20.out.within (within_of hb) (by omega))
          have MR_21 := Lib.hid (MR_20.out.within (within_of hb) (by omega))
          have LR_21 := Lib.hid (LR_20.out.within (within_of hb) (by omega))
          have TS_21 := Lib.hid (TS_20.out.within (within_of hb) (by omega))
          have BB_21 := Lib.hid (BB_20.out.within (within_of hb) (by omega))
          have XR_21 := Lib.hid (XR_20.out.within (within_of hb) (by omega))
          have XV_21 := Lib.hid (XV_20.out.within (within_of hb) (by omega))
          have PR_21 := Lib.hid (PR_20.out.within (within_of hb) (by omega))
          have T1_21 := Lib.hid (T1_20.out.within (within_of hb) (by omega))
          have T2_21 := Lib.hid (T2_20.out.within (within_of hb) (by omega))
          have P1_21 := Lib.hid (ho.reads)
          clear ho hb
          go_wp2_with fail
          refine (specPv p AP cp _ _ _ PR_21.out hpn).mono ?_
          rintro e w22 ⟨A4, c4, rfl, ho, hb⟩
          have Z22 := Lib.hid (within_of hb).size
          have W22 := Lib.hid (within_on W21.out (within_of hb) W21.out.size (.inr (Nat.le_refl _)))
          have CO_22 := Lib.hid (CO_21.out.within (within_of hb) (by omega))
          have MR_22 := Lib.hid (MR_21.out.within (within_of hb) (by omega))
          have LR_22 := Lib.hid (LR_21.out.within (within_of hb) (by omega))
          have TS_22 := Lib.hid (TS_21.out.within (within_of hb) (by omega))
          have BB_22 := Lib.hid (BB_21.out.within (within_of hb) (by omega))
          have XR_22 := Lib.hid (XR_21.out.within (within_of hb) (by omega))
          have XV_22 := Lib.hid (XV_21.out.within (within_of hb) (by omega))
          have PR_22 := Lib.hid (PR_21.out.within (within_of hb) (by omega))
          have T1_22 := Lib.hid (T1_21.out.within (within_of hb) (by omega))
          have T2_22 := Lib.hid (T2_21.out.within (within_of hb) (by omega))
          have P1_22 := Lib.hid (P1_21.out.within (within_of hb) (by omega))
          have P2_22 := Lib.hid (ho.reads)
          clear ho hb
          have hpv : (pV p).length ≤ 1048576 := by rw [pV_len]; exact hpn
          go_wp2_with fail
          refine (sameInts_c (pV p) A3 A4 c3 c4 _ _ _ _ _ P1_22.out P2_22.out hpv).mono ?_
          rintro e w23 ⟨rfl, hb⟩
          have Z23 := Lib.hid (within_of hb).size
          have W23 := Lib.hid (within_on W22.out (within_of hb) W22.out.size (.inr (Nat.le_refl _)))
          have CO_23 := Lib.hid (CO_22.out.within (within_of hb) (by omega))
          have MR_23 := Lib.hid (MR_22.out.within (within_of hb) (by omega))
          have LR_23 := Lib.hid (LR_22.out.within (within_of hb) (by omega))
          have TS_23 := Lib.hid (TS_22.out.within (within_of hb) (by omega))
          have BB_23 := Lib.hid (BB_22.out.within (within_of hb) (by omega))
          have XR_23 := Lib.hid (XR_22.out.within (within_of hb) (by omega))
          have XV_23 := Lib.hid (XV_22.out.within (within_of hb) (by omega))
          have PR_23 := Lib.hid (PR_22.out.within (within_of hb) (by omega))
          have T1_23 := Lib.hid (T1_22.out.within (within_of hb) (by omega))
          have T2_23 := Lib.hid (T2_22.out.within (within_of hb) (by omega))
          have P1_23 := Lib.hid (P1_22.out.within (within_of hb) (by omega))
          have P2_23 := Lib.hid (P2_22.out.within (within_of hb) (by omega))
          clear hb
          have hcm := gcdV_comm cc bb
          obtain ⟨gv, hgv⟩ : ∃ gv, gcdV bb cc = gv := ⟨_, rfl⟩
          have hG1 := Lib.hid (fun (W : World) => implGcd bb cc W)
          have hG2 := Lib.hid (fun (W : World) => specGcd bb cc W)
          have hG3 := Lib.hid (fun (W : World) => implGcd cc bb W)
          rw [hcm] at hG3
          rw [hgv] at hG1 hG2 hG3
          clear hcm hgv
          have hgg : (gv == gv) = true := by simp
          go_wp2_with fail
          refine (hG1.out _).mono ?_
          rintro e w24 ⟨rfl, hb⟩
          have Z24 := Lib.hid (within_of hb).size
          have W24 := Lib.hid (within_on W23.out (within_of hb) W23.out.size (.inr (Nat.le_refl _)))
          have CO_24 := Lib.hid (CO_23.out.within (within_of hb) (by omega))
          have MR_24 := Lib.hid (MR_23.out.within (within_of hb) (by omega))
          have LR_24 := Lib.hid (LR_23.out.within (within_of hb) (by omega))
          have TS_24 := Lib.hid (TS_23.out.within (within_of hb) (by omega))
          have BB_24 := Lib.hid (BB_23.out.within (within_of hb) (by omega))
          have XR_24 := Lib.hid (XR_23.out.within (within_of hb) (by omega))
          have XV_24 := Lib.hid (XV_23.out.within (within_of hb) (by omega))
          have PR_24 := Lib.hid (PR_23.out.within (within_of hb) (by omega))
          have T1_24 := Lib.hid (T1_23.out.within (within_of hb) (by omega))
          have T2_24 := Lib.hid (T2_23.out.within (within_of hb) (by omega))
          have P1_24 := Lib.hid (P1_23.out.within (within_of hb) (by omega))
          have P2_24 := Lib.hid (P2_23.out.within (within_of hb) (by omega))
          clear hb
          go_wp2_with fail
          refine (hG2.out _).mono ?_
          rintro e w' ⟨rfl, rfl⟩
          go_wp2_with fail
          refine (hG1.out _).mono ?_
          rintro e w25 ⟨rfl, hb⟩
          have Z25 := Lib.hid (within_of hb).size
          have W25 := Lib.hid (within_on W24.out (within_of hb) W24.out.size (.inr (Nat.le_refl _)))
          have CO_25 := Lib.hid (CO_24.out.within (within_of hb) (by omega))
          have MR_25 := Lib.hid (MR_24.out.within (within_of hb) (by omega))
          have LR_25 := Lib.hid (LR_24.out.within (within_of hb) (by omega))
          have TS_25 := Lib.hid (TS_24.out.within (within_of hb) (by omega))
          have BB_25 := Lib.hid (BB_24.out.within (within_of hb) (by omega))
          have XR_25 := Lib.hid (XR_24.out.within (within_of hb) (by omega))
          have XV_25 := Lib.hid (XV_24.out.within (within_of hb) (by omega))
          have PR_25 := Lib.hid (PR_24.out.within (within_of hb) (by omega))
          have T1_25 := Lib.hid (T1_24.out.within (within_of hb) (by omega))
          have T2_25 := Lib.hid (T2_24.out.within (within_of hb) (by omega))
          have P1_25 := Lib.hid (P1_24.out.within (within_of hb) (by omega))
          have P2_25 := Lib.hid (P2_24.out.within (within_of hb) (by omega))
          clear hb
          go_wp2_with fail
          refine (hG3.out _).mono ?_
          rintro e w26 ⟨rfl, hb⟩
          have Z26 := Lib.hid (within_of hb).size
          have W26 := Lib.hid (within_on W25.out (within_of hb) W25.out.size (.inr (Nat.le_refl _)))
          have CO_26 := Lib.hid (CO_25.out.within (within_of hb) (by omega))
          have MR_26 := Lib.hid (MR_25.out.within (within_of hb) (by omega))
          have LR_26 := Lib.hid (LR_25.out.within (within_of hb) (by omega))
          have TS_26 := Lib.hid (TS_25.out.within (within_of hb) (by omega))
          have BB_26 := Lib.hid (BB_25.out.within (within_of hb) (by omega))
          have XR_26 := Lib.hid (XR_25.out.within (within_of hb) (by omega))
          have XV_26 := Lib.hid (XV_25.out.within (within_of hb) (by omega))
          have PR_26 := Lib.hid (PR_25.out.within (within_of hb) (by omega))
          have T1_26 := Lib.hid (T1_25.out.within (within_of hb) (by omega))
          have T2_26 := Lib.hid (T2_25.out.within (within_of hb) (by omega))
          have P1_26 := Lib.hid (P1_25.out.within (within_of hb) (by omega))
          have P2_26 := Lib.hid (P2_25.out.within (within_of hb) (by omega))
          clear hb
          go_wp2_with fail
          go_ret
          exact ⟨rfl, W26.out⟩
  · have HSM := Lib.hid (fun (W : World) (lo hi : Nat) (h : RowsIn W lo hi AM m) => specMat m AM cm lo hi W h hn HRW.out)
    rw [isMatB_no hM] at HSM
    go_wp2_with fail
    refine (HSM.out _ _ _ MR_10.out).mono ?_
    rintro e w11 ⟨rfl, hb⟩
    have Z11 := Lib.hid (within_of hb).size
    have W11 := Lib.hid (within_on W10.out (within_of hb) W10.out.size (.inr (Nat.le_refl _)))
    have CO_11 := Lib.hid (CO_10.out.within (within_of hb) (by omega))
    have MR_11 := Lib.hid (MR_10.out.within (within_of hb) (by omega))
    have LR_11 := Lib.hid (LR_10.out.within (within_of hb) (by omega))
    clear hb
    go_wp2_with fail
    refine (drawTm_c _ A len cap zs (CO_11.out.up W11.out.size) hl48).mono ?_
    rintro e w12 ⟨AX, cx, a, AV, cv, v, rfl, hd, hv5, hr, hi, hb⟩
    have Z12 := Lib.hid (within_of hb).size
    have W12 := Lib.hid (within_on W11.out (within_of hb) W11.out.size (.inr (Nat.le_refl _)))
    have CO_12 := Lib.hid (CO_11.out.within (within_of hb) (by omega))
    have MR_12 := Lib.hid (MR_11.out.within (within_of hb) (by omega))
    have LR_12 := Lib.hid (LR_11.out.within (within_of hb) (by omega))
    have XR_12 := Lib.hid (hr)
    have XV_12 := Lib.hid (hi)
    have HDA := Lib.hid hd
    clear hd hr hi hb
    have han : a.length ≤ 1048576 := by have := HDA.out.2.1; omega
    have HAW := Lib.hid (show ∀ k, k < a.length → (a.getD k []).length ≤ 1048576 from fun k hk => Nat.le_trans (HDA.out.2.2 k hk) (by decide))
    have hvn : v.length ≤ 1048576 := by omega
    go_wp2_with fail
    refine (drawPv_c _ A len cap zs (CO_12.out.up W12.out.size) hl48).mono ?_
    rintro e w13 ⟨AP, cp, p, rfl, hp5, hi, hb⟩
    have Z13 := Lib.hid (within_of hb).size
    have W13 := Lib.hid (within_on W12.out (within_of hb) W12.out.size (.inr (Nat.le_refl _)))
    have CO_13 := Lib.hid (CO_12.out.within (within_of hb) (by omega))
    have MR_13 := Lib.hid (MR_12.out.within (within_of hb) (by omega))
    have LR_13 := Lib.hid (LR_12.out.within (within_of hb) (by omega))
    have XR_13 := Lib.hid (XR_12.out.within (within_of hb) (by omega))
    have XV_13 := Lib.hid (XV_12.out.within (within_of hb) (by omega))
    have PR_13 := Lib.hid (hi)
    clear hi hb
    have hpn : p.length ≤ 1048576 := by omega
    go_wp2_with fail
    refine (drawGcd_c _ A len cap zs (CO_13.out.up W13.out.size) hl48).mono ?_
    rintro e w14 ⟨bb, cc, rfl, _, _, hb⟩
    have Z14 := Lib.hid (within_of hb).size
    have W14 := Lib.hid (within_on W13.out (within_of hb) W13.out.size (.inr (Nat.le_refl _)))
    have CO_14 := Lib.hid (CO_13.out.within (within_of hb) (by omega))
    have MR_14 := Lib.hid (MR_13.out.within (within_of hb) (by omega))
    have LR_14 := Lib.hid (LR_13.out.within (within_of hb) (by omega))
    have XR_14 := Lib.hid (XR_13.out.within (within_of hb) (by omega))
    have XV_14 := Lib.hid (XV_13.out.within (within_of hb) (by omega))
    have PR_14 := Lib.hid (PR_13.out.within (within_of hb) (by omega))
    clear hb
    go_wp2_with fail
    refine (implTm a v AX cx _ _ _ XR_14.out han HAW.out AV cv _ _ XV_14.out hvn).mono ?_
    rintro e w15 ⟨A1, c1, rfl, ho, hb⟩
    have Z15 := Lib.hid (within_of hb).size
    have W15 := Lib.hid (within_on W14.out (within_of hb) W14.out.size (.inr (Nat.le_refl _)))
    have CO_15 := Lib.hid (CO_14.out.within (within_of hb) (by omega))
    have MR_15 := Lib.hid (MR_14.out.within (within_of hb) (by omega))
    have LR_15 := Lib.hid (LR_14.out.within (within_of hb) (by omega))
    have XR_15 := Lib.hid (XR_14.out.within (within_of hb) (by omega))
    have XV_15 := Lib.hid (XV_14.out.within (within_of hb) (by omega))
    have PR_15 := Lib.hid (PR_14.out.within (within_of hb) (by omega))
    have T1_15 := Lib.hid (ho.reads)
    clear ho hb
    go_wp2_with fail
    refine (specTm a v AX cx _ _ _ XR_15.out han HAW.out AV cv _ _ XV_15.out hvn).mono ?_
    rintro e w16 ⟨A2, c2, rfl, hs, hb⟩
    have Z16 := Lib.hid (within_of hb).size
    have W16 := Lib.hid (within_on W15.out (within_of hb) W15.out.size (.inr (Nat.le_refl _)))
    have CO_16 := Lib.hid (CO_15.out.within (within_of hb) (by omega))
    have MR_16 := Lib.hid (MR_15.out.within (within_of hb) (by omega))
    have LR_16 := Lib.hid (LR_15.out.within (within_of hb) (by omega))
    have XR_16 := Lib.hid (XR_15.out.within (within_of hb) (by omega))
    have XV_16 := Lib.hid (XV_15.out.within (within_of hb) (by omega))
    have PR_16 := Lib.hid (PR_15.out.within (within_of hb) (by omega))
    have T1_16 := Lib.hid (T1_15.out.within (within_of hb) (by omega))
    have T2_16 := Lib.hid (hs)
    clear hs hb
    have htv : (tmV a v).length ≤ 1048576 := Nat.le_trans (tmV_len a v) (by decide)
    go_wp2_with fail
    refine (sameInts_c (tmV a v) A1 A2 c1 c2 _ _ _ _ _ T1_16.out T2_16.out htv).mono ?_
    rintro e w17 ⟨rfl, hb⟩
    have Z17 := Lib.hid (within_of hb).size
    have W17 := Lib.hid (within_on W16.out (within_of hb) W16.out.size (.inr (Nat.le_refl _)))
    have CO_17 := Lib.hid (CO_16.out.within (within_of hb) (by omega))
    have MR_17 := Lib.hid (MR_16.out.within (within_of hb) (by omega))
    have LR_17 := Lib.hid (LR_16.out.within (within_of hb) (by omega))
    have XR_17 := Lib.hid (XR_16.out.within (within_of hb) (by omega))
    have XV_17 := Lib.hid (XV_16.out.within (within_of hb) (by omega))
    have PR_17 := Lib.hid (PR_16.out.within (within_of hb) (by omega))
    have T1_17 := Lib.hid (T1_16.out.within (within_of hb) (by omega))
    have T2_17 := Lib.hid (T2_16.out.within (within_of hb) (by omega))
    clear hb
    go_wp2_with fail
    refine (implPv p AP cp _ _ _ PR_17.out hpn).mono ?_
    rintro e w18 ⟨A3, c3, rfl, ho, hb⟩
    have Z18 := Lib.hid (within_of hb).size
    have W18 := Lib.hid (within_on W17.out (within_of hb) W17.out.size (.inr (Nat.le_refl _)))
    have CO_18 := Lib.hid (CO_17.out.within (within_of hb) (by omega))
    have MR_18 := Lib.hid (MR_17.out.within (within_of hb) (by omega))
    have LR_18 := Lib.hid (LR_17.out.within (within_of hb) (by omega))
    have XR_18 := Lib.hid (XR_17.out.within (within_of hb) (by omega))
    have XV_18 := Lib.hid (XV_17.out.within (within_of hb) (by omega))
    have PR_18 := Lib.hid (PR_17.out.within (within_of hb) (by omega))
    have T1_18 := Lib.hid (T1_17.out.within (within_of hb) (by omega))
    have T2_18 := Lib.hid (T2_17.out.within (within_of hb) (by omega))
    have P1_18 := Lib.hid (ho.reads)
    clear ho hb
    go_wp2_with fail
    refine (specPv p AP cp _ _ _ PR_18.out hpn).mono ?_
    rintro e w19 ⟨A4, c4, rfl, ho, hb⟩
    have Z19 := Lib.hid (within_of hb).size
    have W19 := Lib.hid (within_on W18.out (within_of hb) W18.out.size (.inr (Nat.le_refl _)))
    have CO_19 := Lib.hid (CO_18.out.within (within_of hb) (by omega))
    have MR_19 := Lib.hid (MR_18.out.within (within_of hb) (by omega))
    have LR_19 := Lib.hid (LR_18.out.within (within_of hb) (by omega))
    have XR_19 := Lib.hid (XR_18.out.within (within_of hb) (by omega))
    have XV_19 := Lib.hid (XV_18.out.within (within_of hb) (by omega))
    have PR_19 := Lib.hid (PR_18.out.within (within_of hb) (by omega))
    have T1_19 := Lib.hid (T1_18.out.within (within_of hb) (by omega))
    have T2_19 := Lib.hid (T2_18.out.within (within_of hb) (by omega))
    have P1_19 := Lib.hid (P1_18.out.within (within_of hb) (by omega))
    have P2_19 := Lib.hid (ho.reads)
    clear ho hb
    have hpv : (pV p).length ≤ 1048576 := by rw [pV_len]; exact hpn
    go_wp2_with fail
    refine (sameInts_c (pV p) A3 A4 c3 c4 _ _ _ _ _ P1_19.out P2_19.out hpv).mono ?_
    rintro e w20 ⟨rfl, hb⟩
    have Z20 := Lib.hid (within_of hb).size
    have W20 := Lib.hid (within_on W19.out (within_of hb) W19.out.size (.inr (Nat.le_refl _)))
    have CO_20 := Lib.hid (CO_19.out.within (within_of hb) (by omega))
    have MR_20 := Lib.hid (MR_19.out.within (within_of hb) (by omega))
    have LR_20 := Lib.hid (LR_19.out.within (within_of hb) (by omega))
    have XR_20 := Lib.hid (XR_19.out.within (within_of hb) (by omega))
    have XV_20 := Lib.hid (XV_19.out.within (within_of hb) (by omega))
    have PR_20 := Lib.hid (PR_19.out.within (within_of hb) (by omega))
    have T1_20 := Lib.hid (T1_19.out.within (within_of hb) (by omega))
    have T2_20 := Lib.hid (T2_19.out.within (within_of hb) (by omega))
    have P1_20 := Lib.hid (P1_19.out.within (within_of hb) (by omega))
    have P2_20 := Lib.hid (P2_19.out.within (within_of hb) (by omega))
    clear hb
    have hcm := gcdV_comm cc bb
    obtain ⟨gv, hgv⟩ : ∃ gv, gcdV bb cc = gv := ⟨_, rfl⟩
    have hG1 := Lib.hid (fun (W : World) => implGcd bb cc W)
    have hG2 := Lib.hid (fun (W : World) => specGcd bb cc W)
    have hG3 := Lib.hid (fun (W : World) => implGcd cc bb W)
    rw [hcm] at hG3
    rw [hgv] at hG1 hG2 hG3
    clear hcm hgv
    have hgg : (gv == gv) = true := by simp
    go_wp2_with fail
    refine (hG1.out _).mono ?_
    rintro e w21 ⟨rfl, hb⟩
    have Z21 := Lib.hid (within_of hb).size
    have W21 := Lib.hid (within_on W20.out (within_of hb) W20.out.size (.inr (Nat.le_refl _)))
    have CO_21 := Lib.hid (CO_20.out.within (within_of hb) (by omega))
    have MR_21 := Lib.hid (MR_20.out.within (within_of hb) (by omega))
    have LR_21 := Lib.hid (LR_20.out.within (within_of hb) (by omega))
    have XR_21 := Lib.hid (XR_20.out.within (within_of hb) (by omega))
    have XV_21 := Lib.hid (XV_20.out.within (within_of hb) (by omega))
    have PR_21 := Lib.hid (PR_20.out.within (within_of hb) (by omega))
    have T1_21 := Lib.hid (T1_20.out.within (within_of hb) (by omega))
    have T2_21 := Lib.hid (T2_20.out.within (within_of hb) (by omega))
    have P1_21 := Lib.hid (P1_20.out.within (within_of hb) (by omega))
    have P2_21 := Lib.hid (P2_20.out.within (within_of hb) (by omega))
    clear hb
    go_wp2_with fail
    refine (hG2.out _).mono ?_
    rintro e w' ⟨rfl, rfl⟩
    go_wp2_with fail
    refine (hG1.out _).mono ?_
    rintro e w22 ⟨rfl, hb⟩
    have Z22 := Lib.hid (within_of hb).size
    have W22 := Lib.hid (within_on W21.out (within_of hb) W21.out.size (.inr (Nat.le_refl _)))
    have CO_22 := Lib.hid (CO_21.out.within (within_of hb) (by omega))
    have MR_22 := Lib.hid (MR_21.out.within (within_of hb) (by omega))
    have LR_22 := Lib.hid (LR_21.out.within (within_of hb) (by omega))
    have XR_22 := Lib.hid (XR_21.out.within (within_of hb) (by omega))
    have XV_22 := Lib.hid (XV_21.out.within (within_of hb) (by omega))
    have PR_22 := Lib.hid (PR_21.out.within (within_of hb) (by omega))
    have T1_22 := Lib.hid (T1_21.out.within (within_of hb) (by omega))
    have T2_22 := Lib.hid (T2_21.out.within (within_of hb) (by omega))
    have P1_22 := Lib.hid (P1_21.out.within (within_of hb) (by omega))
    have P2_22 := Lib.hid (P2_21.out.within (within_of hb) (by omega))
    clear hb
    go_wp2_with fail
    refine (hG3.out _).mono ?_
    rintro e w23 ⟨rfl, hb⟩
    have Z23 := Lib.hid (within_of hb).size
    have W23 := Lib.hid (within_on W22.out (within_of hb) W22.out.size (.inr (Nat.le_refl _)))
    have CO_23 := Lib.hid (CO_22.out.within (within_of hb) (by omega))
    have MR_23 := Lib.hid (MR_22.out.within (within_of hb) (by omega))
    have LR_23 := Lib.hid (LR_22.out.within (within_of hb) (by omega))
    have XR_23 := Lib.hid (XR_22.out.within (within_of hb) (by omega))
    have XV_23 := Lib.hid (XV_22.out.within (within_of hb) (by omega))
    have PR_23 := Lib.hid (PR_22.out.within (within_of hb) (by omega))
    have T1_23 := Lib.hid (T1_22.out.within (within_of hb) (by omega))
    have T2_23 := Lib.hid (T2_22.out.within (within_of hb) (by omega))
    have P1_23 := Lib.hid (P1_22.out.within (within_of hb) (by omega))
    have P2_23 := Lib.hid (P2_22.out.within (within_of hb) (by omega))
    clear hb
    go_wp2_with fail
    go_ret
    exact ⟨rfl, W23.out⟩
end Go.Proofs.Ytdkpmaahinbhlaa
/- That the law on matrices returns true at every code, the great ones too. No condition. -/
namespace Go.Proofs.Ytdkpmaahinbhlaa
open Go.RowKit

set_option maxHeartbeats 1000000 in
set_option maxRecDepth 100000 in
theorem lawMatrices (A : Option Addr) (len cap : Nat) (zs : List Int) (w : World)
    (h : (A = none ∧ len = 0 ∧ cap = 0 ∧ zs = []) ∨ ∃ x, A = some x ∧ len ≤ cap ∧ cap ≤ maxLen ∧ zs.length = cap ∧ (∀ i, i < zs.length → w.cell? (x.add i) = some (.int .u8 (zs.getD i 0))) ∧ ∀ n ∈ zs, (Lit.int .u8 n).wf = true) :
    Calls Try.prog 5 #[.slice A len cap] w fun e w' => e = .returned (.bool true) ∧ Below w.heap.size w w' := by
  by_cases hbig : (len : Int) ≤ 1048576
  · exact lawMatrices0 w A len cap _ (code_of_row h) hbig
  · have hb : (1048576 : Int) < (len : Int) := by omega
    clear h hbig
    go_enter Try.func5, Try.ntmps5
    go_wp2_with fail
    refine (big_yes w A len cap hb).mono ?_
    rintro e w' ⟨rfl, rfl⟩
    go_wp2_with fail
    go_ret
    exact ⟨rfl, Below.refl _ _⟩
end Go.Proofs.Ytdkpmaahinbhlaa
