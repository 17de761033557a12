/- That the law on integer encodings returns true: for every code; the library's table of powers of ten reads as the program lays it. -/
import Derived.Test.YtooklpeiaedokaaDoorIe
namespace Go.Proofs.YtooklpeiaedokaaDoor
open Go.RowKit

theorem str_ne {l : List Int} (h : l ≠ []) : ¬ (strOfNums l).toList = [] ∧ (strOfNums l).toList.isEmpty = false := by
  have hz : (strOfNums l).toList = l.map fun n => UInt8.ofNat n.toNat := by rw [ByteArray.toList_eq]; rfl
  rw [hz]
  cases l with
  | nil => exact absurd rfl h
  | cons a l => exact ⟨by simp, rfl⟩

set_option maxHeartbeats 4000000 in
set_option maxRecDepth 100000 in
theorem lawIe0 (w : World) (A : Option Addr) (len cap : Nat) (zs : Nat → Int) (hc : CodeIs w w.heap.size A len zs) (hlen : len ≤ 140737488351232) (ht : Tab w) (hbig : (len : Int) ≤ 1048576) :
    Calls Tryd.prog 3 #[.slice A len cap] w fun e w' => e = .returned (.bool true) ∧ Below w.heap.size w w' := by
  have HC := Lib.hid hc
  have HT := Lib.hid ht
  clear hc ht
  go_enter Tryd.func3, Tryd.ntmps3
  go_wp2_with fail
  refine (big_no w A len cap hbig).mono ?_
  rintro e w' ⟨rfl, rfl⟩
  go_wp2_with fail
  refine (drawEncVar w A len cap zs HC.out hlen).mono ?_
  rintro e w1 ⟨n, hn, rfl, hb1⟩
  have HN := Lib.hid hn
  have HB1 := Lib.hid hb1
  have HC1 := Lib.hid (HC.out.kept hb1)
  clear hn hb1
  go_wp2_with fail
  refine (drawEncHex w1 A len cap zs ⟨HC1.out.1, fun h => by obtain ⟨b, off, e, hlt, hcell⟩ := HC1.out.2 h; exact ⟨b, off, e, Nat.lt_of_lt_of_le hlt HB1.out.size, hcell⟩⟩ hlen).mono ?_
  rintro e w2 ⟨t, hts, rfl, hb2⟩
  have hB2 : Below w.heap.size w w2 := HB1.out.trans (hb2.mono HB1.out.size)
  have HB2 := Lib.hid hB2
  clear hb2 hB2
  by_cases hv : 0 ≤ n ∧ n ≤ 562949953421311
  · obtain ⟨m, rfl⟩ := Int.eq_ofNat_of_zero_le hv.1
    have hm : m ≤ 562949953421311 := by omega
    have hvl := vb_len7 m hm
    have hm' : decide ((m : Int) ≤ 562949953421311) = true := by simp; omega
    have HM := Lib.hid hm
    clear hv hm
    go_wp2_with fail
    refine (implEncV_good m w2 HM.out).mono ?_
    rintro e w3 ⟨rfl, hb3⟩
    have hB3 : Below w.heap.size w w3 := HB2.out.trans (hb3.mono HB2.out.size)
    have HB3 := Lib.hid hB3
    clear hb3 hB3
    have hadd := fun (W : World) => run_string_add_sum (P := Tryd.prog) W (strOfNums (vb m)) t (by rw [strOfNums_size]; omega)
    go_wp2_with fail
    refine (decV_enc m t w3 HM.out (by rw [ByteArray.size_append, strOfNums_size]; unfold maxLen; omega)).mono ?_
    rintro e w4 ⟨rfl, hb4⟩
    have hB4 : Below w.heap.size w w4 := HB3.out.trans (hb4.mono HB3.out.size)
    have HB4 := Lib.hid hB4
    clear hb4 hB4 hadd
    have hz : (strOfNums (vb m)).size = (vb m).length := strOfNums_size _
    obtain ⟨hne1, hne2⟩ := str_ne (l := vb m) (by obtain ⟨pre, x, e, _⟩ := vb_shape m; rw [e]; simp)
    go_wp2_with fail
    clear hz hne1 hne2
    have HC4 := Lib.hid (HC.out.kept HB4.out)
    refine (drawEncFixed w4 A len cap zs ⟨HC4.out.1, fun h => by obtain ⟨b, off, e, hlt, hcell⟩ := HC4.out.2 h; exact ⟨b, off, e, Nat.lt_of_lt_of_le hlt HB4.out.size, hcell⟩⟩ hlen).mono ?_
    rintro e w5 ⟨x, a, hx, ⟨ha0, ha1⟩, rfl, hb5⟩
    have hB5 : Below w.heap.size w w5 := HB4.out.trans (hb5.mono HB4.out.size)
    have HB5 := Lib.hid hB5
    have HX := Lib.hid hx
    clear hb5 hB5 hx
    by_cases hf : (1 ≤ a ∧ a ≤ 7 ∧ 0 ≤ x) ∧ x.toNat / 256 ^ a.toNat = 0
    · obtain ⟨⟨h1, h2, h3⟩, h4⟩ := hf
      obtain ⟨p, rfl⟩ := Int.eq_ofNat_of_zero_le h3
      obtain ⟨d, rfl⟩ := Int.eq_ofNat_of_zero_le (show 0 ≤ a by omega)
      rw [Int.toNat_natCast, Int.toNat_natCast] at h4
      have H4 := Lib.hid h4
      have hpx : p ≤ 9223372036854775807 := by have := HX.out.2; omega
      have HP := Lib.hid hpx
      clear h4 h3 hpx
      have hfs : (strOfNums (dg p d)).size = d := by rw [strOfNums_size, dg_len]
      obtain ⟨hne3, hne4⟩ := str_ne (l := dg p d) (by intro e; have := dg_len p d; rw [e] at this; simp at this; omega)
      go_wp2_with fail
      refine (encF_full p d w5 HP.out (by omega) (by omega) H4.out).1.mono ?_
      rintro e w6 ⟨rfl, hb6⟩
      have hB6 : Below w.heap.size w w6 := HB5.out.trans (hb6.mono HB5.out.size)
      have HB6 := Lib.hid hB6
      clear hb6 hB6
      have hadd2 := fun (W : World) => run_string_add_sum (P := Tryd.prog) W (strOfNums (dg p d)) t (by omega)
      go_wp2_with fail
      refine (decF_enc p d t w6 (by omega) (by omega) H4.out (by rw [ByteArray.size_append]; unfold maxLen; omega)).mono ?_
      rintro e w6' ⟨rfl, rfl⟩
      clear hadd2
      go_wp2_with fail
      refine (encF_full p d w6 HP.out (by omega) (by omega) H4.out).2.mono ?_
      rintro e w7 ⟨rfl, hb7⟩
      have hB7 : Below w.heap.size w w7 := HB6.out.trans (hb7.mono HB6.out.size)
      have HB7 := Lib.hid hB7
      clear hb7 hB7
      go_wp2_with fail
      clear hne3 hne4 hfs
      obtain ⟨x, hxp⟩ : ∃ x : Int, (p : Int) = x := ⟨_, rfl⟩
      rw [hxp] at HX ⊢
      clear hxp
      refine (implEncHex t w7 (by omega)).mono ?_
      rintro e w8 ⟨rfl, hb8⟩
      have hB8 : Below w.heap.size w w8 := HB7.out.trans (hb8.mono HB7.out.size)
      have HB8 := Lib.hid hB8
      clear hb8 hB8
      go_wp2_with fail
      refine (decH_enc t w8 (by omega)).mono ?_
      rintro e w9 ⟨rfl, hb9⟩
      have hB9 : Below w.heap.size w w9 := HB8.out.trans (hb9.mono HB8.out.size)
      have HB9 := Lib.hid hB9
      clear hb9 hB9
      go_wp2_with fail
      refine (implFmt x w9 HX.out.1 HX.out.2 (HT.out.below HB9.out)).mono ?_
      rintro e w10 ⟨rfl, hb10⟩
      have hB10 : Below w.heap.size w w10 := HB9.out.trans (hb10.mono HB9.out.size)
      have HB10 := Lib.hid hB10
      clear hb10 hB10
      by_cases hsm : -999999999 ≤ x ∧ x ≤ 999999999
      · have HS := Lib.hid hsm
        have hd1 : decide (-1000000000 < x) = true := by simp; omega
        have hd2 : decide (x < 1000000000) = true := by simp; omega
        clear hsm
        go_wp2_with fail
        refine (parse_small x w10 HS.out (HT.out.below HB10.out)).mono ?_
        rintro e w11 ⟨rfl, hb11⟩
        have hB11 : Below w.heap.size w w11 := HB10.out.trans (hb11.mono HB10.out.size)
        have HB11 := Lib.hid hB11
        clear hb11 hB11
        have hhl : (strOfNums (hexN t t.size)).size = 2 * t.size := by rw [strOfNums_size, hexN_len]
        go_wp2_with fail
        refine (specFmt x w11 HX.out.1 HX.out.2).mono ?_
        rintro e w12 ⟨rfl, hb12⟩
        have hB12 : Below w.heap.size w w12 := HB11.out.trans (hb12.mono HB11.out.size)
        have HB12 := Lib.hid hB12
        clear hb12 hB12
        go_wp2_with fail
        go_ret
        exact ⟨rfl, HB12.out⟩
      · have HS := Lib.hid (show x < -999999999 ∨ 999999999 < x by omega)
        by_cases hlo : -1000000000 < x
        · have hhi : ¬ x < 1000000000 := by omega
          have hd3 : decide (x < 1000000000) = false := by simp; omega
          clear hsm
          go_wp2_with fail
          refine (parse_large x w10 HX.out HS.out (HT.out.below HB10.out)).mono ?_
          rintro e w11 ⟨rfl, hb11⟩
          have hB11 : Below w.heap.size w w11 := HB10.out.trans (hb11.mono HB10.out.size)
          have HB11 := Lib.hid hB11
          clear hb11 hB11
          have hhl : (strOfNums (hexN t t.size)).size = 2 * t.size := by rw [strOfNums_size, hexN_len]
          go_wp2_with fail
          refine (specFmt x w11 HX.out.1 HX.out.2).mono ?_
          rintro e w12 ⟨rfl, hb12⟩
          have hB12 : Below w.heap.size w w12 := HB11.out.trans (hb12.mono HB11.out.size)
          have HB12 := Lib.hid hB12
          clear hb12 hB12
          go_wp2_with fail
          go_ret
          exact ⟨rfl, HB12.out⟩
        · clear hsm
          go_wp2_with fail
          refine (parse_large x w10 HX.out HS.out (HT.out.below HB10.out)).mono ?_
          rintro e w11 ⟨rfl, hb11⟩
          have hB11 : Below w.heap.size w w11 := HB10.out.trans (hb11.mono HB10.out.size)
          have HB11 := Lib.hid hB11
          clear hb11 hB11
          have hhl : (strOfNums (hexN t t.size)).size = 2 * t.size := by rw [strOfNums_size, hexN_len]
          go_wp2_with fail
          refine (specFmt x w11 HX.out.1 HX.out.2).mono ?_
          rintro e w12 ⟨rfl, hb12⟩
          have hB12 : Below w.heap.size w w12 := HB11.out.trans (hb12.mono HB11.out.size)
          have HB12 := Lib.hid hB12
          clear hb12 hB12
          go_wp2_with fail
          go_ret
          exact ⟨rfl, HB12.out⟩

    · have HF := Lib.hid (show a < 1 ∨ 7 < a ∨ x < 0 ∨ ¬ x.toNat / 256 ^ a.toNat = 0 by
        by_cases h : 1 ≤ a ∧ a ≤ 7 ∧ 0 ≤ x
        · exact .inr (.inr (.inr fun e => hf ⟨h, e⟩))
        · omega)
      clear hf
      go_wp2_with fail
      refine (encF_empty x a w5 HX.out HF.out).1.mono ?_
      rintro e w6 ⟨rfl, hb6⟩
      have hB6 : Below w.heap.size w w6 := HB5.out.trans (hb6.mono HB5.out.size)
      have HB6 := Lib.hid hB6
      clear hb6 hB6
      have hadd2 := fun (W : World) => run_string_add_sum (P := Tryd.prog) W ByteArray.empty t (by simp; omega)
      go_wp2_with fail
      refine (decF_any _ _ w6 (by unfold maxLen; omega)).mono ?_
      rintro e w6' ⟨y, b, rfl, hb6'⟩
      have hB6' : Below w.heap.size w w6' := HB6.out.trans (hb6'.mono HB6.out.size)
      have HB6' := Lib.hid hB6'
      clear hadd2 hb6' hB6'
      go_wp2_with fail
      refine (encF_empty x a w6' HX.out HF.out).2.mono ?_
      rintro e w7 ⟨rfl, hb7⟩
      have hB7 : Below w.heap.size w w7 := HB6'.out.trans (hb7.mono HB6'.out.size)
      have HB7 := Lib.hid hB7
      clear hb7 hB7
      go_wp2_with fail
      refine (implEncHex t w7 (by omega)).mono ?_
      rintro e w8 ⟨rfl, hb8⟩
      have hB8 : Below w.heap.size w w8 := HB7.out.trans (hb8.mono HB7.out.size)
      have HB8 := Lib.hid hB8
      clear hb8 hB8
      go_wp2_with fail
      refine (decH_enc t w8 (by omega)).mono ?_
      rintro e w9 ⟨rfl, hb9⟩
      have hB9 : Below w.heap.size w w9 := HB8.out.trans (hb9.mono HB8.out.size)
      have HB9 := Lib.hid hB9
      clear hb9 hB9
      go_wp2_with fail
      refine (implFmt x w9 HX.out.1 HX.out.2 (HT.out.below HB9.out)).mono ?_
      rintro e w10 ⟨rfl, hb10⟩
      have hB10 : Below w.heap.size w w10 := HB9.out.trans (hb10.mono HB9.out.size)
      have HB10 := Lib.hid hB10
      clear hb10 hB10
      by_cases hsm : -999999999 ≤ x ∧ x ≤ 999999999
      · have HS := Lib.hid hsm
        have hd1 : decide (-1000000000 < x) = true := by simp; omega
        have hd2 : decide (x < 1000000000) = true := by simp; omega
        clear hsm
        go_wp2_with fail
        refine (parse_small x w10 HS.out (HT.out.below HB10.out)).mono ?_
        rintro e w11 ⟨rfl, hb11⟩
        have hB11 : Below w.heap.size w w11 := HB10.out.trans (hb11.mono HB10.out.size)
        have HB11 := Lib.hid hB11
        clear hb11 hB11
        have hhl : (strOfNums (hexN t t.size)).size = 2 * t.size := by rw [strOfNums_size, hexN_len]
        go_wp2_with fail
        refine (specFmt x w11 HX.out.1 HX.out.2).mono ?_
        rintro e w12 ⟨rfl, hb12⟩
        have hB12 : Below w.heap.size w w12 := HB11.out.trans (hb12.mono HB11.out.size)
        have HB12 := Lib.hid hB12
        clear hb12 hB12
        go_wp2_with fail
        go_ret
        exact ⟨rfl, HB12.out⟩
      · have HS := Lib.hid (show x < -999999999 ∨ 999999999 < x by omega)
        by_cases hlo : -1000000000 < x
        · have hhi : ¬ x < 1000000000 := by omega
          have hd3 : decide (x < 1000000000) = false := by simp; omega
          clear hsm
          go_wp2_with fail
          refine (parse_large x w10 HX.out HS.out (HT.out.below HB10.out)).mono ?_
          rintro e w11 ⟨rfl, hb11⟩
          have hB11 : Below w.heap.size w w11 := HB10.out.trans (hb11.mono HB10.out.size)
          have HB11 := Lib.hid hB11
          clear hb11 hB11
          have hhl : (strOfNums (hexN t t.size)).size = 2 * t.size := by rw [strOfNums_size, hexN_len]
          go_wp2_with fail
          refine (specFmt x w11 HX.out.1 HX.out.2).mono ?_
          rintro e w12 ⟨rfl, hb12⟩
          have hB12 : Below w.heap.size w w12 := HB11.out.trans (hb12.mono HB11.out.size)
          have HB12 := Lib.hid hB12
          clear hb12 hB12
          go_wp2_with fail
          go_ret
          exact ⟨rfl, HB12.out⟩
        · clear hsm
          go_wp2_with fail
          refine (parse_large x w10 HX.out HS.out (HT.out.below HB10.out)).mono ?_
          rintro e w11 ⟨rfl, hb11⟩
          have hB11 : Below w.heap.size w w11 := HB10.out.trans (hb11.mono HB10.out.size)
          have HB11 := Lib.hid hB11
          clear hb11 hB11
          have hhl : (strOfNums (hexN t t.size)).size = 2 * t.size := by rw [strOfNums_size, hexN_len]
          go_wp2_with fail
          refine (specFmt x w11 HX.out.1 HX.out.2).mono ?_
          rintro e w12 ⟨rfl, hb12⟩
          have hB12 : Below w.heap.size w w12 := HB11.out.trans (hb12.mono HB11.out.size)
          have HB12 := Lib.hid hB12
          clear hb12 hB12
          go_wp2_with fail
          go_ret
          exact ⟨rfl, HB12.out⟩
  · have HV := Lib.hid (show n < 0 ∨ 562949953421311 < n by omega)
    clear hv
    go_wp2_with fail
    refine (implEncV_bad n w2 HV.out).mono ?_
    rintro e w3 ⟨rfl, rfl⟩
    have hadd := fun (W : World) => run_string_add_sum (P := Tryd.prog) W ByteArray.empty t (by simp; omega)
    go_wp2_with fail
    refine (decV_any _ w2 (by unfold maxLen; omega)).mono ?_
    rintro e w4 ⟨y, k, rfl, hb4⟩
    have hB4 : Below w.heap.size w w4 := HB2.out.trans (hb4.mono HB2.out.size)
    have HB4 := Lib.hid hB4
    clear hb4 hB4 hadd
    by_cases hn0 : 0 ≤ n
    · have hnm : decide (n ≤ 562949953421311) = false := by
        have := HV.out
        simp; omega
      go_wp2_with fail
      clear hnm
      have HC4 := Lib.hid (HC.out.kept HB4.out)
      refine (drawEncFixed w4 A len cap zs ⟨HC4.out.1, fun h => by obtain ⟨b, off, e, hlt, hcell⟩ := HC4.out.2 h; exact ⟨b, off, e, Nat.lt_of_lt_of_le hlt HB4.out.size, hcell⟩⟩ hlen).mono ?_
      rintro e w5 ⟨x, a, hx, ⟨ha0, ha1⟩, rfl, hb5⟩
      have hB5 : Below w.heap.size w w5 := HB4.out.trans (hb5.mono HB4.out.size)
      have HB5 := Lib.hid hB5
      have HX := Lib.hid hx
      clear hb5 hB5 hx
      by_cases hf : (1 ≤ a ∧ a ≤ 7 ∧ 0 ≤ x) ∧ x.toNat / 256 ^ a.toNat = 0
      · obtain ⟨⟨h1, h2, h3⟩, h4⟩ := hf
        obtain ⟨p, rfl⟩ := Int.eq_ofNat_of_zero_le h3
        obtain ⟨d, rfl⟩ := Int.eq_ofNat_of_zero_le (show 0 ≤ a by omega)
        rw [Int.toNat_natCast, Int.toNat_natCast] at h4
        have H4 := Lib.hid h4
        have hpx : p ≤ 9223372036854775807 := by have := HX.out.2; omega
        have HP := Lib.hid hpx
        clear h4 h3 hpx
        have hfs : (strOfNums (dg p d)).size = d := by rw [strOfNums_size, dg_len]
        obtain ⟨hne3, hne4⟩ := str_ne (l := dg p d) (by intro e; have := dg_len p d; rw [e] at this; simp at this; omega)
        go_wp2_with fail
        refine (encF_full p d w5 HP.out (by omega) (by omega) H4.out).1.mono ?_
        rintro e w6 ⟨rfl, hb6⟩
        have hB6 : Below w.heap.size w w6 := HB5.out.trans (hb6.mono HB5.out.size)
        have HB6 := Lib.hid hB6
        clear hb6 hB6
        have hadd2 := fun (W : World) => run_string_add_sum (P := Tryd.prog) W (strOfNums (dg p d)) t (by omega)
        go_wp2_with fail
        refine (decF_enc p d t w6 (by omega) (by omega) H4.out (by rw [ByteArray.size_append]; unfold maxLen; omega)).mono ?_
        rintro e w6' ⟨rfl, rfl⟩
        clear hadd2
        go_wp2_with fail
        refine (encF_full p d w6 HP.out (by omega) (by omega) H4.out).2.mono ?_
        rintro e w7 ⟨rfl, hb7⟩
        have hB7 : Below w.heap.size w w7 := HB6.out.trans (hb7.mono HB6.out.size)
        have HB7 := Lib.hid hB7
        clear hb7 hB7
        go_wp2_with fail
        clear hne3 hne4 hfs
        obtain ⟨x, hxp⟩ : ∃ x : Int, (p : Int) = x := ⟨_, rfl⟩
        rw [hxp] at HX ⊢
        clear hxp
        refine (implEncHex t w7 (by omega)).mono ?_
        rintro e w8 ⟨rfl, hb8⟩
        have hB8 : Below w.heap.size w w8 := HB7.out.trans (hb8.mono HB7.out.size)
        have HB8 := Lib.hid hB8
        clear hb8 hB8
        go_wp2_with fail
        refine (decH_enc t w8 (by omega)).mono ?_
        rintro e w9 ⟨rfl, hb9⟩
        have hB9 : Below w.heap.size w w9 := HB8.out.trans (hb9.mono HB8.out.size)
        have HB9 := Lib.hid hB9
        clear hb9 hB9
        go_wp2_with fail
        refine (implFmt x w9 HX.out.1 HX.out.2 (HT.out.below HB9.out)).mono ?_
        rintro e w10 ⟨rfl, hb10⟩
        have hB10 : Below w.heap.size w w10 := HB9.out.trans (hb10.mono HB9.out.size)
        have HB10 := Lib.hid hB10
        clear hb10 hB10
        by_cases hsm : -999999999 ≤ x ∧ x ≤ 999999999
        · have HS := Lib.hid hsm
          have hd1 : decide (-1000000000 < x) = true := by simp; omega
          have hd2 : decide (x < 1000000000) = true := by simp; omega
          clear hsm
          go_wp2_with fail
          refine (parse_small x w10 HS.out (HT.out.below HB10.out)).mono ?_
          rintro e w11 ⟨rfl, hb11⟩
          have hB11 : Below w.heap.size w w11 := HB10.out.trans (hb11.mono HB10.out.size)
          have HB11 := Lib.hid hB11
          clear hb11 hB11
          have hhl : (strOfNums (hexN t t.size)).size = 2 * t.size := by rw [strOfNums_size, hexN_len]
          go_wp2_with fail
          refine (specFmt x w11 HX.out.1 HX.out.2).mono ?_
          rintro e w12 ⟨rfl, hb12⟩
          have hB12 : Below w.heap.size w w12 := HB11.out.trans (hb12.mono HB11.out.size)
          have HB12 := Lib.hid hB12
          clear hb12 hB12
          go_wp2_with fail
          go_ret
          exact ⟨rfl, HB12.out⟩
        · have HS := Lib.hid (show x < -999999999 ∨ 999999999 < x by omega)
          by_cases hlo : -1000000000 < x
          · have hhi : ¬ x < 1000000000 := by omega
            have hd3 : decide (x < 1000000000) = false := by simp; omega
            clear hsm
            go_wp2_with fail
            refine (parse_large x w10 HX.out HS.out (HT.out.below HB10.out)).mono ?_
            rintro e w11 ⟨rfl, hb11⟩
            have hB11 : Below w.heap.size w w11 := HB10.out.trans (hb11.mono HB10.out.size)
            have HB11 := Lib.hid hB11
            clear hb11 hB11
            have hhl : (strOfNums (hexN t t.size)).size = 2 * t.size := by rw [strOfNums_size, hexN_len]
            go_wp2_with fail
            refine (specFmt x w11 HX.out.1 HX.out.2).mono ?_
            rintro e w12 ⟨rfl, hb12⟩
            have hB12 : Below w.heap.size w w12 := HB11.out.trans (hb12.mono HB11.out.size)
            have HB12 := Lib.hid hB12
            clear hb12 hB12
            go_wp2_with fail
            go_ret
            exact ⟨rfl, HB12.out⟩
          · clear hsm
            go_wp2_with fail
            refine (parse_large x w10 HX.out HS.out (HT.out.below HB10.out)).mono ?_
            rintro e w11 ⟨rfl, hb11⟩
            have hB11 : Below w.heap.size w w11 := HB10.out.trans (hb11.mono HB10.out.size)
            have HB11 := Lib.hid hB11
            clear hb11 hB11
            have hhl : (strOfNums (hexN t t.size)).size = 2 * t.size := by rw [strOfNums_size, hexN_len]
            go_wp2_with fail
            refine (specFmt x w11 HX.out.1 HX.out.2).mono ?_
            rintro e w12 ⟨rfl, hb12⟩
            have hB12 : Below w.heap.size w w12 := HB11.out.trans (hb12.mono HB11.out.size)
            have HB12 := Lib.hid hB12
            clear hb12 hB12
            go_wp2_with fail
            go_ret
            exact ⟨rfl, HB12.out⟩

      · have HF := Lib.hid (show a < 1 ∨ 7 < a ∨ x < 0 ∨ ¬ x.toNat / 256 ^ a.toNat = 0 by
          by_cases h : 1 ≤ a ∧ a ≤ 7 ∧ 0 ≤ x
          · exact .inr (.inr (.inr fun e => hf ⟨h, e⟩))
          · omega)
        clear hf
        go_wp2_with fail
        refine (encF_empty x a w5 HX.out HF.out).1.mono ?_
        rintro e w6 ⟨rfl, hb6⟩
        have hB6 : Below w.heap.size w w6 := HB5.out.trans (hb6.mono HB5.out.size)
        have HB6 := Lib.hid hB6
        clear hb6 hB6
        have hadd2 := fun (W : World) => run_string_add_sum (P := Tryd.prog) W ByteArray.empty t (by simp; omega)
        go_wp2_with fail
        refine (decF_any _ _ w6 (by unfold maxLen; omega)).mono ?_
        rintro e w6' ⟨y, b, rfl, hb6'⟩
        have hB6' : Below w.heap.size w w6' := HB6.out.trans (hb6'.mono HB6.out.size)
        have HB6' := Lib.hid hB6'
        clear hadd2 hb6' hB6'
        go_wp2_with fail
        refine (encF_empty x a w6' HX.out HF.out).2.mono ?_
        rintro e w7 ⟨rfl, hb7⟩
        have hB7 : Below w.heap.size w w7 := HB6'.out.trans (hb7.mono HB6'.out.size)
        have HB7 := Lib.hid hB7
        clear hb7 hB7
        go_wp2_with fail
        refine (implEncHex t w7 (by omega)).mono ?_
        rintro e w8 ⟨rfl, hb8⟩
        have hB8 : Below w.heap.size w w8 := HB7.out.trans (hb8.mono HB7.out.size)
        have HB8 := Lib.hid hB8
        clear hb8 hB8
        go_wp2_with fail
        refine (decH_enc t w8 (by omega)).mono ?_
        rintro e w9 ⟨rfl, hb9⟩
        have hB9 : Below w.heap.size w w9 := HB8.out.trans (hb9.mono HB8.out.size)
        have HB9 := Lib.hid hB9
        clear hb9 hB9
        go_wp2_with fail
        refine (implFmt x w9 HX.out.1 HX.out.2 (HT.out.below HB9.out)).mono ?_
        rintro e w10 ⟨rfl, hb10⟩
        have hB10 : Below w.heap.size w w10 := HB9.out.trans (hb10.mono HB9.out.size)
        have HB10 := Lib.hid hB10
        clear hb10 hB10
        by_cases hsm : -999999999 ≤ x ∧ x ≤ 999999999
        · have HS := Lib.hid hsm
          have hd1 : decide (-1000000000 < x) = true := by simp; omega
          have hd2 : decide (x < 1000000000) = true := by simp; omega
          clear hsm
          go_wp2_with fail
          refine (parse_small x w10 HS.out (HT.out.below HB10.out)).mono ?_
          rintro e w11 ⟨rfl, hb11⟩
          have hB11 : Below w.heap.size w w11 := HB10.out.trans (hb11.mono HB10.out.size)
          have HB11 := Lib.hid hB11
          clear hb11 hB11
          have hhl : (strOfNums (hexN t t.size)).size = 2 * t.size := by rw [strOfNums_size, hexN_len]
          go_wp2_with fail
          refine (specFmt x w11 HX.out.1 HX.out.2).mono ?_
          rintro e w12 ⟨rfl, hb12⟩
          have hB12 : Below w.heap.size w w12 := HB11.out.trans (hb12.mono HB11.out.size)
          have HB12 := Lib.hid hB12
          clear hb12 hB12
          go_wp2_with fail
          go_ret
          exact ⟨rfl, HB12.out⟩
        · have HS := Lib.hid (show x < -999999999 ∨ 999999999 < x by omega)
          by_cases hlo : -1000000000 < x
          · have hhi : ¬ x < 1000000000 := by omega
            have hd3 : decide (x < 1000000000) = false := by simp; omega
            clear hsm
            go_wp2_with fail
            refine (parse_large x w10 HX.out HS.out (HT.out.below HB10.out)).mono ?_
            rintro e w11 ⟨rfl, hb11⟩
            have hB11 : Below w.heap.size w w11 := HB10.out.trans (hb11.mono HB10.out.size)
            have HB11 := Lib.hid hB11
            clear hb11 hB11
            have hhl : (strOfNums (hexN t t.size)).size = 2 * t.size := by rw [strOfNums_size, hexN_len]
            go_wp2_with fail
            refine (specFmt x w11 HX.out.1 HX.out.2).mono ?_
            rintro e w12 ⟨rfl, hb12⟩
            have hB12 : Below w.heap.size w w12 := HB11.out.trans (hb12.mono HB11.out.size)
            have HB12 := Lib.hid hB12
            clear hb12 hB12
            go_wp2_with fail
            go_ret
            exact ⟨rfl, HB12.out⟩
          · clear hsm
            go_wp2_with fail
            refine (parse_large x w10 HX.out HS.out (HT.out.below HB10.out)).mono ?_
            rintro e w11 ⟨rfl, hb11⟩
            have hB11 : Below w.heap.size w w11 := HB10.out.trans (hb11.mono HB10.out.size)
            have HB11 := Lib.hid hB11
            clear hb11 hB11
            have hhl : (strOfNums (hexN t t.size)).size = 2 * t.size := by rw [strOfNums_size, hexN_len]
            go_wp2_with fail
            refine (specFmt x w11 HX.out.1 HX.out.2).mono ?_
            rintro e w12 ⟨rfl, hb12⟩
            have hB12 : Below w.heap.size w w12 := HB11.out.trans (hb12.mono HB11.out.size)
            have HB12 := Lib.hid hB12
            clear hb12 hB12
            go_wp2_with fail
            go_ret
            exact ⟨rfl, HB12.out⟩
    · go_wp2_with fail
      have HC4 := Lib.hid (HC.out.kept HB4.out)
      refine (drawEncFixed w4 A len cap zs ⟨HC4.out.1, fun h => by obtain ⟨b, off, e, hlt, hcell⟩ := HC4.out.2 h; exact ⟨b, off, e, Nat.lt_of_lt_of_le hlt HB4.out.size, hcell⟩⟩ hlen).mono ?_
      rintro e w5 ⟨x, a, hx, ⟨ha0, ha1⟩, rfl, hb5⟩
      have hB5 : Below w.heap.size w w5 := HB4.out.trans (hb5.mono HB4.out.size)
      have HB5 := Lib.hid hB5
      have HX := Lib.hid hx
      clear hb5 hB5 hx
      by_cases hf : (1 ≤ a ∧ a ≤ 7 ∧ 0 ≤ x) ∧ x.toNat / 256 ^ a.toNat = 0
      · obtain ⟨⟨h1, h2, h3⟩, h4⟩ := hf
        obtain ⟨p, rfl⟩ := Int.eq_ofNat_of_zero_le h3
        obtain ⟨d, rfl⟩ := Int.eq_ofNat_of_zero_le (show 0 ≤ a by omega)
        rw [Int.toNat_natCast, Int.toNat_natCast] at h4
        have H4 := Lib.hid h4
        have hpx : p ≤ 9223372036854775807 := by have := HX.out.2; omega
        have HP := Lib.hid hpx
        clear h4 h3 hpx
        have hfs : (strOfNums (dg p d)).size = d := by rw [strOfNums_size, dg_len]
        obtain ⟨hne3, hne4⟩ := str_ne (l := dg p d) (by intro e; have := dg_len p d; rw [e] at this; simp at this; omega)
        go_wp2_with fail
        refine (encF_full p d w5 HP.out (by omega) (by omega) H4.out).1.mono ?_
        rintro e w6 ⟨rfl, hb6⟩
        have hB6 : Below w.heap.size w w6 := HB5.out.trans (hb6.mono HB5.out.size)
        have HB6 := Lib.hid hB6
        clear hb6 hB6
        have hadd2 := fun (W : World) => run_string_add_sum (P := Tryd.prog) W (strOfNums (dg p d)) t (by omega)
        go_wp2_with fail
        refine (decF_enc p d t w6 (by omega) (by omega) H4.out (by rw [ByteArray.size_append]; unfold maxLen; omega)).mono ?_
        rintro e w6' ⟨rfl, rfl⟩
        clear hadd2
        go_wp2_with fail
        refine (encF_full p d w6 HP.out (by omega) (by omega) H4.out).2.mono ?_
        rintro e w7 ⟨rfl, hb7⟩
        have hB7 : Below w.heap.size w w7 := HB6.out.trans (hb7.mono HB6.out.size)
        have HB7 := Lib.hid hB7
        clear hb7 hB7
        go_wp2_with fail
        clear hne3 hne4 hfs
        obtain ⟨x, hxp⟩ : ∃ x : Int, (p : Int) = x := ⟨_, rfl⟩
        rw [hxp] at HX ⊢
        clear hxp
        refine (implEncHex t w7 (by omega)).mono ?_
        rintro e w8 ⟨rfl, hb8⟩
        have hB8 : Below w.heap.size w w8 := HB7.out.trans (hb8.mono HB7.out.size)
        have HB8 := Lib.hid hB8
        clear hb8 hB8
        go_wp2_with fail
        refine (decH_enc t w8 (by omega)).mono ?_
        rintro e w9 ⟨rfl, hb9⟩
        have hB9 : Below w.heap.size w w9 := HB8.out.trans (hb9.mono HB8.out.size)
        have HB9 := Lib.hid hB9
        clear hb9 hB9
        go_wp2_with fail
        refine (implFmt x w9 HX.out.1 HX.out.2 (HT.out.below HB9.out)).mono ?_
        rintro e w10 ⟨rfl, hb10⟩
        have hB10 : Below w.heap.size w w10 := HB9.out.trans (hb10.mono HB9.out.size)
        have HB10 := Lib.hid hB10
        clear hb10 hB10
        by_cases hsm : -999999999 ≤ x ∧ x ≤ 999999999
        · have HS := Lib.hid hsm
          have hd1 : decide (-1000000000 < x) = true := by simp; omega
          have hd2 : decide (x < 1000000000) = true := by simp; omega
          clear hsm
          go_wp2_with fail
          refine (parse_small x w10 HS.out (HT.out.below HB10.out)).mono ?_
          rintro e w11 ⟨rfl, hb11⟩
          have hB11 : Below w.heap.size w w11 := HB10.out.trans (hb11.mono HB10.out.size)
          have HB11 := Lib.hid hB11
          clear hb11 hB11
          have hhl : (strOfNums (hexN t t.size)).size = 2 * t.size := by rw [strOfNums_size, hexN_len]
          go_wp2_with fail
          refine (specFmt x w11 HX.out.1 HX.out.2).mono ?_
          rintro e w12 ⟨rfl, hb12⟩
          have hB12 : Below w.heap.size w w12 := HB11.out.trans (hb12.mono HB11.out.size)
          have HB12 := Lib.hid hB12
          clear hb12 hB12
          go_wp2_with fail
          go_ret
          exact ⟨rfl, HB12.out⟩
        · have HS := Lib.hid (show x < -999999999 ∨ 999999999 < x by omega)
          by_cases hlo : -1000000000 < x
          · have hhi : ¬ x < 1000000000 := by omega
            have hd3 : decide (x < 1000000000) = false := by simp; omega
            clear hsm
            go_wp2_with fail
            refine (parse_large x w10 HX.out HS.out (HT.out.below HB10.out)).mono ?_
            rintro e w11 ⟨rfl, hb11⟩
            have hB11 : Below w.heap.size w w11 := HB10.out.trans (hb11.mono HB10.out.size)
            have HB11 := Lib.hid hB11
            clear hb11 hB11
            have hhl : (strOfNums (hexN t t.size)).size = 2 * t.size := by rw [strOfNums_size, hexN_len]
            go_wp2_with fail
            refine (specFmt x w11 HX.out.1 HX.out.2).mono ?_
            rintro e w12 ⟨rfl, hb12⟩
            have hB12 : Below w.heap.size w w12 := HB11.out.trans (hb12.mono HB11.out.size)
            have HB12 := Lib.hid hB12
            clear hb12 hB12
            go_wp2_with fail
            go_ret
            exact ⟨rfl, HB12.out⟩
          · clear hsm
            go_wp2_with fail
            refine (parse_large x w10 HX.out HS.out (HT.out.below HB10.out)).mono ?_
            rintro e w11 ⟨rfl, hb11⟩
            have hB11 : Below w.heap.size w w11 := HB10.out.trans (hb11.mono HB10.out.size)
            have HB11 := Lib.hid hB11
            clear hb11 hB11
            have hhl : (strOfNums (hexN t t.size)).size = 2 * t.size := by rw [strOfNums_size, hexN_len]
            go_wp2_with fail
            refine (specFmt x w11 HX.out.1 HX.out.2).mono ?_
            rintro e w12 ⟨rfl, hb12⟩
            have hB12 : Below w.heap.size w w12 := HB11.out.trans (hb12.mono HB11.out.size)
            have HB12 := Lib.hid hB12
            clear hb12 hB12
            go_wp2_with fail
            go_ret
            exact ⟨rfl, HB12.out⟩

      · have HF := Lib.hid (show a < 1 ∨ 7 < a ∨ x < 0 ∨ ¬ x.toNat / 256 ^ a.toNat = 0 by
          by_cases h : 1 ≤ a ∧ a ≤ 7 ∧ 0 ≤ x
          · exact .inr (.inr (.inr fun e => hf ⟨h, e⟩))
          · omega)
        clear hf
        go_wp2_with fail
        refine (encF_empty x a w5 HX.out HF.out).1.mono ?_
        rintro e w6 ⟨rfl, hb6⟩
        have hB6 : Below w.heap.size w w6 := HB5.out.trans (hb6.mono HB5.out.size)
        have HB6 := Lib.hid hB6
        clear hb6 hB6
        have hadd2 := fun (W : World) => run_string_add_sum (P := Tryd.prog) W ByteArray.empty t (by simp; omega)
        go_wp2_with fail
        refine (decF_any _ _ w6 (by unfold maxLen; omega)).mono ?_
        rintro e w6' ⟨y, b, rfl, hb6'⟩
        have hB6' : Below w.heap.size w w6' := HB6.out.trans (hb6'.mono HB6.out.size)
        have HB6' := Lib.hid hB6'
        clear hadd2 hb6' hB6'
        go_wp2_with fail
        refine (encF_empty x a w6' HX.out HF.out).2.mono ?_
        rintro e w7 ⟨rfl, hb7⟩
        have hB7 : Below w.heap.size w w7 := HB6'.out.trans (hb7.mono HB6'.out.size)
        have HB7 := Lib.hid hB7
        clear hb7 hB7
        go_wp2_with fail
        refine (implEncHex t w7 (by omega)).mono ?_
        rintro e w8 ⟨rfl, hb8⟩
        have hB8 : Below w.heap.size w w8 := HB7.out.trans (hb8.mono HB7.out.size)
        have HB8 := Lib.hid hB8
        clear hb8 hB8
        go_wp2_with fail
        refine (decH_enc t w8 (by omega)).mono ?_
        rintro e w9 ⟨rfl, hb9⟩
        have hB9 : Below w.heap.size w w9 := HB8.out.trans (hb9.mono HB8.out.size)
        have HB9 := Lib.hid hB9
        clear hb9 hB9
        go_wp2_with fail
        refine (implFmt x w9 HX.out.1 HX.out.2 (HT.out.below HB9.out)).mono ?_
        rintro e w10 ⟨rfl, hb10⟩
        have hB10 : Below w.heap.size w w10 := HB9.out.trans (hb10.mono HB9.out.size)
        have HB10 := Lib.hid hB10
        clear hb10 hB10
        by_cases hsm : -999999999 ≤ x ∧ x ≤ 999999999
        · have HS := Lib.hid hsm
          have hd1 : decide (-1000000000 < x) = true := by simp; omega
          have hd2 : decide (x < 1000000000) = true := by simp; omega
          clear hsm
          go_wp2_with fail
          refine (parse_small x w10 HS.out (HT.out.below HB10.out)).mono ?_
          rintro e w11 ⟨rfl, hb11⟩
          have hB11 : Below w.heap.size w w11 := HB10.out.trans (hb11.mono HB10.out.size)
          have HB11 := Lib.hid hB11
          clear hb11 hB11
          have hhl : (strOfNums (hexN t t.size)).size = 2 * t.size := by rw [strOfNums_size, hexN_len]
          go_wp2_with fail
          refine (specFmt x w11 HX.out.1 HX.out.2).mono ?_
          rintro e w12 ⟨rfl, hb12⟩
          have hB12 : Below w.heap.size w w12 := HB11.out.trans (hb12.mono HB11.out.size)
          have HB12 := Lib.hid hB12
          clear hb12 hB12
          go_wp2_with fail
          go_ret
          exact ⟨rfl, HB12.out⟩
        · have HS := Lib.hid (show x < -999999999 ∨ 999999999 < x by omega)
          by_cases hlo : -1000000000 < x
          · have hhi : ¬ x < 1000000000 := by omega
            have hd3 : decide (x < 1000000000) = false := by simp; omega
            clear hsm
            go_wp2_with fail
            refine (parse_large x w10 HX.out HS.out (HT.out.below HB10.out)).mono ?_
            rintro e w11 ⟨rfl, hb11⟩
            have hB11 : Below w.heap.size w w11 := HB10.out.trans (hb11.mono HB10.out.size)
            have HB11 := Lib.hid hB11
            clear hb11 hB11
            have hhl : (strOfNums (hexN t t.size)).size = 2 * t.size := by rw [strOfNums_size, hexN_len]
            go_wp2_with fail
            refine (specFmt x w11 HX.out.1 HX.out.2).mono ?_
            rintro e w12 ⟨rfl, hb12⟩
            have hB12 : Below w.heap.size w w12 := HB11.out.trans (hb12.mono HB11.out.size)
            have HB12 := Lib.hid hB12
            clear hb12 hB12
            go_wp2_with fail
            go_ret
            exact ⟨rfl, HB12.out⟩
          · clear hsm
            go_wp2_with fail
            refine (parse_large x w10 HX.out HS.out (HT.out.below HB10.out)).mono ?_
            rintro e w11 ⟨rfl, hb11⟩
            have hB11 : Below w.heap.size w w11 := HB10.out.trans (hb11.mono HB10.out.size)
            have HB11 := Lib.hid hB11
            clear hb11 hB11
            have hhl : (strOfNums (hexN t t.size)).size = 2 * t.size := by rw [strOfNums_size, hexN_len]
            go_wp2_with fail
            refine (specFmt x w11 HX.out.1 HX.out.2).mono ?_
            rintro e w12 ⟨rfl, hb12⟩
            have hB12 : Below w.heap.size w w12 := HB11.out.trans (hb12.mono HB11.out.size)
            have HB12 := Lib.hid hB12
            clear hb12 hB12
            go_wp2_with fail
            go_ret
            exact ⟨rfl, HB12.out⟩

theorem code_of_row {w : World} {A : Option Addr} {len cap : Nat} {zs : List Int}
    (h : (A = none ∧ len = 0 ∧ cap = 0 ∧ zs = []) ∨ ∃ x, A = some x ∧ len ≤ cap ∧ cap ≤ maxLen ∧ zs.length = cap ∧ (∀ i, i < zs.length → w.cell? (x.add i) = some (.int .u8 (zs.getD i 0))) ∧ ∀ n ∈ zs, (Lit.int .u8 n).wf = true) :
    CodeIs w w.heap.size A len (fun k => zs.getD k 0) := by
  have hb : (∀ n ∈ zs, (Lit.int .u8 n).wf = true) → ∀ k, 0 ≤ zs.getD k 0 ∧ zs.getD k 0 ≤ 255 := by
    intro hw k
    by_cases hk : k < zs.length
    · have := hw _ (List.getElem_mem hk)
      simp [Lit.wf, IntKind.min, IntKind.max, IntKind.signed, IntKind.bits] at this
      simp [List.getD, List.getElem?_eq_getElem hk]
      omega
    · simp [List.getD, List.getElem?_eq_none (by omega : zs.length ≤ k)]
  rcases h with ⟨rfl, rfl, rfl, rfl⟩ | ⟨x, rfl, h1, h2, h3, hc, hw⟩
  · exact ⟨fun k => by simp, fun h => absurd h (by omega)⟩
  · refine ⟨hb hw, fun hl => ?_⟩
    obtain ⟨b, off, spot⟩ := x
    have h0 := hc 0 (by omega)
    have hs : spot = none := by simpa [Addr.add] using World.cell?_spot h0
    subst hs
    have hadd : ∀ k, (⟨b, off, none⟩ : Addr).add k = ⟨b, off + k, none⟩ := fun k => by unfold Addr.add; split <;> simp_all
    rw [hadd 0] at h0
    refine ⟨b, off, rfl, World.block_lt_of_cell? w _ h0, fun k hk => ?_⟩
    rw [← hadd k]
    exact hc k (by omega)

/-- The law, as the row hands its slice. -/
theorem lawIe (A : Option Addr) (len cap : Nat) (zs : List Int) (w : World)
    (h : (A = none ∧ len = 0 ∧ cap = 0 ∧ zs = []) ∨ ∃ x, A = some x ∧ len ≤ cap ∧ cap ≤ maxLen ∧ zs.length = cap ∧ (∀ i, i < zs.length → w.cell? (x.add i) = some (.int .u8 (zs.getD i 0))) ∧ ∀ n ∈ zs, (Lit.int .u8 n).wf = true)
    (ht : Tab w) :
    Calls Tryd.prog 3 #[.slice A len cap] w fun e w' => e = .returned (.bool true) ∧ Below w.heap.size w w' := by
  by_cases hbig : (len : Int) ≤ 1048576
  · exact lawIe0 w A len cap _ (code_of_row h) (by omega) ht hbig
  · have hb : (1048576 : Int) < (len : Int) := by omega
    clear h ht hbig
    go_enter Tryd.func3, Tryd.ntmps3
    go_wp2_with fail
    refine (big_yes w A len cap hb).mono ?_
    rintro e w' ⟨rfl, rfl⟩
    go_wp2_with fail
    go_ret
    exact ⟨rfl, Below.refl _ _⟩
end Go.Proofs.YtooklpeiaedokaaDoor
