/- The law FnExactTransposeMatrix returns true at every input. No condition. -/
import Derived.Test.YtcfgljfpkhefmaaTrS
import Derived.Test.YtcfgljfpkhefmaaTrI
import Derived.Test.YtcfgljfpkhefmaaToOwn
import Derived.Test.YtcfgljfpkhefmaaRowsX
namespace Go.Proofs.Ytcfgljfpkhefmaa
open Go.RowKit

theorem tot_totD (rs : List (List Int)) : ∀ n, tot rs n = totD rs n := by
  intro n
  induction n with
  | zero => rfl
  | succ n ih => rw [tot, totD, ih]

set_option maxHeartbeats 4000000 in
set_option maxRecDepth 100000 in
theorem lawTransposeMatrix (A : Option Addr) (cap : Nat) (m : List (List Int)) (w : World) (hm : m.length ≤ maxLen) (hM : RowsD w 0 w.heap.size A m) (hwm : ∀ k, k < m.length → (m.getD k []).length ≤ maxLen ∧ WfZ (m.getD k [])) :
    Calls Try.prog 6 #[.slice A m.length cap] w fun e w' => e = .returned (.bool true) ∧ Below w.heap.size w w' := by
  have HM_0 := Lib.hid (show RowsIn w 0 w.heap.size A m from hM)
  have HXL := Lib.hid (show ∀ k, k < m.length → (m.getD k []).length ≤ 9223372036854775807 from fun k hk => by
    have := (hwm k hk).1
    unfold maxLen at this
    omega)
  clear hM hwm
  by_cases hnT : m.length + totD m m.length ≤ 1048576
  · have W0 := Lib.hid (Below.refl w.heap.size w)
    have hn1 : m.length ≤ 1048576 := by omega
    have HRW := Lib.hid (show ∀ k, k < m.length → (m.getD k []).length ≤ 1048576 from fun k hk => by
      have := totD_le m (j := k + 1) (n := m.length) (by omega)
      have h2 : totD m (k + 1) = totD m k + (m.getD k []).length := rfl
      omega)
    have hz : (trV m).length ≤ 1048576 := (Nat.le_trans (trV_len m) (by decide))
    have hrr : ∀ k, k < (trV m).length → ((trV m).getD k []).length ≤ 1048576 := (fun k _ => Nat.le_trans (trV_row m k) (by decide))
    have htt : (1 : Int) + (tot (trV m) (trV m).length : Int) ≤ 10000000 := (by have := tot_bound (trV m) 9 (trV m).length (fun k _ => trV_row m k); have := trV_len m; omega)
    have HRR := Lib.hid hrr
    clear hrr
    have httm : (1 : Int) + (tot m m.length : Int) ≤ 10000000 := by
      have : tot m m.length = totD m m.length := tot_totD m _
      omega
    go_enter Try.func6, Try.ntmps6
    go_wp2_with fail
    refine (szRows_c m A cap 0 w.heap.size 1048576 _ (show RowsD _ 0 w.heap.size A m from HM_0.out) (by omega) (by omega)).mono ?_
    rintro e w9 ⟨rfl, rfl⟩
    have hnn : ¬ (1048576 : Int) - (m.length : Int) - (totD m m.length : Int) < 0 := by omega
    go_wp2_with fail
    refine (toRowsO_c m A cap 0 w.heap.size _ HM_0.out hn1 HRW.out).mono ?_
    rintro e w1 ⟨g1, rfl, ho, hb⟩
    have Z1 := Lib.hid (within_of hb).size
    have W1 := Lib.hid (within_on W0.out (within_of hb) W0.out.size (.inr (Nat.le_refl _)))
    have HM_1 := Lib.hid (HM_0.out.within (within_of hb) (by omega))
    have SG_1 := Lib.hid (ho.reads)
    clear ho hb
    go_wp2_with fail
    refine (specTr m (some ⟨g1, 0, none⟩) m.length _ _ _ SG_1.out hn1 HRW.out).mono ?_
    rintro e w2 ⟨AS, cs, rfl, hs, hb⟩
    have Z2 := Lib.hid (within_of hb).size
    have W2 := Lib.hid (within_on W1.out (within_of hb) W1.out.size (.inr (Nat.le_refl _)))
    have HM_2 := Lib.hid (HM_1.out.within (within_of hb) (by omega))
    have SG_2 := Lib.hid (SG_1.out.within (within_of hb) (by omega))
    have SR_2 := Lib.hid (hs)
    clear hs hb
    go_wp2_with fail
    refine (toRowsO_c m A cap 0 w.heap.size _ HM_2.out hn1 HRW.out).mono ?_
    rintro e w3 ⟨x0, rfl, ho, hb⟩
    have Z3 := Lib.hid (within_of hb).size
    have W3 := Lib.hid (within_on W2.out (within_of hb) W2.out.size (.inr (Nat.le_refl _)))
    have HM_3 := Lib.hid (HM_2.out.within (within_of hb) (by omega))
    have SG_3 := Lib.hid (SG_2.out.within (within_of hb) (by omega))
    have SR_3 := Lib.hid (SR_2.out.within (within_of hb) (by omega))
    have SX_3 := Lib.hid (ho)
    clear ho hb
    go_wp2_with fail
    refine (implTr m (some ⟨x0, 0, none⟩) m.length _ _ _ SX_3.out.reads hn1 HRW.out).mono ?_
    rintro e w4 ⟨AG, cg, rfl, ho, hb⟩
    have Z4 := Lib.hid (within_of hb).size
    have W4 := Lib.hid (within_on W3.out (within_of hb) W3.out.size (.inr (Nat.le_refl _)))
    have HM_4 := Lib.hid (HM_3.out.within (within_of hb) (by omega))
    have SG_4 := Lib.hid (SG_3.out.within (within_of hb) (by omega))
    have SR_4 := Lib.hid (SR_3.out.within (within_of hb) (by omega))
    have SX_4 := Lib.hid (SX_3.out.within (within_of hb) (by omega))
    have SO_4 := Lib.hid (ho)
    clear ho hb
    go_wp2_with fail
    refine (eqRows_c (trV m) AG AS cg cs _ _ _ _ _ SO_4.out.reads SR_4.out hz HRR.out).mono ?_
    rintro e w5 ⟨rfl, hb⟩
    have Z5 := Lib.hid (within_of hb).size
    have W5 := Lib.hid (within_on W4.out (within_of hb) W4.out.size (.inr (Nat.le_refl _)))
    have HM_5 := Lib.hid (HM_4.out.within (within_of hb) (by omega))
    have SG_5 := Lib.hid (SG_4.out.within (within_of hb) (by omega))
    have SR_5 := Lib.hid (SR_4.out.within (within_of hb) (by omega))
    have SX_5 := Lib.hid (SX_4.out.within (within_of hb) (by omega))
    have SO_5 := Lib.hid (SO_4.out.within (within_of hb) (by omega))
    clear hb
    go_wp2_with fail
    refine (toRowsO_c m A cap 0 w.heap.size _ HM_5.out hn1 HRW.out).mono ?_
    rintro e w6 ⟨y1, rfl, ho, hb⟩
    have Z6 := Lib.hid (within_of hb).size
    have W6 := Lib.hid (within_on W5.out (within_of hb) W5.out.size (.inr (Nat.le_refl _)))
    have HM_6 := Lib.hid (HM_5.out.within (within_of hb) (by omega))
    have SG_6 := Lib.hid (SG_5.out.within (within_of hb) (by omega))
    have SR_6 := Lib.hid (SR_5.out.within (within_of hb) (by omega))
    have SX_6 := Lib.hid (SX_5.out.within (within_of hb) (by omega))
    have SO_6 := Lib.hid (SO_5.out.within (within_of hb) (by omega))
    have SZ_6 := Lib.hid (ho.reads)
    clear ho hb
    go_wp2_with fail
    refine (eqRows_c m (some ⟨x0, 0, none⟩) (some ⟨y1, 0, none⟩) m.length m.length _ _ _ _ _ SX_6.out.reads SZ_6.out hn1 HRW.out).mono ?_
    rintro e w7 ⟨rfl, hb⟩
    have Z7 := Lib.hid (within_of hb).size
    have W7 := Lib.hid (within_on W6.out (within_of hb) W6.out.size (.inr (Nat.le_refl _)))
    have HM_7 := Lib.hid (HM_6.out.within (within_of hb) (by omega))
    have SG_7 := Lib.hid (SG_6.out.within (within_of hb) (by omega))
    have SR_7 := Lib.hid (SR_6.out.within (within_of hb) (by omega))
    have SX_7 := Lib.hid (SX_6.out.within (within_of hb) (by omega))
    have SO_7 := Lib.hid (SO_6.out.within (within_of hb) (by omega))
    have SZ_7 := Lib.hid (SZ_6.out.within (within_of hb) (by omega))
    clear hb
    go_wp2_with fail
    refine (markRows_c m (some ⟨x0, 0, none⟩) m.length w2.heap.size w3.heap.size 1 _ SX_7.out hn1 HRW.out (by omega) httm).mono ?_
    rintro e w8 ⟨rfl, hin, hox⟩
    have Z8 := Lib.hid (hin).size
    have W8 := Lib.hid (within_on W7.out (hin) W7.out.size (by have := W7.out.size; have := Z1.out; have := Z2.out; have := Z3.out; have := Z4.out; have := Z5.out; have := Z6.out; have := Z7.out; have := Z8.out; omega))
    have HM_8 := Lib.hid (HM_7.out.within (hin) (by have := Z1.out; have := Z2.out; have := Z3.out; have := Z4.out; have := Z5.out; have := Z6.out; have := Z7.out; have := Z8.out; omega))
    have SG_8 := Lib.hid (SG_7.out.within (hin) (by have := Z1.out; have := Z2.out; have := Z3.out; have := Z4.out; have := Z5.out; have := Z6.out; have := Z7.out; have := Z8.out; omega))
    have SR_8 := Lib.hid (SR_7.out.within (hin) (by have := Z1.out; have := Z2.out; have := Z3.out; have := Z4.out; have := Z5.out; have := Z6.out; have := Z7.out; have := Z8.out; omega))
    have SO_8 := Lib.hid (SO_7.out.within (hin) (by have := Z1.out; have := Z2.out; have := Z3.out; have := Z4.out; have := Z5.out; have := Z6.out; have := Z7.out; have := Z8.out; omega))
    have SZ_8 := Lib.hid (SZ_7.out.within (hin) (by have := Z1.out; have := Z2.out; have := Z3.out; have := Z4.out; have := Z5.out; have := Z6.out; have := Z7.out; have := Z8.out; omega))
    clear hox hin
    have hk1 : ¬ (1 : Int) + (tot m m.length : Int) < 0 := by omega
    go_wp2_with fail
    refine (eqRows_c (trV m) AG AS cg cs _ _ _ _ _ SO_8.out.reads SR_8.out hz HRR.out).mono ?_
    rintro e w9 ⟨rfl, hb⟩
    have Z9 := Lib.hid (within_of hb).size
    have W9 := Lib.hid (within_on W8.out (within_of hb) W8.out.size (.inr (Nat.le_refl _)))
    have HM_9 := Lib.hid (HM_8.out.within (within_of hb) (by omega))
    have SG_9 := Lib.hid (SG_8.out.within (within_of hb) (by omega))
    have SR_9 := Lib.hid (SR_8.out.within (within_of hb) (by omega))
    have SO_9 := Lib.hid (SO_8.out.within (within_of hb) (by omega))
    have SZ_9 := Lib.hid (SZ_8.out.within (within_of hb) (by omega))
    clear hb
    go_wp2_with fail
    refine (markRowsX_c (trV m) AG cg w3.heap.size w4.heap.size 1 _ SO_9.out hz HRR.out (by omega) htt).mono ?_
    rintro e w10 ⟨rfl, hin, hog⟩
    have Z10 := Lib.hid (hin).size
    have W10 := Lib.hid (within_on W9.out (hin) W9.out.size (by have := W9.out.size; have := Z1.out; have := Z2.out; have := Z3.out; have := Z4.out; have := Z5.out; have := Z6.out; have := Z7.out; have := Z8.out; have := Z9.out; have := Z10.out; omega))
    have HM_10 := Lib.hid (HM_9.out.within (hin) (by have := Z1.out; have := Z2.out; have := Z3.out; have := Z4.out; have := Z5.out; have := Z6.out; have := Z7.out; have := Z8.out; have := Z9.out; have := Z10.out; omega))
    have SG_10 := Lib.hid (SG_9.out.within (hin) (by have := Z1.out; have := Z2.out; have := Z3.out; have := Z4.out; have := Z5.out; have := Z6.out; have := Z7.out; have := Z8.out; have := Z9.out; have := Z10.out; omega))
    have SR_10 := Lib.hid (SR_9.out.within (hin) (by have := Z1.out; have := Z2.out; have := Z3.out; have := Z4.out; have := Z5.out; have := Z6.out; have := Z7.out; have := Z8.out; have := Z9.out; have := Z10.out; omega))
    have SZ_10 := Lib.hid (SZ_9.out.within (hin) (by have := Z1.out; have := Z2.out; have := Z3.out; have := Z4.out; have := Z5.out; have := Z6.out; have := Z7.out; have := Z8.out; have := Z9.out; have := Z10.out; omega))
    have SM_10 := Lib.hid (hog)
    clear hog hin
    have hk2 : ¬ (1 : Int) + (tot (trV m) (trV m).length : Int) < 0 := by omega
    go_wp2_with fail
    refine (heldRows_c (trV m) AG cg _ _ 1 _ SM_10.out.reads hz HRR.out (by omega) htt).mono ?_
    rintro e w11 ⟨rfl, hb⟩
    have Z11 := Lib.hid (within_of hb).size
    have W11 := Lib.hid (within_on W10.out (within_of hb) W10.out.size (.inr (Nat.le_refl _)))
    have HM_11 := Lib.hid (HM_10.out.within (within_of hb) (by omega))
    have SG_11 := Lib.hid (SG_10.out.within (within_of hb) (by omega))
    have SR_11 := Lib.hid (SR_10.out.within (within_of hb) (by omega))
    have SZ_11 := Lib.hid (SZ_10.out.within (within_of hb) (by omega))
    have SM_11 := Lib.hid (SM_10.out.within (within_of hb) (by omega))
    clear hb
    go_wp2_with fail
    refine (toRowsO_c m A cap 0 w.heap.size _ HM_11.out hn1 HRW.out).mono ?_
    rintro e w12 ⟨z0, rfl, ho, hb⟩
    have Z12 := Lib.hid (within_of hb).size
    have W12 := Lib.hid (within_on W11.out (within_of hb) W11.out.size (.inr (Nat.le_refl _)))
    have HM_12 := Lib.hid (HM_11.out.within (within_of hb) (by omega))
    have SG_12 := Lib.hid (SG_11.out.within (within_of hb) (by omega))
    have SR_12 := Lib.hid (SR_11.out.within (within_of hb) (by omega))
    have SZ_12 := Lib.hid (SZ_11.out.within (within_of hb) (by omega))
    have SM_12 := Lib.hid (SM_11.out.within (within_of hb) (by omega))
    have ST_12 := Lib.hid (ho.reads)
    clear ho hb
    go_wp2_with fail
    refine (implTr m (some ⟨z0, 0, none⟩) m.length _ _ _ ST_12.out hn1 HRW.out).mono ?_
    rintro e w13 ⟨AH, ch, rfl, ho, hb⟩
    have Z13 := Lib.hid (within_of hb).size
    have W13 := Lib.hid (within_on W12.out (within_of hb) W12.out.size (.inr (Nat.le_refl _)))
    have HM_13 := Lib.hid (HM_12.out.within (within_of hb) (by omega))
    have SG_13 := Lib.hid (SG_12.out.within (within_of hb) (by omega))
    have SR_13 := Lib.hid (SR_12.out.within (within_of hb) (by omega))
    have SZ_13 := Lib.hid (SZ_12.out.within (within_of hb) (by omega))
    have SM_13 := Lib.hid (SM_12.out.within (within_of hb) (by omega))
    have ST_13 := Lib.hid (ST_12.out.within (within_of hb) (by omega))
    have SH_13 := Lib.hid (ho.reads)
    clear ho hb
    go_wp2_with fail
    refine (eqRows_c (trV m) AH AS ch cs _ _ _ _ _ SH_13.out SR_13.out hz HRR.out).mono ?_
    rintro e w14 ⟨rfl, hb⟩
    have Z14 := Lib.hid (within_of hb).size
    have W14 := Lib.hid (within_on W13.out (within_of hb) W13.out.size (.inr (Nat.le_refl _)))
    have HM_14 := Lib.hid (HM_13.out.within (within_of hb) (by omega))
    have SG_14 := Lib.hid (SG_13.out.within (within_of hb) (by omega))
    have SR_14 := Lib.hid (SR_13.out.within (within_of hb) (by omega))
    have SZ_14 := Lib.hid (SZ_13.out.within (within_of hb) (by omega))
    have SM_14 := Lib.hid (SM_13.out.within (within_of hb) (by omega))
    have ST_14 := Lib.hid (ST_13.out.within (within_of hb) (by omega))
    have SH_14 := Lib.hid (SH_13.out.within (within_of hb) (by omega))
    clear hb
    go_wp2_with fail
    refine (heldRows_c (trV m) AG cg _ _ 1 _ SM_14.out.reads hz HRR.out (by omega) htt).mono ?_
    rintro e w15 ⟨rfl, hb⟩
    have Z15 := Lib.hid (within_of hb).size
    have W15 := Lib.hid (within_on W14.out (within_of hb) W14.out.size (.inr (Nat.le_refl _)))
    have HM_15 := Lib.hid (HM_14.out.within (within_of hb) (by omega))
    have SG_15 := Lib.hid (SG_14.out.within (within_of hb) (by omega))
    have SR_15 := Lib.hid (SR_14.out.within (within_of hb) (by omega))
    have SZ_15 := Lib.hid (SZ_14.out.within (within_of hb) (by omega))
    have SM_15 := Lib.hid (SM_14.out.within (within_of hb) (by omega))
    have ST_15 := Lib.hid (ST_14.out.within (within_of hb) (by omega))
    have SH_15 := Lib.hid (SH_14.out.within (within_of hb) (by omega))
    clear hb
    go_wp2_with fail
    go_ret
    exact ⟨rfl, W15.out⟩
  · have W0 := Lib.hid (Below.refl w.heap.size w)
    have h63 : m.length ≤ 9223372036854775807 := by unfold maxLen at hm; omega
    go_enter Try.func6, Try.ntmps6
    go_wp2_with fail
    refine (szRows_no m A cap 0 w.heap.size 1048576 _ (show RowsD _ 0 w.heap.size A m from HM_0.out) HXL.out h63 (by omega) (by omega)).mono ?_
    rintro e w9 ⟨rfl, rfl⟩
    go_wp2_with fail
    go_ret
    exact ⟨rfl, W0.out⟩
end Go.Proofs.Ytcfgljfpkhefmaa
