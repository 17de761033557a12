/- The law FnExactTimesVector returns true at every input. No condition. -/
import Derived.Test.YtcfgljfpkhefmaaTmS
import Derived.Test.YtcfgljfpkhefmaaTmI
import Derived.Test.YtcfgljfpkhefmaaToOwn
import Derived.Test.YtcfgljfpkhefmaaIntArg
namespace Go.Proofs.Ytcfgljfpkhefmaa
open Go.RowKit

theorem tot_totD (rs : List (List Int)) : ∀ n, tot rs n = totD rs n := by
  intro n
  induction n with
  | zero => rfl
  | succ n ih => rw [tot, totD, ih]

set_option maxHeartbeats 4000000 in
set_option maxRecDepth 100000 in
theorem lawTimesVector (A : Option Addr) (cap : Nat) (m : List (List Int)) (Av : Option Addr) (len cv : Nat) (zs : List Int) (w : World) (hm : m.length ≤ maxLen) (hM : RowsD w 0 w.heap.size A m) (hwm : ∀ k, k < m.length → (m.getD k []).length ≤ maxLen ∧ WfZ (m.getD k [])) (hv : IsRow .i64 w Av len cv zs) :
    Calls Try.prog 7 #[.slice A m.length cap, .slice Av len cv] w fun e w' => e = .returned (.bool true) ∧ Below w.heap.size w w' := by
  have HM_0 := Lib.hid (show RowsIn w 0 w.heap.size A m from hM)
  have HXL := Lib.hid (show ∀ k, k < m.length → (m.getD k []).length ≤ 9223372036854775807 from fun k hk => by
    have := (hwm k hk).1
    unfold maxLen at this
    omega)
  obtain ⟨v, rfl, hvi, hvl⟩ : ∃ v : List Int, v.length = len ∧ IntsIn w 0 w.heap.size Av v ∧ len ≤ maxLen := hv.ints
  have HV_0 := Lib.hid hvi
  clear hvi hv
  clear hM hwm
  by_cases hnv : v.length ≤ 1048576
  · by_cases hnT : m.length + totD m m.length ≤ 1048576
    · have W0 := Lib.hid (Below.refl w.heap.size w)
      have hn1 : m.length ≤ 1048576 := by omega
      have HRW := Lib.hid (show ∀ k, k < m.length → (m.getD k []).length ≤ 1048576 from fun k hk => by
        have := totD_le m (j := k + 1) (n := m.length) (by omega)
        have h2 : totD m (k + 1) = totD m k + (m.getD k []).length := rfl
        omega)
      have hz : (tmV m v).length ≤ 1048576 := (Nat.le_trans (tmV_len m v) (by decide))
      have httm : (1 : Int) + (tot m m.length : Int) ≤ 10000000 := by
        have : tot m m.length = totD m m.length := tot_totD m _
        omega
      have hvb : ¬ (1048576 : Int) < (v.length : Int) := by omega
      go_enter Try.func7, Try.ntmps7
      go_wp2_with fail
      refine (szRows_c m A cap 0 w.heap.size 1048576 _ (show RowsD _ 0 w.heap.size A m from HM_0.out) (by omega) (by omega)).mono ?_
      rintro e w9 ⟨rfl, rfl⟩
      have hnn : ¬ (1048576 : Int) - (m.length : Int) - (totD m m.length : Int) < 0 := by omega
      go_wp2_with fail
      refine (toRowsO_c m A cap 0 w.heap.size _ HM_0.out hn1 HRW.out).mono ?_
      rintro e w1 ⟨g1, rfl, ho, hb⟩
      have Z1 := Lib.hid (within_of hb).size
      have W1 := Lib.hid (within_on W0.out (within_of hb) W0.out.size (.inr (Nat.le_refl _)))
      have HM_1 := Lib.hid (HM_0.out.within (within_of hb) (by omega))
      have HV_1 := Lib.hid (HV_0.out.within (within_of hb) (by omega))
      have SG_1 := Lib.hid (ho.reads)
      clear ho hb
      go_wp2_with fail
      refine (toInts_c v Av cv 0 w.heap.size _ HV_1.out hnv).mono ?_
      rintro e w2 ⟨g2, rfl, ho, hb⟩
      have Z2 := Lib.hid (within_of hb).size
      have W2 := Lib.hid (within_on W1.out (within_of hb) W1.out.size (.inr (Nat.le_refl _)))
      have HM_2 := Lib.hid (HM_1.out.within (within_of hb) (by omega))
      have HV_2 := Lib.hid (HV_1.out.within (within_of hb) (by omega))
      have SG_2 := Lib.hid (SG_1.out.within (within_of hb) (by omega))
      have SV_2 := Lib.hid ((own_ints_o ho).reads)
      clear ho hb
      go_wp2_with fail
      refine (specTm m v (some ⟨g1, 0, none⟩) m.length _ _ _ SG_2.out hn1 HRW.out (some ⟨g2, 0, none⟩) v.length _ _ SV_2.out hnv).mono ?_
      rintro e w3 ⟨AS, cs, rfl, hs, hb⟩
      have Z3 := Lib.hid (within_of hb).size
      have W3 := Lib.hid (within_on W2.out (within_of hb) W2.out.size (.inr (Nat.le_refl _)))
      have HM_3 := Lib.hid (HM_2.out.within (within_of hb) (by omega))
      have HV_3 := Lib.hid (HV_2.out.within (within_of hb) (by omega))
      have SG_3 := Lib.hid (SG_2.out.within (within_of hb) (by omega))
      have SV_3 := Lib.hid (SV_2.out.within (within_of hb) (by omega))
      have SR_3 := Lib.hid (hs)
      clear hs hb
      go_wp2_with fail
      refine (toRowsO_c m A cap 0 w.heap.size _ HM_3.out hn1 HRW.out).mono ?_
      rintro e w4 ⟨x0, rfl, ho, hb⟩
      have Z4 := Lib.hid (within_of hb).size
      have W4 := Lib.hid (within_on W3.out (within_of hb) W3.out.size (.inr (Nat.le_refl _)))
      have HM_4 := Lib.hid (HM_3.out.within (within_of hb) (by omega))
      have HV_4 := Lib.hid (HV_3.out.within (within_of hb) (by omega))
      have SG_4 := Lib.hid (SG_3.out.within (within_of hb) (by omega))
      have SV_4 := Lib.hid (SV_3.out.within (within_of hb) (by omega))
      have SR_4 := Lib.hid (SR_3.out.within (within_of hb) (by omega))
      have SX_4 := Lib.hid (ho)
      clear ho hb
      go_wp2_with fail
      refine (toInts_c v Av cv 0 w.heap.size _ HV_4.out hnv).mono ?_
      rintro e w5 ⟨x1, rfl, ho, hb⟩
      have Z5 := Lib.hid (within_of hb).size
      have W5 := Lib.hid (within_on W4.out (within_of hb) W4.out.size (.inr (Nat.le_refl _)))
      have HM_5 := Lib.hid (HM_4.out.within (within_of hb) (by omega))
      have HV_5 := Lib.hid (HV_4.out.within (within_of hb) (by omega))
      have SG_5 := Lib.hid (SG_4.out.within (within_of hb) (by omega))
      have SV_5 := Lib.hid (SV_4.out.within (within_of hb) (by omega))
      have SR_5 := Lib.hid (SR_4.out.within (within_of hb) (by omega))
      have SX_5 := Lib.hid (SX_4.out.within (within_of hb) (by omega))
      have SY_5 := Lib.hid (own_ints_o ho)
      clear ho hb
      go_wp2_with fail
      refine (implTm m v (some ⟨x0, 0, none⟩) m.length _ _ _ SX_5.out.reads hn1 HRW.out (some ⟨x1, 0, none⟩) v.length _ _ SY_5.out.reads hnv).mono ?_
      rintro e w6 ⟨AG, cg, rfl, ho, hb⟩
      have Z6 := Lib.hid (within_of hb).size
      have W6 := Lib.hid (within_on W5.out (within_of hb) W5.out.size (.inr (Nat.le_refl _)))
      have HM_6 := Lib.hid (HM_5.out.within (within_of hb) (by omega))
      have HV_6 := Lib.hid (HV_5.out.within (within_of hb) (by omega))
      have SG_6 := Lib.hid (SG_5.out.within (within_of hb) (by omega))
      have SV_6 := Lib.hid (SV_5.out.within (within_of hb) (by omega))
      have SR_6 := Lib.hid (SR_5.out.within (within_of hb) (by omega))
      have SX_6 := Lib.hid (SX_5.out.within (within_of hb) (by omega))
      have SY_6 := Lib.hid (SY_5.out.within (within_of hb) (by omega))
      have SO_6 := Lib.hid (ho)
      clear ho hb
      go_wp2_with fail
      refine (eqInts_c (tmV m v) AG AS cg cs _ _ _ _ _ SO_6.out.reads SR_6.out hz).mono ?_
      rintro e w7 ⟨rfl, hb⟩
      have Z7 := Lib.hid (within_of hb).size
      have W7 := Lib.hid (within_on W6.out (within_of hb) W6.out.size (.inr (Nat.le_refl _)))
      have HM_7 := Lib.hid (HM_6.out.within (within_of hb) (by omega))
      have HV_7 := Lib.hid (HV_6.out.within (within_of hb) (by omega))
      have SG_7 := Lib.hid (SG_6.out.within (within_of hb) (by omega))
      have SV_7 := Lib.hid (SV_6.out.within (within_of hb) (by omega))
      have SR_7 := Lib.hid (SR_6.out.within (within_of hb) (by omega))
      have SX_7 := Lib.hid (SX_6.out.within (within_of hb) (by omega))
      have SY_7 := Lib.hid (SY_6.out.within (within_of hb) (by omega))
      have SO_7 := Lib.hid (SO_6.out.within (within_of hb) (by omega))
      clear hb
      go_wp2_with fail
      refine (toRowsO_c m A cap 0 w.heap.size _ HM_7.out hn1 HRW.out).mono ?_
      rintro e w8 ⟨y1, rfl, ho, hb⟩
      have Z8 := Lib.hid (within_of hb).size
      have W8 := Lib.hid (within_on W7.out (within_of hb) W7.out.size (.inr (Nat.le_refl _)))
      have HM_8 := Lib.hid (HM_7.out.within (within_of hb) (by omega))
      have HV_8 := Lib.hid (HV_7.out.within (within_of hb) (by omega))
      have SG_8 := Lib.hid (SG_7.out.within (within_of hb) (by omega))
      have SV_8 := Lib.hid (SV_7.out.within (within_of hb) (by omega))
      have SR_8 := Lib.hid (SR_7.out.within (within_of hb) (by omega))
      have SX_8 := Lib.hid (SX_7.out.within (within_of hb) (by omega))
      have SY_8 := Lib.hid (SY_7.out.within (within_of hb) (by omega))
      have SO_8 := Lib.hid (SO_7.out.within (within_of hb) (by omega))
      have SZ_8 := Lib.hid (ho.reads)
      clear ho hb
      go_wp2_with fail
      refine (eqRows_c m (some ⟨x0, 0, none⟩) (some ⟨y1, 0, none⟩) m.length m.length _ _ _ _ _ SX_8.out.reads SZ_8.out hn1 HRW.out).mono ?_
      rintro e w9 ⟨rfl, hb⟩
      have Z9 := Lib.hid (within_of hb).size
      have W9 := Lib.hid (within_on W8.out (within_of hb) W8.out.size (.inr (Nat.le_refl _)))
      have HM_9 := Lib.hid (HM_8.out.within (within_of hb) (by omega))
      have HV_9 := Lib.hid (HV_8.out.within (within_of hb) (by omega))
      have SG_9 := Lib.hid (SG_8.out.within (within_of hb) (by omega))
      have SV_9 := Lib.hid (SV_8.out.within (within_of hb) (by omega))
      have SR_9 := Lib.hid (SR_8.out.within (within_of hb) (by omega))
      have SX_9 := Lib.hid (SX_8.out.within (within_of hb) (by omega))
      have SY_9 := Lib.hid (SY_8.out.within (within_of hb) (by omega))
      have SO_9 := Lib.hid (SO_8.out.within (within_of hb) (by omega))
      have SZ_9 := Lib.hid (SZ_8.out.within (within_of hb) (by omega))
      clear hb
      go_wp2_with fail
      refine (toInts_c v Av cv 0 w.heap.size _ HV_9.out hnv).mono ?_
      rintro e w10 ⟨y2, rfl, ho, hb⟩
      have Z10 := Lib.hid (within_of hb).size
      have W10 := Lib.hid (within_on W9.out (within_of hb) W9.out.size (.inr (Nat.le_refl _)))
      have HM_10 := Lib.hid (HM_9.out.within (within_of hb) (by omega))
      have HV_10 := Lib.hid (HV_9.out.within (within_of hb) (by omega))
      have SG_10 := Lib.hid (SG_9.out.within (within_of hb) (by omega))
      have SV_10 := Lib.hid (SV_9.out.within (within_of hb) (by omega))
      have SR_10 := Lib.hid (SR_9.out.within (within_of hb) (by omega))
      have SX_10 := Lib.hid (SX_9.out.within (within_of hb) (by omega))
      have SY_10 := Lib.hid (SY_9.out.within (within_of hb) (by omega))
      have SO_10 := Lib.hid (SO_9.out.within (within_of hb) (by omega))
      have SZ_10 := Lib.hid (SZ_9.out.within (within_of hb) (by omega))
      have SU_10 := Lib.hid ((own_ints_o ho).reads)
      clear ho hb
      go_wp2_with fail
      refine (eqInts_c v (some ⟨x1, 0, none⟩) (some ⟨y2, 0, none⟩) v.length v.length _ _ _ _ _ SY_10.out.reads SU_10.out hnv).mono ?_
      rintro e w11 ⟨rfl, hb⟩
      have Z11 := Lib.hid (within_of hb).size
      have W11 := Lib.hid (within_on W10.out (within_of hb) W10.out.size (.inr (Nat.le_refl _)))
      have HM_11 := Lib.hid (HM_10.out.within (within_of hb) (by omega))
      have HV_11 := Lib.hid (HV_10.out.within (within_of hb) (by omega))
      have SG_11 := Lib.hid (SG_10.out.within (within_of hb) (by omega))
      have SV_11 := Lib.hid (SV_10.out.within (within_of hb) (by omega))
      have SR_11 := Lib.hid (SR_10.out.within (within_of hb) (by omega))
      have SX_11 := Lib.hid (SX_10.out.within (within_of hb) (by omega))
      have SY_11 := Lib.hid (SY_10.out.within (within_of hb) (by omega))
      have SO_11 := Lib.hid (SO_10.out.within (within_of hb) (by omega))
      have SZ_11 := Lib.hid (SZ_10.out.within (within_of hb) (by omega))
      have SU_11 := Lib.hid (SU_10.out.within (within_of hb) (by omega))
      clear hb
      go_wp2_with fail
      refine (markRows_c m (some ⟨x0, 0, none⟩) m.length w3.heap.size w4.heap.size 1 _ SX_11.out hn1 HRW.out (by omega) httm).mono ?_
      rintro e w12 ⟨rfl, hin, hox⟩
      have Z12 := Lib.hid (hin).size
      have W12 := Lib.hid (within_on W11.out (hin) W11.out.size (by have := W11.out.size; have := Z1.out; have := Z2.out; have := Z3.out; have := Z4.out; have := Z5.out; have := Z6.out; have := Z7.out; have := Z8.out; have := Z9.out; have := Z10.out; have := Z11.out; have := Z12.out; omega))
      have HM_12 := Lib.hid (HM_11.out.within (hin) (by have := Z1.out; have := Z2.out; have := Z3.out; have := Z4.out; have := Z5.out; have := Z6.out; have := Z7.out; have := Z8.out; have := Z9.out; have := Z10.out; have := Z11.out; have := Z12.out; omega))
      have HV_12 := Lib.hid (HV_11.out.within (hin) (by have := Z1.out; have := Z2.out; have := Z3.out; have := Z4.out; have := Z5.out; have := Z6.out; have := Z7.out; have := Z8.out; have := Z9.out; have := Z10.out; have := Z11.out; have := Z12.out; omega))
      have SG_12 := Lib.hid (SG_11.out.within (hin) (by have := Z1.out; have := Z2.out; have := Z3.out; have := Z4.out; have := Z5.out; have := Z6.out; have := Z7.out; have := Z8.out; have := Z9.out; have := Z10.out; have := Z11.out; have := Z12.out; omega))
      have SV_12 := Lib.hid (SV_11.out.within (hin) (by have := Z1.out; have := Z2.out; have := Z3.out; have := Z4.out; have := Z5.out; have := Z6.out; have := Z7.out; have := Z8.out; have := Z9.out; have := Z10.out; have := Z11.out; have := Z12.out; omega))
      have SR_12 := Lib.hid (SR_11.out.within (hin) (by have := Z1.out; have := Z2.out; have := Z3.out; have := Z4.out; have := Z5.out; have := Z6.out; have := Z7.out; have := Z8.out; have := Z9.out; have := Z10.out; have := Z11.out; have := Z12.out; omega))
      have SY_12 := Lib.hid (SY_11.out.within (hin) (by have := Z1.out; have := Z2.out; have := Z3.out; have := Z4.out; have := Z5.out; have := Z6.out; have := Z7.out; have := Z8.out; have := Z9.out; have := Z10.out; have := Z11.out; have := Z12.out; omega))
      have SO_12 := Lib.hid (SO_11.out.within (hin) (by have := Z1.out; have := Z2.out; have := Z3.out; have := Z4.out; have := Z5.out; have := Z6.out; have := Z7.out; have := Z8.out; have := Z9.out; have := Z10.out; have := Z11.out; have := Z12.out; omega))
      have SZ_12 := Lib.hid (SZ_11.out.within (hin) (by have := Z1.out; have := Z2.out; have := Z3.out; have := Z4.out; have := Z5.out; have := Z6.out; have := Z7.out; have := Z8.out; have := Z9.out; have := Z10.out; have := Z11.out; have := Z12.out; omega))
      have SU_12 := Lib.hid (SU_11.out.within (hin) (by have := Z1.out; have := Z2.out; have := Z3.out; have := Z4.out; have := Z5.out; have := Z6.out; have := Z7.out; have := Z8.out; have := Z9.out; have := Z10.out; have := Z11.out; have := Z12.out; omega))
      clear hox hin
      go_wp2_with fail
      refine (markInts_o (some ⟨x1, 0, none⟩) v.length v (1 + (tot m m.length : Int)) w4.heap.size w5.heap.size _ SY_12.out hnv (by omega) (by omega)).mono ?_
      rintro e w13 ⟨rfl, hin, hox⟩
      have Z13 := Lib.hid (hin).size
      have W13 := Lib.hid (within_on W12.out (hin) W12.out.size (by have := W12.out.size; have := Z1.out; have := Z2.out; have := Z3.out; have := Z4.out; have := Z5.out; have := Z6.out; have := Z7.out; have := Z8.out; have := Z9.out; have := Z10.out; have := Z11.out; have := Z12.out; have := Z13.out; omega))
      have HM_13 := Lib.hid (HM_12.out.within (hin) (by have := Z1.out; have := Z2.out; have := Z3.out; have := Z4.out; have := Z5.out; have := Z6.out; have := Z7.out; have := Z8.out; have := Z9.out; have := Z10.out; have := Z11.out; have := Z12.out; have := Z13.out; omega))
      have HV_13 := Lib.hid (HV_12.out.within (hin) (by have := Z1.out; have := Z2.out; have := Z3.out; have := Z4.out; have := Z5.out; have := Z6.out; have := Z7.out; have := Z8.out; have := Z9.out; have := Z10.out; have := Z11.out; have := Z12.out; have := Z13.out; omega))
      have SG_13 := Lib.hid (SG_12.out.within (hin) (by have := Z1.out; have := Z2.out; have := Z3.out; have := Z4.out; have := Z5.out; have := Z6.out; have := Z7.out; have := Z8.out; have := Z9.out; have := Z10.out; have := Z11.out; have := Z12.out; have := Z13.out; omega))
      have SV_13 := Lib.hid (SV_12.out.within (hin) (by have := Z1.out; have := Z2.out; have := Z3.out; have := Z4.out; have := Z5.out; have := Z6.out; have := Z7.out; have := Z8.out; have := Z9.out; have := Z10.out; have := Z11.out; have := Z12.out; have := Z13.out; omega))
      have SR_13 := Lib.hid (SR_12.out.within (hin) (by have := Z1.out; have := Z2.out; have := Z3.out; have := Z4.out; have := Z5.out; have := Z6.out; have := Z7.out; have := Z8.out; have := Z9.out; have := Z10.out; have := Z11.out; have := Z12.out; have := Z13.out; omega))
      have SO_13 := Lib.hid (SO_12.out.within (hin) (by have := Z1.out; have := Z2.out; have := Z3.out; have := Z4.out; have := Z5.out; have := Z6.out; have := Z7.out; have := Z8.out; have := Z9.out; have := Z10.out; have := Z11.out; have := Z12.out; have := Z13.out; omega))
      have SZ_13 := Lib.hid (SZ_12.out.within (hin) (by have := Z1.out; have := Z2.out; have := Z3.out; have := Z4.out; have := Z5.out; have := Z6.out; have := Z7.out; have := Z8.out; have := Z9.out; have := Z10.out; have := Z11.out; have := Z12.out; have := Z13.out; omega))
      have SU_13 := Lib.hid (SU_12.out.within (hin) (by have := Z1.out; have := Z2.out; have := Z3.out; have := Z4.out; have := Z5.out; have := Z6.out; have := Z7.out; have := Z8.out; have := Z9.out; have := Z10.out; have := Z11.out; have := Z12.out; have := Z13.out; omega))
      clear hox hin
      have hk1 : ¬ (1 : Int) + (tot m m.length : Int) + (v.length : Int) < 0 := by omega
      go_wp2_with fail
      refine (eqInts_c (tmV m v) AG AS cg cs _ _ _ _ _ SO_13.out.reads SR_13.out hz).mono ?_
      rintro e w14 ⟨rfl, hb⟩
      have Z14 := Lib.hid (within_of hb).size
      have W14 := Lib.hid (within_on W13.out (within_of hb) W13.out.size (.inr (Nat.le_refl _)))
      have HM_14 := Lib.hid (HM_13.out.within (within_of hb) (by omega))
      have HV_14 := Lib.hid (HV_13.out.within (within_of hb) (by omega))
      have SG_14 := Lib.hid (SG_13.out.within (within_of hb) (by omega))
      have SV_14 := Lib.hid (SV_13.out.within (within_of hb) (by omega))
      have SR_14 := Lib.hid (SR_13.out.within (within_of hb) (by omega))
      have SO_14 := Lib.hid (SO_13.out.within (within_of hb) (by omega))
      have SZ_14 := Lib.hid (SZ_13.out.within (within_of hb) (by omega))
      have SU_14 := Lib.hid (SU_13.out.within (within_of hb) (by omega))
      clear hb
      go_wp2_with fail
      refine (markInts_o AG cg (tmV m v) 1 w5.heap.size w6.heap.size _ SO_14.out hz (by omega) (by omega)).mono ?_
      rintro e w15 ⟨rfl, hin, hog⟩
      have Z15 := Lib.hid (hin).size
      have W15 := Lib.hid (within_on W14.out (hin) W14.out.size (by have := W14.out.size; have := Z1.out; have := Z2.out; have := Z3.out; have := Z4.out; have := Z5.out; have := Z6.out; have := Z7.out; have := Z8.out; have := Z9.out; have := Z10.out; have := Z11.out; have := Z12.out; have := Z13.out; have := Z14.out; have := Z15.out; omega))
      have HM_15 := Lib.hid (HM_14.out.within (hin) (by have := Z1.out; have := Z2.out; have := Z3.out; have := Z4.out; have := Z5.out; have := Z6.out; have := Z7.out; have := Z8.out; have := Z9.out; have := Z10.out; have := Z11.out; have := Z12.out; have := Z13.out; have := Z14.out; have := Z15.out; omega))
      have HV_15 := Lib.hid (HV_14.out.within (hin) (by have := Z1.out; have := Z2.out; have := Z3.out; have := Z4.out; have := Z5.out; have := Z6.out; have := Z7.out; have := Z8.out; have := Z9.out; have := Z10.out; have := Z11.out; have := Z12.out; have := Z13.out; have := Z14.out; have := Z15.out; omega))
      have SG_15 := Lib.hid (SG_14.out.within (hin) (by have := Z1.out; have := Z2.out; have := Z3.out; have := Z4.out; have := Z5.out; have := Z6.out; have := Z7.out; have := Z8.out; have := Z9.out; have := Z10.out; have := Z11.out; have := Z12.out; have := Z13.out; have := Z14.out; have := Z15.out; omega))
      have SV_15 := Lib.hid (SV_14.out.within (hin) (by have := Z1.out; have := Z2.out; have := Z3.out; have := Z4.out; have := Z5.out; have := Z6.out; have := Z7.out; have := Z8.out; have := Z9.out; have := Z10.out; have := Z11.out; have := Z12.out; have := Z13.out; have := Z14.out; have := Z15.out; omega))
      have SR_15 := Lib.hid (SR_14.out.within (hin) (by have := Z1.out; have := Z2.out; have := Z3.out; have := Z4.out; have := Z5.out; have := Z6.out; have := Z7.out; have := Z8.out; have := Z9.out; have := Z10.out; have := Z11.out; have := Z12.out; have := Z13.out; have := Z14.out; have := Z15.out; omega))
      have SZ_15 := Lib.hid (SZ_14.out.within (hin) (by have := Z1.out; have := Z2.out; have := Z3.out; have := Z4.out; have := Z5.out; have := Z6.out; have := Z7.out; have := Z8.out; have := Z9.out; have := Z10.out; have := Z11.out; have := Z12.out; have := Z13.out; have := Z14.out; have := Z15.out; omega))
      have SU_15 := Lib.hid (SU_14.out.within (hin) (by have := Z1.out; have := Z2.out; have := Z3.out; have := Z4.out; have := Z5.out; have := Z6.out; have := Z7.out; have := Z8.out; have := Z9.out; have := Z10.out; have := Z11.out; have := Z12.out; have := Z13.out; have := Z14.out; have := Z15.out; omega))
      have SM_15 := Lib.hid (hog.reads)
      clear hog hin
      have hk2 : ¬ (1 : Int) + ((tmV m v).length : Int) < 0 := by omega
      go_wp2_with fail
      refine (heldInts_c (tmV m v).length AG cg 1 _ _ _ SM_15.out hz (by omega) (by omega)).mono ?_
      rintro e w16 ⟨rfl, hb⟩
      have Z16 := Lib.hid (within_of hb).size
      have W16 := Lib.hid (within_on W15.out (within_of hb) W15.out.size (.inr (Nat.le_refl _)))
      have HM_16 := Lib.hid (HM_15.out.within (within_of hb) (by omega))
      have HV_16 := Lib.hid (HV_15.out.within (within_of hb) (by omega))
      have SG_16 := Lib.hid (SG_15.out.within (within_of hb) (by omega))
      have SV_16 := Lib.hid (SV_15.out.within (within_of hb) (by omega))
      have SR_16 := Lib.hid (SR_15.out.within (within_of hb) (by omega))
      have SZ_16 := Lib.hid (SZ_15.out.within (within_of hb) (by omega))
      have SU_16 := Lib.hid (SU_15.out.within (within_of hb) (by omega))
      have SM_16 := Lib.hid (SM_15.out.within (within_of hb) (by omega))
      clear hb
      go_wp2_with fail
      refine (toRowsO_c m A cap 0 w.heap.size _ HM_16.out hn1 HRW.out).mono ?_
      rintro e w17 ⟨z0, rfl, ho, hb⟩
      have Z17 := Lib.hid (within_of hb).size
      have W17 := Lib.hid (within_on W16.out (within_of hb) W16.out.size (.inr (Nat.le_refl _)))
      have HM_17 := Lib.hid (HM_16.out.within (within_of hb) (by omega))
      have HV_17 := Lib.hid (HV_16.out.within (within_of hb) (by omega))
      have SG_17 := Lib.hid (SG_16.out.within (within_of hb) (by omega))
      have SV_17 := Lib.hid (SV_16.out.within (within_of hb) (by omega))
      have SR_17 := Lib.hid (SR_16.out.within (within_of hb) (by omega))
      have SZ_17 := Lib.hid (SZ_16.out.within (within_of hb) (by omega))
      have SU_17 := Lib.hid (SU_16.out.within (within_of hb) (by omega))
      have SM_17 := Lib.hid (SM_16.out.within (within_of hb) (by omega))
      have ST_17 := Lib.hid (ho.reads)
      clear ho hb
      go_wp2_with fail
      refine (toInts_c v Av cv 0 w.heap.size _ HV_17.out hnv).mono ?_
      rintro e w18 ⟨z1, rfl, ho, hb⟩
      have Z18 := Lib.hid (within_of hb).size
      have W18 := Lib.hid (within_on W17.out (within_of hb) W17.out.size (.inr (Nat.le_refl _)))
      have HM_18 := Lib.hid (HM_17.out.within (within_of hb) (by omega))
      have HV_18 := Lib.hid (HV_17.out.within (within_of hb) (by omega))
      have SG_18 := Lib.hid (SG_17.out.within (within_of hb) (by omega))
      have SV_18 := Lib.hid (SV_17.out.within (within_of hb) (by omega))
      have SR_18 := Lib.hid (SR_17.out.within (within_of hb) (by omega))
      have SZ_18 := Lib.hid (SZ_17.out.within (within_of hb) (by omega))
      have SU_18 := Lib.hid (SU_17.out.within (within_of hb) (by omega))
      have SM_18 := Lib.hid (SM_17.out.within (within_of hb) (by omega))
      have ST_18 := Lib.hid (ST_17.out.within (within_of hb) (by omega))
      have SQ_18 := Lib.hid ((own_ints_o ho).reads)
      clear ho hb
      go_wp2_with fail
      refine (implTm m v (some ⟨z0, 0, none⟩) m.length _ _ _ ST_18.out hn1 HRW.out (some ⟨z1, 0, none⟩) v.length _ _ SQ_18.out hnv).mono ?_
      rintro e w19 ⟨AH, ch, rfl, ho, hb⟩
      have Z19 := Lib.hid (within_of hb).size
      have W19 := Lib.hid (within_on W18.out (within_of hb) W18.out.size (.inr (Nat.le_refl _)))
      have HM_19 := Lib.hid (HM_18.out.within (within_of hb) (by omega))
      have HV_19 := Lib.hid (HV_18.out.within (within_of hb) (by omega))
      have SG_19 := Lib.hid (SG_18.out.within (within_of hb) (by omega))
      have SV_19 := Lib.hid (SV_18.out.within (within_of hb) (by omega))
      have SR_19 := Lib.hid (SR_18.out.within (within_of hb) (by omega))
      have SZ_19 := Lib.hid (SZ_18.out.within (within_of hb) (by omega))
      have SU_19 := Lib.hid (SU_18.out.within (within_of hb) (by omega))
      have SM_19 := Lib.hid (SM_18.out.within (within_of hb) (by omega))
      have ST_19 := Lib.hid (ST_18.out.within (within_of hb) (by omega))
      have SQ_19 := Lib.hid (SQ_18.out.within (within_of hb) (by omega))
      have SH_19 := Lib.hid (ho.reads)
      clear ho hb
      go_wp2_with fail
      refine (eqInts_c (tmV m v) AH AS ch cs _ _ _ _ _ SH_19.out SR_19.out hz).mono ?_
      rintro e w20 ⟨rfl, hb⟩
      have Z20 := Lib.hid (within_of hb).size
      have W20 := Lib.hid (within_on W19.out (within_of hb) W19.out.size (.inr (Nat.le_refl _)))
      have HM_20 := Lib.hid (HM_19.out.within (within_of hb) (by omega))
      have HV_20 := Lib.hid (HV_19.out.within (within_of hb) (by omega))
      have SG_20 := Lib.hid (SG_19.out.within (within_of hb) (by omega))
      have SV_20 := Lib.hid (SV_19.out.within (within_of hb) (by omega))
      have SR_20 := Lib.hid (SR_19.out.within (within_of hb) (by omega))
      have SZ_20 := Lib.hid (SZ_19.out.within (within_of hb) (by omega))
      have SU_20 := Lib.hid (SU_19.out.within (within_of hb) (by omega))
      have SM_20 := Lib.hid (SM_19.out.within (within_of hb) (by omega))
      have ST_20 := Lib.hid (ST_19.out.within (within_of hb) (by omega))
      have SQ_20 := Lib.hid (SQ_19.out.within (within_of hb) (by omega))
      have SH_20 := Lib.hid (SH_19.out.within (within_of hb) (by omega))
      clear hb
      go_wp2_with fail
      refine (heldInts_c (tmV m v).length AG cg 1 _ _ _ SM_20.out hz (by omega) (by omega)).mono ?_
      rintro e w21 ⟨rfl, hb⟩
      have Z21 := Lib.hid (within_of hb).size
      have W21 := Lib.hid (within_on W20.out (within_of hb) W20.out.size (.inr (Nat.le_refl _)))
      have HM_21 := Lib.hid (HM_20.out.within (within_of hb) (by omega))
      have HV_21 := Lib.hid (HV_20.out.within (within_of hb) (by omega))
      have SG_21 := Lib.hid (SG_20.out.within (within_of hb) (by omega))
      have SV_21 := Lib.hid (SV_20.out.within (within_of hb) (by omega))
      have SR_21 := Lib.hid (SR_20.out.within (within_of hb) (by omega))
      have SZ_21 := Lib.hid (SZ_20.out.within (within_of hb) (by omega))
      have SU_21 := Lib.hid (SU_20.out.within (within_of hb) (by omega))
      have SM_21 := Lib.hid (SM_20.out.within (within_of hb) (by omega))
      have ST_21 := Lib.hid (ST_20.out.within (within_of hb) (by omega))
      have SQ_21 := Lib.hid (SQ_20.out.within (within_of hb) (by omega))
      have SH_21 := Lib.hid (SH_20.out.within (within_of hb) (by omega))
      clear hb
      go_wp2_with fail
      go_ret
      exact ⟨rfl, W21.out⟩
    · have W0 := Lib.hid (Below.refl w.heap.size w)
      have hvb : ¬ (1048576 : Int) < (v.length : Int) := by omega
      have h63 : m.length ≤ 9223372036854775807 := by unfold maxLen at hm; omega
      go_enter Try.func7, Try.ntmps7
      go_wp2_with fail
      refine (szRows_no m A cap 0 w.heap.size 1048576 _ (show RowsD _ 0 w.heap.size A m from HM_0.out) HXL.out h63 (by omega) (by omega)).mono ?_
      rintro e w9 ⟨rfl, rfl⟩
      go_wp2_with fail
      go_ret
      exact ⟨rfl, W0.out⟩
  · have hvb : (1048576 : Int) < (v.length : Int) := by omega
    go_enter Try.func7, Try.ntmps7
    go_wp2_with fail
    go_ret
    exact ⟨rfl, Below.refl _ _⟩
end Go.Proofs.Ytcfgljfpkhefmaa
