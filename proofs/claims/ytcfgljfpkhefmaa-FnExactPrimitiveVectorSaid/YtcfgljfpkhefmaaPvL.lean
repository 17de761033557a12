/- The law FnExactPrimitiveVector returns true at every input. No condition. -/
import Derived.Test.YtcfgljfpkhefmaaPvS
import Derived.Test.YtcfgljfpkhefmaaPvI
import Derived.Test.YtcfgljfpkhefmaaIntArg
import Derived.Test.YtcfgljfpkhefmaaState
namespace Go.Proofs.Ytcfgljfpkhefmaa
open Go.RowKit

set_option maxHeartbeats 4000000 in
set_option maxRecDepth 100000 in
theorem lawPrimitiveVector (Av : Option Addr) (len cv : Nat) (zs : List Int) (w : World) (hv : IsRow .i64 w Av len cv zs) :
    Calls Try.prog 8 #[.slice Av len cv] w fun e w' => e = .returned (.bool true) ∧ Below w.heap.size w w' := by
  obtain ⟨v, rfl, hvi, hvl⟩ : ∃ v : List Int, v.length = len ∧ IntsIn w 0 w.heap.size Av v ∧ len ≤ maxLen := hv.ints
  have HV_0 := Lib.hid hvi
  clear hvi hv
  by_cases hnv : v.length ≤ 1048576
  · have W0 := Lib.hid (Below.refl w.heap.size w)
    have hz : (pV v).length ≤ 1048576 := (by rw [pV_len]; exact hnv)
    have hvb : ¬ (1048576 : Int) < (v.length : Int) := by omega
    go_enter Try.func8, Try.ntmps8
    go_wp2_with fail
    refine (toInts_c v Av cv 0 w.heap.size _ HV_0.out hnv).mono ?_
    rintro e w1 ⟨g2, rfl, ho, hb⟩
    have Z1 := Lib.hid (within_of hb).size
    have W1 := Lib.hid (within_on W0.out (within_of hb) W0.out.size (.inr (Nat.le_refl _)))
    have HV_1 := Lib.hid (HV_0.out.within (within_of hb) (by omega))
    have SV_1 := Lib.hid ((own_ints_v ho).reads)
    clear ho hb
    go_wp2_with fail
    refine (specPv v (some ⟨g2, 0, none⟩) v.length _ _ _ SV_1.out hnv).mono ?_
    rintro e w2 ⟨AS, cs, rfl, hs, hb⟩
    have Z2 := Lib.hid (within_of hb).size
    have W2 := Lib.hid (within_on W1.out (within_of hb) W1.out.size (.inr (Nat.le_refl _)))
    have HV_2 := Lib.hid (HV_1.out.within (within_of hb) (by omega))
    have SV_2 := Lib.hid (SV_1.out.within (within_of hb) (by omega))
    have SR_2 := Lib.hid (hs.reads)
    clear hs hb
    go_wp2_with fail
    refine (toInts_c v Av cv 0 w.heap.size _ HV_2.out hnv).mono ?_
    rintro e w3 ⟨x1, rfl, ho, hb⟩
    have Z3 := Lib.hid (within_of hb).size
    have W3 := Lib.hid (within_on W2.out (within_of hb) W2.out.size (.inr (Nat.le_refl _)))
    have HV_3 := Lib.hid (HV_2.out.within (within_of hb) (by omega))
    have SV_3 := Lib.hid (SV_2.out.within (within_of hb) (by omega))
    have SR_3 := Lib.hid (SR_2.out.within (within_of hb) (by omega))
    have SY_3 := Lib.hid (own_ints_v ho)
    clear ho hb
    go_wp2_with fail
    refine (implPv v (some ⟨x1, 0, none⟩) v.length _ _ _ SY_3.out.reads hnv).mono ?_
    rintro e w4 ⟨AG, cg, rfl, ho, hb⟩
    have Z4 := Lib.hid (within_of hb).size
    have W4 := Lib.hid (within_on W3.out (within_of hb) W3.out.size (.inr (Nat.le_refl _)))
    have HV_4 := Lib.hid (HV_3.out.within (within_of hb) (by omega))
    have SV_4 := Lib.hid (SV_3.out.within (within_of hb) (by omega))
    have SR_4 := Lib.hid (SR_3.out.within (within_of hb) (by omega))
    have SY_4 := Lib.hid (SY_3.out.within (within_of hb) (by omega))
    have SO_4 := Lib.hid (ho)
    clear ho hb
    go_wp2_with fail
    refine (eqInts_c (pV v) AG AS cg cs _ _ _ _ _ SO_4.out.reads SR_4.out hz).mono ?_
    rintro e w5 ⟨rfl, hb⟩
    have Z5 := Lib.hid (within_of hb).size
    have W5 := Lib.hid (within_on W4.out (within_of hb) W4.out.size (.inr (Nat.le_refl _)))
    have HV_5 := Lib.hid (HV_4.out.within (within_of hb) (by omega))
    have SV_5 := Lib.hid (SV_4.out.within (within_of hb) (by omega))
    have SR_5 := Lib.hid (SR_4.out.within (within_of hb) (by omega))
    have SY_5 := Lib.hid (SY_4.out.within (within_of hb) (by omega))
    have SO_5 := Lib.hid (SO_4.out.within (within_of hb) (by omega))
    clear hb
    go_wp2_with fail
    refine (toInts_c v Av cv 0 w.heap.size _ HV_5.out hnv).mono ?_
    rintro e w6 ⟨y2, rfl, ho, hb⟩
    have Z6 := Lib.hid (within_of hb).size
    have W6 := Lib.hid (within_on W5.out (within_of hb) W5.out.size (.inr (Nat.le_refl _)))
    have HV_6 := Lib.hid (HV_5.out.within (within_of hb) (by omega))
    have SV_6 := Lib.hid (SV_5.out.within (within_of hb) (by omega))
    have SR_6 := Lib.hid (SR_5.out.within (within_of hb) (by omega))
    have SY_6 := Lib.hid (SY_5.out.within (within_of hb) (by omega))
    have SO_6 := Lib.hid (SO_5.out.within (within_of hb) (by omega))
    have SU_6 := Lib.hid ((own_ints_v ho).reads)
    clear ho hb
    go_wp2_with fail
    refine (eqInts_c v (some ⟨x1, 0, none⟩) (some ⟨y2, 0, none⟩) v.length v.length _ _ _ _ _ SY_6.out.reads SU_6.out hnv).mono ?_
    rintro e w7 ⟨rfl, hb⟩
    have Z7 := Lib.hid (within_of hb).size
    have W7 := Lib.hid (within_on W6.out (within_of hb) W6.out.size (.inr (Nat.le_refl _)))
    have HV_7 := Lib.hid (HV_6.out.within (within_of hb) (by omega))
    have SV_7 := Lib.hid (SV_6.out.within (within_of hb) (by omega))
    have SR_7 := Lib.hid (SR_6.out.within (within_of hb) (by omega))
    have SY_7 := Lib.hid (SY_6.out.within (within_of hb) (by omega))
    have SO_7 := Lib.hid (SO_6.out.within (within_of hb) (by omega))
    have SU_7 := Lib.hid (SU_6.out.within (within_of hb) (by omega))
    clear hb
    go_wp2_with fail
    refine (markInts_o (some ⟨x1, 0, none⟩) v.length v 1 w2.heap.size w3.heap.size _ SY_7.out hnv (by omega) (by omega)).mono ?_
    rintro e w8 ⟨rfl, hin, hox⟩
    have Z8 := Lib.hid (hin).size
    have W8 := Lib.hid (within_on W7.out (hin) W7.out.size (by have := W7.out.size; have := Z1.out; have := Z2.out; have := Z3.out; have := Z4.out; have := Z5.out; have := Z6.out; have := Z7.out; have := Z8.out; omega))
    have HV_8 := Lib.hid (HV_7.out.within (hin) (by have := Z1.out; have := Z2.out; have := Z3.out; have := Z4.out; have := Z5.out; have := Z6.out; have := Z7.out; have := Z8.out; omega))
    have SV_8 := Lib.hid (SV_7.out.within (hin) (by have := Z1.out; have := Z2.out; have := Z3.out; have := Z4.out; have := Z5.out; have := Z6.out; have := Z7.out; have := Z8.out; omega))
    have SR_8 := Lib.hid (SR_7.out.within (hin) (by have := Z1.out; have := Z2.out; have := Z3.out; have := Z4.out; have := Z5.out; have := Z6.out; have := Z7.out; have := Z8.out; omega))
    have SO_8 := Lib.hid (SO_7.out.within (hin) (by have := Z1.out; have := Z2.out; have := Z3.out; have := Z4.out; have := Z5.out; have := Z6.out; have := Z7.out; have := Z8.out; omega))
    have SU_8 := Lib.hid (SU_7.out.within (hin) (by have := Z1.out; have := Z2.out; have := Z3.out; have := Z4.out; have := Z5.out; have := Z6.out; have := Z7.out; have := Z8.out; omega))
    clear hox hin
    have hk1 : ¬ (1 : Int) + (v.length : Int) < 0 := by omega
    go_wp2_with fail
    refine (eqInts_c (pV v) AG AS cg cs _ _ _ _ _ SO_8.out.reads SR_8.out hz).mono ?_
    rintro e w9 ⟨rfl, hb⟩
    have Z9 := Lib.hid (within_of hb).size
    have W9 := Lib.hid (within_on W8.out (within_of hb) W8.out.size (.inr (Nat.le_refl _)))
    have HV_9 := Lib.hid (HV_8.out.within (within_of hb) (by omega))
    have SV_9 := Lib.hid (SV_8.out.within (within_of hb) (by omega))
    have SR_9 := Lib.hid (SR_8.out.within (within_of hb) (by omega))
    have SO_9 := Lib.hid (SO_8.out.within (within_of hb) (by omega))
    have SU_9 := Lib.hid (SU_8.out.within (within_of hb) (by omega))
    clear hb
    go_wp2_with fail
    refine (markInts_o AG cg (pV v) 1 w3.heap.size w4.heap.size _ SO_9.out hz (by omega) (by omega)).mono ?_
    rintro e w10 ⟨rfl, hin, hog⟩
    have Z10 := Lib.hid (hin).size
    have W10 := Lib.hid (within_on W9.out (hin) W9.out.size (by have := W9.out.size; have := Z1.out; have := Z2.out; have := Z3.out; have := Z4.out; have := Z5.out; have := Z6.out; have := Z7.out; have := Z8.out; have := Z9.out; have := Z10.out; omega))
    have HV_10 := Lib.hid (HV_9.out.within (hin) (by have := Z1.out; have := Z2.out; have := Z3.out; have := Z4.out; have := Z5.out; have := Z6.out; have := Z7.out; have := Z8.out; have := Z9.out; have := Z10.out; omega))
    have SV_10 := Lib.hid (SV_9.out.within (hin) (by have := Z1.out; have := Z2.out; have := Z3.out; have := Z4.out; have := Z5.out; have := Z6.out; have := Z7.out; have := Z8.out; have := Z9.out; have := Z10.out; omega))
    have SR_10 := Lib.hid (SR_9.out.within (hin) (by have := Z1.out; have := Z2.out; have := Z3.out; have := Z4.out; have := Z5.out; have := Z6.out; have := Z7.out; have := Z8.out; have := Z9.out; have := Z10.out; omega))
    have SU_10 := Lib.hid (SU_9.out.within (hin) (by have := Z1.out; have := Z2.out; have := Z3.out; have := Z4.out; have := Z5.out; have := Z6.out; have := Z7.out; have := Z8.out; have := Z9.out; have := Z10.out; omega))
    have SM_10 := Lib.hid (hog.reads)
    clear hog hin
    have hk2 : ¬ (1 : Int) + ((pV v).length : Int) < 0 := by omega
    go_wp2_with fail
    refine (heldInts_c (pV v).length AG cg 1 _ _ _ SM_10.out hz (by omega) (by omega)).mono ?_
    rintro e w11 ⟨rfl, hb⟩
    have Z11 := Lib.hid (within_of hb).size
    have W11 := Lib.hid (within_on W10.out (within_of hb) W10.out.size (.inr (Nat.le_refl _)))
    have HV_11 := Lib.hid (HV_10.out.within (within_of hb) (by omega))
    have SV_11 := Lib.hid (SV_10.out.within (within_of hb) (by omega))
    have SR_11 := Lib.hid (SR_10.out.within (within_of hb) (by omega))
    have SU_11 := Lib.hid (SU_10.out.within (within_of hb) (by omega))
    have SM_11 := Lib.hid (SM_10.out.within (within_of hb) (by omega))
    clear hb
    go_wp2_with fail
    refine (toInts_c v Av cv 0 w.heap.size _ HV_11.out hnv).mono ?_
    rintro e w12 ⟨z1, rfl, ho, hb⟩
    have Z12 := Lib.hid (within_of hb).size
    have W12 := Lib.hid (within_on W11.out (within_of hb) W11.out.size (.inr (Nat.le_refl _)))
    have HV_12 := Lib.hid (HV_11.out.within (within_of hb) (by omega))
    have SV_12 := Lib.hid (SV_11.out.within (within_of hb) (by omega))
    have SR_12 := Lib.hid (SR_11.out.within (within_of hb) (by omega))
    have SU_12 := Lib.hid (SU_11.out.within (within_of hb) (by omega))
    have SM_12 := Lib.hid (SM_11.out.within (within_of hb) (by omega))
    have SQ_12 := Lib.hid ((own_ints_v ho).reads)
    clear ho hb
    go_wp2_with fail
    refine (implPv v (some ⟨z1, 0, none⟩) v.length _ _ _ SQ_12.out hnv).mono ?_
    rintro e w13 ⟨AH, ch, rfl, ho, hb⟩
    have Z13 := Lib.hid (within_of hb).size
    have W13 := Lib.hid (within_on W12.out (within_of hb) W12.out.size (.inr (Nat.le_refl _)))
    have HV_13 := Lib.hid (HV_12.out.within (within_of hb) (by omega))
    have SV_13 := Lib.hid (SV_12.out.within (within_of hb) (by omega))
    have SR_13 := Lib.hid (SR_12.out.within (within_of hb) (by omega))
    have SU_13 := Lib.hid (SU_12.out.within (within_of hb) (by omega))
    have SM_13 := Lib.hid (SM_12.out.within (within_of hb) (by omega))
    have SQ_13 := Lib.hid (SQ_12.out.within (within_of hb) (by omega))
    have SH_13 := Lib.hid (ho.reads)
    clear ho hb
    go_wp2_with fail
    refine (eqInts_c (pV v) AH AS ch cs _ _ _ _ _ SH_13.out SR_13.out hz).mono ?_
    rintro e w14 ⟨rfl, hb⟩
    have Z14 := Lib.hid (within_of hb).size
    have W14 := Lib.hid (within_on W13.out (within_of hb) W13.out.size (.inr (Nat.le_refl _)))
    have HV_14 := Lib.hid (HV_13.out.within (within_of hb) (by omega))
    have SV_14 := Lib.hid (SV_13.out.within (within_of hb) (by omega))
    have SR_14 := Lib.hid (SR_13.out.within (within_of hb) (by omega))
    have SU_14 := Lib.hid (SU_13.out.within (within_of hb) (by omega))
    have SM_14 := Lib.hid (SM_13.out.within (within_of hb) (by omega))
    have SQ_14 := Lib.hid (SQ_13.out.within (within_of hb) (by omega))
    have SH_14 := Lib.hid (SH_13.out.within (within_of hb) (by omega))
    clear hb
    go_wp2_with fail
    refine (heldInts_c (pV v).length AG cg 1 _ _ _ SM_14.out hz (by omega) (by omega)).mono ?_
    rintro e w15 ⟨rfl, hb⟩
    have Z15 := Lib.hid (within_of hb).size
    have W15 := Lib.hid (within_on W14.out (within_of hb) W14.out.size (.inr (Nat.le_refl _)))
    have HV_15 := Lib.hid (HV_14.out.within (within_of hb) (by omega))
    have SV_15 := Lib.hid (SV_14.out.within (within_of hb) (by omega))
    have SR_15 := Lib.hid (SR_14.out.within (within_of hb) (by omega))
    have SU_15 := Lib.hid (SU_14.out.within (within_of hb) (by omega))
    have SM_15 := Lib.hid (SM_14.out.within (within_of hb) (by omega))
    have SQ_15 := Lib.hid (SQ_14.out.within (within_of hb) (by omega))
    have SH_15 := Lib.hid (SH_14.out.within (within_of hb) (by omega))
    clear hb
    go_wp2_with fail
    go_ret
    exact ⟨rfl, W15.out⟩
  · have hvb : (1048576 : Int) < (v.length : Int) := by omega
    go_enter Try.func8, Try.ntmps8
    go_wp2_with fail
    go_ret
    exact ⟨rfl, Below.refl _ _⟩
end Go.Proofs.Ytcfgljfpkhefmaa
