/- That the law on AreSameSteps returns true. No condition. -/
import Derived.Test.YtggibhhdnlifcaaToStep
import Derived.Test.YtggibhhdnlifcaaSameT
import Derived.Test.YtggibhhdnlifcaaBox
namespace Go.Proofs.Ytggibhhdnlifcaa
open Go.RowKit

set_option maxHeartbeats 2000000 in
set_option maxRecDepth 100000 in
theorem lawAreSameSteps (A : Option Addr) (cap : Nat) (l : List Stp) (B : Option Addr) (cbp : Nat) (m : List Stp) (w : World) (hl : l.length ≤ maxLen) (hb : StepsAt w w.heap.size A l) (_hw : WfS l) (hm : m.length ≤ maxLen) (hc : StepsAt w w.heap.size B m) (_hv : WfS m) :
    Calls Try.prog 8 #[.slice A l.length cap, .slice B m.length cbp] w fun e w' => e = .returned (.bool true) ∧ Below w.heap.size w w' := by
  have HB_0 := Lib.hid hb
  have HC_0 := Lib.hid hc
  have W0 := Lib.hid (Below.refl w.heap.size w)
  clear hb hc
  by_cases hn : l.length ≤ 1048576
  · have hnn : ¬ (1048576 : Int) - (l.length : Int) < 0 := by omega
    by_cases hk : m.length ≤ 1048576 - l.length
    · have hnk : ¬ (1048576 : Int) - (l.length : Int) - (m.length : Int) < 0 := by omega
      have hm' : m.length ≤ 1048576 := by omega
      go_enter Try.func8, Try.ntmps8
      go_wp2_with fail
      refine (szSteps_c A l.length cap 1048576 _ (by omega) (by omega)).mono ?_
      rintro e w0 ⟨rfl, rfl⟩
      go_wp2_with fail
      refine (szSteps_c B m.length cbp (1048576 - (l.length : Int)) _ (by omega) (by omega)).mono ?_
      rintro e w0 ⟨rfl, rfl⟩
      go_wp2_with fail
      refine (toSteps_c l A cap _ HB_0.out hn).mono ?_
      rintro e w1 ⟨g0, rfl, ho, hb⟩
      have W1 := Lib.hid (below_on W0.out hb W0.out.size)
      have HB_1 := Lib.hid (HB_0.out.on hb)
      have HC_1 := Lib.hid (HC_0.out.on hb)
      have SG_1 := Lib.hid (own_steps ho)
      clear ho hb
      go_wp2_with fail
      refine (toSteps_c m B cbp _ HC_1.out hm').mono ?_
      rintro e w2 ⟨g1, rfl, ho, hb⟩
      have W2 := Lib.hid (below_on W1.out hb W1.out.size)
      have HB_2 := Lib.hid (HB_1.out.on hb)
      have HC_2 := Lib.hid (HC_1.out.on hb)
      have SG_2 := Lib.hid (SG_1.out.on hb)
      have SH_2 := Lib.hid (own_steps ho)
      clear ho hb
      go_wp2_with fail
      refine (specSameT l m _ _ _ _ _ SG_2.out SH_2.out hn).mono ?_
      rintro e w3 ⟨rfl, hb⟩
      have W3 := Lib.hid (below_on W2.out hb W2.out.size)
      have HB_3 := Lib.hid (HB_2.out.on hb)
      have HC_3 := Lib.hid (HC_2.out.on hb)
      have SG_3 := Lib.hid (SG_2.out.on hb)
      have SH_3 := Lib.hid (SH_2.out.on hb)
      clear hb
      go_wp2_with fail
      refine (toSteps_c l A cap _ HB_3.out hn).mono ?_
      rintro e w4 ⟨x0, rfl, ho, hb⟩
      have W4 := Lib.hid (below_on W3.out hb W3.out.size)
      have HB_4 := Lib.hid (HB_3.out.on hb)
      have HC_4 := Lib.hid (HC_3.out.on hb)
      have SG_4 := Lib.hid (SG_3.out.on hb)
      have SH_4 := Lib.hid (SH_3.out.on hb)
      have SX_4 := Lib.hid (own_steps ho)
      clear ho hb
      go_wp2_with fail
      refine (toSteps_c m B cbp _ HC_4.out hm').mono ?_
      rintro e w5 ⟨x1, rfl, ho, hb⟩
      have W5 := Lib.hid (below_on W4.out hb W4.out.size)
      have HB_5 := Lib.hid (HB_4.out.on hb)
      have HC_5 := Lib.hid (HC_4.out.on hb)
      have SG_5 := Lib.hid (SG_4.out.on hb)
      have SH_5 := Lib.hid (SH_4.out.on hb)
      have SX_5 := Lib.hid (SX_4.out.on hb)
      have SY_5 := Lib.hid (own_steps ho)
      clear ho hb
      go_wp2_with fail
      refine (implSameT l m _ _ _ _ _ SX_5.out SY_5.out hn).mono ?_
      rintro e w6 ⟨rfl, hb⟩
      have W6 := Lib.hid (below_on W5.out hb W5.out.size)
      have HB_6 := Lib.hid (HB_5.out.on hb)
      have HC_6 := Lib.hid (HC_5.out.on hb)
      have SG_6 := Lib.hid (SG_5.out.on hb)
      have SH_6 := Lib.hid (SH_5.out.on hb)
      have SX_6 := Lib.hid (SX_5.out.on hb)
      have SY_6 := Lib.hid (SY_5.out.on hb)
      clear hb
      go_wp2_with fail
      refine (toSteps_c l A cap _ HB_6.out hn).mono ?_
      rintro e w7 ⟨y0, rfl, ho, hb⟩
      have W7 := Lib.hid (below_on W6.out hb W6.out.size)
      have HB_7 := Lib.hid (HB_6.out.on hb)
      have HC_7 := Lib.hid (HC_6.out.on hb)
      have SG_7 := Lib.hid (SG_6.out.on hb)
      have SH_7 := Lib.hid (SH_6.out.on hb)
      have SX_7 := Lib.hid (SX_6.out.on hb)
      have SY_7 := Lib.hid (SY_6.out.on hb)
      have SZ_7 := Lib.hid (own_steps ho)
      clear ho hb
      go_wp2_with fail
      refine (eqSteps_c l _ _ _ _ _ SX_7.out SZ_7.out hn).mono ?_
      rintro e w8 ⟨rfl, hb⟩
      have W8 := Lib.hid (below_on W7.out hb W7.out.size)
      have HB_8 := Lib.hid (HB_7.out.on hb)
      have HC_8 := Lib.hid (HC_7.out.on hb)
      have SG_8 := Lib.hid (SG_7.out.on hb)
      have SH_8 := Lib.hid (SH_7.out.on hb)
      have SX_8 := Lib.hid (SX_7.out.on hb)
      have SY_8 := Lib.hid (SY_7.out.on hb)
      have SZ_8 := Lib.hid (SZ_7.out.on hb)
      clear hb
      go_wp2_with fail
      refine (toSteps_c m B cbp _ HC_8.out hm').mono ?_
      rintro e w9 ⟨y1, rfl, ho, hb⟩
      have W9 := Lib.hid (below_on W8.out hb W8.out.size)
      have HB_9 := Lib.hid (HB_8.out.on hb)
      have HC_9 := Lib.hid (HC_8.out.on hb)
      have SG_9 := Lib.hid (SG_8.out.on hb)
      have SH_9 := Lib.hid (SH_8.out.on hb)
      have SX_9 := Lib.hid (SX_8.out.on hb)
      have SY_9 := Lib.hid (SY_8.out.on hb)
      have SZ_9 := Lib.hid (SZ_8.out.on hb)
      have SV_9 := Lib.hid (own_steps ho)
      clear ho hb
      go_wp2_with fail
      refine (eqSteps_c m _ _ _ _ _ SY_9.out SV_9.out hm').mono ?_
      rintro e w10 ⟨rfl, hb⟩
      have W10 := Lib.hid (below_on W9.out hb W9.out.size)
      have HB_10 := Lib.hid (HB_9.out.on hb)
      have HC_10 := Lib.hid (HC_9.out.on hb)
      have SG_10 := Lib.hid (SG_9.out.on hb)
      have SH_10 := Lib.hid (SH_9.out.on hb)
      have SX_10 := Lib.hid (SX_9.out.on hb)
      have SY_10 := Lib.hid (SY_9.out.on hb)
      have SZ_10 := Lib.hid (SZ_9.out.on hb)
      have SV_10 := Lib.hid (SV_9.out.on hb)
      clear hb
      go_wp2_with fail
      go_ret
      exact ⟨rfl, W10.out⟩
    · have hx : (1048576 : Int) - (l.length : Int) < (m.length : Int) := by omega
      have h63 : m.length ≤ 9223372036854775807 := by unfold maxLen at hm; omega
      go_enter Try.func8, Try.ntmps8
      go_wp2_with fail
      refine (szSteps_c A l.length cap 1048576 _ (by omega) (by omega)).mono ?_
      rintro e w0 ⟨rfl, rfl⟩
      go_wp2_with fail
      refine (szSteps_no B m.length cbp (1048576 - (l.length : Int)) _ h63 hx (by omega)).mono ?_
      rintro e w0 ⟨rfl, rfl⟩
      go_wp2_with fail
      go_ret
      exact ⟨rfl, Below.refl _ _⟩
  · have hx : (1048576 : Int) < (l.length : Int) := by omega
    have h63 : l.length ≤ 9223372036854775807 := by unfold maxLen at hl; omega
    go_enter Try.func8, Try.ntmps8
    go_wp2_with fail
    refine (szSteps_no A l.length cap 1048576 _ h63 hx (by omega)).mono ?_
    rintro e w0 ⟨rfl, rfl⟩
    go_wp2_with fail
    go_ret
    exact ⟨rfl, Below.refl _ _⟩
end Go.Proofs.Ytggibhhdnlifcaa
