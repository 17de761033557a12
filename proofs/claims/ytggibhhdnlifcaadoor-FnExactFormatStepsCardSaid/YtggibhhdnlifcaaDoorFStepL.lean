/- That the law on FormatSteps returns true. It rests on the library's table of powers of ten (Tab). -/
import Derived.Test.YtggibhhdnlifcaaDoorToStep
import Derived.Test.YtggibhhdnlifcaaDoorFStepI
namespace Go.Proofs.YtggibhhdnlifcaaDoor
open Go.RowKit

set_option maxHeartbeats 2000000 in
set_option maxRecDepth 100000 in
theorem lawFormatSteps (A : Option Addr) (cap : Nat) (l : List Stp) (w : World) (hl : l.length ≤ maxLen) (hb : StepsAt w w.heap.size A l) (hw : WfS l) (ht : Tab w) :
    Calls Tryd.prog 3 #[.slice A l.length cap] w fun e w' => e = .returned (.bool true) ∧ Below w.heap.size w w' := by
  have HB := Lib.hid hb
  have HR := Lib.hid (r64L hw)
  have HT := Lib.hid ht
  clear hb hw ht
  by_cases hn : l.length ≤ 1048576
  · have hnn : ¬ (1048576 : Int) - (l.length : Int) < 0 := by omega
    go_enter Tryd.func3, Tryd.ntmps3
    go_wp2_with fail
    refine (szSteps_c A l.length cap 1048576 _ (by omega) (by omega)).mono ?_
    rintro e w0 ⟨rfl, rfl⟩
    go_wp2_with fail
    refine (toSteps_c l A cap _ HB.out hn).mono ?_
    rintro e w1 ⟨g1, rfl, ho, hb1⟩
    have S1 := Lib.hid (own_steps ho)
    have W1 := Lib.hid hb1
    have HB1 := Lib.hid (HB.out.on hb1)
    clear ho hb1
    go_wp2_with fail
    refine (specFSteps l _ _ _ S1.out HR.out hn).mono ?_
    rintro e w2 ⟨rfl, hb2⟩
    have W2 := Lib.hid (belowB W1.out hb2 W1.out.size)
    have HB2 := Lib.hid (HB1.out.on hb2)
    clear hb2
    go_wp2_with fail
    refine (toSteps_c l A cap _ HB2.out hn).mono ?_
    rintro e w3 ⟨x1, rfl, ho, hb3⟩
    have X3 := Lib.hid (own_steps ho)
    have W3 := Lib.hid (belowB W2.out hb3 W2.out.size)
    have HB3 := Lib.hid (HB2.out.on hb3)
    clear ho hb3
    go_wp2_with fail
    refine (implFSteps l _ _ _ X3.out HR.out hn (HT.out.below W3.out)).mono ?_
    rintro e w4 ⟨rfl, hb4⟩
    have X4 := Lib.hid (X3.out.on hb4)
    have W4 := Lib.hid (belowB W3.out hb4 W3.out.size)
    have HB4 := Lib.hid (HB3.out.on hb4)
    clear hb4
    go_wp2_with fail
    refine (toSteps_c l A cap _ HB4.out hn).mono ?_
    rintro e w5 ⟨z1, rfl, ho, hb5⟩
    have Z5 := Lib.hid (own_steps ho)
    have X5 := Lib.hid (X4.out.on hb5)
    have W5 := Lib.hid (belowB W4.out hb5 W4.out.size)
    clear ho hb5
    go_wp2_with fail
    refine (eqSteps_c l _ _ _ _ _ X5.out Z5.out hn).mono ?_
    rintro e w6 ⟨rfl, hb6⟩
    have W6 := Lib.hid (belowB W5.out hb6 W5.out.size)
    clear hb6
    go_wp2_with fail
    go_ret
    exact ⟨rfl, W6.out⟩
  · have hx : (1048576 : Int) < (l.length : Int) := by omega
    have h63 : l.length ≤ 9223372036854775807 := by unfold maxLen at hl; omega
    go_enter Tryd.func3, Tryd.ntmps3
    go_wp2_with fail
    refine (szSteps_no A l.length cap 1048576 _ h63 hx (by omega)).mono ?_
    rintro e w0 ⟨rfl, rfl⟩
    go_wp2_with fail
    go_ret
    exact ⟨rfl, Below.refl _ _⟩
end Go.Proofs.YtggibhhdnlifcaaDoor
