/- That the law on FormatSets returns true. It rests on the library's table of powers of ten (Tab). -/
import Derived.Test.YtggibhhdnlifcaaDoorFSetI
import Derived.Test.YtggibhhdnlifcaaDoorEqRows
namespace Go.Proofs.YtggibhhdnlifcaaDoor
open Go.RowKit

theorem totD_row (rs : List (List Int)) (k n : Nat) (h : k < n) : (rs.getD k []).length ≤ totD rs n := by
  have h1 := totD_le rs (j := k + 1) (n := n) (by omega)
  have h2 : totD rs (k + 1) = totD rs k + (rs.getD k []).length := rfl
  omega

set_option maxHeartbeats 2000000 in
set_option maxRecDepth 100000 in
theorem lawFormatSets (A : Option Addr) (cap : Nat) (rs : List (List Int)) (w : World) (hl : rs.length ≤ maxLen) (hb : RowsD w 0 w.heap.size A rs) (hw : ∀ k, k < rs.length → (rs.getD k []).length ≤ maxLen ∧ WfZ (rs.getD k [])) (ht : Tab w) :
    Calls Tryd.prog 4 #[.slice A rs.length cap] w fun e w' => e = .returned (.bool true) ∧ Below w.heap.size w w' := by
  have HB := Lib.hid hb
  have HR := Lib.hid (show ∀ k, k < rs.length → R64Z (rs.getD k []) from fun k hk => r64Z (hw k hk).2)
  have HM := Lib.hid (show ∀ k, k < rs.length → (rs.getD k []).length ≤ 9223372036854775807 from fun k hk => by
    have := (hw k hk).1
    unfold maxLen at this
    omega)
  have HT := Lib.hid ht
  clear hb hw ht
  by_cases hn : rs.length + totD rs rs.length ≤ 1048576
  · have hnn : ¬ (1048576 : Int) - (rs.length : Int) - (totD rs rs.length : Int) < 0 := by omega
    have hn1 : rs.length ≤ 1048576 := by omega
    have HRW := Lib.hid (show ∀ k, k < rs.length → (rs.getD k []).length ≤ 1048576 from fun k hk => by
      have := totD_row rs k rs.length hk
      omega)
    go_enter Tryd.func4, Tryd.ntmps4
    go_wp2_with fail
    refine (szRows_c rs A cap _ _ 1048576 _ HB.out (by omega) (by omega)).mono ?_
    rintro e w0 ⟨rfl, rfl⟩
    go_wp2_with fail
    refine (toRows_c rs A cap _ _ _ HB.out hn1 HRW.out).mono ?_
    rintro e w1 ⟨g1, rfl, ho, hb1⟩
    have S1 := Lib.hid ho
    have W1 := Lib.hid hb1
    have HB1 := Lib.hid (HB.out.below hb1)
    clear ho hb1
    go_wp2_with fail
    refine (specFSets rs _ _ _ _ _ S1.out HR.out hn).mono ?_
    rintro e w2 ⟨rfl, hb2⟩
    have W2 := Lib.hid (belowB W1.out hb2 W1.out.size)
    have HB2 := Lib.hid (HB1.out.below hb2)
    clear hb2
    go_wp2_with fail
    refine (toRows_c rs A cap _ _ _ HB2.out hn1 HRW.out).mono ?_
    rintro e w3 ⟨x1, rfl, ho, hb3⟩
    have X3 := Lib.hid ho
    have W3 := Lib.hid (belowB W2.out hb3 W2.out.size)
    have HB3 := Lib.hid (HB2.out.below hb3)
    clear ho hb3
    go_wp2_with fail
    refine (implFSets rs _ _ _ _ _ X3.out HR.out hn (HT.out.below W3.out)).mono ?_
    rintro e w4 ⟨rfl, hb4⟩
    have X4 := Lib.hid (X3.out.below hb4)
    have W4 := Lib.hid (belowB W3.out hb4 W3.out.size)
    have HB4 := Lib.hid (HB3.out.below hb4)
    clear hb4
    go_wp2_with fail
    refine (toRows_c rs A cap _ _ _ HB4.out hn1 HRW.out).mono ?_
    rintro e w5 ⟨z1, rfl, ho, hb5⟩
    have Z5 := Lib.hid ho
    have X5 := Lib.hid (X4.out.below hb5)
    have W5 := Lib.hid (belowB W4.out hb5 W4.out.size)
    clear ho hb5
    go_wp2_with fail
    refine (eqRowsD_c rs _ _ _ _ _ _ _ _ _ X5.out Z5.out hn1 HRW.out).mono ?_
    rintro e w6 ⟨rfl, hb6⟩
    have W6 := Lib.hid (belowB W5.out hb6 W5.out.size)
    clear hb6
    go_wp2_with fail
    go_ret
    exact ⟨rfl, W6.out⟩
  · have hx : (1048576 : Int) < (rs.length : Int) + (totD rs rs.length : Int) := by omega
    have h63 : rs.length ≤ 9223372036854775807 := by unfold maxLen at hl; omega
    go_enter Tryd.func4, Tryd.ntmps4
    go_wp2_with fail
    refine (szRows_no rs A cap _ _ 1048576 _ HB.out HM.out h63 hx (by omega)).mono ?_
    rintro e w0 ⟨rfl, rfl⟩
    go_wp2_with fail
    go_ret
    exact ⟨rfl, Below.refl _ _⟩
end Go.Proofs.YtggibhhdnlifcaaDoor
