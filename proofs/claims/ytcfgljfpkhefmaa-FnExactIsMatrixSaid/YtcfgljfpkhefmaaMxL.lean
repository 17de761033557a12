/- The law FnExactIsMatrix returns true at every input. No condition. -/
import Derived.Test.YtcfgljfpkhefmaaMxI
import Derived.Test.YtcfgljfpkhefmaaToOwn
namespace Go.Proofs.Ytcfgljfpkhefmaa
open Go.RowKit

theorem implMatB (m : List (List Int)) (A : Option Addr) (cap lo hi : Nat) (w : World) (hl : RowsIn w lo hi A m) (hn : m.length ≤ 1048576) (hr : ∀ k, k < m.length → (m.getD k []).length ≤ 1048576) :
    Calls Try.prog 17 #[.slice A m.length cap] w fun e w' => e = .returned (.bool (isMatB m)) ∧ Below w.heap.size w w' :=
  (implMat m A cap lo hi w hl hn hr).mono fun _ _ h => ⟨h.1, h.2 ▸ Below.refl _ _⟩

set_option maxHeartbeats 4000000 in
set_option maxRecDepth 100000 in
theorem lawIsMatrix (A : Option Addr) (cap : Nat) (m : List (List Int)) (w : World) (hm : m.length ≤ maxLen) (hM : RowsD w 0 w.heap.size A m) (hwm : ∀ k, k < m.length → (m.getD k []).length ≤ maxLen ∧ WfZ (m.getD k [])) :
    Calls Try.prog 3 #[.slice A m.length cap] w fun e w' => e = .returned (.bool true) ∧ Below w.heap.size w w' := by
  have HM_0 := Lib.hid (show RowsIn w 0 w.heap.size A m from hM)
  have HXL := Lib.hid (show ∀ k, k < m.length → (m.getD k []).length ≤ 9223372036854775807 from fun k hk => by
    have := (hwm k hk).1
    unfold maxLen at this
    omega)
  clear hM hwm
  by_cases hnT : m.length + totD m m.length ≤ 1048576
  · have W0 := Lib.hid (Below.refl w.heap.size w)
    have hn1 : m.length ≤ 1048576 := by omega
    have HRW := Lib.hid (show ∀ k, k < m.length → (m.getD k []).length ≤ 1048576 from fun k hk => by
      have := totD_le m (j := k + 1) (n := m.length) (by omega)
      have h2 : totD m (k + 1) = totD m k + (m.getD k []).length := rfl
      omega)
    go_enter Try.func3, Try.ntmps3
    go_wp2_with fail
    refine (szRows_c m A cap 0 w.heap.size 1048576 _ (show RowsD _ 0 w.heap.size A m from HM_0.out) (by omega) (by omega)).mono ?_
    rintro e w9 ⟨rfl, rfl⟩
    have hnn : ¬ (1048576 : Int) - (m.length : Int) - (totD m m.length : Int) < 0 := by omega
    go_wp2_with fail
    refine (toRowsO_c m A cap 0 w.heap.size _ HM_0.out hn1 HRW.out).mono ?_
    rintro e w1 ⟨g1, rfl, ho, hb⟩
    have Z1 := Lib.hid (within_of hb).size
    have W1 := Lib.hid (within_on W0.out (within_of hb) W0.out.size (.inr (Nat.le_refl _)))
    have HM_1 := Lib.hid (HM_0.out.within (within_of hb) (by omega))
    have SG_1 := Lib.hid (ho.reads)
    clear ho hb
    go_wp2_with fail
    refine (specMat m (some ⟨g1, 0, none⟩) m.length _ _ _ SG_1.out hn1 HRW.out).mono ?_
    rintro e w2 ⟨rfl, hb⟩
    have Z2 := Lib.hid (within_of hb).size
    have W2 := Lib.hid (within_on W1.out (within_of hb) W1.out.size (.inr (Nat.le_refl _)))
    have HM_2 := Lib.hid (HM_1.out.within (within_of hb) (by omega))
    have SG_2 := Lib.hid (SG_1.out.within (within_of hb) (by omega))
    clear hb
    go_wp2_with fail
    refine (toRowsO_c m A cap 0 w.heap.size _ HM_2.out hn1 HRW.out).mono ?_
    rintro e w3 ⟨x0, rfl, ho, hb⟩
    have Z3 := Lib.hid (within_of hb).size
    have W3 := Lib.hid (within_on W2.out (within_of hb) W2.out.size (.inr (Nat.le_refl _)))
    have HM_3 := Lib.hid (HM_2.out.within (within_of hb) (by omega))
    have SG_3 := Lib.hid (SG_2.out.within (within_of hb) (by omega))
    have SX_3 := Lib.hid (ho)
    clear ho hb
    go_wp2_with fail
    refine (implMatB m (some ⟨x0, 0, none⟩) m.length _ _ _ SX_3.out.reads hn1 HRW.out).mono ?_
    rintro e w4 ⟨rfl, hb⟩
    have Z4 := Lib.hid (within_of hb).size
    have W4 := Lib.hid (within_on W3.out (within_of hb) W3.out.size (.inr (Nat.le_refl _)))
    have HM_4 := Lib.hid (HM_3.out.within (within_of hb) (by omega))
    have SG_4 := Lib.hid (SG_3.out.within (within_of hb) (by omega))
    have SX_4 := Lib.hid (SX_3.out.within (within_of hb) (by omega))
    clear hb
    go_wp2_with fail
    refine (toRowsO_c m A cap 0 w.heap.size _ HM_4.out hn1 HRW.out).mono ?_
    rintro e w5 ⟨y1, rfl, ho, hb⟩
    have Z5 := Lib.hid (within_of hb).size
    have W5 := Lib.hid (within_on W4.out (within_of hb) W4.out.size (.inr (Nat.le_refl _)))
    have HM_5 := Lib.hid (HM_4.out.within (within_of hb) (by omega))
    have SG_5 := Lib.hid (SG_4.out.within (within_of hb) (by omega))
    have SX_5 := Lib.hid (SX_4.out.within (within_of hb) (by omega))
    have SZ_5 := Lib.hid (ho.reads)
    clear ho hb
    go_wp2_with fail
    refine (eqRows_c m (some ⟨x0, 0, none⟩) (some ⟨y1, 0, none⟩) m.length m.length _ _ _ _ _ SX_5.out.reads SZ_5.out hn1 HRW.out).mono ?_
    rintro e w6 ⟨rfl, hb⟩
    have Z6 := Lib.hid (within_of hb).size
    have W6 := Lib.hid (within_on W5.out (within_of hb) W5.out.size (.inr (Nat.le_refl _)))
    have HM_6 := Lib.hid (HM_5.out.within (within_of hb) (by omega))
    have SG_6 := Lib.hid (SG_5.out.within (within_of hb) (by omega))
    have SX_6 := Lib.hid (SX_5.out.within (within_of hb) (by omega))
    have SZ_6 := Lib.hid (SZ_5.out.within (within_of hb) (by omega))
    clear hb
    go_wp2_with fail
    go_wp2_with fail
    go_ret
    exact ⟨rfl, W6.out⟩
  · have W0 := Lib.hid (Below.refl w.heap.size w)
    have h63 : m.length ≤ 9223372036854775807 := by unfold maxLen at hm; omega
    go_enter Try.func3, Try.ntmps3
    go_wp2_with fail
    refine (szRows_no m A cap 0 w.heap.size 1048576 _ (show RowsD _ 0 w.heap.size A m from HM_0.out) HXL.out h63 (by omega) (by omega)).mono ?_
    rintro e w9 ⟨rfl, rfl⟩
    go_wp2_with fail
    go_ret
    exact ⟨rfl, W0.out⟩
end Go.Proofs.Ytcfgljfpkhefmaa
