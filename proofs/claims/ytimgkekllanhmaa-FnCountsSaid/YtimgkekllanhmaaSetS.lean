/- What spec.l3Set answers. No condition. -/
import Derived.Test.YtimgkekllanhmaaSetM
import Derived.Test.YtimgkekllanhmaaIntsO
import Derived.Test.YtimgkekllanhmaaState
namespace Go.Proofs.Ytimgkekllanhmaa
open Go.RowKit

/-- A row of ints of the call's own that grows. -/
def GrowI (w wr : World) (zs : List Int) (v : Value) : Prop :=
  wr.ownsRow w.heap.size 3 1 v zs.length (intCells zs) ∧ Below w.heap.size w wr
theorem GrowI.intsO {w wr : World} {zs : List Int} {v : Value} (h : GrowI w wr zs v) : IntsO w zs (.returned v) wr := by
  obtain ⟨A, c, rfl⟩ := own_shape h.1
  exact ⟨A, c, rfl, own_ints' h.1, h.2⟩
theorem GrowI.nil (w wr : World) (h : Below w.heap.size w wr) : GrowI w wr [] (.slice none 0 0) := ⟨World.ownsRow_nil _ _ _ _, h⟩

set_option maxHeartbeats 2000000 in
set_option maxRecDepth 100000 in
theorem specSet (P m : Nat) (w : World) (hP : P ≤ 8) (hm : m < 256) :
    Calls Try.prog 44 #[.int .i64 (P : Int), .int .i64 (m : Int)] w (IntsO w (setL P m)) := by
  have ho := World.ownsRow_made (base := w.heap.size) (e := 3) (size := 1) w #[] 0 (Nat.le_refl _) (by unfold maxLen; omega) (by simp)
  have HG := Lib.hid (show GrowI w (w.alloc (.cells #[] 3)) (outF 0 fun v => m.testBit v) (.slice (some ⟨w.heap.size, 0, none⟩) 0 0) from ⟨ho, new_below w _⟩)
  have HM := Lib.hid hm
  clear ho hm
  go_enter Try.func44, Try.ntmps44
  go_wp2_with fail
  generalize (w.alloc (.cells #[] 3)) = w1 at *
  go_loopw [5, 6] (fun o i wr => ∃ j : Nat, j ≤ P ∧ i = .int .i64 j ∧ GrowI w wr (outF j fun v => m.testBit v) o) (fun _ i _ => P - (intOf i).toNat)
  case atStart => exact ⟨0, by omega, rfl, HG.out⟩
  case round =>
    obtain ⟨j, hj, rfl, hst⟩ := hrel
    have hol := outF_len j (fun v => m.testBit v)
    by_cases hlt : j < P
    · have hij : (j : Int) < (P : Int) := by omega
      have hb := bit_and .i64 (.inl rfl) m HM.out j (by omega)
      obtain ⟨A', c', rfl⟩ := own_shape hst.1
      have HS := Lib.hid hst
      have hbs := hst.2.size
      clear hst
      cases ht : m.testBit j
      · rw [ht] at hb
        replace hb := hb.trans (if_neg (by decide))
        have HE := Lib.hid (show outF (j + 1) (fun v => m.testBit v) = outF j (fun v => m.testBit v) by rw [outF_succ]; simp [ht])
        go_wp2_with fail
        go_roundw
        case rel => exact ⟨j + 1, by omega, by go_num, by rw [HE.out]; exact HS.out⟩
        case measure => simp [intOf]; omega
      · rw [ht] at hb
        replace hb := hb.trans (if_pos rfl)
        have HE := Lib.hid (show outF (j + 1) (fun v => m.testBit v) = outF j (fun v => m.testBit v) ++ [(j : Int)] by rw [outF_succ]; simp [ht])
        go_wp2_with (at_builtin; refine wpList_push _ rfl _ _ 25 rfl w.heap.size 3 (.int .i64 0) 8 Try.underlying25 infoInt rfl _ _ _ rfl HS.out.1 (.int .i64 (j : Int)) rfl _ rfl (by omega) (by unfold maxLen; omega) hbs ?_; intro v' w' ho hb'; obtain ⟨A2, c2, rfl⟩ := own_shape ho; have HO := Lib.hid ho; have HB := Lib.hid hb'; clear ho hb')
        go_roundw
        case rel => exact ⟨j + 1, by omega, by go_num, by rw [HE.out]; exact ⟨by simpa [intCells] using HO.out, HS.out.2.trans HB.out⟩⟩
        case measure => simp [intOf]; omega
    · obtain rfl : j = P := by omega
      obtain ⟨A', c', rfl⟩ := own_shape hst.1
      have HS := Lib.hid hst
      clear hst
      go_wp2_with fail
      go_ret
      exact HS.out.intsO
end Go.Proofs.Ytimgkekllanhmaa
