/- The laws' copies of a step and of a row of steps into the program's types (laws.toStep, toStepS). No condition. -/
import Derived.Test.YtggibhhdnlifcaaStep
import Derived.Deep.QuietTactic
import Derived.BigQuiet
namespace Go.Proofs.Ytggibhhdnlifcaa
open Go.RowKit

set_option maxHeartbeats 1000000 in
theorem toStep_c (k p a b c : Int) (w : World) :
    Calls Try.prog 21 #[.agg #[.int .i64 k, .int .i64 p, .int .i64 a, .int .i64 b, .int .i64 c]] w fun e w' => e = .returned (.agg #[.int .i64 k, .int .i64 p, .int .i64 a, .int .i64 b, .int .i64 c]) ∧ Below w.heap.size w w' := by
  go_enter Try.func21, Try.ntmps21
  go_wp2
  refine bodyPost_ret (v := .agg #[.int .i64 k, .int .i64 p, .int .i64 a, .int .i64 b, .int .i64 c]) (by simp [results, Try.results21, go_sem]) rfl ⟨rfl, ?_⟩
  repeat' first | exact Below.refl _ _ | refine Below.alloc ?_ (by simp; try omega) _

set_option maxHeartbeats 2000000 in
set_option maxRecDepth 100000 in
theorem toSteps_c (l : List Stp) (A : Option Addr) (cap : Nat) (w : World) (hl : StepsAt w w.heap.size A l) (hn : l.length ≤ 1048576) :
    Calls Try.prog 26 #[.slice A l.length cap] w fun e w' => ∃ g, e = .returned (.slice (some ⟨g, 0, none⟩) l.length l.length) ∧ w'.ownsRow w.heap.size 41 5 (.slice (some ⟨g, 0, none⟩) l.length l.length) l.length (stepCells l) ∧ Below w.heap.size w w' := by
  have HL := Lib.hid hl
  clear hl
  obtain ⟨i0, hi, hz0, hz1, hz2⟩ := info_parts infoStep
  go_enter Try.func26, Try.ntmps26
  go_wp2_with (at_make; refine wpList_make_full w rfl _ _ 47 rfl w.heap.size 41 i0 (.agg #[.int .i64 0, .int .i64 0, .int .i64 0, .int .i64 0, .int .i64 0]) 5 Try.underlying47 hi hz0 hz1 _ _ _ _ l.length rfl rfl rfl rfl (by rw [hz2]; omega) (by unfold maxLen; omega) (Nat.le_refl _) ?_; intro w0 hown0 hg0)
  have hb0 := grown_below hg0 (Nat.le_refl w.heap.size)
  go_loopw [4] (fun i wr => ∃ k : Nat, k ≤ l.length ∧ i = .int .i64 k ∧ wr.ownsRow w.heap.size 41 5 (.slice (some ⟨w.heap.size, 0, none⟩) l.length l.length) l.length (stepCells (l.take k ++ List.replicate (l.length - k) zS)) ∧ Below w.heap.size w wr) (fun i _ => l.length - (intOf i).toNat)
  case atStart => exact ⟨0, by omega, rfl, by
    have e : (madeCells (Value.agg #[.int .i64 0, .int .i64 0, .int .i64 0, .int .i64 0, .int .i64 0]).cells (l.length * 5)).toList = stepCells (l.take 0 ++ List.replicate (l.length - 0) zS) := by
      rw [List.take_zero, List.nil_append, Nat.sub_zero]
      exact made_steps l.length
    rw [e] at hown0
    exact hown0, hb0⟩
  case round =>
    obtain ⟨k, hk, rfl, hown, hb⟩ := hrel
    have HB := Lib.hid hb
    have hbs := hb.size
    clear hb hown0 hb0 hg0
    by_cases hlt : k < l.length
    · have hi : (k : Int) < (l.length : Int) := by omega
      obtain ⟨b, off, rfl, hbB, hcell⟩ := HL.out (by omega)
      obtain ⟨d0, d1, d2, d3, d4⟩ := hcell k hlt
      have hc0 := (HB.out.cell (p := ⟨b, off + k * 5, none⟩) hbB).trans d0
      have hc1 := (HB.out.cell (p := ⟨b, off + k * 5 + 1, none⟩) hbB).trans d1
      have hc2 := (HB.out.cell (p := ⟨b, off + k * 5 + 2, none⟩) hbB).trans d2
      have hc3 := (HB.out.cell (p := ⟨b, off + k * 5 + 3, none⟩) hbB).trans d3
      have hc4 := (HB.out.cell (p := ⟨b, off + k * 5 + 4, none⟩) hbB).trans d4
      have hlen : (l.take k ++ List.replicate (l.length - k) zS).length = l.length := by simp; omega
      have hset : (l.take k ++ List.replicate (l.length - k) zS).set k (l.getD k zS) = l.take (k + 1) ++ List.replicate (l.length - (k + 1)) zS := by
        have hl0 : (l.take k).length = k := by simp; omega
        have e : l.getD k zS = l[k] := by simp [List.getD, List.getElem?_eq_getElem hlt]
        obtain ⟨r, hr⟩ : ∃ r, l.length - k = r + 1 := ⟨l.length - k - 1, by omega⟩
        rw [e, List.set_append_right _ _ (by omega), hl0, Nat.sub_self, hr, List.replicate_succ, List.set_cons_zero, List.take_succ_eq_append_getElem hlt, show l.length - (k + 1) = r by omega, List.append_assoc]
        rfl
      have HOWN := Lib.hid hown
      have HSET := Lib.hid hset
      have HLEN := Lib.hid hlen
      have hlw := (hown.lt w.heap.size rfl).2
      clear hset hown hcell d0 d1 d2 d3 d4 hlen
      obtain ⟨x, hx⟩ : ∃ x, l.getD k zS = x := ⟨_, rfl⟩
      rw [hx] at hc0 hc1 hc2 hc3 hc4 HSET
      clear hx
      obtain ⟨x0, x1, x2, x3, x4⟩ := x
      go_wp2_with fail
      refine (toStep_c x0 x1 x2 x3 x4 wr).mono ?_
      rintro e w3 ⟨rfl, hb3⟩
      have hown3 := own_below HOWN.out hb3
      obtain ⟨g0, g1, g2, g3, g4⟩ := stepCells_get (l.take k ++ List.replicate (l.length - k) zS) k (by have := HLEN.out; omega)
      have hd0 := (hown3.cellAt (k * 5) (by omega)).trans g0
      have hf0 := hown3.frozenAt (k * 5)
      have hd1 := (hown3.cellAt (k * 5 + 1) (by omega)).trans g1
      have hf1 := hown3.frozenAt (k * 5 + 1)
      have hd2 := (hown3.cellAt (k * 5 + 2) (by omega)).trans g2
      have hf2 := hown3.frozenAt (k * 5 + 2)
      have hd3 := (hown3.cellAt (k * 5 + 3) (by omega)).trans g3
      have hf3 := hown3.frozenAt (k * 5 + 3)
      have hd4 := (hown3.cellAt (k * 5 + 4) (by omega)).trans g4
      have hf4 := hown3.frozenAt (k * 5 + 4)
      have hst0 := hown3.stored (k * 5) (.int .i64 x0)
      have hst1 := hst0.1.stored (k * 5 + 1) (.int .i64 x1)
      have hst2 := hst1.1.stored (k * 5 + 2) (.int .i64 x2)
      have hst3 := hst2.1.stored (k * 5 + 3) (.int .i64 x3)
      have hst4 := hst3.1.stored (k * 5 + 4) (.int .i64 x4)
      rw [stepCells_set _ _ (x0, x1, x2, x3, x4), HSET.out] at hst4
      have HST := Lib.hid hst4
      have HB3 := Lib.hid (HB.out.trans (hb3.mono hbs))
      clear hst0 hst1 hst2 hst3 hst4 g0 g1 g2 g3 g4 hown3 hb3 hc0 hc1 hc2 hc3 hc4
      go_wp2_with fail
      go_roundw
      case rel => exact ⟨k + 1, by omega, by go_num, HST.out.1, ((((HB3.out.setCell (Nat.le_refl _) _).setCell (Nat.le_refl _) _).setCell (Nat.le_refl _) _).setCell (Nat.le_refl _) _).setCell (Nat.le_refl _) _⟩
      case measure => simp [intOf]; omega
    · obtain rfl : k = l.length := by omega
      rw [List.take_length, Nat.sub_self, List.replicate_zero, List.append_nil] at hown
      go_wp2_with fail
      go_ret
      exact ⟨_, rfl, hown, HB.out⟩
end Go.Proofs.Ytggibhhdnlifcaa
