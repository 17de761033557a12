/- The laws' measures and comparisons of graphs (szBarS, szGraph, eqBar, eqBarS, eqGraph): graphs that read alike are equal. No condition. -/
import Derived.Test.YtehendofgcebcaaDoorBar
import Derived.StillTailTactics
namespace Go.Proofs.YtehendofgcebcaaDoor
open Go.RowKit

theorem szBarS_c (A : Option Addr) (n cap : Nat) (left : Int) (w : World) (h0 : (n : Int) ≤ left) (h1 : left ≤ 1048576) :
    Calls Tryd.prog 40 #[.slice A n cap, .int .i64 left] w fun e w' => e = .returned (.int .i64 (left - n)) ∧ w = w' := by
  go_enter Tryd.func40, Tryd.ntmps40
  go_wp2
  go_ret
  exact ⟨rfl, rfl⟩
theorem szBarS_no (A : Option Addr) (n cap : Nat) (left : Int) (w : World) (hn : n ≤ 9223372036854775807) (h0 : left < (n : Int)) (h1 : 0 ≤ left) :
    Calls Tryd.prog 40 #[.slice A n cap, .int .i64 left] w fun e w' => e = .returned (.int .i64 (-1)) ∧ w = w' := by
  go_enter Tryd.func40, Tryd.ntmps40
  go_wp2
  go_ret
  exact ⟨rfl, rfl⟩
theorem szGraph_c (p : Int) (A : Option Addr) (n cap : Nat) (left : Int) (w : World) (h0 : (n : Int) ≤ left) (h1 : left ≤ 1048576) :
    Calls Tryd.prog 14 #[.agg #[.int .i64 p, .slice A n cap], .int .i64 left] w fun e w' => e = .returned (.int .i64 (left - n)) ∧ Below w.heap.size w w' := by
  go_enter Tryd.func14, Tryd.ntmps14
  go_wp2_with fail
  refine (szBarS_c A n cap left _ h0 h1).mono ?_
  rintro e w1 ⟨rfl, rfl⟩
  go_wp2_with fail
  go_ret
  exact ⟨rfl, (Below.refl _ _).alloc (Nat.le_refl _) _⟩
theorem szGraph_no (p : Int) (A : Option Addr) (n cap : Nat) (left : Int) (w : World) (hn : n ≤ 9223372036854775807) (h0 : left < (n : Int)) (h1 : 0 ≤ left) :
    Calls Tryd.prog 14 #[.agg #[.int .i64 p, .slice A n cap], .int .i64 left] w fun e w' => e = .returned (.int .i64 (-1)) ∧ Below w.heap.size w w' := by
  go_enter Tryd.func14, Tryd.ntmps14
  go_wp2_with fail
  refine (szBarS_no A n cap left _ hn h0 h1).mono ?_
  rintro e w1 ⟨rfl, rfl⟩
  go_wp2_with fail
  go_ret
  exact ⟨rfl, (Below.refl _ _).alloc (Nat.le_refl _) _⟩

theorem eqBar_c (x y : Int) (w : World) :
    Calls Tryd.prog 69 #[.agg #[.int .i64 x, .int .i64 y], .agg #[.int .i64 x, .int .i64 y]] w fun e w' => e = .returned (.bool true) ∧ Below w.heap.size w w' := by
  go_enter Tryd.func69, Tryd.ntmps69
  go_wp2
  go_ret
  exact ⟨rfl, ((Below.refl _ _).alloc (Nat.le_refl _) _).alloc (by simp) _⟩

set_option maxHeartbeats 400000 in
set_option maxRecDepth 100000 in
theorem eqBarS_c (l : List (Int × Int)) (A A' : Option Addr) (cap cap' : Nat) (w : World) (hl : BarsAt w w.heap.size A l) (hl' : BarsAt w w.heap.size A' l) (hn : l.length ≤ 1048576) :
    Calls Tryd.prog 52 #[.slice A l.length cap, .slice A' l.length cap'] w fun e w' => e = .returned (.bool true) ∧ Below w.heap.size w w' := by
  have HL := Lib.hid hl
  have HL' := Lib.hid hl'
  clear hl hl'
  go_enter Tryd.func52, Tryd.ntmps52
  go_wp2_with fail
  go_loopw [5] (fun i wr => ∃ k : Nat, k ≤ l.length ∧ i = .int .i64 k ∧ Below w.heap.size w wr) (fun i _ => l.length - (intOf i).toNat)
  case atStart => exact ⟨0, by omega, rfl, Below.refl _ _⟩
  case round =>
    obtain ⟨k, hk, rfl, hb⟩ := hrel
    have HB := Lib.hid hb
    have hbs := hb.size
    clear hb
    by_cases hlt : k < l.length
    · have hi : (k : Int) < (l.length : Int) := by omega
      obtain ⟨b, off, rfl, hbB, hcell⟩ := HL.out (by omega)
      obtain ⟨b', off', rfl, hbB', hcell'⟩ := HL'.out (by omega)
      have hc1 := (HB.out.cell (p := ⟨b, off + k * 2, none⟩) hbB).trans (hcell k hlt).1
      have hc2 := (HB.out.cell (p := ⟨b, off + k * 2 + 1, none⟩) hbB).trans (hcell k hlt).2
      have hc3 := (HB.out.cell (p := ⟨b', off' + k * 2, none⟩) hbB').trans (hcell' k hlt).1
      have hc4 := (HB.out.cell (p := ⟨b', off' + k * 2 + 1, none⟩) hbB').trans (hcell' k hlt).2
      clear hcell hcell'
      obtain ⟨p, hp⟩ : ∃ p, l.getD k (0, 0) = p := ⟨_, rfl⟩
      rw [hp] at hc1 hc2 hc3 hc4
      clear hp
      obtain ⟨x, y⟩ := p
      go_wp2_with fail
      go_still_tail 8, (by kernel_rfl)
      change wpList _ _ _ _ _ wr.drew
      have hbd : Below w.heap.size w wr.drew := HB.out.drew
      have hbs2 : w.heap.size ≤ wr.drew.heap.size := hbs
      have HBD := Lib.hid hbd
      clear hbd hc1 hc2 hc3 hc4
      generalize wr.drew = w2 at *
      go_wp2_with fail
      refine (eqBar_c x y w2).mono ?_
      rintro e w3 ⟨rfl, hb3⟩
      have HB3 := Lib.hid (HBD.out.trans (hb3.mono hbs2))
      clear hb3
      go_wp2_with fail
      go_roundw
      case rel => exact ⟨k + 1, by omega, by go_num, HB3.out⟩
      case measure => simp [intOf]; omega
    · go_wp2_with fail
      go_ret
      exact ⟨rfl, HB.out⟩

set_option maxHeartbeats 400000 in
set_option maxRecDepth 100000 in
theorem eqGraph_c (p : Int) (l : List (Int × Int)) (A A' : Option Addr) (cap cap' : Nat) (w : World) (hl : BarsAt w w.heap.size A l) (hl' : BarsAt w w.heap.size A' l) (hn : l.length ≤ 1048576) :
    Calls Tryd.prog 27 #[.agg #[.int .i64 p, .slice A l.length cap], .agg #[.int .i64 p, .slice A' l.length cap']] w fun e w' => e = .returned (.bool true) ∧ Below w.heap.size w w' := by
  have HL := Lib.hid hl
  have HL' := Lib.hid hl'
  clear hl hl'
  go_enter Tryd.func27, Tryd.ntmps27
  go_wp2_with fail
  have hA : Below w.heap.size w ((w.alloc (.cells #[.int .i64 p, .slice A l.length cap] 32)).alloc (.cells #[.int .i64 p, .slice A' l.length cap'] 32)) :=
    ((Below.refl _ _).alloc (Nat.le_refl _) _).alloc (by simp) _
  refine (eqBarS_c l A A' cap cap' _ ((HL.out.kept hA).more hA.size) ((HL'.out.kept hA).more hA.size) hn).mono ?_
  rintro e w1 ⟨rfl, hb1⟩
  have HB := Lib.hid (hA.trans (hb1.mono hA.size))
  clear hA hb1
  go_wp2_with fail
  go_ret
  exact ⟨rfl, HB.out⟩
end Go.Proofs.YtehendofgcebcaaDoor
