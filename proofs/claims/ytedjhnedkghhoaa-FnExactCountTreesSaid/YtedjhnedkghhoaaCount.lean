/- What CountBar and DegreeOf answer, the specification's and the program's. No condition. -/
import Derived.Test.YtedjhnedkghhoaaHasEnd
namespace Go.Proofs.Ytedjhnedkghhoaa
open Go.RowKit

theorem hitB_eq (a b x y : Int) : hitB a b (x, y) = ((x == a) && (y == b) || (x == b) && (y == a)) := by
  unfold hitB
  simp only [Bool.decide_or, Bool.decide_and]
  rfl
set_option maxHeartbeats 2000000 in
set_option maxRecDepth 100000 in
theorem specCount (p a b : Int) (l : List (Int × Int)) (A : Option Addr) (cap : Nat) (w : World) (hl : BarsAt w w.heap.size A l) (hn : l.length ≤ 1048576) :
    Calls Try.prog 100 #[.agg #[.int .i64 p, .slice A l.length cap], .int .i64 a, .int .i64 b] w fun e w' => e = .returned (.int .i64 (l.countP (hitB a b) : Nat)) ∧ Below w.heap.size w w' := by
  have HL := Lib.hid hl
  clear hl
  have hc0 : (w.alloc (.cells #[.int .i64 p, .slice A l.length cap] 30)).cell? ⟨w.heap.size, 0, none⟩ = some (.int .i64 p) := by rw [World.cell?_alloc_at _ _ _ _ rfl]; rfl
  have hc1 : (w.alloc (.cells #[.int .i64 p, .slice A l.length cap] 30)).cell? ⟨w.heap.size, 1, none⟩ = some (.slice A l.length cap) := by rw [World.cell?_alloc_at _ _ _ _ rfl]; rfl
  have HC0 := Lib.hid hc0
  have HC1 := Lib.hid hc1
  clear hc0 hc1
  go_enter Try.func100, Try.ntmps100
  go_wp2_with fail
  have HA := Lib.hid (show Below w.heap.size w (w.alloc (.cells #[.int .i64 p, .slice A l.length cap] 30)) from (Below.refl _ _).alloc (Nat.le_refl _) _)
  go_loopw [7, 8] (fun m i wr => ∃ k : Nat, k ≤ l.length ∧ i = .int .i64 k ∧ m = .int .i64 ((l.take k).countP (hitB a b) : Nat) ∧ Below (w.heap.size + 1) (w.alloc (.cells #[.int .i64 p, .slice A l.length cap] 30)) wr) (fun _ i _ => l.length - (intOf i).toNat)
  case atStart => exact ⟨0, by omega, rfl, by simp, Below.refl _ _⟩
  case round =>
    obtain ⟨k, hk, rfl, rfl, hb⟩ := hrel
    have hg0 := (hb.cell (p := ⟨w.heap.size, 0, none⟩) (by simp)).trans HC0.out
    have hg1 := (hb.cell (p := ⟨w.heap.size, 1, none⟩) (by simp)).trans HC1.out
    have HB := Lib.hid hb
    have hbs := hb.size
    clear hb
    simp only [World.size_alloc] at hbs
    by_cases hlt : k < l.length
    · have hi : (k : Int) < (l.length : Int) := by omega
      obtain ⟨b0, off, rfl, hbB, hcell⟩ := HL.out (by omega)
      have HW := Lib.hid (HA.out.trans (HB.out.mono (by omega : w.heap.size ≤ w.heap.size + 1)))
      have hc1 := (HW.out.cell (p := ⟨b0, off + k * 2, none⟩) hbB).trans (hcell k hlt).1
      have hc2 := (HW.out.cell (p := ⟨b0, off + k * 2 + 1, none⟩) hbB).trans (hcell k hlt).2
      have hcl : (l.take k).countP (hitB a b) ≤ k := Nat.le_trans List.countP_le_length (by simp; omega)
      obtain ⟨x, hx⟩ : ∃ x, l.getD k (0, 0) = x := ⟨_, rfl⟩
      have hx' := countP_take (hitB a b) l k hlt
      rw [hx] at hc1 hc2 hx'
      obtain ⟨x, y⟩ := x
      rw [hitB_eq] at hx'
      clear hx hcell
      generalize (l.take k).countP (hitB a b) = c at *
      cases e1 : (x == a) <;> cases e2 : (y == b) <;> cases e3 : (x == b) <;> cases e4 : (y == a)
      all_goals
        have hxx := hx'
        rw [e1, e2, e3, e4] at hxx
        have HX := Lib.hid hxx
        clear hxx hx'
        go_wp2_with fail
        go_roundw
        case rel => exact ⟨k + 1, by omega, by go_num, by rw [HX.out]; simp; try go_num, HB.out⟩
        case measure => simp [intOf]; omega
    · obtain rfl : k = l.length := by omega
      rw [List.take_length]
      go_wp2_with fail
      go_ret
      exact ⟨rfl, HA.out.trans (HB.out.mono (by omega))⟩

set_option maxHeartbeats 2000000 in
set_option maxRecDepth 100000 in
theorem specDegree (p v : Int) (l : List (Int × Int)) (A : Option Addr) (cap : Nat) (w : World) (hl : BarsAt w w.heap.size A l) (hn : l.length ≤ 1048576) :
    Calls Try.prog 99 #[.agg #[.int .i64 p, .slice A l.length cap], .int .i64 v] w fun e w' => e = .returned (.int .i64 (l.countP (endB v) : Nat)) ∧ Below w.heap.size w w' := by
  have HL := Lib.hid hl
  clear hl
  have hc0 : (w.alloc (.cells #[.int .i64 p, .slice A l.length cap] 30)).cell? ⟨w.heap.size, 0, none⟩ = some (.int .i64 p) := by rw [World.cell?_alloc_at _ _ _ _ rfl]; rfl
  have hc1 : (w.alloc (.cells #[.int .i64 p, .slice A l.length cap] 30)).cell? ⟨w.heap.size, 1, none⟩ = some (.slice A l.length cap) := by rw [World.cell?_alloc_at _ _ _ _ rfl]; rfl
  have HC0 := Lib.hid hc0
  have HC1 := Lib.hid hc1
  clear hc0 hc1
  go_enter Try.func99, Try.ntmps99
  go_wp2_with fail
  have HA := Lib.hid (show Below w.heap.size w (w.alloc (.cells #[.int .i64 p, .slice A l.length cap] 30)) from (Below.refl _ _).alloc (Nat.le_refl _) _)
  go_loopw [5, 6] (fun m i wr => ∃ k : Nat, k ≤ l.length ∧ i = .int .i64 k ∧ m = .int .i64 ((l.take k).countP (endB v) : Nat) ∧ Below (w.heap.size + 1) (w.alloc (.cells #[.int .i64 p, .slice A l.length cap] 30)) wr) (fun _ i _ => l.length - (intOf i).toNat)
  case atStart => exact ⟨0, by omega, rfl, by simp, Below.refl _ _⟩
  case round =>
    obtain ⟨k, hk, rfl, rfl, hb⟩ := hrel
    have hg0 := (hb.cell (p := ⟨w.heap.size, 0, none⟩) (by simp)).trans HC0.out
    have hg1 := (hb.cell (p := ⟨w.heap.size, 1, none⟩) (by simp)).trans HC1.out
    have HB := Lib.hid hb
    have hbs := hb.size
    clear hb
    simp only [World.size_alloc] at hbs
    by_cases hlt : k < l.length
    · have hi : (k : Int) < (l.length : Int) := by omega
      obtain ⟨b0, off, rfl, hbB, hcell⟩ := HL.out (by omega)
      have HW := Lib.hid (HA.out.trans (HB.out.mono (by omega : w.heap.size ≤ w.heap.size + 1)))
      have hc1 := (HW.out.cell (p := ⟨b0, off + k * 2, none⟩) hbB).trans (hcell k hlt).1
      have hc2 := (HW.out.cell (p := ⟨b0, off + k * 2 + 1, none⟩) hbB).trans (hcell k hlt).2
      have hcl : (l.take k).countP (endB v) ≤ k := Nat.le_trans List.countP_le_length (by simp; omega)
      obtain ⟨x, hx⟩ : ∃ x, l.getD k (0, 0) = x := ⟨_, rfl⟩
      have hx' := countP_take (endB v) l k hlt
      rw [hx] at hc1 hc2 hx'
      obtain ⟨x, y⟩ := x
      rw [endB_eq] at hx'
      clear hx hcell
      generalize (l.take k).countP (endB v) = c at *
      cases e1 : (x == v) <;> cases e2 : (y == v)
      all_goals
        have hxx := hx'
        rw [e1, e2] at hxx
        have HX := Lib.hid hxx
        clear hxx hx'
        go_wp2_with fail
        go_roundw
        case rel => exact ⟨k + 1, by omega, by go_num, by rw [HX.out]; simp; try go_num, HB.out⟩
        case measure => simp [intOf]; omega
    · obtain rfl : k = l.length := by omega
      rw [List.take_length]
      go_wp2_with fail
      go_ret
      exact ⟨rfl, HA.out.trans (HB.out.mono (by omega))⟩
end Go.Proofs.Ytedjhnedkghhoaa
