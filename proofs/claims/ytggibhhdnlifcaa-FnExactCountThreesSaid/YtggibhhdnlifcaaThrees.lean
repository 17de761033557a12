/- What CountThrees answers, the specification's and the program's. No condition. -/
import Derived.Test.YtggibhhdnlifcaaStep
import Derived.Test.YtggibhhdnlifcaaBox
namespace Go.Proofs.Ytggibhhdnlifcaa
open Go.RowKit

/-- The number of steps of the kind two among the first n. -/
def threes (l : List Stp) : Nat → Int
  | 0 => 0
  | n + 1 => threes l n + if (l.getD n zS).1 = 2 then 1 else 0
theorem threes_yes {l : List Stp} {n : Nat} (h : (l.getD n zS).1 = 2) : threes l (n + 1) = threes l n + 1 := by rw [threes, if_pos h]
theorem threes_no {l : List Stp} {n : Nat} (h : ¬ (l.getD n zS).1 = 2) : threes l (n + 1) = threes l n := by rw [threes, if_neg h]; omega
theorem threes_bound (l : List Stp) (n : Nat) : 0 ≤ threes l n ∧ threes l n ≤ n := by
  induction n with
  | zero => simp [threes]
  | succ n ih =>
    rw [threes]
    split <;> constructor <;> omega

set_option maxHeartbeats 1000000 in
set_option maxRecDepth 100000 in
theorem specThrees (l : List Stp) (A : Option Addr) (cap : Nat) (w : World) (hl : StepsAt w w.heap.size A l) (hn : l.length ≤ 1048576) :
    Calls Try.prog 33 #[.slice A l.length cap] w fun e w' => e = .returned (.int .i64 (threes l l.length)) ∧ Below w.heap.size w w' := by
  have HL := Lib.hid hl
  clear hl
  go_enter Try.func33, Try.ntmps33
  go_wp2_with fail
  go_loopw [3, 4] (fun m i wr => ∃ k : Nat, k ≤ l.length ∧ i = .int .i64 k ∧ m = .int .i64 (threes l k) ∧ Below w.heap.size w wr) (fun _ i _ => l.length - (intOf i).toNat)
  case atStart => exact ⟨0, by omega, rfl, rfl, Below.refl _ _⟩
  case round =>
    obtain ⟨k, hk, rfl, rfl, hb⟩ := hrel
    have HB := Lib.hid hb
    have hbs := hb.size
    clear hb
    have hth := threes_bound l k
    by_cases hlt : k < l.length
    · have hi : (k : Int) < (l.length : Int) := by omega
      obtain ⟨b, off, rfl, hbB, hcell⟩ := HL.out (by omega)
      obtain ⟨d0, d1, d2, d3, d4⟩ := hcell k hlt
      have hc0 := (HB.out.cell (p := ⟨b, off + k * 5, none⟩) hbB).trans d0
      have HY := Lib.hid (@threes_yes l k)
      have HN := Lib.hid (@threes_no l k)
      obtain ⟨x, hx⟩ : ∃ x, l.getD k zS = x := ⟨_, rfl⟩
      rw [hx] at HY HN hc0
      clear hcell d0 d1 d2 d3 d4 hx
      obtain ⟨x0, x1, x2, x3, x4⟩ := x
      simp only at HY HN hc0
      by_cases h2 : x0 = 2
      · have HE := Lib.hid (HY.out h2)
        have h2' : (x0 == 2) = true := by simpa using h2
        go_wp2_with fail
        go_roundw
        case rel => exact ⟨k + 1, by omega, by go_num, by rw [HE.out], HB.out⟩
        case measure => simp [intOf]; omega
      · have HE := Lib.hid (HN.out h2)
        have h2' : (x0 == 2) = false := by simpa using h2
        go_wp2_with fail
        go_roundw
        case rel => exact ⟨k + 1, by omega, by go_num, by rw [HE.out], HB.out⟩
        case measure => simp [intOf]; omega
    · obtain rfl : k = l.length := by omega
      go_wp2_with fail
      go_ret
      exact ⟨rfl, HB.out⟩

set_option maxHeartbeats 1000000 in
set_option maxRecDepth 100000 in
theorem implThrees (l : List Stp) (A : Option Addr) (cap : Nat) (w : World) (hl : StepsAt w w.heap.size A l) (hn : l.length ≤ 1048576) :
    Calls Try.prog 34 #[.slice A l.length cap] w fun e w' => e = .returned (.int .i64 (threes l l.length)) ∧ Below w.heap.size w w' := by
  have HL := Lib.hid hl
  clear hl
  go_enter Try.func34, Try.ntmps34
  go_wp2_with fail
  go_loopw [3, 8] (fun m i wr => ∃ k : Nat, k ≤ l.length ∧ i = .int .i64 k ∧ m = .int .i64 (threes l k) ∧ Below w.heap.size w wr) (fun _ i _ => l.length - (intOf i).toNat)
  case atStart => exact ⟨0, by omega, rfl, rfl, Below.refl _ _⟩
  case round =>
    obtain ⟨k, hk, rfl, rfl, hb⟩ := hrel
    have HB := Lib.hid hb
    have hbs := hb.size
    clear hb
    have hth := threes_bound l k
    by_cases hlt : k < l.length
    · have hi : (k : Int) < (l.length : Int) := by omega
      obtain ⟨b, off, rfl, hbB, hcell⟩ := HL.out (by omega)
      obtain ⟨d0, d1, d2, d3, d4⟩ := hcell k hlt
      have hc0 := (HB.out.cell (p := ⟨b, off + k * 5, none⟩) hbB).trans d0
      have hc1 := (HB.out.cell (p := ⟨b, off + k * 5 + 1, none⟩) hbB).trans d1
      have hc2 := (HB.out.cell (p := ⟨b, off + k * 5 + 2, none⟩) hbB).trans d2
      have hc3 := (HB.out.cell (p := ⟨b, off + k * 5 + 3, none⟩) hbB).trans d3
      have hc4 := (HB.out.cell (p := ⟨b, off + k * 5 + 4, none⟩) hbB).trans d4
      have HY := Lib.hid (@threes_yes l k)
      have HN := Lib.hid (@threes_no l k)
      obtain ⟨x, hx⟩ : ∃ x, l.getD k zS = x := ⟨_, rfl⟩
      rw [hx] at HY HN hc0 hc1 hc2 hc3 hc4
      clear hcell d0 d1 d2 d3 d4 hx
      obtain ⟨x0, x1, x2, x3, x4⟩ := x
      simp only at HY HN hc0 hc1 hc2 hc3 hc4
      by_cases h2 : x0 = 2
      · have HE := Lib.hid (HY.out h2)
        have h2' : (x0 == 2) = true := by simpa using h2
        go_wp2_with fail
        go_roundw
        case rel => exact ⟨k + 1, by omega, by go_num, by rw [HE.out], HB.out.alloc (by omega) _⟩
        case measure => simp [intOf]; omega
      · have HE := Lib.hid (HN.out h2)
        have h2' : (x0 == 2) = false := by simpa using h2
        go_wp2_with fail
        go_roundw
        case rel => exact ⟨k + 1, by omega, by go_num, by rw [HE.out], HB.out.alloc (by omega) _⟩
        case measure => simp [intOf]; omega
    · obtain rfl : k = l.length := by omega
      go_wp2_with fail
      go_ret
      exact ⟨rfl, HB.out⟩

end Go.Proofs.Ytggibhhdnlifcaa
