/- What AreSameSteps answers, the specification's and the program's. No condition. -/
import Derived.Test.YtggibhhdnlifcaaStep
import Derived.Laws.StructEq
import Derived.Deep.QuietTactic
import Derived.BigQuiet
namespace Go.Proofs.Ytggibhhdnlifcaa
open Go.RowKit

/-- Two steps differ. -/
def neS (x y : Stp) : Bool := !(x.1 == y.1 && (x.2.1 == y.2.1 && (x.2.2.1 == y.2.2.1 && (x.2.2.2.1 == y.2.2.2.1 && x.2.2.2.2 == y.2.2.2.2))))
theorem neqStep (x1 x2 x3 x4 x5 y1 y2 y3 y4 y5 : Int) (w : World) : (binOp .neq 41 (.agg #[.int .i64 x1, .int .i64 x2, .int .i64 x3, .int .i64 x4, .int .i64 x5]) (.agg #[.int .i64 y1, .int .i64 y2, .int .i64 y3, .int .i64 y4, .int .i64 y5])).run Try.prog w = .ok (.bool (neS (x1, x2, x3, x4, x5) (y1, y2, y3, y4, y5))) w := by
  have u3 := Try.underlying3
  have a3 := Try.isAgg3
  have z3 := Try.sizeOf3
  have hS : Try.prog.underlying 41 = some (.struct (Try.prog.fieldsOf 41)) := by kernel_rfl
  have hp : Try.prog.stoodInHeld 41 = false := by kernel_rfl
  rw [run_neq_struct, show (10000 : Nat) = 9999 + 1 from rfl, run_equalIn_agg w 9999 41 _ _ hS hp]
  simp only [Program.fieldsOf, Try.underlying41]
  go_simp
  unfold neS
  by_cases h1 : x1 = y1 <;> by_cases h2 : x2 = y2 <;> by_cases h3 : x3 = y3 <;> by_cases h4 : x4 = y4 <;> by_cases h5 : x5 = y5 <;> simp [h1, h2, h3, h4, h5]
theorem guardStep (op : BinOp) (a b : Operand) (x1 x2 x3 x4 x5 y1 y2 y3 y4 y5 : Int) (w : World) : (eqGuard op 41 a b (.agg #[.int .i64 x1, .int .i64 x2, .int .i64 x3, .int .i64 x4, .int .i64 x5]) (.agg #[.int .i64 y1, .int .i64 y2, .int .i64 y3, .int .i64 y4, .int .i64 y5])).run Try.prog w = .ok () w :=
  run_eqGuard_agg w op 41 a b _ _ (by kernel_rfl)
attribute [local go_sem ↓] neqStep guardStep

theorem neS_no {a b : Stp} (h : a = b) : neS a b = false := by subst h; simp [neS]
theorem neS_yes {a b : Stp} (h : a ≠ b) : neS a b = true := by
  obtain ⟨x1, x2, x3, x4, x5⟩ := a
  obtain ⟨y1, y2, y3, y4, y5⟩ := b
  cases hb : neS (x1, x2, x3, x4, x5) (y1, y2, y3, y4, y5)
  · simp [neS] at hb
    obtain ⟨rfl, rfl, rfl, rfl, rfl⟩ := hb
    exact absurd rfl h
  · rfl
/-- Two lists of steps are equal. -/
def sameT (l m : List Stp) : Bool := decide (l = m)
theorem sameT_yes {l m : List Stp} (h : l = m) : sameT l m = true := decide_eq_true h
theorem sameT_no {l m : List Stp} (h : ¬ l = m) : sameT l m = false := decide_eq_false h
theorem steps_eq (l m : List Stp) (h : l.length = m.length) (hk : ∀ j, j < l.length → l.getD j zS = m.getD j zS) : l = m := by
  apply List.ext_getElem h
  intro i h1 h2
  have := hk i h1
  simpa [List.getD, List.getElem?_eq_getElem h1, List.getElem?_eq_getElem h2] using this

set_option maxHeartbeats 2000000 in
set_option maxRecDepth 100000 in
theorem specSameT (l m : List Stp) (A A' : Option Addr) (cap cap' : Nat) (w : World) (hl : StepsAt w w.heap.size A l) (hm : StepsAt w w.heap.size A' m) (hn : l.length ≤ 1048576) :
    Calls Try.prog 35 #[.slice A l.length cap, .slice A' m.length cap'] w fun e w' => e = .returned (.bool (sameT l m)) ∧ Below w.heap.size w w' := by
  have HL := Lib.hid hl
  have HM := Lib.hid hm
  clear hl hm
  by_cases hlen : l.length = m.length
  · have HE := Lib.hid (steps_eq l m hlen)
    obtain ⟨n, e1⟩ : ∃ n, n = l.length := ⟨_, rfl⟩
    have e2 : n = m.length := by omega
    rw [← e1, ← e2]
    rw [← e1] at hn
    have E1 := Lib.hid e1
    have E2 := Lib.hid e2
    clear hlen e1 e2
    go_enter Try.func35, Try.ntmps35
    go_wp2_with fail
    go_loopw [5] (fun i wr => ∃ k : Nat, k ≤ n ∧ i = .int .i64 k ∧ (∀ j, j < k → l.getD j zS = m.getD j zS) ∧ Below w.heap.size w wr) (fun i _ => n - (intOf i).toNat)
    case atStart => exact ⟨0, by omega, rfl, fun j hj => absurd hj (by omega), Below.refl _ _⟩
    case round =>
      obtain ⟨k, hk, rfl, hall, hb⟩ := hrel
      have HB := Lib.hid hb
      have HALL := Lib.hid hall
      have hbs := hb.size
      clear hb hall
      by_cases hlt : k < n
      · have hi : (k : Int) < (n : Int) := by omega
        obtain ⟨b, off, rfl, hbB, hcell⟩ := HL.out (by have := E1.out; omega)
        obtain ⟨b', off', rfl, hbB', hcell'⟩ := HM.out (by have := E2.out; omega)
        obtain ⟨d0, d1, d2, d3, d4⟩ := hcell k (by have := E1.out; omega)
        obtain ⟨e0, e1, e2, e3, e4⟩ := hcell' k (by have := E2.out; omega)
        have hc0 := (HB.out.cell (p := ⟨b, off + k * 5, none⟩) hbB).trans d0
        have he0 := (HB.out.cell (p := ⟨b', off' + k * 5, none⟩) hbB').trans e0
        have hc1 := (HB.out.cell (p := ⟨b, off + k * 5 + 1, none⟩) hbB).trans d1
        have he1 := (HB.out.cell (p := ⟨b', off' + k * 5 + 1, none⟩) hbB').trans e1
        have hc2 := (HB.out.cell (p := ⟨b, off + k * 5 + 2, none⟩) hbB).trans d2
        have he2 := (HB.out.cell (p := ⟨b', off' + k * 5 + 2, none⟩) hbB').trans e2
        have hc3 := (HB.out.cell (p := ⟨b, off + k * 5 + 3, none⟩) hbB).trans d3
        have he3 := (HB.out.cell (p := ⟨b', off' + k * 5 + 3, none⟩) hbB').trans e3
        have hc4 := (HB.out.cell (p := ⟨b, off + k * 5 + 4, none⟩) hbB).trans d4
        have he4 := (HB.out.cell (p := ⟨b', off' + k * 5 + 4, none⟩) hbB').trans e4
        clear hcell hcell' d0 d1 d2 d3 d4 e0 e1 e2 e3 e4
        have HN := Lib.hid (fun h : l = m => (by rw [h] : l.getD k zS = m.getD k zS))
        have HS := Lib.hid (fun (h : l.getD k zS = m.getD k zS) (j : Nat) (hj : j < k + 1) => (if e : j = k then by rw [e]; exact h else HALL.out j (by omega) : l.getD j zS = m.getD j zS))
        obtain ⟨x, hx⟩ : ∃ x, l.getD k zS = x := ⟨_, rfl⟩
        obtain ⟨y, hy⟩ : ∃ y, m.getD k zS = y := ⟨_, rfl⟩
        rw [hx] at hc0 hc1 hc2 hc3 hc4
        rw [hy] at he0 he1 he2 he3 he4
        by_cases he : x = y
        · have hne := neS_no he
          have HSS := Lib.hid (HS.out (by rw [hx, hy, he]))
          clear HN HS hx hy he
          obtain ⟨x1, x2, x3, x4, x5⟩ := x
          obtain ⟨y1, y2, y3, y4, y5⟩ := y
          go_wp2_with fail
          go_quiet (fail)
          go_wp2_with fail
          go_roundw
          case rel => exact ⟨k + 1, by omega, by go_num, HSS.out, HB.out.trans (below_drewN _ _ _)⟩
          case measure => simp [intOf]; omega
        · have hne := neS_yes he
          have HNN := Lib.hid (sameT_no (fun h : l = m => he (by rw [← hx, ← hy]; exact HN.out h)))
          clear HN HS hx hy he
          obtain ⟨x1, x2, x3, x4, x5⟩ := x
          obtain ⟨y1, y2, y3, y4, y5⟩ := y
          go_wp2_with fail
          go_quiet (fail)
          go_wp2_with fail
          go_ret
          exact ⟨by rw [HNN.out]; rfl, HB.out.trans (below_drewN _ _ _)⟩
      · obtain rfl : k = n := by omega
        have HY := Lib.hid (sameT_yes (HE.out fun j hj => HALL.out j (by have := E1.out; omega)))
        go_wp2_with fail
        go_ret
        exact ⟨by rw [HY.out]; rfl, HB.out⟩
  · have HNN := Lib.hid (sameT_no (fun h : l = m => hlen (by rw [h])))
    have hne : ¬ ((l.length : Int) = (m.length : Int)) := by omega
    go_enter Try.func35, Try.ntmps35
    go_wp2_with fail
    go_ret
    exact ⟨by rw [HNN.out]; rfl, Below.refl _ _⟩

set_option maxHeartbeats 2000000 in
set_option maxRecDepth 100000 in
theorem slEqualT (l m : List Stp) (A A' : Option Addr) (cap cap' : Nat) (w : World) (hl : StepsAt w w.heap.size A l) (hm : StepsAt w w.heap.size A' m) (hn : l.length ≤ 1048576) :
    Calls Try.prog 111 #[.slice A l.length cap, .slice A' m.length cap'] w fun e w' => e = .returned (.bool (sameT l m)) ∧ Below w.heap.size w w' := by
  have HL := Lib.hid hl
  have HM := Lib.hid hm
  clear hl hm
  by_cases hlen : l.length = m.length
  · have HE := Lib.hid (steps_eq l m hlen)
    obtain ⟨n, e1⟩ : ∃ n, n = l.length := ⟨_, rfl⟩
    have e2 : n = m.length := by omega
    rw [← e1, ← e2]
    rw [← e1] at hn
    have E1 := Lib.hid e1
    have E2 := Lib.hid e2
    clear hlen e1 e2
    go_enter Try.func111, Try.ntmps111
    go_wp2_with fail
    go_loopw [13] (fun i wr => ∃ k : Nat, k ≤ n ∧ i = .int .i64 k ∧ (∀ j, j < k → l.getD j zS = m.getD j zS) ∧ Below w.heap.size w wr) (fun i _ => n - (intOf i).toNat)
    case atStart => exact ⟨0, by omega, rfl, fun j hj => absurd hj (by omega), Below.refl _ _⟩
    case round =>
      obtain ⟨k, hk, rfl, hall, hb⟩ := hrel
      have HB := Lib.hid hb
      have HALL := Lib.hid hall
      have hbs := hb.size
      clear hb hall
      by_cases hlt : k < n
      · have hi : (k : Int) < (n : Int) := by omega
        obtain ⟨b, off, rfl, hbB, hcell⟩ := HL.out (by have := E1.out; omega)
        obtain ⟨b', off', rfl, hbB', hcell'⟩ := HM.out (by have := E2.out; omega)
        obtain ⟨d0, d1, d2, d3, d4⟩ := hcell k (by have := E1.out; omega)
        obtain ⟨e0, e1, e2, e3, e4⟩ := hcell' k (by have := E2.out; omega)
        have hc0 := (HB.out.cell (p := ⟨b, off + k * 5, none⟩) hbB).trans d0
        have he0 := (HB.out.cell (p := ⟨b', off' + k * 5, none⟩) hbB').trans e0
        have hc1 := (HB.out.cell (p := ⟨b, off + k * 5 + 1, none⟩) hbB).trans d1
        have he1 := (HB.out.cell (p := ⟨b', off' + k * 5 + 1, none⟩) hbB').trans e1
        have hc2 := (HB.out.cell (p := ⟨b, off + k * 5 + 2, none⟩) hbB).trans d2
        have he2 := (HB.out.cell (p := ⟨b', off' + k * 5 + 2, none⟩) hbB').trans e2
        have hc3 := (HB.out.cell (p := ⟨b, off + k * 5 + 3, none⟩) hbB).trans d3
        have he3 := (HB.out.cell (p := ⟨b', off' + k * 5 + 3, none⟩) hbB').trans e3
        have hc4 := (HB.out.cell (p := ⟨b, off + k * 5 + 4, none⟩) hbB).trans d4
        have he4 := (HB.out.cell (p := ⟨b', off' + k * 5 + 4, none⟩) hbB').trans e4
        clear hcell hcell' d0 d1 d2 d3 d4 e0 e1 e2 e3 e4
        have HN := Lib.hid (fun h : l = m => (by rw [h] : l.getD k zS = m.getD k zS))
        have HS := Lib.hid (fun (h : l.getD k zS = m.getD k zS) (j : Nat) (hj : j < k + 1) => (if e : j = k then by rw [e]; exact h else HALL.out j (by omega) : l.getD j zS = m.getD j zS))
        obtain ⟨x, hx⟩ : ∃ x, l.getD k zS = x := ⟨_, rfl⟩
        obtain ⟨y, hy⟩ : ∃ y, m.getD k zS = y := ⟨_, rfl⟩
        rw [hx] at hc0 hc1 hc2 hc3 hc4
        rw [hy] at he0 he1 he2 he3 he4
        by_cases he : x = y
        · have hne := neS_no he
          have HSS := Lib.hid (HS.out (by rw [hx, hy, he]))
          clear HN HS hx hy he
          obtain ⟨x1, x2, x3, x4, x5⟩ := x
          obtain ⟨y1, y2, y3, y4, y5⟩ := y
          go_wp2_with fail
          go_quiet (fail)
          go_wp2_with fail
          go_roundw
          case rel => exact ⟨k + 1, by omega, by go_num, HSS.out, HB.out.trans (below_drewN _ _ _)⟩
          case measure => simp [intOf]; omega
        · have hne := neS_yes he
          have HNN := Lib.hid (sameT_no (fun h : l = m => he (by rw [← hx, ← hy]; exact HN.out h)))
          clear HN HS hx hy he
          obtain ⟨x1, x2, x3, x4, x5⟩ := x
          obtain ⟨y1, y2, y3, y4, y5⟩ := y
          go_wp2_with fail
          go_quiet (fail)
          go_wp2_with fail
          go_ret
          exact ⟨by rw [HNN.out]; rfl, HB.out.trans (below_drewN _ _ _)⟩
      · obtain rfl : k = n := by omega
        have HY := Lib.hid (sameT_yes (HE.out fun j hj => HALL.out j (by have := E1.out; omega)))
        go_wp2_with fail
        go_ret
        exact ⟨by rw [HY.out]; rfl, HB.out⟩
  · have HNN := Lib.hid (sameT_no (fun h : l = m => hlen (by rw [h])))
    have hne : ¬ ((l.length : Int) = (m.length : Int)) := by omega
    go_enter Try.func111, Try.ntmps111
    go_wp2_with fail
    go_ret
    exact ⟨by rw [HNN.out]; rfl, Below.refl _ _⟩

set_option maxRecDepth 100000 in
theorem implSameT (l m : List Stp) (A A' : Option Addr) (cap cap' : Nat) (w : World) (hl : StepsAt w w.heap.size A l) (hm : StepsAt w w.heap.size A' m) (hn : l.length ≤ 1048576) :
    Calls Try.prog 36 #[.slice A l.length cap, .slice A' m.length cap'] w fun e w' => e = .returned (.bool (sameT l m)) ∧ Below w.heap.size w w' := by
  go_enter Try.func36, Try.ntmps36
  go_wp2_with fail
  refine (slEqualT l m A A' cap cap' _ hl hm hn).mono ?_
  rintro e w1 ⟨rfl, hb⟩
  go_wp2_with fail
  go_ret
  exact ⟨rfl, hb⟩
end Go.Proofs.Ytggibhhdnlifcaa
