/- What EqualGraphs answers, the specification's and the program's. No condition. -/
import Derived.Test.YtehendofgcebcaaGMath
import Derived.Test.YtehendofgcebcaaBox
import Derived.Laws.StructEq
import Derived.Shelf.SlicesE.Kit
namespace Go.Proofs.Ytehendofgcebcaa
open Go.RowKit

/-- Two bars differ. -/
def neB (x y u v : Int) : Bool := !(x == u && y == v)
theorem neqBar (x y u v : Int) (w : World) : (binOp .neq 108 (.agg #[.int .i64 x, .int .i64 y]) (.agg #[.int .i64 u, .int .i64 v])).run Try.prog w = .ok (.bool (neB x y u v)) w := by
  have u3 := Try.underlying3
  have a3 := Try.isAgg3
  have z3 := Try.sizeOf3
  have hS : Try.prog.underlying 108 = some (.struct (Try.prog.fieldsOf 108)) := by kernel_rfl
  have hp : Try.prog.stoodInHeld 108 = false := by kernel_rfl
  rw [run_neq_struct, show (10000 : Nat) = 9999 + 1 from rfl, run_equalIn_agg w 9999 108 _ _ hS hp]
  simp only [Program.fieldsOf, Try.underlying108]
  go_simp
  unfold neB
  by_cases h1 : x = u <;> by_cases h2 : y = v <;> simp [h1, h2]
theorem guardBar (op : BinOp) (a b : Operand) (x y u v : Int) (w : World) : (eqGuard op 108 a b (.agg #[.int .i64 x, .int .i64 y]) (.agg #[.int .i64 u, .int .i64 v])).run Try.prog w = .ok () w :=
  run_eqGuard_agg w op 108 a b _ _ (by kernel_rfl)
attribute [local go_sem ↓] neqBar guardBar

theorem neB_no {a b : Int × Int} (h : a = b) : neB a.1 a.2 b.1 b.2 = false := by subst h; simp [neB]
theorem neB_yes {a b : Int × Int} (h : a ≠ b) : neB a.1 a.2 b.1 b.2 = true := by
  obtain ⟨x, y⟩ := a
  obtain ⟨u, v⟩ := b
  simp only [neB, Bool.not_eq_true', Bool.and_eq_false_iff, beq_eq_false_iff_ne]
  by_cases h1 : x = u
  · right; intro h2; exact h (by rw [h1, h2])
  · left; exact h1
/-- Two rows of bars are equal. -/
def sameL (l m : List (Int × Int)) : Bool := decide (l = m)
theorem sameL_yes {l m : List (Int × Int)} (h : l = m) : sameL l m = true := decide_eq_true h
theorem sameL_no {l m : List (Int × Int)} (h : ¬ l = m) : sameL l m = false := decide_eq_false h
theorem list_eq (l m : List (Int × Int)) (h : l.length = m.length) (hk : ∀ j, j < l.length → l.getD j (0, 0) = m.getD j (0, 0)) : l = m := by
  apply List.ext_getElem h
  intro i h1 h2
  have := hk i h1
  simpa [List.getD, List.getElem?_eq_getElem h1, List.getElem?_eq_getElem h2] using this

set_option maxHeartbeats 1000000 in
set_option maxRecDepth 100000 in
theorem slEqual (l m : List (Int × Int)) (A A' : Option Addr) (cap cap' : Nat) (w : World) (hl : BarsAt w w.heap.size A l) (hm : BarsAt w w.heap.size A' m) (hn : l.length ≤ 1048576)  :
    Calls Try.prog 147 #[.slice A l.length cap, .slice A' m.length cap'] w fun e w' => e = .returned (.bool (sameL l m)) ∧ Below w.heap.size w w' := by
  have HL := Lib.hid hl
  have HM := Lib.hid hm
  clear hl hm
  by_cases hlen : l.length = m.length
  · have HE := Lib.hid (list_eq l m hlen)
    obtain ⟨n, e1⟩ : ∃ n, n = l.length := ⟨_, rfl⟩
    have e2 : n = m.length := by omega
    rw [← e1, ← e2]
    rw [← e1] at hn
    have E1 := Lib.hid e1
    have E2 := Lib.hid e2
    clear hlen e1 e2
    go_enter Try.func147, Try.ntmps147
    go_wp2_with fail
    go_loopw [13] (fun i wr => ∃ k : Nat, k ≤ n ∧ i = .int .i64 k ∧ (∀ j, j < k → l.getD j (0, 0) = m.getD j (0, 0)) ∧ Below w.heap.size w wr) (fun i _ => n - (intOf i).toNat)
    case atStart => exact ⟨0, by omega, rfl, fun j hj => absurd hj (by omega), Below.refl _ _⟩
    case round =>
      obtain ⟨k, hk, rfl, hall, hb⟩ := hrel
      have HB := Lib.hid hb
      have HALL := Lib.hid hall
      have hbs := hb.size
      clear hb hall
      by_cases hlt : k < n
      · have hi : (k : Int) < (n : Int) := by omega
        obtain ⟨b, off, rfl, hbB, hcell⟩ := HL.out (by have := E1.out; omega)
        obtain ⟨b', off', rfl, hbB', hcell'⟩ := HM.out (by have := E2.out; omega)
        have hc1 := (HB.out.cell (p := ⟨b, off + k * 2, none⟩) hbB).trans (hcell k (by have := E1.out; omega)).1
        have hc2 := (HB.out.cell (p := ⟨b, off + k * 2 + 1, none⟩) hbB).trans (hcell k (by have := E1.out; omega)).2
        have hc3 := (HB.out.cell (p := ⟨b', off' + k * 2, none⟩) hbB').trans (hcell' k (by have := E2.out; omega)).1
        have hc4 := (HB.out.cell (p := ⟨b', off' + k * 2 + 1, none⟩) hbB').trans (hcell' k (by have := E2.out; omega)).2
        clear hcell hcell'
        have HN := Lib.hid (fun h : l = m => (by rw [h] : l.getD k (0, 0) = m.getD k (0, 0)))
        have HS := Lib.hid (fun (h : l.getD k (0, 0) = m.getD k (0, 0)) (j : Nat) (hj : j < k + 1) => (if e : j = k then by rw [e]; exact h else HALL.out j (by omega) : l.getD j (0, 0) = m.getD j (0, 0)))
        obtain ⟨x, hx⟩ : ∃ x, l.getD k (0, 0) = x := ⟨_, rfl⟩
        obtain ⟨y, hy⟩ : ∃ y, m.getD k (0, 0) = y := ⟨_, rfl⟩
        rw [hx] at hc1 hc2
        rw [hy] at hc3 hc4
        by_cases he : x = y
        · have hne := neB_no he
          have HSS := Lib.hid (HS.out (by rw [hx, hy, he]))
          clear HN HS hx hy he
          obtain ⟨x, x'⟩ := x
          obtain ⟨y, y'⟩ := y
          go_wp2_with fail
          go_quiet (fail)
          go_wp2_with fail
          go_roundw
          case rel => exact ⟨k + 1, by omega, by go_num, HSS.out, HB.out.trans (below_drewN _ _ _)⟩
          case measure => simp [intOf]; omega
        · have hne := neB_yes he
          have HNN := Lib.hid (sameL_no (fun h : l = m => he (by rw [← hx, ← hy]; exact HN.out h)))
          clear HN HS hx hy he
          obtain ⟨x, x'⟩ := x
          obtain ⟨y, y'⟩ := y
          go_wp2_with fail
          go_quiet (fail)
          go_wp2_with fail
          go_ret
          exact ⟨by rw [HNN.out]; rfl, HB.out.trans (below_drewN _ _ _)⟩
      · obtain rfl : k = n := by omega
        have HY := Lib.hid (sameL_yes (HE.out fun j hj => HALL.out j (by have := E1.out; omega)))
        go_wp2_with fail
        go_ret
        exact ⟨by rw [HY.out]; rfl, HB.out⟩
  · have HNN := Lib.hid (sameL_no (fun h : l = m => hlen (by rw [h])))
    have hne : ¬ ((l.length : Int) = (m.length : Int)) := by omega
    go_enter Try.func147, Try.ntmps147
    go_wp2_with fail
    go_ret
    exact ⟨by rw [HNN.out]; rfl, Below.refl _ _⟩

/-- Two graphs are equal. -/
def eqG (p q : Int) (l m : List (Int × Int)) : Bool := decide (p = q ∧ l = m)

set_option maxHeartbeats 1000000 in
set_option maxRecDepth 100000 in
theorem implEqual (p q : Int) (l m : List (Int × Int)) (A A' : Option Addr) (cap cap' : Nat) (w : World) (hl : BarsAt w w.heap.size A l) (hm : BarsAt w w.heap.size A' m) (hn : l.length ≤ 1048576) :
    Calls Try.prog 109 #[.agg #[.int .i64 p, .slice A l.length cap], .agg #[.int .i64 q, .slice A' m.length cap']] w fun e w' => e = .returned (.bool (eqG p q l m)) ∧ Below w.heap.size w w' := by
  have hA : Below w.heap.size w ((w.alloc (.cells #[.int .i64 p, .slice A l.length cap] 49)).alloc (.cells #[.int .i64 q, .slice A' m.length cap'] 49)) := ((Below.refl _ _).alloc (Nat.le_refl _) _).alloc (by simp) _
  have HA := Lib.hid hA
  have HL := Lib.hid (hl.on hA)
  have HM := Lib.hid (hm.on hA)
  clear hl hm hA
  by_cases hp : p = q
  · subst hp
    have HE := Lib.hid (show eqG p p l m = sameL l m by simp [eqG, sameL])
    go_enter Try.func109, Try.ntmps109
    go_wp2_with fail
    refine (slEqual l m A A' cap cap' _ HL.out HM.out hn).mono ?_
    rintro e w1 ⟨rfl, hb⟩
    have HB := Lib.hid (below_on HA.out hb HA.out.size)
    clear hb
    go_wp2_with fail
    go_ret
    exact ⟨by rw [HE.out]; rfl, HB.out⟩
  · have hpe : (p == q) = false := by simpa using hp
    have HE := Lib.hid (show eqG p q l m = false by simp [eqG, hp])
    go_enter Try.func109, Try.ntmps109
    go_wp2_with fail
    go_ret
    exact ⟨by rw [HE.out]; rfl, HA.out⟩

set_option maxHeartbeats 1000000 in
set_option maxRecDepth 100000 in
theorem specEqual (p q : Int) (l m : List (Int × Int)) (A A' : Option Addr) (cap cap' : Nat) (w : World) (hl : BarsAt w w.heap.size A l) (hm : BarsAt w w.heap.size A' m) (hn : l.length ≤ 1048576) :
    Calls Try.prog 107 #[.agg #[.int .i64 p, .slice A l.length cap], .agg #[.int .i64 q, .slice A' m.length cap']] w fun e w' => e = .returned (.bool (eqG p q l m)) ∧ Below w.heap.size w w' := by
  have hA1 := new_below w (.cells #[.int .i64 p, .slice A l.length cap] 49)
  have hA2 := new_below (w.alloc (.cells #[.int .i64 p, .slice A l.length cap] 49)) (.cells #[.int .i64 q, .slice A' m.length cap'] 49)
  have hA := below_on hA1 hA2 hA1.size
  have HX := Lib.hid ((box_new w p (.slice A l.length cap) 49).kept hA2)
  have HY := Lib.hid (box_new (w.alloc (.cells #[.int .i64 p, .slice A l.length cap] 49)) q (.slice A' m.length cap') 49)
  have HA := Lib.hid hA
  have HL := Lib.hid (hl.on hA)
  have HM := Lib.hid (hm.on hA)
  clear hl hm hA hA1 hA2
  by_cases hp : p = q
  · subst hp
    by_cases hlen : l.length = m.length
    · have HE := Lib.hid (list_eq l m hlen)
      have HQ := Lib.hid (show eqG p p l m = sameL l m by simp [eqG, sameL])
      obtain ⟨n, e1⟩ : ∃ n, n = l.length := ⟨_, rfl⟩
      have e2 : n = m.length := by omega
      rw [← e1, ← e2] at HX HY HA HL HM
      rw [← e1, ← e2]
      rw [← e1] at hn
      have E1 := Lib.hid e1
      have E2 := Lib.hid e2
      clear hlen e1 e2
      go_enter Try.func107, Try.ntmps107
      go_wp2_with fail
      have hsz : (w.alloc (.cells #[.int .i64 p, .slice A n cap] 49)).heap.size = w.heap.size + 1 := by simp
      rw [hsz] at HY
      clear hsz
      generalize ((w.alloc (.cells #[.int .i64 p, .slice A n cap] 49)).alloc (.cells #[.int .i64 p, .slice A' n cap'] 49)) = w0 at *
      go_loopw [5] (fun i wr => ∃ k : Nat, k ≤ n ∧ i = .int .i64 k ∧ (∀ j, j < k → l.getD j (0, 0) = m.getD j (0, 0)) ∧ Below w0.heap.size w0 wr) (fun i _ => n - (intOf i).toNat)
      case atStart => exact ⟨0, by omega, rfl, fun j hj => absurd hj (by omega), Below.refl _ _⟩
      case round =>
        obtain ⟨k, hk, rfl, hall, hb⟩ := hrel
        have HB := Lib.hid hb
        have HALL := Lib.hid hall
        obtain ⟨g1, g2, g3⟩ := HX.out.kept hb
        obtain ⟨g4, g5, g6⟩ := HY.out.kept hb
        clear hb hall
        by_cases hlt : k < n
        · have hi : (k : Int) < (n : Int) := by omega
          obtain ⟨b, off, rfl, hbB, hcell⟩ := HL.out (by have := E1.out; omega)
          obtain ⟨b', off', rfl, hbB', hcell'⟩ := HM.out (by have := E2.out; omega)
          have hc1 := (HB.out.cell (p := ⟨b, off + k * 2, none⟩) hbB).trans (hcell k (by have := E1.out; omega)).1
          have hc2 := (HB.out.cell (p := ⟨b, off + k * 2 + 1, none⟩) hbB).trans (hcell k (by have := E1.out; omega)).2
          have hc3 := (HB.out.cell (p := ⟨b', off' + k * 2, none⟩) hbB').trans (hcell' k (by have := E2.out; omega)).1
          have hc4 := (HB.out.cell (p := ⟨b', off' + k * 2 + 1, none⟩) hbB').trans (hcell' k (by have := E2.out; omega)).2
          clear hcell hcell'
          have HN := Lib.hid (fun h : l = m => (by rw [h] : l.getD k (0, 0) = m.getD k (0, 0)))
          have HS := Lib.hid (fun (h : l.getD k (0, 0) = m.getD k (0, 0)) (j : Nat) (hj : j < k + 1) => (if e : j = k then by rw [e]; exact h else HALL.out j (by omega) : l.getD j (0, 0) = m.getD j (0, 0)))
          obtain ⟨x, hx⟩ : ∃ x, l.getD k (0, 0) = x := ⟨_, rfl⟩
          obtain ⟨y, hy⟩ : ∃ y, m.getD k (0, 0) = y := ⟨_, rfl⟩
          rw [hx] at hc1 hc2
          rw [hy] at hc3 hc4
          by_cases he : x = y
          · have hne := neB_no he
            have HSS := Lib.hid (HS.out (by rw [hx, hy, he]))
            clear HN HS hx hy he
            obtain ⟨x, x'⟩ := x
            obtain ⟨y, y'⟩ := y
            go_wp2_with fail
            go_quiet (fail)
            go_wp2_with fail
            go_roundw
            case rel => exact ⟨k + 1, by omega, by go_num, HSS.out, HB.out.trans (below_drewN _ _ _)⟩
            case measure => simp [intOf]; omega
          · have hne := neB_yes he
            have HNN := Lib.hid (sameL_no (fun h : l = m => he (by rw [← hx, ← hy]; exact HN.out h)))
            clear HN HS hx hy he
            obtain ⟨x, x'⟩ := x
            obtain ⟨y, y'⟩ := y
            go_wp2_with fail
            go_quiet (fail)
            go_wp2_with fail
            go_ret
            exact ⟨by rw [HQ.out, HNN.out]; rfl, below_on HA.out (HB.out.trans (below_drewN _ _ _)) HA.out.size⟩
        · obtain rfl : k = n := by omega
          have HYY := Lib.hid (sameL_yes (HE.out fun j hj => HALL.out j (by have := E1.out; omega)))
          go_wp2_with fail
          go_ret
          exact ⟨by rw [HQ.out, HYY.out]; rfl, below_on HA.out HB.out HA.out.size⟩
    · have HNN := Lib.hid (show eqG p p l m = false from decide_eq_false fun h => hlen (by rw [h.2]))
      have hne : ¬ ((l.length : Int) = (m.length : Int)) := by omega
      go_enter Try.func107, Try.ntmps107
      go_wp2_with fail
      go_ret
      exact ⟨by rw [HNN.out]; rfl, HA.out⟩
  · have hpe : (p != q) = true := by simpa using hp
    have HE := Lib.hid (show eqG p q l m = false by simp [eqG, hp])
    go_enter Try.func107, Try.ntmps107
    go_wp2_with fail
    go_ret
    exact ⟨by rw [HE.out]; rfl, HA.out⟩
end Go.Proofs.Ytehendofgcebcaa
