/- What the specification asks of the points and bars of a step (spec.l7Used, l7At). No condition. -/
import Derived.Test.YtggibhhdnlifcaaPart
import Derived.Test.YtggibhhdnlifcaaFits
namespace Go.Proofs.Ytggibhhdnlifcaa
open Go.RowKit

set_option maxHeartbeats 1000000 in
set_option maxRecDepth 100000 in
theorem used_c (p v : Int) (l : List (Int × Int)) (A : Option Addr) (cap : Nat) (w : World) (hl : BarsAt w w.heap.size A l) (hn : l.length ≤ 1048576) :
    Calls Try.prog 98 #[.agg #[.int .i64 p, .slice A l.length cap], .int .i64 v] w fun e w' => e = .returned (.bool (decide (0 < l.countP (endB v)))) ∧ Below w.heap.size w w' := by
  have hA := new_below w (.cells #[.int .i64 p, .slice A l.length cap] 30)
  have HA := Lib.hid hA
  have HBX := Lib.hid (box_new w p (.slice A l.length cap) 30)
  have HL := Lib.hid (hl.on hA)
  clear hl hA
  go_enter Try.func98, Try.ntmps98
  obtain ⟨g0, g1, g2⟩ := HBX.out
  go_wp2_with fail
  clear g0 g1 g2
  generalize (w.alloc (.cells #[.int .i64 p, .slice A l.length cap] 30)) = w1 at *
  refine (specDegree p v l A cap w1 HL.out hn).mono ?_
  rintro e w2 ⟨rfl, hb2⟩
  have HB2 := Lib.hid (below_on HA.out hb2 HA.out.size)
  clear hb2
  obtain ⟨m, hm⟩ : ∃ m, l.countP (endB v) = m := ⟨_, rfl⟩
  have HM := Lib.hid hm
  rw [hm]
  clear hm
  by_cases h0 : m = 0
  · subst h0
    go_wp2_with fail
    go_ret
    exact ⟨by rw [HM.out] <;> rfl, HB2.out⟩
  · have hp : 0 < m := Nat.pos_of_ne_zero h0
    have HD := Lib.hid (show decide (0 < m) = true from decide_eq_true hp)
    clear h0
    go_wp2_with fail
    go_ret
    exact ⟨by rw [HM.out, HD.out] <;> rfl, HB2.out⟩

/-- The bar of two points, as the specification looks for it. -/
theorem hit_min {a b : Int} {x : Int × Int} (h : x.1 < x.2) : hitB a b x = (decide (x.1 = min a b) && decide (x.2 = max a b)) := by
  obtain ⟨x1, x2⟩ := x
  dsimp only at h ⊢
  by_cases e : (x1 = min a b) ∧ (x2 = max a b)
  · rw [decide_eq_true e.1, decide_eq_true e.2]
    unfold hitB
    rw [decide_eq_true (show (x1 = a ∧ x2 = b) ∨ (x1 = b ∧ x2 = a) by omega)]
    rfl
  · have e1 : hitB a b (x1, x2) = false := by
      unfold hitB
      rw [decide_eq_false_iff_not]
      dsimp only
      omega
    rw [e1]
    by_cases e2 : x1 = min a b
    · rw [decide_eq_true e2, decide_eq_false (fun e3 => e ⟨e2, e3⟩)]; rfl
    · rw [decide_eq_false e2]; rfl

set_option maxHeartbeats 4000000 in
set_option maxRecDepth 100000 in
theorem at_c (p a b : Int) (l : List (Int × Int)) (A : Option Addr) (cap : Nat) (w : World) (hl : BarsAt w w.heap.size A l) (hG : IsG p l) :
    Calls Try.prog 99 #[.agg #[.int .i64 p, .slice A l.length cap], .int .i64 a, .int .i64 b] w fun e w' => Below w.heap.size w w' ∧ ((e = .returned (.int .i64 (-1)) ∧ ∀ j : Nat, j < l.length → hitB a b (l.getD j (0, 0)) = false) ∨ ∃ i : Nat, i < l.length ∧ e = .returned (.int .i64 (i : Int)) ∧ hitB a b (l.getD i (0, 0)) = true ∧ ∀ j : Nat, j < i → hitB a b (l.getD j (0, 0)) = false) := by
  have h24 := hG.2.1
  have HBAR := Lib.hid (fun (k : Nat) (hk : k < l.length) => (isG_bar hG k hk).2.1)
  have hA := new_below w (.cells #[.int .i64 p, .slice A l.length cap] 30)
  have HA := Lib.hid hA
  have HBX := Lib.hid (box_new w p (.slice A l.length cap) 30)
  have HL := Lib.hid (hl.on hA)
  clear hl hA hG
  go_enter Try.func99, Try.ntmps99
  go_wp2_with fail
  generalize (w.alloc (.cells #[.int .i64 p, .slice A l.length cap] 30)) = w1 at *
  go_loopw [7] (fun i wr => ∃ k : Nat, k ≤ l.length ∧ i = .int .i64 k ∧ (∀ j : Nat, j < k → hitB a b (l.getD j (0, 0)) = false) ∧ Below w1.heap.size w1 wr) (fun i _ => l.length - (intOf i).toNat)
  case atStart => exact ⟨0, by omega, rfl, fun j hj => absurd hj (Nat.not_lt_zero _), Below.refl _ _⟩
  case round =>
    obtain ⟨k, hk, rfl, hall, hb⟩ := hrel
    have HALL := Lib.hid hall
    have HB := Lib.hid hb
    obtain ⟨g0, g1, g2⟩ := HBX.out.kept hb
    clear hall hb
    by_cases hlt : k < l.length
    · have hi0 : (k : Int) < (l.length : Int) := by omega
      obtain ⟨bz, off, rfl, hbB, hcell⟩ := HL.out (by omega)
      have hc1 := (HB.out.cell (p := ⟨bz, off + k * 2, none⟩) hbB).trans (hcell k hlt).1
      have hc2 := (HB.out.cell (p := ⟨bz, off + k * 2 + 1, none⟩) hbB).trans (hcell k hlt).2
      have HNX := Lib.hid (fun (h : hitB a b (l.getD k (0, 0)) = false) (j : Nat) (hj : j < k + 1) => (if e : j = k then by rw [e]; exact h else HALL.out j (by omega) : hitB a b (l.getD j (0, 0)) = false))
      have hm := hit_min (a := a) (b := b) (HBAR.out k hlt)
      obtain ⟨x, hx⟩ : ∃ x, l.getD k (0, 0) = x := ⟨_, rfl⟩
      rw [hx] at hc1 hc2 hm
      have HX := Lib.hid hx
      have HM := Lib.hid hm
      obtain ⟨x1, x2⟩ := x
      clear hcell hx hm
      by_cases e1 : x1 = min a b
      · by_cases e2 : x2 = max a b
        · have HH := Lib.hid (show hitB a b (x1, x2) = true by rw [HM.out, decide_eq_true e1, decide_eq_true e2]; rfl)
          have d1 : (x1 == min a b) = true := by simpa using e1
          have d2 : (x2 == max a b) = true := by simpa using e2
          have HHT := Lib.hid (show hitB a b (l.getD k (0, 0)) = true by rw [HX.out]; exact HH.out)
          clear e1 e2
          go_wp2_with fail
          go_ret
          exact ⟨below_on HA.out HB.out HA.out.size, .inr ⟨k, hlt, rfl, HHT.out, HALL.out⟩⟩
        · have HH := Lib.hid (show hitB a b (x1, x2) = false by rw [HM.out, decide_eq_true e1, decide_eq_false e2]; rfl)
          have d1 : (x1 == min a b) = true := by simpa using e1
          have d2 : (x2 == max a b) = false := by simpa using e2
          have HN := Lib.hid (HNX.out (by rw [HX.out]; exact HH.out))
          clear e1 e2
          go_wp2_with fail
          go_roundw
          case rel => exact ⟨k + 1, by omega, by go_num, HN.out, HB.out⟩
          case measure => simp [intOf]; omega
      · have HH := Lib.hid (show hitB a b (x1, x2) = false by rw [HM.out, decide_eq_false e1]; rfl)
        have d1 : (x1 == min a b) = false := by simpa using e1
        have HN := Lib.hid (HNX.out (by rw [HX.out]; exact HH.out))
        clear e1
        go_wp2_with fail
        go_roundw
        case rel => exact ⟨k + 1, by omega, by go_num, HN.out, HB.out⟩
        case measure => simp [intOf]; omega
    · obtain rfl : k = l.length := by omega
      go_wp2_with fail
      go_ret
      exact ⟨below_on HA.out HB.out HA.out.size, .inl ⟨rfl, HALL.out⟩⟩
theorem at_yes (p a b : Int) (l : List (Int × Int)) (A : Option Addr) (cap : Nat) (w : World) (hl : BarsAt w w.heap.size A l) (hG : IsG p l) (hc : 0 < l.countP (hitB a b)) :
    Calls Try.prog 99 #[.agg #[.int .i64 p, .slice A l.length cap], .int .i64 a, .int .i64 b] w fun e w' => e = .returned (.int .i64 (l.findIdx (hitB a b) : Int)) ∧ l.findIdx (hitB a b) < l.length ∧ Below w.heap.size w w' :=
  (at_c p a b l A cap w hl hG).mono fun e w' ⟨hb, h⟩ => by
    rcases h with ⟨_, h⟩ | ⟨i, hi, he, hh, hnn⟩
    · have := count_none (f := hitB a b) h
      omega
    · rw [findIdx_at hi hh hnn]
      exact ⟨he, hi, hb⟩
theorem at_no (p a b : Int) (l : List (Int × Int)) (A : Option Addr) (cap : Nat) (w : World) (hl : BarsAt w w.heap.size A l) (hG : IsG p l) (hc : l.countP (hitB a b) = 0) :
    Calls Try.prog 99 #[.agg #[.int .i64 p, .slice A l.length cap], .int .i64 a, .int .i64 b] w fun e w' => e = .returned (.int .i64 (-1)) ∧ Below w.heap.size w w' :=
  (at_c p a b l A cap w hl hG).mono fun e w' ⟨hb, h⟩ => by
    rcases h with ⟨he, _⟩ | ⟨i, hi, _, hh, _⟩
    · exact ⟨he, hb⟩
    · have h1 := List.countP_eq_zero.1 hc _ (List.getElem_mem hi)
      rw [show l.getD i (0, 0) = l[i] by simp [List.getD, List.getElem?_eq_getElem hi]] at hh
      exact absurd hh h1
end Go.Proofs.Ytggibhhdnlifcaa
