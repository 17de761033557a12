/- What spec.l2After and spec.IsGraph answer. No condition. -/
import Derived.Test.YtehendofgcebcaaDoorBar
import Derived.Test.YtehendofgcebcaaDoorIn
import Derived.StillTailTactics
import Derived.Deep.QuietTactic
import Derived.BigQuiet
namespace Go.Proofs.YtehendofgcebcaaDoor
open Go.RowKit

/-- One bar stands before or beside another. -/
def aftB (a b : Int × Int) : Bool := decide (a.1 < b.1 ∨ a.1 = b.1 ∧ a.2 ≤ b.2)

theorem after_yes (a b : Int × Int) (w : World) (h : aftB a b = true) :
    Calls Tryd.prog 62 #[.agg #[.int .i64 a.1, .int .i64 a.2], .agg #[.int .i64 b.1, .int .i64 b.2]] w fun e w' => e = .returned (.bool true) ∧ Below w.heap.size w w' := by
  obtain ⟨x, y⟩ := a
  obtain ⟨u, v⟩ := b
  have h' : x < u ∨ (¬ x < u ∧ x = u ∧ y ≤ v) := by
    have := of_decide_eq_true h
    simp only at this
    omega
  clear h
  rcases h' with h | ⟨h1, rfl, h3⟩
  all_goals
    go_enter Tryd.func62, Tryd.ntmps62
    go_wp2
    go_ret
    exact ⟨by simp [*], ((Below.refl _ _).alloc (Nat.le_refl _) _).alloc (by simp) _⟩
theorem after_no (a b : Int × Int) (w : World) (h : aftB a b = false) :
    Calls Tryd.prog 62 #[.agg #[.int .i64 a.1, .int .i64 a.2], .agg #[.int .i64 b.1, .int .i64 b.2]] w fun e w' => e = .returned (.bool false) ∧ Below w.heap.size w w' := by
  obtain ⟨x, y⟩ := a
  obtain ⟨u, v⟩ := b
  have h' : (u < x) ∨ (x = u ∧ v < y) := by
    have := of_decide_eq_false h
    simp only at this
    omega
  clear h
  rcases h' with h | ⟨rfl, h3⟩
  · have hne : (x == u) = false := by simp; omega
    go_enter Tryd.func62, Tryd.ntmps62
    go_wp2
    go_ret
    exact ⟨by simp; omega, ((Below.refl _ _).alloc (Nat.le_refl _) _).alloc (by simp) _⟩
  · go_enter Tryd.func62, Tryd.ntmps62
    go_wp2
    go_ret
    exact ⟨by simp; omega, ((Below.refl _ _).alloc (Nat.le_refl _) _).alloc (by simp) _⟩

/-- The bar at place i is as a graph of p points wants it. -/
def OkBar (p : Int) (l : List (Int × Int)) (i : Nat) : Prop :=
  0 ≤ (l.getD i (0, 0)).1 ∧ (l.getD i (0, 0)).1 < (l.getD i (0, 0)).2 ∧ (l.getD i (0, 0)).2 < p ∧ (0 < i → aftB (l.getD (i - 1) (0, 0)) (l.getD i (0, 0)) = true)
/-- A graph. -/
def IsG (p : Int) (l : List (Int × Int)) : Prop := (1 ≤ p ∧ p ≤ 8) ∧ l.length ≤ 24 ∧ ∀ i, i < l.length → OkBar p l i
open Classical in
noncomputable def isGB (p : Int) (l : List (Int × Int)) : Bool := if IsG p l then true else false
theorem isGB_yes {p : Int} {l : List (Int × Int)} (h : IsG p l) : isGB p l = true := by unfold isGB; rw [if_pos h]
theorem isGB_no {p : Int} {l : List (Int × Int)} (h : ¬ IsG p l) : isGB p l = false := by unfold isGB; rw [if_neg h]

set_option maxHeartbeats 1000000 in
set_option maxRecDepth 100000 in
theorem specIsGraph (p : Int) (l : List (Int × Int)) (A : Option Addr) (cap : Nat) (w : World) (hl : BarsAt w w.heap.size A l) (hn : l.length ≤ 140737488351232) :
    Calls Tryd.prog 41 #[.agg #[.int .i64 p, .slice A l.length cap]] w fun e w' => e = .returned (.bool (isGB p l)) ∧ Below w.heap.size w w' := by
  have hA : Below w.heap.size w (w.alloc (.cells #[.int .i64 p, .slice A l.length cap] 32)) := (Below.refl _ _).alloc (Nat.le_refl _) _
  have HL := Lib.hid hl
  have HA := Lib.hid hA
  clear hl hA
  by_cases hp : 1 ≤ p ∧ p ≤ 8
  · by_cases h24 : l.length ≤ 24
    · have hc0 : (w.alloc (.cells #[.int .i64 p, .slice A l.length cap] 32)).cell? ⟨w.heap.size, 0, none⟩ = some (.int .i64 p) := by rw [World.cell?_alloc_at _ _ _ _ rfl]; rfl
      have hc1 : (w.alloc (.cells #[.int .i64 p, .slice A l.length cap] 32)).cell? ⟨w.heap.size, 1, none⟩ = some (.slice A l.length cap) := by rw [World.cell?_alloc_at _ _ _ _ rfl]; rfl
      have HC0 := Lib.hid hc0
      have HC1 := Lib.hid hc1
      clear hc0 hc1
      go_enter Tryd.func41, Tryd.ntmps41
      go_wp2_with fail
      refine (l1In_yes _ _ _ _ hp.1 hp.2).mono ?_
      rintro e w1 ⟨rfl, rfl⟩
      go_wp2_with fail
      go_loopw [3] (fun i wr => ∃ k : Nat, k ≤ l.length ∧ i = .int .i64 k ∧ (∀ j, j < k → OkBar p l j) ∧ Below (w.heap.size + 1) (w.alloc (.cells #[.int .i64 p, .slice A l.length cap] 32)) wr) (fun i _ => l.length - (intOf i).toNat)
      case atStart => exact ⟨0, by omega, rfl, fun j hj => absurd hj (by omega), Below.refl _ _⟩
      case round =>
        obtain ⟨k, hk, rfl, hok, hb⟩ := hrel
        have hg0 := (hb.cell (p := ⟨w.heap.size, 0, none⟩) (by simp)).trans HC0.out
        have hg1 := (hb.cell (p := ⟨w.heap.size, 1, none⟩) (by simp)).trans HC1.out
        have hbs := hb.size
        have HB := Lib.hid hb
        have HOK := Lib.hid hok
        clear hb hok
        simp only [World.size_alloc] at hbs
        by_cases hlt : k < l.length
        · have hi : (k : Int) < (l.length : Int) := by omega
          obtain ⟨b, off, rfl, hbB, hcell⟩ := HL.out (by omega)
          have hx1 := (((HA.out.trans (HB.out.mono (by omega))).cell (p := ⟨b, off + k * 2, none⟩) hbB).trans (hcell k hlt).1)
          have hx2 := (((HA.out.trans (HB.out.mono (by omega))).cell (p := ⟨b, off + k * 2 + 1, none⟩) hbB).trans (hcell k hlt).2)
          have HW := Lib.hid (HA.out.trans (HB.out.mono (by omega : w.heap.size ≤ w.heap.size + 1)))
          have HPREV := Lib.hid (show 0 < k → wr.cell? ⟨b, off + (k - 1) * 2, none⟩ = some (.int .i64 (l.getD (k - 1) (0, 0)).1) ∧ wr.cell? ⟨b, off + (k - 1) * 2 + 1, none⟩ = some (.int .i64 (l.getD (k - 1) (0, 0)).2) from fun h0 =>
            ⟨(HW.out.cell (p := ⟨b, off + (k - 1) * 2, none⟩) hbB).trans (hcell (k - 1) (by omega)).1, (HW.out.cell (p := ⟨b, off + (k - 1) * 2 + 1, none⟩) hbB).trans (hcell (k - 1) (by omega)).2⟩)
          have HOKK := Lib.hid (fun h : IsG p l => h.2.2 k hlt)
          have HSTEP := Lib.hid (show OkBar p l k → ∀ j, j < k + 1 → OkBar p l j from fun h j hj => by
            by_cases e : j = k
            · subst e; exact h
            · exact HOK.out j (by omega))
          have hOKdef : OkBar p l k = (0 ≤ (l.getD k (0, 0)).1 ∧ (l.getD k (0, 0)).1 < (l.getD k (0, 0)).2 ∧ (l.getD k (0, 0)).2 < p ∧ (0 < k → aftB (l.getD (k - 1) (0, 0)) (l.getD k (0, 0)) = true)) := rfl
          have HDEF := Lib.hid hOKdef
          clear hcell hOKdef
          obtain ⟨x, hx⟩ : ∃ x, l.getD k (0, 0) = x := ⟨_, rfl⟩
          obtain ⟨q, hq⟩ : ∃ q, l.getD (k - 1) (0, 0) = q := ⟨_, rfl⟩
          rw [hx] at hx1 hx2
          rw [hx, hq] at HDEF
          rw [hq] at HPREV
          clear hx hq
          obtain ⟨x1, x2⟩ := x
          simp only at hx1 hx2 HDEF
          go_wp2_with fail
          have hal : Below wr.heap.size wr (wr.alloc (.cells #[.int .i64 x1, .int .i64 x2] 80)) := (Below.refl _ _).alloc (Nat.le_refl _) _
          have hw0 := (hal.cell (p := ⟨w.heap.size, 0, none⟩) (show w.heap.size < wr.heap.size by omega)).trans hg0
          have hw1 := (hal.cell (p := ⟨w.heap.size, 1, none⟩) (show w.heap.size < wr.heap.size by omega)).trans hg1
          have hw2 : (wr.alloc (.cells #[.int .i64 x1, .int .i64 x2] 80)).cell? ⟨wr.heap.size, 0, none⟩ = some (.int .i64 x1) := by rw [World.cell?_alloc_at _ _ _ _ rfl]; rfl
          have hw3 : (wr.alloc (.cells #[.int .i64 x1, .int .i64 x2] 80)).cell? ⟨wr.heap.size, 1, none⟩ = some (.int .i64 x2) := by rw [World.cell?_alloc_at _ _ _ _ rfl]; rfl
          have HWA := Lib.hid (HB.out.trans (hal.mono hbs))
          have HPA := Lib.hid (fun h0 : 0 < k => (⟨(hal.cell (p := ⟨b, off + (k - 1) * 2, none⟩) (show b < wr.heap.size by omega)).trans (HPREV.out h0).1, (hal.cell (p := ⟨b, off + (k - 1) * 2 + 1, none⟩) (show b < wr.heap.size by omega)).trans (HPREV.out h0).2⟩ : _ ∧ _))
          have hsA : (wr.alloc (.cells #[.int .i64 x1, .int .i64 x2] 80)).heap.size = wr.heap.size + 1 := by simp
          clear hal hx1 hx2 hg0 hg1
          generalize wr.alloc (.cells #[.int .i64 x1, .int .i64 x2] 80) = w2 at *
          by_cases c1 : x1 < 0
          · have Q := Lib.hid (isGB_no (p := p) (l := l) fun h => by have := HOKK.out h; rw [HDEF.out] at this; omega)
            go_quiet (fail)
            go_wp2_with fail
            go_ret
            exact ⟨by rw [Q.out]; rfl, (HA.out.trans (HWA.out.mono (by omega))).trans (below_drewN _ _ _)⟩
          · have d1 : decide (x1 < 0) = false := by simpa using c1
            by_cases c2 : x2 ≤ x1
            · have Q := Lib.hid (isGB_no (p := p) (l := l) fun h => by have := HOKK.out h; rw [HDEF.out] at this; omega)
              go_quiet (fail)
              go_wp2_with fail
              go_ret
              exact ⟨by rw [Q.out]; rfl, (HA.out.trans (HWA.out.mono (by omega))).trans (below_drewN _ _ _)⟩
            · have d2 : decide (x2 ≤ x1) = false := by simpa using c2
              by_cases c3 : p ≤ x2
              · have Q := Lib.hid (isGB_no (p := p) (l := l) fun h => by have := HOKK.out h; rw [HDEF.out] at this; omega)
                go_quiet (fail)
                go_wp2_with fail
                go_ret
                exact ⟨by rw [Q.out]; rfl, (HA.out.trans (HWA.out.mono (by omega))).trans (below_drewN _ _ _)⟩
              · have d3 : decide (p ≤ x2) = false := by simpa using c3
                by_cases c4 : k = 0
                · have hs := HSTEP.out (by rw [HDEF.out]; exact ⟨by omega, by omega, by omega, fun h => absurd h (by omega)⟩)
                  have HS := Lib.hid hs
                  have d4 : decide ((0 : Int) < (k : Int)) = false := by simp; omega
                  have d4n : decide (0 < k) = false := by simp; omega
                  clear hs c4
                  go_quiet (fail)
                  go_wp2_with fail
                  go_roundw
                  case rel => exact ⟨k + 1, by omega, by go_num, HS.out, HWA.out.trans (below_drewN _ _ _)⟩
                  case measure => simp [intOf]; omega
                · have d4 : (0 : Int) < (k : Int) := by omega
                  have d4n : decide (0 < k) = true := by simp; omega
                  obtain ⟨hp1, hp2⟩ := HPA.out (by omega)
                  have htn : ((k : Int) - 1).toNat = k - 1 := by omega
                  have hwr : IntKind.i64.wrap ((k : Int) - 1) = (k : Int) - 1 := IntWalk.i64_in _ (by omega)
                  have hk1 : 0 ≤ (k : Int) - 1 := by omega
                  have hk3 : (1 : Int) ≤ (k : Int) := by omega
                  have hk4 : 1 ≤ k := by omega
                  have hk2 : (k : Int) - 1 < (l.length : Int) := by omega
                  by_cases c5 : aftB q (x1, x2) = true
                  · have hs := HSTEP.out (by rw [HDEF.out]; exact ⟨by omega, by omega, by omega, fun _ => c5⟩)
                    have HS := Lib.hid hs
                    have H5 := Lib.hid c5
                    clear hs c5
                    go_still_tail 28, (by kernel_rfl)
                    change wpList _ _ _ _ _ w2.drew
                    go_wp2_with fail
                    refine (after_yes q (x1, x2) _ H5.out).mono ?_
                    rintro e w3 ⟨rfl, hb3⟩
                    have HB3 := Lib.hid ((HWA.out.drew).trans (hb3.mono (show w.heap.size + 1 ≤ w2.heap.size by omega)))
                    clear hb3
                    go_wp2_with fail
                    go_roundw
                    case rel => exact ⟨k + 1, by omega, by go_num, HS.out, HB3.out⟩
                    case measure => simp [intOf]; omega
                  · have Q := Lib.hid (isGB_no (p := p) (l := l) fun h => by have := HOKK.out h; rw [HDEF.out] at this; exact c5 (this.2.2.2 (by omega)))
                    have H5 := Lib.hid (show aftB q (x1, x2) = false by simpa using c5)
                    clear c5
                    go_still_tail 28, (by kernel_rfl)
                    change wpList _ _ _ _ _ w2.drew
                    go_wp2_with fail
                    refine (after_no q (x1, x2) _ H5.out).mono ?_
                    rintro e w3 ⟨rfl, hb3⟩
                    have HB3 := Lib.hid ((HWA.out.drew).trans (hb3.mono (show w.heap.size + 1 ≤ w2.heap.size by omega)))
                    clear hb3
                    go_wp2_with fail
                    go_ret
                    exact ⟨by rw [Q.out]; rfl, HA.out.trans (HB3.out.mono (by omega))⟩
        · obtain rfl : k = l.length := by omega
          have Q := Lib.hid (isGB_yes (p := p) (l := l) ⟨hp, h24, HOK.out⟩)
          go_wp2_with fail
          go_ret
          exact ⟨by rw [Q.out]; rfl, HA.out.trans (HB.out.mono (by omega))⟩
    · have Q := Lib.hid (isGB_no (p := p) (l := l) fun h => h24 h.2.1)
      have h24' : (24 : Int) < (l.length : Int) := by omega
      go_enter Tryd.func41, Tryd.ntmps41
      go_wp2_with fail
      refine (l1In_yes _ _ _ _ hp.1 hp.2).mono ?_
      rintro e w1 ⟨rfl, rfl⟩
      go_wp2_with fail
      go_ret
      exact ⟨by rw [Q.out]; rfl, HA.out⟩
  · have Q := Lib.hid (isGB_no (p := p) (l := l) fun h => hp h.1)
    have HP := Lib.hid (show p < 1 ∨ 8 < p by omega)
    clear hp
    go_enter Tryd.func41, Tryd.ntmps41
    go_wp2_with fail
    refine (l1In_no _ _ _ _ HP.out).mono ?_
    rintro e w1 ⟨rfl, rfl⟩
    go_wp2_with fail
    go_ret
    exact ⟨by rw [Q.out]; rfl, HA.out⟩
end Go.Proofs.YtehendofgcebcaaDoor
