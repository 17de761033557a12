/- What the program's IsGraph answers: the same as the specification's. No condition. -/
import Derived.Test.YtehendofgcebcaaDoorSorted
namespace Go.Proofs.YtehendofgcebcaaDoor
open Go.RowKit

theorem specIsGraph' (p : Int) (l : List (Int × Int)) (A : Option Addr) (cap : Nat) (w : World) (hl : BarsAt w w.heap.size A l) (hn : l.length ≤ 1048576) :
    Calls Tryd.prog 41 #[.agg #[.int .i64 p, .slice A l.length cap]] w fun e w' => e = .returned (.bool (isGB p l)) ∧ Below w.heap.size w w' := specIsGraph p l A cap w hl (by omega)

/-- A bar's ends are in order and below p. -/
def EndsOk (p : Int) (l : List (Int × Int)) (k : Nat) : Prop := 0 ≤ (l.getD k (0, 0)).1 ∧ (l.getD k (0, 0)).1 < (l.getD k (0, 0)).2 ∧ (l.getD k (0, 0)).2 < p
theorem isG_of {p : Int} {l : List (Int × Int)} (hp : 1 ≤ p ∧ p ≤ 8) (h24 : l.length ≤ 24) (he : ∀ k, k < l.length → EndsOk p l k) (hs : Srt l) : IsG p l :=
  ⟨hp, h24, fun i hi => ⟨(he i hi).1, (he i hi).2.1, (he i hi).2.2, fun h0 => hs i h0 hi⟩⟩
theorem srt_of {p : Int} {l : List (Int × Int)} (h : IsG p l) : Srt l := fun j h0 hj => (h.2.2 j hj).2.2.2 h0

set_option maxHeartbeats 2000000 in
set_option maxRecDepth 100000 in
theorem implIsGraph (p : Int) (l : List (Int × Int)) (A : Option Addr) (cap : Nat) (w : World) (hl : BarsAt w w.heap.size A l) (hn : l.length ≤ 1048576) :
    Calls Tryd.prog 45 #[.agg #[.int .i64 p, .slice A l.length cap]] w fun e w' => e = .returned (.bool (isGB p l)) ∧ Below w.heap.size w w' := by
  have hA := new_below w (.cells #[.int .i64 p, .slice A l.length cap] 32)
  have HA := Lib.hid hA
  have HL := Lib.hid (hl.on hA)
  have BX := Lib.hid (box_new w p (.slice A l.length cap) 32)
  clear hl hA
  by_cases hp : 1 ≤ p ∧ p ≤ 8
  · by_cases h24 : l.length ≤ 24
    · obtain ⟨hp1, hp2⟩ := hp
      have d1 : ¬ p < 1 := by omega
      have d2 : ¬ 8 < p := by omega
      have d3 : ¬ (24 : Int) < (l.length : Int) := by omega
      go_enter Tryd.func45, Tryd.ntmps45
      go_wp2_with fail
      generalize (w.alloc (.cells #[.int .i64 p, .slice A l.length cap] 32)) = w0 at *
      go_loopw [22] (fun i wr => ∃ k : Nat, k ≤ l.length ∧ i = .int .i64 k ∧ (∀ j, j < k → EndsOk p l j) ∧ Below w0.heap.size w0 wr) (fun i _ => l.length - (intOf i).toNat)
      case atStart => exact ⟨0, by omega, rfl, fun j hj => absurd hj (by omega), Below.refl _ _⟩
      case round =>
        obtain ⟨k, hk, rfl, hok, hb⟩ := hrel
        have BX1 := Lib.hid (BX.out.kept hb)
        have HB := Lib.hid hb
        have HOK := Lib.hid hok
        have hbs := hb.size
        clear hb hok
        by_cases hlt : k < l.length
        · have hi : (k : Int) < (l.length : Int) := by omega
          obtain ⟨b, off, rfl, hbB, hcell⟩ := HL.out (by omega)
          have hc1 := (HB.out.cell (p := ⟨b, off + k * 2, none⟩) hbB).trans (hcell k hlt).1
          have hc2 := (HB.out.cell (p := ⟨b, off + k * 2 + 1, none⟩) hbB).trans (hcell k hlt).2
          have HSTEP := Lib.hid (show EndsOk p l k → ∀ j, j < k + 1 → EndsOk p l j from fun h j hj => by
            by_cases e : j = k
            · subst e; exact h
            · exact HOK.out j (by omega))
          have HNOT := Lib.hid (show ¬ EndsOk p l k → isGB p l = false from fun h => isGB_no fun g => h ⟨(g.2.2 k hlt).1, (g.2.2 k hlt).2.1, (g.2.2 k hlt).2.2.1⟩)
          have HDEF := Lib.hid (show EndsOk p l k = (0 ≤ (l.getD k (0, 0)).1 ∧ (l.getD k (0, 0)).1 < (l.getD k (0, 0)).2 ∧ (l.getD k (0, 0)).2 < p) from rfl)
          obtain ⟨x, hx⟩ : ∃ x, l.getD k (0, 0) = x := ⟨_, rfl⟩
          rw [hx] at hc1 hc2 HDEF
          clear hx hcell
          obtain ⟨x1, x2⟩ := x
          simp only at hc1 hc2 HDEF
          have hal := new_below wr (.cells #[.int .i64 x1, .int .i64 x2] 80)
          have BX2 := Lib.hid (BX1.out.kept hal)
          have HX2 := Lib.hid (box_new wr x1 (.int .i64 x2) 80)
          have HB2 := Lib.hid (below_on HB.out hal hbs)
          clear hal
          obtain ⟨_, g2, g3⟩ := BX2.out
          by_cases c1 : x1 < 0
          · have Q := Lib.hid (HNOT.out (by rw [HDEF.out]; omega))
            go_wp2_with fail
            go_ret
            exact ⟨by rw [Q.out]; rfl, below_on HA.out HB2.out HA.out.size⟩
          · by_cases c2 : x2 ≤ x1
            · have Q := Lib.hid (HNOT.out (by rw [HDEF.out]; omega))
              go_wp2_with fail
              go_ret
              exact ⟨by rw [Q.out]; rfl, below_on HA.out HB2.out HA.out.size⟩
            · by_cases c3 : p ≤ x2
              · have Q := Lib.hid (HNOT.out (by rw [HDEF.out]; omega))
                go_wp2_with fail
                go_ret
                exact ⟨by rw [Q.out]; rfl, below_on HA.out HB2.out HA.out.size⟩
              · have HS := Lib.hid (HSTEP.out (by rw [HDEF.out]; omega))
                go_wp2_with fail
                go_roundw
                case rel => exact ⟨k + 1, by omega, by go_num, HS.out, HB2.out⟩
                case measure => simp [intOf]; omega
        · obtain rfl : k = l.length := by omega
          have HQ := Lib.hid (show isGB p l = sortedB l by
            by_cases h : Srt l
            · rw [sortedB_yes h, isGB_yes (isG_of ⟨hp1, hp2⟩ h24 HOK.out h)]
            · rw [sortedB_no h, isGB_no fun g => h (srt_of g)])
          obtain ⟨_, g2, g3⟩ := BX1.out
          go_wp2_with fail
          clear g2 g3
          refine (sorted_c l A cap _ (HL.out.on HB.out) h24).mono ?_
          rintro e w3 ⟨rfl, hb3⟩
          have HB3 := Lib.hid (below_on (below_on HA.out HB.out HA.out.size) hb3 (Nat.le_trans HA.out.size hbs))
          clear hb3
          go_wp2_with fail
          go_ret
          exact ⟨by rw [HQ.out]; rfl, HB3.out⟩
    · obtain ⟨hp1, hp2⟩ := hp
      have d1 : ¬ p < 1 := by omega
      have d2 : ¬ 8 < p := by omega
      have d3 : (24 : Int) < (l.length : Int) := by omega
      have Q := Lib.hid (isGB_no (p := p) (l := l) fun g => h24 g.2.1)
      go_enter Tryd.func45, Tryd.ntmps45
      go_wp2_with fail
      go_ret
      exact ⟨by rw [Q.out]; rfl, HA.out⟩
  · have Q := Lib.hid (isGB_no (p := p) (l := l) fun g => hp g.1)
    by_cases d1 : p < 1
    · clear hp
      go_enter Tryd.func45, Tryd.ntmps45
      go_wp2_with fail
      go_ret
      exact ⟨by rw [Q.out]; rfl, HA.out⟩
    · have d2 : 8 < p := by omega
      clear hp
      go_enter Tryd.func45, Tryd.ntmps45
      go_wp2_with fail
      go_ret
      exact ⟨by rw [Q.out]; rfl, HA.out⟩
end Go.Proofs.YtehendofgcebcaaDoor
