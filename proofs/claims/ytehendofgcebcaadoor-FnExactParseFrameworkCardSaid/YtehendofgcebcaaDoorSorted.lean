/- What the library's slices.IsSortedFunc answers of bars. No condition. -/
import Derived.Test.YtehendofgcebcaaDoorCompare
namespace Go.Proofs.YtehendofgcebcaaDoor
open Go.RowKit

/-- Each bar but the first stands behind or beside the one before it. -/
def Srt (l : List (Int × Int)) : Prop := ∀ j : Nat, 0 < j → j < l.length → aftB (l.getD (j - 1) (0, 0)) (l.getD j (0, 0)) = true
open Classical in
noncomputable def sortedB (l : List (Int × Int)) : Bool := if Srt l then true else false
theorem sortedB_yes {l : List (Int × Int)} (h : Srt l) : sortedB l = true := by unfold sortedB; rw [if_pos h]
theorem sortedB_no {l : List (Int × Int)} (h : ¬ Srt l) : sortedB l = false := by unfold sortedB; rw [if_neg h]

set_option maxHeartbeats 1000000 in
set_option maxRecDepth 100000 in
theorem sorted_c (l : List (Int × Int)) (A : Option Addr) (cap : Nat) (w : World) (hl : BarsAt w w.heap.size A l) (hn : l.length ≤ 24) :
    Calls Tryd.prog 64 #[.slice A l.length cap, .func (.func 65) #[] #[]] w fun e w' => e = .returned (.bool (sortedB l)) ∧ Below w.heap.size w w' := by
  have HL := Lib.hid hl
  clear hl
  go_enter Tryd.func64, Tryd.ntmps64
  go_wp2_with fail
  go_loopw [5] (fun i wr => ∃ v : Int, i = .int .i64 v ∧ -1 ≤ v ∧ v < (l.length : Int) ∧ (∀ j : Nat, v < (j : Int) → 0 < j → j < l.length → aftB (l.getD (j - 1) (0, 0)) (l.getD j (0, 0)) = true) ∧ Below w.heap.size w wr) (fun i _ => (intOf i).toNat)
  case atStart => exact ⟨(l.length : Int) - 1, by go_num, by omega, by omega, fun j h1 _ h2 => by omega, Below.refl _ _⟩
  case round =>
    obtain ⟨v, rfl, hv1, hv2, hall, hb⟩ := hrel
    have HB := Lib.hid hb
    have HALL := Lib.hid hall
    have hbs := hb.size
    clear hb hall
    by_cases hv : 0 < v
    · obtain ⟨k, rfl⟩ : ∃ k : Nat, v = (k : Int) + 1 := ⟨(v - 1).toNat, by omega⟩
      obtain ⟨b, off, rfl, hbB, hcell⟩ := HL.out (by omega)
      have hc1 := (HB.out.cell (p := ⟨b, off + (k + 1) * 2, none⟩) hbB).trans (hcell (k + 1) (by omega)).1
      have hc2 := (HB.out.cell (p := ⟨b, off + (k + 1) * 2 + 1, none⟩) hbB).trans (hcell (k + 1) (by omega)).2
      have hc3 := (HB.out.cell (p := ⟨b, off + k * 2, none⟩) hbB).trans (hcell k (by omega)).1
      have hc4 := (HB.out.cell (p := ⟨b, off + k * 2 + 1, none⟩) hbB).trans (hcell k (by omega)).2
      have HS := Lib.hid (fun (h : aftB (l.getD k (0, 0)) (l.getD (k + 1) (0, 0)) = true) (j : Nat) (h1 : (k : Int) < (j : Int)) (h2 : 0 < j) (h3 : j < l.length) => (if e : j = k + 1 then by subst e; exact h else HALL.out j (by omega) h2 h3 : aftB (l.getD (j - 1) (0, 0)) (l.getD j (0, 0)) = true))
      have HN := Lib.hid (fun h : Srt l => h (k + 1) (by omega) (by omega))
      clear hcell
      obtain ⟨x, hx⟩ : ∃ x, l.getD (k + 1) (0, 0) = x := ⟨_, rfl⟩
      obtain ⟨y, hy⟩ : ∃ y, l.getD k (0, 0) = y := ⟨_, rfl⟩
      rw [hx] at hc1 hc2
      rw [hy] at hc3 hc4
      have HSY := Lib.hid (show aftB y x = true → _ from fun h => HS.out (by rw [hx, hy]; exact h))
      have HNY := Lib.hid (show aftB y x = false → ¬ Srt l from fun h k' => by
        have := HN.out k'
        rw [Nat.add_sub_cancel, hx, hy, h] at this
        cases this)
      have HCB := Lib.hid (cmpB_neg x y)
      clear HS HN hx hy
      have hk1 : (0 : Int) ≤ (k : Int) + 1 := by omega
      have htn : ((k : Int) + 1).toNat = k + 1 := by omega
      have hk2 : (k : Int) < (l.length : Int) := by omega
      have hwr : IntKind.i64.wrap (k : Int) = (k : Int) := IntWalk.i64_in _ (by omega)
      obtain ⟨x1, x2⟩ := x
      obtain ⟨y1, y2⟩ := y
      simp only at hc1 hc2 hc3 hc4
      go_wp2_with fail
      go_still_tail 10, (by kernel_rfl)
      change wpList _ _ _ _ _ wr.drew
      have HD := Lib.hid (HB.out.drew)
      have hds : w.heap.size ≤ wr.drew.heap.size := hbs
      clear hc1 hc2 hc3 hc4
      generalize wr.drew = w2 at *
      go_wp2_with fail
      refine (compare_b (x1, x2) (y1, y2) _).mono ?_
      rintro e w3 ⟨rfl, hb3⟩
      have HB3 := Lib.hid (HD.out.trans (hb3.mono hds))
      clear hb3
      by_cases ha : aftB (y1, y2) (x1, x2) = true
      · have hlt : ¬ cmpB (x1, x2) (y1, y2) < 0 := fun h => by have := HCB.out.1 h; rw [this] at ha; cases ha
        have HH := Lib.hid (HSY.out ha)
        clear ha
        go_wp2_with fail
        go_roundw
        case rel => exact ⟨(k : Int), by go_num, by omega, by omega, HH.out, HB3.out⟩
        case measure => simp [intOf] <;> omega
      · have ha' : aftB (y1, y2) (x1, x2) = false := by simpa using ha
        have hlt : cmpB (x1, x2) (y1, y2) < 0 := HCB.out.2 ha'
        have HH := Lib.hid (sortedB_no (HNY.out ha'))
        clear ha ha'
        go_wp2_with fail
        go_ret
        exact ⟨by rw [HH.out]; rfl, HB3.out⟩
    · have HH := Lib.hid (sortedB_yes (l := l) fun j h1 h2 => HALL.out j (by omega) h1 h2)
      go_wp2_with fail
      go_ret
      exact ⟨by rw [HH.out]; rfl, HB.out⟩
end Go.Proofs.YtehendofgcebcaaDoor
