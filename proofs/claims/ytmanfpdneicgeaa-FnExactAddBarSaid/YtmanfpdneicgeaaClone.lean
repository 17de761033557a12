/- Copies of rows of bars: slices.Clone, Graph.clone, spec.l2Copy. No condition. -/
import Derived.Test.YtmanfpdneicgeaaGBox
import Derived.Test.YtmanfpdneicgeaaIsGraphI
import Derived.Deep.AppendLies
import Derived.Deep.RegionLaw
import Derived.Deep.RegionHeld3
import Derived.Lib.SliceRun
namespace Go.Proofs.Ytmanfpdneicgeaa
open Go.RowKit

theorem barCells_at {w : World} {b off : Nat} {l : List (Int × Int)} (h : ∀ k, k < l.length → w.cell? ⟨b, off + k * 2, none⟩ = some (.int .i64 (l.getD k (0, 0)).1) ∧ w.cell? ⟨b, off + k * 2 + 1, none⟩ = some (.int .i64 (l.getD k (0, 0)).2)) : ∀ j u, (barCells l)[j]? = some u → w.cell? ⟨b, off + j, none⟩ = some u := by
  intro j u hj
  have hlt : j < l.length * 2 := by
    have := (List.getElem?_eq_some_iff.1 hj).1
    rwa [barCells_len] at this
  have hj2 : j = j / 2 * 2 ∨ j = j / 2 * 2 + 1 := by omega
  have hk : j / 2 < l.length := by omega
  generalize j / 2 = k at *
  have hg := barCells_get l k hk
  have hc := h k hk
  rcases hj2 with rfl | rfl
  · rw [hg.1] at hj
    cases hj
    exact hc.1
  · rw [hg.2] at hj
    cases hj
    exact hc.2
theorem barCells_one (l : List (Int × Int)) : ∀ u ∈ barCells l, u.oneCell' = true := by
  intro u hu
  obtain ⟨x, _, hx⟩ := List.mem_flatMap.1 hu
  simp at hx
  rcases hx with rfl | rfl <;> rfl

/-- A row of bars of the call's own. -/
def RowO (w : World) (l : List (Int × Int)) (e : Ending) (w' : World) : Prop :=
  ∃ A2 c2, e = .returned (.slice A2 l.length c2) ∧ w'.ownsRow w.heap.size 53 2 (.slice A2 l.length c2) l.length (barCells l) ∧ Below w.heap.size w w'

set_option maxHeartbeats 2000000 in
set_option maxRecDepth 100000 in
theorem slClone (l : List (Int × Int)) (A : Option Addr) (cap : Nat) (w : World) (hl : BarsAt w w.heap.size A l) (hn : l.length ≤ 1048576) :
    Calls Try.prog 66 #[.slice A l.length cap] w (RowO w l) := by
  obtain ⟨i0, hi0, hz0, hz1, hz2⟩ := info_parts infoBar
  have q : ∀ (w : World) (a : Option Addr) (n c n' c' : Nat), (binOp .eql 27 (.slice a n c) (.slice none n' c')).run Try.prog w = .ok (.bool a.isNone) w := fun w a n c n' c' => Go.Lib.run_eql_slice_nil w _ _ a n c n' c' Try.underlying27
  have hm := World.ownsRow_made (base := w.heap.size) (e := 53) (size := 2) w #[] 0 (Nat.le_refl _) (by unfold maxLen; omega) (by simp)
  have HM := Lib.hid hm
  clear hm
  cases A with
  | none =>
    have h0 : l = [] := by
      refine List.eq_nil_of_length_eq_zero (Nat.eq_zero_of_not_pos fun h => ?_)
      obtain ⟨b, off, e, _⟩ := hl h
      cases e
    subst h0
    clear hl
    go_enter Try.func66, Try.ntmps66
    go_wp2_with fail
    go_ret
    exact ⟨none, 0, rfl, ⟨rfl, .inl ⟨rfl, rfl⟩⟩, Below.refl _ _⟩
  | some a =>
    have HC := Lib.hid (show ∀ j u, (barCells l)[j]? = some u → (w.alloc (.cells #[] 53)).cell? (a.add j) = some u from fun j u hj => by
      have hlt : j < l.length * 2 := by
        have := (List.getElem?_eq_some_iff.1 hj).1
        rwa [barCells_len] at this
      obtain ⟨b, off, e, hb, hc⟩ := hl (by omega)
      cases e
      have hadd : (⟨b, off, none⟩ : Addr).add j = ⟨b, off + j, none⟩ := by unfold Addr.add; split <;> simp_all
      rw [hadd, World.cell?_alloc_past (w := w) _ b _ hb]
      exact barCells_at hc j u hj)
    clear hl
    go_enter Try.func66, Try.ntmps66
    go_wp2_with (at_builtin; refine wpList_append_own _ rfl _ _ 27 rfl w.heap.size 53 i0 _ 2 16 Try.underlying27 hi0 hz0 hz1 hz2 rfl (by omega) _ 0 [] rfl HM.out a l.length cap (barCells l) rfl (barCells_len l) HC.out (barCells_one l) (by unfold maxLen; omega) (by omega) (by simp) ?_; intro v' w' ho hg hnil; rw [Nat.zero_add, List.nil_append] at ho; obtain ⟨A2, c2, rfl⟩ := own_shape ho; have HO := Lib.hid ho; have HG := Lib.hid (show Below w.heap.size w w' from (new_below w _).grown hg (by simp) (fun k hk => by cases hk; exact Nat.le_refl _)); clear ho hg hnil)
    go_ret
    exact ⟨A2, c2, rfl, HO.out, HG.out⟩
end Go.Proofs.Ytmanfpdneicgeaa
