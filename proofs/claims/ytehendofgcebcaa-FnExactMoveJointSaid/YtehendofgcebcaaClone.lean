/- Copies of rows of bars: slices.Clone. No condition. -/
import Derived.Test.YtehendofgcebcaaCopyS
namespace Go.Proofs.Ytehendofgcebcaa
open Go.RowKit

set_option maxHeartbeats 2000000 in
set_option maxRecDepth 100000 in
theorem slClone (l : List (Int × Int)) (A : Option Addr) (cap : Nat) (w : World) (hl : BarsAt w w.heap.size A l) (hn : l.length ≤ 1048576) :
    Calls Try.prog 169 #[.slice A l.length cap] w (RowO w l) := by
  obtain ⟨i0, hi0, hz0, hz1, hz2⟩ := info_parts infoBar
  have q : ∀ (w : World) (a : Option Addr) (n c n' c' : Nat), (binOp .eql 47 (.slice a n c) (.slice none n' c')).run Try.prog w = .ok (.bool a.isNone) w := fun w a n c n' c' => Go.Lib.run_eql_slice_nil w _ _ a n c n' c' Try.underlying47
  have hm := World.ownsRow_made (base := w.heap.size) (e := 108) (size := 2) w #[] 0 (Nat.le_refl _) (by unfold maxLen; omega) (by simp)
  have HM := Lib.hid hm
  clear hm
  cases A with
  | none =>
    have h0 : l = [] := by
      refine List.eq_nil_of_length_eq_zero (Nat.eq_zero_of_not_pos fun h => ?_)
      obtain ⟨b, off, e, _⟩ := hl h
      cases e
    subst h0
    clear hl
    go_enter Try.func169, Try.ntmps169
    go_wp2_with fail
    go_ret
    exact ⟨none, 0, rfl, ⟨rfl, .inl ⟨rfl, rfl⟩⟩, Below.refl _ _⟩
  | some a =>
    have HC := Lib.hid (show ∀ j u, (barCells l)[j]? = some u → (w.alloc (.cells #[] 108)).cell? (a.add j) = some u from fun j u hj => by
      have hlt : j < l.length * 2 := by
        have := (List.getElem?_eq_some_iff.1 hj).1
        rwa [barCells_len] at this
      obtain ⟨b, off, e, hb, hc⟩ := hl (by omega)
      cases e
      have hadd : (⟨b, off, none⟩ : Addr).add j = ⟨b, off + j, none⟩ := by unfold Addr.add; split <;> simp_all
      rw [hadd, World.cell?_alloc_past (w := w) _ b _ hb]
      exact barCells_at hc j u hj)
    clear hl
    go_enter Try.func169, Try.ntmps169
    go_wp2_with (at_builtin; refine wpList_append_own _ rfl _ _ 47 rfl w.heap.size 108 i0 _ 2 16 Try.underlying47 hi0 hz0 hz1 hz2 rfl (by omega) _ 0 [] rfl HM.out a l.length cap (barCells l) rfl (barCells_len l) HC.out (barCells_one l) (by unfold maxLen; omega) (by omega) (by simp) ?_; intro v' w' ho hg hnil; rw [Nat.zero_add, List.nil_append] at ho; obtain ⟨A2, c2, rfl⟩ := own_shape ho; have HO := Lib.hid ho; have HG := Lib.hid (show Below w.heap.size w w' from (new_below w _).grown hg (by simp) (fun k hk => by cases hk; exact Nat.le_refl _)); clear ho hg hnil)
    go_ret
    exact ⟨A2, c2, rfl, HO.out, HG.out⟩
end Go.Proofs.Ytehendofgcebcaa
