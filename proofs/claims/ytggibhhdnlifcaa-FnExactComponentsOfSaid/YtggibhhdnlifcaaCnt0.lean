/- Graphs of fewer bars; sets of points that span too many. Words on lists, of no program. No condition. -/
import Derived.Test.YtggibhhdnlifcaaSetM
namespace Go.Proofs.Ytggibhhdnlifcaa
theorem isG_ofB {p : Int} {l : List (Int × Int)} (hp : 1 ≤ p ∧ p ≤ 8) (hl : l.length ≤ 24) (hb : ∀ x ∈ l, 0 ≤ x.1 ∧ x.1 < x.2 ∧ x.2 < p) (ho : OrdB l) : IsG p l := by
  refine ⟨hp, hl, fun i hi => ?_⟩
  have hg : l.getD i (0, 0) = l[i] := by simp [List.getD, List.getElem?_eq_getElem hi]
  have hm := hb l[i] (List.getElem_mem hi)
  unfold OkBar
  rw [hg]
  refine ⟨hm.1, hm.2.1, hm.2.2, fun h0 => ?_⟩
  have hi' : i - 1 < l.length := by omega
  have hg' : l.getD (i - 1) (0, 0) = l[i - 1] := by simp [List.getD, List.getElem?_eq_getElem hi']
  rw [hg']
  exact List.pairwise_iff_getElem.1 ho (i - 1) i hi' hi (by omega)
theorem isG_sub {p : Int} {l l' : List (Int × Int)} (h : IsG p l) (hs : l'.Sublist l) : IsG p l' := by
  refine isG_ofB h.1 (Nat.le_trans hs.length_le h.2.1) (fun x hx => ?_) ((isG_ord h).sublist hs)
  obtain ⟨i, hi, rfl⟩ := List.getElem_of_mem (hs.subset hx)
  have := isG_bar h i hi
  simpa [List.getD, List.getElem?_eq_getElem hi] using this
theorem isGB_iff {p : Int} {l : List (Int × Int)} : isGB p l = true ↔ IsG p l := ⟨fun h => Classical.byContradiction fun g => (by rw [isGB_no g] at h; cases h), isGB_yes⟩
theorem bad_sub {l l' : List (Int × Int)} {k c : Int} {P m : Nat} (hs : l'.Sublist l) (h : badS l k c P m = false) : badS l' k c P m = false := by
  have hc : cntS l' m ≤ cntS l m := hs.countP_le
  unfold badS at *
  simp only [Bool.and_eq_false_iff, decide_eq_false_iff_not] at *
  omega
theorem take_drop_sub (l : List (Int × Int)) (i : Nat) : (l.take i ++ l.drop (i + 1)).Sublist l := by
  have h : l.take i ++ l.drop i = l := List.take_append_drop i l
  conv => rhs; rw [← h]
  refine List.Sublist.append (List.Sublist.refl _) ?_
  rw [← List.drop_drop]
  exact List.drop_sublist _ _
end Go.Proofs.Ytggibhhdnlifcaa
