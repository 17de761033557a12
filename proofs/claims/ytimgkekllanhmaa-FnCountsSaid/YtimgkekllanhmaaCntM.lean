/- What the law on counts asks of sets and bars: without a bar a sparse graph is sparse; what is sparse for 2 and 3 is so for 2 and 2; a set that spans too many spans too many. No program. No condition. -/
import Derived.Test.YtimgkekllanhmaaSparse
import Derived.Test.YtimgkekllanhmaaRemoveS
namespace Go.Proofs.Ytimgkekllanhmaa

theorem isG_ofB {p : Int} {l : List (Int × Int)} (hp : 1 ≤ p ∧ p ≤ 8) (hl : l.length ≤ 24) (hb : ∀ x ∈ l, 0 ≤ x.1 ∧ x.1 < x.2 ∧ x.2 < p) (ho : OrdB l) : IsG p l := by
  refine ⟨hp, hl, fun i hi => ?_⟩
  have hg : l.getD i (0, 0) = l[i] := by simp [List.getD, List.getElem?_eq_getElem hi]
  have hm := hb l[i] (List.getElem_mem hi)
  unfold OkBar
  rw [hg]
  refine ⟨hm.1, hm.2.1, hm.2.2, fun h0 => ?_⟩
  have hi' : i - 1 < l.length := by omega
  have hg' : l.getD (i - 1) (0, 0) = l[i - 1] := by simp [List.getD, List.getElem?_eq_getElem hi']
  rw [hg']
  exact List.pairwise_iff_getElem.1 ho (i - 1) i hi' hi (by omega)
theorem isG_sub {p : Int} {l l' : List (Int × Int)} (h : IsG p l) (hs : l'.Sublist l) : IsG p l' := by
  refine isG_ofB h.1 (Nat.le_trans hs.length_le h.2.1) (fun x hx => ?_) ((isG_ord h).sublist hs)
  obtain ⟨i, hi, rfl⟩ := List.getElem_of_mem (hs.subset hx)
  have := isG_bar h i hi
  simpa [List.getD, List.getElem?_eq_getElem hi] using this
theorem isGB_iff {p : Int} {l : List (Int × Int)} : isGB p l = true ↔ IsG p l := ⟨fun h => Classical.byContradiction fun g => (by rw [isGB_no g] at h; cases h), isGB_yes⟩
theorem bad_sub {l l' : List (Int × Int)} {k c : Int} {P m : Nat} (hs : l'.Sublist l) (h : badS l k c P m = false) : badS l' k c P m = false := by
  have hc : cntS l' m ≤ cntS l m := hs.countP_le
  unfold badS at *
  simp only [Bool.and_eq_false_iff, decide_eq_false_iff_not] at *
  omega
theorem over_find {p k c : Int} {l : List (Int × Int)} (hg : isGB p l = true) (hr : rangeB k c = true) : overM p l k c = (List.range (2 ^ p.toNat)).find? (badS l k c p.toNat) := by
  unfold overM
  rw [if_pos (by rw [hg, hr]; rfl)]
theorem over_false {p k c : Int} {l : List (Int × Int)} (hg : isGB p l = true) (hr : rangeB k c = true) : overB p l k c = false ↔ ∀ m, m < 2 ^ p.toNat → badS l k c p.toNat m = false := by
  unfold overB
  rw [over_find hg hr]
  constructor
  · intro h m hm
    have h' : (List.range (2 ^ p.toNat)).find? (badS l k c p.toNat) = none := by simpa using h
    have := List.find?_eq_none.1 h' m (List.mem_range.2 hm)
    simpa using this
  · intro h
    have : (List.range (2 ^ p.toNat)).find? (badS l k c p.toNat) = none := List.find?_eq_none.2 fun m hm => by rw [h m (List.mem_range.1 hm)]; simp
    rw [this]
    rfl
theorem over_true {p k c : Int} {l : List (Int × Int)} (h : overB p l k c = true) : isGB p l = true ∧ rangeB k c = true ∧ ∃ m, m < 2 ^ p.toNat ∧ badS l k c p.toNat m = true ∧ overL p l k c = setL p.toNat m := by
  have hg : isGB p l = true := by
    cases e : isGB p l with
    | true => rfl
    | false => rw [(over_no (k := k) (c := c) (.inl e)).2] at h; cases h
  have hr : rangeB k c = true := by
    cases e : rangeB k c with
    | true => rfl
    | false => rw [(over_no (p := p) (l := l) (.inr e)).2] at h; cases h
  refine ⟨hg, hr, ?_⟩
  unfold overB at h
  obtain ⟨m, hm⟩ := Option.isSome_iff_exists.1 h
  have hm' := hm
  rw [over_find hg hr] at hm'
  exact ⟨m, List.mem_range.1 (List.mem_of_find?_eq_some hm'), List.find?_some hm', by unfold overL; rw [hm]⟩
theorem sparse_iff {p k c : Int} {l : List (Int × Int)} : sparseB p k c l = true ↔ isGB p l = true ∧ rangeB k c = true ∧ overB p l k c = false := by
  unfold sparseB
  simp [and_assoc]
theorem sparse_sub {p k c : Int} {l l' : List (Int × Int)} (h : sparseB p k c l = true) (hs : l'.Sublist l) : sparseB p k c l' = true := by
  obtain ⟨hg, hr, ho⟩ := sparse_iff.1 h
  have hg' := isGB_iff.2 (isG_sub (isGB_iff.1 hg) hs)
  exact sparse_iff.2 ⟨hg', hr, (over_false hg' hr).2 fun m hm => bad_sub hs ((over_false hg hr).1 ho m hm)⟩
theorem take_drop_sub (l : List (Int × Int)) (i : Nat) : (l.take i ++ l.drop (i + 1)).Sublist l := by
  have h : l.take i ++ l.drop i = l := List.take_append_drop i l
  conv => rhs; rw [← h]
  refine List.Sublist.append (List.Sublist.refl _) ?_
  rw [← List.drop_drop]
  exact List.drop_sublist _ _
theorem sparse_rem {p k c : Int} {l : List (Int × Int)} (h : sparseB p k c l = true) (i : Int) : sparseB p k c (remL p i l) = true := by
  unfold remL
  split
  · exact sparse_sub h (take_drop_sub l i.toNat)
  · exact h
theorem sparse_22 {p : Int} {l : List (Int × Int)} (h : sparseB p 2 3 l = true) : sparseB p 2 2 l = true := by
  obtain ⟨hg, hr, ho⟩ := sparse_iff.1 h
  have hr2 : rangeB 2 2 = true := by decide
  refine sparse_iff.2 ⟨hg, hr2, (over_false hg hr2).2 fun m hm => ?_⟩
  have := (over_false hg hr).1 ho m hm
  unfold badS at *
  simp only [Bool.and_eq_false_iff, decide_eq_false_iff_not] at *
  omega
/-- A set that spans too many. -/
theorem over_spans {p k c : Int} {l : List (Int × Int)} (h : overB p l k c = true) : k * ((overL p l k c).length : Int) - c < ((spanL l (memS (overL p l k c))).length : Int) ∧ (0 ≤ k * ((overL p l k c).length : Int) ∧ k * ((overL p l k c).length : Int) ≤ 24) ∧ (1 ≤ k ∧ k ≤ 3 ∧ 0 ≤ c ∧ c ≤ 2 * k - 1) := by
  obtain ⟨hg, hr, m, hm, hb, e⟩ := over_true h
  have hG := isGB_iff.1 hg
  have hk : 1 ≤ k ∧ k ≤ 3 ∧ 0 ≤ c ∧ c ≤ 2 * k - 1 := by simpa [rangeB, and_assoc] using hr
  have hs := setL_len p.toNat m
  have hp := hG.1
  rw [e, span_cnt p.toNat m l fun i hi => by have := isG_bar hG i hi; omega]
  refine ⟨?_, ⟨Int.mul_nonneg (by omega) (by omega), ?_⟩, hk⟩
  · unfold badS at hb
    simp only [Bool.and_eq_true, decide_eq_true_eq] at hb
    exact hb.2
  · calc k * ((setL p.toNat m).length : Int) ≤ 3 * ((setL p.toNat m).length : Int) := Int.mul_le_mul_of_nonneg_right (by omega) (by omega)
      _ ≤ 24 := by omega
theorem over_sparse {p k c : Int} {l : List (Int × Int)} (h : overB p l k c = true) : sparseB p k c l = false := by
  unfold sparseB
  rw [h]
  simp
theorem overL_wf (p k c : Int) (l : List (Int × Int)) : WfI (overL p l k c) := by
  intro j hj
  have hm : (overL p l k c).getD j 0 ∈ overL p l k c := by
    have : (overL p l k c).getD j 0 = (overL p l k c)[j] := by simp [List.getD, List.getElem?_eq_getElem hj]
    rw [this]; exact List.getElem_mem hj
  have hl : ∀ v ∈ overL p l k c, 0 ≤ v ∧ v < 8 := by
    intro v hv
    by_cases h : overB p l k c = true
    · obtain ⟨hg, _, m, _, _, e⟩ := over_true h
      rw [e] at hv
      obtain ⟨u, hu, _, rfl⟩ := (mem_outF _ _ _).1 hv
      have := (isGB_iff.1 hg).1
      omega
    · have : overL p l k c = [] := by
        unfold overB at h
        unfold overL
        cases e : overM p l k c with
        | none => rfl
        | some m => rw [e] at h; simp at h
      rw [this] at hv
      cases hv
  have := hl _ hm
  exact Go.WalkArith.wf_i64 (by omega)
theorem setL_wf (Q m : Nat) (hQ : Q ≤ 8) : WfI (setL Q m) := by
  intro j hj
  have hm : (setL Q m).getD j 0 ∈ setL Q m := by
    have : (setL Q m).getD j 0 = (setL Q m)[j] := by simp [List.getD, List.getElem?_eq_getElem hj]
    rw [this]; exact List.getElem_mem hj
  obtain ⟨u, hu, _, e⟩ := (mem_outF _ _ _).1 hm
  rw [e]
  exact Go.WalkArith.wf_i64 (by omega)
end Go.Proofs.Ytimgkekllanhmaa
