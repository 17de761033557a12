/- The mathematics of a step: what a step adds to a graph, and that the graph stays one. No condition. -/
import Derived.Test.YtggibhhdnlifcaaGMath
import Derived.Test.YtggibhhdnlifcaaIsGraphI
import Derived.Test.YtggibhhdnlifcaaHasPt
import Derived.Test.YtggibhhdnlifcaaAddS
import Derived.Test.YtggibhhdnlifcaaRemoveS
import Derived.Test.YtggibhhdnlifcaaStep
namespace Go.Proofs.Ytggibhhdnlifcaa
open Go.RowKit

theorem insU_mem (x y : Int × Int) : ∀ l : List (Int × Int), y ∈ insU x l ↔ y = x ∨ y ∈ l := by
  intro l
  induction l with
  | nil => simp [insU]
  | cons z t ih =>
    unfold insU
    split
    · rw [List.mem_cons, ih, List.mem_cons]
      constructor
      · rintro (h | h | h)
        · exact .inr (.inl h)
        · exact .inl h
        · exact .inr (.inr h)
      · rintro (h | h | h)
        · exact .inr (.inl h)
        · exact .inl h
        · exact .inr (.inr h)
    · simp
theorem insU_ord (x : Int × Int) : ∀ l : List (Int × Int), OrdB l → OrdB (insU x l) := by
  intro l
  induction l with
  | nil => intro _; simp [insU, OrdB]
  | cons z t ih =>
    intro h
    have hc := List.pairwise_cons.1 h
    unfold insU
    split
    · rename_i hz
      refine List.pairwise_cons.2 ⟨fun y hy => ?_, ih hc.2⟩
      rcases (insU_mem x y t).1 hy with e | e
      · subst e; exact hz
      · exact hc.1 y e
    · rename_i hz
      have hzx := aftB_total z x (by simpa using hz)
      refine List.pairwise_cons.2 ⟨fun y hy => ?_, h⟩
      rcases List.mem_cons.1 hy with e | e
      · subst e; exact hzx
      · exact aftB_trans hzx (hc.1 y e)
theorem isG_iff {p : Int} {l : List (Int × Int)} : IsG p l ↔ (1 ≤ p ∧ p ≤ 8) ∧ l.length ≤ 24 ∧ (∀ x ∈ l, 0 ≤ x.1 ∧ x.1 < x.2 ∧ x.2 < p) ∧ OrdB l := by
  constructor
  · intro h
    refine ⟨h.1, h.2.1, fun x hx => ?_, isG_ord h⟩
    obtain ⟨i, hi, rfl⟩ := List.getElem_of_mem hx
    have := isG_bar h i hi
    simpa [List.getD, List.getElem?_eq_getElem hi] using this
  · rintro ⟨h1, h2, h3, h4⟩
    refine isG_of h1 h2 (fun k hk => ?_) (fun j hj0 hj => ?_)
    · have := h3 _ (List.getElem_mem hk)
      simpa [EndsOk, List.getD, List.getElem?_eq_getElem hk] using this
    · have := List.pairwise_iff_getElem.1 h4 (j - 1) j (by omega) hj (by omega)
      simpa [List.getD, List.getElem?_eq_getElem hj, List.getElem?_eq_getElem (show j - 1 < l.length by omega)] using this
theorem isG_ins {p : Int} {l : List (Int × Int)} {x : Int × Int} (h : IsG p l) (hn : l.length < 24) (hx : 0 ≤ x.1 ∧ x.1 < x.2 ∧ x.2 < p) : IsG p (insU x l) := by
  obtain ⟨h1, h2, h3, h4⟩ := isG_iff.1 h
  refine isG_iff.2 ⟨h1, by rw [insU_len]; omega, fun y hy => ?_, insU_ord x l h4⟩
  rcases (insU_mem x y l).1 hy with e | e
  · subst e; exact hx
  · exact h3 y e
theorem isG_cut {p : Int} {l : List (Int × Int)} (h : IsG p l) (k : Nat) : IsG p (l.take k ++ l.drop (k + 1)) := by
  obtain ⟨h1, h2, h3, h4⟩ := isG_iff.1 h
  have hs : (l.take k ++ l.drop (k + 1)).Sublist l := by
    rw [← List.eraseIdx_eq_take_drop_succ]
    exact List.eraseIdx_sublist l k
  exact isG_iff.2 ⟨h1, Nat.le_trans hs.length_le h2, fun y hy => h3 y (hs.subset hy), h4.sublist hs⟩

/-- The bar between two points. -/
def brS (a b : Int) : Int × Int := (min a b, max a b)
theorem brS_ok {p a b : Int} (ha : 0 ≤ a ∧ a < p) (hb : 0 ≤ b ∧ b < p) (hab : a ≠ b) : 0 ≤ (brS a b).1 ∧ (brS a b).1 < (brS a b).2 ∧ (brS a b).2 < p := by
  unfold brS
  dsimp only
  omega
/-- The graph with a bar more from v to each of the first n of the points. -/
def joinL (v : Int) (l : List (Int × Int)) (zs : List Int) : Nat → List (Int × Int)
  | 0 => l
  | n + 1 => insU (brS v (zs.getD n 0)) (joinL v l zs n)
theorem joinL_len (v : Int) (l : List (Int × Int)) (zs : List Int) (n : Nat) : (joinL v l zs n).length = l.length + n := by
  induction n with
  | zero => rfl
  | succ n ih => rw [joinL, insU_len, ih]; omega
theorem joinL_ok {p v : Int} {l : List (Int × Int)} {zs : List Int} (h : IsG p l) (hv : 0 ≤ v ∧ v < p) (hz : ∀ j, j < zs.length → (0 ≤ zs.getD j 0 ∧ zs.getD j 0 < p) ∧ v ≠ zs.getD j 0) (n : Nat) (hn : n ≤ zs.length) (h24 : l.length + n ≤ 24) : IsG p (joinL v l zs n) := by
  induction n with
  | zero => exact h
  | succ n ih =>
    rw [joinL]
    exact isG_ins (ih (by omega) (by omega)) (by rw [joinL_len]; omega) (brS_ok hv (hz n (by omega)).1 (hz n (by omega)).2)
theorem joinL_add {p v : Int} {l : List (Int × Int)} {zs : List Int} (h : IsG p l) (hv : 0 ≤ v ∧ v < p) (hz : ∀ j, j < zs.length → (0 ≤ zs.getD j 0 ∧ zs.getD j 0 < p) ∧ v ≠ zs.getD j 0) (n : Nat) (hn : n < zs.length) (h24 : l.length + n < 24) : addL p v (zs.getD n 0) (joinL v l zs n) = joinL v l zs (n + 1) :=
  (add_yes (isGB_yes (joinL_ok h hv hz n (by omega) (by omega))) ⟨⟨hv.1, (hz n hn).1.1⟩, ⟨hv.2, (hz n hn).1.2⟩, (hz n hn).2, by rw [joinL_len]; omega⟩).2
/-- The first n of the points are points of the graph, no two equal. -/
def difB (p : Int) (zs : List Int) : Nat → Bool
  | 0 => true
  | n + 1 => difB p zs n && (ptB p (zs.getD n 0) && !decide (zs.getD n 0 ∈ zs.take n))
theorem difB_later {p : Int} {zs : List Int} {n : Nat} (h : difB p zs n = false) : ∀ m, n ≤ m → difB p zs m = false := by
  intro m
  induction m with
  | zero =>
    intro hm
    obtain rfl : n = 0 := by omega
    exact h
  | succ m ih =>
    intro hm
    by_cases e : n = m + 1
    · subst e; exact h
    · rw [difB, ih (by omega)]; rfl
theorem difB_yes {p : Int} {zs : List Int} {n : Nat} (h : difB p zs n = true) : ∀ j, j < n → (0 ≤ zs.getD j 0 ∧ zs.getD j 0 < p) ∧ ¬ zs.getD j 0 ∈ zs.take j := by
  induction n with
  | zero => intro j hj; omega
  | succ n ih =>
    intro j hj
    simp only [difB, ptB, Bool.and_eq_true, decide_eq_true_eq, Bool.not_eq_true', decide_eq_false_iff_not] at h
    by_cases e : j = n
    · subst e; exact ⟨h.2.1, h.2.2⟩
    · exact ih h.1 j (by omega)
/-- The graph without the bar k. -/
def cutL (l : List (Int × Int)) (k : Nat) : List (Int × Int) := l.take k ++ l.drop (k + 1)
/-- The step fits the graph. -/
def fitB (p : Int) (l : List (Int × Int)) (s : Stp) : Bool :=
  if s.1 = 0 then decide (l = []) && (decide (s.2.1 = 0) && (decide (s.2.2.2.2 = 0) && difB p [s.2.2.1, s.2.2.2.1] 2))
  else if s.1 = 1 then decide (s.2.2.2.2 = 0) && (difB p [s.2.1, s.2.2.1, s.2.2.2.1] 3 && (decide (l.countP (endB s.2.1) = 0) && (decide (0 < l.countP (endB s.2.2.1)) && decide (0 < l.countP (endB s.2.2.2.1)))))
  else if s.1 = 2 then difB p [s.2.1, s.2.2.1, s.2.2.2.1, s.2.2.2.2] 4 && (decide (l.countP (endB s.2.1) = 0) && (decide (0 < l.countP (hitB s.2.2.1 s.2.2.2.1)) && decide (0 < l.countP (endB s.2.2.2.2))))
  else false
/-- The bars behind a step that fits. -/
def stepF (l : List (Int × Int)) (s : Stp) : List (Int × Int) :=
  if s.1 = 0 then joinL s.2.2.1 l [s.2.2.2.1] 1
  else if s.1 = 1 then joinL s.2.1 l [s.2.2.1, s.2.2.2.1] 2
  else joinL s.2.1 (cutL l (l.findIdx (hitB s.2.2.1 s.2.2.2.1))) [s.2.2.1, s.2.2.2.1, s.2.2.2.2] 3
noncomputable def stepR (p : Int) (l : List (Int × Int)) (s : Stp) : Bool := isGB p l && (decide (l.length ≤ 21) && fitB p l s)
noncomputable def stepL (p : Int) (l : List (Int × Int)) (s : Stp) : List (Int × Int) := if stepR p l s = true then stepF l s else l
theorem step_no {p : Int} {l : List (Int × Int)} {s : Stp} (h : stepR p l s = false) : stepL p l s = l := by unfold stepL; rw [h]; rfl
theorem step_yes {p : Int} {l : List (Int × Int)} {s : Stp} (h : stepR p l s = true) : stepL p l s = stepF l s := by unfold stepL; rw [if_pos h]
theorem cutL_len {l : List (Int × Int)} {k : Nat} (h : k < l.length) : (cutL l k).length = l.length - 1 := by
  unfold cutL
  rw [List.length_append, List.length_take, List.length_drop]
  omega
theorem stepF_len {l : List (Int × Int)} {s : Stp} : (stepF l s).length ≤ l.length + 3 := by
  have : ∀ k, (cutL l k).length ≤ l.length := fun k => by
    unfold cutL
    rw [List.length_append, List.length_take, List.length_drop]
    omega
  unfold stepF
  split
  · rw [joinL_len]; omega
  · split
    · rw [joinL_len]; omega
    · rw [joinL_len]; have := this (l.findIdx (hitB s.2.2.1 s.2.2.2.1)); omega
theorem stepL_len {p : Int} {l : List (Int × Int)} {s : Stp} (h : l.length ≤ 1048576) : (stepL p l s).length ≤ 1048576 := by
  cases hr : stepR p l s
  · rw [step_no hr]; exact h
  · rw [step_yes hr]
    have := @stepF_len l s
    unfold stepR at hr
    simp only [Bool.and_eq_true, decide_eq_true_eq] at hr
    omega
end Go.Proofs.Ytggibhhdnlifcaa
