/- A circuit: what is needed of ranks, sizes and sets. No program. No condition. -/
import Derived.Test.YtgmcibcjplncaaaIndM
namespace Go.Proofs.Ytgmcibcjplncaaa
open Go.RowKit

/-- A list without a number. -/
def woL (zs : List Int) (x : Int) : List Int := zs.filter fun y => !decide (y = x)
theorem okS_pair {m : Nat} {Z : List Int} (h : ∀ j, j < Z.length → OkS m Z j) : (∀ x, x ∈ Z → 0 ≤ x ∧ x < (m : Int)) ∧ Z.Pairwise (· < ·) := by
  constructor
  · intro x hx
    obtain ⟨i, hi, rfl⟩ := List.getElem_of_mem hx
    have := (h i hi).1
    simpa [List.getD, List.getElem?_eq_getElem hi] using this
  · rw [List.pairwise_iff_getElem]
    intro i j hi hj hij
    have q : ∀ d, i + d + 1 < Z.length → Z.getD i 0 < Z.getD (i + d + 1) 0 := by
      intro d
      induction d with
      | zero => intro hd; have := (h (i + 1) hd).2 (by omega); simpa using this
      | succ d ih =>
        intro hd
        have h1 := ih (by omega)
        have h2 := (h (i + (d + 1) + 1) hd).2 (by omega)
        rw [show i + (d + 1) + 1 - 1 = i + d + 1 by omega] at h2
        omega
    have := q (j - i - 1) (by omega)
    rw [show i + (j - i - 1) + 1 = j by omega] at this
    simpa [List.getD, List.getElem?_eq_getElem hi, List.getElem?_eq_getElem hj] using this
theorem okS_of {m : Nat} {Z : List Int} (h1 : ∀ x, x ∈ Z → 0 ≤ x ∧ x < (m : Int)) (h2 : Z.Pairwise (· < ·)) : ∀ j, j < Z.length → OkS m Z j := by
  intro j hj
  rw [List.pairwise_iff_getElem] at h2
  refine ⟨?_, fun h0 => ?_⟩
  · have := h1 Z[j] (List.getElem_mem hj)
    simpa [List.getD, List.getElem?_eq_getElem hj] using this
  · have := h2 (j - 1) j (by omega) hj (by omega)
    simpa [List.getD, List.getElem?_eq_getElem hj, List.getElem?_eq_getElem (show j - 1 < Z.length by omega)] using this
theorem setB_wo {p : Int} {l : List (Int × Int)} {zs : List Int} (h : setB p l zs = true) (x : Int) : setB p l (woL zs x) = true := by
  obtain ⟨h1, h2⟩ := setB_is h
  obtain ⟨h3, h4⟩ := okS_pair h1
  rw [setB_all (okS_of (Z := woL zs x) (m := l.length) (fun y hy => h3 y (List.mem_filter.1 hy).1) (h4.filter _)), isGB_yes h2]
theorem wo_len : ∀ zs : List Int, zs.Pairwise (· < ·) → ∀ x, x ∈ zs → (woL zs x).length + 1 = zs.length := by
  intro zs
  induction zs with
  | nil => intro _ x hx; cases hx
  | cons a t ih =>
    intro hp x hx
    obtain ⟨h1, h2⟩ := List.pairwise_cons.1 hp
    unfold woL
    by_cases e : a = x
    · subst e
      have : t.filter (fun y => !decide (y = a)) = t := List.filter_eq_self.2 fun y hy => by
        have := h1 y hy
        simp
        omega
      simp [this]
    · have hxt : x ∈ t := by
        rcases List.mem_cons.1 hx with h | h
        · exact absurd h.symm e
        · exact h
      have := ih h2 x hxt
      unfold woL at this
      simp [e]
      omega
theorem setB_len {p : Int} {l : List (Int × Int)} {zs : List Int} (h : setB p l zs = true) {x : Int} (hx : x ∈ zs) : (woL zs x).length + 1 = zs.length := wo_len zs (okS_pair (setB_is h).1).2 x hx
theorem cnt_le (n : Nat) : ∀ ys : List Int, ys.countP (fun y => decide (y < (n : Int))) + (if (n : Int) ∈ ys then 1 else 0) ≤ ys.countP (fun y => decide (y < ((n + 1 : Nat) : Int))) := by
  intro ys
  induction ys with
  | nil => simp
  | cons a t ih =>
    rw [List.countP_cons, List.countP_cons]
    by_cases e : (n : Int) = a
    · subst e
      rw [if_pos List.mem_cons_self]
      have h1 : decide ((n : Int) < (n : Int)) = false := by simp
      have h2 : decide ((n : Int) < ((n + 1 : Nat) : Int)) = true := by simp; omega
      rw [h1, h2]
      have : t.countP (fun y => decide (y < (n : Int))) ≤ t.countP (fun y => decide (y < ((n + 1 : Nat) : Int))) := by
        split at ih <;> omega
      rw [if_neg (by decide), if_pos rfl]
      omega
    · have hm : (if (n : Int) ∈ a :: t then 1 else 0) = (if (n : Int) ∈ t then (1 : Nat) else 0) := by simp [e]
      rw [hm]
      have : (if decide (a < (n : Int)) = true then 1 else 0) ≤ (if decide (a < ((n + 1 : Nat) : Int)) = true then 1 else 0) := by
        by_cases h : a < (n : Int)
        · rw [if_pos (by simpa using h), if_pos (by simp; omega)]; exact Nat.le_refl _
        · rw [if_neg (by simpa using h)]; omega
      omega
theorem onlyK_cnt (l : List (Int × Int)) (ys : List Int) : ∀ n, (onlyK l (inS ys) n).length ≤ ys.countP (fun y => decide (y < (n : Int))) := by
  intro n
  induction n with
  | zero => unfold onlyK; simp
  | succ n ih =>
    have h := cnt_le n ys
    unfold onlyK
    by_cases e : (n : Int) ∈ ys
    · have : inS ys n = true := by unfold inS; simpa using e
      rw [if_pos e] at h
      rw [if_pos this, List.length_append, List.length_singleton]
      omega
    · have : inS ys n = false := by unfold inS; simpa using e
      rw [if_neg e] at h
      rw [if_neg (by rw [this]; decide), List.append_nil]
      omega
theorem rankV_le (p k c : Int) (l : List (Int × Int)) : rankV p k c l ≤ (l.length : Int) := by
  unfold rankV
  by_cases h : newB p k l = true
  · by_cases h2 : rangeB k c = true
    · have hG := (newB_is h).1
      obtain ⟨P, rfl⟩ : ∃ P : Nat, p = (P : Int) := ⟨p.toNat, by have := hG.1; omega⟩
      rw [(runV_yes h h2).1, (runV_yes h h2).2, if_pos rfl]
      have := (runN_ok (newB_is h).1 (newB_is h).2 (rangeB_is h2).2.1 l.length (Nat.le_refl _)).2.1
      omega
    · rw [(runV_no (.inr (by simpa using h2))).1]; simp
  · rw [(runV_no (.inl (by simpa using h))).1]; simp
theorem rankSV_le (p k c : Int) (l : List (Int × Int)) (ys : List Int) : rankSV p k c l ys ≤ (ys.length : Int) := by
  unfold rankSV
  split
  · have h1 := rankV_le p k c (onlyL l ys)
    have h2 : (onlyL l ys).length ≤ ys.length := Nat.le_trans (onlyK_cnt l ys l.length) List.countP_le_length
    omega
  · omega
/-- A set without one of its bars is independent just if its rank is not less than one less than the set's size. -/
theorem ind_wo {p k c : Int} {l : List (Int × Int)} {zs : List Int} (h : setB p l zs = true) (hr : rangeB k c = true) {x : Int} (hx : x ∈ zs) : indB p k c l (woL zs x) = !decide (rankSV p k c l (woL zs x) < (zs.length : Int) - 1) := by
  rw [indB_yes (setB_wo h x) hr]
  have h1 := setB_len h hx
  have h2 := rankSV_le p k c l (woL zs x)
  generalize rankSV p k c l (woL zs x) = r at *
  by_cases e : r = ((woL zs x).length : Int)
  · rw [decide_eq_true e, decide_eq_false (by omega)]; rfl
  · rw [decide_eq_false e, decide_eq_true (by omega)]; rfl
open Classical in
/-- What IsCircuit answers. -/
noncomputable def cirB (p k c : Int) (l : List (Int × Int)) (zs : List Int) : Bool :=
  if setB p l zs = true ∧ rangeB k c = true ∧ indB p k c l zs = false ∧ ∀ j, j < zs.length → indB p k c l (woL zs (zs.getD j 0)) = true then true else false
theorem cirB_no {p k c : Int} {l : List (Int × Int)} {zs : List Int} (h : setB p l zs = false ∨ rangeB k c = false ∨ indB p k c l zs = true) : cirB p k c l zs = false := by
  unfold cirB
  refine if_neg fun q => ?_
  rcases h with h | h | h
  · rw [q.1] at h; cases h
  · rw [q.2.1] at h; cases h
  · rw [q.2.2.1] at h; cases h
theorem cirB_bad {p k c : Int} {l : List (Int × Int)} {zs : List Int} {j : Nat} (hj : j < zs.length) (h : indB p k c l (woL zs (zs.getD j 0)) = false) : cirB p k c l zs = false := by
  unfold cirB
  refine if_neg fun q => ?_
  rw [q.2.2.2 j hj] at h
  cases h
theorem cirB_yes {p k c : Int} {l : List (Int × Int)} {zs : List Int} (h1 : setB p l zs = true) (h2 : rangeB k c = true) (h3 : indB p k c l zs = false) (h4 : ∀ j, j < zs.length → indB p k c l (woL zs (zs.getD j 0)) = true) : cirB p k c l zs = true := by
  unfold cirB
  exact if_pos ⟨h1, h2, h3, h4⟩
theorem wo_step (zs : List Int) (x : Int) (j : Nat) (h : j < zs.length) : woL (zs.take (j + 1)) x = if zs.getD j 0 = x then woL (zs.take j) x else woL (zs.take j) x ++ [zs.getD j 0] := by
  unfold woL
  rw [List.take_add_one, List.filter_append]
  simp only [List.getD, List.getElem?_eq_getElem h, Option.getD_some, Option.toList_some]
  by_cases e : zs[j] = x
  · simp [e]
  · simp [e]
end Go.Proofs.Ytgmcibcjplncaaa
