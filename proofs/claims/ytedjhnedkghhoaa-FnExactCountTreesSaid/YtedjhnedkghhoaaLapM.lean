/- What CountTrees answers: the determinant of the matrix of degrees and bars without the last point. No program's walk. No condition. -/
import Derived.Test.YtedjhnedkghhoaaDetM
import Derived.Test.YtedjhnedkghhoaaGMath
namespace Go.Proofs.Ytedjhnedkghhoaa
open Go.RowKit

/-- Degrees, and bars with a minus. -/
def lapA (l : List (Int × Int)) (i j : Nat) : Int := if i = j then (l.countP (endB (i : Int)) : Int) else -(l.countP (hitB (i : Int) (j : Int)) : Int)
theorem lapA_bd {l : List (Int × Int)} (h : l.length ≤ 24) (i j : Nat) : -24 ≤ lapA l i j ∧ lapA l i j ≤ 24 := by
  have h1 : l.countP (endB (i : Int)) ≤ l.length := List.countP_le_length
  have h2 : l.countP (hitB (i : Int) (j : Int)) ≤ l.length := List.countP_le_length
  unfold lapA
  split <;> omega
theorem sumZ_add (g h : Nat → Int) : ∀ t, sumZ (fun j => g j + h j) t = sumZ g t + sumZ h t := by
  intro t
  induction t with
  | zero => rfl
  | succ t ih => rw [sumZ, ih, sumZ, sumZ]; omega
theorem sumZ_one (z : Int) (u : Nat) : ∀ t, sumZ (fun j => if j = u then z else 0) t = if u < t then z else 0 := by
  intro t
  induction t with
  | zero => rfl
  | succ t ih =>
    rw [sumZ, ih]
    by_cases c : t = u
    · subst c
      rw [if_neg (Nat.lt_irrefl _), if_pos rfl, if_pos (Nat.lt_succ_self _)]
      omega
    · by_cases d : u < t
      · rw [if_pos d, if_neg c, if_pos (by omega)]
        omega
      · rw [if_neg d, if_neg c, if_neg (by omega)]
        omega
/-- What one bar adds. -/
def oneA (x : Int × Int) (i j : Nat) : Int := if i = j then (if endB (i : Int) x then 1 else 0) else (if hitB (i : Int) (j : Int) x then -1 else 0)
theorem lapA_cons (x : Int × Int) (l : List (Int × Int)) (i j : Nat) : lapA (x :: l) i j = lapA l i j + oneA x i j := by
  unfold lapA oneA
  rw [List.countP_cons, List.countP_cons]
  by_cases c : i = j
  · rw [if_pos c, if_pos c, if_pos c]
    cases endB (i : Int) x <;> simp
  · rw [if_neg c, if_neg c, if_neg c]
    cases hitB (i : Int) (j : Int) x
    · simp
    · simp
      omega
theorem lapA_snoc (l : List (Int × Int)) (x : Int × Int) (i j : Nat) : lapA (l ++ [x]) i j = lapA l i j + oneA x i j := by
  unfold lapA oneA
  rw [List.countP_append, List.countP_append, List.countP_cons, List.countP_cons, List.countP_nil, List.countP_nil]
  by_cases c : i = j
  · rw [if_pos c, if_pos c, if_pos c]
    cases endB (i : Int) x <;> simp
  · rw [if_neg c, if_neg c, if_neg c]
    cases hitB (i : Int) (j : Int) x
    · simp
    · simp
      omega
theorem oneA_row {x : Int × Int} (hx : 0 ≤ x.1 ∧ x.1 < x.2) (i n : Nat) (hi : i < n) : 0 ≤ sumZ (oneA x i) n := by
  by_cases he : endB (i : Int) x = true
  · obtain ⟨o, ho, hoi⟩ : ∃ o : Nat, (∀ j : Nat, i ≠ j → hitB (i : Int) (j : Int) x = decide (j = o)) ∧ o ≠ i := by
      unfold endB at he
      rw [decide_eq_true_eq] at he
      by_cases h1 : x.1 = (i : Int)
      · refine ⟨x.2.toNat, fun j _ => ?_, by omega⟩
        unfold hitB
        rw [decide_eq_decide]
        omega
      · refine ⟨x.1.toNat, fun j _ => ?_, by omega⟩
        unfold hitB
        rw [decide_eq_decide]
        omega
    have e : sumZ (oneA x i) n = sumZ (fun j => (if j = i then 1 else 0) + if j = o then -1 else 0) n := sumZ_congr n fun j _ => by
      unfold oneA
      by_cases c : i = j
      · subst c
        rw [if_pos rfl, if_pos he, if_pos rfl, if_neg (fun h => hoi h.symm)]
        rfl
      · rw [if_neg c, ho j c]
        have c' : ¬ j = i := fun h => c h.symm
        by_cases d : j = o
        · subst d
          simp [c']
        · simp [c', d]
    rw [e, sumZ_add (fun j => if j = i then 1 else 0) (fun j => if j = o then -1 else 0), sumZ_one, sumZ_one, if_pos hi]
    split <;> omega
  · have e : sumZ (oneA x i) n = sumZ (fun j => if j = n then (0 : Int) else 0) n := sumZ_congr n fun j _ => by
      unfold oneA
      rw [if_neg he]
      have hh : hitB (i : Int) (j : Int) x = false := by
        unfold hitB
        unfold endB at he
        rw [decide_eq_true_eq] at he
        rw [decide_eq_false_iff_not]
        omega
      rw [hh]
      simp
    rw [e, sumZ_one]
    split <;> omega
theorem lapA_lapl (n : Nat) : ∀ l : List (Int × Int), (∀ x ∈ l, 0 ≤ x.1 ∧ x.1 < x.2) → Lapl n 0 (lapA l) := by
  intro l hl
  refine ⟨fun i j _ _ _ _ hij => ?_, fun i _ hi => ?_⟩
  · unfold lapA
    rw [if_neg hij]
    omega
  · have e : sumZ (fun t => lapA l i (0 + t)) (n - 0) = sumZ (lapA l i) n := by
      rw [Nat.sub_zero]
      exact sumZ_congr n fun j _ => by rw [Nat.zero_add]
    rw [e]
    clear e
    induction l with
    | nil =>
      have e : sumZ (lapA [] i) n = sumZ (fun j => if j = n then (0 : Int) else 0) n := sumZ_congr n fun j _ => by
        unfold lapA
        simp
      rw [e, sumZ_one]
      split <;> omega
    | cons x l ih =>
      have h1 := ih fun y hy => hl y (List.mem_cons_of_mem _ hy)
      have h2 := oneA_row (hl x (List.mem_cons_self ..)) i n hi
      have e : sumZ (lapA (x :: l) i) n = sumZ (fun j => lapA l i j + oneA x i j) n := sumZ_congr n fun j _ => lapA_cons x l i j
      rw [e, sumZ_add (lapA l i) (oneA x i)]
      omega
open Classical in
/-- What CountTrees answers. -/
noncomputable def treV (p : Int) (l : List (Int × Int)) : Int := if isGB p l = true ∧ p ≤ 6 then detF (p - 1).toNat (lapA l) else -1
theorem treV_no {p : Int} {l : List (Int × Int)} (h : isGB p l = false ∨ 6 < p) : treV p l = -1 := by
  unfold treV
  rw [if_neg]
  rintro ⟨h1, h2⟩
  rcases h with h | h
  · rw [h] at h1; cases h1
  · omega
theorem treV_yes {P : Nat} {l : List (Int × Int)} (h : isGB ((P + 1 : Nat) : Int) l = true) (hp : P ≤ 5) : treV ((P + 1 : Nat) : Int) l = detF P (lapA l) := by
  unfold treV
  rw [if_pos ⟨h, by omega⟩]
  congr 1
  omega
/-! Rows that lack a column. -/
def entM (m : List (List Int)) (r c : Nat) : Int := (m.getD r []).getD c 0
def rowL (f : Nat → Int) (j : Nat) : Nat → List Int
  | 0 => []
  | x + 1 => if x = j then rowL f j x else rowL f j x ++ [f x]
theorem rowL_len (f : Nat → Int) (j : Nat) : ∀ x, (rowL f j x).length = if j < x then x - 1 else x := by
  intro x
  induction x with
  | zero => rfl
  | succ x ih =>
    unfold rowL
    by_cases c : x = j
    · subst c
      rw [if_pos rfl, ih, if_neg (Nat.lt_irrefl _), if_pos (Nat.lt_succ_self _)]
      rfl
    · rw [if_neg c, List.length_append, ih, List.length_cons, List.length_nil]
      by_cases d : j < x
      · rw [if_pos d, if_pos (by omega)]; omega
      · rw [if_neg d, if_neg (by omega)]
theorem rowL_get (f : Nat → Int) (j : Nat) : ∀ x c, c < (rowL f j x).length → (rowL f j x).getD c 0 = f (skipC j c) := by
  intro x
  induction x with
  | zero => intro c hc; exact absurd hc (by simp [rowL])
  | succ x ih =>
    intro c hc
    have hl := rowL_len f j x
    unfold rowL at hc ⊢
    by_cases e : x = j
    · rw [if_pos e] at hc ⊢
      exact ih c hc
    · rw [if_neg e] at hc ⊢
      rw [List.length_append, List.length_cons, List.length_nil] at hc
      by_cases d : c < (rowL f j x).length
      · have := ih c d
        simp only [List.getD] at this ⊢
        rw [List.getElem?_append_left d]
        exact this
      · obtain rfl : c = (rowL f j x).length := by omega
        have : (rowL f j x ++ [f x]).getD (rowL f j x).length 0 = f x := by simp [List.getD]
        rw [this, hl]
        congr 1
        unfold skipC
        by_cases q : j < x
        · rw [if_pos q, if_neg (by omega)]; omega
        · rw [if_neg q, if_pos (by omega)]
def lessL (m : List (List Int)) (j n k : Nat) : List (List Int) := (List.range k).map fun i => rowL (entM m i) j n
theorem lessL_len (m : List (List Int)) (j n k : Nat) : (lessL m j n k).length = k := by simp [lessL]
theorem lessL_succ (m : List (List Int)) (j n k : Nat) : lessL m j n (k + 1) = lessL m j n k ++ [rowL (entM m k) j n] := by simp [lessL, List.range_succ]
theorem lessL_get (m : List (List Int)) (j n k i : Nat) (h : i < k) : (lessL m j n k).getD i [] = rowL (entM m i) j n := by simp [lessL, List.getD, h]
theorem lessL_det (m : List (List Int)) (j n : Nat) (hj : j < n + 1) : detF n (entM (lessL m j (n + 1) n)) = detF n (fun i x => entM m i (skipC j x)) := by
  refine detF_congr n _ _ fun r c hr hc => ?_
  unfold entM
  rw [lessL_get m j (n + 1) n r hr]
  exact rowL_get _ j (n + 1) c (by rw [rowL_len, if_pos hj]; omega)
theorem lessL_bd {m : List (List Int)} (h : ∀ r c, -24 ≤ entM m r c ∧ entM m r c ≤ 24) (j n k : Nat) : ∀ r c, -24 ≤ entM (lessL m j n k) r c ∧ entM (lessL m j n k) r c ≤ 24 := by
  intro r c
  by_cases hr : r < k
  · by_cases hc : c < (rowL (entM m r) j n).length
    · have e : entM (lessL m j n k) r c = entM m r (skipC j c) := by
        unfold entM
        rw [lessL_get m j n k r hr]
        exact rowL_get _ j n c hc
      rw [e]
      exact h r _
    · have hc' : (rowL (entM m r) j n).length ≤ c := by omega
      have e : entM (lessL m j n k) r c = 0 := by
        show ((lessL m j n k).getD r []).getD c 0 = 0
        rw [lessL_get m j n k r hr]
        simp only [List.getD]
        rw [List.getElem?_eq_none hc']
        rfl
      rw [e]
      exact ⟨by decide, by decide⟩
  · have e : entM (lessL m j n k) r c = 0 := by
      have : (lessL m j n k).getD r [] = [] := by
        simp only [List.getD]
        rw [List.getElem?_eq_none (by rw [lessL_len]; omega)]
        rfl
      unfold entM
      rw [this]
      rfl
    rw [e]
    exact ⟨by decide, by decide⟩
/-- One term of a determinant. -/
def trmM (m : List (List Int)) (n j : Nat) : Int := if (n + j) % 2 = 1 then -(entM m n j * detF n (fun i x => entM m i (skipC j x))) else entM m n j * detF n (fun i x => entM m i (skipC j x))
theorem detF_trm (m : List (List Int)) (n : Nat) : detF (n + 1) (entM m) = sumZ (trmM m n) (n + 1) := rfl
theorem trm_zero {m : List (List Int)} {n j : Nat} (h : entM m n j = 0) : sumZ (trmM m n) (j + 1) = sumZ (trmM m n) j := by
  rw [sumZ]
  unfold trmM
  rw [h, Int.zero_mul]
  simp
theorem trm_bd {m : List (List Int)} (h : ∀ r c, -24 ≤ entM m r c ∧ entM m r c ≤ 24) {n : Nat} (hn : n ≤ 4) (j : Nat) : -191102976 ≤ entM m n j * detF n (fun i x => entM m i (skipC j x)) ∧ entM m n j * detF n (fun i x => entM m i (skipC j x)) ≤ 191102976 := by
  have h1 := mul_bd (h n j) (detF_bd n (fun i x => entM m i (skipC j x)) fun r c => h r _)
  have h2 : bndD n ≤ 7962624 := by
    match n, hn with
    | 0, _ => decide
    | 1, _ => decide
    | 2, _ => decide
    | 3, _ => decide
    | 4, _ => decide
  omega
theorem trm_sum {m : List (List Int)} (h : ∀ r c, -24 ≤ entM m r c ∧ entM m r c ≤ 24) {n : Nat} (hn : n ≤ 4) (j : Nat) (hj : j ≤ 5) : -955514880 ≤ sumZ (trmM m n) j ∧ sumZ (trmM m n) j ≤ 955514880 := by
  have h1 := sumZ_bd (g := trmM m n) (B := 191102976) j fun i _ => by
    have := trm_bd h hn i
    unfold trmM
    split <;> omega
  have h2 : (j : Int) * 191102976 ≤ 5 * 191102976 := Int.mul_le_mul_of_nonneg_right (by omega) (by decide)
  omega
end Go.Proofs.Ytedjhnedkghhoaa
