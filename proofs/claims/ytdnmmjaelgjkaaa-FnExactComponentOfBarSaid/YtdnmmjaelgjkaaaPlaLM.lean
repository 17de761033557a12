/- How long the rows of a state are behind a bar's placing. No program. No condition. -/
import Derived.Test.YtdnmmjaelgjkaaaPebMany
import Derived.Test.YtdnmmjaelgjkaaaRng
namespace Go.Proofs.Ytdnmmjaelgjkaaa
open Go.RowKit

theorem rangeB_is {k c : Int} (h : rangeB k c = true) : (1 ≤ k ∧ k ≤ 3) ∧ 0 ≤ c ∧ c < 2 * k := by
  unfold rangeB at h
  simp only [Bool.and_eq_true, decide_eq_true_eq] at h
  omega
theorem IsPeb.lens {p k : Int} {l : List (Int × Int)} {F T Z : List Int} (h : IsPeb p k l F T Z) : F.length ≤ 8 ∧ T.length ≤ 24 ∧ Z.length ≤ 24 := by
  have h1 := h.1.1
  have h2 := h.1.2.1
  have h3 := h.2.2.1
  have h4 := h.2.2.2.1
  have h5 := h.many
  omega
/-- Placing a bar leaves the rows short. -/
theorem plaV_len (p k c : Int) (l : List (Int × Int)) (F T Z : List Int) (n : Int) (hF : F.length ≤ 1048576) (hT : T.length ≤ 1048576) (hZ : Z.length ≤ 1048576) :
    ((plaV p k c l F T Z n).getD (F, T, Z)).1.length ≤ 1048576 ∧ ((plaV p k c l F T Z n).getD (F, T, Z)).2.1.length ≤ 1048576 ∧ ((plaV p k c l F T Z n).getD (F, T, Z)).2.2.length ≤ 1048576 := by
  cases e : plaV p k c l F T Z n with
  | none => exact ⟨hF, hT, hZ⟩
  | some s =>
    unfold plaV at e
    by_cases q : isPebB p k l F T Z = true ∧ rangeB k c = true ∧ (0 ≤ n ∧ n < (l.length : Int)) ∧ (Z ≠ [] → Z.getD (Z.length - 1) 0 < n)
    · rw [if_pos q] at e
      have h := (plaR_ok (isPebB_is q.1) (rangeB_is q.2.1).2.1 q.2.2.1 q.2.2.2 e).1.lens
      rw [Option.getD_some]
      omega
    · rw [if_neg q] at e; cases e
end Go.Proofs.Ytdnmmjaelgjkaaa
