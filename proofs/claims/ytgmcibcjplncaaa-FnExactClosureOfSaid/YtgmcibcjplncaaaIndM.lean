/- What IsIndependent answers; that the bars kept do not depend on a list's order. No program. No condition. -/
import Derived.Test.YtgmcibcjplncaaaBarSetM
import Derived.Test.YtgmcibcjplncaaaRkM
namespace Go.Proofs.Ytgmcibcjplncaaa
open Go.RowKit

/-- What IsIndependent answers. -/
noncomputable def indB (p k c : Int) (l : List (Int × Int)) (zs : List Int) : Bool := setB p l zs && rangeB k c && decide (rankSV p k c l zs = (zs.length : Int))
theorem indB_set {p k c : Int} {l : List (Int × Int)} {zs : List Int} (h : setB p l zs = false) : indB p k c l zs = false := by unfold indB; rw [h]; rfl
theorem indB_rng {p k c : Int} {l : List (Int × Int)} {zs : List Int} (h : rangeB k c = false) : indB p k c l zs = false := by unfold indB; rw [h]; simp
theorem indB_yes {p k c : Int} {l : List (Int × Int)} {zs : List Int} (h : setB p l zs = true) (h2 : rangeB k c = true) : indB p k c l zs = decide (rankSV p k c l zs = (zs.length : Int)) := by unfold indB; rw [h, h2]; simp
theorem onlyK_same (l : List (Int × Int)) (S T : Nat → Bool) : ∀ n, (∀ j, j < n → S j = T j) → onlyK l S n = onlyK l T n := by
  intro n
  induction n with
  | zero => intro _; rfl
  | succ n ih =>
    intro h
    unfold onlyK
    rw [ih (fun j hj => h j (by omega)), h n (by omega)]
theorem onlyL_same {l : List (Int × Int)} {zs ys : List Int} (h : ∀ j : Nat, j < l.length → ((j : Int) ∈ zs ↔ (j : Int) ∈ ys)) : onlyL l zs = onlyL l ys :=
  onlyK_same l _ _ _ fun j hj => by unfold inS; exact decide_eq_decide.2 (h j hj)
theorem rankSV_same {p k c : Int} {l : List (Int × Int)} {zs ys : List Int} (h : ∀ j : Nat, j < l.length → ((j : Int) ∈ zs ↔ (j : Int) ∈ ys)) : rankSV p k c l zs = rankSV p k c l ys := by
  unfold rankSV
  rw [onlyL_same h]
end Go.Proofs.Ytgmcibcjplncaaa
