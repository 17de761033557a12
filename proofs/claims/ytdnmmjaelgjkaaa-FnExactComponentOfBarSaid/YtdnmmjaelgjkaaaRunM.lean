/- What the pebble game answers, bar by bar. No program. No condition. -/
import Derived.Test.YtdnmmjaelgjkaaaPlaLM
import Derived.Test.YtdnmmjaelgjkaaaNewPI
namespace Go.Proofs.Ytdnmmjaelgjkaaa
open Go.RowKit

/-- What RunPebbles answers. -/
noncomputable def runB (p k c : Int) (l : List (Int × Int)) : Bool := newB p k l && rangeB k c
noncomputable def runV (p k c : Int) (l : List (Int × Int)) : List Int × List Int × List Int := if runB p k c l = true then runN p.toNat k c l l.length else ([], [], [])
theorem runV_no {p k c : Int} {l : List (Int × Int)} (h : newB p k l = false ∨ rangeB k c = false) : runB p k c l = false ∧ runV p k c l = ([], [], []) := by
  have hb : runB p k c l = false := by
    unfold runB
    rcases h with h | h <;> rw [h] <;> simp
  exact ⟨hb, by unfold runV; rw [hb]; rfl⟩
theorem newB_is {p k : Int} {l : List (Int × Int)} (h : newB p k l = true) : IsG p l ∧ 1 ≤ k ∧ k ≤ 3 := by
  unfold newB at h
  simp only [Bool.and_eq_true, decide_eq_true_eq] at h
  exact ⟨Classical.byContradiction fun g => (by have h1 := h.1; rw [isGB_no g] at h1; cases h1), h.2.1, h.2.2⟩
theorem runV_yes {P : Nat} {k c : Int} {l : List (Int × Int)} (h : newB (P : Int) k l = true) (h2 : rangeB k c = true) : runB (P : Int) k c l = true ∧ runV (P : Int) k c l = runN P k c l l.length := by
  have hb : runB (P : Int) k c l = true := by unfold runB; rw [h, h2]; rfl
  exact ⟨hb, by unfold runV; rw [if_pos hb, Int.toNat_natCast]⟩
/-- A game that can be run, after n bars. -/
theorem runN_at {P : Nat} {k c : Int} {l : List (Int × Int)} (h : newB (P : Int) k l = true) (h2 : rangeB k c = true) {n : Nat} (hn : n ≤ l.length) : IsPeb (P : Int) k l (runN P k c l n).1 (runN P k c l n).2.1 (runN P k c l n).2.2 :=
  (runN_ok (newB_is h).1 (newB_is h).2 (rangeB_is h2).2.1 n hn).1
/-- One bar more. -/
theorem runN_step {P : Nat} {k c : Int} {l : List (Int × Int)} (h : newB (P : Int) k l = true) (h2 : rangeB k c = true) {n : Nat} (hn : n < l.length) :
    plaV (P : Int) k c l (runN P k c l n).1 (runN P k c l n).2.1 (runN P k c l n).2.2 (n : Int) = plaR l c (runN P k c l n).1 (runN P k c l n).2.1 (runN P k c l n).2.2 (n : Int) ∧
    runN P k c l (n + 1) = (plaR l c (runN P k c l n).1 (runN P k c l n).2.1 (runN P k c l n).2.2 (n : Int)).getD (runN P k c l n) := by
  obtain ⟨h3, h4, h5⟩ := runN_ok (newB_is h).1 (newB_is h).2 (rangeB_is h2).2.1 n (Nat.le_of_lt hn)
  refine ⟨?_, by rw [runN]⟩
  unfold plaV
  rw [if_pos ⟨isPebB_yes h3, h2, ⟨by omega, by omega⟩, h5⟩]
theorem runN_len {P : Nat} {k c : Int} {l : List (Int × Int)} (h : newB (P : Int) k l = true) (h2 : rangeB k c = true) {n : Nat} (hn : n ≤ l.length) : (runN P k c l n).1.length ≤ 8 ∧ (runN P k c l n).2.1.length ≤ 24 ∧ (runN P k c l n).2.2.length ≤ 24 :=
  (runN_at h h2 hn).lens
theorem runV_len (p k c : Int) (l : List (Int × Int)) : (runV p k c l).1.length ≤ 8 ∧ (runV p k c l).2.1.length ≤ 24 ∧ (runV p k c l).2.2.length ≤ 24 := by
  by_cases h : newB p k l = true
  · by_cases h2 : rangeB k c = true
    · have hG := (newB_is h).1
      obtain ⟨P, rfl⟩ : ∃ P : Nat, p = (P : Int) := ⟨p.toNat, by have := hG.1; omega⟩
      rw [(runV_yes h h2).2]
      exact runN_len h h2 (Nat.le_refl _)
    · rw [(runV_no (.inr (by simpa using h2))).2]; simp
  · rw [(runV_no (.inl (by simpa using h))).2]; simp
end Go.Proofs.Ytdnmmjaelgjkaaa
