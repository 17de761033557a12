/- The mathematics of a step: what a step adds to a graph, and that the graph stays one. No condition. -/
import Derived.Test.YtdkpmaahinbhlaaFzB1
import Derived.Test.YtdkpmaahinbhlaaFzAddS
import Derived.Test.YtdkpmaahinbhlaaFzRemoveS
namespace Go.Proofs.Ytdkpmaahinbhlaa
open Go.RowKit

theorem insU_mem (x y : Int × Int) : ∀ l : List (Int × Int), y ∈ insU x l ↔ y = x ∨ y ∈ l := by
  intro l
  induction l with
  | nil => simp [insU]
  | cons z t ih =>
    unfold insU
    split
    · rw [List.mem_cons, ih, List.mem_cons]
      constructor
      · rintro (h | h | h)
        · exact .inr (.inl h)
        · exact .inl h
        · exact .inr (.inr h)
      · rintro (h | h | h)
        · exact .inr (.inl h)
        · exact .inl h
        · exact .inr (.inr h)
    · simp
theorem insU_ord (x : Int × Int) : ∀ l : List (Int × Int), OrdB l → OrdB (insU x l) := by
  intro l
  induction l with
  | nil => intro _; simp [insU, OrdB]
  | cons z t ih =>
    intro h
    have hc := List.pairwise_cons.1 h
    unfold insU
    split
    · rename_i hz
      refine List.pairwise_cons.2 ⟨fun y hy => ?_, ih hc.2⟩
      rcases (insU_mem x y t).1 hy with e | e
      · subst e; exact hz
      · exact hc.1 y e
    · rename_i hz
      have hzx := aftB_total z x (by simpa using hz)
      refine List.pairwise_cons.2 ⟨fun y hy => ?_, h⟩
      rcases List.mem_cons.1 hy with e | e
      · subst e; exact hzx
      · exact aftB_trans hzx (hc.1 y e)
theorem isG_iff {p : Int} {l : List (Int × Int)} : IsG p l ↔ (1 ≤ p ∧ p ≤ 8) ∧ l.length ≤ 24 ∧ (∀ x ∈ l, 0 ≤ x.1 ∧ x.1 < x.2 ∧ x.2 < p) ∧ OrdB l := by
  constructor
  · intro h
    refine ⟨h.1, h.2.1, fun x hx => ?_, isG_ord h⟩
    obtain ⟨i, hi, rfl⟩ := List.getElem_of_mem hx
    have := isG_bar h i hi
    simpa [List.getD, List.getElem?_eq_getElem hi] using this
  · rintro ⟨h1, h2, h3, h4⟩
    refine isG_of h1 h2 (fun k hk => ?_) (fun j hj0 hj => ?_)
    · have := h3 _ (List.getElem_mem hk)
      simpa [EndsOk, List.getD, List.getElem?_eq_getElem hk] using this
    · have := List.pairwise_iff_getElem.1 h4 (j - 1) j (by omega) hj (by omega)
      simpa [List.getD, List.getElem?_eq_getElem hj, List.getElem?_eq_getElem (show j - 1 < l.length by omega)] using this
theorem isG_ins {p : Int} {l : List (Int × Int)} {x : Int × Int} (h : IsG p l) (hn : l.length < 24) (hx : 0 ≤ x.1 ∧ x.1 < x.2 ∧ x.2 < p) : IsG p (insU x l) := by
  obtain ⟨h1, h2, h3, h4⟩ := isG_iff.1 h
  refine isG_iff.2 ⟨h1, by rw [insU_len]; omega, fun y hy => ?_, insU_ord x l h4⟩
  rcases (insU_mem x y l).1 hy with e | e
  · subst e; exact hx
  · exact h3 y e
/-- The bar between two points. -/
def brS (a b : Int) : Int × Int := (min a b, max a b)
theorem brS_ok {p a b : Int} (ha : 0 ≤ a ∧ a < p) (hb : 0 ≤ b ∧ b < p) (hab : a ≠ b) : 0 ≤ (brS a b).1 ∧ (brS a b).1 < (brS a b).2 ∧ (brS a b).2 < p := by
  unfold brS
  dsimp only
  omega
/-- The graph with a bar more from v to each of the first n of the points. -/
def joinL (v : Int) (l : List (Int × Int)) (zs : List Int) : Nat → List (Int × Int)
  | 0 => l
  | n + 1 => insU (brS v (zs.getD n 0)) (joinL v l zs n)
theorem joinL_len (v : Int) (l : List (Int × Int)) (zs : List Int) (n : Nat) : (joinL v l zs n).length = l.length + n := by
  induction n with
  | zero => rfl
  | succ n ih => rw [joinL, insU_len, ih]; omega
theorem joinL_ok {p v : Int} {l : List (Int × Int)} {zs : List Int} (h : IsG p l) (hv : 0 ≤ v ∧ v < p) (hz : ∀ j, j < zs.length → (0 ≤ zs.getD j 0 ∧ zs.getD j 0 < p) ∧ v ≠ zs.getD j 0) (n : Nat) (hn : n ≤ zs.length) (h24 : l.length + n ≤ 24) : IsG p (joinL v l zs n) := by
  induction n with
  | zero => exact h
  | succ n ih =>
    rw [joinL]
    exact isG_ins (ih (by omega) (by omega)) (by rw [joinL_len]; omega) (brS_ok hv (hz n (by omega)).1 (hz n (by omega)).2)
theorem joinL_add {p v : Int} {l : List (Int × Int)} {zs : List Int} (h : IsG p l) (hv : 0 ≤ v ∧ v < p) (hz : ∀ j, j < zs.length → (0 ≤ zs.getD j 0 ∧ zs.getD j 0 < p) ∧ v ≠ zs.getD j 0) (n : Nat) (hn : n < zs.length) (h24 : l.length + n < 24) : addL p v (zs.getD n 0) (joinL v l zs n) = joinL v l zs (n + 1) :=
  (add_yes (isGB_yes (joinL_ok h hv hz n (by omega) (by omega))) ⟨⟨hv.1, (hz n hn).1.1⟩, ⟨hv.2, (hz n hn).1.2⟩, (hz n hn).2, by rw [joinL_len]; omega⟩).2
end Go.Proofs.Ytdkpmaahinbhlaa
