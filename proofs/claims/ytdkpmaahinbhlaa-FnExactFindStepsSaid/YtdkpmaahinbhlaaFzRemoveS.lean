/- What RemoveBar answers, the specification's. No condition. -/
import Derived.Test.YtdkpmaahinbhlaaFzCopyC
namespace Go.Proofs.Ytdkpmaahinbhlaa
open Go.RowKit

theorem barCells_take : ∀ (l : List (Int × Int)) (k : Nat), barCells (l.take k) = (barCells l).take (k * 2) := by
  intro l
  induction l with
  | nil => intro k; simp [barCells]
  | cons x l ih =>
    intro k
    rcases k with _ | k
    · simp [barCells]
    · have := ih k
      simp only [barCells] at this ⊢
      rw [List.take_succ_cons, List.flatMap_cons, this, show (k + 1) * 2 = k * 2 + 2 by omega, List.flatMap_cons]
      rfl
theorem barCells_drop : ∀ (l : List (Int × Int)) (k : Nat), barCells (l.drop k) = (barCells l).drop (k * 2) := by
  intro l
  induction l with
  | nil => intro k; simp [barCells]
  | cons x l ih =>
    intro k
    rcases k with _ | k
    · simp [barCells]
    · have := ih k
      simp only [barCells] at this ⊢
      rw [List.drop_succ_cons, this, show (k + 1) * 2 = k * 2 + 2 by omega, List.flatMap_cons]
      rfl
/-- The answer's variable r is written behind what a call returned. -/
theorem ownIn_ret {w w3 : World} {r lo : Nat} {A2 : Option Addr} {c2 : Nat} {l : List (Int × Int)} (ho : OwnIn w3 lo w3.heap.size A2 c2 l) (hB : Below w.heap.size w w3) (h1 : w.heap.size ≤ r) (h2 : r < lo) (u v : Value) :
    OwnIn ((w3.setCell ⟨r, 0, none⟩ u).setCell ⟨r, 1, none⟩ v) w.heap.size ((w3.setCell ⟨r, 0, none⟩ u).setCell ⟨r, 1, none⟩ v).heap.size A2 c2 l ∧ Below w.heap.size w ((w3.setCell ⟨r, 0, none⟩ u).setCell ⟨r, 1, none⟩ v) := by
  have hg := (grownBy_set w3 r 0 u).trans_ (grownBy_set (w3.setCell ⟨r, 0, none⟩ u) r 1 v)
  refine ⟨?_, hB.grown hg hB.size fun g e => by cases e; exact h1⟩
  rcases ho.2 with h | ⟨g, e, k1, k2, hown⟩
  · exact ⟨Nat.le_refl _, .inl h⟩
  · refine ⟨Nat.le_refl _, .inr ⟨g, e, by omega, Nat.lt_of_lt_of_le k2 hg.size, (own_base hown (by omega)).kept hg (.inr (by simp [Value.ownBlock]; omega))⟩⟩

end Go.Proofs.Ytdkpmaahinbhlaa
