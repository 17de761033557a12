/- What slices.Delete does with one bar of a row of the call's own. No condition. -/
import Derived.Test.YtdkpmaahinbhlaaFzRemoveS
namespace Go.Proofs.Ytdkpmaahinbhlaa
open Go.RowKit

theorem own_setCells {base : Nat} {e : TypeId} {size g n cap : Nat} : ∀ (vs : List Value) (o : Nat) (w : World) (xs : List Value), w.ownsRow base e size (.slice (some ⟨g, 0, none⟩) n cap) n xs →
    ∃ ys, (w.setCells g o vs).ownsRow base e size (.slice (some ⟨g, 0, none⟩) n cap) n ys ∧ w.grownBy (w.setCells g o vs) (some g) ∧ ys.length = xs.length ∧ ∀ j, j < xs.length → ys[j]? = if o ≤ j ∧ j < o + vs.length then vs[j - o]? else xs[j]? := by
  intro vs
  induction vs with
  | nil =>
    intro o w xs h
    refine ⟨xs, h, World.grownBy.refl _ _, rfl, fun j _ => ?_⟩
    rw [if_neg (by simp; try omega)]
  | cons v vs ih =>
    intro o w xs h
    have s := h.stored o v
    obtain ⟨ys, h1, h2, h3, h4⟩ := ih (o + 1) _ _ s.1
    refine ⟨ys, h1, s.2.trans_ h2, by simpa using h3, fun j hj => ?_⟩
    rw [h4 j (by simpa using hj)]
    by_cases c1 : o + 1 ≤ j ∧ j < o + 1 + vs.length
    · rw [if_pos c1, if_pos (by simp; omega)]
      rw [show j - o = (j - (o + 1)) + 1 by omega, List.getElem?_cons_succ]
    · rw [if_neg c1]
      by_cases c2 : j = o
      · subst c2
        rw [if_pos (by simp), List.getElem?_set, if_pos rfl, if_pos hj, Nat.sub_self]
        rfl
      · rw [if_neg (by simp; omega), List.getElem?_set_ne (by omega)]
end Go.Proofs.Ytdkpmaahinbhlaa
