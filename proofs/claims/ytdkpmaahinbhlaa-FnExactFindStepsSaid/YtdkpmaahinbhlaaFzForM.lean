/- Pieces of a graph by their least points: what some rounds of lowering leave, and that a list of bars is independent for 1 and 1 exactly if each of its bars joins two pieces. Words on lists, of no program. No condition. -/
import Derived.Test.YtdkpmaahinbhlaaFzMatG
namespace Go.Proofs.Ytdkpmaahinbhlaa

/-- The least points of the pieces. -/
structure RootR (E : List (Int × Int)) (r : Nat → Nat) : Prop where
  le : ∀ v, r v ≤ v
  bar : ∀ x ∈ E, r x.1.toNat = r x.2.toNat
  fac : ∀ f : Nat → Nat, (∀ x ∈ E, f x.1.toNat = f x.2.toNat) → ∀ v, f (r v) = f v
theorem RootR.same {E : List (Int × Int)} {r s : Nat → Nat} (h : RootR E r) (k : RootR E s) : r = s := by
  funext v
  have h1 := k.fac r h.bar v
  have h2 := h.fac s k.bar v
  have h3 := h.le (s v)
  have h4 := k.le (r v)
  omega
theorem RootR.nil : RootR [] (fun v => v) := ⟨fun _ => Nat.le_refl _, fun _ hx => (List.not_mem_nil hx).elim, fun _ _ _ => rfl⟩
/-- Two pieces become one. -/
def joinR (r : Nat → Nat) (a b : Nat) : Nat → Nat := fun v => if r v = max (r a) (r b) then min (r a) (r b) else r v
theorem RootR.join {E : List (Int × Int)} {r : Nat → Nat} (h : RootR E r) {x : Int × Int} (hx : r x.1.toNat ≠ r x.2.toNat) : RootR (E ++ [x]) (joinR r x.1.toNat x.2.toNat) := by
  unfold joinR
  refine ⟨fun v => ?_, fun y hy => ?_, fun f hf v => ?_⟩
  · have := h.le v
    show (if r v = _ then _ else _) ≤ v
    split <;> omega
  · show (if r y.1.toNat = _ then _ else _) = (if r y.2.toNat = _ then _ else _)
    rcases List.mem_append.1 hy with hy | hy
    · rw [h.bar y hy]
    · rw [List.mem_singleton] at hy
      subst hy
      split <;> split <;> omega
  · show f (if r v = _ then _ else _) = f v
    have e1 := h.fac f (fun y hy => hf y (List.mem_append_left _ hy))
    have e2 := hf x (List.mem_append_right _ (by simp))
    split
    · rename_i c
      have hv : f (r v) = f v := e1 v
      rw [c] at hv
      rcases Nat.le_total (r x.1.toNat) (r x.2.toNat) with q | q
      · rw [Nat.max_eq_right q, e1] at hv
        rw [Nat.min_eq_left q, e1, e2, hv]
      · rw [Nat.max_eq_left q, e1] at hv
        rw [Nat.min_eq_right q, e1, ← e2, hv]
    · exact e1 v
end Go.Proofs.Ytdkpmaahinbhlaa
