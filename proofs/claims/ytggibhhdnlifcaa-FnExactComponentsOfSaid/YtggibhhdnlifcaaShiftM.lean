/- What stands while a path is turned round in a copy of a state. No program's walk. No condition. -/
import Derived.Test.YtggibhhdnlifcaaPebSt
import Derived.Test.YtggibhhdnlifcaaIsPebM
namespace Go.Proofs.Ytggibhhdnlifcaa
open Go.RowKit

/-- Where a point stands in a queue. -/
def posQ : List (Int × Nat) → Int → Nat
  | [], _ => 0
  | x :: r, t => if x.1 = t then 0 else posQ r t + 1
theorem posQ_in : ∀ (q1 r : List (Int × Nat)) (t : Int), t ∈ q1.map Prod.fst → posQ (q1 ++ r) t < q1.length := by
  intro q1 r t
  induction q1 with
  | nil => intro h; cases h
  | cons x q1 ih =>
    intro h
    rw [List.cons_append, posQ]
    by_cases c : x.1 = t
    · rw [if_pos c]; simp
    · rw [if_neg c]
      have : t ∈ q1.map Prod.fst := by
        rcases List.mem_cons.1 h with e | e
        · exact absurd e.symm c
        · exact e
      have := ih this
      simp only [List.length_cons]
      omega
theorem posQ_out : ∀ (q1 q2 : List (Int × Nat)) (t : Int) (i : Nat), t ∉ q1.map Prod.fst → posQ (q1 ++ (t, i) :: q2) t = q1.length := by
  intro q1 q2 t i
  induction q1 with
  | nil => intro _; simp [posQ]
  | cons x q1 ih =>
    intro h
    simp only [List.map_cons, List.mem_cons, not_or] at h
    rw [List.cons_append, posQ, if_neg (fun e => h.1 e.symm), ih h.2]
    rfl
theorem posQ_step {q1 q2 : List (Int × Nat)} {t t' : Int} {i : Nat} (h : t ∉ q1.map Prod.fst) (h' : t' ∈ q1.map Prod.fst) : posQ (q1 ++ (t, i) :: q2) t' < posQ (q1 ++ (t, i) :: q2) t := by
  rw [posQ_out q1 q2 t i h]
  exact posQ_in q1 _ t' h'
/-- The path from t on is still to be turned. -/
structure TurnI (P : Nat) (E : List (Int × Int)) (T0 : List Int) (a : Int) (q : List (Int × Nat)) (TF : List Int) (t : Int) (T : List Int) : Prop where
  ends : EndsQ P E T0
  len : T.length = E.length
  ex : ∃ q1 q2, q = q1 ++ q2 ∧ PathQ P E T0 a q1 ∧ t ∈ q1.map Prod.fst ∧ turnQ E a q1.reverse t T = TF ∧ ∀ x ∈ q1, x.1 ≠ a → T.getD x.2 0 = T0.getD x.2 0
theorem TurnI.done {P : Nat} {E : List (Int × Int)} {T0 : List Int} {a : Int} {q : List (Int × Nat)} {TF T : List Int} (h : TurnI P E T0 a q TF a T) : T = TF := by
  obtain ⟨q1, q2, _, _, _, e, _⟩ := h.ex
  rw [turnQ_a] at e
  exact e
/-- One bar of the path: its number, and where the path goes on. -/
theorem TurnI.next {P : Nat} {E : List (Int × Int)} {T0 : List Int} {a : Int} {q : List (Int × Nat)} {TF T : List Int} {t : Int} (h : TurnI P E T0 a q TF t T) (hn : t ≠ a) :
    ∃ i, (t, i) ∈ q ∧ i < E.length ∧ (0 ≤ t ∧ t < (P : Int)) ∧ T.getD i 0 = oth (E.getD i (0, 0)) t ∧ isEnd (E.getD i (0, 0)) t ∧ (0 ≤ oth (E.getD i (0, 0)) t ∧ oth (E.getD i (0, 0)) t < (P : Int)) ∧ TurnI P E T0 a q TF (oth (E.getD i (0, 0)) t) (T.set i t) ∧ posQ q (oth (E.getD i (0, 0)) t) < posQ q t := by
  obtain ⟨q1, q2, rfl, hp, ht, e, hT⟩ := h.ex
  obtain ⟨i, p1, p2, rfl, h1, h2, h3, h4, h5, h6, h7, h8⟩ := hp.at ht hn
  rw [turnQ_step E a t i p1 p2 T h1 hn] at e
  have hend : isEnd (E.getD i (0, 0)) t := by
    have := h.ends.tail i h3
    rw [h4] at this
    have := oth_end this
    rwa [oth_oth] at this
  have hb := h.ends.bar i h3
  refine ⟨i, by simp, h3, ⟨h6, h7⟩, (hT (t, i) (by simp) hn).trans h4, hend, ?_, ⟨h.ends, by rw [List.length_set]; exact h.len, p1, (t, i) :: p2 ++ q2, by simp, h8, h5, e, fun x hx hxa => ?_⟩, ?_⟩
  · unfold isEnd at hend
    unfold oth
    omega
  · rw [set_getD_ne _ _ _ _ _ (h8.other h2 h4 hx hxa)]
    exact hT x (List.mem_append_left _ hx) hxa
  · rw [List.append_assoc, List.cons_append]
    exact posQ_step h2 h5
theorem TurnI.start {P : Nat} {E : List (Int × Int)} {T0 : List Int} {a u : Int} {q r : List (Int × Nat)} (he : EndsQ P E T0) (hp : PathQ P E T0 a q) (hu : u ∈ q.map Prod.fst) : TurnI P E T0 a (q ++ r) (turnQ E a q.reverse u T0) u T0 :=
  ⟨he, he.len, q, r, rfl, hp, hu, rfl, fun _ _ _ => rfl⟩
end Go.Proofs.Ytggibhhdnlifcaa
