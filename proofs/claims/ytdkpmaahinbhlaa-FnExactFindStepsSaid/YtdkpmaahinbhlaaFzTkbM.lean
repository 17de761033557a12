/- A step taken back: the neighbours of a point are different points; what impl.Graph.takeBack answers. No program's walk. No condition. -/
import Derived.Test.YtdkpmaahinbhlaaFzUndM
namespace Go.Proofs.Ytdkpmaahinbhlaa
open Go.RowKit

theorem near_ne {P v n : Nat} {l : List (Int × Int)} (h : HenS P n l) (hv : v < P) : (nearL (v : Int) l).Pairwise (· ≠ ·) := by
  rw [near_oth h.1, List.pairwise_map, List.pairwise_iff_forall_sublist]
  intro x y hs e
  have hx := List.mem_filter.1 (hs.subset (List.mem_cons_self ..))
  have hy := List.mem_filter.1 (hs.subset (List.mem_cons_of_mem _ (List.mem_cons_self ..)))
  exact no_pair h.2.1 hv (hs.trans List.filter_sublist) (h.1 x hx.1) hx.2 hy.2 (by omega)
theorem near_in {p v : Int} {l : List (Int × Int)} (h : IsG p l) {z : Int} (hz : z ∈ nearL v l) : (0 ≤ z ∧ z < p) ∧ z ≠ v := by
  obtain ⟨_, _, h3, _⟩ := isG_iff.1 h
  unfold nearL at hz
  obtain ⟨x, hx, rfl⟩ := List.mem_map.1 hz
  have q := List.mem_filter.1 hx
  have k := h3 x q.1
  have e := q.2
  unfold endB at e
  unfold oth
  simp at e
  omega
/-- The three neighbours of a point with three bars. -/
theorem near_three {P v n : Nat} {a b c : Int} {l : List (Int × Int)} (hg : IsG (P : Int) l) (h : HenS P n l) (hv : v < P) (hn : nearL (v : Int) l = [a, b, c]) : ((0 ≤ a ∧ a < (P : Int)) ∧ (0 ≤ b ∧ b < (P : Int)) ∧ (0 ≤ c ∧ c < (P : Int))) ∧ a ≠ b ∧ b ≠ c ∧ c ≠ a := by
  have h1 := near_ne h hv
  rw [hn] at h1
  simp only [List.pairwise_cons, List.mem_cons, List.not_mem_nil, or_false, forall_eq_or_imp, forall_eq] at h1
  refine ⟨⟨(near_in (v := (v : Int)) hg (by rw [hn]; simp)).1, (near_in (v := (v : Int)) hg (by rw [hn]; simp)).1, (near_in (v := (v : Int)) hg (by rw [hn]; simp)).1⟩, h1.1.1, h1.2.1, fun e => h1.1.2 e.symm⟩
/-- A point with a bar keeps its graph under 24 bars once it is gone and one bar is set. -/
theorem off_less {v : Int} {l : List (Int × Int)} {n : Nat} (h : (nearL v l).length = n) : (offI v l).length + n = l.length := by
  rw [← h]
  unfold nearL offI
  rw [List.length_map]
  have := List.length_eq_countP_add_countP (endB v) (l := l)
  rw [← List.countP_eq_length_filter, ← List.countP_eq_length_filter]
  have e : l.countP (fun x => !endB v x) = l.countP (fun a => ¬endB v a = true) := List.countP_congr fun x _ => by simp
  omega
end Go.Proofs.Ytdkpmaahinbhlaa
