/- A row's range is chosen so that it begins in the heap; what a state of the call's own asks ahead of a bar's placing. No program's walk. No condition. -/
import Derived.Test.YtdnmmjaelgjkaaaPlaM
namespace Go.Proofs.Ytdnmmjaelgjkaaa
open Go.RowKit

theorem OwnR.norm {W : World} {r : Nat × Nat} {A : Option Addr} {cap : Nat} {zs : List Int} (h : OwnR W r.1 r.2 A cap zs) : ∃ q : Nat × Nat, OwnR W q.1 q.2 A cap zs ∧ q.1 ≤ W.heap.size ∧ (q = r ∨ q = (W.heap.size, W.heap.size)) := by
  rcases h.2 with e | ⟨g, e, h1, h2, ho⟩
  · exact ⟨(W.heap.size, W.heap.size), ⟨Nat.le_refl _, .inl e⟩, Nat.le_refl _, .inr rfl⟩
  · exact ⟨r, h, by have := h.1; omega, .inl rfl⟩
theorem OwnF.norm {W : World} {f t z : Nat × Nat} {AF AT AZ : Option Addr} {cF cT cZ : Nat} {F T Z : List Int} (h : OwnF W f t z AF cF AT cT AZ cZ F T Z) {B pb : Nat} (hB : B ≤ W.heap.size) (hp : pb < W.heap.size) (h2 : B ≤ t.1) (h3 : B ≤ z.1) (p2 : pb < t.1 ∨ t.2 ≤ pb) (p3 : pb < z.1 ∨ z.2 ≤ pb) :
    ∃ t' z' : Nat × Nat, OwnF W f t' z' AF cF AT cT AZ cZ F T Z ∧ B ≤ t'.1 ∧ B ≤ z'.1 ∧ (pb < t'.1 ∨ t'.2 ≤ pb) ∧ (pb < z'.1 ∨ z'.2 ≤ pb) ∧ t'.1 ≤ W.heap.size ∧ z'.1 ≤ W.heap.size := by
  obtain ⟨o1, o2, o3, d1, d2, d3⟩ := h
  obtain ⟨t', o2', l2, e2⟩ := o2.norm
  obtain ⟨z', o3', l3, e3⟩ := o3.norm
  have s1 := o1.1
  have s2 := o2.1
  have s3 := o3.1
  unfold Dis at d1 d2 d3
  refine ⟨t', z', ⟨o1, o2', o3', ?_, ?_, ?_⟩, ?_, ?_, ?_, ?_, l2, l3⟩
  all_goals (rcases e2 with rfl | rfl <;> rcases e3 with rfl | rfl)
  all_goals (first | omega | (unfold Dis; omega) | (unfold Dis; simp only []; omega))
theorem BarsIn.widen {W : World} {lo hi lo' hi' : Nat} {A : Option Addr} {l : List (Int × Int)} (h : BarsIn W lo hi A l) (h1 : lo' ≤ lo) (h2 : hi ≤ hi') (h3 : hi' ≤ W.heap.size) : BarsIn W lo' hi' A l :=
  ⟨h3, fun hl => by
    obtain ⟨b, off, e, b1, b2, hc⟩ := h.2 hl
    exact ⟨b, off, e, by omega, by omega, hc⟩⟩
end Go.Proofs.Ytdnmmjaelgjkaaa
