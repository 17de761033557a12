/- A row of ints that is collected: its range is the first one, or new; what else was there stands. No program's walk. No condition. -/
import Derived.Test.YtcfgljfpkhefmaaOwnF
namespace Go.Proofs.Ytcfgljfpkhefmaa
open Go.RowKit

structure GrowP (a b : Nat) (V W : World) (ys : List Int) (A : Option Addr) (cap lo hi : Nat) : Prop where
  row : OwnR W lo hi A cap ys
  rng : (lo = a ∧ hi = b) ∨ V.heap.size ≤ lo
  le : lo ≤ W.heap.size
  wi : Within a b V W
theorem GrowP.push {a b : Nat} {V W W' : World} {ys : List Int} {y : Int} {A A' : Option Addr} {cap lo hi c' lo' hi' : Nat} (h : GrowP a b V W ys A cap lo hi) (hr : OwnR W' lo' hi' A' c' (ys ++ [y])) (hd : (lo' = lo ∧ hi' = hi) ∨ (W.heap.size ≤ lo' ∧ lo' ≤ W'.heap.size ∧ hi' ≤ W'.heap.size)) (hw : Within lo hi W W') : GrowP a b V W' (ys ++ [y]) A' c' lo' hi' := by
  obtain ⟨_, h2, h3, h4⟩ := h
  have s1 := h4.size
  have s2 := hw.size
  refine ⟨hr, ?_, ?_, ⟨hw.os.trans h4.os, hw.tape.trans h4.tape, hw.output.trans h4.output, Nat.le_trans s1 s2, fun i hi hd => (hw.block i (by omega) (by omega)).trans (h4.block i hi hd)⟩⟩
  · rcases hd with ⟨rfl, rfl⟩ | hd
    · exact h2
    · exact .inr (by omega)
  · rcases hd with ⟨rfl, rfl⟩ | hd
    · omega
    · exact hd.2.1
theorem GrowP.out {a b : Nat} {V W : World} {ys : List Int} {A : Option Addr} {cap lo hi : Nat} (h : GrowP a b V W ys A cap lo hi) {B : Nat} (h1 : B ≤ a) (h2 : B ≤ V.heap.size) : OwnInts W B W.heap.size A cap ys :=
  h.row.ints.widen (by have := h.rng; omega) h.row.1 (Nat.le_refl _)
end Go.Proofs.Ytcfgljfpkhefmaa
