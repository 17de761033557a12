/- A state of the pebble game by value: three rows of ints; how a law's argument is opened. No condition. -/
import Derived.Test.YtcfgljfpkhefmaaArgW
import Derived.Test.YtcfgljfpkhefmaaIntsO
namespace Go.Proofs.Ytcfgljfpkhefmaa
open Go.RowKit Go.Joins Go.ChangeShapes Go.WideShapes Go.Deep

abbrev pebV (AF : Option Addr) (f cF : Nat) (AT : Option Addr) (t cT : Nat) (AZ : Option Addr) (z cZ : Nat) : Value := .agg #[.slice AF f cF, .slice AT t cT, .slice AZ z cZ]
/-- Three values in a block. -/
def Cel3 (W : World) (b : Nat) (T : TypeId) (v0 v1 v2 : Value) : Prop := W.heap[b]? = some (.cells #[v0, v1, v2] T (0, 0))
theorem Cel3.lt {W : World} {b : Nat} {T : TypeId} {v0 v1 v2 : Value} (h : Cel3 W b T v0 v1 v2) : b < W.heap.size := (Array.getElem?_eq_some_iff.1 h).1
theorem Cel3.cells {W : World} {b : Nat} {T : TypeId} {v0 v1 v2 : Value} (h : Cel3 W b T v0 v1 v2) :
    W.cell? ⟨b, 0, none⟩ = some v0 ∧ W.cell? ⟨b, 1, none⟩ = some v1 ∧ W.cell? ⟨b, 2, none⟩ = some v2 ∧ W.frozen? ⟨b, 0, none⟩ = false ∧ W.frozen? ⟨b, 1, none⟩ = false ∧ W.frozen? ⟨b, 2, none⟩ = false := by
  refine ⟨?_, ?_, ?_, frozen_of_row W b 0 _ T h, frozen_of_row W b 1 _ T h, frozen_of_row W b 2 _ T h⟩
  · rw [cell_of_row W b 0 _ T (0, 0) h]; rfl
  · rw [cell_of_row W b 1 _ T (0, 0) h]; rfl
  · rw [cell_of_row W b 2 _ T (0, 0) h]; rfl
theorem Cel3.within {W W' : World} {b lo hi : Nat} {T : TypeId} {v0 v1 v2 : Value} (h : Cel3 W b T v0 v1 v2) (hw : Within lo hi W W') (hd : b < lo ∨ hi ≤ b) : Cel3 W' b T v0 v1 v2 := (hw.block b h.lt hd).trans h
theorem Cel3.kept {W W' : World} {b : Nat} {T : TypeId} {v0 v1 v2 : Value} (h : Cel3 W b T v0 v1 v2) (hb : Below W.heap.size W W') : Cel3 W' b T v0 v1 v2 := (hb.block b h.lt).trans h
theorem Cel3.set0 {W : World} {b : Nat} {T : TypeId} {v0 v1 v2 : Value} (h : Cel3 W b T v0 v1 v2) (u : Value) : Cel3 (W.setCell ⟨b, 0, none⟩ u) b T u v1 v2 := heap_setCell_same W b 0 _ T u h
theorem Cel3.set1 {W : World} {b : Nat} {T : TypeId} {v0 v1 v2 : Value} (h : Cel3 W b T v0 v1 v2) (u : Value) : Cel3 (W.setCell ⟨b, 1, none⟩ u) b T v0 u v2 := heap_setCell_same W b 1 _ T u h
theorem Cel3.set2 {W : World} {b : Nat} {T : TypeId} {v0 v1 v2 : Value} (h : Cel3 W b T v0 v1 v2) (u : Value) : Cel3 (W.setCell ⟨b, 2, none⟩ u) b T v0 v1 u := heap_setCell_same W b 2 _ T u h
theorem cel3_new (w : World) (v0 v1 v2 : Value) (T : TypeId) : Cel3 (w.alloc (.cells #[v0, v1, v2] T)) w.heap.size T v0 v1 v2 := heap_alloc_new w _
theorem within_set (W : World) (b o : Nat) (v : Value) : Within b (b + 1) W (W.setCell ⟨b, o, none⟩ v) := by
  have hg := grownBy_set W b o v
  exact ⟨hg.os, hg.tape, hg.output, hg.size, fun j hj hd => hg.block j hj (by simp; omega)⟩
theorem within_alloc (w : World) (o : Obj) : Within 0 0 w (w.alloc o) := within_of (new_below w o)
theorem Within.refl (lo hi : Nat) (w : World) : Within lo hi w w := ⟨rfl, rfl, rfl, Nat.le_refl _, fun _ _ _ => rfl⟩
theorem Within.trans {lo hi : Nat} {a b c : World} (h : Within lo hi a b) (k : Within lo hi b c) : Within lo hi a c :=
  ⟨k.os.trans h.os, k.tape.trans h.tape, k.output.trans h.output, Nat.le_trans h.size k.size, fun i hi' hd => (k.block i (Nat.lt_of_lt_of_le hi' h.size) hd).trans (h.block i hi' hd)⟩
theorem Within.widen {lo hi lo' hi' : Nat} {a b : World} (h : Within lo hi a b) (h1 : hi ≤ lo ∨ (lo' ≤ lo ∧ hi ≤ hi')) : Within lo' hi' a b :=
  ⟨h.os, h.tape, h.output, h.size, fun i hi' hd => h.block i hi' (by omega)⟩
/-- A state that is read: its rows lie in blocks from lo to hi. -/
structure Peb3 (W : World) (lo hi : Nat) (AF AT AZ : Option Addr) (F T Z : List Int) : Prop where
  f : IntsIn W lo hi AF F
  t : IntsIn W lo hi AT T
  z : IntsIn W lo hi AZ Z
theorem Peb3.within {W W' : World} {lo hi lo' hi' : Nat} {AF AT AZ : Option Addr} {F T Z : List Int} (h : Peb3 W lo hi AF AT AZ F T Z) (hw : Within lo' hi' W W') (hd : hi ≤ lo' ∨ hi' ≤ lo) : Peb3 W' lo hi AF AT AZ F T Z :=
  ⟨h.f.within hw hd, h.t.within hw hd, h.z.within hw hd⟩
theorem IntsIn.widen {W : World} {lo hi lo' hi' : Nat} {A : Option Addr} {zs : List Int} (h : IntsIn W lo hi A zs) (h1 : lo' ≤ lo) (h2 : hi ≤ hi') (h3 : hi' ≤ W.heap.size) : IntsIn W lo' hi' A zs :=
  ⟨h3, fun hl => by
    obtain ⟨b, off, e, g1, g2, hc⟩ := h.2 hl
    exact ⟨b, off, e, by omega, by omega, hc⟩⟩
def Dis (a b : Nat × Nat) : Prop := a.2 ≤ b.1 ∨ b.2 ≤ a.1
/-- A state of the call's own: three rows in blocks of their own, between lo and hi. -/
def Own3 (W : World) (lo hi : Nat) (AF : Option Addr) (cF : Nat) (AT : Option Addr) (cT : Nat) (AZ : Option Addr) (cZ : Nat) (F T Z : List Int) : Prop :=
  ∃ f t z : Nat × Nat, OwnInts W f.1 f.2 AF cF F ∧ OwnInts W t.1 t.2 AT cT T ∧ OwnInts W z.1 z.2 AZ cZ Z ∧ Dis f t ∧ Dis f z ∧ Dis t z ∧ (lo ≤ f.1 ∧ f.2 ≤ hi) ∧ (lo ≤ t.1 ∧ t.2 ≤ hi) ∧ (lo ≤ z.1 ∧ z.2 ≤ hi) ∧ hi ≤ W.heap.size
theorem Own3.within {W W' : World} {lo hi lo' hi' : Nat} {AF AT AZ : Option Addr} {cF cT cZ : Nat} {F T Z : List Int} (h : Own3 W lo hi AF cF AT cT AZ cZ F T Z) (hw : Within lo' hi' W W') (hd : hi ≤ lo' ∨ hi' ≤ lo) : Own3 W' lo hi AF cF AT cT AZ cZ F T Z := by
  obtain ⟨f, t, z, h1, h2, h3, d1, d2, d3, b1, b2, b3, h4⟩ := h
  exact ⟨f, t, z, h1.within hw (by omega), h2.within hw (by omega), h3.within hw (by omega), d1, d2, d3, b1, b2, b3, Nat.le_trans h4 hw.size⟩
theorem Own3.reads {W : World} {lo hi : Nat} {AF AT AZ : Option Addr} {cF cT cZ : Nat} {F T Z : List Int} (h : Own3 W lo hi AF cF AT cT AZ cZ F T Z) : Peb3 W lo hi AF AT AZ F T Z := by
  obtain ⟨f, t, z, h1, h2, h3, _, _, _, b1, b2, b3, h4⟩ := h
  exact ⟨h1.reads.widen b1.1 b1.2 h4, h2.reads.widen b2.1 b2.2 h4, h3.reads.widen b3.1 b3.2 h4⟩
theorem Own3.widen {W : World} {lo hi lo' hi' : Nat} {AF AT AZ : Option Addr} {cF cT cZ : Nat} {F T Z : List Int} (h : Own3 W lo hi AF cF AT cT AZ cZ F T Z) (h1 : lo' ≤ lo) (h2 : hi ≤ hi') (h3 : hi' ≤ W.heap.size) : Own3 W lo' hi' AF cF AT cT AZ cZ F T Z := by
  obtain ⟨f, t, z, g1, g2, g3, d1, d2, d3, b1, b2, b3, _⟩ := h
  exact ⟨f, t, z, g1, g2, g3, d1, d2, d3, by omega, by omega, by omega, h3⟩

section
variable {H : Type} {enc : TypeId × Value → H} {w : World} {base : Nat}
theorem open_row {n : Nat} {v : Value} {y : DataW H × List MemPlace} (h : DataW.trod enc Try.prog w 0 (fun _ => true) true n 28 [v] = some y) :
    ∃ (A : Option Addr) (cap : Nat) (zs : List Int), v = .slice A zs.length cap ∧ zs.length ≤ maxLen ∧ IntsIn w 0 w.heap.size A zs ∧ WfI zs := by
  have key : ∃ (a : Option Addr) (len cap : Nat) (zs : List Int), v = .slice a len cap ∧ IsRow .i64 w a len cap zs := by
    rcases Go.ChangeShapes.open_ints Try.underlying28 Try.underlying3 (by kernel_rfl) h with ⟨hcs, _⟩ | ⟨x, l, c, zs, hcs, _, hl, hm, hz, _, hcell, hwz⟩
    · exact ⟨none, 0, 0, [], by simpa using hcs, .inl ⟨rfl, rfl, rfl, rfl⟩⟩
    · exact ⟨some x, l, c, zs, by simpa using hcs, .inr ⟨_, rfl, hl, hm, by simpa using hz, hcell, hwz⟩⟩
  obtain ⟨a, len, cap, zs, rfl, hr⟩ := key
  obtain ⟨ys, h1, h2, h3, h4⟩ := hr.intsW
  subst h1
  exact ⟨a, cap, ys, rfl, h3, h2, h4⟩
end
/-- The world that only an answer's box was written in. -/
theorem ret3 {W : World} {b : Nat} {T : TypeId} {a0 a1 a2 : Value} (h : Cel3 W b T a0 a1 a2) (v0 v1 v2 : Value) : Cel3 (((W.setCell ⟨b, 0, none⟩ v0).setCell ⟨b, 1, none⟩ v1).setCell ⟨b, 2, none⟩ v2) b T v0 v1 v2 ∧ Within b (b + 1) W (((W.setCell ⟨b, 0, none⟩ v0).setCell ⟨b, 1, none⟩ v1).setCell ⟨b, 2, none⟩ v2) :=
  ⟨((h.set0 v0).set1 v1).set2 v2, ((within_set W b 0 v0).trans (within_set _ b 1 v1)).trans (within_set _ b 2 v2)⟩

end Go.Proofs.Ytcfgljfpkhefmaa
