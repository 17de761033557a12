/- A block of five values: a step in a box. No condition. -/
import Derived.Test.YtdkpmaahinbhlaaFzB1
import Derived.Test.YtdkpmaahinbhlaaFzJoin
namespace Go.Proofs.Ytdkpmaahinbhlaa
open Go.RowKit

def Cel5 (W : World) (b : Nat) (T : TypeId) (v0 v1 v2 v3 v4 : Value) : Prop := W.heap[b]? = some (.cells #[v0, v1, v2, v3, v4] T (0, 0))
section
variable {W W' : World} {b : Nat} {T : TypeId} {v0 v1 v2 v3 v4 : Value}
theorem Cel5.lt (h : Cel5 W b T v0 v1 v2 v3 v4) : b < W.heap.size := (Array.getElem?_eq_some_iff.1 h).1
theorem Cel5.cells (h : Cel5 W b T v0 v1 v2 v3 v4) :
    W.cell? ⟨b, 0, none⟩ = some v0 ∧ W.cell? ⟨b, 1, none⟩ = some v1 ∧ W.cell? ⟨b, 2, none⟩ = some v2 ∧ W.cell? ⟨b, 3, none⟩ = some v3 ∧ W.cell? ⟨b, 4, none⟩ = some v4 := by
  refine ⟨?_, ?_, ?_, ?_, ?_⟩
  · rw [cell_of_row W b 0 _ T (0, 0) h]; rfl
  · rw [cell_of_row W b 1 _ T (0, 0) h]; rfl
  · rw [cell_of_row W b 2 _ T (0, 0) h]; rfl
  · rw [cell_of_row W b 3 _ T (0, 0) h]; rfl
  · rw [cell_of_row W b 4 _ T (0, 0) h]; rfl
theorem Cel5.froz (h : Cel5 W b T v0 v1 v2 v3 v4) : W.frozen? ⟨b, 0, none⟩ = false ∧ W.frozen? ⟨b, 1, none⟩ = false ∧ W.frozen? ⟨b, 2, none⟩ = false ∧ W.frozen? ⟨b, 3, none⟩ = false ∧ W.frozen? ⟨b, 4, none⟩ = false :=
  ⟨frozen_of_row W b 0 _ T h, frozen_of_row W b 1 _ T h, frozen_of_row W b 2 _ T h, frozen_of_row W b 3 _ T h, frozen_of_row W b 4 _ T h⟩
theorem Cel5.within (h : Cel5 W b T v0 v1 v2 v3 v4) {lo hi : Nat} (hw : Within lo hi W W') (hd : b < lo ∨ hi ≤ b) : Cel5 W' b T v0 v1 v2 v3 v4 := (hw.block b h.lt hd).trans h
theorem Cel5.kept (h : Cel5 W b T v0 v1 v2 v3 v4) (hb : Below W.heap.size W W') : Cel5 W' b T v0 v1 v2 v3 v4 := (hb.block b h.lt).trans h
theorem cel5_new (w : World) (v0 v1 v2 v3 v4 : Value) (T : TypeId) : Cel5 (w.alloc (.cells #[v0, v1, v2, v3, v4] T)) w.heap.size T v0 v1 v2 v3 v4 := heap_alloc_new w _
theorem ret5 (h : Cel5 W b T v0 v1 v2 v3 v4) (u0 u1 u2 u3 u4 : Value) :
    Cel5 (((((W.setCell ⟨b, 0, none⟩ u0).setCell ⟨b, 1, none⟩ u1).setCell ⟨b, 2, none⟩ u2).setCell ⟨b, 3, none⟩ u3).setCell ⟨b, 4, none⟩ u4) b T u0 u1 u2 u3 u4 ∧
      Within b (b + 1) W (((((W.setCell ⟨b, 0, none⟩ u0).setCell ⟨b, 1, none⟩ u1).setCell ⟨b, 2, none⟩ u2).setCell ⟨b, 3, none⟩ u3).setCell ⟨b, 4, none⟩ u4) := by
  have h0 : Cel5 (W.setCell ⟨b, 0, none⟩ u0) b T u0 v1 v2 v3 v4 := heap_setCell_same W b 0 _ T u0 h
  have h1 : Cel5 ((W.setCell ⟨b, 0, none⟩ u0).setCell ⟨b, 1, none⟩ u1) b T u0 u1 v2 v3 v4 := heap_setCell_same _ b 1 _ T u1 h0
  have h2 : Cel5 (((W.setCell ⟨b, 0, none⟩ u0).setCell ⟨b, 1, none⟩ u1).setCell ⟨b, 2, none⟩ u2) b T u0 u1 u2 v3 v4 := heap_setCell_same _ b 2 _ T u2 h1
  have h3 : Cel5 ((((W.setCell ⟨b, 0, none⟩ u0).setCell ⟨b, 1, none⟩ u1).setCell ⟨b, 2, none⟩ u2).setCell ⟨b, 3, none⟩ u3) b T u0 u1 u2 u3 v4 := heap_setCell_same _ b 3 _ T u3 h2
  exact ⟨heap_setCell_same _ b 4 _ T u4 h3, ((((within_set W b 0 u0).trans (within_set _ b 1 u1)).trans (within_set _ b 2 u2)).trans (within_set _ b 3 u3)).trans (within_set _ b 4 u4)⟩
end
end Go.Proofs.Ytdkpmaahinbhlaa
