/- What the laws' walks carry from call to call: a graph in a box of its own, and the bars that it points to. No condition. -/
import Derived.Test.YtehendofgcebcaaDoorBarMark
namespace Go.Proofs.YtehendofgcebcaaDoor
open Go.RowKit

/-- A graph by value lies in the block b. -/
def Box (W : World) (b : Nat) (q : Int) (v : Value) : Prop := b < W.heap.size ∧ W.cell? ⟨b, 0, none⟩ = some (.int .i64 q) ∧ W.cell? ⟨b, 1, none⟩ = some v
theorem Box.kept {W W' : World} {b : Nat} {q : Int} {v : Value} (h : Box W b q v) (hb : Below W.heap.size W W') : Box W' b q v :=
  ⟨Nat.lt_of_lt_of_le h.1 hb.size, (hb.cell (p := ⟨b, 0, none⟩) h.1).trans h.2.1, (hb.cell (p := ⟨b, 1, none⟩) h.1).trans h.2.2⟩
theorem Box.grown {W W' : World} {b g : Nat} {q : Int} {v : Value} (h : Box W b q v) (hg : W.grownBy W' (some g)) (hne : b ≠ g) : Box W' b q v :=
  ⟨Nat.lt_of_lt_of_le h.1 hg.size, (World.cell?_of_block (hg.block b h.1 (by simpa using hne))).trans h.2.1, (World.cell?_of_block (hg.block b h.1 (by simpa using hne))).trans h.2.2⟩
theorem box_new (w : World) (q : Int) (v : Value) (t : TypeId) : Box (w.alloc (.cells #[.int .i64 q, v] t)) w.heap.size q v :=
  ⟨by simp, by rw [World.cell?_alloc_at _ _ _ _ rfl]; rfl, by rw [World.cell?_alloc_at _ _ _ _ rfl]; rfl⟩
theorem new_below (w : World) (o : Obj) : Below w.heap.size w (w.alloc o) := (Below.refl _ _).alloc (Nat.le_refl _) _
/-- Bars that lie below what a later world has. -/
theorem BarsAt.on {w w' : World} {A : Option Addr} {l : List (Int × Int)} (h : BarsAt w w.heap.size A l) (hb : Below w.heap.size w w') : BarsAt w' w'.heap.size A l := (h.kept hb).more hb.size
theorem BarsAt.nil (w : World) (B : Nat) (A : Option Addr) : BarsAt w B A [] := fun h => absurd h (by simp)
theorem BarsAt.grown {w w' : World} {B g : Nat} {A : Option Addr} {l : List (Int × Int)} (h : BarsAt w B A l) (hg : w.grownBy w' (some g)) (hB : B ≤ w.heap.size) (hne : ∀ a, A = some a → 0 < l.length → a.block ≠ g) : BarsAt w' B A l := fun hl => by
  obtain ⟨b, off, rfl, hlt, hc⟩ := h hl
  have hn := hne _ rfl hl
  simp only at hn
  exact ⟨b, off, rfl, hlt, fun k hk => ⟨(World.cell?_of_block (a := ⟨b, off + k * 2, none⟩) (hg.block b (by omega) (by simpa using hn))).trans (hc k hk).1, (World.cell?_of_block (a := ⟨b, off + k * 2 + 1, none⟩) (hg.block b (by omega) (by simpa using hn))).trans (hc k hk).2⟩⟩
theorem below_on {B : Nat} {a b c : World} (h : Below B a b) (k : Below b.heap.size b c) (hB : B ≤ b.heap.size) : Below B a c := h.trans (k.mono hB)
theorem box2 {W : World} {b1 b2 : Nat} {q1 q2 : Int} {v1 v2 : Value} (h1 : Box W b1 q1 v1) (h2 : Box W b2 q2 v2) :
    W.cell? ⟨b1, 0, none⟩ = some (.int .i64 q1) ∧ W.cell? ⟨b1, 1, none⟩ = some v1 ∧ W.cell? ⟨b2, 0, none⟩ = some (.int .i64 q2) ∧ W.cell? ⟨b2, 1, none⟩ = some v2 := ⟨h1.2.1, h1.2.2, h2.2.1, h2.2.2⟩
end Go.Proofs.YtehendofgcebcaaDoor
