/- What the walks of MoveJoint carry. No condition. -/
import Derived.Test.YtehendofgcebcaaChg
namespace Go.Proofs.Ytehendofgcebcaa
open Go.RowKit

/-- The framework's box, the answer's, and the box of the copy with the places ms. -/
structure MvI (w wr : World) (ob lo hi : Nat) (p : Int) (A : Option Addr) (ca : Nat) (l : List (Int × Int)) (B : Option Addr) (cb : Nat) (m : List (Int × Int)) (A2 : Option Addr) (c2 : Nat) (B2 : Option Addr) (d2 : Nat) (ms : List (Int × Int)) (x1 x2 : Int) : Prop where
  f : FbI w wr lo hi p A ca l B cb m
  b : Box wr (w.heap.size + 1) x1 (.int .i64 x2)
  r : Cel3 wr (w.heap.size + 2) 63 (.int .i64 0) (.slice none 0 0) (.slice none 0 0)
  o : Cel3 wr ob 63 (.int .i64 p) (.slice A2 l.length c2) (.slice B2 m.length d2)
  own : OwnFw wr (w.heap.size + 3) ob A2 c2 l B2 d2 ms
  lt : w.heap.size + 3 ≤ ob
  hh : hi ≤ w.heap.size
  len : ms.length = m.length
section
variable {w wr W : World} {ob lo hi : Nat} {p : Int} {A B A2 B2 : Option Addr} {ca cb c2 d2 : Nat} {l m ms : List (Int × Int)} {x1 x2 : Int}
theorem MvI.below (h : MvI w wr ob lo hi p A ca l B cb m A2 c2 B2 d2 ms x1 x2) (hb : Below wr.heap.size wr W) : MvI w W ob lo hi p A ca l B cb m A2 c2 B2 d2 ms x1 x2 :=
  ⟨h.f.below hb, h.b.kept hb, h.r.kept hb, h.o.kept hb, h.own.within (within_of hb) (.inr (Nat.zero_le _)), h.lt, h.hh, h.len⟩
theorem MvI.new (hf : FbI w wr lo hi p A ca l B cb m) (hb : Box wr (w.heap.size + 1) x1 (.int .i64 x2)) (hr : Cel3 wr (w.heap.size + 2) 63 (.int .i64 0) (.slice none 0 0) (.slice none 0 0)) (ho : OwnFw wr (w.heap.size + 3) wr.heap.size A2 c2 l B2 d2 m) (hh : hi ≤ w.heap.size) (hl : w.heap.size + 3 ≤ wr.heap.size) :
    MvI w (wr.alloc (.cells #[.int .i64 p, .slice A2 l.length c2, .slice B2 m.length d2] 63)) wr.heap.size lo hi p A ca l B cb m A2 c2 B2 d2 m x1 x2 :=
  ⟨hf.below (new_below _ _), hb.kept (new_below _ _), hr.kept (new_below _ _), cel3_new _ _ _ _ _, ho.within (within_of (new_below _ _)) (.inr (Nat.zero_le _)), hl, hh, rfl⟩
/-- Place k of the copy. -/
theorem MvI.at (h : MvI w wr ob lo hi p A ca l B cb m A2 c2 B2 d2 ms x1 x2) {k : Nat} (hk : k < m.length) :
    ∃ g, B2 = some ⟨g, 0, none⟩ ∧ (wr.cell? ⟨g, k * 2, none⟩ = some (.int .i64 (ms.getD k (0, 0)).1) ∧ wr.cell? ⟨g, k * 2 + 1, none⟩ = some (.int .i64 (ms.getD k (0, 0)).2)) ∧ (wr.frozen? ⟨g, k * 2, none⟩ = false ∧ wr.frozen? ⟨g, k * 2 + 1, none⟩ = false) ∧
      (∀ x : Int × Int, MvI w ((wr.setCell ⟨g, k * 2, none⟩ (.int .i64 x.1)).setCell ⟨g, k * 2 + 1, none⟩ (.int .i64 x.2)) ob lo hi p A ca l B cb m A2 c2 B2 d2 (ms.set k x) x1 x2) ∧
      (∀ x : Int, MvI w (wr.setCell ⟨g, k * 2, none⟩ (.int .i64 x)) ob lo hi p A ca l B cb m A2 c2 B2 d2 (ms.set k (x, (ms.getD k (0, 0)).2)) x1 x2) := by
  obtain ⟨hf, hb, hr, ho, ⟨f, t, h1, h2, d, b1, b2, h3⟩, lt, hh, len⟩ := h
  have hkm : k < ms.length := by omega
  rcases h2.2 with e | ⟨g, rfl, g1, g2, hown⟩
  · rw [e] at hkm; exact absurd hkm (by simp)
  · have hg := barCells_get ms k hkm
    have hst1 := fun v => hown.stored (k * 2) v
    have step : ∀ (W : World) (ms' : List (Int × Int)), ms'.length = ms.length → W.ownsRow t.1 76 2 (.slice (some ⟨g, 0, none⟩) ms.length d2) ms.length (barCells ms') → Within g (g + 1) wr W → MvI w W ob lo hi p A ca l B cb m A2 c2 (some ⟨g, 0, none⟩) d2 ms' x1 x2 := fun W ms' hl' ho' hw =>
      ⟨hf.on hw (by omega) hh, hb.within hw (.inl (by omega)), hr.within hw (.inl (by omega)), ho.within hw (.inr (by omega)), ⟨f, t, h1.within hw (by omega), ⟨Nat.le_trans h2.1 hw.size, .inr ⟨g, rfl, g1, g2, by rw [hl']; exact ho'⟩⟩, d, b1, b2, Nat.le_trans h3 hw.size⟩, lt, hh, by omega⟩
    refine ⟨g, rfl, ⟨(hown.cellAt (k * 2) (by omega)).trans hg.1, (hown.cellAt (k * 2 + 1) (by omega)).trans hg.2⟩, ⟨hown.frozenAt _, hown.frozenAt _⟩, fun x => ?_, fun x => ?_⟩
    · have hst2 := (hst1 (.int .i64 x.1)).1.stored (k * 2 + 1) (.int .i64 x.2)
      rw [barCells_set _ _ x] at hst2
      exact step _ _ (by simp) hst2.1 ((within_set wr g (k * 2) _).trans (within_set _ g (k * 2 + 1) _))
    · have hst := (hst1 (.int .i64 x)).1
      rw [barCells_set1 ms k x hkm] at hst
      exact step _ _ (by simp) hst (within_set wr g (k * 2) _)
/-- The copy is the answer. -/
theorem MvI.ret (h : MvI w wr ob lo hi p A ca l B cb m A2 c2 B2 d2 ms x1 x2) :
    (((wr.setCell ⟨w.heap.size + 2, 0, none⟩ (.int .i64 p)).setCell ⟨w.heap.size + 2, 1, none⟩ (.slice A2 l.length c2)).setCell ⟨w.heap.size + 2, 2, none⟩ (.slice B2 m.length d2)).cell? ⟨w.heap.size + 2, 0, none⟩ = some (.int .i64 p) ∧
    (((wr.setCell ⟨w.heap.size + 2, 0, none⟩ (.int .i64 p)).setCell ⟨w.heap.size + 2, 1, none⟩ (.slice A2 l.length c2)).setCell ⟨w.heap.size + 2, 2, none⟩ (.slice B2 m.length d2)).cell? ⟨w.heap.size + 2, 1, none⟩ = some (.slice A2 l.length c2) ∧
    (((wr.setCell ⟨w.heap.size + 2, 0, none⟩ (.int .i64 p)).setCell ⟨w.heap.size + 2, 1, none⟩ (.slice A2 l.length c2)).setCell ⟨w.heap.size + 2, 2, none⟩ (.slice B2 m.length d2)).cell? ⟨w.heap.size + 2, 2, none⟩ = some (.slice B2 m.length d2) ∧
    OwnFw (((wr.setCell ⟨w.heap.size + 2, 0, none⟩ (.int .i64 p)).setCell ⟨w.heap.size + 2, 1, none⟩ (.slice A2 l.length c2)).setCell ⟨w.heap.size + 2, 2, none⟩ (.slice B2 m.length d2)) w.heap.size (((wr.setCell ⟨w.heap.size + 2, 0, none⟩ (.int .i64 p)).setCell ⟨w.heap.size + 2, 1, none⟩ (.slice A2 l.length c2)).setCell ⟨w.heap.size + 2, 2, none⟩ (.slice B2 m.length d2)).heap.size A2 c2 l B2 d2 ms ∧
    Below w.heap.size w (((wr.setCell ⟨w.heap.size + 2, 0, none⟩ (.int .i64 p)).setCell ⟨w.heap.size + 2, 1, none⟩ (.slice A2 l.length c2)).setCell ⟨w.heap.size + 2, 2, none⟩ (.slice B2 m.length d2)) := by
  have hlt := h.o.lt
  have := fw_ret (w := w) h.r (h.own.widen (by omega) (show ob ≤ wr.heap.size by omega) (Nat.le_refl _)) h.f.b (by omega) p
  rw [h.len] at this
  exact this
end
theorem mov_no {p : Int} {l m : List (Int × Int)} {v : Int} {x : Int × Int} (h : movB p l m v x = false) : movB p l m v x = false ∧ movL p l m v x = m := ⟨h, by unfold movL; rw [if_neg (by rw [h]; simp)]⟩
theorem mov_bad {p : Int} {l m : List (Int × Int)} {v : Int} {x : Int × Int} (h : ¬ (isFB p l m = true ∧ 0 ≤ v ∧ v < p)) : movB p l m v x = false ∧ movL p l m v x = m := mov_no (by unfold movB; rw [if_neg h])
theorem mov_at {p : Int} {l m : List (Int × Int)} {v : Int} {x : Int × Int} (h : isFB p l m = true ∧ 0 ≤ v ∧ v < p) {b : Bool} (hb : isFB p l (m.set v.toNat x) = b) : movB p l m v x = b := by unfold movB; rw [if_pos h, hb]
theorem mov_yes {p : Int} {l m : List (Int × Int)} {v : Int} {x : Int × Int} (h : isFB p l m = true ∧ 0 ≤ v ∧ v < p) (hb : isFB p l (m.set v.toNat x) = true) : movB p l m v x = true ∧ movL p l m v x = m.set v.toNat x := by
  have := mov_at h hb
  exact ⟨this, by unfold movL; rw [if_pos this]⟩
end Go.Proofs.Ytehendofgcebcaa
