/- What the walks carry that change a copy of a framework place by place. No condition. -/
import Derived.Test.YtehendofgcebcaaFwS
namespace Go.Proofs.Ytehendofgcebcaa
open Go.RowKit

theorem barCells_set1 : ∀ (l : List (Int × Int)) (k : Nat) (x : Int), k < l.length → (barCells l).set (k * 2) (.int .i64 x) = barCells (l.set k (x, (l.getD k (0, 0)).2)) := by
  intro l
  induction l with
  | nil => intro k x h; simp at h
  | cons y l ih =>
    intro k x h
    rcases k with _ | k
    · rfl
    · have := ih k x (by simpa using h)
      rw [show (k + 1) * 2 = k * 2 + 2 by omega]
      simp only [barCells, List.flatMap_cons, List.set_cons_succ, List.cons_append, List.nil_append, List.getD_cons_succ] at this ⊢
      rw [this]
/-- The framework's box, the answer's, and the box of the copy with the places ms. -/
structure ChI (w wr : World) (ob lo hi : Nat) (p : Int) (A : Option Addr) (ca : Nat) (l : List (Int × Int)) (B : Option Addr) (cb : Nat) (m : List (Int × Int)) (A2 : Option Addr) (c2 : Nat) (B2 : Option Addr) (d2 : Nat) (ms : List (Int × Int)) : Prop where
  f : FbI w wr lo hi p A ca l B cb m
  r : Cel3 wr (w.heap.size + 1) 63 (.int .i64 0) (.slice none 0 0) (.slice none 0 0)
  o : Cel3 wr ob 63 (.int .i64 p) (.slice A2 l.length c2) (.slice B2 m.length d2)
  own : OwnFw wr (w.heap.size + 2) ob A2 c2 l B2 d2 ms
  lt : w.heap.size + 2 ≤ ob
  hh : hi ≤ w.heap.size
  len : ms.length = m.length
section
variable {w wr W : World} {ob lo hi : Nat} {p : Int} {A B A2 B2 : Option Addr} {ca cb c2 d2 : Nat} {l m ms : List (Int × Int)}
theorem ChI.below (h : ChI w wr ob lo hi p A ca l B cb m A2 c2 B2 d2 ms) (hb : Below wr.heap.size wr W) : ChI w W ob lo hi p A ca l B cb m A2 c2 B2 d2 ms :=
  ⟨h.f.below hb, h.r.kept hb, h.o.kept hb, h.own.within (within_of hb) (.inr (Nat.zero_le _)), h.lt, h.hh, h.len⟩
theorem ChI.new (hf : FbI w wr lo hi p A ca l B cb m) (hr : Cel3 wr (w.heap.size + 1) 63 (.int .i64 0) (.slice none 0 0) (.slice none 0 0)) (ho : OwnFw wr (w.heap.size + 2) wr.heap.size A2 c2 l B2 d2 m) (hh : hi ≤ w.heap.size) (hl : w.heap.size + 2 ≤ wr.heap.size) :
    ChI w (wr.alloc (.cells #[.int .i64 p, .slice A2 l.length c2, .slice B2 m.length d2] 63)) wr.heap.size lo hi p A ca l B cb m A2 c2 B2 d2 m :=
  ⟨hf.below (new_below _ _), hr.kept (new_below _ _), cel3_new _ _ _ _ _, ho.within (within_of (new_below _ _)) (.inr (Nat.zero_le _)), hl, hh, rfl⟩
/-- Place k of the copy. -/
theorem ChI.at (h : ChI w wr ob lo hi p A ca l B cb m A2 c2 B2 d2 ms) {k : Nat} (hk : k < m.length) :
    ∃ g, B2 = some ⟨g, 0, none⟩ ∧ (wr.cell? ⟨g, k * 2, none⟩ = some (.int .i64 (ms.getD k (0, 0)).1) ∧ wr.cell? ⟨g, k * 2 + 1, none⟩ = some (.int .i64 (ms.getD k (0, 0)).2)) ∧ (wr.frozen? ⟨g, k * 2, none⟩ = false ∧ wr.frozen? ⟨g, k * 2 + 1, none⟩ = false) ∧
      (∀ x : Int × Int, ChI w ((wr.setCell ⟨g, k * 2, none⟩ (.int .i64 x.1)).setCell ⟨g, k * 2 + 1, none⟩ (.int .i64 x.2)) ob lo hi p A ca l B cb m A2 c2 B2 d2 (ms.set k x)) ∧
      (∀ x : Int, ChI w (wr.setCell ⟨g, k * 2, none⟩ (.int .i64 x)) ob lo hi p A ca l B cb m A2 c2 B2 d2 (ms.set k (x, (ms.getD k (0, 0)).2))) := by
  obtain ⟨hf, hr, ho, ⟨f, t, h1, h2, d, b1, b2, h3⟩, lt, hh, len⟩ := h
  have hkm : k < ms.length := by omega
  rcases h2.2 with e | ⟨g, rfl, g1, g2, hown⟩
  · rw [e] at hkm; exact absurd hkm (by simp)
  · have hg := barCells_get ms k hkm
    have hst1 := fun v => hown.stored (k * 2) v
    have step : ∀ (W : World) (ms' : List (Int × Int)), ms'.length = ms.length → W.ownsRow t.1 76 2 (.slice (some ⟨g, 0, none⟩) ms.length d2) ms.length (barCells ms') → Within g (g + 1) wr W → ChI w W ob lo hi p A ca l B cb m A2 c2 (some ⟨g, 0, none⟩) d2 ms' := fun W ms' hl' ho' hw =>
      ⟨hf.on hw (by omega) hh, hr.within hw (.inl (by omega)), ho.within hw (.inr (by omega)), ⟨f, t, h1.within hw (by omega), ⟨Nat.le_trans h2.1 hw.size, .inr ⟨g, rfl, g1, g2, by rw [hl']; exact ho'⟩⟩, d, b1, b2, Nat.le_trans h3 hw.size⟩, lt, hh, by omega⟩
    refine ⟨g, rfl, ⟨(hown.cellAt (k * 2) (by omega)).trans hg.1, (hown.cellAt (k * 2 + 1) (by omega)).trans hg.2⟩, ⟨hown.frozenAt _, hown.frozenAt _⟩, fun x => ?_, fun x => ?_⟩
    · have hst2 := (hst1 (.int .i64 x.1)).1.stored (k * 2 + 1) (.int .i64 x.2)
      rw [barCells_set _ _ x] at hst2
      exact step _ _ (by simp) hst2.1 ((within_set wr g (k * 2) _).trans (within_set _ g (k * 2 + 1) _))
    · have hst := (hst1 (.int .i64 x)).1
      rw [barCells_set1 ms k x hkm] at hst
      exact step _ _ (by simp) hst (within_set wr g (k * 2) _)
/-- A later box is none of the copy's rows. -/
theorem gpb {g pb k : Nat} (h : ChI w wr ob lo hi p A ca l B cb m A2 c2 (some ⟨g, 0, none⟩) d2 ms) (hp : ob < pb) (hk : k < m.length) : pb < g ∨ g + 1 ≤ pb := by
  obtain ⟨_, _, _, ⟨f, t, _, h2, _, _, b2, _⟩, _, _, len⟩ := h
  rcases h2.2 with e | ⟨g', e, _, g2, _⟩
  · rw [e] at len; simp at len; omega
  · injection e with e
    injection e with e
    omega
/-- The copy is the answer. -/
theorem ChI.ret (h : ChI w wr ob lo hi p A ca l B cb m A2 c2 B2 d2 ms) :
    (((wr.setCell ⟨w.heap.size + 1, 0, none⟩ (.int .i64 p)).setCell ⟨w.heap.size + 1, 1, none⟩ (.slice A2 l.length c2)).setCell ⟨w.heap.size + 1, 2, none⟩ (.slice B2 m.length d2)).cell? ⟨w.heap.size + 1, 0, none⟩ = some (.int .i64 p) ∧
    (((wr.setCell ⟨w.heap.size + 1, 0, none⟩ (.int .i64 p)).setCell ⟨w.heap.size + 1, 1, none⟩ (.slice A2 l.length c2)).setCell ⟨w.heap.size + 1, 2, none⟩ (.slice B2 m.length d2)).cell? ⟨w.heap.size + 1, 1, none⟩ = some (.slice A2 l.length c2) ∧
    (((wr.setCell ⟨w.heap.size + 1, 0, none⟩ (.int .i64 p)).setCell ⟨w.heap.size + 1, 1, none⟩ (.slice A2 l.length c2)).setCell ⟨w.heap.size + 1, 2, none⟩ (.slice B2 m.length d2)).cell? ⟨w.heap.size + 1, 2, none⟩ = some (.slice B2 m.length d2) ∧
    OwnFw (((wr.setCell ⟨w.heap.size + 1, 0, none⟩ (.int .i64 p)).setCell ⟨w.heap.size + 1, 1, none⟩ (.slice A2 l.length c2)).setCell ⟨w.heap.size + 1, 2, none⟩ (.slice B2 m.length d2)) w.heap.size (((wr.setCell ⟨w.heap.size + 1, 0, none⟩ (.int .i64 p)).setCell ⟨w.heap.size + 1, 1, none⟩ (.slice A2 l.length c2)).setCell ⟨w.heap.size + 1, 2, none⟩ (.slice B2 m.length d2)).heap.size A2 c2 l B2 d2 ms ∧
    Below w.heap.size w (((wr.setCell ⟨w.heap.size + 1, 0, none⟩ (.int .i64 p)).setCell ⟨w.heap.size + 1, 1, none⟩ (.slice A2 l.length c2)).setCell ⟨w.heap.size + 1, 2, none⟩ (.slice B2 m.length d2)) := by
  have hlt := h.o.lt
  have := fw_ret (w := w) h.r (h.own.widen (by omega) (show ob ≤ wr.heap.size by omega) (Nat.le_refl _)) h.f.b (by omega) p
  rw [h.len] at this
  exact this
end
end Go.Proofs.Ytehendofgcebcaa
