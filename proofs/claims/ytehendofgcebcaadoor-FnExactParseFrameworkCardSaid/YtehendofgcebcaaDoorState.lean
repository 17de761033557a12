/- What the laws' walks carry over calls that write between two bounds: graphs in boxes, bars that lie between bounds, rows of the call's own. No condition. -/
import Derived.Test.YtehendofgcebcaaDoorBox
namespace Go.Proofs.YtehendofgcebcaaDoor
open Go.RowKit

/-- What lay outside the blocks from lo to hi is as it was. -/
structure Within (lo hi : Nat) (w w' : World) : Prop where
  os : w'.os = w.os
  tape : w'.tape = w.tape
  output : w'.output = w.output
  size : w.heap.size ≤ w'.heap.size
  block : ∀ k, k < w.heap.size → (k < lo ∨ hi ≤ k) → w'.heap[k]? = w.heap[k]?
theorem within_of {w w' : World} (hb : Below w.heap.size w w') : Within 0 0 w w' := ⟨hb.os, hb.tape, hb.output, hb.size, fun k hk _ => hb.block k hk⟩
theorem within_on {B lo hi : Nat} {a b c : World} (h : Below B a b) (k : Within lo hi b c) (hB : B ≤ b.heap.size) (hd : B ≤ lo ∨ hi ≤ lo) : Below B a c :=
  ⟨k.os.trans h.os, k.tape.trans h.tape, k.output.trans h.output, Nat.le_trans h.size k.size, fun i hi' => (k.block i (by omega) (by omega)).trans (h.block i hi')⟩
theorem Box.within {W W' : World} {b lo hi : Nat} {q : Int} {v : Value} (h : Box W b q v) (hw : Within lo hi W W') (hd : b < lo ∨ hi ≤ b) : Box W' b q v :=
  ⟨Nat.lt_of_lt_of_le h.1 hw.size, (World.cell?_of_block (hw.block b h.1 hd)).trans h.2.1, (World.cell?_of_block (hw.block b h.1 hd)).trans h.2.2⟩
/-- The bars l lie in a block from lo to hi. -/
def BarsIn (W : World) (lo hi : Nat) (A : Option Addr) (l : List (Int × Int)) : Prop :=
  hi ≤ W.heap.size ∧ (0 < l.length → ∃ b off, A = some ⟨b, off, none⟩ ∧ lo ≤ b ∧ b < hi ∧ ∀ k, k < l.length → W.cell? ⟨b, off + k * 2, none⟩ = some (.int .i64 (l.getD k (0, 0)).1) ∧ W.cell? ⟨b, off + k * 2 + 1, none⟩ = some (.int .i64 (l.getD k (0, 0)).2))
theorem BarsIn.within {W W' : World} {lo hi lo' hi' : Nat} {A : Option Addr} {l : List (Int × Int)} (h : BarsIn W lo hi A l) (hw : Within lo' hi' W W') (hd : hi ≤ lo' ∨ hi' ≤ lo) : BarsIn W' lo hi A l :=
  ⟨Nat.le_trans h.1 hw.size, fun hl => by
    obtain ⟨b, off, e, h1, h2, hc⟩ := h.2 hl
    have hk := hw.block b (Nat.lt_of_lt_of_le h2 h.1) (by omega)
    exact ⟨b, off, e, h1, h2, fun k hk' => ⟨(World.cell?_of_block (a := ⟨b, off + k * 2, none⟩) hk).trans (hc k hk').1, (World.cell?_of_block (a := ⟨b, off + k * 2 + 1, none⟩) hk).trans (hc k hk').2⟩⟩⟩
theorem BarsIn.at {W : World} {lo hi : Nat} {A : Option Addr} {l : List (Int × Int)} (h : BarsIn W lo hi A l) : BarsAt W W.heap.size A l := fun hl => by
  obtain ⟨b, off, e, h1, h2, hc⟩ := h.2 hl
  exact ⟨b, off, e, Nat.lt_of_lt_of_le h2 h.1, hc⟩
theorem bars_in {W : World} {A : Option Addr} {l : List (Int × Int)} (h : BarsAt W W.heap.size A l) : BarsIn W 0 W.heap.size A l :=
  ⟨Nat.le_refl _, fun hl => by obtain ⟨b, off, e, h1, hc⟩ := h hl; exact ⟨b, off, e, Nat.zero_le _, h1, hc⟩⟩
/-- A row of bars of the call's own in a block from lo to hi, or no bars. -/
def OwnIn (W : World) (lo hi : Nat) (A : Option Addr) (cap : Nat) (l : List (Int × Int)) : Prop :=
  hi ≤ W.heap.size ∧ (l = [] ∨ ∃ g, A = some ⟨g, 0, none⟩ ∧ lo ≤ g ∧ g < hi ∧ W.ownsRow lo 80 2 (.slice (some ⟨g, 0, none⟩) l.length cap) l.length (barCells l))
theorem own_block {W W' : World} {base size : Nat} {e : TypeId} {g cap n : Nat} {xs : List Value} (h : W.ownsRow base e size (.slice (some ⟨g, 0, none⟩) n cap) n xs) (hb : W'.heap[g]? = W.heap[g]?) : W'.ownsRow base e size (.slice (some ⟨g, 0, none⟩) n cap) n xs := by
  refine ⟨h.1, ?_⟩
  rcases h.2 with ⟨h1, _⟩ | ⟨g', cap', cur, h1, h2, h3, h4⟩
  · cases h1
  · cases h1
    exact .inr ⟨g, cap, cur, rfl, h2, hb.trans h3, h4⟩
theorem OwnIn.within {W W' : World} {lo hi lo' hi' : Nat} {A : Option Addr} {cap : Nat} {l : List (Int × Int)} (h : OwnIn W lo hi A cap l) (hw : Within lo' hi' W W') (hd : hi ≤ lo' ∨ hi' ≤ lo) : OwnIn W' lo hi A cap l :=
  ⟨Nat.le_trans h.1 hw.size, by
    rcases h.2 with h2 | ⟨g, e, h1, h2, ho⟩
    · exact .inl h2
    · exact .inr ⟨g, e, h1, h2, own_block ho (hw.block g (Nat.lt_of_lt_of_le h2 h.1) (by omega))⟩⟩
theorem OwnIn.bars {W : World} {lo hi : Nat} {A : Option Addr} {cap : Nat} {l : List (Int × Int)} (h : OwnIn W lo hi A cap l) : BarsIn W lo hi A l :=
  ⟨h.1, fun hl => by
    rcases h.2 with h2 | ⟨g, e, h1, h2, ho⟩
    · subst h2; simp at hl
    · obtain ⟨b, off, e', hlt, hc⟩ := own_bars ho hl
      cases e'
      exact ⟨g, 0, e, h1, h2, hc⟩⟩
theorem own_in {w' : World} {base : Nat} {g cap : Nat} {l : List (Int × Int)} (h : w'.ownsRow base 80 2 (.slice (some ⟨g, 0, none⟩) l.length cap) l.length (barCells l)) : OwnIn w' base w'.heap.size (some ⟨g, 0, none⟩) cap l :=
  ⟨Nat.le_refl _, .inr ⟨g, rfl, (h.lt g rfl).1, (h.lt g rfl).2, h⟩⟩
theorem own_in' {w' : World} {base : Nat} {A : Option Addr} {cap : Nat} {l : List (Int × Int)} (h : w'.ownsRow base 80 2 (.slice A l.length cap) l.length (barCells l)) : OwnIn w' base w'.heap.size A cap l := by
  rcases h.2 with ⟨h1, h0⟩ | ⟨g, cap', cur, h1, h2⟩
  · exact ⟨Nat.le_refl _, .inl (List.eq_nil_of_length_eq_zero h0)⟩
  · cases h1
    exact own_in h
theorem own_nil (w : World) (base : Nat) (A : Option Addr) (cap : Nat) : OwnIn w base w.heap.size A cap [] := ⟨Nat.le_refl _, .inl rfl⟩

set_option maxHeartbeats 400000 in
theorem markGraph_o (p : Int) (A : Option Addr) (cap : Nat) (l : List (Int × Int)) (k : Int) (lo hi : Nat) (w : World) (h : OwnIn w lo hi A cap l) (hn : l.length ≤ 1048576) (hk0 : 0 ≤ k) (hk1 : k ≤ 10000000) :
    Calls Tryd.prog 36 #[.agg #[.int .i64 p, .slice A l.length cap], .int .i64 k] w fun e w' => e = .returned (.int .i64 (k + 2 * (l.length : Int))) ∧ Within lo hi w w' ∧ OwnIn w' lo hi A cap (marks k l.length) := by
  have hhi := h.1
  rcases h.2 with h2 | ⟨g, rfl, h1, h2, ho⟩
  · subst h2
    clear h
    go_enter Tryd.func36, Tryd.ntmps36
    go_wp2_with fail
    refine (markBarS_nil A cap k _).mono ?_
    rintro e w1 ⟨rfl, rfl⟩
    go_wp2_with fail
    go_ret
    have hb := new_below w (.cells #[.int .i64 p, .slice A 0 cap] 32)
    exact ⟨by simp, ⟨hb.os, hb.tape, hb.output, hb.size, fun k hk _ => hb.block k hk⟩, Nat.le_trans hhi hb.size, .inl rfl⟩
  · refine (markGraph_c p g l cap k lo w ho hn hk0 hk1).mono ?_
    rintro e w1 ⟨rfl, ho1, hg1⟩
    refine ⟨rfl, ⟨hg1.os, hg1.tape, hg1.output, hg1.size, fun j hj hd => hg1.block j hj (by simp; omega)⟩, Nat.le_trans hhi hg1.size, .inr ⟨g, rfl, h1, h2, ?_⟩⟩
    have := marks_len k l.length
    rw [this]
    exact ho1

/-- What the specification's functions return: a graph that is read. -/
def GraphR (w : World) (p : Int) (l : List (Int × Int)) (e : Ending) (w' : World) : Prop :=
  ∃ A cap, e = .returned (.agg #[.int .i64 p, .slice A l.length cap]) ∧ BarsAt w' w'.heap.size A l ∧ Below w.heap.size w w'
def GraphRB (w : World) (p : Int) (l : List (Int × Int)) (r : Bool) (e : Ending) (w' : World) : Prop :=
  ∃ A cap, e = .returned (.tuple #[.agg #[.int .i64 p, .slice A l.length cap], .bool r]) ∧ BarsAt w' w'.heap.size A l ∧ Below w.heap.size w w'
/-- What the program's functions return: a graph of the call's own. -/
def GraphO (w : World) (p : Int) (l : List (Int × Int)) (e : Ending) (w' : World) : Prop :=
  ∃ A cap, e = .returned (.agg #[.int .i64 p, .slice A l.length cap]) ∧ OwnIn w' w.heap.size w'.heap.size A cap l ∧ Below w.heap.size w w'
def GraphOB (w : World) (p : Int) (l : List (Int × Int)) (r : Bool) (e : Ending) (w' : World) : Prop :=
  ∃ A cap, e = .returned (.tuple #[.agg #[.int .i64 p, .slice A l.length cap], .bool r]) ∧ OwnIn w' w.heap.size w'.heap.size A cap l ∧ Below w.heap.size w w'
end Go.Proofs.YtehendofgcebcaaDoor
