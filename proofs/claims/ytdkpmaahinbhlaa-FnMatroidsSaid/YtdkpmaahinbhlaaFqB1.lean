/- Several texts in one, in the order in which they build on each other: what stands on the way to the law; each names its own matter. No condition. -/
import Derived.Test.YtdkpmaahinbhlaaRows
import Derived.WalkKit
import Derived.IntWalk
import Derived.Lib.Hide
import Derived.Laws.BytesArg
import Derived.Laws.Concat
import Derived.Deep.Draws
import Derived.Deep.QuietTactic
import Derived.BigQuiet
import Derived.StillTailTactics
import Derived.ProofKit
import Derived.Lib.SmallJoins
import Derived.Deep.SlicePairs
import Derived.Maps.AppendAt
import Derived.Laws.OwnMore
import Derived.Laws.CopyOwn
import Derived.Deep.RegionLaw
import Derived.Deep.AppendLies
import Derived.Deep.RegionHeld3
import Derived.Deep.RegionWith
import Derived.Lib.SliceRun
/- Words on memory that the later texts use: an append of one element onto a row of the call's own, and the string made of such a row. They hold over any program. No condition. -/
namespace Go.Proofs.Ytdkpmaahinbhlaa
open Go.RowKit

section
variable {P : Program}

theorem grown_below {w w' : World} {base : Nat} (hg : w.grownBy w' none) (hb : base ≤ w.heap.size) : Below base w w' :=
  (Below.refl base w).grown hg hb (fun k hk => by cases hk)

/-- 'make([]T, n)': a row of n zeros of the call's own. -/
theorem wpList_mkn (w : World) {ops : Array Oper} {rest : List Oper} {o : Oper} {a : Act} {Q : Exit → Act → World → Prop} (hgd : o.guard = none) (l c : Operand) (t : TypeId) (hop : o.op = Op.makeSlice t l c)
    (base : Nat) (e : TypeId) (z : Value) (bytes : Nat) (ht : P.underlying t = some (.slice e)) (hinfo : (P.info? e).map (fun i => (i.zero, i.size, i.bytes)) = some (some z, 1, bytes)) (hz : z.cells = #[z])
    (kl kc : IntKind) (L C : Int) (n : Nat) (hl : a.eval l = .int kl L) (hc : a.eval c = .int kc C) (hL : L = (n : Int)) (hC : C = (n : Int)) (b2 : bytes * n ≤ 281474976710656) (b3 : n ≤ maxLen) (b4 : base ≤ w.heap.size)
    (hK : ∀ w', w'.ownsRow base e 1 (.slice (some ⟨w.heap.size, 0, none⟩) n n) n (List.replicate n z) → Below base w w' → wpList P ops Q rest (a.put o.dst (.slice (some ⟨w.heap.size, 0, none⟩) n n)) w') :
    wpList P ops Q (o :: rest) a w := by
  obtain ⟨i, hi, hz0, hz1, hz2⟩ := info_parts hinfo
  refine wpList_make_full w hgd l c t hop base e i z 1 ht hi hz0 hz1 kl kc L C n hl hc hL hC (by rw [hz2]; exact b2) b3 b4 fun w' h1 h2 => hK w' ?_ (grown_below h2 b4)
  have : (madeCells z.cells (n * 1)).toList = List.replicate n z := by rw [hz, Nat.mul_one, toList_madeCells_one]
  rw [this] at h1
  exact h1

end

theorem below_drewN (B : Nat) (w : World) (n : Nat) : Below B w (w.drewN n) := ⟨rfl, rfl, rfl, Nat.le_refl _, fun _ _ => rfl⟩
theorem _root_.Go.World.grownBy.trans_ {a b c : World} {r : Option Nat} (h : a.grownBy b r) (k : b.grownBy c r) : a.grownBy c r :=
  ⟨k.os.trans h.os, k.tape.trans h.tape, k.output.trans h.output, Nat.le_trans h.size k.size, fun i hi hr => (k.block i (Nat.lt_of_lt_of_le hi h.size) hr).trans (h.block i hi hr)⟩
theorem grownBy_set (w : World) (g j : Nat) (u : Value) : w.grownBy (w.setCell ⟨g, j, none⟩ u) (some g) :=
  ⟨rfl, rfl, rfl, by simp, fun k _ hk => Below.heap_setCell w ⟨g, j, none⟩ u k (fun e => hk (by simp at e; rw [e]))⟩
theorem grownBy_drewN (w : World) (n : Nat) (r : Option Nat) : w.grownBy (w.drewN n) r := ⟨rfl, rfl, rfl, Nat.le_refl _, fun _ _ _ => rfl⟩
theorem own_base {w : World} {base base' size : Nat} {e : TypeId} {v : Value} {n : Nat} {xs : List Value} (h : w.ownsRow base e size v n xs) (hb : base' ≤ base) : w.ownsRow base' e size v n xs := by
  refine ⟨h.1, ?_⟩
  rcases h.2 with h2 | ⟨g, cap, cur, h1, h2, h3⟩
  · exact .inl h2
  · exact .inr ⟨g, cap, cur, h1, Nat.le_trans hb h2, h3⟩
theorem below_grown {w w' : World} (h : Below w.heap.size w w') (r : Option Nat) : w.grownBy w' r := ⟨h.os, h.tape, h.output, h.size, fun k hk _ => h.block k hk⟩
/-- A row of the call's own stays one while new blocks are made. -/
theorem own_below {w w' : World} {base size : Nat} {e : TypeId} {v : Value} {n : Nat} {xs : List Value} (h : w.ownsRow base e size v n xs) (hb : Below w.heap.size w w') : w'.ownsRow base e size v n xs :=
  h.kept (below_grown hb none) (by cases hv : v.ownBlock <;> simp)
end Go.Proofs.Ytdkpmaahinbhlaa
/- What spec.l1In answers: whether a number lies between two others. No condition. -/
namespace Go.Proofs.Ytdkpmaahinbhlaa
open Go.RowKit

theorem l1In_yes (a lo hi : Int) (w : World) (h1 : lo ≤ a) (h2 : a ≤ hi) :
    Calls Try.prog 125 #[.int .i64 a, .int .i64 lo, .int .i64 hi] w fun e w' => e = .returned (.bool true) ∧ w = w' := by
  have h1' : decide (lo ≤ a) = true := by simpa using h1
  have h2' : decide (a ≤ hi) = true := by simpa using h2
  go_enter Try.func125, Try.ntmps125
  go_wp2
  go_ret
  exact ⟨rfl, rfl⟩

theorem l1In_no (a lo hi : Int) (w : World) (h : a < lo ∨ hi < a) :
    Calls Try.prog 125 #[.int .i64 a, .int .i64 lo, .int .i64 hi] w fun e w' => e = .returned (.bool false) ∧ w = w' := by
  by_cases h1 : lo ≤ a
  · have h2 : hi < a := by omega
    have h1' : decide (lo ≤ a) = true := by simpa using h1
    have h2' : decide (a ≤ hi) = false := by simp; omega
    clear h
    go_enter Try.func125, Try.ntmps125
    go_wp2
    go_ret
    exact ⟨rfl, rfl⟩
  · have h1' : decide (lo ≤ a) = false := by simpa using h1
    clear h
    go_enter Try.func125, Try.ntmps125
    go_wp2
    go_ret
    exact ⟨rfl, rfl⟩
end Go.Proofs.Ytdkpmaahinbhlaa
/- The laws' copies of a bar and of a graph into the program's types (laws.toBar, toBarS, toGraph). No condition. -/
namespace Go.Proofs.Ytdkpmaahinbhlaa
open Go.RowKit

/-- The slice at A reads as the bars l. -/
def BarsAt (w : World) (B : Nat) (A : Option Addr) (l : List (Int × Int)) : Prop :=
  0 < l.length → ∃ b off, A = some ⟨b, off, none⟩ ∧ b < B ∧ ∀ k, k < l.length → w.cell? ⟨b, off + k * 2, none⟩ = some (.int .i64 (l.getD k (0, 0)).1) ∧ w.cell? ⟨b, off + k * 2 + 1, none⟩ = some (.int .i64 (l.getD k (0, 0)).2)

/-- The cells of a row of bars. -/
def barCells (l : List (Int × Int)) : List Value := l.flatMap fun x => [.int .i64 x.1, .int .i64 x.2]

theorem barCells_len (l : List (Int × Int)) : (barCells l).length = l.length * 2 := by
  induction l with
  | nil => rfl
  | cons x l ih =>
    rw [barCells, List.flatMap_cons, List.length_append]
    rw [barCells] at ih
    simp only [List.length_cons, List.length_nil, ih]
    omega
theorem barCells_append (a b : List (Int × Int)) : barCells (a ++ b) = barCells a ++ barCells b := by simp [barCells]
theorem barCells_get : ∀ (l : List (Int × Int)) (k : Nat), k < l.length → (barCells l)[k * 2]? = some (.int .i64 (l.getD k (0, 0)).1) ∧ (barCells l)[k * 2 + 1]? = some (.int .i64 (l.getD k (0, 0)).2) := by
  intro l
  induction l with
  | nil => intro k h; simp at h
  | cons x l ih =>
    intro k h
    rw [barCells, List.flatMap_cons]
    rcases k with _ | k
    · exact ⟨rfl, rfl⟩
    · have := ih k (by simpa using h)
      rw [show (k + 1) * 2 = k * 2 + 2 by omega, show k * 2 + 2 + 1 = k * 2 + 1 + 2 by omega]
      exact this
theorem infoBar : (Try.prog.info? 108).map (fun i => (i.zero, i.size, i.bytes)) = some (some (.agg #[.int .i64 0, .int .i64 0]), 2, 16) := by kernel_rfl

theorem BarsAt.kept {w w' : World} {B : Nat} {A : Option Addr} {l : List (Int × Int)} (h : BarsAt w B A l) (hb : Below B w w') : BarsAt w' B A l := fun hl => by
  obtain ⟨b, off, e, hlt, hc⟩ := h hl
  exact ⟨b, off, e, hlt, fun k hk => ⟨(hb.cell (p := ⟨b, off + k * 2, none⟩) hlt).trans (hc k hk).1, (hb.cell (p := ⟨b, off + k * 2 + 1, none⟩) hlt).trans (hc k hk).2⟩⟩
theorem BarsAt.more {w : World} {B B' : Nat} {A : Option Addr} {l : List (Int × Int)} (h : BarsAt w B A l) (hb : B ≤ B') : BarsAt w B' A l := fun hl => by
  obtain ⟨b, off, e, hlt, hc⟩ := h hl
  exact ⟨b, off, e, by omega, hc⟩
/-- A row of the call's own reads as its bars. -/
theorem own_bars {w : World} {base : Nat} {e : TypeId} {g cap : Nat} {l : List (Int × Int)} (h : w.ownsRow base e 2 (.slice (some ⟨g, 0, none⟩) l.length cap) l.length (barCells l)) : BarsAt w w.heap.size (some ⟨g, 0, none⟩) l := fun _ => by
  refine ⟨g, 0, rfl, (h.lt g rfl).2, fun k hk => ?_⟩
  have hg := barCells_get l k hk
  rw [Nat.zero_add]
  exact ⟨(h.cellAt (k * 2) (by omega)).trans hg.1, (h.cellAt (k * 2 + 1) (by omega)).trans hg.2⟩

end Go.Proofs.Ytdkpmaahinbhlaa
/- The laws' measures and comparisons of graphs (szBarS, szGraph, eqBar, eqBarS, eqGraph): graphs that read alike are equal. No condition. -/
namespace Go.Proofs.Ytdkpmaahinbhlaa
open Go.RowKit

end Go.Proofs.Ytdkpmaahinbhlaa
/- A graph that a law is handed by value, opened: its number of points, and its bars as a list. No condition. -/
namespace Go.Proofs.Ytdkpmaahinbhlaa
open Go.RowKit Go.Joins Go.ChangeShapes Go.WideShapes Go.Deep

section
variable {H : Type} {enc : TypeId × Value → H} {w : World} {base : Nat}

end
end Go.Proofs.Ytdkpmaahinbhlaa
/- The laws' marks on a graph's bars (markBarS, heldBarS, markGraph, heldGraph): what is written into memory of its own is found there again. No condition. -/
namespace Go.Proofs.Ytdkpmaahinbhlaa
open Go.RowKit

/-- The bars that the marks from k on make. -/
def marks (k : Int) (n : Nat) : List (Int × Int) := (List.range n).map fun (i : Nat) => (k + 2 * (i : Int), k + 2 * (i : Int) + 1)
end Go.Proofs.Ytdkpmaahinbhlaa
/- What the laws' walks carry from call to call: a graph in a box of its own, and the bars that it points to. No condition. -/
namespace Go.Proofs.Ytdkpmaahinbhlaa
open Go.RowKit

/-- A graph by value lies in the block b. -/
def Box (W : World) (b : Nat) (q : Int) (v : Value) : Prop := b < W.heap.size ∧ W.cell? ⟨b, 0, none⟩ = some (.int .i64 q) ∧ W.cell? ⟨b, 1, none⟩ = some v
theorem Box.kept {W W' : World} {b : Nat} {q : Int} {v : Value} (h : Box W b q v) (hb : Below W.heap.size W W') : Box W' b q v :=
  ⟨Nat.lt_of_lt_of_le h.1 hb.size, (hb.cell (p := ⟨b, 0, none⟩) h.1).trans h.2.1, (hb.cell (p := ⟨b, 1, none⟩) h.1).trans h.2.2⟩
theorem Box.grown {W W' : World} {b g : Nat} {q : Int} {v : Value} (h : Box W b q v) (hg : W.grownBy W' (some g)) (hne : b ≠ g) : Box W' b q v :=
  ⟨Nat.lt_of_lt_of_le h.1 hg.size, (World.cell?_of_block (hg.block b h.1 (by simpa using hne))).trans h.2.1, (World.cell?_of_block (hg.block b h.1 (by simpa using hne))).trans h.2.2⟩
theorem box_new (w : World) (q : Int) (v : Value) (t : TypeId) : Box (w.alloc (.cells #[.int .i64 q, v] t)) w.heap.size q v :=
  ⟨by simp, by rw [World.cell?_alloc_at _ _ _ _ rfl]; rfl, by rw [World.cell?_alloc_at _ _ _ _ rfl]; rfl⟩
theorem new_below (w : World) (o : Obj) : Below w.heap.size w (w.alloc o) := (Below.refl _ _).alloc (Nat.le_refl _) _
/-- Bars that lie below what a later world has. -/
theorem BarsAt.on {w w' : World} {A : Option Addr} {l : List (Int × Int)} (h : BarsAt w w.heap.size A l) (hb : Below w.heap.size w w') : BarsAt w' w'.heap.size A l := (h.kept hb).more hb.size
theorem BarsAt.nil (w : World) (B : Nat) (A : Option Addr) : BarsAt w B A [] := fun h => absurd h (by simp)
theorem BarsAt.grown {w w' : World} {B g : Nat} {A : Option Addr} {l : List (Int × Int)} (h : BarsAt w B A l) (hg : w.grownBy w' (some g)) (hB : B ≤ w.heap.size) (hne : ∀ a, A = some a → 0 < l.length → a.block ≠ g) : BarsAt w' B A l := fun hl => by
  obtain ⟨b, off, rfl, hlt, hc⟩ := h hl
  have hn := hne _ rfl hl
  simp only at hn
  exact ⟨b, off, rfl, hlt, fun k hk => ⟨(World.cell?_of_block (a := ⟨b, off + k * 2, none⟩) (hg.block b (by omega) (by simpa using hn))).trans (hc k hk).1, (World.cell?_of_block (a := ⟨b, off + k * 2 + 1, none⟩) (hg.block b (by omega) (by simpa using hn))).trans (hc k hk).2⟩⟩
theorem below_on {B : Nat} {a b c : World} (h : Below B a b) (k : Below b.heap.size b c) (hB : B ≤ b.heap.size) : Below B a c := h.trans (k.mono hB)
end Go.Proofs.Ytdkpmaahinbhlaa
/- What the laws' walks carry over calls that write between two bounds: graphs in boxes, bars that lie between bounds, rows of the call's own. No condition. -/
namespace Go.Proofs.Ytdkpmaahinbhlaa
open Go.RowKit

/-- What lay outside the blocks from lo to hi is as it was. -/
structure Within (lo hi : Nat) (w w' : World) : Prop where
  os : w'.os = w.os
  tape : w'.tape = w.tape
  output : w'.output = w.output
  size : w.heap.size ≤ w'.heap.size
  block : ∀ k, k < w.heap.size → (k < lo ∨ hi ≤ k) → w'.heap[k]? = w.heap[k]?
theorem within_of {w w' : World} (hb : Below w.heap.size w w') : Within 0 0 w w' := ⟨hb.os, hb.tape, hb.output, hb.size, fun k hk _ => hb.block k hk⟩
theorem within_on {B lo hi : Nat} {a b c : World} (h : Below B a b) (k : Within lo hi b c) (hB : B ≤ b.heap.size) (hd : B ≤ lo ∨ hi ≤ lo) : Below B a c :=
  ⟨k.os.trans h.os, k.tape.trans h.tape, k.output.trans h.output, Nat.le_trans h.size k.size, fun i hi' => (k.block i (by omega) (by omega)).trans (h.block i hi')⟩
theorem Box.within {W W' : World} {b lo hi : Nat} {q : Int} {v : Value} (h : Box W b q v) (hw : Within lo hi W W') (hd : b < lo ∨ hi ≤ b) : Box W' b q v :=
  ⟨Nat.lt_of_lt_of_le h.1 hw.size, (World.cell?_of_block (hw.block b h.1 hd)).trans h.2.1, (World.cell?_of_block (hw.block b h.1 hd)).trans h.2.2⟩
/-- The bars l lie in a block from lo to hi. -/
def BarsIn (W : World) (lo hi : Nat) (A : Option Addr) (l : List (Int × Int)) : Prop :=
  hi ≤ W.heap.size ∧ (0 < l.length → ∃ b off, A = some ⟨b, off, none⟩ ∧ lo ≤ b ∧ b < hi ∧ ∀ k, k < l.length → W.cell? ⟨b, off + k * 2, none⟩ = some (.int .i64 (l.getD k (0, 0)).1) ∧ W.cell? ⟨b, off + k * 2 + 1, none⟩ = some (.int .i64 (l.getD k (0, 0)).2))
theorem BarsIn.within {W W' : World} {lo hi lo' hi' : Nat} {A : Option Addr} {l : List (Int × Int)} (h : BarsIn W lo hi A l) (hw : Within lo' hi' W W') (hd : hi ≤ lo' ∨ hi' ≤ lo) : BarsIn W' lo hi A l :=
  ⟨Nat.le_trans h.1 hw.size, fun hl => by
    obtain ⟨b, off, e, h1, h2, hc⟩ := h.2 hl
    have hk := hw.block b (Nat.lt_of_lt_of_le h2 h.1) (by omega)
    exact ⟨b, off, e, h1, h2, fun k hk' => ⟨(World.cell?_of_block (a := ⟨b, off + k * 2, none⟩) hk).trans (hc k hk').1, (World.cell?_of_block (a := ⟨b, off + k * 2 + 1, none⟩) hk).trans (hc k hk').2⟩⟩⟩
theorem BarsIn.at {W : World} {lo hi : Nat} {A : Option Addr} {l : List (Int × Int)} (h : BarsIn W lo hi A l) : BarsAt W W.heap.size A l := fun hl => by
  obtain ⟨b, off, e, h1, h2, hc⟩ := h.2 hl
  exact ⟨b, off, e, Nat.lt_of_lt_of_le h2 h.1, hc⟩
theorem bars_in {W : World} {A : Option Addr} {l : List (Int × Int)} (h : BarsAt W W.heap.size A l) : BarsIn W 0 W.heap.size A l :=
  ⟨Nat.le_refl _, fun hl => by obtain ⟨b, off, e, h1, hc⟩ := h hl; exact ⟨b, off, e, Nat.zero_le _, h1, hc⟩⟩
/-- A row of bars of the call's own in a block from lo to hi, or no bars. -/
def OwnIn (W : World) (lo hi : Nat) (A : Option Addr) (cap : Nat) (l : List (Int × Int)) : Prop :=
  hi ≤ W.heap.size ∧ (l = [] ∨ ∃ g, A = some ⟨g, 0, none⟩ ∧ lo ≤ g ∧ g < hi ∧ W.ownsRow lo 108 2 (.slice (some ⟨g, 0, none⟩) l.length cap) l.length (barCells l))
theorem own_block {W W' : World} {base size : Nat} {e : TypeId} {g cap n : Nat} {xs : List Value} (h : W.ownsRow base e size (.slice (some ⟨g, 0, none⟩) n cap) n xs) (hb : W'.heap[g]? = W.heap[g]?) : W'.ownsRow base e size (.slice (some ⟨g, 0, none⟩) n cap) n xs := by
  refine ⟨h.1, ?_⟩
  rcases h.2 with ⟨h1, _⟩ | ⟨g', cap', cur, h1, h2, h3, h4⟩
  · cases h1
  · cases h1
    exact .inr ⟨g, cap, cur, rfl, h2, hb.trans h3, h4⟩
theorem OwnIn.within {W W' : World} {lo hi lo' hi' : Nat} {A : Option Addr} {cap : Nat} {l : List (Int × Int)} (h : OwnIn W lo hi A cap l) (hw : Within lo' hi' W W') (hd : hi ≤ lo' ∨ hi' ≤ lo) : OwnIn W' lo hi A cap l :=
  ⟨Nat.le_trans h.1 hw.size, by
    rcases h.2 with h2 | ⟨g, e, h1, h2, ho⟩
    · exact .inl h2
    · exact .inr ⟨g, e, h1, h2, own_block ho (hw.block g (Nat.lt_of_lt_of_le h2 h.1) (by omega))⟩⟩
theorem OwnIn.bars {W : World} {lo hi : Nat} {A : Option Addr} {cap : Nat} {l : List (Int × Int)} (h : OwnIn W lo hi A cap l) : BarsIn W lo hi A l :=
  ⟨h.1, fun hl => by
    rcases h.2 with h2 | ⟨g, e, h1, h2, ho⟩
    · subst h2; simp at hl
    · obtain ⟨b, off, e', hlt, hc⟩ := own_bars ho hl
      cases e'
      exact ⟨g, 0, e, h1, h2, hc⟩⟩
theorem own_in {w' : World} {base : Nat} {g cap : Nat} {l : List (Int × Int)} (h : w'.ownsRow base 108 2 (.slice (some ⟨g, 0, none⟩) l.length cap) l.length (barCells l)) : OwnIn w' base w'.heap.size (some ⟨g, 0, none⟩) cap l :=
  ⟨Nat.le_refl _, .inr ⟨g, rfl, (h.lt g rfl).1, (h.lt g rfl).2, h⟩⟩
theorem own_in' {w' : World} {base : Nat} {A : Option Addr} {cap : Nat} {l : List (Int × Int)} (h : w'.ownsRow base 108 2 (.slice A l.length cap) l.length (barCells l)) : OwnIn w' base w'.heap.size A cap l := by
  rcases h.2 with ⟨h1, h0⟩ | ⟨g, cap', cur, h1, h2⟩
  · exact ⟨Nat.le_refl _, .inl (List.eq_nil_of_length_eq_zero h0)⟩
  · cases h1
    exact own_in h
/-- What the specification's functions return: a graph that is read. -/
def GraphR (w : World) (p : Int) (l : List (Int × Int)) (e : Ending) (w' : World) : Prop :=
  ∃ A cap, e = .returned (.agg #[.int .i64 p, .slice A l.length cap]) ∧ BarsAt w' w'.heap.size A l ∧ Below w.heap.size w w'
def GraphRB (w : World) (p : Int) (l : List (Int × Int)) (r : Bool) (e : Ending) (w' : World) : Prop :=
  ∃ A cap, e = .returned (.tuple #[.agg #[.int .i64 p, .slice A l.length cap], .bool r]) ∧ BarsAt w' w'.heap.size A l ∧ Below w.heap.size w w'
/-- What the program's functions return: a graph of the call's own. -/
def GraphO (w : World) (p : Int) (l : List (Int × Int)) (e : Ending) (w' : World) : Prop :=
  ∃ A cap, e = .returned (.agg #[.int .i64 p, .slice A l.length cap]) ∧ OwnIn w' w.heap.size w'.heap.size A cap l ∧ Below w.heap.size w w'
def GraphOB (w : World) (p : Int) (l : List (Int × Int)) (r : Bool) (e : Ending) (w' : World) : Prop :=
  ∃ A cap, e = .returned (.tuple #[.agg #[.int .i64 p, .slice A l.length cap], .bool r]) ∧ OwnIn w' w.heap.size w'.heap.size A cap l ∧ Below w.heap.size w w'
end Go.Proofs.Ytdkpmaahinbhlaa
/- A block of three values: a struct of three cells in a box. No condition. -/
namespace Go.Proofs.Ytdkpmaahinbhlaa
open Go.RowKit

/-- Three values in a block. -/
def Cel3 (W : World) (b : Nat) (T : TypeId) (v0 v1 v2 : Value) : Prop := W.heap[b]? = some (.cells #[v0, v1, v2] T (0, 0))
theorem Cel3.lt {W : World} {b : Nat} {T : TypeId} {v0 v1 v2 : Value} (h : Cel3 W b T v0 v1 v2) : b < W.heap.size := (Array.getElem?_eq_some_iff.1 h).1
theorem Cel3.cells {W : World} {b : Nat} {T : TypeId} {v0 v1 v2 : Value} (h : Cel3 W b T v0 v1 v2) :
    W.cell? ⟨b, 0, none⟩ = some v0 ∧ W.cell? ⟨b, 1, none⟩ = some v1 ∧ W.cell? ⟨b, 2, none⟩ = some v2 ∧ W.frozen? ⟨b, 0, none⟩ = false ∧ W.frozen? ⟨b, 1, none⟩ = false ∧ W.frozen? ⟨b, 2, none⟩ = false := by
  refine ⟨?_, ?_, ?_, frozen_of_row W b 0 _ T h, frozen_of_row W b 1 _ T h, frozen_of_row W b 2 _ T h⟩
  · rw [cell_of_row W b 0 _ T (0, 0) h]; rfl
  · rw [cell_of_row W b 1 _ T (0, 0) h]; rfl
  · rw [cell_of_row W b 2 _ T (0, 0) h]; rfl
theorem Cel3.within {W W' : World} {b lo hi : Nat} {T : TypeId} {v0 v1 v2 : Value} (h : Cel3 W b T v0 v1 v2) (hw : Within lo hi W W') (hd : b < lo ∨ hi ≤ b) : Cel3 W' b T v0 v1 v2 := (hw.block b h.lt hd).trans h
theorem Cel3.kept {W W' : World} {b : Nat} {T : TypeId} {v0 v1 v2 : Value} (h : Cel3 W b T v0 v1 v2) (hb : Below W.heap.size W W') : Cel3 W' b T v0 v1 v2 := (hb.block b h.lt).trans h
theorem Cel3.set0 {W : World} {b : Nat} {T : TypeId} {v0 v1 v2 : Value} (h : Cel3 W b T v0 v1 v2) (u : Value) : Cel3 (W.setCell ⟨b, 0, none⟩ u) b T u v1 v2 := heap_setCell_same W b 0 _ T u h
theorem Cel3.set1 {W : World} {b : Nat} {T : TypeId} {v0 v1 v2 : Value} (h : Cel3 W b T v0 v1 v2) (u : Value) : Cel3 (W.setCell ⟨b, 1, none⟩ u) b T v0 u v2 := heap_setCell_same W b 1 _ T u h
theorem Cel3.set2 {W : World} {b : Nat} {T : TypeId} {v0 v1 v2 : Value} (h : Cel3 W b T v0 v1 v2) (u : Value) : Cel3 (W.setCell ⟨b, 2, none⟩ u) b T v0 v1 u := heap_setCell_same W b 2 _ T u h
theorem cel3_new (w : World) (v0 v1 v2 : Value) (T : TypeId) : Cel3 (w.alloc (.cells #[v0, v1, v2] T)) w.heap.size T v0 v1 v2 := heap_alloc_new w _
theorem within_set (W : World) (b o : Nat) (v : Value) : Within b (b + 1) W (W.setCell ⟨b, o, none⟩ v) := by
  have hg := grownBy_set W b o v
  exact ⟨hg.os, hg.tape, hg.output, hg.size, fun j hj hd => hg.block j hj (by simp; omega)⟩
theorem within_alloc (w : World) (o : Obj) : Within 0 0 w (w.alloc o) := within_of (new_below w o)
theorem Within.refl (lo hi : Nat) (w : World) : Within lo hi w w := ⟨rfl, rfl, rfl, Nat.le_refl _, fun _ _ _ => rfl⟩
theorem Within.trans {lo hi : Nat} {a b c : World} (h : Within lo hi a b) (k : Within lo hi b c) : Within lo hi a c :=
  ⟨k.os.trans h.os, k.tape.trans h.tape, k.output.trans h.output, Nat.le_trans h.size k.size, fun i hi' hd => (k.block i (Nat.lt_of_lt_of_le hi' h.size) hd).trans (h.block i hi' hd)⟩
theorem Within.widen {lo hi lo' hi' : Nat} {a b : World} (h : Within lo hi a b) (h1 : hi ≤ lo ∨ (lo' ≤ lo ∧ hi ≤ hi')) : Within lo' hi' a b :=
  ⟨h.os, h.tape, h.output, h.size, fun i hi' hd => h.block i hi' (by omega)⟩

/-- The world that only an answer's box was written in. -/
theorem ret3 {W : World} {b : Nat} {T : TypeId} {a0 a1 a2 : Value} (h : Cel3 W b T a0 a1 a2) (v0 v1 v2 : Value) : Cel3 (((W.setCell ⟨b, 0, none⟩ v0).setCell ⟨b, 1, none⟩ v1).setCell ⟨b, 2, none⟩ v2) b T v0 v1 v2 ∧ Within b (b + 1) W (((W.setCell ⟨b, 0, none⟩ v0).setCell ⟨b, 1, none⟩ v1).setCell ⟨b, 2, none⟩ v2) :=
  ⟨((h.set0 v0).set1 v1).set2 v2, ((within_set W b 0 v0).trans (within_set _ b 1 v1)).trans (within_set _ b 2 v2)⟩

end Go.Proofs.Ytdkpmaahinbhlaa
/- Rows of ints of the call's own; an append onto a row of the call's own, with the block where the new row lies. No condition. -/
namespace Go.Proofs.Ytdkpmaahinbhlaa
open Go.RowKit

/-- Several cells, just laid, appended onto a row of the call's own: what is written, and where the row lies then. -/
theorem wpList_at {P : Program} (w : World) {ops : Array Oper} {rest : List Oper} {o : Oper} {a : Act} {Q : Exit → Act → World → Prop} (hgd : o.guard = none) (s x : Operand) (t : TypeId)
    (ho : o.op = .call { callee := .builtin .append, args := #[s, x], argTypes := #[t, t] })
    (base : Nat) (e : TypeId) (z : Value) (size bytes : Nat) (ht : P.underlying t = some (.slice e)) (hinfo : (P.info? e).map (fun i => (i.zero, i.size, i.bytes)) = some (some z, size, bytes)) (hzs : z.cells.size = size) (hsz : 0 < size)
    (v : Value) (n : Nat) (xs : List Value) (hs : a.eval s = v) (hown : w.ownsRow base e size v n xs) (us : Array Value) (m : Nat) (hm : us.size = m * size) (hu : ∀ u ∈ us.toList, u.oneCell' = true) (tb : TypeId) (c : Nat) (hx : a.eval x = .slice (some ⟨w.heap.size, 0, none⟩) m c)
    (hbytes : (n + m) * bytes ≤ 140737488355328) (h63 : n + m ≤ maxLen) (hbase : base ≤ w.heap.size)
    (h : ∀ v' w', w'.ownsRow base e size v' (n + m) (xs ++ us.toList) → w.grownBy w' v.ownBlock → (v'.ownBlock = v.ownBlock ∨ v'.ownBlock = some (w.heap.size + 1)) → (v' = .slice none 0 0 ↔ v = .slice none 0 0 ∧ m = 0) → wpList P ops Q rest (a.put o.dst v') w') : wpList P ops Q (o :: rest) a (w.alloc (.cells us tb)) := by
  obtain ⟨i, hi, hz0, hz1, hz2⟩ := info_parts hinfo
  refine wpList_append_own_at _ hgd s x t ho base e i z size bytes ht hi hz0 hz1 hz2 hzs hsz v n xs hs (hown.alloc _) ⟨w.heap.size, 0, none⟩ m c us.toList hx (by simpa using hm) ?_ hu h63 hbytes (by simp; omega) ?_
  · intro j y hj
    have : (⟨w.heap.size, 0, none⟩ : Addr).add j = ⟨w.heap.size, j, none⟩ := by unfold Addr.add; split <;> simp_all
    rw [this, World.cell?_alloc_at _ _ _ _ rfl]
    simpa using hj
  · intro v' w' hown' hg hnil hat
    exact h v' w' hown' ((World.grownBy_alloc w (.cells us tb) v.ownBlock).trans_ hg) (by simpa using hat) hnil

theorem own_shape {w : World} {base size : Nat} {e : TypeId} {v : Value} {n : Nat} {xs : List Value} (h : w.ownsRow base e size v n xs) : ∃ A c, v = .slice A n c := by
  rcases h.2 with ⟨rfl, rfl⟩ | ⟨g, c, _, rfl, _⟩
  · exact ⟨none, 0, rfl⟩
  · exact ⟨_, c, rfl⟩
theorem infoInt : (Try.prog.info? 3).map (fun i => (i.zero, i.size, i.bytes)) = some (some (.int .i64 0), 1, 8) := by kernel_rfl

/-- The slice at A reads as the ints zs, in a block from lo to hi. -/
def IntsIn (W : World) (lo hi : Nat) (A : Option Addr) (zs : List Int) : Prop :=
  hi ≤ W.heap.size ∧ (0 < zs.length → ∃ b off, A = some ⟨b, off, none⟩ ∧ lo ≤ b ∧ b < hi ∧ ∀ k, k < zs.length → W.cell? ⟨b, off + k, none⟩ = some (.int .i64 (zs.getD k 0)))
theorem IntsIn.within {W W' : World} {lo hi lo' hi' : Nat} {A : Option Addr} {zs : List Int} (h : IntsIn W lo hi A zs) (hw : Within lo' hi' W W') (hd : hi ≤ lo' ∨ hi' ≤ lo) : IntsIn W' lo hi A zs :=
  ⟨Nat.le_trans h.1 hw.size, fun hl => by
    obtain ⟨b, off, e, h1, h2, hc⟩ := h.2 hl
    have hk := hw.block b (Nat.lt_of_lt_of_le h2 h.1) (by omega)
    exact ⟨b, off, e, h1, h2, fun k hk' => (World.cell?_of_block (a := ⟨b, off + k, none⟩) hk).trans (hc k hk')⟩⟩
def intCells (zs : List Int) : List Value := zs.map (Value.int .i64)
theorem intCells_get (zs : List Int) (k : Nat) (h : k < zs.length) : (intCells zs)[k]? = some (.int .i64 (zs.getD k 0)) := by
  simp [intCells, List.getD, List.getElem?_eq_getElem h]
theorem intCells_len (zs : List Int) : (intCells zs).length = zs.length := by simp [intCells]
/-- A row of ints of the call's own. -/
def OwnInts (W : World) (lo hi : Nat) (A : Option Addr) (cap : Nat) (zs : List Int) : Prop :=
  hi ≤ W.heap.size ∧ (zs = [] ∨ ∃ g, A = some ⟨g, 0, none⟩ ∧ lo ≤ g ∧ g < hi ∧ W.ownsRow lo 3 1 (.slice (some ⟨g, 0, none⟩) zs.length cap) zs.length (intCells zs))
theorem OwnInts.within {W W' : World} {lo hi lo' hi' : Nat} {A : Option Addr} {cap : Nat} {zs : List Int} (h : OwnInts W lo hi A cap zs) (hw : Within lo' hi' W W') (hd : hi ≤ lo' ∨ hi' ≤ lo) : OwnInts W' lo hi A cap zs :=
  ⟨Nat.le_trans h.1 hw.size, by
    rcases h.2 with h2 | ⟨g, e, h1, h2, ho⟩
    · exact .inl h2
    · exact .inr ⟨g, e, h1, h2, own_block ho (hw.block g (Nat.lt_of_lt_of_le h2 h.1) (by omega))⟩⟩
theorem OwnInts.reads {W : World} {lo hi : Nat} {A : Option Addr} {cap : Nat} {zs : List Int} (h : OwnInts W lo hi A cap zs) : IntsIn W lo hi A zs :=
  ⟨h.1, fun hl => by
    rcases h.2 with h2 | ⟨g, e, h1, h2, ho⟩
    · subst h2; simp at hl
    · exact ⟨g, 0, e, h1, h2, fun k hk => by
        rw [Nat.zero_add]
        exact (ho.cellAt k (by omega)).trans (intCells_get zs k hk)⟩⟩
theorem own_ints' {w' : World} {base : Nat} {A : Option Addr} {cap : Nat} {zs : List Int} (h : w'.ownsRow base 3 1 (.slice A zs.length cap) zs.length (intCells zs)) : OwnInts w' base w'.heap.size A cap zs := by
  rcases h.2 with ⟨h1, h0⟩ | ⟨g, cap', cur, h1, h2⟩
  · exact ⟨Nat.le_refl _, .inl (List.eq_nil_of_length_eq_zero h0)⟩
  · cases h1
    exact ⟨Nat.le_refl _, .inr ⟨g, rfl, (h.lt g rfl).1, (h.lt g rfl).2, h⟩⟩
end Go.Proofs.Ytdkpmaahinbhlaa
/- Rows of ints, as the laws copy, compare and mark them. No condition. -/
namespace Go.Proofs.Ytdkpmaahinbhlaa
open Go.RowKit

/-- The ints that the marks from k on make. -/
def marksI (k : Int) (n : Nat) : List Int := (List.range n).map fun (i : Nat) => k + (i : Int)
end Go.Proofs.Ytdkpmaahinbhlaa
/- What a function returns that answers with a row of ints of the call's own. No condition. -/
namespace Go.Proofs.Ytdkpmaahinbhlaa
open Go.RowKit

/-- A row of ints of the call's own. -/
def IntsO (w : World) (zs : List Int) (e : Ending) (w' : World) : Prop :=
  ∃ A cap, e = .returned (.slice A zs.length cap) ∧ OwnInts w' w.heap.size w'.heap.size A cap zs ∧ Below w.heap.size w w'
theorem OwnInts.widen {W : World} {lo hi lo' hi' : Nat} {A : Option Addr} {cap : Nat} {zs : List Int} (h : OwnInts W lo hi A cap zs) (h1 : lo' ≤ lo) (h2 : hi ≤ hi') (h3 : hi' ≤ W.heap.size) : OwnInts W lo' hi' A cap zs :=
  ⟨h3, by
    rcases h.2 with h4 | ⟨g, e, h5, h6, ho⟩
    · exact .inl h4
    · exact .inr ⟨g, e, by omega, by omega, own_base ho h1⟩⟩
end Go.Proofs.Ytdkpmaahinbhlaa
/- What a function returns: a row of ints of its own, and a Boolean. No program's walk. No condition. -/
namespace Go.Proofs.Ytdkpmaahinbhlaa
open Go.RowKit

def IntsOB (w : World) (zs : List Int) (r : Bool) (e : Ending) (w' : World) : Prop :=
  ∃ A cap, e = .returned (.tuple #[.slice A zs.length cap, .bool r]) ∧ OwnInts w' w.heap.size w'.heap.size A cap zs ∧ Below w.heap.size w w'
end Go.Proofs.Ytdkpmaahinbhlaa
/- A slice of ints that a law is handed, and the laws' copy of it (toIntS). No condition. -/
namespace Go.Proofs.Ytdkpmaahinbhlaa
open Go.RowKit

/-- A slice of integers that came in: nil, or a row whose first 'len' cells are its elements. -/
def IsRow (k : IntKind) (w : World) (a : Option Addr) (len cap : Nat) (zs : List Int) : Prop :=
  (a = none ∧ len = 0 ∧ cap = 0 ∧ zs = []) ∨
  ∃ x, a = some x ∧ len ≤ cap ∧ cap ≤ maxLen ∧ zs.length = cap ∧ (∀ i, i < zs.length → w.cell? (x.add i) = some (.int k (zs.getD i 0))) ∧ ∀ n ∈ zs, (Lit.int k n).wf = true
theorem IsRow.ints {w : World} {a : Option Addr} {len cap : Nat} {zs : List Int} (h : IsRow .i64 w a len cap zs) : ∃ ys : List Int, ys.length = len ∧ IntsIn w 0 w.heap.size a ys ∧ len ≤ maxLen := by
  rcases h with ⟨rfl, rfl, rfl, rfl⟩ | ⟨x, rfl, h1, h2, h3, h4, _⟩
  · exact ⟨[], rfl, ⟨Nat.le_refl _, fun h => absurd h (by simp)⟩, Nat.zero_le _⟩
  · refine ⟨zs.take len, by simp; omega, ⟨Nat.le_refl _, fun hl => ?_⟩, Nat.le_trans h1 h2⟩
    have hl' : 0 < zs.length := by simp at hl; omega
    obtain ⟨b, off, spot⟩ := x
    have hs : spot = none := by simpa [Addr.add] using World.cell?_spot (h4 0 hl')
    subst hs
    have hadd : ∀ k, (⟨b, off, none⟩ : Addr).add k = ⟨b, off + k, none⟩ := fun k => by unfold Addr.add; split <;> simp_all
    have h0 := h4 0 hl'
    rw [hadd] at h0
    refine ⟨b, off, rfl, Nat.zero_le _, World.block_lt_of_cell? w _ h0, fun k hk => ?_⟩
    have hk' : k < len ∧ k < zs.length := by simp at hk; omega
    have := h4 k hk'.2
    rw [hadd] at this
    rw [this]
    simp [List.getD, hk'.1]

theorem intsOf_zero (n : Nat) : List.replicate n (Value.int .i64 0) = intCells (List.replicate n 0) := by simp [intCells]
theorem ints_step (zs : List Int) (k : Nat) (h : k < zs.length) : (intCells (zs.take k ++ List.replicate (zs.length - k) 0)).set k (.int .i64 (zs.getD k 0)) = intCells (zs.take (k + 1) ++ List.replicate (zs.length - (k + 1)) 0) := by
  unfold intCells
  rw [← List.map_set]
  congr 1
  have hl0 : (zs.take k).length = k := by simp; omega
  obtain ⟨r, hr⟩ : ∃ r, zs.length - k = r + 1 := ⟨zs.length - k - 1, by omega⟩
  rw [List.set_append_right _ _ (by omega), hl0, Nat.sub_self, hr, List.replicate_succ, List.set_cons_zero, List.take_succ_eq_append_getElem h, show zs.length - (k + 1) = r by omega, List.append_assoc]
  simp [List.getD, List.getElem?_eq_getElem h]

end Go.Proofs.Ytdkpmaahinbhlaa
/- What laws.has answers. No condition. -/
namespace Go.Proofs.Ytdkpmaahinbhlaa
open Go.RowKit

set_option maxHeartbeats 1000000 in
set_option maxRecDepth 100000 in
theorem lhas_c (zs : List Int) (x : Int) (A : Option Addr) (cap lo hi : Nat) (w : World) (hl : IntsIn w lo hi A zs) (hn : zs.length ≤ 1048576) :
    Calls Try.prog 55 #[.slice A zs.length cap, .int .i64 x] w fun e w' => e = .returned (.bool (decide (x ∈ zs))) ∧ w = w' := by
  have HL := Lib.hid hl
  clear hl
  go_enter Try.func55, Try.ntmps55
  go_wp2_with fail
  go_loop [5] (fun i => ∃ k : Nat, k ≤ zs.length ∧ i = .int .i64 k ∧ ∀ j, j < k → zs.getD j 0 ≠ x) (fun i => zs.length - (intOf i).toNat)
  case atStart => exact ⟨0, by omega, rfl, fun j hj => absurd hj (by omega)⟩
  case round =>
    obtain ⟨k, hk, rfl, hall⟩ := hrel
    have HALL := Lib.hid hall
    clear hall
    by_cases hlt : k < zs.length
    · have hi : (k : Int) < (zs.length : Int) := by omega
      obtain ⟨b, off, rfl, _, _, hcell⟩ := HL.out.2 (by omega)
      have hc := hcell k hlt
      clear hcell
      have HM := Lib.hid (show zs.getD k 0 ∈ zs by
        have : zs.getD k 0 = zs[k] := by simp [List.getD, List.getElem?_eq_getElem hlt]
        rw [this]; exact List.getElem_mem hlt)
      obtain ⟨y, hy⟩ : ∃ y, zs.getD k 0 = y := ⟨_, rfl⟩
      rw [hy] at hc HM
      by_cases he : y = x
      · have he' : (y == x) = true := by simpa using he
        have HD := Lib.hid (show decide (x ∈ zs) = true by rw [← he]; exact decide_eq_true HM.out)
        clear he hy
        go_wp2_with fail
        go_ret
        exact ⟨by rw [HD.out]; rfl, rfl⟩
      · have he' : (y == x) = false := by simpa using he
        have HS := Lib.hid (show ∀ j, j < k + 1 → zs.getD j 0 ≠ x from fun j hj => by
          by_cases e : j = k
          · subst e; rw [hy]; exact he
          · exact HALL.out j (by omega))
        clear he hy
        go_wp2_with fail
        go_round
        case rel => exact ⟨k + 1, by omega, by go_num, HS.out⟩
        case measure => simp [intOf]; omega
    · obtain rfl : k = zs.length := by omega
      have HD := Lib.hid (show decide (x ∈ zs) = false by
        refine decide_eq_false fun hm => ?_
        obtain ⟨i, hi, e⟩ := List.getElem_of_mem hm
        refine HALL.out i hi ?_
        simpa [List.getD, List.getElem?_eq_getElem hi] using e)
      go_wp2_with fail
      go_ret
      exact ⟨by rw [HD.out]; rfl, rfl⟩
end Go.Proofs.Ytdkpmaahinbhlaa
/- What spec.l2Has answers. No condition. -/
namespace Go.Proofs.Ytdkpmaahinbhlaa
open Go.RowKit

set_option maxHeartbeats 1000000 in
set_option maxRecDepth 100000 in
theorem has_c (zs : List Int) (x : Int) (A : Option Addr) (cap lo hi : Nat) (w : World) (hl : IntsIn w lo hi A zs) (hn : zs.length ≤ 1048576) :
    Calls Try.prog 112 #[.slice A zs.length cap, .int .i64 x] w fun e w' => e = .returned (.bool (decide (x ∈ zs))) ∧ w = w' := by
  have HL := Lib.hid hl
  clear hl
  go_enter Try.func112, Try.ntmps112
  go_wp2_with fail
  go_loop [5] (fun i => ∃ k : Nat, k ≤ zs.length ∧ i = .int .i64 k ∧ ∀ j, j < k → zs.getD j 0 ≠ x) (fun i => zs.length - (intOf i).toNat)
  case atStart => exact ⟨0, by omega, rfl, fun j hj => absurd hj (by omega)⟩
  case round =>
    obtain ⟨k, hk, rfl, hall⟩ := hrel
    have HALL := Lib.hid hall
    clear hall
    by_cases hlt : k < zs.length
    · have hi : (k : Int) < (zs.length : Int) := by omega
      obtain ⟨b, off, rfl, _, _, hcell⟩ := HL.out.2 (by omega)
      have hc := hcell k hlt
      clear hcell
      have HM := Lib.hid (show zs.getD k 0 ∈ zs by
        have : zs.getD k 0 = zs[k] := by simp [List.getD, List.getElem?_eq_getElem hlt]
        rw [this]; exact List.getElem_mem hlt)
      obtain ⟨y, hy⟩ : ∃ y, zs.getD k 0 = y := ⟨_, rfl⟩
      rw [hy] at hc HM
      by_cases he : y = x
      · have he' : (y == x) = true := by simpa using he
        have HD := Lib.hid (show decide (x ∈ zs) = true by rw [← he]; exact decide_eq_true HM.out)
        clear he hy
        go_wp2_with fail
        go_ret
        exact ⟨by rw [HD.out]; rfl, rfl⟩
      · have he' : (y == x) = false := by simpa using he
        have HS := Lib.hid (show ∀ j, j < k + 1 → zs.getD j 0 ≠ x from fun j hj => by
          by_cases e : j = k
          · subst e; rw [hy]; exact he
          · exact HALL.out j (by omega))
        clear he hy
        go_wp2_with fail
        go_round
        case rel => exact ⟨k + 1, by omega, by go_num, HS.out⟩
        case measure => simp [intOf]; omega
    · obtain rfl : k = zs.length := by omega
      have HD := Lib.hid (show decide (x ∈ zs) = false by
        refine decide_eq_false fun hm => ?_
        obtain ⟨i, hi, e⟩ := List.getElem_of_mem hm
        refine HALL.out i hi ?_
        simpa [List.getD, List.getElem?_eq_getElem hi] using e)
      go_wp2_with fail
      go_ret
      exact ⟨by rw [HD.out]; rfl, rfl⟩
end Go.Proofs.Ytdkpmaahinbhlaa
/- What slices.Contains answers on a row of ints. No condition. -/
namespace Go.Proofs.Ytdkpmaahinbhlaa
open Go.RowKit

set_option maxHeartbeats 2000000 in
set_option maxRecDepth 100000 in
theorem slIndex (zs : List Int) (x : Int) (A : Option Addr) (cap lo hi : Nat) (w : World) (hl : IntsIn w lo hi A zs) (hn : zs.length ≤ 1048576) :
    Calls Try.prog 187 #[.slice A zs.length cap, .int .i64 x] w fun e w' => (∃ r : Int, e = .returned (.int .i64 r) ∧ (0 ≤ r ↔ x ∈ zs)) ∧ w = w' := by
  have HL := Lib.hid hl
  clear hl
  go_enter Try.func187, Try.ntmps187
  go_wp2_with fail
  go_loop [8] (fun i => ∃ k : Nat, k ≤ zs.length ∧ i = .int .i64 k ∧ ∀ j, j < k → zs.getD j 0 ≠ x) (fun i => zs.length - (intOf i).toNat)
  case atStart => exact ⟨0, by omega, rfl, fun j hj => absurd hj (by omega)⟩
  case round =>
    obtain ⟨k, hk, rfl, hall⟩ := hrel
    have HALL := Lib.hid hall
    clear hall
    by_cases hlt : k < zs.length
    · have hi : (k : Int) < (zs.length : Int) := by omega
      obtain ⟨b, off, rfl, _, _, hcell⟩ := HL.out.2 (by omega)
      have hc := hcell k hlt
      clear hcell
      have HM := Lib.hid (show zs.getD k 0 ∈ zs by
        have : zs.getD k 0 = zs[k] := by simp [List.getD, List.getElem?_eq_getElem hlt]
        rw [this]; exact List.getElem_mem hlt)
      obtain ⟨y, hy⟩ : ∃ y, zs.getD k 0 = y := ⟨_, rfl⟩
      rw [hy] at hc HM
      by_cases he : y = x
      · have he' : (x == y) = true := by simpa using he.symm
        have HD := Lib.hid (show (0 : Int) ≤ (k : Int) ↔ x ∈ zs from ⟨fun _ => by rw [← he]; exact HM.out, fun _ => by omega⟩)
        clear he hy
        go_wp2_with fail
        go_ret
        exact ⟨⟨_, rfl, HD.out⟩, rfl⟩
      · have he' : (x == y) = false := by simpa using fun e => he e.symm
        have HS := Lib.hid (show ∀ j, j < k + 1 → zs.getD j 0 ≠ x from fun j hj => by
          by_cases e : j = k
          · subst e; rw [hy]; exact he
          · exact HALL.out j (by omega))
        clear he hy
        go_wp2_with fail
        go_round
        case rel => exact ⟨k + 1, by omega, by go_num, HS.out⟩
        case measure => simp [intOf]; omega
    · obtain rfl : k = zs.length := by omega
      have HD := Lib.hid (show (0 : Int) ≤ -1 ↔ x ∈ zs by
        refine ⟨fun h => absurd h (by omega), fun hm => False.elim ?_⟩
        obtain ⟨i, hi, e⟩ := List.getElem_of_mem hm
        refine HALL.out i hi ?_
        simpa [List.getD, List.getElem?_eq_getElem hi] using e)
      go_wp2_with fail
      go_ret
      exact ⟨⟨_, rfl, HD.out⟩, rfl⟩

set_option maxHeartbeats 2000000 in
set_option maxRecDepth 100000 in
theorem slContains (zs : List Int) (x : Int) (A : Option Addr) (cap lo hi : Nat) (w : World) (hl : IntsIn w lo hi A zs) (hn : zs.length ≤ 1048576) :
    Calls Try.prog 111 #[.slice A zs.length cap, .int .i64 x] w fun e w' => e = .returned (.bool (decide (x ∈ zs))) ∧ w = w' := by
  have HL := Lib.hid hl
  clear hl
  by_cases hm : x ∈ zs
  · rw [decide_eq_true hm]
    have HM := Lib.hid hm
    clear hm
    go_enter Try.func111, Try.ntmps111
    go_wp2_with fail
    refine (slIndex zs x A cap lo hi _ HL.out hn).mono ?_
    rintro e w1 ⟨⟨r, rfl, hr⟩, rfl⟩
    have hr0 : 0 ≤ r := hr.2 HM.out
    clear hr
    go_wp2_with fail
    go_ret
    exact ⟨by first | rfl | simp [hr0], rfl⟩
  · rw [decide_eq_false hm]
    have HM := Lib.hid hm
    clear hm
    go_enter Try.func111, Try.ntmps111
    go_wp2_with fail
    refine (slIndex zs x A cap lo hi _ HL.out hn).mono ?_
    rintro e w1 ⟨⟨r, rfl, hr⟩, rfl⟩
    have hr0 : ¬ 0 ≤ r := fun h => HM.out (hr.1 h)
    have hr1 : r < 0 := by omega
    clear hr
    go_wp2_with fail
    go_ret
    exact ⟨by first | rfl | simp [hr0] | simp [hr1], rfl⟩
end Go.Proofs.Ytdkpmaahinbhlaa
/- What the cursor over a code's bytes answers (spec.l1New, l1Byte, l1Below): some number in its bounds, and only the cursor's own block is written. No condition. -/
namespace Go.Proofs.Ytdkpmaahinbhlaa
open Go.RowKit

/-- The code's bytes are zs, and lie below block B. -/
def CodeIs (w : World) (B : Nat) (A : Option Addr) (len : Nat) (zs : Nat → Int) : Prop :=
  (∀ k, 0 ≤ zs k ∧ zs k ≤ 255) ∧ (0 < len → ∃ b off, A = some ⟨b, off, none⟩ ∧ b < B ∧ ∀ k, k < len → w.cell? ⟨b, off + k, none⟩ = some (.int .u8 (zs k)))
/-- Block g, from B on, is a cursor over that code. -/
def CurIs (w : World) (B g : Nat) (A : Option Addr) (len cap : Nat) : Prop :=
  B ≤ g ∧ ∃ (i : Nat) (h : Int), w.heap[g]? = some (.cells #[.slice A len cap, .int .i64 i, .int .i64 h] 181 (0, 0)) ∧ i ≤ len
/-- A number with P is drawn; the cursor is one still; no other block is written. -/
def DrawP (w : World) (B g : Nat) (A : Option Addr) (len cap : Nat) (P : Int → Prop) (e : Ending) (w' : World) : Prop :=
  ∃ x, P x ∧ e = .returned (.int .i64 x) ∧ CurIs w' B g A len cap ∧ w.grownBy w' (some g)

theorem CodeIs.kept {w w' : World} {B : Nat} {A : Option Addr} {len : Nat} {zs : Nat → Int} (h : CodeIs w B A len zs) (hb : Below B w w') : CodeIs w' B A len zs :=
  ⟨h.1, fun hl => by
    obtain ⟨b, off, e, hlt, hc⟩ := h.2 hl
    exact ⟨b, off, e, hlt, fun k hk => (hb.cell (p := ⟨b, off + k, none⟩) hlt).trans (hc k hk)⟩⟩
theorem grown_cur {w w' : World} {B g : Nat} (hB : B ≤ g) (hw : B ≤ w.heap.size) (h : w.grownBy w' (some g)) : Below B w w' := (Below.refl B w).grown h hw fun k hk => by
  injection hk with hk
  subst hk
  exact hB
theorem CurIs.lt {w : World} {B g : Nat} {A : Option Addr} {len cap : Nat} (h : CurIs w B g A len cap) : g < w.heap.size := by
  obtain ⟨_, i, hh, hg, _⟩ := h
  exact (Array.getElem?_eq_some_iff.1 hg).1
theorem CurIs.grown {w w' : World} {B g : Nat} {A : Option Addr} {len cap : Nat} (h : CurIs w B g A len cap) {r : Option Nat} (hw : w.grownBy w' r) (hr : r ≠ some g) : CurIs w' B g A len cap := by
  have hlt := h.lt
  obtain ⟨hB, i, hh, hg, h1⟩ := h
  exact ⟨hB, i, hh, (hw.block g hlt (fun e => hr e.symm)).trans hg, h1⟩
theorem DrawP.mono {w : World} {B g : Nat} {A : Option Addr} {len cap : Nat} {P Q : Int → Prop} {e : Ending} {w' : World} (h : DrawP w B g A len cap P e w') (hq : ∀ x, P x → Q x) : DrawP w B g A len cap Q e w' := by
  obtain ⟨x, hp, r⟩ := h
  exact ⟨x, hq x hp, r⟩

theorem and255 (X : Int) : 0 ≤ bits .and .i64 X 255 ∧ bits .and .i64 X 255 ≤ 255 := by
  have h : ((BitVec.ofInt 64 X) &&& (BitVec.ofInt 64 255)).toNat ≤ 255 := by
    rw [BitVec.toNat_and]
    exact Nat.le_trans Nat.and_le_right (by decide)
  have e : bits .and .i64 X 255 = IntKind.i64.wrap (((BitVec.ofInt 64 X) &&& (BitVec.ofInt 64 255)).toNat : Int) := rfl
  rw [e, IntWalk.i64_in _ (by omega)]
  omega

theorem cur_cells {w : World} {g : Nat} {a b c : Value} {T : TypeId} (h : w.heap[g]? = some (.cells #[a, b, c] T (0, 0))) :
    w.cell? ⟨g, 0, none⟩ = some a ∧ w.cell? ⟨g, 1, none⟩ = some b ∧ w.cell? ⟨g, 2, none⟩ = some c ∧ (∀ j, w.frozen? ⟨g, j, none⟩ = false) := by
  refine ⟨?_, ?_, ?_, fun j => frozen_of_row w g j _ T h⟩
  · rw [cell_of_row w g 0 _ T (0, 0) h]; rfl
  · rw [cell_of_row w g 1 _ T (0, 0) h]; rfl
  · rw [cell_of_row w g 2 _ T (0, 0) h]; rfl

set_option maxHeartbeats 800000 in
set_option maxRecDepth 100000 in
theorem byte_c (w : World) (B g : Nat) (A : Option Addr) (len cap : Nat) (zs : Nat → Int) (hc : CodeIs w B A len zs) (hu : CurIs w B g A len cap) (hlen : len ≤ 140737488351232) :
    Calls Try.prog 191 #[.pointer (some ⟨g, 0, none⟩)] w (DrawP w B g A len cap fun x => 0 ≤ x ∧ x ≤ 255) := by
  have hlw := hu.lt
  obtain ⟨hB, i, h, hg, hi1⟩ := hu
  obtain ⟨c0, c1, c2, cf⟩ := cur_cells hg
  have f2 := cf 2
  have HG := Lib.hid hg
  have HC := Lib.hid hc
  clear hg hc cf
  go_enter Try.func191, Try.ntmps191
  go_wp2_with fail
  generalize wrap64 (wrap64 (h * 6364136223846793005) + 1442695040888963407) = h2
  have hg2 := heap_setCell_same w g 2 _ _ (.int .i64 h2) HG.out
  have hg2' : (w.setCell ⟨g, 2, none⟩ (.int .i64 h2)).heap[g]? = some (.cells #[.slice A len cap, .int .i64 i, .int .i64 h2] 181 (0, 0)) := hg2
  have hgr := grownBy_set w g 2 (.int .i64 h2)
  have hc2 := HC.out.kept (grown_cur hB (by omega) hgr)
  clear hg2 HG c0 c1 c2 f2
  generalize w.setCell ⟨g, 2, none⟩ (.int .i64 h2) = w2 at *
  obtain ⟨c0, c1, c2, cf⟩ := cur_cells hg2'
  have f1 := cf 1
  have HG := Lib.hid hg2'
  have HGR := Lib.hid hgr
  clear hg2' cf hgr HC
  by_cases hlt : i < len
  · have hi : (i : Int) < (len : Int) := by omega
    obtain ⟨b, off, rfl, hbB, hcell⟩ := hc2.2 (by omega)
    have hz := hc2.1 i
    have hci := hcell i hlt
    clear hcell hc2
    go_quiet (fail)
    go_wp2_with fail
    go_quiet (fail)
    go_wp2_with fail
    go_quiet (fail)
    go_wp2_with fail
    go_ret
    exact ⟨_, and255 _, rfl, ⟨hB, i + 1, h2, heap_setCell_same w2 g 1 _ _ _ HG.out, by omega⟩, (HGR.out.trans_ (grownBy_set w2 g 1 _)).trans_ (grownBy_drewN _ _ _)⟩
  · have hi : (len : Int) ≤ (i : Int) := by omega
    go_quiet (fail)
    go_wp2_with fail
    go_quiet (fail)
    go_wp2_with fail
    go_ret
    exact ⟨_, and255 _, rfl, ⟨hB, i, h2, HG.out, hi1⟩, (HGR.out.trans_ (grownBy_drewN _ _ _)).trans_ (grownBy_drewN _ _ _)⟩

set_option maxHeartbeats 400000 in
set_option maxRecDepth 100000 in
theorem below_c (n : Int) (w : World) (B g : Nat) (A : Option Addr) (len cap : Nat) (zs : Nat → Int) (hc : CodeIs w B A len zs) (hu : CurIs w B g A len cap) (hlen : len ≤ 140737488351232) (h0 : 0 < n) (h1 : n ≤ 256) :
    Calls Try.prog 121 #[.pointer (some ⟨g, 0, none⟩), .int .i64 n] w (DrawP w B g A len cap fun x => 0 ≤ x ∧ x < n) := by
  have HC := Lib.hid hc
  have HU := Lib.hid hu
  clear hc hu
  go_enter Try.func121, Try.ntmps121
  go_wp2_with fail
  refine (byte_c w B g A len cap zs HC.out HU.out hlen).mono ?_
  rintro e w1 ⟨x, hx, rfl, hu1, hg1⟩
  have HU1 := Lib.hid hu1
  have HG1 := Lib.hid hg1
  clear hu1 hg1
  have hn : (n == 0) = false := by simp; omega
  go_wp2_with fail
  go_ret
  exact ⟨_, ⟨Int.emod_nonneg _ (by omega), Int.emod_lt_of_pos _ h0⟩, rfl, HU1.out, HG1.out⟩

set_option maxHeartbeats 800000 in
set_option maxRecDepth 100000 in
theorem below_big (n : Int) (w : World) (B g : Nat) (A : Option Addr) (len cap : Nat) (zs : Nat → Int) (hc : CodeIs w B A len zs) (hu : CurIs w B g A len cap) (hlen : len ≤ 140737488351232) (hBw : B ≤ w.heap.size) (h0 : 256 < n) :
    Calls Try.prog 121 #[.pointer (some ⟨g, 0, none⟩), .int .i64 n] w (DrawP w B g A len cap fun x => 0 ≤ x ∧ x < n) := by
  have HC := Lib.hid hc
  have HU := Lib.hid hu
  clear hc hu
  have hB := HU.out.1
  go_enter Try.func121, Try.ntmps121
  go_wp2_with fail
  refine (byte_c w B g A len cap zs HC.out HU.out hlen).mono ?_
  rintro e w1 ⟨x, hx, rfl, hu1, hg1⟩
  have HU1 := Lib.hid hu1
  have HG1 := Lib.hid hg1
  have HC1 := Lib.hid (HC.out.kept (grown_cur hB hBw hg1))
  have hs1 := hg1.size
  clear hu1 hg1
  go_wp2_with fail
  refine (byte_c w1 B g A len cap zs HC1.out HU1.out hlen).mono ?_
  rintro e w2 ⟨y, hy, rfl, hu2, hg2⟩
  have HU2 := Lib.hid hu2
  have HG2 := Lib.hid hg2
  have HC2 := Lib.hid (HC1.out.kept (grown_cur hB (by omega) hg2))
  have hs2 := hg2.size
  clear hu2 hg2
  go_wp2_with fail
  refine (byte_c w2 B g A len cap zs HC2.out HU2.out hlen).mono ?_
  rintro e w3 ⟨z, hz, rfl, hu3, hg3⟩
  have HU3 := Lib.hid hu3
  have HG3 := Lib.hid hg3
  have HC3 := Lib.hid (HC2.out.kept (grown_cur hB (by omega) hg3))
  have hs3 := hg3.size
  clear hu3 hg3
  go_wp2_with fail
  refine (byte_c w3 B g A len cap zs HC3.out HU3.out hlen).mono ?_
  rintro e w4 ⟨v, hv, rfl, hu4, hg4⟩
  have HU4 := Lib.hid hu4
  have HG4 := Lib.hid hg4
  clear hu4 hg4
  have hn : (n == 0) = false := by simp; omega
  go_wp2_with fail
  go_ret
  exact ⟨_, ⟨Int.emod_nonneg _ (by omega), Int.emod_lt_of_pos _ (by omega)⟩, rfl, HU4.out, ((HG1.out.trans_ HG2.out).trans_ HG3.out).trans_ HG4.out⟩

/-- spec.l1Below at a bound that is positive. -/
theorem below_any (n : Int) (w : World) (B g : Nat) (A : Option Addr) (len cap : Nat) (zs : Nat → Int) (hc : CodeIs w B A len zs) (hu : CurIs w B g A len cap) (hlen : len ≤ 140737488351232) (hBw : B ≤ w.heap.size) (h0 : 0 < n) :
    Calls Try.prog 121 #[.pointer (some ⟨g, 0, none⟩), .int .i64 n] w (DrawP w B g A len cap fun x => 0 ≤ x ∧ x < n) := by
  by_cases h : n ≤ 256
  · exact below_c n w B g A len cap zs hc hu hlen h0 h
  · exact below_big n w B g A len cap zs hc hu hlen hBw (by omega)

/-- spec.l1New: a cursor of its own. -/
def NewCur (w : World) (A : Option Addr) (len cap : Nat) (e : Ending) (w' : World) : Prop :=
  ∃ g, e = .returned (.pointer (some ⟨g, 0, none⟩)) ∧ CurIs w' w.heap.size g A len cap ∧ Below w.heap.size w w'

set_option maxHeartbeats 800000 in
set_option maxRecDepth 100000 in
theorem new_c (w : World) (A : Option Addr) (len cap : Nat) (zs : Nat → Int) (hc : CodeIs w w.heap.size A len zs) (hlen : len ≤ 140737488351232) :
    Calls Try.prog 119 #[.slice A len cap] w (NewCur w A len cap) := by
  have HC := Lib.hid hc
  clear hc
  go_enter Try.func119, Try.ntmps119
  go_wp2_with fail
  go_loop [3, 4] (fun h i => ∃ (k : Nat) (x : Int), k ≤ len ∧ k ≤ 4000 ∧ i = .int .i64 k ∧ h = .int .i64 x) (fun _ i => 4000 - (intOf i).toNat)
  case atStart => exact ⟨0, _, by omega, by omega, rfl, rfl⟩
  case round =>
    obtain ⟨k, x, hk, hk4, rfl, rfl⟩ := hrel
    by_cases hlt : k < len ∧ k < 4000
    · obtain ⟨hl, h4⟩ := hlt
      obtain ⟨b, off, rfl, _, hcell⟩ := HC.out.2 (by omega)
      have hz := HC.out.1 k
      have hci := hcell k hl
      have hi : (k : Int) < (len : Int) := by omega
      have hi4 : (k : Int) < 4000 := by omega
      clear hcell
      go_wp2_with fail
      go_round
      case rel => exact ⟨k + 1, _, by omega, by omega, by go_num, rfl⟩
      case measure => simp [intOf]; omega
    · by_cases hl : (k : Int) < (len : Int)
      · have h4 : ¬ (k : Int) < 4000 := by omega
        clear hlt
        go_wp2_with fail
        go_ret
        exact ⟨w.heap.size, rfl, ⟨Nat.le_refl _, 0, x, heap_alloc_new w _, by omega⟩, (Below.refl _ _).alloc (Nat.le_refl _) _⟩
      · clear hlt
        go_wp2_with fail
        go_ret
        exact ⟨w.heap.size, rfl, ⟨Nat.le_refl _, 0, x, heap_alloc_new w _, by omega⟩, (Below.refl _ _).alloc (Nat.le_refl _) _⟩
end Go.Proofs.Ytdkpmaahinbhlaa
/- The laws' sameInts and at. No condition. -/
namespace Go.Proofs.Ytdkpmaahinbhlaa
open Go.RowKit

set_option maxHeartbeats 1000000 in
set_option maxRecDepth 100000 in
theorem sameInts_c (zs : List Int) (A A' : Option Addr) (cap cap' : Nat) (lo hi lo' hi' : Nat) (w : World) (hl : IntsIn w lo hi A zs) (hl' : IntsIn w lo' hi' A' zs) (hn : zs.length ≤ 1048576) :
    Calls Try.prog 21 #[.slice A zs.length cap, .slice A' zs.length cap'] w fun e w' => e = .returned (.bool true) ∧ Below w.heap.size w w' := by
  have HL := Lib.hid hl
  have HL' := Lib.hid hl'
  clear hl hl'
  go_enter Try.func21, Try.ntmps21
  go_wp2_with fail
  go_loopw [5] (fun i wr => ∃ k : Nat, k ≤ zs.length ∧ i = .int .i64 k ∧ ∃ m, wr = w.drewN m) (fun i _ => zs.length - (intOf i).toNat)
  case atStart => exact ⟨0, by omega, rfl, 0, rfl⟩
  case round =>
    obtain ⟨k, hk, rfl, m, rfl⟩ := hrel
    by_cases hlt : k < zs.length
    · have hi : (k : Int) < (zs.length : Int) := by omega
      obtain ⟨b, off, rfl, _, _, hcell⟩ := HL.out.2 (by omega)
      obtain ⟨b', off', rfl, _, _, hcell'⟩ := HL'.out.2 (by omega)
      have hc1 := hcell k hlt
      have hc2 := hcell' k hlt
      clear hcell hcell'
      obtain ⟨x, hx⟩ : ∃ x, zs.getD k 0 = x := ⟨_, rfl⟩
      rw [hx] at hc1 hc2
      clear hx
      go_wp2_with fail
      go_quiet (fail)
      go_wp2_with fail
      go_roundw
      case rel => exact ⟨k + 1, by omega, by go_num, m + nq, rfl⟩
      case measure => simp [intOf]; omega
    · go_wp2_with fail
      go_ret
      exact ⟨rfl, below_drewN _ _ _⟩


end Go.Proofs.Ytdkpmaahinbhlaa
/- The laws' big, and the code's bytes as a law is handed them. No condition. -/
namespace Go.Proofs.Ytdkpmaahinbhlaa
open Go.RowKit

theorem big_yes (w : World) (A : Option Addr) (len cap : Nat) (h : (1048576 : Int) < (len : Int)) :
    Calls Try.prog 14 #[.slice A len cap] w fun e w' => e = .returned (.bool true) ∧ w = w' := by
  have h' : decide ((1048576 : Int) < (len : Int)) = true := by simpa using h
  go_enter Try.func14, Try.ntmps14
  go_wp2
  go_ret
  exact ⟨rfl, rfl⟩
theorem big_no (w : World) (A : Option Addr) (len cap : Nat) (h : (len : Int) ≤ 1048576) :
    Calls Try.prog 14 #[.slice A len cap] w fun e w' => e = .returned (.bool false) ∧ w = w' := by
  have h' : decide ((1048576 : Int) < (len : Int)) = false := by simp; omega
  go_enter Try.func14, Try.ntmps14
  go_wp2
  go_ret
  exact ⟨rfl, rfl⟩
theorem code_of_row {w : World} {A : Option Addr} {len cap : Nat} {zs : List Int}
    (h : (A = none ∧ len = 0 ∧ cap = 0 ∧ zs = []) ∨ ∃ x, A = some x ∧ len ≤ cap ∧ cap ≤ maxLen ∧ zs.length = cap ∧ (∀ i, i < zs.length → w.cell? (x.add i) = some (.int .u8 (zs.getD i 0))) ∧ ∀ n ∈ zs, (Lit.int .u8 n).wf = true) :
    CodeIs w w.heap.size A len (fun k => zs.getD k 0) := by
  have hb : (∀ n ∈ zs, (Lit.int .u8 n).wf = true) → ∀ k, 0 ≤ zs.getD k 0 ∧ zs.getD k 0 ≤ 255 := by
    intro hw k
    by_cases hk : k < zs.length
    · have := hw _ (List.getElem_mem hk)
      simp [Lit.wf, IntKind.min, IntKind.max, IntKind.signed, IntKind.bits] at this
      simp [List.getD, List.getElem?_eq_getElem hk]
      omega
    · simp [List.getD, List.getElem?_eq_none (by omega : zs.length ≤ k)]
  rcases h with ⟨rfl, rfl, rfl, rfl⟩ | ⟨x, rfl, h1, h2, h3, hc, hw⟩
  · exact ⟨fun k => by simp, fun h => absurd h (by omega)⟩
  · refine ⟨hb hw, fun hl => ?_⟩
    obtain ⟨b, off, spot⟩ := x
    have h0 := hc 0 (by omega)
    have hs : spot = none := by simpa [Addr.add] using World.cell?_spot h0
    subst hs
    have hadd : ∀ k, (⟨b, off, none⟩ : Addr).add k = ⟨b, off + k, none⟩ := fun k => by unfold Addr.add; split <;> simp_all
    rw [hadd 0] at h0
    refine ⟨b, off, rfl, World.block_lt_of_cell? w _ h0, fun k hk => ?_⟩
    rw [← hadd k]
    exact hc k (by omega)
end Go.Proofs.Ytdkpmaahinbhlaa
/- What spec.l1PickInt answers over a cursor; words on cursors. No condition. -/
namespace Go.Proofs.Ytdkpmaahinbhlaa
open Go.RowKit

def InI64 (x : Int) : Prop := -9223372036854775808 ≤ x ∧ x ≤ 9223372036854775807
theorem CurIs.below {w w' : World} {B g B' : Nat} {A : Option Addr} {len cap : Nat} (h : CurIs w B g A len cap) (hb : Below B' w w') (hg : g < B') : CurIs w' B g A len cap := by
  obtain ⟨hB, i, hh, hc, h1⟩ := h
  exact ⟨hB, i, hh, (hb.block g hg).trans hc, h1⟩
theorem grown_then_below {w w2 w3 : World} {r : Option Nat} (h : w.grownBy w2 r) (hb : Below w.heap.size w2 w3) : w.grownBy w3 r :=
  ⟨hb.os.trans h.os, hb.tape.trans h.tape, hb.output.trans h.output, Nat.le_trans h.size hb.size, fun k hk hr => (hb.block k hk).trans (h.block k hk hr)⟩
set_option maxHeartbeats 800000 in
set_option maxRecDepth 100000 in
theorem pickInt_c (ns : List Int) (gl : Nat) (w : World) (B g : Nat) (A : Option Addr) (len cap : Nat) (zs : Nat → Int) (hc : CodeIs w B A len zs) (hu : CurIs w B g A len cap) (hlen : len ≤ 140737488351232) (hBw : B ≤ w.heap.size)
    (hn : 0 < ns.length) (hl : w.heap[gl]? = some (.cells (ns.map (Value.int .i64)).toArray 3 (0, 0))) (hne : gl ≠ g) (hsm : ns.length ≤ 1000) (hin : ∀ x ∈ ns, InI64 x) :
    Calls Try.prog 161 #[.pointer (some ⟨g, 0, none⟩), .slice (some ⟨gl, 0, none⟩) ns.length ns.length] w (DrawP w B g A len cap InI64) := by
  have HC := Lib.hid hc
  have HU := Lib.hid hu
  have HL := Lib.hid hl
  have HI := Lib.hid hin
  have hlw : gl < w.heap.size := (Array.getElem?_eq_some_iff.1 hl).1
  clear hc hu hl hin
  go_enter Try.func161, Try.ntmps161
  go_wp2_with fail
  refine (below_any (ns.length : Int) w B g A len cap zs HC.out HU.out hlen hBw (by omega)).mono ?_
  rintro e w1 ⟨x, ⟨hx0, hx1⟩, rfl, hu1, hg1⟩
  obtain ⟨k, rfl⟩ := Int.eq_ofNat_of_zero_le hx0
  have hk : k < ns.length := by omega
  have hcell : w1.cell? ⟨gl, k, none⟩ = some (.int .i64 ns[k]) := by
    rw [cell_of_row w1 gl k _ 3 (0, 0) ((hg1.block gl hlw (fun e => hne (by injection e))).trans HL.out)]
    simp [hk]
  have HU1 := Lib.hid hu1
  have HG1 := Lib.hid hg1
  have HX := Lib.hid (HI.out _ (List.getElem_mem hk))
  clear hu1 hg1
  go_wp2_with fail
  go_ret
  exact ⟨_, HX.out, rfl, HU1.out, HG1.out⟩
end Go.Proofs.Ytdkpmaahinbhlaa
/- What spec.l2After and spec.IsGraph answer. No condition. -/
namespace Go.Proofs.Ytdkpmaahinbhlaa
open Go.RowKit

/-- One bar stands before or beside another. -/
def aftB (a b : Int × Int) : Bool := decide (a.1 < b.1 ∨ a.1 = b.1 ∧ a.2 ≤ b.2)

theorem after_yes (a b : Int × Int) (w : World) (h : aftB a b = true) :
    Calls Try.prog 190 #[.agg #[.int .i64 a.1, .int .i64 a.2], .agg #[.int .i64 b.1, .int .i64 b.2]] w fun e w' => e = .returned (.bool true) ∧ Below w.heap.size w w' := by
  obtain ⟨x, y⟩ := a
  obtain ⟨u, v⟩ := b
  have h' : x < u ∨ (¬ x < u ∧ x = u ∧ y ≤ v) := by
    have := of_decide_eq_true h
    simp only at this
    omega
  clear h
  rcases h' with h | ⟨h1, rfl, h3⟩
  all_goals
    go_enter Try.func190, Try.ntmps190
    go_wp2
    go_ret
    exact ⟨by simp [*], ((Below.refl _ _).alloc (Nat.le_refl _) _).alloc (by simp) _⟩
theorem after_no (a b : Int × Int) (w : World) (h : aftB a b = false) :
    Calls Try.prog 190 #[.agg #[.int .i64 a.1, .int .i64 a.2], .agg #[.int .i64 b.1, .int .i64 b.2]] w fun e w' => e = .returned (.bool false) ∧ Below w.heap.size w w' := by
  obtain ⟨x, y⟩ := a
  obtain ⟨u, v⟩ := b
  have h' : (u < x) ∨ (x = u ∧ v < y) := by
    have := of_decide_eq_false h
    simp only at this
    omega
  clear h
  rcases h' with h | ⟨rfl, h3⟩
  · have hne : (x == u) = false := by simp; omega
    go_enter Try.func190, Try.ntmps190
    go_wp2
    go_ret
    exact ⟨by simp; omega, ((Below.refl _ _).alloc (Nat.le_refl _) _).alloc (by simp) _⟩
  · go_enter Try.func190, Try.ntmps190
    go_wp2
    go_ret
    exact ⟨by simp; omega, ((Below.refl _ _).alloc (Nat.le_refl _) _).alloc (by simp) _⟩

/-- The bar at place i is as a graph of p points wants it. -/
def OkBar (p : Int) (l : List (Int × Int)) (i : Nat) : Prop :=
  0 ≤ (l.getD i (0, 0)).1 ∧ (l.getD i (0, 0)).1 < (l.getD i (0, 0)).2 ∧ (l.getD i (0, 0)).2 < p ∧ (0 < i → aftB (l.getD (i - 1) (0, 0)) (l.getD i (0, 0)) = true)
/-- A graph. -/
def IsG (p : Int) (l : List (Int × Int)) : Prop := (1 ≤ p ∧ p ≤ 8) ∧ l.length ≤ 24 ∧ ∀ i, i < l.length → OkBar p l i
open Classical in
noncomputable def isGB (p : Int) (l : List (Int × Int)) : Bool := if IsG p l then true else false
theorem isGB_yes {p : Int} {l : List (Int × Int)} (h : IsG p l) : isGB p l = true := by unfold isGB; rw [if_pos h]
theorem isGB_no {p : Int} {l : List (Int × Int)} (h : ¬ IsG p l) : isGB p l = false := by unfold isGB; rw [if_neg h]

set_option maxHeartbeats 1000000 in
set_option maxRecDepth 100000 in
theorem specIsGraph (p : Int) (l : List (Int × Int)) (A : Option Addr) (cap : Nat) (w : World) (hl : BarsAt w w.heap.size A l) (hn : l.length ≤ 140737488351232) :
    Calls Try.prog 118 #[.agg #[.int .i64 p, .slice A l.length cap]] w fun e w' => e = .returned (.bool (isGB p l)) ∧ Below w.heap.size w w' := by
  have hA : Below w.heap.size w (w.alloc (.cells #[.int .i64 p, .slice A l.length cap] 26)) := (Below.refl _ _).alloc (Nat.le_refl _) _
  have HL := Lib.hid hl
  have HA := Lib.hid hA
  clear hl hA
  by_cases hp : 1 ≤ p ∧ p ≤ 8
  · by_cases h24 : l.length ≤ 24
    · have hc0 : (w.alloc (.cells #[.int .i64 p, .slice A l.length cap] 26)).cell? ⟨w.heap.size, 0, none⟩ = some (.int .i64 p) := by rw [World.cell?_alloc_at _ _ _ _ rfl]; rfl
      have hc1 : (w.alloc (.cells #[.int .i64 p, .slice A l.length cap] 26)).cell? ⟨w.heap.size, 1, none⟩ = some (.slice A l.length cap) := by rw [World.cell?_alloc_at _ _ _ _ rfl]; rfl
      have HC0 := Lib.hid hc0
      have HC1 := Lib.hid hc1
      clear hc0 hc1
      go_enter Try.func118, Try.ntmps118
      go_wp2_with fail
      refine (l1In_yes _ _ _ _ hp.1 hp.2).mono ?_
      rintro e w1 ⟨rfl, rfl⟩
      go_wp2_with fail
      go_loopw [3] (fun i wr => ∃ k : Nat, k ≤ l.length ∧ i = .int .i64 k ∧ (∀ j, j < k → OkBar p l j) ∧ Below (w.heap.size + 1) (w.alloc (.cells #[.int .i64 p, .slice A l.length cap] 26)) wr) (fun i _ => l.length - (intOf i).toNat)
      case atStart => exact ⟨0, by omega, rfl, fun j hj => absurd hj (by omega), Below.refl _ _⟩
      case round =>
        obtain ⟨k, hk, rfl, hok, hb⟩ := hrel
        have hg0 := (hb.cell (p := ⟨w.heap.size, 0, none⟩) (by simp)).trans HC0.out
        have hg1 := (hb.cell (p := ⟨w.heap.size, 1, none⟩) (by simp)).trans HC1.out
        have hbs := hb.size
        have HB := Lib.hid hb
        have HOK := Lib.hid hok
        clear hb hok
        simp only [World.size_alloc] at hbs
        by_cases hlt : k < l.length
        · have hi : (k : Int) < (l.length : Int) := by omega
          obtain ⟨b, off, rfl, hbB, hcell⟩ := HL.out (by omega)
          have hx1 := (((HA.out.trans (HB.out.mono (by omega))).cell (p := ⟨b, off + k * 2, none⟩) hbB).trans (hcell k hlt).1)
          have hx2 := (((HA.out.trans (HB.out.mono (by omega))).cell (p := ⟨b, off + k * 2 + 1, none⟩) hbB).trans (hcell k hlt).2)
          have HW := Lib.hid (HA.out.trans (HB.out.mono (by omega : w.heap.size ≤ w.heap.size + 1)))
          have HPREV := Lib.hid (show 0 < k → wr.cell? ⟨b, off + (k - 1) * 2, none⟩ = some (.int .i64 (l.getD (k - 1) (0, 0)).1) ∧ wr.cell? ⟨b, off + (k - 1) * 2 + 1, none⟩ = some (.int .i64 (l.getD (k - 1) (0, 0)).2) from fun h0 =>
            ⟨(HW.out.cell (p := ⟨b, off + (k - 1) * 2, none⟩) hbB).trans (hcell (k - 1) (by omega)).1, (HW.out.cell (p := ⟨b, off + (k - 1) * 2 + 1, none⟩) hbB).trans (hcell (k - 1) (by omega)).2⟩)
          have HOKK := Lib.hid (fun h : IsG p l => h.2.2 k hlt)
          have HSTEP := Lib.hid (show OkBar p l k → ∀ j, j < k + 1 → OkBar p l j from fun h j hj => by
            by_cases e : j = k
            · subst e; exact h
            · exact HOK.out j (by omega))
          have hOKdef : OkBar p l k = (0 ≤ (l.getD k (0, 0)).1 ∧ (l.getD k (0, 0)).1 < (l.getD k (0, 0)).2 ∧ (l.getD k (0, 0)).2 < p ∧ (0 < k → aftB (l.getD (k - 1) (0, 0)) (l.getD k (0, 0)) = true)) := rfl
          have HDEF := Lib.hid hOKdef
          clear hcell hOKdef
          obtain ⟨x, hx⟩ : ∃ x, l.getD k (0, 0) = x := ⟨_, rfl⟩
          obtain ⟨q, hq⟩ : ∃ q, l.getD (k - 1) (0, 0) = q := ⟨_, rfl⟩
          rw [hx] at hx1 hx2
          rw [hx, hq] at HDEF
          rw [hq] at HPREV
          clear hx hq
          obtain ⟨x1, x2⟩ := x
          simp only at hx1 hx2 HDEF
          go_wp2_with fail
          have hal : Below wr.heap.size wr (wr.alloc (.cells #[.int .i64 x1, .int .i64 x2] 108)) := (Below.refl _ _).alloc (Nat.le_refl _) _
          have hw0 := (hal.cell (p := ⟨w.heap.size, 0, none⟩) (show w.heap.size < wr.heap.size by omega)).trans hg0
          have hw1 := (hal.cell (p := ⟨w.heap.size, 1, none⟩) (show w.heap.size < wr.heap.size by omega)).trans hg1
          have hw2 : (wr.alloc (.cells #[.int .i64 x1, .int .i64 x2] 108)).cell? ⟨wr.heap.size, 0, none⟩ = some (.int .i64 x1) := by rw [World.cell?_alloc_at _ _ _ _ rfl]; rfl
          have hw3 : (wr.alloc (.cells #[.int .i64 x1, .int .i64 x2] 108)).cell? ⟨wr.heap.size, 1, none⟩ = some (.int .i64 x2) := by rw [World.cell?_alloc_at _ _ _ _ rfl]; rfl
          have HWA := Lib.hid (HB.out.trans (hal.mono hbs))
          have HPA := Lib.hid (fun h0 : 0 < k => (⟨(hal.cell (p := ⟨b, off + (k - 1) * 2, none⟩) (show b < wr.heap.size by omega)).trans (HPREV.out h0).1, (hal.cell (p := ⟨b, off + (k - 1) * 2 + 1, none⟩) (show b < wr.heap.size by omega)).trans (HPREV.out h0).2⟩ : _ ∧ _))
          have hsA : (wr.alloc (.cells #[.int .i64 x1, .int .i64 x2] 108)).heap.size = wr.heap.size + 1 := by simp
          clear hal hx1 hx2 hg0 hg1
          generalize wr.alloc (.cells #[.int .i64 x1, .int .i64 x2] 108) = w2 at *
          by_cases c1 : x1 < 0
          · have Q := Lib.hid (isGB_no (p := p) (l := l) fun h => by have := HOKK.out h; rw [HDEF.out] at this; omega)
            go_quiet (fail)
            go_wp2_with fail
            go_ret
            exact ⟨by rw [Q.out]; rfl, (HA.out.trans (HWA.out.mono (by omega))).trans (below_drewN _ _ _)⟩
          · have d1 : decide (x1 < 0) = false := by simpa using c1
            by_cases c2 : x2 ≤ x1
            · have Q := Lib.hid (isGB_no (p := p) (l := l) fun h => by have := HOKK.out h; rw [HDEF.out] at this; omega)
              go_quiet (fail)
              go_wp2_with fail
              go_ret
              exact ⟨by rw [Q.out]; rfl, (HA.out.trans (HWA.out.mono (by omega))).trans (below_drewN _ _ _)⟩
            · have d2 : decide (x2 ≤ x1) = false := by simpa using c2
              by_cases c3 : p ≤ x2
              · have Q := Lib.hid (isGB_no (p := p) (l := l) fun h => by have := HOKK.out h; rw [HDEF.out] at this; omega)
                go_quiet (fail)
                go_wp2_with fail
                go_ret
                exact ⟨by rw [Q.out]; rfl, (HA.out.trans (HWA.out.mono (by omega))).trans (below_drewN _ _ _)⟩
              · have d3 : decide (p ≤ x2) = false := by simpa using c3
                by_cases c4 : k = 0
                · have hs := HSTEP.out (by rw [HDEF.out]; exact ⟨by omega, by omega, by omega, fun h => absurd h (by omega)⟩)
                  have HS := Lib.hid hs
                  have d4 : decide ((0 : Int) < (k : Int)) = false := by simp; omega
                  have d4n : decide (0 < k) = false := by simp; omega
                  clear hs c4
                  go_quiet (fail)
                  go_wp2_with fail
                  go_roundw
                  case rel => exact ⟨k + 1, by omega, by go_num, HS.out, HWA.out.trans (below_drewN _ _ _)⟩
                  case measure => simp [intOf]; omega
                · have d4 : (0 : Int) < (k : Int) := by omega
                  have d4n : decide (0 < k) = true := by simp; omega
                  obtain ⟨hp1, hp2⟩ := HPA.out (by omega)
                  have htn : ((k : Int) - 1).toNat = k - 1 := by omega
                  have hwr : IntKind.i64.wrap ((k : Int) - 1) = (k : Int) - 1 := IntWalk.i64_in _ (by omega)
                  have hk1 : 0 ≤ (k : Int) - 1 := by omega
                  have hk3 : (1 : Int) ≤ (k : Int) := by omega
                  have hk4 : 1 ≤ k := by omega
                  have hk2 : (k : Int) - 1 < (l.length : Int) := by omega
                  by_cases c5 : aftB q (x1, x2) = true
                  · have hs := HSTEP.out (by rw [HDEF.out]; exact ⟨by omega, by omega, by omega, fun _ => c5⟩)
                    have HS := Lib.hid hs
                    have H5 := Lib.hid c5
                    clear hs c5
                    go_still_tail 28, (by kernel_rfl)
                    change wpList _ _ _ _ _ w2.drew
                    go_wp2_with fail
                    refine (after_yes q (x1, x2) _ H5.out).mono ?_
                    rintro e w3 ⟨rfl, hb3⟩
                    have HB3 := Lib.hid ((HWA.out.drew).trans (hb3.mono (show w.heap.size + 1 ≤ w2.heap.size by omega)))
                    clear hb3
                    go_wp2_with fail
                    go_roundw
                    case rel => exact ⟨k + 1, by omega, by go_num, HS.out, HB3.out⟩
                    case measure => simp [intOf]; omega
                  · have Q := Lib.hid (isGB_no (p := p) (l := l) fun h => by have := HOKK.out h; rw [HDEF.out] at this; exact c5 (this.2.2.2 (by omega)))
                    have H5 := Lib.hid (show aftB q (x1, x2) = false by simpa using c5)
                    clear c5
                    go_still_tail 28, (by kernel_rfl)
                    change wpList _ _ _ _ _ w2.drew
                    go_wp2_with fail
                    refine (after_no q (x1, x2) _ H5.out).mono ?_
                    rintro e w3 ⟨rfl, hb3⟩
                    have HB3 := Lib.hid ((HWA.out.drew).trans (hb3.mono (show w.heap.size + 1 ≤ w2.heap.size by omega)))
                    clear hb3
                    go_wp2_with fail
                    go_ret
                    exact ⟨by rw [Q.out]; rfl, HA.out.trans (HB3.out.mono (by omega))⟩
        · obtain rfl : k = l.length := by omega
          have Q := Lib.hid (isGB_yes (p := p) (l := l) ⟨hp, h24, HOK.out⟩)
          go_wp2_with fail
          go_ret
          exact ⟨by rw [Q.out]; rfl, HA.out.trans (HB.out.mono (by omega))⟩
    · have Q := Lib.hid (isGB_no (p := p) (l := l) fun h => h24 h.2.1)
      have h24' : (24 : Int) < (l.length : Int) := by omega
      go_enter Try.func118, Try.ntmps118
      go_wp2_with fail
      refine (l1In_yes _ _ _ _ hp.1 hp.2).mono ?_
      rintro e w1 ⟨rfl, rfl⟩
      go_wp2_with fail
      go_ret
      exact ⟨by rw [Q.out]; rfl, HA.out⟩
  · have Q := Lib.hid (isGB_no (p := p) (l := l) fun h => hp h.1)
    have HP := Lib.hid (show p < 1 ∨ 8 < p by omega)
    clear hp
    go_enter Try.func118, Try.ntmps118
    go_wp2_with fail
    refine (l1In_no _ _ _ _ HP.out).mono ?_
    rintro e w1 ⟨rfl, rfl⟩
    go_wp2_with fail
    go_ret
    exact ⟨by rw [Q.out]; rfl, HA.out⟩
end Go.Proofs.Ytdkpmaahinbhlaa
/- Words on lists of bars, of no program: counting, putting a bar in its place, and what is reached after some rounds. No condition. -/
namespace Go.Proofs.Ytdkpmaahinbhlaa

theorem take_getD {α : Type} (l : List α) (z : α) (k : Nat) (h : k < l.length) : l.take (k + 1) = l.take k ++ [l.getD k z] := by
  rw [List.take_succ_eq_append_getElem h]
  congr 2
  simp [List.getD, List.getElem?_eq_getElem h]
def rowB (n : Nat) (S : Nat → Bool) : List Bool := (List.range n).map S
theorem rowB_len (n : Nat) (S : Nat → Bool) : (rowB n S).length = n := by simp [rowB]
theorem rowB_get (n : Nat) (S : Nat → Bool) (v : Nat) (h : v < n) : (rowB n S)[v]? = some (S v) := by simp [rowB, h]
/-- How many are reached below p. -/
def cntF (p : Nat) (S : Nat → Bool) : Nat := (List.range p).countP S
theorem cntF_step : ∀ (p : Nat) (S T : Nat → Bool), (∀ v, S v = true → T v = true) → cntF p S ≤ cntF p T ∧ (cntF p T ≤ cntF p S → ∀ v, v < p → T v = S v) := by
  intro p S T h
  induction p with
  | zero => exact ⟨Nat.le_refl _, fun _ v hv => absurd hv (by omega)⟩
  | succ p ih =>
    obtain ⟨i1, i2⟩ := ih
    unfold cntF at *
    rw [List.range_succ, List.countP_append, List.countP_append, List.countP_cons, List.countP_cons, List.countP_nil]
    have hp := h p
    have key : ∀ c : T p = S p, ∀ v, (List.countP T (List.range p) ≤ List.countP S (List.range p)) → v < p + 1 → T v = S v := fun c v hle hv => by
      by_cases e : v = p
      · subst e; exact c
      · exact i2 hle v (by omega)
    cases hs : S p <;> cases ht : T p
    · simp
      exact ⟨i1, fun hle v hv => key (by rw [hs, ht]) v hle hv⟩
    · simp
      exact ⟨by omega, fun hle => by omega⟩
    · rw [hs, ht] at hp; exact absurd (hp rfl) (by decide)
    · simp
      exact ⟨i1, fun hle v hv => key (by rw [hs, ht]) v hle hv⟩
theorem cntF_all : ∀ (p : Nat) (S : Nat → Bool), cntF p S ≤ p ∧ (p ≤ cntF p S → ∀ v, v < p → S v = true) := by
  intro p S
  induction p with
  | zero => exact ⟨Nat.le_refl _, fun _ v hv => absurd hv (by omega)⟩
  | succ p ih =>
    obtain ⟨i1, i2⟩ := ih
    unfold cntF at *
    rw [List.range_succ, List.countP_append, List.countP_cons, List.countP_nil]
    cases hs : S p
    · simp
      exact ⟨by omega, fun hle => by omega⟩
    · simp
      refine ⟨i1, fun hle v hv => ?_⟩
      by_cases e : v = p
      · subst e; exact hs
      · exact i2 hle v (by omega)
theorem cntF_one (p v0 : Nat) (h : v0 < p) : 1 ≤ cntF p (fun v => decide (v = v0)) := by
  unfold cntF
  exact List.countP_pos_iff.2 ⟨v0, List.mem_range.2 h, by simp⟩
/-- The points below n that are reached. -/
def outF (n : Nat) (S : Nat → Bool) : List Int := ((List.range n).filter S).map fun (v : Nat) => (v : Int)
theorem outF_succ (n : Nat) (S : Nat → Bool) : outF (n + 1) S = outF n S ++ if S n then [(n : Int)] else [] := by
  unfold outF
  rw [List.range_succ, List.filter_append, List.map_append]
  cases h : S n <;> simp [h]
theorem outF_agree (n : Nat) (S T : Nat → Bool) (h : ∀ v, v < n → S v = T v) : outF n S = outF n T := by
  unfold outF
  congr 1
  exact List.filter_congr fun v hv => h v (List.mem_range.1 hv)
/-- Behind all that are not greater. -/
def insU (x : Int × Int) : List (Int × Int) → List (Int × Int)
  | [] => [x]
  | y :: t => if aftB y x then y :: insU x t else x :: y :: t
theorem insU_all (x : Int × Int) : ∀ t u : List (Int × Int), (∀ y ∈ t, aftB y x = true) → insU x (t ++ u) = t ++ insU x u := by
  intro t u
  induction t with
  | nil => intro _; rfl
  | cons y t ih =>
    intro h
    rw [List.cons_append, insU, if_pos (h y (List.mem_cons_self ..)), ih fun z hz => h z (List.mem_cons_of_mem _ hz)]
    rfl
theorem insU_some (x : Int × Int) : ∀ t u : List (Int × Int), (∃ y ∈ t, aftB y x = false) → insU x (t ++ u) = insU x t ++ u := by
  intro t u
  induction t with
  | nil => rintro ⟨y, hy, _⟩; cases hy
  | cons y t ih =>
    rintro ⟨z, hz, h⟩
    rw [List.cons_append, insU, insU]
    by_cases c : aftB y x = true
    · rw [if_pos c, if_pos c, ih ?_]
      · rfl
      · rcases List.mem_cons.1 hz with rfl | hz
        · rw [c] at h; cases h
        · exact ⟨z, hz, h⟩
    · rw [if_neg c, if_neg c]
      rfl
/-- The bars stand in their order. -/
def OrdB (l : List (Int × Int)) : Prop := l.Pairwise fun a b => aftB a b = true
theorem aftB_trans {a b c : Int × Int} (h : aftB a b = true) (k : aftB b c = true) : aftB a c = true := by
  simp [aftB] at *
  omega
theorem insU_len (x : Int × Int) : ∀ l : List (Int × Int), (insU x l).length = l.length + 1 := by
  intro l
  induction l with
  | nil => rfl
  | cons y t ih =>
    unfold insU
    split
    · simp [ih]
    · simp
theorem isG_ord {p : Int} {l : List (Int × Int)} (h : IsG p l) : OrdB l := by
  have key : ∀ (d i : Nat), i + d + 1 < l.length → aftB (l.getD i (0, 0)) (l.getD (i + d + 1) (0, 0)) = true := by
    intro d
    induction d with
    | zero =>
      intro i hi
      have := (h.2.2 (i + 1) hi).2.2.2 (by omega)
      simpa using this
    | succ d ih =>
      intro i hi
      refine aftB_trans (ih i (by omega)) ?_
      have := (h.2.2 (i + d + 2) (by omega)).2.2.2 (by omega)
      have e : i + d + 2 - 1 = i + d + 1 := by omega
      rw [e] at this
      exact this
  refine List.pairwise_iff_getElem.2 fun i j hi hj hij => ?_
  have := key (j - i - 1) i (by omega)
  rw [show i + (j - i - 1) + 1 = j by omega] at this
  simpa [List.getD, List.getElem?_eq_getElem hi, List.getElem?_eq_getElem hj] using this
end Go.Proofs.Ytdkpmaahinbhlaa
/- What (Bar).hasEnd answers. No condition. -/
namespace Go.Proofs.Ytdkpmaahinbhlaa
open Go.RowKit

end Go.Proofs.Ytdkpmaahinbhlaa
/- Sets of points as numbers, the bars that they span, and the first set that spans too many: words on lists, of no program. No condition. -/
namespace Go.Proofs.Ytdkpmaahinbhlaa
open Go.RowKit

theorem outF_count (n : Nat) (S : Nat → Bool) : (outF n S).length = (List.range n).countP S := by
  unfold outF
  rw [List.length_map, List.countP_eq_length_filter]
/-- The points of the set m below P. -/
def setL (P m : Nat) : List Int := outF P (fun v => m.testBit v)
def bothB (m : Nat) (x : Int × Int) : Bool := m.testBit x.1.toNat && m.testBit x.2.toNat
/-- How many bars the set m spans. -/
def cntS (l : List (Int × Int)) (m : Nat) : Nat := l.countP (bothB m)
def rangeB (k c : Int) : Bool := decide (1 ≤ k) && decide (k ≤ 3) && decide (0 ≤ c) && decide (c ≤ 2 * k - 1)
/-- Does the set m span too many bars? -/
def badS (l : List (Int × Int)) (k c : Int) (P m : Nat) : Bool := decide (0 < cntS l m) && decide (k * ((setL P m).length : Int) - c < (cntS l m : Int))
/-- Numbers of 64 bits. -/
def Wf (x : Int) : Prop := (Lit.int .i64 x).wf = true
def WfB (l : List (Int × Int)) : Prop := ∀ k, k < l.length → Wf (l.getD k (0, 0)).1 ∧ Wf (l.getD k (0, 0)).2
def WfI (zs : List Int) : Prop := ∀ k, k < zs.length → Wf (zs.getD k 0)
end Go.Proofs.Ytdkpmaahinbhlaa
/- A graph that a law is handed by value, opened, with the bounds of its bars' ends; a row of ints with the bounds of its elements. No condition. -/
namespace Go.Proofs.Ytdkpmaahinbhlaa
open Go.RowKit Go.Joins Go.ChangeShapes Go.WideShapes Go.Deep

section
variable {H : Type} {enc : TypeId × Value → H} {w : World} {base : Nat}

end
end Go.Proofs.Ytdkpmaahinbhlaa
/- What spec.l3Set answers. No condition. -/
namespace Go.Proofs.Ytdkpmaahinbhlaa
open Go.RowKit

/-- A row of ints of the call's own that grows. -/
def GrowI (w wr : World) (zs : List Int) (v : Value) : Prop :=
  wr.ownsRow w.heap.size 3 1 v zs.length (intCells zs) ∧ Below w.heap.size w wr
theorem GrowI.nil (w wr : World) (h : Below w.heap.size w wr) : GrowI w wr [] (.slice none 0 0) := ⟨World.ownsRow_nil _ _ _ _, h⟩

end Go.Proofs.Ytdkpmaahinbhlaa
/- Graphs of fewer bars; sets of points that span too many. Words on lists, of no program. No condition. -/
namespace Go.Proofs.Ytdkpmaahinbhlaa
theorem isG_ofB {p : Int} {l : List (Int × Int)} (hp : 1 ≤ p ∧ p ≤ 8) (hl : l.length ≤ 24) (hb : ∀ x ∈ l, 0 ≤ x.1 ∧ x.1 < x.2 ∧ x.2 < p) (ho : OrdB l) : IsG p l := by
  refine ⟨hp, hl, fun i hi => ?_⟩
  have hg : l.getD i (0, 0) = l[i] := by simp [List.getD, List.getElem?_eq_getElem hi]
  have hm := hb l[i] (List.getElem_mem hi)
  unfold OkBar
  rw [hg]
  refine ⟨hm.1, hm.2.1, hm.2.2, fun h0 => ?_⟩
  have hi' : i - 1 < l.length := by omega
  have hg' : l.getD (i - 1) (0, 0) = l[i - 1] := by simp [List.getD, List.getElem?_eq_getElem hi']
  rw [hg']
  exact List.pairwise_iff_getElem.1 ho (i - 1) i hi' hi (by omega)
theorem bad_sub {l l' : List (Int × Int)} {k c : Int} {P m : Nat} (hs : l'.Sublist l) (h : badS l k c P m = false) : badS l' k c P m = false := by
  have hc : cntS l' m ≤ cntS l m := hs.countP_le
  unfold badS at *
  simp only [Bool.and_eq_false_iff, decide_eq_false_iff_not] at *
  omega
end Go.Proofs.Ytdkpmaahinbhlaa
/- What IsRange answers, the specification's and the program's. No condition. -/
namespace Go.Proofs.Ytdkpmaahinbhlaa
open Go.RowKit

set_option maxRecDepth 100000 in
theorem implRange (k c : Int) (w : World) :
    Calls Try.prog 108 #[.int .i64 k, .int .i64 c] w fun e w' => e = .returned (.bool (rangeB k c)) ∧ w = w' := by
  by_cases h1 : 1 ≤ k
  · by_cases h2 : k ≤ 3
    · by_cases h3 : 0 ≤ c
      · by_cases h4 : c ≤ 2 * k - 1
        all_goals
          have HR := Lib.hid (show rangeB k c = decide (c ≤ 2 * k - 1) by simp [rangeB, h1, h2, h3])
          rw [show decide (c ≤ 2 * k - 1) = _ from by first | exact decide_eq_true h4 | exact decide_eq_false h4] at HR
          go_enter Try.func108, Try.ntmps108
          go_wp2
          go_ret
          exact ⟨by rw [HR.out]; try simp [*], rfl⟩
      · have HR := Lib.hid (show rangeB k c = false by simp [rangeB, h3])
        go_enter Try.func108, Try.ntmps108
        go_wp2
        go_ret
        exact ⟨by rw [HR.out]; try simp [*], rfl⟩
    · have HR := Lib.hid (show rangeB k c = false by simp [rangeB, h2])
      go_enter Try.func108, Try.ntmps108
      go_wp2
      go_ret
      exact ⟨by rw [HR.out]; try simp [*], rfl⟩
  · have HR := Lib.hid (show rangeB k c = false by simp [rangeB, h1])
    go_enter Try.func108, Try.ntmps108
    go_wp2
    go_ret
    exact ⟨by rw [HR.out]; try simp [*], rfl⟩

set_option maxRecDepth 100000 in
theorem specRange (k c : Int) (w : World) :
    Calls Try.prog 110 #[.int .i64 k, .int .i64 c] w fun e w' => e = .returned (.bool (rangeB k c)) ∧ w = w' := by
  by_cases h1 : 1 ≤ k
  · by_cases h2 : k ≤ 3
    · by_cases h3 : 0 ≤ c
      · by_cases h4 : c < 2 * k
        all_goals
          have HR := Lib.hid (show rangeB k c = decide (c < 2 * k) by simp [rangeB, h1, h2, h3]; omega)
          rw [show decide (c < 2 * k) = _ from by first | exact decide_eq_true h4 | exact decide_eq_false h4] at HR
          go_enter Try.func110, Try.ntmps110
          go_wp2
          go_ret
          exact ⟨by rw [HR.out]; try simp [*], rfl⟩
      · have HR := Lib.hid (show rangeB k c = false by simp [rangeB, h3])
        go_enter Try.func110, Try.ntmps110
        go_wp2
        go_ret
        exact ⟨by rw [HR.out]; try simp [*], rfl⟩
    · have HR := Lib.hid (show rangeB k c = false by simp [rangeB, h2])
      go_enter Try.func110, Try.ntmps110
      go_wp2
      go_ret
      exact ⟨by rw [HR.out]; try simp [*], rfl⟩
  · have HR := Lib.hid (show rangeB k c = false by simp [rangeB, h1])
    go_enter Try.func110, Try.ntmps110
    go_wp2
    go_ret
    exact ⟨by rw [HR.out]; try simp [*], rfl⟩

end Go.Proofs.Ytdkpmaahinbhlaa
/- A state of the pebble game by value: three rows of ints; how a law's argument is opened. No condition. -/
namespace Go.Proofs.Ytdkpmaahinbhlaa
open Go.RowKit Go.Joins Go.ChangeShapes Go.WideShapes Go.Deep

abbrev pebV (AF : Option Addr) (f cF : Nat) (AT : Option Addr) (t cT : Nat) (AZ : Option Addr) (z cZ : Nat) : Value := .agg #[.slice AF f cF, .slice AT t cT, .slice AZ z cZ]
/-- A state that is read: its rows lie in blocks from lo to hi. -/
structure Peb3 (W : World) (lo hi : Nat) (AF AT AZ : Option Addr) (F T Z : List Int) : Prop where
  f : IntsIn W lo hi AF F
  t : IntsIn W lo hi AT T
  z : IntsIn W lo hi AZ Z
theorem Peb3.within {W W' : World} {lo hi lo' hi' : Nat} {AF AT AZ : Option Addr} {F T Z : List Int} (h : Peb3 W lo hi AF AT AZ F T Z) (hw : Within lo' hi' W W') (hd : hi ≤ lo' ∨ hi' ≤ lo) : Peb3 W' lo hi AF AT AZ F T Z :=
  ⟨h.f.within hw hd, h.t.within hw hd, h.z.within hw hd⟩
theorem IntsIn.widen {W : World} {lo hi lo' hi' : Nat} {A : Option Addr} {zs : List Int} (h : IntsIn W lo hi A zs) (h1 : lo' ≤ lo) (h2 : hi ≤ hi') (h3 : hi' ≤ W.heap.size) : IntsIn W lo' hi' A zs :=
  ⟨h3, fun hl => by
    obtain ⟨b, off, e, g1, g2, hc⟩ := h.2 hl
    exact ⟨b, off, e, by omega, by omega, hc⟩⟩
def Dis (a b : Nat × Nat) : Prop := a.2 ≤ b.1 ∨ b.2 ≤ a.1
/-- A state of the call's own: three rows in blocks of their own, between lo and hi. -/
def Own3 (W : World) (lo hi : Nat) (AF : Option Addr) (cF : Nat) (AT : Option Addr) (cT : Nat) (AZ : Option Addr) (cZ : Nat) (F T Z : List Int) : Prop :=
  ∃ f t z : Nat × Nat, OwnInts W f.1 f.2 AF cF F ∧ OwnInts W t.1 t.2 AT cT T ∧ OwnInts W z.1 z.2 AZ cZ Z ∧ Dis f t ∧ Dis f z ∧ Dis t z ∧ (lo ≤ f.1 ∧ f.2 ≤ hi) ∧ (lo ≤ t.1 ∧ t.2 ≤ hi) ∧ (lo ≤ z.1 ∧ z.2 ≤ hi) ∧ hi ≤ W.heap.size
theorem Own3.within {W W' : World} {lo hi lo' hi' : Nat} {AF AT AZ : Option Addr} {cF cT cZ : Nat} {F T Z : List Int} (h : Own3 W lo hi AF cF AT cT AZ cZ F T Z) (hw : Within lo' hi' W W') (hd : hi ≤ lo' ∨ hi' ≤ lo) : Own3 W' lo hi AF cF AT cT AZ cZ F T Z := by
  obtain ⟨f, t, z, h1, h2, h3, d1, d2, d3, b1, b2, b3, h4⟩ := h
  exact ⟨f, t, z, h1.within hw (by omega), h2.within hw (by omega), h3.within hw (by omega), d1, d2, d3, b1, b2, b3, Nat.le_trans h4 hw.size⟩
theorem Own3.reads {W : World} {lo hi : Nat} {AF AT AZ : Option Addr} {cF cT cZ : Nat} {F T Z : List Int} (h : Own3 W lo hi AF cF AT cT AZ cZ F T Z) : Peb3 W lo hi AF AT AZ F T Z := by
  obtain ⟨f, t, z, h1, h2, h3, _, _, _, b1, b2, b3, h4⟩ := h
  exact ⟨h1.reads.widen b1.1 b1.2 h4, h2.reads.widen b2.1 b2.2 h4, h3.reads.widen b3.1 b3.2 h4⟩
theorem Own3.widen {W : World} {lo hi lo' hi' : Nat} {AF AT AZ : Option Addr} {cF cT cZ : Nat} {F T Z : List Int} (h : Own3 W lo hi AF cF AT cT AZ cZ F T Z) (h1 : lo' ≤ lo) (h2 : hi ≤ hi') (h3 : hi' ≤ W.heap.size) : Own3 W lo' hi' AF cF AT cT AZ cZ F T Z := by
  obtain ⟨f, t, z, g1, g2, g3, d1, d2, d3, b1, b2, b3, _⟩ := h
  exact ⟨f, t, z, g1, g2, g3, d1, d2, d3, by omega, by omega, by omega, h3⟩

section
variable {H : Type} {enc : TypeId × Value → H} {w : World} {base : Nat}
end
end Go.Proofs.Ytdkpmaahinbhlaa
/- How the laws copy a state of the pebble game. No condition. -/
namespace Go.Proofs.Ytdkpmaahinbhlaa
open Go.RowKit

end Go.Proofs.Ytdkpmaahinbhlaa
/- How the laws compare, mark and measure a state of the pebble game. No condition. -/
namespace Go.Proofs.Ytdkpmaahinbhlaa
open Go.RowKit

end Go.Proofs.Ytdkpmaahinbhlaa
/- What the library's cmp.Compare and cmp.Or and the program's Bar.compare answer. No condition. -/
namespace Go.Proofs.Ytdkpmaahinbhlaa
open Go.RowKit

def cmpI (a b : Int) : Int := if a < b then -1 else if b < a then 1 else 0
def orI (a b : Int) : Int := if a = 0 then b else a
def cmpB (x y : Int × Int) : Int := orI (cmpI x.1 y.1) (cmpI x.2 y.2)
theorem cmpB_neg (x y : Int × Int) : cmpB x y < 0 ↔ aftB y x = false := by
  obtain ⟨a, b⟩ := x
  obtain ⟨c, d⟩ := y
  simp only [cmpB, orI, cmpI, aftB, decide_eq_false_iff_not]
  repeat' split
  all_goals omega
theorem isNaN_c (a : Int) (w : World) :
    Calls Try.prog 234 #[.int .i64 a] w fun e w' => e = .returned (.bool false) ∧ w' = w := by
  go_enter Try.func234, Try.ntmps234
  go_wp2
  go_ret
  exact ⟨by simp, rfl⟩

theorem compare_i (a b : Int) (w : World) :
    Calls Try.prog 231 #[.int .i64 a, .int .i64 b] w fun e w' => e = .returned (.int .i64 (cmpI a b)) ∧ w' = w := by
  by_cases h1 : a < b
  · have h2 : ¬ b < a := by omega
    have HC := Lib.hid (show cmpI a b = -1 by simp [cmpI, h1])
    go_enter Try.func231, Try.ntmps231
    go_wp2_with fail
    refine (isNaN_c a _).mono ?_
    rintro e w1 ⟨rfl, rfl⟩
    go_wp2_with fail
    refine (isNaN_c b _).mono ?_
    rintro e w1 ⟨rfl, rfl⟩
    go_wp2_with fail
    go_ret
    exact ⟨by rw [HC.out]; rfl, rfl⟩
  · by_cases h2 : b < a
    · have HC := Lib.hid (show cmpI a b = 1 by simp [cmpI, h1, h2])
      go_enter Try.func231, Try.ntmps231
      go_wp2_with fail
      refine (isNaN_c a _).mono ?_
      rintro e w1 ⟨rfl, rfl⟩
      go_wp2_with fail
      refine (isNaN_c b _).mono ?_
      rintro e w1 ⟨rfl, rfl⟩
      go_wp2_with fail
      go_ret
      exact ⟨by rw [HC.out]; rfl, rfl⟩
    · have HC := Lib.hid (show cmpI a b = 0 by simp [cmpI, h1, h2])
      go_enter Try.func231, Try.ntmps231
      go_wp2_with fail
      refine (isNaN_c a _).mono ?_
      rintro e w1 ⟨rfl, rfl⟩
      go_wp2_with fail
      refine (isNaN_c b _).mono ?_
      rintro e w1 ⟨rfl, rfl⟩
      go_wp2_with fail
      go_ret
      exact ⟨by rw [HC.out]; rfl, rfl⟩

theorem or_c (x y : Int) (g : Nat) (w : World) (h0 : w.cell? ⟨g, 0, none⟩ = some (.int .i64 x)) (h1 : w.cell? ⟨g, 1, none⟩ = some (.int .i64 y)) :
    Calls Try.prog 230 #[.slice (some ⟨g, 0, none⟩) 2 2] w fun e w' => e = .returned (.int .i64 (orI x y)) ∧ w' = w := by
  by_cases hx : x = 0
  · by_cases hy : y = 0
    · have HC := Lib.hid (show orI x y = 0 by simp [orI, hx, hy])
      subst hx hy
      go_enter Try.func230, Try.ntmps230
      go_wp2_with fail
      refine wp_loop_rounds 3 ?_
      rw [rounds_succ]
      go_wp2_with fail
      rw [rounds_succ]
      go_wp2_with fail
      rw [rounds_succ]
      go_wp2_with fail
      go_ret
      exact ⟨by rw [HC.out]; rfl, rfl⟩
    · have HC := Lib.hid (show orI x y = y by simp [orI, hx])
      have hy' : (y != 0) = true := by simpa using hy
      subst hx
      go_enter Try.func230, Try.ntmps230
      go_wp2_with fail
      refine wp_loop_rounds 3 ?_
      rw [rounds_succ]
      go_wp2_with fail
      rw [rounds_succ]
      go_wp2_with fail
      go_ret
      exact ⟨by rw [HC.out]; rfl, rfl⟩
  · have HC := Lib.hid (show orI x y = x by simp [orI, hx])
    have hx' : (x != 0) = true := by simpa using hx
    go_enter Try.func230, Try.ntmps230
    go_wp2_with fail
    refine wp_loop_rounds 3 ?_
    rw [rounds_succ]
    go_wp2_with fail
    go_ret
    exact ⟨by rw [HC.out]; rfl, rfl⟩

set_option maxHeartbeats 1000000 in
set_option maxRecDepth 100000 in
theorem compare_b (x y : Int × Int) (w : World) :
    Calls Try.prog 196 #[.agg #[.int .i64 x.1, .int .i64 x.2], .agg #[.int .i64 y.1, .int .i64 y.2]] w fun e w' => e = .returned (.int .i64 (cmpB x y)) ∧ Below w.heap.size w w' := by
  obtain ⟨a, b⟩ := x
  obtain ⟨c, d⟩ := y
  have HC := Lib.hid (show cmpB (a, b) (c, d) = orI (cmpI a c) (cmpI b d) from rfl)
  have hA1 := new_below w (.cells #[.int .i64 a, .int .i64 b] 108)
  have hA2 := new_below (w.alloc (.cells #[.int .i64 a, .int .i64 b] 108)) (.cells #[.int .i64 c, .int .i64 d] 108)
  have HA := Lib.hid (below_on hA1 hA2 hA1.size)
  have HX := Lib.hid ((box_new w a (.int .i64 b) 108).kept hA2)
  have hY := box_new (w.alloc (.cells #[.int .i64 a, .int .i64 b] 108)) c (.int .i64 d) 108
  rw [show (w.alloc (.cells #[.int .i64 a, .int .i64 b] 108)).heap.size = w.heap.size + 1 by simp] at hY
  have HY := Lib.hid hY
  clear hA1 hA2 hY
  go_enter Try.func196, Try.ntmps196
  go_wp2_with fail
  generalize ((w.alloc (.cells #[.int .i64 a, .int .i64 b] 108)).alloc (.cells #[.int .i64 c, .int .i64 d] 108)) = w2 at *
  obtain ⟨_, g1, g2⟩ := HX.out
  obtain ⟨_, g3, g4⟩ := HY.out
  go_still_tail 10, (by kernel_rfl)
  still_call (compare_i _ _ _)
  repeat still_step
  still_call (compare_i _ _ _)
  refine wpStill_nil ?_
  change wpList _ _ _ _ _ w2.drew
  have HD := Lib.hid (HA.out.drew)
  have hds : w.heap.size ≤ w2.drew.heap.size := HA.out.size
  clear g1 g2 g3 g4
  generalize w2.drew = w3 at *
  go_wp2_with fail
  refine (or_c (cmpI a c) (cmpI b d) w3.heap.size _ (by rw [World.cell?_alloc_at _ _ _ _ rfl]; rfl) (by rw [World.cell?_alloc_at _ _ _ _ rfl]; rfl)).mono ?_
  rintro e w4 ⟨rfl, rfl⟩
  go_wp2_with fail
  go_ret
  exact ⟨by rw [HC.out]; rfl, HD.out.alloc hds _⟩
end Go.Proofs.Ytdkpmaahinbhlaa
/- What the library's slices.IsSortedFunc answers of bars. No condition. -/
namespace Go.Proofs.Ytdkpmaahinbhlaa
open Go.RowKit

/-- Each bar but the first stands behind or beside the one before it. -/
def Srt (l : List (Int × Int)) : Prop := ∀ j : Nat, 0 < j → j < l.length → aftB (l.getD (j - 1) (0, 0)) (l.getD j (0, 0)) = true
open Classical in
noncomputable def sortedB (l : List (Int × Int)) : Bool := if Srt l then true else false
theorem sortedB_yes {l : List (Int × Int)} (h : Srt l) : sortedB l = true := by unfold sortedB; rw [if_pos h]
theorem sortedB_no {l : List (Int × Int)} (h : ¬ Srt l) : sortedB l = false := by unfold sortedB; rw [if_neg h]

set_option maxHeartbeats 1000000 in
set_option maxRecDepth 100000 in
theorem sorted_c (l : List (Int × Int)) (A : Option Addr) (cap : Nat) (w : World) (hl : BarsAt w w.heap.size A l) (hn : l.length ≤ 24) :
    Calls Try.prog 195 #[.slice A l.length cap, .func (.func 196) #[] #[]] w fun e w' => e = .returned (.bool (sortedB l)) ∧ Below w.heap.size w w' := by
  have HL := Lib.hid hl
  clear hl
  go_enter Try.func195, Try.ntmps195
  go_wp2_with fail
  go_loopw [5] (fun i wr => ∃ v : Int, i = .int .i64 v ∧ -1 ≤ v ∧ v < (l.length : Int) ∧ (∀ j : Nat, v < (j : Int) → 0 < j → j < l.length → aftB (l.getD (j - 1) (0, 0)) (l.getD j (0, 0)) = true) ∧ Below w.heap.size w wr) (fun i _ => (intOf i).toNat)
  case atStart => exact ⟨(l.length : Int) - 1, by go_num, by omega, by omega, fun j h1 _ h2 => by omega, Below.refl _ _⟩
  case round =>
    obtain ⟨v, rfl, hv1, hv2, hall, hb⟩ := hrel
    have HB := Lib.hid hb
    have HALL := Lib.hid hall
    have hbs := hb.size
    clear hb hall
    by_cases hv : 0 < v
    · obtain ⟨k, rfl⟩ : ∃ k : Nat, v = (k : Int) + 1 := ⟨(v - 1).toNat, by omega⟩
      obtain ⟨b, off, rfl, hbB, hcell⟩ := HL.out (by omega)
      have hc1 := (HB.out.cell (p := ⟨b, off + (k + 1) * 2, none⟩) hbB).trans (hcell (k + 1) (by omega)).1
      have hc2 := (HB.out.cell (p := ⟨b, off + (k + 1) * 2 + 1, none⟩) hbB).trans (hcell (k + 1) (by omega)).2
      have hc3 := (HB.out.cell (p := ⟨b, off + k * 2, none⟩) hbB).trans (hcell k (by omega)).1
      have hc4 := (HB.out.cell (p := ⟨b, off + k * 2 + 1, none⟩) hbB).trans (hcell k (by omega)).2
      have HS := Lib.hid (fun (h : aftB (l.getD k (0, 0)) (l.getD (k + 1) (0, 0)) = true) (j : Nat) (h1 : (k : Int) < (j : Int)) (h2 : 0 < j) (h3 : j < l.length) => (if e : j = k + 1 then by subst e; exact h else HALL.out j (by omega) h2 h3 : aftB (l.getD (j - 1) (0, 0)) (l.getD j (0, 0)) = true))
      have HN := Lib.hid (fun h : Srt l => h (k + 1) (by omega) (by omega))
      clear hcell
      obtain ⟨x, hx⟩ : ∃ x, l.getD (k + 1) (0, 0) = x := ⟨_, rfl⟩
      obtain ⟨y, hy⟩ : ∃ y, l.getD k (0, 0) = y := ⟨_, rfl⟩
      rw [hx] at hc1 hc2
      rw [hy] at hc3 hc4
      have HSY := Lib.hid (show aftB y x = true → _ from fun h => HS.out (by rw [hx, hy]; exact h))
      have HNY := Lib.hid (show aftB y x = false → ¬ Srt l from fun h k' => by
        have := HN.out k'
        rw [Nat.add_sub_cancel, hx, hy, h] at this
        cases this)
      have HCB := Lib.hid (cmpB_neg x y)
      clear HS HN hx hy
      have hk1 : (0 : Int) ≤ (k : Int) + 1 := by omega
      have htn : ((k : Int) + 1).toNat = k + 1 := by omega
      have hk2 : (k : Int) < (l.length : Int) := by omega
      have hwr : IntKind.i64.wrap (k : Int) = (k : Int) := IntWalk.i64_in _ (by omega)
      obtain ⟨x1, x2⟩ := x
      obtain ⟨y1, y2⟩ := y
      simp only at hc1 hc2 hc3 hc4
      go_wp2_with fail
      go_still_tail 10, (by kernel_rfl)
      change wpList _ _ _ _ _ wr.drew
      have HD := Lib.hid (HB.out.drew)
      have hds : w.heap.size ≤ wr.drew.heap.size := hbs
      clear hc1 hc2 hc3 hc4
      generalize wr.drew = w2 at *
      go_wp2_with fail
      refine (compare_b (x1, x2) (y1, y2) _).mono ?_
      rintro e w3 ⟨rfl, hb3⟩
      have HB3 := Lib.hid (HD.out.trans (hb3.mono hds))
      clear hb3
      by_cases ha : aftB (y1, y2) (x1, x2) = true
      · have hlt : ¬ cmpB (x1, x2) (y1, y2) < 0 := fun h => by have := HCB.out.1 h; rw [this] at ha; cases ha
        have HH := Lib.hid (HSY.out ha)
        clear ha
        go_wp2_with fail
        go_roundw
        case rel => exact ⟨(k : Int), by go_num, by omega, by omega, HH.out, HB3.out⟩
        case measure => simp [intOf] <;> omega
      · have ha' : aftB (y1, y2) (x1, x2) = false := by simpa using ha
        have hlt : cmpB (x1, x2) (y1, y2) < 0 := HCB.out.2 ha'
        have HH := Lib.hid (sortedB_no (HNY.out ha'))
        clear ha ha'
        go_wp2_with fail
        go_ret
        exact ⟨by rw [HH.out]; rfl, HB3.out⟩
    · have HH := Lib.hid (sortedB_yes (l := l) fun j h1 h2 => HALL.out j (by omega) h1 h2)
      go_wp2_with fail
      go_ret
      exact ⟨by rw [HH.out]; rfl, HB.out⟩
end Go.Proofs.Ytdkpmaahinbhlaa
/- What the program's IsGraph answers: the same as the specification's. No condition. -/
namespace Go.Proofs.Ytdkpmaahinbhlaa
open Go.RowKit

theorem specIsGraph' (p : Int) (l : List (Int × Int)) (A : Option Addr) (cap : Nat) (w : World) (hl : BarsAt w w.heap.size A l) (hn : l.length ≤ 1048576) :
    Calls Try.prog 118 #[.agg #[.int .i64 p, .slice A l.length cap]] w fun e w' => e = .returned (.bool (isGB p l)) ∧ Below w.heap.size w w' := specIsGraph p l A cap w hl (by omega)

/-- A bar's ends are in order and below p. -/
def EndsOk (p : Int) (l : List (Int × Int)) (k : Nat) : Prop := 0 ≤ (l.getD k (0, 0)).1 ∧ (l.getD k (0, 0)).1 < (l.getD k (0, 0)).2 ∧ (l.getD k (0, 0)).2 < p
theorem isG_of {p : Int} {l : List (Int × Int)} (hp : 1 ≤ p ∧ p ≤ 8) (h24 : l.length ≤ 24) (he : ∀ k, k < l.length → EndsOk p l k) (hs : Srt l) : IsG p l :=
  ⟨hp, h24, fun i hi => ⟨(he i hi).1, (he i hi).2.1, (he i hi).2.2, fun h0 => hs i h0 hi⟩⟩
theorem srt_of {p : Int} {l : List (Int × Int)} (h : IsG p l) : Srt l := fun j h0 hj => (h.2.2 j hj).2.2.2 h0

set_option maxHeartbeats 2000000 in
set_option maxRecDepth 100000 in
theorem implIsGraph (p : Int) (l : List (Int × Int)) (A : Option Addr) (cap : Nat) (w : World) (hl : BarsAt w w.heap.size A l) (hn : l.length ≤ 1048576) :
    Calls Try.prog 130 #[.agg #[.int .i64 p, .slice A l.length cap]] w fun e w' => e = .returned (.bool (isGB p l)) ∧ Below w.heap.size w w' := by
  have hA := new_below w (.cells #[.int .i64 p, .slice A l.length cap] 26)
  have HA := Lib.hid hA
  have HL := Lib.hid (hl.on hA)
  have BX := Lib.hid (box_new w p (.slice A l.length cap) 26)
  clear hl hA
  by_cases hp : 1 ≤ p ∧ p ≤ 8
  · by_cases h24 : l.length ≤ 24
    · obtain ⟨hp1, hp2⟩ := hp
      have d1 : ¬ p < 1 := by omega
      have d2 : ¬ 8 < p := by omega
      have d3 : ¬ (24 : Int) < (l.length : Int) := by omega
      go_enter Try.func130, Try.ntmps130
      go_wp2_with fail
      generalize (w.alloc (.cells #[.int .i64 p, .slice A l.length cap] 26)) = w0 at *
      go_loopw [22] (fun i wr => ∃ k : Nat, k ≤ l.length ∧ i = .int .i64 k ∧ (∀ j, j < k → EndsOk p l j) ∧ Below w0.heap.size w0 wr) (fun i _ => l.length - (intOf i).toNat)
      case atStart => exact ⟨0, by omega, rfl, fun j hj => absurd hj (by omega), Below.refl _ _⟩
      case round =>
        obtain ⟨k, hk, rfl, hok, hb⟩ := hrel
        have BX1 := Lib.hid (BX.out.kept hb)
        have HB := Lib.hid hb
        have HOK := Lib.hid hok
        have hbs := hb.size
        clear hb hok
        by_cases hlt : k < l.length
        · have hi : (k : Int) < (l.length : Int) := by omega
          obtain ⟨b, off, rfl, hbB, hcell⟩ := HL.out (by omega)
          have hc1 := (HB.out.cell (p := ⟨b, off + k * 2, none⟩) hbB).trans (hcell k hlt).1
          have hc2 := (HB.out.cell (p := ⟨b, off + k * 2 + 1, none⟩) hbB).trans (hcell k hlt).2
          have HSTEP := Lib.hid (show EndsOk p l k → ∀ j, j < k + 1 → EndsOk p l j from fun h j hj => by
            by_cases e : j = k
            · subst e; exact h
            · exact HOK.out j (by omega))
          have HNOT := Lib.hid (show ¬ EndsOk p l k → isGB p l = false from fun h => isGB_no fun g => h ⟨(g.2.2 k hlt).1, (g.2.2 k hlt).2.1, (g.2.2 k hlt).2.2.1⟩)
          have HDEF := Lib.hid (show EndsOk p l k = (0 ≤ (l.getD k (0, 0)).1 ∧ (l.getD k (0, 0)).1 < (l.getD k (0, 0)).2 ∧ (l.getD k (0, 0)).2 < p) from rfl)
          obtain ⟨x, hx⟩ : ∃ x, l.getD k (0, 0) = x := ⟨_, rfl⟩
          rw [hx] at hc1 hc2 HDEF
          clear hx hcell
          obtain ⟨x1, x2⟩ := x
          simp only at hc1 hc2 HDEF
          have hal := new_below wr (.cells #[.int .i64 x1, .int .i64 x2] 108)
          have BX2 := Lib.hid (BX1.out.kept hal)
          have HX2 := Lib.hid (box_new wr x1 (.int .i64 x2) 108)
          have HB2 := Lib.hid (below_on HB.out hal hbs)
          clear hal
          obtain ⟨_, g2, g3⟩ := BX2.out
          by_cases c1 : x1 < 0
          · have Q := Lib.hid (HNOT.out (by rw [HDEF.out]; omega))
            go_wp2_with fail
            go_ret
            exact ⟨by rw [Q.out]; rfl, below_on HA.out HB2.out HA.out.size⟩
          · by_cases c2 : x2 ≤ x1
            · have Q := Lib.hid (HNOT.out (by rw [HDEF.out]; omega))
              go_wp2_with fail
              go_ret
              exact ⟨by rw [Q.out]; rfl, below_on HA.out HB2.out HA.out.size⟩
            · by_cases c3 : p ≤ x2
              · have Q := Lib.hid (HNOT.out (by rw [HDEF.out]; omega))
                go_wp2_with fail
                go_ret
                exact ⟨by rw [Q.out]; rfl, below_on HA.out HB2.out HA.out.size⟩
              · have HS := Lib.hid (HSTEP.out (by rw [HDEF.out]; omega))
                go_wp2_with fail
                go_roundw
                case rel => exact ⟨k + 1, by omega, by go_num, HS.out, HB2.out⟩
                case measure => simp [intOf]; omega
        · obtain rfl : k = l.length := by omega
          have HQ := Lib.hid (show isGB p l = sortedB l by
            by_cases h : Srt l
            · rw [sortedB_yes h, isGB_yes (isG_of ⟨hp1, hp2⟩ h24 HOK.out h)]
            · rw [sortedB_no h, isGB_no fun g => h (srt_of g)])
          obtain ⟨_, g2, g3⟩ := BX1.out
          go_wp2_with fail
          clear g2 g3
          refine (sorted_c l A cap _ (HL.out.on HB.out) h24).mono ?_
          rintro e w3 ⟨rfl, hb3⟩
          have HB3 := Lib.hid (below_on (below_on HA.out HB.out HA.out.size) hb3 (Nat.le_trans HA.out.size hbs))
          clear hb3
          go_wp2_with fail
          go_ret
          exact ⟨by rw [HQ.out]; rfl, HB3.out⟩
    · obtain ⟨hp1, hp2⟩ := hp
      have d1 : ¬ p < 1 := by omega
      have d2 : ¬ 8 < p := by omega
      have d3 : (24 : Int) < (l.length : Int) := by omega
      have Q := Lib.hid (isGB_no (p := p) (l := l) fun g => h24 g.2.1)
      go_enter Try.func130, Try.ntmps130
      go_wp2_with fail
      go_ret
      exact ⟨by rw [Q.out]; rfl, HA.out⟩
  · have Q := Lib.hid (isGB_no (p := p) (l := l) fun g => hp g.1)
    by_cases d1 : p < 1
    · clear hp
      go_enter Try.func130, Try.ntmps130
      go_wp2_with fail
      go_ret
      exact ⟨by rw [Q.out]; rfl, HA.out⟩
    · have d2 : 8 < p := by omega
      clear hp
      go_enter Try.func130, Try.ntmps130
      go_wp2_with fail
      go_ret
      exact ⟨by rw [Q.out]; rfl, HA.out⟩
end Go.Proofs.Ytdkpmaahinbhlaa
/- What ReachOf answers, and what stands while it is sought; rows of bools. No program's walk. No condition. -/
namespace Go.Proofs.Ytdkpmaahinbhlaa
open Go.RowKit

theorem infoBool : (Try.prog.info? 4).map (fun i => (i.zero, i.size, i.bytes)) = some (some (.bool false), 1, 1) := by kernel_rfl
def boolCells (n : Nat) (S : Nat → Bool) : List Value := (rowB n S).map Value.bool
theorem boolCells_none (n : Nat) : List.replicate n (Value.bool false) = boolCells n (fun _ => false) := by
  apply List.ext_getElem?
  intro i
  by_cases hi : i < n
  · simp [boolCells, rowB, hi]
  · rw [List.getElem?_eq_none (by simp; omega), List.getElem?_eq_none (by simp [boolCells, rowB]; omega)]
theorem boolCells_get (n : Nat) (S : Nat → Bool) (v : Nat) (h : v < n) : (boolCells n S)[v]? = some (.bool (S v)) := by
  unfold boolCells
  rw [List.getElem?_map, rowB_get n S v h]
  rfl
/-- Where the walk of spec.ReachOf stands: the row of what is reached, the empty row of answers, the graph in its box. -/
def ReachSt (w wr : World) (P : Nat) (n : Nat) (A : Option Addr) (cap gs : Nat) (S : Nat → Bool) : Prop :=
  wr.ownsRow w.heap.size 4 1 (.slice (some ⟨gs, 0, none⟩) P P) P (boolCells P S) ∧ Box wr w.heap.size (P : Int) (.slice A n cap) ∧ wr.ownsRow w.heap.size 3 1 (.slice (some ⟨w.heap.size + 1, 0, none⟩) 0 0) 0 [] ∧ Below w.heap.size w wr ∧ w.heap.size + 1 < gs
theorem ReachSt.set {w wr : World} {P n : Nat} {A : Option Addr} {cap gs : Nat} {S S' : Nat → Bool} (h : ReachSt w wr P n A cap gs S) (a b : Nat) (u u' : Value) (hs : ((boolCells P S).set a u).set b u' = boolCells P S') : ReachSt w ((wr.setCell ⟨gs, a, none⟩ u).setCell ⟨gs, b, none⟩ u') P n A cap gs S' := by
  obtain ⟨h1, h2, h3, h4, h5⟩ := h
  have s1 := h1.stored a u
  have s2 := s1.1.stored b u'
  have hg := s1.2.trans_ s2.2
  rw [hs] at s2
  have hlt := h1.lt gs rfl
  exact ⟨s2.1, h2.grown hg (by omega), h3.kept hg (.inr (by simp [Value.ownBlock]; omega)), h4.grown hg (Nat.le_trans h4.size (Nat.le_refl _)) (fun k hk => by cases hk; exact hlt.1), h5⟩

theorem ReachSt.set1 {w wr : World} {P n : Nat} {A : Option Addr} {cap gs : Nat} {S S' : Nat → Bool} (h : ReachSt w wr P n A cap gs S) (a : Nat) (u : Value) (hs : (boolCells P S).set a u = boolCells P S') : ReachSt w (wr.setCell ⟨gs, a, none⟩ u) P n A cap gs S' := by
  obtain ⟨h1, h2, h3, h4, h5⟩ := h
  have s1 := h1.stored a u
  rw [hs] at s1
  have hlt := h1.lt gs rfl
  exact ⟨s1.1, h2.grown s1.2 (by omega), h3.kept s1.2 (.inr (by simp [Value.ownBlock]; omega)), h4.grown s1.2 (Nat.le_trans h4.size (Nat.le_refl _)) (fun k hk => by cases hk; exact hlt.1), h5⟩
theorem ReachSt.start {w w2 w3 : World} {P n : Nat} {A : Option Addr} {cap : Nat} (hb : Below w.heap.size w w2) (hx : Box w2 w.heap.size (P : Int) (.slice A n cap)) (ho : w2.ownsRow w.heap.size 3 1 (.slice (some ⟨w.heap.size + 1, 0, none⟩) 0 0) 0 []) (hs : w.heap.size + 1 < w2.heap.size)
    (hown3 : w3.ownsRow w2.heap.size 4 1 (.slice (some ⟨w2.heap.size, 0, none⟩) P P) P (List.replicate P (.bool false))) (hb3 : Below w2.heap.size w2 w3) : ReachSt w w3 P n A cap w2.heap.size (fun _ => false) := by
  rw [boolCells_none] at hown3
  exact ⟨own_base hown3 hb.size, hx.kept hb3, own_below ho hb3, below_on hb hb3 hb.size, hs⟩

/-- Where the walk stands that collects the answers. -/
def OutSt (w wr : World) (P n : Nat) (A : Option Addr) (cap gs : Nat) (S : Nat → Bool) (k : Nat) (A' : Option Addr) (c' : Nat) : Prop :=
  wr.ownsRow w.heap.size 3 1 (.slice A' (outF k S).length c') (outF k S).length (intCells (outF k S)) ∧ (∀ a, A' = some a → a.block ≠ gs ∧ a.block ≠ w.heap.size) ∧ wr.ownsRow w.heap.size 4 1 (.slice (some ⟨gs, 0, none⟩) P P) P (boolCells P S) ∧ Box wr w.heap.size (P : Int) (.slice A n cap) ∧ Below w.heap.size w wr
theorem ReachSt.out {w wr : World} {P n : Nat} {A : Option Addr} {cap gs : Nat} {S : Nat → Bool} (h : ReachSt w wr P n A cap gs S) : OutSt w wr P n A cap gs S 0 (some ⟨w.heap.size + 1, 0, none⟩) 0 :=
  ⟨h.2.2.1, fun a e => by cases e; exact ⟨by have := h.2.2.2.2; show w.heap.size + 1 ≠ gs; omega, by show w.heap.size + 1 ≠ w.heap.size; omega⟩, h.1, h.2.1, h.2.2.2.1⟩
theorem OutSt.no {w wr : World} {P n : Nat} {A : Option Addr} {cap gs : Nat} {S : Nat → Bool} {k : Nat} {A' : Option Addr} {c' : Nat} (h : OutSt w wr P n A cap gs S k A' c') (hs : S k = false) : OutSt w wr P n A cap gs S (k + 1) A' c' := by
  have e : outF (k + 1) S = outF k S := by rw [outF_succ, hs]; simp
  unfold OutSt at *
  rw [e]
  exact h
end Go.Proofs.Ytdkpmaahinbhlaa
/- slices.Repeat of one number, up to eight times. No condition. -/
namespace Go.Proofs.Ytdkpmaahinbhlaa
open Go.RowKit

set_option maxHeartbeats 4000000 in
theorem mul64_one (P : Nat) (h : P ≤ 8) (w : World) : Calls Try.prog 233 #[.int .u64 1, .int .u64 (P : Int)] w fun e w' => e = .returned (.tuple #[.int .u64 0, .int .u64 (P : Int)]) ∧ w' = w := by
  have hP : P = 0 ∨ P = 1 ∨ P = 2 ∨ P = 3 ∨ P = 4 ∨ P = 5 ∨ P = 6 ∨ P = 7 ∨ P = 8 := by omega
  rcases hP with rfl | rfl | rfl | rfl | rfl | rfl | rfl | rfl | rfl
  all_goals
    go_enter Try.func233, Try.ntmps233
    go_wp2_with fail
    go_ret2
    exact ⟨by first | rfl | simp, rfl⟩
set_option maxHeartbeats 4000000 in
theorem mul_one_c (P : Nat) (h : P ≤ 8) (w : World) : Calls Try.prog 197 #[.int .u64 1, .int .u64 (P : Int)] w fun e w' => e = .returned (.tuple #[.int .u64 0, .int .u64 (P : Int)]) ∧ w' = w := by
  go_enter Try.func197, Try.ntmps197
  go_wp2_with fail
  refine (mul64_one P h _).mono ?_
  rintro e w1 ⟨rfl, rfl⟩
  go_wp2_with fail
  go_ret2
  exact ⟨rfl, rfl⟩
/-- A row that holds n times k, and zeros behind them. -/
def repL (P n : Nat) (k : Int) : List Int := List.replicate n k ++ List.replicate (P - n) 0
theorem repL_len (P n : Nat) (k : Int) (h : n ≤ P) : (repL P n k).length = P := by simp [repL]; omega
theorem repL_splice (P n m : Nat) (k : Int) : splice (intCells (repL P n k)) n (intCells (List.replicate m k)) = intCells (repL P (n + m) k) := by
  unfold splice intCells
  rw [← List.map_take, ← List.map_drop, ← List.map_append, ← List.map_append]
  congr 1
  simp only [repL, List.length_map, List.length_replicate]
  rw [List.take_left' (by simp), List.drop_append, List.length_replicate, List.drop_eq_nil_of_le (by simp), List.nil_append, show n + m - n = m by omega, List.drop_replicate, ← List.append_assoc, List.replicate_append_replicate, show P - n - m = P - (n + m) by omega]
theorem repL_get (P n : Nat) (k : Int) (j : Nat) (h : j < n) : (repL P n k).getD j 0 = k := by
  unfold repL
  simp only [List.getD]
  rw [List.getElem?_append_left (by simpa using h)]
  simp [h]
theorem own_heap {W : World} {base g n : Nat} {e : TypeId} {xs : List Value} (h : W.ownsRow base e 1 (.slice (some ⟨g, 0, none⟩) n n) n xs) : W.heap[g]? = some (.cells xs.toArray e (0, 0)) := by
  obtain ⟨h0, h1⟩ := h
  rcases h1 with ⟨h2, _⟩ | ⟨g', cap, cur, e1, _, hh, _, _, hsz, ht⟩
  · cases h2
  · cases e1
    rw [List.take_of_length_le (by rw [Array.length_toList, hsz]; exact Nat.le_refl _)] at ht
    rw [hh, ← ht]
theorem heap_own {W : World} {base g n : Nat} {e : TypeId} {xs : List Value} (h : W.heap[g]? = some (.cells xs.toArray e (0, 0))) (hl : xs.length = n) (hb : base ≤ g) (hn : n ≤ maxLen) : W.ownsRow base e 1 (.slice (some ⟨g, 0, none⟩) n n) n xs :=
  ⟨by rw [hl, Nat.mul_one], .inr ⟨g, n, xs.toArray, rfl, hb, h, Nat.le_refl _, hn, by rw [List.size_toArray, hl, Nat.mul_one], by rw [Nat.mul_one, ← hl]; simp⟩⟩
theorem heap_ints {W : World} {g : Nat} {e : TypeId} {zs : List Int} (h : W.heap[g]? = some (.cells (intCells zs).toArray e (0, 0))) (j : Nat) (hj : j < zs.length) : W.cell? ⟨g, j, none⟩ = some (.int .i64 (zs.getD j 0)) := by
  rw [cell_of_row W g j _ e (0, 0) h]
  simpa using intCells_get zs j hj

set_option maxHeartbeats 2000000 in
set_option maxRecDepth 100000 in
theorem slRepeat (P : Nat) (k : Int) (b0 : Nat) (w : World) (h1 : 1 ≤ P) (h8 : P ≤ 8) (hc : w.cell? ⟨b0, 0, none⟩ = some (.int .i64 k)) :
    Calls Try.prog 131 #[.slice (some ⟨b0, 0, none⟩) 1 1, .int .i64 (P : Int)] w fun e w' => ∃ g, e = .returned (.slice (some ⟨g, 0, none⟩) P P) ∧ w'.ownsRow w.heap.size 3 1 (.slice (some ⟨g, 0, none⟩) P P) P (intCells (List.replicate P k)) ∧ Below w.heap.size w w' := by
  have HC := Lib.hid hc
  have HM := mul_one_c P h8
  have hP0 : ¬ (P : Int) < 0 := by omega
  have hPw : IntKind.u64.wrap (P : Int) = (P : Int) := by rw [IntKind.wrap_u64]; omega
  have hPi : IntKind.i64.wrap (P : Int) = (P : Int) := IntWalk.i64_in _ (by omega)
  have hPm : ¬ (9223372036854775807 : Int) < (P : Int) := by omega
  clear hc
  go_enter Try.func131, Try.ntmps131
  go_wp2_with fail
  refine (HM _).mono ?_
  rintro e w1 ⟨rfl, rfl⟩
  clear HM
  go_wp2_with (first
    | (at_make; refine wpList_mkn _ rfl _ _ 29 rfl w1.heap.size 3 (.int .i64 0) 8 Try.underlying29 infoInt rfl _ _ _ _ P rfl rfl rfl rfl (by omega) (by unfold maxLen; omega) (Nat.le_refl _) ?_; intro w2 hown hb2; have HB := Lib.hid hb2; have HG := Lib.hid (show w2.heap[w1.heap.size]? = some (.cells (intCells (repL P 0 k)).toArray 3 (0, 0)) by rw [show intCells (repL P 0 k) = List.replicate P (.int .i64 0) by simp [repL, intCells]]; exact own_heap hown); have HSRC := Lib.hid (show ∀ j v, (intCells (List.replicate 1 k))[j]? = some v → w2.cell? ((⟨b0, 0, none⟩ : Addr).add j) = some v from fun j v hj => (by have hlt := (List.getElem?_eq_some_iff.1 hj).1; obtain rfl : j = 0 := (by simpa [intCells] using hlt); have hb0 := World.block_lt_of_cell? w1 _ HC.out; rw [show (⟨b0, 0, none⟩ : Addr).add 0 = ⟨b0, 0, none⟩ from rfl, hb2.cell (p := ⟨b0, 0, none⟩) hb0, HC.out]; simpa [intCells] using hj)); clear hown hb2)
    | (with_reducible refine wpList_copy_splice rfl _ _ 29 29 rfl 3 Try.underlying29 (by kernel_rfl) (some ⟨w1.heap.size, 0, none⟩) (some ⟨b0, 0, none⟩) P P 1 1 rfl rfl w1.heap.size 0 (intCells (repL P 0 k)) 3 HG.out (intCells (List.replicate 1 k)) (by simp [intCells, Nat.min_def]; omega) (fun _ => ⟨rfl, _, rfl, HSRC.out⟩) (by rw [intCells_len, intCells_len, repL_len P 0 k (by omega)]; simp; omega) (by simp [intCells, Value.oneCell']) w1.heap.size w1 HB.out (Nat.le_refl _) ?_; intro w3 hg3 hb3; have HG3 := Lib.hid (show w3.heap[w1.heap.size]? = some (.cells (intCells (repL P 1 k)).toArray 3 (0, 0)) by have := hg3.out; rw [repL_splice P 0 1 k] at this; exact this); have HB3 := Lib.hid hb3; clear hg3 hb3))
  clear HG HB HSRC HC
  go_loopw [8] (fun n wr => ∃ j : Nat, 1 ≤ j ∧ j ≤ P ∧ n = .int .i64 j ∧ wr.heap[w1.heap.size]? = some (.cells (intCells (repL P j k)).toArray 3 (0, 0)) ∧ Below w1.heap.size w1 wr) (fun n _ => P - (intOf n).toNat)
  case atStart => exact ⟨1, Nat.le_refl _, h1, rfl, HG3.out, HB3.out⟩
  case round =>
    obtain ⟨j, hj1, hj2, rfl, hg, hb⟩ := hrel
    have HG := Lib.hid hg
    have HB := Lib.hid hb
    clear hg hb
    by_cases hlt : j < P
    · have hji : (j : Int) < (P : Int) := by omega
      obtain ⟨m, hm⟩ : ∃ m, m = Nat.min j (P - j) := ⟨_, rfl⟩
      have hm2 : m ≤ j ∧ m ≤ P - j ∧ 1 ≤ m := by rw [hm]; simp only [Nat.min_def]; split <;> omega
      have hsrc : ∀ j' v, (intCells (List.replicate m k))[j']? = some v → wr.drew.cell? ((⟨w1.heap.size, 0, none⟩ : Addr).add j') = some v := fun j' v hj' => by
        have hlt' : j' < m := by
          have := (List.getElem?_eq_some_iff.1 hj').1
          simpa [intCells] using this
        have h0 := heap_ints HG.out j' (by rw [repL_len P j k hj2]; omega)
        rw [repL_get P j k j' (by omega)] at h0
        have hadd : (⟨w1.heap.size, 0, none⟩ : Addr).add j' = ⟨w1.heap.size, j', none⟩ := by unfold Addr.add; split <;> simp_all
        rw [hadd]
        have hv : v = .int .i64 k := by
          have := intCells_get (List.replicate m k) j' (by simpa using hlt')
          rw [hj'] at this
          simpa [List.getD, hlt'] using this
        rw [hv]
        exact h0
      have HSRC := Lib.hid hsrc
      have HFIT := Lib.hid (show j + (intCells (List.replicate m k)).length ≤ (intCells (repL P j k)).length by rw [intCells_len, intCells_len, repL_len P j k hj2]; simp; omega)
      have HN := Lib.hid (show (intCells (List.replicate m k)).length = Nat.min j (P - j) by rw [intCells_len, List.length_replicate]; exact hm)
      have HB2 := Lib.hid (HB.out.drew)
      have HG2 := Lib.hid (show wr.drew.heap[w1.heap.size]? = some (.cells (intCells (repL P j k)).toArray 3 (0, 0)) from HG.out)
      clear hsrc hm
      have hnej : ¬ P = j := by omega
      have hlm : ((intCells (List.replicate m k)).length : Int) = (m : Int) := by simp [intCells]
      have hsm : IntKind.i64.wrap ((j : Int) + (m : Int)) = (j : Int) + (m : Int) := IntWalk.i64_in _ (by omega)
      go_wp2_with fail
      go_region_law (refine step_copy_splice rfl _ _ 29 29 rfl 3 Try.underlying29 (by kernel_rfl) (some ⟨w1.heap.size, j, none⟩) (some ⟨w1.heap.size, 0, none⟩) (P - j) (P - j) j P (by simp [Act.eval, Act.put]) (by simp [Act.eval, Act.put]) w1.heap.size j (intCells (repL P j k)) 3 HG2.out (intCells (List.replicate m k)) HN.out (fun _ => ⟨rfl, _, rfl, HSRC.out⟩) HFIT.out (by simp [intCells, Value.oneCell']) w1.heap.size w1 HB2.out (Nat.le_refl _) ?_; intro w4 hg4 hb4; have HG4 := Lib.hid (show w4.heap[w1.heap.size]? = some (.cells (intCells (repL P (j + m) k)).toArray 3 (0, 0)) by have := hg4.out; rw [repL_splice P j m k] at this; exact this); have HB4 := Lib.hid hb4; clear hg4 hb4)
      all_goals
        go_simp
        go_roundw
        case rel => exact ⟨.int .i64 ((j : Int) + (m : Int)), _, _, _, _, _, _, _, _, _, _, _, _, _, ⟨j + m, by omega, by omega, by go_num, HG4.out, HB4.out⟩, rfl⟩
        case measure => simp [intOf]; omega
    · obtain rfl : j = P := by omega
      go_wp2_with fail
      go_ret
      have hr : repL j j k = List.replicate j k := by simp [repL]
      have h2 := HG.out
      rw [hr] at h2
      exact ⟨_, rfl, heap_own h2 (by simp [intCells]) (Nat.le_refl _) (by unfold maxLen; omega), HB.out⟩
end Go.Proofs.Ytdkpmaahinbhlaa
/- What impl.NewPebbles answers. No condition. -/
namespace Go.Proofs.Ytdkpmaahinbhlaa
open Go.RowKit

/-- What NewPebbles answers. -/
noncomputable def newB (p k : Int) (l : List (Int × Int)) : Bool := isGB p l && (decide (1 ≤ k) && decide (k ≤ 3))
noncomputable def newF (p k : Int) (l : List (Int × Int)) : List Int := if newB p k l = true then List.replicate p.toNat k else []
theorem new_no {p k : Int} {l : List (Int × Int)} (h : isGB p l = false ∨ k < 1 ∨ 3 < k) : newB p k l = false ∧ newF p k l = [] := by
  have hb : newB p k l = false := by
    unfold newB
    rcases h with h | h | h
    · rw [h]; rfl
    · rw [decide_eq_false (by omega : ¬ 1 ≤ k)]; simp
    · rw [decide_eq_false (by omega : ¬ k ≤ 3)]; simp
  exact ⟨hb, by unfold newF; rw [hb]; rfl⟩
theorem new_yes {P : Nat} {k : Int} {l : List (Int × Int)} (h : isGB (P : Int) l = true) (h1 : 1 ≤ k) (h2 : k ≤ 3) : newB (P : Int) k l = true ∧ newF (P : Int) k l = List.replicate P k := by
  have hb : newB (P : Int) k l = true := by
    unfold newB
    rw [h, decide_eq_true h1, decide_eq_true h2]
    rfl
  exact ⟨hb, by unfold newF; rw [hb, if_pos rfl, Int.toNat_natCast]⟩
/-- A state of the call's own, and a bool. -/
def PebOB (w : World) (F T Z : List Int) (r : Bool) (e : Ending) (w' : World) : Prop :=
  ∃ AF cF AT cT AZ cZ, e = .returned (.tuple #[pebV AF F.length cF AT T.length cT AZ Z.length cZ, .bool r]) ∧ Own3 w' w.heap.size w'.heap.size AF cF AT cT AZ cZ F T Z ∧ Below w.heap.size w w'
theorem own3_nil (w : World) (lo : Nat) (h : lo ≤ w.heap.size) (AF AT AZ : Option Addr) (cF cT cZ : Nat) : Own3 w lo w.heap.size AF cF AT cT AZ cZ [] [] [] :=
  ⟨(w.heap.size, w.heap.size), (w.heap.size, w.heap.size), (w.heap.size, w.heap.size), ⟨Nat.le_refl _, .inl rfl⟩, ⟨Nat.le_refl _, .inl rfl⟩, ⟨Nat.le_refl _, .inl rfl⟩, .inl (Nat.le_refl _), .inl (Nat.le_refl _), .inl (Nat.le_refl _), ⟨h, Nat.le_refl _⟩, ⟨h, Nat.le_refl _⟩, ⟨h, Nat.le_refl _⟩, Nat.le_refl _⟩
theorem own3_f {W : World} {lo a b : Nat} {AF AT AZ : Option Addr} {cF cT cZ : Nat} {F : List Int} (h : OwnInts W a b AF cF F) (h1 : lo ≤ a) (h2 : b ≤ W.heap.size) (h3 : lo ≤ W.heap.size) : Own3 W lo W.heap.size AF cF AT cT AZ cZ F [] [] :=
  ⟨(a, b), (W.heap.size, W.heap.size), (W.heap.size, W.heap.size), h, ⟨Nat.le_refl _, .inl rfl⟩, ⟨Nat.le_refl _, .inl rfl⟩, .inl h2, .inl h2, .inl (Nat.le_refl _), ⟨h1, h2⟩, ⟨h3, Nat.le_refl _⟩, ⟨h3, Nat.le_refl _⟩, Nat.le_refl _⟩

end Go.Proofs.Ytdkpmaahinbhlaa
/- A graph that is being built in a box: bars are appended one by one to a row of the call's own, while other blocks stay as they were. No condition. -/
namespace Go.Proofs.Ytdkpmaahinbhlaa
open Go.RowKit

/-- The graph of p points with the bars l stands in the box bg; the blocks os are as they were in w0. -/
def GBox (B : Nat) (w0 wr : World) (bg : Nat) (os : List Nat) (p : Int) (A : Option Addr) (c : Nat) (l : List (Int × Int)) : Prop :=
  Box wr bg p (.slice A l.length c) ∧ wr.frozen? ⟨bg, 1, none⟩ = false ∧ (∀ a, A = some a → a.block ∉ os ∧ a.block ≠ bg) ∧ wr.ownsRow B 108 2 (.slice A l.length c) l.length (barCells l) ∧ (∀ o ∈ os, o < wr.heap.size ∧ wr.heap[o]? = w0.heap[o]? ∧ o ≠ bg) ∧ Below B w0 wr ∧ B ≤ bg
theorem GBox.cell {B : Nat} {w0 wr : World} {bg : Nat} {os : List Nat} {p : Int} {A : Option Addr} {c : Nat} {l : List (Int × Int)} (h : GBox B w0 wr bg os p A c l) {o k : Nat} (ho : o ∈ os) : wr.cell? ⟨o, k, none⟩ = w0.cell? ⟨o, k, none⟩ :=
  World.cell?_of_block (a := ⟨o, k, none⟩) (h.2.2.2.2.1 o ho).2.1
theorem GBox.frozen {B : Nat} {w0 wr : World} {bg : Nat} {os : List Nat} {p : Int} {A : Option Addr} {c : Nat} {l : List (Int × Int)} (h : GBox B w0 wr bg os p A c l) {o k : Nat} (ho : o ∈ os) : wr.frozen? ⟨o, k, none⟩ = w0.frozen? ⟨o, k, none⟩ :=
  World.frozen?_of_block (a := ⟨o, k, none⟩) (h.2.2.2.2.1 o ho).2.1
theorem GBox.below {B : Nat} {w0 wr w' : World} {bg : Nat} {os : List Nat} {p : Int} {A : Option Addr} {c : Nat} {l : List (Int × Int)} (h : GBox B w0 wr bg os p A c l) (hb : Below wr.heap.size wr w') : GBox B w0 w' bg os p A c l := by
  obtain ⟨h1, h2, h3, h4, h5, h6, h7⟩ := h
  refine ⟨h1.kept hb, (hb.frozen (p := ⟨bg, 1, none⟩) h1.1).trans h2, h3, own_below h4 hb, fun o ho => ?_, below_on h6 hb (Nat.le_of_lt (Nat.lt_of_le_of_lt h7 h1.1)), h7⟩
  obtain ⟨k1, k2, k3⟩ := h5 o ho
  exact ⟨Nat.lt_of_lt_of_le k1 hb.size, (hb.block o k1).trans k2, k3⟩
theorem GBox.push {B : Nat} {w0 wr w' : World} {bg : Nat} {os : List Nat} {p : Int} {A : Option Addr} {c : Nat} {l : List (Int × Int)} {v' : Value} (h : GBox B w0 wr bg os p A c l) (x : Int × Int)
    (ho : w'.ownsRow B 108 2 v' (l.length + 1) (barCells l ++ [.int .i64 x.1, .int .i64 x.2])) (hg : wr.grownBy w' (Value.slice A l.length c).ownBlock)
    (hat : v'.ownBlock = (Value.slice A l.length c).ownBlock ∨ v'.ownBlock = some (wr.heap.size + 1)) :
    w'.cell? ⟨bg, 0, none⟩ = some (.int .i64 p) ∧ w'.cell? ⟨bg, 1, none⟩ = some (.slice A l.length c) ∧ w'.frozen? ⟨bg, 1, none⟩ = false ∧ ∃ A2 c2, v' = .slice A2 (l.length + 1) c2 ∧ GBox B w0 (w'.setCell ⟨bg, 1, none⟩ v') bg os p A2 c2 (l ++ [x]) := by
  obtain ⟨h1, h2, h3, h4, h5, h6, h7⟩ := h
  have hne : ∀ o, o = bg ∨ o ∈ os → some o ≠ (Value.slice A l.length c).ownBlock := fun o hoo e => by
    cases A with
    | none => cases e
    | some a =>
      cases e
      rcases hoo with hoo | hoo
      · exact (h3 a rfl).2 hoo
      · exact (h3 a rfl).1 hoo
  have hblk := hg.block bg h1.1 (hne bg (.inl rfl))
  have c0 := (World.cell?_of_block (a := ⟨bg, 0, none⟩) hblk).trans h1.2.1
  have c1 := (World.cell?_of_block (a := ⟨bg, 1, none⟩) hblk).trans h1.2.2
  have f1 := (World.frozen?_of_block (a := ⟨bg, 1, none⟩) hblk).trans h2
  refine ⟨c0, c1, f1, ?_⟩
  obtain ⟨A2, c2, rfl⟩ := own_shape ho
  refine ⟨A2, c2, rfl, ?_⟩
  have hA2 : ∀ a, A2 = some a → a.block ∉ os ∧ a.block ≠ bg := fun a e => by
    subst e
    rcases hat with hat | hat
    · cases A with
      | none => cases hat
      | some a0 =>
        have : a.block = a0.block := by simpa [Value.ownBlock] using hat
        rw [this]
        exact h3 a0 rfl
    · have : a.block = wr.heap.size + 1 := by simpa [Value.ownBlock] using hat
      rw [this]
      refine ⟨fun hm => ?_, ?_⟩
      · have := (h5 _ hm).1
        omega
      · have := h1.1
        omega
  have hs := grownBy_set w' bg 1 (.slice A2 (l.length + 1) c2)
  have e2 : (l ++ [x]).length = l.length + 1 := by simp
  have e3 : barCells (l ++ [x]) = barCells l ++ [.int .i64 x.1, .int .i64 x.2] := by rw [barCells_append]; rfl
  unfold GBox
  rw [e2, e3]
  refine ⟨⟨?_, ?_, ?_⟩, ?_, hA2, ?_, fun o hoo => ?_, ?_, h7⟩
  · exact Nat.lt_of_lt_of_le (Nat.lt_of_lt_of_le h1.1 hg.size) hs.size
  · rw [World.cell?_setCell_other _ _ _ _ (by intro e; simp at e)]
    exact c0
  · exact World.cell?_setCell_same _ _ _ c1
  · rw [World.frozen?_setCell]
    exact f1
  · refine ho.kept hs ?_
    cases A2 with
    | none => exact .inl rfl
    | some a => exact .inr (by simp [Value.ownBlock]; exact (hA2 a rfl).2)
  · obtain ⟨k1, k2, k3⟩ := h5 o hoo
    exact ⟨Nat.lt_of_lt_of_le (Nat.lt_of_lt_of_le k1 hg.size) hs.size, (hs.block o (Nat.lt_of_lt_of_le k1 hg.size) (by simp; exact k3)).trans ((hg.block o k1 (hne o (.inr hoo))).trans k2), k3⟩
  · refine (h6.grown hg (Nat.le_of_lt (Nat.lt_of_le_of_lt h7 h1.1)) fun g e => (h4.lt g e).1).grown hs ?_ fun g e => by cases e; exact h7
    exact Nat.le_trans (Nat.le_of_lt (Nat.lt_of_le_of_lt h7 h1.1)) hg.size
/-- The same behind an append in a region that draws its order. -/
theorem GBox.push2 {B : Nat} {w0 wr w' : World} {bg : Nat} {os : List Nat} {p : Int} {A : Option Addr} {c : Nat} {l : List (Int × Int)} {gg c2 : Nat} {us : Array Value} {tb : TypeId} (h : GBox B w0 wr bg os p A c l) (x : Int × Int)
    (ho : w'.ownsRow B 108 2 (.slice (some ⟨gg, 0, none⟩) (l.length + 1) c2) (l.length + 1) (barCells l ++ [.int .i64 x.1, .int .i64 x.2])) (hg : ((wr.alloc (.cells us tb)).drew).grownBy w' (Value.slice A l.length c).ownBlock)
    (hat : (Value.slice A l.length c).ownBlock = some gg ∨ gg = wr.heap.size + 1) :
    w'.cell? ⟨bg, 0, none⟩ = some (.int .i64 p) ∧ w'.cell? ⟨bg, 1, none⟩ = some (.slice A l.length c) ∧ w'.frozen? ⟨bg, 1, none⟩ = false ∧ GBox B w0 (w'.setCell ⟨bg, 1, none⟩ (.slice (some ⟨gg, 0, none⟩) (l.length + 1) c2)) bg os p (some ⟨gg, 0, none⟩) c2 (l ++ [x]) := by
  have hg1 : (wr.alloc (.cells us tb)).grownBy ((wr.alloc (.cells us tb)).drew) (Value.slice A l.length c).ownBlock := ⟨rfl, rfl, rfl, Nat.le_refl _, fun _ _ _ => rfl⟩
  obtain ⟨c0, c1, f1, A2, c2', e, hG⟩ := h.push x ho (((World.grownBy_alloc wr (.cells us tb) _).trans_ hg1).trans_ hg) (by
    rcases hat with hat | hat
    · left; rw [hat]; rfl
    · right; rw [hat]; rfl)
  cases e
  exact ⟨c0, c1, f1, hG⟩
theorem GBox.drew {B : Nat} {w0 wr : World} {bg : Nat} {os : List Nat} {p : Int} {A : Option Addr} {c : Nat} {l : List (Int × Int)} (h : GBox B w0 wr bg os p A c l) : GBox B w0 wr.drew bg os p A c l := h.below ((Below.refl _ _).drew)
/-- The answer's variable is written: the row is still the call's own. -/
theorem GBox.ret {B : Nat} {w0 wr : World} {bg : Nat} {os : List Nat} {p : Int} {A : Option Addr} {c : Nat} {l : List (Int × Int)} (h : GBox B w0 wr bg os p A c l) {o : Nat} (ho : o ∈ os) (hB : B ≤ o) (u v : Value) :
    OwnIn ((wr.setCell ⟨o, 0, none⟩ u).setCell ⟨o, 1, none⟩ v) B ((wr.setCell ⟨o, 0, none⟩ u).setCell ⟨o, 1, none⟩ v).heap.size A c l ∧ Below B w0 ((wr.setCell ⟨o, 0, none⟩ u).setCell ⟨o, 1, none⟩ v) := by
  obtain ⟨h1, h2, h3, h4, h5, h6, h7⟩ := h
  have hg := (grownBy_set wr o 0 u).trans_ (grownBy_set (wr.setCell ⟨o, 0, none⟩ u) o 1 v)
  refine ⟨own_in' (h4.kept hg ?_), h6.grown hg (Nat.le_of_lt (Nat.lt_of_le_of_lt h7 h1.1)) fun g e => by cases e; exact hB⟩
  cases A with
  | none => exact .inl rfl
  | some a => exact .inr (by simp [Value.ownBlock]; exact fun e => (h3 a rfl).1 (e ▸ ho))
/-- A graph without bars, laid in a box; what lies in the blocks os stands. -/
theorem gbox_nil (w : World) (B : Nat) (os : List Nat) (p : Int) (hB : B ≤ w.heap.size) (hos : ∀ o ∈ os, o < w.heap.size) : GBox B w (w.alloc (.cells #[.int .i64 p, .slice none 0 0] 26)) w.heap.size os p none 0 [] := by
  have hb := new_below w (.cells #[.int .i64 p, .slice none 0 0] 26)
  refine ⟨box_new w p (.slice none 0 0) 26, World.frozen?_alloc_at _ _ _ _ rfl, fun a e => (by cases e), ⟨rfl, .inl ⟨rfl, rfl⟩⟩, fun o ho => ?_, hb.mono hB, hB⟩
  have := hos o ho
  exact ⟨by simp; omega, hb.block _ this, by omega⟩
/-- The same with an empty row of its own. -/
theorem gbox_made (w : World) (B : Nat) (os : List Nat) (p : Int) (hB : B ≤ w.heap.size) (hos : ∀ o ∈ os, o < w.heap.size) : GBox B w ((w.alloc (.cells #[] 108)).alloc (.cells #[.int .i64 p, .slice (some ⟨w.heap.size, 0, none⟩) 0 0] 26)) (w.heap.size + 1) os p (some ⟨w.heap.size, 0, none⟩) 0 [] := by
  have hsz : (w.alloc (.cells #[] 108)).heap.size = w.heap.size + 1 := by simp
  have hb1 := new_below w (.cells #[] 108)
  have hb2 := new_below (w.alloc (.cells #[] 108)) (.cells #[.int .i64 p, .slice (some ⟨w.heap.size, 0, none⟩) 0 0] 26)
  have hx := box_new (w.alloc (.cells #[] 108)) p (.slice (some ⟨w.heap.size, 0, none⟩) 0 0) 26
  have hf : ((w.alloc (.cells #[] 108)).alloc (.cells #[.int .i64 p, .slice (some ⟨w.heap.size, 0, none⟩) 0 0] 26)).frozen? ⟨(w.alloc (.cells #[] 108)).heap.size, 1, none⟩ = false := World.frozen?_alloc_at _ _ _ _ rfl
  rw [hsz] at hx hf
  have hb := below_on hb1 hb2 hb1.size
  have ho := World.ownsRow_made (base := B) (e := 108) (size := 2) w #[] 0 hB (by unfold maxLen; omega) (by simp)
  refine ⟨hx, hf, fun a e => ?_, own_below ho hb2, fun o hoo => ?_, hb.mono hB, by omega⟩
  · cases e
    refine ⟨fun hm => ?_, by show w.heap.size ≠ w.heap.size + 1; omega⟩
    have := hos _ hm
    simp at this
  · have := hos o hoo
    exact ⟨by simp; omega, hb.block _ this, by omega⟩
end Go.Proofs.Ytdkpmaahinbhlaa
/- Copies of rows of bars: words on rows of the call's own. No condition. -/
namespace Go.Proofs.Ytdkpmaahinbhlaa
open Go.RowKit

theorem barCells_at {w : World} {b off : Nat} {l : List (Int × Int)} (h : ∀ k, k < l.length → w.cell? ⟨b, off + k * 2, none⟩ = some (.int .i64 (l.getD k (0, 0)).1) ∧ w.cell? ⟨b, off + k * 2 + 1, none⟩ = some (.int .i64 (l.getD k (0, 0)).2)) : ∀ j u, (barCells l)[j]? = some u → w.cell? ⟨b, off + j, none⟩ = some u := by
  intro j u hj
  have hlt : j < l.length * 2 := by
    have := (List.getElem?_eq_some_iff.1 hj).1
    rwa [barCells_len] at this
  have hj2 : j = j / 2 * 2 ∨ j = j / 2 * 2 + 1 := by omega
  have hk : j / 2 < l.length := by omega
  generalize j / 2 = k at *
  have hg := barCells_get l k hk
  have hc := h k hk
  rcases hj2 with rfl | rfl
  · rw [hg.1] at hj
    cases hj
    exact hc.1
  · rw [hg.2] at hj
    cases hj
    exact hc.2
theorem barCells_one (l : List (Int × Int)) : ∀ u ∈ barCells l, u.oneCell' = true := by
  intro u hu
  obtain ⟨x, _, hx⟩ := List.mem_flatMap.1 hu
  simp at hx
  rcases hx with rfl | rfl <;> rfl

/-- An append onto a row of the call's own, as one step of a region that draws its order. -/
theorem step_own {P : Program} {w : World} {ops : Array Oper} {o : Oper} {a : Act} {K : Act → World → Prop} {Q : Exit → Act → World → Prop} {E : Prop} (hgd : o.guard = none) (s x : Operand) (t : TypeId)
    (ho : o.op = .call { callee := .builtin .append, args := #[s, x], argTypes := #[t, t] })
    (base : Nat) (e : TypeId) (i : TypeInfo) (z : Value) (size bytes : Nat) (ht : P.underlying t = some (.slice e)) (hi : P.info? e = some i) (hz : i.zero = some z)
    (hsize : i.size = size) (hby : i.bytes = bytes) (hzs : z.cells.size = size) (hsz : 0 < size)
    (v : Value) (n : Nat) (xs : List Value) (hs : a.eval s = v) (hown : w.ownsRow base e size v n xs)
    (ad : Addr) (m c : Nat) (news : List Value) (hx : a.eval x = .slice (some ad) m c) (hl : news.length = m * size) (hnews : ∀ j u, news[j]? = some u → w.cell? (ad.add j) = some u) (h1 : ∀ u ∈ news, u.oneCell' = true)
    (h63 : n + m ≤ maxLen) (hbytes : (n + m) * bytes ≤ 140737488355328) (hbase : base ≤ w.heap.size)
    (h : ∀ v' w', w'.ownsRow base e size v' (n + m) (xs ++ news) → w.grownBy w' v.ownBlock → K (a.put o.dst v') w') :
    if Region.wanted o (yielded ops a.tmps) = true then Oper.wp P o a w K Q else E := by
  have hw : Region.wanted o (yielded ops a.tmps) = true := by simp [Region.wanted, hgd]
  rw [if_pos hw]
  exact wp_append_own w s x t ho base e i z size bytes ht hi hz hsize hby hzs hsz v n xs hs hown ad m c news hx hl hnews h1 h63 hbytes hbase fun v' w' h2 h3 _ => h v' w' h2 h3

/-- The answer's variable r is written behind a row of the call's own. -/
theorem row_ret {w w3 : World} {r B' : Nat} {A2 : Option Addr} {c2 : Nat} {l : List (Int × Int)} (ho : w3.ownsRow B' 108 2 (.slice A2 l.length c2) l.length (barCells l)) (hB : Below w.heap.size w w3) (h1 : w.heap.size ≤ r) (h2 : r < B') (u v : Value) :
    OwnIn ((w3.setCell ⟨r, 0, none⟩ u).setCell ⟨r, 1, none⟩ v) w.heap.size ((w3.setCell ⟨r, 0, none⟩ u).setCell ⟨r, 1, none⟩ v).heap.size A2 c2 l ∧ Below w.heap.size w ((w3.setCell ⟨r, 0, none⟩ u).setCell ⟨r, 1, none⟩ v) := by
  have hg := (grownBy_set w3 r 0 u).trans_ (grownBy_set (w3.setCell ⟨r, 0, none⟩ u) r 1 v)
  refine ⟨own_in' ((own_base ho (by omega)).kept hg ?_), hB.grown hg hB.size fun g e => by cases e; exact h1⟩
  cases A2 with
  | none => exact .inl rfl
  | some a =>
    have := (ho.lt a.block rfl).1
    exact .inr (by simp [Value.ownBlock]; omega)
theorem OwnIn.drew {w : World} {lo : Nat} {A : Option Addr} {c : Nat} {l : List (Int × Int)} (h : OwnIn w lo w.heap.size A c l) : OwnIn w.drew lo w.drew.heap.size A c l := h.within (within_of ((Below.refl _ _).drew)) (by omega)
theorem ret_cells {w3 : World} {r : Nat} {p u : Int} {a v : Value} (h0 : w3.cell? ⟨r, 0, none⟩ = some (.int .i64 u)) (h1 : w3.cell? ⟨r, 1, none⟩ = some a) :
    ((w3.setCell ⟨r, 0, none⟩ (.int .i64 p)).setCell ⟨r, 1, none⟩ v).cell? ⟨r, 0, none⟩ = some (.int .i64 p) ∧ ((w3.setCell ⟨r, 0, none⟩ (.int .i64 p)).setCell ⟨r, 1, none⟩ v).cell? ⟨r, 1, none⟩ = some v := by
  constructor
  · rw [World.cell?_setCell_other _ _ _ _ (by intro e; simp at e)]
    exact World.cell?_setCell_same _ _ _ h0
  · have r2 : (w3.setCell ⟨r, 0, none⟩ (.int .i64 p)).cell? ⟨r, 1, none⟩ = some a := by
      rw [World.cell?_setCell_other _ _ _ _ (by intro e; simp at e)]
      exact h1
    exact World.cell?_setCell_same _ _ _ r2

end Go.Proofs.Ytdkpmaahinbhlaa
/- What spec.l2Copy answers: a copy of the call's own. No condition. -/
namespace Go.Proofs.Ytdkpmaahinbhlaa
open Go.RowKit

set_option maxHeartbeats 2000000 in
set_option maxRecDepth 100000 in
theorem copy_c (p : Int) (l : List (Int × Int)) (a : Addr) (cap : Nat) (w : World) (hl : BarsAt w w.heap.size (some a) l) (hn : l.length ≤ 1048576) :
    Calls Try.prog 164 #[.agg #[.int .i64 p, .slice (some a) l.length cap]] w (GraphO w p l) := by
  obtain ⟨i0, hi0, hz0, hz1, hz2⟩ := info_parts infoBar
  have hA1 := new_below w (.cells #[.int .i64 p, .slice (some a) l.length cap] 26)
  have hA2 := new_below (w.alloc (.cells #[.int .i64 p, .slice (some a) l.length cap] 26)) (.cells #[.int .i64 0, .slice none 0 0] 26)
  have hA := below_on hA1 hA2 hA1.size
  have hsz1 : (w.alloc (.cells #[.int .i64 p, .slice (some a) l.length cap] 26)).heap.size = w.heap.size + 1 := by simp
  have hsz2 : ((w.alloc (.cells #[.int .i64 p, .slice (some a) l.length cap] 26)).alloc (.cells #[.int .i64 0, .slice none 0 0] 26)).heap.size = w.heap.size + 2 := by simp
  have hX := (box_new w p (.slice (some a) l.length cap) 26).kept hA2
  have hR := box_new (w.alloc (.cells #[.int .i64 p, .slice (some a) l.length cap] 26)) 0 (.slice none 0 0) 26
  have hF : ((w.alloc (.cells #[.int .i64 p, .slice (some a) l.length cap] 26)).alloc (.cells #[.int .i64 0, .slice none 0 0] 26)).frozen? ⟨(w.alloc (.cells #[.int .i64 p, .slice (some a) l.length cap] 26)).heap.size, 0, none⟩ = false ∧ ((w.alloc (.cells #[.int .i64 p, .slice (some a) l.length cap] 26)).alloc (.cells #[.int .i64 0, .slice none 0 0] 26)).frozen? ⟨(w.alloc (.cells #[.int .i64 p, .slice (some a) l.length cap] 26)).heap.size, 1, none⟩ = false := ⟨World.frozen?_alloc_at _ _ _ _ rfl, World.frozen?_alloc_at _ _ _ _ rfl⟩
  rw [hsz1] at hR hF
  have HLA := Lib.hid (hl.on hA)
  go_enter Try.func164, Try.ntmps164
  go_wp2_with fail
  generalize ((w.alloc (.cells #[.int .i64 p, .slice (some a) l.length cap] 26)).alloc (.cells #[.int .i64 0, .slice none 0 0] 26)) = w1 at *
  have hal := new_below w1 (.cells #[] 108)
  have HM := Lib.hid (World.ownsRow_made (base := w1.heap.size) (e := 108) (size := 2) w1 #[] 0 (Nat.le_refl _) (by unfold maxLen; omega) (by simp))
  have HC := Lib.hid (show ∀ j u, (barCells l)[j]? = some u → ((w1.alloc (.cells #[] 108)).drew).cell? (a.add j) = some u from fun j u hj => by
    have hlt : j < l.length * 2 := by
      have := (List.getElem?_eq_some_iff.1 hj).1
      rwa [barCells_len] at this
    obtain ⟨b, off, e, hb, hc⟩ := HLA.out (by omega)
    cases e
    have hadd : (⟨b, off, none⟩ : Addr).add j = ⟨b, off + j, none⟩ := by unfold Addr.add; split <;> simp_all
    rw [hadd]
    exact (hal.cell (p := ⟨b, off + j, none⟩) hb).trans (barCells_at hc j u hj))
  have HAD := Lib.hid (below_on hA hal hA.size)
  have HXD := Lib.hid (hX.kept hal)
  have HRD := Lib.hid (hR.kept hal)
  have HFD := Lib.hid (show (w1.alloc (.cells #[] 108)).frozen? ⟨w.heap.size + 1, 0, none⟩ = false ∧ (w1.alloc (.cells #[] 108)).frozen? ⟨w.heap.size + 1, 1, none⟩ = false from ⟨(hal.frozen (p := ⟨w.heap.size + 1, 0, none⟩) hR.1).trans hF.1, (hal.frozen (p := ⟨w.heap.size + 1, 1, none⟩) hR.1).trans hF.2⟩)
  obtain ⟨_, x0, x1⟩ := hX
  have HSZ := Lib.hid hsz2
  clear hl hA1 hA2 hA hsz1 hsz2 hR hF hal
  go_region_law (refine step_own (by rfl) _ _ _ (by rfl) w1.heap.size 108 i0 _ 2 16 Try.underlying24 hi0 hz0 hz1 hz2 rfl (by omega) _ 0 [] (by rfl) HM.out.drew a l.length cap (barCells l) (by rfl) (barCells_len l) HC.out (barCells_one l) (by unfold maxLen; omega) (by omega) (by simp) ?_; intro v' w3 ho hg; rw [Nat.zero_add, List.nil_append] at ho; obtain ⟨A2, c2, rfl⟩ := own_shape ho; have hb : Below w1.heap.size (w1.alloc (.cells #[] 108)) w3 := ((Below.refl _ _).drew).grown hg (by simp) (fun k hk => by cases hk; exact Nat.le_refl _); have hlt : w.heap.size + 1 < w1.heap.size := (by have := HSZ.out; omega); have y0 := (hb.cell (p := ⟨w.heap.size, 0, none⟩) (show w.heap.size < w1.heap.size by omega)).trans HXD.out.2.1; have z0 := (hb.cell (p := ⟨w.heap.size + 1, 0, none⟩) hlt).trans HRD.out.2.1; have z1 := (hb.cell (p := ⟨w.heap.size + 1, 1, none⟩) hlt).trans HRD.out.2.2; have f0 := (hb.frozen (p := ⟨w.heap.size + 1, 0, none⟩) hlt).trans HFD.out.1; have f1 := (hb.frozen (p := ⟨w.heap.size + 1, 1, none⟩) hlt).trans HFD.out.2; have HO := Lib.hid ho; have HB := Lib.hid (HAD.out.trans (hb.mono (by omega))); have HZ := Lib.hid (And.intro z0 z1); have HLT := Lib.hid hlt; clear ho hb hg hlt)
  all_goals
    go_wp2_with fail
    obtain ⟨s0, s1⟩ := ret_cells (p := p) (v := .slice A2 l.length c2) HZ.out.1 HZ.out.2
    obtain ⟨r1, r2⟩ := row_ret HO.out HB.out (r := w.heap.size + 1) (by omega) HLT.out (.int .i64 p) (.slice A2 l.length c2)
    refine bodyPost_ret (v := .agg #[.int .i64 p, .slice A2 l.length c2]) ?_ rfl ⟨A2, c2, rfl, ?_, ?_⟩
    · simp [results, Try.results164, go_sem, s0, s1]
    · first | exact r1 | exact r1.drew
    · first | exact r2 | exact r2.drew
end Go.Proofs.Ytdkpmaahinbhlaa
/- What spec.OnlyBars answers, and spec.l2Has. No condition. -/
namespace Go.Proofs.Ytdkpmaahinbhlaa
open Go.RowKit

/-- The first k bars whose index S takes. -/
def onlyK (l : List (Int × Int)) (S : Nat → Bool) : Nat → List (Int × Int)
  | 0 => []
  | k + 1 => onlyK l S k ++ if S k then [l.getD k (0, 0)] else []
def inS (zs : List Int) (k : Nat) : Bool := decide ((k : Int) ∈ zs)
def onlyL (l : List (Int × Int)) (zs : List Int) : List (Int × Int) := onlyK l (inS zs) l.length
theorem onlyK_len (l : List (Int × Int)) (S : Nat → Bool) : ∀ k, (onlyK l S k).length ≤ k := by
  intro k
  induction k with
  | zero => exact Nat.le_refl _
  | succ k ih =>
    rw [onlyK, List.length_append]
    split <;> simp <;> omega
theorem onlyL_len (l : List (Int × Int)) (zs : List Int) (h : l.length ≤ 1048576) : (onlyL l zs).length ≤ 1048576 := Nat.le_trans (onlyK_len _ _ _) h

set_option maxHeartbeats 4000000 in
set_option maxRecDepth 100000 in
theorem specOnly (p : Int) (l : List (Int × Int)) (zs : List Int) (A Z : Option Addr) (cap cz lo hi : Nat) (w : World) (hl : BarsAt w w.heap.size A l) (hz : IntsIn w lo hi Z zs) (hn : l.length ≤ 1048576) (hnz : zs.length ≤ 1048576) :
    Calls Try.prog 27 #[.agg #[.int .i64 p, .slice A l.length cap], .slice Z zs.length cz] w (GraphR w p (onlyL l zs)) := by
  have hA1 := new_below w (.cells #[.int .i64 p, .slice A l.length cap] 26)
  have hA2 := new_below (w.alloc (.cells #[.int .i64 p, .slice A l.length cap] 26)) (.cells #[.int .i64 0, .slice none 0 0] 26)
  have hsz1 : (w.alloc (.cells #[.int .i64 p, .slice A l.length cap] 26)).heap.size = w.heap.size + 1 := by simp
  have hsz2 : ((w.alloc (.cells #[.int .i64 p, .slice A l.length cap] 26)).alloc (.cells #[.int .i64 0, .slice none 0 0] 26)).heap.size = w.heap.size + 2 := by simp
  have HA := Lib.hid (below_on hA1 hA2 hA1.size)
  have HLW := Lib.hid hl
  have HZW := Lib.hid hz
  have BX := Lib.hid ((box_new w p (.slice A l.length cap) 26).kept hA2)
  have hR := box_new (w.alloc (.cells #[.int .i64 p, .slice A l.length cap] 26)) 0 (.slice none 0 0) 26
  have hF : ((w.alloc (.cells #[.int .i64 p, .slice A l.length cap] 26)).alloc (.cells #[.int .i64 0, .slice none 0 0] 26)).frozen? ⟨(w.alloc (.cells #[.int .i64 p, .slice A l.length cap] 26)).heap.size, 0, none⟩ = false ∧ ((w.alloc (.cells #[.int .i64 p, .slice A l.length cap] 26)).alloc (.cells #[.int .i64 0, .slice none 0 0] 26)).frozen? ⟨(w.alloc (.cells #[.int .i64 p, .slice A l.length cap] 26)).heap.size, 1, none⟩ = false := ⟨World.frozen?_alloc_at _ _ _ _ rfl, World.frozen?_alloc_at _ _ _ _ rfl⟩
  rw [hsz1] at hR hF
  have HR := Lib.hid hR
  have HF := Lib.hid hF
  have hG := gbox_made ((w.alloc (.cells #[.int .i64 p, .slice A l.length cap] 26)).alloc (.cells #[.int .i64 0, .slice none 0 0] 26)) w.heap.size [w.heap.size, w.heap.size + 1] p (by rw [hsz2]; omega) (fun o ho => by rw [hsz2]; simp at ho; omega)
  rw [hsz2] at hG
  have HG := Lib.hid hG
  clear hl hz hA1 hA2 hsz1 hR hF hG
  go_enter Try.func27, Try.ntmps27
  go_wp2_with fail
  have HSZ2 := Lib.hid hsz2
  clear hsz2
  generalize ((((w.alloc (.cells #[.int .i64 p, .slice A l.length cap] 26)).alloc (.cells #[.int .i64 0, .slice none 0 0] 26)).alloc (.cells #[] 108)).alloc (.cells #[.int .i64 p, .slice (some ⟨w.heap.size + 2, 0, none⟩) 0 0] 26)) = w1 at *
  generalize ((w.alloc (.cells #[.int .i64 p, .slice A l.length cap] 26)).alloc (.cells #[.int .i64 0, .slice none 0 0] 26)) = w0 at *
  go_loopw [6] (fun i wr => ∃ k : Nat, k ≤ l.length ∧ i = .int .i64 k ∧ ∃ A' c', GBox w.heap.size w0 wr (w.heap.size + 2 + 1) [w.heap.size, w.heap.size + 1] p A' c' (onlyK l (inS zs) k)) (fun i _ => l.length - (intOf i).toNat)
  case atStart => exact ⟨0, by omega, rfl, _, _, HG.out⟩
  case round =>
    obtain ⟨k, hk, rfl, A', c', hst⟩ := hrel
    have HST := Lib.hid hst
    have HBW := Lib.hid (HA.out.trans hst.2.2.2.2.2.1)
    have hbs : w.heap.size ≤ wr.heap.size := Nat.le_of_lt (Nat.lt_of_le_of_lt hst.2.2.2.2.2.2 hst.1.1)
    have b1 := (hst.cell (o := w.heap.size) (k := 1) (by simp)).trans BX.out.2.2
    clear hst
    by_cases hlt : k < l.length
    · have hik : (k : Int) < (l.length : Int) := by omega
      obtain ⟨b0, off, rfl, hbB, hcell⟩ := HLW.out (by omega)
      have hc1 := (HBW.out.cell (p := ⟨b0, off + k * 2, none⟩) hbB).trans (hcell k hlt).1
      have hc2 := (HBW.out.cell (p := ⟨b0, off + k * 2 + 1, none⟩) hbB).trans (hcell k hlt).2
      clear hcell
      have HZ := Lib.hid (show IntsIn wr lo hi Z zs from ⟨Nat.le_trans HZW.out.1 hbs, fun hl0 => by
        obtain ⟨bz, oz, e, h1, h2, hc⟩ := HZW.out.2 hl0
        exact ⟨bz, oz, e, h1, h2, fun j hj => (HBW.out.cell (p := ⟨bz, oz + j, none⟩) (Nat.lt_of_lt_of_le h2 HZW.out.1)).trans (hc j hj)⟩⟩)
      go_wp2_with fail
      refine (has_c zs (k : Int) Z cz lo hi _ HZ.out hnz).mono ?_
      rintro e w2 ⟨rfl, rfl⟩
      rcases hs : decide ((k : Int) ∈ zs) with _ | _
      · have HE := Lib.hid (show onlyK l (inS zs) (k + 1) = onlyK l (inS zs) k by rw [onlyK, show inS zs k = false from hs]; simp)
        go_wp2_with fail
        go_roundw
        case rel => exact ⟨k + 1, by omega, by go_num, A', c', by rw [HE.out]; exact HST.out⟩
        case measure => simp [intOf]; omega
      · have HE := Lib.hid (show onlyK l (inS zs) (k + 1) = onlyK l (inS zs) k ++ [l.getD k (0, 0)] by rw [onlyK, show inS zs k = true from hs]; simp)
        have hll := onlyK_len l (inS zs) k
        obtain ⟨x, hx⟩ : ∃ x, l.getD k (0, 0) = x := ⟨_, rfl⟩
        rw [hx] at hc1 hc2 HE
        clear hx
        obtain ⟨x1, x2⟩ := x
        simp only at hc1 hc2
        obtain ⟨L, hL⟩ : ∃ L, L = onlyK l (inS zs) k := ⟨_, rfl⟩
        rw [← hL] at HST HE hll
        clear hL
        obtain ⟨i0, hi0, hz0, hz1, hz2⟩ := info_parts infoBar
        obtain ⟨hlt0, g1, g2⟩ := HST.out.1
        have gf := HST.out.2.1
        go_wp2_with fail
        go_region_law (refine step_append_lies _ (by rfl) _ _ _ (by rfl) w.heap.size 108 i0 _ 2 16 Try.underlying24 hi0 hz0 hz1 hz2 rfl (by omega) _ L.length (barCells L) (by rfl) ((HST.out.2.2.2.1.alloc _).drew) ⟨wr.heap.size, 0, none⟩ 1 1 [.int .i64 x1, .int .i64 x2] (by rfl) (by rfl) (World.news_of_block (cs := #[.int .i64 x1, .int .i64 x2]) (t := 108) (fr := (0, 0)) (heap_alloc_new wr _)) (by simp [Value.oneCell']) (by omega) (by unfold maxLen; omega) (by omega) (by simp; omega) (wr.heap.size + 1) (by simp) ?_; intro gg cap2 w1' hown1 hgrow hat hlt; obtain ⟨c0, c1, f1, hG2⟩ := HST.out.push2 (x1, x2) hown1 hgrow hat; have HG2 := Lib.hid hG2; clear hown1 hgrow hat hG2)
        all_goals
          go_wp2_with fail
          go_roundw
          case rel => exact ⟨k + 1, by omega, by go_num, _, cap2, by rw [HE.out]; first | exact HG2.out | exact HG2.out.drew⟩
          case measure => simp [intOf]; omega
    · obtain rfl : k = l.length := by omega
      obtain ⟨_, g1, g2⟩ := HST.out.1
      have r0 := (HST.out.cell (o := w.heap.size + 1) (k := 0) (by simp)).trans HR.out.2.1
      have r1 := (HST.out.cell (o := w.heap.size + 1) (k := 1) (by simp)).trans HR.out.2.2
      have f0 := (HST.out.frozen (o := w.heap.size + 1) (k := 0) (by simp)).trans HF.out.1
      have f1 := (HST.out.frozen (o := w.heap.size + 1) (k := 1) (by simp)).trans HF.out.2
      have hr := HST.out.ret (o := w.heap.size + 1) (by simp) (by omega) (.int .i64 p) (.slice A' (onlyK l (inS zs) l.length).length c')
      have HRT := Lib.hid hr
      have s0 : ((wr.setCell ⟨w.heap.size + 1, 0, none⟩ (.int .i64 p)).setCell ⟨w.heap.size + 1, 1, none⟩ (.slice A' (onlyK l (inS zs) l.length).length c')).cell? ⟨w.heap.size + 1, 0, none⟩ = some (.int .i64 p) := by
        rw [World.cell?_setCell_other _ _ _ _ (by intro e; simp at e)]
        exact World.cell?_setCell_same _ _ _ r0
      have s1 : ((wr.setCell ⟨w.heap.size + 1, 0, none⟩ (.int .i64 p)).setCell ⟨w.heap.size + 1, 1, none⟩ (.slice A' (onlyK l (inS zs) l.length).length c')).cell? ⟨w.heap.size + 1, 1, none⟩ = some (.slice A' (onlyK l (inS zs) l.length).length c') := by
        have r2 : (wr.setCell ⟨w.heap.size + 1, 0, none⟩ (.int .i64 p)).cell? ⟨w.heap.size + 1, 1, none⟩ = some (.slice none 0 0) := by
          rw [World.cell?_setCell_other _ _ _ _ (by intro e; simp at e)]
          exact r1
        exact World.cell?_setCell_same _ _ _ r2
      clear hr
      go_wp2_with fail
      refine bodyPost_ret (v := .agg #[.int .i64 p, .slice A' (onlyK l (inS zs) l.length).length c']) ?_ rfl ⟨A', c', rfl, HRT.out.1.bars.at, HA.out.trans HRT.out.2⟩
      simp [results, Try.results27, go_sem, s0, s1]
end Go.Proofs.Ytdkpmaahinbhlaa
/- Sets of bars that the counts allow: no such set is greater than one that leaves no other bar free (the exchange of one bar for another, by sets of points that are full). Words on numbers and lists, of no program. No condition. -/
namespace Go.Proofs.Ytdkpmaahinbhlaa

/-- How many points the set m has below P. -/
def wid (P m : Nat) : Nat := (List.range P).countP fun v => m.testBit v
theorem wid_set (P m : Nat) : (setL P m).length = wid P m := outF_count P _
/-- How many bars of S the set m spans. -/
def cI (n : Nat) (x : Nat → Int × Int) (S : Nat → Bool) (m : Nat) : Nat := (List.range n).countP fun i => S i && bothB m (x i)
def szI (n : Nat) (S : Nat → Bool) : Nat := (List.range n).countP S
theorem cntR_add (p q r s : Nat → Bool) : ∀ n, (∀ i, i < n → (if p i then 1 else 0) + (if q i then 1 else 0) = (if r i then 1 else 0) + if s i then 1 else (0 : Nat)) →
    (List.range n).countP p + (List.range n).countP q = (List.range n).countP r + (List.range n).countP s := by
  intro n
  induction n with
  | zero => intro _; rfl
  | succ n ih =>
    intro h
    have h1 := ih fun i hi => h i (by omega)
    have h2 := h n (by omega)
    simp only [List.range_succ, List.countP_append, List.countP_cons, List.countP_nil]
    omega
theorem cntR_le (p q r s : Nat → Bool) : ∀ n, (∀ i, i < n → (if p i then 1 else 0) + (if q i then 1 else 0) ≤ (if r i then 1 else 0) + if s i then 1 else (0 : Nat)) →
    (List.range n).countP p + (List.range n).countP q ≤ (List.range n).countP r + (List.range n).countP s := by
  intro n
  induction n with
  | zero => intro _; exact Nat.le_refl _
  | succ n ih =>
    intro h
    have h1 := ih fun i hi => h i (by omega)
    have h2 := h n (by omega)
    simp only [List.range_succ, List.countP_append, List.countP_cons, List.countP_nil]
    omega
theorem cntR_one (i : Nat) : ∀ n, (List.range n).countP (fun j => decide (j = i)) = if i < n then 1 else 0 := by
  intro n
  induction n with
  | zero => simp
  | succ n ih =>
    rw [List.range_succ, List.countP_append, ih, List.countP_cons, List.countP_nil]
    by_cases h1 : n = i
    · subst h1; simp
    · by_cases h2 : i < n
      · have h3 : i < n + 1 := by omega
        simp [h1, h2, h3]
      · have h3 : ¬ i < n + 1 := by omega
        simp [h1, h2, h3]
theorem cntR_zero (n : Nat) : (List.range n).countP (fun _ => false) = 0 := by simp
theorem wid_or_and (P m m' : Nat) : wid P (m ||| m') + wid P (m &&& m') = wid P m + wid P m' := by
  unfold wid
  refine cntR_add _ _ _ _ P fun i _ => ?_
  rw [Nat.testBit_or, Nat.testBit_and]
  cases m.testBit i <;> cases m'.testBit i <;> rfl
theorem cI_or_and (n : Nat) (x : Nat → Int × Int) (S : Nat → Bool) (m m' : Nat) : cI n x S m + cI n x S m' ≤ cI n x S (m ||| m') + cI n x S (m &&& m') := by
  unfold cI
  refine cntR_le _ _ _ _ n fun i _ => ?_
  unfold bothB
  simp only [Nat.testBit_or, Nat.testBit_and]
  cases S i <;> cases m.testBit (x i).1.toNat <;> cases m'.testBit (x i).1.toNat <;> cases m.testBit (x i).2.toNat <;> cases m'.testBit (x i).2.toNat <;> decide
/-- Two points at least. -/
theorem wid_two {P m a b : Nat} (ha : a < P) (hb : b < P) (hab : a ≠ b) (h1 : m.testBit a = true) (h2 : m.testBit b = true) : 2 ≤ wid P m := by
  have h := cntR_le (fun j => decide (j = a)) (fun j => decide (j = b)) (fun v => m.testBit v) (fun _ => false) P fun i _ => by
    by_cases c1 : i = a
    · subst c1; simp [h1, hab]
    · by_cases c2 : i = b
      · subst c2; simp [h2, c1]
      · simp [c1, c2]
  rw [cntR_one, cntR_one, if_pos ha, if_pos hb, cntR_zero] at h
  exact h
/-- A set within another that has as many points is the same. -/
theorem wid_and_same {P m M : Nat} (h : wid P M ≤ wid P (m &&& M)) {v : Nat} (hv : v < P) (hm : M.testBit v = true) : m.testBit v = true := by
  cases e : m.testBit v with
  | true => rfl
  | false =>
    have h1 := cntR_le (fun j => decide (j = v)) (fun j => (m &&& M).testBit j) (fun v => M.testBit v) (fun _ => false) P fun i _ => by
      by_cases c1 : i = v
      · subst c1; simp [hm, e]
      · simp only [c1, Nat.testBit_and]
        cases m.testBit i <;> cases M.testBit i <;> decide
    rw [cntR_one, if_pos hv, cntR_zero] at h1
    unfold wid at h
    omega
/-- The bars of the ground. -/
structure Grd (P : Nat) (k c : Int) (n : Nat) (x : Nat → Int × Int) : Prop where
  bar : ∀ i, i < n → 0 ≤ (x i).1 ∧ (x i).1 < (x i).2 ∧ (x i).2 < (P : Int)
  k1 : 1 ≤ k
  c0 : 0 ≤ c
  c2 : c < 2 * k
def IndI (P : Nat) (k c : Int) (n : Nat) (x : Nat → Int × Int) (S : Nat → Bool) : Prop := ∀ m, 0 < cI n x S m → (cI n x S m : Int) ≤ k * (wid P m : Int) - c
def TightI (P : Nat) (k c : Int) (n : Nat) (x : Nat → Int × Int) (S : Nat → Bool) (m : Nat) : Prop := (cI n x S m : Int) = k * (wid P m : Int) - c
theorem kw_pos {k c : Int} {w : Nat} (hk : 1 ≤ k) (hc : c < 2 * k) (h : 2 ≤ w) : 0 < k * (w : Int) - c := by
  have : 2 * k ≤ k * (w : Int) := by
    rw [Int.mul_comm 2 k]
    exact Int.mul_le_mul_of_nonneg_left (by omega) (by omega)
  omega
theorem Grd.two {P : Nat} {k c : Int} {n : Nat} {x : Nat → Int × Int} (g : Grd P k c n x) {i : Nat} (hi : i < n) {m : Nat} (h : bothB m (x i) = true) : 2 ≤ wid P m := by
  have hb := g.bar i hi
  unfold bothB at h
  rw [Bool.and_eq_true] at h
  exact wid_two (a := (x i).1.toNat) (b := (x i).2.toNat) (by omega) (by omega) (by omega) h.1 h.2
theorem both_and {m m' : Nat} {y : Int × Int} (h : bothB m y = true) (h' : bothB m' y = true) : bothB (m &&& m') y = true := by
  unfold bothB at *
  rw [Bool.and_eq_true] at *
  rw [Nat.testBit_and, Nat.testBit_and, h.1, h.2, h'.1, h'.2]
  exact ⟨rfl, rfl⟩
theorem both_or {m m' : Nat} {y : Int × Int} (h : bothB m y = true) : bothB (m ||| m') y = true := by
  unfold bothB at *
  rw [Bool.and_eq_true] at *
  rw [Nat.testBit_or, Nat.testBit_or, h.1, h.2]
  exact ⟨rfl, rfl⟩
theorem both_or' {m m' : Nat} {y : Int × Int} (h : bothB m' y = true) : bothB (m ||| m') y = true := by
  rw [Nat.or_comm]
  exact both_or h
theorem uncross {P : Nat} {k c : Int} {n : Nat} {x : Nat → Int × Int} (g : Grd P k c n x) {S : Nat → Bool} (hS : IndI P k c n x S) {m m' : Nat} (h : TightI P k c n x S m) (h' : TightI P k c n x S m') {i : Nat} (hi : i < n) (b : bothB m (x i) = true) (b' : bothB m' (x i) = true) :
    TightI P k c n x S (m ||| m') ∧ TightI P k c n x S (m &&& m') := by
  have h1 := cI_or_and n x S m m'
  have h2 := wid_or_and P m m'
  have q1 := kw_pos g.k1 g.c2 (g.two hi (both_or b (m' := m')))
  have q2 := kw_pos g.k1 g.c2 (g.two hi (both_and b b'))
  have i1 := hS (m ||| m')
  have i2 := hS (m &&& m')
  unfold TightI at *
  have h3 : k * (wid P (m ||| m') : Int) + k * (wid P (m &&& m') : Int) = k * (wid P m : Int) + k * (wid P m' : Int) := by
    rw [← Int.mul_add, ← Int.mul_add]
    congr 1
    omega
  generalize k * (wid P (m ||| m') : Int) = u1 at *
  generalize k * (wid P (m &&& m') : Int) = u2 at *
  generalize k * (wid P m : Int) = u3 at *
  generalize k * (wid P m' : Int) = u4 at *
  have j1 : (cI n x S (m ||| m') : Int) ≤ u1 - c := by
    by_cases z : 0 < cI n x S (m ||| m')
    · exact i1 z
    · omega
  have j2 : (cI n x S (m &&& m') : Int) ≤ u2 - c := by
    by_cases z : 0 < cI n x S (m &&& m')
    · exact i2 z
    · omega
  omega
/-- A bar that can't be had beside I: it is there, or a tight set holds both its ends. -/
def BlockI (P : Nat) (k c : Int) (n : Nat) (x : Nat → Int × Int) (I : Nat → Bool) (j : Nat) : Prop := I j = true ∨ ∃ m, TightI P k c n x I m ∧ bothB m (x j) = true
theorem least_tight {P : Nat} {k c : Int} {n : Nat} {x : Nat → Int × Int} {I : Nat → Bool} {j : Nat} : ∀ d m, wid P m ≤ d → TightI P k c n x I m → bothB m (x j) = true →
    ∃ M, TightI P k c n x I M ∧ bothB M (x j) = true ∧ ∀ m', TightI P k c n x I m' → bothB m' (x j) = true → wid P M ≤ wid P m' := by
  intro d
  induction d with
  | zero => intro m hd h b; exact ⟨m, h, b, fun m' _ _ => by omega⟩
  | succ d ih =>
    intro m hd h b
    by_cases z : ∃ m', TightI P k c n x I m' ∧ bothB m' (x j) = true ∧ wid P m' ≤ d
    · obtain ⟨m', h', b', w'⟩ := z
      exact ih m' w' h' b'
    · refine ⟨m, h, b, fun m' h' b' => Classical.byContradiction fun e => z ⟨m', h', b', by omega⟩⟩
/-- One bar for another. -/
def swapI (I : Nat → Bool) (y j : Nat) (i : Nat) : Bool := if i = y then false else if i = j then true else I i
theorem cI_swap {n : Nat} {x : Nat → Int × Int} {I : Nat → Bool} {y j : Nat} (hy : y < n) (hj : j < n) (Iy : I y = true) (Ij : I j = false) (m : Nat) :
    cI n x (swapI I y j) m + (if bothB m (x y) then 1 else 0) = cI n x I m + if bothB m (x j) then 1 else 0 := by
  have hyj : y ≠ j := fun e => by rw [e, Ij] at Iy; cases Iy
  have h := cntR_add (fun i => swapI I y j i && bothB m (x i)) (fun i => decide (i = y) && bothB m (x i)) (fun i => I i && bothB m (x i)) (fun i => decide (i = j) && bothB m (x i)) n fun i _ => by
    unfold swapI
    by_cases c1 : i = y
    · subst c1; simp [Iy, hyj]
    · by_cases c2 : i = j
      · subst c2; simp [Ij, c1]
      · simp [c1, c2]
  have one : ∀ u, u < n → (List.range n).countP (fun i => decide (i = u) && bothB m (x i)) = if bothB m (x u) then 1 else 0 := fun u hu => by
    cases e : bothB m (x u) with
    | true =>
      rw [if_pos rfl]
      refine Eq.trans (List.countP_congr fun i _ => ?_) (Eq.trans (cntR_one u n) (if_pos hu))
      by_cases c1 : i = u
      · subst c1; simp [e]
      · simp [c1]
    | false =>
      rw [if_neg (by simp)]
      refine Eq.trans (List.countP_congr fun i _ => ?_) (cntR_zero n)
      by_cases c1 : i = u
      · subst c1; simp [e]
      · simp [c1]
  rw [one y hy, one j hj] at h
  exact h
theorem szI_swap {n : Nat} {I : Nat → Bool} {y j : Nat} (hy : y < n) (hj : j < n) (Iy : I y = true) (Ij : I j = false) : szI n (swapI I y j) = szI n I := by
  have hyj : y ≠ j := fun e => by rw [e, Ij] at Iy; cases Iy
  have h := cntR_add (fun i => swapI I y j i) (fun i => decide (i = y)) (fun i => I i) (fun i => decide (i = j)) n fun i _ => by
    unfold swapI
    by_cases c1 : i = y
    · subst c1; simp [Iy, hyj]
    · by_cases c2 : i = j
      · subst c2; simp [Ij, c1]
      · simp [c1, c2]
  rw [cntR_one, cntR_one, if_pos hy, if_pos hj] at h
  exact Nat.add_right_cancel h
theorem rest_swap {n : Nat} {I J : Nat → Bool} {y j : Nat} (hj : j < n) (Jy : J y = false) (Jj : J j = true) (Ij : I j = false) :
    (List.range n).countP (fun i => J i && !swapI I y j i) + 1 = (List.range n).countP (fun i => J i && !I i) := by
  have h := cntR_add (fun i => J i && !swapI I y j i) (fun i => decide (i = j)) (fun i => J i && !I i) (fun _ => false) n fun i _ => by
    unfold swapI
    by_cases c1 : i = y
    · subst c1
      have : i ≠ j := fun e => by rw [e, Jj] at Jy; cases Jy
      simp [Jy, this]
    · by_cases c2 : i = j
      · subst c2; simp [Ij, Jj, c1]
      · simp [c1, c2]
  rw [cntR_one, if_pos hj, cntR_zero] at h
  exact h
/-- No independent set of bars is greater than one that blocks all its bars. -/
theorem block_le {P : Nat} {k c : Int} {n : Nat} {x : Nat → Int × Int} (g : Grd P k c n x) {J : Nat → Bool} (hJ : IndI P k c n x J) : ∀ d (I : Nat → Bool), (List.range n).countP (fun i => J i && !I i) = d → IndI P k c n x I →
    (∀ j, j < n → J j = true → BlockI P k c n x I j) → szI n J ≤ szI n I := by
  intro d
  induction d with
  | zero =>
    intro I hd _ _
    unfold szI
    refine List.countP_mono_left fun i hi hJi => ?_
    rw [List.countP_eq_zero] at hd
    have := hd i hi
    rw [hJi] at this
    simpa using this
  | succ d ih =>
    intro I hd hI hb
    have hpos : 0 < (List.range n).countP (fun i => J i && !I i) := by omega
    obtain ⟨j, hj, hJI⟩ := List.countP_pos_iff.1 hpos
    have hj := List.mem_range.1 hj
    rw [Bool.and_eq_true] at hJI
    obtain ⟨Jj, Ij⟩ := hJI
    have Ij : I j = false := by simpa using Ij
    have hbj : ∃ m, TightI P k c n x I m ∧ bothB m (x j) = true := by
      rcases hb j hj Jj with h | h
      · rw [Ij] at h; cases h
      · exact h
    obtain ⟨m0, t0, b0⟩ := hbj
    obtain ⟨M, tM, bM, minM⟩ := least_tight (wid P m0) m0 (Nat.le_refl _) t0 b0
    have hy : ∃ y, y < n ∧ I y = true ∧ bothB M (x y) = true ∧ J y = false := by
      refine Classical.byContradiction fun hno => ?_
      have hle := cntR_le (fun i => I i && bothB M (x i)) (fun i => decide (i = j)) (fun i => J i && bothB M (x i)) (fun _ => false) n fun i hi => by
        by_cases c1 : i = j
        · subst c1; simp [Ij, Jj, bM]
        · cases e1 : I i with
          | false => simp [c1]
          | true =>
            cases e2 : bothB M (x i) with
            | false => simp [c1]
            | true =>
              cases e3 : J i with
              | false => exact absurd ⟨i, hi, e1, e2, e3⟩ hno
              | true => simp [c1]
      rw [cntR_one, if_pos hj, cntR_zero] at hle
      have h1 := hJ M
      have hle : cI n x I M + 1 ≤ cI n x J M := hle
      unfold TightI at tM
      have := h1 (by omega)
      omega
    obtain ⟨y, hy, Iy, by', Jy⟩ := hy
    have hc := cI_swap (x := x) hy hj Iy Ij
    have hI' : IndI P k c n x (swapI I y j) := by
      intro m hm
      have e := hc m
      have hi := hI m
      by_cases c1 : bothB m (x j) = true
      · by_cases c2 : bothB m (x y) = true
        · rw [if_pos c1, if_pos c2] at e
          have := hi (by omega)
          omega
        · rw [if_pos c1, if_neg c2] at e
          have hkw := kw_pos g.k1 g.c2 (g.two hj c1)
          have hno : ¬ TightI P k c n x I m := fun t => by
            have hu := (uncross g hI t tM hj c1 bM).2
            have hw := minM _ hu (both_and c1 bM)
            have hby := g.bar y hy
            unfold bothB at by' c2
            rw [Bool.and_eq_true] at by'
            exact c2 (by rw [wid_and_same hw (by omega) by'.1, wid_and_same hw (by omega) by'.2]; rfl)
          unfold TightI at hno
          by_cases z : 0 < cI n x I m
          · have := hi z
            omega
          · omega
      · rw [if_neg c1] at e
        have : cI n x (swapI I y j) m ≤ cI n x I m := by omega
        have := hi (by omega)
        omega
    rw [← szI_swap hy hj Iy Ij]
    have hr := rest_swap hj Jy Jj Ij
    refine ih (swapI I y j) (by omega) hI' fun j' hj' Jj' => ?_
    rcases hb j' hj' Jj' with h | ⟨m, t, b⟩
    · left
      unfold swapI
      rw [if_neg (fun e => by rw [e, Jy] at Jj'; cases Jj')]
      split
      · rfl
      · exact h
    · right
      by_cases c2 : bothB m (x y) = true
      · refine ⟨m ||| M, ?_, both_or b⟩
        have hu := (uncross g hI t tM hy c2 by').1
        have e := hc (m ||| M)
        rw [if_pos (both_or c2), if_pos (both_or' bM)] at e
        unfold TightI at *
        omega
      · refine ⟨m, ?_, b⟩
        have e := hc m
        rw [if_neg c2] at e
        unfold TightI at *
        by_cases c1 : bothB m (x j) = true
        · rw [if_pos c1] at e
          have := hI' m (by omega)
          omega
        · rw [if_neg c1] at e
          omega
end Go.Proofs.Ytdkpmaahinbhlaa
/- The pebble game on lists: the search by breadth, the path turned round, the gathering. No program. No condition. -/
namespace Go.Proofs.Ytdkpmaahinbhlaa

/-- The other end of a bar. -/
def oth (x : Int × Int) (v : Int) : Int := x.1 + x.2 - v
def isEnd (x : Int × Int) (v : Int) : Prop := v = x.1 ∨ v = x.2
theorem oth_oth (x : Int × Int) (v : Int) : oth x (oth x v) = v := by unfold oth; omega
theorem oth_end {x : Int × Int} {v : Int} (h : isEnd x v) : isEnd x (oth x v) := by unfold isEnd oth at *; omega

/-- One bar looked at from the point v: its other end is put in the queue if it is new. -/
def scan1 (E : List (Int × Int)) (T : List Int) (v : Int) (q : List (Int × Nat)) (i : Nat) : List (Int × Nat) :=
  if T.getD i 0 = v ∧ oth (E.getD i (0, 0)) v ∉ q.map Prod.fst then q ++ [(oth (E.getD i (0, 0)) v, i)] else q
def scanN (E : List (Int × Int)) (T : List Int) (v : Int) (q : List (Int × Nat)) : Nat → List (Int × Nat)
  | 0 => q
  | n + 1 => scan1 E T v (scanN E T v q n) n
/-- The queue after k points were looked at. -/
def bfs (E : List (Int × Int)) (T : List Int) (a : Int) : Nat → List (Int × Nat)
  | 0 => [(a, 0)]
  | k + 1 => if k < (bfs E T a k).length then scanN E T ((bfs E T a k).getD k (0, 0)).1 (bfs E T a k) E.length else bfs E T a k

theorem bfs_succ (E : List (Int × Int)) (T : List Int) (a : Int) (k : Nat) : bfs E T a (k + 1) = if k < (bfs E T a k).length then scanN E T ((bfs E T a k).getD k (0, 0)).1 (bfs E T a k) E.length else bfs E T a k := rfl
theorem scan1_pre (E : List (Int × Int)) (T : List Int) (v : Int) (q : List (Int × Nat)) (i : Nat) : ∃ r, scan1 E T v q i = q ++ r := by
  unfold scan1
  split
  · exact ⟨_, rfl⟩
  · exact ⟨[], (List.append_nil _).symm⟩
theorem scanN_pre (E : List (Int × Int)) (T : List Int) (v : Int) (q : List (Int × Nat)) (n : Nat) : ∃ r, scanN E T v q n = q ++ r := by
  induction n with
  | zero => exact ⟨[], (List.append_nil _).symm⟩
  | succ n ih =>
    obtain ⟨r, h⟩ := ih
    obtain ⟨s, h2⟩ := scan1_pre E T v (scanN E T v q n) n
    exact ⟨r ++ s, by show scan1 E T v (scanN E T v q n) n = _; rw [h2, h, List.append_assoc]⟩
theorem scanN_mono (E : List (Int × Int)) (T : List Int) (v : Int) (q : List (Int × Nat)) (n m : Nat) : ∃ r, scanN E T v q (n + m) = scanN E T v q n ++ r := by
  induction m with
  | zero => exact ⟨[], (List.append_nil _).symm⟩
  | succ m ih =>
    obtain ⟨r, h⟩ := ih
    obtain ⟨s, h2⟩ := scan1_pre E T v (scanN E T v q (n + m)) (n + m)
    exact ⟨r ++ s, by show scan1 E T v (scanN E T v q (n + m)) (n + m) = _; rw [h2, h, List.append_assoc]⟩
theorem bfs_pre1 (E : List (Int × Int)) (T : List Int) (a : Int) (k : Nat) : ∃ r, bfs E T a (k + 1) = bfs E T a k ++ r := by
  rw [bfs_succ]
  split
  · exact scanN_pre ..
  · exact ⟨[], (List.append_nil _).symm⟩
theorem bfs_pre (E : List (Int × Int)) (T : List Int) (a : Int) (k m : Nat) : ∃ r, bfs E T a (k + m) = bfs E T a k ++ r := by
  induction m with
  | zero => exact ⟨[], (List.append_nil _).symm⟩
  | succ m ih =>
    obtain ⟨r, h⟩ := ih
    obtain ⟨s, h2⟩ := bfs_pre1 E T a (k + m)
    exact ⟨r ++ s, by show bfs E T a (k + m + 1) = _; rw [h2, h, List.append_assoc]⟩
theorem bfs_stop (E : List (Int × Int)) (T : List Int) (a : Int) (k m : Nat) (h : (bfs E T a k).length ≤ k) : bfs E T a (k + m) = bfs E T a k := by
  induction m with
  | zero => rfl
  | succ m ih =>
    rw [show k + (m + 1) = k + m + 1 by omega, bfs_succ, ih, if_neg (by omega)]

/-- How the queue is: each point but the first was reached along a bar whose tail was reached before. -/
structure GoodQ (P : Nat) (E : List (Int × Int)) (T : List Int) (a : Int) (q : List (Int × Nat)) : Prop where
  start : ∃ r, q = (a, 0) :: r
  step : ∀ q1 x q2, q = q1 ++ x :: q2 → q1 ≠ [] → x.1 ∉ q1.map Prod.fst ∧ x.2 < E.length ∧ T.getD x.2 0 = oth (E.getD x.2 (0, 0)) x.1 ∧ T.getD x.2 0 ∈ q1.map Prod.fst ∧ 0 ≤ x.1 ∧ x.1 < (P : Int)
  len : q.length ≤ cntF P (fun v => decide ((v : Int) ∈ q.map Prod.fst))

theorem GoodQ.snoc {P : Nat} {E : List (Int × Int)} {T : List Int} {a : Int} {q : List (Int × Nat)} (h : GoodQ P E T a q) {x : Int × Nat}
    (h1 : x.1 ∉ q.map Prod.fst) (h2 : x.2 < E.length) (h3 : T.getD x.2 0 = oth (E.getD x.2 (0, 0)) x.1) (h4 : T.getD x.2 0 ∈ q.map Prod.fst) (h5 : 0 ≤ x.1 ∧ x.1 < (P : Int)) : GoodQ P E T a (q ++ [x]) := by
  refine ⟨?_, ?_, ?_⟩
  · obtain ⟨r, e⟩ := h.start
    exact ⟨r ++ [x], by rw [e]; rfl⟩
  · intro q1 y q2 e hne
    rcases List.eq_nil_or_concat q2 with rfl | ⟨q3, z, rfl⟩
    · obtain ⟨rfl, e2⟩ := List.append_inj' e rfl
      cases e2
      exact ⟨h1, h2, h3, h4, h5⟩
    · have e' : q ++ [x] = (q1 ++ y :: q3) ++ [z] := by rw [e]; simp
      obtain ⟨e3, _⟩ := List.append_inj' e' rfl
      exact h.step q1 y q3 e3 hne
  · have hs := cntF_step P (fun v => decide ((v : Int) ∈ q.map Prod.fst)) (fun v => decide ((v : Int) ∈ (q ++ [x]).map Prod.fst)) (fun v hv => by
      have := of_decide_eq_true hv
      refine decide_eq_true ?_
      rw [List.map_append]
      exact List.mem_append_left _ this)
    have hlt : ¬ cntF P (fun v => decide ((v : Int) ∈ (q ++ [x]).map Prod.fst)) ≤ cntF P (fun v => decide ((v : Int) ∈ q.map Prod.fst)) := fun hle => by
      have := hs.2 hle x.1.toNat (by omega)
      have e : ((x.1.toNat : Nat) : Int) = x.1 := by omega
      rw [e] at this
      rw [decide_eq_false h1, decide_eq_true (by simp)] at this
      cases this
    have := h.len
    simp only [List.length_append, List.length_cons, List.length_nil]
    omega
theorem GoodQ.short {P : Nat} {E : List (Int × Int)} {T : List Int} {a : Int} {q : List (Int × Nat)} (h : GoodQ P E T a q) : q.length ≤ P := Nat.le_trans h.len (cntF_all P _).1
theorem goodQ_one {P : Nat} (E : List (Int × Int)) (T : List Int) {a : Int} (h0 : 0 ≤ a) (h1 : a < (P : Int)) : GoodQ P E T a [(a, 0)] := by
  refine ⟨⟨[], rfl⟩, ?_, ?_⟩
  · intro q1 x q2 e hne
    cases q1 with
    | nil => exact absurd rfl hne
    | cons y t =>
      have := congrArg List.length e
      simp at this
  · have := cntF_one P a.toNat (by omega)
    have e : (fun v : Nat => decide ((v : Int) ∈ [(a, (0 : Nat))].map Prod.fst)) = fun v => decide (v = a.toNat) := by
      funext v
      by_cases h : v = a.toNat
      · rw [decide_eq_true h, decide_eq_true]; simp; omega
      · rw [decide_eq_false h, decide_eq_false]; simp; omega
    rw [e]
    exact this
/-- The bars of a state: their ends are points, and the tails are ends. -/
structure EndsQ (P : Nat) (E : List (Int × Int)) (T : List Int) : Prop where
  len : T.length = E.length
  bar : ∀ i, i < E.length → 0 ≤ (E.getD i (0, 0)).1 ∧ (E.getD i (0, 0)).1 < (E.getD i (0, 0)).2 ∧ (E.getD i (0, 0)).2 < (P : Int)
  tail : ∀ i, i < E.length → isEnd (E.getD i (0, 0)) (T.getD i 0)
theorem EndsQ.oth_in {P : Nat} {E : List (Int × Int)} {T : List Int} (h : EndsQ P E T) {i : Nat} (hi : i < E.length) {v : Int} (hv : T.getD i 0 = v) : 0 ≤ oth (E.getD i (0, 0)) v ∧ oth (E.getD i (0, 0)) v < (P : Int) ∧ oth (E.getD i (0, 0)) v ≠ v := by
  have h1 := h.bar i hi
  have h2 := h.tail i hi
  rw [hv] at h2
  unfold isEnd at h2
  unfold oth
  omega
theorem GoodQ.scan {P : Nat} {E : List (Int × Int)} {T : List Int} {a : Int} {q : List (Int × Nat)} (h : GoodQ P E T a q) (he : EndsQ P E T) {v : Int} (hv : v ∈ q.map Prod.fst) : ∀ n, n ≤ E.length → GoodQ P E T a (scanN E T v q n) ∧ v ∈ (scanN E T v q n).map Prod.fst := by
  intro n
  induction n with
  | zero => intro _; exact ⟨h, hv⟩
  | succ n ih =>
    intro hn
    obtain ⟨i1, i2⟩ := ih (by omega)
    have e : scanN E T v q (n + 1) = scan1 E T v (scanN E T v q n) n := rfl
    rw [e]
    unfold scan1
    by_cases c : T.getD n 0 = v ∧ oth (E.getD n (0, 0)) v ∉ (scanN E T v q n).map Prod.fst
    · rw [if_pos c]
      have ho := he.oth_in (i := n) (by omega) c.1
      refine ⟨i1.snoc c.2 (by show n < E.length; omega) ?_ ?_ ⟨ho.1, ho.2.1⟩, ?_⟩
      · show T.getD n 0 = oth (E.getD n (0, 0)) (oth (E.getD n (0, 0)) v)
        rw [oth_oth]
        exact c.1
      · show T.getD n 0 ∈ _
        rw [c.1]
        exact i2
      · rw [List.map_append]
        exact List.mem_append_left _ i2
    · rw [if_neg c]
      exact ⟨i1, i2⟩
theorem getD_mem_fst (q : List (Int × Nat)) (k : Nat) (h : k < q.length) : (q.getD k (0, 0)).1 ∈ q.map Prod.fst := by
  have : q.getD k (0, 0) = q[k] := by simp [List.getD, List.getElem?_eq_getElem h]
  rw [this]
  exact List.mem_map_of_mem (List.getElem_mem h)
theorem bfs_good {P : Nat} {E : List (Int × Int)} {T : List Int} {a : Int} (he : EndsQ P E T) (h0 : 0 ≤ a) (h1 : a < (P : Int)) : ∀ k, GoodQ P E T a (bfs E T a k) := by
  intro k
  induction k with
  | zero => exact goodQ_one E T h0 h1
  | succ k ih =>
    rw [bfs_succ]
    split
    · rename_i h
      exact (ih.scan he (getD_mem_fst _ k h) E.length (Nat.le_refl _)).1
    · exact ih

/-- The queue, whole. -/
def bfsQ (E : List (Int × Int)) (T : List Int) (a : Int) : List (Int × Nat) := bfs E T a (max E.length 8)
/-- A point that can give a pebble. -/
def givesB (F : List Int) (a b : Int) (x : Int × Nat) : Bool := decide (x.1 ≠ a) && decide (x.1 ≠ b) && decide (0 < F.getD x.1.toNat 0)
theorem bfsQ_pre (E : List (Int × Int)) (T : List Int) (a : Int) (k : Nat) (h : k ≤ 8) : ∃ r, bfsQ E T a = bfs E T a k ++ r := by
  have := bfs_pre E T a k (max E.length 8 - k)
  rw [show k + (max E.length 8 - k) = max E.length 8 by omega] at this
  exact this
theorem find_front {α : Type} (p : α → Bool) (q r : List α) (x : α) (h : ∀ y ∈ q, p y = false) (hx : p x = true) : (q ++ x :: r).find? p = some x := by
  rw [List.find?_append, List.find?_eq_none.2 fun y hy => by rw [h y hy]; simp]
  simp [hx]
/-- The specification's walk ends here. -/
theorem find_spec {E : List (Int × Int)} {T F : List Int} {a b : Int} (k i : Nat) (hk : k < (bfs E T a k).length) (hk8 : k < 8) (hi : i < E.length) {v : Int} (hv : ((bfs E T a k).getD k (0, 0)).1 = v) (ht : T.getD i 0 = v)
    (hno : ∀ y ∈ scanN E T v (bfs E T a k) i, givesB F a b y = false) (hu : oth (E.getD i (0, 0)) v ∉ (scanN E T v (bfs E T a k) i).map Prod.fst) (hg : givesB F a b (oth (E.getD i (0, 0)) v, i) = true) :
    (bfsQ E T a).find? (givesB F a b) = some (oth (E.getD i (0, 0)) v, i) ∧ ∃ r, bfsQ E T a = scanN E T v (bfs E T a k) i ++ (oth (E.getD i (0, 0)) v, i) :: r := by
  have e : ∃ r, bfsQ E T a = scanN E T v (bfs E T a k) i ++ (oth (E.getD i (0, 0)) v, i) :: r := by
    obtain ⟨r, h⟩ := bfsQ_pre E T a (k + 1) (by omega)
    have h1 : bfs E T a (k + 1) = scanN E T v (bfs E T a k) E.length := by rw [bfs_succ, if_pos hk, hv]
    obtain ⟨s, h2⟩ := scanN_mono E T v (bfs E T a k) (i + 1) (E.length - (i + 1))
    rw [show i + 1 + (E.length - (i + 1)) = E.length by omega] at h2
    have h3 : scanN E T v (bfs E T a k) (i + 1) = scanN E T v (bfs E T a k) i ++ [(oth (E.getD i (0, 0)) v, i)] := by
      show scan1 E T v _ i = _
      unfold scan1
      rw [if_pos ⟨ht, hu⟩]
    exact ⟨s ++ r, by rw [h, h1, h2, h3]; simp⟩
  obtain ⟨r, e⟩ := e
  exact ⟨by rw [e]; exact find_front _ _ _ _ hno hg, r, e⟩
/-- The program's walk ends here. -/
theorem find_impl {E : List (Int × Int)} {T F : List Int} {a b : Int} (k : Nat) (hk : k < (bfs E T a k).length) (hk8 : k < 8)
    (hno : ∀ y ∈ (bfs E T a k).take k, givesB F a b y = false) (hg : givesB F a b ((bfs E T a k).getD k (0, 0)) = true) :
    (bfsQ E T a).find? (givesB F a b) = some ((bfs E T a k).getD k (0, 0)) ∧ ∃ r, bfsQ E T a = (bfs E T a k).take k ++ ((bfs E T a k).getD k (0, 0)) :: r := by
  obtain ⟨r, h⟩ := bfsQ_pre E T a k (by omega)
  have e : bfsQ E T a = (bfs E T a k).take k ++ ((bfs E T a k).getD k (0, 0)) :: ((bfs E T a k).drop (k + 1) ++ r) := by
    rw [h]
    have h1 := List.take_append_drop k (bfs E T a k)
    have h2 := List.drop_eq_getElem_cons hk
    have h3 : (bfs E T a k).getD k (0, 0) = (bfs E T a k)[k] := by simp [List.getD, List.getElem?_eq_getElem hk]
    rw [h3]
    calc bfs E T a k ++ r = ((bfs E T a k).take k ++ (bfs E T a k).drop k) ++ r := by rw [h1]
      _ = _ := by rw [h2, List.append_assoc]; rfl
  exact ⟨by rw [e]; exact find_front _ _ _ _ hno hg, _, e⟩
/-- Neither finds a point. -/
theorem find_no {E : List (Int × Int)} {T F : List Int} {a b : Int} (k : Nat) (hk : (bfs E T a k).length ≤ k) (hk8 : k ≤ 8) (hno : ∀ y ∈ bfs E T a k, givesB F a b y = false) : (bfsQ E T a).find? (givesB F a b) = none := by
  have e : bfsQ E T a = bfs E T a k := by
    have := bfs_stop E T a k (max E.length 8 - k) hk
    rw [show k + (max E.length 8 - k) = max E.length 8 by omega] at this
    exact this
  rw [e]
  exact List.find?_eq_none.2 fun y hy => by rw [hno y hy]; simp

/-- The path from 'at' back to a, turned round; the queue is read from its end. -/
def turnQ (E : List (Int × Int)) (a : Int) : List (Int × Nat) → Int → List Int → List Int
  | [], _, T => T
  | (v, i) :: r, t, T => if v = t ∧ t ≠ a then turnQ E a r (oth (E.getD i (0, 0)) t) (T.set i t) else turnQ E a r t T
theorem turnQ_a (E : List (Int × Int)) (a : Int) (r : List (Int × Nat)) (T : List Int) : turnQ E a r a T = T := by
  induction r with
  | nil => rfl
  | cons x r ih =>
    obtain ⟨v, i⟩ := x
    unfold turnQ
    rw [if_neg (by simp), ih]
theorem turnQ_skip (E : List (Int × Int)) (a t : Int) (q r : List (Int × Nat)) (T : List Int) (h : t ∉ q.map Prod.fst) : turnQ E a (q ++ r) t T = turnQ E a r t T := by
  induction q with
  | nil => rfl
  | cons x q ih =>
    obtain ⟨v, i⟩ := x
    simp only [List.map_cons, List.mem_cons, not_or] at h
    rw [List.cons_append, turnQ, if_neg (fun c => h.1 c.1.symm), ih h.2]
theorem turnQ_step (E : List (Int × Int)) (a t : Int) (i : Nat) (q1 q2 : List (Int × Nat)) (T : List Int) (h : t ∉ q2.map Prod.fst) (ha : t ≠ a) :
    turnQ E a (q1 ++ (t, i) :: q2).reverse t T = turnQ E a q1.reverse (oth (E.getD i (0, 0)) t) (T.set i t) := by
  rw [show (q1 ++ (t, i) :: q2).reverse = q2.reverse ++ ((t, i) :: q1.reverse) by simp, turnQ_skip _ _ _ _ _ _ (by simpa using h), turnQ, if_pos ⟨rfl, ha⟩]
theorem GoodQ.nodup {P : Nat} {E : List (Int × Int)} {T : List Int} {a : Int} {q : List (Int × Nat)} (h : GoodQ P E T a q) {q1 q2 : List (Int × Nat)} {x : Int × Nat} (e : q = q1 ++ x :: q2) : x.1 ∉ q2.map Prod.fst := by
  intro hm
  obtain ⟨y, hy, e1⟩ := List.mem_map.1 hm
  obtain ⟨q3, q4, rfl⟩ := List.append_of_mem hy
  have := (h.step (q1 ++ x :: q3) y q4 (by rw [e]; simp) (by simp)).1
  rw [e1] at this
  exact this (by simp)
theorem GoodQ.pre {P : Nat} {E : List (Int × Int)} {T : List Int} {a : Int} {q r : List (Int × Nat)} (h : GoodQ P E T a (q ++ r)) (hne : q ≠ []) : (∃ s, q = (a, 0) :: s) ∧ ∀ q1 x q2, q = q1 ++ x :: q2 → q1 ≠ [] → x.1 ∉ q1.map Prod.fst ∧ x.2 < E.length ∧ T.getD x.2 0 = oth (E.getD x.2 (0, 0)) x.1 ∧ T.getD x.2 0 ∈ q1.map Prod.fst ∧ 0 ≤ x.1 ∧ x.1 < (P : Int) := by
  refine ⟨?_, fun q1 x q2 e hn => h.step q1 x (q2 ++ r) (by rw [e]; simp) hn⟩
  obtain ⟨s, e⟩ := h.start
  cases q with
  | nil => exact absurd rfl hne
  | cons y t =>
    rw [List.cons_append] at e
    cases e
    exact ⟨t, rfl⟩
end Go.Proofs.Ytdkpmaahinbhlaa
/- What RemoveBar answers, the specification's. No condition. -/
namespace Go.Proofs.Ytdkpmaahinbhlaa
open Go.RowKit

/-- Can the bar be taken out? -/
noncomputable def remR (p k : Int) (l : List (Int × Int)) : Bool := isGB p l && (decide (0 ≤ k) && decide (k < (l.length : Int)))
noncomputable def remL (p k : Int) (l : List (Int × Int)) : List (Int × Int) := if remR p k l = true then l.take k.toNat ++ l.drop (k.toNat + 1) else l
theorem remL_len (p k : Int) (l : List (Int × Int)) (h : l.length ≤ 1048576) : (remL p k l).length ≤ 1048576 := by
  unfold remL
  split
  · simp; omega
  · exact h
theorem rem_no {p k : Int} {l : List (Int × Int)} (h : isGB p l = false ∨ k < 0 ∨ (l.length : Int) ≤ k) : remR p k l = false ∧ remL p k l = l := by
  have e : remR p k l = false := by
    unfold remR
    rcases h with h | h | h
    · rw [h]; rfl
    · rw [decide_eq_false (by omega : ¬ 0 ≤ k)]; simp
    · rw [decide_eq_false (by omega : ¬ k < (l.length : Int))]; simp
  exact ⟨e, by unfold remL; rw [e]; rfl⟩
theorem rem_yes {p : Int} {k : Nat} {l : List (Int × Int)} (h : isGB p l = true) (hk : k < l.length) : remR p k l = true ∧ remL p k l = l.take k ++ l.drop (k + 1) := by
  have e : remR p k l = true := by
    unfold remR
    rw [h]
    simp
    omega
  refine ⟨e, ?_⟩
  unfold remL
  rw [if_pos e]
  rfl

theorem barCells_take : ∀ (l : List (Int × Int)) (k : Nat), barCells (l.take k) = (barCells l).take (k * 2) := by
  intro l
  induction l with
  | nil => intro k; simp [barCells]
  | cons x l ih =>
    intro k
    rcases k with _ | k
    · simp [barCells]
    · have := ih k
      simp only [barCells] at this ⊢
      rw [List.take_succ_cons, List.flatMap_cons, this, show (k + 1) * 2 = k * 2 + 2 by omega, List.flatMap_cons]
      rfl
theorem barCells_drop : ∀ (l : List (Int × Int)) (k : Nat), barCells (l.drop k) = (barCells l).drop (k * 2) := by
  intro l
  induction l with
  | nil => intro k; simp [barCells]
  | cons x l ih =>
    intro k
    rcases k with _ | k
    · simp [barCells]
    · have := ih k
      simp only [barCells] at this ⊢
      rw [List.drop_succ_cons, this, show (k + 1) * 2 = k * 2 + 2 by omega, List.flatMap_cons]
      rfl
theorem two_other {w4 : World} {s r : Nat} {u v x y : Value} (hne : s ≠ r) (h0 : w4.cell? ⟨s, 0, none⟩ = some x) (h1 : w4.cell? ⟨s, 1, none⟩ = some y) :
    ((w4.setCell ⟨r, 0, none⟩ u).setCell ⟨r, 1, none⟩ v).cell? ⟨s, 0, none⟩ = some x ∧ ((w4.setCell ⟨r, 0, none⟩ u).setCell ⟨r, 1, none⟩ v).cell? ⟨s, 1, none⟩ = some y := by
  constructor
  · rw [World.cell?_setCell_other _ _ _ _ (by intro e; simp only [Addr.mk.injEq] at e; omega), World.cell?_setCell_other _ _ _ _ (by intro e; simp only [Addr.mk.injEq] at e; omega)]
    exact h0
  · rw [World.cell?_setCell_other _ _ _ _ (by intro e; simp only [Addr.mk.injEq] at e; omega), World.cell?_setCell_other _ _ _ _ (by intro e; simp only [Addr.mk.injEq] at e; omega)]
    exact h1
/-- The answer's variable r is written behind what a call returned. -/
theorem ownIn_ret {w w3 : World} {r lo : Nat} {A2 : Option Addr} {c2 : Nat} {l : List (Int × Int)} (ho : OwnIn w3 lo w3.heap.size A2 c2 l) (hB : Below w.heap.size w w3) (h1 : w.heap.size ≤ r) (h2 : r < lo) (u v : Value) :
    OwnIn ((w3.setCell ⟨r, 0, none⟩ u).setCell ⟨r, 1, none⟩ v) w.heap.size ((w3.setCell ⟨r, 0, none⟩ u).setCell ⟨r, 1, none⟩ v).heap.size A2 c2 l ∧ Below w.heap.size w ((w3.setCell ⟨r, 0, none⟩ u).setCell ⟨r, 1, none⟩ v) := by
  have hg := (grownBy_set w3 r 0 u).trans_ (grownBy_set (w3.setCell ⟨r, 0, none⟩ u) r 1 v)
  refine ⟨?_, hB.grown hg hB.size fun g e => by cases e; exact h1⟩
  rcases ho.2 with h | ⟨g, e, k1, k2, hown⟩
  · exact ⟨Nat.le_refl _, .inl h⟩
  · refine ⟨Nat.le_refl _, .inr ⟨g, e, by omega, Nat.lt_of_lt_of_le k2 hg.size, (own_base hown (by omega)).kept hg (.inr (by simp [Value.ownBlock]; omega))⟩⟩

set_option maxHeartbeats 4000000 in
set_option maxRecDepth 100000 in
theorem specRemoveO (p k : Int) (l : List (Int × Int)) (A : Option Addr) (cap : Nat) (w : World) (hl : BarsAt w w.heap.size A l) (hn : l.length ≤ 1048576) (hA : ∃ a, A = some a) (hcap : l.length ≤ cap) :
    Calls Try.prog 143 #[.agg #[.int .i64 p, .slice A l.length cap], .int .i64 k] w (GraphOB w p (remL p k l) (remR p k l)) := by
  obtain ⟨a, rfl⟩ := hA
  obtain ⟨i0, hi0, hz0, hz1, hz2⟩ := info_parts infoBar
  have hA1 := new_below w (.cells #[.int .i64 p, .slice (some a) l.length cap] 26)
  have hA2 := new_below (w.alloc (.cells #[.int .i64 p, .slice (some a) l.length cap] 26)) (.cells #[.int .i64 0, .slice none 0 0] 26)
  have hA := below_on hA1 hA2 hA1.size
  have hsz1 : (w.alloc (.cells #[.int .i64 p, .slice (some a) l.length cap] 26)).heap.size = w.heap.size + 1 := by simp
  have hsz2 : ((w.alloc (.cells #[.int .i64 p, .slice (some a) l.length cap] 26)).alloc (.cells #[.int .i64 0, .slice none 0 0] 26)).heap.size = w.heap.size + 2 := by simp
  have BX := Lib.hid ((box_new w p (.slice (some a) l.length cap) 26).kept hA2)
  have hR := box_new (w.alloc (.cells #[.int .i64 p, .slice (some a) l.length cap] 26)) 0 (.slice none 0 0) 26
  have hF : ((w.alloc (.cells #[.int .i64 p, .slice (some a) l.length cap] 26)).alloc (.cells #[.int .i64 0, .slice none 0 0] 26)).frozen? ⟨(w.alloc (.cells #[.int .i64 p, .slice (some a) l.length cap] 26)).heap.size, 0, none⟩ = false ∧ ((w.alloc (.cells #[.int .i64 p, .slice (some a) l.length cap] 26)).alloc (.cells #[.int .i64 0, .slice none 0 0] 26)).frozen? ⟨(w.alloc (.cells #[.int .i64 p, .slice (some a) l.length cap] 26)).heap.size, 1, none⟩ = false := ⟨World.frozen?_alloc_at _ _ _ _ rfl, World.frozen?_alloc_at _ _ _ _ rfl⟩
  rw [hsz1] at hR hF
  have HR := Lib.hid hR
  have HF := Lib.hid hF
  have HL := Lib.hid (hl.on hA)
  have HA := Lib.hid hA
  have HSZ := Lib.hid hsz2
  clear hl hA1 hA2 hA hsz1 hsz2 hR hF
  by_cases hbad : isGB p l = false ∨ k < 0 ∨ (l.length : Int) ≤ k
  · rw [(rem_no hbad).1, (rem_no hbad).2]
    have hcase : isGB p l = false ∨ (isGB p l = true ∧ k < 0) ∨ (isGB p l = true ∧ ¬ k < 0 ∧ (l.length : Int) ≤ k) := by
      rcases hg : isGB p l with _ | _
      · exact .inl rfl
      · rcases hbad with h | h | h
        · rw [hg] at h; cases h
        · exact .inr (.inl ⟨rfl, h⟩)
        · exact .inr (.inr ⟨rfl, by omega, h⟩)
    clear hbad
    rcases hcase with hg | ⟨hg, h1⟩ | ⟨hg, h1, h2⟩
    all_goals
      go_enter Try.func143, Try.ntmps143
      go_wp2_with fail
      generalize ((w.alloc (.cells #[.int .i64 p, .slice (some a) l.length cap] 26)).alloc (.cells #[.int .i64 0, .slice none 0 0] 26)) = w1 at *
      refine (specIsGraph' p l (some a) cap _ HL.out hn).mono ?_
      rintro e w2 ⟨rfl, hb⟩
      have HB2 := Lib.hid (below_on HA.out hb HA.out.size)
      have BX2 := Lib.hid (BX.out.kept hb)
      have HR2 := Lib.hid (HR.out.kept hb)
      have HF2 := Lib.hid (show w2.frozen? ⟨w.heap.size + 1, 0, none⟩ = false ∧ w2.frozen? ⟨w.heap.size + 1, 1, none⟩ = false from ⟨(hb.frozen (p := ⟨w.heap.size + 1, 0, none⟩) HR.out.1).trans HF.out.1, (hb.frozen (p := ⟨w.heap.size + 1, 1, none⟩) HR.out.1).trans HF.out.2⟩)
      have HL2 := Lib.hid (HL.out.on hb)
      obtain ⟨_, x0, x1⟩ := BX2.out
      clear hb
      go_wp2_with fail
      clear x0 x1
      refine (copy_c p l a cap _ HL2.out hn).mono ?_
      rintro e w3 ⟨A2, c2, rfl, ho, hb⟩
      obtain ⟨_, z0, z1⟩ := HR2.out.kept hb
      have f0 := (hb.frozen (p := ⟨w.heap.size + 1, 0, none⟩) HR2.out.1).trans HF2.out.1
      have f1 := (hb.frozen (p := ⟨w.heap.size + 1, 1, none⟩) HR2.out.1).trans HF2.out.2
      have HB3 := Lib.hid (below_on HB2.out hb HB2.out.size)
      have HO3 := Lib.hid ho
      have HLT := Lib.hid HR2.out.1
      clear hb ho
      obtain ⟨s0, s1⟩ := ret_cells (p := p) (v := .slice A2 l.length c2) z0 z1
      obtain ⟨r1, r2⟩ := ownIn_ret HO3.out HB3.out (r := w.heap.size + 1) (by omega) HLT.out (.int .i64 p) (.slice A2 l.length c2)
      go_wp2_with fail
      refine bodyPost_ret (v := .tuple #[.agg #[.int .i64 p, .slice A2 l.length c2], .bool false]) ?_ rfl ⟨A2, c2, rfl, r1, r2⟩
      simp [results, Try.results143, go_sem, s0, s1]
  · have hg : isGB p l = true := by
      cases h : isGB p l with
      | false => exact absurd (.inl h) hbad
      | true => rfl
    obtain ⟨K, rfl⟩ : ∃ K : Nat, k = (K : Int) := ⟨k.toNat, by omega⟩
    have hk : K < l.length := by omega
    rw [(rem_yes hg hk).1, (rem_yes hg hk).2]
    obtain ⟨L, hL⟩ : ∃ L, L = l.take K ++ l.drop (K + 1) := ⟨_, rfl⟩
    have HLL := Lib.hid (show K + (l.length - (K + 1)) = L.length by rw [hL]; simp; omega)
    have HBL := Lib.hid (show barCells (l.take K) ++ barCells (l.drop (K + 1)) = barCells L by rw [hL, barCells_append])
    rw [← hL]
    clear hL
    have hk0 : ¬ (K : Int) < 0 := by omega
    have hk1 : ¬ (l.length : Int) ≤ (K : Int) := by omega
    obtain ⟨b, off, e, hbB, hcell⟩ := HL.out (by omega)
    cases e
    clear hbad
    go_enter Try.func143, Try.ntmps143
    go_wp2_with fail
    generalize ((w.alloc (.cells #[.int .i64 p, .slice (some ⟨b, off, none⟩) l.length cap] 26)).alloc (.cells #[.int .i64 0, .slice none 0 0] 26)) = w1 at *
    refine (specIsGraph' p l _ cap _ HL.out hn).mono ?_
    rintro e w2 ⟨rfl, hb⟩
    have HB2 := Lib.hid (below_on HA.out hb HA.out.size)
    have BX2 := Lib.hid (BX.out.kept hb)
    have HR2 := Lib.hid (HR.out.kept hb)
    have HF2 := Lib.hid (show w2.frozen? ⟨w.heap.size + 1, 0, none⟩ = false ∧ w2.frozen? ⟨w.heap.size + 1, 1, none⟩ = false from ⟨(hb.frozen (p := ⟨w.heap.size + 1, 0, none⟩) HR.out.1).trans HF.out.1, (hb.frozen (p := ⟨w.heap.size + 1, 1, none⟩) HR.out.1).trans HF.out.2⟩)
    have HC2 := Lib.hid (barCells_at (w := w2) (b := b) (off := off) (l := l) fun j hj => ⟨(hb.cell (p := ⟨b, off + j * 2, none⟩) hbB).trans (hcell j hj).1, (hb.cell (p := ⟨b, off + j * 2 + 1, none⟩) hbB).trans (hcell j hj).2⟩)
    have HBB := Lib.hid (Nat.lt_of_lt_of_le hbB hb.size)
    obtain ⟨hX, x0, x1⟩ := BX2.out
    clear hb hcell hbB
    have hi0' : (0 : Int) ≤ (K : Int) := by omega
    have hi1 : (K : Int) ≤ (cap : Int) := by omega
    have hi2 : (K : Int) + 1 ≤ (l.length : Int) := by omega
    have hi3 : (0 : Int) ≤ (K : Int) + 1 := by omega
    have hw : IntKind.i64.wrap ((K : Int) + 1) = (K : Int) + 1 := IntWalk.i64_in _ (by omega)
    have htn : ((K : Int) + 1).toNat = K + 1 := by omega
    have hal := new_below w2 (.cells #[] 108)
    have HM := Lib.hid (World.ownsRow_made (base := w2.heap.size) (e := 108) (size := 2) w2 #[] 0 (Nat.le_refl _) (by unfold maxLen; omega) (by simp)).drew
    have xa0 : ((w2.alloc (.cells #[] 108)).drew).cell? ⟨w.heap.size, 0, none⟩ = some (.int .i64 p) := (hal.cell (p := ⟨w.heap.size, 0, none⟩) hX).trans x0
    have xa1 : ((w2.alloc (.cells #[] 108)).drew).cell? ⟨w.heap.size, 1, none⟩ = some (.slice (some ⟨b, off, none⟩) l.length cap) := (hal.cell (p := ⟨w.heap.size, 1, none⟩) hX).trans x1
    have N1 := Lib.hid (show ∀ j u, (barCells (l.take K))[j]? = some u → ((w2.alloc (.cells #[] 108)).drew).cell? ((⟨b, off, none⟩ : Addr).add j) = some u from fun j u hj => by
      rw [barCells_take, List.getElem?_take] at hj
      split at hj
      · rw [Addr.add_lit]
        exact (hal.cell (p := ⟨b, off + j, none⟩) HBB.out).trans (HC2.out j u hj)
      · cases hj)
    obtain ⟨ad, hAd, hN2⟩ : ∃ ad : Addr, (if cap = K + 1 then (some ⟨b, off, none⟩ : Option Addr) else some ⟨b, off + (K + 1) * 2, none⟩) = some ad ∧ ∀ W : World, Below w2.heap.size w2 W → ∀ j u, (barCells (l.drop (K + 1)))[j]? = some u → W.cell? (ad.add j) = some u := by
      by_cases h : cap = K + 1
      · refine ⟨⟨b, off, none⟩, by simp [h], fun W hW j u hj => ?_⟩
        rw [List.drop_eq_nil_of_le (by omega)] at hj
        simp [barCells] at hj
      · refine ⟨⟨b, off + (K + 1) * 2, none⟩, by simp [h], fun W hW j u hj => ?_⟩
        rw [barCells_drop, List.getElem?_drop] at hj
        rw [Addr.add_lit, show off + (K + 1) * 2 + j = off + ((K + 1) * 2 + j) by omega]
        exact (hW.cell (p := ⟨b, off + ((K + 1) * 2 + j), none⟩) HBB.out).trans (HC2.out _ u hj)
    have N2 := Lib.hid hN2
    have hl1 : (barCells (l.take K)).length = K * 2 := by rw [barCells_len, List.length_take]; omega
    have hl2 : (barCells (l.drop (K + 1))).length = (l.length - (K + 1)) * 2 := by rw [barCells_len, List.length_drop]
    have H1 := Lib.hid hl1
    have H2 := Lib.hid hl2
    have HAL := Lib.hid hal
    clear hal hN2 hl1 hl2
    go_wp2_with fail
    go_region_held3 (fun W' => W'.cell? ⟨w.heap.size, 0, none⟩ = some (.int .i64 p) ∧ W'.cell? ⟨w.heap.size, 1, none⟩ = some (.slice (some ⟨b, off, none⟩) l.length cap))
      (first | exact ⟨x0, x1⟩ | exact ⟨xa0, xa1⟩ | exact ⟨y0, y1⟩ | exact ⟨u0, u1⟩ | exact ⟨t0, t1⟩ | fail)
      (first
        | (refine step_own (by rfl) _ _ _ (by rfl) w2.heap.size 108 i0 _ 2 16 Try.underlying24 hi0 hz0 hz1 hz2 rfl (by omega) _ 0 [] (by rfl) HM.out ⟨b, off, none⟩ K cap (barCells (l.take K)) (by rfl) H1.out N1.out (barCells_one _) (by unfold maxLen; omega) (by omega) (by simp) ?_; intro v1 w3 ho1 hg1; rw [Nat.zero_add, List.nil_append] at ho1; have hb3 : Below w2.heap.size w2 w3 := ((HAL.out.drew).grown hg1 (by simp) (fun k hk => by cases hk; exact Nat.le_refl _)); have y0 := (hb3.cell (p := ⟨w.heap.size, 0, none⟩) hX).trans x0; have y1 := (hb3.cell (p := ⟨w.heap.size, 1, none⟩) hX).trans x1; have HO1 := Lib.hid ho1; have HB3 := Lib.hid hb3; clear ho1 hg1 hb3)
        | (refine step_own (by rfl) _ _ _ (by rfl) w2.heap.size 108 i0 _ 2 16 Try.underlying24 hi0 hz0 hz1 hz2 rfl (by omega) v1 K (barCells (l.take K)) (by rfl) HO1.out ad (l.length - (K + 1)) (cap - (K + 1)) (barCells (l.drop (K + 1))) (by rfl) H2.out (N2.out _ HB3.out) (barCells_one _) (by unfold maxLen; omega) (by omega) HB3.out.size ?_; intro v2 w4 ho2 hg2; rw [HBL.out, HLL.out] at ho2; have hb4 : Below w2.heap.size w2 w4 := (HB3.out.grown hg2 HB3.out.size (fun g hk => (HO1.out.lt g hk).1)); obtain ⟨A2, c2, rfl⟩ := own_shape ho2; have u0 := (hb4.cell (p := ⟨w.heap.size, 0, none⟩) hX).trans x0; have u1 := (hb4.cell (p := ⟨w.heap.size, 1, none⟩) hX).trans x1; have z0 := (hb4.cell (p := ⟨w.heap.size + 1, 0, none⟩) HR2.out.1).trans HR2.out.2.1; have z1 := (hb4.cell (p := ⟨w.heap.size + 1, 1, none⟩) HR2.out.1).trans HR2.out.2.2; have f0 := (hb4.frozen (p := ⟨w.heap.size + 1, 0, none⟩) HR2.out.1).trans HF2.out.1; have f1 := (hb4.frozen (p := ⟨w.heap.size + 1, 1, none⟩) HR2.out.1).trans HF2.out.2; have HO2 := Lib.hid ho2; have HB4 := Lib.hid (below_on HB2.out hb4 HB2.out.size); have HZ := Lib.hid (And.intro z0 z1); obtain ⟨t0, t1⟩ := two_other (u := .int .i64 p) (v := .slice A2 L.length c2) (r := w.heap.size + 1) (Nat.ne_of_lt (Nat.lt_succ_self w.heap.size)) u0 u1; clear ho2 hg2 hb4))
    go_wp2_with fail
    obtain ⟨s0, s1⟩ := ret_cells (p := p) (v := .slice A2 L.length c2) HZ.out.1 HZ.out.2
    obtain ⟨r1, r2⟩ := row_ret HO2.out HB4.out (r := w.heap.size + 1) (by omega) HR2.out.1 (.int .i64 p) (.slice A2 L.length c2)
    refine bodyPost_ret (v := .tuple #[.agg #[.int .i64 p, .slice A2 L.length c2], .bool true]) ?_ rfl ⟨A2, c2, rfl, ?_, ?_⟩
    · simp [results, Try.results143, go_sem, s0, s1]
    · first | exact r1 | exact r1.drew
    · first | exact r2 | exact r2.drew
theorem specRemove (p k : Int) (l : List (Int × Int)) (A : Option Addr) (cap : Nat) (w : World) (hl : BarsAt w w.heap.size A l) (hn : l.length ≤ 1048576) (hA : ∃ a, A = some a) (hcap : l.length ≤ cap) :
    Calls Try.prog 143 #[.agg #[.int .i64 p, .slice A l.length cap], .int .i64 k] w (GraphRB w p (remL p k l) (remR p k l)) :=
  (specRemoveO p k l A cap w hl hn hA hcap).mono fun _ _ ⟨A2, c2, e, r1, r2⟩ => ⟨A2, c2, e, r1.bars.at, r2⟩
end Go.Proofs.Ytdkpmaahinbhlaa
/- What spec.l2Put answers: the bar in its place. No condition. -/
namespace Go.Proofs.Ytdkpmaahinbhlaa
open Go.RowKit

/-- Where the walk stands: is the bar placed? -/
def PutSt (x : Int × Int) (t : List (Int × Int)) (b : Bool) : Prop := (b = false → ∀ y ∈ t, aftB y x = true) ∧ (b = true → ∃ y ∈ t, aftB y x = false)
def putL (x : Int × Int) (t : List (Int × Int)) (b : Bool) : List (Int × Int) := if b = true then insU x t else t
theorem putL_len (x : Int × Int) (t : List (Int × Int)) (b : Bool) : (putL x t b).length ≤ t.length + 1 := by
  unfold putL
  split
  · rw [insU_len]; omega
  · omega
theorem put_yes {x y : Int × Int} {t : List (Int × Int)} (h : PutSt x t false) (hy : aftB y x = true) : PutSt x (t ++ [y]) false ∧ putL x (t ++ [y]) false = putL x t false ++ [y] :=
  ⟨⟨fun _ z hz => by
    rcases List.mem_append.1 hz with hz | hz
    · exact h.1 rfl z hz
    · have : z = y := by simpa using hz
      rw [this]; exact hy, fun e => by cases e⟩, rfl⟩
theorem put_now {x y : Int × Int} {t : List (Int × Int)} (h : PutSt x t false) (hy : aftB y x = false) : PutSt x (t ++ [y]) true ∧ putL x (t ++ [y]) true = (putL x t false ++ [x]) ++ [y] := by
  refine ⟨⟨fun e => (by cases e), fun _ => ⟨y, by simp, hy⟩⟩, ?_⟩
  show insU x (t ++ [y]) = (t ++ [x]) ++ [y]
  rw [insU_all x t [y] (h.1 rfl)]
  simp [insU, hy]
theorem put_past {x y : Int × Int} {t : List (Int × Int)} (h : PutSt x t true) : PutSt x (t ++ [y]) true ∧ putL x (t ++ [y]) true = putL x t true ++ [y] := by
  obtain ⟨z, hz, hzx⟩ := h.2 rfl
  exact ⟨⟨fun e => (by cases e), fun _ => ⟨z, by simp [hz], hzx⟩⟩, insU_some x t [y] ⟨z, hz, hzx⟩⟩
theorem put_end {x : Int × Int} {t : List (Int × Int)} (h : PutSt x t false) : insU x t = putL x t false ++ [x] := by
  have := insU_all x t [] (h.1 rfl)
  rw [List.append_nil] at this
  exact this

end Go.Proofs.Ytdkpmaahinbhlaa
/- What spec.AddBar answers. No condition. -/
namespace Go.Proofs.Ytdkpmaahinbhlaa
open Go.RowKit

/-- Can the bar be put in? -/
def addOk (p a b : Int) (n : Nat) : Bool := decide ((0 ≤ a ∧ 0 ≤ b) ∧ (a < p ∧ b < p) ∧ a ≠ b ∧ n < 24)
noncomputable def addR (p a b : Int) (l : List (Int × Int)) : Bool := isGB p l && addOk p a b l.length
noncomputable def addL (p a b : Int) (l : List (Int × Int)) : List (Int × Int) := if addR p a b l = true then insU (min a b, max a b) l else l
theorem add_no {p a b : Int} {l : List (Int × Int)} (h : isGB p l = false ∨ ¬ ((0 ≤ a ∧ 0 ≤ b) ∧ (a < p ∧ b < p) ∧ a ≠ b ∧ l.length < 24)) : addR p a b l = false ∧ addL p a b l = l := by
  have e : addR p a b l = false := by
    unfold addR addOk
    rcases h with h | h
    · rw [h]; rfl
    · rw [decide_eq_false h, Bool.and_false]
  exact ⟨e, by unfold addL; rw [e]; rfl⟩
theorem add_yes {p a b : Int} {l : List (Int × Int)} (h : isGB p l = true) (k : (0 ≤ a ∧ 0 ≤ b) ∧ (a < p ∧ b < p) ∧ a ≠ b ∧ l.length < 24) : addR p a b l = true ∧ addL p a b l = insU (min a b, max a b) l := by
  have e : addR p a b l = true := by unfold addR addOk; rw [h, decide_eq_true k]; rfl
  exact ⟨e, by unfold addL; rw [if_pos e]⟩

end Go.Proofs.Ytdkpmaahinbhlaa
/- The pebble game on lists: what a move keeps, gathering, placing, the whole game. No program. No condition. -/
namespace Go.Proofs.Ytdkpmaahinbhlaa

/-- A queue, or what stands in front in one. -/
def PathQ (P : Nat) (E : List (Int × Int)) (T : List Int) (a : Int) (q : List (Int × Nat)) : Prop :=
  (∃ s, q = (a, 0) :: s) ∧ ∀ q1 x q2, q = q1 ++ x :: q2 → q1 ≠ [] → x.1 ∉ q1.map Prod.fst ∧ x.2 < E.length ∧ T.getD x.2 0 = oth (E.getD x.2 (0, 0)) x.1 ∧ T.getD x.2 0 ∈ q1.map Prod.fst ∧ 0 ≤ x.1 ∧ x.1 < (P : Int)
theorem GoodQ.path {P : Nat} {E : List (Int × Int)} {T : List Int} {a : Int} {q : List (Int × Nat)} (h : GoodQ P E T a q) : PathQ P E T a q := ⟨h.start, h.step⟩
theorem PathQ.pre {P : Nat} {E : List (Int × Int)} {T : List Int} {a : Int} {q r : List (Int × Nat)} (h : PathQ P E T a (q ++ r)) (hne : q ≠ []) : PathQ P E T a q := by
  refine ⟨?_, fun q1 x q2 e hn => h.2 q1 x (q2 ++ r) (by rw [e]; simp) hn⟩
  obtain ⟨s, e⟩ := h.1
  cases q with
  | nil => exact absurd rfl hne
  | cons y t =>
    rw [List.cons_append] at e
    cases e
    exact ⟨t, rfl⟩
theorem PathQ.nodup {P : Nat} {E : List (Int × Int)} {T : List Int} {a : Int} {q : List (Int × Nat)} (h : PathQ P E T a q) {q1 q2 : List (Int × Nat)} {x : Int × Nat} (e : q = q1 ++ x :: q2) : x.1 ∉ q2.map Prod.fst := by
  intro hm
  obtain ⟨y, hy, e1⟩ := List.mem_map.1 hm
  obtain ⟨q3, q4, rfl⟩ := List.append_of_mem hy
  have := (h.2 (q1 ++ x :: q3) y q4 (by rw [e]; simp) (by simp)).1
  rw [e1] at this
  exact this (by simp)
/-- A point of the queue that is not its first. -/
theorem PathQ.at {P : Nat} {E : List (Int × Int)} {T : List Int} {a t : Int} {q : List (Int × Nat)} (h : PathQ P E T a q) (ht : t ∈ q.map Prod.fst) (ha : t ≠ a) :
    ∃ i q1 q2, q = q1 ++ (t, i) :: q2 ∧ t ∉ q2.map Prod.fst ∧ t ∉ q1.map Prod.fst ∧ i < E.length ∧ T.getD i 0 = oth (E.getD i (0, 0)) t ∧ oth (E.getD i (0, 0)) t ∈ q1.map Prod.fst ∧ 0 ≤ t ∧ t < (P : Int) ∧ PathQ P E T a q1 := by
  obtain ⟨x, hx, e1⟩ := List.mem_map.1 ht
  obtain ⟨q1, q2, rfl⟩ := List.append_of_mem hx
  obtain ⟨v, i⟩ := x
  simp only at e1
  subst e1
  have hne : q1 ≠ [] := by
    rintro rfl
    obtain ⟨s, e⟩ := h.1
    cases e
    exact ha rfl
  have hs := h.2 q1 (v, i) q2 rfl hne
  exact ⟨i, q1, q2, rfl, h.nodup rfl, hs.1, hs.2.1, hs.2.2.1, hs.2.2.1 ▸ hs.2.2.2.1, hs.2.2.2.2.1, hs.2.2.2.2.2, PathQ.pre h hne⟩
/-- A bar that was turned is not met again. -/
theorem PathQ.other {P : Nat} {E : List (Int × Int)} {T : List Int} {a t : Int} {q : List (Int × Nat)} (h : PathQ P E T a q) (ht : t ∉ q.map Prod.fst) {i : Nat} (hi : T.getD i 0 = oth (E.getD i (0, 0)) t) {x : Int × Nat} (hx : x ∈ q) (hxa : x.1 ≠ a) : x.2 ≠ i := by
  intro e
  obtain ⟨j, q1, q2, e1, _, _, _, h4, _⟩ := h.at (List.mem_map_of_mem hx) hxa
  obtain ⟨q3, q4, e2⟩ := List.append_of_mem hx
  have hne : q3 ≠ [] := by
    rintro rfl
    obtain ⟨s, e⟩ := h.1
    rw [e2] at e
    cases e
    exact hxa rfl
  have h5 := (h.2 q3 x q4 e2 hne).2.2.1
  rw [e, hi] at h5
  have : t = x.1 := by rw [← oth_oth (E.getD i (0, 0)) t, h5, oth_oth]
  exact ht (this ▸ List.mem_map_of_mem hx)
theorem set_getD_ne {α : Type} (l : List α) (i j : Nat) (x z : α) (h : j ≠ i) : (l.set i x).getD j z = l.getD j z := by
  simp only [List.getD]
  rw [List.getElem?_set_ne (by omega)]
theorem set_getD_eq {α : Type} (l : List α) (i : Nat) (x z : α) (h : i < l.length) : (l.set i x).getD i z = x := by
  simp [List.getD, h]
theorem cnt_set (T : List Int) (i : Nat) (hi : i < T.length) (t v : Int) : (T.set i t).count v + (if v = T.getD i 0 then 1 else 0) = T.count v + if v = t then 1 else 0 := by
  have e : T.getD i 0 = T[i] := by simp [List.getD, List.getElem?_eq_getElem hi]
  rw [e, List.count_set hi]
  have hp : T[i] = v → 0 < T.count v := fun h => List.count_pos_iff.2 (h ▸ List.getElem_mem hi)
  by_cases h1 : v = T[i]
  · have := hp h1.symm
    by_cases h2 : v = t
    · simp [← h1, ← h2]; omega
    · have h2' : ¬ t = v := fun h => h2 h.symm
      simp [← h1, h2, h2']; omega
  · have h1' : ¬ T[i] = v := fun h => h1 h.symm
    by_cases h2 : v = t
    · subst h2; simp [h1, h1']
    · have h2' : ¬ t = v := fun h => h2 h.symm
      simp [h1, h1', h2, h2']
/-- What the turning of a path keeps. -/
theorem turn_facts {P : Nat} {E : List (Int × Int)} {T0 : List Int} {a : Int} : ∀ n (q : List (Int × Nat)), q.length ≤ n → PathQ P E T0 a q → ∀ t, t ∈ q.map Prod.fst → ∀ T : List Int, EndsQ P E T → (∀ x ∈ q, x.1 ≠ a → T.getD x.2 0 = T0.getD x.2 0) →
    EndsQ P E (turnQ E a q.reverse t T) ∧ ∀ v, (turnQ E a q.reverse t T).count v + (if v = a then 1 else 0) = T.count v + if v = t then 1 else 0 := by
  intro n
  induction n with
  | zero =>
    intro q hq hp
    obtain ⟨s, e⟩ := hp.1
    rw [e] at hq
    simp at hq
  | succ n ih =>
    intro q hq hp t ht T he hT
    by_cases ha : t = a
    · subst ha
      rw [turnQ_a]
      exact ⟨he, fun v => rfl⟩
    · obtain ⟨i, q1, q2, rfl, h1, h2, h3, h4, h5, h6, h7, h8⟩ := hp.at ht ha
      rw [turnQ_step E a t i q1 q2 T h1 ha]
      have hTi : T.getD i 0 = oth (E.getD i (0, 0)) t := (hT (t, i) (by simp) ha).trans h4
      have hi : i < T.length := by rw [he.len]; exact h3
      have he' : EndsQ P E (T.set i t) := by
        refine ⟨by rw [List.length_set]; exact he.len, he.bar, fun j hj => ?_⟩
        by_cases e : j = i
        · subst e
          rw [set_getD_eq _ _ _ _ hi]
          have := he.tail j hj
          rw [hTi] at this
          have := oth_end this
          rwa [oth_oth] at this
        · rw [set_getD_ne _ _ _ _ _ e]
          exact he.tail j hj
      have hT' : ∀ x ∈ q1, x.1 ≠ a → (T.set i t).getD x.2 0 = T0.getD x.2 0 := fun x hx hxa => by
        rw [set_getD_ne _ _ _ _ _ (h8.other h2 h4 hx hxa)]
        exact hT x (List.mem_append_left _ hx) hxa
      obtain ⟨g1, g2⟩ := ih q1 (by simp at hq; omega) h8 _ h5 (T.set i t) he' hT'
      refine ⟨g1, fun v => ?_⟩
      have e1 := g2 v
      have e2 := cnt_set T i hi t v
      rw [hTi] at e2
      omega

/-- A pebble goes from u to a. -/
def movF (F : List Int) (a u : Int) : List Int := (F.set u.toNat (F.getD u.toNat 0 - 1)).set a.toNat (F.getD a.toNat 0 + 1)
theorem movF_len (F : List Int) (a u : Int) : (movF F a u).length = F.length := by simp [movF]
theorem movF_a (F : List Int) (a u : Int) (h : a.toNat < F.length) : (movF F a u).getD a.toNat 0 = F.getD a.toNat 0 + 1 := by
  unfold movF
  exact set_getD_eq _ _ _ _ (by simpa using h)
theorem movF_u (F : List Int) (a u : Int) (h : u.toNat < F.length) (hne : u.toNat ≠ a.toNat) : (movF F a u).getD u.toNat 0 = F.getD u.toNat 0 - 1 := by
  unfold movF
  rw [set_getD_ne _ _ _ _ _ hne]
  exact set_getD_eq _ _ _ _ h
theorem movF_ne (F : List Int) (a u : Int) (v : Nat) (h1 : v ≠ u.toNat) (h2 : v ≠ a.toNat) : (movF F a u).getD v 0 = F.getD v 0 := by
  unfold movF
  rw [set_getD_ne _ _ _ _ _ h2, set_getD_ne _ _ _ _ _ h1]

/-- A state in order: free pebbles and tails make k at each point. -/
structure PebS (P : Nat) (k : Int) (E : List (Int × Int)) (F T : List Int) : Prop where
  flen : F.length = P
  ends : EndsQ P E T
  free : ∀ v : Nat, v < P → 0 ≤ F.getD v 0 ∧ F.getD v 0 + (T.count (v : Int) : Int) = k
/-- One pebble is brought to a, none from b. -/
def findM (E : List (Int × Int)) (a b : Int) (s : List Int × List Int) : Option (List Int × List Int) :=
  ((bfsQ E s.2 a).find? (givesB s.1 a b)).map fun x => (movF s.1 a x.1, turnQ E a (bfsQ E s.2 a).reverse x.1 s.2)
theorem findM_ok {P : Nat} {k : Int} {E : List (Int × Int)} {F T : List Int} (h : PebS P k E F T) {a b : Int} (ha : 0 ≤ a ∧ a < (P : Int)) (hab : a ≠ b) (hb : 0 ≤ b) {s : List Int × List Int} (e : findM E a b (F, T) = some s) :
    PebS P k E s.1 s.2 ∧ s.1.getD a.toNat 0 = F.getD a.toNat 0 + 1 ∧ s.1.getD b.toNat 0 = F.getD b.toNat 0 := by
  unfold findM at e
  obtain ⟨x, hx, rfl⟩ := Option.map_eq_some_iff.1 e
  have hg := List.find?_some hx
  have hm := List.mem_of_find?_eq_some hx
  unfold givesB at hg
  simp only [Bool.and_eq_true, decide_eq_true_eq] at hg
  obtain ⟨⟨g1, g2⟩, g3⟩ := hg
  have hgood := bfs_good h.ends ha.1 ha.2 (max E.length 8)
  have hp : PathQ P E T a (bfsQ E T a) := hgood.path
  obtain ⟨i, q1, q2, _, _, _, _, _, _, h6, h7, _⟩ := hp.at (List.mem_map_of_mem hm) g1
  obtain ⟨t1, t2⟩ := turn_facts (bfsQ E T a).length _ (Nat.le_refl _) hp _ (List.mem_map_of_mem hm) T h.ends fun _ _ _ => rfl
  have hu : x.1.toNat < F.length := by rw [h.flen]; omega
  have hal : a.toNat < F.length := by rw [h.flen]; omega
  have hne : x.1.toNat ≠ a.toNat := by omega
  refine ⟨⟨by rw [movF_len]; exact h.flen, t1, fun v hv => ?_⟩, movF_a F a x.1 hal, ?_⟩
  · have hc := t2 (v : Int)
    have hf := h.free v hv
    show 0 ≤ (movF F a x.1).getD v 0 ∧ (movF F a x.1).getD v 0 + ((turnQ E a (bfsQ E T a).reverse x.1 T).count (v : Int) : Int) = k
    have g3' : 0 < F.getD x.1.toNat 0 := g3
    by_cases c1 : v = a.toNat
    · subst c1
      rw [movF_a F a x.1 hal]
      have e1 : ((a.toNat : Nat) : Int) = a := by omega
      rw [e1] at hc hf ⊢
      rw [if_pos rfl, if_neg (fun hh => g1 hh.symm)] at hc
      omega
    · by_cases c2 : v = x.1.toNat
      · subst c2
        rw [movF_u F a x.1 hu hne]
        have e1 : ((x.1.toNat : Nat) : Int) = x.1 := by omega
        rw [e1] at hc hf ⊢
        rw [if_neg g1, if_pos rfl] at hc
        omega
      · rw [movF_ne F a x.1 v c2 c1]
        rw [if_neg (by omega), if_neg (by omega)] at hc
        omega
  · exact movF_ne F a x.1 b.toNat (by omega) (by omega)

/-- Gathering, with the steps counted. -/
def gath (E : List (Int × Int)) (a b want : Int) : Nat → List Int × List Int → Option (List Int × List Int)
  | 0, _ => none
  | f + 1, s =>
    if s.1.getD a.toNat 0 + s.1.getD b.toNat 0 < want then
      match findM E a b s with
      | some s' => gath E a b want f s'
      | none =>
        match findM E b a s with
        | some s' => gath E a b want f s'
        | none => none
    else some s
def gathR (E : List (Int × Int)) (a b want : Int) (s : List Int × List Int) : Option (List Int × List Int) :=
  gath E a b want ((want - (s.1.getD a.toNat 0 + s.1.getD b.toNat 0)).toNat + 1) s
theorem gathR_done {E : List (Int × Int)} {a b want : Int} {s : List Int × List Int} (h : ¬ s.1.getD a.toNat 0 + s.1.getD b.toNat 0 < want) : gathR E a b want s = some s := by
  unfold gathR gath
  rw [if_neg h]
theorem gathR_one {E : List (Int × Int)} {a b want : Int} {s s' : List Int × List Int} (h : s.1.getD a.toNat 0 + s.1.getD b.toNat 0 < want) (e : findM E a b s = some s') (hs : s'.1.getD a.toNat 0 + s'.1.getD b.toNat 0 = s.1.getD a.toNat 0 + s.1.getD b.toNat 0 + 1) :
    gathR E a b want s = gathR E a b want s' := by
  conv => lhs; unfold gathR gath
  rw [if_pos h, e]
  unfold gathR
  rw [hs, show (want - (s.1.getD a.toNat 0 + s.1.getD b.toNat 0)).toNat = (want - (s.1.getD a.toNat 0 + s.1.getD b.toNat 0 + 1)).toNat + 1 by omega]
theorem gathR_two {E : List (Int × Int)} {a b want : Int} {s s' : List Int × List Int} (h : s.1.getD a.toNat 0 + s.1.getD b.toNat 0 < want) (e0 : findM E a b s = none) (e : findM E b a s = some s') (hs : s'.1.getD a.toNat 0 + s'.1.getD b.toNat 0 = s.1.getD a.toNat 0 + s.1.getD b.toNat 0 + 1) :
    gathR E a b want s = gathR E a b want s' := by
  conv => lhs; unfold gathR gath
  rw [if_pos h, e0, e]
  unfold gathR
  rw [hs, show (want - (s.1.getD a.toNat 0 + s.1.getD b.toNat 0)).toNat = (want - (s.1.getD a.toNat 0 + s.1.getD b.toNat 0 + 1)).toNat + 1 by omega]
theorem gathR_no {E : List (Int × Int)} {a b want : Int} {s : List Int × List Int} (h : s.1.getD a.toNat 0 + s.1.getD b.toNat 0 < want) (e0 : findM E a b s = none) (e : findM E b a s = none) : gathR E a b want s = none := by
  unfold gathR gath
  rw [if_pos h, e0, e]
theorem gath_ok {P : Nat} {k : Int} {E : List (Int × Int)} {a b want : Int} (ha : 0 ≤ a ∧ a < (P : Int)) (hb : 0 ≤ b ∧ b < (P : Int)) (hab : a ≠ b) : ∀ f (s s' : List Int × List Int), PebS P k E s.1 s.2 → gath E a b want f s = some s' → PebS P k E s'.1 s'.2 ∧ want ≤ s'.1.getD a.toNat 0 + s'.1.getD b.toNat 0 := by
  intro f
  induction f with
  | zero => intro s s' _ e; cases e
  | succ f ih =>
    intro s s' h e
    unfold gath at e
    by_cases c : s.1.getD a.toNat 0 + s.1.getD b.toNat 0 < want
    · rw [if_pos c] at e
      cases e1 : findM E a b s with
      | some s1 =>
        rw [e1] at e
        exact ih s1 s' (findM_ok h ha hab hb.1 e1).1 e
      | none =>
        rw [e1] at e
        cases e2 : findM E b a s with
        | some s1 =>
          rw [e2] at e
          exact ih s1 s' (findM_ok h hb (Ne.symm hab) ha.1 e2).1 e
        | none => rw [e2] at e; cases e
    · rw [if_neg c] at e
      cases e
      exact ⟨h, by omega⟩
theorem gathR_ok {P : Nat} {k : Int} {E : List (Int × Int)} {a b want : Int} (ha : 0 ≤ a ∧ a < (P : Int)) (hb : 0 ≤ b ∧ b < (P : Int)) (hab : a ≠ b) {s s' : List Int × List Int} (h : PebS P k E s.1 s.2) (e : gathR E a b want s = some s') : PebS P k E s'.1 s'.2 ∧ want ≤ s'.1.getD a.toNat 0 + s'.1.getD b.toNat 0 := gath_ok ha hb hab _ s s' h e
/-- The free pebbles of a state in order are few. -/
theorem PebS.small {P : Nat} {k : Int} {E : List (Int × Int)} {F T : List Int} (h : PebS P k E F T) {v : Int} (hv : 0 ≤ v ∧ v < (P : Int)) : 0 ≤ F.getD v.toNat 0 ∧ F.getD v.toNat 0 ≤ k := by
  have := h.free v.toNat (by omega)
  omega

/-- The bars that were placed. -/
def plE (l : List (Int × Int)) (Z : List Int) : List (Int × Int) := Z.map fun b => l.getD b.toNat (0, 0)
theorem plE_len (l : List (Int × Int)) (Z : List Int) : (plE l Z).length = Z.length := by simp [plE]
theorem plE_get (l : List (Int × Int)) (Z : List Int) (i : Nat) (h : i < Z.length) : (plE l Z).getD i (0, 0) = l.getD (Z.getD i 0).toNat (0, 0) := by
  simp [plE, List.getD, List.getElem?_eq_getElem h]
/-- A state of the game on a graph. -/
def IsPeb (p k : Int) (l : List (Int × Int)) (F T Z : List Int) : Prop :=
  IsG p l ∧ (1 ≤ k ∧ k ≤ 3) ∧ (F.length : Int) = p ∧ T.length = Z.length ∧
  (∀ i, i < Z.length → (0 ≤ Z.getD i 0 ∧ Z.getD i 0 < (l.length : Int)) ∧ (0 < i → Z.getD (i - 1) 0 < Z.getD i 0) ∧ isEnd (l.getD (Z.getD i 0).toNat (0, 0)) (T.getD i 0)) ∧
  ∀ v : Nat, v < F.length → 0 ≤ F.getD v 0 ∧ F.getD v 0 + (T.count (v : Int) : Int) = k
open Classical in
noncomputable def isPebB (p k : Int) (l : List (Int × Int)) (F T Z : List Int) : Bool := if IsPeb p k l F T Z then true else false
theorem isPebB_yes {p k : Int} {l : List (Int × Int)} {F T Z : List Int} (h : IsPeb p k l F T Z) : isPebB p k l F T Z = true := by unfold isPebB; rw [if_pos h]
theorem isPebB_no {p k : Int} {l : List (Int × Int)} {F T Z : List Int} (h : ¬ IsPeb p k l F T Z) : isPebB p k l F T Z = false := by unfold isPebB; rw [if_neg h]
theorem isPebB_is {p k : Int} {l : List (Int × Int)} {F T Z : List Int} (h : isPebB p k l F T Z = true) : IsPeb p k l F T Z := Classical.byContradiction fun g => by rw [isPebB_no g] at h; cases h
theorem IsPeb.state {p k : Int} {l : List (Int × Int)} {F T Z : List Int} (h : IsPeb p k l F T Z) : PebS F.length k (plE l Z) F T := by
  obtain ⟨h1, _, h3, h4, h5, h6⟩ := h
  refine ⟨rfl, ⟨by rw [plE_len]; exact h4, fun i hi => ?_, fun i hi => ?_⟩, h6⟩
  · rw [plE_len] at hi
    rw [plE_get _ _ _ hi, h3]
    have := h5 i hi
    have hb := h1.2.2 (Z.getD i 0).toNat (by omega)
    exact ⟨hb.1, hb.2.1, hb.2.2.1⟩
  · rw [plE_len] at hi
    rw [plE_get _ _ _ hi]
    exact (h5 i hi).2.2
theorem IsPeb.of {p k : Int} {l : List (Int × Int)} {F T Z F' T' : List Int} (h : IsPeb p k l F T Z) (hs : PebS F.length k (plE l Z) F' T') : IsPeb p k l F' T' Z := by
  obtain ⟨h1, h2, h3, h4, h5, _⟩ := h
  refine ⟨h1, h2, by rw [hs.flen]; exact h3, by rw [hs.ends.len, plE_len], fun i hi => ⟨(h5 i hi).1, (h5 i hi).2.1, ?_⟩, fun v hv => hs.free v (by rw [← hs.flen]; exact hv)⟩
  have := hs.ends.tail i (by rw [plE_len]; exact hi)
  rwa [plE_get _ _ _ hi] at this
/-- A bar is placed, if its ends can have enough pebbles. -/
def plaR (l : List (Int × Int)) (c : Int) (F T Z : List Int) (n : Int) : Option (List Int × List Int × List Int) :=
  (gathR (plE l Z) (l.getD n.toNat (0, 0)).1 (l.getD n.toNat (0, 0)).2 (c + 1) (F, T)).map fun s =>
    if s.1.getD (l.getD n.toNat (0, 0)).1.toNat 0 = 0 then (s.1.set (l.getD n.toNat (0, 0)).2.toNat (s.1.getD (l.getD n.toNat (0, 0)).2.toNat 0 - 1), s.2 ++ [(l.getD n.toNat (0, 0)).2], Z ++ [n])
    else (s.1.set (l.getD n.toNat (0, 0)).1.toNat (s.1.getD (l.getD n.toNat (0, 0)).1.toNat 0 - 1), s.2 ++ [(l.getD n.toNat (0, 0)).1], Z ++ [n])
/-- What PlaceBar answers. -/
noncomputable def plaV (p k c : Int) (l : List (Int × Int)) (F T Z : List Int) (n : Int) : Option (List Int × List Int × List Int) :=
  if isPebB p k l F T Z = true ∧ rangeB k c = true ∧ (0 ≤ n ∧ n < (l.length : Int)) ∧ (Z ≠ [] → Z.getD (Z.length - 1) 0 < n) then plaR l c F T Z n else none
theorem isPeb_push {p k : Int} {l : List (Int × Int)} {F T Z : List Int} (h : IsPeb p k l F T Z) {n : Int} (hn : 0 ≤ n ∧ n < (l.length : Int)) (hlast : Z ≠ [] → Z.getD (Z.length - 1) 0 < n) {t : Int} (ht : isEnd (l.getD n.toNat (0, 0)) t) (hf : 0 < F.getD t.toNat 0) :
    IsPeb p k l (F.set t.toNat (F.getD t.toNat 0 - 1)) (T ++ [t]) (Z ++ [n]) := by
  obtain ⟨h1, h2, h3, h4, h5, h6⟩ := h
  have hb := h1.2.2 n.toNat (by omega)
  have htr : 0 ≤ t ∧ t < p := by unfold OkBar at hb; unfold isEnd at ht; omega
  refine ⟨h1, h2, by rw [List.length_set]; exact h3, by simp [h4], fun i hi => ?_, fun v hv => ?_⟩
  · rw [List.length_append, List.length_cons, List.length_nil] at hi
    by_cases e : i = Z.length
    · subst e
      have e1 : (Z ++ [n]).getD Z.length 0 = n := by simp [List.getD]
      have e2 : (T ++ [t]).getD Z.length 0 = t := by rw [← h4]; simp [List.getD]
      rw [e1, e2]
      refine ⟨hn, fun h0 => ?_, ht⟩
      have e3 : (Z ++ [n]).getD (Z.length - 1) 0 = Z.getD (Z.length - 1) 0 := by
        simp only [List.getD]
        rw [List.getElem?_append_left (by omega)]
      rw [e3]
      exact hlast (by rintro rfl; simp at h0)
    · have hi' : i < Z.length := by omega
      have e1 : (Z ++ [n]).getD i 0 = Z.getD i 0 := by simp only [List.getD]; rw [List.getElem?_append_left hi']
      have e2 : (T ++ [t]).getD i 0 = T.getD i 0 := by simp only [List.getD]; rw [List.getElem?_append_left (by omega)]
      have e3 : (Z ++ [n]).getD (i - 1) 0 = Z.getD (i - 1) 0 := by simp only [List.getD]; rw [List.getElem?_append_left (by omega)]
      rw [e1, e2, e3]
      exact h5 i hi'
  · rw [List.length_set] at hv
    have hc := h6 v hv
    rw [List.count_append, List.count_singleton]
    by_cases e : v = t.toNat
    · subst e
      have e1 : ((t.toNat : Nat) : Int) = t := by omega
      rw [set_getD_eq _ _ _ _ hv]
      rw [e1] at hc ⊢
      have e4 : (t == t) = true := by simp
      rw [if_pos e4]
      constructor
      · omega
      · rw [Int.natCast_add]
        omega
    · rw [set_getD_ne _ _ _ _ _ e]
      have e4 : ¬ ((t == (v : Int)) = true) := by simp; omega
      rw [if_neg e4]
      exact hc
theorem plaR_ok {p k c : Int} {l : List (Int × Int)} {F T Z : List Int} (h : IsPeb p k l F T Z) (hc : 0 ≤ c) {n : Int} (hn : 0 ≤ n ∧ n < (l.length : Int)) (hlast : Z ≠ [] → Z.getD (Z.length - 1) 0 < n) {s : List Int × List Int × List Int} (e : plaR l c F T Z n = some s) :
    IsPeb p k l s.1 s.2.1 s.2.2 ∧ s.2.2 = Z ++ [n] := by
  unfold plaR at e
  obtain ⟨s1, h1, rfl⟩ := Option.map_eq_some_iff.1 e
  have hb := h.1.2.2 n.toNat (by omega)
  have hp := h.2.2.1
  obtain ⟨g1, g2⟩ := gathR_ok (P := F.length) (k := k) (by rw [hp]; unfold OkBar at hb; omega) (by rw [hp]; unfold OkBar at hb; omega) (by unfold OkBar at hb; omega) (by exact h.state) h1
  have hi := h.of g1
  split
  · rename_i h0
    exact ⟨isPeb_push hi hn hlast (.inr rfl) (by omega), rfl⟩
  · rename_i h0
    have := hi.state.small (v := (l.getD n.toNat (0, 0)).1) (by rw [hi.2.2.1]; unfold OkBar at hb; omega)
    exact ⟨isPeb_push hi hn hlast (.inl rfl) (by omega), rfl⟩
/-- The game after n bars. -/
def runN (P : Nat) (k c : Int) (l : List (Int × Int)) : Nat → List Int × List Int × List Int
  | 0 => (List.replicate P k, [], [])
  | n + 1 => (plaR l c (runN P k c l n).1 (runN P k c l n).2.1 (runN P k c l n).2.2 (n : Int)).getD (runN P k c l n)
theorem runN_ok {P : Nat} {k c : Int} {l : List (Int × Int)} (hG : IsG (P : Int) l) (hk : 1 ≤ k ∧ k ≤ 3) (hc : 0 ≤ c) : ∀ n, n ≤ l.length → IsPeb (P : Int) k l (runN P k c l n).1 (runN P k c l n).2.1 (runN P k c l n).2.2 ∧ (runN P k c l n).2.2.length ≤ n ∧ ((runN P k c l n).2.2 ≠ [] → (runN P k c l n).2.2.getD ((runN P k c l n).2.2.length - 1) 0 < (n : Int)) := by
  intro n
  induction n with
  | zero =>
    intro _
    refine ⟨⟨hG, hk, by simp [runN], rfl, fun i hi => absurd hi (by simp [runN]), fun v hv => ?_⟩, Nat.le_refl _, fun h => absurd rfl h⟩
    have : v < P := by simpa [runN] using hv
    simp [runN, List.getD, this]
    omega
  | succ n ih =>
    intro hn
    obtain ⟨h1, h2, h3⟩ := ih (by omega)
    unfold runN
    cases e : plaR l c (runN P k c l n).1 (runN P k c l n).2.1 (runN P k c l n).2.2 (n : Int) with
    | none =>
      simp only [Option.getD_none]
      exact ⟨h1, by omega, fun h => by have := h3 h; omega⟩
    | some s =>
      simp only [Option.getD_some]
      obtain ⟨g1, g2⟩ := plaR_ok h1 hc (n := (n : Int)) (by omega) h3 e
      refine ⟨g1, by rw [g2]; simp; omega, fun _ => ?_⟩
      rw [g2]
      simp [List.getD]
      omega
end Go.Proofs.Ytdkpmaahinbhlaa
/- As many bars are placed as there are, at most. No program. No condition. -/
namespace Go.Proofs.Ytdkpmaahinbhlaa
open Go.RowKit

theorem IsPeb.many {p k : Int} {l : List (Int × Int)} {F T Z : List Int} (h : IsPeb p k l F T Z) : Z.length ≤ l.length := by
  have q : ∀ i, i < Z.length → (i : Int) ≤ Z.getD i 0 := by
    intro i
    induction i with
    | zero => intro hi; exact (h.2.2.2.2.1 0 hi).1.1
    | succ i ih =>
      intro hi
      have h1 := ih (by omega)
      have h2 := (h.2.2.2.2.1 (i + 1) hi).2.1 (by omega)
      rw [show i + 1 - 1 = i by omega] at h2
      omega
  by_cases h0 : 0 < Z.length
  · have h1 := q (Z.length - 1) (by omega)
    have h2 := (h.2.2.2.2.1 (Z.length - 1) (by omega)).1.2
    omega
  · omega
end Go.Proofs.Ytdkpmaahinbhlaa
/- How long the rows of a state are behind a bar's placing. No program. No condition. -/
namespace Go.Proofs.Ytdkpmaahinbhlaa
open Go.RowKit

theorem rangeB_is {k c : Int} (h : rangeB k c = true) : (1 ≤ k ∧ k ≤ 3) ∧ 0 ≤ c ∧ c < 2 * k := by
  unfold rangeB at h
  simp only [Bool.and_eq_true, decide_eq_true_eq] at h
  omega
theorem IsPeb.lens {p k : Int} {l : List (Int × Int)} {F T Z : List Int} (h : IsPeb p k l F T Z) : F.length ≤ 8 ∧ T.length ≤ 24 ∧ Z.length ≤ 24 := by
  have h1 := h.1.1
  have h2 := h.1.2.1
  have h3 := h.2.2.1
  have h4 := h.2.2.2.1
  have h5 := h.many
  omega
end Go.Proofs.Ytdkpmaahinbhlaa
/- What spec.l4Tail answers: how many tails are a point. No condition. -/
namespace Go.Proofs.Ytdkpmaahinbhlaa
open Go.RowKit

theorem count_take (T : List Int) (v : Int) (k : Nat) (h : k < T.length) : (T.take (k + 1)).count v = (T.take k).count v + if T.getD k 0 = v then 1 else 0 := by
  rw [take_getD T 0 k h, List.count_append, List.count_singleton]
  by_cases c : T.getD k 0 = v
  · rw [if_pos c, if_pos (by simpa using c)]
  · rw [if_neg c, if_neg (by simpa using c)]

set_option maxHeartbeats 1000000 in
set_option maxRecDepth 100000 in
theorem tail_c (AF AT AZ : Option Addr) (cF cT cZ lo hi : Nat) (F T Z : List Int) (v : Int) (w : World) (h : Peb3 w lo hi AF AT AZ F T Z) (hT : T.length ≤ 1048576) :
    Calls Try.prog 132 #[pebV AF F.length cF AT T.length cT AZ Z.length cZ, .int .i64 v] w fun e w' => e = .returned (.int .i64 (T.count v : Int)) ∧ Below w.heap.size w w' := by
  have hal := new_below w (.cells #[.slice AF F.length cF, .slice AT T.length cT, .slice AZ Z.length cZ] 31)
  have HB := Lib.hid hal
  have HC := Lib.hid (cel3_new w (.slice AF F.length cF) (.slice AT T.length cT) (.slice AZ Z.length cZ) 31)
  have HI := Lib.hid (h.t.within (within_of hal) (.inr (Nat.zero_le _)))
  clear hal h
  obtain ⟨_, c1, _, _⟩ := HC.out.cells
  go_enter Try.func132, Try.ntmps132
  go_wp2_with fail
  generalize (w.alloc (.cells #[.slice AF F.length cF, .slice AT T.length cT, .slice AZ Z.length cZ] 31)) = w1 at *
  go_loop [5, 6] (fun s i => ∃ k : Nat, k ≤ T.length ∧ i = .int .i64 k ∧ s = .int .i64 ((T.take k).count v : Int)) (fun _ i => T.length - (intOf i).toNat)
  case atStart => exact ⟨0, by omega, rfl, rfl⟩
  case round =>
    obtain ⟨k, hk, rfl, rfl⟩ := hrel
    by_cases hlt : k < T.length
    · have hi' : (k : Int) < (T.length : Int) := by omega
      obtain ⟨b, off, rfl, _, _, hcell⟩ := HI.out.2 (by omega)
      have hc := hcell k hlt
      have HS := Lib.hid (count_take T v k hlt)
      have hle : (T.take k).count v ≤ k := Nat.le_trans (List.count_le_length ..) (by simp; omega)
      obtain ⟨x, hx⟩ : ∃ x, T.getD k 0 = x := ⟨_, rfl⟩
      rw [hx] at hc HS
      clear hcell hx
      by_cases c : x = v
      · rw [if_pos c] at HS
        have hb : (x == v) = true := by simpa using c
        go_wp2_with fail
        go_round
        case rel => exact ⟨k + 1, by omega, by go_num, by rw [HS.out]; go_num⟩
        case measure => simp [intOf]; omega
      · rw [if_neg c] at HS
        have hb : (x == v) = false := by simpa using c
        go_wp2_with fail
        go_round
        case rel => exact ⟨k + 1, by omega, by go_num, by rw [HS.out]; rfl⟩
        case measure => simp [intOf]; omega
    · obtain rfl : k = T.length := by omega
      go_wp2_with fail
      go_ret
      exact ⟨rfl, HB.out⟩
end Go.Proofs.Ytdkpmaahinbhlaa
/- What the pebble game answers, bar by bar. No program. No condition. -/
namespace Go.Proofs.Ytdkpmaahinbhlaa
open Go.RowKit

/-- What RunPebbles answers. -/
noncomputable def runB (p k c : Int) (l : List (Int × Int)) : Bool := newB p k l && rangeB k c
noncomputable def runV (p k c : Int) (l : List (Int × Int)) : List Int × List Int × List Int := if runB p k c l = true then runN p.toNat k c l l.length else ([], [], [])
theorem runV_no {p k c : Int} {l : List (Int × Int)} (h : newB p k l = false ∨ rangeB k c = false) : runB p k c l = false ∧ runV p k c l = ([], [], []) := by
  have hb : runB p k c l = false := by
    unfold runB
    rcases h with h | h <;> rw [h] <;> simp
  exact ⟨hb, by unfold runV; rw [hb]; rfl⟩
theorem newB_is {p k : Int} {l : List (Int × Int)} (h : newB p k l = true) : IsG p l ∧ 1 ≤ k ∧ k ≤ 3 := by
  unfold newB at h
  simp only [Bool.and_eq_true, decide_eq_true_eq] at h
  exact ⟨Classical.byContradiction fun g => (by have h1 := h.1; rw [isGB_no g] at h1; cases h1), h.2.1, h.2.2⟩
theorem runV_yes {P : Nat} {k c : Int} {l : List (Int × Int)} (h : newB (P : Int) k l = true) (h2 : rangeB k c = true) : runB (P : Int) k c l = true ∧ runV (P : Int) k c l = runN P k c l l.length := by
  have hb : runB (P : Int) k c l = true := by unfold runB; rw [h, h2]; rfl
  exact ⟨hb, by unfold runV; rw [if_pos hb, Int.toNat_natCast]⟩
/-- A game that can be run, after n bars. -/
theorem runN_at {P : Nat} {k c : Int} {l : List (Int × Int)} (h : newB (P : Int) k l = true) (h2 : rangeB k c = true) {n : Nat} (hn : n ≤ l.length) : IsPeb (P : Int) k l (runN P k c l n).1 (runN P k c l n).2.1 (runN P k c l n).2.2 :=
  (runN_ok (newB_is h).1 (newB_is h).2 (rangeB_is h2).2.1 n hn).1
/-- One bar more. -/
theorem runN_step {P : Nat} {k c : Int} {l : List (Int × Int)} (h : newB (P : Int) k l = true) (h2 : rangeB k c = true) {n : Nat} (hn : n < l.length) :
    plaV (P : Int) k c l (runN P k c l n).1 (runN P k c l n).2.1 (runN P k c l n).2.2 (n : Int) = plaR l c (runN P k c l n).1 (runN P k c l n).2.1 (runN P k c l n).2.2 (n : Int) ∧
    runN P k c l (n + 1) = (plaR l c (runN P k c l n).1 (runN P k c l n).2.1 (runN P k c l n).2.2 (n : Int)).getD (runN P k c l n) := by
  obtain ⟨h3, h4, h5⟩ := runN_ok (newB_is h).1 (newB_is h).2 (rangeB_is h2).2.1 n (Nat.le_of_lt hn)
  refine ⟨?_, by rw [runN]⟩
  unfold plaV
  rw [if_pos ⟨isPebB_yes h3, h2, ⟨by omega, by omega⟩, h5⟩]
theorem runN_len {P : Nat} {k c : Int} {l : List (Int × Int)} (h : newB (P : Int) k l = true) (h2 : rangeB k c = true) {n : Nat} (hn : n ≤ l.length) : (runN P k c l n).1.length ≤ 8 ∧ (runN P k c l n).2.1.length ≤ 24 ∧ (runN P k c l n).2.2.length ≤ 24 :=
  (runN_at h h2 hn).lens
theorem runV_len (p k c : Int) (l : List (Int × Int)) : (runV p k c l).1.length ≤ 8 ∧ (runV p k c l).2.1.length ≤ 24 ∧ (runV p k c l).2.2.length ≤ 24 := by
  by_cases h : newB p k l = true
  · by_cases h2 : rangeB k c = true
    · have hG := (newB_is h).1
      obtain ⟨P, rfl⟩ : ∃ P : Nat, p = (P : Int) := ⟨p.toNat, by have := hG.1; omega⟩
      rw [(runV_yes h h2).2]
      exact runN_len h h2 (Nat.le_refl _)
    · rw [(runV_no (.inr (by simpa using h2))).2]; simp
  · rw [(runV_no (.inl (by simpa using h))).2]; simp
end Go.Proofs.Ytdkpmaahinbhlaa
/- What RankOf answers, as a number. No program. No condition. -/
namespace Go.Proofs.Ytdkpmaahinbhlaa
open Go.RowKit

/-- What RankOf answers. -/
noncomputable def rankV (p k c : Int) (l : List (Int × Int)) : Int := if runB p k c l = true then (((runV p k c l).2.2.length : Nat) : Int) else -1
end Go.Proofs.Ytdkpmaahinbhlaa
/- What RankOfSet answers, as a number. No program's walk. No condition. -/
namespace Go.Proofs.Ytdkpmaahinbhlaa
open Go.RowKit

/-- What RankOfSet answers. -/
noncomputable def rankSV (p k c : Int) (l : List (Int × Int)) (zs : List Int) : Int := if isGB p l = true then rankV p k c (onlyL l zs) else -1
end Go.Proofs.Ytdkpmaahinbhlaa
/- When a state is one of a graph, bar by bar. No program. No condition. -/
namespace Go.Proofs.Ytdkpmaahinbhlaa
open Go.RowKit

/-- The bar at place i of those that were placed is in order. -/
def OkP (l : List (Int × Int)) (T Z : List Int) (i : Nat) : Prop :=
  (0 ≤ Z.getD i 0 ∧ Z.getD i 0 < (l.length : Int)) ∧ (0 < i → Z.getD (i - 1) 0 < Z.getD i 0) ∧ isEnd (l.getD (Z.getD i 0).toNat (0, 0)) (T.getD i 0)
theorem okP_snoc {l : List (Int × Int)} {T Z : List Int} {k : Nat} (h : ∀ j, j < k → OkP l T Z j) (hk : OkP l T Z k) : ∀ j, j < k + 1 → OkP l T Z j := fun j hj => by
  by_cases e : j = k
  · subst e; exact hk
  · exact h j (by omega)
theorem isPeb_bad {p k : Int} {l : List (Int × Int)} {F T Z : List Int} {i : Nat} (hi : i < Z.length) (h : ¬ OkP l T Z i) : isPebB p k l F T Z = false := isPebB_no fun hp => h (hp.2.2.2.2.1 i hi)
theorem isPeb_free {p k : Int} {l : List (Int × Int)} {F T Z : List Int} {v : Nat} (hv : v < F.length) (h : ¬ (0 ≤ F.getD v 0 ∧ F.getD v 0 + (T.count (v : Int) : Int) = k)) : isPebB p k l F T Z = false := isPebB_no fun hp => h (hp.2.2.2.2.2 v hv)
/-- As many bars were placed as there are, at most. -/
theorem okP_len {l : List (Int × Int)} {T Z : List Int} (h : ∀ j, j < Z.length → OkP l T Z j) : Z.length ≤ l.length := by
  have key : ∀ j, j < Z.length → (j : Int) ≤ Z.getD j 0 := by
    intro j
    induction j with
    | zero => intro hj; exact (h 0 hj).1.1
    | succ j ih =>
      intro hj
      have h1 := ih (by omega)
      have h2 := (h (j + 1) hj).2.1 (by omega)
      rw [show j + 1 - 1 = j by omega] at h2
      omega
  by_cases hz : Z.length = 0
  · omega
  · have h1 := key (Z.length - 1) (by omega)
    have h2 := (h (Z.length - 1) (by omega)).1.2
    omega
theorem wf_add {x : Int} {n : Nat} {k : Int} (hw : Wf x) (h0 : 0 ≤ x) (hn : n ≤ 24) (hk : 1 ≤ k ∧ k ≤ 3) : (IntKind.i64.wrap (x + (n : Int)) = k) ↔ x + (n : Int) = k := by
  unfold Wf at hw
  simp [Lit.wf, IntKind.min, IntKind.max, IntKind.signed, IntKind.bits] at hw
  constructor
  · intro h
    by_cases hx : x + (n : Int) ≤ 9223372036854775807
    · rwa [IntWalk.i64_in _ (by omega)] at h
    · exfalso
      rw [IntKind.wrap_i64] at h
      omega
  · intro h
    rw [IntWalk.i64_in _ (by omega)]
    exact h
/-- A graph and a state that are read: each in a box of its own, with the rows that they point to. -/
structure GP (w wr : World) (bx bp : Nat) (p : Int) (A : Option Addr) (cap : Nat) (l : List (Int × Int)) (AF AT AZ : Option Addr) (cF cT cZ lo hi : Nat) (F T Z : List Int) : Prop where
  box : Box wr bx p (.slice A l.length cap)
  st : Cel3 wr bp 31 (.slice AF F.length cF) (.slice AT T.length cT) (.slice AZ Z.length cZ)
  bars : BarsIn wr 0 w.heap.size A l
  rows : Peb3 wr lo hi AF AT AZ F T Z
  bel : Below w.heap.size w wr
theorem GP.below {w wr w' : World} {bx bp : Nat} {p : Int} {A : Option Addr} {cap : Nat} {l : List (Int × Int)} {AF AT AZ : Option Addr} {cF cT cZ lo hi : Nat} {F T Z : List Int} (h : GP w wr bx bp p A cap l AF AT AZ cF cT cZ lo hi F T Z) (hb : Below wr.heap.size wr w') : GP w w' bx bp p A cap l AF AT AZ cF cT cZ lo hi F T Z :=
  ⟨h.box.kept hb, h.st.kept hb, h.bars.within (within_of hb) (.inr (Nat.zero_le _)), h.rows.within (within_of hb) (.inr (Nat.zero_le _)), below_on h.bel hb h.bel.size⟩
theorem GP.drewN {w wr : World} {bx bp : Nat} {p : Int} {A : Option Addr} {cap : Nat} {l : List (Int × Int)} {AF AT AZ : Option Addr} {cF cT cZ lo hi : Nat} {F T Z : List Int} (h : GP w wr bx bp p A cap l AF AT AZ cF cT cZ lo hi F T Z) (n : Nat) : GP w (wr.drewN n) bx bp p A cap l AF AT AZ cF cT cZ lo hi F T Z := h.below (below_drewN _ _ _)
theorem row_at {W : World} {lo hi : Nat} {A : Option Addr} {zs : List Int} (h : IntsIn W lo hi A zs) (hz : 0 < zs.length) : ∃ b off, A = some ⟨b, off, none⟩ ∧ ∀ k, k < zs.length → W.cell? ⟨b, off + k, none⟩ = some (.int .i64 (zs.getD k 0)) := by
  obtain ⟨b, off, e, _, _, hc⟩ := h.2 hz
  exact ⟨b, off, e, hc⟩
end Go.Proofs.Ytdkpmaahinbhlaa
/- What slices.Equal and slices.Min answer over rows of ints. No condition. -/
namespace Go.Proofs.Ytdkpmaahinbhlaa
open Go.RowKit

end Go.Proofs.Ytdkpmaahinbhlaa
/- When a list is one of bars of a valid graph, in order; a state by it. No program. No condition. -/
namespace Go.Proofs.Ytdkpmaahinbhlaa
open Go.RowKit

/-- The number at place j names a bar, behind the one before. -/
def OkS (m : Nat) (Z : List Int) (j : Nat) : Prop := (0 ≤ Z.getD j 0 ∧ Z.getD j 0 < (m : Int)) ∧ (0 < j → Z.getD (j - 1) 0 < Z.getD j 0)
theorem okS_snoc {m : Nat} {Z : List Int} {k : Nat} (h : ∀ j, j < k → OkS m Z j) (hk : OkS m Z k) : ∀ j, j < k + 1 → OkS m Z j := fun j hj => by
  by_cases e : j = k
  · subst e; exact hk
  · exact h j (by omega)
open Classical in
/-- A set of bars of a valid graph, as a list. -/
noncomputable def setB (p : Int) (l : List (Int × Int)) (Z : List Int) : Bool := if (∀ j, j < Z.length → OkS l.length Z j) ∧ IsG p l then true else false
theorem setB_all {p : Int} {l : List (Int × Int)} {Z : List Int} (h : ∀ j, j < Z.length → OkS l.length Z j) : setB p l Z = isGB p l := by
  unfold setB
  by_cases g : IsG p l
  · rw [if_pos ⟨h, g⟩, isGB_yes g]
  · rw [if_neg (fun q => g q.2), isGB_no g]
theorem setB_bad {p : Int} {l : List (Int × Int)} {Z : List Int} {j : Nat} (hj : j < Z.length) (h : ¬ OkS l.length Z j) : setB p l Z = false := by
  unfold setB
  rw [if_neg (fun q => h (q.1 j hj))]
theorem setB_is {p : Int} {l : List (Int × Int)} {Z : List Int} (h : setB p l Z = true) : (∀ j, j < Z.length → OkS l.length Z j) ∧ IsG p l := by
  unfold setB at h
  by_cases g : (∀ j, j < Z.length → OkS l.length Z j) ∧ IsG p l
  · exact g
  · rw [if_neg g] at h; cases h
/-- The index of the bar before. -/
def lastP (Z : List Int) (j : Nat) : Int := if j = 0 then -1 else Z.getD (j - 1) 0
theorem lastP_s (Z : List Int) (j : Nat) : lastP Z (j + 1) = Z.getD j 0 := by unfold lastP; rw [if_neg (by omega)]; rfl
theorem lastP_ok {m : Nat} {Z : List Int} {j : Nat} (h : ∀ u, u < j → OkS m Z u) : OkS m Z j ↔ lastP Z j < Z.getD j 0 ∧ Z.getD j 0 < (m : Int) := by
  unfold OkS lastP
  by_cases e : j = 0
  · subst e
    rw [if_pos rfl]
    constructor
    · rintro ⟨h1, _⟩; omega
    · rintro ⟨h1, h2⟩; exact ⟨by omega, fun h => absurd h (by omega)⟩
  · rw [if_neg e]
    have h0 := (h (j - 1) (by omega)).1.1
    constructor
    · rintro ⟨h1, h2⟩; have := h2 (by omega); omega
    · rintro ⟨h1, h2⟩; exact ⟨by omega, fun _ => by omega⟩
end Go.Proofs.Ytdkpmaahinbhlaa
/- What isBarSet answers. No condition. -/
namespace Go.Proofs.Ytdkpmaahinbhlaa
open Go.RowKit

set_option maxHeartbeats 2000000 in
set_option maxRecDepth 100000 in
theorem isBarSet_c (p : Int) (l : List (Int × Int)) (A AZ : Option Addr) (cap cZ lo hi : Nat) (Z : List Int) (w : World) (hl : BarsAt w w.heap.size A l) (hz : IntsIn w lo hi AZ Z) (hn : l.length ≤ 1048576) (hZ : Z.length ≤ 1048576) :
    Calls Try.prog 113 #[.agg #[.int .i64 p, .slice A l.length cap], .slice AZ Z.length cZ] w fun e w' => e = .returned (.bool (setB p l Z)) ∧ Below w.heap.size w w' := by
  have hA := new_below w (.cells #[.int .i64 p, .slice A l.length cap] 26)
  have HA := Lib.hid hA
  have HL := Lib.hid ((bars_in hl).within (within_of hA) (.inr (Nat.zero_le _)))
  have HZ := Lib.hid (hz.within (within_of hA) (.inr (Nat.zero_le _)))
  have BX := Lib.hid (box_new w p (.slice A l.length cap) 26)
  clear hl hz hA
  go_enter Try.func113, Try.ntmps113
  go_wp2_with fail
  generalize (w.alloc (.cells #[.int .i64 p, .slice A l.length cap] 26)) = w1 at *
  go_loopw [5, 10] (fun la i wr => ∃ j : Nat, j ≤ Z.length ∧ i = .int .i64 j ∧ la = .int .i64 (lastP Z j) ∧ (∀ u, u < j → OkS l.length Z u) ∧ Below w1.heap.size w1 wr) (fun _ i _ => Z.length - (intOf i).toNat)
  case atStart => exact ⟨0, Nat.zero_le _, rfl, rfl, fun u hu => absurd hu (Nat.not_lt_zero _), Below.refl _ _⟩
  case round =>
    obtain ⟨j, hj, rfl, rfl, hok, hb⟩ := hrel
    have HB := Lib.hid hb
    have HOK := Lib.hid hok
    have BX1 := Lib.hid (BX.out.kept hb)
    obtain ⟨_, g0, g1⟩ := BX1.out
    by_cases hlt : j < Z.length
    · have hji : (j : Int) < (Z.length : Int) := by omega
      obtain ⟨b, off, rfl, hzc⟩ := row_at (HZ.out.within (within_of hb) (.inr (Nat.zero_le _))) (by omega)
      have hz := hzc j hlt
      have HLO := Lib.hid (lastP_ok hok)
      have HBAD := Lib.hid (fun h : ¬ OkS l.length Z j => setB_bad (p := p) hlt h)
      have HLN := Lib.hid (lastP_s Z j)
      clear hb hok hzc
      obtain ⟨y, hyd⟩ : ∃ y, Z.getD j 0 = y := ⟨_, rfl⟩
      obtain ⟨la, hla⟩ : ∃ la, lastP Z j = la := ⟨_, rfl⟩
      rw [hyd] at hz HLO HLN
      rw [hla] at HLO ⊢
      clear hyd hla
      by_cases c1 : y ≤ la
      · have Q := Lib.hid (HBAD.out fun h => by have := HLO.out.1 h; omega)
        have d1 : decide (y ≤ la) = true := by simpa using c1
        go_wp2_with fail
        go_ret
        exact ⟨by rw [Q.out]; rfl, below_on HA.out HB.out HA.out.size⟩
      · have d1 : decide (y ≤ la) = false := by simpa using c1
        by_cases c2 : (l.length : Int) ≤ y
        · have Q := Lib.hid (HBAD.out fun h => by have := HLO.out.1 h; omega)
          go_wp2_with fail
          go_ret
          exact ⟨by rw [Q.out]; rfl, below_on HA.out HB.out HA.out.size⟩
        · have HN := Lib.hid (okS_snoc HOK.out (HLO.out.2 ⟨by omega, by omega⟩))
          go_wp2_with fail
          go_roundw
          case rel => exact ⟨j + 1, by omega, by go_num, by rw [HLN.out], HN.out, HB.out⟩
          case measure => simp [intOf]; omega
    · obtain rfl : j = Z.length := by omega
      have HL1 := Lib.hid (HL.out.within (within_of hb) (.inr (Nat.zero_le _)))
      have HQ := Lib.hid (setB_all (p := p) HOK.out)
      clear hb hok
      go_wp2_with fail
      refine (implIsGraph p l A cap _ HL1.out.at hn).mono ?_
      rintro e w2 ⟨rfl, hb⟩
      have HB2 := Lib.hid (below_on (below_on HA.out HB.out HA.out.size) hb (by have := HA.out.size; have := HB.out.size; omega))
      clear hb
      go_wp2_with fail
      go_ret
      exact ⟨by rw [HQ.out]; rfl, HB2.out⟩
end Go.Proofs.Ytdkpmaahinbhlaa
/- What IsIndependent answers; that the bars kept do not depend on a list's order. No program. No condition. -/
namespace Go.Proofs.Ytdkpmaahinbhlaa
open Go.RowKit

/-- What IsIndependent answers. -/
noncomputable def indB (p k c : Int) (l : List (Int × Int)) (zs : List Int) : Bool := setB p l zs && rangeB k c && decide (rankSV p k c l zs = (zs.length : Int))
theorem indB_set {p k c : Int} {l : List (Int × Int)} {zs : List Int} (h : setB p l zs = false) : indB p k c l zs = false := by unfold indB; rw [h]; rfl
theorem indB_rng {p k c : Int} {l : List (Int × Int)} {zs : List Int} (h : rangeB k c = false) : indB p k c l zs = false := by unfold indB; rw [h]; simp
theorem indB_yes {p k c : Int} {l : List (Int × Int)} {zs : List Int} (h : setB p l zs = true) (h2 : rangeB k c = true) : indB p k c l zs = decide (rankSV p k c l zs = (zs.length : Int)) := by unfold indB; rw [h, h2]; simp
theorem onlyK_same (l : List (Int × Int)) (S T : Nat → Bool) : ∀ n, (∀ j, j < n → S j = T j) → onlyK l S n = onlyK l T n := by
  intro n
  induction n with
  | zero => intro _; rfl
  | succ n ih =>
    intro h
    unfold onlyK
    rw [ih (fun j hj => h j (by omega)), h n (by omega)]
theorem onlyL_same {l : List (Int × Int)} {zs ys : List Int} (h : ∀ j : Nat, j < l.length → ((j : Int) ∈ zs ↔ (j : Int) ∈ ys)) : onlyL l zs = onlyL l ys :=
  onlyK_same l _ _ _ fun j hj => by unfold inS; exact decide_eq_decide.2 (h j hj)
theorem rankSV_same {p k c : Int} {l : List (Int × Int)} {zs ys : List Int} (h : ∀ j : Nat, j < l.length → ((j : Int) ∈ zs ↔ (j : Int) ∈ ys)) : rankSV p k c l zs = rankSV p k c l ys := by
  unfold rankSV
  rw [onlyL_same h]
end Go.Proofs.Ytdkpmaahinbhlaa
/- The other end of a bar, the specification's and the program's; a copy of a row of ints: slices.Clone. No condition. -/
namespace Go.Proofs.Ytdkpmaahinbhlaa
open Go.RowKit

set_option maxRecDepth 100000 in
theorem other_c (x : Int × Int) (v : Int) (w : World) (h1 : 0 ≤ x.1 ∧ x.1 ≤ 8) (h2 : 0 ≤ x.2 ∧ x.2 ≤ 8) (h3 : 0 ≤ v ∧ v ≤ 8) :
    Calls Try.prog 226 #[.agg #[.int .i64 x.1, .int .i64 x.2], .int .i64 v] w fun e w' => e = .returned (.int .i64 (oth x v)) ∧ Below w.heap.size w w' := by
  obtain ⟨a, b⟩ := x
  have HO := Lib.hid (show oth (a, b) v = a + b - v from rfl)
  simp only at h1 h2
  go_enter Try.func226, Try.ntmps226
  go_wp2
  go_ret
  exact ⟨by rw [HO.out]; rfl, (Below.refl _ _).alloc (Nat.le_refl _) _⟩

set_option maxRecDepth 100000 in
theorem otherEnd_c (x : Int × Int) (v : Int) (w : World) (h : isEnd x v) :
    Calls Try.prog 225 #[.agg #[.int .i64 x.1, .int .i64 x.2], .int .i64 v] w fun e w' => e = .returned (.int .i64 (oth x v)) ∧ Below w.heap.size w w' := by
  obtain ⟨a, b⟩ := x
  have ho : oth (a, b) v = a + b - v := rfl
  unfold isEnd at h
  simp only at h
  by_cases c : v = a
  · have HO := Lib.hid (show oth (a, b) v = b by omega)
    have e1 : (v == a) = true := by simpa using c
    clear h ho c
    go_enter Try.func225, Try.ntmps225
    go_wp2
    go_ret
    exact ⟨by rw [HO.out]; rfl, (Below.refl _ _).alloc (Nat.le_refl _) _⟩
  · have HO := Lib.hid (show oth (a, b) v = a by omega)
    have e1 : (v == a) = false := by simpa using c
    clear h ho c
    go_enter Try.func225, Try.ntmps225
    go_wp2
    go_ret
    exact ⟨by rw [HO.out]; rfl, (Below.refl _ _).alloc (Nat.le_refl _) _⟩

theorem news_ints {W : World} {lo hi : Nat} {a : Addr} {zs : List Int} (h : IntsIn W lo hi (some a) zs) : ∀ j u, (intCells zs)[j]? = some u → W.cell? (a.add j) = some u := fun j u hj => by
  have hlt : j < zs.length := by
    have := (List.getElem?_eq_some_iff.1 hj).1
    rwa [intCells_len] at this
  obtain ⟨b, off, e, _, _, hc⟩ := h.2 (by omega)
  cases e
  have hadd : (⟨b, off, none⟩ : Addr).add j = ⟨b, off + j, none⟩ := by unfold Addr.add; split <;> simp_all
  rw [hadd, hc j hlt]
  rw [intCells_get zs j hlt] at hj
  exact hj
theorem intCells_one (zs : List Int) : ∀ u ∈ intCells zs, u.oneCell' = true := by
  intro u hu
  obtain ⟨x, _, rfl⟩ := List.mem_map.1 hu
  rfl

set_option maxHeartbeats 2000000 in
set_option maxRecDepth 100000 in
theorem slCloneI (zs : List Int) (A : Option Addr) (cap lo hi : Nat) (w : World) (hz : IntsIn w lo hi A zs) (hn : zs.length ≤ 1048576) :
    Calls Try.prog 146 #[.slice A zs.length cap] w (IntsO w zs) := by
  obtain ⟨i0, hi0, hz0, hz1, hz2⟩ := info_parts infoInt
  have q : ∀ (w : World) (a : Option Addr) (n c n' c' : Nat), (binOp .eql 29 (.slice a n c) (.slice none n' c')).run Try.prog w = .ok (.bool a.isNone) w := fun w a n c n' c' => Go.Lib.run_eql_slice_nil w _ _ a n c n' c' Try.underlying29
  have hm := World.ownsRow_made (base := w.heap.size) (e := 3) (size := 1) w #[] 0 (Nat.le_refl _) (by unfold maxLen; omega) (by simp)
  have HM := Lib.hid hm
  clear hm
  cases A with
  | none =>
    have h0 : zs = [] := by
      refine List.eq_nil_of_length_eq_zero (Nat.eq_zero_of_not_pos fun h => ?_)
      obtain ⟨b, off, e, _⟩ := hz.2 h
      cases e
    subst h0
    clear hz
    go_enter Try.func146, Try.ntmps146
    go_wp2_with fail
    go_ret
    exact ⟨none, 0, rfl, ⟨Nat.le_refl _, .inl rfl⟩, Below.refl _ _⟩
  | some a =>
    have HC := Lib.hid (news_ints (hz.within (within_alloc w (.cells #[] 3)) (.inr (Nat.zero_le _))))
    clear hz
    go_enter Try.func146, Try.ntmps146
    go_wp2_with (at_builtin; refine wpList_append_own _ rfl _ _ 29 rfl w.heap.size 3 i0 _ 1 8 Try.underlying29 hi0 hz0 hz1 hz2 rfl (by omega) _ 0 [] rfl HM.out a zs.length cap (intCells zs) rfl (by rw [intCells_len]; omega) HC.out (intCells_one zs) (by unfold maxLen; omega) (by omega) (by simp) ?_; intro v' w' ho hg hnil; rw [Nat.zero_add, List.nil_append] at ho; obtain ⟨A2, c2, rfl⟩ := own_shape ho; have HO := Lib.hid (own_ints' ho); have HG := Lib.hid (show Below w.heap.size w w' from (new_below w (.cells #[] 3)).grown hg (by simp) fun k hk => by cases hk; exact Nat.le_refl _); clear ho hg hnil)
    go_ret
    exact ⟨A2, c2, rfl, HO.out, HG.out⟩
end Go.Proofs.Ytdkpmaahinbhlaa
/- A copy of a row of ints by append onto an empty row: what is run, and where the copy lies. No condition. -/
namespace Go.Proofs.Ytdkpmaahinbhlaa
open Go.RowKit

theorem run_copyI (w : World) (ty : TypeId) (g : Nat) (A : Option Addr) (zs : List Int) (cap lo hi : Nat) (hz : IntsIn w lo hi A zs) (hn : zs.length ≤ 1048576) :
    ∃ A' c' w', (Builtin.append_ #[29, 29] ty #[.slice (some ⟨g, 0, none⟩) 0 0, .slice A zs.length cap]).run Try.prog w = .ok (.slice A' zs.length c') w' ∧ OwnInts w' w.heap.size w'.heap.size A' c' zs ∧ Below w.heap.size w w' := by
  obtain ⟨i0, hi0, hz0, hz1, hz2⟩ := info_parts infoInt
  by_cases h0 : zs.length = 0
  · have e : zs = [] := List.eq_nil_of_length_eq_zero h0
    subst e
    refine ⟨some ⟨g, 0, none⟩, 0, w, ?_, ⟨Nat.le_refl _, .inl rfl⟩, Below.refl _ _⟩
    cases A <;> simp [Builtin.append_, run_underlying Try.underlying29, sizeOf, typeInfo, hi0, Builtin.lenOf, Builtin.firstCells, loadCells, loadCellsFrom, storeCells]
  · obtain ⟨b, off, rfl, _, _, _⟩ := hz.2 (by omega)
    have hr := run_append_grow (P := Try.prog) w 29 ty 3 i0 _ Try.underlying29 hi0 hz0 ⟨g, 0, none⟩ 0 0 [] (by simp) (fun j v hj => by simp at hj) ⟨b, off, none⟩ zs.length cap (intCells zs) (by rw [hz1, intCells_len]; omega) (news_ints hz) (by omega) (by omega) (growslice_fits (by omega) (by rw [hz2]; omega))
    rw [Nat.zero_add] at hr
    refine ⟨_, _, _, hr, ?_, ((Below.refl _ _).drew).alloc (Nat.le_refl _) _⟩
    have hge := grownCap_ge w zs.length 0 3
    have hcm := grownCap_le_maxLen w zs.length 0 3 (by unfold maxLen; omega)
    refine own_ints' ⟨by rw [intCells_len]; omega, .inr ⟨w.heap.size, _, _, rfl, Nat.le_refl _, heap_alloc_new w.drew _, hge, hcm, ?_, ?_⟩⟩
    · simp only [Array.size_append, List.size_toArray, size_zeroCells]
      rw [intCells_len]
      simp [Value.cells]
      omega
    · have hl : zs.length * 1 = (intCells zs).length := by rw [intCells_len]; omega
      rw [hl]
      simp
theorem wp_copyI {w : World} {o : Oper} {a : Act} {K : Act → World → Prop} {Q : Exit → Act → World → Prop} (s x : Operand) (ho : o.op = .call { callee := .builtin .append, args := #[s, x], argTypes := #[29, 29] })
    (g : Nat) (A : Option Addr) (zs : List Int) (cap lo hi : Nat) (hs : a.eval s = .slice (some ⟨g, 0, none⟩) 0 0) (hx : a.eval x = .slice A zs.length cap) (hz : IntsIn w lo hi A zs) (hn : zs.length ≤ 1048576)
    (h : ∀ A' c' w', OwnInts w' w.heap.size w'.heap.size A' c' zs → Below w.heap.size w w' → K (a.put o.dst (.slice A' zs.length c')) w') : o.wp Try.prog a w K Q := by
  obtain ⟨A', c', w', hr, h2, h3⟩ := run_copyI w o.type g A zs cap lo hi hz hn
  unfold Oper.wp execOp
  simp only [ho, resolve, invoke, builtin, Sem.run_bind, Sem.run_pure, Result.andThen_ok, List.map_toArray, List.map_cons, List.map_nil, hs, hx, hr]
  exact h A' c' w' h2 h3
/-- What stands while a state is copied. -/
structure CpS (w W : World) (AF : Option Addr) (cF : Nat) (AT : Option Addr) (cT : Nat) (AZ : Option Addr) (cZ lo hi : Nat) (F T Z : List Int) : Prop where
  arg : Cel3 W w.heap.size 31 (.slice AF F.length cF) (.slice AT T.length cT) (.slice AZ Z.length cZ)
  ret : Cel3 W (w.heap.size + 1) 31 (.slice none 0 0) (.slice none 0 0) (.slice none 0 0)
  src : Peb3 W lo hi AF AT AZ F T Z
  bel : Below w.heap.size w W
theorem CpS.below {w W W' : World} {AF : Option Addr} {cF : Nat} {AT : Option Addr} {cT : Nat} {AZ : Option Addr} {cZ lo hi : Nat} {F T Z : List Int} (h : CpS w W AF cF AT cT AZ cZ lo hi F T Z) (hb : Below W.heap.size W W') : CpS w W' AF cF AT cT AZ cZ lo hi F T Z :=
  ⟨h.arg.kept hb, h.ret.kept hb, h.src.within (within_of hb) (.inr (Nat.zero_le _)), below_on h.bel hb h.bel.size⟩
theorem CpS.cells {w W : World} {AF : Option Addr} {cF : Nat} {AT : Option Addr} {cT : Nat} {AZ : Option Addr} {cZ lo hi : Nat} {F T Z : List Int} (h : CpS w W AF cF AT cT AZ cZ lo hi F T Z) :
    W.cell? ⟨w.heap.size, 0, none⟩ = some (.slice AF F.length cF) ∧ W.cell? ⟨w.heap.size, 1, none⟩ = some (.slice AT T.length cT) ∧ W.cell? ⟨w.heap.size, 2, none⟩ = some (.slice AZ Z.length cZ) := ⟨h.arg.cells.1, h.arg.cells.2.1, h.arg.cells.2.2.1⟩
end Go.Proofs.Ytdkpmaahinbhlaa
/- A list with a number put in its place. No program. No condition. -/
namespace Go.Proofs.Ytdkpmaahinbhlaa
open Go.RowKit

/-- What is collected of the first j, and whether the number is in it. -/
def wiS (zs : List Int) (x : Int) : Nat → List Int × Bool
  | 0 => ([], false)
  | j + 1 => if zs.getD j 0 = x then ((wiS zs x j).1 ++ [zs.getD j 0], true) else if x < zs.getD j 0 ∧ (wiS zs x j).2 = false then ((wiS zs x j).1 ++ [x] ++ [zs.getD j 0], true) else ((wiS zs x j).1 ++ [zs.getD j 0], (wiS zs x j).2)
def wiL (zs : List Int) (x : Int) : List Int := if (wiS zs x zs.length).2 = true then (wiS zs x zs.length).1 else (wiS zs x zs.length).1 ++ [x]
theorem wiS_eq {zs : List Int} {x : Int} {j : Nat} (h : zs.getD j 0 = x) : wiS zs x (j + 1) = ((wiS zs x j).1 ++ [zs.getD j 0], true) := by rw [wiS, if_pos h]
theorem wiS_put {zs : List Int} {x : Int} {j : Nat} (h : ¬ zs.getD j 0 = x) (h2 : x < zs.getD j 0) (h3 : (wiS zs x j).2 = false) : wiS zs x (j + 1) = ((wiS zs x j).1 ++ [x] ++ [zs.getD j 0], true) := by rw [wiS, if_neg h, if_pos ⟨h2, h3⟩]
theorem wiS_on {zs : List Int} {x : Int} {j : Nat} (h : ¬ zs.getD j 0 = x) (h2 : ¬ (x < zs.getD j 0 ∧ (wiS zs x j).2 = false)) : wiS zs x (j + 1) = ((wiS zs x j).1 ++ [zs.getD j 0], (wiS zs x j).2) := by rw [wiS, if_neg h, if_neg h2]
theorem wiS_len (zs : List Int) (x : Int) : ∀ j, (wiS zs x j).1.length ≤ j + (if (wiS zs x j).2 = true then 1 else 0) := by
  intro j
  induction j with
  | zero => simp [wiS]
  | succ j ih =>
    by_cases c1 : zs.getD j 0 = x
    · rw [wiS_eq c1]
      simp
      split at ih <;> omega
    · by_cases c2 : x < zs.getD j 0 ∧ (wiS zs x j).2 = false
      · rw [wiS_put c1 c2.1 c2.2]
        rw [c2.2] at ih
        simp at ih ⊢
        omega
      · rw [wiS_on c1 c2]
        simp
        split at ih <;> (try split) <;> omega
theorem wiL_len (zs : List Int) (x : Int) : (wiL zs x).length ≤ zs.length + 1 := by
  have h := wiS_len zs x zs.length
  unfold wiL
  split
  · rename_i e; rw [if_pos e] at h; exact h
  · rename_i e; rw [if_neg e] at h; simp; omega
theorem wiS_mem (zs : List Int) (x y : Int) : ∀ j, j ≤ zs.length → (y ∈ (wiS zs x j).1 ↔ y ∈ zs.take j ∨ ((wiS zs x j).2 = true ∧ y = x)) := by
  intro j
  induction j with
  | zero => intro _; simp [wiS]
  | succ j ih =>
    intro hj
    have h := ih (by omega)
    have ht : (y ∈ zs.take (j + 1)) ↔ (y ∈ zs.take j ∨ y = zs.getD j 0) := by
      have e : zs.take (j + 1) = zs.take j ++ [zs.getD j 0] := by
        have hl : j < zs.length := by omega
        rw [List.take_add_one, List.getElem?_eq_getElem hl, List.getD, List.getElem?_eq_getElem hl]
        rfl
      rw [e, List.mem_append, List.mem_singleton]
    rw [ht]
    by_cases c1 : zs.getD j 0 = x
    · rw [wiS_eq c1, List.mem_append, h]
      simp only [List.mem_singleton, c1]
      constructor
      · rintro ((h | h) | h)
        · exact .inl (.inl h)
        · exact .inr ⟨trivial, h.2⟩
        · exact .inl (.inr h)
      · rintro ((h | h) | h)
        · exact .inl (.inl h)
        · exact .inr h
        · exact .inr h.2
    · by_cases c2 : x < zs.getD j 0 ∧ (wiS zs x j).2 = false
      · rw [wiS_put c1 c2.1 c2.2, List.mem_append, List.mem_append, h, c2.2]
        simp only [List.mem_singleton]
        constructor
        · rintro (((h | h) | h) | h)
          · exact .inl (.inl h)
          · exact absurd h.1 (by decide)
          · exact .inr ⟨trivial, h⟩
          · exact .inl (.inr h)
        · rintro ((h | h) | h)
          · exact .inl (.inl (.inl h))
          · exact .inr h
          · exact .inl (.inr h.2)
      · rw [wiS_on c1 c2, List.mem_append, h]
        simp only [List.mem_singleton]
        constructor
        · rintro ((h | h) | h)
          · exact .inl (.inl h)
          · exact .inr h
          · exact .inl (.inr h)
        · rintro ((h | h) | h)
          · exact .inl (.inl h)
          · exact .inr h
          · exact .inl (.inr h)
theorem wiL_mem (zs : List Int) (x y : Int) : y ∈ wiL zs x ↔ y ∈ zs ++ [x] := by
  have h := wiS_mem zs x y zs.length (Nat.le_refl _)
  rw [List.take_length] at h
  rw [List.mem_append, List.mem_singleton]
  unfold wiL
  split
  · rename_i e
    rw [h, e]
    exact ⟨fun q => q.elim .inl fun q => .inr q.2, fun q => q.elim .inl fun q => .inr ⟨rfl, q⟩⟩
  · rename_i e
    rw [List.mem_append, List.mem_singleton, h]
    exact ⟨fun q => q.elim (fun q => q.elim .inl fun q => absurd q.1 e) .inr, fun q => q.elim (fun q => .inl (.inl q)) .inr⟩
theorem rank_wi (p k c : Int) (l : List (Int × Int)) (zs : List Int) (x : Int) : rankSV p k c l (wiL zs x) = rankSV p k c l (zs ++ [x]) := rankSV_same fun _ _ => wiL_mem zs x _
end Go.Proofs.Ytdkpmaahinbhlaa
/- A state of the call's own whose rows are written: where they lie, and what a store makes of them. No condition. -/
namespace Go.Proofs.Ytdkpmaahinbhlaa
open Go.RowKit

/-- Three rows in blocks of their own; the first two are not empty. -/
structure St3 (W : World) (B gF cF gT cT : Nat) (AZ : Option Addr) (cZ z1 z2 : Nat) (F T Z : List Int) : Prop where
  f : W.ownsRow B 3 1 (.slice (some ⟨gF, 0, none⟩) F.length cF) F.length (intCells F)
  t : W.ownsRow B 3 1 (.slice (some ⟨gT, 0, none⟩) T.length cT) T.length (intCells T)
  z : OwnInts W z1 z2 AZ cZ Z
  b : B ≤ z1
  ne : gF ≠ gT
  dF : gF < z1 ∨ z2 ≤ gF
  dT : gT < z1 ∨ z2 ≤ gT
theorem own_raise {W : World} {B g cap n size : Nat} {e : TypeId} {xs : List Value} (h : W.ownsRow B e size (.slice (some ⟨g, 0, none⟩) n cap) n xs) : W.ownsRow g e size (.slice (some ⟨g, 0, none⟩) n cap) n xs := by
  refine ⟨h.1, ?_⟩
  rcases h.2 with ⟨h1, _⟩ | ⟨g', cap', cur, h1, _, h3⟩
  · cases h1
  · cases h1
    exact .inr ⟨g, cap, cur, rfl, Nat.le_refl _, h3⟩
theorem Own3.open_ {W : World} {lo hi : Nat} {AF AT AZ : Option Addr} {cF cT cZ : Nat} {F T Z : List Int} (h : Own3 W lo hi AF cF AT cT AZ cZ F T Z) (hF : 0 < F.length) (hT : 0 < T.length) :
    ∃ gF gT z1 z2, AF = some ⟨gF, 0, none⟩ ∧ AT = some ⟨gT, 0, none⟩ ∧ lo ≤ gF ∧ gF < hi ∧ lo ≤ gT ∧ gT < hi ∧ z2 ≤ hi ∧ St3 W lo gF cF gT cT AZ cZ z1 z2 F T Z := by
  obtain ⟨⟨f1, f2⟩, ⟨t1, t2⟩, ⟨z1, z2⟩, o1, o2, o3, d1, d2, d3, b1, b2, b3, h4⟩ := h
  simp only [Dis] at o1 o2 o3 d1 d2 d3 b1 b2 b3
  rcases o1.2 with e | ⟨gF, rfl, g1, g2, hf⟩
  · subst e; simp at hF
  · rcases o2.2 with e | ⟨gT, rfl, g3, g4, ht⟩
    · subst e; simp at hT
    · exact ⟨gF, gT, z1, z2, rfl, rfl, by omega, by omega, by omega, by omega, by omega, own_base hf b1.1, own_base ht b2.1, o3, b3.1, by omega, by omega, by omega⟩
theorem St3.own {W : World} {B gF cF gT cT : Nat} {AZ : Option Addr} {cZ z1 z2 : Nat} {F T Z : List Int} (h : St3 W B gF cF gT cT AZ cZ z1 z2 F T Z) : Own3 W B W.heap.size (some ⟨gF, 0, none⟩) cF (some ⟨gT, 0, none⟩) cT AZ cZ F T Z := by
  have h1 := h.f.lt gF rfl
  have h2 := h.t.lt gT rfl
  have h3 := h.z.1
  have n1 := h.ne
  have n2 := h.dF
  have n3 := h.dT
  have n4 := h.b
  exact ⟨(gF, gF + 1), (gT, gT + 1), (z1, z2), ⟨by simp only []; omega, .inr ⟨gF, rfl, Nat.le_refl _, Nat.lt_succ_self _, own_raise h.f⟩⟩, ⟨by simp only []; omega, .inr ⟨gT, rfl, Nat.le_refl _, Nat.lt_succ_self _, own_raise h.t⟩⟩, h.z, by unfold Dis; simp only []; omega, by unfold Dis; simp only []; omega, by unfold Dis; simp only []; omega, by simp only []; omega, by simp only []; omega, ⟨h.b, h3⟩, Nat.le_refl _⟩
theorem St3.below {W W' : World} {B gF cF gT cT : Nat} {AZ : Option Addr} {cZ z1 z2 : Nat} {F T Z : List Int} (h : St3 W B gF cF gT cT AZ cZ z1 z2 F T Z) (hb : Below W.heap.size W W') : St3 W' B gF cF gT cT AZ cZ z1 z2 F T Z :=
  ⟨own_below h.f hb, own_below h.t hb, h.z.within (within_of hb) (.inr (Nat.zero_le _)), h.b, h.ne, h.dF, h.dT⟩
theorem St3.within {W W' : World} {B gF cF gT cT : Nat} {AZ : Option Addr} {cZ z1 z2 lo hi : Nat} {F T Z : List Int} (h : St3 W B gF cF gT cT AZ cZ z1 z2 F T Z) (hw : Within lo hi W W') (h1 : gF < lo ∨ hi ≤ gF) (h2 : gT < lo ∨ hi ≤ gT) (h3 : z2 ≤ lo ∨ hi ≤ z1) : St3 W' B gF cF gT cT AZ cZ z1 z2 F T Z :=
  ⟨own_block h.f (hw.block gF (h.f.lt gF rfl).2 h1), own_block h.t (hw.block gT (h.t.lt gT rfl).2 h2), h.z.within hw h3, h.b, h.ne, h.dF, h.dT⟩
theorem intCells_set (zs : List Int) (i : Nat) (x : Int) : (intCells zs).set i (.int .i64 x) = intCells (zs.set i x) := by
  unfold intCells
  rw [← List.map_set]
theorem St3.setF {W : World} {B gF cF gT cT : Nat} {AZ : Option Addr} {cZ z1 z2 : Nat} {F T Z : List Int} (h : St3 W B gF cF gT cT AZ cZ z1 z2 F T Z) (i : Nat) (x : Int) : St3 (W.setCell ⟨gF, i, none⟩ (.int .i64 x)) B gF cF gT cT AZ cZ z1 z2 (F.set i x) T Z := by
  have hw := within_set W gF i (.int .i64 x)
  have h1 := (h.f.stored i (.int .i64 x)).1
  rw [intCells_set] at h1
  exact ⟨by rw [List.length_set]; exact h1, own_block h.t (hw.block gT (h.t.lt gT rfl).2 (by have := h.ne; omega)), h.z.within hw (by have := h.dF; omega), h.b, h.ne, h.dF, h.dT⟩
theorem St3.setT {W : World} {B gF cF gT cT : Nat} {AZ : Option Addr} {cZ z1 z2 : Nat} {F T Z : List Int} (h : St3 W B gF cF gT cT AZ cZ z1 z2 F T Z) (i : Nat) (x : Int) : St3 (W.setCell ⟨gT, i, none⟩ (.int .i64 x)) B gF cF gT cT AZ cZ z1 z2 F (T.set i x) Z := by
  have hw := within_set W gT i (.int .i64 x)
  have h1 := (h.t.stored i (.int .i64 x)).1
  rw [intCells_set] at h1
  exact ⟨own_block h.f (hw.block gF (h.f.lt gF rfl).2 (by have := h.ne; omega)), by rw [List.length_set]; exact h1, h.z.within hw (by have := h.dT; omega), h.b, h.ne, h.dF, h.dT⟩
theorem St3.cellF {W : World} {B gF cF gT cT : Nat} {AZ : Option Addr} {cZ z1 z2 : Nat} {F T Z : List Int} (h : St3 W B gF cF gT cT AZ cZ z1 z2 F T Z) (i : Nat) (hi : i < F.length) : W.cell? ⟨gF, i, none⟩ = some (.int .i64 (F.getD i 0)) ∧ W.frozen? ⟨gF, i, none⟩ = false :=
  ⟨(h.f.cellAt i (by omega)).trans (intCells_get F i hi), h.f.frozenAt i⟩
theorem St3.cellT {W : World} {B gF cF gT cT : Nat} {AZ : Option Addr} {cZ z1 z2 : Nat} {F T Z : List Int} (h : St3 W B gF cF gT cT AZ cZ z1 z2 F T Z) (i : Nat) (hi : i < T.length) : W.cell? ⟨gT, i, none⟩ = some (.int .i64 (T.getD i 0)) ∧ W.frozen? ⟨gT, i, none⟩ = false :=
  ⟨(h.t.cellAt i (by omega)).trans (intCells_get T i hi), h.t.frozenAt i⟩
end Go.Proofs.Ytdkpmaahinbhlaa
/- Rows of the call's own: many cells stored, a row shrunk, the rest cleared (ints). No condition. -/
namespace Go.Proofs.Ytdkpmaahinbhlaa
open Go.RowKit

theorem own_setCellsI {base : Nat} {e : TypeId} {size g n cap : Nat} : ∀ (vs : List Value) (o : Nat) (w : World) (xs : List Value), w.ownsRow base e size (.slice (some ⟨g, 0, none⟩) n cap) n xs →
    ∃ ys, (w.setCells g o vs).ownsRow base e size (.slice (some ⟨g, 0, none⟩) n cap) n ys ∧ w.grownBy (w.setCells g o vs) (some g) ∧ ys.length = xs.length ∧ ∀ j, j < xs.length → ys[j]? = if o ≤ j ∧ j < o + vs.length then vs[j - o]? else xs[j]? := by
  intro vs
  induction vs with
  | nil =>
    intro o w xs h
    refine ⟨xs, h, World.grownBy.refl _ _, rfl, fun j _ => ?_⟩
    rw [if_neg (by simp; try omega)]
  | cons v vs ih =>
    intro o w xs h
    have s := h.stored o v
    obtain ⟨ys, h1, h2, h3, h4⟩ := ih (o + 1) _ _ s.1
    refine ⟨ys, h1, s.2.trans_ h2, by simpa using h3, fun j hj => ?_⟩
    rw [h4 j (by simpa using hj)]
    by_cases c1 : o + 1 ≤ j ∧ j < o + 1 + vs.length
    · rw [if_pos c1, if_pos (by simp; omega)]
      rw [show j - o = (j - (o + 1)) + 1 by omega, List.getElem?_cons_succ]
    · rw [if_neg c1]
      by_cases c2 : j = o
      · subst c2
        rw [if_pos (by simp), List.getElem?_set, if_pos rfl, if_pos hj, Nat.sub_self]
        rfl
      · rw [if_neg (by simp; omega), List.getElem?_set_ne (by omega)]
theorem own_shrinkI {w : World} {base : Nat} {e : TypeId} {size g n cap m : Nat} {xs : List Value} (h : w.ownsRow base e size (.slice (some ⟨g, 0, none⟩) n cap) n xs) (hm : m ≤ n) : w.ownsRow base e size (.slice (some ⟨g, 0, none⟩) m cap) m (xs.take (m * size)) := by
  have hms : m * size ≤ n * size := Nat.mul_le_mul_right _ hm
  refine ⟨by rw [List.length_take, h.1]; omega, ?_⟩
  rcases h.2 with ⟨h', _⟩ | ⟨g', cap', cur, h', hb, hg, hnc, hcm, hcs, htake⟩
  · cases h'
  · cases h'
    refine .inr ⟨g, cap, cur, rfl, hb, hg, by omega, hcm, hcs, ?_⟩
    rw [← htake, List.take_take, Nat.min_eq_left hms]
theorem zeroC (n : Nat) : (Builtin.zeroCells (Value.int .i64 0).cells n).toList = List.replicate n (.int .i64 0) := by
  unfold Builtin.zeroCells
  apply List.ext_getElem?
  intro j
  simp only [Value.cells]
  by_cases h : j < n
  · simp [h, Nat.mod_one]
  · simp [h]
theorem clearN (w : World) (ty : TypeId) (b o n c : Nat) (hn : 0 < n) (hc : ∀ j, j < n → (w.cell? ⟨b, o + j, none⟩).isSome = true) (hf : ∀ j, j < n → w.frozen? ⟨b, o + j, none⟩ = false) :
    (Builtin.clear_ #[29] ty #[.slice (some ⟨b, o, none⟩) n c]).run Try.prog w = .ok (.tuple #[]) (w.setCells b o (List.replicate n (.int .i64 0))) := by
  obtain ⟨n, rfl⟩ : ∃ u, n = u + 1 := ⟨n - 1, by omega⟩
  have hv := Try.zeroValue3
  have hst := run_storeCells_cells (P := Try.prog) b o (List.replicate (n + 1) (.int .i64 0)) 0 w (fun j hj => by rw [List.length_replicate] at hj; rw [Nat.add_zero]; exact hc j hj) (fun j hj => by rw [List.length_replicate] at hj; rw [Nat.add_zero]; exact hf j hj) (by intro v hv'; rw [List.eq_of_mem_replicate hv']; rfl)
  simp only [Nat.add_zero] at hst
  simp [Builtin.clear_, run_underlying Try.underlying29, hv, zeroC, hst]
end Go.Proofs.Ytdkpmaahinbhlaa
/- What stands while a path is turned round in a copy of a state. No program's walk. No condition. -/
namespace Go.Proofs.Ytdkpmaahinbhlaa
open Go.RowKit

/-- Where a point stands in a queue. -/
def posQ : List (Int × Nat) → Int → Nat
  | [], _ => 0
  | x :: r, t => if x.1 = t then 0 else posQ r t + 1
theorem posQ_in : ∀ (q1 r : List (Int × Nat)) (t : Int), t ∈ q1.map Prod.fst → posQ (q1 ++ r) t < q1.length := by
  intro q1 r t
  induction q1 with
  | nil => intro h; cases h
  | cons x q1 ih =>
    intro h
    rw [List.cons_append, posQ]
    by_cases c : x.1 = t
    · rw [if_pos c]; simp
    · rw [if_neg c]
      have : t ∈ q1.map Prod.fst := by
        rcases List.mem_cons.1 h with e | e
        · exact absurd e.symm c
        · exact e
      have := ih this
      simp only [List.length_cons]
      omega
theorem posQ_out : ∀ (q1 q2 : List (Int × Nat)) (t : Int) (i : Nat), t ∉ q1.map Prod.fst → posQ (q1 ++ (t, i) :: q2) t = q1.length := by
  intro q1 q2 t i
  induction q1 with
  | nil => intro _; simp [posQ]
  | cons x q1 ih =>
    intro h
    simp only [List.map_cons, List.mem_cons, not_or] at h
    rw [List.cons_append, posQ, if_neg (fun e => h.1 e.symm), ih h.2]
    rfl
theorem posQ_step {q1 q2 : List (Int × Nat)} {t t' : Int} {i : Nat} (h : t ∉ q1.map Prod.fst) (h' : t' ∈ q1.map Prod.fst) : posQ (q1 ++ (t, i) :: q2) t' < posQ (q1 ++ (t, i) :: q2) t := by
  rw [posQ_out q1 q2 t i h]
  exact posQ_in q1 _ t' h'
/-- The path from t on is still to be turned. -/
structure TurnI (P : Nat) (E : List (Int × Int)) (T0 : List Int) (a : Int) (q : List (Int × Nat)) (TF : List Int) (t : Int) (T : List Int) : Prop where
  ends : EndsQ P E T0
  len : T.length = E.length
  ex : ∃ q1 q2, q = q1 ++ q2 ∧ PathQ P E T0 a q1 ∧ t ∈ q1.map Prod.fst ∧ turnQ E a q1.reverse t T = TF ∧ ∀ x ∈ q1, x.1 ≠ a → T.getD x.2 0 = T0.getD x.2 0
theorem TurnI.done {P : Nat} {E : List (Int × Int)} {T0 : List Int} {a : Int} {q : List (Int × Nat)} {TF T : List Int} (h : TurnI P E T0 a q TF a T) : T = TF := by
  obtain ⟨q1, q2, _, _, _, e, _⟩ := h.ex
  rw [turnQ_a] at e
  exact e
/-- One bar of the path: its number, and where the path goes on. -/
theorem TurnI.next {P : Nat} {E : List (Int × Int)} {T0 : List Int} {a : Int} {q : List (Int × Nat)} {TF T : List Int} {t : Int} (h : TurnI P E T0 a q TF t T) (hn : t ≠ a) :
    ∃ i, (t, i) ∈ q ∧ i < E.length ∧ (0 ≤ t ∧ t < (P : Int)) ∧ T.getD i 0 = oth (E.getD i (0, 0)) t ∧ isEnd (E.getD i (0, 0)) t ∧ (0 ≤ oth (E.getD i (0, 0)) t ∧ oth (E.getD i (0, 0)) t < (P : Int)) ∧ TurnI P E T0 a q TF (oth (E.getD i (0, 0)) t) (T.set i t) ∧ posQ q (oth (E.getD i (0, 0)) t) < posQ q t := by
  obtain ⟨q1, q2, rfl, hp, ht, e, hT⟩ := h.ex
  obtain ⟨i, p1, p2, rfl, h1, h2, h3, h4, h5, h6, h7, h8⟩ := hp.at ht hn
  rw [turnQ_step E a t i p1 p2 T h1 hn] at e
  have hend : isEnd (E.getD i (0, 0)) t := by
    have := h.ends.tail i h3
    rw [h4] at this
    have := oth_end this
    rwa [oth_oth] at this
  have hb := h.ends.bar i h3
  refine ⟨i, by simp, h3, ⟨h6, h7⟩, (hT (t, i) (by simp) hn).trans h4, hend, ?_, ⟨h.ends, by rw [List.length_set]; exact h.len, p1, (t, i) :: p2 ++ q2, by simp, h8, h5, e, fun x hx hxa => ?_⟩, ?_⟩
  · unfold isEnd at hend
    unfold oth
    omega
  · rw [set_getD_ne _ _ _ _ _ (h8.other h2 h4 hx hxa)]
    exact hT x (List.mem_append_left _ hx) hxa
  · rw [List.append_assoc, List.cons_append]
    exact posQ_step h2 h5
theorem TurnI.start {P : Nat} {E : List (Int × Int)} {T0 : List Int} {a u : Int} {q r : List (Int × Nat)} (he : EndsQ P E T0) (hp : PathQ P E T0 a q) (hu : u ∈ q.map Prod.fst) : TurnI P E T0 a (q ++ r) (turnQ E a q.reverse u T0) u T0 :=
  ⟨he, he.len, q, r, rfl, hp, hu, rfl, fun _ _ _ => rfl⟩
end Go.Proofs.Ytdkpmaahinbhlaa
/- What impl.turnPath does: a path is turned round in the row of tails. No condition. -/
namespace Go.Proofs.Ytdkpmaahinbhlaa
open Go.RowKit

set_option maxHeartbeats 2000000 in
set_option maxRecDepth 100000 in
theorem turnPath_c (P : Nat) (E : List (Int × Int)) (F T Z TF : List Int) (a u : Int) (q : List (Int × Nat)) (rb B gF cF gT cT cZ z1 z2 : Nat) (AZ : Option Addr) (w : World) (hst : St3 w B gF cF gT cT AZ cZ z1 z2 F T Z) (hn : TurnI P E T a q TF u T) (hP : P ≤ 8)
    (hrb : ∀ x ∈ q, x.1 ≠ a → w.cell? ⟨rb, x.1.toNat, none⟩ = some (.pointer (some ⟨gT, x.2, none⟩))) (hne : rb ≠ gT) (hlt : rb < w.heap.size) :
    Calls Try.prog 224 #[.pointer (some ⟨rb, 0, none⟩), .int .i64 a, .int .i64 u] w fun e w' => e = .returned (.tuple #[]) ∧ St3 w' B gF cF gT cT AZ cZ z1 z2 F TF Z ∧ Within gT (gT + 1) w w' := by
  have HST := Lib.hid hst
  have HN := Lib.hid hn
  have HRB := Lib.hid hrb
  clear hst hn hrb
  go_enter Try.func224, Try.ntmps224
  go_wp2_with fail
  go_loopw [6] (fun v wr => ∃ (t : Int) (T' : List Int), v = .int .i64 t ∧ TurnI P E T a q TF t T' ∧ St3 wr B gF cF gT cT AZ cZ z1 z2 F T' Z ∧ Within gT (gT + 1) w wr) (fun v _ => posQ q (intOf v))
  case atStart => exact ⟨u, T, rfl, HN.out, HST.out, Within.refl _ _ _⟩
  case round =>
    obtain ⟨t, T', rfl, ht, hs, hw⟩ := hrel
    have HW := Lib.hid hw
    have HS := Lib.hid hs
    clear hs hw
    by_cases c : t = a
    · subst c
      obtain rfl := ht.done
      clear ht
      have e1 : (t != t) = false := by simp
      go_wp2_with fail
      go_end0
      exact ⟨rfl, HS.out, HW.out⟩
    · have e1 : (t != a) = true := by simpa using c
      obtain ⟨i, hi1, hi2, hi3, hi4, _, _, hi5, hi6⟩ := ht.next c
      have HX := Lib.hid hi5
      have HM := Lib.hid hi6
      have hlen := ht.len
      obtain ⟨hc1, hf1⟩ := HS.out.cellT i (by omega)
      have hr := (World.cell?_of_block (a := ⟨rb, t.toNat, none⟩) (HW.out.block rb hlt (by omega))).trans (HRB.out (t, i) hi1 c)
      have HS2 := Lib.hid (HS.out.setT i t)
      have HW2 := Lib.hid (HW.out.trans (within_set wr gT i (.int .i64 t)))
      rw [hi4] at hc1
      obtain ⟨v, hv⟩ : ∃ v, oth (E.getD i (0, 0)) t = v := ⟨_, rfl⟩
      rw [hv] at hc1 HX HM
      clear hi1 hi4 hi5 hi6 ht c hv
      obtain ⟨n, rfl⟩ : ∃ n : Nat, t = (n : Int) := ⟨t.toNat, by omega⟩
      rw [Int.toNat_natCast] at hr
      have hn8 : (n : Int) < 8 := by omega
      have hn8' : n < 8 := by omega
      go_wp2_with fail
      go_roundw
      case rel => exact ⟨v, _, rfl, HX.out, HS2.out, HW2.out⟩
      case measure => exact HM.out
end Go.Proofs.Ytdkpmaahinbhlaa
/- Rows of ints of the call's own, the empty ones too: what an append onto them asks. No condition. -/
namespace Go.Proofs.Ytdkpmaahinbhlaa
open Go.RowKit

/-- A row of the call's own in a block from lo to hi, or no block; an empty one too can be appended to. -/
def OwnR (W : World) (lo hi : Nat) (A : Option Addr) (cap : Nat) (zs : List Int) : Prop :=
  hi ≤ W.heap.size ∧ ((A = none ∧ cap = 0 ∧ zs = []) ∨ ∃ g, A = some ⟨g, 0, none⟩ ∧ lo ≤ g ∧ g < hi ∧ W.ownsRow lo 3 1 (.slice (some ⟨g, 0, none⟩) zs.length cap) zs.length (intCells zs))
theorem OwnR.within {W W' : World} {lo hi lo' hi' : Nat} {A : Option Addr} {cap : Nat} {zs : List Int} (h : OwnR W lo hi A cap zs) (hw : Within lo' hi' W W') (hd : hi ≤ lo' ∨ hi' ≤ lo) : OwnR W' lo hi A cap zs :=
  ⟨Nat.le_trans h.1 hw.size, by
    rcases h.2 with h2 | ⟨g, e, h1, h2, ho⟩
    · exact .inl h2
    · exact .inr ⟨g, e, h1, h2, own_block ho (hw.block g (Nat.lt_of_lt_of_le h2 h.1) (by omega))⟩⟩
theorem OwnR.ints {W : World} {lo hi : Nat} {A : Option Addr} {cap : Nat} {zs : List Int} (h : OwnR W lo hi A cap zs) : OwnInts W lo hi A cap zs :=
  ⟨h.1, by
    rcases h.2 with ⟨_, _, h2⟩ | h2
    · exact .inl h2
    · exact .inr h2⟩
/-- What an append onto the row asks. -/
theorem OwnR.row {W : World} {lo hi : Nat} {A : Option Addr} {cap : Nat} {zs : List Int} (h : OwnR W lo hi A cap zs) : W.ownsRow lo 3 1 (.slice A zs.length cap) zs.length (intCells zs) := by
  rcases h.2 with ⟨rfl, rfl, rfl⟩ | ⟨g, rfl, _, _, ho⟩
  · exact ⟨rfl, .inl ⟨rfl, rfl⟩⟩
  · exact ho
theorem own_r {w' : World} {base : Nat} {A : Option Addr} {cap : Nat} {zs : List Int} (h : w'.ownsRow base 3 1 (.slice A zs.length cap) zs.length (intCells zs)) : OwnR w' base w'.heap.size A cap zs := by
  rcases h.2 with ⟨h1, h0⟩ | ⟨g, cap', cur, h1, h2⟩
  · injection h1 with e1 e2 e3
    exact ⟨Nat.le_refl _, .inl ⟨e1, e3, List.eq_nil_of_length_eq_zero h0⟩⟩
  · cases h1
    exact ⟨Nat.le_refl _, .inr ⟨g, rfl, (h.lt g rfl).1, (h.lt g rfl).2, h⟩⟩
/-- A state of the call's own whose rows, the empty ones too, can be appended to. -/
def Own3R (W : World) (lo hi : Nat) (AF : Option Addr) (cF : Nat) (AT : Option Addr) (cT : Nat) (AZ : Option Addr) (cZ : Nat) (F T Z : List Int) : Prop :=
  ∃ f t z : Nat × Nat, OwnR W f.1 f.2 AF cF F ∧ OwnR W t.1 t.2 AT cT T ∧ OwnR W z.1 z.2 AZ cZ Z ∧ Dis f t ∧ Dis f z ∧ Dis t z ∧ (lo ≤ f.1 ∧ f.2 ≤ hi) ∧ (lo ≤ t.1 ∧ t.2 ≤ hi) ∧ (lo ≤ z.1 ∧ z.2 ≤ hi) ∧ hi ≤ W.heap.size
theorem Own3R.own3 {W : World} {lo hi : Nat} {AF AT AZ : Option Addr} {cF cT cZ : Nat} {F T Z : List Int} (h : Own3R W lo hi AF cF AT cT AZ cZ F T Z) : Own3 W lo hi AF cF AT cT AZ cZ F T Z := by
  obtain ⟨f, t, z, h1, h2, h3, r⟩ := h
  exact ⟨f, t, z, h1.ints, h2.ints, h3.ints, r⟩
theorem Own3R.within {W W' : World} {lo hi lo' hi' : Nat} {AF AT AZ : Option Addr} {cF cT cZ : Nat} {F T Z : List Int} (h : Own3R W lo hi AF cF AT cT AZ cZ F T Z) (hw : Within lo' hi' W W') (hd : hi ≤ lo' ∨ hi' ≤ lo) : Own3R W' lo hi AF cF AT cT AZ cZ F T Z := by
  obtain ⟨f, t, z, h1, h2, h3, d1, d2, d3, b1, b2, b3, h4⟩ := h
  exact ⟨f, t, z, h1.within hw (by omega), h2.within hw (by omega), h3.within hw (by omega), d1, d2, d3, b1, b2, b3, Nat.le_trans h4 hw.size⟩
/-- The answer: a row of the call's own that can be appended to. -/
def IntsR (w : World) (zs : List Int) (e : Ending) (w' : World) : Prop :=
  ∃ A cap, e = .returned (.slice A zs.length cap) ∧ OwnR w' w.heap.size w'.heap.size A cap zs ∧ Below w.heap.size w w'
/-- The answer: a state of the call's own that can be appended to. -/
def PebR (w : World) (F T Z : List Int) (e : Ending) (w' : World) : Prop :=
  ∃ AF cF AT cT AZ cZ, e = .returned (pebV AF F.length cF AT T.length cT AZ Z.length cZ) ∧ Own3R w' w.heap.size w'.heap.size AF cF AT cT AZ cZ F T Z ∧ Below w.heap.size w w'

set_option maxHeartbeats 2000000 in
set_option maxRecDepth 100000 in
theorem slCloneR (zs : List Int) (A : Option Addr) (cap lo hi : Nat) (w : World) (hz : IntsIn w lo hi A zs) (hn : zs.length ≤ 1048576) :
    Calls Try.prog 146 #[.slice A zs.length cap] w (IntsR w zs) := by
  obtain ⟨i0, hi0, hz0, hz1, hz2⟩ := info_parts infoInt
  have q : ∀ (w : World) (a : Option Addr) (n c n' c' : Nat), (binOp .eql 29 (.slice a n c) (.slice none n' c')).run Try.prog w = .ok (.bool a.isNone) w := fun w a n c n' c' => Go.Lib.run_eql_slice_nil w _ _ a n c n' c' Try.underlying29
  have hm := World.ownsRow_made (base := w.heap.size) (e := 3) (size := 1) w #[] 0 (Nat.le_refl _) (by unfold maxLen; omega) (by simp)
  have HM := Lib.hid hm
  clear hm
  cases A with
  | none =>
    have h0 : zs = [] := by
      refine List.eq_nil_of_length_eq_zero (Nat.eq_zero_of_not_pos fun h => ?_)
      obtain ⟨b, off, e, _⟩ := hz.2 h
      cases e
    subst h0
    clear hz
    go_enter Try.func146, Try.ntmps146
    go_wp2_with fail
    go_ret
    exact ⟨none, 0, rfl, own_r ⟨rfl, .inl ⟨rfl, rfl⟩⟩, Below.refl _ _⟩
  | some a =>
    have HC := Lib.hid (news_ints (hz.within (within_alloc w (.cells #[] 3)) (.inr (Nat.zero_le _))))
    clear hz
    go_enter Try.func146, Try.ntmps146
    go_wp2_with (at_builtin; refine wpList_append_own _ rfl _ _ 29 rfl w.heap.size 3 i0 _ 1 8 Try.underlying29 hi0 hz0 hz1 hz2 rfl (by omega) _ 0 [] rfl HM.out a zs.length cap (intCells zs) rfl (by rw [intCells_len]; omega) HC.out (intCells_one zs) (by unfold maxLen; omega) (by omega) (by simp) ?_; intro v' w' ho hg hnil; rw [Nat.zero_add, List.nil_append] at ho; obtain ⟨A2, c2, rfl⟩ := own_shape ho; have HO := Lib.hid (own_r ho); have HG := Lib.hid (show Below w.heap.size w w' from (new_below w (.cells #[] 3)).grown hg (by simp) fun k hk => by cases hk; exact Nat.le_refl _); clear ho hg hnil)
    go_ret
    exact ⟨A2, c2, rfl, HO.out, HG.out⟩
end Go.Proofs.Ytdkpmaahinbhlaa
/- Where slices.BinarySearch finds an int in a row of ints in their order. No condition. -/
namespace Go.Proofs.Ytdkpmaahinbhlaa
open Go.RowKit

/-- How many stand before a number. -/
def posL (zs : List Int) (x : Int) : Nat := (zs.filter fun y => decide (y < x)).length
theorem posL_le (zs : List Int) (x : Int) : posL zs x ≤ zs.length := List.length_filter_le _ _
theorem posL_at : ∀ zs : List Int, zs.Pairwise (· < ·) → ∀ (x : Int) (m : Nat), m < zs.length → (zs.getD m 0 < x ↔ m < posL zs x) := by
  intro zs
  induction zs with
  | nil => intro _ x m hm; exact absurd hm (by simp)
  | cons a t ih =>
    intro hp x m hm
    obtain ⟨h1, h2⟩ := List.pairwise_cons.1 hp
    by_cases c : a < x
    · have e : posL (a :: t) x = posL t x + 1 := by unfold posL; simp [c]
      rw [e]
      cases m with
      | zero => simp [c]
      | succ m =>
        have := ih h2 x m (by simpa using hm)
        simp only [List.getD_cons_succ]
        omega
    · have e : posL (a :: t) x = 0 := by
        unfold posL
        rw [List.length_eq_zero_iff, List.filter_eq_nil_iff]
        intro y hy
        rcases List.mem_cons.1 hy with h | h
        · simp; omega
        · have := h1 y h; simp; omega
      rw [e]
      cases m with
      | zero => simp; omega
      | succ m =>
        have hm2 : m < t.length := by simpa using hm
        have hmem : t.getD m 0 ∈ t := by simp [List.getD, List.getElem?_eq_getElem hm2]
        have := h1 _ hmem
        simp only [List.getD_cons_succ]
        omega
set_option maxHeartbeats 2000000 in
set_option maxRecDepth 100000 in
theorem slNaN (x : Int) (w : World) :
    Calls Try.prog 199 #[.int .i64 x] w fun e w' => e = .returned (.bool false) ∧ w = w' := by
  go_enter Try.func199, Try.ntmps199
  have h : (x != x) = false := by simp
  go_wp2_with fail
  go_ret
  exact ⟨by first | rfl | simp, rfl⟩
set_option maxHeartbeats 2000000 in
set_option maxRecDepth 100000 in
theorem cmpNaN (x : Int) (w : World) :
    Calls Try.prog 234 #[.int .i64 x] w fun e w' => e = .returned (.bool false) ∧ w = w' := by
  go_enter Try.func234, Try.ntmps234
  have h : (x != x) = false := by simp
  go_wp2_with fail
  go_ret
  exact ⟨by first | rfl | simp, rfl⟩
set_option maxHeartbeats 2000000 in
set_option maxRecDepth 100000 in
theorem cmpLess (x y : Int) (w : World) :
    Calls Try.prog 198 #[.int .i64 x, .int .i64 y] w fun e w' => e = .returned (.bool (decide (x < y))) ∧ w = w' := by
  obtain ⟨b, hb⟩ : ∃ b, decide (x < y) = b := ⟨_, rfl⟩
  go_enter Try.func198, Try.ntmps198
  go_wp2_with (go_at_call 234; refine (cmpNaN _ _).mono ?_; rintro e w1 ⟨rfl, rfl⟩)
  go_ret
  exact ⟨by first | rfl | (rw [hb]; rfl) | simp [hb], rfl⟩
set_option maxHeartbeats 4000000 in
set_option maxRecDepth 100000 in
theorem binSearch (zs : List Int) (x : Int) (A : Option Addr) (cap lo hi : Nat) (w : World) (hl : IntsIn w lo hi A zs) (hn : zs.length ≤ 1048576) (hp : zs.Pairwise (· < ·)) :
    Calls Try.prog 145 #[.slice A zs.length cap, .int .i64 x] w fun e w' => (∃ r : Bool, e = .returned (.tuple #[.int .i64 (posL zs x : Int), .bool r])) ∧ Below w.heap.size w w' := by
  have HL := Lib.hid hl
  have HAT := Lib.hid (posL_at zs hp x)
  have hle := posL_le zs x
  obtain ⟨q, hq⟩ : ∃ q, posL zs x = q := ⟨_, rfl⟩
  rw [hq] at HAT hle ⊢
  clear hl hp hq
  go_enter Try.func145, Try.ntmps145
  go_wp2_with fail
  go_loopw [7, 8, 9] (fun i j _ wr => ∃ a b : Nat, i = .int .i64 a ∧ j = .int .i64 b ∧ a ≤ q ∧ q ≤ b ∧ b ≤ zs.length ∧ Below w.heap.size w wr) (fun i j _ _ => (intOf j).toNat - (intOf i).toNat)
  case atStart => exact ⟨0, zs.length, rfl, rfl, Nat.zero_le _, hle, Nat.le_refl _, Below.refl _ _⟩
  case round =>
    obtain ⟨a, b, rfl, rfl, ha, hb, hbl, hbw⟩ := hrel
    have HB := Lib.hid hbw
    have hbs := hbw.size
    by_cases hlt : a < b
    · have hab : (a : Int) < (b : Int) := by omega
      have ham : a ≤ (a + b) / 2 := by omega
      have hmb : (a + b) / 2 < b := by omega
      obtain ⟨zb, zo, rfl, hzc⟩ := row_at (HL.out.within (within_of hbw) (.inr (Nat.zero_le _))) (by omega)
      have hz := hzc ((a + b) / 2) (by omega)
      have HATM := Lib.hid (HAT.out ((a + b) / 2) (by omega))
      clear hzc hbw
      have hw1 : IntKind.i64.wrap ((a : Int) + (b : Int)) = (a : Int) + (b : Int) := IntWalk.i64_in _ (by omega)
      have hm0 : ((a : Int) + (b : Int)) / 2 < (zs.length : Int) := by omega
      have HM := Lib.hid (show ((a : Int) + (b : Int)) / 2 = (((a + b) / 2 : Nat) : Int) by omega)
      have HMB := Lib.hid (And.intro ham hmb)
      clear ham hmb
      obtain ⟨z, hzd⟩ : ∃ z, zs.getD ((a + b) / 2) 0 = z := ⟨_, rfl⟩
      rw [hzd] at hz HATM
      clear hzd
      have hw2 : IntKind.i64.wrap (((a : Int) + (b : Int)) / 2 + 1) = ((a : Int) + (b : Int)) / 2 + 1 := IntWalk.i64_in _ (by omega)
      by_cases hc : z < x
      · have HQ := Lib.hid (HATM.out.1 hc)
        have HD := Lib.hid (decide_eq_true hc)
        clear hc
        go_wp2_with (go_at_call 198; refine (cmpLess _ _ _).mono ?_; rintro e w1 ⟨rfl, rfl⟩; rw [HD.out])
        go_roundw
        case rel => exact ⟨(a + b) / 2 + 1, b, by rw [show (((a + b) / 2 + 1 : Nat) : Int) = ((a : Int) + (b : Int)) / 2 + 1 by omega], rfl, HQ.out, hb, hbl, HB.out⟩
        case measure => simp [intOf]; have := HMB.out; omega
      · have HQ := Lib.hid (show q ≤ (a + b) / 2 from Nat.le_of_not_lt fun h => hc (HATM.out.2 h))
        have HD := Lib.hid (decide_eq_false hc)
        clear hc
        go_wp2_with (go_at_call 198; refine (cmpLess _ _ _).mono ?_; rintro e w1 ⟨rfl, rfl⟩; rw [HD.out])
        go_roundw
        case rel => exact ⟨a, (a + b) / 2, rfl, by rw [show (((a + b) / 2 : Nat) : Int) = ((a : Int) + (b : Int)) / 2 by omega], ha, HQ.out, by have := HMB.out; omega, HB.out⟩
        case measure => simp [intOf]; have := HMB.out; omega
    · obtain rfl : a = b := by omega
      obtain rfl : a = q := by omega
      by_cases hq2 : a < zs.length
      · have hqi : (a : Int) < (zs.length : Int) := by omega
        obtain ⟨zb, zo, rfl, hzc⟩ := row_at (HL.out.within (within_of hbw) (.inr (Nat.zero_le _))) (by omega)
        have hz := hzc a hq2
        clear hzc hbw
        obtain ⟨z, hzd⟩ : ∃ z, zs.getD a 0 = z := ⟨_, rfl⟩
        rw [hzd] at hz
        clear hzd
        by_cases hc : z = x
        · have d1 : (z == x) = true := by simpa using hc
          clear hc
          go_wp2_with (go_at_call 199; refine (slNaN _ _).mono ?_; rintro e w1 ⟨rfl, rfl⟩)
          go_ret2
          exact ⟨by first | exact ⟨_, rfl⟩ | rfl | exact ⟨false, by simp⟩ | simp, HB.out⟩
        · have d1 : (z == x) = false := by simpa using hc
          clear hc
          go_wp2_with (go_at_call 199; refine (slNaN _ _).mono ?_; rintro e w1 ⟨rfl, rfl⟩)
          go_ret2
          exact ⟨by first | exact ⟨_, rfl⟩ | rfl | exact ⟨false, by simp⟩ | simp, HB.out⟩
      · have hqi : ¬ (a : Int) < (zs.length : Int) := by omega
        clear hbw
        go_wp2_with fail
        go_ret2
        exact ⟨by first | exact ⟨_, rfl⟩ | rfl | exact ⟨false, by simp⟩ | simp, HB.out⟩
end Go.Proofs.Ytdkpmaahinbhlaa
