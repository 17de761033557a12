/- Several texts in one, in the order in which they build on each other: what stands on the way to the law; each names its own matter. No condition. -/
import Derived.Test.YtdkpmaahinbhlaaFqB1
import Derived.Deep.RegionLaw
import Derived.OrdersHeld
import Derived.Deep.RegionHeld3
import Derived.Maps.OwnSet
import Derived.Maps.Views
import Derived.Maps.RangeWalk
import Derived.Deep.QuietTactic
import Derived.BigQuiet
import Derived.Test.YtdkpmaahinbhlaaFqB1
/- A state of the call's own, each row in a range of its own; what may be written is named. No program's walk. No condition. -/
namespace Go.Proofs.Ytdkpmaahinbhlaa
open Go.RowKit

/-- The blocks of two ranges may be written; nothing else was. -/
structure Within2 (f t : Nat × Nat) (w w' : World) : Prop where
  os : w'.os = w.os
  tape : w'.tape = w.tape
  output : w'.output = w.output
  size : w.heap.size ≤ w'.heap.size
  block : ∀ k, k < w.heap.size → (k < f.1 ∨ f.2 ≤ k) → (k < t.1 ∨ t.2 ≤ k) → w'.heap[k]? = w.heap[k]?
theorem Within2.refl (f t : Nat × Nat) (w : World) : Within2 f t w w := ⟨rfl, rfl, rfl, Nat.le_refl _, fun _ _ _ _ => rfl⟩
theorem Within2.trans {f t : Nat × Nat} {a b c : World} (h : Within2 f t a b) (k : Within2 f t b c) : Within2 f t a c :=
  ⟨k.os.trans h.os, k.tape.trans h.tape, k.output.trans h.output, Nat.le_trans h.size k.size, fun i hi' h1 h2 => (k.block i (Nat.lt_of_lt_of_le hi' h.size) h1 h2).trans (h.block i hi' h1 h2)⟩
theorem Within2.of {f t : Nat × Nat} {lo hi : Nat} {a b : World} (h : Within lo hi a b) (hd : hi ≤ lo ∨ (f.1 ≤ lo ∧ hi ≤ f.2) ∨ (t.1 ≤ lo ∧ hi ≤ t.2)) : Within2 f t a b :=
  ⟨h.os, h.tape, h.output, h.size, fun i hi' h1 h2 => h.block i hi' (by omega)⟩
/-- What lies under a bound that no range reaches stands. -/
theorem Within2.one {f t : Nat × Nat} {a b : World} (h : Within2 f t a b) (k : Nat) (h1 : k < f.1 ∨ f.2 ≤ k) (h2 : k < t.1 ∨ t.2 ≤ k) : a.heap.size ≤ k ∨ b.heap[k]? = a.heap[k]? := by
  by_cases hk : k < a.heap.size
  · exact .inr (h.block k hk h1 h2)
  · exact .inl (by omega)
theorem OwnR.at {W W' : World} {lo hi : Nat} {A : Option Addr} {cap : Nat} {zs : List Int} (h : OwnR W lo hi A cap zs) {f t : Nat × Nat} (hw : Within2 f t W W') (h1 : hi ≤ f.1 ∨ f.2 ≤ lo) (h2 : hi ≤ t.1 ∨ t.2 ≤ lo) : OwnR W' lo hi A cap zs :=
  ⟨Nat.le_trans h.1 hw.size, by
    rcases h.2 with e | ⟨g, e, g1, g2, ho⟩
    · exact .inl e
    · exact .inr ⟨g, e, g1, g2, own_block ho (hw.block g (Nat.lt_of_lt_of_le g2 h.1) (by omega) (by omega))⟩⟩
theorem IntsIn.at {W W' : World} {lo hi : Nat} {A : Option Addr} {zs : List Int} (h : IntsIn W lo hi A zs) {f t : Nat × Nat} (hw : Within2 f t W W') (h1 : hi ≤ f.1 ∨ f.2 ≤ lo) (h2 : hi ≤ t.1 ∨ t.2 ≤ lo) : IntsIn W' lo hi A zs :=
  ⟨Nat.le_trans h.1 hw.size, fun hl => by
    obtain ⟨b, off, e, b1, b2, hc⟩ := h.2 hl
    exact ⟨b, off, e, b1, b2, fun k hk => (World.cell?_of_block (a := ⟨b, off + k, none⟩) (hw.block b (Nat.lt_of_lt_of_le b2 h.1) (by omega) (by omega))).trans (hc k hk)⟩⟩
theorem Cel3.at {W W' : World} {b : Nat} {T : TypeId} {v0 v1 v2 : Value} (h : Cel3 W b T v0 v1 v2) {f t : Nat × Nat} (hw : Within2 f t W W') (h1 : b < f.1 ∨ f.2 ≤ b) (h2 : b < t.1 ∨ t.2 ≤ b) : Cel3 W' b T v0 v1 v2 := (hw.block b h.lt h1 h2).trans h
/-- A state of the call's own: each row in its range. -/
def OwnF (W : World) (f t z : Nat × Nat) (AF : Option Addr) (cF : Nat) (AT : Option Addr) (cT : Nat) (AZ : Option Addr) (cZ : Nat) (F T Z : List Int) : Prop :=
  OwnR W f.1 f.2 AF cF F ∧ OwnR W t.1 t.2 AT cT T ∧ OwnR W z.1 z.2 AZ cZ Z ∧ Dis f t ∧ Dis f z ∧ Dis t z
theorem Own3R.ownF {W : World} {lo hi : Nat} {AF AT AZ : Option Addr} {cF cT cZ : Nat} {F T Z : List Int} (h : Own3R W lo hi AF cF AT cT AZ cZ F T Z) : ∃ f t z : Nat × Nat, OwnF W f t z AF cF AT cT AZ cZ F T Z ∧ (lo ≤ f.1 ∧ f.2 ≤ hi) ∧ (lo ≤ t.1 ∧ t.2 ≤ hi) ∧ (lo ≤ z.1 ∧ z.2 ≤ hi) := by
  obtain ⟨f, t, z, h1, h2, h3, d1, d2, d3, b1, b2, b3, _⟩ := h
  exact ⟨f, t, z, ⟨h1, h2, h3, d1, d2, d3⟩, b1, b2, b3⟩
theorem OwnF.hi {W : World} {f t z : Nat × Nat} {AF AT AZ : Option Addr} {cF cT cZ : Nat} {F T Z : List Int} (h : OwnF W f t z AF cF AT cT AZ cZ F T Z) : f.2 ≤ W.heap.size ∧ t.2 ≤ W.heap.size ∧ z.2 ≤ W.heap.size := ⟨h.1.1, h.2.1.1, h.2.2.1.1⟩
theorem OwnF.within {W W' : World} {f t z : Nat × Nat} {AF AT AZ : Option Addr} {cF cT cZ : Nat} {F T Z : List Int} (h : OwnF W f t z AF cF AT cT AZ cZ F T Z) {lo' hi' : Nat} (hw : Within lo' hi' W W') (h1 : f.2 ≤ lo' ∨ hi' ≤ f.1) (h2 : t.2 ≤ lo' ∨ hi' ≤ t.1) (h3 : z.2 ≤ lo' ∨ hi' ≤ z.1) : OwnF W' f t z AF cF AT cT AZ cZ F T Z :=
  ⟨h.1.within hw h1, h.2.1.within hw h2, h.2.2.1.within hw h3, h.2.2.2⟩
theorem OwnF.below {W W' : World} {f t z : Nat × Nat} {AF AT AZ : Option Addr} {cF cT cZ : Nat} {F T Z : List Int} (h : OwnF W f t z AF cF AT cT AZ cZ F T Z) (hb : Below W.heap.size W W') : OwnF W' f t z AF cF AT cT AZ cZ F T Z :=
  h.within (within_of hb) (.inr (Nat.zero_le _)) (.inr (Nat.zero_le _)) (.inr (Nat.zero_le _))
theorem OwnF.reads {W : World} {f t z : Nat × Nat} {AF AT AZ : Option Addr} {cF cT cZ : Nat} {F T Z : List Int} (h : OwnF W f t z AF cF AT cT AZ cZ F T Z) : Peb3 W 0 W.heap.size AF AT AZ F T Z :=
  ⟨h.1.ints.reads.widen (Nat.zero_le _) h.1.1 (Nat.le_refl _), h.2.1.ints.reads.widen (Nat.zero_le _) h.2.1.1 (Nat.le_refl _), h.2.2.1.ints.reads.widen (Nat.zero_le _) h.2.2.1.1 (Nat.le_refl _)⟩
theorem own_rebase {W : World} {a b g cap n : Nat} {e : TypeId} {size : Nat} {xs : List Value} (h : W.ownsRow a e size (.slice (some ⟨g, 0, none⟩) n cap) n xs) (hb : b ≤ g) : W.ownsRow b e size (.slice (some ⟨g, 0, none⟩) n cap) n xs := by
  refine ⟨h.1, ?_⟩
  rcases h.2 with ⟨e0, _⟩ | ⟨g', c', cur, e1, _, r⟩
  · cases e0
  · cases e1
    exact .inr ⟨g, cap, cur, rfl, hb, r⟩
theorem OwnR.open_ {W : World} {lo hi : Nat} {A : Option Addr} {cap : Nat} {zs : List Int} (h : OwnR W lo hi A cap zs) (hz : 0 < zs.length) : ∃ g, A = some ⟨g, 0, none⟩ ∧ lo ≤ g ∧ g < hi ∧ W.ownsRow 0 3 1 (.slice (some ⟨g, 0, none⟩) zs.length cap) zs.length (intCells zs) := by
  rcases h.2 with ⟨_, _, e⟩ | ⟨g, e, h1, h2, ho⟩
  · rw [e] at hz; exact absurd hz (by simp)
  · exact ⟨g, e, h1, h2, own_rebase ho (Nat.zero_le _)⟩
theorem OwnF.fst {W : World} {f t z : Nat × Nat} {AF AT AZ : Option Addr} {cF cT cZ : Nat} {F T Z : List Int} (h : OwnF W f t z AF cF AT cT AZ cZ F T Z) (hF : 0 < F.length) : ∃ gF, AF = some ⟨gF, 0, none⟩ ∧ f.1 ≤ gF ∧ gF < f.2 := by
  obtain ⟨g, e, h1, h2, _⟩ := h.1.open_ hF
  exact ⟨g, e, h1, h2⟩
theorem OwnF.open_ {W : World} {f t z : Nat × Nat} {AF AT AZ : Option Addr} {cF cT cZ : Nat} {F T Z : List Int} (h : OwnF W f t z AF cF AT cT AZ cZ F T Z) (hF : 0 < F.length) (hT : 0 < T.length) :
    ∃ gF gT, AF = some ⟨gF, 0, none⟩ ∧ AT = some ⟨gT, 0, none⟩ ∧ (f.1 ≤ gF ∧ gF < f.2) ∧ (t.1 ≤ gT ∧ gT < t.2) ∧ St3 W 0 gF cF gT cT AZ cZ z.1 z.2 F T Z := by
  obtain ⟨o1, o2, o3, d1, d2, d3⟩ := h
  obtain ⟨gF, rfl, f1, f2, hf⟩ := o1.open_ hF
  obtain ⟨gT, rfl, t1, t2, ht⟩ := o2.open_ hT
  unfold Dis at d1 d2 d3
  exact ⟨gF, gT, rfl, rfl, ⟨f1, f2⟩, ⟨t1, t2⟩, ⟨hf, ht, o3.ints, Nat.zero_le _, by omega, by omega, by omega⟩⟩
/-- The opened state, closed again; the third row stood. -/
theorem St3.ownF {W : World} {f t z : Nat × Nat} {gF cF gT cT : Nat} {AZ : Option Addr} {cZ z1 z2 : Nat} {F T Z : List Int} (h : St3 W 0 gF cF gT cT AZ cZ z1 z2 F T Z) (hf : f.1 ≤ gF ∧ gF < f.2) (ht : t.1 ≤ gT ∧ gT < t.2) (s1 : f.2 ≤ W.heap.size) (s2 : t.2 ≤ W.heap.size) (hz : OwnR W z.1 z.2 AZ cZ Z) (d1 : Dis f t) (d2 : Dis f z) (d3 : Dis t z) : OwnF W f t z (some ⟨gF, 0, none⟩) cF (some ⟨gT, 0, none⟩) cT AZ cZ F T Z :=
  ⟨⟨s1, .inr ⟨gF, rfl, hf.1, hf.2, own_rebase h.f hf.1⟩⟩, ⟨s2, .inr ⟨gT, rfl, ht.1, ht.2, own_rebase h.t ht.1⟩⟩, hz, d1, d2, d3⟩
theorem OwnF.own3 {W : World} {f t z : Nat × Nat} {AF AT AZ : Option Addr} {cF cT cZ : Nat} {F T Z : List Int} (h : OwnF W f t z AF cF AT cT AZ cZ F T Z) {lo hi : Nat} (h1 : lo ≤ f.1 ∧ f.2 ≤ hi) (h2 : lo ≤ t.1 ∧ t.2 ≤ hi) (h3 : lo ≤ z.1 ∧ z.2 ≤ hi) (h4 : hi ≤ W.heap.size) : Own3 W lo hi AF cF AT cT AZ cZ F T Z :=
  ⟨f, t, z, h.1.ints, h.2.1.ints, h.2.2.1.ints, h.2.2.2.1, h.2.2.2.2.1, h.2.2.2.2.2, h1, h2, h3, h4⟩
end Go.Proofs.Ytdkpmaahinbhlaa
/- Rows of slices of the call's own: what an append onto them asks and does. No condition. -/
namespace Go.Proofs.Ytdkpmaahinbhlaa
open Go.RowKit

/-- A row of slices of the call's own in a block from lo to hi, or no block; an empty one too can be appended to. -/
def OwnS (W : World) (lo hi : Nat) (A : Option Addr) (cap : Nat) (zs : List Value) : Prop :=
  hi ≤ W.heap.size ∧ ((A = none ∧ cap = 0 ∧ zs = []) ∨ ∃ g, A = some ⟨g, 0, none⟩ ∧ lo ≤ g ∧ g < hi ∧ W.ownsRow lo 29 1 (.slice (some ⟨g, 0, none⟩) zs.length cap) zs.length zs)
theorem OwnS.within {W W' : World} {lo hi lo' hi' : Nat} {A : Option Addr} {cap : Nat} {zs : List Value} (h : OwnS W lo hi A cap zs) (hw : Within lo' hi' W W') (hd : hi ≤ lo' ∨ hi' ≤ lo) : OwnS W' lo hi A cap zs :=
  ⟨Nat.le_trans h.1 hw.size, by
    rcases h.2 with h2 | ⟨g, e, h1, h2, ho⟩
    · exact .inl h2
    · exact .inr ⟨g, e, h1, h2, own_block ho (hw.block g (Nat.lt_of_lt_of_le h2 h.1) (by omega))⟩⟩
/-- What an append onto the row asks. -/
theorem OwnS.row {W : World} {lo hi : Nat} {A : Option Addr} {cap : Nat} {zs : List Value} (h : OwnS W lo hi A cap zs) : W.ownsRow lo 29 1 (.slice A zs.length cap) zs.length zs := by
  rcases h.2 with ⟨rfl, rfl, rfl⟩ | ⟨g, rfl, _, _, ho⟩
  · exact ⟨rfl, .inl ⟨rfl, rfl⟩⟩
  · exact ho
end Go.Proofs.Ytdkpmaahinbhlaa
/- A row of ints that is collected: its range is the first one, or new; what else was there stands. No program's walk. No condition. -/
namespace Go.Proofs.Ytdkpmaahinbhlaa
open Go.RowKit

structure GrowP (a b : Nat) (V W : World) (ys : List Int) (A : Option Addr) (cap lo hi : Nat) : Prop where
  row : OwnR W lo hi A cap ys
  rng : (lo = a ∧ hi = b) ∨ V.heap.size ≤ lo
  le : lo ≤ W.heap.size
  wi : Within a b V W
theorem GrowP.push {a b : Nat} {V W W' : World} {ys : List Int} {y : Int} {A A' : Option Addr} {cap lo hi c' lo' hi' : Nat} (h : GrowP a b V W ys A cap lo hi) (hr : OwnR W' lo' hi' A' c' (ys ++ [y])) (hd : (lo' = lo ∧ hi' = hi) ∨ (W.heap.size ≤ lo' ∧ lo' ≤ W'.heap.size ∧ hi' ≤ W'.heap.size)) (hw : Within lo hi W W') : GrowP a b V W' (ys ++ [y]) A' c' lo' hi' := by
  obtain ⟨_, h2, h3, h4⟩ := h
  have s1 := h4.size
  have s2 := hw.size
  refine ⟨hr, ?_, ?_, ⟨hw.os.trans h4.os, hw.tape.trans h4.tape, hw.output.trans h4.output, Nat.le_trans s1 s2, fun i hi hd => (hw.block i (by omega) (by omega)).trans (h4.block i hi hd)⟩⟩
  · rcases hd with ⟨rfl, rfl⟩ | hd
    · exact h2
    · exact .inr (by omega)
  · rcases hd with ⟨rfl, rfl⟩ | hd
    · omega
    · exact hd.2.1
theorem GrowP.out {a b : Nat} {V W : World} {ys : List Int} {A : Option Addr} {cap lo hi : Nat} (h : GrowP a b V W ys A cap lo hi) {B : Nat} (h1 : B ≤ a) (h2 : B ≤ V.heap.size) : OwnInts W B W.heap.size A cap ys :=
  h.row.ints.widen (by have := h.rng; omega) h.row.1 (Nat.le_refl _)
end Go.Proofs.Ytdkpmaahinbhlaa
/- What RejectedBars answers, and what stands while it is collected. No program's walk. No condition. -/
namespace Go.Proofs.Ytdkpmaahinbhlaa
open Go.RowKit

/-- The bars below n that Z has not. -/
def rejK (Z : List Int) : Nat → List Int
  | 0 => []
  | n + 1 => if (n : Int) ∈ Z then rejK Z n else rejK Z n ++ [(n : Int)]
theorem rejK_len (Z : List Int) : ∀ n, (rejK Z n).length ≤ n := by
  intro n
  induction n with
  | zero => exact Nat.le_refl _
  | succ n ih =>
    unfold rejK
    split
    · omega
    · simp; omega
theorem rejK_in {Z : List Int} {n : Nat} (h : (n : Int) ∈ Z) : rejK Z (n + 1) = rejK Z n := by rw [rejK, if_pos h]
theorem rejK_out {Z : List Int} {n : Nat} (h : ¬ (n : Int) ∈ Z) : rejK Z (n + 1) = rejK Z n ++ [(n : Int)] := by rw [rejK, if_neg h]
/-- What RejectedBars answers. -/
noncomputable def rejV (p k c : Int) (l : List (Int × Int)) : List Int := if runB p k c l = true then rejK (runV p k c l).2.2 l.length else []
theorem rejV_len (p k c : Int) (l : List (Int × Int)) : (rejV p k c l).length ≤ l.length := by
  unfold rejV
  split
  · exact rejK_len _ _
  · simp
theorem rejV_no {p k c : Int} {l : List (Int × Int)} (h : runB p k c l = false) : rejV p k c l = [] := by unfold rejV; rw [h]; rfl
theorem rejV_yes {p k c : Int} {l : List (Int × Int)} (h : runB p k c l = true) : rejV p k c l = rejK (runV p k c l).2.2 l.length := by unfold rejV; rw [if_pos h]
/-- What is collected so far: the row's range is the first one, or new; what else was there stands. -/
structure RejP (a b : Nat) (V W : World) (Z : List Int) (n : Nat) (A : Option Addr) (cap lo hi : Nat) : Prop where
  row : OwnR W lo hi A cap (rejK Z n)
  rng : (lo = a ∧ hi = b) ∨ V.heap.size ≤ lo
  le : lo ≤ W.heap.size
  wi : Within a b V W
theorem IntsIn.hi {W : World} {lo hi : Nat} {A : Option Addr} {zs : List Int} (h : IntsIn W lo hi A zs) : hi ≤ W.heap.size := h.1
theorem RejP.same {a b : Nat} {V W : World} {Z : List Int} {n : Nat} {A : Option Addr} {cap lo hi : Nat} (h : RejP a b V W Z n A cap lo hi) (hz : (n : Int) ∈ Z) : RejP a b V W Z (n + 1) A cap lo hi :=
  ⟨by rw [rejK_in hz]; exact h.row, h.rng, h.le, h.wi⟩
theorem RejP.push {a b : Nat} {V W W' : World} {Z : List Int} {n : Nat} {A A' : Option Addr} {cap lo hi c' lo' hi' : Nat} (h : RejP a b V W Z n A cap lo hi) (hz : ¬ (n : Int) ∈ Z) (hr : OwnR W' lo' hi' A' c' (rejK Z n ++ [(n : Int)])) (hd : (lo' = lo ∧ hi' = hi) ∨ (W.heap.size ≤ lo' ∧ lo' ≤ W'.heap.size ∧ hi' ≤ W'.heap.size)) (hw : Within lo hi W W') : RejP a b V W' Z (n + 1) A' c' lo' hi' := by
  obtain ⟨_, h2, h3, h4⟩ := h
  have s1 := h4.size
  have s2 := hw.size
  refine ⟨by rw [rejK_out hz]; exact hr, ?_, ?_, ⟨hw.os.trans h4.os, hw.tape.trans h4.tape, hw.output.trans h4.output, Nat.le_trans s1 s2, fun i hi hd => (hw.block i (by omega) (by omega)).trans (h4.block i hi hd)⟩⟩
  · rcases hd with ⟨rfl, rfl⟩ | hd
    · exact h2
    · exact .inr (by omega)
  · rcases hd with ⟨rfl, rfl⟩ | hd
    · omega
    · exact hd.2.1
theorem RejP.out {a b : Nat} {V W : World} {Z : List Int} {n : Nat} {A : Option Addr} {cap lo hi : Nat} (h : RejP a b V W Z n A cap lo hi) {B : Nat} (h1 : B ≤ a) (h2 : B ≤ V.heap.size) : OwnInts W B W.heap.size A cap (rejK Z n) :=
  h.row.ints.widen (by have := h.rng; omega) h.row.1 (Nat.le_refl _)
end Go.Proofs.Ytdkpmaahinbhlaa
/- What stands while a state is worked upon: the graph's box, the state's box, the result's box. No program's walk. No condition. -/
namespace Go.Proofs.Ytdkpmaahinbhlaa
open Go.RowKit

/-- What stands while a state is worked upon: the graph's box, the state's box, the result's box. -/
structure GtI (w W : World) (p : Int) (A : Option Addr) (cap : Nat) (l : List (Int × Int)) (AF AT AZ : Option Addr) (cF cT cZ lo hi : Nat) (F T Z : List Int) : Prop where
  gb : Box W w.heap.size p (.slice A l.length cap)
  pb : Cel3 W (w.heap.size + 1) 31 (.slice AF F.length cF) (.slice AT T.length cT) (.slice AZ Z.length cZ)
  rb : Cel3 W (w.heap.size + 1 + 1) 31 (.slice none 0 0) (.slice none 0 0) (.slice none 0 0)
  bars : BarsIn W 0 w.heap.size A l
  src : Peb3 W lo hi AF AT AZ F T Z
  bel : Below w.heap.size w W
theorem GtI.below {w W : World} {p : Int} {A : Option Addr} {cap : Nat} {l : List (Int × Int)} {AF AT AZ : Option Addr} {cF cT cZ lo hi : Nat} {F T Z : List Int} {W' : World} (h : GtI w W p A cap l AF AT AZ cF cT cZ lo hi F T Z) (hb : Below W.heap.size W W') : GtI w W' p A cap l AF AT AZ cF cT cZ lo hi F T Z :=
  ⟨h.gb.kept hb, h.pb.kept hb, h.rb.kept hb, h.bars.within (within_of hb) (.inr (Nat.zero_le _)), h.src.within (within_of hb) (.inr (Nat.zero_le _)), below_on h.bel hb h.bel.size⟩
theorem GtI.within {w W : World} {p : Int} {A : Option Addr} {cap : Nat} {l : List (Int × Int)} {AF AT AZ : Option Addr} {cF cT cZ lo hi : Nat} {F T Z : List Int} {W' : World} (h : GtI w W p A cap l AF AT AZ cF cT cZ lo hi F T Z) {lo' hi' : Nat} (hw : Within lo' hi' W W') (h1 : w.heap.size + 3 ≤ lo') (h2 : hi ≤ lo') : GtI w W' p A cap l AF AT AZ cF cT cZ lo hi F T Z :=
  ⟨h.gb.within hw (by omega), h.pb.within hw (by omega), h.rb.within hw (by omega), h.bars.within hw (by omega), h.src.within hw (by omega), ⟨hw.os.trans h.bel.os, hw.tape.trans h.bel.tape, hw.output.trans h.bel.output, Nat.le_trans h.bel.size hw.size, fun k hk => (hw.block k (Nat.lt_of_lt_of_le hk h.bel.size) (by omega)).trans (h.bel.block k hk)⟩⟩
/-- Three boxes are made at the start. -/
theorem GtI.start (w : World) (p : Int) (A : Option Addr) (cap : Nat) (l : List (Int × Int)) (AF AT AZ : Option Addr) (cF cT cZ lo hi : Nat) (F T Z : List Int) (hl : BarsAt w w.heap.size A l) (h : Peb3 w lo hi AF AT AZ F T Z) :
    GtI w (((w.alloc (.cells #[.int .i64 p, .slice A l.length cap] 26)).alloc (.cells #[.slice AF F.length cF, .slice AT T.length cT, .slice AZ Z.length cZ] 31)).alloc (.cells #[.slice none 0 0, .slice none 0 0, .slice none 0 0] 31)) p A cap l AF AT AZ cF cT cZ lo hi F T Z := by
  have b1 := new_below w (.cells #[.int .i64 p, .slice A l.length cap] 26)
  generalize hw1 : (w.alloc (.cells #[.int .i64 p, .slice A l.length cap] 26)) = w1 at *
  have s1 : w1.heap.size = w.heap.size + 1 := by rw [← hw1]; simp
  have n1 := box_new w p (.slice A l.length cap) 26
  rw [hw1] at n1
  have b2 := new_below w1 (.cells #[.slice AF F.length cF, .slice AT T.length cT, .slice AZ Z.length cZ] 31)
  have n2 := cel3_new w1 (.slice AF F.length cF) (.slice AT T.length cT) (.slice AZ Z.length cZ) 31
  generalize hw2 : (w1.alloc (.cells #[.slice AF F.length cF, .slice AT T.length cT, .slice AZ Z.length cZ] 31)) = w2 at *
  have s2 : w2.heap.size = w.heap.size + 1 + 1 := by rw [← hw2]; simp [s1]
  have b3 := new_below w2 (.cells #[.slice none 0 0, .slice none 0 0, .slice none 0 0] 31)
  have n3 := cel3_new w2 (.slice none 0 0) (.slice none 0 0) (.slice none 0 0) 31
  have b123 := below_on (below_on b1 b2 b1.size) b3 (by omega)
  rw [s1] at n2
  rw [s2] at n3
  exact ⟨(n1.kept b2).kept b3, n2.kept b3, n3, (bars_in hl).within (within_of b123) (.inr (Nat.zero_le _)), h.within (within_of b123) (.inr (Nat.zero_le _)), b123⟩
end Go.Proofs.Ytdkpmaahinbhlaa
/- An append of one int onto a row of the call's own, in its range. No program's walk. No condition. -/
namespace Go.Proofs.Ytdkpmaahinbhlaa
open Go.RowKit

theorem wpList_pushR (w : World) {ops : Array Oper} {rest : List Oper} {o : Oper} {a : Act} {Q : Exit → Act → World → Prop} (hgd : o.guard = none) (s x : Operand)
    (ho : o.op = .call { callee := .builtin .append, args := #[s, x], argTypes := #[29, 29] }) (lo hi : Nat) (A : Option Addr) (cap : Nat) (zs : List Int) (y : Int) (hs : a.eval s = .slice A zs.length cap) (hr : OwnR w lo hi A cap zs)
    (tb : TypeId) (hx : a.eval x = .slice (some ⟨w.heap.size, 0, none⟩) 1 1) (hn : zs.length ≤ 1048576) (hlo : lo ≤ w.heap.size)
    (h : ∀ A' c' w' lo' hi', OwnR w' lo' hi' A' c' (zs ++ [y]) → ((lo' = lo ∧ hi' = hi) ∨ (w.heap.size ≤ lo' ∧ lo' ≤ w'.heap.size ∧ hi' ≤ w'.heap.size)) → Within lo hi w w' → wpList Try.prog ops Q rest (a.put o.dst (.slice A' (zs.length + 1) c')) w') : wpList Try.prog ops Q (o :: rest) a (w.alloc (.cells #[.int .i64 y] tb)) := by
  have hlen : (zs ++ [y]).length = zs.length + 1 := by simp
  have hcells : intCells (zs ++ [y]) = intCells zs ++ [.int .i64 y] := by simp [intCells]
  refine wpList_at w hgd s x 29 ho lo 3 (.int .i64 0) 1 8 Try.underlying29 infoInt rfl (by decide) _ _ _ hs hr.row #[.int .i64 y] 1 rfl (by simp [Value.oneCell']) tb 1 hx (by omega) (by unfold maxLen; omega) hlo ?_
  intro v' w' hown hg hat _
  obtain ⟨A', c', rfl⟩ := own_shape hown
  rw [show intCells zs ++ (#[Value.int .i64 y] : Array Value).toList = intCells (zs ++ [y]) from hcells.symm, ← hlen] at hown
  rw [← hlen] at hat
  have hw : Within lo hi w w' := ⟨hg.os, hg.tape, hg.output, hg.size, fun k hk hd => hg.block k hk fun e => by
    rcases hr.2 with ⟨rfl, rfl, rfl⟩ | ⟨g, rfl, g1, g2, _⟩
    · cases e
    · have : k = g := by simpa [Value.ownBlock] using e
      omega⟩
  rcases hown.2 with ⟨_, e0⟩ | ⟨g', cap', cur, e1, _⟩
  · rw [hlen] at e0; omega
  · injection e1 with q1 q2 q3
    subst q1
    have hlt := hown.lt g' rfl
    rcases hat with e | e
    · rcases hr.2 with ⟨rfl, rfl, rfl⟩ | ⟨g, rfl, g1, g2, _⟩
      · cases e
      · have : g' = g := by simpa [Value.ownBlock] using e
        subst this
        exact h _ c' w' lo hi ⟨Nat.le_trans hr.1 hg.size, .inr ⟨g', rfl, g1, g2, hown⟩⟩ (.inl ⟨rfl, rfl⟩) hw
    · have : g' = w.heap.size + 1 := by simpa [Value.ownBlock] using e
      exact h _ c' w' g' (g' + 1) ⟨hlt.2, .inr ⟨g', rfl, Nat.le_refl _, by omega, own_rebase hown (Nat.le_refl _)⟩⟩ (.inr ⟨by omega, by omega, hlt.2⟩) hw
/-- What lay under a bound stands: as a range from it on. -/
theorem within_low {B : Nat} {w w' : World} (h : Below B w w') : Within B w.heap.size w w' := ⟨h.os, h.tape, h.output, h.size, fun k _ hd => h.block k (by omega)⟩
theorem below_low {B lo hi : Nat} {w w' : World} (h : Within lo hi w w') (hB : B ≤ lo) (hw : B ≤ w.heap.size) : Below B w w' := ⟨h.os, h.tape, h.output, h.size, fun k hk => h.block k (by omega) (by omega)⟩
theorem below_low2 {B : Nat} {f t : Nat × Nat} {w w' : World} (h : Within2 f t w w') (h1 : B ≤ f.1) (h2 : B ≤ t.1) (hw : B ≤ w.heap.size) : Below B w w' := ⟨h.os, h.tape, h.output, h.size, fun k hk => h.block k (by omega) (by omega) (by omega)⟩
/-- What placing a bar answers, and what it makes of the state in the box pb. -/
def PlaceP (w : World) (B pb : Nat) (f t z : Nat × Nat) (AF : Option Addr) (cF : Nat) (AT : Option Addr) (cT : Nat) (AZ : Option Addr) (cZ : Nat) (l : List (Int × Int)) (c : Int) (F T Z : List Int) (n : Int) (e : Ending) (w' : World) : Prop :=
  Below B w w' ∧ ((e = .returned (.bool false) ∧ plaR l c F T Z n = none ∧ OwnF w' f t z AF cF AT cT AZ cZ F T Z ∧ Cel3 w' pb 31 (.slice AF F.length cF) (.slice AT T.length cT) (.slice AZ Z.length cZ)) ∨
    ∃ (s : List Int × List Int × List Int) (AT' : Option Addr) (cT' : Nat) (AZ' : Option Addr) (cZ' : Nat) (t' z' : Nat × Nat), e = .returned (.bool true) ∧ plaR l c F T Z n = some s ∧ OwnF w' f t' z' AF cF AT' cT' AZ' cZ' s.1 s.2.1 s.2.2 ∧ Cel3 w' pb 31 (.slice AF s.1.length cF) (.slice AT' s.2.1.length cT') (.slice AZ' s.2.2.length cZ') ∧
      (t' = t ∨ (w.heap.size ≤ t'.1 ∧ t'.1 ≤ w'.heap.size)) ∧ (z' = z ∨ (w.heap.size ≤ z'.1 ∧ z'.1 ≤ w'.heap.size)))
end Go.Proofs.Ytdkpmaahinbhlaa
/- An append of one number, in a region that draws its order. No condition. -/
namespace Go.Proofs.Ytdkpmaahinbhlaa
open Go.RowKit

end Go.Proofs.Ytdkpmaahinbhlaa
/- Rows of rows of ints: how they are read and compared. No condition. -/
namespace Go.Proofs.Ytdkpmaahinbhlaa
open Go.RowKit

/-- The slice at A reads as the rows rs; it and its rows lie in blocks from lo to hi. -/
def RowsIn (W : World) (lo hi : Nat) (A : Option Addr) (rs : List (List Int)) : Prop :=
  hi ≤ W.heap.size ∧ (0 < rs.length → ∃ b off, A = some ⟨b, off, none⟩ ∧ lo ≤ b ∧ b < hi ∧ ∀ k, k < rs.length → ∃ A' c', W.cell? ⟨b, off + k, none⟩ = some (.slice A' (rs.getD k []).length c') ∧ IntsIn W lo hi A' (rs.getD k []))
theorem RowsIn.within {W W' : World} {lo hi lo' hi' : Nat} {A : Option Addr} {rs : List (List Int)} (h : RowsIn W lo hi A rs) (hw : Within lo' hi' W W') (hd : hi ≤ lo' ∨ hi' ≤ lo) : RowsIn W' lo hi A rs :=
  ⟨Nat.le_trans h.1 hw.size, fun hl => by
    obtain ⟨b, off, e, h1, h2, hc⟩ := h.2 hl
    have hk := hw.block b (Nat.lt_of_lt_of_le h2 h.1) (by omega)
    refine ⟨b, off, e, h1, h2, fun k hk' => ?_⟩
    obtain ⟨A', c', h3, h4⟩ := hc k hk'
    exact ⟨A', c', (World.cell?_of_block (a := ⟨b, off + k, none⟩) hk).trans h3, h4.within hw hd⟩⟩

end Go.Proofs.Ytdkpmaahinbhlaa
/- A row's range is chosen so that it begins in the heap; what a state of the call's own asks ahead of a bar's placing. No program's walk. No condition. -/
namespace Go.Proofs.Ytdkpmaahinbhlaa
open Go.RowKit

theorem OwnR.norm {W : World} {r : Nat × Nat} {A : Option Addr} {cap : Nat} {zs : List Int} (h : OwnR W r.1 r.2 A cap zs) : ∃ q : Nat × Nat, OwnR W q.1 q.2 A cap zs ∧ q.1 ≤ W.heap.size ∧ (q = r ∨ q = (W.heap.size, W.heap.size)) := by
  rcases h.2 with e | ⟨g, e, h1, h2, ho⟩
  · exact ⟨(W.heap.size, W.heap.size), ⟨Nat.le_refl _, .inl e⟩, Nat.le_refl _, .inr rfl⟩
  · exact ⟨r, h, by have := h.1; omega, .inl rfl⟩
theorem OwnF.norm {W : World} {f t z : Nat × Nat} {AF AT AZ : Option Addr} {cF cT cZ : Nat} {F T Z : List Int} (h : OwnF W f t z AF cF AT cT AZ cZ F T Z) {B pb : Nat} (hB : B ≤ W.heap.size) (hp : pb < W.heap.size) (h2 : B ≤ t.1) (h3 : B ≤ z.1) (p2 : pb < t.1 ∨ t.2 ≤ pb) (p3 : pb < z.1 ∨ z.2 ≤ pb) :
    ∃ t' z' : Nat × Nat, OwnF W f t' z' AF cF AT cT AZ cZ F T Z ∧ B ≤ t'.1 ∧ B ≤ z'.1 ∧ (pb < t'.1 ∨ t'.2 ≤ pb) ∧ (pb < z'.1 ∨ z'.2 ≤ pb) ∧ t'.1 ≤ W.heap.size ∧ z'.1 ≤ W.heap.size := by
  obtain ⟨o1, o2, o3, d1, d2, d3⟩ := h
  obtain ⟨t', o2', l2, e2⟩ := o2.norm
  obtain ⟨z', o3', l3, e3⟩ := o3.norm
  have s1 := o1.1
  have s2 := o2.1
  have s3 := o3.1
  unfold Dis at d1 d2 d3
  refine ⟨t', z', ⟨o1, o2', o3', ?_, ?_, ?_⟩, ?_, ?_, ?_, ?_, l2, l3⟩
  all_goals (rcases e2 with rfl | rfl <;> rcases e3 with rfl | rfl)
  all_goals (first | omega | (unfold Dis; omega) | (unfold Dis; simp only []; omega))
theorem BarsIn.widen {W : World} {lo hi lo' hi' : Nat} {A : Option Addr} {l : List (Int × Int)} (h : BarsIn W lo hi A l) (h1 : lo' ≤ lo) (h2 : hi ≤ hi') (h3 : hi' ≤ W.heap.size) : BarsIn W lo' hi' A l :=
  ⟨h3, fun hl => by
    obtain ⟨b, off, e, b1, b2, hc⟩ := h.2 hl
    exact ⟨b, off, e, by omega, by omega, hc⟩⟩
end Go.Proofs.Ytdkpmaahinbhlaa
/- Rows of rows of the call's own: the laws' marks in them (laws.markIntSS, heldIntSS). No condition. -/
namespace Go.Proofs.Ytdkpmaahinbhlaa
open Go.RowKit

/-- The rows rs of the call's own: their row lies in a block from lo to hi, each of them in a range of its own. -/
def RowsOwn (W : World) (lo hi : Nat) (A : Option Addr) (rs : List (List Int)) : Prop :=
  hi ≤ W.heap.size ∧ (0 < rs.length → ∃ (g : Nat) (r : Nat → Nat × Nat) (S : Nat → Option Addr × Nat), A = some ⟨g, 0, none⟩ ∧ lo ≤ g ∧ g < hi ∧ (∀ j k, j < k → k < rs.length → Dis (r j) (r k)) ∧
    ∀ k, k < rs.length → W.cell? ⟨g, k, none⟩ = some (.slice (S k).1 (rs.getD k []).length (S k).2) ∧ OwnInts W (r k).1 (r k).2 (S k).1 (S k).2 (rs.getD k []) ∧ lo ≤ (r k).1 ∧ (r k).2 ≤ hi ∧ (g < (r k).1 ∨ (r k).2 ≤ g))
theorem RowsOwn.within {W W' : World} {lo hi lo' hi' : Nat} {A : Option Addr} {rs : List (List Int)} (h : RowsOwn W lo hi A rs) (hw : Within lo' hi' W W') (hd : hi ≤ lo' ∨ hi' ≤ lo) : RowsOwn W' lo hi A rs :=
  ⟨Nat.le_trans h.1 hw.size, fun hl => by
    obtain ⟨g, r, S, e, h1, h2, hdis, hc⟩ := h.2 hl
    have hk := hw.block g (Nat.lt_of_lt_of_le h2 h.1) (by omega)
    refine ⟨g, r, S, e, h1, h2, hdis, fun k hk' => ?_⟩
    obtain ⟨c1, c2, c3, c4, c5⟩ := hc k hk'
    exact ⟨(World.cell?_of_block (a := ⟨g, k, none⟩) hk).trans c1, c2.within hw (by omega), c3, c4, c5⟩⟩
theorem RowsOwn.reads {W : World} {lo hi : Nat} {A : Option Addr} {rs : List (List Int)} (h : RowsOwn W lo hi A rs) : RowsIn W lo hi A rs :=
  ⟨h.1, fun hl => by
    obtain ⟨g, r, S, e, h1, h2, _, hc⟩ := h.2 hl
    refine ⟨g, 0, e, h1, h2, fun k hk => ?_⟩
    obtain ⟨c1, c2, c3, c4, _⟩ := hc k hk
    exact ⟨(S k).1, (S k).2, by rw [Nat.zero_add]; exact c1, c2.reads.widen c3 c4 h.1⟩⟩

/-- The number of ints in the first n rows. -/
def tot (rs : List (List Int)) : Nat → Nat
  | 0 => 0
  | n + 1 => tot rs n + (rs.getD n []).length
/-- The row j while the first n rows are marked. -/
def stg (k : Int) (rs : List (List Int)) (n j : Nat) : List Int := if j < n then marksI (k + (tot rs j : Int)) (rs.getD j []).length else rs.getD j []
theorem stg_next (k : Int) (rs : List (List Int)) (n : Nat) : stg k rs (n + 1) n = marksI (k + (tot rs n : Int)) (rs.getD n []).length := by unfold stg; rw [if_pos (by omega)]
theorem stg_else (k : Int) (rs : List (List Int)) (n j : Nat) (h : j ≠ n) : stg k rs (n + 1) j = stg k rs n j := by
  unfold stg
  by_cases e : j < n
  · rw [if_pos e, if_pos (by omega)]
  · rw [if_neg e, if_neg (by omega)]
/-- The rows while the first n of them are marked. -/
def MarkSt (W : World) (lo hi g : Nat) (r : Nat → Nat × Nat) (S : Nat → Option Addr × Nat) (k0 : Int) (rs : List (List Int)) (n : Nat) : Prop :=
  hi ≤ W.heap.size ∧ ∀ k, k < rs.length → W.cell? ⟨g, k, none⟩ = some (.slice (S k).1 (rs.getD k []).length (S k).2) ∧ OwnInts W (r k).1 (r k).2 (S k).1 (S k).2 (stg k0 rs n k) ∧ lo ≤ (r k).1 ∧ (r k).2 ≤ hi ∧ (g < (r k).1 ∨ (r k).2 ≤ g)
theorem MarkSt.below {W W' : World} {lo hi g : Nat} {r : Nat → Nat × Nat} {S : Nat → Option Addr × Nat} {k0 : Int} {rs : List (List Int)} {n : Nat} (h : MarkSt W lo hi g r S k0 rs n) (hg : g < hi) (hb : Below W.heap.size W W') : MarkSt W' lo hi g r S k0 rs n :=
  ⟨Nat.le_trans h.1 hb.size, fun k hk => by
    obtain ⟨c1, c2, c3, c4, c5⟩ := h.2 k hk
    have := h.1
    exact ⟨(hb.cell (p := ⟨g, k, none⟩) (show g < W.heap.size by omega)).trans c1, c2.within (within_of hb) (.inr (Nat.zero_le _)), c3, c4, c5⟩⟩
theorem MarkSt.next {W W' : World} {lo hi g : Nat} {r : Nat → Nat × Nat} {S : Nat → Option Addr × Nat} {k0 : Int} {rs : List (List Int)} {n : Nat} (h : MarkSt W lo hi g r S k0 rs n) (hg : g < hi) (hn : n < rs.length) (hd : ∀ j k, j < k → k < rs.length → Dis (r j) (r k))
    (hw : Within (r n).1 (r n).2 W W') (ho : OwnInts W' (r n).1 (r n).2 (S n).1 (S n).2 (marksI (k0 + (tot rs n : Int)) (rs.getD n []).length)) : MarkSt W' lo hi g r S k0 rs (n + 1) :=
  ⟨Nat.le_trans h.1 hw.size, fun k hk => by
    obtain ⟨c1, c2, c3, c4, c5⟩ := h.2 k hk
    obtain ⟨_, _, _, _, d5⟩ := h.2 n hn
    have := h.1
    refine ⟨(World.cell?_of_block (a := ⟨g, k, none⟩) (hw.block g (by omega) (by omega))).trans c1, ?_, c3, c4, c5⟩
    by_cases e : k = n
    · subst e
      rw [stg_next]
      exact ho
    · rw [stg_else _ _ _ _ e]
      refine c2.within hw ?_
      rcases Nat.lt_or_gt_of_ne e with e1 | e1
      · exact hd k n e1 hn
      · exact (hd n k e1 hk).symm⟩

end Go.Proofs.Ytdkpmaahinbhlaa
/- Rows of rows of the call's own while they grow. No condition. -/
namespace Go.Proofs.Ytdkpmaahinbhlaa
open Go.RowKit

/-- The rows rs of the call's own: their row lies in a block from lo to hi, each of them in a range of its own; all lie from B to T. -/
structure RowsG (W : World) (B T lo hi : Nat) (A : Option Addr) (cap : Nat) (rs : List (List Int)) : Prop where
  top : T ≤ W.heap.size
  out : B ≤ lo ∧ lo ≤ T ∧ hi ≤ T
  rows : ∃ (zs : List Value) (r : Nat → Nat × Nat) (S : Nat → Option Addr × Nat), zs.length = rs.length ∧ OwnS W lo hi A cap zs ∧ (∀ j k, j < k → k < rs.length → Dis (r j) (r k)) ∧
    ∀ k, k < rs.length → zs.getD k (.slice none 0 0) = .slice (S k).1 (rs.getD k []).length (S k).2 ∧ OwnInts W (r k).1 (r k).2 (S k).1 (S k).2 (rs.getD k []) ∧ B ≤ (r k).1 ∧ (r k).2 ≤ T ∧ Dis (lo, hi) (r k)
theorem RowsG.below {W W' : World} {B T lo hi : Nat} {A : Option Addr} {cap : Nat} {rs : List (List Int)} (h : RowsG W B T lo hi A cap rs) (hb : Below W.heap.size W W') : RowsG W' B T lo hi A cap rs := by
  obtain ⟨ht, ho, zs, r, S, h1, h2, h3, h4⟩ := h
  refine ⟨Nat.le_trans ht hb.size, ho, zs, r, S, h1, h2.within (within_of hb) (.inr (Nat.zero_le _)), h3, fun k hk => ?_⟩
  obtain ⟨c1, c2, c3, c4, c5⟩ := h4 k hk
  exact ⟨c1, c2.within (within_of hb) (.inr (Nat.zero_le _)), c3, c4, c5⟩
/-- What lies below B may change. -/
theorem RowsG.far {W W' : World} {B T lo hi : Nat} {A : Option Addr} {cap : Nat} {rs : List (List Int)} (h : RowsG W B T lo hi A cap rs) {a b : Nat} (hw : Within a b W W') (hab : b ≤ B) : RowsG W' B T lo hi A cap rs := by
  obtain ⟨ht, ho, zs, r, S, h1, h2, h3, h4⟩ := h
  refine ⟨Nat.le_trans ht hw.size, ho, zs, r, S, h1, h2.within hw (.inr (by omega)), h3, fun k hk => ?_⟩
  obtain ⟨c1, c2, c3, c4, c5⟩ := h4 k hk
  exact ⟨c1, c2.within hw (.inr (by omega)), c3, c4, c5⟩
theorem RowsG.nil (W : World) : RowsG W W.heap.size W.heap.size W.heap.size W.heap.size none 0 [] :=
  ⟨Nat.le_refl _, ⟨Nat.le_refl _, Nat.le_refl _, Nat.le_refl _⟩, [], fun _ => (0, 0), fun _ => (none, 0), rfl, ⟨Nat.le_refl _, .inl ⟨rfl, rfl, rfl⟩⟩, fun _ _ _ hk => absurd hk (by simp), fun _ hk => absurd hk (by simp)⟩
theorem RowsG.made (W : World) : RowsG (W.alloc (.cells #[] 29)) W.heap.size (W.heap.size + 1) W.heap.size (W.heap.size + 1) (some ⟨W.heap.size, 0, none⟩) 0 [] := by
  have hm := World.ownsRow_made (base := W.heap.size) (e := 29) (size := 1) W #[] 0 (Nat.le_refl _) (by unfold maxLen; omega) (by simp)
  exact ⟨by simp, ⟨Nat.le_refl _, by omega, Nat.le_refl _⟩, [], fun _ => (0, 0), fun _ => (none, 0), rfl, ⟨by simp, .inr ⟨W.heap.size, rfl, Nat.le_refl _, Nat.lt_succ_self _, hm⟩⟩, fun _ _ _ hk => absurd hk (by simp), fun _ hk => absurd hk (by simp)⟩
theorem getD_old {α : Type} {rs : List α} {x z : α} {k : Nat} (h : k < rs.length) : (rs ++ [x]).getD k z = rs.getD k z := by
  simp [List.getD, List.getElem?_append_left h]
theorem getD_new {α : Type} {rs : List α} {x z : α} : (rs ++ [x]).getD rs.length z = x := by
  simp [List.getD]
/-- The values zs are the rows rs, each in a range of its own. -/
def RowsP (W : World) (B T lo hi : Nat) (zs : List Value) (rs : List (List Int)) : Prop :=
  ∃ (r : Nat → Nat × Nat) (S : Nat → Option Addr × Nat), (∀ j k, j < k → k < rs.length → Dis (r j) (r k)) ∧ ∀ k, k < rs.length → zs.getD k (.slice none 0 0) = .slice (S k).1 (rs.getD k []).length (S k).2 ∧ OwnInts W (r k).1 (r k).2 (S k).1 (S k).2 (rs.getD k []) ∧ B ≤ (r k).1 ∧ (r k).2 ≤ T ∧ Dis (lo, hi) (r k)
/-- One row more, whose ints lie from q.1 to q.2. -/
theorem RowsG.push {W W' : World} {B T lo hi lo' hi' : Nat} {A A' : Option Addr} {cap c' : Nat} {rs : List (List Int)} (h : RowsG W B T lo hi A cap rs) {q : Nat × Nat} {Ax : Option Addr} {cx : Nat} {x : List Int} (hx : OwnInts W q.1 q.2 Ax cx x) (hq : T ≤ q.1)
    {zs : List Value} (_hz : zs.length = rs.length) (hzs : RowsP W B T lo hi zs rs)
    (ho : OwnS W' lo' hi' A' c' (zs ++ [.slice Ax x.length cx])) (hd : (lo' = lo ∧ hi' = hi) ∨ (W.heap.size ≤ lo' ∧ lo' ≤ W'.heap.size ∧ hi' ≤ W'.heap.size)) (hw : Within lo hi W W') : RowsG W' B W'.heap.size lo' hi' A' c' (rs ++ [x]) := by
  obtain ⟨r, S, h3, h4⟩ := hzs
  have ht := h.top
  have hoB := h.out
  have hs := hw.size
  have hx1 := hx.1
  refine ⟨Nat.le_refl _, by omega, zs ++ [.slice Ax x.length cx], fun k => if k < rs.length then r k else q, fun k => if k < rs.length then S k else (Ax, cx), by simp [_hz], ho, fun j k hjk hk => ?_, fun k hk => ?_⟩
  · have hk' : k < rs.length + 1 := by simpa using hk
    by_cases e : k < rs.length
    · have e' : j < rs.length := by omega
      simp only [e, e', if_true]
      exact h3 j k hjk e
    · have e' : j < rs.length := by omega
      simp only [e, e', if_true, if_false]
      have := (h4 j e').2.2.2.1
      exact .inl (by omega)
  · have hk' : k < rs.length + 1 := by simpa using hk
    by_cases e : k < rs.length
    · simp only [e, if_true]
      obtain ⟨c1, c2, c3, c4, c5⟩ := h4 k e
      rw [getD_old (by omega), getD_old e]
      refine ⟨c1, c2.within hw ?_, c3, by omega, ?_⟩
      · unfold Dis at c5
        omega
      · unfold Dis at c5 ⊢
        dsimp only at c5 ⊢
        omega
    · obtain rfl : k = rs.length := by omega
      simp only [Nat.lt_irrefl, if_false]
      rw [← _hz, getD_new, _hz, getD_new]
      refine ⟨rfl, hx.within hw (by omega), by omega, by omega, ?_⟩
      unfold Dis
      dsimp only
      omega
theorem RowsG.cells {W : World} {B T lo hi : Nat} {A : Option Addr} {cap : Nat} {rs : List (List Int)} (h : RowsG W B T lo hi A cap rs) : RowsOwn W B T A rs := by
  obtain ⟨ht, hoB, zs, r, S, h1, h2, h3, h4⟩ := h
  refine ⟨ht, fun hl => ?_⟩
  rcases h2.2 with ⟨_, _, e⟩ | ⟨g, rfl, g1, g2, hown⟩
  · rw [e] at h1
    simp at h1
    omega
  · refine ⟨g, r, S, rfl, by omega, by omega, h3, fun k hk => ?_⟩
    obtain ⟨c1, c2, c3, c4, c5⟩ := h4 k hk
    refine ⟨?_, c2, c3, c4, ?_⟩
    · rw [← c1, World.ownsRow.cellAt hown k (by omega)]
      simp [List.getD, List.getElem?_eq_getElem (show k < zs.length by omega)]
    · unfold Dis at c5
      dsimp only at c5
      omega
end Go.Proofs.Ytdkpmaahinbhlaa
/- A state that is copied row by row in whatever order: what stands on the way. No program's walk. No condition. -/
namespace Go.Proofs.Ytdkpmaahinbhlaa
open Go.RowKit

theorem as_fun {R : Nat → Array Bool → Act → World → Prop} {n : Nat} {l : Array Bool} {a : Act} {w : World} (h : ∀ R' : Nat → Array Bool → Act → World → Prop, R' = R → R' n l a w) : R n l a w := h R rfl
theorem as_of {R R' : Nat → Array Bool → Act → World → Prop} (h : R = R') {n : Nat} {l : Array Bool} {a : Act} {w : World} (x : R n l a w) : R' n l a w := h ▸ x
theorem OwnInts.r {W : World} {lo hi : Nat} {A : Option Addr} {cap : Nat} {zs : List Int} (h : OwnInts W lo hi A cap zs) (hz : zs ≠ []) : OwnR W lo hi A cap zs :=
  ⟨h.1, .inr (h.2.resolve_left hz)⟩
theorem ownR_nil (W : World) (lo hi : Nat) (h : hi ≤ W.heap.size) : OwnR W lo hi none 0 [] := ⟨h, .inl ⟨rfl, rfl, rfl⟩⟩
theorem ownR_empty (W : World) : OwnR (W.alloc (.cells #[] 3)) W.heap.size (W.heap.size + 1) (some ⟨W.heap.size, 0, none⟩) 0 [] := by
  have hm := World.ownsRow_made (base := W.heap.size) (e := 3) (size := 1) W #[] 0 (Nat.le_refl _) (by unfold maxLen; omega) (by simp)
  refine ⟨by simp, .inr ⟨W.heap.size, rfl, Nat.le_refl _, Nat.lt_succ_self _, ?_⟩⟩
  simpa [intCells] using hm
/-- Three rows, each in its range from B on. -/
structure CpR (W : World) (B : Nat) (f t z : Nat × Nat) (AF : Option Addr) (cF : Nat) (AT : Option Addr) (cT : Nat) (AZ : Option Addr) (cZ : Nat) (F T Z : List Int) : Prop where
  own : OwnF W f t z AF cF AT cT AZ cZ F T Z
  lf : B ≤ f.1
  lt : B ≤ t.1
  lz : B ≤ z.1
  b : B ≤ W.heap.size
theorem CpR.nil (W : World) (B : Nat) (h : B ≤ W.heap.size) : CpR W B (B, B) (B, B) (B, B) none 0 none 0 none 0 [] [] [] :=
  ⟨⟨ownR_nil W B B h, ownR_nil W B B h, ownR_nil W B B h, .inl (Nat.le_refl _), .inl (Nat.le_refl _), .inl (Nat.le_refl _)⟩, Nat.le_refl _, Nat.le_refl _, Nat.le_refl _, h⟩
theorem CpR.newF {W W' : World} {B : Nat} {f t z f' : Nat × Nat} {AF AT AZ AF' : Option Addr} {cF cT cZ cF' : Nat} {F T Z F' : List Int} (h : CpR W B f t z AF cF AT cT AZ cZ F T Z) (hb : Below W.heap.size W W') (hn : OwnR W' f'.1 f'.2 AF' cF' F') (hl : f' = f ∨ W.heap.size ≤ f'.1) : CpR W' B f' t z AF' cF' AT cT AZ cZ F' T Z := by
  obtain ⟨⟨o1, o2, o3, d1, d2, d3⟩, lf, lt, lz, b⟩ := h
  have q2 := o2.within (within_of hb) (.inr (Nat.zero_le _))
  have q3 := o3.within (within_of hb) (.inr (Nat.zero_le _))
  have s2 := o2.1
  have s3 := o3.1
  have hs := hb.size
  rcases hl with rfl | hl
  · exact ⟨⟨hn, q2, q3, d1, d2, d3⟩, lf, lt, lz, by omega⟩
  · exact ⟨⟨hn, q2, q3, .inr (by omega), .inr (by omega), d3⟩, by omega, lt, lz, by omega⟩
theorem CpR.newT {W W' : World} {B : Nat} {f t z t' : Nat × Nat} {AF AT AZ AT' : Option Addr} {cF cT cZ cT' : Nat} {F T Z T' : List Int} (h : CpR W B f t z AF cF AT cT AZ cZ F T Z) (hb : Below W.heap.size W W') (hn : OwnR W' t'.1 t'.2 AT' cT' T') (hl : t' = t ∨ W.heap.size ≤ t'.1) : CpR W' B f t' z AF cF AT' cT' AZ cZ F T' Z := by
  obtain ⟨⟨o1, o2, o3, d1, d2, d3⟩, lf, lt, lz, b⟩ := h
  have q1 := o1.within (within_of hb) (.inr (Nat.zero_le _))
  have q3 := o3.within (within_of hb) (.inr (Nat.zero_le _))
  have s1 := o1.1
  have s3 := o3.1
  have hs := hb.size
  rcases hl with rfl | hl
  · exact ⟨⟨q1, hn, q3, d1, d2, d3⟩, lf, lt, lz, by omega⟩
  · exact ⟨⟨q1, hn, q3, .inl (by omega), d2, .inr (by omega)⟩, lf, by omega, lz, by omega⟩
theorem CpR.newZ {W W' : World} {B : Nat} {f t z z' : Nat × Nat} {AF AT AZ AZ' : Option Addr} {cF cT cZ cZ' : Nat} {F T Z Z' : List Int} (h : CpR W B f t z AF cF AT cT AZ cZ F T Z) (hb : Below W.heap.size W W') (hn : OwnR W' z'.1 z'.2 AZ' cZ' Z') (hl : z' = z ∨ W.heap.size ≤ z'.1) : CpR W' B f t z' AF cF AT cT AZ' cZ' F T Z' := by
  obtain ⟨⟨o1, o2, o3, d1, d2, d3⟩, lf, lt, lz, b⟩ := h
  have q1 := o1.within (within_of hb) (.inr (Nat.zero_le _))
  have q2 := o2.within (within_of hb) (.inr (Nat.zero_le _))
  have s1 := o1.1
  have s2 := o2.1
  have hs := hb.size
  rcases hl with rfl | hl
  · exact ⟨⟨q1, q2, hn, d1, d2, d3⟩, lf, lt, lz, by omega⟩
  · exact ⟨⟨q1, q2, hn, d1, .inl (by omega), .inl (by omega)⟩, lf, lt, by omega, by omega⟩
theorem OwnF.own3R {W : World} {f t z : Nat × Nat} {AF AT AZ : Option Addr} {cF cT cZ : Nat} {F T Z : List Int} (h : OwnF W f t z AF cF AT cT AZ cZ F T Z) {lo hi : Nat} (h1 : lo ≤ f.1 ∧ f.2 ≤ hi) (h2 : lo ≤ t.1 ∧ t.2 ≤ hi) (h3 : lo ≤ z.1 ∧ z.2 ≤ hi) (h4 : hi ≤ W.heap.size) : Own3R W lo hi AF cF AT cT AZ cZ F T Z :=
  ⟨f, t, z, h.1, h.2.1, h.2.2.1, h.2.2.2.1, h.2.2.2.2.1, h.2.2.2.2.2, h1, h2, h3, h4⟩
/-- An append of a row onto an empty row of the call's own. -/
theorem run_copyR (w : World) (ty : TypeId) (g l h : Nat) (A : Option Addr) (zs : List Int) (cap lo hi : Nat) (hg : OwnR w l h (some ⟨g, 0, none⟩) 0 []) (hz : IntsIn w lo hi A zs) (hn : zs.length ≤ 1048576) :
    ∃ A' c' w', ∃ r : Nat × Nat, (Builtin.append_ #[29, 29] ty #[.slice (some ⟨g, 0, none⟩) 0 0, .slice A zs.length cap]).run Try.prog w = .ok (.slice A' zs.length c') w' ∧ OwnR w' r.1 r.2 A' c' zs ∧ (r = (l, h) ∨ w.heap.size ≤ r.1) ∧ Below w.heap.size w w' := by
  by_cases e : zs = []
  · subst e
    obtain ⟨i0, hi0, hz0, hz1, hz2⟩ := info_parts infoInt
    refine ⟨some ⟨g, 0, none⟩, 0, w, (l, h), ?_, hg, .inl rfl, Below.refl _ _⟩
    cases A <;> simp [Builtin.append_, run_underlying Try.underlying29, sizeOf, typeInfo, hi0, Builtin.lenOf, Builtin.firstCells, loadCells, loadCellsFrom, storeCells]
  · obtain ⟨A', c', w', h1, h2, h3⟩ := run_copyI w ty g A zs cap lo hi hz hn
    exact ⟨A', c', w', (w.heap.size, w'.heap.size), h1, h2.r e, .inr (Nat.le_refl _), h3⟩
theorem step_copyR {w : World} {ops : Array Oper} {o : Oper} {a : Act} {K : Act → World → Prop} {Q : Exit → Act → World → Prop} {E : Prop} (hgd : o.guard = none) (s x : Operand) (ho : o.op = .call { callee := .builtin .append, args := #[s, x], argTypes := #[29, 29] })
    (g l h : Nat) (A : Option Addr) (zs : List Int) (cap lo hi : Nat) (hs : a.eval s = .slice (some ⟨g, 0, none⟩) 0 0) (hx : a.eval x = .slice A zs.length cap) (hg : OwnR w l h (some ⟨g, 0, none⟩) 0 []) (hz : IntsIn w lo hi A zs) (hn : zs.length ≤ 1048576)
    (hK : ∀ A' c' w' (r : Nat × Nat), OwnR w' r.1 r.2 A' c' zs → (r = (l, h) ∨ w.heap.size ≤ r.1) → Below w.heap.size w w' → K (a.put o.dst (.slice A' zs.length c')) w') : if Region.wanted o (yielded ops a.tmps) = true then Oper.wp Try.prog o a w K Q else E := by
  have hw : Region.wanted o (yielded ops a.tmps) = true := by simp [Region.wanted, hgd]
  rw [if_pos hw]
  obtain ⟨A', c', w', r, hr, h2, h3, h4⟩ := run_copyR w o.type g l h A zs cap lo hi hg hz hn
  unfold Oper.wp execOp
  simp only [ho, resolve, invoke, builtin, Sem.run_bind, Sem.run_pure, Result.andThen_ok, List.map_toArray, List.map_cons, List.map_nil, hs, hx, hr]
  exact hK A' c' w' r h2 h3 h4
end Go.Proofs.Ytdkpmaahinbhlaa
/- What spec.l9Vector draws: a row of small numbers of the call's own. No condition. -/
namespace Go.Proofs.Ytdkpmaahinbhlaa
open Go.RowKit

theorem gb_within {w a b : World} {g lo hi : Nat} (h : w.grownBy a (some g)) (hw : Within lo hi a b) (hlo : w.heap.size ≤ lo) : w.grownBy b (some g) :=
  ⟨hw.os.trans h.os, hw.tape.trans h.tape, hw.output.trans h.output, Nat.le_trans h.size hw.size, fun k hk hr => (hw.block k (Nat.lt_of_lt_of_le hk h.size) (.inl (by omega))).trans (h.block k hk hr)⟩
theorem gb_below {w a b : World} {g : Nat} (h : w.grownBy a (some g)) (hb : Below a.heap.size a b) : w.grownBy b (some g) := grown_then_below' h hb
where grown_then_below' {w a b : World} {g : Nat} (h : w.grownBy a (some g)) (hb : Below a.heap.size a b) : w.grownBy b (some g) :=
  ⟨hb.os.trans h.os, hb.tape.trans h.tape, hb.output.trans h.output, Nat.le_trans h.size hb.size, fun k hk hr => (hb.block k (Nat.lt_of_lt_of_le hk h.size)).trans (h.block k hk hr)⟩
theorem wi_gb {a b : World} {g : Nat} (h : a.grownBy b (some g)) : Within g (g + 1) a b :=
  ⟨h.os, h.tape, h.output, h.size, fun k hk hd => h.block k hk (fun e => by injection e with e; omega)⟩
theorem cur_within {a b : World} {B g lo hi : Nat} {A : Option Addr} {len cap : Nat} (h : CurIs a B g A len cap) (hw : Within lo hi a b) (hg : g < lo ∨ hi ≤ g) : CurIs b B g A len cap := by
  have hlt := h.lt
  obtain ⟨hB, i, hh, hc, h1⟩ := h
  exact ⟨hB, i, hh, (hw.block g hlt hg).trans hc, h1⟩
theorem gb_refl (w : World) (g : Nat) : w.grownBy w (some g) := ⟨rfl, rfl, rfl, Nat.le_refl _, fun _ _ _ => rfl⟩
/-- Numbers from -6 on to 6. -/
def SmV (v : List Int) : Prop := ∀ x ∈ v, -6 ≤ x ∧ x ≤ 6
theorem SmV.snoc {v : List Int} (h : SmV v) {x : Int} (hx : -6 ≤ x ∧ x ≤ 6) : SmV (v ++ [x]) := fun y hy => by
  rcases List.mem_append.1 hy with k | k
  · exact h y k
  · rw [List.mem_singleton.1 k]; exact hx

end Go.Proofs.Ytdkpmaahinbhlaa
/- What spec.l1Once answers: some Boolean; the cursor alone is written. No condition. -/
namespace Go.Proofs.Ytdkpmaahinbhlaa
open Go.RowKit

set_option maxHeartbeats 1000000 in
theorem once_d (n : Int) (w : World) (B g : Nat) (A : Option Addr) (len cap : Nat) (zs : Nat → Int) (hc : CodeIs w B A len zs) (hu : CurIs w B g A len cap) (hlen : len ≤ 140737488351232) (hBw : B ≤ w.heap.size) (h0 : 0 < n) :
    Calls Try.prog 128 #[.pointer (some ⟨g, 0, none⟩), .int .i64 n] w fun e w' => (∃ b : Bool, e = .returned (.bool b)) ∧ CurIs w' B g A len cap ∧ w.grownBy w' (some g) := by
  have HD := Lib.hid (below_any n w B g A len cap zs hc hu hlen hBw h0)
  clear hc hu
  go_enter Try.func128, Try.ntmps128
  go_wp2_with fail
  refine HD.out.mono ?_
  rintro e w5 ⟨z, _, rfl, hu5, hg5⟩
  have HU := Lib.hid hu5
  have HG := Lib.hid hg5
  clear hu5 hg5
  go_wp2_with fail
  go_ret
  exact ⟨⟨_, rfl⟩, HU.out, HG.out⟩
end Go.Proofs.Ytdkpmaahinbhlaa
/- What spec.l5Some draws: a row of few numbers of the call's own. No condition. -/
namespace Go.Proofs.Ytdkpmaahinbhlaa
open Go.RowKit

set_option maxHeartbeats 2000000 in
set_option maxRecDepth 100000 in
theorem some_c (p : Int) (n : Nat) (Ag : Option Addr) (cg : Nat) (w : World) (B g : Nat) (A : Option Addr) (len cap : Nat) (zs : Nat → Int) (hc : CodeIs w B A len zs) (hu : CurIs w B g A len cap) (hlen : len ≤ 140737488351232) (hBw : B ≤ w.heap.size) (hn : n ≤ 1000) :
    Calls Try.prog 148 #[.pointer (some ⟨g, 0, none⟩), .agg #[.int .i64 p, .slice Ag n cg]] w fun e w' => ∃ A' c' v lo hi, e = .returned (.slice A' v.length c') ∧ v.length ≤ n + 1 ∧ OwnR w' lo hi A' c' v ∧ w.heap.size ≤ lo ∧ CurIs w' B g A len cap ∧ w.grownBy w' (some g) := by
  have HC := Lib.hid (fun (W : World) (h : w.grownBy W (some g)) => hc.kept (grown_cur hu.1 hBw h))
  have hgw := hu.lt
  have hBg := hu.1
  have hb0 := new_below w (.cells #[.int .i64 p, .slice Ag n cg] 26)
  have hbx := box_new w p (.slice Ag n cg) 26
  have hs0 : (w.alloc (.cells #[.int .i64 p, .slice Ag n cg] 26)).heap.size = w.heap.size + 1 := by simp
  have HU0 := Lib.hid (hu.below hb0 hgw)
  have HG0 := Lib.hid (gb_below (gb_refl w g) hb0)
  have HBX := Lib.hid hbx
  clear hc hu hb0 hbx
  go_enter Try.func148, Try.ntmps148
  go_wp2_with fail
  generalize (w.alloc (.cells #[.int .i64 p, .slice Ag n cg] 26)) = w0 at *
  have hal := new_below w0 (.cells #[] 3)
  have HOE := Lib.hid (ownR_empty w0)
  have HU := Lib.hid (HU0.out.below hal (by omega))
  have HG := Lib.hid (gb_below HG0.out hal)
  have HB1 := Lib.hid (hal.block w.heap.size (by omega))
  have HSZ := Lib.hid (show (w0.alloc (.cells #[] 3)).heap.size = w0.heap.size + 1 by simp)
  clear hal HU0 HG0
  generalize w0.alloc (.cells #[] 3) = w1 at *
  have HX := Lib.hid (show w1.cell? ⟨w.heap.size, 1, none⟩ = some (.slice Ag n cg) from (World.cell?_of_block (a := ⟨w.heap.size, 1, none⟩) HB1.out).trans HBX.out.2.2)
  clear HB1 HBX
  go_loopw [5, 6] (fun o i wr => ∃ (k : Nat) (v : List Int) (A' : Option Addr) (c' lo hi : Nat), k ≤ n ∧ i = .int .i64 k ∧ o = .slice A' v.length c' ∧ v.length ≤ k ∧ OwnR wr lo hi A' c' v ∧ w.heap.size < lo ∧ lo ≤ wr.heap.size ∧ CurIs wr B g A len cap ∧ w.grownBy wr (some g) ∧ wr.cell? ⟨w.heap.size, 1, none⟩ = some (.slice Ag n cg)) (fun _ i _ => n - (intOf i).toNat)
  case atStart =>
    have hoe := HOE.out
    rw [hs0] at hoe
    refine ⟨0, [], _, _, _, _, Nat.zero_le _, rfl, rfl, Nat.le_refl _, hoe, ?_, ?_, HU.out, HG.out, HX.out⟩
    · omega
    · have := HSZ.out; omega
  case round =>
    clear HOE HU HG HX
    obtain ⟨k, v, A2, c2, lo, hi, hk, rfl, rfl, hvl, ho, hlo, hlt, hu, hg, hx⟩ := hrel
    have HVL := Lib.hid hvl
    have hvk : v.length ≤ 1000 := by omega
    clear hvl
    have HO := Lib.hid ho
    have HU := Lib.hid hu
    have HG := Lib.hid hg
    have hx2 := hx
    have HX := Lib.hid hx2
    clear ho hu hg hx2
    have hsz := HG.out.size
    by_cases hkn : k < n
    · have hki : (k : Int) < (n : Int) := by omega
      have HD := Lib.hid (once_d 3 wr B g A len cap zs (HC.out _ HG.out) HU.out hlen (by omega) (by omega))
      go_wp2_with fail
      refine HD.out.mono ?_
      rintro e w3 ⟨⟨b, rfl⟩, hu3, hg3⟩
      have HU3 := Lib.hid hu3
      have HG3 := Lib.hid (HG.out.trans_ hg3)
      have HO3 := Lib.hid (HO.out.within (wi_gb hg3) (.inr (by omega)))
      have hs3 := hg3.size
      have HX3 := Lib.hid ((World.cell?_of_block (a := ⟨w.heap.size, 1, none⟩) (hg3.block w.heap.size (by omega) (by simp; omega))).trans HX.out)
      clear hu3 hg3 hx
      cases b with
      | true =>
        go_wp2_with fail
        go_roundw
        case rel => exact ⟨k + 1, v, A2, c2, lo, hi, by omega, by go_num, rfl, by have := HVL.out; omega, HO3.out, hlo, by omega, HU3.out, HG3.out, HX3.out⟩
        case measure => simp [intOf]; omega
      | false =>
        go_wp2_with (at_builtin; refine wpList_pushR _ rfl _ _ rfl lo hi A2 c2 v (k : Int) rfl HO3.out _ (by first | rfl | (simp only [World.size_setCell]; rfl)) (by omega) (by omega) ?_; intro A6 c6 w6 lo6 hi6 hr6 hor6 hw6; have HR6 := Lib.hid hr6; have HOR6 := Lib.hid hor6; have HW6 := Lib.hid hw6; clear hr6 hor6 hw6)
        have HU6 := Lib.hid (cur_within HU3.out HW6.out (.inl (by omega)))
        have HG6 := Lib.hid (gb_within HG3.out HW6.out (by omega))
        have hs6 := HW6.out.size
        have HX6 := Lib.hid ((World.cell?_of_block (a := ⟨w.heap.size, 1, none⟩) (HW6.out.block w.heap.size (by omega) (.inl (by omega)))).trans HX3.out)
        go_roundw
        case rel => exact ⟨k + 1, v ++ [(k : Int)], A6, c6, lo6, hi6, by omega, by go_num, by rw [List.length_append]; rfl, by rw [List.length_append]; have := HVL.out; simp; omega, HR6.out, by have := HOR6.out; omega, by have := HOR6.out; omega, HU6.out, HG6.out, HX6.out⟩
        case measure => simp [intOf]; omega
    · obtain rfl : k = n := by omega
      clear HX
      go_wp2_with fail
      have HD := Lib.hid (once_d 14 wr B g A len cap zs (HC.out _ HG.out) HU.out hlen (by omega) (by omega))
      refine HD.out.mono ?_
      rintro e w3 ⟨⟨b, rfl⟩, hu3, hg3⟩
      have HU3 := Lib.hid hu3
      have HG3 := Lib.hid (HG.out.trans_ hg3)
      have HO3 := Lib.hid (HO.out.within (wi_gb hg3) (.inr (by omega)))
      have hs3 := hg3.size
      clear hu3 hg3 hx
      cases b with
      | false =>
        go_wp2_with fail
        go_ret
        exact ⟨A2, c2, v, lo, hi, rfl, by have := HVL.out; omega, HO3.out, by omega, HU3.out, HG3.out⟩
      | true =>
        have HD4 := Lib.hid (below_c 12 w3 B g A len cap zs (HC.out _ HG3.out) HU3.out hlen (by omega) (by omega))
        go_wp2_with fail
        refine HD4.out.mono ?_
        rintro e w4 ⟨x, hx4, rfl, hu4, hg4⟩
        have HU4 := Lib.hid hu4
        have HG4 := Lib.hid (HG3.out.trans_ hg4)
        have HO4 := Lib.hid (HO3.out.within (wi_gb hg4) (.inr (by omega)))
        have hs4 := hg4.size
        clear hu4 hg4
        go_wp2_with (at_builtin; refine wpList_pushR _ rfl _ _ rfl lo hi A2 c2 v (x - 1) rfl HO4.out _ (by first | rfl | (simp only [World.size_setCell]; rfl)) (by omega) (by omega) ?_; intro A6 c6 w6 lo6 hi6 hr6 hor6 hw6; have HR6 := Lib.hid hr6; have HOR6 := Lib.hid hor6; have HW6 := Lib.hid hw6; clear hr6 hor6 hw6)
        have HU6 := Lib.hid (cur_within HU4.out HW6.out (.inl (by omega)))
        have HG6 := Lib.hid (gb_within HG4.out HW6.out (by omega))
        go_ret
        exact ⟨A6, c6, v ++ [x - 1], lo6, hi6, by rw [List.length_append]; rfl, by rw [List.length_append]; have := HVL.out; simp; omega, HR6.out, by have := HOR6.out; omega, HU6.out, HG6.out⟩
end Go.Proofs.Ytdkpmaahinbhlaa
/- A set of numbers in a map of the call's own; a box of five cells. No program's walk. No condition. -/
namespace Go.Proofs.Ytdkpmaahinbhlaa
open Go.RowKit

open Go.Maps

theorem lawI : Keyed Try.prog 3 := int_keyed Try.underlying3
abbrev OMap (W : World) (b n : Nat) (D : DataW Unit) : Prop := W.ownsMap Try.prog 3 (plainElem Try.prog 4) b n D
abbrev ORng (W : World) (b r n : Nat) (D : DataW Unit) (left : Lit → Bool) (cnt : Nat) : Prop := W.ranges Try.prog 3 (plainElem Try.prog 4) b r n D left cnt
/-- What a map says: the numbers of a list, all with 'true'. -/
def SaysS (D : DataW Unit) (zs : List Int) : Prop := ∀ x : Int, Maps.has D (.int .i64 x) = decide (x ∈ zs) ∧ D.atKey (.int .i64 x) (.lit (.bool false)) = .lit (.bool (decide (x ∈ zs)))
def SetM (W : World) (b n : Nat) (zs : List Int) : Prop := ∃ D : DataW Unit, OMap W b n D ∧ SaysS D zs
theorem SetM.lt {W : World} {b n : Nat} {zs : List Int} (h : SetM W b n zs) : b < W.heap.size := by
  obtain ⟨D, h1, _⟩ := h
  exact h1.lt
theorem omap_block {W W' : World} {b n : Nat} {D : DataW Unit} (h : OMap W b n D) (e : W'.heap[b]? = W.heap[b]?) : OMap W' b n D := by
  obtain ⟨es, clock, h1, h2⟩ := h
  exact ⟨es, clock, e.trans h1, h2⟩
theorem SetM.within {W W' : World} {b n lo hi : Nat} {zs : List Int} (h : SetM W b n zs) (hw : Within lo hi W W') (hd : b < lo ∨ hi ≤ b) : SetM W' b n zs := by
  have hl := h.lt
  obtain ⟨D, h1, h2⟩ := h
  exact ⟨D, omap_block h1 (hw.block b hl hd), h2⟩
theorem saysS_nil : SaysS (.map []) [] := fun x => ⟨by simp [Maps.has], by simp [DataW.atKey]⟩
theorem SaysS.put {D : DataW Unit} {zs : List Int} (h : SaysS D zs) (hD : IsMap D) (z : Int) : SaysS (D.put (.int .i64 z) (.lit (.bool true))) (zs ++ [z]) := fun x => by
  by_cases e : x = z
  · subst e
    rw [has_put_same (k := .int .i64 x) hD trivial, atKey_put_same (k := .int .i64 x) hD trivial]
    simp
  · have hne : (Lit.int .i64 x) ≠ .int .i64 z := fun q => e (by cases q; rfl)
    rw [has_put_other hne, atKey_put_other hne, (h x).1, (h x).2]
    simp [e]
theorem SaysS.congr {D : DataW Unit} {zs ys : List Int} (h : SaysS D zs) (e : ∀ x, x ∈ zs ↔ x ∈ ys) : SaysS D ys := fun x => by
  rw [(h x).1, (h x).2, decide_eq_decide.2 (e x)]
  exact ⟨rfl, rfl⟩
theorem SaysS.del {D : DataW Unit} {zs : List Int} (h : SaysS D zs) (z : Int) : SaysS (D.del (.int .i64 z)) (zs.filter fun x => !decide (x = z)) := fun x => by
  by_cases e : x = z
  · subst e
    rw [has_del_same, atKey_del_same]
    simp
  · have hne : (Lit.int .i64 x) ≠ .int .i64 z := fun q => e (by cases q; rfl)
    rw [has_del_other hne, atKey_del_other hne, (h x).1, (h x).2]
    simp [e]
theorem within_grown {W W' : World} {g : Nat} (hg : W.grownBy W' (some g)) : Within g (g + 1) W W' := ⟨hg.os, hg.tape, hg.output, hg.size, fun j hj hd => hg.block j hj (by simp; omega)⟩
theorem within_none {W W' : World} (hg : W.grownBy W' none) : Within 0 0 W W' := ⟨hg.os, hg.tape, hg.output, hg.size, fun j hj _ => hg.block j hj (by simp)⟩
theorem orng_block {W W' : World} {b r n : Nat} {D : DataW Unit} {left : Lit → Bool} {cnt : Nat} (h : ORng W b r n D left cnt) (e1 : W'.heap[b]? = W.heap[b]?) (e2 : W'.heap[r]? = W.heap[r]?) : ORng W' b r n D left cnt := by
  obtain ⟨es, clock, since, seen, c0, hb, F, hs, hD, hr, rest⟩ := h
  exact ⟨es, clock, since, seen, c0, e1.trans hb, F, hs, hD, e2.trans hr, rest⟩
theorem bool_inv {P : Program} {e : TypeId} (he : P.underlying e = some .bool) {v : Value} {y : DataW Unit × List MemPlace} (h : plainElem P e v = some y) : ∃ c, v = .bool c := by
  unfold plainElem at h
  rw [he] at h
  cases v <;> simp at h
  exact ⟨_, rfl⟩
/-- What has been collected: the keys that are no longer to come. -/
def CollS (D : DataW Unit) (left : Lit → Bool) (ks : List Int) : Prop := ∀ x : Int, x ∈ ks ↔ ((Lit.int .i64 x).wf = true ∧ Maps.has D (.int .i64 x) = true ∧ left (.int .i64 x) = false)
theorem CollS.start (D : DataW Unit) : CollS D (Maps.has D) [] := fun x => by cases Maps.has D (.int .i64 x) <;> simp
theorem CollS.step {D : DataW Unit} {left : Lit → Bool} {ks : List Int} (h : CollS D left ks) {x : Int} {y : DataW Unit} (hw : (Lit.int .i64 x).wf = true) (hat : ∀ zd, D.atKey (.int .i64 x) zd = y) : CollS D (fun z => left z && !z.sameKey (.int .i64 x)) (ks ++ [x]) := by
  have hhas : Maps.has D (.int .i64 x) = true := has_true_of_atKey hat
  intro z
  by_cases e : z = x
  · subst e; simp [hhas, hw, Lit.sameKey]
  · simp [h z, e, Lit.sameKey]
theorem CollS.done {D : DataW Unit} {left : Lit → Bool} {ks zs : List Int} (h : CollS D left ks) (hs : SaysS D zs) (hl : ∀ kl, left kl = false) (n : Nat) (hn : n ≤ 1048576) (j : Nat) (hj : j < n) : (j : Int) ∈ ks ↔ (j : Int) ∈ zs := by
  rw [h (j : Int), (hs (j : Int)).1, hl]
  have hw : (Lit.int .i64 (j : Int)).wf = true := WalkArith.wf_i64 (by omega)
  simp [hw]
/-- Five values in a block. -/
def Cel5 (W : World) (b : Nat) (T : TypeId) (v0 v1 v2 v3 v4 : Value) : Prop := W.heap[b]? = some (.cells #[v0, v1, v2, v3, v4] T (0, 0))
section
variable {W W' : World} {b lo hi : Nat} {T : TypeId} {v0 v1 v2 v3 v4 : Value}
theorem Cel5.lt (h : Cel5 W b T v0 v1 v2 v3 v4) : b < W.heap.size := (Array.getElem?_eq_some_iff.1 h).1
theorem Cel5.cells (h : Cel5 W b T v0 v1 v2 v3 v4) : W.cell? ⟨b, 0, none⟩ = some v0 ∧ W.cell? ⟨b, 1, none⟩ = some v1 ∧ W.cell? ⟨b, 2, none⟩ = some v2 ∧ W.cell? ⟨b, 3, none⟩ = some v3 ∧ W.cell? ⟨b, 4, none⟩ = some v4 := by
  refine ⟨?_, ?_, ?_, ?_, ?_⟩
  · rw [cell_of_row W b 0 _ T (0, 0) h]; rfl
  · rw [cell_of_row W b 1 _ T (0, 0) h]; rfl
  · rw [cell_of_row W b 2 _ T (0, 0) h]; rfl
  · rw [cell_of_row W b 3 _ T (0, 0) h]; rfl
  · rw [cell_of_row W b 4 _ T (0, 0) h]; rfl
theorem Cel5.frozen (h : Cel5 W b T v0 v1 v2 v3 v4) : W.frozen? ⟨b, 0, none⟩ = false ∧ W.frozen? ⟨b, 1, none⟩ = false ∧ W.frozen? ⟨b, 2, none⟩ = false ∧ W.frozen? ⟨b, 3, none⟩ = false ∧ W.frozen? ⟨b, 4, none⟩ = false :=
  ⟨frozen_of_row W b 0 _ T h, frozen_of_row W b 1 _ T h, frozen_of_row W b 2 _ T h, frozen_of_row W b 3 _ T h, frozen_of_row W b 4 _ T h⟩
theorem Cel5.within (h : Cel5 W b T v0 v1 v2 v3 v4) (hw : Within lo hi W W') (hd : b < lo ∨ hi ≤ b) : Cel5 W' b T v0 v1 v2 v3 v4 := (hw.block b h.lt hd).trans h
theorem cel5_new (w : World) (v0 v1 v2 v3 v4 : Value) (T : TypeId) : Cel5 (w.alloc (.cells #[v0, v1, v2, v3, v4] T)) w.heap.size T v0 v1 v2 v3 v4 := heap_alloc_new w _
theorem ret5 (h : Cel5 W b T v0 v1 v2 v3 v4) (u0 u1 u2 u3 u4 : Value) : Cel5 (((((W.setCell ⟨b, 0, none⟩ u0).setCell ⟨b, 1, none⟩ u1).setCell ⟨b, 2, none⟩ u2).setCell ⟨b, 3, none⟩ u3).setCell ⟨b, 4, none⟩ u4) b T u0 u1 u2 u3 u4 ∧ Within b (b + 1) W (((((W.setCell ⟨b, 0, none⟩ u0).setCell ⟨b, 1, none⟩ u1).setCell ⟨b, 2, none⟩ u2).setCell ⟨b, 3, none⟩ u3).setCell ⟨b, 4, none⟩ u4) := by
  have h0 : Cel5 _ b T u0 v1 v2 v3 v4 := heap_setCell_same W b 0 _ T u0 h
  have h1 : Cel5 _ b T u0 u1 v2 v3 v4 := heap_setCell_same _ b 1 _ T u1 h0
  have h2 : Cel5 _ b T u0 u1 u2 v3 v4 := heap_setCell_same _ b 2 _ T u2 h1
  have h3 : Cel5 _ b T u0 u1 u2 u3 v4 := heap_setCell_same _ b 3 _ T u3 h2
  have h4 : Cel5 _ b T u0 u1 u2 u3 u4 := heap_setCell_same _ b 4 _ T u4 h3
  exact ⟨h4, ((((within_set W b 0 u0).trans (within_set _ b 1 u1)).trans (within_set _ b 2 u2)).trans (within_set _ b 3 u3)).trans (within_set _ b 4 u4)⟩
end
abbrev bsV (p : Int) (A : Option Addr) (n cap : Nat) (k c : Int) (b : Nat) : Value := .agg #[.int .i64 p, .slice A n cap, .int .i64 k, .int .i64 c, .map (some b)]
end Go.Proofs.Ytdkpmaahinbhlaa
/- What ClosureOf answers, and what stands while it is collected. No program's walk. No condition. -/
namespace Go.Proofs.Ytdkpmaahinbhlaa
open Go.RowKit

/-- The bars below n that leave the rank r as it is. -/
noncomputable def cloK (p k c : Int) (l : List (Int × Int)) (zs : List Int) (r : Int) : Nat → List Int
  | 0 => []
  | n + 1 => if rankSV p k c l (zs ++ [(n : Int)]) = r then cloK p k c l zs r n ++ [(n : Int)] else cloK p k c l zs r n
theorem cloK_len (p k c : Int) (l : List (Int × Int)) (zs : List Int) (r : Int) : ∀ n, (cloK p k c l zs r n).length ≤ n := by
  intro n
  induction n with
  | zero => exact Nat.le_refl _
  | succ n ih =>
    unfold cloK
    split
    · simp; omega
    · omega
theorem cloK_in {p k c : Int} {l : List (Int × Int)} {zs : List Int} {r : Int} {n : Nat} (h : rankSV p k c l (zs ++ [(n : Int)]) = r) : cloK p k c l zs r (n + 1) = cloK p k c l zs r n ++ [(n : Int)] := by rw [cloK, if_pos h]
theorem cloK_out {p k c : Int} {l : List (Int × Int)} {zs : List Int} {r : Int} {n : Nat} (h : ¬ rankSV p k c l (zs ++ [(n : Int)]) = r) : cloK p k c l zs r (n + 1) = cloK p k c l zs r n := by rw [cloK, if_neg h]
/-- What ClosureOf answers. -/
noncomputable def cloV (p k c : Int) (l : List (Int × Int)) (zs : List Int) : List Int := if (setB p l zs && rangeB k c) = true then cloK p k c l zs (rankSV p k c l zs) l.length else []
theorem cloV_len (p k c : Int) (l : List (Int × Int)) (zs : List Int) : (cloV p k c l zs).length ≤ l.length := by
  unfold cloV
  split
  · exact cloK_len _ _ _ _ _ _ _
  · simp
theorem cloV_no {p k c : Int} {l : List (Int × Int)} {zs : List Int} (h : setB p l zs = false ∨ rangeB k c = false) : cloV p k c l zs = [] := by
  unfold cloV
  rcases h with h | h <;> rw [h] <;> simp
theorem cloV_yes {p k c : Int} {l : List (Int × Int)} {zs : List Int} (h : setB p l zs = true) (h2 : rangeB k c = true) : cloV p k c l zs = cloK p k c l zs (rankSV p k c l zs) l.length := by unfold cloV; rw [h, h2]; rfl
theorem GrowP.below {a b : Nat} {V W W' : World} {ys : List Int} {A : Option Addr} {cap lo hi : Nat} (h : GrowP a b V W ys A cap lo hi) (hb : Below W.heap.size W W') : GrowP a b V W' ys A cap lo hi :=
  ⟨h.row.within (within_of hb) (.inr (Nat.zero_le _)), h.rng, Nat.le_trans h.le hb.size, ⟨hb.os.trans h.wi.os, hb.tape.trans h.wi.tape, hb.output.trans h.wi.output, Nat.le_trans h.wi.size hb.size, fun i hi hd => (hb.block i (Nat.lt_of_lt_of_le hi h.wi.size)).trans (h.wi.block i hi hd)⟩⟩
/-- A row that is collected beside a block b that is written. -/
structure GrowQ (b : Nat) (V W : World) (ys : List Int) (A : Option Addr) (cap lo hi : Nat) : Prop where
  row : OwnR W lo hi A cap ys
  ge : V.heap.size ≤ lo
  le : lo ≤ W.heap.size
  wi : Within b (b + 1) V W
theorem GrowQ.map {b : Nat} {V W W' : World} {ys : List Int} {A : Option Addr} {cap lo hi : Nat} (h : GrowQ b V W ys A cap lo hi) (hw : Within b (b + 1) W W') (hb : b < V.heap.size) : GrowQ b V W' ys A cap lo hi :=
  ⟨h.row.within hw (.inr (by have := h.ge; omega)), h.ge, Nat.le_trans h.le hw.size, h.wi.trans hw⟩
theorem GrowQ.push {b : Nat} {V W W' : World} {ys : List Int} {y : Int} {A A' : Option Addr} {cap lo hi c' lo' hi' : Nat} (h : GrowQ b V W ys A cap lo hi) (hr : OwnR W' lo' hi' A' c' (ys ++ [y])) (hd : (lo' = lo ∧ hi' = hi) ∨ (W.heap.size ≤ lo' ∧ lo' ≤ W'.heap.size ∧ hi' ≤ W'.heap.size)) (hw : Within lo hi W W') : GrowQ b V W' (ys ++ [y]) A' c' lo' hi' := by
  obtain ⟨_, h2, h3, h4⟩ := h
  have s1 := h4.size
  have s2 := hw.size
  refine ⟨hr, ?_, ?_, ⟨hw.os.trans h4.os, hw.tape.trans h4.tape, hw.output.trans h4.output, Nat.le_trans s1 s2, fun i hi hd => (hw.block i (by omega) (by omega)).trans (h4.block i hi hd)⟩⟩
  · rcases hd with ⟨rfl, rfl⟩ | hd
    · exact h2
    · omega
  · rcases hd with ⟨rfl, rfl⟩ | hd
    · omega
    · exact hd.2.1
end Go.Proofs.Ytdkpmaahinbhlaa
/- A circuit: what is needed of ranks, sizes and sets. No program. No condition. -/
namespace Go.Proofs.Ytdkpmaahinbhlaa
open Go.RowKit

/-- A list without a number. -/
def woL (zs : List Int) (x : Int) : List Int := zs.filter fun y => !decide (y = x)
theorem okS_pair {m : Nat} {Z : List Int} (h : ∀ j, j < Z.length → OkS m Z j) : (∀ x, x ∈ Z → 0 ≤ x ∧ x < (m : Int)) ∧ Z.Pairwise (· < ·) := by
  constructor
  · intro x hx
    obtain ⟨i, hi, rfl⟩ := List.getElem_of_mem hx
    have := (h i hi).1
    simpa [List.getD, List.getElem?_eq_getElem hi] using this
  · rw [List.pairwise_iff_getElem]
    intro i j hi hj hij
    have q : ∀ d, i + d + 1 < Z.length → Z.getD i 0 < Z.getD (i + d + 1) 0 := by
      intro d
      induction d with
      | zero => intro hd; have := (h (i + 1) hd).2 (by omega); simpa using this
      | succ d ih =>
        intro hd
        have h1 := ih (by omega)
        have h2 := (h (i + (d + 1) + 1) hd).2 (by omega)
        rw [show i + (d + 1) + 1 - 1 = i + d + 1 by omega] at h2
        omega
    have := q (j - i - 1) (by omega)
    rw [show i + (j - i - 1) + 1 = j by omega] at this
    simpa [List.getD, List.getElem?_eq_getElem hi, List.getElem?_eq_getElem hj] using this
theorem okS_of {m : Nat} {Z : List Int} (h1 : ∀ x, x ∈ Z → 0 ≤ x ∧ x < (m : Int)) (h2 : Z.Pairwise (· < ·)) : ∀ j, j < Z.length → OkS m Z j := by
  intro j hj
  rw [List.pairwise_iff_getElem] at h2
  refine ⟨?_, fun h0 => ?_⟩
  · have := h1 Z[j] (List.getElem_mem hj)
    simpa [List.getD, List.getElem?_eq_getElem hj] using this
  · have := h2 (j - 1) j (by omega) hj (by omega)
    simpa [List.getD, List.getElem?_eq_getElem hj, List.getElem?_eq_getElem (show j - 1 < Z.length by omega)] using this
theorem setB_wo {p : Int} {l : List (Int × Int)} {zs : List Int} (h : setB p l zs = true) (x : Int) : setB p l (woL zs x) = true := by
  obtain ⟨h1, h2⟩ := setB_is h
  obtain ⟨h3, h4⟩ := okS_pair h1
  rw [setB_all (okS_of (Z := woL zs x) (m := l.length) (fun y hy => h3 y (List.mem_filter.1 hy).1) (h4.filter _)), isGB_yes h2]
theorem wo_len : ∀ zs : List Int, zs.Pairwise (· < ·) → ∀ x, x ∈ zs → (woL zs x).length + 1 = zs.length := by
  intro zs
  induction zs with
  | nil => intro _ x hx; cases hx
  | cons a t ih =>
    intro hp x hx
    obtain ⟨h1, h2⟩ := List.pairwise_cons.1 hp
    unfold woL
    by_cases e : a = x
    · subst e
      have : t.filter (fun y => !decide (y = a)) = t := List.filter_eq_self.2 fun y hy => by
        have := h1 y hy
        simp
        omega
      simp [this]
    · have hxt : x ∈ t := by
        rcases List.mem_cons.1 hx with h | h
        · exact absurd h.symm e
        · exact h
      have := ih h2 x hxt
      unfold woL at this
      simp [e]
      omega
theorem setB_len {p : Int} {l : List (Int × Int)} {zs : List Int} (h : setB p l zs = true) {x : Int} (hx : x ∈ zs) : (woL zs x).length + 1 = zs.length := wo_len zs (okS_pair (setB_is h).1).2 x hx
theorem cnt_le (n : Nat) : ∀ ys : List Int, ys.countP (fun y => decide (y < (n : Int))) + (if (n : Int) ∈ ys then 1 else 0) ≤ ys.countP (fun y => decide (y < ((n + 1 : Nat) : Int))) := by
  intro ys
  induction ys with
  | nil => simp
  | cons a t ih =>
    rw [List.countP_cons, List.countP_cons]
    by_cases e : (n : Int) = a
    · subst e
      rw [if_pos List.mem_cons_self]
      have h1 : decide ((n : Int) < (n : Int)) = false := by simp
      have h2 : decide ((n : Int) < ((n + 1 : Nat) : Int)) = true := by simp; omega
      rw [h1, h2]
      have : t.countP (fun y => decide (y < (n : Int))) ≤ t.countP (fun y => decide (y < ((n + 1 : Nat) : Int))) := by
        split at ih <;> omega
      rw [if_neg (by decide), if_pos rfl]
      omega
    · have hm : (if (n : Int) ∈ a :: t then 1 else 0) = (if (n : Int) ∈ t then (1 : Nat) else 0) := by simp [e]
      rw [hm]
      have : (if decide (a < (n : Int)) = true then 1 else 0) ≤ (if decide (a < ((n + 1 : Nat) : Int)) = true then 1 else 0) := by
        by_cases h : a < (n : Int)
        · rw [if_pos (by simpa using h), if_pos (by simp; omega)]; exact Nat.le_refl _
        · rw [if_neg (by simpa using h)]; omega
      omega
theorem onlyK_cnt (l : List (Int × Int)) (ys : List Int) : ∀ n, (onlyK l (inS ys) n).length ≤ ys.countP (fun y => decide (y < (n : Int))) := by
  intro n
  induction n with
  | zero => unfold onlyK; simp
  | succ n ih =>
    have h := cnt_le n ys
    unfold onlyK
    by_cases e : (n : Int) ∈ ys
    · have : inS ys n = true := by unfold inS; simpa using e
      rw [if_pos e] at h
      rw [if_pos this, List.length_append, List.length_singleton]
      omega
    · have : inS ys n = false := by unfold inS; simpa using e
      rw [if_neg e] at h
      rw [if_neg (by rw [this]; decide), List.append_nil]
      omega
theorem rankV_le (p k c : Int) (l : List (Int × Int)) : rankV p k c l ≤ (l.length : Int) := by
  unfold rankV
  by_cases h : newB p k l = true
  · by_cases h2 : rangeB k c = true
    · have hG := (newB_is h).1
      obtain ⟨P, rfl⟩ : ∃ P : Nat, p = (P : Int) := ⟨p.toNat, by have := hG.1; omega⟩
      rw [(runV_yes h h2).1, (runV_yes h h2).2, if_pos rfl]
      have := (runN_ok (newB_is h).1 (newB_is h).2 (rangeB_is h2).2.1 l.length (Nat.le_refl _)).2.1
      omega
    · rw [(runV_no (.inr (by simpa using h2))).1]; simp
  · rw [(runV_no (.inl (by simpa using h))).1]; simp
theorem rankSV_le (p k c : Int) (l : List (Int × Int)) (ys : List Int) : rankSV p k c l ys ≤ (ys.length : Int) := by
  unfold rankSV
  split
  · have h1 := rankV_le p k c (onlyL l ys)
    have h2 : (onlyL l ys).length ≤ ys.length := Nat.le_trans (onlyK_cnt l ys l.length) List.countP_le_length
    omega
  · omega
/-- A set without one of its bars is independent just if its rank is not less than one less than the set's size. -/
theorem ind_wo {p k c : Int} {l : List (Int × Int)} {zs : List Int} (h : setB p l zs = true) (hr : rangeB k c = true) {x : Int} (hx : x ∈ zs) : indB p k c l (woL zs x) = !decide (rankSV p k c l (woL zs x) < (zs.length : Int) - 1) := by
  rw [indB_yes (setB_wo h x) hr]
  have h1 := setB_len h hx
  have h2 := rankSV_le p k c l (woL zs x)
  generalize rankSV p k c l (woL zs x) = r at *
  by_cases e : r = ((woL zs x).length : Int)
  · rw [decide_eq_true e, decide_eq_false (by omega)]; rfl
  · rw [decide_eq_false e, decide_eq_true (by omega)]; rfl
open Classical in
/-- What IsCircuit answers. -/
noncomputable def cirB (p k c : Int) (l : List (Int × Int)) (zs : List Int) : Bool :=
  if setB p l zs = true ∧ rangeB k c = true ∧ indB p k c l zs = false ∧ ∀ j, j < zs.length → indB p k c l (woL zs (zs.getD j 0)) = true then true else false
theorem cirB_no {p k c : Int} {l : List (Int × Int)} {zs : List Int} (h : setB p l zs = false ∨ rangeB k c = false ∨ indB p k c l zs = true) : cirB p k c l zs = false := by
  unfold cirB
  refine if_neg fun q => ?_
  rcases h with h | h | h
  · rw [q.1] at h; cases h
  · rw [q.2.1] at h; cases h
  · rw [q.2.2.1] at h; cases h
theorem cirB_bad {p k c : Int} {l : List (Int × Int)} {zs : List Int} {j : Nat} (hj : j < zs.length) (h : indB p k c l (woL zs (zs.getD j 0)) = false) : cirB p k c l zs = false := by
  unfold cirB
  refine if_neg fun q => ?_
  rw [q.2.2.2 j hj] at h
  cases h
theorem cirB_yes {p k c : Int} {l : List (Int × Int)} {zs : List Int} (h1 : setB p l zs = true) (h2 : rangeB k c = true) (h3 : indB p k c l zs = false) (h4 : ∀ j, j < zs.length → indB p k c l (woL zs (zs.getD j 0)) = true) : cirB p k c l zs = true := by
  unfold cirB
  exact if_pos ⟨h1, h2, h3, h4⟩
theorem wo_step (zs : List Int) (x : Int) (j : Nat) (h : j < zs.length) : woL (zs.take (j + 1)) x = if zs.getD j 0 = x then woL (zs.take j) x else woL (zs.take j) x ++ [zs.getD j 0] := by
  unfold woL
  rw [List.take_add_one, List.filter_append]
  simp only [List.getD, List.getElem?_eq_getElem h, Option.getD_some, Option.toList_some]
  by_cases e : zs[j] = x
  · simp [e]
  · simp [e]
end Go.Proofs.Ytdkpmaahinbhlaa
/- What spec.l5Without answers. No condition. -/
namespace Go.Proofs.Ytdkpmaahinbhlaa
open Go.RowKit

set_option maxHeartbeats 4000000 in
set_option maxRecDepth 100000 in
theorem wo_c (zs : List Int) (x : Int) (Z : Option Addr) (cz lo hi : Nat) (w : World) (hz : IntsIn w lo hi Z zs) (hnz : zs.length ≤ 1048576) :
    Calls Try.prog 147 #[.slice Z zs.length cz, .int .i64 x] w (IntsO w (woL zs x)) := by
  have hA := new_below w (.cells #[] 3)
  have hzh := hz.1
  have HA := Lib.hid hA
  have HZ := Lib.hid (hz.within (within_of hA) (.inr (Nat.zero_le _)))
  have HOE := Lib.hid (ownR_empty w)
  have HSZ := Lib.hid (show (w.alloc (.cells #[] 3)).heap.size = w.heap.size + 1 by simp)
  clear hz hA
  go_enter Try.func147, Try.ntmps147
  go_wp2_with fail
  generalize (w.alloc (.cells #[] 3)) = w1 at *
  go_loopw [5, 6] (fun u i wr => ∃ j : Nat, j ≤ zs.length ∧ i = .int .i64 j ∧ ∃ Ao co lo2 hi2, u = .slice Ao (woL (zs.take j) x).length co ∧ GrowP w.heap.size (w.heap.size + 1) w1 wr (woL (zs.take j) x) Ao co lo2 hi2) (fun _ i _ => zs.length - (intOf i).toNat)
  case atStart => exact ⟨0, Nat.zero_le _, rfl, some ⟨w.heap.size, 0, none⟩, 0, w.heap.size, w.heap.size + 1, rfl, ⟨HOE.out, .inl ⟨rfl, rfl⟩, by have := HSZ.out; omega, Within.refl _ _ _⟩⟩
  case round =>
    obtain ⟨j, hj, rfl, Ao, co, lo2, hi2, rfl, hst⟩ := hrel
    have HS := Lib.hid hst
    have hzr := HZ.out.within hst.wi (.inl hzh)
    clear hst
    by_cases hlt : j < zs.length
    · have hji : (j : Int) < (zs.length : Int) := by omega
      obtain ⟨zb, zo, rfl, hzc⟩ := row_at hzr (by omega)
      have hz := hzc j hlt
      have HST := Lib.hid (wo_step zs x j hlt)
      have hwl : (woL (zs.take j) x).length ≤ 1048576 := by unfold woL; exact Nat.le_trans (List.length_filter_le _ _) (by rw [List.length_take]; omega)
      have HWL := Lib.hid hwl
      clear hzc hzr hwl
      obtain ⟨z, hzd⟩ : ∃ z, zs.getD j 0 = z := ⟨_, rfl⟩
      rw [hzd] at hz HST
      clear hzd
      by_cases c1 : z = x
      · have HN := Lib.hid (HST.out.trans (if_pos c1))
        have d1 : (z != x) = false := by simpa using c1
        clear c1
        go_wp2_with fail
        go_roundw
        case rel => exact ⟨j + 1, by omega, by go_num, Ao, co, lo2, hi2, by rw [HN.out], by rw [HN.out]; exact HS.out⟩
        case measure => simp [intOf]; omega
      · have HN := Lib.hid (HST.out.trans (if_neg c1))
        have HK := Lib.hid (show (woL (zs.take (j + 1)) x).length = (woL (zs.take j) x).length + 1 by rw [HN.out]; simp)
        have d1 : (z != x) = true := by simpa using c1
        clear c1
        go_wp2_with (at_builtin; refine wpList_pushR _ rfl _ _ rfl lo2 hi2 Ao co (woL (zs.take j) x) z rfl HS.out.row _ (by first | rfl | (simp only [World.size_setCell]; rfl)) HWL.out HS.out.le ?_; intro A5 c5 w15 lo5 hi5 hr5 hor5 hw5; have HG := Lib.hid (HS.out.push hr5 hor5 hw5); clear hr5 hor5 hw5)
        go_roundw
        case rel => exact ⟨j + 1, by omega, by go_num, A5, c5, lo5, hi5, by rw [HK.out], by rw [HN.out]; exact HG.out⟩
        case measure => simp [intOf]; omega
    · obtain rfl : j = zs.length := by omega
      rw [List.take_length] at HS ⊢
      go_wp2_with fail
      go_ret
      have hs1 := HA.out.size
      exact ⟨Ao, co, rfl, HS.out.out (Nat.le_refl _) hs1, within_on HA.out HS.out.wi hs1 (.inl (Nat.le_refl _))⟩
end Go.Proofs.Ytdkpmaahinbhlaa
/- What CircuitOf answers. No program's walk. No condition. -/
namespace Go.Proofs.Ytdkpmaahinbhlaa
open Go.RowKit

/-- The numbers of a list that are below x. -/
def befL (Z : List Int) (x : Int) : List Int := Z.filter fun y => decide (y < x)
theorem bef_take : ∀ Z : List Int, Z.Pairwise (· < ·) → ∀ x, Z.take (posL Z x) = befL Z x := by
  intro Z
  induction Z with
  | nil => intro _ x; rfl
  | cons a t ih =>
    intro hp x
    obtain ⟨h1, h2⟩ := List.pairwise_cons.1 hp
    have h3 := ih h2 x
    unfold posL befL at *
    by_cases e : a < x
    · rw [List.filter_cons_of_pos (by simpa using e), List.length_cons, List.take_succ_cons, h3]
    · have : (a :: t).filter (fun y => decide (y < x)) = [] := List.filter_eq_nil_iff.2 fun y hy => by
        rcases List.mem_cons.1 hy with rfl | h
        · simpa using e
        · have := h1 y h
          simp
          omega
      rw [this]
      rfl
theorem wiS_low (ys r : List Int) (x : Int) (h : ∀ y ∈ ys, y < x) : ∀ j, j ≤ ys.length → wiS (ys ++ r) x j = (ys.take j, false) := by
  intro j
  induction j with
  | zero => intro _; rfl
  | succ j ih =>
    intro hj
    have e1 : (ys ++ r).getD j 0 = ys[j] := by simp [List.getD, List.getElem?_append_left (show j < ys.length by omega), List.getElem?_eq_getElem (show j < ys.length by omega)]
    have h1 := h ys[j] (List.getElem_mem (by omega))
    rw [wiS_on (by rw [e1]; omega) (by rw [e1]; omega), ih (by omega), e1]
    rw [List.take_succ_eq_append_getElem (by omega)]
theorem wiL_end {ys : List Int} {x : Int} (h : ∀ y ∈ ys, y < x) : wiL ys x = ys ++ [x] := by
  have h1 := wiS_low ys [] x h ys.length (Nat.le_refl _)
  rw [List.append_nil, List.take_length] at h1
  unfold wiL
  rw [h1]
  rfl
theorem wiL_mid {ys : List Int} {x b : Int} (h : ∀ y ∈ ys, y < x) (hb : x < b) : wiL (ys ++ [b]) x = ys ++ [x] ++ [b] := by
  have h1 := wiS_low ys [b] x h ys.length (Nat.le_refl _)
  rw [List.take_length] at h1
  have e1 : (ys ++ [b]).getD ys.length 0 = b := by simp [List.getD]
  have h2 := wiS_put (zs := ys ++ [b]) (x := x) (j := ys.length) (by rw [e1]; omega) (by rw [e1]; omega) (by rw [h1])
  rw [h1, e1] at h2
  unfold wiL
  have e2 : (ys ++ [b]).length = ys.length + 1 := by simp
  rw [e2, h2]
  rfl
theorem rejK_mem {Z : List Int} {x : Int} : ∀ n, x ∈ rejK Z n → ∃ j : Nat, j < n ∧ x = (j : Int) := by
  intro n
  induction n with
  | zero => intro h; cases h
  | succ n ih =>
    intro h
    unfold rejK at h
    split at h
    · obtain ⟨j, h1, h2⟩ := ih h
      exact ⟨j, by omega, h2⟩
    · rcases List.mem_append.1 h with h | h
      · obtain ⟨j, h1, h2⟩ := ih h
        exact ⟨j, by omega, h2⟩
      · exact ⟨n, by omega, List.mem_singleton.1 h⟩
/-- The accepted bars before x. -/
noncomputable def befV (p k c : Int) (l : List (Int × Int)) (x : Int) : List Int := befL (runV p k c l).2.2 x
/-- Those of the first j of them that belong to the circuit. -/
noncomputable def ciK (p k c : Int) (l : List (Int × Int)) (x : Int) (j : Nat) : List Int := ((befV p k c l x).take j).filter fun y => indB p k c l (woL (befV p k c l x ++ [x]) y)
open Classical in
/-- What CircuitOf answers. -/
noncomputable def ciB (p k c : Int) (l : List (Int × Int)) (x : Int) : Bool := decide (x ∈ rejV p k c l)
noncomputable def ciV (p k c : Int) (l : List (Int × Int)) (x : Int) : List Int := if ciB p k c l x = true then ciK p k c l x (befV p k c l x).length ++ [x] else []
theorem ciK_len (p k c : Int) (l : List (Int × Int)) (x : Int) (j : Nat) : (ciK p k c l x j).length ≤ j := by
  unfold ciK
  exact Nat.le_trans (List.length_filter_le _ _) (by rw [List.length_take]; omega)
theorem befV_len (p k c : Int) (l : List (Int × Int)) (x : Int) : (befV p k c l x).length ≤ 24 := by
  unfold befV befL
  exact Nat.le_trans (List.length_filter_le _ _) (runV_len p k c l).2.2
theorem ciV_len (p k c : Int) (l : List (Int × Int)) (x : Int) : (ciV p k c l x).length ≤ 1048576 := by
  unfold ciV
  split
  · have h1 := ciK_len p k c l x (befV p k c l x).length
    have h2 := befV_len p k c l x
    simp
    omega
  · simp
theorem ciK_in {p k c : Int} {l : List (Int × Int)} {x : Int} {j : Nat} (hj : j < (befV p k c l x).length) (h : indB p k c l (woL (befV p k c l x ++ [x]) ((befV p k c l x).getD j 0)) = true) : ciK p k c l x (j + 1) = ciK p k c l x j ++ [(befV p k c l x).getD j 0] := by
  have e : (befV p k c l x).getD j 0 = (befV p k c l x)[j] := by simp [List.getD, List.getElem?_eq_getElem hj]
  rw [e] at h ⊢
  unfold ciK
  rw [List.take_succ_eq_append_getElem hj, List.filter_append]
  simp [h]
theorem ciK_out {p k c : Int} {l : List (Int × Int)} {x : Int} {j : Nat} (hj : j < (befV p k c l x).length) (h : indB p k c l (woL (befV p k c l x ++ [x]) ((befV p k c l x).getD j 0)) = false) : ciK p k c l x (j + 1) = ciK p k c l x j := by
  have e : (befV p k c l x).getD j 0 = (befV p k c l x)[j] := by simp [List.getD, List.getElem?_eq_getElem hj]
  rw [e] at h
  unfold ciK
  rw [List.take_succ_eq_append_getElem hj, List.filter_append]
  simp [h]
/-- What is known where x was rejected. -/
structure CiF (p k c : Int) (l : List (Int × Int)) (x : Int) : Prop where
  val : ciV p k c l x = ciK p k c l x (befV p k c l x).length ++ [x]
  set : setB p l (befV p k c l x ++ [x]) = true
  rng : rangeB k c = true
  asc : (runV p k c l).2.2.Pairwise (· < ·)
  low : ∀ y ∈ befV p k c l x, y < x
  inr : 0 ≤ x ∧ x < (l.length : Int)
  l24 : l.length ≤ 24
  ind : ∀ y ∈ befV p k c l x, indB p k c l (woL (befV p k c l x ++ [x]) y) = decide (rankSV p k c l (woL (befV p k c l x ++ [x]) y) = ((befV p k c l x).length : Int))
  mid : ∀ j, j < (befV p k c l x).length → wiL (ciK p k c l x j ++ [x]) ((befV p k c l x).getD j 0) = ciK p k c l x j ++ [(befV p k c l x).getD j 0] ++ [x]
theorem pebZ {p k : Int} {l : List (Int × Int)} {F T Z : List Int} (h : IsPeb p k l F T Z) : ∀ j, j < Z.length → OkS l.length Z j := fun j hj => ⟨(h.2.2.2.2.1 j hj).1, (h.2.2.2.2.1 j hj).2.1⟩
theorem asc_get {ys : List Int} (h : ys.Pairwise (· < ·)) {i j : Nat} (hi : i < j) (hj : j < ys.length) : ys[i] < ys[j] := (List.pairwise_iff_getElem.1 h) i j (by omega) hj hi
theorem ciF {p k c : Int} {l : List (Int × Int)} {x : Int} (h : ciB p k c l x = true) : CiF p k c l x := by
  have hx : x ∈ rejV p k c l := by unfold ciB at h; exact of_decide_eq_true h
  have hrun : runB p k c l = true := by
    cases e : runB p k c l with
    | true => rfl
    | false => rw [rejV_no e] at hx; cases hx
  have hnew : newB p k l = true := by
    cases e : newB p k l with
    | true => rfl
    | false => unfold runB at hrun; rw [e] at hrun; cases hrun
  have hrng : rangeB k c = true := by
    cases e : rangeB k c with
    | true => rfl
    | false => unfold runB at hrun; rw [e] at hrun; simp at hrun
  have hG := (newB_is hnew).1
  rw [rejV_yes hrun] at hx
  obtain ⟨n, hn, rfl⟩ := rejK_mem _ hx
  obtain ⟨P, rfl⟩ : ∃ P : Nat, p = (P : Int) := ⟨p.toNat, by have := hG.1; omega⟩
  have hpeb := runN_at hnew hrng (Nat.le_refl l.length)
  have hv := (runV_yes hnew hrng).2
  obtain ⟨hin, hasc⟩ := okS_pair (pebZ hpeb)
  rw [← hv] at hin hasc
  have hlow : ∀ y ∈ befV (P : Int) k c l (n : Int), y < (n : Int) := fun y hy => by
    unfold befV befL at hy
    exact of_decide_eq_true (List.mem_filter.1 hy).2
  have hbasc : (befV (P : Int) k c l (n : Int)).Pairwise (· < ·) := by unfold befV befL; exact hasc.filter _
  have hset : setB (P : Int) l (befV (P : Int) k c l (n : Int) ++ [(n : Int)]) = true := by
    refine (setB_all (okS_of (fun y hy => ?_) ?_)).trans (isGB_yes hG)
    · rcases List.mem_append.1 hy with hy | hy
      · unfold befV befL at hy
        exact hin y (List.mem_filter.1 hy).1
      · rw [List.mem_singleton.1 hy]; omega
    · refine List.pairwise_append.2 ⟨hbasc, by simp, fun a ha b hb => ?_⟩
      rw [List.mem_singleton.1 hb]
      exact hlow a ha
  refine ⟨by unfold ciV; rw [if_pos h], hset, hrng, hasc, hlow, by omega, hG.2.1, fun y hy => ?_, fun j hj => ?_⟩
  · rw [indB_yes (setB_wo hset y) hrng]
    have := setB_len hset (x := y) (List.mem_append_left _ hy)
    rw [List.length_append, List.length_singleton] at this
    rw [show (woL (befV (P : Int) k c l (n : Int) ++ [(n : Int)]) y).length = (befV (P : Int) k c l (n : Int)).length by omega]
  · have e : (befV (P : Int) k c l (n : Int)).getD j 0 = (befV (P : Int) k c l (n : Int))[j] := by simp [List.getD, List.getElem?_eq_getElem hj]
    rw [e]
    refine wiL_mid (fun y hy => ?_) (hlow _ (List.getElem_mem hj))
    unfold ciK at hy
    have hy := (List.mem_filter.1 hy).1
    obtain ⟨i, hi, rfl⟩ := List.getElem_of_mem hy
    rw [List.length_take] at hi
    rw [List.getElem_take]
    exact asc_get hbasc (by omega) hj
theorem ciV_no {p k c : Int} {l : List (Int × Int)} {x : Int} (h : ciB p k c l x = false) : ciV p k c l x = [] := by unfold ciV; rw [h]; rfl
end Go.Proofs.Ytdkpmaahinbhlaa
/- The pebble game's counts: what is placed is sparse, and what is not placed would be too much. No program. No condition. -/
namespace Go.Proofs.Ytdkpmaahinbhlaa

def sumS (S : Nat → Bool) (f : Nat → Int) : Nat → Int
  | 0 => 0
  | P + 1 => sumS S f P + if S P then f P else 0
theorem sumS_congr (S : Nat → Bool) (f g : Nat → Int) (P : Nat) (h : ∀ v, v < P → S v = true → f v = g v) : sumS S f P = sumS S g P := by
  induction P with
  | zero => rfl
  | succ P ih =>
    unfold sumS
    rw [ih fun v hv => h v (by omega)]
    cases e : S P
    · rfl
    · rw [h P (by omega) e]
theorem sumS_add (S : Nat → Bool) (f g : Nat → Int) (P : Nat) : sumS S (fun v => f v + g v) P = sumS S f P + sumS S g P := by
  induction P with
  | zero => rfl
  | succ P ih =>
    unfold sumS
    rw [ih]
    cases S P <;> simp <;> omega
theorem sumS_one (S : Nat → Bool) (z : Int) (t P : Nat) (h : t < P) : sumS S (fun v => if v = t then z else 0) P = if S t then z else 0 := by
  have zero : ∀ Q, Q ≤ t → sumS S (fun v => if v = t then z else 0) Q = 0 := by
    intro Q
    induction Q with
    | zero => intro _; rfl
    | succ Q ih =>
      intro hq
      unfold sumS
      rw [ih (by omega), if_neg (show ¬ Q = t by omega)]
      simp
  induction P with
  | zero => omega
  | succ P ih =>
    unfold sumS
    by_cases e : P = t
    · subst e
      rw [zero P (Nat.le_refl _), if_pos rfl]
      simp
    · rw [ih (by omega), if_neg e]
      simp
theorem sumS_nonneg (S : Nat → Bool) (f : Nat → Int) (P : Nat) (h : ∀ v, v < P → 0 ≤ f v) : 0 ≤ sumS S f P := by
  induction P with
  | zero => exact Int.le_refl _
  | succ P ih =>
    unfold sumS
    have h1 := ih fun v hv => h v (by omega)
    have h2 := h P (by omega)
    cases S P <;> simp <;> omega
theorem sumS_mul (S : Nat → Bool) (z : Int) (P : Nat) : sumS S (fun _ => z) P = z * ((outF P S).length : Int) := by
  induction P with
  | zero => simp [sumS, outF]
  | succ P ih =>
    unfold sumS
    rw [ih, outF_succ]
    cases S P
    · simp
    · simp [Int.mul_add]
/-- How many tails lie in S. -/
def tinS (S : Nat → Bool) (T : List Int) : Nat := T.countP fun t => S t.toNat
theorem tinS_sum (S : Nat → Bool) (P : Nat) : ∀ T : List Int, (∀ t ∈ T, 0 ≤ t ∧ t < (P : Int)) → sumS S (fun v => (T.count (v : Int) : Int)) P = (tinS S T : Int) := by
  intro T
  induction T with
  | nil =>
    intro _
    have : ∀ Q, sumS S (fun _ => (0 : Int)) Q = 0 := fun Q => by rw [sumS_mul]; simp
    simpa [tinS] using this P
  | cons t T ih =>
    intro h
    have ht := h t (by simp)
    have e : ∀ v : Nat, (((t :: T).count (v : Int) : Nat) : Int) = (T.count (v : Int) : Int) + if v = t.toNat then 1 else 0 := fun v => by
      rw [List.count_cons]
      by_cases c : v = t.toNat
      · subst c
        have : t = ((t.toNat : Nat) : Int) := by omega
        rw [if_pos rfl, if_pos (by rw [← this]; simp)]
        simp
      · rw [if_neg c, if_neg (by simp; omega)]
        simp
    rw [sumS_congr S _ _ P fun v _ _ => e v, sumS_add, ih fun t ht => h t (by simp [ht]), sumS_one S 1 t.toNat P (by omega)]
    unfold tinS
    rw [List.countP_cons]
    cases S t.toNat <;> simp
theorem PebS.tails {P : Nat} {k : Int} {E : List (Int × Int)} {F T : List Int} (h : PebS P k E F T) : ∀ t ∈ T, 0 ≤ t ∧ t < (P : Int) := by
  intro t ht
  obtain ⟨i, hi, rfl⟩ := List.getElem_of_mem ht
  have h1 := h.ends.tail i (by rw [← h.ends.len]; exact hi)
  have h2 := h.ends.bar i (by rw [← h.ends.len]; exact hi)
  have e : T.getD i 0 = T[i] := by simp [List.getD, List.getElem?_eq_getElem hi]
  rw [e] at h1
  unfold isEnd at h1
  omega
/-- Free pebbles and tails in S make k for each of its points. -/
theorem PebS.sum {P : Nat} {k : Int} {E : List (Int × Int)} {F T : List Int} (h : PebS P k E F T) (S : Nat → Bool) : sumS S (fun v => F.getD v 0) P + (tinS S T : Int) = k * ((outF P S).length : Int) := by
  rw [← tinS_sum S P T h.tails, ← sumS_add, ← sumS_mul]
  exact sumS_congr S _ _ P fun v hv _ => (h.free v hv).2
def spanC (S : Nat → Bool) (x : Int × Int) : Bool := S x.1.toNat && S x.2.toNat
theorem span_le (S : Nat → Bool) : ∀ (E : List (Int × Int)) (T : List Int), T.length = E.length → (∀ i, i < E.length → isEnd (E.getD i (0, 0)) (T.getD i 0)) → E.countP (spanC S) ≤ tinS S T := by
  intro E
  induction E with
  | nil => intro T _ _; simp
  | cons x E ih =>
    intro T hl h
    cases T with
    | nil => simp at hl
    | cons t T =>
      have h0 := h 0 (by simp)
      have hr := ih T (by simpa using hl) fun i hi => by have := h (i + 1) (by simpa using hi); simpa [List.getD] using this
      have h0' : isEnd x t := by simpa [List.getD] using h0
      unfold tinS at *
      rw [List.countP_cons, List.countP_cons]
      have : spanC S x = true → S t.toNat = true := fun hs => by
        unfold spanC at hs
        rw [Bool.and_eq_true] at hs
        rcases h0' with rfl | rfl
        · exact hs.1
        · exact hs.2
      cases e : spanC S x
      · simp; omega
      · rw [this e]; simp; omega
theorem span_ge (S : Nat → Bool) : ∀ (E : List (Int × Int)) (T : List Int), T.length = E.length → (∀ i, i < E.length → S (T.getD i 0).toNat = true → spanC S (E.getD i (0, 0)) = true) → tinS S T ≤ E.countP (spanC S) := by
  intro E
  induction E with
  | nil =>
    intro T hl _
    have : T = [] := List.eq_nil_of_length_eq_zero (by simpa using hl)
    subst this
    simp [tinS]
  | cons x E ih =>
    intro T hl h
    cases T with
    | nil => simp at hl
    | cons t T =>
      have h0 := h 0 (by simp)
      have hr := ih T (by simpa using hl) fun i hi => by have := h (i + 1) (by simpa using hi); simpa [List.getD] using this
      have h0' : S t.toNat = true → spanC S x = true := by simpa [List.getD] using h0
      unfold tinS at *
      rw [List.countP_cons, List.countP_cons]
      cases e : S t.toNat
      · simp; omega
      · rw [h0' e]; simp; omega

/-! The search reaches all that it can. -/
theorem scanN_closed (E : List (Int × Int)) (T : List Int) (v : Int) (q : List (Int × Nat)) : ∀ n i, i < n → T.getD i 0 = v → oth (E.getD i (0, 0)) v ∈ (scanN E T v q n).map Prod.fst := by
  intro n
  induction n with
  | zero => intro i hi; omega
  | succ n ih =>
    intro i hi ht
    have e : scanN E T v q (n + 1) = scan1 E T v (scanN E T v q n) n := rfl
    rw [e]
    by_cases c : i = n
    · subst c
      unfold scan1
      by_cases c2 : oth (E.getD i (0, 0)) v ∈ (scanN E T v q i).map Prod.fst
      · rw [if_neg (fun h => h.2 c2)]
        exact c2
      · rw [if_pos ⟨ht, c2⟩]
        simp
    · obtain ⟨r, e2⟩ := scan1_pre E T v (scanN E T v q n) n
      rw [e2, List.map_append]
      exact List.mem_append_left _ (ih i (by omega) ht)
theorem bfs_closed (E : List (Int × Int)) (T : List Int) (a : Int) : ∀ k j, j < k → j < (bfs E T a k).length → ∀ i, i < E.length → T.getD i 0 = ((bfs E T a k).getD j (0, 0)).1 → oth (E.getD i (0, 0)) (T.getD i 0) ∈ (bfs E T a k).map Prod.fst := by
  intro k
  induction k with
  | zero => intro j hj; omega
  | succ k ih =>
    intro j hj hjl i hi ht
    obtain ⟨r, e⟩ := bfs_pre1 E T a k
    by_cases c : k < (bfs E T a k).length
    · have e1 : bfs E T a (k + 1) = scanN E T ((bfs E T a k).getD k (0, 0)).1 (bfs E T a k) E.length := by rw [bfs_succ, if_pos c]
      have e2 : (bfs E T a (k + 1)).getD j (0, 0) = (bfs E T a k).getD j (0, 0) := by
        rw [e]
        simp only [List.getD]
        rw [List.getElem?_append_left (by omega)]
      rw [e2] at ht
      by_cases c2 : j = k
      · subst c2
        rw [e1, ht]
        exact scanN_closed E T _ _ _ i hi ht
      · have := ih j (by omega) (by omega) i hi ht
        rw [e, List.map_append]
        exact List.mem_append_left _ this
    · have e1 : bfs E T a (k + 1) = bfs E T a k := by rw [bfs_succ, if_neg c]
      rw [e1] at hjl ht ⊢
      exact ih j (by omega) hjl i hi ht
theorem bfsQ_closed {P : Nat} {E : List (Int × Int)} {T : List Int} {a : Int} (he : EndsQ P E T) (hP : P ≤ 8) (h0 : 0 ≤ a) (h1 : a < (P : Int)) {i : Nat} (hi : i < E.length) (hm : T.getD i 0 ∈ (bfsQ E T a).map Prod.fst) : oth (E.getD i (0, 0)) (T.getD i 0) ∈ (bfsQ E T a).map Prod.fst := by
  have hg := (bfs_good he h0 h1 (max E.length 8)).short
  obtain ⟨x, hx, e⟩ := List.mem_map.1 hm
  obtain ⟨j, hj, rfl⟩ := List.getElem_of_mem hx
  have e2 : (bfsQ E T a)[j] = (bfsQ E T a).getD j (0, 0) := by simp [List.getD, List.getElem?_eq_getElem hj]
  exact bfs_closed E T a (max E.length 8) j (by unfold bfsQ at hj; omega) hj i hi (by rw [← e, e2]; rfl)
/-- If no pebble can be brought, the points that were reached span all that they can. -/
theorem full_span {P : Nat} {k : Int} {E : List (Int × Int)} {F T : List Int} (h : PebS P k E F T) (hP : P ≤ 8) {a b : Int} (ha : 0 ≤ a ∧ a < (P : Int)) (hb : 0 ≤ b ∧ b < (P : Int)) (hab : a ≠ b) (e1 : findM E a b (F, T) = none) (e2 : findM E b a (F, T) = none) :
    ∃ S : Nat → Bool, S a.toNat = true ∧ S b.toNat = true ∧ k * ((outF P S).length : Int) = F.getD a.toNat 0 + F.getD b.toNat 0 + (E.countP (spanC S) : Int) := by
  refine ⟨fun v => decide ((v : Int) ∈ (bfsQ E T a).map Prod.fst) || decide ((v : Int) ∈ (bfsQ E T b).map Prod.fst), ?_, ?_, ?_⟩
  · obtain ⟨r, e⟩ := (bfs_good h.ends ha.1 ha.2 (max E.length 8)).start
    have : ((a.toNat : Nat) : Int) = a := by omega
    show (decide (((a.toNat : Nat) : Int) ∈ (bfsQ E T a).map Prod.fst) || decide (((a.toNat : Nat) : Int) ∈ (bfsQ E T b).map Prod.fst)) = true
    unfold bfsQ
    rw [this, e]
    simp
  · obtain ⟨r, e⟩ := (bfs_good h.ends hb.1 hb.2 (max E.length 8)).start
    have : ((b.toNat : Nat) : Int) = b := by omega
    show (decide (((b.toNat : Nat) : Int) ∈ (bfsQ E T a).map Prod.fst) || decide (((b.toNat : Nat) : Int) ∈ (bfsQ E T b).map Prod.fst)) = true
    unfold bfsQ
    rw [this, e]
    simp
  · have n1 : ∀ x ∈ bfsQ E T a, givesB F a b x = false := by
      unfold findM at e1
      rw [Option.map_eq_none_iff] at e1
      intro x hx
      have := List.find?_eq_none.1 e1 x hx
      simpa using this
    have n2 : ∀ x ∈ bfsQ E T b, givesB F b a x = false := by
      unfold findM at e2
      rw [Option.map_eq_none_iff] at e2
      intro x hx
      have := List.find?_eq_none.1 e2 x hx
      simpa using this
    have hS : ∀ v : Nat, v < P → (decide ((v : Int) ∈ (bfsQ E T a).map Prod.fst) || decide ((v : Int) ∈ (bfsQ E T b).map Prod.fst)) = true → v ≠ a.toNat → v ≠ b.toNat → F.getD v 0 = 0 := by
      intro v hv hs h1 h2
      have hf := h.free v hv
      rw [Bool.or_eq_true, decide_eq_true_eq, decide_eq_true_eq] at hs
      have go : ∀ x : Int × Nat, x.1 = (v : Int) → (givesB F a b x = false ∨ givesB F b a x = false) → F.getD v 0 = 0 := fun x hx hg => by
        unfold givesB at hg
        rw [hx] at hg
        simp only [Bool.and_eq_false_iff, decide_eq_false_iff_not, Int.toNat_natCast] at hg
        omega
      rcases hs with hs | hs
      · obtain ⟨x, hx, e⟩ := List.mem_map.1 hs
        exact go x e (.inl (n1 x hx))
      · obtain ⟨x, hx, e⟩ := List.mem_map.1 hs
        exact go x e (.inr (n2 x hx))
    have hsa : (decide (((a.toNat : Nat) : Int) ∈ (bfsQ E T a).map Prod.fst) || decide (((a.toNat : Nat) : Int) ∈ (bfsQ E T b).map Prod.fst)) = true := by
      obtain ⟨r, e⟩ := (bfs_good h.ends ha.1 ha.2 (max E.length 8)).start
      have : ((a.toNat : Nat) : Int) = a := by omega
      unfold bfsQ
      rw [this, e]
      simp
    have hsb : (decide (((b.toNat : Nat) : Int) ∈ (bfsQ E T a).map Prod.fst) || decide (((b.toNat : Nat) : Int) ∈ (bfsQ E T b).map Prod.fst)) = true := by
      obtain ⟨r, e⟩ := (bfs_good h.ends hb.1 hb.2 (max E.length 8)).start
      have : ((b.toNat : Nat) : Int) = b := by omega
      unfold bfsQ
      simp only [this, e]
      simp
    have hcl : ∀ i, i < E.length → (decide ((((T.getD i 0).toNat : Nat) : Int) ∈ (bfsQ E T a).map Prod.fst) || decide ((((T.getD i 0).toNat : Nat) : Int) ∈ (bfsQ E T b).map Prod.fst)) = true → spanC (fun v => decide ((v : Int) ∈ (bfsQ E T a).map Prod.fst) || decide ((v : Int) ∈ (bfsQ E T b).map Prod.fst)) (E.getD i (0, 0)) = true := by
      intro i hi hs
      have hbar := h.ends.bar i hi
      have htl := h.ends.tail i hi
      have ht0 : (((T.getD i 0).toNat : Nat) : Int) = T.getD i 0 := by unfold isEnd at htl; omega
      rw [ht0, Bool.or_eq_true, decide_eq_true_eq, decide_eq_true_eq] at hs
      have both : ∀ Q : List Int, T.getD i 0 ∈ Q → oth (E.getD i (0, 0)) (T.getD i 0) ∈ Q → (E.getD i (0, 0)).1 ∈ Q ∧ (E.getD i (0, 0)).2 ∈ Q := fun Q q1 q2 => by
        rcases htl with e | e
        · have : oth (E.getD i (0, 0)) (T.getD i 0) = (E.getD i (0, 0)).2 := by unfold oth; omega
          rw [this] at q2
          rw [e] at q1
          exact ⟨q1, q2⟩
        · have : oth (E.getD i (0, 0)) (T.getD i 0) = (E.getD i (0, 0)).1 := by unfold oth; omega
          rw [this] at q2
          rw [e] at q1
          exact ⟨q2, q1⟩
      have c1 : (((E.getD i (0, 0)).1.toNat : Nat) : Int) = (E.getD i (0, 0)).1 := by omega
      have c2 : (((E.getD i (0, 0)).2.toNat : Nat) : Int) = (E.getD i (0, 0)).2 := by omega
      unfold spanC
      simp only [c1, c2, Bool.and_eq_true, Bool.or_eq_true, decide_eq_true_eq]
      rcases hs with hs | hs
      · have := both _ hs (bfsQ_closed h.ends hP ha.1 ha.2 hi hs)
        exact ⟨.inl this.1, .inl this.2⟩
      · have := both _ hs (bfsQ_closed h.ends hP hb.1 hb.2 hi hs)
        exact ⟨.inr this.1, .inr this.2⟩
    generalize hSS : (fun v : Nat => decide ((v : Int) ∈ (bfsQ E T a).map Prod.fst) || decide ((v : Int) ∈ (bfsQ E T b).map Prod.fst)) = S at *
    have hS' : ∀ v, S v = (decide ((v : Int) ∈ (bfsQ E T a).map Prod.fst) || decide ((v : Int) ∈ (bfsQ E T b).map Prod.fst)) := fun v => by rw [← hSS]
    have hsum := h.sum S
    have hle := span_le S E T h.ends.len h.ends.tail
    have hge := span_ge S E T h.ends.len fun i hi hs => hcl i hi (by rw [← hS']; exact hs)
    have hF : sumS S (fun v => F.getD v 0) P = F.getD a.toNat 0 + F.getD b.toNat 0 := by
      have e : ∀ v, v < P → S v = true → F.getD v 0 = (if v = a.toNat then F.getD a.toNat 0 else 0) + (if v = b.toNat then F.getD b.toNat 0 else 0) := fun v hv hs => by
        by_cases c1 : v = a.toNat
        · subst c1
          rw [if_pos rfl, if_neg (by omega)]
          omega
        · by_cases c2 : v = b.toNat
          · subst c2
            rw [if_neg c1, if_pos rfl]
            omega
          · rw [if_neg c1, if_neg c2, hS v hv (by rw [← hS']; exact hs) c1 c2]
            rfl
      rw [sumS_congr S _ _ P e, sumS_add, sumS_one S _ a.toNat P (by omega), sumS_one S _ b.toNat P (by omega), hS', hS', hsa, hsb]
      rfl
    rw [hF] at hsum
    omega
theorem gath_no {P : Nat} {k : Int} {E : List (Int × Int)} {a b want : Int} (ha : 0 ≤ a ∧ a < (P : Int)) (hb : 0 ≤ b ∧ b < (P : Int)) (hab : a ≠ b) : ∀ f (s : List Int × List Int), PebS P k E s.1 s.2 → (want - (s.1.getD a.toNat 0 + s.1.getD b.toNat 0)).toNat < f → gath E a b want f s = none →
    ∃ s' : List Int × List Int, PebS P k E s'.1 s'.2 ∧ s'.1.getD a.toNat 0 + s'.1.getD b.toNat 0 < want ∧ findM E a b s' = none ∧ findM E b a s' = none := by
  intro f
  induction f with
  | zero => intro s _ hf; omega
  | succ f ih =>
    intro s h hf e
    unfold gath at e
    by_cases c : s.1.getD a.toNat 0 + s.1.getD b.toNat 0 < want
    · rw [if_pos c] at e
      cases e1 : findM E a b s with
      | some s1 =>
        rw [e1] at e
        have h1 := findM_ok h ha hab hb.1 e1
        exact ih s1 h1.1 (by rw [h1.2.1, h1.2.2]; omega) e
      | none =>
        rw [e1] at e
        cases e2 : findM E b a s with
        | some s1 =>
          rw [e2] at e
          have h1 := findM_ok h hb (Ne.symm hab) ha.1 e2
          exact ih s1 h1.1 (by rw [h1.2.1, h1.2.2]; omega) e
        | none => exact ⟨s, h, c, e1, e2⟩
    · rw [if_neg c] at e
      cases e
theorem mask_of (S : Nat → Bool) (P : Nat) : ∃ m, m < 2 ^ P ∧ ∀ v, v < P → m.testBit v = S v := by
  induction P with
  | zero => exact ⟨0, by simp, fun v hv => by omega⟩
  | succ P ih =>
    obtain ⟨m, h1, h2⟩ := ih
    cases e : S P
    · refine ⟨m, by rw [Nat.pow_succ]; omega, fun v hv => ?_⟩
      by_cases c : v = P
      · subst c
        rw [e]
        exact Nat.testBit_lt_two_pow h1
      · exact h2 v (by omega)
    · refine ⟨m ||| 2 ^ P, Nat.or_lt_two_pow (by rw [Nat.pow_succ]; omega) (Nat.pow_lt_pow_right (by decide) (by omega)), fun v hv => ?_⟩
      rw [Nat.testBit_or]
      by_cases c : v = P
      · subst c
        rw [e, Nat.testBit_two_pow_self, Bool.or_true]
      · rw [h2 v (by omega), Nat.testBit_two_pow]
        have : ¬ P = v := fun h => c h.symm
        simp [this]
theorem outF_mask {P : Nat} {S : Nat → Bool} {m : Nat} (h : ∀ v, v < P → m.testBit v = S v) : outF P S = setL P m := outF_agree P _ _ fun v hv => (h v hv).symm
theorem spanC_mask {P : Nat} {S : Nat → Bool} {m : Nat} (h : ∀ v, v < P → m.testBit v = S v) {E : List (Int × Int)} (hE : ∀ x ∈ E, 0 ≤ x.1 ∧ x.1 < x.2 ∧ x.2 < (P : Int)) : E.countP (spanC S) = cntS E m := by
  unfold cntS
  refine List.countP_congr fun x hx => ?_
  have := hE x hx
  unfold spanC bothB
  rw [h _ (by omega), h _ (by omega)]
end Go.Proofs.Ytdkpmaahinbhlaa
/- The whole game on lists: what is placed is sparse, and all is placed exactly if the bars are sparse. No program. No condition. -/
namespace Go.Proofs.Ytdkpmaahinbhlaa

theorem sumS_two (S : Nat → Bool) (f : Nat → Int) (P a b : Nat) (hf : ∀ v, v < P → 0 ≤ f v) (ha : a < P) (hb : b < P) (hab : a ≠ b) (sa : S a = true) (sb : S b = true) : f a + f b ≤ sumS S f P := by
  have e : sumS S f P = sumS S (fun v => (if v = a then f a else 0) + (if v = b then f b else 0)) P + sumS S (fun v => f v - ((if v = a then f a else 0) + (if v = b then f b else 0))) P := by
    rw [← sumS_add]
    exact sumS_congr S _ _ P fun v _ _ => by omega
  have h0 := sumS_nonneg S (fun v => f v - ((if v = a then f a else 0) + (if v = b then f b else 0))) P fun v hv => by
    have h1 := hf v hv
    by_cases c1 : v = a
    · subst c1
      rw [if_pos rfl, if_neg hab]
      omega
    · by_cases c2 : v = b
      · subst c2
        rw [if_neg c1, if_pos rfl]
        omega
      · rw [if_neg c1, if_neg c2]
        omega
  rw [sumS_add, sumS_one S _ a P ha, sumS_one S _ b P hb, sa, sb, if_pos rfl, if_pos rfl] at e
  omega
theorem plE_snoc (l : List (Int × Int)) (Z : List Int) (n : Int) : plE l (Z ++ [n]) = plE l Z ++ [l.getD n.toNat (0, 0)] := by simp [plE]
theorem cntS_snoc (E : List (Int × Int)) (x : Int × Int) (m : Nat) : cntS (E ++ [x]) m = cntS E m + if bothB m x then 1 else 0 := by
  unfold cntS
  rw [List.countP_append, List.countP_cons, List.countP_nil, Nat.zero_add]
theorem badS_iff {l : List (Int × Int)} {k c : Int} {P m : Nat} : badS l k c P m = true ↔ 0 < cntS l m ∧ k * ((setL P m).length : Int) - c < (cntS l m : Int) := by
  unfold badS
  rw [Bool.and_eq_true, decide_eq_true_eq, decide_eq_true_eq]
theorem badS_not {l : List (Int × Int)} {k c : Int} {P m : Nat} : badS l k c P m = false ↔ ¬ (0 < cntS l m ∧ k * ((setL P m).length : Int) - c < (cntS l m : Int)) := by
  rw [← badS_iff]
  simp
theorem bad_sup {l l' : List (Int × Int)} {k c : Int} {P m : Nat} (hs : l'.Sublist l) (h : badS l' k c P m = true) : badS l k c P m = true := by
  cases e : badS l k c P m with
  | true => rfl
  | false => rw [bad_sub hs e] at h; cases h
theorem onlyK_agree (l : List (Int × Int)) (S S' : Nat → Bool) : ∀ k, (∀ i, i < k → S i = S' i) → onlyK l S k = onlyK l S' k := by
  intro k
  induction k with
  | zero => intro _; rfl
  | succ k ih =>
    intro h
    unfold onlyK
    rw [ih fun i hi => h i (by omega), h k (by omega)]
end Go.Proofs.Ytdkpmaahinbhlaa
/- What a game leaves of a list of bars has the same length whatever their order, and no more if there are fewer bars. Words on lists, of no program. No condition. -/
namespace Go.Proofs.Ytdkpmaahinbhlaa

/-- No set spans too many. -/
def IndL (P : Nat) (k c : Int) (E : List (Int × Int)) : Prop := ∀ m, badS E k c P m = false
theorem onlyK_cI (l : List (Int × Int)) (S : Nat → Bool) (m : Nat) : ∀ n, cntS (onlyK l S n) m = cI n (fun i => l.getD i (0, 0)) S m := by
  intro n
  induction n with
  | zero => rfl
  | succ n ih =>
    unfold onlyK cI
    rw [List.range_succ, List.countP_append, List.countP_cons, List.countP_nil]
    unfold cI at ih
    rw [← ih]
    cases S n
    · simp
    · simp only [if_true, Bool.true_and]
      rw [cntS_snoc]
      omega
theorem onlyK_size (l : List (Int × Int)) (S : Nat → Bool) : ∀ n, (onlyK l S n).length = szI n S := by
  intro n
  induction n with
  | zero => rfl
  | succ n ih =>
    unfold onlyK szI
    rw [List.range_succ, List.countP_append, List.countP_cons, List.countP_nil, List.length_append, ih]
    unfold szI
    cases S n <;> simp
theorem onlyK_cons (y : Int × Int) (l : List (Int × Int)) (S : Nat → Bool) : ∀ n, onlyK (y :: l) S (n + 1) = (if S 0 then [y] else []) ++ onlyK l (fun i => S (i + 1)) n := by
  intro n
  induction n with
  | zero => simp [onlyK]
  | succ n ih =>
    rw [onlyK, ih, List.append_assoc]
    congr 1
theorem sub_mask {E l : List (Int × Int)} (h : E.Sublist l) : ∃ S, onlyK l S l.length = E := by
  induction h with
  | slnil => exact ⟨fun _ => false, rfl⟩
  | cons y _ ih =>
    obtain ⟨S, hS⟩ := ih
    refine ⟨fun i => match i with | 0 => false | i + 1 => S i, ?_⟩
    rw [List.length_cons, onlyK_cons, hS]
    rfl
  | cons_cons y _ ih =>
    obtain ⟨S, hS⟩ := ih
    refine ⟨fun i => match i with | 0 => true | i + 1 => S i, ?_⟩
    rw [List.length_cons, onlyK_cons, hS]
    rfl
theorem onlyK_sub (l : List (Int × Int)) (S : Nat → Bool) : ∀ n, n ≤ l.length → (onlyK l S n).Sublist (l.take n) := by
  intro n
  induction n with
  | zero => intro _; exact List.nil_sublist _
  | succ n ih =>
    intro hn
    have e : l.take (n + 1) = l.take n ++ [l.getD n (0, 0)] := by
      rw [List.take_succ_eq_append_getElem (by omega)]
      simp [List.getD, List.getElem?_eq_getElem (show n < l.length by omega)]
    rw [onlyK, e]
    refine (ih (by omega)).append ?_
    cases S n
    · exact List.nil_sublist _
    · exact List.Sublist.refl _
theorem indL_I {P : Nat} {k c : Int} {l : List (Int × Int)} {S : Nat → Bool} {n : Nat} : IndL P k c (onlyK l S n) ↔ IndI P k c n (fun i => l.getD i (0, 0)) S := by
  constructor
  · intro h m hm
    have := h m
    rw [badS_not, onlyK_cI, wid_set] at this
    omega
  · intro h m
    rw [badS_not, onlyK_cI, wid_set]
    rintro ⟨h1, h2⟩
    have := h m h1
    omega
/-- What a game leaves: bars that are independent, and each other bar is one too many. -/
structure Greedy (P : Nat) (k c : Int) (l E : List (Int × Int)) (S : Nat → Bool) : Prop where
  only : onlyK l S l.length = E
  ind : IndL P k c E
  rest : ∀ i, i < l.length → S i = false → ∃ m, badS (E ++ [l.getD i (0, 0)]) k c P m = true
structure Bars (P : Nat) (l : List (Int × Int)) : Prop where
  bar : ∀ i, i < l.length → 0 ≤ (l.getD i (0, 0)).1 ∧ (l.getD i (0, 0)).1 < (l.getD i (0, 0)).2 ∧ (l.getD i (0, 0)).2 < (P : Int)
/-- No independent part is greater. -/
theorem Greedy.most {P : Nat} {k c : Int} {l E : List (Int × Int)} {S : Nat → Bool} (h : Greedy P k c l E S) (hb : Bars P l) (hk : 1 ≤ k) (hc : 0 ≤ c) (hc2 : c < 2 * k) {E' : List (Int × Int)} (hs : E'.Sublist l) (hi : IndL P k c E') : E'.length ≤ E.length := by
  obtain ⟨J, rfl⟩ := sub_mask hs
  have g : Grd P k c l.length (fun i => l.getD i (0, 0)) := ⟨hb.bar, hk, hc, hc2⟩
  rw [onlyK_size, ← h.only, onlyK_size]
  have hI : IndI P k c l.length (fun i => l.getD i (0, 0)) S := indL_I.1 (by rw [h.only]; exact h.ind)
  refine block_le g (indL_I.1 hi) _ S rfl hI fun j hj _ => ?_
  cases e : S j with
  | true => exact .inl e
  | false =>
    right
    obtain ⟨m, hm⟩ := h.rest j hj e
    have h0 := h.ind m
    rw [badS_iff, cntS_snoc, wid_set] at hm
    rw [badS_not, wid_set] at h0
    rw [← h.only, onlyK_cI] at hm h0
    cases b : bothB m (l.getD j (0, 0)) with
    | false =>
      rw [b] at hm
      simp only [Bool.false_eq_true, if_false, Nat.add_zero] at hm
      exact absurd hm h0
    | true =>
      refine ⟨m, ?_, b⟩
      rw [b, if_pos rfl] at hm
      have hw := kw_pos g.k1 g.c2 (g.two hj b)
      have hIm := hI m
      unfold TightI
      by_cases z : 0 < cI l.length (fun i => l.getD i (0, 0)) S m
      · have := hIm z
        omega
      · omega
theorem Greedy.sub {P : Nat} {k c : Int} {l E : List (Int × Int)} {S : Nat → Bool} (h : Greedy P k c l E S) : E.Sublist l := by
  have := onlyK_sub l S l.length (Nat.le_refl _)
  rwa [List.take_length, h.only] at this
theorem Greedy.mono {P : Nat} {k c : Int} {l l' E E' : List (Int × Int)} {S S' : Nat → Bool} (h : Greedy P k c l E S) (h' : Greedy P k c l' E' S') (hb : Bars P l) (hk : 1 ≤ k) (hc : 0 ≤ c) (hc2 : c < 2 * k) (hs : l'.Sublist l) : E'.length ≤ E.length :=
  h.most hb hk hc hc2 (h'.sub.trans hs) h'.ind
end Go.Proofs.Ytdkpmaahinbhlaa
/- The pebble game leaves a greatest part that the counts allow, so its rank asks not for the order of the bars. Words on lists, of no program. No condition. -/
namespace Go.Proofs.Ytdkpmaahinbhlaa

theorem PebS.push {P : Nat} {k : Int} {E : List (Int × Int)} {F T : List Int} (h : PebS P k E F T) {y : Int × Int} (hy : 0 ≤ y.1 ∧ y.1 < y.2 ∧ y.2 < (P : Int)) {t : Int} (ht : isEnd y t) (hf : 0 < F.getD t.toNat 0) :
    PebS P k (E ++ [y]) (F.set t.toNat (F.getD t.toNat 0 - 1)) (T ++ [t]) := by
  obtain ⟨h1, ⟨h2, h3, h4⟩, h5⟩ := h
  have htr : 0 ≤ t ∧ t < (P : Int) := by unfold isEnd at ht; omega
  have eE : (E ++ [y]).getD E.length (0, 0) = y := by simp [List.getD]
  have eT : (T ++ [t]).getD E.length 0 = t := by rw [← h2]; simp [List.getD]
  have lE : ∀ i, i < E.length → (E ++ [y]).getD i (0, 0) = E.getD i (0, 0) := fun i hi => by simp only [List.getD]; rw [List.getElem?_append_left hi]
  have lT : ∀ i, i < E.length → (T ++ [t]).getD i 0 = T.getD i 0 := fun i hi => by simp only [List.getD]; rw [List.getElem?_append_left (by omega)]
  refine ⟨by rw [List.length_set]; exact h1, ⟨by simp [h2], fun i hi => ?_, fun i hi => ?_⟩, fun v hv => ?_⟩
  · rw [List.length_append, List.length_cons, List.length_nil] at hi
    by_cases e : i = E.length
    · subst e
      rw [eE]
      exact hy
    · rw [lE i (by omega)]
      exact h3 i (by omega)
  · rw [List.length_append, List.length_cons, List.length_nil] at hi
    by_cases e : i = E.length
    · subst e
      rw [eE, eT]
      exact ht
    · rw [lE i (by omega), lT i (by omega)]
      exact h4 i (by omega)
  · have hc := h5 v hv
    rw [List.count_append, List.count_singleton]
    by_cases e : v = t.toNat
    · subst e
      have e1 : ((t.toNat : Nat) : Int) = t := by omega
      rw [set_getD_eq _ _ _ _ (by omega)]
      rw [e1] at hc ⊢
      have e4 : (t == t) = true := by simp
      rw [if_pos e4]
      constructor
      · omega
      · rw [Int.natCast_add]
        omega
    · rw [set_getD_ne _ _ _ _ _ e]
      have e4 : ¬ ((t == (v : Int)) = true) := by simp; omega
      rw [if_neg e4]
      exact hc
/-- The bar y between a and b. -/
def Between (y : Int × Int) (a b : Int) : Prop := (y.1 = a ∧ y.2 = b) ∨ (y.1 = b ∧ y.2 = a)
theorem PebS.barsE {P : Nat} {k : Int} {E : List (Int × Int)} {F T : List Int} (h : PebS P k E F T) : ∀ x ∈ E, 0 ≤ x.1 ∧ x.1 < x.2 ∧ x.2 < (P : Int) := by
  intro x hx
  obtain ⟨i, hi, rfl⟩ := List.getElem_of_mem hx
  have h1 := h.ends.bar i hi
  have e : E.getD i (0, 0) = E[i] := by simp [List.getD, List.getElem?_eq_getElem hi]
  rwa [e] at h1
theorem gathE_no {P : Nat} {k c : Int} {E : List (Int × Int)} {F T : List Int} (h : PebS P k E F T) (hP : P ≤ 8) {a b : Int} {y : Int × Int} (hy : 0 ≤ y.1 ∧ y.1 < y.2 ∧ y.2 < (P : Int)) (hab : Between y a b) (e : gathR E a b (c + 1) (F, T) = none) : ∃ m, badS (E ++ [y]) k c P m = true := by
  have hbars := h.barsE
  unfold Between at hab
  unfold gathR at e
  obtain ⟨s', q1, q2, q3, q4⟩ := gath_no (P := P) (k := k) (E := E) (a := a) (b := b) (want := c + 1) (by omega) (by omega) (by omega) _ (F, T) h (by omega) e
  obtain ⟨S, sa, sb, hk⟩ := full_span (F := s'.1) (T := s'.2) q1 hP (a := a) (b := b) (by omega) (by omega) (by omega) q3 q4
  obtain ⟨m, hm, hmS⟩ := mask_of S P
  refine ⟨m, badS_iff.2 ?_⟩
  rw [cntS_snoc]
  have hx : bothB m y = true := by
    unfold bothB
    rw [hmS _ (by omega), hmS _ (by omega)]
    rcases hab with ⟨u1, u2⟩ | ⟨u1, u2⟩
    · rw [u1, u2, sa, sb]; rfl
    · rw [u1, u2, sa, sb]; rfl
  rw [hx, if_pos rfl]
  rw [spanC_mask hmS hbars, outF_mask hmS] at hk
  omega
theorem gathE_yes {P : Nat} {k c : Int} {E : List (Int × Int)} {F T : List Int} (h : PebS P k E F T) {a b : Int} {y : Int × Int} (hy : 0 ≤ y.1 ∧ y.1 < y.2 ∧ y.2 < (P : Int)) (hab : Between y a b) {s : List Int × List Int} (e : gathR E a b (c + 1) (F, T) = some s)
    (hsp : IndL P k c E) : IndL P k c (E ++ [y]) := by
  unfold Between at hab
  obtain ⟨g1, g2⟩ := gathR_ok (P := P) (k := k) (by omega) (by omega) (by omega) h e
  intro m
  have hm := hsp m
  rw [badS_not] at hm ⊢
  rw [cntS_snoc]
  cases hx : bothB m y
  · simpa [hx] using hm
  · have hx' : m.testBit y.1.toNat = true ∧ m.testBit y.2.toNat = true := by
      unfold bothB at hx
      rwa [Bool.and_eq_true] at hx
    have hsum := g1.sum (fun v => m.testBit v)
    have hle := span_le (fun v => m.testBit v) E s.2 g1.ends.len g1.ends.tail
    have h2 := sumS_two (fun v => m.testBit v) (fun v => s.1.getD v 0) P y.1.toNat y.2.toNat (fun v hv => (g1.free v hv).1) (by omega) (by omega) (by omega) hx'.1 hx'.2
    have hc : E.countP (spanC fun v => m.testBit v) = cntS E m := rfl
    have ho : outF P (fun v => m.testBit v) = setL P m := rfl
    rw [hc] at hle
    rw [ho] at hsum
    have h3 : c + 1 ≤ s.1.getD y.1.toNat 0 + s.1.getD y.2.toNat 0 := by
      rcases hab with ⟨u1, u2⟩ | ⟨u1, u2⟩
      · rw [u1, u2]; exact g2
      · rw [u1, u2]; omega
    simp only [if_true]
    omega
/-- The state of a game after n bars, of a list that may be of any length. -/
structure GmI (P : Nat) (k c : Int) (l : List (Int × Int)) (n : Nat) (s : List Int × List Int × List Int) : Prop where
  st : PebS P k (plE l s.2.2) s.1 s.2.1
  zs : ∀ z ∈ s.2.2, 0 ≤ z ∧ z < (n : Int)
  only : onlyK l (inS s.2.2) n = plE l s.2.2
  ind : IndL P k c (plE l s.2.2)
  rest : ∀ i, i < n → inS s.2.2 i = false → ∃ m, badS (plE l s.2.2 ++ [l.getD i (0, 0)]) k c P m = true
theorem bad_more {P : Nat} {k c : Int} {E : List (Int × Int)} {x y : Int × Int} (h : ∃ m, badS (E ++ [x]) k c P m = true) : ∃ m, badS (E ++ [y] ++ [x]) k c P m = true := by
  obtain ⟨m, hm⟩ := h
  exact ⟨m, bad_sup ((List.sublist_append_left E [y]).append (List.Sublist.refl [x])) hm⟩
/-- A bar that is placed. -/
theorem plaE_push {P : Nat} {k c : Int} {l : List (Int × Int)} {F T Z : List Int} (h : PebS P k (plE l Z) F T) (hc : 0 ≤ c) {n : Nat} (hy : 0 ≤ (l.getD n (0, 0)).1 ∧ (l.getD n (0, 0)).1 < (l.getD n (0, 0)).2 ∧ (l.getD n (0, 0)).2 < (P : Int)) {s : List Int × List Int × List Int} (e : plaR l c F T Z (n : Int) = some s) :
    s.2.2 = Z ++ [(n : Int)] ∧ PebS P k (plE l Z ++ [l.getD n (0, 0)]) s.1 s.2.1 ∧ ∃ s1, gathR (plE l Z) (l.getD n (0, 0)).1 (l.getD n (0, 0)).2 (c + 1) (F, T) = some s1 := by
  unfold plaR at e
  rw [Int.toNat_natCast] at e
  obtain ⟨s1, h1, rfl⟩ := Option.map_eq_some_iff.1 e
  obtain ⟨g1, g2⟩ := gathR_ok (P := P) (k := k) (by omega) (by omega) (by omega) h h1
  split
  · exact ⟨rfl, g1.push hy (.inr rfl) (by omega), s1, h1⟩
  · rename_i h0
    have := g1.small (v := (l.getD n (0, 0)).1) (by omega)
    exact ⟨rfl, g1.push hy (.inl rfl) (by omega), s1, h1⟩
theorem runN_gm {P : Nat} {k c : Int} {l : List (Int × Int)} (hb : Bars P l) (hP : 1 ≤ P ∧ P ≤ 8) (hk : 1 ≤ k) (hc : 0 ≤ c) : ∀ n, n ≤ l.length → GmI P k c l n (runN P k c l n) := by
  intro n
  induction n with
  | zero =>
    intro _
    refine ⟨⟨by simp [runN], ⟨rfl, fun i hi => absurd hi (by simp [runN, plE]), fun i hi => absurd hi (by simp [runN, plE])⟩, fun v hv => ?_⟩, fun z hz => absurd hz (by simp [runN]), rfl, fun m => by rw [badS_not]; simp [runN, plE, cntS], fun i hi => by omega⟩
    simp [runN, List.getD, hv]
    omega
  | succ n ih =>
    intro hn
    have hi := ih (by omega)
    have hy := hb.bar n (by omega)
    unfold runN
    generalize runN P k c l n = s0 at *
    have hni : inS s0.2.2 n = false := decide_eq_false fun hm => by have := hi.zs _ hm; omega
    cases e : plaR l c s0.1 s0.2.1 s0.2.2 (n : Int) with
    | none =>
      simp only [Option.getD_none]
      have e2 : gathR (plE l s0.2.2) (l.getD n (0, 0)).1 (l.getD n (0, 0)).2 (c + 1) (s0.1, s0.2.1) = none := by
        unfold plaR at e
        rw [Int.toNat_natCast, Option.map_eq_none_iff] at e
        exact e
      refine ⟨hi.st, fun z hz => by have := hi.zs z hz; omega, ?_, hi.ind, fun i hin hiS => ?_⟩
      · unfold onlyK
        rw [hni, hi.only]
        simp
      · by_cases c1 : i = n
        · subst c1
          exact gathE_no hi.st hP.2 hy (.inl ⟨rfl, rfl⟩) e2
        · exact hi.rest i (by omega) hiS
    | some s =>
      simp only [Option.getD_some]
      obtain ⟨g1, g2, s1, g3⟩ := plaE_push hi.st hc hy e
      have hag : ∀ i, i < n → inS (s0.2.2 ++ [(n : Int)]) i = inS s0.2.2 i := fun i hi => by
        unfold inS
        have : ¬ (i : Int) = (n : Int) := by omega
        simp [this]
      have hin : inS (s0.2.2 ++ [(n : Int)]) n = true := decide_eq_true (by simp)
      have hE : plE l s.2.2 = plE l s0.2.2 ++ [l.getD n (0, 0)] := by rw [g1, plE_snoc, Int.toNat_natCast]
      refine ⟨by rw [hE]; exact g2, fun z hz => ?_, ?_, by rw [hE]; exact gathE_yes hi.st hy (.inl ⟨rfl, rfl⟩) g3 hi.ind, fun i hin' hiS => ?_⟩
      · rw [g1] at hz
        rcases List.mem_append.1 hz with h | h
        · have := hi.zs z h; omega
        · rw [List.mem_singleton] at h; omega
      · rw [hE, g1]
        unfold onlyK
        rw [hin, if_pos rfl, onlyK_agree l _ _ n hag, hi.only]
      · rw [hE]
        rw [g1] at hiS
        by_cases c1 : i = n
        · subst c1
          rw [hin] at hiS
          cases hiS
        · rw [hag i (by omega)] at hiS
          exact bad_more (hi.rest i (by omega) hiS)
/-- The rank of a list of bars. -/
def rk (P : Nat) (k c : Int) (l : List (Int × Int)) : Nat := (runN P k c l l.length).2.2.length
theorem rk_greedy {P : Nat} {k c : Int} {l : List (Int × Int)} (hb : Bars P l) (hP : 1 ≤ P ∧ P ≤ 8) (hk : 1 ≤ k) (hc : 0 ≤ c) : Greedy P k c l (plE l (runN P k c l l.length).2.2) (inS (runN P k c l l.length).2.2) := by
  have h := runN_gm hb hP hk hc l.length (Nat.le_refl _)
  exact ⟨h.only, h.ind, h.rest⟩
/-- Fewer bars, no more rank. -/
theorem rk_mono {P : Nat} {k c : Int} {l l' : List (Int × Int)} (hb : Bars P l) (hb' : Bars P l') (hP : 1 ≤ P ∧ P ≤ 8) (hk : 1 ≤ k) (hc : 0 ≤ c) (hc2 : c < 2 * k) (hs : l'.Sublist l) : rk P k c l' ≤ rk P k c l := by
  have := (rk_greedy hb hP hk hc).mono (rk_greedy hb' hP hk hc) hb hk hc hc2 hs
  rwa [plE_len, plE_len] at this
end Go.Proofs.Ytdkpmaahinbhlaa
/- Pieces of a graph by their least points: what some rounds of lowering leave, and that a list of bars is independent for 1 and 1 exactly if each of its bars joins two pieces. Words on lists, of no program. No condition. -/
namespace Go.Proofs.Ytdkpmaahinbhlaa

/-- The least points of the pieces. -/
structure RootR (E : List (Int × Int)) (r : Nat → Nat) : Prop where
  le : ∀ v, r v ≤ v
  bar : ∀ x ∈ E, r x.1.toNat = r x.2.toNat
  fac : ∀ f : Nat → Nat, (∀ x ∈ E, f x.1.toNat = f x.2.toNat) → ∀ v, f (r v) = f v
theorem RootR.same {E : List (Int × Int)} {r s : Nat → Nat} (h : RootR E r) (k : RootR E s) : r = s := by
  funext v
  have h1 := k.fac r h.bar v
  have h2 := h.fac s k.bar v
  have h3 := h.le (s v)
  have h4 := k.le (r v)
  omega
theorem RootR.nil : RootR [] (fun v => v) := ⟨fun _ => Nat.le_refl _, fun _ hx => (List.not_mem_nil hx).elim, fun _ _ _ => rfl⟩
end Go.Proofs.Ytdkpmaahinbhlaa
/- What IsForest answers, by ranks and by pieces. No program's walk. No condition. -/
namespace Go.Proofs.Ytdkpmaahinbhlaa
open Go.RowKit

theorem rk_full {P : Nat} {k c : Int} {l : List (Int × Int)} (hb : Bars P l) (hP : 1 ≤ P ∧ P ≤ 8) (hk : 1 ≤ k) (hc : 0 ≤ c) (hc2 : c < 2 * k) : rk P k c l = l.length ↔ IndL P k c l := by
  have h := rk_greedy hb hP hk hc
  have hs := h.sub
  constructor
  · intro e
    have el : (plE l (runN P k c l l.length).2.2).length = l.length := by rw [plE_len]; exact e
    have e2 := hs.eq_of_length el
    have hi := h.ind
    rwa [e2] at hi
  · intro hi
    have h1 := h.most hb hk hc hc2 (List.Sublist.refl _) hi
    have h2 := hs.length_le
    rw [plE_len] at h1 h2
    unfold rk
    omega
theorem filt_step (n : Nat) : ∀ zs : List Int, zs.Pairwise (· < ·) → zs.filter (fun y => decide (y < ((n + 1 : Nat) : Int))) = zs.filter (fun y => decide (y < (n : Int))) ++ if inS zs n then [(n : Int)] else [] := by
  intro zs
  induction zs with
  | nil => intro _; rfl
  | cons a t ih =>
    intro hp
    obtain ⟨h1, h2⟩ := List.pairwise_cons.1 hp
    have ih := ih h2
    by_cases c1 : a < (n : Int)
    · have e : inS (a :: t) n = inS t n := by
        unfold inS
        rw [decide_eq_decide, List.mem_cons]
        exact ⟨fun h => h.resolve_left (by omega), .inr⟩
      rw [List.filter_cons_of_pos (by simp; omega), List.filter_cons_of_pos (by simpa using c1), ih, e]
      rfl
    · have e0 : t.filter (fun y => decide (y < ((n + 1 : Nat) : Int))) = [] := List.filter_eq_nil_iff.2 fun y hy => by
        have := h1 y hy
        simp
        omega
      have e1 : t.filter (fun y => decide (y < (n : Int))) = [] := List.filter_eq_nil_iff.2 fun y hy => by
        have := h1 y hy
        simp
        omega
      by_cases c2 : a = (n : Int)
      · have e : inS (a :: t) n = true := decide_eq_true (by rw [c2]; simp)
        rw [List.filter_cons_of_pos (by simp; omega), List.filter_cons_of_neg (by simpa using c1), e0, e1, e, c2]
        rfl
      · have e : inS (a :: t) n = false := decide_eq_false fun h => by
          rcases List.mem_cons.1 h with h | h
          · exact c2 h.symm
          · have := h1 _ h
            omega
        rw [List.filter_cons_of_neg (by simp; omega), List.filter_cons_of_neg (by simpa using c1), e0, e1, e]
        rfl
theorem onlyK_asc (l : List (Int × Int)) (zs : List Int) (h0 : ∀ x, x ∈ zs → 0 ≤ x) (hp : zs.Pairwise (· < ·)) : ∀ n : Nat, onlyK l (inS zs) n = plE l (zs.filter fun y => decide (y < (n : Int))) := by
  intro n
  induction n with
  | zero =>
    have : zs.filter (fun y => decide (y < ((0 : Nat) : Int))) = [] := List.filter_eq_nil_iff.2 fun y hy => by
      have := h0 y hy
      simp
      omega
    rw [this]
    rfl
  | succ n ih =>
    rw [onlyK, ih, filt_step n zs hp]
    cases inS zs n
    · simp
    · simp only [if_true]
      rw [plE_snoc, Int.toNat_natCast]
theorem only_asc {p : Int} {l : List (Int × Int)} {zs : List Int} (h : setB p l zs = true) : onlyL l zs = plE l zs := by
  obtain ⟨h1, _⟩ := setB_is h
  obtain ⟨h3, h4⟩ := okS_pair h1
  unfold onlyL
  rw [onlyK_asc l zs (fun x hx => (h3 x hx).1) h4]
  congr 1
  exact List.filter_eq_self.2 fun y hy => by simpa using (h3 y hy).2
theorem isG_part {p : Int} {l E : List (Int × Int)} (h : IsG p l) (hs : E.Sublist l) : IsG p E := by
  refine isG_ofB h.1 (Nat.le_trans hs.length_le h.2.1) (fun x hx => ?_) ((isG_ord h).sublist hs)
  obtain ⟨j, hj, rfl⟩ := List.getElem_of_mem (hs.subset hx)
  have hb := h.2.2 j hj
  have e : l.getD j (0, 0) = l[j] := by simp [List.getD, List.getElem?_eq_getElem hj]
  unfold OkBar at hb
  rw [e] at hb
  exact ⟨hb.1, hb.2.1, hb.2.2.1⟩
theorem onlyL_sub (l : List (Int × Int)) (zs : List Int) : (onlyL l zs).Sublist l := by
  have := onlyK_sub l (inS zs) l.length (Nat.le_refl _)
  rwa [List.take_length] at this
theorem rankSV_rk {p k c : Int} {l : List (Int × Int)} {zs : List Int} (hG : IsG p l) (hk : 1 ≤ k ∧ k ≤ 3) (hr : rangeB k c = true) : rankSV p k c l zs = (rk p.toNat k c (onlyL l zs) : Int) := by
  obtain ⟨P, rfl⟩ : ∃ P : Nat, p = (P : Int) := ⟨p.toNat, by have := hG.1; omega⟩
  have hG2 := isG_part hG (onlyL_sub l zs)
  have hnew : newB (P : Int) k (onlyL l zs) = true := by
    unfold newB
    rw [isGB_yes hG2, decide_eq_true hk.1, decide_eq_true hk.2]
    rfl
  have hrun : runB (P : Int) k c (onlyL l zs) = true := by unfold runB; rw [hnew, hr]; rfl
  unfold rankSV rankV rk
  rw [isGB_yes hG, if_pos rfl, if_pos hrun, (runV_yes hnew hr).2, Int.toNat_natCast]
end Go.Proofs.Ytdkpmaahinbhlaa
/- What BridgesOf answers: the bars without which the rank is less; that the rank is never more without a bar. No program's walk. No condition. -/
namespace Go.Proofs.Ytdkpmaahinbhlaa
open Go.RowKit

/-- The first n numbers. -/
def allN (n : Nat) : List Int := (List.range n).map fun (i : Nat) => (i : Int)
theorem allN_succ (n : Nat) : allN (n + 1) = allN n ++ [(n : Int)] := by simp [allN, List.range_succ]
theorem allN_len (n : Nat) : (allN n).length = n := by simp [allN]
theorem allN_mem (n : Nat) (x : Int) : x ∈ allN n ↔ 0 ≤ x ∧ x < (n : Int) := by
  unfold allN
  simp only [List.mem_map, List.mem_range]
  constructor
  · rintro ⟨j, h, rfl⟩; omega
  · intro h; exact ⟨x.toNat, by omega, by omega⟩
theorem allN_get (n j : Nat) (h : j < n) : (allN n).getD j 0 = (j : Int) := by
  simp [allN, List.getD, h]
theorem take_snoc (l : List (Int × Int)) (n : Nat) (h : n < l.length) : l.take (n + 1) = l.take n ++ [l.getD n (0, 0)] := by
  rw [List.take_succ_eq_append_getElem h]
  simp [List.getD, List.getElem?_eq_getElem h]
theorem onlyK_all (l : List (Int × Int)) (S : Nat → Bool) : ∀ n, n ≤ l.length → (∀ i, i < n → S i = true) → onlyK l S n = l.take n := by
  intro n
  induction n with
  | zero => intro _ _; rfl
  | succ n ih =>
    intro hn h
    unfold onlyK
    rw [ih (by omega) (fun i hi => h i (by omega)), h n (by omega), take_snoc l n (by omega)]
    rfl
theorem onlyK_but (l : List (Int × Int)) (S : Nat → Bool) (i : Nat) (hi : i < l.length) (h0 : S i = false) : ∀ n, i + 1 ≤ n → n ≤ l.length → (∀ j, j < n → j ≠ i → S j = true) → onlyK l S n = l.take i ++ (l.drop (i + 1)).take (n - (i + 1)) := by
  intro n
  induction n with
  | zero => intro h; omega
  | succ n ih =>
    intro h1 h2 h
    unfold onlyK
    by_cases e : n = i
    · subst e
      rw [onlyK_all l S n (by omega) (fun j hj => h j (by omega) (by omega)), h0]
      simp
    · rw [ih (by omega) (by omega) (fun j hj hj2 => h j (by omega) hj2), h n (by omega) e, List.append_assoc, if_pos rfl]
      congr 1
      rw [show n + 1 - (i + 1) = (n - (i + 1)) + 1 by omega, take_snoc _ _ (by rw [List.length_drop]; omega)]
      congr 2
      simp only [List.getD, List.getElem?_drop]
      rw [show i + 1 + (n - (i + 1)) = n by omega]
/-- The bars without bar number i. -/
def dropB (l : List (Int × Int)) (i : Nat) : List (Int × Int) := l.take i ++ l.drop (i + 1)
theorem dropB_sub (l : List (Int × Int)) (i : Nat) : (dropB l i).Sublist l := by
  unfold dropB
  have h : (l.take i ++ l.drop (i + 1)).Sublist (l.take i ++ l.drop i) := (List.Sublist.refl _).append (List.drop_sublist_drop_left l (by omega))
  rwa [List.take_append_drop] at h
theorem only_all (l : List (Int × Int)) : onlyL l (allN l.length) = l := by
  unfold onlyL
  rw [onlyK_all l (inS (allN l.length)) l.length (Nat.le_refl _) (fun i hi => decide_eq_true ((allN_mem _ _).2 ⟨by omega, by omega⟩)), List.take_length]
theorem only_but (l : List (Int × Int)) (i : Nat) (hi : i < l.length) : onlyL l ((allN l.length).filter fun y => !decide (y = (i : Int))) = dropB l i := by
  unfold onlyL dropB
  rw [onlyK_but l (inS ((allN l.length).filter fun y => !decide (y = (i : Int)))) i hi (decide_eq_false (by simp)) l.length (by omega) (Nat.le_refl _) (fun j hj hji => decide_eq_true (by
    rw [List.mem_filter]
    exact ⟨(allN_mem _ _).2 ⟨by omega, by omega⟩, by simp; omega⟩))]
  congr 1
  rw [List.take_of_length_le (by rw [List.length_drop]; omega)]
theorem rem_drop {p : Int} {l : List (Int × Int)} {i : Nat} (hg : isGB p l = true) (hi : i < l.length) : remL p (i : Int) l = dropB l i := by
  unfold remL
  have : remR p (i : Int) l = true := by
    unfold remR
    rw [hg, decide_eq_true (show (0 : Int) ≤ (i : Int) by omega), decide_eq_true (show (i : Int) < (l.length : Int) by omega)]
    rfl
  rw [if_pos this, Int.toNat_natCast]
  rfl
theorem bars_of {P : Nat} {l : List (Int × Int)} (hG : IsG (P : Int) l) : Bars P l := ⟨fun i hi => by have := hG.2.2 i hi; unfold OkBar at this; exact ⟨this.1, this.2.1, this.2.2.1⟩⟩
theorem bars_sub {P : Nat} {l l' : List (Int × Int)} (hb : Bars P l) (hs : l'.Sublist l) : Bars P l' := by
  refine ⟨fun i hi => ?_⟩
  have e : l'.getD i (0, 0) = l'[i] := by simp [List.getD, List.getElem?_eq_getElem hi]
  rw [e]
  obtain ⟨j, hj, ej⟩ := List.getElem_of_mem (hs.subset (List.getElem_mem hi))
  have h := hb.bar j hj
  have e2 : l.getD j (0, 0) = l[j] := by simp [List.getD, List.getElem?_eq_getElem hj]
  rw [e2, ej] at h
  exact h
theorem runB_is {p k c : Int} {l : List (Int × Int)} (h : runB p k c l = true) : newB p k l = true ∧ rangeB k c = true := by
  unfold runB at h
  rwa [Bool.and_eq_true] at h
theorem rankV_rk {P : Nat} {k c : Int} {l : List (Int × Int)} (h : runB (P : Int) k c l = true) : rankV (P : Int) k c l = (rk P k c l : Int) := by
  unfold rankV rk
  rw [if_pos h, (runV_yes (runB_is h).1 (runB_is h).2).2]
theorem isG_drop {p : Int} {l : List (Int × Int)} (h : IsG p l) (i : Nat) : IsG p (dropB l i) := by
  have hs := dropB_sub l i
  refine isG_ofB h.1 (Nat.le_trans hs.length_le h.2.1) (fun x hx => ?_) ((isG_ord h).sublist hs)
  obtain ⟨j, hj, rfl⟩ := List.getElem_of_mem (hs.subset hx)
  have hb := h.2.2 j hj
  have e : l.getD j (0, 0) = l[j] := by simp [List.getD, List.getElem?_eq_getElem hj]
  unfold OkBar at hb
  rw [e] at hb
  exact ⟨hb.1, hb.2.1, hb.2.2.1⟩
theorem runB_drop {p k c : Int} {l : List (Int × Int)} (h : runB p k c l = true) (i : Nat) : runB p k c (dropB l i) = true := by
  obtain ⟨h1, h2⟩ := runB_is h
  obtain ⟨h3, h4⟩ := newB_is h1
  unfold runB newB
  rw [isGB_yes (isG_drop h3 i), h2, decide_eq_true h4.1, decide_eq_true h4.2]
  rfl
/-- Without a bar the rank is no more. -/
theorem rank_drop {p k c : Int} {l : List (Int × Int)} (h : runB p k c l = true) (i : Nat) : rankV p k c (dropB l i) ≤ rankV p k c l := by
  have hd := runB_drop h i
  obtain ⟨h1, h2⟩ := runB_is h
  have hG := (newB_is h1).1
  obtain ⟨P, rfl⟩ : ∃ P : Nat, p = (P : Int) := ⟨p.toNat, by have := hG.1; omega⟩
  have hr := rangeB_is h2
  rw [rankV_rk h, rankV_rk hd]
  have := rk_mono (bars_of hG) (bars_sub (bars_of hG) (dropB_sub l i)) (by have := hG.1; omega) hr.1.1 hr.2.1 hr.2.2 (dropB_sub l i)
  omega
/-- Does the rank without bar y stay? -/
noncomputable def stayB (p k c : Int) (l : List (Int × Int)) (y : Int) : Bool := decide (rankSV p k c l ((allN l.length).filter fun z => !decide (z = y)) = rankV p k c l)
noncomputable def briK (p k c : Int) (l : List (Int × Int)) (n : Nat) : List Int := (allN n).filter fun y => !stayB p k c l y
/-- What BridgesOf answers. -/
noncomputable def briV (p k c : Int) (l : List (Int × Int)) : List Int := if runB p k c l = true then briK p k c l l.length else []
theorem briK_len (p k c : Int) (l : List (Int × Int)) (n : Nat) : (briK p k c l n).length ≤ n := Nat.le_trans (List.length_filter_le _ _) (Nat.le_of_eq (allN_len n))
theorem briV_len (p k c : Int) (l : List (Int × Int)) : (briV p k c l).length ≤ l.length := by
  unfold briV
  split
  · exact briK_len _ _ _ _ _
  · simp
theorem briV_no {p k c : Int} {l : List (Int × Int)} (h : runB p k c l = false) : briV p k c l = [] := by unfold briV; rw [h]; rfl
theorem briV_yes {p k c : Int} {l : List (Int × Int)} (h : runB p k c l = true) : briV p k c l = briK p k c l l.length := by unfold briV; rw [if_pos h]
theorem briK_in {p k c : Int} {l : List (Int × Int)} {n : Nat} (h : stayB p k c l (n : Int) = false) : briK p k c l (n + 1) = briK p k c l n ++ [(n : Int)] := by
  unfold briK
  rw [allN_succ, List.filter_append]
  simp [h]
theorem briK_out {p k c : Int} {l : List (Int × Int)} {n : Nat} (h : stayB p k c l (n : Int) = true) : briK p k c l (n + 1) = briK p k c l n := by
  unfold briK
  rw [allN_succ, List.filter_append]
  simp [h]
structure BriF (p k c : Int) (l : List (Int × Int)) : Prop where
  val : briV p k c l = briK p k c l l.length
  set : setB p l (allN l.length) = true
  rng : rangeB k c = true
  l24 : l.length ≤ 24
  rank : rankSV p k c l (allN l.length) = rankV p k c l
  pos : 0 ≤ rankV p k c l
  drop : ∀ i, i < l.length → remR p (i : Int) l = true ∧ decide (rankV p k c (remL p (i : Int) l) < rankV p k c l) = !stayB p k c l (i : Int)
theorem briF {p k c : Int} {l : List (Int × Int)} (h : runB p k c l = true) : BriF p k c l := by
  obtain ⟨h1, h2⟩ := runB_is h
  have hG := (newB_is h1).1
  have hset : setB p l (allN l.length) = true := by
    refine (setB_all (okS_of (fun y hy => (allN_mem _ _).1 hy) ?_)).trans (isGB_yes hG)
    unfold allN
    rw [List.pairwise_map]
    exact (List.pairwise_lt_range).imp fun {a b} hab => by omega
  refine ⟨briV_yes h, hset, h2, hG.2.1, ?_, ?_, fun i hi => ⟨(rem_yes (isGB_yes hG) hi).1, ?_⟩⟩
  · unfold rankSV
    rw [isGB_yes hG, if_pos rfl, only_all]
  · unfold rankV
    rw [if_pos h]
    omega
  · rw [rem_drop (isGB_yes hG) hi]
    have hle := rank_drop h i
    unfold stayB rankSV
    rw [isGB_yes hG, if_pos rfl, only_but l i hi]
    by_cases e : rankV p k c (dropB l i) = rankV p k c l
    · rw [decide_eq_true e, decide_eq_false (by omega)]; rfl
    · rw [decide_eq_false e, decide_eq_true (by omega)]; rfl
end Go.Proofs.Ytdkpmaahinbhlaa
/- Bars as a matroid: the greatest independent part of a set of bars, what a basis blocks, closures, circuits. Words on sets of indices, of no program. No condition. -/
namespace Go.Proofs.Ytdkpmaahinbhlaa

/-- S takes no index that T doesn't. -/
def SubI (n : Nat) (S T : Nat → Bool) : Prop := ∀ i, i < n → S i = true → T i = true
/-- S and index j. -/
def addI (S : Nat → Bool) (j : Nat) (i : Nat) : Bool := if i = j then true else S i
theorem szI_sub {n : Nat} {S T : Nat → Bool} (h : SubI n S T) : szI n S ≤ szI n T :=
  List.countP_mono_left fun i hi hS => h i (List.mem_range.1 hi) hS
theorem cI_sub {n : Nat} {x : Nat → Int × Int} {S T : Nat → Bool} (h : SubI n S T) (m : Nat) : cI n x S m ≤ cI n x T m :=
  List.countP_mono_left fun i hi hS => by
    rw [Bool.and_eq_true] at hS ⊢
    exact ⟨h i (List.mem_range.1 hi) hS.1, hS.2⟩
theorem szI_add {n : Nat} {S : Nat → Bool} {j : Nat} (hj : j < n) (h : S j = false) : szI n (addI S j) = szI n S + 1 := by
  have e := cntR_add (addI S j) (fun _ => false) S (fun i => decide (i = j)) n fun i _ => by
    unfold addI
    by_cases c : i = j
    · subst c; simp [h]
    · simp [c]
  rw [cntR_one, if_pos hj, cntR_zero] at e
  exact e
theorem cI_add {n : Nat} {x : Nat → Int × Int} {S : Nat → Bool} {j : Nat} (hj : j < n) (h : S j = false) (m : Nat) : cI n x (addI S j) m = cI n x S m + if bothB m (x j) = true then 1 else 0 := by
  unfold cI
  have e := cntR_add (fun i => addI S j i && bothB m (x i)) (fun _ => false) (fun i => S i && bothB m (x i)) (fun i => decide (i = j) && bothB m (x j)) n fun i _ => by
    unfold addI
    by_cases c : i = j
    · subst c; simp [h]
    · simp [c]
  rw [cntR_zero] at e
  cases b : bothB m (x j) with
  | true =>
    rw [b] at e
    simp only [Bool.and_true] at e
    rw [cntR_one, if_pos hj] at e
    rw [if_pos rfl]
    omega
  | false =>
    rw [b] at e
    simp only [Bool.and_false] at e
    rw [cntR_zero] at e
    simp only [Bool.false_eq_true, if_false]
    omega
theorem IndI.sub {P : Nat} {k c : Int} {n : Nat} {x : Nat → Int × Int} {S T : Nat → Bool} (h : IndI P k c n x T) (hs : SubI n S T) : IndI P k c n x S := by
  intro m hm
  have h1 := cI_sub (x := x) hs m
  have h2 := h m (by omega)
  omega
/-- A bar that is not blocked can be put in. -/
theorem IndI.add {P : Nat} {k c : Int} {n : Nat} {x : Nat → Int × Int} (g : Grd P k c n x) {I : Nat → Bool} (h : IndI P k c n x I) {j : Nat} (hj : j < n) (hb : ¬ BlockI P k c n x I j) : I j = false ∧ IndI P k c n x (addI I j) := by
  have h0 : I j = false := by
    cases e : I j with
    | false => rfl
    | true => exact absurd (.inl e) hb
  refine ⟨h0, fun m hm => ?_⟩
  rw [cI_add hj h0] at hm ⊢
  cases b : bothB m (x j) with
  | false =>
    rw [b] at hm
    simp only [Bool.false_eq_true, if_false, Nat.add_zero] at hm ⊢
    exact h m hm
  | true =>
    rw [if_pos rfl]
    have hw := kw_pos g.k1 g.c2 (g.two hj b)
    have ht : ¬ TightI P k c n x I m := fun t => hb (.inr ⟨m, t, b⟩)
    unfold TightI at ht
    by_cases z : 0 < cI n x I m
    · have := h m z
      omega
    · omega
/-- What a part blocks is blocked by the whole, if that is independent. -/
theorem BlockI.up {P : Nat} {k c : Int} {n : Nat} {x : Nat → Int × Int} (g : Grd P k c n x) {I J : Nat → Bool} (hJ : IndI P k c n x J) (hs : SubI n I J) {j : Nat} (hj : j < n) (h : BlockI P k c n x I j) : BlockI P k c n x J j := by
  rcases h with h | ⟨m, ht, hb⟩
  · exact .inl (hs j hj h)
  · refine .inr ⟨m, ?_, hb⟩
    have hw := kw_pos g.k1 g.c2 (g.two hj hb)
    have h1 := cI_sub (x := x) hs m
    unfold TightI at ht ⊢
    have h2 := hJ m (by omega)
    omega
/-- I is a basis of S: independent, within S, and it blocks all of S. -/
structure Bas (P : Nat) (k c : Int) (n : Nat) (x : Nat → Int × Int) (S I : Nat → Bool) : Prop where
  sub : SubI n I S
  ind : IndI P k c n x I
  all : ∀ j, j < n → S j = true → BlockI P k c n x I j
/-- Each independent part lies in a basis. -/
theorem bas_up {P : Nat} {k c : Int} {n : Nat} {x : Nat → Int × Int} (g : Grd P k c n x) {S : Nat → Bool} : ∀ d (I : Nat → Bool), szI n S - szI n I ≤ d → SubI n I S → IndI P k c n x I → ∃ J, SubI n I J ∧ Bas P k c n x S J := by
  intro d
  induction d with
  | zero =>
    intro I hd hs hi
    refine ⟨I, fun _ _ h => h, hs, hi, fun j hj hS => ?_⟩
    by_cases hb : BlockI P k c n x I j
    · exact hb
    · obtain ⟨h0, h1⟩ := hi.add g hj hb
      have h2 : SubI n (addI I j) S := fun i hi' e => by
        unfold addI at e
        split at e
        · rename_i q; rw [q]; exact hS
        · exact hs i hi' e
      have h3 := szI_sub h2
      rw [szI_add hj h0] at h3
      omega
  | succ d ih =>
    intro I hd hs hi
    by_cases hall : ∀ j, j < n → S j = true → BlockI P k c n x I j
    · exact ⟨I, fun _ _ h => h, hs, hi, hall⟩
    · obtain ⟨j, hj⟩ := Classical.not_forall.1 hall
      rw [Classical.not_imp, Classical.not_imp] at hj
      obtain ⟨hj, hS, hb⟩ := hj
      obtain ⟨h0, h1⟩ := hi.add g hj hb
      have h2 : SubI n (addI I j) S := fun i hi' e => by
        unfold addI at e
        split at e
        · rename_i q; rw [q]; exact hS
        · exact hs i hi' e
      have h3 := szI_sub h2
      rw [szI_add hj h0] at h3
      obtain ⟨J, q1, q2⟩ := ih (addI I j) (by rw [szI_add hj h0]; omega) h2 h1
      refine ⟨J, fun i hi' e => q1 i hi' ?_, q2⟩
      unfold addI
      split
      · rfl
      · exact e
/-- No independent part is greater than a basis. -/
theorem Bas.most {P : Nat} {k c : Int} {n : Nat} {x : Nat → Int × Int} (g : Grd P k c n x) {S I J : Nat → Bool} (h : Bas P k c n x S I) (hJ : IndI P k c n x J) (hs : ∀ j, j < n → J j = true → BlockI P k c n x I j) : szI n J ≤ szI n I :=
  block_le g hJ _ I rfl h.ind hs
/-- An independent part that is as great as a basis is one. -/
theorem Bas.of {P : Nat} {k c : Int} {n : Nat} {x : Nat → Int × Int} (g : Grd P k c n x) {S I J : Nat → Bool} (h : Bas P k c n x S I) (hs : SubI n J S) (hJ : IndI P k c n x J) (hz : szI n I ≤ szI n J) : Bas P k c n x S J := by
  refine ⟨hs, hJ, fun j hj hS => ?_⟩
  by_cases hb : BlockI P k c n x J j
  · exact hb
  · obtain ⟨h0, h1⟩ := hJ.add g hj hb
    have h2 := h.most g h1 fun i hi e => h.all i hi (by
      unfold addI at e
      split at e
      · rename_i q; rw [q]; exact hS
      · exact hs i hi e)
    rw [szI_add hj h0] at h2
    omega
theorem onlyK_eq (l : List (Int × Int)) (S T : Nat → Bool) : ∀ n, (∀ j, j < n → S j = T j) → onlyK l S n = onlyK l T n := by
  intro n
  induction n with
  | zero => intro _; rfl
  | succ n ih =>
    intro h
    unfold onlyK
    rw [ih (fun j hj => h j (by omega)), h n (by omega)]
theorem onlyK_part (l : List (Int × Int)) {m : Nat} {S T : Nat → Bool} (h : SubI m S T) : ∀ n, n ≤ m → (onlyK l S n).Sublist (onlyK l T n) := by
  intro n
  induction n with
  | zero => intro _; exact List.Sublist.refl _
  | succ n ih =>
    intro hn
    unfold onlyK
    refine (ih (by omega)).append ?_
    cases e : S n with
    | false => simp
    | true => rw [h n (by omega) e]; exact List.Sublist.refl _
theorem bars_below {P : Nat} {l l' : List (Int × Int)} (hb : Bars P l) (hs : l'.Sublist l) : Bars P l' := by
  refine ⟨fun i hi => ?_⟩
  have e : l'.getD i (0, 0) = l'[i] := by simp [List.getD, List.getElem?_eq_getElem hi]
  rw [e]
  obtain ⟨j, hj, ej⟩ := List.getElem_of_mem (hs.subset (List.getElem_mem hi))
  have h := hb.bar j hj
  have e2 : l.getD j (0, 0) = l[j] := by simp [List.getD, List.getElem?_eq_getElem hj]
  rw [e2, ej] at h
  exact h
/-- A sublist of the bars that S takes is what a part of S takes. -/
theorem sub_part (l : List (Int × Int)) (S : Nat → Bool) : ∀ n E, E.Sublist (onlyK l S n) → ∃ I, (∀ i, I i = true → i < n ∧ S i = true) ∧ onlyK l I n = E := by
  intro n
  induction n with
  | zero =>
    intro E h
    exact ⟨fun _ => false, (fun _ e => by cases e), (List.sublist_nil.1 h).symm⟩
  | succ n ih =>
    intro E h
    unfold onlyK at h
    obtain ⟨E1, E2, rfl, h1, h2⟩ := List.sublist_append_iff.1 h
    obtain ⟨I, hI, rfl⟩ := ih E1 h1
    have hlow : ∀ b, onlyK l (fun i => if i = n then b else I i) n = onlyK l I n := fun b => onlyK_eq l _ _ n fun j hj => by rw [if_neg (by omega)]
    have hmore : ∀ b, (b = true → S n = true) → ∀ i, (if i = n then b else I i) = true → i < n + 1 ∧ S i = true := fun b hb i q => by
      by_cases c : i = n
      · rw [if_pos c] at q
        rw [c]; exact ⟨by omega, hb q⟩
      · rw [if_neg c] at q
        exact ⟨by have := (hI i q).1; omega, (hI i q).2⟩
    have hval : ∀ b, onlyK l (fun i => if i = n then b else I i) (n + 1) = onlyK l I n ++ if b = true then [l.getD n (0, 0)] else [] := fun b => by
      rw [onlyK, hlow, if_pos rfl]
    cases e : S n with
    | false =>
      rw [e] at h2
      simp only [Bool.false_eq_true, if_false] at h2
      rw [List.sublist_nil.1 h2]
      exact ⟨_, hmore false (fun q => by cases q), hval false⟩
    | true =>
      rw [e, if_pos rfl] at h2
      cases E2 with
      | nil => exact ⟨_, hmore false (fun q => by cases q), hval false⟩
      | cons y r =>
        rw [h2.eq_of_length (by have := h2.length_le; simp at this ⊢; exact this)]
        exact ⟨_, hmore true (fun _ => e), hval true⟩
/-- The rank of the bars that S takes is the size of a basis. -/
theorem rk_bas {P : Nat} {k c : Int} {l : List (Int × Int)} (hb : Bars P l) (hP : 1 ≤ P ∧ P ≤ 8) (hk : 1 ≤ k) (hc : 0 ≤ c) (hc2 : c < 2 * k) (S : Nat → Bool) : ∃ I, Bas P k c l.length (fun i => l.getD i (0, 0)) S I ∧ rk P k c (onlyK l S l.length) = szI l.length I := by
  have g : Grd P k c l.length (fun i => l.getD i (0, 0)) := ⟨hb.bar, hk, hc, hc2⟩
  have hb' : Bars P (onlyK l S l.length) := bars_below hb (by have := onlyK_sub l S l.length (Nat.le_refl _); rwa [List.take_length] at this)
  have hg := rk_greedy hb' hP hk hc
  obtain ⟨I, hI, hE⟩ := sub_part l S l.length _ hg.sub
  have hlen : rk P k c (onlyK l S l.length) = szI l.length I := by
    have := onlyK_size l I l.length
    rw [hE, plE_len] at this
    exact this
  have hind : IndI P k c l.length (fun i => l.getD i (0, 0)) I := indL_I.1 (by rw [hE]; exact hg.ind)
  obtain ⟨J, h1, h2⟩ := bas_up g _ I (Nat.le_refl _) (fun i _ e => (hI i e).2) hind
  have hJs : (onlyK l J l.length).Sublist (onlyK l S l.length) := onlyK_part l h2.sub l.length (Nat.le_refl _)
  have hm := hg.most hb' hk hc hc2 hJs (indL_I.2 h2.ind)
  rw [onlyK_size, plE_len] at hm
  have hIJ := szI_sub h1
  have e : szI l.length I = szI l.length J := by
    have : (runN P k c (onlyK l S l.length) (onlyK l S l.length).length).2.2.length = szI l.length I := hlen
    omega
  exact ⟨I, h2.of g (fun i _ q => (hI i q).2) hind (by omega), hlen⟩
end Go.Proofs.Ytdkpmaahinbhlaa
/- That closures are closed, that circuits are the least dependent sets, and that no bar of a circuit is a bridge: of the values that chapter 5 answers. No program's walk. No condition. -/
namespace Go.Proofs.Ytdkpmaahinbhlaa
open Go.RowKit

/-- A graph and a range of numbers that chapter 5 takes. -/
structure MtdS (P : Nat) (k c : Int) (l : List (Int × Int)) : Prop where
  g : IsG (P : Int) l
  r : rangeB k c = true
theorem MtdS.b {P : Nat} {k c : Int} {l : List (Int × Int)} (h : MtdS P k c l) : Bars P l := bars_of h.g
theorem MtdS.p {P : Nat} {k c : Int} {l : List (Int × Int)} (h : MtdS P k c l) : 1 ≤ P ∧ P ≤ 8 := by have := h.g.1; omega
theorem MtdS.k1 {P : Nat} {k c : Int} {l : List (Int × Int)} (h : MtdS P k c l) : 1 ≤ k := (rangeB_is h.r).1.1
theorem MtdS.c0 {P : Nat} {k c : Int} {l : List (Int × Int)} (h : MtdS P k c l) : 0 ≤ c := (rangeB_is h.r).2.1
theorem MtdS.c2 {P : Nat} {k c : Int} {l : List (Int × Int)} (h : MtdS P k c l) : c < 2 * k := (rangeB_is h.r).2.2
theorem MtdS.grd {P : Nat} {k c : Int} {l : List (Int × Int)} (h : MtdS P k c l) : Grd P k c l.length (fun i => l.getD i (0, 0)) := ⟨h.b.bar, h.k1, h.c0, h.c2⟩
/-- The rank of a set is the size of each of its bases. -/
theorem MtdS.rank {P : Nat} {k c : Int} {l : List (Int × Int)} (h : MtdS P k c l) {zs : List Int} {I : Nat → Bool} (hI : Bas P k c l.length (fun i => l.getD i (0, 0)) (inS zs) I) : rankSV (P : Int) k c l zs = (szI l.length I : Int) := by
  rw [rankSV_rk h.g (rangeB_is h.r).1 h.r, Int.toNat_natCast]
  obtain ⟨J, hJ, e⟩ := rk_bas h.b h.p h.k1 h.c0 h.c2 (inS zs)
  have h1 := hI.most h.grd hJ.ind fun j hj q => hI.all j hj (hJ.sub j hj q)
  have h2 := hJ.most h.grd hI.ind fun j hj q => hJ.all j hj (hI.sub j hj q)
  unfold onlyL
  rw [e]
  omega
theorem MtdS.bas {P : Nat} {k c : Int} {l : List (Int × Int)} (h : MtdS P k c l) (zs : List Int) : ∃ I, Bas P k c l.length (fun i => l.getD i (0, 0)) (inS zs) I := by
  obtain ⟨J, hJ, _⟩ := rk_bas h.b h.p h.k1 h.c0 h.c2 (inS zs)
  exact ⟨J, hJ⟩
/-- More bars have the same rank exactly if a basis blocks them. -/
theorem MtdS.same {P : Nat} {k c : Int} {l : List (Int × Int)} (h : MtdS P k c l) {zs ys : List Int} (hs : SubI l.length (inS zs) (inS ys)) {I : Nat → Bool} (hI : Bas P k c l.length (fun i => l.getD i (0, 0)) (inS zs) I) :
    rankSV (P : Int) k c l ys = rankSV (P : Int) k c l zs ↔ ∀ j, j < l.length → inS ys j = true → BlockI P k c l.length (fun i => l.getD i (0, 0)) I j := by
  obtain ⟨J, hJ⟩ := h.bas ys
  have hIy : SubI l.length I (inS ys) := fun i hi q => hs i hi (hI.sub i hi q)
  rw [h.rank hI, h.rank hJ]
  constructor
  · intro e j hj q
    exact (hJ.of h.grd hIy hI.ind (by omega)).all j hj q
  · intro hall
    have h1 := hI.most h.grd hJ.ind fun j hj q => hall j hj (hJ.sub j hj q)
    have h2 := hJ.most h.grd hI.ind fun j hj q => hJ.all j hj (hIy j hj q)
    omega
theorem inS_mem {zs : List Int} {j : Nat} : inS zs j = true ↔ (j : Int) ∈ zs := by unfold inS; exact decide_eq_true_iff
theorem cloK_mem {p k c : Int} {l : List (Int × Int)} {zs : List Int} {r : Int} {j : Nat} : ∀ n, (j : Int) ∈ cloK p k c l zs r n ↔ j < n ∧ rankSV p k c l (zs ++ [(j : Int)]) = r := by
  intro n
  induction n with
  | zero => simp [cloK]
  | succ n ih =>
    by_cases e : rankSV p k c l (zs ++ [(n : Int)]) = r
    · rw [cloK_in e, List.mem_append, ih, List.mem_singleton]
      constructor
      · rintro (⟨q1, q2⟩ | q)
        · exact ⟨by omega, q2⟩
        · obtain rfl : j = n := by omega
          exact ⟨by omega, e⟩
      · rintro ⟨q1, q2⟩
        by_cases c : j = n
        · exact .inr (by rw [c])
        · exact .inl ⟨by omega, q2⟩
    · rw [cloK_out e, ih]
      constructor
      · rintro ⟨q1, q2⟩
        exact ⟨by omega, q2⟩
      · rintro ⟨q1, q2⟩
        refine ⟨?_, q2⟩
        by_cases c : j = n
        · subst c; exact absurd q2 e
        · omega
theorem cloK_set {p k c : Int} {l : List (Int × Int)} {zs : List Int} {r : Int} : ∀ n, (∀ y ∈ cloK p k c l zs r n, 0 ≤ y ∧ y < (n : Int)) ∧ (cloK p k c l zs r n).Pairwise (· < ·) := by
  intro n
  induction n with
  | zero => exact ⟨by simp [cloK], by simp [cloK]⟩
  | succ n ih =>
    by_cases e : rankSV p k c l (zs ++ [(n : Int)]) = r
    · rw [cloK_in e]
      refine ⟨fun y hy => ?_, List.pairwise_append.2 ⟨ih.2, by simp, fun a ha b hb => ?_⟩⟩
      · rcases List.mem_append.1 hy with q | q
        · have := ih.1 y q; omega
        · rw [List.mem_singleton.1 q]; omega
      · rw [List.mem_singleton.1 hb]; exact (ih.1 a ha).2
    · rw [cloK_out e]
      exact ⟨fun y hy => by have := ih.1 y hy; omega, ih.2⟩
theorem cloK_eq {p k c : Int} {l : List (Int × Int)} {zs ys : List Int} {r s : Int} : ∀ n, (∀ j : Nat, j < n → (rankSV p k c l (zs ++ [(j : Int)]) = r ↔ rankSV p k c l (ys ++ [(j : Int)]) = s)) → cloK p k c l zs r n = cloK p k c l ys s n := by
  intro n
  induction n with
  | zero => intro _; rfl
  | succ n ih =>
    intro h
    have h0 := h n (by omega)
    by_cases e : rankSV p k c l (zs ++ [(n : Int)]) = r
    · rw [cloK_in e, cloK_in (h0.1 e), ih fun j hj => h j (by omega)]
    · rw [cloK_out e, cloK_out (fun q => e (h0.2 q)), ih fun j hj => h j (by omega)]
/-- A bar leaves the rank exactly if a basis blocks it. -/
theorem MtdS.one {P : Nat} {k c : Int} {l : List (Int × Int)} (h : MtdS P k c l) {zs : List Int} {I : Nat → Bool} (hI : Bas P k c l.length (fun i => l.getD i (0, 0)) (inS zs) I) {j : Nat} (hj : j < l.length) :
    rankSV (P : Int) k c l (zs ++ [(j : Int)]) = rankSV (P : Int) k c l zs ↔ BlockI P k c l.length (fun i => l.getD i (0, 0)) I j := by
  rw [h.same (ys := zs ++ [(j : Int)]) (fun i _ q => inS_mem.2 (List.mem_append_left _ (inS_mem.1 q))) hI]
  constructor
  · exact fun q => q j hj (inS_mem.2 (List.mem_append_right _ (List.mem_singleton.2 rfl)))
  · intro q i hi hm
    rcases List.mem_append.1 (inS_mem.1 hm) with e | e
    · exact hI.all i hi (inS_mem.2 e)
    · obtain rfl : i = j := by have := List.mem_singleton.1 e; omega
      exact q
/-- Closures are closed, and have the rank of what they close. -/
theorem clo_law {p k c : Int} {l : List (Int × Int)} {zs : List Int} (h : 0 < (cloV p k c l zs).length) :
    setB p l (cloV p k c l zs) = true ∧ setB p l zs = true ∧ rangeB k c = true ∧ cloV p k c l (cloV p k c l zs) = cloV p k c l zs ∧ rankSV p k c l (cloV p k c l zs) = rankSV p k c l zs := by
  have hs : setB p l zs = true := by
    cases e : setB p l zs with
    | true => rfl
    | false => rw [cloV_no (.inl e)] at h; exact absurd h (by simp)
  have hr : rangeB k c = true := by
    cases e : rangeB k c with
    | true => rfl
    | false => rw [cloV_no (.inr e)] at h; exact absurd h (by simp)
  clear h
  have hG := (setB_is hs).2
  obtain ⟨P, rfl⟩ : ∃ P : Nat, p = (P : Int) := ⟨p.toNat, by have := hG.1; omega⟩
  have h : MtdS P k c l := ⟨hG, hr⟩
  rw [cloV_yes hs hr]
  obtain ⟨I, hI⟩ := h.bas zs
  have hmem : ∀ j : Nat, j < l.length → (inS (cloK (P : Int) k c l zs (rankSV (P : Int) k c l zs) l.length) j = true ↔ BlockI P k c l.length (fun i => l.getD i (0, 0)) I j) := fun j hj => by
    rw [inS_mem, cloK_mem, h.one hI hj]
    exact ⟨fun q => q.2, fun q => ⟨hj, q⟩⟩
  obtain ⟨C, hC⟩ : ∃ C, cloK (P : Int) k c l zs (rankSV (P : Int) k c l zs) l.length = C := ⟨_, rfl⟩
  have hset := cloK_set (p := (P : Int)) (k := k) (c := c) (l := l) (zs := zs) (r := rankSV (P : Int) k c l zs) l.length
  have hsC : setB (P : Int) l C = true := by
    rw [← hC]
    exact (setB_all (okS_of hset.1 hset.2)).trans (isGB_yes hG)
  rw [hC] at hmem
  have hsub : SubI l.length (inS zs) (inS C) := fun j hj q => (hmem j hj).2 (hI.all j hj q)
  have hIC : Bas P k c l.length (fun i => l.getD i (0, 0)) (inS C) I := ⟨fun j hj q => hsub j hj (hI.sub j hj q), hI.ind, fun j hj q => (hmem j hj).1 q⟩
  have hrk : rankSV (P : Int) k c l C = rankSV (P : Int) k c l zs := (h.same hsub hI).2 fun j hj q => (hmem j hj).1 q
  rw [hC]
  refine ⟨hsC, hs, hr, ?_, hrk⟩
  rw [cloV_yes hsC hr, ← hC]
  refine cloK_eq _ fun j hj => ?_
  rw [hC, h.one hIC hj, h.one hI hj]
/-- IsIndependent, as a set of indices. -/
theorem MtdS.indB {P : Nat} {k c : Int} {l : List (Int × Int)} (h : MtdS P k c l) {zs : List Int} (hs : setB (P : Int) l zs = true) : indB (P : Int) k c l zs = true ↔ IndI P k c l.length (fun i => l.getD i (0, 0)) (inS zs) := by
  rw [indB_yes hs h.r, decide_eq_true_iff, rankSV_rk h.g (rangeB_is h.r).1 h.r, Int.toNat_natCast]
  have e1 : zs.length = (onlyL l zs).length := by rw [only_asc hs, plE_len]
  have e2 := rk_full (bars_below h.b (onlyL_sub l zs)) h.p h.k1 h.c0 h.c2
  rw [e1]
  rw [← indL_I]
  unfold onlyL at e2 ⊢
  rw [← e2]
  omega
theorem setB_sub {p : Int} {l : List (Int × Int)} {zs ys : List Int} (h : setB p l zs = true) (hs : ys.Sublist zs) : setB p l ys = true := by
  obtain ⟨h1, hG⟩ := setB_is h
  obtain ⟨h3, h4⟩ := okS_pair h1
  exact (setB_all (okS_of (fun y hy => h3 y (hs.subset hy)) (h4.sublist hs))).trans (isGB_yes hG)
theorem woL_mem {zs : List Int} {x y : Int} : y ∈ woL zs x ↔ y ∈ zs ∧ y ≠ x := by
  unfold woL
  rw [List.mem_filter]
  simp
/-- The bars accepted among the first n are those of the whole game below n. -/
theorem run_below {P : Nat} {k c : Int} {l : List (Int × Int)} (h : MtdS P k c l) {n : Nat} : ∀ d, n + d ≤ l.length → befL (runN P k c l (n + d)).2.2 (n : Int) = (runN P k c l n).2.2 := by
  intro d
  induction d with
  | zero =>
    intro hn
    have hg := runN_gm h.b h.p h.k1 h.c0 n (by omega)
    unfold befL
    rw [Nat.add_zero]
    exact List.filter_eq_self.2 fun y hy => by simpa using (hg.zs y hy).2
  | succ d ih =>
    intro hn
    have ih := ih (by omega)
    have hg := runN_gm h.b h.p h.k1 h.c0 (n + d) (by omega)
    rw [← Nat.add_assoc, runN]
    cases e : plaR l c (runN P k c l (n + d)).1 (runN P k c l (n + d)).2.1 (runN P k c l (n + d)).2.2 ((n + d : Nat) : Int) with
    | none => exact ih
    | some s =>
      have h1 := (plaE_push hg.st h.c0 (h.b.bar (n + d) (by omega)) e).1
      rw [Option.getD_some, h1, ← ih]
      unfold befL
      rw [List.filter_append]
      simp
      omega
end Go.Proofs.Ytdkpmaahinbhlaa
/- That what CircuitOf answers is a circuit, has its bar, and that none of its bars is a bridge. No program's walk. No condition. -/
namespace Go.Proofs.Ytdkpmaahinbhlaa
open Go.RowKit

theorem rejK_out_of {Z : List Int} {x : Int} : ∀ n, x ∈ rejK Z n → x ∉ Z := by
  intro n
  induction n with
  | zero => intro h; cases h
  | succ n ih =>
    intro h
    unfold rejK at h
    split at h
    · exact ih h
    · rename_i q
      rcases List.mem_append.1 h with h | h
      · exact ih h
      · rw [List.mem_singleton.1 h]; exact q
/-- What is known of a circuit as it is found. -/
structure MtdC (P : Nat) (k c : Int) (l : List (Int × Int)) (n : Nat) : Prop where
  s : MtdS P k c l
  run : runB (P : Int) k c l = true
  low : n < l.length
  val : ciV (P : Int) k c l (n : Int) = (befV (P : Int) k c l (n : Int)).filter (fun y => indB (P : Int) k c l (woL (befV (P : Int) k c l (n : Int) ++ [(n : Int)]) y)) ++ [(n : Int)]
  set : setB (P : Int) l (befV (P : Int) k c l (n : Int) ++ [(n : Int)]) = true
  bef : ∀ y ∈ befV (P : Int) k c l (n : Int), y < (n : Int)
  ind : IndI P k c l.length (fun i => l.getD i (0, 0)) (inS (befV (P : Int) k c l (n : Int)))
  blk : BlockI P k c l.length (fun i => l.getD i (0, 0)) (inS (befV (P : Int) k c l (n : Int))) n
theorem mtdC {p k c : Int} {l : List (Int × Int)} {x : Int} (h : ciB p k c l x = true) : ∃ P n : Nat, p = (P : Int) ∧ x = (n : Int) ∧ MtdC P k c l n := by
  have hx : x ∈ rejV p k c l := by unfold ciB at h; exact of_decide_eq_true h
  have hrun : runB p k c l = true := by
    cases e : runB p k c l with
    | true => rfl
    | false => rw [rejV_no e] at hx; cases hx
  obtain ⟨hnew, hrng⟩ := runB_is hrun
  have hG := (newB_is hnew).1
  obtain ⟨P, rfl⟩ : ∃ P : Nat, p = (P : Int) := ⟨p.toNat, by have := hG.1; omega⟩
  have f := ciF h
  rw [rejV_yes hrun] at hx
  have hout := rejK_out_of _ hx
  obtain ⟨n, hn, rfl⟩ := rejK_mem _ hx
  have hs : MtdS P k c l := ⟨hG, hrng⟩
  have hv := (runV_yes hnew hrng).2
  have hg := runN_gm hs.b hs.p hs.k1 hs.c0 n (by omega)
  have hg1 := runN_gm hs.b hs.p hs.k1 hs.c0 (n + 1) (by omega)
  have hbel := run_below hs (n := n) (l.length - n) (by omega)
  have hbel1 := run_below hs (n := n + 1) (l.length - (n + 1)) (by omega)
  rw [show n + (l.length - n) = l.length by omega] at hbel
  rw [show n + 1 + (l.length - (n + 1)) = l.length by omega] at hbel1
  have hbef : befV (P : Int) k c l (n : Int) = (runN P k c l n).2.2 := by unfold befV; rw [hv, hbel]
  rw [hv] at hout
  have hZ1 : (runN P k c l (n + 1)).2.2 = (runN P k c l n).2.2 := by
    rw [← hbel1, ← hbel]
    unfold befL
    refine List.filter_congr fun y hy => decide_eq_decide.2 ?_
    have : y ≠ (n : Int) := fun e => hout (by rw [← e]; exact hy)
    omega
  have hset := setB_sub f.set (List.sublist_append_left _ _)
  have hpl : onlyK l (inS (befV (P : Int) k c l (n : Int))) l.length = plE l (runN P k c l n).2.2 := by
    have := only_asc hset
    unfold onlyL at this
    rw [this, hbef]
  have hind : IndI P k c l.length (fun i => l.getD i (0, 0)) (inS (befV (P : Int) k c l (n : Int))) := indL_I.1 (by rw [hpl]; exact hg.ind)
  refine ⟨P, n, rfl, rfl, hs, hrun, hn, ?_, f.set, f.low, hind, ?_⟩
  · rw [f.val]
    unfold ciK
    rw [List.take_length]
  · obtain ⟨m, hm⟩ := hg1.rest n (by omega) (by
      unfold inS
      refine decide_eq_false fun q => ?_
      rw [hZ1] at q
      have := (hg.zs _ q).2
      omega)
    rw [hZ1] at hm
    have h0 := hg.ind m
    rw [badS_iff, cntS_snoc, wid_set] at hm
    rw [badS_not, wid_set] at h0
    rw [← hpl, onlyK_cI] at hm h0
    right
    cases b : bothB m (l.getD n (0, 0)) with
    | false =>
      rw [b] at hm
      simp only [Bool.false_eq_true, if_false, Nat.add_zero] at hm
      exact absurd hm h0
    | true =>
      refine ⟨m, ?_, b⟩
      rw [b, if_pos rfl] at hm
      have hw := kw_pos hs.grd.k1 hs.grd.c2 (hs.grd.two hn b)
      have hIm := hind m
      unfold TightI
      by_cases z : 0 < cI l.length (fun i => l.getD i (0, 0)) (inS (befV (P : Int) k c l (n : Int))) m
      · have := hIm z
        omega
      · omega
/-- The circuit is dependent, and independent without any of its bars. -/
theorem MtdC.cir {P : Nat} {k c : Int} {l : List (Int × Int)} {n : Nat} (h : MtdC P k c l n) :
    setB (P : Int) l (ciV (P : Int) k c l (n : Int)) = true ∧ (n : Int) ∈ ciV (P : Int) k c l (n : Int) ∧
    ¬ IndI P k c l.length (fun i => l.getD i (0, 0)) (inS (ciV (P : Int) k c l (n : Int))) ∧
    ∀ y ∈ ciV (P : Int) k c l (n : Int), IndI P k c l.length (fun i => l.getD i (0, 0)) (inS (woL (ciV (P : Int) k c l (n : Int)) y)) := by
  have hs := h.s
  have g := hs.grd
  have hval := h.val
  have hset := h.set
  have hbef := h.bef
  have hind := h.ind
  have hblk := h.blk
  generalize befV (P : Int) k c l (n : Int) = B at *
  generalize ciV (P : Int) k c l (n : Int) = C at *
  have hsub : C.Sublist (B ++ [(n : Int)]) := by rw [hval]; exact List.filter_sublist.append (List.Sublist.refl _)
  have hlow := h.low
  have hsC := setB_sub hset hsub
  have hn : (n : Int) ∈ C := by rw [hval]; simp
  have hnB : inS B n = false := by
    unfold inS
    exact decide_eq_false fun q => by have := hbef _ q; omega
  have hD : ∀ j, inS (B ++ [(n : Int)]) j = addI (inS B) n j := fun j => by
    unfold addI
    by_cases e : j = n
    · rw [if_pos e]
      exact inS_mem.2 (List.mem_append_right _ (by rw [e]; exact List.mem_singleton.2 rfl))
    · rw [if_neg e]
      unfold inS
      refine decide_eq_decide.2 ?_
      rw [List.mem_append, List.mem_singleton]
      exact ⟨fun q => q.resolve_right (by omega), .inl⟩
  have hD' : inS (B ++ [(n : Int)]) = addI (inS B) n := funext hD
  have hBD : SubI l.length (inS B) (inS (B ++ [(n : Int)])) := fun j _ q => inS_mem.2 (List.mem_append_left _ (inS_mem.1 q))
  have hbas : Bas P k c l.length (fun i => l.getD i (0, 0)) (inS (B ++ [(n : Int)])) (inS B) := by
    refine ⟨hBD, hind, fun j hj q => ?_⟩
    rw [hD j] at q
    unfold addI at q
    split at q
    · rename_i e; rw [e]; exact hblk
    · exact .inl q
  have hBl : szI l.length (inS B) = B.length := by
    have := only_asc (setB_sub hset (List.sublist_append_left B [(n : Int)]))
    unfold onlyL at this
    rw [← onlyK_size l, this, plE_len]
  have hwo : ∀ y ∈ B, setB (P : Int) l (woL (B ++ [(n : Int)]) y) = true := fun y _ => setB_wo hset y
  refine ⟨hsC, hn, fun hC => ?_, fun y hy => ?_⟩
  · have hCD : SubI l.length (inS C) (inS (B ++ [(n : Int)])) := fun j _ q => inS_mem.2 (hsub.subset (inS_mem.1 q))
    obtain ⟨J, h1, h2⟩ := bas_up g _ (inS C) (Nat.le_refl _) hCD hC
    have e1 := hbas.most g h2.ind fun j hj q => hbas.all j hj (h2.sub j hj q)
    have e2 := h2.most g hind fun j hj q => h2.all j hj (hBD j hj q)
    have e3 : szI l.length (inS (B ++ [(n : Int)])) = szI l.length (inS B) + 1 := by rw [hD', szI_add hlow hnB]
    by_cases hall : SubI l.length (inS (B ++ [(n : Int)])) J
    · have := szI_sub hall
      omega
    · unfold SubI at hall
      obtain ⟨j, hj⟩ := Classical.not_forall.1 hall
      rw [Classical.not_imp, Classical.not_imp] at hj
      obtain ⟨hj, q1, q2⟩ := hj
      have hJn : J n = true := h1 n hlow (inS_mem.2 hn)
      have hjn : j ≠ n := fun e => q2 (by rw [e]; exact hJn)
      have hjB : (j : Int) ∈ B := by
        rcases List.mem_append.1 (inS_mem.1 q1) with e | e
        · exact e
        · exact absurd (List.mem_singleton.1 e) (by omega)
      have hJw : SubI l.length J (inS (woL (B ++ [(n : Int)]) (j : Int))) := fun i hi q => inS_mem.2 (woL_mem.2 ⟨inS_mem.1 (h2.sub i hi q), fun e => q2 (by rw [show j = i by omega]; exact q)⟩)
      obtain ⟨I, hI⟩ := hs.bas (woL (B ++ [(n : Int)]) (j : Int))
      have e4 := hI.most g h2.ind fun i hi q => hI.all i hi (hJw i hi q)
      have e5 := hs.rank hI
      have e6 := rankSV_le (P : Int) k c l (woL (B ++ [(n : Int)]) (j : Int))
      have e7 := setB_len hset (x := (j : Int)) (List.mem_append_left _ hjB)
      rw [List.length_append, List.length_singleton] at e7
      have hi : indB (P : Int) k c l (woL (B ++ [(n : Int)]) (j : Int)) = true := by
        rw [indB_yes (setB_wo hset _) hs.r, decide_eq_true_iff]
        omega
      have hjC : (j : Int) ∈ C := by
        rw [hval]
        exact List.mem_append_left _ (List.mem_filter.2 ⟨hjB, hi⟩)
      exact q2 (h1 j hj (inS_mem.2 hjC))
  · rw [hval] at hy
    rcases List.mem_append.1 hy with q | q
    · obtain ⟨q1, q2⟩ := List.mem_filter.1 q
      have := (hs.indB (hwo y q1)).1 q2
      refine this.sub fun j _ e => inS_mem.2 (woL_mem.2 ?_)
      have e := woL_mem.1 (inS_mem.1 e)
      exact ⟨hsub.subset e.1, e.2⟩
    · rw [List.mem_singleton.1 q]
      refine hind.sub fun j _ e => inS_mem.2 ?_
      have e := woL_mem.1 (inS_mem.1 e)
      exact (List.mem_append.1 (hsub.subset e.1)).resolve_right fun q => e.2 (List.mem_singleton.1 q)
/-- A bar of the circuit is blocked by the others. -/
theorem MtdC.blk_by {P : Nat} {k c : Int} {l : List (Int × Int)} {n : Nat} (h : MtdC P k c l n) {j : Nat} (hj : j < l.length) (hm : (j : Int) ∈ ciV (P : Int) k c l (n : Int)) :
    BlockI P k c l.length (fun i => l.getD i (0, 0)) (inS (woL (ciV (P : Int) k c l (n : Int)) (j : Int))) j := by
  obtain ⟨_, _, h3, h4⟩ := h.cir
  by_cases hb : BlockI P k c l.length (fun i => l.getD i (0, 0)) (inS (woL (ciV (P : Int) k c l (n : Int)) (j : Int))) j
  · exact hb
  · obtain ⟨_, h6⟩ := (h4 _ hm).add h.s.grd hj hb
    refine absurd (h6.sub fun i _ q => ?_) h3
    unfold addI
    split
    · rfl
    · exact inS_mem.2 (woL_mem.2 ⟨inS_mem.1 q, by omega⟩)
/-- The law's questions on a circuit. -/
theorem cir_law {p k c : Int} {l : List (Int × Int)} {x : Int} (hc : ciB p k c l x = true) :
    cirB p k c l (ciV p k c l x) = true ∧ x ∈ ciV p k c l x ∧ ∀ y ∈ ciV p k c l x, y ∉ briV p k c l := by
  obtain ⟨P, n, rfl, rfl, h⟩ := mtdC hc
  obtain ⟨h1, h2, h3, h4⟩ := h.cir
  refine ⟨cirB_yes h1 h.s.r ?_ fun j hj => ?_, h2, fun y hy hb => ?_⟩
  · cases e : indB (P : Int) k c l (ciV (P : Int) k c l (n : Int)) with
    | false => rfl
    | true => exact absurd ((h.s.indB h1).1 e) h3
  · have hm : (ciV (P : Int) k c l (n : Int)).getD j 0 ∈ ciV (P : Int) k c l (n : Int) := by
      rw [List.getD_eq_getElem?_getD, List.getElem?_eq_getElem hj, Option.getD_some]; exact List.getElem_mem hj
    exact (h.s.indB (setB_wo h1 _)).2 (h4 _ hm)
  · have hf := briF h.run
    obtain ⟨q1, _⟩ := okS_pair (setB_is h1).1
    obtain ⟨j, rfl⟩ : ∃ j : Nat, y = (j : Int) := ⟨y.toNat, by have := (q1 y hy).1; omega⟩
    have hj : j < l.length := by have := (q1 _ hy).2; omega
    have hblk := h.blk_by hj hy
    have hW : (allN l.length).filter (fun z => !decide (z = (j : Int))) = woL (allN l.length) (j : Int) := rfl
    have hsub : SubI l.length (inS (woL (ciV (P : Int) k c l (n : Int)) (j : Int))) (inS (woL (allN l.length) (j : Int))) := fun i hi q =>
      inS_mem.2 (woL_mem.2 ⟨(allN_mem _ _).2 ⟨by omega, by omega⟩, (woL_mem.1 (inS_mem.1 q)).2⟩)
    obtain ⟨I, e1, e2⟩ := bas_up h.s.grd _ _ (Nat.le_refl _) hsub (h4 _ hy)
    have hall : rankSV (P : Int) k c l (allN l.length) = rankSV (P : Int) k c l (woL (allN l.length) (j : Int)) :=
      (h.s.same (fun i hi q => inS_mem.2 (woL_mem.1 (inS_mem.1 q)).1) e2).2 fun i hi _ => by
        by_cases e : i = j
        · rw [e]; exact hblk.up h.s.grd e2.ind e1 hj
        · exact e2.all i hi (inS_mem.2 (woL_mem.2 ⟨(allN_mem _ _).2 ⟨by omega, by omega⟩, by omega⟩))
    have hst : stayB (P : Int) k c l (j : Int) = true := by
      unfold stayB
      rw [hW, ← hall, hf.rank]
      exact decide_eq_true rfl
    rw [hf.val] at hb
    unfold briK at hb
    have := (List.mem_filter.1 hb).2
    rw [hst] at this
    cases this
end Go.Proofs.Ytdkpmaahinbhlaa
/- What impl.NewPebbles answers: the two other rows are nil. No condition. -/
namespace Go.Proofs.Ytdkpmaahinbhlaa
open Go.RowKit

/-- A new state and a bool: the free pebbles in a row of the call's own, the other rows nil. -/
def NewOB (w : World) (F : List Int) (r : Bool) (e : Ending) (w' : World) : Prop :=
  ∃ (AF : Option Addr) (cF a b : Nat), e = .returned (.tuple #[pebV AF F.length cF none 0 0 none 0 0, .bool r]) ∧ OwnInts w' a b AF cF F ∧ w.heap.size ≤ a ∧ b ≤ w'.heap.size ∧ Below w.heap.size w w'

set_option maxHeartbeats 2000000 in
set_option maxRecDepth 100000 in
theorem implNewN (p k : Int) (l : List (Int × Int)) (A : Option Addr) (cap : Nat) (w : World) (hl : BarsAt w w.heap.size A l) (hn : l.length ≤ 1048576) :
    Calls Try.prog 36 #[.agg #[.int .i64 p, .slice A l.length cap], .int .i64 k] w (NewOB w (newF p k l) (newB p k l)) := by
  have HISG : ∀ W : World, BarsAt W W.heap.size A l → Calls Try.prog 130 #[.agg #[.int .i64 p, .slice A l.length cap]] W fun e w' => e = .returned (.bool (isGB p l)) ∧ Below W.heap.size W w' := fun W h => implIsGraph p l A cap W h hn
  by_cases hbad : isGB p l = false ∨ k < 1 ∨ 3 < k
  · have HR := Lib.hid (new_no hbad)
    rcases hg : isGB p l with _ | _
    · skip
      rw [hg] at HISG
      clear hbad
      have W0 := Lib.hid (Below.refl w.heap.size w)
      have HB_0 := Lib.hid (bars_in hl)
      clear hl
      have Z1 := Lib.hid (within_alloc w (.cells #[.int .i64 p, (.slice A l.length cap)] 26)).size
      have W1 := Lib.hid (within_on W0.out (within_alloc w (.cells #[.int .i64 p, (.slice A l.length cap)] 26)) W0.out.size (.inr (Nat.le_refl _)))
      have HB_1 := Lib.hid (HB_0.out.within (within_alloc w (.cells #[.int .i64 p, (.slice A l.length cap)] 26)) (by omega))
      have Y1 := Lib.hid (show (w.alloc (.cells #[.int .i64 p, (.slice A l.length cap)] 26)).heap.size = w.heap.size + 1 by simp)
      have hnew := box_new w p (.slice A l.length cap) 26
      have BX_1 := Lib.hid hnew
      clear hnew
      have Z2 := Lib.hid (within_alloc (w.alloc (.cells #[.int .i64 p, (.slice A l.length cap)] 26)) (.cells #[(.slice none 0 0), (.slice none 0 0), (.slice none 0 0)] 31)).size
      have W2 := Lib.hid (within_on W1.out (within_alloc (w.alloc (.cells #[.int .i64 p, (.slice A l.length cap)] 26)) (.cells #[(.slice none 0 0), (.slice none 0 0), (.slice none 0 0)] 31)) W1.out.size (.inr (Nat.le_refl _)))
      have HB_2 := Lib.hid (HB_1.out.within (within_alloc (w.alloc (.cells #[.int .i64 p, (.slice A l.length cap)] 26)) (.cells #[(.slice none 0 0), (.slice none 0 0), (.slice none 0 0)] 31)) (by omega))
      have BX_2 := Lib.hid (BX_1.out.within (within_alloc (w.alloc (.cells #[.int .i64 p, (.slice A l.length cap)] 26)) (.cells #[(.slice none 0 0), (.slice none 0 0), (.slice none 0 0)] 31)) (by omega))
      have Y2 := Lib.hid (show ((w.alloc (.cells #[.int .i64 p, (.slice A l.length cap)] 26)).alloc (.cells #[(.slice none 0 0), (.slice none 0 0), (.slice none 0 0)] 31)).heap.size = (w.alloc (.cells #[.int .i64 p, (.slice A l.length cap)] 26)).heap.size + 1 by simp)
      have hnew := cel3_new (w.alloc (.cells #[.int .i64 p, (.slice A l.length cap)] 26)) (.slice none 0 0) (.slice none 0 0) (.slice none 0 0) 31
      rw [show (w.alloc (.cells #[.int .i64 p, (.slice A l.length cap)] 26)).heap.size = w.heap.size + 1 by simp] at hnew
      have GR_2 := Lib.hid hnew
      clear hnew
      go_enter Try.func36, Try.ntmps36
      obtain ⟨g0_0, g0_1, g0_2⟩ := BX_2.out
      go_wp2_with fail
      clear g0_0 g0_1 g0_2
      generalize ((w.alloc (.cells #[.int .i64 p, (.slice A l.length cap)] 26)).alloc (.cells #[(.slice none 0 0), (.slice none 0 0), (.slice none 0 0)] 31)) = w2 at *
      generalize (w.alloc (.cells #[.int .i64 p, (.slice A l.length cap)] 26)) = w1 at *
      refine (HISG _ HB_2.out.at).mono ?_
      rintro e w3 ⟨rfl, hb⟩
      have Z3 := Lib.hid (within_of hb).size
      have W3 := Lib.hid (within_on W2.out (within_of hb) W2.out.size (.inr (Nat.le_refl _)))
      have HB_3 := Lib.hid (HB_2.out.within (within_of hb) (by omega))
      have BX_3 := Lib.hid (BX_2.out.within (within_of hb) (by omega))
      have GR_3 := Lib.hid (GR_2.out.within (within_of hb) (by omega))
      clear hb HISG
      obtain ⟨g1_0, g1_1, g1_2, g1_3, g1_4, g1_5⟩ := GR_3.out.cells
      have Z4 := Lib.hid ((ret3 GR_3.out (.slice none 0 0) (.slice none 0 0) (.slice none 0 0)).2).size
      have W4 := Lib.hid (within_on W3.out ((ret3 GR_3.out (.slice none 0 0) (.slice none 0 0) (.slice none 0 0)).2) W3.out.size (by have := Z1.out; have := Z2.out; have := Z3.out; have := Z4.out; have := Y1.out; have := Y2.out; omega))
      have HB_4 := Lib.hid (HB_3.out.within ((ret3 GR_3.out (.slice none 0 0) (.slice none 0 0) (.slice none 0 0)).2) (by have := Z1.out; have := Z2.out; have := Z3.out; have := Z4.out; have := Y1.out; have := Y2.out; omega))
      have BX_4 := Lib.hid (BX_3.out.within ((ret3 GR_3.out (.slice none 0 0) (.slice none 0 0) (.slice none 0 0)).2) (by have := Z1.out; have := Z2.out; have := Z3.out; have := Z4.out; have := Y1.out; have := Y2.out; omega))
      have GR_4 := Lib.hid ((ret3 GR_3.out (.slice none 0 0) (.slice none 0 0) (.slice none 0 0)).1)
      obtain ⟨g2_0, g2_1, g2_2, g2_3, g2_4, g2_5⟩ := GR_4.out.cells
      go_wp2_with fail
      generalize (((w3.setCell ⟨w.heap.size + 1, 0, none⟩ (.slice none 0 0)).setCell ⟨w.heap.size + 1, 1, none⟩ (.slice none 0 0)).setCell ⟨w.heap.size + 1, 2, none⟩ (.slice none 0 0)) = w4 at *
      refine bodyPost_ret (v := .tuple #[pebV none 0 0 none 0 0 none 0 0, .bool false]) ?_ rfl ?_
      · simp [results, Try.results36, go_sem, g2_0, g2_1, g2_2]
      · rw [HR.out.1, HR.out.2]
        exact ⟨none, 0, _, _, rfl, ⟨Nat.le_refl _, .inl rfl⟩, W4.out.size, Nat.le_refl _, W4.out⟩
    · skip
      rw [hg] at HISG
      have hk : (k < 1) ∨ (¬ k < 1 ∧ 3 < k) := by simp only [hg] at hbad; simp at hbad; omega
      clear hbad
      have W0 := Lib.hid (Below.refl w.heap.size w)
      have HB_0 := Lib.hid (bars_in hl)
      clear hl
      have Z1 := Lib.hid (within_alloc w (.cells #[.int .i64 p, (.slice A l.length cap)] 26)).size
      have W1 := Lib.hid (within_on W0.out (within_alloc w (.cells #[.int .i64 p, (.slice A l.length cap)] 26)) W0.out.size (.inr (Nat.le_refl _)))
      have HB_1 := Lib.hid (HB_0.out.within (within_alloc w (.cells #[.int .i64 p, (.slice A l.length cap)] 26)) (by omega))
      have Y1 := Lib.hid (show (w.alloc (.cells #[.int .i64 p, (.slice A l.length cap)] 26)).heap.size = w.heap.size + 1 by simp)
      have hnew := box_new w p (.slice A l.length cap) 26
      have BX_1 := Lib.hid hnew
      clear hnew
      have Z2 := Lib.hid (within_alloc (w.alloc (.cells #[.int .i64 p, (.slice A l.length cap)] 26)) (.cells #[(.slice none 0 0), (.slice none 0 0), (.slice none 0 0)] 31)).size
      have W2 := Lib.hid (within_on W1.out (within_alloc (w.alloc (.cells #[.int .i64 p, (.slice A l.length cap)] 26)) (.cells #[(.slice none 0 0), (.slice none 0 0), (.slice none 0 0)] 31)) W1.out.size (.inr (Nat.le_refl _)))
      have HB_2 := Lib.hid (HB_1.out.within (within_alloc (w.alloc (.cells #[.int .i64 p, (.slice A l.length cap)] 26)) (.cells #[(.slice none 0 0), (.slice none 0 0), (.slice none 0 0)] 31)) (by omega))
      have BX_2 := Lib.hid (BX_1.out.within (within_alloc (w.alloc (.cells #[.int .i64 p, (.slice A l.length cap)] 26)) (.cells #[(.slice none 0 0), (.slice none 0 0), (.slice none 0 0)] 31)) (by omega))
      have Y2 := Lib.hid (show ((w.alloc (.cells #[.int .i64 p, (.slice A l.length cap)] 26)).alloc (.cells #[(.slice none 0 0), (.slice none 0 0), (.slice none 0 0)] 31)).heap.size = (w.alloc (.cells #[.int .i64 p, (.slice A l.length cap)] 26)).heap.size + 1 by simp)
      have hnew := cel3_new (w.alloc (.cells #[.int .i64 p, (.slice A l.length cap)] 26)) (.slice none 0 0) (.slice none 0 0) (.slice none 0 0) 31
      rw [show (w.alloc (.cells #[.int .i64 p, (.slice A l.length cap)] 26)).heap.size = w.heap.size + 1 by simp] at hnew
      have GR_2 := Lib.hid hnew
      clear hnew
      go_enter Try.func36, Try.ntmps36
      obtain ⟨g0_0, g0_1, g0_2⟩ := BX_2.out
      go_wp2_with fail
      clear g0_0 g0_1 g0_2
      generalize ((w.alloc (.cells #[.int .i64 p, (.slice A l.length cap)] 26)).alloc (.cells #[(.slice none 0 0), (.slice none 0 0), (.slice none 0 0)] 31)) = w2 at *
      generalize (w.alloc (.cells #[.int .i64 p, (.slice A l.length cap)] 26)) = w1 at *
      refine (HISG _ HB_2.out.at).mono ?_
      rintro e w3 ⟨rfl, hb⟩
      have Z3 := Lib.hid (within_of hb).size
      have W3 := Lib.hid (within_on W2.out (within_of hb) W2.out.size (.inr (Nat.le_refl _)))
      have HB_3 := Lib.hid (HB_2.out.within (within_of hb) (by omega))
      have BX_3 := Lib.hid (BX_2.out.within (within_of hb) (by omega))
      have GR_3 := Lib.hid (GR_2.out.within (within_of hb) (by omega))
      clear hb HISG
      rcases hk with hk | ⟨hk1, hk⟩
      all_goals
        obtain ⟨g1_0, g1_1, g1_2, g1_3, g1_4, g1_5⟩ := GR_3.out.cells
        have Z4 := Lib.hid ((ret3 GR_3.out (.slice none 0 0) (.slice none 0 0) (.slice none 0 0)).2).size
        have W4 := Lib.hid (within_on W3.out ((ret3 GR_3.out (.slice none 0 0) (.slice none 0 0) (.slice none 0 0)).2) W3.out.size (by have := Z1.out; have := Z2.out; have := Z3.out; have := Z4.out; have := Y1.out; have := Y2.out; omega))
        have HB_4 := Lib.hid (HB_3.out.within ((ret3 GR_3.out (.slice none 0 0) (.slice none 0 0) (.slice none 0 0)).2) (by have := Z1.out; have := Z2.out; have := Z3.out; have := Z4.out; have := Y1.out; have := Y2.out; omega))
        have BX_4 := Lib.hid (BX_3.out.within ((ret3 GR_3.out (.slice none 0 0) (.slice none 0 0) (.slice none 0 0)).2) (by have := Z1.out; have := Z2.out; have := Z3.out; have := Z4.out; have := Y1.out; have := Y2.out; omega))
        have GR_4 := Lib.hid ((ret3 GR_3.out (.slice none 0 0) (.slice none 0 0) (.slice none 0 0)).1)
        obtain ⟨g2_0, g2_1, g2_2, g2_3, g2_4, g2_5⟩ := GR_4.out.cells
        go_wp2_with fail
        generalize (((w3.setCell ⟨w.heap.size + 1, 0, none⟩ (.slice none 0 0)).setCell ⟨w.heap.size + 1, 1, none⟩ (.slice none 0 0)).setCell ⟨w.heap.size + 1, 2, none⟩ (.slice none 0 0)) = w4 at *
        refine bodyPost_ret (v := .tuple #[pebV none 0 0 none 0 0 none 0 0, .bool false]) ?_ rfl ?_
        · simp [results, Try.results36, go_sem, g2_0, g2_1, g2_2]
        · rw [HR.out.1, HR.out.2]
          exact ⟨none, 0, _, _, rfl, ⟨Nat.le_refl _, .inl rfl⟩, W4.out.size, Nat.le_refl _, W4.out⟩
  · skip
    have hg : isGB p l = true := by
      cases h : isGB p l with
      | true => rfl
      | false => exact absurd (.inl h) hbad
    have hG : IsG p l := Classical.byContradiction fun g => by rw [isGB_no g] at hg; cases hg
    obtain ⟨P, rfl⟩ : ∃ P : Nat, p = (P : Int) := ⟨p.toNat, by have := hG.1; omega⟩
    have hP : 1 ≤ P ∧ P ≤ 8 := by have := hG.1; omega
    have hk1 : ¬ k < 1 := by omega
    have hk2 : ¬ 3 < k := by omega
    have HR := Lib.hid (new_yes (l := l) hg (by omega : 1 ≤ k) (by omega))
    rw [hg] at HISG
    clear hbad hG hg
    have W0 := Lib.hid (Below.refl w.heap.size w)
    have HB_0 := Lib.hid (bars_in hl)
    clear hl
    have Z1 := Lib.hid (within_alloc w (.cells #[.int .i64 (P : Int), (.slice A l.length cap)] 26)).size
    have W1 := Lib.hid (within_on W0.out (within_alloc w (.cells #[.int .i64 (P : Int), (.slice A l.length cap)] 26)) W0.out.size (.inr (Nat.le_refl _)))
    have HB_1 := Lib.hid (HB_0.out.within (within_alloc w (.cells #[.int .i64 (P : Int), (.slice A l.length cap)] 26)) (by omega))
    have Y1 := Lib.hid (show (w.alloc (.cells #[.int .i64 (P : Int), (.slice A l.length cap)] 26)).heap.size = w.heap.size + 1 by simp)
    have hnew := box_new w (P : Int) (.slice A l.length cap) 26
    have BX_1 := Lib.hid hnew
    clear hnew
    have Z2 := Lib.hid (within_alloc (w.alloc (.cells #[.int .i64 (P : Int), (.slice A l.length cap)] 26)) (.cells #[(.slice none 0 0), (.slice none 0 0), (.slice none 0 0)] 31)).size
    have W2 := Lib.hid (within_on W1.out (within_alloc (w.alloc (.cells #[.int .i64 (P : Int), (.slice A l.length cap)] 26)) (.cells #[(.slice none 0 0), (.slice none 0 0), (.slice none 0 0)] 31)) W1.out.size (.inr (Nat.le_refl _)))
    have HB_2 := Lib.hid (HB_1.out.within (within_alloc (w.alloc (.cells #[.int .i64 (P : Int), (.slice A l.length cap)] 26)) (.cells #[(.slice none 0 0), (.slice none 0 0), (.slice none 0 0)] 31)) (by omega))
    have BX_2 := Lib.hid (BX_1.out.within (within_alloc (w.alloc (.cells #[.int .i64 (P : Int), (.slice A l.length cap)] 26)) (.cells #[(.slice none 0 0), (.slice none 0 0), (.slice none 0 0)] 31)) (by omega))
    have Y2 := Lib.hid (show ((w.alloc (.cells #[.int .i64 (P : Int), (.slice A l.length cap)] 26)).alloc (.cells #[(.slice none 0 0), (.slice none 0 0), (.slice none 0 0)] 31)).heap.size = (w.alloc (.cells #[.int .i64 (P : Int), (.slice A l.length cap)] 26)).heap.size + 1 by simp)
    have hnew := cel3_new (w.alloc (.cells #[.int .i64 (P : Int), (.slice A l.length cap)] 26)) (.slice none 0 0) (.slice none 0 0) (.slice none 0 0) 31
    rw [show (w.alloc (.cells #[.int .i64 (P : Int), (.slice A l.length cap)] 26)).heap.size = w.heap.size + 1 by simp] at hnew
    have GR_2 := Lib.hid hnew
    clear hnew
    go_enter Try.func36, Try.ntmps36
    obtain ⟨g0_0, g0_1, g0_2⟩ := BX_2.out
    go_wp2_with fail
    clear g0_0 g0_1 g0_2
    generalize ((w.alloc (.cells #[.int .i64 (P : Int), (.slice A l.length cap)] 26)).alloc (.cells #[(.slice none 0 0), (.slice none 0 0), (.slice none 0 0)] 31)) = w2 at *
    generalize (w.alloc (.cells #[.int .i64 (P : Int), (.slice A l.length cap)] 26)) = w1 at *
    refine (HISG _ HB_2.out.at).mono ?_
    rintro e w3 ⟨rfl, hb⟩
    have Z3 := Lib.hid (within_of hb).size
    have W3 := Lib.hid (within_on W2.out (within_of hb) W2.out.size (.inr (Nat.le_refl _)))
    have HB_3 := Lib.hid (HB_2.out.within (within_of hb) (by omega))
    have BX_3 := Lib.hid (BX_2.out.within (within_of hb) (by omega))
    have GR_3 := Lib.hid (GR_2.out.within (within_of hb) (by omega))
    clear hb HISG
    have Z4 := Lib.hid (within_alloc w3 (.cells #[.int .i64 k] 3)).size
    have W4 := Lib.hid (within_on W3.out (within_alloc w3 (.cells #[.int .i64 k] 3)) W3.out.size (.inr (Nat.le_refl _)))
    have HB_4 := Lib.hid (HB_3.out.within (within_alloc w3 (.cells #[.int .i64 k] 3)) (by omega))
    have BX_4 := Lib.hid (BX_3.out.within (within_alloc w3 (.cells #[.int .i64 k] 3)) (by omega))
    have GR_4 := Lib.hid (GR_3.out.within (within_alloc w3 (.cells #[.int .i64 k] 3)) (by omega))
    have Y4 := Lib.hid (show (w3.alloc (.cells #[.int .i64 k] 3)).heap.size = w3.heap.size + 1 by simp)
    have hck : (w3.alloc (.cells #[.int .i64 k] 3)).cell? ⟨w3.heap.size, 0, none⟩ = some (.int .i64 k) := by rw [World.cell?_alloc_at _ _ _ _ rfl]; rfl
    have HCK := Lib.hid hck
    clear hck
    obtain ⟨g1_0, g1_1, g1_2⟩ := BX_4.out
    go_wp2_with fail
    clear g1_0 g1_1 g1_2
    generalize (w3.alloc (.cells #[.int .i64 k] 3)) = w4 at *
    refine (slRepeat P k w3.heap.size _ hP.1 hP.2 HCK.out).mono ?_
    rintro e w5 ⟨g, rfl, ho, hb⟩
    have Z5 := Lib.hid (within_of hb).size
    have W5 := Lib.hid (within_on W4.out (within_of hb) W4.out.size (.inr (Nat.le_refl _)))
    have HB_5 := Lib.hid (HB_4.out.within (within_of hb) (by omega))
    have BX_5 := Lib.hid (BX_4.out.within (within_of hb) (by omega))
    have GR_5 := Lib.hid (GR_4.out.within (within_of hb) (by omega))
    have OF_5 := Lib.hid (own_ints' (zs := List.replicate P k) (by rw [List.length_replicate]; exact ho))
    clear ho hb
    obtain ⟨g2_0, g2_1, g2_2, g2_3, g2_4, g2_5⟩ := GR_5.out.cells
    have Z6 := Lib.hid ((ret3 GR_5.out (.slice (some ⟨g, 0, none⟩) P P) (.slice none 0 0) (.slice none 0 0)).2).size
    have W6 := Lib.hid (within_on W5.out ((ret3 GR_5.out (.slice (some ⟨g, 0, none⟩) P P) (.slice none 0 0) (.slice none 0 0)).2) W5.out.size (by have := Z1.out; have := Z2.out; have := Z3.out; have := Z4.out; have := Z5.out; have := Z6.out; have := Y1.out; have := Y2.out; have := Y4.out; omega))
    have HB_6 := Lib.hid (HB_5.out.within ((ret3 GR_5.out (.slice (some ⟨g, 0, none⟩) P P) (.slice none 0 0) (.slice none 0 0)).2) (by have := Z1.out; have := Z2.out; have := Z3.out; have := Z4.out; have := Z5.out; have := Z6.out; have := Y1.out; have := Y2.out; have := Y4.out; omega))
    have BX_6 := Lib.hid (BX_5.out.within ((ret3 GR_5.out (.slice (some ⟨g, 0, none⟩) P P) (.slice none 0 0) (.slice none 0 0)).2) (by have := Z1.out; have := Z2.out; have := Z3.out; have := Z4.out; have := Z5.out; have := Z6.out; have := Y1.out; have := Y2.out; have := Y4.out; omega))
    have GR_6 := Lib.hid ((ret3 GR_5.out (.slice (some ⟨g, 0, none⟩) P P) (.slice none 0 0) (.slice none 0 0)).1)
    have OF_6 := Lib.hid (OF_5.out.within ((ret3 GR_5.out (.slice (some ⟨g, 0, none⟩) P P) (.slice none 0 0) (.slice none 0 0)).2) (by have := Z1.out; have := Z2.out; have := Z3.out; have := Z4.out; have := Z5.out; have := Z6.out; have := Y1.out; have := Y2.out; have := Y4.out; omega))
    obtain ⟨g3_0, g3_1, g3_2, g3_3, g3_4, g3_5⟩ := GR_6.out.cells
    go_wp2_with fail
    generalize (((w5.setCell ⟨w.heap.size + 1, 0, none⟩ (.slice (some ⟨g, 0, none⟩) P P)).setCell ⟨w.heap.size + 1, 1, none⟩ (.slice none 0 0)).setCell ⟨w.heap.size + 1, 2, none⟩ (.slice none 0 0)) = w6 at *
    refine bodyPost_ret (v := .tuple #[pebV (some ⟨g, 0, none⟩) P P none 0 0 none 0 0, .bool true]) ?_ rfl ?_
    · simp [results, Try.results36, go_sem, g3_0, g3_1, g3_2]
    · rw [HR.out.1, HR.out.2]
      exact ⟨some ⟨g, 0, none⟩, P, _, _, by rw [List.length_replicate], OF_6.out, (by have := Z1.out; have := Z2.out; have := Z3.out; have := Z4.out; have := Z5.out; have := Z6.out; have := Y1.out; have := Y2.out; have := Y4.out; omega), (by have := Z1.out; have := Z2.out; have := Z3.out; have := Z4.out; have := Z5.out; have := Z6.out; have := Y1.out; have := Y2.out; have := Y4.out; omega), W6.out⟩

end Go.Proofs.Ytdkpmaahinbhlaa
/- What spec.l4Copy answers. No condition. -/
namespace Go.Proofs.Ytdkpmaahinbhlaa
open Go.RowKit

set_option maxHeartbeats 8000000 in
set_option maxRecDepth 100000 in
theorem copyPeb_c (AF AT AZ : Option Addr) (cF cT cZ lo hi : Nat) (F T Z : List Int) (w : World) (h : Peb3 w lo hi AF AT AZ F T Z) (hF : F.length ≤ 1048576) (hT : T.length ≤ 1048576) (hZ : Z.length ≤ 1048576) :
    Calls Try.prog 126 #[pebV AF F.length cF AT T.length cT AZ Z.length cZ] w (PebR w F T Z) := by
  have W0 := Lib.hid (Below.refl w.heap.size w)
  have H_0 := Lib.hid (h)
  have hhi : hi ≤ w.heap.size := h.f.1
  clear h
  have Z1 := Lib.hid (within_alloc w (.cells #[(.slice AF F.length cF), (.slice AT T.length cT), (.slice AZ Z.length cZ)] 31)).size
  have W1 := Lib.hid (within_on W0.out (within_alloc w (.cells #[(.slice AF F.length cF), (.slice AT T.length cT), (.slice AZ Z.length cZ)] 31)) W0.out.size (.inr (Nat.le_refl _)))
  have H_1 := Lib.hid (H_0.out.within (within_alloc w (.cells #[(.slice AF F.length cF), (.slice AT T.length cT), (.slice AZ Z.length cZ)] 31)) (by omega))
  have Y1 := Lib.hid (show (w.alloc (.cells #[(.slice AF F.length cF), (.slice AT T.length cT), (.slice AZ Z.length cZ)] 31)).heap.size = w.heap.size + 1 by simp)
  have hnew := cel3_new w (.slice AF F.length cF) (.slice AT T.length cT) (.slice AZ Z.length cZ) 31
  have GA_1 := Lib.hid hnew
  clear hnew
  have Z2 := Lib.hid (within_alloc (w.alloc (.cells #[(.slice AF F.length cF), (.slice AT T.length cT), (.slice AZ Z.length cZ)] 31)) (.cells #[(.slice none 0 0), (.slice none 0 0), (.slice none 0 0)] 31)).size
  have W2 := Lib.hid (within_on W1.out (within_alloc (w.alloc (.cells #[(.slice AF F.length cF), (.slice AT T.length cT), (.slice AZ Z.length cZ)] 31)) (.cells #[(.slice none 0 0), (.slice none 0 0), (.slice none 0 0)] 31)) W1.out.size (.inr (Nat.le_refl _)))
  have H_2 := Lib.hid (H_1.out.within (within_alloc (w.alloc (.cells #[(.slice AF F.length cF), (.slice AT T.length cT), (.slice AZ Z.length cZ)] 31)) (.cells #[(.slice none 0 0), (.slice none 0 0), (.slice none 0 0)] 31)) (by omega))
  have GA_2 := Lib.hid (GA_1.out.within (within_alloc (w.alloc (.cells #[(.slice AF F.length cF), (.slice AT T.length cT), (.slice AZ Z.length cZ)] 31)) (.cells #[(.slice none 0 0), (.slice none 0 0), (.slice none 0 0)] 31)) (by omega))
  have Y2 := Lib.hid (show ((w.alloc (.cells #[(.slice AF F.length cF), (.slice AT T.length cT), (.slice AZ Z.length cZ)] 31)).alloc (.cells #[(.slice none 0 0), (.slice none 0 0), (.slice none 0 0)] 31)).heap.size = (w.alloc (.cells #[(.slice AF F.length cF), (.slice AT T.length cT), (.slice AZ Z.length cZ)] 31)).heap.size + 1 by simp)
  have hnew := cel3_new (w.alloc (.cells #[(.slice AF F.length cF), (.slice AT T.length cT), (.slice AZ Z.length cZ)] 31)) (.slice none 0 0) (.slice none 0 0) (.slice none 0 0) 31
  rw [show (w.alloc (.cells #[(.slice AF F.length cF), (.slice AT T.length cT), (.slice AZ Z.length cZ)] 31)).heap.size = w.heap.size + 1 by simp] at hnew
  have GR_2 := Lib.hid hnew
  clear hnew
  have CI := Lib.hid (⟨GA_2.out, GR_2.out, H_2.out, W2.out⟩ : CpS w ((w.alloc (.cells #[(.slice AF F.length cF), (.slice AT T.length cT), (.slice AZ Z.length cZ)] 31)).alloc (.cells #[(.slice none 0 0), (.slice none 0 0), (.slice none 0 0)] 31)) AF cF AT cT AZ cZ lo hi F T Z)
  have SZ := Lib.hid (show ((w.alloc (.cells #[(.slice AF F.length cF), (.slice AT T.length cT), (.slice AZ Z.length cZ)] 31)).alloc (.cells #[(.slice none 0 0), (.slice none 0 0), (.slice none 0 0)] 31)).heap.size = w.heap.size + 1 + 1 by simp)
  go_enter Try.func126, Try.ntmps126
  go_wp2_with fail
  generalize ((w.alloc (.cells #[(.slice AF F.length cF), (.slice AT T.length cT), (.slice AZ Z.length cZ)] 31)).alloc (.cells #[(.slice none 0 0), (.slice none 0 0), (.slice none 0 0)] 31)) = w2 at *
  generalize (w.alloc (.cells #[(.slice AF F.length cF), (.slice AT T.length cT), (.slice AZ Z.length cZ)] 31)) = w1 at *
  have CD := Lib.hid (CI.out.below (Below.refl _ _).drew)
  have SD := Lib.hid (show w2.drew.heap.size = w.heap.size + 1 + 1 from SZ.out)
  clear CI
  refine wp_region_held_drew (S := (fun W' : World => W'.cell? ⟨w.heap.size, 0, none⟩ = some (.slice AF F.length cF) ∧ W'.cell? ⟨w.heap.size, 1, none⟩ = some (.slice AT T.length cT) ∧ W'.cell? ⟨w.heap.size, 2, none⟩ = some (.slice AZ Z.length cZ))) (by kernel_rfl) ?_ (fun hHeld => ?_)
  · exact CD.out.cells
  clear hHeld
  generalize w2.drew = WD at *
  have CR := Lib.hid (CpR.nil WD (w.heap.size + 1 + 1) (Nat.le_of_eq SD.out.symm))
  refine wpAnyH_take (i := 1) (v := .pointer (some ⟨w.heap.size, 0, none⟩)) rfl (by kernel_rfl) (by kernel_rfl) (by kernel_rfl) (fun _ _ _ h => h) (Or.inl ⟨by kernel_rfl, fun w hSw => by (try dsimp only at hSw); go_simp; all_goals first | omega | rfl⟩) CD.out.cells ?_
  refine wpAnyH_take (i := 2) (v := .slice AF F.length cF) rfl (by kernel_rfl) (by kernel_rfl) (by kernel_rfl) (fun _ _ _ h => h) (Or.inl ⟨by kernel_rfl, fun w hSw => by (try dsimp only at hSw); go_simp; all_goals first | omega | rfl⟩) CD.out.cells ?_
  refine wpAnyH_take (i := 5) (v := .pointer (some ⟨w.heap.size, 1, none⟩)) rfl (by kernel_rfl) (by kernel_rfl) (by kernel_rfl) (fun _ _ _ h => h) (Or.inl ⟨by kernel_rfl, fun w hSw => by (try dsimp only at hSw); go_simp; all_goals first | omega | rfl⟩) CD.out.cells ?_
  refine wpAnyH_take (i := 6) (v := .slice AT T.length cT) rfl (by kernel_rfl) (by kernel_rfl) (by kernel_rfl) (fun _ _ _ h => h) (Or.inl ⟨by kernel_rfl, fun w hSw => by (try dsimp only at hSw); go_simp; all_goals first | omega | rfl⟩) CD.out.cells ?_
  refine wpAnyH_take (i := 9) (v := .pointer (some ⟨w.heap.size, 2, none⟩)) rfl (by kernel_rfl) (by kernel_rfl) (by kernel_rfl) (fun _ _ _ h => h) (Or.inl ⟨by kernel_rfl, fun w hSw => by (try dsimp only at hSw); go_simp; all_goals first | omega | rfl⟩) CD.out.cells ?_
  refine wpAnyH_take (i := 10) (v := .slice AZ Z.length cZ) rfl (by kernel_rfl) (by kernel_rfl) (by kernel_rfl) (fun _ _ _ h => h) (Or.inl ⟨by kernel_rfl, fun w hSw => by (try dsimp only at hSw); go_simp; all_goals first | omega | rfl⟩) CD.out.cells ?_
  refine as_fun ?_
  intro R hR
  have j : ∀ (W : World) (f t z : Nat × Nat) (gF : Nat) (AF' : Option Addr) (cF' : Nat) (gT : Nat) (AT' : Option Addr) (cT' : Nat) (gZ : Nat) (AZ' : Option Addr) (cZ' : Nat), CpS w W AF cF AT cT AZ cZ lo hi F T Z → CpR W (w.heap.size + 1 + 1) f t z AF' cF' AT' cT' AZ' cZ' F T Z → R 2 #[true, true, true, true, true, true, true, true, true, true, true, true, false, false] ⟨#[pebV AF F.length cF AT T.length cT AZ Z.length cZ, .pointer (some ⟨w.heap.size, 0, none⟩), .pointer (some ⟨w.heap.size + 1, 0, none⟩), .slice (some ⟨gF, 0, none⟩) 0 0, .pointer (some ⟨w.heap.size, 0, none⟩), .slice AF F.length cF, .slice AF' F.length cF', .slice (some ⟨gT, 0, none⟩) 0 0, .pointer (some ⟨w.heap.size, 1, none⟩), .slice AT T.length cT, .slice AT' T.length cT', .slice (some ⟨gZ, 0, none⟩) 0 0, .pointer (some ⟨w.heap.size, 2, none⟩), .slice AZ Z.length cZ, .slice AZ' Z.length cZ', undef], []⟩ W := by
    intro W f t z gF AF' cF' gT AT' cT' gZ AZ' cZ' hc hr
    rw [hR]
    refine wpAnyH_take (i := 12) (v := .agg #[.slice AF' F.length cF', .slice AT' T.length cT', .slice AZ' Z.length cZ']) rfl (by kernel_rfl) (by kernel_rfl) (by kernel_rfl) (fun _ _ _ h => h) (Or.inl ⟨by kernel_rfl, fun w hSw => by (try dsimp only at hSw); go_simp; all_goals first | omega | rfl⟩) hc.cells ?_
    refine wpAnyH_ready (rs := [13]) (by kernel_rfl) (by simp) (AllReadyH.cons rfl (fun K hK => ?_) AllReadyH.nil)
    obtain ⟨q0, q1, q2, q3, q4, q5⟩ := hc.ret.cells
    have hr2 := ret3 hc.ret (.slice AF' F.length cF') (.slice AT' T.length cT') (.slice AZ' Z.length cZ')
    have RR := Lib.hid hr2.1
    have RW := Lib.hid hr2.2
    have RC := Lib.hid (hc.arg.within hr2.2 (by omega)).cells
    have HC := Lib.hid hc
    have HR := Lib.hid hr
    clear hr2 hc hr
    go_simp
    clear q0 q1 q2 q3 q4 q5
    refine hK.out _ _ ⟨RC.out.1, RC.out.2.1, RC.out.2.2.1⟩ (fun hHeld => ?_)
    clear hK K hHeld
    refine wpAnyH_done (by kernel_rfl) ?_ _
    obtain ⟨s0, s1, s2, _⟩ := RR.out.cells
    go_wp2_with fail
    refine bodyPost_ret (v := pebV AF' F.length cF' AT' T.length cT' AZ' Z.length cZ') ?_ rfl ?_
    · simp [results, Try.results126, go_sem, s0, s1, s2]
    · have lf := HR.out.lf
      have lt := HR.out.lt
      have lz := HR.out.lz
      have hh := HR.out.own.hi
      have rs := RW.out.size
      have ho := HR.out.own.within RW.out (by omega) (by omega) (by omega)
      exact ⟨AF', cF', AT', cT', AZ', cZ', rfl, ho.own3R (by omega) (by omega) (by omega) (Nat.le_refl _), within_on HC.out.bel RW.out HC.out.bel.size (.inl (by omega))⟩
  have J222 := Lib.hid j
  clear j
  have j : ∀ (W : World) (f t z : Nat × Nat) (gF : Nat) (AF' : Option Addr) (cF' : Nat) (gT : Nat) (AT' : Option Addr) (cT' : Nat) (gZ : Nat), CpS w W AF cF AT cT AZ cZ lo hi F T Z → CpR W (w.heap.size + 1 + 1) f t z AF' cF' AT' cT' (some ⟨gZ, 0, none⟩) 0 F T [] → R 3 #[true, true, true, true, true, true, true, true, true, true, true, false, false, false] ⟨#[pebV AF F.length cF AT T.length cT AZ Z.length cZ, .pointer (some ⟨w.heap.size, 0, none⟩), .pointer (some ⟨w.heap.size + 1, 0, none⟩), .slice (some ⟨gF, 0, none⟩) 0 0, .pointer (some ⟨w.heap.size, 0, none⟩), .slice AF F.length cF, .slice AF' F.length cF', .slice (some ⟨gT, 0, none⟩) 0 0, .pointer (some ⟨w.heap.size, 1, none⟩), .slice AT T.length cT, .slice AT' T.length cT', .slice (some ⟨gZ, 0, none⟩) 0 0, .pointer (some ⟨w.heap.size, 2, none⟩), .slice AZ Z.length cZ, undef, undef], []⟩ W := by
    intro W f t z gF AF' cF' gT AT' cT' gZ hc hr
    rw [hR]
    refine wpAnyH_ready (rs := [11]) (by kernel_rfl) (by simp) (AllReadyH.cons rfl (fun K hK => ?_) AllReadyH.nil)
    refine step_copyR (by rfl) _ _ (by rfl) gZ z.1 z.2 AZ Z cZ lo hi (by rfl) (by rfl) hr.own.2.2.1 hc.src.z hZ ?_
    intro AZ' cZ' W' r ho hl hb
    have C2 := Lib.hid (hc.below hb)
    have R2 := Lib.hid (hr.newZ hb ho hl)
    clear hb hc hr ho hl
    refine hK.out _ _ C2.out.cells (fun _ => ?_)
    clear hK K
    exact as_of hR (J222.out W' f t r gF AF' cF' gT AT' cT' gZ AZ' cZ' C2.out R2.out)
  have J221 := Lib.hid j
  clear j
  have j : ∀ (W : World) (f t z : Nat × Nat) (gF : Nat) (AF' : Option Addr) (cF' : Nat) (gT : Nat) (gZ : Nat), CpS w W AF cF AT cT AZ cZ lo hi F T Z → CpR W (w.heap.size + 1 + 1) f t z AF' cF' (some ⟨gT, 0, none⟩) 0 (some ⟨gZ, 0, none⟩) 0 F [] [] → R 4 #[true, true, true, true, true, true, true, false, true, true, true, false, false, false] ⟨#[pebV AF F.length cF AT T.length cT AZ Z.length cZ, .pointer (some ⟨w.heap.size, 0, none⟩), .pointer (some ⟨w.heap.size + 1, 0, none⟩), .slice (some ⟨gF, 0, none⟩) 0 0, .pointer (some ⟨w.heap.size, 0, none⟩), .slice AF F.length cF, .slice AF' F.length cF', .slice (some ⟨gT, 0, none⟩) 0 0, .pointer (some ⟨w.heap.size, 1, none⟩), .slice AT T.length cT, undef, .slice (some ⟨gZ, 0, none⟩) 0 0, .pointer (some ⟨w.heap.size, 2, none⟩), .slice AZ Z.length cZ, undef, undef], []⟩ W := by
    intro W f t z gF AF' cF' gT gZ hc hr
    rw [hR]
    refine wpAnyH_ready (rs := [7]) (by kernel_rfl) (by simp) (AllReadyH.cons rfl (fun K hK => ?_) AllReadyH.nil)
    refine step_copyR (by rfl) _ _ (by rfl) gT t.1 t.2 AT T cT lo hi (by rfl) (by rfl) hr.own.2.1 hc.src.t hT ?_
    intro AT' cT' W' r ho hl hb
    have C2 := Lib.hid (hc.below hb)
    have R2 := Lib.hid (hr.newT hb ho hl)
    clear hb hc hr ho hl
    refine hK.out _ _ C2.out.cells (fun _ => ?_)
    clear hK K
    exact as_of hR (J221.out W' f r z gF AF' cF' gT AT' cT' gZ C2.out R2.out)
  have J211 := Lib.hid j
  clear j
  have j : ∀ (W : World) (f t z : Nat × Nat) (gF : Nat) (AF' : Option Addr) (cF' : Nat) (gT : Nat) (AT' : Option Addr) (cT' : Nat), CpS w W AF cF AT cT AZ cZ lo hi F T Z → CpR W (w.heap.size + 1 + 1) f t z AF' cF' AT' cT' none 0 F T [] → R 4 #[true, true, true, true, true, true, true, true, false, true, true, false, false, false] ⟨#[pebV AF F.length cF AT T.length cT AZ Z.length cZ, .pointer (some ⟨w.heap.size, 0, none⟩), .pointer (some ⟨w.heap.size + 1, 0, none⟩), .slice (some ⟨gF, 0, none⟩) 0 0, .pointer (some ⟨w.heap.size, 0, none⟩), .slice AF F.length cF, .slice AF' F.length cF', .slice (some ⟨gT, 0, none⟩) 0 0, .pointer (some ⟨w.heap.size, 1, none⟩), .slice AT T.length cT, .slice AT' T.length cT', undef, .pointer (some ⟨w.heap.size, 2, none⟩), .slice AZ Z.length cZ, undef, undef], []⟩ W := by
    intro W f t z gF AF' cF' gT AT' cT' hc hr
    rw [hR]
    refine wpAnyH_ready (rs := [8]) (by kernel_rfl) (by simp) (AllReadyH.cons rfl (fun K hK => ?_) AllReadyH.nil)
    have hb := new_below W (.cells #[] 3)
    have C2 := Lib.hid (hc.below hb)
    have R2 := Lib.hid (hr.newZ (z' := (W.heap.size, W.heap.size + 1)) hb (ownR_empty W) (.inr (Nat.le_refl _)))
    clear hb hc hr
    go_simp
    refine hK.out _ _ C2.out.cells (fun _ => ?_)
    clear hK K
    exact as_of hR (J221.out (W.alloc (.cells #[] 3)) f t (W.heap.size, W.heap.size + 1) gF AF' cF' gT AT' cT' W.heap.size C2.out R2.out)
  have J220 := Lib.hid j
  clear j
  have j : ∀ (W : World) (f t z : Nat × Nat) (gF : Nat) (gT : Nat) (gZ : Nat), CpS w W AF cF AT cT AZ cZ lo hi F T Z → CpR W (w.heap.size + 1 + 1) f t z (some ⟨gF, 0, none⟩) 0 (some ⟨gT, 0, none⟩) 0 (some ⟨gZ, 0, none⟩) 0 [] [] [] → R 5 #[true, true, true, false, true, true, true, false, true, true, true, false, false, false] ⟨#[pebV AF F.length cF AT T.length cT AZ Z.length cZ, .pointer (some ⟨w.heap.size, 0, none⟩), .pointer (some ⟨w.heap.size + 1, 0, none⟩), .slice (some ⟨gF, 0, none⟩) 0 0, .pointer (some ⟨w.heap.size, 0, none⟩), .slice AF F.length cF, undef, .slice (some ⟨gT, 0, none⟩) 0 0, .pointer (some ⟨w.heap.size, 1, none⟩), .slice AT T.length cT, undef, .slice (some ⟨gZ, 0, none⟩) 0 0, .pointer (some ⟨w.heap.size, 2, none⟩), .slice AZ Z.length cZ, undef, undef], []⟩ W := by
    intro W f t z gF gT gZ hc hr
    rw [hR]
    refine wpAnyH_ready (rs := [3]) (by kernel_rfl) (by simp) (AllReadyH.cons rfl (fun K hK => ?_) AllReadyH.nil)
    refine step_copyR (by rfl) _ _ (by rfl) gF f.1 f.2 AF F cF lo hi (by rfl) (by rfl) hr.own.1 hc.src.f hF ?_
    intro AF' cF' W' r ho hl hb
    have C2 := Lib.hid (hc.below hb)
    have R2 := Lib.hid (hr.newF hb ho hl)
    clear hb hc hr ho hl
    refine hK.out _ _ C2.out.cells (fun _ => ?_)
    clear hK K
    exact as_of hR (J211.out W' r t z gF AF' cF' gT gZ C2.out R2.out)
  have J111 := Lib.hid j
  clear j
  have j : ∀ (W : World) (f t z : Nat × Nat) (gF : Nat) (AF' : Option Addr) (cF' : Nat) (gZ : Nat), CpS w W AF cF AT cT AZ cZ lo hi F T Z → CpR W (w.heap.size + 1 + 1) f t z AF' cF' none 0 (some ⟨gZ, 0, none⟩) 0 F [] [] → R 5 #[true, true, true, true, false, true, true, false, true, true, true, false, false, false] ⟨#[pebV AF F.length cF AT T.length cT AZ Z.length cZ, .pointer (some ⟨w.heap.size, 0, none⟩), .pointer (some ⟨w.heap.size + 1, 0, none⟩), .slice (some ⟨gF, 0, none⟩) 0 0, .pointer (some ⟨w.heap.size, 0, none⟩), .slice AF F.length cF, .slice AF' F.length cF', undef, .pointer (some ⟨w.heap.size, 1, none⟩), .slice AT T.length cT, undef, .slice (some ⟨gZ, 0, none⟩) 0 0, .pointer (some ⟨w.heap.size, 2, none⟩), .slice AZ Z.length cZ, undef, undef], []⟩ W := by
    intro W f t z gF AF' cF' gZ hc hr
    rw [hR]
    refine wpAnyH_ready (rs := [4]) (by kernel_rfl) (by simp) (AllReadyH.cons rfl (fun K hK => ?_) AllReadyH.nil)
    have hb := new_below W (.cells #[] 3)
    have C2 := Lib.hid (hc.below hb)
    have R2 := Lib.hid (hr.newT (t' := (W.heap.size, W.heap.size + 1)) hb (ownR_empty W) (.inr (Nat.le_refl _)))
    clear hb hc hr
    go_simp
    refine hK.out _ _ C2.out.cells (fun _ => ?_)
    clear hK K
    exact as_of hR (J211.out (W.alloc (.cells #[] 3)) f (W.heap.size, W.heap.size + 1) z gF AF' cF' W.heap.size gZ C2.out R2.out)
  have J201 := Lib.hid j
  clear j
  have j : ∀ (W : World) (f t z : Nat × Nat) (gF : Nat) (AF' : Option Addr) (cF' : Nat) (gT : Nat), CpS w W AF cF AT cT AZ cZ lo hi F T Z → CpR W (w.heap.size + 1 + 1) f t z AF' cF' (some ⟨gT, 0, none⟩) 0 none 0 F [] [] → R 5 #[true, true, true, true, true, true, true, false, false, true, true, false, false, false] ⟨#[pebV AF F.length cF AT T.length cT AZ Z.length cZ, .pointer (some ⟨w.heap.size, 0, none⟩), .pointer (some ⟨w.heap.size + 1, 0, none⟩), .slice (some ⟨gF, 0, none⟩) 0 0, .pointer (some ⟨w.heap.size, 0, none⟩), .slice AF F.length cF, .slice AF' F.length cF', .slice (some ⟨gT, 0, none⟩) 0 0, .pointer (some ⟨w.heap.size, 1, none⟩), .slice AT T.length cT, undef, undef, .pointer (some ⟨w.heap.size, 2, none⟩), .slice AZ Z.length cZ, undef, undef], []⟩ W := by
    intro W f t z gF AF' cF' gT hc hr
    rw [hR]
    refine wpAnyH_ready (rs := [7, 8]) (by kernel_rfl) (by simp) (AllReadyH.cons rfl (fun K hK => ?_) (AllReadyH.cons rfl (fun K hK => ?_) AllReadyH.nil))
    · refine step_copyR (by rfl) _ _ (by rfl) gT t.1 t.2 AT T cT lo hi (by rfl) (by rfl) hr.own.2.1 hc.src.t hT ?_
      intro AT' cT' W' r ho hl hb
      have C2 := Lib.hid (hc.below hb)
      have R2 := Lib.hid (hr.newT hb ho hl)
      clear hb hc hr ho hl
      refine hK.out _ _ C2.out.cells (fun _ => ?_)
      clear hK K
      exact as_of hR (J220.out W' f r z gF AF' cF' gT AT' cT' C2.out R2.out)
    · have hb := new_below W (.cells #[] 3)
      have C2 := Lib.hid (hc.below hb)
      have R2 := Lib.hid (hr.newZ (z' := (W.heap.size, W.heap.size + 1)) hb (ownR_empty W) (.inr (Nat.le_refl _)))
      clear hb hc hr
      go_simp
      refine hK.out _ _ C2.out.cells (fun _ => ?_)
      clear hK K
      exact as_of hR (J211.out (W.alloc (.cells #[] 3)) f t (W.heap.size, W.heap.size + 1) gF AF' cF' gT W.heap.size C2.out R2.out)
  have J210 := Lib.hid j
  clear j
  have j : ∀ (W : World) (f t z : Nat × Nat) (gT : Nat) (gZ : Nat), CpS w W AF cF AT cT AZ cZ lo hi F T Z → CpR W (w.heap.size + 1 + 1) f t z none 0 (some ⟨gT, 0, none⟩) 0 (some ⟨gZ, 0, none⟩) 0 [] [] [] → R 6 #[false, true, true, false, true, true, true, false, true, true, true, false, false, false] ⟨#[pebV AF F.length cF AT T.length cT AZ Z.length cZ, .pointer (some ⟨w.heap.size, 0, none⟩), .pointer (some ⟨w.heap.size + 1, 0, none⟩), undef, .pointer (some ⟨w.heap.size, 0, none⟩), .slice AF F.length cF, undef, .slice (some ⟨gT, 0, none⟩) 0 0, .pointer (some ⟨w.heap.size, 1, none⟩), .slice AT T.length cT, undef, .slice (some ⟨gZ, 0, none⟩) 0 0, .pointer (some ⟨w.heap.size, 2, none⟩), .slice AZ Z.length cZ, undef, undef], []⟩ W := by
    intro W f t z gT gZ hc hr
    rw [hR]
    refine wpAnyH_ready (rs := [0]) (by kernel_rfl) (by simp) (AllReadyH.cons rfl (fun K hK => ?_) AllReadyH.nil)
    have hb := new_below W (.cells #[] 3)
    have C2 := Lib.hid (hc.below hb)
    have R2 := Lib.hid (hr.newF (f' := (W.heap.size, W.heap.size + 1)) hb (ownR_empty W) (.inr (Nat.le_refl _)))
    clear hb hc hr
    go_simp
    refine hK.out _ _ C2.out.cells (fun _ => ?_)
    clear hK K
    exact as_of hR (J111.out (W.alloc (.cells #[] 3)) (W.heap.size, W.heap.size + 1) t z W.heap.size gT gZ C2.out R2.out)
  have J011 := Lib.hid j
  clear j
  have j : ∀ (W : World) (f t z : Nat × Nat) (gF : Nat) (gZ : Nat), CpS w W AF cF AT cT AZ cZ lo hi F T Z → CpR W (w.heap.size + 1 + 1) f t z (some ⟨gF, 0, none⟩) 0 none 0 (some ⟨gZ, 0, none⟩) 0 [] [] [] → R 6 #[true, true, true, false, false, true, true, false, true, true, true, false, false, false] ⟨#[pebV AF F.length cF AT T.length cT AZ Z.length cZ, .pointer (some ⟨w.heap.size, 0, none⟩), .pointer (some ⟨w.heap.size + 1, 0, none⟩), .slice (some ⟨gF, 0, none⟩) 0 0, .pointer (some ⟨w.heap.size, 0, none⟩), .slice AF F.length cF, undef, undef, .pointer (some ⟨w.heap.size, 1, none⟩), .slice AT T.length cT, undef, .slice (some ⟨gZ, 0, none⟩) 0 0, .pointer (some ⟨w.heap.size, 2, none⟩), .slice AZ Z.length cZ, undef, undef], []⟩ W := by
    intro W f t z gF gZ hc hr
    rw [hR]
    refine wpAnyH_ready (rs := [3, 4]) (by kernel_rfl) (by simp) (AllReadyH.cons rfl (fun K hK => ?_) (AllReadyH.cons rfl (fun K hK => ?_) AllReadyH.nil))
    · refine step_copyR (by rfl) _ _ (by rfl) gF f.1 f.2 AF F cF lo hi (by rfl) (by rfl) hr.own.1 hc.src.f hF ?_
      intro AF' cF' W' r ho hl hb
      have C2 := Lib.hid (hc.below hb)
      have R2 := Lib.hid (hr.newF hb ho hl)
      clear hb hc hr ho hl
      refine hK.out _ _ C2.out.cells (fun _ => ?_)
      clear hK K
      exact as_of hR (J201.out W' r t z gF AF' cF' gZ C2.out R2.out)
    · have hb := new_below W (.cells #[] 3)
      have C2 := Lib.hid (hc.below hb)
      have R2 := Lib.hid (hr.newT (t' := (W.heap.size, W.heap.size + 1)) hb (ownR_empty W) (.inr (Nat.le_refl _)))
      clear hb hc hr
      go_simp
      refine hK.out _ _ C2.out.cells (fun _ => ?_)
      clear hK K
      exact as_of hR (J111.out (W.alloc (.cells #[] 3)) f (W.heap.size, W.heap.size + 1) z gF W.heap.size gZ C2.out R2.out)
  have J101 := Lib.hid j
  clear j
  have j : ∀ (W : World) (f t z : Nat × Nat) (gF : Nat) (gT : Nat), CpS w W AF cF AT cT AZ cZ lo hi F T Z → CpR W (w.heap.size + 1 + 1) f t z (some ⟨gF, 0, none⟩) 0 (some ⟨gT, 0, none⟩) 0 none 0 [] [] [] → R 6 #[true, true, true, false, true, true, true, false, false, true, true, false, false, false] ⟨#[pebV AF F.length cF AT T.length cT AZ Z.length cZ, .pointer (some ⟨w.heap.size, 0, none⟩), .pointer (some ⟨w.heap.size + 1, 0, none⟩), .slice (some ⟨gF, 0, none⟩) 0 0, .pointer (some ⟨w.heap.size, 0, none⟩), .slice AF F.length cF, undef, .slice (some ⟨gT, 0, none⟩) 0 0, .pointer (some ⟨w.heap.size, 1, none⟩), .slice AT T.length cT, undef, undef, .pointer (some ⟨w.heap.size, 2, none⟩), .slice AZ Z.length cZ, undef, undef], []⟩ W := by
    intro W f t z gF gT hc hr
    rw [hR]
    refine wpAnyH_ready (rs := [3, 8]) (by kernel_rfl) (by simp) (AllReadyH.cons rfl (fun K hK => ?_) (AllReadyH.cons rfl (fun K hK => ?_) AllReadyH.nil))
    · refine step_copyR (by rfl) _ _ (by rfl) gF f.1 f.2 AF F cF lo hi (by rfl) (by rfl) hr.own.1 hc.src.f hF ?_
      intro AF' cF' W' r ho hl hb
      have C2 := Lib.hid (hc.below hb)
      have R2 := Lib.hid (hr.newF hb ho hl)
      clear hb hc hr ho hl
      refine hK.out _ _ C2.out.cells (fun _ => ?_)
      clear hK K
      exact as_of hR (J210.out W' r t z gF AF' cF' gT C2.out R2.out)
    · have hb := new_below W (.cells #[] 3)
      have C2 := Lib.hid (hc.below hb)
      have R2 := Lib.hid (hr.newZ (z' := (W.heap.size, W.heap.size + 1)) hb (ownR_empty W) (.inr (Nat.le_refl _)))
      clear hb hc hr
      go_simp
      refine hK.out _ _ C2.out.cells (fun _ => ?_)
      clear hK K
      exact as_of hR (J111.out (W.alloc (.cells #[] 3)) f t (W.heap.size, W.heap.size + 1) gF gT W.heap.size C2.out R2.out)
  have J110 := Lib.hid j
  clear j
  have j : ∀ (W : World) (f t z : Nat × Nat) (gF : Nat) (AF' : Option Addr) (cF' : Nat), CpS w W AF cF AT cT AZ cZ lo hi F T Z → CpR W (w.heap.size + 1 + 1) f t z AF' cF' none 0 none 0 F [] [] → R 6 #[true, true, true, true, false, true, true, false, false, true, true, false, false, false] ⟨#[pebV AF F.length cF AT T.length cT AZ Z.length cZ, .pointer (some ⟨w.heap.size, 0, none⟩), .pointer (some ⟨w.heap.size + 1, 0, none⟩), .slice (some ⟨gF, 0, none⟩) 0 0, .pointer (some ⟨w.heap.size, 0, none⟩), .slice AF F.length cF, .slice AF' F.length cF', undef, .pointer (some ⟨w.heap.size, 1, none⟩), .slice AT T.length cT, undef, undef, .pointer (some ⟨w.heap.size, 2, none⟩), .slice AZ Z.length cZ, undef, undef], []⟩ W := by
    intro W f t z gF AF' cF' hc hr
    rw [hR]
    refine wpAnyH_ready (rs := [4, 8]) (by kernel_rfl) (by simp) (AllReadyH.cons rfl (fun K hK => ?_) (AllReadyH.cons rfl (fun K hK => ?_) AllReadyH.nil))
    · have hb := new_below W (.cells #[] 3)
      have C2 := Lib.hid (hc.below hb)
      have R2 := Lib.hid (hr.newT (t' := (W.heap.size, W.heap.size + 1)) hb (ownR_empty W) (.inr (Nat.le_refl _)))
      clear hb hc hr
      go_simp
      refine hK.out _ _ C2.out.cells (fun _ => ?_)
      clear hK K
      exact as_of hR (J210.out (W.alloc (.cells #[] 3)) f (W.heap.size, W.heap.size + 1) z gF AF' cF' W.heap.size C2.out R2.out)
    · have hb := new_below W (.cells #[] 3)
      have C2 := Lib.hid (hc.below hb)
      have R2 := Lib.hid (hr.newZ (z' := (W.heap.size, W.heap.size + 1)) hb (ownR_empty W) (.inr (Nat.le_refl _)))
      clear hb hc hr
      go_simp
      refine hK.out _ _ C2.out.cells (fun _ => ?_)
      clear hK K
      exact as_of hR (J201.out (W.alloc (.cells #[] 3)) f t (W.heap.size, W.heap.size + 1) gF AF' cF' W.heap.size C2.out R2.out)
  have J200 := Lib.hid j
  clear j
  have j : ∀ (W : World) (f t z : Nat × Nat) (gZ : Nat), CpS w W AF cF AT cT AZ cZ lo hi F T Z → CpR W (w.heap.size + 1 + 1) f t z none 0 none 0 (some ⟨gZ, 0, none⟩) 0 [] [] [] → R 7 #[false, true, true, false, false, true, true, false, true, true, true, false, false, false] ⟨#[pebV AF F.length cF AT T.length cT AZ Z.length cZ, .pointer (some ⟨w.heap.size, 0, none⟩), .pointer (some ⟨w.heap.size + 1, 0, none⟩), undef, .pointer (some ⟨w.heap.size, 0, none⟩), .slice AF F.length cF, undef, undef, .pointer (some ⟨w.heap.size, 1, none⟩), .slice AT T.length cT, undef, .slice (some ⟨gZ, 0, none⟩) 0 0, .pointer (some ⟨w.heap.size, 2, none⟩), .slice AZ Z.length cZ, undef, undef], []⟩ W := by
    intro W f t z gZ hc hr
    rw [hR]
    refine wpAnyH_ready (rs := [0, 4]) (by kernel_rfl) (by simp) (AllReadyH.cons rfl (fun K hK => ?_) (AllReadyH.cons rfl (fun K hK => ?_) AllReadyH.nil))
    · have hb := new_below W (.cells #[] 3)
      have C2 := Lib.hid (hc.below hb)
      have R2 := Lib.hid (hr.newF (f' := (W.heap.size, W.heap.size + 1)) hb (ownR_empty W) (.inr (Nat.le_refl _)))
      clear hb hc hr
      go_simp
      refine hK.out _ _ C2.out.cells (fun _ => ?_)
      clear hK K
      exact as_of hR (J101.out (W.alloc (.cells #[] 3)) (W.heap.size, W.heap.size + 1) t z W.heap.size gZ C2.out R2.out)
    · have hb := new_below W (.cells #[] 3)
      have C2 := Lib.hid (hc.below hb)
      have R2 := Lib.hid (hr.newT (t' := (W.heap.size, W.heap.size + 1)) hb (ownR_empty W) (.inr (Nat.le_refl _)))
      clear hb hc hr
      go_simp
      refine hK.out _ _ C2.out.cells (fun _ => ?_)
      clear hK K
      exact as_of hR (J011.out (W.alloc (.cells #[] 3)) f (W.heap.size, W.heap.size + 1) z W.heap.size gZ C2.out R2.out)
  have J001 := Lib.hid j
  clear j
  have j : ∀ (W : World) (f t z : Nat × Nat) (gT : Nat), CpS w W AF cF AT cT AZ cZ lo hi F T Z → CpR W (w.heap.size + 1 + 1) f t z none 0 (some ⟨gT, 0, none⟩) 0 none 0 [] [] [] → R 7 #[false, true, true, false, true, true, true, false, false, true, true, false, false, false] ⟨#[pebV AF F.length cF AT T.length cT AZ Z.length cZ, .pointer (some ⟨w.heap.size, 0, none⟩), .pointer (some ⟨w.heap.size + 1, 0, none⟩), undef, .pointer (some ⟨w.heap.size, 0, none⟩), .slice AF F.length cF, undef, .slice (some ⟨gT, 0, none⟩) 0 0, .pointer (some ⟨w.heap.size, 1, none⟩), .slice AT T.length cT, undef, undef, .pointer (some ⟨w.heap.size, 2, none⟩), .slice AZ Z.length cZ, undef, undef], []⟩ W := by
    intro W f t z gT hc hr
    rw [hR]
    refine wpAnyH_ready (rs := [0, 8]) (by kernel_rfl) (by simp) (AllReadyH.cons rfl (fun K hK => ?_) (AllReadyH.cons rfl (fun K hK => ?_) AllReadyH.nil))
    · have hb := new_below W (.cells #[] 3)
      have C2 := Lib.hid (hc.below hb)
      have R2 := Lib.hid (hr.newF (f' := (W.heap.size, W.heap.size + 1)) hb (ownR_empty W) (.inr (Nat.le_refl _)))
      clear hb hc hr
      go_simp
      refine hK.out _ _ C2.out.cells (fun _ => ?_)
      clear hK K
      exact as_of hR (J110.out (W.alloc (.cells #[] 3)) (W.heap.size, W.heap.size + 1) t z W.heap.size gT C2.out R2.out)
    · have hb := new_below W (.cells #[] 3)
      have C2 := Lib.hid (hc.below hb)
      have R2 := Lib.hid (hr.newZ (z' := (W.heap.size, W.heap.size + 1)) hb (ownR_empty W) (.inr (Nat.le_refl _)))
      clear hb hc hr
      go_simp
      refine hK.out _ _ C2.out.cells (fun _ => ?_)
      clear hK K
      exact as_of hR (J011.out (W.alloc (.cells #[] 3)) f t (W.heap.size, W.heap.size + 1) gT W.heap.size C2.out R2.out)
  have J010 := Lib.hid j
  clear j
  have j : ∀ (W : World) (f t z : Nat × Nat) (gF : Nat), CpS w W AF cF AT cT AZ cZ lo hi F T Z → CpR W (w.heap.size + 1 + 1) f t z (some ⟨gF, 0, none⟩) 0 none 0 none 0 [] [] [] → R 7 #[true, true, true, false, false, true, true, false, false, true, true, false, false, false] ⟨#[pebV AF F.length cF AT T.length cT AZ Z.length cZ, .pointer (some ⟨w.heap.size, 0, none⟩), .pointer (some ⟨w.heap.size + 1, 0, none⟩), .slice (some ⟨gF, 0, none⟩) 0 0, .pointer (some ⟨w.heap.size, 0, none⟩), .slice AF F.length cF, undef, undef, .pointer (some ⟨w.heap.size, 1, none⟩), .slice AT T.length cT, undef, undef, .pointer (some ⟨w.heap.size, 2, none⟩), .slice AZ Z.length cZ, undef, undef], []⟩ W := by
    intro W f t z gF hc hr
    rw [hR]
    refine wpAnyH_ready (rs := [3, 4, 8]) (by kernel_rfl) (by simp) (AllReadyH.cons rfl (fun K hK => ?_) (AllReadyH.cons rfl (fun K hK => ?_) (AllReadyH.cons rfl (fun K hK => ?_) AllReadyH.nil)))
    · refine step_copyR (by rfl) _ _ (by rfl) gF f.1 f.2 AF F cF lo hi (by rfl) (by rfl) hr.own.1 hc.src.f hF ?_
      intro AF' cF' W' r ho hl hb
      have C2 := Lib.hid (hc.below hb)
      have R2 := Lib.hid (hr.newF hb ho hl)
      clear hb hc hr ho hl
      refine hK.out _ _ C2.out.cells (fun _ => ?_)
      clear hK K
      exact as_of hR (J200.out W' r t z gF AF' cF' C2.out R2.out)
    · have hb := new_below W (.cells #[] 3)
      have C2 := Lib.hid (hc.below hb)
      have R2 := Lib.hid (hr.newT (t' := (W.heap.size, W.heap.size + 1)) hb (ownR_empty W) (.inr (Nat.le_refl _)))
      clear hb hc hr
      go_simp
      refine hK.out _ _ C2.out.cells (fun _ => ?_)
      clear hK K
      exact as_of hR (J110.out (W.alloc (.cells #[] 3)) f (W.heap.size, W.heap.size + 1) z gF W.heap.size C2.out R2.out)
    · have hb := new_below W (.cells #[] 3)
      have C2 := Lib.hid (hc.below hb)
      have R2 := Lib.hid (hr.newZ (z' := (W.heap.size, W.heap.size + 1)) hb (ownR_empty W) (.inr (Nat.le_refl _)))
      clear hb hc hr
      go_simp
      refine hK.out _ _ C2.out.cells (fun _ => ?_)
      clear hK K
      exact as_of hR (J101.out (W.alloc (.cells #[] 3)) f t (W.heap.size, W.heap.size + 1) gF W.heap.size C2.out R2.out)
  have J100 := Lib.hid j
  clear j
  have j : ∀ (W : World) (f t z : Nat × Nat), CpS w W AF cF AT cT AZ cZ lo hi F T Z → CpR W (w.heap.size + 1 + 1) f t z none 0 none 0 none 0 [] [] [] → R 8 #[false, true, true, false, false, true, true, false, false, true, true, false, false, false] ⟨#[pebV AF F.length cF AT T.length cT AZ Z.length cZ, .pointer (some ⟨w.heap.size, 0, none⟩), .pointer (some ⟨w.heap.size + 1, 0, none⟩), undef, .pointer (some ⟨w.heap.size, 0, none⟩), .slice AF F.length cF, undef, undef, .pointer (some ⟨w.heap.size, 1, none⟩), .slice AT T.length cT, undef, undef, .pointer (some ⟨w.heap.size, 2, none⟩), .slice AZ Z.length cZ, undef, undef], []⟩ W := by
    intro W f t z  hc hr
    rw [hR]
    refine wpAnyH_ready (rs := [0, 4, 8]) (by kernel_rfl) (by simp) (AllReadyH.cons rfl (fun K hK => ?_) (AllReadyH.cons rfl (fun K hK => ?_) (AllReadyH.cons rfl (fun K hK => ?_) AllReadyH.nil)))
    · have hb := new_below W (.cells #[] 3)
      have C2 := Lib.hid (hc.below hb)
      have R2 := Lib.hid (hr.newF (f' := (W.heap.size, W.heap.size + 1)) hb (ownR_empty W) (.inr (Nat.le_refl _)))
      clear hb hc hr
      go_simp
      refine hK.out _ _ C2.out.cells (fun _ => ?_)
      clear hK K
      exact as_of hR (J100.out (W.alloc (.cells #[] 3)) (W.heap.size, W.heap.size + 1) t z W.heap.size C2.out R2.out)
    · have hb := new_below W (.cells #[] 3)
      have C2 := Lib.hid (hc.below hb)
      have R2 := Lib.hid (hr.newT (t' := (W.heap.size, W.heap.size + 1)) hb (ownR_empty W) (.inr (Nat.le_refl _)))
      clear hb hc hr
      go_simp
      refine hK.out _ _ C2.out.cells (fun _ => ?_)
      clear hK K
      exact as_of hR (J010.out (W.alloc (.cells #[] 3)) f (W.heap.size, W.heap.size + 1) z W.heap.size C2.out R2.out)
    · have hb := new_below W (.cells #[] 3)
      have C2 := Lib.hid (hc.below hb)
      have R2 := Lib.hid (hr.newZ (z' := (W.heap.size, W.heap.size + 1)) hb (ownR_empty W) (.inr (Nat.le_refl _)))
      clear hb hc hr
      go_simp
      refine hK.out _ _ C2.out.cells (fun _ => ?_)
      clear hK K
      exact as_of hR (J001.out (W.alloc (.cells #[] 3)) f t (W.heap.size, W.heap.size + 1) W.heap.size C2.out R2.out)
  have J000 := Lib.hid j
  clear j
  exact J000.out WD _ _ _ CD.out CR.out
end Go.Proofs.Ytdkpmaahinbhlaa
/- What spec.l4Shift answers: a copy of the state where a pebble moved and a path was turned round. No condition. -/
namespace Go.Proofs.Ytdkpmaahinbhlaa
open Go.RowKit

/-- What stands while the path is turned in the copy: what is read, the copy's box, the copy's rows. -/
structure ShL (w wr : World) (p : Int) (A : Option Addr) (cap : Nat) (l : List (Int × Int)) (AF AT AZ : Option Addr) (cF cT cZ lo hi : Nat) (F T Z : List Int) (bx gF dF gT dT : Nat) (BZ : Option Addr) (dZ : Nat) (z : Nat × Nat) (lf hf : Nat) (Af : Option Addr) (FR G T' : List Int) : Prop where
  g : GtI w wr p A cap l AF AT AZ cF cT cZ lo hi F T Z
  x : Cel3 wr bx 31 (.slice (some ⟨gF, 0, none⟩) F.length dF) (.slice (some ⟨gT, 0, none⟩) T.length dT) (.slice BZ Z.length dZ)
  s : St3 wr 0 gF dF gT dT BZ dZ z.1 z.2 G T' Z
  fr : IntsIn wr lf hf Af FR
  oz : OwnR wr z.1 z.2 BZ dZ Z
theorem ShL.below {w wr : World} {p : Int} {A : Option Addr} {cap : Nat} {l : List (Int × Int)} {AF AT AZ : Option Addr} {cF cT cZ lo hi : Nat} {F T Z : List Int} {bx gF dF gT dT : Nat} {BZ : Option Addr} {dZ : Nat} {z : Nat × Nat} {lf hf : Nat} {Af : Option Addr} {FR G T' : List Int} {w' : World} (h : ShL w wr p A cap l AF AT AZ cF cT cZ lo hi F T Z bx gF dF gT dT BZ dZ z lf hf Af FR G T') (hb : Below wr.heap.size wr w') : ShL w w' p A cap l AF AT AZ cF cT cZ lo hi F T Z bx gF dF gT dT BZ dZ z lf hf Af FR G T' :=
  ⟨h.g.below hb, h.x.kept hb, h.s.below hb, h.fr.within (within_of hb) (.inr (Nat.zero_le _)), h.oz.within (within_of hb) (.inr (Nat.zero_le _))⟩
theorem ShL.setT {w wr : World} {p : Int} {A : Option Addr} {cap : Nat} {l : List (Int × Int)} {AF AT AZ : Option Addr} {cF cT cZ lo hi : Nat} {F T Z : List Int} {bx gF dF gT dT : Nat} {BZ : Option Addr} {dZ : Nat} {z : Nat × Nat} {lf hf : Nat} {Af : Option Addr} {FR G T' : List Int} (h : ShL w wr p A cap l AF AT AZ cF cT cZ lo hi F T Z bx gF dF gT dT BZ dZ z lf hf Af FR G T') (h1 : w.heap.size + 3 ≤ gT) (h2 : hi ≤ gT) (h3 : hf ≤ gT) (h4 : gT ≠ bx) (h5 : gT < z.1 ∨ z.2 ≤ gT) (i : Nat) (v : Int) : ShL w (wr.setCell ⟨gT, i, none⟩ (.int .i64 v)) p A cap l AF AT AZ cF cT cZ lo hi F T Z bx gF dF gT dT BZ dZ z lf hf Af FR G (T'.set i v) := by
  have hw := within_set wr gT i (.int .i64 v)
  exact ⟨h.g.within hw h1 h2, h.x.within hw (by omega), h.s.setT i v, h.fr.within hw (by omega), h.oz.within hw (by omega)⟩

set_option maxHeartbeats 4000000 in
set_option maxRecDepth 100000 in
theorem shift_c (P : Nat) (l : List (Int × Int)) (A : Option Addr) (cap : Nat) (AF AT AZ : Option Addr) (cF cT cZ lo hi : Nat) (F T Z : List Int) (a u : Int) (q : List (Int × Nat)) (TF FR : List Int) (Af : Option Addr) (cf lf hf : Nat) (w : World) (hl : BarsAt w w.heap.size A l) (h : Peb3 w lo hi AF AT AZ F T Z) (hn : l.length ≤ 24) (hFP : F.length = P) (hP : 1 ≤ P ∧ P ≤ 8) (hTZ : T.length = Z.length) (hZ24 : Z.length ≤ 24)
    (hZ : ∀ i, i < Z.length → 0 ≤ Z.getD i 0 ∧ Z.getD i 0 < (l.length : Int)) (hq : TurnI P (plE l Z) T a q TF u T) (hfr : IntsIn w lf hf Af FR) (hFR : FR.length = P) (hfq : ∀ x ∈ q, x.1 ≠ a → FR.getD x.1.toNat 0 = (x.2 : Int)) (ha : 0 ≤ a ∧ a < (P : Int)) (hu : 0 ≤ u ∧ u < (P : Int)) (hua : u ≠ a) (hFu : 0 ≤ F.getD u.toNat 0 ∧ F.getD u.toNat 0 ≤ 3) (hFa : 0 ≤ F.getD a.toNat 0 ∧ F.getD a.toNat 0 ≤ 3) :
    Calls Try.prog 227 #[.agg #[.int .i64 (P : Int), .slice A l.length cap], pebV AF F.length cF AT T.length cT AZ Z.length cZ, .slice Af FR.length cf, .int .i64 a, .int .i64 u] w (PebR w (movF F a u) TF Z) := by
  obtain ⟨an, rfl⟩ : ∃ an : Nat, a = (an : Int) := ⟨a.toNat, by omega⟩
  obtain ⟨un, rfl⟩ : ∃ un : Nat, u = (un : Int) := ⟨u.toNat, by omega⟩
  rw [Int.toNat_natCast] at hFu hFa
  subst hFP
  have hT0 : 0 < T.length := by
    obtain ⟨i, _, hi, _⟩ := hq.next hua
    rw [plE_len] at hi
    omega
  have hT24 : T.length ≤ 24 := by omega
  have HTZ := Lib.hid hTZ
  have HFL := Lib.hid hFR
  clear hTZ hFR
  have hhi : hi ≤ w.heap.size := h.f.1
  have hhf : hf ≤ w.heap.size := hfr.1
  have HI0 := Lib.hid (GtI.start w (F.length : Int) A cap l AF AT AZ cF cT cZ lo hi F T Z hl h)
  have HFR0 := Lib.hid (hfr.within (within_of HI0.out.bel) (.inr (Nat.zero_le _)))
  have HQ := Lib.hid hq
  have HZ := Lib.hid hZ
  have HFQ := Lib.hid hfq
  have HE := Lib.hid (fun i hi => plE_get l Z i hi)
  have HEL := Lib.hid (plE_len l Z)
  generalize plE l Z = E at *
  obtain ⟨g0, g1, g2, _, _, _⟩ := HI0.out.pb.cells
  clear hl h hfr hq hZ hfq
  go_enter Try.func227, Try.ntmps227
  have hsz3 : (((w.alloc (.cells #[.int .i64 (F.length : Int), .slice A l.length cap] 26)).alloc (.cells #[.slice AF F.length cF, .slice AT T.length cT, .slice AZ Z.length cZ] 31)).alloc (.cells #[.slice none 0 0, .slice none 0 0, .slice none 0 0] 31)).heap.size = w.heap.size + 3 := by simp
  go_wp2_with (go_at_call 126; refine (copyPeb_c AF AT AZ cF cT cZ lo hi F T Z _ HI0.out.src (by omega) (by omega) (by omega)).mono ?_; rintro e w4 ⟨BF, dF, BT, dT, BZ, dZ, rfl, ho, hb⟩; have hb5 := new_below w4 (.cells #[.slice BF F.length dF, .slice BT T.length dT, .slice BZ Z.length dZ] 31); have HI5 := Lib.hid ((HI0.out.below hb).below hb5); have HX5 := Lib.hid (cel3_new w4 (.slice BF F.length dF) (.slice BT T.length dT) (.slice BZ Z.length dZ) 31); have HFR5 := Lib.hid ((HFR0.out.within (within_of hb) (.inr (Nat.zero_le _))).within (within_of hb5) (.inr (Nat.zero_le _))); obtain ⟨f, t, z, hof, y1, y2, y3⟩ := ho.ownF; have HO5 := Lib.hid (hof.below hb5); have hh4 := hof.hi; clear hof; have hlo := hb.size; rw [hsz3] at hlo y1 y2 y3; obtain ⟨x2, x3, x4, _, _, _⟩ := HX5.out.cells; clear ho hb hb5 g0 g1 g2)
  clear x2 x3 x4
  have HIS := Lib.hid hsz3
  clear hsz3
  generalize hw5 : (w4.alloc (.cells #[.slice BF F.length dF, .slice BT T.length dT, .slice BZ Z.length dZ] 31)) = w5 at *
  have hs5 : w4.heap.size < w5.heap.size := by rw [← hw5]; simp
  clear hw5
  generalize w4.heap.size = bx at *
  obtain ⟨gF, gT, rfl, rfl, bF, bT, hst⟩ := HO5.out.open_ (by omega) hT0
  have HOZ := Lib.hid HO5.out.2.2
  obtain ⟨hc1, hf1⟩ := hst.cellF un (by omega)
  obtain ⟨d, hd⟩ : ∃ d, d = F.getD un 0 := ⟨_, rfl⟩
  obtain ⟨e, he⟩ : ∃ e, e = F.getD an 0 := ⟨_, rfl⟩
  have hne : an ≠ un := by omega
  have hst1 := hst.setF un (d - 1)
  have HEE := Lib.hid he
  rw [← hd] at hc1 hFu
  rw [← he] at hFa
  have HMV := Lib.hid (show (F.set un (d - 1)).set an (e + 1) = movF F (an : Int) (un : Int) by unfold movF; rw [Int.toNat_natCast, Int.toNat_natCast, hd, he])
  clear hd he
  have hw1 := within_set w5 gF un (.int .i64 (d - 1))
  have hdr : Below (w5.setCell ⟨gF, un, none⟩ (.int .i64 (d - 1))).heap.size (w5.setCell ⟨gF, un, none⟩ (.int .i64 (d - 1))) (w5.setCell ⟨gF, un, none⟩ (.int .i64 (d - 1))).drew := (Below.refl _ _).drew
  obtain ⟨x0, x1, x2, _, _, _⟩ := HX5.out.cells
  have HI6 := Lib.hid ((HI5.out.within hw1 (by omega) (by omega)).below hdr)
  have HX6 := Lib.hid ((HX5.out.within hw1 (by omega)).kept hdr)
  have HST6 := Lib.hid (hst1.below hdr)
  have HFR6 := Lib.hid ((HFR5.out.within hw1 (by omega)).within (within_of hdr) (.inr (Nat.zero_le _)))
  have HOZ6 := Lib.hid ((HOZ.out.1.within hw1 (by have := HOZ.out.2; unfold Dis at this; omega)).within (within_of hdr) (.inr (Nat.zero_le _)))
  have HZR := Lib.hid HOZ.out.2
  have hs6 := Nat.le_trans hw1.size hdr.size
  clear hst hst1 hw1 hdr HOZ
  have huF : (un : Int) < (F.length : Int) := hu.2
  have haF : (an : Int) < (F.length : Int) := ha.2
  go_region
  go_wp2_with fail
  clear x0 x1 x2 hc1 hf1
  generalize (w5.setCell ⟨gF, un, none⟩ (.int .i64 (d - 1))).drew = w6 at *
  obtain ⟨x0, x1, x2, _, _, _⟩ := HX6.out.cells
  obtain ⟨hc2, hf2⟩ := HST6.out.cellF an (by rw [List.length_set]; omega)
  rw [set_getD_ne _ _ _ _ _ hne, ← HEE.out] at hc2
  have hw2 := within_set w6 gF an (.int .i64 (e + 1))
  have hdr2 : Below (w6.setCell ⟨gF, an, none⟩ (.int .i64 (e + 1))).heap.size (w6.setCell ⟨gF, an, none⟩ (.int .i64 (e + 1))) (w6.setCell ⟨gF, an, none⟩ (.int .i64 (e + 1))).drew := (Below.refl _ _).drew
  have hst7 := (HST6.out.setF an (e + 1)).below hdr2
  rw [HMV.out] at hst7
  have HS7 := Lib.hid (show ShL w (w6.setCell ⟨gF, an, none⟩ (.int .i64 (e + 1))).drew (F.length : Int) A cap l AF AT AZ cF cT cZ lo hi F T Z bx gF dF gT dT BZ dZ z lf hf Af FR (movF F (an : Int) (un : Int)) T from ⟨(HI6.out.within hw2 (by omega) (by omega)).below hdr2, (HX6.out.within hw2 (by omega)).kept hdr2, hst7, (HFR6.out.within hw2 (by omega)).within (within_of hdr2) (.inr (Nat.zero_le _)), (HOZ6.out.within hw2 (by have := HZR.out; unfold Dis at this; omega)).within (within_of hdr2) (.inr (Nat.zero_le _))⟩)
  have hs7 := Nat.le_trans hw2.size hdr2.size
  clear hst7 hw2 hdr2 HI6 HX6 HST6 HFR6 HOZ6 HMV HEE
  go_region
  go_wp2_with fail
  clear x0 x1 x2 hc2 hf2
  generalize (w6.setCell ⟨gF, an, none⟩ (.int .i64 (e + 1))).drew = w7 at *
  go_loopw [12] (fun v wr => ∃ (t : Int) (T' : List Int), v = .int .i64 t ∧ TurnI F.length E T (an : Int) q TF t T' ∧ w5.heap.size ≤ wr.heap.size ∧ ShL w wr (F.length : Int) A cap l AF AT AZ cF cT cZ lo hi F T Z bx gF dF gT dT BZ dZ z lf hf Af FR (movF F (an : Int) (un : Int)) T') (fun v _ => posQ q (intOf v))
  case atStart => exact ⟨un, T, rfl, HQ.out, by omega, HS7.out⟩
  case round =>
    obtain ⟨t, T', rfl, ht, hsz, hs⟩ := hrel
    have HS := Lib.hid hs
    obtain ⟨x0, x1, x2, _, _, _⟩ := hs.x.cells
    clear hs HS7
    by_cases c : t = (an : Int)
    · subst c
      have HTF := Lib.hid ht.done
      have hlen := ht.len
      clear ht
      have e1 : ((an : Int) != (an : Int)) = false := by simp
      have r3 := ret3 HS.out.g.rb (.slice (some ⟨gF, 0, none⟩) F.length dF) (.slice (some ⟨gT, 0, none⟩) T.length dT) (.slice BZ Z.length dZ)
      obtain ⟨_, _, _, f0, f1, f2⟩ := HS.out.g.rb.cells
      obtain ⟨s0, s1, s2, _⟩ := r3.1.cells
      have HW := Lib.hid r3.2
      clear r3
      go_wp2_with fail
      refine bodyPost_ret (v := pebV (some ⟨gF, 0, none⟩) F.length dF (some ⟨gT, 0, none⟩) T.length dT BZ Z.length dZ) ?_ rfl ?_
      · simp [results, Try.results227, go_sem, s0, s1, s2]
      · have hd := HZR.out
        unfold Dis at hd
        have ho := HS.out.s.ownF bF bT (by omega) (by omega) HS.out.oz hd.1 hd.2.1 hd.2.2
        have hw := HW.out.size
        have hTF : TF.length = T.length := by rw [← HTF.out, hlen, HEL.out, HTZ.out]
        rw [HTF.out] at ho
        exact ⟨_, _, _, _, _, _, by rw [movF_len, hTF], (ho.within HW.out (by omega) (by omega) (by omega)).own3R (by omega) (by omega) (by omega) (Nat.le_refl _), within_on HS.out.g.bel HW.out HS.out.g.bel.size (.inl (by omega))⟩
    · have e1 : (t != (an : Int)) = true := by simpa using c
      obtain ⟨i, hi1, hi2, hi3, hi4, hend, hor, hi5, hi6⟩ := ht.next c
      have HX := Lib.hid hi5
      have HM := Lib.hid hi6
      have hEi := HE.out i (by have := HEL.out; omega)
      have hbar := ht.ends.bar i hi2
      have hfi := HFQ.out (t, i) hi1 c
      have hiZ : i < Z.length := by have := HEL.out; omega
      have hlen := ht.len
      clear ht hi1 hi4 hi5 hi6 c
      obtain ⟨tn, rfl⟩ : ∃ tn : Nat, t = (tn : Int) := ⟨t.toNat, by omega⟩
      simp only [Int.toNat_natCast] at hfi
      obtain ⟨fb, fo, rfl, hfc⟩ := row_at HS.out.fr (by have := HFL.out; omega)
      have hfn := hfc tn (by have := HFL.out; omega)
      rw [hfi] at hfn
      obtain ⟨zb, zo, rfl, hzc⟩ := row_at HS.out.g.src.z (by omega)
      have hz := hzc i hiZ
      have hzr := HZ.out i hiZ
      obtain ⟨n, hnz⟩ : ∃ n : Nat, Z.getD i 0 = (n : Int) := ⟨(Z.getD i 0).toNat, by omega⟩
      rw [hnz] at hz hzr hEi
      rw [Int.toNat_natCast] at hEi
      obtain ⟨b, off, rfl, hbB, hbc⟩ := HS.out.g.bars.at (by omega)
      have hx1 := (hbc n (by omega)).1
      have hx2 := (hbc n (by omega)).2
      rw [← hEi] at hx1 hx2
      obtain ⟨v, hv⟩ : ∃ v, oth (E.getD i (0, 0)) (tn : Int) = v := ⟨_, rfl⟩
      obtain ⟨x, hxd⟩ : ∃ x, E.getD i (0, 0) = x := ⟨_, rfl⟩
      rw [hv] at HX HM hor
      rw [hxd] at hx1 hx2 hbar hend hv
      clear hEi hxd hzc hbc hfc hnz
      obtain ⟨x1', x2'⟩ := x
      simp only at hx1 hx2 hbar
      have HV := Lib.hid hv
      clear hv hend
      have htF : (tn : Int) < (FR.length : Int) := by have := HFL.out; omega
      have hiZi : (i : Int) < (Z.length : Int) := by omega
      have hnl : (n : Int) < (l.length : Int) := by omega
      have hiT : (i : Int) < (T.length : Int) := by have := HTZ.out; omega
      obtain ⟨_, gx0, gx1⟩ := HS.out.g.gb
      obtain ⟨p0, p1, p2, _, _, _⟩ := HS.out.g.pb.cells
      have HKK := Lib.hid (show (fun W' => W'.cell? ⟨w.heap.size, 1, none⟩ = some (.slice (some ⟨b, off, none⟩) l.length cap) ∧ W'.cell? ⟨w.heap.size + 1, 2, none⟩ = some (.slice (some ⟨zb, zo, none⟩) Z.length cZ) ∧ W'.cell? ⟨zb, zo + i, none⟩ = some (.int .i64 (n : Int)) ∧ W'.cell? ⟨b, off + n * 2, none⟩ = some (.int .i64 x1') ∧ W'.cell? ⟨b, off + n * 2 + 1, none⟩ = some (.int .i64 x2')) wr from ⟨gx1, p2, hz, hx1, hx2⟩)
      have HSD := Lib.hid (HS.out.below (Below.refl _ _).drew)
      go_wp2_with fail
      clear gx0 gx1 p0 p1 p2 x0 x1 x2
      go_region_held3 (fun W' => W'.cell? ⟨w.heap.size, 1, none⟩ = some (.slice (some ⟨b, off, none⟩) l.length cap) ∧ W'.cell? ⟨w.heap.size + 1, 2, none⟩ = some (.slice (some ⟨zb, zo, none⟩) Z.length cZ) ∧ W'.cell? ⟨zb, zo + i, none⟩ = some (.int .i64 (n : Int)) ∧ W'.cell? ⟨b, off + n * 2, none⟩ = some (.int .i64 x1') ∧ W'.cell? ⟨b, off + n * 2 + 1, none⟩ = some (.int .i64 x2'))
        (first | exact HKK.out | exact HK5.out | fail)
        (first | (go_at_call 226; refine (other_c (x1', x2') (tn : Int) _ (by omega) (by omega) (by omega)).mono ?_; rintro e w8 ⟨rfl, hb⟩; rw [HV.out]; have HS8 := Lib.hid (HSD.out.below hb); have hsz8 := hb.size; have HK5 := Lib.hid (show (fun W' => W'.cell? ⟨w.heap.size, 1, none⟩ = some (.slice (some ⟨b, off, none⟩) l.length cap) ∧ W'.cell? ⟨w.heap.size + 1, 2, none⟩ = some (.slice (some ⟨zb, zo, none⟩) Z.length cZ) ∧ W'.cell? ⟨zb, zo + i, none⟩ = some (.int .i64 (n : Int)) ∧ W'.cell? ⟨b, off + n * 2, none⟩ = some (.int .i64 x1') ∧ W'.cell? ⟨b, off + n * 2 + 1, none⟩ = some (.int .i64 x2')) w8 from ⟨HS8.out.g.gb.2.2, HS8.out.g.pb.cells.2.2.1, (hb.cell (p := ⟨zb, zo + i, none⟩) (World.block_lt_of_cell? _ _ HKK.out.2.2.1)).trans HKK.out.2.2.1, (hb.cell (p := ⟨b, off + n * 2, none⟩) (World.block_lt_of_cell? _ _ HKK.out.2.2.2.1)).trans HKK.out.2.2.2.1, (hb.cell (p := ⟨b, off + n * 2 + 1, none⟩) (World.block_lt_of_cell? _ _ HKK.out.2.2.2.2)).trans HKK.out.2.2.2.2⟩); clear hb))
      obtain ⟨y0, y1', y2', _, _, _⟩ := HS8.out.x.cells
      obtain ⟨hct, hft⟩ := HS8.out.s.cellT i (by omega)
      have hd := HZR.out
      unfold Dis at hd
      have HN := Lib.hid (HS8.out.setT (by omega) (by omega) (by omega) (by omega) (by omega) i (tn : Int))
      go_wp2_with fail
      go_roundw
      case rel => exact ⟨v, _, rfl, HX.out, by simpa using (by have : wr.drew.heap.size = wr.heap.size := rfl; omega), HN.out⟩
      case measure => exact HM.out
end Go.Proofs.Ytdkpmaahinbhlaa
/- What spec.IsPebbles answers. No condition. -/
namespace Go.Proofs.Ytdkpmaahinbhlaa
open Go.RowKit

set_option maxHeartbeats 8000000 in
set_option maxRecDepth 100000 in
theorem specIsPeb (p k : Int) (l : List (Int × Int)) (A : Option Addr) (cap : Nat) (AF AT AZ : Option Addr) (cF cT cZ lo hi : Nat) (F T Z : List Int) (w : World) (hl : BarsAt w w.heap.size A l) (h : Peb3 w lo hi AF AT AZ F T Z) (hn : l.length ≤ 1048576) (hF : F.length ≤ 1048576) (hT : T.length ≤ 1048576) (hZ : Z.length ≤ 1048576) (hw : WfI F) :
    Calls Try.prog 39 #[.agg #[.int .i64 p, .slice A l.length cap], .int .i64 k, pebV AF F.length cF AT T.length cT AZ Z.length cZ] w fun e w' => e = .returned (.bool (isPebB p k l F T Z)) ∧ Below w.heap.size w w' := by
  have HISG : ∀ W : World, BarsAt W W.heap.size A l → Calls Try.prog 118 #[.agg #[.int .i64 p, .slice A l.length cap]] W fun e w' => e = .returned (.bool (isGB p l)) ∧ Below W.heap.size W w' := fun W h => specIsGraph' p l A cap W h hn
  rcases hg : isGB p l with _ | _
  · skip
    rw [hg] at HISG
    have HR := Lib.hid (show isPebB p k l F T Z = false from isPebB_no fun hp => by rw [isGB_yes hp.1] at hg; cases hg)
    have hhi : hi ≤ w.heap.size := h.f.1
    have W0 := Lib.hid (Below.refl w.heap.size w)
    have HB_0 := Lib.hid (bars_in hl)
    have H_0 := Lib.hid (h)
    clear hl h
    have Z1 := Lib.hid (within_alloc w (.cells #[.int .i64 p, (.slice A l.length cap)] 26)).size
    have W1 := Lib.hid (within_on W0.out (within_alloc w (.cells #[.int .i64 p, (.slice A l.length cap)] 26)) W0.out.size (.inr (Nat.le_refl _)))
    have HB_1 := Lib.hid (HB_0.out.within (within_alloc w (.cells #[.int .i64 p, (.slice A l.length cap)] 26)) (by omega))
    have H_1 := Lib.hid (H_0.out.within (within_alloc w (.cells #[.int .i64 p, (.slice A l.length cap)] 26)) (by omega))
    have Y1 := Lib.hid (show (w.alloc (.cells #[.int .i64 p, (.slice A l.length cap)] 26)).heap.size = w.heap.size + 1 by simp)
    have hnew := box_new w p (.slice A l.length cap) 26
    have BX_1 := Lib.hid hnew
    clear hnew
    have Z2 := Lib.hid (within_alloc (w.alloc (.cells #[.int .i64 p, (.slice A l.length cap)] 26)) (.cells #[(.slice AF F.length cF), (.slice AT T.length cT), (.slice AZ Z.length cZ)] 31)).size
    have W2 := Lib.hid (within_on W1.out (within_alloc (w.alloc (.cells #[.int .i64 p, (.slice A l.length cap)] 26)) (.cells #[(.slice AF F.length cF), (.slice AT T.length cT), (.slice AZ Z.length cZ)] 31)) W1.out.size (.inr (Nat.le_refl _)))
    have HB_2 := Lib.hid (HB_1.out.within (within_alloc (w.alloc (.cells #[.int .i64 p, (.slice A l.length cap)] 26)) (.cells #[(.slice AF F.length cF), (.slice AT T.length cT), (.slice AZ Z.length cZ)] 31)) (by omega))
    have H_2 := Lib.hid (H_1.out.within (within_alloc (w.alloc (.cells #[.int .i64 p, (.slice A l.length cap)] 26)) (.cells #[(.slice AF F.length cF), (.slice AT T.length cT), (.slice AZ Z.length cZ)] 31)) (by omega))
    have BX_2 := Lib.hid (BX_1.out.within (within_alloc (w.alloc (.cells #[.int .i64 p, (.slice A l.length cap)] 26)) (.cells #[(.slice AF F.length cF), (.slice AT T.length cT), (.slice AZ Z.length cZ)] 31)) (by omega))
    have Y2 := Lib.hid (show ((w.alloc (.cells #[.int .i64 p, (.slice A l.length cap)] 26)).alloc (.cells #[(.slice AF F.length cF), (.slice AT T.length cT), (.slice AZ Z.length cZ)] 31)).heap.size = (w.alloc (.cells #[.int .i64 p, (.slice A l.length cap)] 26)).heap.size + 1 by simp)
    have hnew := cel3_new (w.alloc (.cells #[.int .i64 p, (.slice A l.length cap)] 26)) (.slice AF F.length cF) (.slice AT T.length cT) (.slice AZ Z.length cZ) 31
    rw [show (w.alloc (.cells #[.int .i64 p, (.slice A l.length cap)] 26)).heap.size = w.heap.size + 1 by simp] at hnew
    have GA_2 := Lib.hid hnew
    clear hnew
    go_enter Try.func39, Try.ntmps39
    obtain ⟨g0_0, g0_1, g0_2⟩ := BX_2.out
    obtain ⟨g1_0, g1_1, g1_2, g1_3, g1_4, g1_5⟩ := GA_2.out.cells
    go_wp2_with fail
    clear g0_0 g0_1 g0_2 g1_0 g1_1 g1_2 g1_3 g1_4 g1_5
    generalize ((w.alloc (.cells #[.int .i64 p, (.slice A l.length cap)] 26)).alloc (.cells #[(.slice AF F.length cF), (.slice AT T.length cT), (.slice AZ Z.length cZ)] 31)) = w2 at *
    generalize (w.alloc (.cells #[.int .i64 p, (.slice A l.length cap)] 26)) = w1 at *
    refine (HISG _ HB_2.out.at).mono ?_
    rintro e w3 ⟨rfl, hb⟩
    have Z3 := Lib.hid (within_of hb).size
    have W3 := Lib.hid (within_on W2.out (within_of hb) W2.out.size (.inr (Nat.le_refl _)))
    have HB_3 := Lib.hid (HB_2.out.within (within_of hb) (by omega))
    have H_3 := Lib.hid (H_2.out.within (within_of hb) (by omega))
    have BX_3 := Lib.hid (BX_2.out.within (within_of hb) (by omega))
    have GA_3 := Lib.hid (GA_2.out.within (within_of hb) (by omega))
    clear hb HISG
    go_wp2_with fail
    go_ret
    exact ⟨by rw [HR.out]; rfl, W3.out⟩
  · by_cases hkk : 1 ≤ k ∧ k ≤ 3
    case neg =>
      rw [hg] at HISG
      have hk : k < 1 ∨ 3 < k := by omega
      have HR := Lib.hid (show isPebB p k l F T Z = false from isPebB_no fun hp => by exact hkk hp.2.1)
      have hhi : hi ≤ w.heap.size := h.f.1
      have W0 := Lib.hid (Below.refl w.heap.size w)
      have HB_0 := Lib.hid (bars_in hl)
      have H_0 := Lib.hid (h)
      clear hl h
      have Z1 := Lib.hid (within_alloc w (.cells #[.int .i64 p, (.slice A l.length cap)] 26)).size
      have W1 := Lib.hid (within_on W0.out (within_alloc w (.cells #[.int .i64 p, (.slice A l.length cap)] 26)) W0.out.size (.inr (Nat.le_refl _)))
      have HB_1 := Lib.hid (HB_0.out.within (within_alloc w (.cells #[.int .i64 p, (.slice A l.length cap)] 26)) (by omega))
      have H_1 := Lib.hid (H_0.out.within (within_alloc w (.cells #[.int .i64 p, (.slice A l.length cap)] 26)) (by omega))
      have Y1 := Lib.hid (show (w.alloc (.cells #[.int .i64 p, (.slice A l.length cap)] 26)).heap.size = w.heap.size + 1 by simp)
      have hnew := box_new w p (.slice A l.length cap) 26
      have BX_1 := Lib.hid hnew
      clear hnew
      have Z2 := Lib.hid (within_alloc (w.alloc (.cells #[.int .i64 p, (.slice A l.length cap)] 26)) (.cells #[(.slice AF F.length cF), (.slice AT T.length cT), (.slice AZ Z.length cZ)] 31)).size
      have W2 := Lib.hid (within_on W1.out (within_alloc (w.alloc (.cells #[.int .i64 p, (.slice A l.length cap)] 26)) (.cells #[(.slice AF F.length cF), (.slice AT T.length cT), (.slice AZ Z.length cZ)] 31)) W1.out.size (.inr (Nat.le_refl _)))
      have HB_2 := Lib.hid (HB_1.out.within (within_alloc (w.alloc (.cells #[.int .i64 p, (.slice A l.length cap)] 26)) (.cells #[(.slice AF F.length cF), (.slice AT T.length cT), (.slice AZ Z.length cZ)] 31)) (by omega))
      have H_2 := Lib.hid (H_1.out.within (within_alloc (w.alloc (.cells #[.int .i64 p, (.slice A l.length cap)] 26)) (.cells #[(.slice AF F.length cF), (.slice AT T.length cT), (.slice AZ Z.length cZ)] 31)) (by omega))
      have BX_2 := Lib.hid (BX_1.out.within (within_alloc (w.alloc (.cells #[.int .i64 p, (.slice A l.length cap)] 26)) (.cells #[(.slice AF F.length cF), (.slice AT T.length cT), (.slice AZ Z.length cZ)] 31)) (by omega))
      have Y2 := Lib.hid (show ((w.alloc (.cells #[.int .i64 p, (.slice A l.length cap)] 26)).alloc (.cells #[(.slice AF F.length cF), (.slice AT T.length cT), (.slice AZ Z.length cZ)] 31)).heap.size = (w.alloc (.cells #[.int .i64 p, (.slice A l.length cap)] 26)).heap.size + 1 by simp)
      have hnew := cel3_new (w.alloc (.cells #[.int .i64 p, (.slice A l.length cap)] 26)) (.slice AF F.length cF) (.slice AT T.length cT) (.slice AZ Z.length cZ) 31
      rw [show (w.alloc (.cells #[.int .i64 p, (.slice A l.length cap)] 26)).heap.size = w.heap.size + 1 by simp] at hnew
      have GA_2 := Lib.hid hnew
      clear hnew
      go_enter Try.func39, Try.ntmps39
      obtain ⟨g0_0, g0_1, g0_2⟩ := BX_2.out
      obtain ⟨g1_0, g1_1, g1_2, g1_3, g1_4, g1_5⟩ := GA_2.out.cells
      go_wp2_with fail
      clear g0_0 g0_1 g0_2 g1_0 g1_1 g1_2 g1_3 g1_4 g1_5
      generalize ((w.alloc (.cells #[.int .i64 p, (.slice A l.length cap)] 26)).alloc (.cells #[(.slice AF F.length cF), (.slice AT T.length cT), (.slice AZ Z.length cZ)] 31)) = w2 at *
      generalize (w.alloc (.cells #[.int .i64 p, (.slice A l.length cap)] 26)) = w1 at *
      refine (HISG _ HB_2.out.at).mono ?_
      rintro e w3 ⟨rfl, hb⟩
      have Z3 := Lib.hid (within_of hb).size
      have W3 := Lib.hid (within_on W2.out (within_of hb) W2.out.size (.inr (Nat.le_refl _)))
      have HB_3 := Lib.hid (HB_2.out.within (within_of hb) (by omega))
      have H_3 := Lib.hid (H_2.out.within (within_of hb) (by omega))
      have BX_3 := Lib.hid (BX_2.out.within (within_of hb) (by omega))
      have GA_3 := Lib.hid (GA_2.out.within (within_of hb) (by omega))
      clear hb HISG
      go_wp2_with fail
      refine (l1In_no k 1 3 _ hk).mono ?_
      rintro e w9 ⟨rfl, rfl⟩
      go_wp2_with fail
      go_ret
      exact ⟨by rw [HR.out]; rfl, W3.out⟩
    by_cases hfp : (F.length : Int) = p
    case neg =>
      rw [hg] at HISG
      have hk : 1 ≤ k ∧ k ≤ 3 := hkk
      have hne : ((F.length : Int) == p) = false := by simpa using hfp
      have HR := Lib.hid (show isPebB p k l F T Z = false from isPebB_no fun hp => by exact hfp hp.2.2.1)
      have hhi : hi ≤ w.heap.size := h.f.1
      have W0 := Lib.hid (Below.refl w.heap.size w)
      have HB_0 := Lib.hid (bars_in hl)
      have H_0 := Lib.hid (h)
      clear hl h
      have Z1 := Lib.hid (within_alloc w (.cells #[.int .i64 p, (.slice A l.length cap)] 26)).size
      have W1 := Lib.hid (within_on W0.out (within_alloc w (.cells #[.int .i64 p, (.slice A l.length cap)] 26)) W0.out.size (.inr (Nat.le_refl _)))
      have HB_1 := Lib.hid (HB_0.out.within (within_alloc w (.cells #[.int .i64 p, (.slice A l.length cap)] 26)) (by omega))
      have H_1 := Lib.hid (H_0.out.within (within_alloc w (.cells #[.int .i64 p, (.slice A l.length cap)] 26)) (by omega))
      have Y1 := Lib.hid (show (w.alloc (.cells #[.int .i64 p, (.slice A l.length cap)] 26)).heap.size = w.heap.size + 1 by simp)
      have hnew := box_new w p (.slice A l.length cap) 26
      have BX_1 := Lib.hid hnew
      clear hnew
      have Z2 := Lib.hid (within_alloc (w.alloc (.cells #[.int .i64 p, (.slice A l.length cap)] 26)) (.cells #[(.slice AF F.length cF), (.slice AT T.length cT), (.slice AZ Z.length cZ)] 31)).size
      have W2 := Lib.hid (within_on W1.out (within_alloc (w.alloc (.cells #[.int .i64 p, (.slice A l.length cap)] 26)) (.cells #[(.slice AF F.length cF), (.slice AT T.length cT), (.slice AZ Z.length cZ)] 31)) W1.out.size (.inr (Nat.le_refl _)))
      have HB_2 := Lib.hid (HB_1.out.within (within_alloc (w.alloc (.cells #[.int .i64 p, (.slice A l.length cap)] 26)) (.cells #[(.slice AF F.length cF), (.slice AT T.length cT), (.slice AZ Z.length cZ)] 31)) (by omega))
      have H_2 := Lib.hid (H_1.out.within (within_alloc (w.alloc (.cells #[.int .i64 p, (.slice A l.length cap)] 26)) (.cells #[(.slice AF F.length cF), (.slice AT T.length cT), (.slice AZ Z.length cZ)] 31)) (by omega))
      have BX_2 := Lib.hid (BX_1.out.within (within_alloc (w.alloc (.cells #[.int .i64 p, (.slice A l.length cap)] 26)) (.cells #[(.slice AF F.length cF), (.slice AT T.length cT), (.slice AZ Z.length cZ)] 31)) (by omega))
      have Y2 := Lib.hid (show ((w.alloc (.cells #[.int .i64 p, (.slice A l.length cap)] 26)).alloc (.cells #[(.slice AF F.length cF), (.slice AT T.length cT), (.slice AZ Z.length cZ)] 31)).heap.size = (w.alloc (.cells #[.int .i64 p, (.slice A l.length cap)] 26)).heap.size + 1 by simp)
      have hnew := cel3_new (w.alloc (.cells #[.int .i64 p, (.slice A l.length cap)] 26)) (.slice AF F.length cF) (.slice AT T.length cT) (.slice AZ Z.length cZ) 31
      rw [show (w.alloc (.cells #[.int .i64 p, (.slice A l.length cap)] 26)).heap.size = w.heap.size + 1 by simp] at hnew
      have GA_2 := Lib.hid hnew
      clear hnew
      go_enter Try.func39, Try.ntmps39
      obtain ⟨g0_0, g0_1, g0_2⟩ := BX_2.out
      obtain ⟨g1_0, g1_1, g1_2, g1_3, g1_4, g1_5⟩ := GA_2.out.cells
      go_wp2_with fail
      clear g0_0 g0_1 g0_2 g1_0 g1_1 g1_2 g1_3 g1_4 g1_5
      generalize ((w.alloc (.cells #[.int .i64 p, (.slice A l.length cap)] 26)).alloc (.cells #[(.slice AF F.length cF), (.slice AT T.length cT), (.slice AZ Z.length cZ)] 31)) = w2 at *
      generalize (w.alloc (.cells #[.int .i64 p, (.slice A l.length cap)] 26)) = w1 at *
      refine (HISG _ HB_2.out.at).mono ?_
      rintro e w3 ⟨rfl, hb⟩
      have Z3 := Lib.hid (within_of hb).size
      have W3 := Lib.hid (within_on W2.out (within_of hb) W2.out.size (.inr (Nat.le_refl _)))
      have HB_3 := Lib.hid (HB_2.out.within (within_of hb) (by omega))
      have H_3 := Lib.hid (H_2.out.within (within_of hb) (by omega))
      have BX_3 := Lib.hid (BX_2.out.within (within_of hb) (by omega))
      have GA_3 := Lib.hid (GA_2.out.within (within_of hb) (by omega))
      clear hb HISG
      obtain ⟨g2_0, g2_1, g2_2⟩ := BX_3.out
      obtain ⟨g3_0, g3_1, g3_2, g3_3, g3_4, g3_5⟩ := GA_3.out.cells
      go_wp2_with fail
      refine (l1In_yes k 1 3 _ hk.1 hk.2).mono ?_
      rintro e w9 ⟨rfl, rfl⟩
      go_wp2_with fail
      go_ret
      exact ⟨by rw [HR.out]; rfl, W3.out⟩
    by_cases htz : T.length = Z.length
    case neg =>
      rw [hg] at HISG
      have hk : 1 ≤ k ∧ k ≤ 3 := hkk
      have heq : ((F.length : Int) == p) = true := by simpa using hfp
      have hne : ((T.length : Int) == (Z.length : Int)) = false := by rw [beq_eq_false_iff_ne]; omega
      have hne2 : (T.length == Z.length) = false := by simpa using htz
      have HR := Lib.hid (show isPebB p k l F T Z = false from isPebB_no fun hp => by exact htz hp.2.2.2.1)
      have hhi : hi ≤ w.heap.size := h.f.1
      have W0 := Lib.hid (Below.refl w.heap.size w)
      have HB_0 := Lib.hid (bars_in hl)
      have H_0 := Lib.hid (h)
      clear hl h
      have Z1 := Lib.hid (within_alloc w (.cells #[.int .i64 p, (.slice A l.length cap)] 26)).size
      have W1 := Lib.hid (within_on W0.out (within_alloc w (.cells #[.int .i64 p, (.slice A l.length cap)] 26)) W0.out.size (.inr (Nat.le_refl _)))
      have HB_1 := Lib.hid (HB_0.out.within (within_alloc w (.cells #[.int .i64 p, (.slice A l.length cap)] 26)) (by omega))
      have H_1 := Lib.hid (H_0.out.within (within_alloc w (.cells #[.int .i64 p, (.slice A l.length cap)] 26)) (by omega))
      have Y1 := Lib.hid (show (w.alloc (.cells #[.int .i64 p, (.slice A l.length cap)] 26)).heap.size = w.heap.size + 1 by simp)
      have hnew := box_new w p (.slice A l.length cap) 26
      have BX_1 := Lib.hid hnew
      clear hnew
      have Z2 := Lib.hid (within_alloc (w.alloc (.cells #[.int .i64 p, (.slice A l.length cap)] 26)) (.cells #[(.slice AF F.length cF), (.slice AT T.length cT), (.slice AZ Z.length cZ)] 31)).size
      have W2 := Lib.hid (within_on W1.out (within_alloc (w.alloc (.cells #[.int .i64 p, (.slice A l.length cap)] 26)) (.cells #[(.slice AF F.length cF), (.slice AT T.length cT), (.slice AZ Z.length cZ)] 31)) W1.out.size (.inr (Nat.le_refl _)))
      have HB_2 := Lib.hid (HB_1.out.within (within_alloc (w.alloc (.cells #[.int .i64 p, (.slice A l.length cap)] 26)) (.cells #[(.slice AF F.length cF), (.slice AT T.length cT), (.slice AZ Z.length cZ)] 31)) (by omega))
      have H_2 := Lib.hid (H_1.out.within (within_alloc (w.alloc (.cells #[.int .i64 p, (.slice A l.length cap)] 26)) (.cells #[(.slice AF F.length cF), (.slice AT T.length cT), (.slice AZ Z.length cZ)] 31)) (by omega))
      have BX_2 := Lib.hid (BX_1.out.within (within_alloc (w.alloc (.cells #[.int .i64 p, (.slice A l.length cap)] 26)) (.cells #[(.slice AF F.length cF), (.slice AT T.length cT), (.slice AZ Z.length cZ)] 31)) (by omega))
      have Y2 := Lib.hid (show ((w.alloc (.cells #[.int .i64 p, (.slice A l.length cap)] 26)).alloc (.cells #[(.slice AF F.length cF), (.slice AT T.length cT), (.slice AZ Z.length cZ)] 31)).heap.size = (w.alloc (.cells #[.int .i64 p, (.slice A l.length cap)] 26)).heap.size + 1 by simp)
      have hnew := cel3_new (w.alloc (.cells #[.int .i64 p, (.slice A l.length cap)] 26)) (.slice AF F.length cF) (.slice AT T.length cT) (.slice AZ Z.length cZ) 31
      rw [show (w.alloc (.cells #[.int .i64 p, (.slice A l.length cap)] 26)).heap.size = w.heap.size + 1 by simp] at hnew
      have GA_2 := Lib.hid hnew
      clear hnew
      go_enter Try.func39, Try.ntmps39
      obtain ⟨g0_0, g0_1, g0_2⟩ := BX_2.out
      obtain ⟨g1_0, g1_1, g1_2, g1_3, g1_4, g1_5⟩ := GA_2.out.cells
      go_wp2_with fail
      clear g0_0 g0_1 g0_2 g1_0 g1_1 g1_2 g1_3 g1_4 g1_5
      generalize ((w.alloc (.cells #[.int .i64 p, (.slice A l.length cap)] 26)).alloc (.cells #[(.slice AF F.length cF), (.slice AT T.length cT), (.slice AZ Z.length cZ)] 31)) = w2 at *
      generalize (w.alloc (.cells #[.int .i64 p, (.slice A l.length cap)] 26)) = w1 at *
      refine (HISG _ HB_2.out.at).mono ?_
      rintro e w3 ⟨rfl, hb⟩
      have Z3 := Lib.hid (within_of hb).size
      have W3 := Lib.hid (within_on W2.out (within_of hb) W2.out.size (.inr (Nat.le_refl _)))
      have HB_3 := Lib.hid (HB_2.out.within (within_of hb) (by omega))
      have H_3 := Lib.hid (H_2.out.within (within_of hb) (by omega))
      have BX_3 := Lib.hid (BX_2.out.within (within_of hb) (by omega))
      have GA_3 := Lib.hid (GA_2.out.within (within_of hb) (by omega))
      clear hb HISG
      obtain ⟨g2_0, g2_1, g2_2⟩ := BX_3.out
      obtain ⟨g3_0, g3_1, g3_2, g3_3, g3_4, g3_5⟩ := GA_3.out.cells
      go_wp2_with fail
      refine (l1In_yes k 1 3 _ hk.1 hk.2).mono ?_
      rintro e w9 ⟨rfl, rfl⟩
      go_wp2_with fail
      go_ret
      exact ⟨by rw [HR.out]; rfl, W3.out⟩
    rw [hg] at HISG
    have hG : IsG p l := Classical.byContradiction fun g => by rw [isGB_no g] at hg; cases hg
    obtain rfl : p = (F.length : Int) := hfp.symm
    have hk : 1 ≤ k ∧ k ≤ 3 := hkk
    have heq : ((F.length : Int) != (F.length : Int)) = false := by simp
    have hF8 := hG.1.2
    have heq1 : ((T.length : Int) != (Z.length : Int)) = false := by rw [bne_eq_false_iff_eq]; omega
    have heq2 : (T.length == Z.length) = true := by simpa using htz
    have h24 := hG.2.1
    have HYES := Lib.hid (show (∀ j, j < Z.length → OkP l T Z j) → (∀ v : Nat, v < F.length → 0 ≤ F.getD v 0 ∧ F.getD v 0 + (T.count (v : Int) : Int) = k) → isPebB (F.length : Int) k l F T Z = true from fun h1 h2 => isPebB_yes ⟨hG, hkk, rfl, htz, h1, h2⟩)
    have HW := Lib.hid hw
    have HTZ := Lib.hid htz
    clear hg hG hw htz
    have hhi : hi ≤ w.heap.size := h.f.1
    have W0 := Lib.hid (Below.refl w.heap.size w)
    have HB_0 := Lib.hid (bars_in hl)
    have H_0 := Lib.hid (h)
    clear hl h
    have Z1 := Lib.hid (within_alloc w (.cells #[.int .i64 (F.length : Int), (.slice A l.length cap)] 26)).size
    have W1 := Lib.hid (within_on W0.out (within_alloc w (.cells #[.int .i64 (F.length : Int), (.slice A l.length cap)] 26)) W0.out.size (.inr (Nat.le_refl _)))
    have HB_1 := Lib.hid (HB_0.out.within (within_alloc w (.cells #[.int .i64 (F.length : Int), (.slice A l.length cap)] 26)) (by omega))
    have H_1 := Lib.hid (H_0.out.within (within_alloc w (.cells #[.int .i64 (F.length : Int), (.slice A l.length cap)] 26)) (by omega))
    have Y1 := Lib.hid (show (w.alloc (.cells #[.int .i64 (F.length : Int), (.slice A l.length cap)] 26)).heap.size = w.heap.size + 1 by simp)
    have hnew := box_new w (F.length : Int) (.slice A l.length cap) 26
    have BX_1 := Lib.hid hnew
    clear hnew
    have Z2 := Lib.hid (within_alloc (w.alloc (.cells #[.int .i64 (F.length : Int), (.slice A l.length cap)] 26)) (.cells #[(.slice AF F.length cF), (.slice AT T.length cT), (.slice AZ Z.length cZ)] 31)).size
    have W2 := Lib.hid (within_on W1.out (within_alloc (w.alloc (.cells #[.int .i64 (F.length : Int), (.slice A l.length cap)] 26)) (.cells #[(.slice AF F.length cF), (.slice AT T.length cT), (.slice AZ Z.length cZ)] 31)) W1.out.size (.inr (Nat.le_refl _)))
    have HB_2 := Lib.hid (HB_1.out.within (within_alloc (w.alloc (.cells #[.int .i64 (F.length : Int), (.slice A l.length cap)] 26)) (.cells #[(.slice AF F.length cF), (.slice AT T.length cT), (.slice AZ Z.length cZ)] 31)) (by omega))
    have H_2 := Lib.hid (H_1.out.within (within_alloc (w.alloc (.cells #[.int .i64 (F.length : Int), (.slice A l.length cap)] 26)) (.cells #[(.slice AF F.length cF), (.slice AT T.length cT), (.slice AZ Z.length cZ)] 31)) (by omega))
    have BX_2 := Lib.hid (BX_1.out.within (within_alloc (w.alloc (.cells #[.int .i64 (F.length : Int), (.slice A l.length cap)] 26)) (.cells #[(.slice AF F.length cF), (.slice AT T.length cT), (.slice AZ Z.length cZ)] 31)) (by omega))
    have Y2 := Lib.hid (show ((w.alloc (.cells #[.int .i64 (F.length : Int), (.slice A l.length cap)] 26)).alloc (.cells #[(.slice AF F.length cF), (.slice AT T.length cT), (.slice AZ Z.length cZ)] 31)).heap.size = (w.alloc (.cells #[.int .i64 (F.length : Int), (.slice A l.length cap)] 26)).heap.size + 1 by simp)
    have hnew := cel3_new (w.alloc (.cells #[.int .i64 (F.length : Int), (.slice A l.length cap)] 26)) (.slice AF F.length cF) (.slice AT T.length cT) (.slice AZ Z.length cZ) 31
    rw [show (w.alloc (.cells #[.int .i64 (F.length : Int), (.slice A l.length cap)] 26)).heap.size = w.heap.size + 1 by simp] at hnew
    have GA_2 := Lib.hid hnew
    clear hnew
    go_enter Try.func39, Try.ntmps39
    obtain ⟨g0_0, g0_1, g0_2⟩ := BX_2.out
    obtain ⟨g1_0, g1_1, g1_2, g1_3, g1_4, g1_5⟩ := GA_2.out.cells
    go_wp2_with fail
    clear g0_0 g0_1 g0_2 g1_0 g1_1 g1_2 g1_3 g1_4 g1_5
    generalize ((w.alloc (.cells #[.int .i64 (F.length : Int), (.slice A l.length cap)] 26)).alloc (.cells #[(.slice AF F.length cF), (.slice AT T.length cT), (.slice AZ Z.length cZ)] 31)) = w2 at *
    generalize (w.alloc (.cells #[.int .i64 (F.length : Int), (.slice A l.length cap)] 26)) = w1 at *
    refine (HISG _ HB_2.out.at).mono ?_
    rintro e w3 ⟨rfl, hb⟩
    have Z3 := Lib.hid (within_of hb).size
    have W3 := Lib.hid (within_on W2.out (within_of hb) W2.out.size (.inr (Nat.le_refl _)))
    have HB_3 := Lib.hid (HB_2.out.within (within_of hb) (by omega))
    have H_3 := Lib.hid (H_2.out.within (within_of hb) (by omega))
    have BX_3 := Lib.hid (BX_2.out.within (within_of hb) (by omega))
    have GA_3 := Lib.hid (GA_2.out.within (within_of hb) (by omega))
    clear hb HISG
    obtain ⟨g2_0, g2_1, g2_2⟩ := BX_3.out
    obtain ⟨g3_0, g3_1, g3_2, g3_3, g3_4, g3_5⟩ := GA_3.out.cells
    go_wp2_with fail
    refine (l1In_yes k 1 3 _ hk.1 hk.2).mono ?_
    rintro e w9 ⟨rfl, rfl⟩
    have HGP := Lib.hid (⟨BX_3.out, GA_3.out, HB_3.out, H_3.out, W3.out⟩ : GP w w3 w.heap.size (w.heap.size + 1) (F.length : Int) A cap l AF AT AZ cF cT cZ lo hi F T Z)
    go_wp2_with fail
    clear g2_0 g2_1 g2_2 g3_0 g3_1 g3_2 g3_3 g3_4 g3_5
    clear heq heq1 heq2
    go_loopw [7] (fun i wr => ∃ j : Nat, j ≤ Z.length ∧ i = .int .i64 j ∧ (∀ u, u < j → OkP l T Z u) ∧ GP w wr w.heap.size (w.heap.size + 1) (F.length : Int) A cap l AF AT AZ cF cT cZ lo hi F T Z) (fun i _ => Z.length - (intOf i).toNat)
    case atStart => exact ⟨0, Nat.zero_le _, rfl, fun u hu => absurd hu (Nat.not_lt_zero _), HGP.out⟩
    case round =>
      obtain ⟨j, hj, rfl, hok, hst⟩ := hrel
      have HOK := Lib.hid hok
      have HS := Lib.hid hst
      obtain ⟨_, gx0, gx1⟩ := hst.box
      obtain ⟨gc0, gc1, gc2, _, _, _⟩ := hst.st.cells
      clear hok hst
      by_cases hlt : j < Z.length
      · skip
        have hji : (j : Int) < (Z.length : Int) := by omega
        obtain ⟨zb, zo, rfl, hzc⟩ := row_at HS.out.rows.z (by omega)
        obtain ⟨tb, tq9, rfl, htc⟩ := row_at HS.out.rows.t (by have := HTZ.out; omega)
        have hz := hzc j hlt
        have hjt : (j : Int) < (T.length : Int) := by have := HTZ.out; omega
        have ht := htc j (by omega)
        have HBAD := Lib.hid (fun h : ¬ OkP l T Z j => isPeb_bad (p := (F.length : Int)) (k := k) (F := F) hlt h)
        have HNEXT := Lib.hid (fun h : OkP l T Z j => okP_snoc HOK.out h)
        have HDEF := Lib.hid (show OkP l T Z j = ((0 ≤ Z.getD j 0 ∧ Z.getD j 0 < (l.length : Int)) ∧ (0 < j → Z.getD (j - 1) 0 < Z.getD j 0) ∧ isEnd (l.getD (Z.getD j 0).toNat (0, 0)) (T.getD j 0)) from rfl)
        have HPREV := Lib.hid (fun h0 : 0 < j => hzc (j - 1) (by omega))
        obtain ⟨z, hzd⟩ : ∃ z, Z.getD j 0 = z := ⟨_, rfl⟩
        obtain ⟨t, htd⟩ : ∃ t, T.getD j 0 = t := ⟨_, rfl⟩
        obtain ⟨y, hyd⟩ : ∃ y, Z.getD (j - 1) 0 = y := ⟨_, rfl⟩
        rw [hzd] at hz HDEF
        rw [htd] at ht HDEF
        rw [hyd] at HPREV HDEF
        clear hzd htd hyd hzc htc
        by_cases c1 : z < 0
        · skip
          have Q := Lib.hid (HBAD.out fun h => by rw [HDEF.out] at h; omega)
          go_wp2_with fail
          go_big_quiet (fail)
          go_wp2_with fail
          go_ret
          exact ⟨by rw [Q.out]; rfl, HS.out.bel.trans (below_drewN _ _ _)⟩
        have d1 : decide (z < 0) = false := by simpa using c1
        obtain ⟨n, rfl⟩ : ∃ n : Nat, z = (n : Int) := ⟨z.toNat, by omega⟩
        have d1n : decide ((n : Int) < 0) = false := d1
        by_cases c2 : l.length ≤ n
        · skip
          have c2i : (l.length : Int) ≤ (n : Int) := by omega
          have Q := Lib.hid (HBAD.out fun h => by rw [HDEF.out] at h; omega)
          go_wp2_with fail
          go_big_quiet (fail)
          go_wp2_with fail
          go_ret
          exact ⟨by rw [Q.out]; rfl, HS.out.bel.trans (below_drewN _ _ _)⟩
        have c2i : ¬ (l.length : Int) ≤ (n : Int) := by omega
        have d2 : decide ((l.length : Int) ≤ (n : Int)) = false := by simpa using c2i
        have d2n : decide (l.length ≤ n) = false := by simpa using c2
        obtain ⟨b, off, rfl, _, hbc⟩ := HS.out.bars.at (by omega)
        have hx1 := (hbc n (by omega)).1
        have hx2 := (hbc n (by omega)).2
        obtain ⟨x, hxd⟩ : ∃ x, l.getD n (0, 0) = x := ⟨_, rfl⟩
        rw [hxd] at hx1 hx2
        rw [Int.toNat_natCast, hxd] at HDEF
        clear hxd hbc
        obtain ⟨x1, x2⟩ := x
        simp only at hx1 hx2 HDEF
        by_cases hj0 : j = 0
        · skip
          have d3 : decide ((0 : Int) < (j : Int)) = false := by simp; omega
          have d3n : decide (0 < j) = false := by simp; omega
          have HJ0 := Lib.hid hj0
          clear hj0
          by_cases c4 : t = x1
          · skip
            have e1 : (t != x1) = false := by simpa using c4
            have HN := Lib.hid (HNEXT.out (by rw [HDEF.out]; exact ⟨by omega, fun h => absurd h (by have := HJ0.out; omega), .inl c4⟩))
            clear c4
            go_wp2_with fail
            go_big_quiet (fail)
            go_wp2_with fail
            go_roundw
            case rel => exact ⟨j + 1, by omega, by go_num, HN.out, HS.out.drewN _⟩
            case measure => simp [intOf]; omega
          have e1 : (t != x1) = true := by simpa using c4
          have HC4 := Lib.hid c4
          clear c4
          by_cases c5 : t = x2
          · skip
            have e2 : (t != x2) = false := by simpa using c5
            have HN := Lib.hid (HNEXT.out (by rw [HDEF.out]; exact ⟨by omega, fun h => absurd h (by have := HJ0.out; omega), .inr c5⟩))
            clear c5
            go_wp2_with fail
            go_big_quiet (fail)
            go_wp2_with fail
            go_roundw
            case rel => exact ⟨j + 1, by omega, by go_num, HN.out, HS.out.drewN _⟩
            case measure => simp [intOf]; omega
          have e2 : (t != x2) = true := by simpa using c5
          have HC5 := Lib.hid c5
          clear c5
          have Q := Lib.hid (HBAD.out fun h => by rw [HDEF.out] at h; rcases h.2.2 with h | h; exact HC4.out h; exact HC5.out h)
          go_wp2_with fail
          go_big_quiet (fail)
          go_wp2_with fail
          go_ret
          exact ⟨by rw [Q.out]; rfl, HS.out.bel.trans (below_drewN _ _ _)⟩
        · skip
          have d3 : decide ((0 : Int) < (j : Int)) = true := by simp; omega
          have d3n : decide (0 < j) = true := by simp; omega
          have hy := HPREV.out (by omega)
          have hjm : (j : Int) - 1 = ((j - 1 : Nat) : Int) := by omega
          have hjw : IntKind.i64.wrap ((j - 1 : Nat) : Int) = ((j - 1 : Nat) : Int) := IntWalk.i64_in _ (by omega)
          have hjl : ((j - 1 : Nat) : Int) < (Z.length : Int) := by omega
          have hjl2 : j - 1 < Z.length := by omega
          have HJ0 := Lib.hid hj0
          clear hj0
          by_cases c3 : (n : Int) ≤ y
          · skip
            have Q := Lib.hid (HBAD.out fun h => by rw [HDEF.out] at h; have := h.2.1 (by have := HJ0.out; omega); omega)
            go_wp2_with fail
            go_big_quiet (fail)
            go_wp2_with fail
            go_ret
            exact ⟨by rw [Q.out]; rfl, HS.out.bel.trans (below_drewN _ _ _)⟩
          have d4 : decide ((n : Int) ≤ y) = false := by simpa using c3
          by_cases c4 : t = x1
          · skip
            have e1 : (t != x1) = false := by simpa using c4
            have HN := Lib.hid (HNEXT.out (by rw [HDEF.out]; exact ⟨by omega, fun _ => by omega, .inl c4⟩))
            clear c4
            go_wp2_with fail
            go_big_quiet (fail)
            go_wp2_with fail
            go_roundw
            case rel => exact ⟨j + 1, by omega, by go_num, HN.out, HS.out.drewN _⟩
            case measure => simp [intOf]; omega
          have e1 : (t != x1) = true := by simpa using c4
          have HC4 := Lib.hid c4
          clear c4
          by_cases c5 : t = x2
          · skip
            have e2 : (t != x2) = false := by simpa using c5
            have HN := Lib.hid (HNEXT.out (by rw [HDEF.out]; exact ⟨by omega, fun _ => by omega, .inr c5⟩))
            clear c5
            go_wp2_with fail
            go_big_quiet (fail)
            go_wp2_with fail
            go_roundw
            case rel => exact ⟨j + 1, by omega, by go_num, HN.out, HS.out.drewN _⟩
            case measure => simp [intOf]; omega
          have e2 : (t != x2) = true := by simpa using c5
          have HC5 := Lib.hid c5
          clear c5
          have Q := Lib.hid (HBAD.out fun h => by rw [HDEF.out] at h; rcases h.2.2 with h | h; exact HC4.out h; exact HC5.out h)
          go_wp2_with fail
          go_big_quiet (fail)
          go_wp2_with fail
          go_ret
          exact ⟨by rw [Q.out]; rfl, HS.out.bel.trans (below_drewN _ _ _)⟩
      · obtain rfl : j = Z.length := by omega
        have HL24 := Lib.hid (Nat.le_trans (okP_len HOK.out) h24)
        have HNO := Lib.hid (fun (v : Nat) (hv : v < F.length) h => isPeb_free (p := (F.length : Int)) (k := k) (l := l) (Z := Z) (T := T) hv h)
        have HY2 := Lib.hid (HYES.out HOK.out)
        clear HYES HOK
        go_wp2_with fail
        go_loopw [9] (fun i wr => ∃ v : Nat, v ≤ F.length ∧ i = .int .i64 v ∧ (∀ u : Nat, u < v → 0 ≤ F.getD u 0 ∧ F.getD u 0 + (T.count (u : Int) : Int) = k) ∧ GP w wr w.heap.size (w.heap.size + 1) (F.length : Int) A cap l AF AT AZ cF cT cZ lo hi F T Z) (fun i _ => F.length - (intOf i).toNat)
        case atStart => exact ⟨0, Nat.zero_le _, rfl, fun u hu => absurd hu (Nat.not_lt_zero _), HS.out⟩
        case round =>
          clear gx0 gx1 gc0 gc1 gc2 hlt hj HS
          obtain ⟨v, hv, rfl, hok, hst⟩ := hrel
          have HOK := Lib.hid hok
          have HS := Lib.hid hst
          obtain ⟨_, gx0, gx1⟩ := hst.box
          obtain ⟨gc0, gc1, gc2, _, _, _⟩ := hst.st.cells
          clear hok hst
          by_cases hlt : v < F.length
          · skip
            have hvi : (v : Int) < (F.length : Int) := by omega
            obtain ⟨fb, fo, rfl, hfc⟩ := row_at HS.out.rows.f (by omega)
            have hfv := hfc v hlt
            have HN := Lib.hid (HNO.out v hlt)
            have HSN := Lib.hid (show (0 ≤ F.getD v 0 ∧ F.getD v 0 + (T.count (v : Int) : Int) = k) → ∀ u : Nat, u < v + 1 → 0 ≤ F.getD u 0 ∧ F.getD u 0 + (T.count (u : Int) : Int) = k from fun h u hu => by
              by_cases e : u = v
              · subst e; exact h
              · exact HOK.out u (by omega))
            have hxw := HW.out v hlt
            have hcn : T.count (v : Int) ≤ 24 := Nat.le_trans (List.count_le_length ..) (by have := HTZ.out; have := HL24.out; omega)
            obtain ⟨x, hx⟩ : ∃ x, F.getD v 0 = x := ⟨_, rfl⟩
            rw [hx] at hfv HN HSN hxw
            clear hx hfc
            obtain ⟨c, hcd⟩ : ∃ c, T.count (v : Int) = c := ⟨_, rfl⟩
            rw [hcd] at HN HSN hcn
            have HCD := Lib.hid hcd
            clear hcd
            by_cases c1 : x < 0
            · skip
              have Q := Lib.hid (HN.out (by omega))
              go_wp2_with fail
              go_big_quiet (fail)
              go_wp2_with fail
              go_ret
              exact ⟨by rw [Q.out]; rfl, HS.out.bel.trans (below_drewN _ _ _)⟩
            have d1 : decide (x < 0) = false := by simpa using c1
            have hwf := wf_add hxw (by omega) hcn hk
            have HSD := Lib.hid (HS.out.below (Below.refl _ _).drew)
            have kk : (fun W' => W'.cell? ⟨w.heap.size + 1, 0, none⟩ = some (.slice (some ⟨fb, fo, none⟩) F.length cF) ∧ W'.cell? ⟨w.heap.size + 1, 1, none⟩ = some (.slice AT T.length cT) ∧ W'.cell? ⟨w.heap.size + 1, 2, none⟩ = some (.slice AZ Z.length cZ) ∧ W'.cell? ⟨fb, fo + v, none⟩ = some (.int .i64 x)) wr := ⟨gc0, gc1, gc2, hfv⟩
            have HKK := Lib.hid kk
            by_cases c2 : x + (c : Int) = k
            · skip
              have hs : IntKind.i64.wrap (x + (c : Int)) = k := hwf.2 c2
              have hq : (IntKind.i64.wrap (x + (c : Int)) != k) = false := by rw [hs]; simp
              have HNX := Lib.hid (HSN.out ⟨by omega, c2⟩)
              clear hwf hs c2
              go_wp2_with fail
              go_region_held3 (fun W' => W'.cell? ⟨w.heap.size + 1, 0, none⟩ = some (.slice (some ⟨fb, fo, none⟩) F.length cF) ∧ W'.cell? ⟨w.heap.size + 1, 1, none⟩ = some (.slice AT T.length cT) ∧ W'.cell? ⟨w.heap.size + 1, 2, none⟩ = some (.slice AZ Z.length cZ) ∧ W'.cell? ⟨fb, fo + v, none⟩ = some (.int .i64 x))
                (first | exact HKK.out | exact HK5.out | fail)
                (first | (go_at_call 132; refine (tail_c (some ⟨fb, fo, none⟩) AT AZ cF cT cZ lo hi F T Z (v : Int) _ HSD.out.rows hT).mono ?_; rintro e w5 ⟨rfl, hb⟩; rw [HCD.out]; have HS5 := Lib.hid (HSD.out.below hb); have HK5 := Lib.hid (show (fun W' : World => W'.cell? ⟨w.heap.size + 1, 0, none⟩ = some (.slice (some ⟨fb, fo, none⟩) F.length cF) ∧ W'.cell? ⟨w.heap.size + 1, 1, none⟩ = some (.slice AT T.length cT) ∧ W'.cell? ⟨w.heap.size + 1, 2, none⟩ = some (.slice AZ Z.length cZ) ∧ W'.cell? ⟨fb, fo + v, none⟩ = some (.int .i64 x)) w5 from ⟨HS5.out.st.cells.1, HS5.out.st.cells.2.1, HS5.out.st.cells.2.2.1, (hb.cell (p := ⟨fb, fo + v, none⟩) (World.block_lt_of_cell? _ _ HKK.out.2.2.2)).trans HKK.out.2.2.2⟩); clear hb))
              go_wp2_with fail
              go_roundw
              case rel => exact ⟨v + 1, by omega, by go_num, HNX.out, HS5.out⟩
              case measure => simp [intOf]; omega
            have hq : (IntKind.i64.wrap (x + (c : Int)) != k) = true := by rw [bne_iff_ne]; exact fun h => c2 (hwf.1 h)
            have Q := Lib.hid (HN.out (by omega))
            clear hwf
            go_wp2_with fail
            go_region_held3 (fun W' => W'.cell? ⟨w.heap.size + 1, 0, none⟩ = some (.slice (some ⟨fb, fo, none⟩) F.length cF) ∧ W'.cell? ⟨w.heap.size + 1, 1, none⟩ = some (.slice AT T.length cT) ∧ W'.cell? ⟨w.heap.size + 1, 2, none⟩ = some (.slice AZ Z.length cZ) ∧ W'.cell? ⟨fb, fo + v, none⟩ = some (.int .i64 x))
              (first | exact HKK.out | exact HK5.out | fail)
              (first | (go_at_call 132; refine (tail_c (some ⟨fb, fo, none⟩) AT AZ cF cT cZ lo hi F T Z (v : Int) _ HSD.out.rows hT).mono ?_; rintro e w5 ⟨rfl, hb⟩; rw [HCD.out]; have HS5 := Lib.hid (HSD.out.below hb); have HK5 := Lib.hid (show (fun W' : World => W'.cell? ⟨w.heap.size + 1, 0, none⟩ = some (.slice (some ⟨fb, fo, none⟩) F.length cF) ∧ W'.cell? ⟨w.heap.size + 1, 1, none⟩ = some (.slice AT T.length cT) ∧ W'.cell? ⟨w.heap.size + 1, 2, none⟩ = some (.slice AZ Z.length cZ) ∧ W'.cell? ⟨fb, fo + v, none⟩ = some (.int .i64 x)) w5 from ⟨HS5.out.st.cells.1, HS5.out.st.cells.2.1, HS5.out.st.cells.2.2.1, (hb.cell (p := ⟨fb, fo + v, none⟩) (World.block_lt_of_cell? _ _ HKK.out.2.2.2)).trans HKK.out.2.2.2⟩); clear hb))
            go_wp2_with fail
            go_ret
            exact ⟨by rw [Q.out]; rfl, HS5.out.bel⟩
          · obtain rfl : v = F.length := by omega
            go_wp2_with fail
            go_ret
            exact ⟨by rw [HY2.out HOK.out]; rfl, HS.out.bel⟩
end Go.Proofs.Ytdkpmaahinbhlaa
/- What spec.l5With answers. No condition. -/
namespace Go.Proofs.Ytdkpmaahinbhlaa
open Go.RowKit

set_option maxHeartbeats 4000000 in
set_option maxRecDepth 100000 in
theorem wi_c (zs : List Int) (x : Int) (Z : Option Addr) (cz lo hi : Nat) (w : World) (hz : IntsIn w lo hi Z zs) (hnz : zs.length ≤ 1048570) :
    Calls Try.prog 139 #[.slice Z zs.length cz, .int .i64 x] w (IntsO w (wiL zs x)) := by
  have hA := new_below w (.cells #[] 3)
  have hzh := hz.1
  have HA := Lib.hid hA
  have HZ := Lib.hid (hz.within (within_of hA) (.inr (Nat.zero_le _)))
  have HOE := Lib.hid (ownR_empty w)
  have HSZ := Lib.hid (show (w.alloc (.cells #[] 3)).heap.size = w.heap.size + 1 by simp)
  clear hz hA
  go_enter Try.func139, Try.ntmps139
  go_wp2_with fail
  generalize (w.alloc (.cells #[] 3)) = w1 at *
  go_loopw [5, 6, 7] (fun u v i wr => ∃ j : Nat, j ≤ zs.length ∧ i = .int .i64 j ∧ v = .bool (wiS zs x j).2 ∧ ∃ Ao co lo2 hi2, u = .slice Ao (wiS zs x j).1.length co ∧ GrowP w.heap.size (w.heap.size + 1) w1 wr (wiS zs x j).1 Ao co lo2 hi2) (fun _ _ i _ => zs.length - (intOf i).toNat)
  case atStart => exact ⟨0, Nat.zero_le _, rfl, rfl, some ⟨w.heap.size, 0, none⟩, 0, w.heap.size, w.heap.size + 1, rfl, ⟨HOE.out, .inl ⟨rfl, rfl⟩, by have := HSZ.out; omega, Within.refl _ _ _⟩⟩
  case round =>
    obtain ⟨j, hj, rfl, rfl, Ao, co, lo2, hi2, rfl, hst⟩ := hrel
    have HS0 := Lib.hid hst
    have hzr := HZ.out.within hst.wi (.inl hzh)
    have hwl := wiS_len zs x j
    have HWL := Lib.hid (show (wiS zs x j).1.length ≤ 1048574 from by split at hwl <;> omega)
    clear hst hwl
    by_cases hlt : j < zs.length
    · have hji : (j : Int) < (zs.length : Int) := by omega
      obtain ⟨zb, zo, rfl, hzc⟩ := row_at hzr (by omega)
      have hz := hzc j hlt
      have HE1 := Lib.hid (fun h => wiS_eq (zs := zs) (x := x) (j := j) h)
      have HE2 := Lib.hid (fun h h2 h3 => wiS_put (zs := zs) (x := x) (j := j) h h2 h3)
      have HE3 := Lib.hid (fun h h2 => wiS_on (zs := zs) (x := x) (j := j) h h2)
      have hcz : ∀ W' : World, Within w.heap.size (w.heap.size + 1) w1 W' → W'.cell? ⟨zb, zo + j, none⟩ = some (.int .i64 (zs.getD j 0)) := fun W' hw => by
        have hr := HZ.out.within hw (.inl hzh)
        obtain ⟨b1, o1, e1, _, _, hc1⟩ := hr.2 (by omega)
        cases e1
        exact hc1 j hlt
      clear hzc hzr
      obtain ⟨z, hzd⟩ : ∃ z, zs.getD j 0 = z := ⟨_, rfl⟩
      rw [hzd] at hz HE1 HE2 HE3 hcz
      have HCZ := Lib.hid hcz
      clear hcz
      clear hzd
      obtain ⟨s, hs⟩ : ∃ s, wiS zs x j = s := ⟨_, rfl⟩
      rw [hs] at HE1 HE2 HE3 HS0 HWL ⊢
      clear hs
      obtain ⟨ys, pl⟩ := s
      have HS := Lib.hid (show GrowP w.heap.size (w.heap.size + 1) w1 wr ys Ao co lo2 hi2 from HS0.out)
      have HWM := Lib.hid (show ys.length ≤ 1048574 from HWL.out)
      clear HS0 HWL
      by_cases c1 : z = x
      · have HN := Lib.hid (HE1.out c1)
        subst c1
        clear HE1 HE2 HE3
        go_wp2_with (at_builtin; refine wpList_pushR _ rfl _ _ rfl lo2 hi2 Ao co (ys) z rfl HS.out.row _ (by first | rfl | (simp only [World.size_setCell]; rfl)) (by have := HWM.out; first | omega | (simp; omega)) HS.out.le ?_; intro A5 c5 w15 lo5 hi5 hr hor hw; have HG5 := Lib.hid (HS.out.push hr hor hw); clear hr hor hw)
        go_roundw
        case rel => exact ⟨j + 1, by omega, by go_num, by rw [HN.out], A5, c5, lo5, hi5, by rw [HN.out]; simp, by rw [HN.out]; exact HG5.out⟩
        case measure => simp [intOf]; omega
      · have d1 : (z == x) = false := by simpa using c1
        by_cases c2 : x < z
        · cases pl with
          | false =>
            have HN := Lib.hid (HE2.out c1 c2 rfl)
            have d2 : decide (x < z) = true := by simpa using c2
            clear c1 HE1 HE2 HE3
            go_wp2_with (first
              | (at_builtin; refine wpList_pushR _ rfl _ _ rfl lo5 hi5 A5 c5 (ys ++ [x]) z (by rw [List.length_append, List.length_singleton]; rfl) HG5.out.row _ (by first | rfl | (simp only [World.size_setCell]; rfl)) (by have := HWM.out; first | omega | (simp; omega)) HG5.out.le ?_; intro A6 c6 w16 lo6 hi6 hr hor hw; have HG6 := Lib.hid (HG5.out.push hr hor hw); clear hr hor hw)
              | (at_builtin; refine wpList_pushR _ rfl _ _ rfl lo2 hi2 Ao co (ys) x rfl HS.out.row _ (by first | rfl | (simp only [World.size_setCell]; rfl)) (by have := HWM.out; first | omega | (simp; omega)) HS.out.le ?_; intro A5 c5 w15 lo5 hi5 hr hor hw; have HG5 := Lib.hid (HS.out.push hr hor hw); clear hr hor hw; have hz5 := HCZ.out _ HG5.out.wi))
            go_roundw
            case rel => exact ⟨j + 1, by omega, by go_num, by rw [HN.out], A6, c6, lo6, hi6, by rw [HN.out]; simp, by rw [HN.out]; exact HG6.out⟩
            case measure => simp [intOf]; omega
          | true =>
            have HN := Lib.hid (HE3.out c1 (fun q => by cases q.2))
            have d2 : decide (x < z) = true := by simpa using c2
            clear c1 HE1 HE2 HE3
            go_wp2_with (at_builtin; refine wpList_pushR _ rfl _ _ rfl lo2 hi2 Ao co (ys) z rfl HS.out.row _ (by first | rfl | (simp only [World.size_setCell]; rfl)) (by have := HWM.out; first | omega | (simp; omega)) HS.out.le ?_; intro A5 c5 w15 lo5 hi5 hr hor hw; have HG5 := Lib.hid (HS.out.push hr hor hw); clear hr hor hw)
            go_roundw
            case rel => exact ⟨j + 1, by omega, by go_num, by rw [HN.out], A5, c5, lo5, hi5, by rw [HN.out]; simp, by rw [HN.out]; exact HG5.out⟩
            case measure => simp [intOf]; omega
        · have HN := Lib.hid (HE3.out c1 (fun q => c2 q.1))
          have d2 : decide (x < z) = false := by simpa using c2
          clear c1 HE1 HE2 HE3
          go_wp2_with (at_builtin; refine wpList_pushR _ rfl _ _ rfl lo2 hi2 Ao co (ys) z rfl HS.out.row _ (by first | rfl | (simp only [World.size_setCell]; rfl)) (by have := HWM.out; first | omega | (simp; omega)) HS.out.le ?_; intro A5 c5 w15 lo5 hi5 hr hor hw; have HG5 := Lib.hid (HS.out.push hr hor hw); clear hr hor hw)
          go_roundw
          case rel => exact ⟨j + 1, by omega, by go_num, by rw [HN.out], A5, c5, lo5, hi5, by rw [HN.out]; simp, by rw [HN.out]; exact HG5.out⟩
          case measure => simp [intOf]; omega
    · obtain rfl : j = zs.length := by omega
      have hs1 := HA.out.size
      have HRV := Lib.hid (show wiL zs x = if (wiS zs x zs.length).2 = true then (wiS zs x zs.length).1 else (wiS zs x zs.length).1 ++ [x] from rfl)
      obtain ⟨s, hs⟩ : ∃ s, wiS zs x zs.length = s := ⟨_, rfl⟩
      rw [hs] at HRV HS0 HWL ⊢
      clear hs hzr
      obtain ⟨ys, pl⟩ := s
      have HS := Lib.hid (show GrowP w.heap.size (w.heap.size + 1) w1 wr ys Ao co lo2 hi2 from HS0.out)
      have HWM := Lib.hid (show ys.length ≤ 1048574 from HWL.out)
      clear HS0 HWL
      cases pl with
      | true =>
        have HRW := Lib.hid (show wiL zs x = ys from HRV.out.trans (if_pos rfl))
        clear HRV
        go_wp2_with fail
        go_ret
        rw [HRW.out]
        exact ⟨Ao, co, rfl, HS.out.out (Nat.le_refl _) hs1, within_on HA.out HS.out.wi hs1 (.inl (Nat.le_refl _))⟩
      | false =>
        have HRW := Lib.hid (show wiL zs x = ys ++ [x] from HRV.out.trans (if_neg (fun h => by cases h)))
        clear HRV
        go_wp2_with (at_builtin; refine wpList_pushR _ rfl _ _ rfl lo2 hi2 Ao co (ys) x rfl HS.out.row _ (by first | rfl | (simp only [World.size_setCell]; rfl)) (by have := HWM.out; first | omega | (simp; omega)) HS.out.le ?_; intro A5 c5 w15 lo5 hi5 hr hor hw; have HG5 := Lib.hid (HS.out.push hr hor hw); clear hr hor hw)
        go_ret
        rw [HRW.out]
        exact ⟨A5, c5, by simp, HG5.out.out (Nat.le_refl _) hs1, within_on HA.out HG5.out.wi hs1 (.inl (Nat.le_refl _))⟩
end Go.Proofs.Ytdkpmaahinbhlaa
