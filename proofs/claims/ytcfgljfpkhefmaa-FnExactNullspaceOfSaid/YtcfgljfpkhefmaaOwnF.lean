/- A state of the call's own, each row in a range of its own; what may be written is named. No program's walk. No condition. -/
import Derived.Test.YtcfgljfpkhefmaaOwnR
import Derived.Test.YtcfgljfpkhefmaaPebSt
namespace Go.Proofs.Ytcfgljfpkhefmaa
open Go.RowKit

/-- The blocks of two ranges may be written; nothing else was. -/
structure Within2 (f t : Nat × Nat) (w w' : World) : Prop where
  os : w'.os = w.os
  tape : w'.tape = w.tape
  output : w'.output = w.output
  size : w.heap.size ≤ w'.heap.size
  block : ∀ k, k < w.heap.size → (k < f.1 ∨ f.2 ≤ k) → (k < t.1 ∨ t.2 ≤ k) → w'.heap[k]? = w.heap[k]?
theorem Within2.refl (f t : Nat × Nat) (w : World) : Within2 f t w w := ⟨rfl, rfl, rfl, Nat.le_refl _, fun _ _ _ _ => rfl⟩
theorem Within2.trans {f t : Nat × Nat} {a b c : World} (h : Within2 f t a b) (k : Within2 f t b c) : Within2 f t a c :=
  ⟨k.os.trans h.os, k.tape.trans h.tape, k.output.trans h.output, Nat.le_trans h.size k.size, fun i hi' h1 h2 => (k.block i (Nat.lt_of_lt_of_le hi' h.size) h1 h2).trans (h.block i hi' h1 h2)⟩
theorem Within2.of {f t : Nat × Nat} {lo hi : Nat} {a b : World} (h : Within lo hi a b) (hd : hi ≤ lo ∨ (f.1 ≤ lo ∧ hi ≤ f.2) ∨ (t.1 ≤ lo ∧ hi ≤ t.2)) : Within2 f t a b :=
  ⟨h.os, h.tape, h.output, h.size, fun i hi' h1 h2 => h.block i hi' (by omega)⟩
/-- What lies under a bound that no range reaches stands. -/
theorem Within2.one {f t : Nat × Nat} {a b : World} (h : Within2 f t a b) (k : Nat) (h1 : k < f.1 ∨ f.2 ≤ k) (h2 : k < t.1 ∨ t.2 ≤ k) : a.heap.size ≤ k ∨ b.heap[k]? = a.heap[k]? := by
  by_cases hk : k < a.heap.size
  · exact .inr (h.block k hk h1 h2)
  · exact .inl (by omega)
theorem OwnR.at {W W' : World} {lo hi : Nat} {A : Option Addr} {cap : Nat} {zs : List Int} (h : OwnR W lo hi A cap zs) {f t : Nat × Nat} (hw : Within2 f t W W') (h1 : hi ≤ f.1 ∨ f.2 ≤ lo) (h2 : hi ≤ t.1 ∨ t.2 ≤ lo) : OwnR W' lo hi A cap zs :=
  ⟨Nat.le_trans h.1 hw.size, by
    rcases h.2 with e | ⟨g, e, g1, g2, ho⟩
    · exact .inl e
    · exact .inr ⟨g, e, g1, g2, own_block ho (hw.block g (Nat.lt_of_lt_of_le g2 h.1) (by omega) (by omega))⟩⟩
theorem IntsIn.at {W W' : World} {lo hi : Nat} {A : Option Addr} {zs : List Int} (h : IntsIn W lo hi A zs) {f t : Nat × Nat} (hw : Within2 f t W W') (h1 : hi ≤ f.1 ∨ f.2 ≤ lo) (h2 : hi ≤ t.1 ∨ t.2 ≤ lo) : IntsIn W' lo hi A zs :=
  ⟨Nat.le_trans h.1 hw.size, fun hl => by
    obtain ⟨b, off, e, b1, b2, hc⟩ := h.2 hl
    exact ⟨b, off, e, b1, b2, fun k hk => (World.cell?_of_block (a := ⟨b, off + k, none⟩) (hw.block b (Nat.lt_of_lt_of_le b2 h.1) (by omega) (by omega))).trans (hc k hk)⟩⟩
theorem Cel3.at {W W' : World} {b : Nat} {T : TypeId} {v0 v1 v2 : Value} (h : Cel3 W b T v0 v1 v2) {f t : Nat × Nat} (hw : Within2 f t W W') (h1 : b < f.1 ∨ f.2 ≤ b) (h2 : b < t.1 ∨ t.2 ≤ b) : Cel3 W' b T v0 v1 v2 := (hw.block b h.lt h1 h2).trans h
/-- A state of the call's own: each row in its range. -/
def OwnF (W : World) (f t z : Nat × Nat) (AF : Option Addr) (cF : Nat) (AT : Option Addr) (cT : Nat) (AZ : Option Addr) (cZ : Nat) (F T Z : List Int) : Prop :=
  OwnR W f.1 f.2 AF cF F ∧ OwnR W t.1 t.2 AT cT T ∧ OwnR W z.1 z.2 AZ cZ Z ∧ Dis f t ∧ Dis f z ∧ Dis t z
theorem Own3R.ownF {W : World} {lo hi : Nat} {AF AT AZ : Option Addr} {cF cT cZ : Nat} {F T Z : List Int} (h : Own3R W lo hi AF cF AT cT AZ cZ F T Z) : ∃ f t z : Nat × Nat, OwnF W f t z AF cF AT cT AZ cZ F T Z ∧ (lo ≤ f.1 ∧ f.2 ≤ hi) ∧ (lo ≤ t.1 ∧ t.2 ≤ hi) ∧ (lo ≤ z.1 ∧ z.2 ≤ hi) := by
  obtain ⟨f, t, z, h1, h2, h3, d1, d2, d3, b1, b2, b3, _⟩ := h
  exact ⟨f, t, z, ⟨h1, h2, h3, d1, d2, d3⟩, b1, b2, b3⟩
theorem OwnF.hi {W : World} {f t z : Nat × Nat} {AF AT AZ : Option Addr} {cF cT cZ : Nat} {F T Z : List Int} (h : OwnF W f t z AF cF AT cT AZ cZ F T Z) : f.2 ≤ W.heap.size ∧ t.2 ≤ W.heap.size ∧ z.2 ≤ W.heap.size := ⟨h.1.1, h.2.1.1, h.2.2.1.1⟩
theorem OwnF.within {W W' : World} {f t z : Nat × Nat} {AF AT AZ : Option Addr} {cF cT cZ : Nat} {F T Z : List Int} (h : OwnF W f t z AF cF AT cT AZ cZ F T Z) {lo' hi' : Nat} (hw : Within lo' hi' W W') (h1 : f.2 ≤ lo' ∨ hi' ≤ f.1) (h2 : t.2 ≤ lo' ∨ hi' ≤ t.1) (h3 : z.2 ≤ lo' ∨ hi' ≤ z.1) : OwnF W' f t z AF cF AT cT AZ cZ F T Z :=
  ⟨h.1.within hw h1, h.2.1.within hw h2, h.2.2.1.within hw h3, h.2.2.2⟩
theorem OwnF.below {W W' : World} {f t z : Nat × Nat} {AF AT AZ : Option Addr} {cF cT cZ : Nat} {F T Z : List Int} (h : OwnF W f t z AF cF AT cT AZ cZ F T Z) (hb : Below W.heap.size W W') : OwnF W' f t z AF cF AT cT AZ cZ F T Z :=
  h.within (within_of hb) (.inr (Nat.zero_le _)) (.inr (Nat.zero_le _)) (.inr (Nat.zero_le _))
theorem OwnF.reads {W : World} {f t z : Nat × Nat} {AF AT AZ : Option Addr} {cF cT cZ : Nat} {F T Z : List Int} (h : OwnF W f t z AF cF AT cT AZ cZ F T Z) : Peb3 W 0 W.heap.size AF AT AZ F T Z :=
  ⟨h.1.ints.reads.widen (Nat.zero_le _) h.1.1 (Nat.le_refl _), h.2.1.ints.reads.widen (Nat.zero_le _) h.2.1.1 (Nat.le_refl _), h.2.2.1.ints.reads.widen (Nat.zero_le _) h.2.2.1.1 (Nat.le_refl _)⟩
theorem own_rebase {W : World} {a b g cap n : Nat} {e : TypeId} {size : Nat} {xs : List Value} (h : W.ownsRow a e size (.slice (some ⟨g, 0, none⟩) n cap) n xs) (hb : b ≤ g) : W.ownsRow b e size (.slice (some ⟨g, 0, none⟩) n cap) n xs := by
  refine ⟨h.1, ?_⟩
  rcases h.2 with ⟨e0, _⟩ | ⟨g', c', cur, e1, _, r⟩
  · cases e0
  · cases e1
    exact .inr ⟨g, cap, cur, rfl, hb, r⟩
theorem OwnR.open_ {W : World} {lo hi : Nat} {A : Option Addr} {cap : Nat} {zs : List Int} (h : OwnR W lo hi A cap zs) (hz : 0 < zs.length) : ∃ g, A = some ⟨g, 0, none⟩ ∧ lo ≤ g ∧ g < hi ∧ W.ownsRow 0 3 1 (.slice (some ⟨g, 0, none⟩) zs.length cap) zs.length (intCells zs) := by
  rcases h.2 with ⟨_, _, e⟩ | ⟨g, e, h1, h2, ho⟩
  · rw [e] at hz; exact absurd hz (by simp)
  · exact ⟨g, e, h1, h2, own_rebase ho (Nat.zero_le _)⟩
theorem OwnF.fst {W : World} {f t z : Nat × Nat} {AF AT AZ : Option Addr} {cF cT cZ : Nat} {F T Z : List Int} (h : OwnF W f t z AF cF AT cT AZ cZ F T Z) (hF : 0 < F.length) : ∃ gF, AF = some ⟨gF, 0, none⟩ ∧ f.1 ≤ gF ∧ gF < f.2 := by
  obtain ⟨g, e, h1, h2, _⟩ := h.1.open_ hF
  exact ⟨g, e, h1, h2⟩
theorem OwnF.open_ {W : World} {f t z : Nat × Nat} {AF AT AZ : Option Addr} {cF cT cZ : Nat} {F T Z : List Int} (h : OwnF W f t z AF cF AT cT AZ cZ F T Z) (hF : 0 < F.length) (hT : 0 < T.length) :
    ∃ gF gT, AF = some ⟨gF, 0, none⟩ ∧ AT = some ⟨gT, 0, none⟩ ∧ (f.1 ≤ gF ∧ gF < f.2) ∧ (t.1 ≤ gT ∧ gT < t.2) ∧ St3 W 0 gF cF gT cT AZ cZ z.1 z.2 F T Z := by
  obtain ⟨o1, o2, o3, d1, d2, d3⟩ := h
  obtain ⟨gF, rfl, f1, f2, hf⟩ := o1.open_ hF
  obtain ⟨gT, rfl, t1, t2, ht⟩ := o2.open_ hT
  unfold Dis at d1 d2 d3
  exact ⟨gF, gT, rfl, rfl, ⟨f1, f2⟩, ⟨t1, t2⟩, ⟨hf, ht, o3.ints, Nat.zero_le _, by omega, by omega, by omega⟩⟩
/-- The opened state, closed again; the third row stood. -/
theorem St3.ownF {W : World} {f t z : Nat × Nat} {gF cF gT cT : Nat} {AZ : Option Addr} {cZ z1 z2 : Nat} {F T Z : List Int} (h : St3 W 0 gF cF gT cT AZ cZ z1 z2 F T Z) (hf : f.1 ≤ gF ∧ gF < f.2) (ht : t.1 ≤ gT ∧ gT < t.2) (s1 : f.2 ≤ W.heap.size) (s2 : t.2 ≤ W.heap.size) (hz : OwnR W z.1 z.2 AZ cZ Z) (d1 : Dis f t) (d2 : Dis f z) (d3 : Dis t z) : OwnF W f t z (some ⟨gF, 0, none⟩) cF (some ⟨gT, 0, none⟩) cT AZ cZ F T Z :=
  ⟨⟨s1, .inr ⟨gF, rfl, hf.1, hf.2, own_rebase h.f hf.1⟩⟩, ⟨s2, .inr ⟨gT, rfl, ht.1, ht.2, own_rebase h.t ht.1⟩⟩, hz, d1, d2, d3⟩
theorem below_at {B : Nat} {f t : Nat × Nat} {a b c : World} (h : Below B a b) (k : Within2 f t b c) (hB : B ≤ b.heap.size) (h1 : B ≤ f.1) (h2 : B ≤ t.1) : Below B a c :=
  ⟨k.os.trans h.os, k.tape.trans h.tape, k.output.trans h.output, Nat.le_trans h.size k.size, fun i hi' => (k.block i (by omega) (by omega) (by omega)).trans (h.block i hi')⟩
theorem OwnF.own3 {W : World} {f t z : Nat × Nat} {AF AT AZ : Option Addr} {cF cT cZ : Nat} {F T Z : List Int} (h : OwnF W f t z AF cF AT cT AZ cZ F T Z) {lo hi : Nat} (h1 : lo ≤ f.1 ∧ f.2 ≤ hi) (h2 : lo ≤ t.1 ∧ t.2 ≤ hi) (h3 : lo ≤ z.1 ∧ z.2 ≤ hi) (h4 : hi ≤ W.heap.size) : Own3 W lo hi AF cF AT cT AZ cZ F T Z :=
  ⟨f, t, z, h.1.ints, h.2.1.ints, h.2.2.1.ints, h.2.2.2.1, h.2.2.2.2.1, h.2.2.2.2.2, h1, h2, h3, h4⟩
end Go.Proofs.Ytcfgljfpkhefmaa
