/- Several texts in one, in the order in which they build on each other (part 2 of 7): what stands on the way to the law; each names its own matter. No condition. -/
import Derived.Test.YtgmcibcjplncaaaPlA
import Derived.Lib.SliceRun
import Derived.Shelf.Bits.Mul64
import Derived.Test.YtgmcibcjplncaaaProg
import Derived.Laws.CopyOwn
import Derived.Deep.RegionLaw
import Derived.OrdersHeld
/- A state of the pebble game by value: three rows of ints; how a law's argument is opened. No condition. -/
namespace Go.Proofs.Ytgmcibcjplncaaa
open Go.RowKit Go.Joins Go.ChangeShapes Go.WideShapes Go.Deep

abbrev pebV (AF : Option Addr) (f cF : Nat) (AT : Option Addr) (t cT : Nat) (AZ : Option Addr) (z cZ : Nat) : Value := .agg #[.slice AF f cF, .slice AT t cT, .slice AZ z cZ]
/-- Three values in a block. -/
def Cel3 (W : World) (b : Nat) (T : TypeId) (v0 v1 v2 : Value) : Prop := W.heap[b]? = some (.cells #[v0, v1, v2] T (0, 0))
theorem Cel3.lt {W : World} {b : Nat} {T : TypeId} {v0 v1 v2 : Value} (h : Cel3 W b T v0 v1 v2) : b < W.heap.size := (Array.getElem?_eq_some_iff.1 h).1
theorem Cel3.cells {W : World} {b : Nat} {T : TypeId} {v0 v1 v2 : Value} (h : Cel3 W b T v0 v1 v2) :
    W.cell? ⟨b, 0, none⟩ = some v0 ∧ W.cell? ⟨b, 1, none⟩ = some v1 ∧ W.cell? ⟨b, 2, none⟩ = some v2 ∧ W.frozen? ⟨b, 0, none⟩ = false ∧ W.frozen? ⟨b, 1, none⟩ = false ∧ W.frozen? ⟨b, 2, none⟩ = false := by
  refine ⟨?_, ?_, ?_, frozen_of_row W b 0 _ T h, frozen_of_row W b 1 _ T h, frozen_of_row W b 2 _ T h⟩
  · rw [cell_of_row W b 0 _ T (0, 0) h]; rfl
  · rw [cell_of_row W b 1 _ T (0, 0) h]; rfl
  · rw [cell_of_row W b 2 _ T (0, 0) h]; rfl
theorem Cel3.within {W W' : World} {b lo hi : Nat} {T : TypeId} {v0 v1 v2 : Value} (h : Cel3 W b T v0 v1 v2) (hw : Within lo hi W W') (hd : b < lo ∨ hi ≤ b) : Cel3 W' b T v0 v1 v2 := (hw.block b h.lt hd).trans h
theorem Cel3.kept {W W' : World} {b : Nat} {T : TypeId} {v0 v1 v2 : Value} (h : Cel3 W b T v0 v1 v2) (hb : Below W.heap.size W W') : Cel3 W' b T v0 v1 v2 := (hb.block b h.lt).trans h
theorem Cel3.set0 {W : World} {b : Nat} {T : TypeId} {v0 v1 v2 : Value} (h : Cel3 W b T v0 v1 v2) (u : Value) : Cel3 (W.setCell ⟨b, 0, none⟩ u) b T u v1 v2 := heap_setCell_same W b 0 _ T u h
theorem Cel3.set1 {W : World} {b : Nat} {T : TypeId} {v0 v1 v2 : Value} (h : Cel3 W b T v0 v1 v2) (u : Value) : Cel3 (W.setCell ⟨b, 1, none⟩ u) b T v0 u v2 := heap_setCell_same W b 1 _ T u h
theorem Cel3.set2 {W : World} {b : Nat} {T : TypeId} {v0 v1 v2 : Value} (h : Cel3 W b T v0 v1 v2) (u : Value) : Cel3 (W.setCell ⟨b, 2, none⟩ u) b T v0 v1 u := heap_setCell_same W b 2 _ T u h
theorem cel3_new (w : World) (v0 v1 v2 : Value) (T : TypeId) : Cel3 (w.alloc (.cells #[v0, v1, v2] T)) w.heap.size T v0 v1 v2 := heap_alloc_new w _
theorem within_set (W : World) (b o : Nat) (v : Value) : Within b (b + 1) W (W.setCell ⟨b, o, none⟩ v) := by
  have hg := grownBy_set W b o v
  exact ⟨hg.os, hg.tape, hg.output, hg.size, fun j hj hd => hg.block j hj (by simp; omega)⟩
theorem within_alloc (w : World) (o : Obj) : Within 0 0 w (w.alloc o) := within_of (new_below w o)
theorem Within.refl (lo hi : Nat) (w : World) : Within lo hi w w := ⟨rfl, rfl, rfl, Nat.le_refl _, fun _ _ _ => rfl⟩
theorem Within.trans {lo hi : Nat} {a b c : World} (h : Within lo hi a b) (k : Within lo hi b c) : Within lo hi a c :=
  ⟨k.os.trans h.os, k.tape.trans h.tape, k.output.trans h.output, Nat.le_trans h.size k.size, fun i hi' hd => (k.block i (Nat.lt_of_lt_of_le hi' h.size) hd).trans (h.block i hi' hd)⟩
theorem Within.widen {lo hi lo' hi' : Nat} {a b : World} (h : Within lo hi a b) (h1 : hi ≤ lo ∨ (lo' ≤ lo ∧ hi ≤ hi')) : Within lo' hi' a b :=
  ⟨h.os, h.tape, h.output, h.size, fun i hi' hd => h.block i hi' (by omega)⟩
/-- A state that is read: its rows lie in blocks from lo to hi. -/
structure Peb3 (W : World) (lo hi : Nat) (AF AT AZ : Option Addr) (F T Z : List Int) : Prop where
  f : IntsIn W lo hi AF F
  t : IntsIn W lo hi AT T
  z : IntsIn W lo hi AZ Z
theorem Peb3.within {W W' : World} {lo hi lo' hi' : Nat} {AF AT AZ : Option Addr} {F T Z : List Int} (h : Peb3 W lo hi AF AT AZ F T Z) (hw : Within lo' hi' W W') (hd : hi ≤ lo' ∨ hi' ≤ lo) : Peb3 W' lo hi AF AT AZ F T Z :=
  ⟨h.f.within hw hd, h.t.within hw hd, h.z.within hw hd⟩
theorem IntsIn.widen {W : World} {lo hi lo' hi' : Nat} {A : Option Addr} {zs : List Int} (h : IntsIn W lo hi A zs) (h1 : lo' ≤ lo) (h2 : hi ≤ hi') (h3 : hi' ≤ W.heap.size) : IntsIn W lo' hi' A zs :=
  ⟨h3, fun hl => by
    obtain ⟨b, off, e, g1, g2, hc⟩ := h.2 hl
    exact ⟨b, off, e, by omega, by omega, hc⟩⟩
def Dis (a b : Nat × Nat) : Prop := a.2 ≤ b.1 ∨ b.2 ≤ a.1
/-- A state of the call's own: three rows in blocks of their own, between lo and hi. -/
def Own3 (W : World) (lo hi : Nat) (AF : Option Addr) (cF : Nat) (AT : Option Addr) (cT : Nat) (AZ : Option Addr) (cZ : Nat) (F T Z : List Int) : Prop :=
  ∃ f t z : Nat × Nat, OwnInts W f.1 f.2 AF cF F ∧ OwnInts W t.1 t.2 AT cT T ∧ OwnInts W z.1 z.2 AZ cZ Z ∧ Dis f t ∧ Dis f z ∧ Dis t z ∧ (lo ≤ f.1 ∧ f.2 ≤ hi) ∧ (lo ≤ t.1 ∧ t.2 ≤ hi) ∧ (lo ≤ z.1 ∧ z.2 ≤ hi) ∧ hi ≤ W.heap.size
theorem Own3.within {W W' : World} {lo hi lo' hi' : Nat} {AF AT AZ : Option Addr} {cF cT cZ : Nat} {F T Z : List Int} (h : Own3 W lo hi AF cF AT cT AZ cZ F T Z) (hw : Within lo' hi' W W') (hd : hi ≤ lo' ∨ hi' ≤ lo) : Own3 W' lo hi AF cF AT cT AZ cZ F T Z := by
  obtain ⟨f, t, z, h1, h2, h3, d1, d2, d3, b1, b2, b3, h4⟩ := h
  exact ⟨f, t, z, h1.within hw (by omega), h2.within hw (by omega), h3.within hw (by omega), d1, d2, d3, b1, b2, b3, Nat.le_trans h4 hw.size⟩
theorem Own3.reads {W : World} {lo hi : Nat} {AF AT AZ : Option Addr} {cF cT cZ : Nat} {F T Z : List Int} (h : Own3 W lo hi AF cF AT cT AZ cZ F T Z) : Peb3 W lo hi AF AT AZ F T Z := by
  obtain ⟨f, t, z, h1, h2, h3, _, _, _, b1, b2, b3, h4⟩ := h
  exact ⟨h1.reads.widen b1.1 b1.2 h4, h2.reads.widen b2.1 b2.2 h4, h3.reads.widen b3.1 b3.2 h4⟩
theorem Own3.widen {W : World} {lo hi lo' hi' : Nat} {AF AT AZ : Option Addr} {cF cT cZ : Nat} {F T Z : List Int} (h : Own3 W lo hi AF cF AT cT AZ cZ F T Z) (h1 : lo' ≤ lo) (h2 : hi ≤ hi') (h3 : hi' ≤ W.heap.size) : Own3 W lo' hi' AF cF AT cT AZ cZ F T Z := by
  obtain ⟨f, t, z, g1, g2, g3, d1, d2, d3, b1, b2, b3, _⟩ := h
  exact ⟨f, t, z, g1, g2, g3, d1, d2, d3, by omega, by omega, by omega, h3⟩

section
variable {H : Type} {enc : TypeId × Value → H} {w : World} {base : Nat}
theorem open_row {n : Nat} {v : Value} {y : DataW H × List MemPlace} (h : DataW.trod enc Try.prog w 0 (fun _ => true) true n 25 [v] = some y) :
    ∃ (A : Option Addr) (cap : Nat) (zs : List Int), v = .slice A zs.length cap ∧ zs.length ≤ maxLen ∧ IntsIn w 0 w.heap.size A zs ∧ WfI zs := by
  have key : ∃ (a : Option Addr) (len cap : Nat) (zs : List Int), v = .slice a len cap ∧ IsRow .i64 w a len cap zs := by
    rcases Go.ChangeShapes.open_ints Try.underlying25 Try.underlying3 (by kernel_rfl) h with ⟨hcs, _⟩ | ⟨x, l, c, zs, hcs, _, hl, hm, hz, _, hcell, hwz⟩
    · exact ⟨none, 0, 0, [], by simpa using hcs, .inl ⟨rfl, rfl, rfl, rfl⟩⟩
    · exact ⟨some x, l, c, zs, by simpa using hcs, .inr ⟨_, rfl, hl, hm, by simpa using hz, hcell, hwz⟩⟩
  obtain ⟨a, len, cap, zs, rfl, hr⟩ := key
  obtain ⟨ys, h1, h2, h3, h4⟩ := hr.intsW
  subst h1
  exact ⟨a, cap, ys, rfl, h3, h2, h4⟩
set_option maxRecDepth 100000 in
theorem open_peb {r : Reach} {b0 : Nat} {v : Value} {d : DataW H} {p : List MemPlace} (hv : Value.okWide Try.prog w r b0 27 v) (h : DataW.Trod enc Try.prog w 0 (fun _ => true) true 27 v d p) :
    ∃ (AF : Option Addr) (cF : Nat) (F : List Int) (AT : Option Addr) (cT : Nat) (T : List Int) (AZ : Option Addr) (cZ : Nat) (Z : List Int), v = pebV AF F.length cF AT T.length cT AZ Z.length cZ ∧ (F.length ≤ maxLen ∧ T.length ≤ maxLen ∧ Z.length ≤ maxLen) ∧ Peb3 w 0 w.heap.size AF AT AZ F T Z ∧ (WfI F ∧ WfI T ∧ WfI Z) := by
  obtain ⟨v0, v1, v2, y0, y1, y2, n, rfl, _, _, h0, h1, h2⟩ := open_agg3 Try.underlying27 (by kernel_rfl) (by kernel_rfl) hv h
  obtain ⟨AF, cF, F, rfl, l0, i0, w0⟩ := open_row h0
  obtain ⟨AT, cT, T, rfl, l1, i1, w1⟩ := open_row h1
  obtain ⟨AZ, cZ, Z, rfl, l2, i2, w2⟩ := open_row h2
  exact ⟨AF, cF, F, AT, cT, T, AZ, cZ, Z, rfl, ⟨l0, l1, l2⟩, ⟨i0, i1, i2⟩, w0, w1, w2⟩
end

/-- The world that only an answer's box was written in. -/
theorem ret3 {W : World} {b : Nat} {T : TypeId} {a0 a1 a2 : Value} (h : Cel3 W b T a0 a1 a2) (v0 v1 v2 : Value) : Cel3 (((W.setCell ⟨b, 0, none⟩ v0).setCell ⟨b, 1, none⟩ v1).setCell ⟨b, 2, none⟩ v2) b T v0 v1 v2 ∧ Within b (b + 1) W (((W.setCell ⟨b, 0, none⟩ v0).setCell ⟨b, 1, none⟩ v1).setCell ⟨b, 2, none⟩ v2) :=
  ⟨((h.set0 v0).set1 v1).set2 v2, ((within_set W b 0 v0).trans (within_set _ b 1 v1)).trans (within_set _ b 2 v2)⟩

end Go.Proofs.Ytgmcibcjplncaaa
/- How the laws copy a state of the pebble game. No condition. -/
namespace Go.Proofs.Ytgmcibcjplncaaa
open Go.RowKit

set_option maxHeartbeats 2000000 in
set_option maxRecDepth 100000 in
theorem toPeb_c (AF AT AZ : Option Addr) (cF cT cZ lo hi : Nat) (F T Z : List Int) (w : World) (h : Peb3 w lo hi AF AT AZ F T Z) (hF : F.length ≤ 1048576) (hT : T.length ≤ 1048576) (hZ : Z.length ≤ 1048576) :
    Calls Try.prog 21 #[pebV AF F.length cF AT T.length cT AZ Z.length cZ] w fun e w' => ∃ a b c : Nat, e = .returned (pebV (some ⟨a, 0, none⟩) F.length F.length (some ⟨b, 0, none⟩) T.length T.length (some ⟨c, 0, none⟩) Z.length Z.length) ∧ Own3 w' w.heap.size w'.heap.size (some ⟨a, 0, none⟩) F.length (some ⟨b, 0, none⟩) T.length (some ⟨c, 0, none⟩) Z.length F T Z ∧ Below w.heap.size w w' := by
  have hhi : hi ≤ w.heap.size := h.f.1
  have W0 := Lib.hid (Below.refl w.heap.size w)
  have H_0 := Lib.hid (h)
  clear h
  have Z1 := Lib.hid (within_alloc w (.cells #[(.slice AF F.length cF), (.slice AT T.length cT), (.slice AZ Z.length cZ)] 27)).size
  have W1 := Lib.hid (within_on W0.out (within_alloc w (.cells #[(.slice AF F.length cF), (.slice AT T.length cT), (.slice AZ Z.length cZ)] 27)) W0.out.size (.inr (Nat.le_refl _)))
  have H_1 := Lib.hid (H_0.out.within (within_alloc w (.cells #[(.slice AF F.length cF), (.slice AT T.length cT), (.slice AZ Z.length cZ)] 27)) (by omega))
  have Y1 := Lib.hid (show (w.alloc (.cells #[(.slice AF F.length cF), (.slice AT T.length cT), (.slice AZ Z.length cZ)] 27)).heap.size = w.heap.size + 1 by simp)
  have hnew := cel3_new w (.slice AF F.length cF) (.slice AT T.length cT) (.slice AZ Z.length cZ) 27
  have GA_1 := Lib.hid hnew
  clear hnew
  have Z2 := Lib.hid (within_alloc (w.alloc (.cells #[(.slice AF F.length cF), (.slice AT T.length cT), (.slice AZ Z.length cZ)] 27)) (.cells #[(.slice none 0 0), (.slice none 0 0), (.slice none 0 0)] 30)).size
  have W2 := Lib.hid (within_on W1.out (within_alloc (w.alloc (.cells #[(.slice AF F.length cF), (.slice AT T.length cT), (.slice AZ Z.length cZ)] 27)) (.cells #[(.slice none 0 0), (.slice none 0 0), (.slice none 0 0)] 30)) W1.out.size (.inr (Nat.le_refl _)))
  have H_2 := Lib.hid (H_1.out.within (within_alloc (w.alloc (.cells #[(.slice AF F.length cF), (.slice AT T.length cT), (.slice AZ Z.length cZ)] 27)) (.cells #[(.slice none 0 0), (.slice none 0 0), (.slice none 0 0)] 30)) (by omega))
  have GA_2 := Lib.hid (GA_1.out.within (within_alloc (w.alloc (.cells #[(.slice AF F.length cF), (.slice AT T.length cT), (.slice AZ Z.length cZ)] 27)) (.cells #[(.slice none 0 0), (.slice none 0 0), (.slice none 0 0)] 30)) (by omega))
  have Y2 := Lib.hid (show ((w.alloc (.cells #[(.slice AF F.length cF), (.slice AT T.length cT), (.slice AZ Z.length cZ)] 27)).alloc (.cells #[(.slice none 0 0), (.slice none 0 0), (.slice none 0 0)] 30)).heap.size = (w.alloc (.cells #[(.slice AF F.length cF), (.slice AT T.length cT), (.slice AZ Z.length cZ)] 27)).heap.size + 1 by simp)
  have hnew := cel3_new (w.alloc (.cells #[(.slice AF F.length cF), (.slice AT T.length cT), (.slice AZ Z.length cZ)] 27)) (.slice none 0 0) (.slice none 0 0) (.slice none 0 0) 30
  rw [show (w.alloc (.cells #[(.slice AF F.length cF), (.slice AT T.length cT), (.slice AZ Z.length cZ)] 27)).heap.size = w.heap.size + 1 by simp] at hnew
  have GR_2 := Lib.hid hnew
  clear hnew
  have Z3 := Lib.hid (within_alloc ((w.alloc (.cells #[(.slice AF F.length cF), (.slice AT T.length cT), (.slice AZ Z.length cZ)] 27)).alloc (.cells #[(.slice none 0 0), (.slice none 0 0), (.slice none 0 0)] 30)) (.cells #[(.slice none 0 0), (.slice none 0 0), (.slice none 0 0)] 30)).size
  have W3 := Lib.hid (within_on W2.out (within_alloc ((w.alloc (.cells #[(.slice AF F.length cF), (.slice AT T.length cT), (.slice AZ Z.length cZ)] 27)).alloc (.cells #[(.slice none 0 0), (.slice none 0 0), (.slice none 0 0)] 30)) (.cells #[(.slice none 0 0), (.slice none 0 0), (.slice none 0 0)] 30)) W2.out.size (.inr (Nat.le_refl _)))
  have H_3 := Lib.hid (H_2.out.within (within_alloc ((w.alloc (.cells #[(.slice AF F.length cF), (.slice AT T.length cT), (.slice AZ Z.length cZ)] 27)).alloc (.cells #[(.slice none 0 0), (.slice none 0 0), (.slice none 0 0)] 30)) (.cells #[(.slice none 0 0), (.slice none 0 0), (.slice none 0 0)] 30)) (by omega))
  have GA_3 := Lib.hid (GA_2.out.within (within_alloc ((w.alloc (.cells #[(.slice AF F.length cF), (.slice AT T.length cT), (.slice AZ Z.length cZ)] 27)).alloc (.cells #[(.slice none 0 0), (.slice none 0 0), (.slice none 0 0)] 30)) (.cells #[(.slice none 0 0), (.slice none 0 0), (.slice none 0 0)] 30)) (by omega))
  have GR_3 := Lib.hid (GR_2.out.within (within_alloc ((w.alloc (.cells #[(.slice AF F.length cF), (.slice AT T.length cT), (.slice AZ Z.length cZ)] 27)).alloc (.cells #[(.slice none 0 0), (.slice none 0 0), (.slice none 0 0)] 30)) (.cells #[(.slice none 0 0), (.slice none 0 0), (.slice none 0 0)] 30)) (by omega))
  have Y3 := Lib.hid (show (((w.alloc (.cells #[(.slice AF F.length cF), (.slice AT T.length cT), (.slice AZ Z.length cZ)] 27)).alloc (.cells #[(.slice none 0 0), (.slice none 0 0), (.slice none 0 0)] 30)).alloc (.cells #[(.slice none 0 0), (.slice none 0 0), (.slice none 0 0)] 30)).heap.size = ((w.alloc (.cells #[(.slice AF F.length cF), (.slice AT T.length cT), (.slice AZ Z.length cZ)] 27)).alloc (.cells #[(.slice none 0 0), (.slice none 0 0), (.slice none 0 0)] 30)).heap.size + 1 by simp)
  have hnew := cel3_new ((w.alloc (.cells #[(.slice AF F.length cF), (.slice AT T.length cT), (.slice AZ Z.length cZ)] 27)).alloc (.cells #[(.slice none 0 0), (.slice none 0 0), (.slice none 0 0)] 30)) (.slice none 0 0) (.slice none 0 0) (.slice none 0 0) 30
  rw [show ((w.alloc (.cells #[(.slice AF F.length cF), (.slice AT T.length cT), (.slice AZ Z.length cZ)] 27)).alloc (.cells #[(.slice none 0 0), (.slice none 0 0), (.slice none 0 0)] 30)).heap.size = w.heap.size + 1 + 1 by simp] at hnew
  have GO_3 := Lib.hid hnew
  clear hnew
  go_enter Try.func21, Try.ntmps21
  obtain ⟨g0_0, g0_1, g0_2, g0_3, g0_4, g0_5⟩ := GA_3.out.cells
  go_wp2_with fail
  clear g0_0 g0_1 g0_2 g0_3 g0_4 g0_5
  generalize (((w.alloc (.cells #[(.slice AF F.length cF), (.slice AT T.length cT), (.slice AZ Z.length cZ)] 27)).alloc (.cells #[(.slice none 0 0), (.slice none 0 0), (.slice none 0 0)] 30)).alloc (.cells #[(.slice none 0 0), (.slice none 0 0), (.slice none 0 0)] 30)) = w3 at *
  generalize ((w.alloc (.cells #[(.slice AF F.length cF), (.slice AT T.length cT), (.slice AZ Z.length cZ)] 27)).alloc (.cells #[(.slice none 0 0), (.slice none 0 0), (.slice none 0 0)] 30)) = w2 at *
  generalize (w.alloc (.cells #[(.slice AF F.length cF), (.slice AT T.length cT), (.slice AZ Z.length cZ)] 27)) = w1 at *
  refine (toInts_c F AF cF lo hi _ H_3.out.f hF).mono ?_
  rintro e w4 ⟨a, rfl, ho, hb⟩
  have Z4 := Lib.hid (within_of hb).size
  have W4 := Lib.hid (within_on W3.out (within_of hb) W3.out.size (.inr (Nat.le_refl _)))
  have H_4 := Lib.hid (H_3.out.within (within_of hb) (by omega))
  have GA_4 := Lib.hid (GA_3.out.within (within_of hb) (by omega))
  have GR_4 := Lib.hid (GR_3.out.within (within_of hb) (by omega))
  have GO_4 := Lib.hid (GO_3.out.within (within_of hb) (by omega))
  have OF_4 := Lib.hid (own_ints' ho)
  clear ho hb
  obtain ⟨g1_0, g1_1, g1_2, g1_3, g1_4, g1_5⟩ := GO_4.out.cells
  have Z5 := Lib.hid (within_set w4 (w.heap.size + 1 + 1) 0 (.slice (some ⟨a, 0, none⟩) F.length F.length)).size
  have W5 := Lib.hid (within_on W4.out (within_set w4 (w.heap.size + 1 + 1) 0 (.slice (some ⟨a, 0, none⟩) F.length F.length)) W4.out.size (by have := Z1.out; have := Z2.out; have := Z3.out; have := Z4.out; have := Z5.out; have := Y1.out; have := Y2.out; have := Y3.out; omega))
  have H_5 := Lib.hid (H_4.out.within (within_set w4 (w.heap.size + 1 + 1) 0 (.slice (some ⟨a, 0, none⟩) F.length F.length)) (by have := Z1.out; have := Z2.out; have := Z3.out; have := Z4.out; have := Z5.out; have := Y1.out; have := Y2.out; have := Y3.out; omega))
  have GA_5 := Lib.hid (GA_4.out.within (within_set w4 (w.heap.size + 1 + 1) 0 (.slice (some ⟨a, 0, none⟩) F.length F.length)) (by have := Z1.out; have := Z2.out; have := Z3.out; have := Z4.out; have := Z5.out; have := Y1.out; have := Y2.out; have := Y3.out; omega))
  have GR_5 := Lib.hid (GR_4.out.within (within_set w4 (w.heap.size + 1 + 1) 0 (.slice (some ⟨a, 0, none⟩) F.length F.length)) (by have := Z1.out; have := Z2.out; have := Z3.out; have := Z4.out; have := Z5.out; have := Y1.out; have := Y2.out; have := Y3.out; omega))
  have GO_5 := Lib.hid (GO_4.out.set0 (.slice (some ⟨a, 0, none⟩) F.length F.length))
  have OF_5 := Lib.hid (OF_4.out.within (within_set w4 (w.heap.size + 1 + 1) 0 (.slice (some ⟨a, 0, none⟩) F.length F.length)) (by have := Z1.out; have := Z2.out; have := Z3.out; have := Z4.out; have := Z5.out; have := Y1.out; have := Y2.out; have := Y3.out; omega))
  obtain ⟨g2_0, g2_1, g2_2, g2_3, g2_4, g2_5⟩ := GA_5.out.cells
  go_wp2_with fail
  clear g1_0 g1_1 g1_2 g1_3 g1_4 g1_5 g2_0 g2_1 g2_2 g2_3 g2_4 g2_5
  generalize (w4.setCell ⟨w.heap.size + 1 + 1, 0, none⟩ (.slice (some ⟨a, 0, none⟩) F.length F.length)) = w5 at *
  refine (toInts_c T AT cT lo hi _ H_5.out.t hT).mono ?_
  rintro e w6 ⟨b, rfl, ho, hb⟩
  have Z6 := Lib.hid (within_of hb).size
  have W6 := Lib.hid (within_on W5.out (within_of hb) W5.out.size (.inr (Nat.le_refl _)))
  have H_6 := Lib.hid (H_5.out.within (within_of hb) (by omega))
  have GA_6 := Lib.hid (GA_5.out.within (within_of hb) (by omega))
  have GR_6 := Lib.hid (GR_5.out.within (within_of hb) (by omega))
  have GO_6 := Lib.hid (GO_5.out.within (within_of hb) (by omega))
  have OF_6 := Lib.hid (OF_5.out.within (within_of hb) (by omega))
  have OT_6 := Lib.hid (own_ints' ho)
  clear ho hb
  obtain ⟨g3_0, g3_1, g3_2, g3_3, g3_4, g3_5⟩ := GO_6.out.cells
  have Z7 := Lib.hid (within_set w6 (w.heap.size + 1 + 1) 1 (.slice (some ⟨b, 0, none⟩) T.length T.length)).size
  have W7 := Lib.hid (within_on W6.out (within_set w6 (w.heap.size + 1 + 1) 1 (.slice (some ⟨b, 0, none⟩) T.length T.length)) W6.out.size (by have := Z1.out; have := Z2.out; have := Z3.out; have := Z4.out; have := Z5.out; have := Z6.out; have := Z7.out; have := Y1.out; have := Y2.out; have := Y3.out; omega))
  have H_7 := Lib.hid (H_6.out.within (within_set w6 (w.heap.size + 1 + 1) 1 (.slice (some ⟨b, 0, none⟩) T.length T.length)) (by have := Z1.out; have := Z2.out; have := Z3.out; have := Z4.out; have := Z5.out; have := Z6.out; have := Z7.out; have := Y1.out; have := Y2.out; have := Y3.out; omega))
  have GA_7 := Lib.hid (GA_6.out.within (within_set w6 (w.heap.size + 1 + 1) 1 (.slice (some ⟨b, 0, none⟩) T.length T.length)) (by have := Z1.out; have := Z2.out; have := Z3.out; have := Z4.out; have := Z5.out; have := Z6.out; have := Z7.out; have := Y1.out; have := Y2.out; have := Y3.out; omega))
  have GR_7 := Lib.hid (GR_6.out.within (within_set w6 (w.heap.size + 1 + 1) 1 (.slice (some ⟨b, 0, none⟩) T.length T.length)) (by have := Z1.out; have := Z2.out; have := Z3.out; have := Z4.out; have := Z5.out; have := Z6.out; have := Z7.out; have := Y1.out; have := Y2.out; have := Y3.out; omega))
  have GO_7 := Lib.hid (GO_6.out.set1 (.slice (some ⟨b, 0, none⟩) T.length T.length))
  have OF_7 := Lib.hid (OF_6.out.within (within_set w6 (w.heap.size + 1 + 1) 1 (.slice (some ⟨b, 0, none⟩) T.length T.length)) (by have := Z1.out; have := Z2.out; have := Z3.out; have := Z4.out; have := Z5.out; have := Z6.out; have := Z7.out; have := Y1.out; have := Y2.out; have := Y3.out; omega))
  have OT_7 := Lib.hid (OT_6.out.within (within_set w6 (w.heap.size + 1 + 1) 1 (.slice (some ⟨b, 0, none⟩) T.length T.length)) (by have := Z1.out; have := Z2.out; have := Z3.out; have := Z4.out; have := Z5.out; have := Z6.out; have := Z7.out; have := Y1.out; have := Y2.out; have := Y3.out; omega))
  obtain ⟨g4_0, g4_1, g4_2, g4_3, g4_4, g4_5⟩ := GA_7.out.cells
  go_wp2_with fail
  clear g3_0 g3_1 g3_2 g3_3 g3_4 g3_5 g4_0 g4_1 g4_2 g4_3 g4_4 g4_5
  generalize (w6.setCell ⟨w.heap.size + 1 + 1, 1, none⟩ (.slice (some ⟨b, 0, none⟩) T.length T.length)) = w7 at *
  refine (toInts_c Z AZ cZ lo hi _ H_7.out.z hZ).mono ?_
  rintro e w8 ⟨c, rfl, ho, hb⟩
  have Z8 := Lib.hid (within_of hb).size
  have W8 := Lib.hid (within_on W7.out (within_of hb) W7.out.size (.inr (Nat.le_refl _)))
  have H_8 := Lib.hid (H_7.out.within (within_of hb) (by omega))
  have GA_8 := Lib.hid (GA_7.out.within (within_of hb) (by omega))
  have GR_8 := Lib.hid (GR_7.out.within (within_of hb) (by omega))
  have GO_8 := Lib.hid (GO_7.out.within (within_of hb) (by omega))
  have OF_8 := Lib.hid (OF_7.out.within (within_of hb) (by omega))
  have OT_8 := Lib.hid (OT_7.out.within (within_of hb) (by omega))
  have OZ_8 := Lib.hid (own_ints' ho)
  clear ho hb
  obtain ⟨g5_0, g5_1, g5_2, g5_3, g5_4, g5_5⟩ := GO_8.out.cells
  have Z9 := Lib.hid (within_set w8 (w.heap.size + 1 + 1) 2 (.slice (some ⟨c, 0, none⟩) Z.length Z.length)).size
  have W9 := Lib.hid (within_on W8.out (within_set w8 (w.heap.size + 1 + 1) 2 (.slice (some ⟨c, 0, none⟩) Z.length Z.length)) W8.out.size (by have := Z1.out; have := Z2.out; have := Z3.out; have := Z4.out; have := Z5.out; have := Z6.out; have := Z7.out; have := Z8.out; have := Z9.out; have := Y1.out; have := Y2.out; have := Y3.out; omega))
  have H_9 := Lib.hid (H_8.out.within (within_set w8 (w.heap.size + 1 + 1) 2 (.slice (some ⟨c, 0, none⟩) Z.length Z.length)) (by have := Z1.out; have := Z2.out; have := Z3.out; have := Z4.out; have := Z5.out; have := Z6.out; have := Z7.out; have := Z8.out; have := Z9.out; have := Y1.out; have := Y2.out; have := Y3.out; omega))
  have GA_9 := Lib.hid (GA_8.out.within (within_set w8 (w.heap.size + 1 + 1) 2 (.slice (some ⟨c, 0, none⟩) Z.length Z.length)) (by have := Z1.out; have := Z2.out; have := Z3.out; have := Z4.out; have := Z5.out; have := Z6.out; have := Z7.out; have := Z8.out; have := Z9.out; have := Y1.out; have := Y2.out; have := Y3.out; omega))
  have GR_9 := Lib.hid (GR_8.out.within (within_set w8 (w.heap.size + 1 + 1) 2 (.slice (some ⟨c, 0, none⟩) Z.length Z.length)) (by have := Z1.out; have := Z2.out; have := Z3.out; have := Z4.out; have := Z5.out; have := Z6.out; have := Z7.out; have := Z8.out; have := Z9.out; have := Y1.out; have := Y2.out; have := Y3.out; omega))
  have GO_9 := Lib.hid (GO_8.out.set2 (.slice (some ⟨c, 0, none⟩) Z.length Z.length))
  have OF_9 := Lib.hid (OF_8.out.within (within_set w8 (w.heap.size + 1 + 1) 2 (.slice (some ⟨c, 0, none⟩) Z.length Z.length)) (by have := Z1.out; have := Z2.out; have := Z3.out; have := Z4.out; have := Z5.out; have := Z6.out; have := Z7.out; have := Z8.out; have := Z9.out; have := Y1.out; have := Y2.out; have := Y3.out; omega))
  have OT_9 := Lib.hid (OT_8.out.within (within_set w8 (w.heap.size + 1 + 1) 2 (.slice (some ⟨c, 0, none⟩) Z.length Z.length)) (by have := Z1.out; have := Z2.out; have := Z3.out; have := Z4.out; have := Z5.out; have := Z6.out; have := Z7.out; have := Z8.out; have := Z9.out; have := Y1.out; have := Y2.out; have := Y3.out; omega))
  have OZ_9 := Lib.hid (OZ_8.out.within (within_set w8 (w.heap.size + 1 + 1) 2 (.slice (some ⟨c, 0, none⟩) Z.length Z.length)) (by have := Z1.out; have := Z2.out; have := Z3.out; have := Z4.out; have := Z5.out; have := Z6.out; have := Z7.out; have := Z8.out; have := Z9.out; have := Y1.out; have := Y2.out; have := Y3.out; omega))
  obtain ⟨g6_0, g6_1, g6_2, g6_3, g6_4, g6_5⟩ := GA_9.out.cells
  obtain ⟨g7_0, g7_1, g7_2, g7_3, g7_4, g7_5⟩ := GO_9.out.cells
  obtain ⟨g8_0, g8_1, g8_2, g8_3, g8_4, g8_5⟩ := GR_9.out.cells
  have Z10 := Lib.hid ((ret3 GR_9.out (.slice (some ⟨a, 0, none⟩) F.length F.length) (.slice (some ⟨b, 0, none⟩) T.length T.length) (.slice (some ⟨c, 0, none⟩) Z.length Z.length)).2).size
  have W10 := Lib.hid (within_on W9.out ((ret3 GR_9.out (.slice (some ⟨a, 0, none⟩) F.length F.length) (.slice (some ⟨b, 0, none⟩) T.length T.length) (.slice (some ⟨c, 0, none⟩) Z.length Z.length)).2) W9.out.size (by have := Z1.out; have := Z2.out; have := Z3.out; have := Z4.out; have := Z5.out; have := Z6.out; have := Z7.out; have := Z8.out; have := Z9.out; have := Z10.out; have := Y1.out; have := Y2.out; have := Y3.out; omega))
  have H_10 := Lib.hid (H_9.out.within ((ret3 GR_9.out (.slice (some ⟨a, 0, none⟩) F.length F.length) (.slice (some ⟨b, 0, none⟩) T.length T.length) (.slice (some ⟨c, 0, none⟩) Z.length Z.length)).2) (by have := Z1.out; have := Z2.out; have := Z3.out; have := Z4.out; have := Z5.out; have := Z6.out; have := Z7.out; have := Z8.out; have := Z9.out; have := Z10.out; have := Y1.out; have := Y2.out; have := Y3.out; omega))
  have GA_10 := Lib.hid (GA_9.out.within ((ret3 GR_9.out (.slice (some ⟨a, 0, none⟩) F.length F.length) (.slice (some ⟨b, 0, none⟩) T.length T.length) (.slice (some ⟨c, 0, none⟩) Z.length Z.length)).2) (by have := Z1.out; have := Z2.out; have := Z3.out; have := Z4.out; have := Z5.out; have := Z6.out; have := Z7.out; have := Z8.out; have := Z9.out; have := Z10.out; have := Y1.out; have := Y2.out; have := Y3.out; omega))
  have GR_10 := Lib.hid ((ret3 GR_9.out (.slice (some ⟨a, 0, none⟩) F.length F.length) (.slice (some ⟨b, 0, none⟩) T.length T.length) (.slice (some ⟨c, 0, none⟩) Z.length Z.length)).1)
  have GO_10 := Lib.hid (GO_9.out.within ((ret3 GR_9.out (.slice (some ⟨a, 0, none⟩) F.length F.length) (.slice (some ⟨b, 0, none⟩) T.length T.length) (.slice (some ⟨c, 0, none⟩) Z.length Z.length)).2) (by have := Z1.out; have := Z2.out; have := Z3.out; have := Z4.out; have := Z5.out; have := Z6.out; have := Z7.out; have := Z8.out; have := Z9.out; have := Z10.out; have := Y1.out; have := Y2.out; have := Y3.out; omega))
  have OF_10 := Lib.hid (OF_9.out.within ((ret3 GR_9.out (.slice (some ⟨a, 0, none⟩) F.length F.length) (.slice (some ⟨b, 0, none⟩) T.length T.length) (.slice (some ⟨c, 0, none⟩) Z.length Z.length)).2) (by have := Z1.out; have := Z2.out; have := Z3.out; have := Z4.out; have := Z5.out; have := Z6.out; have := Z7.out; have := Z8.out; have := Z9.out; have := Z10.out; have := Y1.out; have := Y2.out; have := Y3.out; omega))
  have OT_10 := Lib.hid (OT_9.out.within ((ret3 GR_9.out (.slice (some ⟨a, 0, none⟩) F.length F.length) (.slice (some ⟨b, 0, none⟩) T.length T.length) (.slice (some ⟨c, 0, none⟩) Z.length Z.length)).2) (by have := Z1.out; have := Z2.out; have := Z3.out; have := Z4.out; have := Z5.out; have := Z6.out; have := Z7.out; have := Z8.out; have := Z9.out; have := Z10.out; have := Y1.out; have := Y2.out; have := Y3.out; omega))
  have OZ_10 := Lib.hid (OZ_9.out.within ((ret3 GR_9.out (.slice (some ⟨a, 0, none⟩) F.length F.length) (.slice (some ⟨b, 0, none⟩) T.length T.length) (.slice (some ⟨c, 0, none⟩) Z.length Z.length)).2) (by have := Z1.out; have := Z2.out; have := Z3.out; have := Z4.out; have := Z5.out; have := Z6.out; have := Z7.out; have := Z8.out; have := Z9.out; have := Z10.out; have := Y1.out; have := Y2.out; have := Y3.out; omega))
  obtain ⟨g9_0, g9_1, g9_2, g9_3, g9_4, g9_5⟩ := GR_10.out.cells
  go_wp2_with fail
  generalize ((((w8.setCell ⟨w.heap.size + 1 + 1, 2, none⟩ (.slice (some ⟨c, 0, none⟩) Z.length Z.length)).setCell ⟨w.heap.size + 1, 0, none⟩ (.slice (some ⟨a, 0, none⟩) F.length F.length)).setCell ⟨w.heap.size + 1, 1, none⟩ (.slice (some ⟨b, 0, none⟩) T.length T.length)).setCell ⟨w.heap.size + 1, 2, none⟩ (.slice (some ⟨c, 0, none⟩) Z.length Z.length)) = w10 at *
  generalize (w8.setCell ⟨w.heap.size + 1 + 1, 2, none⟩ (.slice (some ⟨c, 0, none⟩) Z.length Z.length)) = w9 at *
  refine bodyPost_ret (v := pebV (some ⟨a, 0, none⟩) F.length F.length (some ⟨b, 0, none⟩) T.length T.length (some ⟨c, 0, none⟩) Z.length Z.length) ?_ rfl ⟨a, b, c, rfl, ?_, W10.out⟩
  · obtain ⟨c0, c1, c2, _⟩ := GR_10.out.cells
    simp [results, Try.results21, go_sem, c0, c1, c2]
  · exact ⟨(w3.heap.size, w4.heap.size), (w5.heap.size, w6.heap.size), (w7.heap.size, w8.heap.size), OF_10.out, OT_10.out, OZ_10.out, .inl (by have := Z1.out; have := Z2.out; have := Z3.out; have := Z4.out; have := Z5.out; have := Z6.out; have := Z7.out; have := Z8.out; have := Z9.out; have := Z10.out; have := Y1.out; have := Y2.out; have := Y3.out; omega), .inl (by have := Z1.out; have := Z2.out; have := Z3.out; have := Z4.out; have := Z5.out; have := Z6.out; have := Z7.out; have := Z8.out; have := Z9.out; have := Z10.out; have := Y1.out; have := Y2.out; have := Y3.out; omega), .inl (by have := Z1.out; have := Z2.out; have := Z3.out; have := Z4.out; have := Z5.out; have := Z6.out; have := Z7.out; have := Z8.out; have := Z9.out; have := Z10.out; have := Y1.out; have := Y2.out; have := Y3.out; omega), (by have := Z1.out; have := Z2.out; have := Z3.out; have := Z4.out; have := Z5.out; have := Z6.out; have := Z7.out; have := Z8.out; have := Z9.out; have := Z10.out; have := Y1.out; have := Y2.out; have := Y3.out; omega), (by have := Z1.out; have := Z2.out; have := Z3.out; have := Z4.out; have := Z5.out; have := Z6.out; have := Z7.out; have := Z8.out; have := Z9.out; have := Z10.out; have := Y1.out; have := Y2.out; have := Y3.out; omega), (by have := Z1.out; have := Z2.out; have := Z3.out; have := Z4.out; have := Z5.out; have := Z6.out; have := Z7.out; have := Z8.out; have := Z9.out; have := Z10.out; have := Y1.out; have := Y2.out; have := Y3.out; omega), Nat.le_refl _⟩

end Go.Proofs.Ytgmcibcjplncaaa
/- The other end of a bar, the specification's and the program's; a copy of a row of ints: slices.Clone. No condition. -/
namespace Go.Proofs.Ytgmcibcjplncaaa
open Go.RowKit

set_option maxRecDepth 100000 in
theorem other_c (x : Int × Int) (v : Int) (w : World) (h1 : 0 ≤ x.1 ∧ x.1 ≤ 8) (h2 : 0 ≤ x.2 ∧ x.2 ≤ 8) (h3 : 0 ≤ v ∧ v ≤ 8) :
    Calls Try.prog 133 #[.agg #[.int .i64 x.1, .int .i64 x.2], .int .i64 v] w fun e w' => e = .returned (.int .i64 (oth x v)) ∧ Below w.heap.size w w' := by
  obtain ⟨a, b⟩ := x
  have HO := Lib.hid (show oth (a, b) v = a + b - v from rfl)
  simp only at h1 h2
  go_enter Try.func133, Try.ntmps133
  go_wp2
  go_ret
  exact ⟨by rw [HO.out]; rfl, (Below.refl _ _).alloc (Nat.le_refl _) _⟩

set_option maxRecDepth 100000 in
theorem otherEnd_c (x : Int × Int) (v : Int) (w : World) (h : isEnd x v) :
    Calls Try.prog 136 #[.agg #[.int .i64 x.1, .int .i64 x.2], .int .i64 v] w fun e w' => e = .returned (.int .i64 (oth x v)) ∧ Below w.heap.size w w' := by
  obtain ⟨a, b⟩ := x
  have ho : oth (a, b) v = a + b - v := rfl
  unfold isEnd at h
  simp only at h
  by_cases c : v = a
  · have HO := Lib.hid (show oth (a, b) v = b by omega)
    have e1 : (v == a) = true := by simpa using c
    clear h ho c
    go_enter Try.func136, Try.ntmps136
    go_wp2
    go_ret
    exact ⟨by rw [HO.out]; rfl, (Below.refl _ _).alloc (Nat.le_refl _) _⟩
  · have HO := Lib.hid (show oth (a, b) v = a by omega)
    have e1 : (v == a) = false := by simpa using c
    clear h ho c
    go_enter Try.func136, Try.ntmps136
    go_wp2
    go_ret
    exact ⟨by rw [HO.out]; rfl, (Below.refl _ _).alloc (Nat.le_refl _) _⟩

theorem news_ints {W : World} {lo hi : Nat} {a : Addr} {zs : List Int} (h : IntsIn W lo hi (some a) zs) : ∀ j u, (intCells zs)[j]? = some u → W.cell? (a.add j) = some u := fun j u hj => by
  have hlt : j < zs.length := by
    have := (List.getElem?_eq_some_iff.1 hj).1
    rwa [intCells_len] at this
  obtain ⟨b, off, e, _, _, hc⟩ := h.2 (by omega)
  cases e
  have hadd : (⟨b, off, none⟩ : Addr).add j = ⟨b, off + j, none⟩ := by unfold Addr.add; split <;> simp_all
  rw [hadd, hc j hlt]
  rw [intCells_get zs j hlt] at hj
  exact hj
theorem intCells_one (zs : List Int) : ∀ u ∈ intCells zs, u.oneCell' = true := by
  intro u hu
  obtain ⟨x, _, rfl⟩ := List.mem_map.1 hu
  rfl

set_option maxHeartbeats 2000000 in
set_option maxRecDepth 100000 in
theorem slCloneI (zs : List Int) (A : Option Addr) (cap lo hi : Nat) (w : World) (hz : IntsIn w lo hi A zs) (hn : zs.length ≤ 1048576) :
    Calls Try.prog 107 #[.slice A zs.length cap] w (IntsO w zs) := by
  obtain ⟨i0, hi0, hz0, hz1, hz2⟩ := info_parts infoInt
  have q : ∀ (w : World) (a : Option Addr) (n c n' c' : Nat), (binOp .eql 25 (.slice a n c) (.slice none n' c')).run Try.prog w = .ok (.bool a.isNone) w := fun w a n c n' c' => Go.Lib.run_eql_slice_nil w _ _ a n c n' c' Try.underlying25
  have hm := World.ownsRow_made (base := w.heap.size) (e := 3) (size := 1) w #[] 0 (Nat.le_refl _) (by unfold maxLen; omega) (by simp)
  have HM := Lib.hid hm
  clear hm
  cases A with
  | none =>
    have h0 : zs = [] := by
      refine List.eq_nil_of_length_eq_zero (Nat.eq_zero_of_not_pos fun h => ?_)
      obtain ⟨b, off, e, _⟩ := hz.2 h
      cases e
    subst h0
    clear hz
    go_enter Try.func107, Try.ntmps107
    go_wp2_with fail
    go_ret
    exact ⟨none, 0, rfl, ⟨Nat.le_refl _, .inl rfl⟩, Below.refl _ _⟩
  | some a =>
    have HC := Lib.hid (news_ints (hz.within (within_alloc w (.cells #[] 3)) (.inr (Nat.zero_le _))))
    clear hz
    go_enter Try.func107, Try.ntmps107
    go_wp2_with (at_builtin; refine wpList_append_own _ rfl _ _ 25 rfl w.heap.size 3 i0 _ 1 8 Try.underlying25 hi0 hz0 hz1 hz2 rfl (by omega) _ 0 [] rfl HM.out a zs.length cap (intCells zs) rfl (by rw [intCells_len]; omega) HC.out (intCells_one zs) (by unfold maxLen; omega) (by omega) (by simp) ?_; intro v' w' ho hg hnil; rw [Nat.zero_add, List.nil_append] at ho; obtain ⟨A2, c2, rfl⟩ := own_shape ho; have HO := Lib.hid (own_ints' ho); have HG := Lib.hid (show Below w.heap.size w w' from (new_below w (.cells #[] 3)).grown hg (by simp) fun k hk => by cases hk; exact Nat.le_refl _); clear ho hg hnil)
    go_ret
    exact ⟨A2, c2, rfl, HO.out, HG.out⟩
end Go.Proofs.Ytgmcibcjplncaaa
/-
  DERIVED: THE SHELF's CONTRACTS AT THIS DUMP, IN PLAIN WORDS (tools/lay-plain.mjs out of 'TryShelf.lean', which tools/lay-shelf.mjs wrote): THE SAME DECLARATIONS UNDER THE SAME NAMES: 'import', 'namespace', 'open', 'def', 'theorem' AND NOTHING ELSE: no command of the shelf's: FOR A HAND-IN. Each laying: the table of numbers ('.._ren') and one theorem, a field a fact of the dump's own or the kernel's comparison; each contract: ONE APPLICATION.
-/
namespace Go.Proofs
open Go.Shelf
def Try.lays264_ren : Go.Shelf.Ren := ⟨fun | 264 => 142 | n => n, fun | 53 => 149 | 46 => 130 | n => n, fun | n => n⟩
theorem Try.lays264 : Go.Proofs.Lays.n264 Try.prog Try.lays264_ren := {
  mixed := by kernel_rfl
  f264 := Try.func142.trans (congrArg some (by kernel_rfl))
  t46 := Try.underlying130
  a46 := Try.isAgg130
  z46 := Try.sizeOf130
  v46 := Try.zeroValue130
  t53 := Try.underlying149
  a53 := Try.isAgg149
  z53 := Try.sizeOf149
  v53 := Try.zeroValue149 }
open Go.RowKit Go.Lib in
theorem Try.bits_Mul64 (x y : Nat) (hx : x < 18446744073709551616) (hy : y < 18446744073709551616) (w : World) :
    Calls Try.prog 142 #[.int .u64 x, .int .u64 y] w fun e w' => e = .returned (.tuple #[.int .u64 ((x * y / 18446744073709551616 : Nat) : Int), .int .u64 ((x * y % 18446744073709551616 : Nat) : Int)]) ∧ w' = w := Any.bits_Mul64 Try.lays264 x y hx hy w
def Try.lays212_ren : Go.Shelf.Ren := ⟨fun | 212 => 128 | 263 => 141 | 264 => 142 | n => n, fun | 46 => 130 | 51 => 146 | 146 => 147 | 53 => 149 | 148 => 150 | n => n, fun | n => n⟩
theorem Try.lays212 : Go.Proofs.Lays.n212 Try.prog Try.lays212_ren := {
  mixed := by kernel_rfl
  f212 := Try.func128.trans (congrArg some (by kernel_rfl))
  f263 := Try.func141.trans (congrArg some (by kernel_rfl))
  f264 := Try.func142.trans (congrArg some (by kernel_rfl))
  t46 := Try.underlying130
  a46 := Try.isAgg130
  z46 := Try.sizeOf130
  v46 := Try.zeroValue130
  t51 := Try.underlying146
  a51 := Try.isAgg146
  z51 := Try.sizeOf146
  v51 := Try.zeroValue146
  t53 := Try.underlying149
  a53 := Try.isAgg149
  z53 := Try.sizeOf149
  v53 := Try.zeroValue149
  t146 := Try.underlying147
  a146 := Try.isAgg147
  z146 := Try.sizeOf147
  v146 := Try.zeroValue147
  t148 := Try.underlying150
  a148 := Try.isAgg150
  z148 := Try.sizeOf150
  v148 := Try.zeroValue150 }
open Go.RowKit Go.Lib in
/-- math/bits.Mul: "Mul returns the full-width product of x and y": on a machine of 64 bits: Mul64's. (LAID: no walk: one application.) -/
theorem Try.bits_Mul (x y : Nat) (hx : x < 18446744073709551616) (hy : y < 18446744073709551616) (w : World) :
    Calls Try.prog 128 #[.int .u64 x, .int .u64 y] w fun e w' => e = .returned (.tuple #[.int .u64 ((x * y / 18446744073709551616 : Nat) : Int), .int .u64 ((x * y % 18446744073709551616 : Nat) : Int)]) ∧ w' = w := Any.bits_Mul Try.lays212 x y hx hy w
end Go.Proofs
/- slices.Repeat of one number, up to eight times. No condition. -/
namespace Go.Proofs.Ytgmcibcjplncaaa
open Go.RowKit

theorem mul_one_c (P : Nat) (h : P ≤ 8) (w : World) : Calls Try.prog 128 #[.int .u64 1, .int .u64 (P : Int)] w fun e w' => e = .returned (.tuple #[.int .u64 0, .int .u64 (P : Int)]) ∧ w' = w := by
  have h1 := Try.bits_Mul 1 P (by omega) (by omega) w
  have e1 : (((1 * P / 18446744073709551616 : Nat)) : Int) = 0 := by rw [Nat.one_mul]; omega
  have e2 : (((1 * P % 18446744073709551616 : Nat)) : Int) = (P : Int) := by rw [Nat.one_mul]; omega
  rw [e1, e2] at h1
  exact h1
/-- A row that holds n times k, and zeros behind them. -/
def repL (P n : Nat) (k : Int) : List Int := List.replicate n k ++ List.replicate (P - n) 0
theorem repL_len (P n : Nat) (k : Int) (h : n ≤ P) : (repL P n k).length = P := by simp [repL]; omega
theorem repL_splice (P n m : Nat) (k : Int) : splice (intCells (repL P n k)) n (intCells (List.replicate m k)) = intCells (repL P (n + m) k) := by
  unfold splice intCells
  rw [← List.map_take, ← List.map_drop, ← List.map_append, ← List.map_append]
  congr 1
  simp only [repL, List.length_map, List.length_replicate]
  rw [List.take_left' (by simp), List.drop_append, List.length_replicate, List.drop_eq_nil_of_le (by simp), List.nil_append, show n + m - n = m by omega, List.drop_replicate, ← List.append_assoc, List.replicate_append_replicate, show P - n - m = P - (n + m) by omega]
theorem repL_get (P n : Nat) (k : Int) (j : Nat) (h : j < n) : (repL P n k).getD j 0 = k := by
  unfold repL
  simp only [List.getD]
  rw [List.getElem?_append_left (by simpa using h)]
  simp [h]
theorem own_heap {W : World} {base g n : Nat} {e : TypeId} {xs : List Value} (h : W.ownsRow base e 1 (.slice (some ⟨g, 0, none⟩) n n) n xs) : W.heap[g]? = some (.cells xs.toArray e (0, 0)) := by
  obtain ⟨h0, h1⟩ := h
  rcases h1 with ⟨h2, _⟩ | ⟨g', cap, cur, e1, _, hh, _, _, hsz, ht⟩
  · cases h2
  · cases e1
    rw [List.take_of_length_le (by rw [Array.length_toList, hsz]; exact Nat.le_refl _)] at ht
    rw [hh, ← ht]
theorem heap_own {W : World} {base g n : Nat} {e : TypeId} {xs : List Value} (h : W.heap[g]? = some (.cells xs.toArray e (0, 0))) (hl : xs.length = n) (hb : base ≤ g) (hn : n ≤ maxLen) : W.ownsRow base e 1 (.slice (some ⟨g, 0, none⟩) n n) n xs :=
  ⟨by rw [hl, Nat.mul_one], .inr ⟨g, n, xs.toArray, rfl, hb, h, Nat.le_refl _, hn, by rw [List.size_toArray, hl, Nat.mul_one], by rw [Nat.mul_one, ← hl]; simp⟩⟩
theorem heap_ints {W : World} {g : Nat} {e : TypeId} {zs : List Int} (h : W.heap[g]? = some (.cells (intCells zs).toArray e (0, 0))) (j : Nat) (hj : j < zs.length) : W.cell? ⟨g, j, none⟩ = some (.int .i64 (zs.getD j 0)) := by
  rw [cell_of_row W g j _ e (0, 0) h]
  simpa using intCells_get zs j hj

set_option maxHeartbeats 2000000 in
set_option maxRecDepth 100000 in
theorem slRepeat (P : Nat) (k : Int) (b0 : Nat) (w : World) (h1 : 1 ≤ P) (h8 : P ≤ 8) (hc : w.cell? ⟨b0, 0, none⟩ = some (.int .i64 k)) :
    Calls Try.prog 100 #[.slice (some ⟨b0, 0, none⟩) 1 1, .int .i64 (P : Int)] w fun e w' => ∃ g, e = .returned (.slice (some ⟨g, 0, none⟩) P P) ∧ w'.ownsRow w.heap.size 3 1 (.slice (some ⟨g, 0, none⟩) P P) P (intCells (List.replicate P k)) ∧ Below w.heap.size w w' := by
  have HC := Lib.hid hc
  have HM := mul_one_c P h8
  have hP0 : ¬ (P : Int) < 0 := by omega
  have hPw : IntKind.u64.wrap (P : Int) = (P : Int) := by rw [IntKind.wrap_u64]; omega
  have hPi : IntKind.i64.wrap (P : Int) = (P : Int) := IntWalk.i64_in _ (by omega)
  have hPm : ¬ (9223372036854775807 : Int) < (P : Int) := by omega
  clear hc
  go_enter Try.func100, Try.ntmps100
  go_wp2_with fail
  refine (HM _).mono ?_
  rintro e w1 ⟨rfl, rfl⟩
  clear HM
  go_wp2_with (first
    | (at_make; refine wpList_mkn _ rfl _ _ 25 rfl w1.heap.size 3 (.int .i64 0) 8 Try.underlying25 infoInt rfl _ _ _ _ P rfl rfl rfl rfl (by omega) (by unfold maxLen; omega) (Nat.le_refl _) ?_; intro w2 hown hb2; have HB := Lib.hid hb2; have HG := Lib.hid (show w2.heap[w1.heap.size]? = some (.cells (intCells (repL P 0 k)).toArray 3 (0, 0)) by rw [show intCells (repL P 0 k) = List.replicate P (.int .i64 0) by simp [repL, intCells]]; exact own_heap hown); have HSRC := Lib.hid (show ∀ j v, (intCells (List.replicate 1 k))[j]? = some v → w2.cell? ((⟨b0, 0, none⟩ : Addr).add j) = some v from fun j v hj => (by have hlt := (List.getElem?_eq_some_iff.1 hj).1; obtain rfl : j = 0 := (by simpa [intCells] using hlt); have hb0 := World.block_lt_of_cell? w1 _ HC.out; rw [show (⟨b0, 0, none⟩ : Addr).add 0 = ⟨b0, 0, none⟩ from rfl, hb2.cell (p := ⟨b0, 0, none⟩) hb0, HC.out]; simpa [intCells] using hj)); clear hown hb2)
    | (with_reducible refine wpList_copy_splice rfl _ _ 25 25 rfl 3 Try.underlying25 (by kernel_rfl) (some ⟨w1.heap.size, 0, none⟩) (some ⟨b0, 0, none⟩) P P 1 1 rfl rfl w1.heap.size 0 (intCells (repL P 0 k)) 3 HG.out (intCells (List.replicate 1 k)) (by simp [intCells, Nat.min_def]; omega) (fun _ => ⟨rfl, _, rfl, HSRC.out⟩) (by rw [intCells_len, intCells_len, repL_len P 0 k (by omega)]; simp; omega) (by simp [intCells, Value.oneCell']) w1.heap.size w1 HB.out (Nat.le_refl _) ?_; intro w3 hg3 hb3; have HG3 := Lib.hid (show w3.heap[w1.heap.size]? = some (.cells (intCells (repL P 1 k)).toArray 3 (0, 0)) by have := hg3.out; rw [repL_splice P 0 1 k] at this; exact this); have HB3 := Lib.hid hb3; clear hg3 hb3))
  clear HG HB HSRC HC
  go_loopw [8] (fun n wr => ∃ j : Nat, 1 ≤ j ∧ j ≤ P ∧ n = .int .i64 j ∧ wr.heap[w1.heap.size]? = some (.cells (intCells (repL P j k)).toArray 3 (0, 0)) ∧ Below w1.heap.size w1 wr) (fun n _ => P - (intOf n).toNat)
  case atStart => exact ⟨1, Nat.le_refl _, h1, rfl, HG3.out, HB3.out⟩
  case round =>
    obtain ⟨j, hj1, hj2, rfl, hg, hb⟩ := hrel
    have HG := Lib.hid hg
    have HB := Lib.hid hb
    clear hg hb
    by_cases hlt : j < P
    · have hji : (j : Int) < (P : Int) := by omega
      obtain ⟨m, hm⟩ : ∃ m, m = Nat.min j (P - j) := ⟨_, rfl⟩
      have hm2 : m ≤ j ∧ m ≤ P - j ∧ 1 ≤ m := by rw [hm]; simp only [Nat.min_def]; split <;> omega
      have hsrc : ∀ j' v, (intCells (List.replicate m k))[j']? = some v → wr.drew.cell? ((⟨w1.heap.size, 0, none⟩ : Addr).add j') = some v := fun j' v hj' => by
        have hlt' : j' < m := by
          have := (List.getElem?_eq_some_iff.1 hj').1
          simpa [intCells] using this
        have h0 := heap_ints HG.out j' (by rw [repL_len P j k hj2]; omega)
        rw [repL_get P j k j' (by omega)] at h0
        have hadd : (⟨w1.heap.size, 0, none⟩ : Addr).add j' = ⟨w1.heap.size, j', none⟩ := by unfold Addr.add; split <;> simp_all
        rw [hadd]
        have hv : v = .int .i64 k := by
          have := intCells_get (List.replicate m k) j' (by simpa using hlt')
          rw [hj'] at this
          simpa [List.getD, hlt'] using this
        rw [hv]
        exact h0
      have HSRC := Lib.hid hsrc
      have HFIT := Lib.hid (show j + (intCells (List.replicate m k)).length ≤ (intCells (repL P j k)).length by rw [intCells_len, intCells_len, repL_len P j k hj2]; simp; omega)
      have HN := Lib.hid (show (intCells (List.replicate m k)).length = Nat.min j (P - j) by rw [intCells_len, List.length_replicate]; exact hm)
      have HB2 := Lib.hid (HB.out.drew)
      have HG2 := Lib.hid (show wr.drew.heap[w1.heap.size]? = some (.cells (intCells (repL P j k)).toArray 3 (0, 0)) from HG.out)
      clear hsrc hm
      have hnej : ¬ P = j := by omega
      have hlm : ((intCells (List.replicate m k)).length : Int) = (m : Int) := by simp [intCells]
      have hsm : IntKind.i64.wrap ((j : Int) + (m : Int)) = (j : Int) + (m : Int) := IntWalk.i64_in _ (by omega)
      go_wp2_with fail
      go_region_law (refine step_copy_splice rfl _ _ 25 25 rfl 3 Try.underlying25 (by kernel_rfl) (some ⟨w1.heap.size, j, none⟩) (some ⟨w1.heap.size, 0, none⟩) (P - j) (P - j) j P (by simp [Act.eval, Act.put]) (by simp [Act.eval, Act.put]) w1.heap.size j (intCells (repL P j k)) 3 HG2.out (intCells (List.replicate m k)) HN.out (fun _ => ⟨rfl, _, rfl, HSRC.out⟩) HFIT.out (by simp [intCells, Value.oneCell']) w1.heap.size w1 HB2.out (Nat.le_refl _) ?_; intro w4 hg4 hb4; have HG4 := Lib.hid (show w4.heap[w1.heap.size]? = some (.cells (intCells (repL P (j + m) k)).toArray 3 (0, 0)) by have := hg4.out; rw [repL_splice P j m k] at this; exact this); have HB4 := Lib.hid hb4; clear hg4 hb4)
      all_goals
        go_simp
        go_roundw
        case rel => exact ⟨.int .i64 ((j : Int) + (m : Int)), _, _, _, _, _, _, _, _, _, _, _, _, _, ⟨j + m, by omega, by omega, by go_num, HG4.out, HB4.out⟩, rfl⟩
        case measure => simp [intOf]; omega
    · obtain rfl : j = P := by omega
      go_wp2_with fail
      go_ret
      have hr : repL j j k = List.replicate j k := by simp [repL]
      have h2 := HG.out
      rw [hr] at h2
      exact ⟨_, rfl, heap_own h2 (by simp [intCells]) (Nat.le_refl _) (by unfold maxLen; omega), HB.out⟩
end Go.Proofs.Ytgmcibcjplncaaa
/- What the library's cmp.Compare and cmp.Or and the program's Bar.compare answer. No condition. -/
namespace Go.Proofs.Ytgmcibcjplncaaa
open Go.RowKit

def cmpI (a b : Int) : Int := if a < b then -1 else if b < a then 1 else 0
def orI (a b : Int) : Int := if a = 0 then b else a
def cmpB (x y : Int × Int) : Int := orI (cmpI x.1 y.1) (cmpI x.2 y.2)
theorem cmpB_neg (x y : Int × Int) : cmpB x y < 0 ↔ aftB y x = false := by
  obtain ⟨a, b⟩ := x
  obtain ⟨c, d⟩ := y
  simp only [cmpB, orI, cmpI, aftB, decide_eq_false_iff_not]
  repeat' split
  all_goals omega
theorem cmpI_in (a b : Int) : -1 ≤ cmpI a b ∧ cmpI a b ≤ 1 := by
  unfold cmpI
  repeat' split
  all_goals omega
theorem cmpB_in (x y : Int × Int) : -1 ≤ cmpB x y ∧ cmpB x y ≤ 1 := by
  have h1 := cmpI_in x.1 y.1
  have h2 := cmpI_in x.2 y.2
  unfold cmpB orI
  split <;> omega

theorem isNaN_c (a : Int) (w : World) :
    Calls Try.prog 143 #[.int .i64 a] w fun e w' => e = .returned (.bool false) ∧ w' = w := by
  go_enter Try.func143, Try.ntmps143
  go_wp2
  go_ret
  exact ⟨by simp, rfl⟩

theorem compare_i (a b : Int) (w : World) :
    Calls Try.prog 140 #[.int .i64 a, .int .i64 b] w fun e w' => e = .returned (.int .i64 (cmpI a b)) ∧ w' = w := by
  by_cases h1 : a < b
  · have h2 : ¬ b < a := by omega
    have HC := Lib.hid (show cmpI a b = -1 by simp [cmpI, h1])
    go_enter Try.func140, Try.ntmps140
    go_wp2_with fail
    refine (isNaN_c a _).mono ?_
    rintro e w1 ⟨rfl, rfl⟩
    go_wp2_with fail
    refine (isNaN_c b _).mono ?_
    rintro e w1 ⟨rfl, rfl⟩
    go_wp2_with fail
    go_ret
    exact ⟨by rw [HC.out]; rfl, rfl⟩
  · by_cases h2 : b < a
    · have HC := Lib.hid (show cmpI a b = 1 by simp [cmpI, h1, h2])
      go_enter Try.func140, Try.ntmps140
      go_wp2_with fail
      refine (isNaN_c a _).mono ?_
      rintro e w1 ⟨rfl, rfl⟩
      go_wp2_with fail
      refine (isNaN_c b _).mono ?_
      rintro e w1 ⟨rfl, rfl⟩
      go_wp2_with fail
      go_ret
      exact ⟨by rw [HC.out]; rfl, rfl⟩
    · have HC := Lib.hid (show cmpI a b = 0 by simp [cmpI, h1, h2])
      go_enter Try.func140, Try.ntmps140
      go_wp2_with fail
      refine (isNaN_c a _).mono ?_
      rintro e w1 ⟨rfl, rfl⟩
      go_wp2_with fail
      refine (isNaN_c b _).mono ?_
      rintro e w1 ⟨rfl, rfl⟩
      go_wp2_with fail
      go_ret
      exact ⟨by rw [HC.out]; rfl, rfl⟩

theorem or_c (x y : Int) (g : Nat) (w : World) (h0 : w.cell? ⟨g, 0, none⟩ = some (.int .i64 x)) (h1 : w.cell? ⟨g, 1, none⟩ = some (.int .i64 y)) :
    Calls Try.prog 139 #[.slice (some ⟨g, 0, none⟩) 2 2] w fun e w' => e = .returned (.int .i64 (orI x y)) ∧ w' = w := by
  by_cases hx : x = 0
  · by_cases hy : y = 0
    · have HC := Lib.hid (show orI x y = 0 by simp [orI, hx, hy])
      subst hx hy
      go_enter Try.func139, Try.ntmps139
      go_wp2_with fail
      refine wp_loop_rounds 3 ?_
      rw [rounds_succ]
      go_wp2_with fail
      rw [rounds_succ]
      go_wp2_with fail
      rw [rounds_succ]
      go_wp2_with fail
      go_ret
      exact ⟨by rw [HC.out]; rfl, rfl⟩
    · have HC := Lib.hid (show orI x y = y by simp [orI, hx])
      have hy' : (y != 0) = true := by simpa using hy
      subst hx
      go_enter Try.func139, Try.ntmps139
      go_wp2_with fail
      refine wp_loop_rounds 3 ?_
      rw [rounds_succ]
      go_wp2_with fail
      rw [rounds_succ]
      go_wp2_with fail
      go_ret
      exact ⟨by rw [HC.out]; rfl, rfl⟩
  · have HC := Lib.hid (show orI x y = x by simp [orI, hx])
    have hx' : (x != 0) = true := by simpa using hx
    go_enter Try.func139, Try.ntmps139
    go_wp2_with fail
    refine wp_loop_rounds 3 ?_
    rw [rounds_succ]
    go_wp2_with fail
    go_ret
    exact ⟨by rw [HC.out]; rfl, rfl⟩

set_option maxHeartbeats 1000000 in
set_option maxRecDepth 100000 in
theorem compare_b (x y : Int × Int) (w : World) :
    Calls Try.prog 127 #[.agg #[.int .i64 x.1, .int .i64 x.2], .agg #[.int .i64 y.1, .int .i64 y.2]] w fun e w' => e = .returned (.int .i64 (cmpB x y)) ∧ Below w.heap.size w w' := by
  obtain ⟨a, b⟩ := x
  obtain ⟨c, d⟩ := y
  have HC := Lib.hid (show cmpB (a, b) (c, d) = orI (cmpI a c) (cmpI b d) from rfl)
  have hA1 := new_below w (.cells #[.int .i64 a, .int .i64 b] 89)
  have hA2 := new_below (w.alloc (.cells #[.int .i64 a, .int .i64 b] 89)) (.cells #[.int .i64 c, .int .i64 d] 89)
  have HA := Lib.hid (below_on hA1 hA2 hA1.size)
  have HX := Lib.hid ((box_new w a (.int .i64 b) 89).kept hA2)
  have hY := box_new (w.alloc (.cells #[.int .i64 a, .int .i64 b] 89)) c (.int .i64 d) 89
  rw [show (w.alloc (.cells #[.int .i64 a, .int .i64 b] 89)).heap.size = w.heap.size + 1 by simp] at hY
  have HY := Lib.hid hY
  clear hA1 hA2 hY
  go_enter Try.func127, Try.ntmps127
  go_wp2_with fail
  generalize ((w.alloc (.cells #[.int .i64 a, .int .i64 b] 89)).alloc (.cells #[.int .i64 c, .int .i64 d] 89)) = w2 at *
  obtain ⟨_, g1, g2⟩ := HX.out
  obtain ⟨_, g3, g4⟩ := HY.out
  go_still_tail 10, (by kernel_rfl)
  still_call (compare_i _ _ _)
  repeat still_step
  still_call (compare_i _ _ _)
  refine wpStill_nil ?_
  change wpList _ _ _ _ _ w2.drew
  have HD := Lib.hid (HA.out.drew)
  have hds : w.heap.size ≤ w2.drew.heap.size := HA.out.size
  clear g1 g2 g3 g4
  generalize w2.drew = w3 at *
  go_wp2_with fail
  refine (or_c (cmpI a c) (cmpI b d) w3.heap.size _ (by rw [World.cell?_alloc_at _ _ _ _ rfl]; rfl) (by rw [World.cell?_alloc_at _ _ _ _ rfl]; rfl)).mono ?_
  rintro e w4 ⟨rfl, rfl⟩
  go_wp2_with fail
  go_ret
  exact ⟨by rw [HC.out]; rfl, HD.out.alloc hds _⟩
end Go.Proofs.Ytgmcibcjplncaaa
/- What the library's slices.IsSortedFunc answers of bars. No condition. -/
namespace Go.Proofs.Ytgmcibcjplncaaa
open Go.RowKit

/-- Each bar but the first stands behind or beside the one before it. -/
def Srt (l : List (Int × Int)) : Prop := ∀ j : Nat, 0 < j → j < l.length → aftB (l.getD (j - 1) (0, 0)) (l.getD j (0, 0)) = true
open Classical in
noncomputable def sortedB (l : List (Int × Int)) : Bool := if Srt l then true else false
theorem sortedB_yes {l : List (Int × Int)} (h : Srt l) : sortedB l = true := by unfold sortedB; rw [if_pos h]
theorem sortedB_no {l : List (Int × Int)} (h : ¬ Srt l) : sortedB l = false := by unfold sortedB; rw [if_neg h]

set_option maxHeartbeats 1000000 in
set_option maxRecDepth 100000 in
theorem sorted_c (l : List (Int × Int)) (A : Option Addr) (cap : Nat) (w : World) (hl : BarsAt w w.heap.size A l) (hn : l.length ≤ 24) :
    Calls Try.prog 126 #[.slice A l.length cap, .func (.func 127) #[] #[]] w fun e w' => e = .returned (.bool (sortedB l)) ∧ Below w.heap.size w w' := by
  have HL := Lib.hid hl
  clear hl
  go_enter Try.func126, Try.ntmps126
  go_wp2_with fail
  go_loopw [5] (fun i wr => ∃ v : Int, i = .int .i64 v ∧ -1 ≤ v ∧ v < (l.length : Int) ∧ (∀ j : Nat, v < (j : Int) → 0 < j → j < l.length → aftB (l.getD (j - 1) (0, 0)) (l.getD j (0, 0)) = true) ∧ Below w.heap.size w wr) (fun i _ => (intOf i).toNat)
  case atStart => exact ⟨(l.length : Int) - 1, by go_num, by omega, by omega, fun j h1 _ h2 => by omega, Below.refl _ _⟩
  case round =>
    obtain ⟨v, rfl, hv1, hv2, hall, hb⟩ := hrel
    have HB := Lib.hid hb
    have HALL := Lib.hid hall
    have hbs := hb.size
    clear hb hall
    by_cases hv : 0 < v
    · obtain ⟨k, rfl⟩ : ∃ k : Nat, v = (k : Int) + 1 := ⟨(v - 1).toNat, by omega⟩
      obtain ⟨b, off, rfl, hbB, hcell⟩ := HL.out (by omega)
      have hc1 := (HB.out.cell (p := ⟨b, off + (k + 1) * 2, none⟩) hbB).trans (hcell (k + 1) (by omega)).1
      have hc2 := (HB.out.cell (p := ⟨b, off + (k + 1) * 2 + 1, none⟩) hbB).trans (hcell (k + 1) (by omega)).2
      have hc3 := (HB.out.cell (p := ⟨b, off + k * 2, none⟩) hbB).trans (hcell k (by omega)).1
      have hc4 := (HB.out.cell (p := ⟨b, off + k * 2 + 1, none⟩) hbB).trans (hcell k (by omega)).2
      have HS := Lib.hid (fun (h : aftB (l.getD k (0, 0)) (l.getD (k + 1) (0, 0)) = true) (j : Nat) (h1 : (k : Int) < (j : Int)) (h2 : 0 < j) (h3 : j < l.length) => (if e : j = k + 1 then by subst e; exact h else HALL.out j (by omega) h2 h3 : aftB (l.getD (j - 1) (0, 0)) (l.getD j (0, 0)) = true))
      have HN := Lib.hid (fun h : Srt l => h (k + 1) (by omega) (by omega))
      clear hcell
      obtain ⟨x, hx⟩ : ∃ x, l.getD (k + 1) (0, 0) = x := ⟨_, rfl⟩
      obtain ⟨y, hy⟩ : ∃ y, l.getD k (0, 0) = y := ⟨_, rfl⟩
      rw [hx] at hc1 hc2
      rw [hy] at hc3 hc4
      have HSY := Lib.hid (show aftB y x = true → _ from fun h => HS.out (by rw [hx, hy]; exact h))
      have HNY := Lib.hid (show aftB y x = false → ¬ Srt l from fun h k' => by
        have := HN.out k'
        rw [Nat.add_sub_cancel, hx, hy, h] at this
        cases this)
      have HCB := Lib.hid (cmpB_neg x y)
      clear HS HN hx hy
      have hk1 : (0 : Int) ≤ (k : Int) + 1 := by omega
      have htn : ((k : Int) + 1).toNat = k + 1 := by omega
      have hk2 : (k : Int) < (l.length : Int) := by omega
      have hwr : IntKind.i64.wrap (k : Int) = (k : Int) := IntWalk.i64_in _ (by omega)
      obtain ⟨x1, x2⟩ := x
      obtain ⟨y1, y2⟩ := y
      simp only at hc1 hc2 hc3 hc4
      go_wp2_with fail
      go_still_tail 10, (by kernel_rfl)
      change wpList _ _ _ _ _ wr.drew
      have HD := Lib.hid (HB.out.drew)
      have hds : w.heap.size ≤ wr.drew.heap.size := hbs
      clear hc1 hc2 hc3 hc4
      generalize wr.drew = w2 at *
      go_wp2_with fail
      refine (compare_b (x1, x2) (y1, y2) _).mono ?_
      rintro e w3 ⟨rfl, hb3⟩
      have HB3 := Lib.hid (HD.out.trans (hb3.mono hds))
      clear hb3
      by_cases ha : aftB (y1, y2) (x1, x2) = true
      · have hlt : ¬ cmpB (x1, x2) (y1, y2) < 0 := fun h => by have := HCB.out.1 h; rw [this] at ha; cases ha
        have HH := Lib.hid (HSY.out ha)
        clear ha
        go_wp2_with fail
        go_roundw
        case rel => exact ⟨(k : Int), by go_num, by omega, by omega, HH.out, HB3.out⟩
        case measure => simp [intOf] <;> omega
      · have ha' : aftB (y1, y2) (x1, x2) = false := by simpa using ha
        have hlt : cmpB (x1, x2) (y1, y2) < 0 := HCB.out.2 ha'
        have HH := Lib.hid (sortedB_no (HNY.out ha'))
        clear ha ha'
        go_wp2_with fail
        go_ret
        exact ⟨by rw [HH.out]; rfl, HB3.out⟩
    · have HH := Lib.hid (sortedB_yes (l := l) fun j h1 h2 => HALL.out j (by omega) h1 h2)
      go_wp2_with fail
      go_ret
      exact ⟨by rw [HH.out]; rfl, HB.out⟩
end Go.Proofs.Ytgmcibcjplncaaa
/- What the program's IsGraph answers: the same as the specification's. No condition. -/
namespace Go.Proofs.Ytgmcibcjplncaaa
open Go.RowKit

theorem specIsGraph' (p : Int) (l : List (Int × Int)) (A : Option Addr) (cap : Nat) (w : World) (hl : BarsAt w w.heap.size A l) (hn : l.length ≤ 1048576) :
    Calls Try.prog 86 #[.agg #[.int .i64 p, .slice A l.length cap]] w fun e w' => e = .returned (.bool (isGB p l)) ∧ Below w.heap.size w w' := specIsGraph p l A cap w hl (by omega)

/-- A bar's ends are in order and below p. -/
def EndsOk (p : Int) (l : List (Int × Int)) (k : Nat) : Prop := 0 ≤ (l.getD k (0, 0)).1 ∧ (l.getD k (0, 0)).1 < (l.getD k (0, 0)).2 ∧ (l.getD k (0, 0)).2 < p
theorem isG_of {p : Int} {l : List (Int × Int)} (hp : 1 ≤ p ∧ p ≤ 8) (h24 : l.length ≤ 24) (he : ∀ k, k < l.length → EndsOk p l k) (hs : Srt l) : IsG p l :=
  ⟨hp, h24, fun i hi => ⟨(he i hi).1, (he i hi).2.1, (he i hi).2.2, fun h0 => hs i h0 hi⟩⟩
theorem srt_of {p : Int} {l : List (Int × Int)} (h : IsG p l) : Srt l := fun j h0 hj => (h.2.2 j hj).2.2.2 h0

set_option maxHeartbeats 2000000 in
set_option maxRecDepth 100000 in
theorem implIsGraph (p : Int) (l : List (Int × Int)) (A : Option Addr) (cap : Nat) (w : World) (hl : BarsAt w w.heap.size A l) (hn : l.length ≤ 1048576) :
    Calls Try.prog 99 #[.agg #[.int .i64 p, .slice A l.length cap]] w fun e w' => e = .returned (.bool (isGB p l)) ∧ Below w.heap.size w w' := by
  have hA := new_below w (.cells #[.int .i64 p, .slice A l.length cap] 35)
  have HA := Lib.hid hA
  have HL := Lib.hid (hl.on hA)
  have BX := Lib.hid (box_new w p (.slice A l.length cap) 35)
  clear hl hA
  by_cases hp : 1 ≤ p ∧ p ≤ 8
  · by_cases h24 : l.length ≤ 24
    · obtain ⟨hp1, hp2⟩ := hp
      have d1 : ¬ p < 1 := by omega
      have d2 : ¬ 8 < p := by omega
      have d3 : ¬ (24 : Int) < (l.length : Int) := by omega
      go_enter Try.func99, Try.ntmps99
      go_wp2_with fail
      generalize (w.alloc (.cells #[.int .i64 p, .slice A l.length cap] 35)) = w0 at *
      go_loopw [22] (fun i wr => ∃ k : Nat, k ≤ l.length ∧ i = .int .i64 k ∧ (∀ j, j < k → EndsOk p l j) ∧ Below w0.heap.size w0 wr) (fun i _ => l.length - (intOf i).toNat)
      case atStart => exact ⟨0, by omega, rfl, fun j hj => absurd hj (by omega), Below.refl _ _⟩
      case round =>
        obtain ⟨k, hk, rfl, hok, hb⟩ := hrel
        have BX1 := Lib.hid (BX.out.kept hb)
        have HB := Lib.hid hb
        have HOK := Lib.hid hok
        have hbs := hb.size
        clear hb hok
        by_cases hlt : k < l.length
        · have hi : (k : Int) < (l.length : Int) := by omega
          obtain ⟨b, off, rfl, hbB, hcell⟩ := HL.out (by omega)
          have hc1 := (HB.out.cell (p := ⟨b, off + k * 2, none⟩) hbB).trans (hcell k hlt).1
          have hc2 := (HB.out.cell (p := ⟨b, off + k * 2 + 1, none⟩) hbB).trans (hcell k hlt).2
          have HSTEP := Lib.hid (show EndsOk p l k → ∀ j, j < k + 1 → EndsOk p l j from fun h j hj => by
            by_cases e : j = k
            · subst e; exact h
            · exact HOK.out j (by omega))
          have HNOT := Lib.hid (show ¬ EndsOk p l k → isGB p l = false from fun h => isGB_no fun g => h ⟨(g.2.2 k hlt).1, (g.2.2 k hlt).2.1, (g.2.2 k hlt).2.2.1⟩)
          have HDEF := Lib.hid (show EndsOk p l k = (0 ≤ (l.getD k (0, 0)).1 ∧ (l.getD k (0, 0)).1 < (l.getD k (0, 0)).2 ∧ (l.getD k (0, 0)).2 < p) from rfl)
          obtain ⟨x, hx⟩ : ∃ x, l.getD k (0, 0) = x := ⟨_, rfl⟩
          rw [hx] at hc1 hc2 HDEF
          clear hx hcell
          obtain ⟨x1, x2⟩ := x
          simp only at hc1 hc2 HDEF
          have hal := new_below wr (.cells #[.int .i64 x1, .int .i64 x2] 89)
          have BX2 := Lib.hid (BX1.out.kept hal)
          have HX2 := Lib.hid (box_new wr x1 (.int .i64 x2) 89)
          have HB2 := Lib.hid (below_on HB.out hal hbs)
          clear hal
          obtain ⟨_, g2, g3⟩ := BX2.out
          by_cases c1 : x1 < 0
          · have Q := Lib.hid (HNOT.out (by rw [HDEF.out]; omega))
            go_wp2_with fail
            go_ret
            exact ⟨by rw [Q.out]; rfl, below_on HA.out HB2.out HA.out.size⟩
          · by_cases c2 : x2 ≤ x1
            · have Q := Lib.hid (HNOT.out (by rw [HDEF.out]; omega))
              go_wp2_with fail
              go_ret
              exact ⟨by rw [Q.out]; rfl, below_on HA.out HB2.out HA.out.size⟩
            · by_cases c3 : p ≤ x2
              · have Q := Lib.hid (HNOT.out (by rw [HDEF.out]; omega))
                go_wp2_with fail
                go_ret
                exact ⟨by rw [Q.out]; rfl, below_on HA.out HB2.out HA.out.size⟩
              · have HS := Lib.hid (HSTEP.out (by rw [HDEF.out]; omega))
                go_wp2_with fail
                go_roundw
                case rel => exact ⟨k + 1, by omega, by go_num, HS.out, HB2.out⟩
                case measure => simp [intOf]; omega
        · obtain rfl : k = l.length := by omega
          have HQ := Lib.hid (show isGB p l = sortedB l by
            by_cases h : Srt l
            · rw [sortedB_yes h, isGB_yes (isG_of ⟨hp1, hp2⟩ h24 HOK.out h)]
            · rw [sortedB_no h, isGB_no fun g => h (srt_of g)])
          obtain ⟨_, g2, g3⟩ := BX1.out
          go_wp2_with fail
          clear g2 g3
          refine (sorted_c l A cap _ (HL.out.on HB.out) h24).mono ?_
          rintro e w3 ⟨rfl, hb3⟩
          have HB3 := Lib.hid (below_on (below_on HA.out HB.out HA.out.size) hb3 (Nat.le_trans HA.out.size hbs))
          clear hb3
          go_wp2_with fail
          go_ret
          exact ⟨by rw [HQ.out]; rfl, HB3.out⟩
    · obtain ⟨hp1, hp2⟩ := hp
      have d1 : ¬ p < 1 := by omega
      have d2 : ¬ 8 < p := by omega
      have d3 : (24 : Int) < (l.length : Int) := by omega
      have Q := Lib.hid (isGB_no (p := p) (l := l) fun g => h24 g.2.1)
      go_enter Try.func99, Try.ntmps99
      go_wp2_with fail
      go_ret
      exact ⟨by rw [Q.out]; rfl, HA.out⟩
  · have Q := Lib.hid (isGB_no (p := p) (l := l) fun g => hp g.1)
    by_cases d1 : p < 1
    · clear hp
      go_enter Try.func99, Try.ntmps99
      go_wp2_with fail
      go_ret
      exact ⟨by rw [Q.out]; rfl, HA.out⟩
    · have d2 : 8 < p := by omega
      clear hp
      go_enter Try.func99, Try.ntmps99
      go_wp2_with fail
      go_ret
      exact ⟨by rw [Q.out]; rfl, HA.out⟩
end Go.Proofs.Ytgmcibcjplncaaa
/- How the laws compare, mark and measure a state of the pebble game. No condition. -/
namespace Go.Proofs.Ytgmcibcjplncaaa
open Go.RowKit

set_option maxHeartbeats 2000000 in
set_option maxRecDepth 100000 in
theorem eqPeb_c (AF AT AZ BF BT BZ : Option Addr) (cF cT cZ dF dT dZ lo hi lo' hi' : Nat) (F T Z : List Int) (w : World) (h : Peb3 w lo hi AF AT AZ F T Z) (h' : Peb3 w lo' hi' BF BT BZ F T Z) (hF : F.length ≤ 1048576) (hT : T.length ≤ 1048576) (hZ : Z.length ≤ 1048576) :
    Calls Try.prog 23 #[pebV AF F.length cF AT T.length cT AZ Z.length cZ, pebV BF F.length dF BT T.length dT BZ Z.length dZ] w fun e w' => e = .returned (.bool true) ∧ Below w.heap.size w w' := by
  have hhi : hi ≤ w.heap.size := h.f.1
  have hhi' : hi' ≤ w.heap.size := h'.f.1
  have W0 := Lib.hid (Below.refl w.heap.size w)
  have H_0 := Lib.hid (h)
  have K_0 := Lib.hid (h')
  clear h h'
  have Z1 := Lib.hid (within_alloc w (.cells #[(.slice AF F.length cF), (.slice AT T.length cT), (.slice AZ Z.length cZ)] 30)).size
  have W1 := Lib.hid (within_on W0.out (within_alloc w (.cells #[(.slice AF F.length cF), (.slice AT T.length cT), (.slice AZ Z.length cZ)] 30)) W0.out.size (.inr (Nat.le_refl _)))
  have H_1 := Lib.hid (H_0.out.within (within_alloc w (.cells #[(.slice AF F.length cF), (.slice AT T.length cT), (.slice AZ Z.length cZ)] 30)) (by omega))
  have K_1 := Lib.hid (K_0.out.within (within_alloc w (.cells #[(.slice AF F.length cF), (.slice AT T.length cT), (.slice AZ Z.length cZ)] 30)) (by omega))
  have Y1 := Lib.hid (show (w.alloc (.cells #[(.slice AF F.length cF), (.slice AT T.length cT), (.slice AZ Z.length cZ)] 30)).heap.size = w.heap.size + 1 by simp)
  have hnew := cel3_new w (.slice AF F.length cF) (.slice AT T.length cT) (.slice AZ Z.length cZ) 30
  have GA_1 := Lib.hid hnew
  clear hnew
  have Z2 := Lib.hid (within_alloc (w.alloc (.cells #[(.slice AF F.length cF), (.slice AT T.length cT), (.slice AZ Z.length cZ)] 30)) (.cells #[(.slice BF F.length dF), (.slice BT T.length dT), (.slice BZ Z.length dZ)] 30)).size
  have W2 := Lib.hid (within_on W1.out (within_alloc (w.alloc (.cells #[(.slice AF F.length cF), (.slice AT T.length cT), (.slice AZ Z.length cZ)] 30)) (.cells #[(.slice BF F.length dF), (.slice BT T.length dT), (.slice BZ Z.length dZ)] 30)) W1.out.size (.inr (Nat.le_refl _)))
  have H_2 := Lib.hid (H_1.out.within (within_alloc (w.alloc (.cells #[(.slice AF F.length cF), (.slice AT T.length cT), (.slice AZ Z.length cZ)] 30)) (.cells #[(.slice BF F.length dF), (.slice BT T.length dT), (.slice BZ Z.length dZ)] 30)) (by omega))
  have K_2 := Lib.hid (K_1.out.within (within_alloc (w.alloc (.cells #[(.slice AF F.length cF), (.slice AT T.length cT), (.slice AZ Z.length cZ)] 30)) (.cells #[(.slice BF F.length dF), (.slice BT T.length dT), (.slice BZ Z.length dZ)] 30)) (by omega))
  have GA_2 := Lib.hid (GA_1.out.within (within_alloc (w.alloc (.cells #[(.slice AF F.length cF), (.slice AT T.length cT), (.slice AZ Z.length cZ)] 30)) (.cells #[(.slice BF F.length dF), (.slice BT T.length dT), (.slice BZ Z.length dZ)] 30)) (by omega))
  have Y2 := Lib.hid (show ((w.alloc (.cells #[(.slice AF F.length cF), (.slice AT T.length cT), (.slice AZ Z.length cZ)] 30)).alloc (.cells #[(.slice BF F.length dF), (.slice BT T.length dT), (.slice BZ Z.length dZ)] 30)).heap.size = (w.alloc (.cells #[(.slice AF F.length cF), (.slice AT T.length cT), (.slice AZ Z.length cZ)] 30)).heap.size + 1 by simp)
  have hnew := cel3_new (w.alloc (.cells #[(.slice AF F.length cF), (.slice AT T.length cT), (.slice AZ Z.length cZ)] 30)) (.slice BF F.length dF) (.slice BT T.length dT) (.slice BZ Z.length dZ) 30
  rw [show (w.alloc (.cells #[(.slice AF F.length cF), (.slice AT T.length cT), (.slice AZ Z.length cZ)] 30)).heap.size = w.heap.size + 1 by simp] at hnew
  have GB_2 := Lib.hid hnew
  clear hnew
  go_enter Try.func23, Try.ntmps23
  obtain ⟨g0_0, g0_1, g0_2, g0_3, g0_4, g0_5⟩ := GA_2.out.cells
  obtain ⟨g1_0, g1_1, g1_2, g1_3, g1_4, g1_5⟩ := GB_2.out.cells
  go_wp2_with fail
  clear g0_0 g0_1 g0_2 g0_3 g0_4 g0_5 g1_0 g1_1 g1_2 g1_3 g1_4 g1_5
  generalize ((w.alloc (.cells #[(.slice AF F.length cF), (.slice AT T.length cT), (.slice AZ Z.length cZ)] 30)).alloc (.cells #[(.slice BF F.length dF), (.slice BT T.length dT), (.slice BZ Z.length dZ)] 30)) = w2 at *
  generalize (w.alloc (.cells #[(.slice AF F.length cF), (.slice AT T.length cT), (.slice AZ Z.length cZ)] 30)) = w1 at *
  refine (eqInts_c F AF BF cF dF lo hi lo' hi' _ H_2.out.f K_2.out.f hF).mono ?_
  rintro e w3 ⟨rfl, hb⟩
  have Z3 := Lib.hid (within_of hb).size
  have W3 := Lib.hid (within_on W2.out (within_of hb) W2.out.size (.inr (Nat.le_refl _)))
  have H_3 := Lib.hid (H_2.out.within (within_of hb) (by omega))
  have K_3 := Lib.hid (K_2.out.within (within_of hb) (by omega))
  have GA_3 := Lib.hid (GA_2.out.within (within_of hb) (by omega))
  have GB_3 := Lib.hid (GB_2.out.within (within_of hb) (by omega))
  clear hb
  obtain ⟨g2_0, g2_1, g2_2, g2_3, g2_4, g2_5⟩ := GA_3.out.cells
  obtain ⟨g3_0, g3_1, g3_2, g3_3, g3_4, g3_5⟩ := GB_3.out.cells
  go_wp2_with fail
  clear g2_0 g2_1 g2_2 g2_3 g2_4 g2_5 g3_0 g3_1 g3_2 g3_3 g3_4 g3_5
  refine (eqInts_c T AT BT cT dT lo hi lo' hi' _ H_3.out.t K_3.out.t hT).mono ?_
  rintro e w4 ⟨rfl, hb⟩
  have Z4 := Lib.hid (within_of hb).size
  have W4 := Lib.hid (within_on W3.out (within_of hb) W3.out.size (.inr (Nat.le_refl _)))
  have H_4 := Lib.hid (H_3.out.within (within_of hb) (by omega))
  have K_4 := Lib.hid (K_3.out.within (within_of hb) (by omega))
  have GA_4 := Lib.hid (GA_3.out.within (within_of hb) (by omega))
  have GB_4 := Lib.hid (GB_3.out.within (within_of hb) (by omega))
  clear hb
  obtain ⟨g4_0, g4_1, g4_2, g4_3, g4_4, g4_5⟩ := GA_4.out.cells
  obtain ⟨g5_0, g5_1, g5_2, g5_3, g5_4, g5_5⟩ := GB_4.out.cells
  go_wp2_with fail
  clear g4_0 g4_1 g4_2 g4_3 g4_4 g4_5 g5_0 g5_1 g5_2 g5_3 g5_4 g5_5
  refine (eqInts_c Z AZ BZ cZ dZ lo hi lo' hi' _ H_4.out.z K_4.out.z hZ).mono ?_
  rintro e w5 ⟨rfl, hb⟩
  have Z5 := Lib.hid (within_of hb).size
  have W5 := Lib.hid (within_on W4.out (within_of hb) W4.out.size (.inr (Nat.le_refl _)))
  have H_5 := Lib.hid (H_4.out.within (within_of hb) (by omega))
  have K_5 := Lib.hid (K_4.out.within (within_of hb) (by omega))
  have GA_5 := Lib.hid (GA_4.out.within (within_of hb) (by omega))
  have GB_5 := Lib.hid (GB_4.out.within (within_of hb) (by omega))
  clear hb
  go_wp2_with fail
  go_ret
  exact ⟨rfl, W5.out⟩

set_option maxHeartbeats 2000000 in
set_option maxRecDepth 100000 in
theorem markPeb_o (AF AT AZ : Option Addr) (cF cT cZ lo hi : Nat) (F T Z : List Int) (k : Int) (w : World) (h : Own3 w lo hi AF cF AT cT AZ cZ F T Z) (hF : F.length ≤ 1048576) (hT : T.length ≤ 1048576) (hZ : Z.length ≤ 1048576) (hk0 : 0 ≤ k) (hk1 : k ≤ 5000000) :
    Calls Try.prog 26 #[pebV AF F.length cF AT T.length cT AZ Z.length cZ, .int .i64 k] w fun e w' => e = .returned (.int .i64 (k + (F.length : Int) + (T.length : Int) + (Z.length : Int))) ∧ Within lo hi w w' ∧ Own3 w' lo hi AF cF AT cT AZ cZ (marksI k F.length) (marksI (k + (F.length : Int)) T.length) (marksI (k + (F.length : Int) + (T.length : Int)) Z.length) := by
  obtain ⟨⟨f1, f2⟩, ⟨t1, t2⟩, ⟨z1, z2⟩, o1, o2, o3, d1, d2, d3, b1, b2, b3, h4⟩ := h
  simp only [Dis] at o1 o2 o3 d1 d2 d3 b1 b2 b3
  have V0 := Lib.hid (Within.refl lo hi w)
  have OF_0 := Lib.hid (o1)
  have OT_0 := Lib.hid (o2)
  have OZ_0 := Lib.hid (o3)
  clear o1 o2 o3
  have Z1 := Lib.hid (within_alloc w (.cells #[(.slice AF F.length cF), (.slice AT T.length cT), (.slice AZ Z.length cZ)] 30)).size
  have V1 := Lib.hid (V0.out.trans ((within_alloc w (.cells #[(.slice AF F.length cF), (.slice AT T.length cT), (.slice AZ Z.length cZ)] 30)).widen (.inl (Nat.le_refl _))))
  have OF_1 := Lib.hid (OF_0.out.within (within_alloc w (.cells #[(.slice AF F.length cF), (.slice AT T.length cT), (.slice AZ Z.length cZ)] 30)) (by omega))
  have OT_1 := Lib.hid (OT_0.out.within (within_alloc w (.cells #[(.slice AF F.length cF), (.slice AT T.length cT), (.slice AZ Z.length cZ)] 30)) (by omega))
  have OZ_1 := Lib.hid (OZ_0.out.within (within_alloc w (.cells #[(.slice AF F.length cF), (.slice AT T.length cT), (.slice AZ Z.length cZ)] 30)) (by omega))
  have Y1 := Lib.hid (show (w.alloc (.cells #[(.slice AF F.length cF), (.slice AT T.length cT), (.slice AZ Z.length cZ)] 30)).heap.size = w.heap.size + 1 by simp)
  have hnew := cel3_new w (.slice AF F.length cF) (.slice AT T.length cT) (.slice AZ Z.length cZ) 30
  have GA_1 := Lib.hid hnew
  clear hnew
  go_enter Try.func26, Try.ntmps26
  obtain ⟨g0_0, g0_1, g0_2, g0_3, g0_4, g0_5⟩ := GA_1.out.cells
  go_wp2_with fail
  clear g0_0 g0_1 g0_2 g0_3 g0_4 g0_5
  generalize (w.alloc (.cells #[(.slice AF F.length cF), (.slice AT T.length cT), (.slice AZ Z.length cZ)] 30)) = w1 at *
  refine (markInts_o AF cF F k f1 f2 _ OF_1.out hF (by omega) (by omega)).mono ?_
  rintro e w2 ⟨rfl, hin, hog⟩
  have Z2 := Lib.hid (hin).size
  have V2 := Lib.hid (V1.out.trans ((hin).widen (by have := Z1.out; have := Z2.out; have := Y1.out; omega)))
  have OT_2 := Lib.hid (OT_1.out.within (hin) (by have := Z1.out; have := Z2.out; have := Y1.out; omega))
  have OZ_2 := Lib.hid (OZ_1.out.within (hin) (by have := Z1.out; have := Z2.out; have := Y1.out; omega))
  have GA_2 := Lib.hid (GA_1.out.within (hin) (by have := Z1.out; have := Z2.out; have := Y1.out; omega))
  have OF_2 := Lib.hid (hog)
  clear hin hog
  obtain ⟨g1_0, g1_1, g1_2, g1_3, g1_4, g1_5⟩ := GA_2.out.cells
  go_wp2_with fail
  clear g1_0 g1_1 g1_2 g1_3 g1_4 g1_5
  refine (markInts_o AT cT T (k + (F.length : Int)) t1 t2 _ OT_2.out hT (by omega) (by omega)).mono ?_
  rintro e w3 ⟨rfl, hin, hog⟩
  have Z3 := Lib.hid (hin).size
  have V3 := Lib.hid (V2.out.trans ((hin).widen (by have := Z1.out; have := Z2.out; have := Z3.out; have := Y1.out; omega)))
  have OZ_3 := Lib.hid (OZ_2.out.within (hin) (by have := Z1.out; have := Z2.out; have := Z3.out; have := Y1.out; omega))
  have GA_3 := Lib.hid (GA_2.out.within (hin) (by have := Z1.out; have := Z2.out; have := Z3.out; have := Y1.out; omega))
  have OF_3 := Lib.hid (OF_2.out.within (hin) (by have := Z1.out; have := Z2.out; have := Z3.out; have := Y1.out; omega))
  have OT_3 := Lib.hid (hog)
  clear hin hog
  obtain ⟨g2_0, g2_1, g2_2, g2_3, g2_4, g2_5⟩ := GA_3.out.cells
  go_wp2_with fail
  clear g2_0 g2_1 g2_2 g2_3 g2_4 g2_5
  refine (markInts_o AZ cZ Z (k + (F.length : Int) + (T.length : Int)) z1 z2 _ OZ_3.out hZ (by omega) (by omega)).mono ?_
  rintro e w4 ⟨rfl, hin, hog⟩
  have Z4 := Lib.hid (hin).size
  have V4 := Lib.hid (V3.out.trans ((hin).widen (by have := Z1.out; have := Z2.out; have := Z3.out; have := Z4.out; have := Y1.out; omega)))
  have GA_4 := Lib.hid (GA_3.out.within (hin) (by have := Z1.out; have := Z2.out; have := Z3.out; have := Z4.out; have := Y1.out; omega))
  have OF_4 := Lib.hid (OF_3.out.within (hin) (by have := Z1.out; have := Z2.out; have := Z3.out; have := Z4.out; have := Y1.out; omega))
  have OT_4 := Lib.hid (OT_3.out.within (hin) (by have := Z1.out; have := Z2.out; have := Z3.out; have := Z4.out; have := Y1.out; omega))
  have OZ_4 := Lib.hid (hog)
  clear hin hog
  go_wp2_with fail
  go_ret
  exact ⟨rfl, V4.out, (f1, f2), (t1, t2), (z1, z2), OF_4.out, OT_4.out, OZ_4.out, d1, d2, d3, b1, b2, b3, Nat.le_trans h4 V4.out.size⟩

set_option maxHeartbeats 2000000 in
set_option maxRecDepth 100000 in
theorem heldPeb_c (AF AT AZ : Option Addr) (cF cT cZ lo hi nF nT nZ : Nat) (k : Int) (w : World) (h : Peb3 w lo hi AF AT AZ (marksI k nF) (marksI (k + (nF : Int)) nT) (marksI (k + (nF : Int) + (nT : Int)) nZ)) (hF : nF ≤ 1048576) (hT : nT ≤ 1048576) (hZ : nZ ≤ 1048576) (hk0 : 0 ≤ k) (hk1 : k ≤ 5000000) :
    Calls Try.prog 27 #[pebV AF nF cF AT nT cT AZ nZ cZ, .int .i64 k] w fun e w' => e = .returned (.int .i64 (k + (nF : Int) + (nT : Int) + (nZ : Int))) ∧ Below w.heap.size w w' := by
  have hhi : hi ≤ w.heap.size := h.f.1
  have W0 := Lib.hid (Below.refl w.heap.size w)
  have H_0 := Lib.hid (h)
  clear h
  have Z1 := Lib.hid (within_alloc w (.cells #[(.slice AF nF cF), (.slice AT nT cT), (.slice AZ nZ cZ)] 30)).size
  have W1 := Lib.hid (within_on W0.out (within_alloc w (.cells #[(.slice AF nF cF), (.slice AT nT cT), (.slice AZ nZ cZ)] 30)) W0.out.size (.inr (Nat.le_refl _)))
  have H_1 := Lib.hid (H_0.out.within (within_alloc w (.cells #[(.slice AF nF cF), (.slice AT nT cT), (.slice AZ nZ cZ)] 30)) (by omega))
  have Y1 := Lib.hid (show (w.alloc (.cells #[(.slice AF nF cF), (.slice AT nT cT), (.slice AZ nZ cZ)] 30)).heap.size = w.heap.size + 1 by simp)
  have hnew := cel3_new w (.slice AF nF cF) (.slice AT nT cT) (.slice AZ nZ cZ) 30
  have GA_1 := Lib.hid hnew
  clear hnew
  go_enter Try.func27, Try.ntmps27
  obtain ⟨g0_0, g0_1, g0_2, g0_3, g0_4, g0_5⟩ := GA_1.out.cells
  go_wp2_with fail
  clear g0_0 g0_1 g0_2 g0_3 g0_4 g0_5
  generalize (w.alloc (.cells #[(.slice AF nF cF), (.slice AT nT cT), (.slice AZ nZ cZ)] 30)) = w1 at *
  refine (heldInts_c nF AF cF k lo hi _ H_1.out.f hF (by omega) (by omega)).mono ?_
  rintro e w2 ⟨rfl, hb⟩
  have Z2 := Lib.hid (within_of hb).size
  have W2 := Lib.hid (within_on W1.out (within_of hb) W1.out.size (.inr (Nat.le_refl _)))
  have H_2 := Lib.hid (H_1.out.within (within_of hb) (by omega))
  have GA_2 := Lib.hid (GA_1.out.within (within_of hb) (by omega))
  clear hb
  have hnn0 : ¬ k + (nF : Int) < 0 := by omega
  obtain ⟨g1_0, g1_1, g1_2, g1_3, g1_4, g1_5⟩ := GA_2.out.cells
  go_wp2_with fail
  clear g1_0 g1_1 g1_2 g1_3 g1_4 g1_5
  refine (heldInts_c nT AT cT (k + (nF : Int)) lo hi _ H_2.out.t hT (by omega) (by omega)).mono ?_
  rintro e w3 ⟨rfl, hb⟩
  have Z3 := Lib.hid (within_of hb).size
  have W3 := Lib.hid (within_on W2.out (within_of hb) W2.out.size (.inr (Nat.le_refl _)))
  have H_3 := Lib.hid (H_2.out.within (within_of hb) (by omega))
  have GA_3 := Lib.hid (GA_2.out.within (within_of hb) (by omega))
  clear hb
  have hnn1 : ¬ (k + (nF : Int)) + (nT : Int) < 0 := by omega
  obtain ⟨g2_0, g2_1, g2_2, g2_3, g2_4, g2_5⟩ := GA_3.out.cells
  go_wp2_with fail
  clear g2_0 g2_1 g2_2 g2_3 g2_4 g2_5
  refine (heldInts_c nZ AZ cZ (k + (nF : Int) + (nT : Int)) lo hi _ H_3.out.z hZ (by omega) (by omega)).mono ?_
  rintro e w4 ⟨rfl, hb⟩
  have Z4 := Lib.hid (within_of hb).size
  have W4 := Lib.hid (within_on W3.out (within_of hb) W3.out.size (.inr (Nat.le_refl _)))
  have H_4 := Lib.hid (H_3.out.within (within_of hb) (by omega))
  have GA_4 := Lib.hid (GA_3.out.within (within_of hb) (by omega))
  clear hb
  have hnn2 : ¬ (k + (nF : Int) + (nT : Int)) + (nZ : Int) < 0 := by omega
  go_wp2_with fail
  go_ret
  exact ⟨rfl, W4.out⟩

set_option maxHeartbeats 2000000 in
set_option maxRecDepth 100000 in
theorem szInts_c (A : Option Addr) (n cap : Nat) (left : Int) (w : World) (hn : n ≤ 9223372036854775807) (h0 : 0 ≤ left) (h1 : left ≤ 1048576) :
    Calls Try.prog 71 #[.slice A n cap, .int .i64 left] w fun e w' => e = .returned (.int .i64 (if left - (n : Int) < 0 then -1 else left - (n : Int))) ∧ w = w' := by
  by_cases c : left - (n : Int) < 0
  all_goals
    first | rw [if_pos c] | rw [if_neg c]
    go_enter Try.func71, Try.ntmps71
    go_wp2_with fail
    go_ret
    exact ⟨rfl, rfl⟩

set_option maxHeartbeats 2000000 in
set_option maxRecDepth 100000 in
theorem szPeb_c (AF AT AZ : Option Addr) (f t z cF cT cZ : Nat) (left : Int) (w : World) (hf : f ≤ 9223372036854775807) (ht : t ≤ 9223372036854775807) (hz : z ≤ 9223372036854775807) (h0 : 0 ≤ left) (h1 : left ≤ 1048576) (hs : (f : Int) + (t : Int) + (z : Int) ≤ left) :
    Calls Try.prog 18 #[pebV AF f cF AT t cT AZ z cZ, .int .i64 left] w fun e w' => e = .returned (.int .i64 (left - (f : Int) - (t : Int) - (z : Int))) ∧ Below w.heap.size w w' := by
  have W0 := Lib.hid (Below.refl w.heap.size w)
  have Z1 := Lib.hid (within_alloc w (.cells #[(.slice AF f cF), (.slice AT t cT), (.slice AZ z cZ)] 27)).size
  have W1 := Lib.hid (within_on W0.out (within_alloc w (.cells #[(.slice AF f cF), (.slice AT t cT), (.slice AZ z cZ)] 27)) W0.out.size (.inr (Nat.le_refl _)))
  have Y1 := Lib.hid (show (w.alloc (.cells #[(.slice AF f cF), (.slice AT t cT), (.slice AZ z cZ)] 27)).heap.size = w.heap.size + 1 by simp)
  have hnew := cel3_new w (.slice AF f cF) (.slice AT t cT) (.slice AZ z cZ) 27
  have GA_1 := Lib.hid hnew
  clear hnew
  go_enter Try.func18, Try.ntmps18
  obtain ⟨g0_0, g0_1, g0_2, g0_3, g0_4, g0_5⟩ := GA_1.out.cells
  go_wp2_with fail
  clear g0_0 g0_1 g0_2 g0_3 g0_4 g0_5
  generalize (w.alloc (.cells #[(.slice AF f cF), (.slice AT t cT), (.slice AZ z cZ)] 27)) = w1 at *
  refine (szInts_c AF f cF (left) _ hf (by omega) (by omega)).mono ?_
  rintro e w2 ⟨rfl, rfl⟩
  have hn0 : ¬ left - (f : Int) < 0 := by omega
  rw [if_neg hn0]
  obtain ⟨g1_0, g1_1, g1_2, g1_3, g1_4, g1_5⟩ := GA_1.out.cells
  go_wp2_with fail
  clear g1_0 g1_1 g1_2 g1_3 g1_4 g1_5
  refine (szInts_c AT t cT (left - (f : Int)) _ ht (by omega) (by omega)).mono ?_
  rintro e w2 ⟨rfl, rfl⟩
  have hn1 : ¬ left - (f : Int) - (t : Int) < 0 := by omega
  rw [if_neg hn1]
  obtain ⟨g2_0, g2_1, g2_2, g2_3, g2_4, g2_5⟩ := GA_1.out.cells
  go_wp2_with fail
  clear g2_0 g2_1 g2_2 g2_3 g2_4 g2_5
  refine (szInts_c AZ z cZ (left - (f : Int) - (t : Int)) _ hz (by omega) (by omega)).mono ?_
  rintro e w2 ⟨rfl, rfl⟩
  have hn2 : ¬ left - (f : Int) - (t : Int) - (z : Int) < 0 := by omega
  rw [if_neg hn2]
  go_wp2_with fail
  go_ret
  exact ⟨rfl, W1.out⟩

set_option maxHeartbeats 2000000 in
set_option maxRecDepth 100000 in
theorem szPeb_no (AF AT AZ : Option Addr) (f t z cF cT cZ : Nat) (left : Int) (w : World) (hf : f ≤ 9223372036854775807) (ht : t ≤ 9223372036854775807) (hz : z ≤ 9223372036854775807) (h0 : 0 ≤ left) (h1 : left ≤ 1048576) (hs : left < (f : Int) + (t : Int) + (z : Int)) :
    Calls Try.prog 18 #[pebV AF f cF AT t cT AZ z cZ, .int .i64 left] w fun e w' => e = .returned (.int .i64 (-1)) ∧ Below w.heap.size w w' := by
  by_cases hc0 : left - (f : Int) < 0
  · skip
    have W0 := Lib.hid (Below.refl w.heap.size w)
    have Z1 := Lib.hid (within_alloc w (.cells #[(.slice AF f cF), (.slice AT t cT), (.slice AZ z cZ)] 27)).size
    have W1 := Lib.hid (within_on W0.out (within_alloc w (.cells #[(.slice AF f cF), (.slice AT t cT), (.slice AZ z cZ)] 27)) W0.out.size (.inr (Nat.le_refl _)))
    have Y1 := Lib.hid (show (w.alloc (.cells #[(.slice AF f cF), (.slice AT t cT), (.slice AZ z cZ)] 27)).heap.size = w.heap.size + 1 by simp)
    have hnew := cel3_new w (.slice AF f cF) (.slice AT t cT) (.slice AZ z cZ) 27
    have GA_1 := Lib.hid hnew
    clear hnew
    go_enter Try.func18, Try.ntmps18
    obtain ⟨g0_0, g0_1, g0_2, g0_3, g0_4, g0_5⟩ := GA_1.out.cells
    go_wp2_with fail
    clear g0_0 g0_1 g0_2 g0_3 g0_4 g0_5
    generalize (w.alloc (.cells #[(.slice AF f cF), (.slice AT t cT), (.slice AZ z cZ)] 27)) = w1 at *
    refine (szInts_c AF f cF (left) _ hf (by omega) (by omega)).mono ?_
    rintro e w2 ⟨rfl, rfl⟩
    have hn0 : left - (f : Int) < 0 := by omega
    rw [if_pos hn0]
    go_wp2_with fail
    go_ret
    exact ⟨rfl, W1.out⟩
  by_cases hc1 : left - (f : Int) - (t : Int) < 0
  · skip
    have W0 := Lib.hid (Below.refl w.heap.size w)
    have Z1 := Lib.hid (within_alloc w (.cells #[(.slice AF f cF), (.slice AT t cT), (.slice AZ z cZ)] 27)).size
    have W1 := Lib.hid (within_on W0.out (within_alloc w (.cells #[(.slice AF f cF), (.slice AT t cT), (.slice AZ z cZ)] 27)) W0.out.size (.inr (Nat.le_refl _)))
    have Y1 := Lib.hid (show (w.alloc (.cells #[(.slice AF f cF), (.slice AT t cT), (.slice AZ z cZ)] 27)).heap.size = w.heap.size + 1 by simp)
    have hnew := cel3_new w (.slice AF f cF) (.slice AT t cT) (.slice AZ z cZ) 27
    have GA_1 := Lib.hid hnew
    clear hnew
    go_enter Try.func18, Try.ntmps18
    obtain ⟨g0_0, g0_1, g0_2, g0_3, g0_4, g0_5⟩ := GA_1.out.cells
    go_wp2_with fail
    clear g0_0 g0_1 g0_2 g0_3 g0_4 g0_5
    generalize (w.alloc (.cells #[(.slice AF f cF), (.slice AT t cT), (.slice AZ z cZ)] 27)) = w1 at *
    refine (szInts_c AF f cF (left) _ hf (by omega) (by omega)).mono ?_
    rintro e w2 ⟨rfl, rfl⟩
    have hn0 : ¬ left - (f : Int) < 0 := by omega
    rw [if_neg hn0]
    obtain ⟨g1_0, g1_1, g1_2, g1_3, g1_4, g1_5⟩ := GA_1.out.cells
    go_wp2_with fail
    clear g1_0 g1_1 g1_2 g1_3 g1_4 g1_5
    refine (szInts_c AT t cT (left - (f : Int)) _ ht (by omega) (by omega)).mono ?_
    rintro e w2 ⟨rfl, rfl⟩
    have hn1 : left - (f : Int) - (t : Int) < 0 := by omega
    rw [if_pos hn1]
    go_wp2_with fail
    go_ret
    exact ⟨rfl, W1.out⟩
  have W0 := Lib.hid (Below.refl w.heap.size w)
  have Z1 := Lib.hid (within_alloc w (.cells #[(.slice AF f cF), (.slice AT t cT), (.slice AZ z cZ)] 27)).size
  have W1 := Lib.hid (within_on W0.out (within_alloc w (.cells #[(.slice AF f cF), (.slice AT t cT), (.slice AZ z cZ)] 27)) W0.out.size (.inr (Nat.le_refl _)))
  have Y1 := Lib.hid (show (w.alloc (.cells #[(.slice AF f cF), (.slice AT t cT), (.slice AZ z cZ)] 27)).heap.size = w.heap.size + 1 by simp)
  have hnew := cel3_new w (.slice AF f cF) (.slice AT t cT) (.slice AZ z cZ) 27
  have GA_1 := Lib.hid hnew
  clear hnew
  go_enter Try.func18, Try.ntmps18
  obtain ⟨g0_0, g0_1, g0_2, g0_3, g0_4, g0_5⟩ := GA_1.out.cells
  go_wp2_with fail
  clear g0_0 g0_1 g0_2 g0_3 g0_4 g0_5
  generalize (w.alloc (.cells #[(.slice AF f cF), (.slice AT t cT), (.slice AZ z cZ)] 27)) = w1 at *
  refine (szInts_c AF f cF (left) _ hf (by omega) (by omega)).mono ?_
  rintro e w2 ⟨rfl, rfl⟩
  have hn0 : ¬ left - (f : Int) < 0 := by omega
  rw [if_neg hn0]
  obtain ⟨g1_0, g1_1, g1_2, g1_3, g1_4, g1_5⟩ := GA_1.out.cells
  go_wp2_with fail
  clear g1_0 g1_1 g1_2 g1_3 g1_4 g1_5
  refine (szInts_c AT t cT (left - (f : Int)) _ ht (by omega) (by omega)).mono ?_
  rintro e w2 ⟨rfl, rfl⟩
  have hn1 : ¬ left - (f : Int) - (t : Int) < 0 := by omega
  rw [if_neg hn1]
  obtain ⟨g2_0, g2_1, g2_2, g2_3, g2_4, g2_5⟩ := GA_1.out.cells
  go_wp2_with fail
  clear g2_0 g2_1 g2_2 g2_3 g2_4 g2_5
  refine (szInts_c AZ z cZ (left - (f : Int) - (t : Int)) _ hz (by omega) (by omega)).mono ?_
  rintro e w2 ⟨rfl, rfl⟩
  have hn2 : left - (f : Int) - (t : Int) - (z : Int) < 0 := by omega
  rw [if_pos hn2]
  go_wp2_with fail
  go_ret
  exact ⟨rfl, W1.out⟩

end Go.Proofs.Ytgmcibcjplncaaa
/- What impl.NewPebbles answers. No condition. -/
namespace Go.Proofs.Ytgmcibcjplncaaa
open Go.RowKit

/-- What NewPebbles answers. -/
noncomputable def newB (p k : Int) (l : List (Int × Int)) : Bool := isGB p l && (decide (1 ≤ k) && decide (k ≤ 3))
noncomputable def newF (p k : Int) (l : List (Int × Int)) : List Int := if newB p k l = true then List.replicate p.toNat k else []
theorem new_no {p k : Int} {l : List (Int × Int)} (h : isGB p l = false ∨ k < 1 ∨ 3 < k) : newB p k l = false ∧ newF p k l = [] := by
  have hb : newB p k l = false := by
    unfold newB
    rcases h with h | h | h
    · rw [h]; rfl
    · rw [decide_eq_false (by omega : ¬ 1 ≤ k)]; simp
    · rw [decide_eq_false (by omega : ¬ k ≤ 3)]; simp
  exact ⟨hb, by unfold newF; rw [hb]; rfl⟩
theorem new_yes {P : Nat} {k : Int} {l : List (Int × Int)} (h : isGB (P : Int) l = true) (h1 : 1 ≤ k) (h2 : k ≤ 3) : newB (P : Int) k l = true ∧ newF (P : Int) k l = List.replicate P k := by
  have hb : newB (P : Int) k l = true := by
    unfold newB
    rw [h, decide_eq_true h1, decide_eq_true h2]
    rfl
  exact ⟨hb, by unfold newF; rw [hb, if_pos rfl, Int.toNat_natCast]⟩
theorem newF_len (p k : Int) (l : List (Int × Int)) : (newF p k l).length ≤ 1048576 := by
  by_cases h : newB p k l = true
  · have hg : isGB p l = true := by
      cases e : isGB p l with
      | true => rfl
      | false => rw [(new_no (k := k) (.inl e)).1] at h; cases h
    have hG : IsG p l := Classical.byContradiction fun g => by rw [isGB_no g] at hg; cases hg
    unfold newF
    rw [if_pos h, List.length_replicate]
    have := hG.1
    omega
  · unfold newF
    rw [if_neg h]
    simp
/-- A state of the call's own, and a bool. -/
def PebOB (w : World) (F T Z : List Int) (r : Bool) (e : Ending) (w' : World) : Prop :=
  ∃ AF cF AT cT AZ cZ, e = .returned (.tuple #[pebV AF F.length cF AT T.length cT AZ Z.length cZ, .bool r]) ∧ Own3 w' w.heap.size w'.heap.size AF cF AT cT AZ cZ F T Z ∧ Below w.heap.size w w'
theorem own3_nil (w : World) (lo : Nat) (h : lo ≤ w.heap.size) (AF AT AZ : Option Addr) (cF cT cZ : Nat) : Own3 w lo w.heap.size AF cF AT cT AZ cZ [] [] [] :=
  ⟨(w.heap.size, w.heap.size), (w.heap.size, w.heap.size), (w.heap.size, w.heap.size), ⟨Nat.le_refl _, .inl rfl⟩, ⟨Nat.le_refl _, .inl rfl⟩, ⟨Nat.le_refl _, .inl rfl⟩, .inl (Nat.le_refl _), .inl (Nat.le_refl _), .inl (Nat.le_refl _), ⟨h, Nat.le_refl _⟩, ⟨h, Nat.le_refl _⟩, ⟨h, Nat.le_refl _⟩, Nat.le_refl _⟩
theorem own3_f {W : World} {lo a b : Nat} {AF AT AZ : Option Addr} {cF cT cZ : Nat} {F : List Int} (h : OwnInts W a b AF cF F) (h1 : lo ≤ a) (h2 : b ≤ W.heap.size) (h3 : lo ≤ W.heap.size) : Own3 W lo W.heap.size AF cF AT cT AZ cZ F [] [] :=
  ⟨(a, b), (W.heap.size, W.heap.size), (W.heap.size, W.heap.size), h, ⟨Nat.le_refl _, .inl rfl⟩, ⟨Nat.le_refl _, .inl rfl⟩, .inl h2, .inl h2, .inl (Nat.le_refl _), ⟨h1, h2⟩, ⟨h3, Nat.le_refl _⟩, ⟨h3, Nat.le_refl _⟩, Nat.le_refl _⟩

set_option maxHeartbeats 2000000 in
set_option maxRecDepth 100000 in
theorem implNewP (p k : Int) (l : List (Int × Int)) (A : Option Addr) (cap : Nat) (w : World) (hl : BarsAt w w.heap.size A l) (hn : l.length ≤ 1048576) :
    Calls Try.prog 52 #[.agg #[.int .i64 p, .slice A l.length cap], .int .i64 k] w (PebOB w (newF p k l) [] [] (newB p k l)) := by
  have HISG : ∀ W : World, BarsAt W W.heap.size A l → Calls Try.prog 99 #[.agg #[.int .i64 p, .slice A l.length cap]] W fun e w' => e = .returned (.bool (isGB p l)) ∧ Below W.heap.size W w' := fun W h => implIsGraph p l A cap W h hn
  by_cases hbad : isGB p l = false ∨ k < 1 ∨ 3 < k
  · have HR := Lib.hid (new_no hbad)
    rcases hg : isGB p l with _ | _
    · skip
      rw [hg] at HISG
      clear hbad
      have W0 := Lib.hid (Below.refl w.heap.size w)
      have HB_0 := Lib.hid (bars_in hl)
      clear hl
      have Z1 := Lib.hid (within_alloc w (.cells #[.int .i64 p, (.slice A l.length cap)] 35)).size
      have W1 := Lib.hid (within_on W0.out (within_alloc w (.cells #[.int .i64 p, (.slice A l.length cap)] 35)) W0.out.size (.inr (Nat.le_refl _)))
      have HB_1 := Lib.hid (HB_0.out.within (within_alloc w (.cells #[.int .i64 p, (.slice A l.length cap)] 35)) (by omega))
      have Y1 := Lib.hid (show (w.alloc (.cells #[.int .i64 p, (.slice A l.length cap)] 35)).heap.size = w.heap.size + 1 by simp)
      have hnew := box_new w p (.slice A l.length cap) 35
      have BX_1 := Lib.hid hnew
      clear hnew
      have Z2 := Lib.hid (within_alloc (w.alloc (.cells #[.int .i64 p, (.slice A l.length cap)] 35)) (.cells #[(.slice none 0 0), (.slice none 0 0), (.slice none 0 0)] 30)).size
      have W2 := Lib.hid (within_on W1.out (within_alloc (w.alloc (.cells #[.int .i64 p, (.slice A l.length cap)] 35)) (.cells #[(.slice none 0 0), (.slice none 0 0), (.slice none 0 0)] 30)) W1.out.size (.inr (Nat.le_refl _)))
      have HB_2 := Lib.hid (HB_1.out.within (within_alloc (w.alloc (.cells #[.int .i64 p, (.slice A l.length cap)] 35)) (.cells #[(.slice none 0 0), (.slice none 0 0), (.slice none 0 0)] 30)) (by omega))
      have BX_2 := Lib.hid (BX_1.out.within (within_alloc (w.alloc (.cells #[.int .i64 p, (.slice A l.length cap)] 35)) (.cells #[(.slice none 0 0), (.slice none 0 0), (.slice none 0 0)] 30)) (by omega))
      have Y2 := Lib.hid (show ((w.alloc (.cells #[.int .i64 p, (.slice A l.length cap)] 35)).alloc (.cells #[(.slice none 0 0), (.slice none 0 0), (.slice none 0 0)] 30)).heap.size = (w.alloc (.cells #[.int .i64 p, (.slice A l.length cap)] 35)).heap.size + 1 by simp)
      have hnew := cel3_new (w.alloc (.cells #[.int .i64 p, (.slice A l.length cap)] 35)) (.slice none 0 0) (.slice none 0 0) (.slice none 0 0) 30
      rw [show (w.alloc (.cells #[.int .i64 p, (.slice A l.length cap)] 35)).heap.size = w.heap.size + 1 by simp] at hnew
      have GR_2 := Lib.hid hnew
      clear hnew
      go_enter Try.func52, Try.ntmps52
      obtain ⟨g0_0, g0_1, g0_2⟩ := BX_2.out
      go_wp2_with fail
      clear g0_0 g0_1 g0_2
      generalize ((w.alloc (.cells #[.int .i64 p, (.slice A l.length cap)] 35)).alloc (.cells #[(.slice none 0 0), (.slice none 0 0), (.slice none 0 0)] 30)) = w2 at *
      generalize (w.alloc (.cells #[.int .i64 p, (.slice A l.length cap)] 35)) = w1 at *
      refine (HISG _ HB_2.out.at).mono ?_
      rintro e w3 ⟨rfl, hb⟩
      have Z3 := Lib.hid (within_of hb).size
      have W3 := Lib.hid (within_on W2.out (within_of hb) W2.out.size (.inr (Nat.le_refl _)))
      have HB_3 := Lib.hid (HB_2.out.within (within_of hb) (by omega))
      have BX_3 := Lib.hid (BX_2.out.within (within_of hb) (by omega))
      have GR_3 := Lib.hid (GR_2.out.within (within_of hb) (by omega))
      clear hb HISG
      obtain ⟨g1_0, g1_1, g1_2, g1_3, g1_4, g1_5⟩ := GR_3.out.cells
      have Z4 := Lib.hid ((ret3 GR_3.out (.slice none 0 0) (.slice none 0 0) (.slice none 0 0)).2).size
      have W4 := Lib.hid (within_on W3.out ((ret3 GR_3.out (.slice none 0 0) (.slice none 0 0) (.slice none 0 0)).2) W3.out.size (by have := Z1.out; have := Z2.out; have := Z3.out; have := Z4.out; have := Y1.out; have := Y2.out; omega))
      have HB_4 := Lib.hid (HB_3.out.within ((ret3 GR_3.out (.slice none 0 0) (.slice none 0 0) (.slice none 0 0)).2) (by have := Z1.out; have := Z2.out; have := Z3.out; have := Z4.out; have := Y1.out; have := Y2.out; omega))
      have BX_4 := Lib.hid (BX_3.out.within ((ret3 GR_3.out (.slice none 0 0) (.slice none 0 0) (.slice none 0 0)).2) (by have := Z1.out; have := Z2.out; have := Z3.out; have := Z4.out; have := Y1.out; have := Y2.out; omega))
      have GR_4 := Lib.hid ((ret3 GR_3.out (.slice none 0 0) (.slice none 0 0) (.slice none 0 0)).1)
      obtain ⟨g2_0, g2_1, g2_2, g2_3, g2_4, g2_5⟩ := GR_4.out.cells
      go_wp2_with fail
      generalize (((w3.setCell ⟨w.heap.size + 1, 0, none⟩ (.slice none 0 0)).setCell ⟨w.heap.size + 1, 1, none⟩ (.slice none 0 0)).setCell ⟨w.heap.size + 1, 2, none⟩ (.slice none 0 0)) = w4 at *
      refine bodyPost_ret (v := .tuple #[pebV none 0 0 none 0 0 none 0 0, .bool false]) ?_ rfl ?_
      · simp [results, Try.results52, go_sem, g2_0, g2_1, g2_2]
      · rw [HR.out.1, HR.out.2]
        exact ⟨none, 0, none, 0, none, 0, rfl, own3_nil _ _ W4.out.size _ _ _ _ _ _, W4.out⟩
    · skip
      rw [hg] at HISG
      have hk : (k < 1) ∨ (¬ k < 1 ∧ 3 < k) := by simp only [hg] at hbad; simp at hbad; omega
      clear hbad
      have W0 := Lib.hid (Below.refl w.heap.size w)
      have HB_0 := Lib.hid (bars_in hl)
      clear hl
      have Z1 := Lib.hid (within_alloc w (.cells #[.int .i64 p, (.slice A l.length cap)] 35)).size
      have W1 := Lib.hid (within_on W0.out (within_alloc w (.cells #[.int .i64 p, (.slice A l.length cap)] 35)) W0.out.size (.inr (Nat.le_refl _)))
      have HB_1 := Lib.hid (HB_0.out.within (within_alloc w (.cells #[.int .i64 p, (.slice A l.length cap)] 35)) (by omega))
      have Y1 := Lib.hid (show (w.alloc (.cells #[.int .i64 p, (.slice A l.length cap)] 35)).heap.size = w.heap.size + 1 by simp)
      have hnew := box_new w p (.slice A l.length cap) 35
      have BX_1 := Lib.hid hnew
      clear hnew
      have Z2 := Lib.hid (within_alloc (w.alloc (.cells #[.int .i64 p, (.slice A l.length cap)] 35)) (.cells #[(.slice none 0 0), (.slice none 0 0), (.slice none 0 0)] 30)).size
      have W2 := Lib.hid (within_on W1.out (within_alloc (w.alloc (.cells #[.int .i64 p, (.slice A l.length cap)] 35)) (.cells #[(.slice none 0 0), (.slice none 0 0), (.slice none 0 0)] 30)) W1.out.size (.inr (Nat.le_refl _)))
      have HB_2 := Lib.hid (HB_1.out.within (within_alloc (w.alloc (.cells #[.int .i64 p, (.slice A l.length cap)] 35)) (.cells #[(.slice none 0 0), (.slice none 0 0), (.slice none 0 0)] 30)) (by omega))
      have BX_2 := Lib.hid (BX_1.out.within (within_alloc (w.alloc (.cells #[.int .i64 p, (.slice A l.length cap)] 35)) (.cells #[(.slice none 0 0), (.slice none 0 0), (.slice none 0 0)] 30)) (by omega))
      have Y2 := Lib.hid (show ((w.alloc (.cells #[.int .i64 p, (.slice A l.length cap)] 35)).alloc (.cells #[(.slice none 0 0), (.slice none 0 0), (.slice none 0 0)] 30)).heap.size = (w.alloc (.cells #[.int .i64 p, (.slice A l.length cap)] 35)).heap.size + 1 by simp)
      have hnew := cel3_new (w.alloc (.cells #[.int .i64 p, (.slice A l.length cap)] 35)) (.slice none 0 0) (.slice none 0 0) (.slice none 0 0) 30
      rw [show (w.alloc (.cells #[.int .i64 p, (.slice A l.length cap)] 35)).heap.size = w.heap.size + 1 by simp] at hnew
      have GR_2 := Lib.hid hnew
      clear hnew
      go_enter Try.func52, Try.ntmps52
      obtain ⟨g0_0, g0_1, g0_2⟩ := BX_2.out
      go_wp2_with fail
      clear g0_0 g0_1 g0_2
      generalize ((w.alloc (.cells #[.int .i64 p, (.slice A l.length cap)] 35)).alloc (.cells #[(.slice none 0 0), (.slice none 0 0), (.slice none 0 0)] 30)) = w2 at *
      generalize (w.alloc (.cells #[.int .i64 p, (.slice A l.length cap)] 35)) = w1 at *
      refine (HISG _ HB_2.out.at).mono ?_
      rintro e w3 ⟨rfl, hb⟩
      have Z3 := Lib.hid (within_of hb).size
      have W3 := Lib.hid (within_on W2.out (within_of hb) W2.out.size (.inr (Nat.le_refl _)))
      have HB_3 := Lib.hid (HB_2.out.within (within_of hb) (by omega))
      have BX_3 := Lib.hid (BX_2.out.within (within_of hb) (by omega))
      have GR_3 := Lib.hid (GR_2.out.within (within_of hb) (by omega))
      clear hb HISG
      rcases hk with hk | ⟨hk1, hk⟩
      all_goals
        obtain ⟨g1_0, g1_1, g1_2, g1_3, g1_4, g1_5⟩ := GR_3.out.cells
        have Z4 := Lib.hid ((ret3 GR_3.out (.slice none 0 0) (.slice none 0 0) (.slice none 0 0)).2).size
        have W4 := Lib.hid (within_on W3.out ((ret3 GR_3.out (.slice none 0 0) (.slice none 0 0) (.slice none 0 0)).2) W3.out.size (by have := Z1.out; have := Z2.out; have := Z3.out; have := Z4.out; have := Y1.out; have := Y2.out; omega))
        have HB_4 := Lib.hid (HB_3.out.within ((ret3 GR_3.out (.slice none 0 0) (.slice none 0 0) (.slice none 0 0)).2) (by have := Z1.out; have := Z2.out; have := Z3.out; have := Z4.out; have := Y1.out; have := Y2.out; omega))
        have BX_4 := Lib.hid (BX_3.out.within ((ret3 GR_3.out (.slice none 0 0) (.slice none 0 0) (.slice none 0 0)).2) (by have := Z1.out; have := Z2.out; have := Z3.out; have := Z4.out; have := Y1.out; have := Y2.out; omega))
        have GR_4 := Lib.hid ((ret3 GR_3.out (.slice none 0 0) (.slice none 0 0) (.slice none 0 0)).1)
        obtain ⟨g2_0, g2_1, g2_2, g2_3, g2_4, g2_5⟩ := GR_4.out.cells
        go_wp2_with fail
        generalize (((w3.setCell ⟨w.heap.size + 1, 0, none⟩ (.slice none 0 0)).setCell ⟨w.heap.size + 1, 1, none⟩ (.slice none 0 0)).setCell ⟨w.heap.size + 1, 2, none⟩ (.slice none 0 0)) = w4 at *
        refine bodyPost_ret (v := .tuple #[pebV none 0 0 none 0 0 none 0 0, .bool false]) ?_ rfl ?_
        · simp [results, Try.results52, go_sem, g2_0, g2_1, g2_2]
        · rw [HR.out.1, HR.out.2]
          exact ⟨none, 0, none, 0, none, 0, rfl, own3_nil _ _ W4.out.size _ _ _ _ _ _, W4.out⟩
  · skip
    have hg : isGB p l = true := by
      cases h : isGB p l with
      | true => rfl
      | false => exact absurd (.inl h) hbad
    have hG : IsG p l := Classical.byContradiction fun g => by rw [isGB_no g] at hg; cases hg
    obtain ⟨P, rfl⟩ : ∃ P : Nat, p = (P : Int) := ⟨p.toNat, by have := hG.1; omega⟩
    have hP : 1 ≤ P ∧ P ≤ 8 := by have := hG.1; omega
    have hk1 : ¬ k < 1 := by omega
    have hk2 : ¬ 3 < k := by omega
    have HR := Lib.hid (new_yes (l := l) hg (by omega : 1 ≤ k) (by omega))
    rw [hg] at HISG
    clear hbad hG hg
    have W0 := Lib.hid (Below.refl w.heap.size w)
    have HB_0 := Lib.hid (bars_in hl)
    clear hl
    have Z1 := Lib.hid (within_alloc w (.cells #[.int .i64 (P : Int), (.slice A l.length cap)] 35)).size
    have W1 := Lib.hid (within_on W0.out (within_alloc w (.cells #[.int .i64 (P : Int), (.slice A l.length cap)] 35)) W0.out.size (.inr (Nat.le_refl _)))
    have HB_1 := Lib.hid (HB_0.out.within (within_alloc w (.cells #[.int .i64 (P : Int), (.slice A l.length cap)] 35)) (by omega))
    have Y1 := Lib.hid (show (w.alloc (.cells #[.int .i64 (P : Int), (.slice A l.length cap)] 35)).heap.size = w.heap.size + 1 by simp)
    have hnew := box_new w (P : Int) (.slice A l.length cap) 35
    have BX_1 := Lib.hid hnew
    clear hnew
    have Z2 := Lib.hid (within_alloc (w.alloc (.cells #[.int .i64 (P : Int), (.slice A l.length cap)] 35)) (.cells #[(.slice none 0 0), (.slice none 0 0), (.slice none 0 0)] 30)).size
    have W2 := Lib.hid (within_on W1.out (within_alloc (w.alloc (.cells #[.int .i64 (P : Int), (.slice A l.length cap)] 35)) (.cells #[(.slice none 0 0), (.slice none 0 0), (.slice none 0 0)] 30)) W1.out.size (.inr (Nat.le_refl _)))
    have HB_2 := Lib.hid (HB_1.out.within (within_alloc (w.alloc (.cells #[.int .i64 (P : Int), (.slice A l.length cap)] 35)) (.cells #[(.slice none 0 0), (.slice none 0 0), (.slice none 0 0)] 30)) (by omega))
    have BX_2 := Lib.hid (BX_1.out.within (within_alloc (w.alloc (.cells #[.int .i64 (P : Int), (.slice A l.length cap)] 35)) (.cells #[(.slice none 0 0), (.slice none 0 0), (.slice none 0 0)] 30)) (by omega))
    have Y2 := Lib.hid (show ((w.alloc (.cells #[.int .i64 (P : Int), (.slice A l.length cap)] 35)).alloc (.cells #[(.slice none 0 0), (.slice none 0 0), (.slice none 0 0)] 30)).heap.size = (w.alloc (.cells #[.int .i64 (P : Int), (.slice A l.length cap)] 35)).heap.size + 1 by simp)
    have hnew := cel3_new (w.alloc (.cells #[.int .i64 (P : Int), (.slice A l.length cap)] 35)) (.slice none 0 0) (.slice none 0 0) (.slice none 0 0) 30
    rw [show (w.alloc (.cells #[.int .i64 (P : Int), (.slice A l.length cap)] 35)).heap.size = w.heap.size + 1 by simp] at hnew
    have GR_2 := Lib.hid hnew
    clear hnew
    go_enter Try.func52, Try.ntmps52
    obtain ⟨g0_0, g0_1, g0_2⟩ := BX_2.out
    go_wp2_with fail
    clear g0_0 g0_1 g0_2
    generalize ((w.alloc (.cells #[.int .i64 (P : Int), (.slice A l.length cap)] 35)).alloc (.cells #[(.slice none 0 0), (.slice none 0 0), (.slice none 0 0)] 30)) = w2 at *
    generalize (w.alloc (.cells #[.int .i64 (P : Int), (.slice A l.length cap)] 35)) = w1 at *
    refine (HISG _ HB_2.out.at).mono ?_
    rintro e w3 ⟨rfl, hb⟩
    have Z3 := Lib.hid (within_of hb).size
    have W3 := Lib.hid (within_on W2.out (within_of hb) W2.out.size (.inr (Nat.le_refl _)))
    have HB_3 := Lib.hid (HB_2.out.within (within_of hb) (by omega))
    have BX_3 := Lib.hid (BX_2.out.within (within_of hb) (by omega))
    have GR_3 := Lib.hid (GR_2.out.within (within_of hb) (by omega))
    clear hb HISG
    have Z4 := Lib.hid (within_alloc w3 (.cells #[.int .i64 k] 3)).size
    have W4 := Lib.hid (within_on W3.out (within_alloc w3 (.cells #[.int .i64 k] 3)) W3.out.size (.inr (Nat.le_refl _)))
    have HB_4 := Lib.hid (HB_3.out.within (within_alloc w3 (.cells #[.int .i64 k] 3)) (by omega))
    have BX_4 := Lib.hid (BX_3.out.within (within_alloc w3 (.cells #[.int .i64 k] 3)) (by omega))
    have GR_4 := Lib.hid (GR_3.out.within (within_alloc w3 (.cells #[.int .i64 k] 3)) (by omega))
    have Y4 := Lib.hid (show (w3.alloc (.cells #[.int .i64 k] 3)).heap.size = w3.heap.size + 1 by simp)
    have hck : (w3.alloc (.cells #[.int .i64 k] 3)).cell? ⟨w3.heap.size, 0, none⟩ = some (.int .i64 k) := by rw [World.cell?_alloc_at _ _ _ _ rfl]; rfl
    have HCK := Lib.hid hck
    clear hck
    obtain ⟨g1_0, g1_1, g1_2⟩ := BX_4.out
    go_wp2_with fail
    clear g1_0 g1_1 g1_2
    generalize (w3.alloc (.cells #[.int .i64 k] 3)) = w4 at *
    refine (slRepeat P k w3.heap.size _ hP.1 hP.2 HCK.out).mono ?_
    rintro e w5 ⟨g, rfl, ho, hb⟩
    have Z5 := Lib.hid (within_of hb).size
    have W5 := Lib.hid (within_on W4.out (within_of hb) W4.out.size (.inr (Nat.le_refl _)))
    have HB_5 := Lib.hid (HB_4.out.within (within_of hb) (by omega))
    have BX_5 := Lib.hid (BX_4.out.within (within_of hb) (by omega))
    have GR_5 := Lib.hid (GR_4.out.within (within_of hb) (by omega))
    have OF_5 := Lib.hid (own_ints' (zs := List.replicate P k) (by rw [List.length_replicate]; exact ho))
    clear ho hb
    obtain ⟨g2_0, g2_1, g2_2, g2_3, g2_4, g2_5⟩ := GR_5.out.cells
    have Z6 := Lib.hid ((ret3 GR_5.out (.slice (some ⟨g, 0, none⟩) P P) (.slice none 0 0) (.slice none 0 0)).2).size
    have W6 := Lib.hid (within_on W5.out ((ret3 GR_5.out (.slice (some ⟨g, 0, none⟩) P P) (.slice none 0 0) (.slice none 0 0)).2) W5.out.size (by have := Z1.out; have := Z2.out; have := Z3.out; have := Z4.out; have := Z5.out; have := Z6.out; have := Y1.out; have := Y2.out; have := Y4.out; omega))
    have HB_6 := Lib.hid (HB_5.out.within ((ret3 GR_5.out (.slice (some ⟨g, 0, none⟩) P P) (.slice none 0 0) (.slice none 0 0)).2) (by have := Z1.out; have := Z2.out; have := Z3.out; have := Z4.out; have := Z5.out; have := Z6.out; have := Y1.out; have := Y2.out; have := Y4.out; omega))
    have BX_6 := Lib.hid (BX_5.out.within ((ret3 GR_5.out (.slice (some ⟨g, 0, none⟩) P P) (.slice none 0 0) (.slice none 0 0)).2) (by have := Z1.out; have := Z2.out; have := Z3.out; have := Z4.out; have := Z5.out; have := Z6.out; have := Y1.out; have := Y2.out; have := Y4.out; omega))
    have GR_6 := Lib.hid ((ret3 GR_5.out (.slice (some ⟨g, 0, none⟩) P P) (.slice none 0 0) (.slice none 0 0)).1)
    have OF_6 := Lib.hid (OF_5.out.within ((ret3 GR_5.out (.slice (some ⟨g, 0, none⟩) P P) (.slice none 0 0) (.slice none 0 0)).2) (by have := Z1.out; have := Z2.out; have := Z3.out; have := Z4.out; have := Z5.out; have := Z6.out; have := Y1.out; have := Y2.out; have := Y4.out; omega))
    obtain ⟨g3_0, g3_1, g3_2, g3_3, g3_4, g3_5⟩ := GR_6.out.cells
    go_wp2_with fail
    generalize (((w5.setCell ⟨w.heap.size + 1, 0, none⟩ (.slice (some ⟨g, 0, none⟩) P P)).setCell ⟨w.heap.size + 1, 1, none⟩ (.slice none 0 0)).setCell ⟨w.heap.size + 1, 2, none⟩ (.slice none 0 0)) = w6 at *
    refine bodyPost_ret (v := .tuple #[pebV (some ⟨g, 0, none⟩) P P none 0 0 none 0 0, .bool true]) ?_ rfl ?_
    · simp [results, Try.results52, go_sem, g3_0, g3_1, g3_2]
    · rw [HR.out.1, HR.out.2]
      exact ⟨some ⟨g, 0, none⟩, P, none, 0, none, 0, by rw [List.length_replicate]; rfl, own3_f OF_6.out (by have := Z1.out; have := Z2.out; have := Z3.out; have := Z4.out; have := Z5.out; have := Z6.out; have := Y1.out; have := Y2.out; have := Y4.out; omega) (by have := Z1.out; have := Z2.out; have := Z3.out; have := Z4.out; have := Z5.out; have := Z6.out; have := Y1.out; have := Y2.out; have := Y4.out; omega) (by have := Z1.out; have := Z2.out; have := Z3.out; have := Z4.out; have := Z5.out; have := Z6.out; have := Y1.out; have := Y2.out; have := Y4.out; omega), W6.out⟩

end Go.Proofs.Ytgmcibcjplncaaa
/- Rows of ints of the call's own, the empty ones too: what an append onto them asks. No condition. -/
namespace Go.Proofs.Ytgmcibcjplncaaa
open Go.RowKit

/-- A row of the call's own in a block from lo to hi, or no block; an empty one too can be appended to. -/
def OwnR (W : World) (lo hi : Nat) (A : Option Addr) (cap : Nat) (zs : List Int) : Prop :=
  hi ≤ W.heap.size ∧ ((A = none ∧ cap = 0 ∧ zs = []) ∨ ∃ g, A = some ⟨g, 0, none⟩ ∧ lo ≤ g ∧ g < hi ∧ W.ownsRow lo 3 1 (.slice (some ⟨g, 0, none⟩) zs.length cap) zs.length (intCells zs))
theorem OwnR.within {W W' : World} {lo hi lo' hi' : Nat} {A : Option Addr} {cap : Nat} {zs : List Int} (h : OwnR W lo hi A cap zs) (hw : Within lo' hi' W W') (hd : hi ≤ lo' ∨ hi' ≤ lo) : OwnR W' lo hi A cap zs :=
  ⟨Nat.le_trans h.1 hw.size, by
    rcases h.2 with h2 | ⟨g, e, h1, h2, ho⟩
    · exact .inl h2
    · exact .inr ⟨g, e, h1, h2, own_block ho (hw.block g (Nat.lt_of_lt_of_le h2 h.1) (by omega))⟩⟩
theorem OwnR.ints {W : World} {lo hi : Nat} {A : Option Addr} {cap : Nat} {zs : List Int} (h : OwnR W lo hi A cap zs) : OwnInts W lo hi A cap zs :=
  ⟨h.1, by
    rcases h.2 with ⟨_, _, h2⟩ | h2
    · exact .inl h2
    · exact .inr h2⟩
/-- What an append onto the row asks. -/
theorem OwnR.row {W : World} {lo hi : Nat} {A : Option Addr} {cap : Nat} {zs : List Int} (h : OwnR W lo hi A cap zs) : W.ownsRow lo 3 1 (.slice A zs.length cap) zs.length (intCells zs) := by
  rcases h.2 with ⟨rfl, rfl, rfl⟩ | ⟨g, rfl, _, _, ho⟩
  · exact ⟨rfl, .inl ⟨rfl, rfl⟩⟩
  · exact ho
theorem own_r {w' : World} {base : Nat} {A : Option Addr} {cap : Nat} {zs : List Int} (h : w'.ownsRow base 3 1 (.slice A zs.length cap) zs.length (intCells zs)) : OwnR w' base w'.heap.size A cap zs := by
  rcases h.2 with ⟨h1, h0⟩ | ⟨g, cap', cur, h1, h2⟩
  · injection h1 with e1 e2 e3
    exact ⟨Nat.le_refl _, .inl ⟨e1, e3, List.eq_nil_of_length_eq_zero h0⟩⟩
  · cases h1
    exact ⟨Nat.le_refl _, .inr ⟨g, rfl, (h.lt g rfl).1, (h.lt g rfl).2, h⟩⟩
/-- A state of the call's own whose rows, the empty ones too, can be appended to. -/
def Own3R (W : World) (lo hi : Nat) (AF : Option Addr) (cF : Nat) (AT : Option Addr) (cT : Nat) (AZ : Option Addr) (cZ : Nat) (F T Z : List Int) : Prop :=
  ∃ f t z : Nat × Nat, OwnR W f.1 f.2 AF cF F ∧ OwnR W t.1 t.2 AT cT T ∧ OwnR W z.1 z.2 AZ cZ Z ∧ Dis f t ∧ Dis f z ∧ Dis t z ∧ (lo ≤ f.1 ∧ f.2 ≤ hi) ∧ (lo ≤ t.1 ∧ t.2 ≤ hi) ∧ (lo ≤ z.1 ∧ z.2 ≤ hi) ∧ hi ≤ W.heap.size
theorem Own3R.own3 {W : World} {lo hi : Nat} {AF AT AZ : Option Addr} {cF cT cZ : Nat} {F T Z : List Int} (h : Own3R W lo hi AF cF AT cT AZ cZ F T Z) : Own3 W lo hi AF cF AT cT AZ cZ F T Z := by
  obtain ⟨f, t, z, h1, h2, h3, r⟩ := h
  exact ⟨f, t, z, h1.ints, h2.ints, h3.ints, r⟩
theorem Own3R.within {W W' : World} {lo hi lo' hi' : Nat} {AF AT AZ : Option Addr} {cF cT cZ : Nat} {F T Z : List Int} (h : Own3R W lo hi AF cF AT cT AZ cZ F T Z) (hw : Within lo' hi' W W') (hd : hi ≤ lo' ∨ hi' ≤ lo) : Own3R W' lo hi AF cF AT cT AZ cZ F T Z := by
  obtain ⟨f, t, z, h1, h2, h3, d1, d2, d3, b1, b2, b3, h4⟩ := h
  exact ⟨f, t, z, h1.within hw (by omega), h2.within hw (by omega), h3.within hw (by omega), d1, d2, d3, b1, b2, b3, Nat.le_trans h4 hw.size⟩
/-- The answer: a row of the call's own that can be appended to. -/
def IntsR (w : World) (zs : List Int) (e : Ending) (w' : World) : Prop :=
  ∃ A cap, e = .returned (.slice A zs.length cap) ∧ OwnR w' w.heap.size w'.heap.size A cap zs ∧ Below w.heap.size w w'
/-- The answer: a state of the call's own that can be appended to. -/
def PebR (w : World) (F T Z : List Int) (e : Ending) (w' : World) : Prop :=
  ∃ AF cF AT cT AZ cZ, e = .returned (pebV AF F.length cF AT T.length cT AZ Z.length cZ) ∧ Own3R w' w.heap.size w'.heap.size AF cF AT cT AZ cZ F T Z ∧ Below w.heap.size w w'

set_option maxHeartbeats 2000000 in
set_option maxRecDepth 100000 in
theorem slCloneR (zs : List Int) (A : Option Addr) (cap lo hi : Nat) (w : World) (hz : IntsIn w lo hi A zs) (hn : zs.length ≤ 1048576) :
    Calls Try.prog 107 #[.slice A zs.length cap] w (IntsR w zs) := by
  obtain ⟨i0, hi0, hz0, hz1, hz2⟩ := info_parts infoInt
  have q : ∀ (w : World) (a : Option Addr) (n c n' c' : Nat), (binOp .eql 25 (.slice a n c) (.slice none n' c')).run Try.prog w = .ok (.bool a.isNone) w := fun w a n c n' c' => Go.Lib.run_eql_slice_nil w _ _ a n c n' c' Try.underlying25
  have hm := World.ownsRow_made (base := w.heap.size) (e := 3) (size := 1) w #[] 0 (Nat.le_refl _) (by unfold maxLen; omega) (by simp)
  have HM := Lib.hid hm
  clear hm
  cases A with
  | none =>
    have h0 : zs = [] := by
      refine List.eq_nil_of_length_eq_zero (Nat.eq_zero_of_not_pos fun h => ?_)
      obtain ⟨b, off, e, _⟩ := hz.2 h
      cases e
    subst h0
    clear hz
    go_enter Try.func107, Try.ntmps107
    go_wp2_with fail
    go_ret
    exact ⟨none, 0, rfl, own_r ⟨rfl, .inl ⟨rfl, rfl⟩⟩, Below.refl _ _⟩
  | some a =>
    have HC := Lib.hid (news_ints (hz.within (within_alloc w (.cells #[] 3)) (.inr (Nat.zero_le _))))
    clear hz
    go_enter Try.func107, Try.ntmps107
    go_wp2_with (at_builtin; refine wpList_append_own _ rfl _ _ 25 rfl w.heap.size 3 i0 _ 1 8 Try.underlying25 hi0 hz0 hz1 hz2 rfl (by omega) _ 0 [] rfl HM.out a zs.length cap (intCells zs) rfl (by rw [intCells_len]; omega) HC.out (intCells_one zs) (by unfold maxLen; omega) (by omega) (by simp) ?_; intro v' w' ho hg hnil; rw [Nat.zero_add, List.nil_append] at ho; obtain ⟨A2, c2, rfl⟩ := own_shape ho; have HO := Lib.hid (own_r ho); have HG := Lib.hid (show Below w.heap.size w w' from (new_below w (.cells #[] 3)).grown hg (by simp) fun k hk => by cases hk; exact Nat.le_refl _); clear ho hg hnil)
    go_ret
    exact ⟨A2, c2, rfl, HO.out, HG.out⟩
end Go.Proofs.Ytgmcibcjplncaaa
/- A copy of a row of ints by append onto an empty row: what is run, and where the copy lies. No condition. -/
namespace Go.Proofs.Ytgmcibcjplncaaa
open Go.RowKit

theorem run_copyI (w : World) (ty : TypeId) (g : Nat) (A : Option Addr) (zs : List Int) (cap lo hi : Nat) (hz : IntsIn w lo hi A zs) (hn : zs.length ≤ 1048576) :
    ∃ A' c' w', (Builtin.append_ #[25, 25] ty #[.slice (some ⟨g, 0, none⟩) 0 0, .slice A zs.length cap]).run Try.prog w = .ok (.slice A' zs.length c') w' ∧ OwnInts w' w.heap.size w'.heap.size A' c' zs ∧ Below w.heap.size w w' := by
  obtain ⟨i0, hi0, hz0, hz1, hz2⟩ := info_parts infoInt
  by_cases h0 : zs.length = 0
  · have e : zs = [] := List.eq_nil_of_length_eq_zero h0
    subst e
    refine ⟨some ⟨g, 0, none⟩, 0, w, ?_, ⟨Nat.le_refl _, .inl rfl⟩, Below.refl _ _⟩
    cases A <;> simp [Builtin.append_, run_underlying Try.underlying25, sizeOf, typeInfo, hi0, Builtin.lenOf, Builtin.firstCells, loadCells, loadCellsFrom, storeCells]
  · obtain ⟨b, off, rfl, _, _, _⟩ := hz.2 (by omega)
    have hr := run_append_grow (P := Try.prog) w 25 ty 3 i0 _ Try.underlying25 hi0 hz0 ⟨g, 0, none⟩ 0 0 [] (by simp) (fun j v hj => by simp at hj) ⟨b, off, none⟩ zs.length cap (intCells zs) (by rw [hz1, intCells_len]; omega) (news_ints hz) (by omega) (by omega) (growslice_fits (by omega) (by rw [hz2]; omega))
    rw [Nat.zero_add] at hr
    refine ⟨_, _, _, hr, ?_, ((Below.refl _ _).drew).alloc (Nat.le_refl _) _⟩
    have hge := grownCap_ge w zs.length 0 3
    have hcm := grownCap_le_maxLen w zs.length 0 3 (by unfold maxLen; omega)
    refine own_ints' ⟨by rw [intCells_len]; omega, .inr ⟨w.heap.size, _, _, rfl, Nat.le_refl _, heap_alloc_new w.drew _, hge, hcm, ?_, ?_⟩⟩
    · simp only [Array.size_append, List.size_toArray, size_zeroCells]
      rw [intCells_len]
      simp [Value.cells]
      omega
    · have hl : zs.length * 1 = (intCells zs).length := by rw [intCells_len]; omega
      rw [hl]
      simp
theorem wp_copyI {w : World} {o : Oper} {a : Act} {K : Act → World → Prop} {Q : Exit → Act → World → Prop} (s x : Operand) (ho : o.op = .call { callee := .builtin .append, args := #[s, x], argTypes := #[25, 25] })
    (g : Nat) (A : Option Addr) (zs : List Int) (cap lo hi : Nat) (hs : a.eval s = .slice (some ⟨g, 0, none⟩) 0 0) (hx : a.eval x = .slice A zs.length cap) (hz : IntsIn w lo hi A zs) (hn : zs.length ≤ 1048576)
    (h : ∀ A' c' w', OwnInts w' w.heap.size w'.heap.size A' c' zs → Below w.heap.size w w' → K (a.put o.dst (.slice A' zs.length c')) w') : o.wp Try.prog a w K Q := by
  obtain ⟨A', c', w', hr, h2, h3⟩ := run_copyI w o.type g A zs cap lo hi hz hn
  unfold Oper.wp execOp
  simp only [ho, resolve, invoke, builtin, Sem.run_bind, Sem.run_pure, Result.andThen_ok, List.map_toArray, List.map_cons, List.map_nil, hs, hx, hr]
  exact h A' c' w' h2 h3
theorem step_copyI {w : World} {ops : Array Oper} {o : Oper} {a : Act} {K : Act → World → Prop} {Q : Exit → Act → World → Prop} {E : Prop} (hgd : o.guard = none) (s x : Operand) (ho : o.op = .call { callee := .builtin .append, args := #[s, x], argTypes := #[25, 25] })
    (g : Nat) (A : Option Addr) (zs : List Int) (cap lo hi : Nat) (hs : a.eval s = .slice (some ⟨g, 0, none⟩) 0 0) (hx : a.eval x = .slice A zs.length cap) (hz : IntsIn w lo hi A zs) (hn : zs.length ≤ 1048576)
    (h : ∀ A' c' w', OwnInts w' w.heap.size w'.heap.size A' c' zs → Below w.heap.size w w' → K (a.put o.dst (.slice A' zs.length c')) w') : if Region.wanted o (yielded ops a.tmps) = true then Oper.wp Try.prog o a w K Q else E := by
  have hw : Region.wanted o (yielded ops a.tmps) = true := by simp [Region.wanted, hgd]
  rw [if_pos hw]
  exact wp_copyI s x ho g A zs cap lo hi hs hx hz hn h
/-- What stands while a state is copied. -/
structure CpS (w W : World) (AF : Option Addr) (cF : Nat) (AT : Option Addr) (cT : Nat) (AZ : Option Addr) (cZ lo hi : Nat) (F T Z : List Int) : Prop where
  arg : Cel3 W w.heap.size 30 (.slice AF F.length cF) (.slice AT T.length cT) (.slice AZ Z.length cZ)
  ret : Cel3 W (w.heap.size + 1) 30 (.slice none 0 0) (.slice none 0 0) (.slice none 0 0)
  src : Peb3 W lo hi AF AT AZ F T Z
  bel : Below w.heap.size w W
theorem CpS.below {w W W' : World} {AF : Option Addr} {cF : Nat} {AT : Option Addr} {cT : Nat} {AZ : Option Addr} {cZ lo hi : Nat} {F T Z : List Int} (h : CpS w W AF cF AT cT AZ cZ lo hi F T Z) (hb : Below W.heap.size W W') : CpS w W' AF cF AT cT AZ cZ lo hi F T Z :=
  ⟨h.arg.kept hb, h.ret.kept hb, h.src.within (within_of hb) (.inr (Nat.zero_le _)), below_on h.bel hb h.bel.size⟩
theorem CpS.cells {w W : World} {AF : Option Addr} {cF : Nat} {AT : Option Addr} {cT : Nat} {AZ : Option Addr} {cZ lo hi : Nat} {F T Z : List Int} (h : CpS w W AF cF AT cT AZ cZ lo hi F T Z) :
    W.cell? ⟨w.heap.size, 0, none⟩ = some (.slice AF F.length cF) ∧ W.cell? ⟨w.heap.size, 1, none⟩ = some (.slice AT T.length cT) ∧ W.cell? ⟨w.heap.size, 2, none⟩ = some (.slice AZ Z.length cZ) := ⟨h.arg.cells.1, h.arg.cells.2.1, h.arg.cells.2.2.1⟩
/-- A state of the call's own. -/
def PebO (w : World) (F T Z : List Int) (e : Ending) (w' : World) : Prop :=
  ∃ AF cF AT cT AZ cZ, e = .returned (pebV AF F.length cF AT T.length cT AZ Z.length cZ) ∧ Own3 w' w.heap.size w'.heap.size AF cF AT cT AZ cZ F T Z ∧ Below w.heap.size w w'
end Go.Proofs.Ytgmcibcjplncaaa
/- A state of the call's own whose rows are written: where they lie, and what a store makes of them. No condition. -/
namespace Go.Proofs.Ytgmcibcjplncaaa
open Go.RowKit

/-- Three rows in blocks of their own; the first two are not empty. -/
structure St3 (W : World) (B gF cF gT cT : Nat) (AZ : Option Addr) (cZ z1 z2 : Nat) (F T Z : List Int) : Prop where
  f : W.ownsRow B 3 1 (.slice (some ⟨gF, 0, none⟩) F.length cF) F.length (intCells F)
  t : W.ownsRow B 3 1 (.slice (some ⟨gT, 0, none⟩) T.length cT) T.length (intCells T)
  z : OwnInts W z1 z2 AZ cZ Z
  b : B ≤ z1
  ne : gF ≠ gT
  dF : gF < z1 ∨ z2 ≤ gF
  dT : gT < z1 ∨ z2 ≤ gT
theorem own_raise {W : World} {B g cap n size : Nat} {e : TypeId} {xs : List Value} (h : W.ownsRow B e size (.slice (some ⟨g, 0, none⟩) n cap) n xs) : W.ownsRow g e size (.slice (some ⟨g, 0, none⟩) n cap) n xs := by
  refine ⟨h.1, ?_⟩
  rcases h.2 with ⟨h1, _⟩ | ⟨g', cap', cur, h1, _, h3⟩
  · cases h1
  · cases h1
    exact .inr ⟨g, cap, cur, rfl, Nat.le_refl _, h3⟩
theorem Own3.open_ {W : World} {lo hi : Nat} {AF AT AZ : Option Addr} {cF cT cZ : Nat} {F T Z : List Int} (h : Own3 W lo hi AF cF AT cT AZ cZ F T Z) (hF : 0 < F.length) (hT : 0 < T.length) :
    ∃ gF gT z1 z2, AF = some ⟨gF, 0, none⟩ ∧ AT = some ⟨gT, 0, none⟩ ∧ lo ≤ gF ∧ gF < hi ∧ lo ≤ gT ∧ gT < hi ∧ z2 ≤ hi ∧ St3 W lo gF cF gT cT AZ cZ z1 z2 F T Z := by
  obtain ⟨⟨f1, f2⟩, ⟨t1, t2⟩, ⟨z1, z2⟩, o1, o2, o3, d1, d2, d3, b1, b2, b3, h4⟩ := h
  simp only [Dis] at o1 o2 o3 d1 d2 d3 b1 b2 b3
  rcases o1.2 with e | ⟨gF, rfl, g1, g2, hf⟩
  · subst e; simp at hF
  · rcases o2.2 with e | ⟨gT, rfl, g3, g4, ht⟩
    · subst e; simp at hT
    · exact ⟨gF, gT, z1, z2, rfl, rfl, by omega, by omega, by omega, by omega, by omega, own_base hf b1.1, own_base ht b2.1, o3, b3.1, by omega, by omega, by omega⟩
theorem St3.own {W : World} {B gF cF gT cT : Nat} {AZ : Option Addr} {cZ z1 z2 : Nat} {F T Z : List Int} (h : St3 W B gF cF gT cT AZ cZ z1 z2 F T Z) : Own3 W B W.heap.size (some ⟨gF, 0, none⟩) cF (some ⟨gT, 0, none⟩) cT AZ cZ F T Z := by
  have h1 := h.f.lt gF rfl
  have h2 := h.t.lt gT rfl
  have h3 := h.z.1
  have n1 := h.ne
  have n2 := h.dF
  have n3 := h.dT
  have n4 := h.b
  exact ⟨(gF, gF + 1), (gT, gT + 1), (z1, z2), ⟨by simp only []; omega, .inr ⟨gF, rfl, Nat.le_refl _, Nat.lt_succ_self _, own_raise h.f⟩⟩, ⟨by simp only []; omega, .inr ⟨gT, rfl, Nat.le_refl _, Nat.lt_succ_self _, own_raise h.t⟩⟩, h.z, by unfold Dis; simp only []; omega, by unfold Dis; simp only []; omega, by unfold Dis; simp only []; omega, by simp only []; omega, by simp only []; omega, ⟨h.b, h3⟩, Nat.le_refl _⟩
theorem St3.own_hi {W : World} {B gF cF gT cT : Nat} {AZ : Option Addr} {cZ z1 z2 hi : Nat} {F T Z : List Int} (h : St3 W B gF cF gT cT AZ cZ z1 z2 F T Z) (h1 : gF < hi) (h2 : gT < hi) (h3 : z2 ≤ hi) (h4 : hi ≤ W.heap.size) : Own3 W B hi (some ⟨gF, 0, none⟩) cF (some ⟨gT, 0, none⟩) cT AZ cZ F T Z := by
  have k1 := h.f.lt gF rfl
  have k2 := h.t.lt gT rfl
  have n1 := h.ne
  have n2 := h.dF
  have n3 := h.dT
  have n4 := h.b
  exact ⟨(gF, gF + 1), (gT, gT + 1), (z1, z2), ⟨by simp only []; omega, .inr ⟨gF, rfl, Nat.le_refl _, Nat.lt_succ_self _, own_raise h.f⟩⟩, ⟨by simp only []; omega, .inr ⟨gT, rfl, Nat.le_refl _, Nat.lt_succ_self _, own_raise h.t⟩⟩, h.z, by unfold Dis; simp only []; omega, by unfold Dis; simp only []; omega, by unfold Dis; simp only []; omega, by simp only []; omega, by simp only []; omega, ⟨h.b, h3⟩, h4⟩
theorem St3.below {W W' : World} {B gF cF gT cT : Nat} {AZ : Option Addr} {cZ z1 z2 : Nat} {F T Z : List Int} (h : St3 W B gF cF gT cT AZ cZ z1 z2 F T Z) (hb : Below W.heap.size W W') : St3 W' B gF cF gT cT AZ cZ z1 z2 F T Z :=
  ⟨own_below h.f hb, own_below h.t hb, h.z.within (within_of hb) (.inr (Nat.zero_le _)), h.b, h.ne, h.dF, h.dT⟩
theorem St3.within {W W' : World} {B gF cF gT cT : Nat} {AZ : Option Addr} {cZ z1 z2 lo hi : Nat} {F T Z : List Int} (h : St3 W B gF cF gT cT AZ cZ z1 z2 F T Z) (hw : Within lo hi W W') (h1 : gF < lo ∨ hi ≤ gF) (h2 : gT < lo ∨ hi ≤ gT) (h3 : z2 ≤ lo ∨ hi ≤ z1) : St3 W' B gF cF gT cT AZ cZ z1 z2 F T Z :=
  ⟨own_block h.f (hw.block gF (h.f.lt gF rfl).2 h1), own_block h.t (hw.block gT (h.t.lt gT rfl).2 h2), h.z.within hw h3, h.b, h.ne, h.dF, h.dT⟩
theorem intCells_set (zs : List Int) (i : Nat) (x : Int) : (intCells zs).set i (.int .i64 x) = intCells (zs.set i x) := by
  unfold intCells
  rw [← List.map_set]
theorem St3.setF {W : World} {B gF cF gT cT : Nat} {AZ : Option Addr} {cZ z1 z2 : Nat} {F T Z : List Int} (h : St3 W B gF cF gT cT AZ cZ z1 z2 F T Z) (i : Nat) (x : Int) : St3 (W.setCell ⟨gF, i, none⟩ (.int .i64 x)) B gF cF gT cT AZ cZ z1 z2 (F.set i x) T Z := by
  have hw := within_set W gF i (.int .i64 x)
  have h1 := (h.f.stored i (.int .i64 x)).1
  rw [intCells_set] at h1
  exact ⟨by rw [List.length_set]; exact h1, own_block h.t (hw.block gT (h.t.lt gT rfl).2 (by have := h.ne; omega)), h.z.within hw (by have := h.dF; omega), h.b, h.ne, h.dF, h.dT⟩
theorem St3.setT {W : World} {B gF cF gT cT : Nat} {AZ : Option Addr} {cZ z1 z2 : Nat} {F T Z : List Int} (h : St3 W B gF cF gT cT AZ cZ z1 z2 F T Z) (i : Nat) (x : Int) : St3 (W.setCell ⟨gT, i, none⟩ (.int .i64 x)) B gF cF gT cT AZ cZ z1 z2 F (T.set i x) Z := by
  have hw := within_set W gT i (.int .i64 x)
  have h1 := (h.t.stored i (.int .i64 x)).1
  rw [intCells_set] at h1
  exact ⟨own_block h.f (hw.block gF (h.f.lt gF rfl).2 (by have := h.ne; omega)), by rw [List.length_set]; exact h1, h.z.within hw (by have := h.dT; omega), h.b, h.ne, h.dF, h.dT⟩
theorem St3.cellF {W : World} {B gF cF gT cT : Nat} {AZ : Option Addr} {cZ z1 z2 : Nat} {F T Z : List Int} (h : St3 W B gF cF gT cT AZ cZ z1 z2 F T Z) (i : Nat) (hi : i < F.length) : W.cell? ⟨gF, i, none⟩ = some (.int .i64 (F.getD i 0)) ∧ W.frozen? ⟨gF, i, none⟩ = false :=
  ⟨(h.f.cellAt i (by omega)).trans (intCells_get F i hi), h.f.frozenAt i⟩
theorem St3.cellT {W : World} {B gF cF gT cT : Nat} {AZ : Option Addr} {cZ z1 z2 : Nat} {F T Z : List Int} (h : St3 W B gF cF gT cT AZ cZ z1 z2 F T Z) (i : Nat) (hi : i < T.length) : W.cell? ⟨gT, i, none⟩ = some (.int .i64 (T.getD i 0)) ∧ W.frozen? ⟨gT, i, none⟩ = false :=
  ⟨(h.t.cellAt i (by omega)).trans (intCells_get T i hi), h.t.frozenAt i⟩
end Go.Proofs.Ytgmcibcjplncaaa
/- A state of the call's own, each row in a range of its own; what may be written is named. No program's walk. No condition. -/
namespace Go.Proofs.Ytgmcibcjplncaaa
open Go.RowKit

/-- The blocks of two ranges may be written; nothing else was. -/
structure Within2 (f t : Nat × Nat) (w w' : World) : Prop where
  os : w'.os = w.os
  tape : w'.tape = w.tape
  output : w'.output = w.output
  size : w.heap.size ≤ w'.heap.size
  block : ∀ k, k < w.heap.size → (k < f.1 ∨ f.2 ≤ k) → (k < t.1 ∨ t.2 ≤ k) → w'.heap[k]? = w.heap[k]?
theorem Within2.refl (f t : Nat × Nat) (w : World) : Within2 f t w w := ⟨rfl, rfl, rfl, Nat.le_refl _, fun _ _ _ _ => rfl⟩
theorem Within2.trans {f t : Nat × Nat} {a b c : World} (h : Within2 f t a b) (k : Within2 f t b c) : Within2 f t a c :=
  ⟨k.os.trans h.os, k.tape.trans h.tape, k.output.trans h.output, Nat.le_trans h.size k.size, fun i hi' h1 h2 => (k.block i (Nat.lt_of_lt_of_le hi' h.size) h1 h2).trans (h.block i hi' h1 h2)⟩
theorem Within2.of {f t : Nat × Nat} {lo hi : Nat} {a b : World} (h : Within lo hi a b) (hd : hi ≤ lo ∨ (f.1 ≤ lo ∧ hi ≤ f.2) ∨ (t.1 ≤ lo ∧ hi ≤ t.2)) : Within2 f t a b :=
  ⟨h.os, h.tape, h.output, h.size, fun i hi' h1 h2 => h.block i hi' (by omega)⟩
/-- What lies under a bound that no range reaches stands. -/
theorem Within2.one {f t : Nat × Nat} {a b : World} (h : Within2 f t a b) (k : Nat) (h1 : k < f.1 ∨ f.2 ≤ k) (h2 : k < t.1 ∨ t.2 ≤ k) : a.heap.size ≤ k ∨ b.heap[k]? = a.heap[k]? := by
  by_cases hk : k < a.heap.size
  · exact .inr (h.block k hk h1 h2)
  · exact .inl (by omega)
theorem OwnR.at {W W' : World} {lo hi : Nat} {A : Option Addr} {cap : Nat} {zs : List Int} (h : OwnR W lo hi A cap zs) {f t : Nat × Nat} (hw : Within2 f t W W') (h1 : hi ≤ f.1 ∨ f.2 ≤ lo) (h2 : hi ≤ t.1 ∨ t.2 ≤ lo) : OwnR W' lo hi A cap zs :=
  ⟨Nat.le_trans h.1 hw.size, by
    rcases h.2 with e | ⟨g, e, g1, g2, ho⟩
    · exact .inl e
    · exact .inr ⟨g, e, g1, g2, own_block ho (hw.block g (Nat.lt_of_lt_of_le g2 h.1) (by omega) (by omega))⟩⟩
theorem IntsIn.at {W W' : World} {lo hi : Nat} {A : Option Addr} {zs : List Int} (h : IntsIn W lo hi A zs) {f t : Nat × Nat} (hw : Within2 f t W W') (h1 : hi ≤ f.1 ∨ f.2 ≤ lo) (h2 : hi ≤ t.1 ∨ t.2 ≤ lo) : IntsIn W' lo hi A zs :=
  ⟨Nat.le_trans h.1 hw.size, fun hl => by
    obtain ⟨b, off, e, b1, b2, hc⟩ := h.2 hl
    exact ⟨b, off, e, b1, b2, fun k hk => (World.cell?_of_block (a := ⟨b, off + k, none⟩) (hw.block b (Nat.lt_of_lt_of_le b2 h.1) (by omega) (by omega))).trans (hc k hk)⟩⟩
theorem Cel3.at {W W' : World} {b : Nat} {T : TypeId} {v0 v1 v2 : Value} (h : Cel3 W b T v0 v1 v2) {f t : Nat × Nat} (hw : Within2 f t W W') (h1 : b < f.1 ∨ f.2 ≤ b) (h2 : b < t.1 ∨ t.2 ≤ b) : Cel3 W' b T v0 v1 v2 := (hw.block b h.lt h1 h2).trans h
/-- A state of the call's own: each row in its range. -/
def OwnF (W : World) (f t z : Nat × Nat) (AF : Option Addr) (cF : Nat) (AT : Option Addr) (cT : Nat) (AZ : Option Addr) (cZ : Nat) (F T Z : List Int) : Prop :=
  OwnR W f.1 f.2 AF cF F ∧ OwnR W t.1 t.2 AT cT T ∧ OwnR W z.1 z.2 AZ cZ Z ∧ Dis f t ∧ Dis f z ∧ Dis t z
theorem Own3R.ownF {W : World} {lo hi : Nat} {AF AT AZ : Option Addr} {cF cT cZ : Nat} {F T Z : List Int} (h : Own3R W lo hi AF cF AT cT AZ cZ F T Z) : ∃ f t z : Nat × Nat, OwnF W f t z AF cF AT cT AZ cZ F T Z ∧ (lo ≤ f.1 ∧ f.2 ≤ hi) ∧ (lo ≤ t.1 ∧ t.2 ≤ hi) ∧ (lo ≤ z.1 ∧ z.2 ≤ hi) := by
  obtain ⟨f, t, z, h1, h2, h3, d1, d2, d3, b1, b2, b3, _⟩ := h
  exact ⟨f, t, z, ⟨h1, h2, h3, d1, d2, d3⟩, b1, b2, b3⟩
theorem OwnF.hi {W : World} {f t z : Nat × Nat} {AF AT AZ : Option Addr} {cF cT cZ : Nat} {F T Z : List Int} (h : OwnF W f t z AF cF AT cT AZ cZ F T Z) : f.2 ≤ W.heap.size ∧ t.2 ≤ W.heap.size ∧ z.2 ≤ W.heap.size := ⟨h.1.1, h.2.1.1, h.2.2.1.1⟩
theorem OwnF.within {W W' : World} {f t z : Nat × Nat} {AF AT AZ : Option Addr} {cF cT cZ : Nat} {F T Z : List Int} (h : OwnF W f t z AF cF AT cT AZ cZ F T Z) {lo' hi' : Nat} (hw : Within lo' hi' W W') (h1 : f.2 ≤ lo' ∨ hi' ≤ f.1) (h2 : t.2 ≤ lo' ∨ hi' ≤ t.1) (h3 : z.2 ≤ lo' ∨ hi' ≤ z.1) : OwnF W' f t z AF cF AT cT AZ cZ F T Z :=
  ⟨h.1.within hw h1, h.2.1.within hw h2, h.2.2.1.within hw h3, h.2.2.2⟩
theorem OwnF.below {W W' : World} {f t z : Nat × Nat} {AF AT AZ : Option Addr} {cF cT cZ : Nat} {F T Z : List Int} (h : OwnF W f t z AF cF AT cT AZ cZ F T Z) (hb : Below W.heap.size W W') : OwnF W' f t z AF cF AT cT AZ cZ F T Z :=
  h.within (within_of hb) (.inr (Nat.zero_le _)) (.inr (Nat.zero_le _)) (.inr (Nat.zero_le _))
theorem OwnF.reads {W : World} {f t z : Nat × Nat} {AF AT AZ : Option Addr} {cF cT cZ : Nat} {F T Z : List Int} (h : OwnF W f t z AF cF AT cT AZ cZ F T Z) : Peb3 W 0 W.heap.size AF AT AZ F T Z :=
  ⟨h.1.ints.reads.widen (Nat.zero_le _) h.1.1 (Nat.le_refl _), h.2.1.ints.reads.widen (Nat.zero_le _) h.2.1.1 (Nat.le_refl _), h.2.2.1.ints.reads.widen (Nat.zero_le _) h.2.2.1.1 (Nat.le_refl _)⟩
theorem own_rebase {W : World} {a b g cap n : Nat} {e : TypeId} {size : Nat} {xs : List Value} (h : W.ownsRow a e size (.slice (some ⟨g, 0, none⟩) n cap) n xs) (hb : b ≤ g) : W.ownsRow b e size (.slice (some ⟨g, 0, none⟩) n cap) n xs := by
  refine ⟨h.1, ?_⟩
  rcases h.2 with ⟨e0, _⟩ | ⟨g', c', cur, e1, _, r⟩
  · cases e0
  · cases e1
    exact .inr ⟨g, cap, cur, rfl, hb, r⟩
theorem OwnR.open_ {W : World} {lo hi : Nat} {A : Option Addr} {cap : Nat} {zs : List Int} (h : OwnR W lo hi A cap zs) (hz : 0 < zs.length) : ∃ g, A = some ⟨g, 0, none⟩ ∧ lo ≤ g ∧ g < hi ∧ W.ownsRow 0 3 1 (.slice (some ⟨g, 0, none⟩) zs.length cap) zs.length (intCells zs) := by
  rcases h.2 with ⟨_, _, e⟩ | ⟨g, e, h1, h2, ho⟩
  · rw [e] at hz; exact absurd hz (by simp)
  · exact ⟨g, e, h1, h2, own_rebase ho (Nat.zero_le _)⟩
theorem OwnF.fst {W : World} {f t z : Nat × Nat} {AF AT AZ : Option Addr} {cF cT cZ : Nat} {F T Z : List Int} (h : OwnF W f t z AF cF AT cT AZ cZ F T Z) (hF : 0 < F.length) : ∃ gF, AF = some ⟨gF, 0, none⟩ ∧ f.1 ≤ gF ∧ gF < f.2 := by
  obtain ⟨g, e, h1, h2, _⟩ := h.1.open_ hF
  exact ⟨g, e, h1, h2⟩
theorem OwnF.open_ {W : World} {f t z : Nat × Nat} {AF AT AZ : Option Addr} {cF cT cZ : Nat} {F T Z : List Int} (h : OwnF W f t z AF cF AT cT AZ cZ F T Z) (hF : 0 < F.length) (hT : 0 < T.length) :
    ∃ gF gT, AF = some ⟨gF, 0, none⟩ ∧ AT = some ⟨gT, 0, none⟩ ∧ (f.1 ≤ gF ∧ gF < f.2) ∧ (t.1 ≤ gT ∧ gT < t.2) ∧ St3 W 0 gF cF gT cT AZ cZ z.1 z.2 F T Z := by
  obtain ⟨o1, o2, o3, d1, d2, d3⟩ := h
  obtain ⟨gF, rfl, f1, f2, hf⟩ := o1.open_ hF
  obtain ⟨gT, rfl, t1, t2, ht⟩ := o2.open_ hT
  unfold Dis at d1 d2 d3
  exact ⟨gF, gT, rfl, rfl, ⟨f1, f2⟩, ⟨t1, t2⟩, ⟨hf, ht, o3.ints, Nat.zero_le _, by omega, by omega, by omega⟩⟩
/-- The opened state, closed again; the third row stood. -/
theorem St3.ownF {W : World} {f t z : Nat × Nat} {gF cF gT cT : Nat} {AZ : Option Addr} {cZ z1 z2 : Nat} {F T Z : List Int} (h : St3 W 0 gF cF gT cT AZ cZ z1 z2 F T Z) (hf : f.1 ≤ gF ∧ gF < f.2) (ht : t.1 ≤ gT ∧ gT < t.2) (s1 : f.2 ≤ W.heap.size) (s2 : t.2 ≤ W.heap.size) (hz : OwnR W z.1 z.2 AZ cZ Z) (d1 : Dis f t) (d2 : Dis f z) (d3 : Dis t z) : OwnF W f t z (some ⟨gF, 0, none⟩) cF (some ⟨gT, 0, none⟩) cT AZ cZ F T Z :=
  ⟨⟨s1, .inr ⟨gF, rfl, hf.1, hf.2, own_rebase h.f hf.1⟩⟩, ⟨s2, .inr ⟨gT, rfl, ht.1, ht.2, own_rebase h.t ht.1⟩⟩, hz, d1, d2, d3⟩
theorem below_at {B : Nat} {f t : Nat × Nat} {a b c : World} (h : Below B a b) (k : Within2 f t b c) (hB : B ≤ b.heap.size) (h1 : B ≤ f.1) (h2 : B ≤ t.1) : Below B a c :=
  ⟨k.os.trans h.os, k.tape.trans h.tape, k.output.trans h.output, Nat.le_trans h.size k.size, fun i hi' => (k.block i (by omega) (by omega) (by omega)).trans (h.block i hi')⟩
theorem OwnF.own3 {W : World} {f t z : Nat × Nat} {AF AT AZ : Option Addr} {cF cT cZ : Nat} {F T Z : List Int} (h : OwnF W f t z AF cF AT cT AZ cZ F T Z) {lo hi : Nat} (h1 : lo ≤ f.1 ∧ f.2 ≤ hi) (h2 : lo ≤ t.1 ∧ t.2 ≤ hi) (h3 : lo ≤ z.1 ∧ z.2 ≤ hi) (h4 : hi ≤ W.heap.size) : Own3 W lo hi AF cF AT cT AZ cZ F T Z :=
  ⟨f, t, z, h.1.ints, h.2.1.ints, h.2.2.1.ints, h.2.2.2.1, h.2.2.2.2.1, h.2.2.2.2.2, h1, h2, h3, h4⟩
end Go.Proofs.Ytgmcibcjplncaaa
/- A state that is copied row by row in whatever order: what stands on the way. No program's walk. No condition. -/
namespace Go.Proofs.Ytgmcibcjplncaaa
open Go.RowKit

theorem as_fun {R : Nat → Array Bool → Act → World → Prop} {n : Nat} {l : Array Bool} {a : Act} {w : World} (h : ∀ R' : Nat → Array Bool → Act → World → Prop, R' = R → R' n l a w) : R n l a w := h R rfl
theorem as_of {R R' : Nat → Array Bool → Act → World → Prop} (h : R = R') {n : Nat} {l : Array Bool} {a : Act} {w : World} (x : R n l a w) : R' n l a w := h ▸ x
theorem OwnInts.r {W : World} {lo hi : Nat} {A : Option Addr} {cap : Nat} {zs : List Int} (h : OwnInts W lo hi A cap zs) (hz : zs ≠ []) : OwnR W lo hi A cap zs :=
  ⟨h.1, .inr (h.2.resolve_left hz)⟩
theorem ownR_nil (W : World) (lo hi : Nat) (h : hi ≤ W.heap.size) : OwnR W lo hi none 0 [] := ⟨h, .inl ⟨rfl, rfl, rfl⟩⟩
theorem ownR_empty (W : World) : OwnR (W.alloc (.cells #[] 3)) W.heap.size (W.heap.size + 1) (some ⟨W.heap.size, 0, none⟩) 0 [] := by
  have hm := World.ownsRow_made (base := W.heap.size) (e := 3) (size := 1) W #[] 0 (Nat.le_refl _) (by unfold maxLen; omega) (by simp)
  refine ⟨by simp, .inr ⟨W.heap.size, rfl, Nat.le_refl _, Nat.lt_succ_self _, ?_⟩⟩
  simpa [intCells] using hm
/-- Three rows, each in its range from B on. -/
structure CpR (W : World) (B : Nat) (f t z : Nat × Nat) (AF : Option Addr) (cF : Nat) (AT : Option Addr) (cT : Nat) (AZ : Option Addr) (cZ : Nat) (F T Z : List Int) : Prop where
  own : OwnF W f t z AF cF AT cT AZ cZ F T Z
  lf : B ≤ f.1
  lt : B ≤ t.1
  lz : B ≤ z.1
  b : B ≤ W.heap.size
theorem CpR.nil (W : World) (B : Nat) (h : B ≤ W.heap.size) : CpR W B (B, B) (B, B) (B, B) none 0 none 0 none 0 [] [] [] :=
  ⟨⟨ownR_nil W B B h, ownR_nil W B B h, ownR_nil W B B h, .inl (Nat.le_refl _), .inl (Nat.le_refl _), .inl (Nat.le_refl _)⟩, Nat.le_refl _, Nat.le_refl _, Nat.le_refl _, h⟩
theorem CpR.newF {W W' : World} {B : Nat} {f t z f' : Nat × Nat} {AF AT AZ AF' : Option Addr} {cF cT cZ cF' : Nat} {F T Z F' : List Int} (h : CpR W B f t z AF cF AT cT AZ cZ F T Z) (hb : Below W.heap.size W W') (hn : OwnR W' f'.1 f'.2 AF' cF' F') (hl : f' = f ∨ W.heap.size ≤ f'.1) : CpR W' B f' t z AF' cF' AT cT AZ cZ F' T Z := by
  obtain ⟨⟨o1, o2, o3, d1, d2, d3⟩, lf, lt, lz, b⟩ := h
  have q2 := o2.within (within_of hb) (.inr (Nat.zero_le _))
  have q3 := o3.within (within_of hb) (.inr (Nat.zero_le _))
  have s2 := o2.1
  have s3 := o3.1
  have hs := hb.size
  rcases hl with rfl | hl
  · exact ⟨⟨hn, q2, q3, d1, d2, d3⟩, lf, lt, lz, by omega⟩
  · exact ⟨⟨hn, q2, q3, .inr (by omega), .inr (by omega), d3⟩, by omega, lt, lz, by omega⟩
theorem CpR.newT {W W' : World} {B : Nat} {f t z t' : Nat × Nat} {AF AT AZ AT' : Option Addr} {cF cT cZ cT' : Nat} {F T Z T' : List Int} (h : CpR W B f t z AF cF AT cT AZ cZ F T Z) (hb : Below W.heap.size W W') (hn : OwnR W' t'.1 t'.2 AT' cT' T') (hl : t' = t ∨ W.heap.size ≤ t'.1) : CpR W' B f t' z AF cF AT' cT' AZ cZ F T' Z := by
  obtain ⟨⟨o1, o2, o3, d1, d2, d3⟩, lf, lt, lz, b⟩ := h
  have q1 := o1.within (within_of hb) (.inr (Nat.zero_le _))
  have q3 := o3.within (within_of hb) (.inr (Nat.zero_le _))
  have s1 := o1.1
  have s3 := o3.1
  have hs := hb.size
  rcases hl with rfl | hl
  · exact ⟨⟨q1, hn, q3, d1, d2, d3⟩, lf, lt, lz, by omega⟩
  · exact ⟨⟨q1, hn, q3, .inl (by omega), d2, .inr (by omega)⟩, lf, by omega, lz, by omega⟩
theorem CpR.newZ {W W' : World} {B : Nat} {f t z z' : Nat × Nat} {AF AT AZ AZ' : Option Addr} {cF cT cZ cZ' : Nat} {F T Z Z' : List Int} (h : CpR W B f t z AF cF AT cT AZ cZ F T Z) (hb : Below W.heap.size W W') (hn : OwnR W' z'.1 z'.2 AZ' cZ' Z') (hl : z' = z ∨ W.heap.size ≤ z'.1) : CpR W' B f t z' AF cF AT cT AZ' cZ' F T Z' := by
  obtain ⟨⟨o1, o2, o3, d1, d2, d3⟩, lf, lt, lz, b⟩ := h
  have q1 := o1.within (within_of hb) (.inr (Nat.zero_le _))
  have q2 := o2.within (within_of hb) (.inr (Nat.zero_le _))
  have s1 := o1.1
  have s2 := o2.1
  have hs := hb.size
  rcases hl with rfl | hl
  · exact ⟨⟨q1, q2, hn, d1, d2, d3⟩, lf, lt, lz, by omega⟩
  · exact ⟨⟨q1, q2, hn, d1, .inl (by omega), .inl (by omega)⟩, lf, lt, by omega, by omega⟩
theorem OwnF.own3R {W : World} {f t z : Nat × Nat} {AF AT AZ : Option Addr} {cF cT cZ : Nat} {F T Z : List Int} (h : OwnF W f t z AF cF AT cT AZ cZ F T Z) {lo hi : Nat} (h1 : lo ≤ f.1 ∧ f.2 ≤ hi) (h2 : lo ≤ t.1 ∧ t.2 ≤ hi) (h3 : lo ≤ z.1 ∧ z.2 ≤ hi) (h4 : hi ≤ W.heap.size) : Own3R W lo hi AF cF AT cT AZ cZ F T Z :=
  ⟨f, t, z, h.1, h.2.1, h.2.2.1, h.2.2.2.1, h.2.2.2.2.1, h.2.2.2.2.2, h1, h2, h3, h4⟩
/-- An append of a row onto an empty row of the call's own. -/
theorem run_copyR (w : World) (ty : TypeId) (g l h : Nat) (A : Option Addr) (zs : List Int) (cap lo hi : Nat) (hg : OwnR w l h (some ⟨g, 0, none⟩) 0 []) (hz : IntsIn w lo hi A zs) (hn : zs.length ≤ 1048576) :
    ∃ A' c' w', ∃ r : Nat × Nat, (Builtin.append_ #[25, 25] ty #[.slice (some ⟨g, 0, none⟩) 0 0, .slice A zs.length cap]).run Try.prog w = .ok (.slice A' zs.length c') w' ∧ OwnR w' r.1 r.2 A' c' zs ∧ (r = (l, h) ∨ w.heap.size ≤ r.1) ∧ Below w.heap.size w w' := by
  by_cases e : zs = []
  · subst e
    obtain ⟨i0, hi0, hz0, hz1, hz2⟩ := info_parts infoInt
    refine ⟨some ⟨g, 0, none⟩, 0, w, (l, h), ?_, hg, .inl rfl, Below.refl _ _⟩
    cases A <;> simp [Builtin.append_, run_underlying Try.underlying25, sizeOf, typeInfo, hi0, Builtin.lenOf, Builtin.firstCells, loadCells, loadCellsFrom, storeCells]
  · obtain ⟨A', c', w', h1, h2, h3⟩ := run_copyI w ty g A zs cap lo hi hz hn
    exact ⟨A', c', w', (w.heap.size, w'.heap.size), h1, h2.r e, .inr (Nat.le_refl _), h3⟩
theorem step_copyR {w : World} {ops : Array Oper} {o : Oper} {a : Act} {K : Act → World → Prop} {Q : Exit → Act → World → Prop} {E : Prop} (hgd : o.guard = none) (s x : Operand) (ho : o.op = .call { callee := .builtin .append, args := #[s, x], argTypes := #[25, 25] })
    (g l h : Nat) (A : Option Addr) (zs : List Int) (cap lo hi : Nat) (hs : a.eval s = .slice (some ⟨g, 0, none⟩) 0 0) (hx : a.eval x = .slice A zs.length cap) (hg : OwnR w l h (some ⟨g, 0, none⟩) 0 []) (hz : IntsIn w lo hi A zs) (hn : zs.length ≤ 1048576)
    (hK : ∀ A' c' w' (r : Nat × Nat), OwnR w' r.1 r.2 A' c' zs → (r = (l, h) ∨ w.heap.size ≤ r.1) → Below w.heap.size w w' → K (a.put o.dst (.slice A' zs.length c')) w') : if Region.wanted o (yielded ops a.tmps) = true then Oper.wp Try.prog o a w K Q else E := by
  have hw : Region.wanted o (yielded ops a.tmps) = true := by simp [Region.wanted, hgd]
  rw [if_pos hw]
  obtain ⟨A', c', w', r, hr, h2, h3, h4⟩ := run_copyR w o.type g l h A zs cap lo hi hg hz hn
  unfold Oper.wp execOp
  simp only [ho, resolve, invoke, builtin, Sem.run_bind, Sem.run_pure, Result.andThen_ok, List.map_toArray, List.map_cons, List.map_nil, hs, hx, hr]
  exact hK A' c' w' r h2 h3 h4
end Go.Proofs.Ytgmcibcjplncaaa
