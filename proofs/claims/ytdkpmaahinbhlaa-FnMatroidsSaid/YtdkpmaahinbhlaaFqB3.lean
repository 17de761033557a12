/- Several texts in one, in the order in which they build on each other: what stands on the way to the law; each names its own matter. No condition. -/
import Derived.Test.YtdkpmaahinbhlaaFqB1
import Derived.Test.YtdkpmaahinbhlaaFqB2
/- What spec.NewPebbles answers. No condition. -/
namespace Go.Proofs.Ytdkpmaahinbhlaa
open Go.RowKit

/-- An own row of no elements that is kept over steps of the world: what it is, and where. -/
structure Own0 (W : World) (base g : Nat) : Prop where
  row : W.ownsRow base 3 1 (.slice (some ⟨g, 0, none⟩) 0 0) 0 []
theorem Own0.within {W W' : World} {base g lo hi : Nat} (h : Own0 W base g) (hw : Within lo hi W W') (hd : g < lo ∨ hi ≤ g) : Own0 W' base g := by
  rcases h.row.2 with ⟨e, _⟩ | ⟨g', cap, cur, e, _, hh, _⟩
  · cases e
  · cases e
    exact ⟨own_block h.row (hw.block g (Array.getElem?_eq_some_iff.1 hh).1 hd)⟩
theorem Cel3.grown {W W' : World} {b : Nat} {T : TypeId} {v0 v1 v2 : Value} {g : Option Nat} (h : Cel3 W b T v0 v1 v2) (hg : W.grownBy W' g) (hne : some b ≠ g) : Cel3 W' b T v0 v1 v2 := (hg.block b h.lt (fun e => hne e)).trans h
/-- A state under the making: its free pebbles up to j. -/
structure NewS (w wr : World) (p k : Int) (gv : Value) (j : Nat) (v u1 u2 : Value) : Prop where
  row : wr.ownsRow w.heap.size 3 1 v j (intCells (List.replicate j k))
  at_ : ∀ a, v.ownBlock = some a → w.heap.size + 1 < a ∧ a ≠ w.heap.size + 1 + 1 + 1 + 1 + 1
  st : Cel3 wr (w.heap.size + 1 + 1 + 1 + 1 + 1) 31 v u1 u2
  ret : Cel3 wr (w.heap.size + 1) 31 (.slice none 0 0) (.slice none 0 0) (.slice none 0 0)
  box : Box wr w.heap.size p gv
  bel : Below w.heap.size w wr
theorem NewS.alloc {w wr : World} {p k : Int} {gv : Value} {j : Nat} {v u1 u2 : Value} (h : NewS w wr p k gv j v u1 u2) (o : Obj) : NewS w (wr.alloc o) p k gv j v u1 u2 :=
  ⟨h.row.alloc _, h.at_, h.st.kept (new_below wr o), h.ret.kept (new_below wr o), h.box.kept (new_below wr o), below_on h.bel (new_below wr o) h.bel.size⟩
theorem NewS.push {w wr w' : World} {p k : Int} {gv : Value} {j : Nat} {v v' u1 u2 : Value} (h : NewS w wr p k gv j v u1 u2) (ho : w'.ownsRow w.heap.size 3 1 v' (j + 1) (intCells (List.replicate j k) ++ [.int .i64 k])) (hg : wr.grownBy w' v.ownBlock)
    (hat : v'.ownBlock = v.ownBlock ∨ v'.ownBlock = some (wr.heap.size + 1)) : Cel3 w' (w.heap.size + 1 + 1 + 1 + 1 + 1) 31 v u1 u2 ∧ NewS w (w'.setCell ⟨w.heap.size + 1 + 1 + 1 + 1 + 1, 0, none⟩ v') p k gv (j + 1) v' u1 u2 := by
  obtain ⟨h1, h2, h3, h4, h5, h6⟩ := h
  have n5 : some (w.heap.size + 1 + 1 + 1 + 1 + 1) ≠ v.ownBlock := fun e => (h2 _ e.symm).2 rfl
  have c5 := h3.grown hg n5
  have l5 := h3.lt
  have hat' : ∀ a, v'.ownBlock = some a → w.heap.size + 1 < a ∧ a ≠ w.heap.size + 1 + 1 + 1 + 1 + 1 := fun a e => by
    rcases hat with hat | hat
    · exact h2 a (hat ▸ e)
    · rw [hat] at e
      cases e
      omega
  have hs := within_set w' (w.heap.size + 1 + 1 + 1 + 1 + 1) 0 v'
  refine ⟨c5, ?_, hat', c5.set0 v', ?_, ?_, ?_⟩
  · have hr : intCells (List.replicate (j + 1) k) = intCells (List.replicate j k) ++ [.int .i64 k] := by simp [intCells, List.replicate_succ']
    rw [hr]
    rcases ho.2 with ⟨e, e0⟩ | ⟨g, cap', cur, e, _, hh, _⟩
    · omega
    · subst e
      exact own_block ho (hs.block g (Array.getElem?_eq_some_iff.1 hh).1 (by have := (hat' g rfl).2; omega))
  · exact (h4.grown hg fun e => by have := (h2 _ e.symm).1; omega).within hs (by omega)
  · have hb := h5.1
    refine Box.within (W := w') ⟨Nat.lt_of_lt_of_le hb hg.size, ?_, ?_⟩ hs (by omega)
    · exact (World.cell?_of_block (hg.block w.heap.size hb fun e => by have := (h2 _ e.symm).1; omega)).trans h5.2.1
    · exact (World.cell?_of_block (a := ⟨w.heap.size, 1, none⟩) (hg.block w.heap.size hb fun e => by have := (h2 _ e.symm).1; omega)).trans h5.2.2
  · exact (h6.grown hg (Nat.le_trans h6.size (Nat.le_refl _)) fun g hgg => (h1.lt g hgg).1).setCell (p := ⟨w.heap.size + 1 + 1 + 1 + 1 + 1, 0, none⟩) (by simp only []; omega) _
theorem NewS.row2 {w wr : World} {p k : Int} {gv : Value} {j : Nat} {A : Option Addr} {c : Nat} {u1 u2 : Value} (h : NewS w wr p k gv j (.slice A j c) u1 u2) : OwnInts wr (w.heap.size + 1 + 1) wr.heap.size A c (List.replicate j k) := by
  refine ⟨Nat.le_refl _, ?_⟩
  rcases h.row.2 with ⟨_, e⟩ | ⟨g, cap, cur, e, h1, hh, h3⟩
  · subst e
    exact .inl rfl
  · cases e
    have := (h.at_ g rfl).1
    exact .inr ⟨g, rfl, by omega, (Array.getElem?_eq_some_iff.1 hh).1, by rw [List.length_replicate]; exact ⟨h.row.1, .inr ⟨g, c, cur, rfl, by omega, hh, h3⟩⟩⟩

set_option maxHeartbeats 4000000 in
set_option maxRecDepth 100000 in
theorem specNewP (p k : Int) (l : List (Int × Int)) (A : Option Addr) (cap : Nat) (w : World) (hl : BarsAt w w.heap.size A l) (hn : l.length ≤ 1048576) :
    Calls Try.prog 37 #[.agg #[.int .i64 p, .slice A l.length cap], .int .i64 k] w (PebOB w (newF p k l) [] [] (newB p k l)) := by
  have HISG : ∀ W : World, BarsAt W W.heap.size A l → Calls Try.prog 118 #[.agg #[.int .i64 p, .slice A l.length cap]] W fun e w' => e = .returned (.bool (isGB p l)) ∧ Below W.heap.size W w' := fun W h => specIsGraph' p l A cap W h hn
  by_cases hbad : isGB p l = false ∨ k < 1 ∨ 3 < k
  · have HR := Lib.hid (new_no hbad)
    rcases hg : isGB p l with _ | _
    · skip
      rw [hg] at HISG
      clear hbad
      have W0 := Lib.hid (Below.refl w.heap.size w)
      have HB_0 := Lib.hid (bars_in hl)
      clear hl
      have Z1 := Lib.hid (within_alloc w (.cells #[.int .i64 p, (.slice A l.length cap)] 26)).size
      have W1 := Lib.hid (within_on W0.out (within_alloc w (.cells #[.int .i64 p, (.slice A l.length cap)] 26)) W0.out.size (.inr (Nat.le_refl _)))
      have HB_1 := Lib.hid (HB_0.out.within (within_alloc w (.cells #[.int .i64 p, (.slice A l.length cap)] 26)) (by omega))
      have Y1 := Lib.hid (show (w.alloc (.cells #[.int .i64 p, (.slice A l.length cap)] 26)).heap.size = w.heap.size + 1 by simp)
      have hnew := box_new w p (.slice A l.length cap) 26
      have BX_1 := Lib.hid hnew
      clear hnew
      have Z2 := Lib.hid (within_alloc (w.alloc (.cells #[.int .i64 p, (.slice A l.length cap)] 26)) (.cells #[(.slice none 0 0), (.slice none 0 0), (.slice none 0 0)] 31)).size
      have W2 := Lib.hid (within_on W1.out (within_alloc (w.alloc (.cells #[.int .i64 p, (.slice A l.length cap)] 26)) (.cells #[(.slice none 0 0), (.slice none 0 0), (.slice none 0 0)] 31)) W1.out.size (.inr (Nat.le_refl _)))
      have HB_2 := Lib.hid (HB_1.out.within (within_alloc (w.alloc (.cells #[.int .i64 p, (.slice A l.length cap)] 26)) (.cells #[(.slice none 0 0), (.slice none 0 0), (.slice none 0 0)] 31)) (by omega))
      have BX_2 := Lib.hid (BX_1.out.within (within_alloc (w.alloc (.cells #[.int .i64 p, (.slice A l.length cap)] 26)) (.cells #[(.slice none 0 0), (.slice none 0 0), (.slice none 0 0)] 31)) (by omega))
      have Y2 := Lib.hid (show ((w.alloc (.cells #[.int .i64 p, (.slice A l.length cap)] 26)).alloc (.cells #[(.slice none 0 0), (.slice none 0 0), (.slice none 0 0)] 31)).heap.size = (w.alloc (.cells #[.int .i64 p, (.slice A l.length cap)] 26)).heap.size + 1 by simp)
      have hnew := cel3_new (w.alloc (.cells #[.int .i64 p, (.slice A l.length cap)] 26)) (.slice none 0 0) (.slice none 0 0) (.slice none 0 0) 31
      rw [show (w.alloc (.cells #[.int .i64 p, (.slice A l.length cap)] 26)).heap.size = w.heap.size + 1 by simp] at hnew
      have GR_2 := Lib.hid hnew
      clear hnew
      have Z3 := Lib.hid (within_alloc ((w.alloc (.cells #[.int .i64 p, (.slice A l.length cap)] 26)).alloc (.cells #[(.slice none 0 0), (.slice none 0 0), (.slice none 0 0)] 31)) (.cells #[] 3)).size
      have W3 := Lib.hid (within_on W2.out (within_alloc ((w.alloc (.cells #[.int .i64 p, (.slice A l.length cap)] 26)).alloc (.cells #[(.slice none 0 0), (.slice none 0 0), (.slice none 0 0)] 31)) (.cells #[] 3)) W2.out.size (.inr (Nat.le_refl _)))
      have HB_3 := Lib.hid (HB_2.out.within (within_alloc ((w.alloc (.cells #[.int .i64 p, (.slice A l.length cap)] 26)).alloc (.cells #[(.slice none 0 0), (.slice none 0 0), (.slice none 0 0)] 31)) (.cells #[] 3)) (by omega))
      have BX_3 := Lib.hid (BX_2.out.within (within_alloc ((w.alloc (.cells #[.int .i64 p, (.slice A l.length cap)] 26)).alloc (.cells #[(.slice none 0 0), (.slice none 0 0), (.slice none 0 0)] 31)) (.cells #[] 3)) (by omega))
      have GR_3 := Lib.hid (GR_2.out.within (within_alloc ((w.alloc (.cells #[.int .i64 p, (.slice A l.length cap)] 26)).alloc (.cells #[(.slice none 0 0), (.slice none 0 0), (.slice none 0 0)] 31)) (.cells #[] 3)) (by omega))
      have Y3 := Lib.hid (show (((w.alloc (.cells #[.int .i64 p, (.slice A l.length cap)] 26)).alloc (.cells #[(.slice none 0 0), (.slice none 0 0), (.slice none 0 0)] 31)).alloc (.cells #[] 3)).heap.size = ((w.alloc (.cells #[.int .i64 p, (.slice A l.length cap)] 26)).alloc (.cells #[(.slice none 0 0), (.slice none 0 0), (.slice none 0 0)] 31)).heap.size + 1 by simp)
      have Z4 := Lib.hid (within_alloc (((w.alloc (.cells #[.int .i64 p, (.slice A l.length cap)] 26)).alloc (.cells #[(.slice none 0 0), (.slice none 0 0), (.slice none 0 0)] 31)).alloc (.cells #[] 3)) (.cells #[] 3)).size
      have W4 := Lib.hid (within_on W3.out (within_alloc (((w.alloc (.cells #[.int .i64 p, (.slice A l.length cap)] 26)).alloc (.cells #[(.slice none 0 0), (.slice none 0 0), (.slice none 0 0)] 31)).alloc (.cells #[] 3)) (.cells #[] 3)) W3.out.size (.inr (Nat.le_refl _)))
      have HB_4 := Lib.hid (HB_3.out.within (within_alloc (((w.alloc (.cells #[.int .i64 p, (.slice A l.length cap)] 26)).alloc (.cells #[(.slice none 0 0), (.slice none 0 0), (.slice none 0 0)] 31)).alloc (.cells #[] 3)) (.cells #[] 3)) (by omega))
      have BX_4 := Lib.hid (BX_3.out.within (within_alloc (((w.alloc (.cells #[.int .i64 p, (.slice A l.length cap)] 26)).alloc (.cells #[(.slice none 0 0), (.slice none 0 0), (.slice none 0 0)] 31)).alloc (.cells #[] 3)) (.cells #[] 3)) (by omega))
      have GR_4 := Lib.hid (GR_3.out.within (within_alloc (((w.alloc (.cells #[.int .i64 p, (.slice A l.length cap)] 26)).alloc (.cells #[(.slice none 0 0), (.slice none 0 0), (.slice none 0 0)] 31)).alloc (.cells #[] 3)) (.cells #[] 3)) (by omega))
      have Y4 := Lib.hid (show ((((w.alloc (.cells #[.int .i64 p, (.slice A l.length cap)] 26)).alloc (.cells #[(.slice none 0 0), (.slice none 0 0), (.slice none 0 0)] 31)).alloc (.cells #[] 3)).alloc (.cells #[] 3)).heap.size = (((w.alloc (.cells #[.int .i64 p, (.slice A l.length cap)] 26)).alloc (.cells #[(.slice none 0 0), (.slice none 0 0), (.slice none 0 0)] 31)).alloc (.cells #[] 3)).heap.size + 1 by simp)
      have Z5 := Lib.hid (within_alloc ((((w.alloc (.cells #[.int .i64 p, (.slice A l.length cap)] 26)).alloc (.cells #[(.slice none 0 0), (.slice none 0 0), (.slice none 0 0)] 31)).alloc (.cells #[] 3)).alloc (.cells #[] 3)) (.cells #[] 3)).size
      have W5 := Lib.hid (within_on W4.out (within_alloc ((((w.alloc (.cells #[.int .i64 p, (.slice A l.length cap)] 26)).alloc (.cells #[(.slice none 0 0), (.slice none 0 0), (.slice none 0 0)] 31)).alloc (.cells #[] 3)).alloc (.cells #[] 3)) (.cells #[] 3)) W4.out.size (.inr (Nat.le_refl _)))
      have HB_5 := Lib.hid (HB_4.out.within (within_alloc ((((w.alloc (.cells #[.int .i64 p, (.slice A l.length cap)] 26)).alloc (.cells #[(.slice none 0 0), (.slice none 0 0), (.slice none 0 0)] 31)).alloc (.cells #[] 3)).alloc (.cells #[] 3)) (.cells #[] 3)) (by omega))
      have BX_5 := Lib.hid (BX_4.out.within (within_alloc ((((w.alloc (.cells #[.int .i64 p, (.slice A l.length cap)] 26)).alloc (.cells #[(.slice none 0 0), (.slice none 0 0), (.slice none 0 0)] 31)).alloc (.cells #[] 3)).alloc (.cells #[] 3)) (.cells #[] 3)) (by omega))
      have GR_5 := Lib.hid (GR_4.out.within (within_alloc ((((w.alloc (.cells #[.int .i64 p, (.slice A l.length cap)] 26)).alloc (.cells #[(.slice none 0 0), (.slice none 0 0), (.slice none 0 0)] 31)).alloc (.cells #[] 3)).alloc (.cells #[] 3)) (.cells #[] 3)) (by omega))
      have Y5 := Lib.hid (show (((((w.alloc (.cells #[.int .i64 p, (.slice A l.length cap)] 26)).alloc (.cells #[(.slice none 0 0), (.slice none 0 0), (.slice none 0 0)] 31)).alloc (.cells #[] 3)).alloc (.cells #[] 3)).alloc (.cells #[] 3)).heap.size = ((((w.alloc (.cells #[.int .i64 p, (.slice A l.length cap)] 26)).alloc (.cells #[(.slice none 0 0), (.slice none 0 0), (.slice none 0 0)] 31)).alloc (.cells #[] 3)).alloc (.cells #[] 3)).heap.size + 1 by simp)
      have Z6 := Lib.hid (within_alloc (((((w.alloc (.cells #[.int .i64 p, (.slice A l.length cap)] 26)).alloc (.cells #[(.slice none 0 0), (.slice none 0 0), (.slice none 0 0)] 31)).alloc (.cells #[] 3)).alloc (.cells #[] 3)).alloc (.cells #[] 3)) (.cells #[(.slice (some ⟨w.heap.size + 1 + 1, 0, none⟩) 0 0), (.slice (some ⟨w.heap.size + 1 + 1 + 1, 0, none⟩) 0 0), (.slice (some ⟨w.heap.size + 1 + 1 + 1 + 1, 0, none⟩) 0 0)] 31)).size
      have W6 := Lib.hid (within_on W5.out (within_alloc (((((w.alloc (.cells #[.int .i64 p, (.slice A l.length cap)] 26)).alloc (.cells #[(.slice none 0 0), (.slice none 0 0), (.slice none 0 0)] 31)).alloc (.cells #[] 3)).alloc (.cells #[] 3)).alloc (.cells #[] 3)) (.cells #[(.slice (some ⟨w.heap.size + 1 + 1, 0, none⟩) 0 0), (.slice (some ⟨w.heap.size + 1 + 1 + 1, 0, none⟩) 0 0), (.slice (some ⟨w.heap.size + 1 + 1 + 1 + 1, 0, none⟩) 0 0)] 31)) W5.out.size (.inr (Nat.le_refl _)))
      have HB_6 := Lib.hid (HB_5.out.within (within_alloc (((((w.alloc (.cells #[.int .i64 p, (.slice A l.length cap)] 26)).alloc (.cells #[(.slice none 0 0), (.slice none 0 0), (.slice none 0 0)] 31)).alloc (.cells #[] 3)).alloc (.cells #[] 3)).alloc (.cells #[] 3)) (.cells #[(.slice (some ⟨w.heap.size + 1 + 1, 0, none⟩) 0 0), (.slice (some ⟨w.heap.size + 1 + 1 + 1, 0, none⟩) 0 0), (.slice (some ⟨w.heap.size + 1 + 1 + 1 + 1, 0, none⟩) 0 0)] 31)) (by omega))
      have BX_6 := Lib.hid (BX_5.out.within (within_alloc (((((w.alloc (.cells #[.int .i64 p, (.slice A l.length cap)] 26)).alloc (.cells #[(.slice none 0 0), (.slice none 0 0), (.slice none 0 0)] 31)).alloc (.cells #[] 3)).alloc (.cells #[] 3)).alloc (.cells #[] 3)) (.cells #[(.slice (some ⟨w.heap.size + 1 + 1, 0, none⟩) 0 0), (.slice (some ⟨w.heap.size + 1 + 1 + 1, 0, none⟩) 0 0), (.slice (some ⟨w.heap.size + 1 + 1 + 1 + 1, 0, none⟩) 0 0)] 31)) (by omega))
      have GR_6 := Lib.hid (GR_5.out.within (within_alloc (((((w.alloc (.cells #[.int .i64 p, (.slice A l.length cap)] 26)).alloc (.cells #[(.slice none 0 0), (.slice none 0 0), (.slice none 0 0)] 31)).alloc (.cells #[] 3)).alloc (.cells #[] 3)).alloc (.cells #[] 3)) (.cells #[(.slice (some ⟨w.heap.size + 1 + 1, 0, none⟩) 0 0), (.slice (some ⟨w.heap.size + 1 + 1 + 1, 0, none⟩) 0 0), (.slice (some ⟨w.heap.size + 1 + 1 + 1 + 1, 0, none⟩) 0 0)] 31)) (by omega))
      have Y6 := Lib.hid (show ((((((w.alloc (.cells #[.int .i64 p, (.slice A l.length cap)] 26)).alloc (.cells #[(.slice none 0 0), (.slice none 0 0), (.slice none 0 0)] 31)).alloc (.cells #[] 3)).alloc (.cells #[] 3)).alloc (.cells #[] 3)).alloc (.cells #[(.slice (some ⟨w.heap.size + 1 + 1, 0, none⟩) 0 0), (.slice (some ⟨w.heap.size + 1 + 1 + 1, 0, none⟩) 0 0), (.slice (some ⟨w.heap.size + 1 + 1 + 1 + 1, 0, none⟩) 0 0)] 31)).heap.size = (((((w.alloc (.cells #[.int .i64 p, (.slice A l.length cap)] 26)).alloc (.cells #[(.slice none 0 0), (.slice none 0 0), (.slice none 0 0)] 31)).alloc (.cells #[] 3)).alloc (.cells #[] 3)).alloc (.cells #[] 3)).heap.size + 1 by simp)
      have hnew := cel3_new (((((w.alloc (.cells #[.int .i64 p, (.slice A l.length cap)] 26)).alloc (.cells #[(.slice none 0 0), (.slice none 0 0), (.slice none 0 0)] 31)).alloc (.cells #[] 3)).alloc (.cells #[] 3)).alloc (.cells #[] 3)) (.slice (some ⟨w.heap.size + 1 + 1, 0, none⟩) 0 0) (.slice (some ⟨w.heap.size + 1 + 1 + 1, 0, none⟩) 0 0) (.slice (some ⟨w.heap.size + 1 + 1 + 1 + 1, 0, none⟩) 0 0) 31
      rw [show (((((w.alloc (.cells #[.int .i64 p, (.slice A l.length cap)] 26)).alloc (.cells #[(.slice none 0 0), (.slice none 0 0), (.slice none 0 0)] 31)).alloc (.cells #[] 3)).alloc (.cells #[] 3)).alloc (.cells #[] 3)).heap.size = w.heap.size + 1 + 1 + 1 + 1 + 1 by simp] at hnew
      have GP_6 := Lib.hid hnew
      clear hnew
      go_enter Try.func37, Try.ntmps37
      obtain ⟨g0_0, g0_1, g0_2⟩ := BX_6.out
      go_wp2_with fail
      clear g0_0 g0_1 g0_2
      generalize ((((((w.alloc (.cells #[.int .i64 p, (.slice A l.length cap)] 26)).alloc (.cells #[(.slice none 0 0), (.slice none 0 0), (.slice none 0 0)] 31)).alloc (.cells #[] 3)).alloc (.cells #[] 3)).alloc (.cells #[] 3)).alloc (.cells #[(.slice (some ⟨w.heap.size + 1 + 1, 0, none⟩) 0 0), (.slice (some ⟨w.heap.size + 1 + 1 + 1, 0, none⟩) 0 0), (.slice (some ⟨w.heap.size + 1 + 1 + 1 + 1, 0, none⟩) 0 0)] 31)) = w6 at *
      generalize (((((w.alloc (.cells #[.int .i64 p, (.slice A l.length cap)] 26)).alloc (.cells #[(.slice none 0 0), (.slice none 0 0), (.slice none 0 0)] 31)).alloc (.cells #[] 3)).alloc (.cells #[] 3)).alloc (.cells #[] 3)) = w5 at *
      generalize ((((w.alloc (.cells #[.int .i64 p, (.slice A l.length cap)] 26)).alloc (.cells #[(.slice none 0 0), (.slice none 0 0), (.slice none 0 0)] 31)).alloc (.cells #[] 3)).alloc (.cells #[] 3)) = w4 at *
      generalize (((w.alloc (.cells #[.int .i64 p, (.slice A l.length cap)] 26)).alloc (.cells #[(.slice none 0 0), (.slice none 0 0), (.slice none 0 0)] 31)).alloc (.cells #[] 3)) = w3 at *
      generalize ((w.alloc (.cells #[.int .i64 p, (.slice A l.length cap)] 26)).alloc (.cells #[(.slice none 0 0), (.slice none 0 0), (.slice none 0 0)] 31)) = w2 at *
      generalize (w.alloc (.cells #[.int .i64 p, (.slice A l.length cap)] 26)) = w1 at *
      refine (HISG _ HB_6.out.at).mono ?_
      rintro e w7 ⟨rfl, hb⟩
      have Z7 := Lib.hid (within_of hb).size
      have W7 := Lib.hid (within_on W6.out (within_of hb) W6.out.size (.inr (Nat.le_refl _)))
      have HB_7 := Lib.hid (HB_6.out.within (within_of hb) (by omega))
      have BX_7 := Lib.hid (BX_6.out.within (within_of hb) (by omega))
      have GR_7 := Lib.hid (GR_6.out.within (within_of hb) (by omega))
      have GP_7 := Lib.hid (GP_6.out.within (within_of hb) (by omega))
      clear hb HISG
      obtain ⟨g1_0, g1_1, g1_2, g1_3, g1_4, g1_5⟩ := GR_7.out.cells
      have Z8 := Lib.hid ((ret3 GR_7.out (.slice none 0 0) (.slice none 0 0) (.slice none 0 0)).2).size
      have W8 := Lib.hid (within_on W7.out ((ret3 GR_7.out (.slice none 0 0) (.slice none 0 0) (.slice none 0 0)).2) W7.out.size (by have := Z1.out; have := Z2.out; have := Z3.out; have := Z4.out; have := Z5.out; have := Z6.out; have := Z7.out; have := Z8.out; have := Y1.out; have := Y2.out; have := Y3.out; have := Y4.out; have := Y5.out; have := Y6.out; omega))
      have HB_8 := Lib.hid (HB_7.out.within ((ret3 GR_7.out (.slice none 0 0) (.slice none 0 0) (.slice none 0 0)).2) (by have := Z1.out; have := Z2.out; have := Z3.out; have := Z4.out; have := Z5.out; have := Z6.out; have := Z7.out; have := Z8.out; have := Y1.out; have := Y2.out; have := Y3.out; have := Y4.out; have := Y5.out; have := Y6.out; omega))
      have BX_8 := Lib.hid (BX_7.out.within ((ret3 GR_7.out (.slice none 0 0) (.slice none 0 0) (.slice none 0 0)).2) (by have := Z1.out; have := Z2.out; have := Z3.out; have := Z4.out; have := Z5.out; have := Z6.out; have := Z7.out; have := Z8.out; have := Y1.out; have := Y2.out; have := Y3.out; have := Y4.out; have := Y5.out; have := Y6.out; omega))
      have GR_8 := Lib.hid ((ret3 GR_7.out (.slice none 0 0) (.slice none 0 0) (.slice none 0 0)).1)
      have GP_8 := Lib.hid (GP_7.out.within ((ret3 GR_7.out (.slice none 0 0) (.slice none 0 0) (.slice none 0 0)).2) (by have := Z1.out; have := Z2.out; have := Z3.out; have := Z4.out; have := Z5.out; have := Z6.out; have := Z7.out; have := Z8.out; have := Y1.out; have := Y2.out; have := Y3.out; have := Y4.out; have := Y5.out; have := Y6.out; omega))
      obtain ⟨g2_0, g2_1, g2_2, g2_3, g2_4, g2_5⟩ := GR_8.out.cells
      go_wp2_with fail
      generalize (((w7.setCell ⟨w.heap.size + 1, 0, none⟩ (.slice none 0 0)).setCell ⟨w.heap.size + 1, 1, none⟩ (.slice none 0 0)).setCell ⟨w.heap.size + 1, 2, none⟩ (.slice none 0 0)) = w8 at *
      refine bodyPost_ret (v := .tuple #[pebV none 0 0 none 0 0 none 0 0, .bool false]) ?_ rfl ?_
      · simp [results, Try.results37, go_sem, g2_0, g2_1, g2_2]
      · rw [HR.out.1, HR.out.2]
        exact ⟨none, 0, none, 0, none, 0, rfl, own3_nil _ _ W8.out.size _ _ _ _ _ _, W8.out⟩
    · skip
      rw [hg] at HISG
      have hk : k < 1 ∨ 3 < k := by simp only [hg] at hbad; simp at hbad; omega
      clear hbad
      have W0 := Lib.hid (Below.refl w.heap.size w)
      have HB_0 := Lib.hid (bars_in hl)
      clear hl
      have Z1 := Lib.hid (within_alloc w (.cells #[.int .i64 p, (.slice A l.length cap)] 26)).size
      have W1 := Lib.hid (within_on W0.out (within_alloc w (.cells #[.int .i64 p, (.slice A l.length cap)] 26)) W0.out.size (.inr (Nat.le_refl _)))
      have HB_1 := Lib.hid (HB_0.out.within (within_alloc w (.cells #[.int .i64 p, (.slice A l.length cap)] 26)) (by omega))
      have Y1 := Lib.hid (show (w.alloc (.cells #[.int .i64 p, (.slice A l.length cap)] 26)).heap.size = w.heap.size + 1 by simp)
      have hnew := box_new w p (.slice A l.length cap) 26
      have BX_1 := Lib.hid hnew
      clear hnew
      have Z2 := Lib.hid (within_alloc (w.alloc (.cells #[.int .i64 p, (.slice A l.length cap)] 26)) (.cells #[(.slice none 0 0), (.slice none 0 0), (.slice none 0 0)] 31)).size
      have W2 := Lib.hid (within_on W1.out (within_alloc (w.alloc (.cells #[.int .i64 p, (.slice A l.length cap)] 26)) (.cells #[(.slice none 0 0), (.slice none 0 0), (.slice none 0 0)] 31)) W1.out.size (.inr (Nat.le_refl _)))
      have HB_2 := Lib.hid (HB_1.out.within (within_alloc (w.alloc (.cells #[.int .i64 p, (.slice A l.length cap)] 26)) (.cells #[(.slice none 0 0), (.slice none 0 0), (.slice none 0 0)] 31)) (by omega))
      have BX_2 := Lib.hid (BX_1.out.within (within_alloc (w.alloc (.cells #[.int .i64 p, (.slice A l.length cap)] 26)) (.cells #[(.slice none 0 0), (.slice none 0 0), (.slice none 0 0)] 31)) (by omega))
      have Y2 := Lib.hid (show ((w.alloc (.cells #[.int .i64 p, (.slice A l.length cap)] 26)).alloc (.cells #[(.slice none 0 0), (.slice none 0 0), (.slice none 0 0)] 31)).heap.size = (w.alloc (.cells #[.int .i64 p, (.slice A l.length cap)] 26)).heap.size + 1 by simp)
      have hnew := cel3_new (w.alloc (.cells #[.int .i64 p, (.slice A l.length cap)] 26)) (.slice none 0 0) (.slice none 0 0) (.slice none 0 0) 31
      rw [show (w.alloc (.cells #[.int .i64 p, (.slice A l.length cap)] 26)).heap.size = w.heap.size + 1 by simp] at hnew
      have GR_2 := Lib.hid hnew
      clear hnew
      have Z3 := Lib.hid (within_alloc ((w.alloc (.cells #[.int .i64 p, (.slice A l.length cap)] 26)).alloc (.cells #[(.slice none 0 0), (.slice none 0 0), (.slice none 0 0)] 31)) (.cells #[] 3)).size
      have W3 := Lib.hid (within_on W2.out (within_alloc ((w.alloc (.cells #[.int .i64 p, (.slice A l.length cap)] 26)).alloc (.cells #[(.slice none 0 0), (.slice none 0 0), (.slice none 0 0)] 31)) (.cells #[] 3)) W2.out.size (.inr (Nat.le_refl _)))
      have HB_3 := Lib.hid (HB_2.out.within (within_alloc ((w.alloc (.cells #[.int .i64 p, (.slice A l.length cap)] 26)).alloc (.cells #[(.slice none 0 0), (.slice none 0 0), (.slice none 0 0)] 31)) (.cells #[] 3)) (by omega))
      have BX_3 := Lib.hid (BX_2.out.within (within_alloc ((w.alloc (.cells #[.int .i64 p, (.slice A l.length cap)] 26)).alloc (.cells #[(.slice none 0 0), (.slice none 0 0), (.slice none 0 0)] 31)) (.cells #[] 3)) (by omega))
      have GR_3 := Lib.hid (GR_2.out.within (within_alloc ((w.alloc (.cells #[.int .i64 p, (.slice A l.length cap)] 26)).alloc (.cells #[(.slice none 0 0), (.slice none 0 0), (.slice none 0 0)] 31)) (.cells #[] 3)) (by omega))
      have Y3 := Lib.hid (show (((w.alloc (.cells #[.int .i64 p, (.slice A l.length cap)] 26)).alloc (.cells #[(.slice none 0 0), (.slice none 0 0), (.slice none 0 0)] 31)).alloc (.cells #[] 3)).heap.size = ((w.alloc (.cells #[.int .i64 p, (.slice A l.length cap)] 26)).alloc (.cells #[(.slice none 0 0), (.slice none 0 0), (.slice none 0 0)] 31)).heap.size + 1 by simp)
      have Z4 := Lib.hid (within_alloc (((w.alloc (.cells #[.int .i64 p, (.slice A l.length cap)] 26)).alloc (.cells #[(.slice none 0 0), (.slice none 0 0), (.slice none 0 0)] 31)).alloc (.cells #[] 3)) (.cells #[] 3)).size
      have W4 := Lib.hid (within_on W3.out (within_alloc (((w.alloc (.cells #[.int .i64 p, (.slice A l.length cap)] 26)).alloc (.cells #[(.slice none 0 0), (.slice none 0 0), (.slice none 0 0)] 31)).alloc (.cells #[] 3)) (.cells #[] 3)) W3.out.size (.inr (Nat.le_refl _)))
      have HB_4 := Lib.hid (HB_3.out.within (within_alloc (((w.alloc (.cells #[.int .i64 p, (.slice A l.length cap)] 26)).alloc (.cells #[(.slice none 0 0), (.slice none 0 0), (.slice none 0 0)] 31)).alloc (.cells #[] 3)) (.cells #[] 3)) (by omega))
      have BX_4 := Lib.hid (BX_3.out.within (within_alloc (((w.alloc (.cells #[.int .i64 p, (.slice A l.length cap)] 26)).alloc (.cells #[(.slice none 0 0), (.slice none 0 0), (.slice none 0 0)] 31)).alloc (.cells #[] 3)) (.cells #[] 3)) (by omega))
      have GR_4 := Lib.hid (GR_3.out.within (within_alloc (((w.alloc (.cells #[.int .i64 p, (.slice A l.length cap)] 26)).alloc (.cells #[(.slice none 0 0), (.slice none 0 0), (.slice none 0 0)] 31)).alloc (.cells #[] 3)) (.cells #[] 3)) (by omega))
      have Y4 := Lib.hid (show ((((w.alloc (.cells #[.int .i64 p, (.slice A l.length cap)] 26)).alloc (.cells #[(.slice none 0 0), (.slice none 0 0), (.slice none 0 0)] 31)).alloc (.cells #[] 3)).alloc (.cells #[] 3)).heap.size = (((w.alloc (.cells #[.int .i64 p, (.slice A l.length cap)] 26)).alloc (.cells #[(.slice none 0 0), (.slice none 0 0), (.slice none 0 0)] 31)).alloc (.cells #[] 3)).heap.size + 1 by simp)
      have Z5 := Lib.hid (within_alloc ((((w.alloc (.cells #[.int .i64 p, (.slice A l.length cap)] 26)).alloc (.cells #[(.slice none 0 0), (.slice none 0 0), (.slice none 0 0)] 31)).alloc (.cells #[] 3)).alloc (.cells #[] 3)) (.cells #[] 3)).size
      have W5 := Lib.hid (within_on W4.out (within_alloc ((((w.alloc (.cells #[.int .i64 p, (.slice A l.length cap)] 26)).alloc (.cells #[(.slice none 0 0), (.slice none 0 0), (.slice none 0 0)] 31)).alloc (.cells #[] 3)).alloc (.cells #[] 3)) (.cells #[] 3)) W4.out.size (.inr (Nat.le_refl _)))
      have HB_5 := Lib.hid (HB_4.out.within (within_alloc ((((w.alloc (.cells #[.int .i64 p, (.slice A l.length cap)] 26)).alloc (.cells #[(.slice none 0 0), (.slice none 0 0), (.slice none 0 0)] 31)).alloc (.cells #[] 3)).alloc (.cells #[] 3)) (.cells #[] 3)) (by omega))
      have BX_5 := Lib.hid (BX_4.out.within (within_alloc ((((w.alloc (.cells #[.int .i64 p, (.slice A l.length cap)] 26)).alloc (.cells #[(.slice none 0 0), (.slice none 0 0), (.slice none 0 0)] 31)).alloc (.cells #[] 3)).alloc (.cells #[] 3)) (.cells #[] 3)) (by omega))
      have GR_5 := Lib.hid (GR_4.out.within (within_alloc ((((w.alloc (.cells #[.int .i64 p, (.slice A l.length cap)] 26)).alloc (.cells #[(.slice none 0 0), (.slice none 0 0), (.slice none 0 0)] 31)).alloc (.cells #[] 3)).alloc (.cells #[] 3)) (.cells #[] 3)) (by omega))
      have Y5 := Lib.hid (show (((((w.alloc (.cells #[.int .i64 p, (.slice A l.length cap)] 26)).alloc (.cells #[(.slice none 0 0), (.slice none 0 0), (.slice none 0 0)] 31)).alloc (.cells #[] 3)).alloc (.cells #[] 3)).alloc (.cells #[] 3)).heap.size = ((((w.alloc (.cells #[.int .i64 p, (.slice A l.length cap)] 26)).alloc (.cells #[(.slice none 0 0), (.slice none 0 0), (.slice none 0 0)] 31)).alloc (.cells #[] 3)).alloc (.cells #[] 3)).heap.size + 1 by simp)
      have Z6 := Lib.hid (within_alloc (((((w.alloc (.cells #[.int .i64 p, (.slice A l.length cap)] 26)).alloc (.cells #[(.slice none 0 0), (.slice none 0 0), (.slice none 0 0)] 31)).alloc (.cells #[] 3)).alloc (.cells #[] 3)).alloc (.cells #[] 3)) (.cells #[(.slice (some ⟨w.heap.size + 1 + 1, 0, none⟩) 0 0), (.slice (some ⟨w.heap.size + 1 + 1 + 1, 0, none⟩) 0 0), (.slice (some ⟨w.heap.size + 1 + 1 + 1 + 1, 0, none⟩) 0 0)] 31)).size
      have W6 := Lib.hid (within_on W5.out (within_alloc (((((w.alloc (.cells #[.int .i64 p, (.slice A l.length cap)] 26)).alloc (.cells #[(.slice none 0 0), (.slice none 0 0), (.slice none 0 0)] 31)).alloc (.cells #[] 3)).alloc (.cells #[] 3)).alloc (.cells #[] 3)) (.cells #[(.slice (some ⟨w.heap.size + 1 + 1, 0, none⟩) 0 0), (.slice (some ⟨w.heap.size + 1 + 1 + 1, 0, none⟩) 0 0), (.slice (some ⟨w.heap.size + 1 + 1 + 1 + 1, 0, none⟩) 0 0)] 31)) W5.out.size (.inr (Nat.le_refl _)))
      have HB_6 := Lib.hid (HB_5.out.within (within_alloc (((((w.alloc (.cells #[.int .i64 p, (.slice A l.length cap)] 26)).alloc (.cells #[(.slice none 0 0), (.slice none 0 0), (.slice none 0 0)] 31)).alloc (.cells #[] 3)).alloc (.cells #[] 3)).alloc (.cells #[] 3)) (.cells #[(.slice (some ⟨w.heap.size + 1 + 1, 0, none⟩) 0 0), (.slice (some ⟨w.heap.size + 1 + 1 + 1, 0, none⟩) 0 0), (.slice (some ⟨w.heap.size + 1 + 1 + 1 + 1, 0, none⟩) 0 0)] 31)) (by omega))
      have BX_6 := Lib.hid (BX_5.out.within (within_alloc (((((w.alloc (.cells #[.int .i64 p, (.slice A l.length cap)] 26)).alloc (.cells #[(.slice none 0 0), (.slice none 0 0), (.slice none 0 0)] 31)).alloc (.cells #[] 3)).alloc (.cells #[] 3)).alloc (.cells #[] 3)) (.cells #[(.slice (some ⟨w.heap.size + 1 + 1, 0, none⟩) 0 0), (.slice (some ⟨w.heap.size + 1 + 1 + 1, 0, none⟩) 0 0), (.slice (some ⟨w.heap.size + 1 + 1 + 1 + 1, 0, none⟩) 0 0)] 31)) (by omega))
      have GR_6 := Lib.hid (GR_5.out.within (within_alloc (((((w.alloc (.cells #[.int .i64 p, (.slice A l.length cap)] 26)).alloc (.cells #[(.slice none 0 0), (.slice none 0 0), (.slice none 0 0)] 31)).alloc (.cells #[] 3)).alloc (.cells #[] 3)).alloc (.cells #[] 3)) (.cells #[(.slice (some ⟨w.heap.size + 1 + 1, 0, none⟩) 0 0), (.slice (some ⟨w.heap.size + 1 + 1 + 1, 0, none⟩) 0 0), (.slice (some ⟨w.heap.size + 1 + 1 + 1 + 1, 0, none⟩) 0 0)] 31)) (by omega))
      have Y6 := Lib.hid (show ((((((w.alloc (.cells #[.int .i64 p, (.slice A l.length cap)] 26)).alloc (.cells #[(.slice none 0 0), (.slice none 0 0), (.slice none 0 0)] 31)).alloc (.cells #[] 3)).alloc (.cells #[] 3)).alloc (.cells #[] 3)).alloc (.cells #[(.slice (some ⟨w.heap.size + 1 + 1, 0, none⟩) 0 0), (.slice (some ⟨w.heap.size + 1 + 1 + 1, 0, none⟩) 0 0), (.slice (some ⟨w.heap.size + 1 + 1 + 1 + 1, 0, none⟩) 0 0)] 31)).heap.size = (((((w.alloc (.cells #[.int .i64 p, (.slice A l.length cap)] 26)).alloc (.cells #[(.slice none 0 0), (.slice none 0 0), (.slice none 0 0)] 31)).alloc (.cells #[] 3)).alloc (.cells #[] 3)).alloc (.cells #[] 3)).heap.size + 1 by simp)
      have hnew := cel3_new (((((w.alloc (.cells #[.int .i64 p, (.slice A l.length cap)] 26)).alloc (.cells #[(.slice none 0 0), (.slice none 0 0), (.slice none 0 0)] 31)).alloc (.cells #[] 3)).alloc (.cells #[] 3)).alloc (.cells #[] 3)) (.slice (some ⟨w.heap.size + 1 + 1, 0, none⟩) 0 0) (.slice (some ⟨w.heap.size + 1 + 1 + 1, 0, none⟩) 0 0) (.slice (some ⟨w.heap.size + 1 + 1 + 1 + 1, 0, none⟩) 0 0) 31
      rw [show (((((w.alloc (.cells #[.int .i64 p, (.slice A l.length cap)] 26)).alloc (.cells #[(.slice none 0 0), (.slice none 0 0), (.slice none 0 0)] 31)).alloc (.cells #[] 3)).alloc (.cells #[] 3)).alloc (.cells #[] 3)).heap.size = w.heap.size + 1 + 1 + 1 + 1 + 1 by simp] at hnew
      have GP_6 := Lib.hid hnew
      clear hnew
      go_enter Try.func37, Try.ntmps37
      obtain ⟨g0_0, g0_1, g0_2⟩ := BX_6.out
      go_wp2_with fail
      clear g0_0 g0_1 g0_2
      generalize ((((((w.alloc (.cells #[.int .i64 p, (.slice A l.length cap)] 26)).alloc (.cells #[(.slice none 0 0), (.slice none 0 0), (.slice none 0 0)] 31)).alloc (.cells #[] 3)).alloc (.cells #[] 3)).alloc (.cells #[] 3)).alloc (.cells #[(.slice (some ⟨w.heap.size + 1 + 1, 0, none⟩) 0 0), (.slice (some ⟨w.heap.size + 1 + 1 + 1, 0, none⟩) 0 0), (.slice (some ⟨w.heap.size + 1 + 1 + 1 + 1, 0, none⟩) 0 0)] 31)) = w6 at *
      generalize (((((w.alloc (.cells #[.int .i64 p, (.slice A l.length cap)] 26)).alloc (.cells #[(.slice none 0 0), (.slice none 0 0), (.slice none 0 0)] 31)).alloc (.cells #[] 3)).alloc (.cells #[] 3)).alloc (.cells #[] 3)) = w5 at *
      generalize ((((w.alloc (.cells #[.int .i64 p, (.slice A l.length cap)] 26)).alloc (.cells #[(.slice none 0 0), (.slice none 0 0), (.slice none 0 0)] 31)).alloc (.cells #[] 3)).alloc (.cells #[] 3)) = w4 at *
      generalize (((w.alloc (.cells #[.int .i64 p, (.slice A l.length cap)] 26)).alloc (.cells #[(.slice none 0 0), (.slice none 0 0), (.slice none 0 0)] 31)).alloc (.cells #[] 3)) = w3 at *
      generalize ((w.alloc (.cells #[.int .i64 p, (.slice A l.length cap)] 26)).alloc (.cells #[(.slice none 0 0), (.slice none 0 0), (.slice none 0 0)] 31)) = w2 at *
      generalize (w.alloc (.cells #[.int .i64 p, (.slice A l.length cap)] 26)) = w1 at *
      refine (HISG _ HB_6.out.at).mono ?_
      rintro e w7 ⟨rfl, hb⟩
      have Z7 := Lib.hid (within_of hb).size
      have W7 := Lib.hid (within_on W6.out (within_of hb) W6.out.size (.inr (Nat.le_refl _)))
      have HB_7 := Lib.hid (HB_6.out.within (within_of hb) (by omega))
      have BX_7 := Lib.hid (BX_6.out.within (within_of hb) (by omega))
      have GR_7 := Lib.hid (GR_6.out.within (within_of hb) (by omega))
      have GP_7 := Lib.hid (GP_6.out.within (within_of hb) (by omega))
      clear hb HISG
      go_wp2_with fail
      refine (l1In_no k 1 3 _ hk).mono ?_
      rintro e w9 ⟨rfl, rfl⟩
      obtain ⟨g1_0, g1_1, g1_2, g1_3, g1_4, g1_5⟩ := GR_7.out.cells
      have Z8 := Lib.hid ((ret3 GR_7.out (.slice none 0 0) (.slice none 0 0) (.slice none 0 0)).2).size
      have W8 := Lib.hid (within_on W7.out ((ret3 GR_7.out (.slice none 0 0) (.slice none 0 0) (.slice none 0 0)).2) W7.out.size (by have := Z1.out; have := Z2.out; have := Z3.out; have := Z4.out; have := Z5.out; have := Z6.out; have := Z7.out; have := Z8.out; have := Y1.out; have := Y2.out; have := Y3.out; have := Y4.out; have := Y5.out; have := Y6.out; omega))
      have HB_8 := Lib.hid (HB_7.out.within ((ret3 GR_7.out (.slice none 0 0) (.slice none 0 0) (.slice none 0 0)).2) (by have := Z1.out; have := Z2.out; have := Z3.out; have := Z4.out; have := Z5.out; have := Z6.out; have := Z7.out; have := Z8.out; have := Y1.out; have := Y2.out; have := Y3.out; have := Y4.out; have := Y5.out; have := Y6.out; omega))
      have BX_8 := Lib.hid (BX_7.out.within ((ret3 GR_7.out (.slice none 0 0) (.slice none 0 0) (.slice none 0 0)).2) (by have := Z1.out; have := Z2.out; have := Z3.out; have := Z4.out; have := Z5.out; have := Z6.out; have := Z7.out; have := Z8.out; have := Y1.out; have := Y2.out; have := Y3.out; have := Y4.out; have := Y5.out; have := Y6.out; omega))
      have GR_8 := Lib.hid ((ret3 GR_7.out (.slice none 0 0) (.slice none 0 0) (.slice none 0 0)).1)
      have GP_8 := Lib.hid (GP_7.out.within ((ret3 GR_7.out (.slice none 0 0) (.slice none 0 0) (.slice none 0 0)).2) (by have := Z1.out; have := Z2.out; have := Z3.out; have := Z4.out; have := Z5.out; have := Z6.out; have := Z7.out; have := Z8.out; have := Y1.out; have := Y2.out; have := Y3.out; have := Y4.out; have := Y5.out; have := Y6.out; omega))
      obtain ⟨g2_0, g2_1, g2_2, g2_3, g2_4, g2_5⟩ := GR_8.out.cells
      go_wp2_with fail
      generalize (((w7.setCell ⟨w.heap.size + 1, 0, none⟩ (.slice none 0 0)).setCell ⟨w.heap.size + 1, 1, none⟩ (.slice none 0 0)).setCell ⟨w.heap.size + 1, 2, none⟩ (.slice none 0 0)) = w8 at *
      refine bodyPost_ret (v := .tuple #[pebV none 0 0 none 0 0 none 0 0, .bool false]) ?_ rfl ?_
      · simp [results, Try.results37, go_sem, g2_0, g2_1, g2_2]
      · rw [HR.out.1, HR.out.2]
        exact ⟨none, 0, none, 0, none, 0, rfl, own3_nil _ _ W8.out.size _ _ _ _ _ _, W8.out⟩
  · skip
    have hg : isGB p l = true := by
      cases h : isGB p l with
      | true => rfl
      | false => exact absurd (.inl h) hbad
    have hG : IsG p l := Classical.byContradiction fun g => by rw [isGB_no g] at hg; cases hg
    obtain ⟨P, rfl⟩ : ∃ P : Nat, p = (P : Int) := ⟨p.toNat, by have := hG.1; omega⟩
    have hP : 1 ≤ P ∧ P ≤ 8 := by have := hG.1; omega
    have hk1 : ¬ k < 1 := by omega
    have hk2 : ¬ 3 < k := by omega
    have HR := Lib.hid (new_yes (l := l) hg (by omega : 1 ≤ k) (by omega))
    rw [hg] at HISG
    clear hbad hG hg
    have W0 := Lib.hid (Below.refl w.heap.size w)
    have HB_0 := Lib.hid (bars_in hl)
    clear hl
    have Z1 := Lib.hid (within_alloc w (.cells #[.int .i64 (P : Int), (.slice A l.length cap)] 26)).size
    have W1 := Lib.hid (within_on W0.out (within_alloc w (.cells #[.int .i64 (P : Int), (.slice A l.length cap)] 26)) W0.out.size (.inr (Nat.le_refl _)))
    have HB_1 := Lib.hid (HB_0.out.within (within_alloc w (.cells #[.int .i64 (P : Int), (.slice A l.length cap)] 26)) (by omega))
    have Y1 := Lib.hid (show (w.alloc (.cells #[.int .i64 (P : Int), (.slice A l.length cap)] 26)).heap.size = w.heap.size + 1 by simp)
    have hnew := box_new w (P : Int) (.slice A l.length cap) 26
    have BX_1 := Lib.hid hnew
    clear hnew
    have Z2 := Lib.hid (within_alloc (w.alloc (.cells #[.int .i64 (P : Int), (.slice A l.length cap)] 26)) (.cells #[(.slice none 0 0), (.slice none 0 0), (.slice none 0 0)] 31)).size
    have W2 := Lib.hid (within_on W1.out (within_alloc (w.alloc (.cells #[.int .i64 (P : Int), (.slice A l.length cap)] 26)) (.cells #[(.slice none 0 0), (.slice none 0 0), (.slice none 0 0)] 31)) W1.out.size (.inr (Nat.le_refl _)))
    have HB_2 := Lib.hid (HB_1.out.within (within_alloc (w.alloc (.cells #[.int .i64 (P : Int), (.slice A l.length cap)] 26)) (.cells #[(.slice none 0 0), (.slice none 0 0), (.slice none 0 0)] 31)) (by omega))
    have BX_2 := Lib.hid (BX_1.out.within (within_alloc (w.alloc (.cells #[.int .i64 (P : Int), (.slice A l.length cap)] 26)) (.cells #[(.slice none 0 0), (.slice none 0 0), (.slice none 0 0)] 31)) (by omega))
    have Y2 := Lib.hid (show ((w.alloc (.cells #[.int .i64 (P : Int), (.slice A l.length cap)] 26)).alloc (.cells #[(.slice none 0 0), (.slice none 0 0), (.slice none 0 0)] 31)).heap.size = (w.alloc (.cells #[.int .i64 (P : Int), (.slice A l.length cap)] 26)).heap.size + 1 by simp)
    have hnew := cel3_new (w.alloc (.cells #[.int .i64 (P : Int), (.slice A l.length cap)] 26)) (.slice none 0 0) (.slice none 0 0) (.slice none 0 0) 31
    rw [show (w.alloc (.cells #[.int .i64 (P : Int), (.slice A l.length cap)] 26)).heap.size = w.heap.size + 1 by simp] at hnew
    have GR_2 := Lib.hid hnew
    clear hnew
    have Z3 := Lib.hid (within_alloc ((w.alloc (.cells #[.int .i64 (P : Int), (.slice A l.length cap)] 26)).alloc (.cells #[(.slice none 0 0), (.slice none 0 0), (.slice none 0 0)] 31)) (.cells #[] 3)).size
    have W3 := Lib.hid (within_on W2.out (within_alloc ((w.alloc (.cells #[.int .i64 (P : Int), (.slice A l.length cap)] 26)).alloc (.cells #[(.slice none 0 0), (.slice none 0 0), (.slice none 0 0)] 31)) (.cells #[] 3)) W2.out.size (.inr (Nat.le_refl _)))
    have HB_3 := Lib.hid (HB_2.out.within (within_alloc ((w.alloc (.cells #[.int .i64 (P : Int), (.slice A l.length cap)] 26)).alloc (.cells #[(.slice none 0 0), (.slice none 0 0), (.slice none 0 0)] 31)) (.cells #[] 3)) (by omega))
    have BX_3 := Lib.hid (BX_2.out.within (within_alloc ((w.alloc (.cells #[.int .i64 (P : Int), (.slice A l.length cap)] 26)).alloc (.cells #[(.slice none 0 0), (.slice none 0 0), (.slice none 0 0)] 31)) (.cells #[] 3)) (by omega))
    have GR_3 := Lib.hid (GR_2.out.within (within_alloc ((w.alloc (.cells #[.int .i64 (P : Int), (.slice A l.length cap)] 26)).alloc (.cells #[(.slice none 0 0), (.slice none 0 0), (.slice none 0 0)] 31)) (.cells #[] 3)) (by omega))
    have Y3 := Lib.hid (show (((w.alloc (.cells #[.int .i64 (P : Int), (.slice A l.length cap)] 26)).alloc (.cells #[(.slice none 0 0), (.slice none 0 0), (.slice none 0 0)] 31)).alloc (.cells #[] 3)).heap.size = ((w.alloc (.cells #[.int .i64 (P : Int), (.slice A l.length cap)] 26)).alloc (.cells #[(.slice none 0 0), (.slice none 0 0), (.slice none 0 0)] 31)).heap.size + 1 by simp)
    have hown := World.ownsRow_made (base := w.heap.size) (e := 3) (size := 1) ((w.alloc (.cells #[.int .i64 (P : Int), (.slice A l.length cap)] 26)).alloc (.cells #[(.slice none 0 0), (.slice none 0 0), (.slice none 0 0)] 31)) #[] 0 (by simp; omega) (by unfold maxLen; omega) (by simp)
    rw [show ((w.alloc (.cells #[.int .i64 (P : Int), (.slice A l.length cap)] 26)).alloc (.cells #[(.slice none 0 0), (.slice none 0 0), (.slice none 0 0)] 31)).heap.size = w.heap.size + 1 + 1 by simp] at hown
    have OF_3 := Lib.hid (Own0.mk hown)
    clear hown
    have Z4 := Lib.hid (within_alloc (((w.alloc (.cells #[.int .i64 (P : Int), (.slice A l.length cap)] 26)).alloc (.cells #[(.slice none 0 0), (.slice none 0 0), (.slice none 0 0)] 31)).alloc (.cells #[] 3)) (.cells #[] 3)).size
    have W4 := Lib.hid (within_on W3.out (within_alloc (((w.alloc (.cells #[.int .i64 (P : Int), (.slice A l.length cap)] 26)).alloc (.cells #[(.slice none 0 0), (.slice none 0 0), (.slice none 0 0)] 31)).alloc (.cells #[] 3)) (.cells #[] 3)) W3.out.size (.inr (Nat.le_refl _)))
    have HB_4 := Lib.hid (HB_3.out.within (within_alloc (((w.alloc (.cells #[.int .i64 (P : Int), (.slice A l.length cap)] 26)).alloc (.cells #[(.slice none 0 0), (.slice none 0 0), (.slice none 0 0)] 31)).alloc (.cells #[] 3)) (.cells #[] 3)) (by omega))
    have BX_4 := Lib.hid (BX_3.out.within (within_alloc (((w.alloc (.cells #[.int .i64 (P : Int), (.slice A l.length cap)] 26)).alloc (.cells #[(.slice none 0 0), (.slice none 0 0), (.slice none 0 0)] 31)).alloc (.cells #[] 3)) (.cells #[] 3)) (by omega))
    have GR_4 := Lib.hid (GR_3.out.within (within_alloc (((w.alloc (.cells #[.int .i64 (P : Int), (.slice A l.length cap)] 26)).alloc (.cells #[(.slice none 0 0), (.slice none 0 0), (.slice none 0 0)] 31)).alloc (.cells #[] 3)) (.cells #[] 3)) (by omega))
    have OF_4 := Lib.hid (OF_3.out.within (within_alloc (((w.alloc (.cells #[.int .i64 (P : Int), (.slice A l.length cap)] 26)).alloc (.cells #[(.slice none 0 0), (.slice none 0 0), (.slice none 0 0)] 31)).alloc (.cells #[] 3)) (.cells #[] 3)) (by omega))
    have Y4 := Lib.hid (show ((((w.alloc (.cells #[.int .i64 (P : Int), (.slice A l.length cap)] 26)).alloc (.cells #[(.slice none 0 0), (.slice none 0 0), (.slice none 0 0)] 31)).alloc (.cells #[] 3)).alloc (.cells #[] 3)).heap.size = (((w.alloc (.cells #[.int .i64 (P : Int), (.slice A l.length cap)] 26)).alloc (.cells #[(.slice none 0 0), (.slice none 0 0), (.slice none 0 0)] 31)).alloc (.cells #[] 3)).heap.size + 1 by simp)
    have Z5 := Lib.hid (within_alloc ((((w.alloc (.cells #[.int .i64 (P : Int), (.slice A l.length cap)] 26)).alloc (.cells #[(.slice none 0 0), (.slice none 0 0), (.slice none 0 0)] 31)).alloc (.cells #[] 3)).alloc (.cells #[] 3)) (.cells #[] 3)).size
    have W5 := Lib.hid (within_on W4.out (within_alloc ((((w.alloc (.cells #[.int .i64 (P : Int), (.slice A l.length cap)] 26)).alloc (.cells #[(.slice none 0 0), (.slice none 0 0), (.slice none 0 0)] 31)).alloc (.cells #[] 3)).alloc (.cells #[] 3)) (.cells #[] 3)) W4.out.size (.inr (Nat.le_refl _)))
    have HB_5 := Lib.hid (HB_4.out.within (within_alloc ((((w.alloc (.cells #[.int .i64 (P : Int), (.slice A l.length cap)] 26)).alloc (.cells #[(.slice none 0 0), (.slice none 0 0), (.slice none 0 0)] 31)).alloc (.cells #[] 3)).alloc (.cells #[] 3)) (.cells #[] 3)) (by omega))
    have BX_5 := Lib.hid (BX_4.out.within (within_alloc ((((w.alloc (.cells #[.int .i64 (P : Int), (.slice A l.length cap)] 26)).alloc (.cells #[(.slice none 0 0), (.slice none 0 0), (.slice none 0 0)] 31)).alloc (.cells #[] 3)).alloc (.cells #[] 3)) (.cells #[] 3)) (by omega))
    have GR_5 := Lib.hid (GR_4.out.within (within_alloc ((((w.alloc (.cells #[.int .i64 (P : Int), (.slice A l.length cap)] 26)).alloc (.cells #[(.slice none 0 0), (.slice none 0 0), (.slice none 0 0)] 31)).alloc (.cells #[] 3)).alloc (.cells #[] 3)) (.cells #[] 3)) (by omega))
    have OF_5 := Lib.hid (OF_4.out.within (within_alloc ((((w.alloc (.cells #[.int .i64 (P : Int), (.slice A l.length cap)] 26)).alloc (.cells #[(.slice none 0 0), (.slice none 0 0), (.slice none 0 0)] 31)).alloc (.cells #[] 3)).alloc (.cells #[] 3)) (.cells #[] 3)) (by omega))
    have Y5 := Lib.hid (show (((((w.alloc (.cells #[.int .i64 (P : Int), (.slice A l.length cap)] 26)).alloc (.cells #[(.slice none 0 0), (.slice none 0 0), (.slice none 0 0)] 31)).alloc (.cells #[] 3)).alloc (.cells #[] 3)).alloc (.cells #[] 3)).heap.size = ((((w.alloc (.cells #[.int .i64 (P : Int), (.slice A l.length cap)] 26)).alloc (.cells #[(.slice none 0 0), (.slice none 0 0), (.slice none 0 0)] 31)).alloc (.cells #[] 3)).alloc (.cells #[] 3)).heap.size + 1 by simp)
    have Z6 := Lib.hid (within_alloc (((((w.alloc (.cells #[.int .i64 (P : Int), (.slice A l.length cap)] 26)).alloc (.cells #[(.slice none 0 0), (.slice none 0 0), (.slice none 0 0)] 31)).alloc (.cells #[] 3)).alloc (.cells #[] 3)).alloc (.cells #[] 3)) (.cells #[(.slice (some ⟨w.heap.size + 1 + 1, 0, none⟩) 0 0), (.slice (some ⟨w.heap.size + 1 + 1 + 1, 0, none⟩) 0 0), (.slice (some ⟨w.heap.size + 1 + 1 + 1 + 1, 0, none⟩) 0 0)] 31)).size
    have W6 := Lib.hid (within_on W5.out (within_alloc (((((w.alloc (.cells #[.int .i64 (P : Int), (.slice A l.length cap)] 26)).alloc (.cells #[(.slice none 0 0), (.slice none 0 0), (.slice none 0 0)] 31)).alloc (.cells #[] 3)).alloc (.cells #[] 3)).alloc (.cells #[] 3)) (.cells #[(.slice (some ⟨w.heap.size + 1 + 1, 0, none⟩) 0 0), (.slice (some ⟨w.heap.size + 1 + 1 + 1, 0, none⟩) 0 0), (.slice (some ⟨w.heap.size + 1 + 1 + 1 + 1, 0, none⟩) 0 0)] 31)) W5.out.size (.inr (Nat.le_refl _)))
    have HB_6 := Lib.hid (HB_5.out.within (within_alloc (((((w.alloc (.cells #[.int .i64 (P : Int), (.slice A l.length cap)] 26)).alloc (.cells #[(.slice none 0 0), (.slice none 0 0), (.slice none 0 0)] 31)).alloc (.cells #[] 3)).alloc (.cells #[] 3)).alloc (.cells #[] 3)) (.cells #[(.slice (some ⟨w.heap.size + 1 + 1, 0, none⟩) 0 0), (.slice (some ⟨w.heap.size + 1 + 1 + 1, 0, none⟩) 0 0), (.slice (some ⟨w.heap.size + 1 + 1 + 1 + 1, 0, none⟩) 0 0)] 31)) (by omega))
    have BX_6 := Lib.hid (BX_5.out.within (within_alloc (((((w.alloc (.cells #[.int .i64 (P : Int), (.slice A l.length cap)] 26)).alloc (.cells #[(.slice none 0 0), (.slice none 0 0), (.slice none 0 0)] 31)).alloc (.cells #[] 3)).alloc (.cells #[] 3)).alloc (.cells #[] 3)) (.cells #[(.slice (some ⟨w.heap.size + 1 + 1, 0, none⟩) 0 0), (.slice (some ⟨w.heap.size + 1 + 1 + 1, 0, none⟩) 0 0), (.slice (some ⟨w.heap.size + 1 + 1 + 1 + 1, 0, none⟩) 0 0)] 31)) (by omega))
    have GR_6 := Lib.hid (GR_5.out.within (within_alloc (((((w.alloc (.cells #[.int .i64 (P : Int), (.slice A l.length cap)] 26)).alloc (.cells #[(.slice none 0 0), (.slice none 0 0), (.slice none 0 0)] 31)).alloc (.cells #[] 3)).alloc (.cells #[] 3)).alloc (.cells #[] 3)) (.cells #[(.slice (some ⟨w.heap.size + 1 + 1, 0, none⟩) 0 0), (.slice (some ⟨w.heap.size + 1 + 1 + 1, 0, none⟩) 0 0), (.slice (some ⟨w.heap.size + 1 + 1 + 1 + 1, 0, none⟩) 0 0)] 31)) (by omega))
    have OF_6 := Lib.hid (OF_5.out.within (within_alloc (((((w.alloc (.cells #[.int .i64 (P : Int), (.slice A l.length cap)] 26)).alloc (.cells #[(.slice none 0 0), (.slice none 0 0), (.slice none 0 0)] 31)).alloc (.cells #[] 3)).alloc (.cells #[] 3)).alloc (.cells #[] 3)) (.cells #[(.slice (some ⟨w.heap.size + 1 + 1, 0, none⟩) 0 0), (.slice (some ⟨w.heap.size + 1 + 1 + 1, 0, none⟩) 0 0), (.slice (some ⟨w.heap.size + 1 + 1 + 1 + 1, 0, none⟩) 0 0)] 31)) (by omega))
    have Y6 := Lib.hid (show ((((((w.alloc (.cells #[.int .i64 (P : Int), (.slice A l.length cap)] 26)).alloc (.cells #[(.slice none 0 0), (.slice none 0 0), (.slice none 0 0)] 31)).alloc (.cells #[] 3)).alloc (.cells #[] 3)).alloc (.cells #[] 3)).alloc (.cells #[(.slice (some ⟨w.heap.size + 1 + 1, 0, none⟩) 0 0), (.slice (some ⟨w.heap.size + 1 + 1 + 1, 0, none⟩) 0 0), (.slice (some ⟨w.heap.size + 1 + 1 + 1 + 1, 0, none⟩) 0 0)] 31)).heap.size = (((((w.alloc (.cells #[.int .i64 (P : Int), (.slice A l.length cap)] 26)).alloc (.cells #[(.slice none 0 0), (.slice none 0 0), (.slice none 0 0)] 31)).alloc (.cells #[] 3)).alloc (.cells #[] 3)).alloc (.cells #[] 3)).heap.size + 1 by simp)
    have hnew := cel3_new (((((w.alloc (.cells #[.int .i64 (P : Int), (.slice A l.length cap)] 26)).alloc (.cells #[(.slice none 0 0), (.slice none 0 0), (.slice none 0 0)] 31)).alloc (.cells #[] 3)).alloc (.cells #[] 3)).alloc (.cells #[] 3)) (.slice (some ⟨w.heap.size + 1 + 1, 0, none⟩) 0 0) (.slice (some ⟨w.heap.size + 1 + 1 + 1, 0, none⟩) 0 0) (.slice (some ⟨w.heap.size + 1 + 1 + 1 + 1, 0, none⟩) 0 0) 31
    rw [show (((((w.alloc (.cells #[.int .i64 (P : Int), (.slice A l.length cap)] 26)).alloc (.cells #[(.slice none 0 0), (.slice none 0 0), (.slice none 0 0)] 31)).alloc (.cells #[] 3)).alloc (.cells #[] 3)).alloc (.cells #[] 3)).heap.size = w.heap.size + 1 + 1 + 1 + 1 + 1 by simp] at hnew
    have GP_6 := Lib.hid hnew
    clear hnew
    go_enter Try.func37, Try.ntmps37
    obtain ⟨g0_0, g0_1, g0_2⟩ := BX_6.out
    go_wp2_with fail
    clear g0_0 g0_1 g0_2
    generalize ((((((w.alloc (.cells #[.int .i64 (P : Int), (.slice A l.length cap)] 26)).alloc (.cells #[(.slice none 0 0), (.slice none 0 0), (.slice none 0 0)] 31)).alloc (.cells #[] 3)).alloc (.cells #[] 3)).alloc (.cells #[] 3)).alloc (.cells #[(.slice (some ⟨w.heap.size + 1 + 1, 0, none⟩) 0 0), (.slice (some ⟨w.heap.size + 1 + 1 + 1, 0, none⟩) 0 0), (.slice (some ⟨w.heap.size + 1 + 1 + 1 + 1, 0, none⟩) 0 0)] 31)) = w6 at *
    generalize (((((w.alloc (.cells #[.int .i64 (P : Int), (.slice A l.length cap)] 26)).alloc (.cells #[(.slice none 0 0), (.slice none 0 0), (.slice none 0 0)] 31)).alloc (.cells #[] 3)).alloc (.cells #[] 3)).alloc (.cells #[] 3)) = w5 at *
    generalize ((((w.alloc (.cells #[.int .i64 (P : Int), (.slice A l.length cap)] 26)).alloc (.cells #[(.slice none 0 0), (.slice none 0 0), (.slice none 0 0)] 31)).alloc (.cells #[] 3)).alloc (.cells #[] 3)) = w4 at *
    generalize (((w.alloc (.cells #[.int .i64 (P : Int), (.slice A l.length cap)] 26)).alloc (.cells #[(.slice none 0 0), (.slice none 0 0), (.slice none 0 0)] 31)).alloc (.cells #[] 3)) = w3 at *
    generalize ((w.alloc (.cells #[.int .i64 (P : Int), (.slice A l.length cap)] 26)).alloc (.cells #[(.slice none 0 0), (.slice none 0 0), (.slice none 0 0)] 31)) = w2 at *
    generalize (w.alloc (.cells #[.int .i64 (P : Int), (.slice A l.length cap)] 26)) = w1 at *
    refine (HISG _ HB_6.out.at).mono ?_
    rintro e w7 ⟨rfl, hb⟩
    have Z7 := Lib.hid (within_of hb).size
    have W7 := Lib.hid (within_on W6.out (within_of hb) W6.out.size (.inr (Nat.le_refl _)))
    have HB_7 := Lib.hid (HB_6.out.within (within_of hb) (by omega))
    have BX_7 := Lib.hid (BX_6.out.within (within_of hb) (by omega))
    have GR_7 := Lib.hid (GR_6.out.within (within_of hb) (by omega))
    have OF_7 := Lib.hid (OF_6.out.within (within_of hb) (by omega))
    have GP_7 := Lib.hid (GP_6.out.within (within_of hb) (by omega))
    clear hb HISG
    go_wp2_with fail
    refine (l1In_yes k 1 3 _ (by omega) (by omega)).mono ?_
    rintro e w9 ⟨rfl, rfl⟩
    have HN := Lib.hid (show NewS w w7 (P : Int) k (.slice A l.length cap) 0 (.slice (some ⟨w.heap.size + 1 + 1, 0, none⟩) 0 0) (.slice (some ⟨w.heap.size + 1 + 1 + 1, 0, none⟩) 0 0) (.slice (some ⟨w.heap.size + 1 + 1 + 1 + 1, 0, none⟩) 0 0) from ⟨OF_7.out.row, fun a e => by simp [Value.ownBlock] at e; omega, GP_7.out, GR_7.out, BX_7.out, W7.out⟩)
    go_wp2_with fail
    go_loopw [7] (fun i wr => ∃ j : Nat, j ≤ P ∧ i = .int .i64 j ∧ ∃ v, NewS w wr (P : Int) k (.slice A l.length cap) j v (.slice (some ⟨w.heap.size + 1 + 1 + 1, 0, none⟩) 0 0) (.slice (some ⟨w.heap.size + 1 + 1 + 1 + 1, 0, none⟩) 0 0)) (fun i _ => P - (intOf i).toNat)
    case atStart => exact ⟨0, Nat.zero_le _, rfl, _, HN.out⟩
    case round =>
      obtain ⟨j, hj, rfl, v, hst⟩ := hrel
      have HS := Lib.hid hst
      obtain ⟨A', c', rfl⟩ := own_shape hst.row
      have hbs := hst.bel.size
      obtain ⟨_, g1, g2⟩ := hst.box
      obtain ⟨c0, c1, c2, f0, f1, f2⟩ := hst.st.cells
      clear hst
      by_cases hlt : j < P
      · have hji : (j : Int) < (P : Int) := by omega
        obtain ⟨k0, k1, k2, e0, e1, e2⟩ := (HS.out.alloc (.cells #[.int .i64 k] 3)).st.cells
        go_wp2_with (at_builtin; refine wpList_at _ rfl _ _ 29 rfl w.heap.size 3 (.int .i64 0) 1 8 Try.underlying29 infoInt rfl (by decide) _ _ _ rfl HS.out.row #[.int .i64 k] 1 rfl (by simp [Value.oneCell']) _ _ rfl (by omega) (by unfold maxLen; omega) hbs ?_; intro v' w' ho hg hat _; obtain ⟨A2, c2', rfl⟩ := own_shape ho; obtain ⟨q5, hN⟩ := HS.out.push ho hg hat; obtain ⟨d0, d1, d2, h0, h1, h2⟩ := q5.cells; have HN2 := Lib.hid hN; clear ho hg hat q5 hN)
        go_roundw
        case rel => exact ⟨j + 1, by omega, by go_num, _, HN2.out⟩
        case measure => simp [intOf]; omega
      · obtain rfl : j = P := by omega
        have rt := HS.out.ret
        obtain ⟨r0, r1, r2, q0, q1, q2⟩ := rt.cells
        have h3 := ret3 rt (.slice A' j c') (.slice (some ⟨w.heap.size + 1 + 1 + 1, 0, none⟩) 0 0) (.slice (some ⟨w.heap.size + 1 + 1 + 1 + 1, 0, none⟩) 0 0)
        obtain ⟨s0, s1, s2, _⟩ := h3.1.cells
        have HW := Lib.hid h3.2
        clear h3 rt
        go_wp2_with fail
        refine bodyPost_ret (v := .tuple #[pebV A' j c' (some ⟨w.heap.size + 1 + 1 + 1, 0, none⟩) 0 0 (some ⟨w.heap.size + 1 + 1 + 1 + 1, 0, none⟩) 0 0, .bool true]) ?_ rfl ?_
        · simp [results, Try.results37, go_sem, s0, s1, s2]
        · have hro := HS.out.row2.within HW.out (by omega)
          have hz := HW.out.size
          rw [HR.out.1, HR.out.2]
          refine ⟨A', c', some ⟨w.heap.size + 1 + 1 + 1, 0, none⟩, 0, some ⟨w.heap.size + 1 + 1 + 1 + 1, 0, none⟩, 0, by rw [List.length_replicate]; rfl, ?_, within_on HS.out.bel HW.out hbs (by omega)⟩
          exact own3_f hro (by omega) hz (by omega)
end Go.Proofs.Ytdkpmaahinbhlaa
