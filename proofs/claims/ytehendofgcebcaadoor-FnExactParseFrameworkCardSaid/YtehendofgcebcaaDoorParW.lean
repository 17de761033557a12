/- What impl.ParseGraph answers, where strings.Cut and strings.Fields answer as their contracts say. UNDER WAY. -/
import Derived.Test.YtehendofgcebcaaDoorParS
import Derived.Test.YtehendofgcebcaaDoorParI
import Derived.Test.YtehendofgcebcaaDoorPiI
import Derived.Test.YtehendofgcebcaaDoorFmtI
import Derived.Lib.TrimU
namespace Go.Proofs.YtehendofgcebcaaDoor
open Go.RowKit

/-- strings.Cut answers so in every later world. -/
def CutOk (w : World) : Prop := ∀ (W : World) (x : ByteArray) (c : UInt8), Below w.heap.size w W → x.size ≤ 98 → Calls Tryd.prog 32 #[.string x, .string ⟨#[c]⟩] W fun e w' => e = .returned (.tuple #[.string ⟨(Lib.cut x.data.toList [c]).1.toArray⟩, .string ⟨(Lib.cut x.data.toList [c]).2.1.toArray⟩, .bool (Lib.cut x.data.toList [c]).2.2]) ∧ Below W.heap.size W w'
/-- strings.Fields answers so in every later world. -/
def FieldsOk (w : World) : Prop := ∀ (W : World) (x : ByteArray), Below w.heap.size w W → x.size ≤ 98 → Calls Tryd.prog 34 #[.string x] W fun e w' => ∃ g, e = .returned (.slice (some ⟨g, 0, none⟩) (Lib.fieldsD x.data.toList).length (Lib.fieldsD x.data.toList).length) ∧ W.heap.size ≤ g ∧
  OwnStrs w' W.heap.size (.slice (some ⟨g, 0, none⟩) ((Lib.fieldsD x.data.toList).map fun y => (⟨y.toArray⟩ : ByteArray)).length (Lib.fieldsD x.data.toList).length) ((Lib.fieldsD x.data.toList).map fun y => ⟨y.toArray⟩) ∧ Below W.heap.size W w'
theorem pg_long {s : ByteArray} (h : 98 < s.size) : PG s 0 [] false :=
  .inr ⟨rfl, rfl, rfl, fun p l hg ht => by
    have h1 := txt_len hg l.length (Nat.le_refl _)
    have h2 := hg.2.1
    rw [ht] at h1
    omega⟩
theorem cut_size (x : List UInt8) (c : UInt8) : (Lib.cut x [c]).1.length ≤ x.length ∧ (Lib.cut x [c]).2.1.length ≤ x.length := by
  unfold Lib.cut
  split
  · exact ⟨by simp; omega, by simp⟩
  · exact ⟨Nat.le_refl _, by simp⟩
/-- The bars that the program reads. -/
noncomputable def parseI (ws : List (List UInt8)) : List (Int × Int) := ws.map fun y => (piN ⟨(Lib.cut y [45]).1.toArray⟩, piN ⟨(Lib.cut y [45]).2.1.toArray⟩)
theorem pi_fmt (n : Int) (h0 : 0 ≤ n) (h8 : n ≤ 8) : piN ⟨(fmtS n).data.toList.toArray⟩ = n := (pi_yes (s := fmtS n) (n := n) ⟨by omega, rfl⟩).1
theorem parseI_txt {p : Int} {l : List (Int × Int)} (h : IsG p l) : parseI (l.map fun x => (barS x).data.toList) = l := by
  unfold parseI
  rw [List.map_map]
  refine Eq.trans (List.map_congr_left (g := id) fun x hx => ?_) (List.map_id l)
  have h1 := mem_bar8 h x hx
  simp only [Function.comp_apply, id]
  rw [bar_cut x h1]
  exact Prod.ext (pi_fmt x.1 h1.1.1 h1.1.2) (pi_fmt x.2 h1.2.1 h1.2.2)
/-- The graph that has been read, once every word is read. -/
theorem pgI_end {s : ByteArray} {q : Int} {m : List (Int × Int)} (hq : q = piN ⟨(Lib.cut s.data.toList [58]).1.toArray⟩) (hm : m = parseI (Lib.fieldsD (Lib.cut s.data.toList [58]).2.1)) :
    (isGB q m = true → fmtG q m = s → PG s q m true) ∧ (isGB q m = false ∨ ¬ fmtG q m = s → PG s 0 [] false) := by
  constructor
  · intro hg h
    exact .inl ⟨rfl, isG_yes hg, by rw [← fmtG_yes hg]; exact h⟩
  · intro h
    refine .inr ⟨rfl, rfl, rfl, fun p l hg ht => ?_⟩
    have e0 := txt_cut hg
    rw [ht] at e0
    rw [e0] at hq hm
    have e1 : q = p := by rw [hq]; exact pi_fmt p (by have := hg.1; omega) (by have := hg.1; omega)
    have e2 : m = l := by rw [hm]; simp only; rw [txt_fields hg, parseI_txt hg]
    subst e1
    subst e2
    rcases h with h | h
    · rw [isGB_yes hg] at h; cases h
    · exact h (by rw [fmtG_yes (isGB_yes hg)]; exact ht)
theorem fields_le : ∀ (f : Nat) (cur l : List UInt8), ∀ y ∈ Lib.fieldsGoD f cur l, y.length ≤ cur.length + l.length
  | 0, cur, l, y, hy => by
    unfold Lib.fieldsGoD at hy
    split at hy
    · cases hy
    · have : y = cur := by simpa using hy
      subst this; omega
  | f + 1, cur, l, y, hy => by
    unfold Lib.fieldsGoD at hy
    split at hy
    · split at hy
      · cases hy
      · have : y = cur := by simpa using hy
        subst this; omega
    · split at hy
      · rcases List.mem_append.1 hy with hy | hy
        · split at hy
          · cases hy
          · have : y = cur := by simpa using hy
            subst this; omega
        · have := fields_le f _ _ y hy
          simp at this
          omega
      · have := fields_le f _ _ y hy
        simp at this
        omega
theorem fields_count : ∀ (f : Nat) (cur l : List UInt8), (Lib.fieldsGoD f cur l).length ≤ l.length + 1
  | 0, cur, l => by
    unfold Lib.fieldsGoD
    split
    · simp
    · simp
  | f + 1, cur, l => by
    unfold Lib.fieldsGoD
    split
    · split
      · simp
      · simp
    · rename_i hl
      have hp := List.length_pos_iff.2 hl
      have hw := Lib.decodeL_width l
      split
      · have := fields_count f [] (l.drop (Lib.decodeL l).2)
        have h1 : (if cur = [] then ([] : List (List UInt8)) else [cur]).length ≤ 1 := by split <;> simp
        simp only [List.length_append, List.length_drop] at this ⊢
        omega
      · have := fields_count f (cur ++ l.take (Lib.decodeL l).2) (l.drop (Lib.decodeL l).2)
        simp only [List.length_drop] at this
        omega
/-- The box taken anew, with other blocks that stand. -/
theorem GBox.anew {B : Nat} {w0 wr : World} {bg : Nat} {os os' : List Nat} {p : Int} {A : Option Addr} {c : Nat} {l : List (Int × Int)} (h : GBox B w0 wr bg os p A c l) (ho : ∀ o ∈ os', o < wr.heap.size ∧ o ≠ bg ∧ ∀ a, A = some a → a.block ≠ o) : GBox B wr wr bg os' p A c l := by
  obtain ⟨h1, h2, h3, h4, h5, h6, h7⟩ := h
  exact ⟨h1, h2, fun a e => ⟨fun hm => (ho _ hm).2.2 a e rfl, (h3 a e).2⟩, h4, fun o hm => ⟨(ho o hm).1, rfl, (ho o hm).2.1⟩, Below.refl _ _, h7⟩
/-- A store into another block leaves it. -/
theorem GBox.other {B : Nat} {w0 wr : World} {bg : Nat} {os : List Nat} {p : Int} {A : Option Addr} {c : Nat} {l : List (Int × Int)} (h : GBox B w0 wr bg os p A c l) (b k : Nat) (v : Value) (hb : b ≠ bg) (ho : b ∉ os) (hA : ∀ a, A = some a → a.block ≠ b) (hB : B ≤ b) : GBox B w0 (wr.setCell ⟨b, k, none⟩ v) bg os p A c l := by
  obtain ⟨h1, h2, h3, h4, h5, h6, h7⟩ := h
  have hs := grownBy_set wr b k v
  have hblk := hs.block bg h1.1 (by simp; exact fun e => hb e.symm)
  refine ⟨⟨Nat.lt_of_lt_of_le h1.1 hs.size, (World.cell?_of_block (a := ⟨bg, 0, none⟩) hblk).trans h1.2.1, (World.cell?_of_block (a := ⟨bg, 1, none⟩) hblk).trans h1.2.2⟩, (World.frozen?_of_block (a := ⟨bg, 1, none⟩) hblk).trans h2, h3, ?_, fun o hoo => ?_, ?_, h7⟩
  · refine h4.kept hs ?_
    cases A with
    | none => exact .inl rfl
    | some a => exact .inr (by simp [Value.ownBlock]; exact hA a rfl)
  · obtain ⟨k1, k2, k3⟩ := h5 o hoo
    exact ⟨Nat.lt_of_lt_of_le k1 hs.size, (hs.block o k1 (by simp; exact fun e => ho (e ▸ hoo))).trans k2, k3⟩
  · exact h6.grown hs (Nat.le_of_lt (Nat.lt_of_le_of_lt h7 h1.1)) fun g e => by cases e; exact hB
end Go.Proofs.YtehendofgcebcaaDoor
