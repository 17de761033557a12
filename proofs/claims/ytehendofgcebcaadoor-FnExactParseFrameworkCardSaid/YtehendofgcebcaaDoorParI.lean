/- The program's ParseGraph: the pure side: what strings.Fields makes of a graph's bars in words, and how long a graph's text is. -/
import Derived.Test.YtehendofgcebcaaDoorParG
import Derived.Lib.FieldsU
import Derived.Lib.TrimAscii
namespace Go.Proofs.YtehendofgcebcaaDoor
open Go.RowKit

/-- A byte of a word: it is ASCII and no space. -/
def Wd (x : UInt8) : Prop := x.toNat < 128 ∧ Lib.isSpaceR x.toNat = false
theorem go_word (f : Nat) : ∀ (w cur t : List UInt8), (∀ x ∈ w, Wd x) → Lib.fieldsGoD (f + w.length) cur (w ++ t) = Lib.fieldsGoD f (cur ++ w) t
  | [], cur, t, _ => by simp
  | x :: w, cur, t, h => by
    have hx := h x (List.mem_cons_self ..)
    rw [List.length_cons, ← Nat.add_assoc, List.cons_append, Lib.fieldsGoD, if_neg (by simp), Lib.decodeL_ascii x _ hx.1]
    simp only [hx.2, Bool.false_eq_true, if_false, List.take_succ_cons, List.take_zero, List.drop_succ_cons, List.drop_zero]
    rw [go_word f w _ t (fun y hy => h y (List.mem_cons_of_mem _ hy))]
    simp
theorem go_space (f : Nat) (cur t : List UInt8) : Lib.fieldsGoD (f + 1) cur (32 :: t) = (if cur = [] then [] else [cur]) ++ Lib.fieldsGoD f [] t := by
  rw [Lib.fieldsGoD, if_neg (by simp), Lib.decodeL_ascii 32 _ (by decide)]
  have h : Lib.isSpaceR (32 : UInt8).toNat = true := by decide
  simp only [h, if_true, List.drop_succ_cons, List.drop_zero]
/-- Words, each behind a blank. -/
def restL (ws : List (List UInt8)) : List UInt8 := ws.flatMap fun w => 32 :: w
theorem fields_rest : ∀ (ws : List (List UInt8)) (f : Nat) (cur : List UInt8), (∀ w ∈ ws, w ≠ [] ∧ ∀ x ∈ w, Wd x) → (restL ws).length ≤ f → Lib.fieldsGoD f cur (restL ws) = (if cur = [] then [] else [cur]) ++ ws
  | [], f, cur, _, _ => by
    show Lib.fieldsGoD f cur [] = _
    rw [Lib.fieldsGoD_nil]
    simp
  | w :: ws, f, cur, h, hf => by
    obtain ⟨hne, hw⟩ := h w (List.mem_cons_self ..)
    have e : restL (w :: ws) = 32 :: (w ++ restL ws) := by simp [restL]
    rw [e] at hf ⊢
    obtain ⟨g, rfl⟩ : ∃ g, f = (g + w.length) + 1 := ⟨f - w.length - 1, by simp at hf; omega⟩
    rw [go_space, go_word g w [] _ hw, List.nil_append, fields_rest ws g w (fun y hy => h y (List.mem_cons_of_mem _ hy)) (by simp at hf; omega), if_neg hne]
    rfl
theorem fields_words (ws : List (List UInt8)) (h : ∀ w ∈ ws, w ≠ [] ∧ ∀ x ∈ w, Wd x) : Lib.fieldsD (restL ws) = ws := by
  unfold Lib.fieldsD
  rw [fields_rest ws _ [] h (by omega)]
  rfl
theorem bar_word (x : Int × Int) (h : (0 ≤ x.1 ∧ x.1 ≤ 8) ∧ 0 ≤ x.2 ∧ x.2 ≤ 8) : (barS x).data.toList ≠ [] ∧ ∀ y ∈ (barS x).data.toList, Wd y := by
  have hd : ∀ y : UInt8, 48 ≤ (y.toNat : Int) ∧ (y.toNat : Int) ≤ 56 → Wd y := fun y hy => by
    obtain ⟨h1, h2⟩ := hy
    have h3 : 48 ≤ y.toNat := by omega
    have h4 : y.toNat ≤ 56 := by omega
    refine ⟨by omega, ?_⟩
    generalize y.toNat = n at h3 h4
    unfold Lib.isSpaceR
    simp
    omega
  unfold barS
  rw [ByteArray.data_append, Array.toList_append, ByteArray.data_append, Array.toList_append]
  refine ⟨by simp, fun y hy => ?_⟩
  simp only [List.mem_append] at hy
  rcases hy with (hy | hy) | hy
  · exact hd y (dig_bytes x.1 h.1.1 h.1.2 y hy)
  · have : y = 45 := by simpa using hy
    subst this
    exact ⟨by decide, by decide⟩
  · exact hd y (dig_bytes x.2 h.2.1 h.2.2 y hy)
theorem dig_size (n : Int) (h0 : 0 ≤ n) (h8 : n ≤ 8) : (fmtS n).size = 1 := by rw [fmtS_dig n h0 h8, strOfNums_size]; rfl
/-- How long a graph's text is. -/
theorem txt_len {p : Int} {l : List (Int × Int)} (h : IsG p l) : ∀ k, k ≤ l.length → (txt p l k).size = 2 + 4 * k
  | 0, _ => by
    have h1 := dig_size p (by have := h.1; omega) (by have := h.1; omega)
    have h3 : (⟨#[58]⟩ : ByteArray).size = 1 := rfl
    unfold txt
    rw [size_app, h1, h3]
  | k + 1, hk => by
    have h1 := txt_len h k (by omega)
    have hb := isG_bar8 h k (by omega)
    have h4 := dig_size _ hb.1.1 hb.1.2
    have h5 := dig_size _ hb.2.1 hb.2.2
    have h3 : (⟨#[32]⟩ : ByteArray).size = 1 := rfl
    have h6 : (⟨#[45]⟩ : ByteArray).size = 1 := rfl
    unfold txt
    unfold barS
    rw [size_app, size_app, size_app, size_app, h1, h3, h4, h5, h6]
    omega
theorem dig_list (n : Int) (h0 : 0 ≤ n) (h8 : n ≤ 8) : ∃ d : UInt8, (fmtS n).data.toList = [d] ∧ 48 ≤ (d.toNat : Int) ∧ (d.toNat : Int) ≤ 56 := by
  have h := dig_size n h0 h8
  have hb := dig_bytes n h0 h8
  generalize (fmtS n) = z at h hb
  obtain ⟨d, hd⟩ := List.length_eq_one_iff.1 (show z.data.toList.length = 1 from h)
  exact ⟨d, hd, hb d (by rw [hd]; simp)⟩
theorem index_two (a c : UInt8) (t : List UInt8) (h : a ≠ c) : Lib.index (a :: c :: t) [c] = 1 := by
  simp [Lib.index, Ne.symm h]
theorem cut_two (a c : UInt8) (t : List UInt8) (h : a ≠ c) : Lib.cut (a :: c :: t) [c] = ([a], t, true) := by
  unfold Lib.cut
  rw [index_two a c t h]
  rfl
/-- The bars of a graph's text. -/
theorem txt_rest {p : Int} {l : List (Int × Int)} : ∀ k, k ≤ l.length → (txt p l k).data.toList = (fmtS p).data.toList ++ 58 :: restL ((l.take k).map fun x => (barS x).data.toList)
  | 0, _ => by
    unfold txt
    rw [ByteArray.data_append, Array.toList_append]
    rfl
  | k + 1, hk => by
    have ht : l.take (k + 1) = l.take k ++ [l.getD k (0, 0)] := by
      rw [List.take_succ_eq_append_getElem (by omega : k < l.length), List.getD_eq_getElem?_getD, List.getElem?_eq_getElem (by omega)]
      rfl
    unfold txt
    rw [ByteArray.data_append, Array.toList_append, ByteArray.data_append, Array.toList_append, txt_rest k (by omega), ht]
    simp [restL]
/-- What strings.Cut makes of a graph's text. -/
theorem txt_cut {p : Int} {l : List (Int × Int)} (h : IsG p l) : Lib.cut (txt p l l.length).data.toList [58] = ((fmtS p).data.toList, restL (l.map fun x => (barS x).data.toList), true) := by
  obtain ⟨d, hd, h1, h2⟩ := dig_list p (by have := h.1; omega) (by have := h.1; omega)
  rw [txt_rest l.length (Nat.le_refl _), hd, List.take_length]
  exact cut_two d 58 _ (fun e => by subst e; exact absurd h2 (by decide))
theorem bar_cut (x : Int × Int) (h : (0 ≤ x.1 ∧ x.1 ≤ 8) ∧ 0 ≤ x.2 ∧ x.2 ≤ 8) : Lib.cut (barS x).data.toList [45] = ((fmtS x.1).data.toList, (fmtS x.2).data.toList, true) := by
  obtain ⟨d, hd, h1, h2⟩ := dig_list x.1 h.1.1 h.1.2
  unfold barS
  rw [ByteArray.data_append, Array.toList_append, ByteArray.data_append, Array.toList_append, hd]
  exact cut_two d 45 _ (fun e => by subst e; exact absurd h1 (by decide))
theorem txt_fields {l : List (Int × Int)} {p : Int} (h : IsG p l) : Lib.fieldsD (restL (l.map fun x => (barS x).data.toList)) = l.map fun x => (barS x).data.toList :=
  fields_words _ fun w hw => by
    obtain ⟨x, hx, rfl⟩ := List.mem_map.1 hw
    exact bar_word x (mem_bar8 h x hx)
end Go.Proofs.YtehendofgcebcaaDoor
