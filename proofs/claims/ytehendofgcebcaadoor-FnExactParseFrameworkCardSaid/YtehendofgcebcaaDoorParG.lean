/- What a text says of a graph: at most one graph has it for its text. -/
import Derived.Test.YtehendofgcebcaaDoorNum
namespace Go.Proofs.YtehendofgcebcaaDoor
open Go.RowKit

/-- The bars that words write. -/
noncomputable def parseB (ws : List ByteArray) : List (Int × Int) := ws.map fun w => (numS ((cutB w 45).getD 0 ⟨#[]⟩), numS ((cutB w 45).getD 1 ⟨#[]⟩))
/-- The points that the first word writes. -/
noncomputable def headP (w : ByteArray) : Int := numS (w.extract 0 (w.size - 1))
theorem mem_bar8 {p : Int} {l : List (Int × Int)} (h : IsG p l) (x : Int × Int) (hx : x ∈ l) : (0 ≤ x.1 ∧ x.1 ≤ 8) ∧ 0 ≤ x.2 ∧ x.2 ≤ 8 := by
  obtain ⟨k, hk, rfl⟩ := List.getElem_of_mem hx
  have h1 := isG_bar8 h k hk
  rw [List.getD_eq_getElem?_getD, List.getElem?_eq_getElem hk] at h1
  exact h1
theorem parse_txt {p : Int} {l : List (Int × Int)} (h : IsG p l) : parseB (l.map barS) = l := by
  unfold parseB
  rw [List.map_map]
  refine Eq.trans (List.map_congr_left (g := id) fun x hx => ?_) (List.map_id l)
  have h1 := mem_bar8 h x hx
  simp only [Function.comp_apply, id]
  rw [cut_bar x h1]
  exact Prod.ext (num_fmt x.1 h1.1.1 h1.1.2) (num_fmt x.2 h1.2.1 h1.2.2)
theorem cut_len {p : Int} {l : List (Int × Int)} (h : IsG p l) (k : Nat) (hk : k < l.length) : (cutB ((l.map barS).getD k ⟨#[]⟩) 45).length = 2 := by
  have e : (l.map barS).getD k ⟨#[]⟩ = barS l[k] := by rw [List.getD_eq_getElem?_getD, List.getElem?_map, List.getElem?_eq_getElem hk]; rfl
  rw [e, cut_bar _ (mem_bar8 h _ (List.getElem_mem hk))]
  rfl
theorem app_left (a b : ByteArray) : (a ++ b).extract 0 a.size = a := by
  apply ByteArray.ext
  rw [ByteArray.data_extract, ByteArray.data_append, ← ByteArray.size_data]
  simp
theorem head_txt {p : Int} {l : List (Int × Int)} (h : IsG p l) : headP (fmtS p ++ ⟨#[58]⟩) = p := by
  unfold headP
  have e : (fmtS p ++ ⟨#[58]⟩ : ByteArray).size - 1 = (fmtS p).size := by
    have h3 : (⟨#[58]⟩ : ByteArray).size = 1 := rfl
    rw [size_app]
    omega
  rw [e, app_left]
  exact num_fmt p (by have := h.1; omega) (by have := h.1; omega)
theorem head_size {p : Int} {l : List (Int × Int)} (h : IsG p l) : 2 ≤ (fmtS p ++ ⟨#[58]⟩ : ByteArray).size := by
  have h3 : (⟨#[58]⟩ : ByteArray).size = 1 := rfl
  have h1 : (fmtS p).size = 1 := by rw [fmtS_dig p (by have := h.1; omega) (by have := h.1; omega), strOfNums_size]; rfl
  rw [size_app]
  omega
/-- What the words of a graph's text are. -/
theorem words_of {p : Int} {l : List (Int × Int)} {s : ByteArray} (h : IsG p l) (hs : txt p l l.length = s) : cutB s 32 = (fmtS p ++ ⟨#[58]⟩) :: l.map barS := by rw [← hs]; exact cut_txt h
/-- What ParseGraph is to answer. -/
def PG (s : ByteArray) (q : Int) (m : List (Int × Int)) (b : Bool) : Prop := (b = true ∧ IsG q m ∧ txt q m m.length = s) ∨ (b = false ∧ q = 0 ∧ m = [] ∧ ∀ p l, IsG p l → txt p l l.length ≠ s)
theorem txt_inj {p p' : Int} {l l' : List (Int × Int)} {s : ByteArray} (h : IsG p l) (hs : txt p l l.length = s) (h' : IsG p' l') (hs' : txt p' l' l'.length = s) : p = p' ∧ l = l' := by
  have e := (words_of h hs).symm.trans (words_of h' hs')
  obtain ⟨e1, e2⟩ := List.cons.inj e
  exact ⟨by rw [← head_txt h, ← head_txt h', e1], by rw [← parse_txt h, ← parse_txt h', e2]⟩
theorem PG.unique {s : ByteArray} {q q' : Int} {m m' : List (Int × Int)} {b b' : Bool} (h : PG s q m b) (h' : PG s q' m' b') : q = q' ∧ m = m' ∧ b = b' := by
  rcases h with ⟨rfl, h1, h2⟩ | ⟨rfl, rfl, rfl, h1⟩
  · rcases h' with ⟨rfl, k1, k2⟩ | ⟨rfl, rfl, rfl, k1⟩
    · obtain ⟨e1, e2⟩ := txt_inj h1 h2 k1 k2
      exact ⟨e1, e2, rfl⟩
    · exact absurd h2 (k1 _ _ h1)
  · rcases h' with ⟨rfl, k1, k2⟩ | ⟨rfl, rfl, rfl, k1⟩
    · exact absurd k2 (h1 _ _ k1)
    · exact ⟨rfl, rfl, rfl⟩
end Go.Proofs.YtehendofgcebcaaDoor
