/- A graph's words apart again: the pure side of ParseGraph. -/
import Derived.Test.YtehendofgcebcaaDoorCut
namespace Go.Proofs.YtehendofgcebcaaDoor
open Go.RowKit

/-- One byte more. -/
def cutF (c : Int) (st : List ByteArray × ByteArray) (b : UInt8) : List ByteArray × ByteArray := if (b.toNat : Int) = c then (st.1 ++ [st.2], ⟨#[]⟩) else (st.1, st.2 ++ ⟨#[b]⟩)
theorem extract_one (s : ByteArray) (i : Nat) (h : i < s.data.toList.length) : s.extract i (i + 1) = ⟨#[s.data.toList[i]]⟩ := by
  apply ByteArray.ext
  rw [ByteArray.data_extract]
  apply Array.ext'
  rw [Array.toList_extract]
  simp only [List.extract_eq_take_drop]
  rw [show i + 1 - i = 1 by omega]
  rw [List.drop_eq_getElem_cons h]
  rfl
theorem cutSt_fold (s : ByteArray) (c : Int) : ∀ i, i ≤ s.data.toList.length → cutSt s c i = (s.data.toList.take i).foldl (cutF c) ([], ⟨#[]⟩)
  | 0, _ => rfl
  | i + 1, h => by
    have hi : i < s.data.toList.length := by omega
    rw [List.take_succ_eq_append_getElem hi, List.foldl_append, ← cutSt_fold s c i (by omega)]
    have hb : byteAt s i = ((s.data.toList[i]).toNat : Int) := by unfold byteAt; rw [List.getD_eq_getElem?_getD, List.getElem?_eq_getElem hi]; rfl
    rw [cutSt, hb, extract_one s i hi]
    rfl
theorem cutB_fold (s : ByteArray) (c : Int) : cutB s c = (s.data.toList.foldl (cutF c) ([], ⟨#[]⟩)).1 ++ [(s.data.toList.foldl (cutF c) ([], ⟨#[]⟩)).2] := by
  have h := cutSt_fold s c s.data.toList.length (Nat.le_refl _)
  rw [List.take_length] at h
  rw [← h]
  rfl
theorem cutF_plain (c : Int) : ∀ (l : List UInt8), (∀ x ∈ l, (x.toNat : Int) ≠ c) → ∀ st : List ByteArray × ByteArray, l.foldl (cutF c) st = (st.1, st.2 ++ ⟨l.toArray⟩)
  | [], _, st => by
    have e : st.2 ++ (⟨#[]⟩ : ByteArray) = st.2 := by apply ByteArray.ext; simp [ByteArray.data_append]
    exact (congrArg (Prod.mk st.1) e).symm
  | x :: l, h, st => by
    rw [List.foldl_cons, cutF_plain c l (fun y hy => h y (List.mem_cons_of_mem _ hy))]
    have hx := h x (List.mem_cons_self ..)
    unfold cutF
    rw [if_neg hx]
    refine congrArg (Prod.mk st.1) ?_
    apply ByteArray.ext
    simp [ByteArray.data_append]
theorem fold_app (c : Int) (a b : ByteArray) (st : List ByteArray × ByteArray) : (a ++ b).data.toList.foldl (cutF c) st = b.data.toList.foldl (cutF c) (a.data.toList.foldl (cutF c) st) := by
  rw [ByteArray.data_append, Array.toList_append, List.foldl_append]
theorem fold_plain (c : Int) (a : ByteArray) (h : ∀ x ∈ a.data.toList, (x.toNat : Int) ≠ c) (st : List ByteArray × ByteArray) : a.data.toList.foldl (cutF c) st = (st.1, st.2 ++ a) := by
  rw [cutF_plain c _ h]

/-- A digit's numeral. -/
theorem fmtS_dig (n : Int) (h0 : 0 ≤ n) (h8 : n ≤ 8) : fmtS n = strOfNums [48 + n] := by
  obtain ⟨m, rfl⟩ := Int.eq_ofNat_of_zero_le h0
  rw [fmtS_pos, ds_small m (by omega)]
theorem dig_bytes (n : Int) (h0 : 0 ≤ n) (h8 : n ≤ 8) : ∀ x ∈ (fmtS n).data.toList, 48 ≤ (x.toNat : Int) ∧ (x.toNat : Int) ≤ 56 := by
  rw [fmtS_dig n h0 h8]
  intro x hx
  simp [strOfNums] at hx
  subst hx
  rw [UInt8.toNat_ofNat']
  omega
/-- The words of a graph's text. -/
def wordsG (p : Int) (l : List (Int × Int)) (k : Nat) : List ByteArray := (fmtS p ++ ⟨#[58]⟩) :: (l.take k).map barS
theorem barS_bytes (x : Int × Int) (h : (0 ≤ x.1 ∧ x.1 ≤ 8) ∧ 0 ≤ x.2 ∧ x.2 ≤ 8) : ∀ y ∈ (barS x).data.toList, (y.toNat : Int) ≠ 32 := by
  intro y hy
  unfold barS at hy
  rw [ByteArray.data_append, Array.toList_append, ByteArray.data_append, Array.toList_append] at hy
  simp only [List.mem_append] at hy
  rcases hy with (hy | hy) | hy
  · have := dig_bytes x.1 h.1.1 h.1.2 y hy; omega
  · simp at hy; subst hy; decide
  · have := dig_bytes x.2 h.2.1 h.2.2 y hy; omega
theorem txt_words {p : Int} {l : List (Int × Int)} (h : IsG p l) : ∀ k, k ≤ l.length → ((txt p l k).data.toList.foldl (cutF 32) ([], ⟨#[]⟩)).1 ++ [((txt p l k).data.toList.foldl (cutF 32) ([], ⟨#[]⟩)).2] = wordsG p l k
  | 0, _ => by
    have e0 : ∀ x ∈ (fmtS p ++ ⟨#[58]⟩ : ByteArray).data.toList, (x.toNat : Int) ≠ 32 := by
      intro x hx
      rw [ByteArray.data_append, Array.toList_append, List.mem_append] at hx
      rcases hx with hx | hx
      · have := dig_bytes p (by have := h.1; omega) (by have := h.1; omega) x hx; omega
      · simp at hx; subst hx; decide
    unfold txt
    rw [fold_plain 32 _ e0]
    have e : (⟨#[]⟩ : ByteArray) ++ (fmtS p ++ ⟨#[58]⟩) = fmtS p ++ ⟨#[58]⟩ := by apply ByteArray.ext; simp [ByteArray.data_append]
    simp [wordsG, e]
  | k + 1, hk => by
    have ih := txt_words h k (by omega)
    have hb := barS_bytes _ (isG_bar8 h k (by omega))
    unfold txt
    rw [fold_app, fold_app, fold_plain 32 _ hb]
    generalize (txt p l k).data.toList.foldl (cutF 32) ([], ⟨#[]⟩) = st at ih ⊢
    have e1 : (⟨#[32]⟩ : ByteArray).data.toList.foldl (cutF 32) st = (st.1 ++ [st.2], ⟨#[]⟩) := rfl
    rw [e1, ih]
    have e : ∀ z : ByteArray, (⟨#[]⟩ : ByteArray) ++ z = z := fun z => by apply ByteArray.ext; simp [ByteArray.data_append]
    rw [e]
    have ht : l.take (k + 1) = l.take k ++ [l.getD k (0, 0)] := by
      rw [List.take_succ_eq_append_getElem (by omega : k < l.length), List.getD_eq_getElem?_getD, List.getElem?_eq_getElem (by omega)]
      rfl
    simp [wordsG, ht]
theorem cut_txt {p : Int} {l : List (Int × Int)} (h : IsG p l) : cutB (txt p l l.length) 32 = (fmtS p ++ ⟨#[58]⟩) :: l.map barS := by
  rw [cutB_fold, txt_words h _ (Nat.le_refl _), wordsG, List.take_length]
theorem cut_bar (x : Int × Int) (h : (0 ≤ x.1 ∧ x.1 ≤ 8) ∧ 0 ≤ x.2 ∧ x.2 ≤ 8) : cutB (barS x) 45 = [fmtS x.1, fmtS x.2] := by
  have h1 : ∀ y ∈ (fmtS x.1).data.toList, (y.toNat : Int) ≠ 45 := fun y hy => by have := dig_bytes x.1 h.1.1 h.1.2 y hy; omega
  have h2 : ∀ y ∈ (fmtS x.2).data.toList, (y.toNat : Int) ≠ 45 := fun y hy => by have := dig_bytes x.2 h.2.1 h.2.2 y hy; omega
  have e : ∀ z : ByteArray, (⟨#[]⟩ : ByteArray) ++ z = z := fun z => by apply ByteArray.ext; simp [ByteArray.data_append]
  rw [cutB_fold]
  unfold barS
  rw [fold_app, fold_app, fold_plain 45 _ h1, fold_plain 45 _ h2, e]
  have e1 : (⟨#[45]⟩ : ByteArray).data.toList.foldl (cutF 45) ([], fmtS x.1) = ([fmtS x.1], ⟨#[]⟩) := rfl
  rw [e1]
  simp [e]
end Go.Proofs.YtehendofgcebcaaDoor
