/- A framework's words apart again: the pure side of ParseFramework. -/
import Derived.Test.YtehendofgcebcaaDoorParG
import Derived.Test.YtehendofgcebcaaDoorParI
import Derived.Test.YtehendofgcebcaaDoorParW
import Derived.Test.YtehendofgcebcaaDoorFfM
import Derived.Test.YtehendofgcebcaaDoorParE
import Derived.Test.YtehendofgcebcaaDoorFw
import Derived.Test.YtehendofgcebcaaDoorFfS
import Derived.Test.YtehendofgcebcaaDoorParS
import Derived.Deep.RegionHeld3
import Derived.Deep.AppendLies
import Derived.Test.YtehendofgcebcaaDoorFfI
import Derived.Test.YtehendofgcebcaaDoorParT
namespace Go.Proofs.YtehendofgcebcaaDoor
open Go.RowKit

def atS : ByteArray := ⟨#[97, 116]⟩
theorem nil_app (z : ByteArray) : (⟨#[]⟩ : ByteArray) ++ z = z := by apply ByteArray.ext; simp [ByteArray.data_append]
/-- Words behind each other, with blanks between. -/
def joinL : List (List UInt8) → List UInt8
  | [] => []
  | w :: ws => w ++ restL ws
theorem restL_app (a b : List (List UInt8)) : restL (a ++ b) = restL a ++ restL b := by simp [restL]
theorem joinL_app (a b : List (List UInt8)) (h : a ≠ []) : joinL (a ++ b) = joinL a ++ restL b := by
  cases a with
  | nil => exact absurd rfl h
  | cons w ws => simp [joinL, restL_app]
theorem joinL_last (a : List (List UInt8)) (x y : List UInt8) : joinL (a ++ [x ++ y]) = joinL (a ++ [x]) ++ y := by
  cases a with
  | nil => simp [joinL, restL]
  | cons w ws => simp [joinL, restL]
/-- What is cut at the blanks is the text when it is joined again. -/
theorem fold_join : ∀ (l : List UInt8) (st : List ByteArray × ByteArray), joinL (((l.foldl (cutF 32) st).1 ++ [(l.foldl (cutF 32) st).2]).map fun x => x.data.toList) = joinL ((st.1 ++ [st.2]).map fun x => x.data.toList) ++ l := by
  intro l
  induction l with
  | nil => intro st; simp
  | cons b l ih =>
    intro st
    rw [List.foldl_cons, ih]
    by_cases hb : (b.toNat : Int) = 32
    · have hb' : b = 32 := UInt8.toNat_inj.1 (by show b.toNat = 32; omega)
      unfold cutF
      rw [if_pos hb]
      simp only [List.map_append, List.map_cons, List.map_nil]
      rw [joinL_app _ _ (by simp)]
      subst hb'
      simp [restL]
    · unfold cutF
      rw [if_neg hb]
      simp only [List.map_append, List.map_cons, List.map_nil, ByteArray.data_append, Array.toList_append]
      rw [joinL_last]
      simp
theorem cut_join (s : ByteArray) : joinL ((cutB s 32).map fun x => x.data.toList) = s.data.toList := by
  rw [cutB_fold, fold_join]
  simp [joinL, restL]
/-- The first words joined. -/
def tjB (ws : List ByteArray) : Nat → ByteArray
  | 0 => ws.getD 0 ⟨#[]⟩
  | k + 1 => (tjB ws k ++ ⟨#[32]⟩) ++ ws.getD (k + 1) ⟨#[]⟩
theorem tjB_join (ws : List ByteArray) : ∀ k, k < ws.length → (tjB ws k).data.toList = joinL ((ws.take (k + 1)).map fun x => x.data.toList)
  | 0, h => by
    cases ws with
    | nil => simp at h
    | cons w t => simp [tjB, joinL, restL]
  | k + 1, h => by
    have ht : ws.take (k + 1 + 1) = ws.take (k + 1) ++ [ws.getD (k + 1) ⟨#[]⟩] := by
      rw [List.take_succ_eq_append_getElem h, List.getD_eq_getElem?_getD, List.getElem?_eq_getElem h]
      rfl
    unfold tjB
    rw [ht, List.map_append, joinL_app _ _ (by intro e; have h9 := congrArg List.length e; rw [List.length_map, List.length_take, List.length_nil] at h9; omega), ByteArray.data_append, Array.toList_append, ByteArray.data_append, Array.toList_append, tjB_join ws k (by omega)]
    simp [restL]
theorem tjB_size (s : ByteArray) (k : Nat) (hk : k < (cutB s 32).length) : (tjB (cutB s 32) k).size ≤ s.size := by
  have h1 := congrArg List.length (tjB_join (cutB s 32) k hk)
  have h2 := congrArg List.length (cut_join s)
  rw [← List.take_append_drop (k + 1) (cutB s 32), List.map_append, joinL_app _ _ (by intro e; have h9 := congrArg List.length e; rw [List.length_map, List.length_take, List.length_nil] at h9; omega), List.length_append] at h2
  have e1 : (tjB (cutB s 32) k).data.toList.length = (tjB (cutB s 32) k).size := rfl
  have e2 : s.data.toList.length = s.size := rfl
  omega
/-- The places that words write. -/
noncomputable def parseP (ws : List ByteArray) : List (Int × Int) := ws.map fun w => (numS ((cutB w 44).getD 0 ⟨#[]⟩), numS ((cutB w 44).getD 1 ⟨#[]⟩))
theorem plS_bytes (x : Int × Int) (h : (0 ≤ x.1 ∧ x.1 ≤ 8) ∧ 0 ≤ x.2 ∧ x.2 ≤ 8) : ∀ y ∈ (plS x).data.toList, (y.toNat : Int) ≠ 32 := by
  intro y hy
  unfold plS at hy
  rw [ByteArray.data_append, Array.toList_append, ByteArray.data_append, Array.toList_append] at hy
  simp only [List.mem_append] at hy
  rcases hy with (hy | hy) | hy
  · have := dig_bytes x.1 h.1.1 h.1.2 y hy; omega
  · simp at hy; subst hy; decide
  · have := dig_bytes x.2 h.2.1 h.2.2 y hy; omega
theorem cut_pl (x : Int × Int) (h : (0 ≤ x.1 ∧ x.1 ≤ 8) ∧ 0 ≤ x.2 ∧ x.2 ≤ 8) : cutB (plS x) 44 = [fmtS x.1, fmtS x.2] := by
  have h1 : ∀ y ∈ (fmtS x.1).data.toList, (y.toNat : Int) ≠ 44 := fun y hy => by have := dig_bytes x.1 h.1.1 h.1.2 y hy; omega
  have h2 : ∀ y ∈ (fmtS x.2).data.toList, (y.toNat : Int) ≠ 44 := fun y hy => by have := dig_bytes x.2 h.2.1 h.2.2 y hy; omega
  rw [cutB_fold]
  unfold plS
  rw [fold_app, fold_app, fold_plain 44 _ h1, fold_plain 44 _ h2, nil_app]
  have e1 : (⟨#[44]⟩ : ByteArray).data.toList.foldl (cutF 44) ([], fmtS x.1) = ([fmtS x.1], ⟨#[]⟩) := rfl
  rw [e1]
  simp [nil_app]
theorem mem_pl8 {p : Int} {l m : List (Int × Int)} (h : IsF p l m) (x : Int × Int) (hx : x ∈ m) : (0 ≤ x.1 ∧ x.1 ≤ 8) ∧ 0 ≤ x.2 ∧ x.2 ≤ 8 := by
  obtain ⟨k, hk, rfl⟩ := List.getElem_of_mem hx
  have h1 := on8 (h.grid k hk)
  rw [List.getD_eq_getElem?_getD, List.getElem?_eq_getElem hk] at h1
  exact h1
theorem parseP_txt {p : Int} {l m : List (Int × Int)} (h : IsF p l m) : parseP (m.map plS) = m := by
  unfold parseP
  rw [List.map_map]
  refine Eq.trans (List.map_congr_left (g := id) fun x hx => ?_) (List.map_id m)
  have h1 := mem_pl8 h x hx
  simp only [Function.comp_apply, id]
  rw [cut_pl x h1]
  exact Prod.ext (num_fmt x.1 h1.1.1 h1.1.2) (num_fmt x.2 h1.2.1 h1.2.2)
/-- The words of a framework's text. -/
def wordsF (p : Int) (l m : List (Int × Int)) (k : Nat) : List ByteArray := (wordsG p l l.length ++ [atS]) ++ (m.take k).map plS
theorem ftx_words {p : Int} {l m : List (Int × Int)} (h : IsF p l m) : ∀ k, k ≤ m.length → ((ftx p l m k).data.toList.foldl (cutF 32) ([], ⟨#[]⟩)).1 ++ [((ftx p l m k).data.toList.foldl (cutF 32) ([], ⟨#[]⟩)).2] = wordsF p l m k
  | 0, _ => by
    have ih := txt_words h.g l.length (Nat.le_refl _)
    unfold ftx
    rw [fmtG_yes (isGB_yes h.g), fold_app]
    generalize (txt p l l.length).data.toList.foldl (cutF 32) ([], ⟨#[]⟩) = st at ih ⊢
    have e1 : (⟨#[32, 97, 116]⟩ : ByteArray).data.toList.foldl (cutF 32) st = (st.1 ++ [st.2], ((⟨#[]⟩ : ByteArray) ++ ⟨#[97]⟩) ++ ⟨#[116]⟩) := rfl
    have e2 : ((⟨#[]⟩ : ByteArray) ++ ⟨#[97]⟩) ++ ⟨#[116]⟩ = atS := by rw [nil_app]; rfl
    rw [e1, e2, ih]
    simp [wordsF]
  | k + 1, hk => by
    have ih := ftx_words h k (by omega)
    have hb := plS_bytes _ (on8 (h.grid k (by omega)))
    unfold ftx
    rw [fold_app, fold_app, fold_plain 32 _ hb]
    generalize (ftx p l m k).data.toList.foldl (cutF 32) ([], ⟨#[]⟩) = st at ih ⊢
    have e1 : (⟨#[32]⟩ : ByteArray).data.toList.foldl (cutF 32) st = (st.1 ++ [st.2], ⟨#[]⟩) := rfl
    rw [e1, ih, nil_app]
    have ht : m.take (k + 1) = m.take k ++ [m.getD k (0, 0)] := by
      rw [List.take_succ_eq_append_getElem (by omega : k < m.length), List.getD_eq_getElem?_getD, List.getElem?_eq_getElem (by omega)]
      rfl
    simp [wordsF, ht]
theorem cut_ftx {p : Int} {l m : List (Int × Int)} {s : ByteArray} (h : IsF p l m) (hs : ftx p l m m.length = s) : cutB s 32 = (wordsG p l l.length ++ [atS]) ++ m.map plS := by
  rw [← hs, cutB_fold, ftx_words h _ (Nat.le_refl _), wordsF, List.take_length]
theorem wordsG_len (p : Int) (l : List (Int × Int)) : (wordsG p l l.length).length = l.length + 1 := by simp [wordsG]
/-- No word of a graph is the word between. -/
theorem word_ne {p : Int} {l : List (Int × Int)} (h : IsG p l) : ∀ w ∈ wordsG p l l.length, w ≠ atS := by
  intro w hw e
  have hd : ∀ (n : Int) (z : ByteArray), 0 ≤ n → n ≤ 8 → fmtS n ++ z = w → False := fun n z h0 h8 hz => by
    obtain ⟨d, hd, h1, h2⟩ := dig_list n h0 h8
    have := congrArg (fun x : ByteArray => x.data.toList) (hz.trans e)
    simp only [ByteArray.data_append, Array.toList_append, hd] at this
    have h3 : (d :: z.data.toList) = [97, 116] := this
    injection h3 with h3 _
    subst h3
    exact absurd h2 (by decide)
  unfold wordsG at hw
  rw [List.take_length] at hw
  rcases List.mem_cons.1 hw with rfl | hw
  · exact hd p ⟨#[58]⟩ (by have := h.1; omega) (by have := h.1; omega) rfl
  · obtain ⟨x, hx, rfl⟩ := List.mem_map.1 hw
    have h8 := mem_bar8 h x hx
    refine hd x.1 (⟨#[45]⟩ ++ fmtS x.2) h8.1.1 h8.1.2 ?_
    unfold barS
    rw [ByteArray.append_assoc]
/-- The words before the word between, joined, are the graph's text. -/
theorem tj_txt {p : Int} {l : List (Int × Int)} (t : List ByteArray) : ∀ k, k ≤ l.length → tjB (wordsG p l l.length ++ t) k = txt p l k
  | 0, _ => by simp [tjB, wordsG, txt]
  | k + 1, hk => by
    unfold tjB txt
    rw [tj_txt t k (by omega)]
    have e : (wordsG p l l.length ++ t).getD (k + 1) ⟨#[]⟩ = barS (l.getD k (0, 0)) := by
      unfold wordsG
      rw [List.take_length, List.cons_append, List.getD_cons_succ, List.getD_eq_getElem?_getD, List.getElem?_append_left (by simp; omega), List.getElem?_map, List.getElem?_eq_getElem (by omega), List.getD_eq_getElem?_getD, List.getElem?_eq_getElem (by omega)]
      rfl
    rw [e]
/-- What ParseFramework is to answer. -/
def PF (s : ByteArray) (q : Int) (l m : List (Int × Int)) (b : Bool) : Prop := (b = true ∧ IsF q l m ∧ ftx q l m m.length = s) ∨ (b = false ∧ q = 0 ∧ l = [] ∧ m = [] ∧ ∀ p l' m', IsF p l' m' → ftx p l' m' m'.length ≠ s)
theorem pf_no {s : ByteArray} (h : ∀ p l' m', IsF p l' m' → ftx p l' m' m'.length ≠ s) : PF s 0 [] [] false := .inr ⟨rfl, rfl, rfl, rfl, h⟩
/-- Where the word between stands. -/
theorem at_place {p : Int} {l m : List (Int × Int)} {s : ByteArray} (h : IsF p l m) (hs : ftx p l m m.length = s) {k : Nat} (hk : ∀ j, j < k → (cutB s 32).getD j ⟨#[]⟩ ≠ atS) (hk' : k = (cutB s 32).length ∨ (cutB s 32).getD k ⟨#[]⟩ = atS) (_hle : k ≤ (cutB s 32).length) : k = l.length + 1 ∧ k < (cutB s 32).length := by
  have hw := cut_ftx h hs
  have hg := wordsG_len p l
  have ha : (cutB s 32).getD (l.length + 1) ⟨#[]⟩ = atS := by
    rw [hw, List.append_assoc, List.getD_eq_getElem?_getD, List.getElem?_append_right (by omega), hg, Nat.sub_self]
    rfl
  have hl : l.length + 1 < (cutB s 32).length := by rw [hw]; simp [hg]
  have h1 : k ≤ l.length + 1 := Nat.le_of_not_lt fun hlt => hk _ hlt ha
  have h2 : ¬ k < l.length + 1 := fun hlt => by
    rcases hk' with e | e
    · omega
    · refine word_ne h.g _ ?_ e
      rw [hw, List.append_assoc, List.getD_eq_getElem?_getD, List.getElem?_append_left (by omega), List.getElem?_eq_getElem (by omega)]
      exact List.getElem_mem _
  omega
theorem tail_words {p : Int} {l m : List (Int × Int)} {s : ByteArray} (h : IsF p l m) (hs : ftx p l m m.length = s) : (cutB s 32).drop (l.length + 1 + 1) = m.map plS := by
  have hg := wordsG_len p l
  rw [cut_ftx h hs, List.drop_append_of_le_length (by simp [hg]), List.drop_of_length_le (by simp [hg]), List.nil_append]
/-- What is answered once every word is read. -/
theorem pf_end {s : ByteArray} {q : Int} {l m : List (Int × Int)} {is : Bool} {k : Nat} (hk : ∀ j, j < k → (cutB s 32).getD j ⟨#[]⟩ ≠ atS) (hka : (cutB s 32).getD k ⟨#[]⟩ = atS) (h0 : 0 < k) (hkl : k < (cutB s 32).length) (hg : PG (tjB (cutB s 32) (k - 1)) q l is) (hm : m = parseP ((cutB s 32).drop (k + 1))) :
    (is = true → fmtF q l m = s → PF s q l m true) ∧ (is = false ∨ ¬ fmtF q l m = s → PF s 0 [] [] false) := by
  constructor
  · intro _ h
    by_cases hF : isFB q l m = true
    · exact .inl ⟨rfl, isFB_iff.1 hF, by rw [← fmtF_yes hF]; exact h⟩
    · exfalso
      rw [fmtF_no (by simpa using hF)] at h
      subst h
      have : (cutB (⟨#[]⟩ : ByteArray) 32).length = 1 := rfl
      omega
  · intro h
    refine pf_no fun p l' m' hF hs => ?_
    obtain ⟨e, _⟩ := at_place hF hs hk (.inr hka) (Nat.le_of_lt hkl)
    subst e
    have ht : tjB (cutB s 32) (l'.length + 1 - 1) = txt p l' l'.length := by
      rw [cut_ftx hF hs, List.append_assoc]
      exact tj_txt _ _ (Nat.le_refl _)
    rw [ht] at hg
    obtain ⟨rfl, rfl, rfl⟩ := PG.unique hg (.inl ⟨rfl, hF.g, rfl⟩)
    have e2 : m = m' := by rw [hm, tail_words hF hs, parseP_txt hF]
    subst e2
    rcases h with h | h
    · cases h
    · exact h (by rw [fmtF_yes (isFB_yes hF)]; exact hs)
theorem pf_at {s : ByteArray} {k : Nat} (hk : ∀ j, j < k → (cutB s 32).getD j ⟨#[]⟩ ≠ atS) (hle : k ≤ (cutB s 32).length) (h : (k = 0 ∧ (cutB s 32).getD k ⟨#[]⟩ = atS) ∨ k = (cutB s 32).length) : PF s 0 [] [] false :=
  pf_no fun p l m hF hs => by
    have := at_place hF hs hk (by rcases h with h | h; exact .inr h.2; exact .inl h) hle
    omega
theorem pf_word {s : ByteArray} {k i : Nat} (hk : ∀ j, j < k → (cutB s 32).getD j ⟨#[]⟩ ≠ atS) (hka : (cutB s 32).getD k ⟨#[]⟩ = atS) (hkl : k < (cutB s 32).length) (h1 : k < i) (hi : i < (cutB s 32).length) (h : (cutB ((cutB s 32).getD i ⟨#[]⟩) 44).length ≠ 2) : PF s 0 [] [] false :=
  pf_no fun p l m hF hs => by
    obtain ⟨e, _⟩ := at_place hF hs hk (.inr hka) (Nat.le_of_lt hkl)
    subst e
    apply h
    have ht := tail_words hF hs
    have hlen : m.length = (cutB s 32).length - (l.length + 1 + 1) := by rw [← List.length_map (f := plS), ← ht, List.length_drop]
    have e : (cutB s 32).getD i ⟨#[]⟩ = plS (m.getD (i - (l.length + 2)) (0, 0)) := by
      have : (cutB s 32).getD i ⟨#[]⟩ = ((cutB s 32).drop (l.length + 1 + 1)).getD (i - (l.length + 2)) ⟨#[]⟩ := by
        rw [List.getD_eq_getElem?_getD, List.getD_eq_getElem?_getD, List.getElem?_drop]
        congr 2
        omega
      rw [this, ht, List.getD_eq_getElem?_getD, List.getElem?_map, List.getElem?_eq_getElem (by omega), List.getD_eq_getElem?_getD, List.getElem?_eq_getElem (by omega)]
      rfl
    rw [e, cut_pl _ (on8 (hF.grid _ (by omega)))]
    rfl
theorem parseP_step (ws : List ByteArray) (b i : Nat) (h1 : b ≤ i) (hi : i < ws.length) : parseP ((ws.drop b).take (i + 1 - b)) = parseP ((ws.drop b).take (i - b)) ++ [(numS ((cutB (ws.getD i ⟨#[]⟩) 44).getD 0 ⟨#[]⟩), numS ((cutB (ws.getD i ⟨#[]⟩) 44).getD 1 ⟨#[]⟩))] := by
  have hl : i - b < (ws.drop b).length := by simp; omega
  rw [show i + 1 - b = i - b + 1 by omega, List.take_succ_eq_append_getElem hl]
  have e : (ws.drop b)[i - b] = ws.getD i ⟨#[]⟩ := by
    rw [List.getElem_drop, List.getD_eq_getElem?_getD, List.getElem?_eq_getElem hi]
    simp [show b + (i - b) = i by omega]
  rw [e]
  simp [parseP]
theorem ftx_len {p : Int} {l m : List (Int × Int)} (h : IsF p l m) : ∀ k, k ≤ m.length → (ftx p l m k).size = 5 + 4 * l.length + 4 * k
  | 0, _ => by
    have h1 := txt_len h.g l.length (Nat.le_refl _)
    have h3 : (⟨#[32, 97, 116]⟩ : ByteArray).size = 3 := rfl
    unfold ftx
    rw [fmtG_yes (isGB_yes h.g), size_app]
    omega
  | k + 1, hk => by
    have h1 := ftx_len h k (by omega)
    have h8 := on8 (h.grid k (by omega))
    have d1 := dig_size _ h8.1.1 h8.1.2
    have d2 := dig_size _ h8.2.1 h8.2.2
    have h3 : (⟨#[32]⟩ : ByteArray).size = 1 := rfl
    have h4 : (⟨#[44]⟩ : ByteArray).size = 1 := rfl
    unfold ftx plS
    rw [size_app, size_app, size_app, size_app]
    omega
theorem pf_long {s : ByteArray} (h : 89 < s.size) : PF s 0 [] [] false := pf_no fun p l m hF hs => by
  have h1 := ftx_len hF m.length (Nat.le_refl _)
  have h2 := hF.bars
  have h3 := hF.len
  have h4 := hF.six
  rw [hs] at h1
  omega
theorem PF.unique {s : ByteArray} {q q' : Int} {l l' m m' : List (Int × Int)} {b b' : Bool} (h : PF s q l m b) (h' : PF s q' l' m' b') : q = q' ∧ l = l' ∧ m = m' ∧ b = b' := by
  rcases h with ⟨rfl, h1, h2⟩ | ⟨rfl, rfl, rfl, rfl, h1⟩
  · rcases h' with ⟨rfl, k1, k2⟩ | ⟨rfl, rfl, rfl, rfl, k1⟩
    · have hk : ∀ j, j < l.length + 1 → (cutB s 32).getD j ⟨#[]⟩ ≠ atS := fun j hj e => by
        refine word_ne h1.g _ ?_ e
        have hg := wordsG_len q l
        rw [cut_ftx h1 h2, List.append_assoc, List.getD_eq_getElem?_getD, List.getElem?_append_left (by omega), List.getElem?_eq_getElem (by omega)]
        exact List.getElem_mem _
      have hw := cut_ftx h1 h2
      have hg := wordsG_len q l
      have ha : (cutB s 32).getD (l.length + 1) ⟨#[]⟩ = atS := by
        rw [hw, List.append_assoc, List.getD_eq_getElem?_getD, List.getElem?_append_right (by omega), hg, Nat.sub_self]
        rfl
      have hl : l.length + 1 < (cutB s 32).length := by rw [hw]; simp [hg]
      obtain ⟨e, _⟩ := at_place k1 k2 hk (.inr ha) (Nat.le_of_lt hl)
      have t1 : tjB (cutB s 32) l.length = txt q l l.length := by rw [hw, List.append_assoc]; exact tj_txt _ _ (Nat.le_refl _)
      have t2 : tjB (cutB s 32) l'.length = txt q' l' l'.length := by rw [cut_ftx k1 k2, List.append_assoc]; exact tj_txt _ _ (Nat.le_refl _)
      rw [show l.length = l'.length by omega, t2] at t1
      obtain ⟨rfl, rfl⟩ := txt_inj h1.g (by rw [show l.length = l'.length by omega]; exact t1.symm) k1.g rfl
      exact ⟨rfl, rfl, by rw [← parseP_txt h1, ← tail_words h1 h2, tail_words k1 k2, parseP_txt k1], rfl⟩
    · exact absurd h2 (k1 _ _ _ h1)
  · rcases h' with ⟨rfl, k1, k2⟩ | ⟨rfl, rfl, rfl, rfl, k1⟩
    · exact absurd k2 (h1 _ _ _ k1)
    · exact ⟨rfl, rfl, rfl, rfl⟩
/-! the program's words -/
theorem index_at (R : List UInt8) : ∀ A : List UInt8, (∀ x ∈ A, x ≠ 97) → Lib.index (A ++ 32 :: 97 :: 116 :: R) [32, 97, 116] = A.length
  | [], _ => by simp [Lib.index]
  | b :: A, h => by
    have ih := index_at R A (fun x hx => h x (.tail _ hx))
    have hne : ([32, 97, 116] : List UInt8).isPrefixOf (b :: (A ++ 32 :: 97 :: 116 :: R)) = false := by
      cases A with
      | nil => simp [List.isPrefixOf]
      | cons c A =>
        have : c ≠ 97 := h c (by simp)
        have h2 : ((97 : UInt8) == c) = false := by simpa using Ne.symm this
        simp [List.isPrefixOf, h2]
    rw [List.cons_append, Lib.index, hne, ih]
    have h3 : ((A.length : Int) == -1) = false := by simp
    simp [h3]
theorem cut_at (A R : List UInt8) (h : ∀ x ∈ A, x ≠ 97) : Lib.cut (A ++ 32 :: 97 :: 116 :: R) [32, 97, 116] = (A, R, true) := by
  unfold Lib.cut
  rw [index_at R A h, if_pos (by omega)]
  have e : A ++ 32 :: 97 :: 116 :: R = (A ++ [32, 97, 116]) ++ R := by simp
  have e2 : ((A.length : Int).toNat + ([32, 97, 116] : List UInt8).length) = (A ++ [32, 97, 116]).length := by simp
  refine Prod.ext ?_ (Prod.ext ?_ rfl)
  · simp
  · show List.drop ((A.length : Int).toNat + ([32, 97, 116] : List UInt8).length) (A ++ 32 :: 97 :: 116 :: R) = R
    rw [e2, e, List.drop_left]
theorem ftx_rest {p : Int} {l m : List (Int × Int)} : ∀ k, k ≤ m.length → (ftx p l m k).data.toList = (fmtG p l).data.toList ++ 32 :: 97 :: 116 :: restL ((m.take k).map fun x => (plS x).data.toList)
  | 0, _ => by
    unfold ftx
    rw [ByteArray.data_append, Array.toList_append]
    rfl
  | k + 1, hk => by
    have ht : m.take (k + 1) = m.take k ++ [m.getD k (0, 0)] := by
      rw [List.take_succ_eq_append_getElem (by omega : k < m.length), List.getD_eq_getElem?_getD, List.getElem?_eq_getElem (by omega)]
      rfl
    unfold ftx
    rw [ByteArray.data_append, Array.toList_append, ByteArray.data_append, Array.toList_append, ftx_rest k (by omega), ht]
    simp [restL]
theorem fmtG_bytes {p : Int} {l : List (Int × Int)} (h : IsG p l) : ∀ x ∈ (fmtG p l).data.toList, x ≠ 97 := by
  rw [fmtG_yes (isGB_yes h), txt_rest l.length (Nat.le_refl _), List.take_length]
  intro x hx e
  subst e
  rcases List.mem_append.1 hx with hx | hx
  · have := (dig_bytes p (by have := h.1; omega) (by have := h.1; omega) _ hx).2
    exact absurd this (by decide)
  · rcases List.mem_cons.1 hx with hx | hx
    · exact absurd hx (by decide)
    · obtain ⟨y, hy, hx⟩ := List.mem_flatMap.1 hx
      obtain ⟨z, hz, rfl⟩ := List.mem_map.1 hy
      have h8 := mem_bar8 h z hz
      rcases List.mem_cons.1 hx with hx | hx
      · exact absurd hx (by decide)
      · unfold barS at hx
        rw [ByteArray.data_append, Array.toList_append, ByteArray.data_append, Array.toList_append] at hx
        simp only [List.mem_append] at hx
        rcases hx with (hx | hx) | hx
        · exact absurd (dig_bytes z.1 h8.1.1 h8.1.2 _ hx).2 (by decide)
        · simp at hx
        · exact absurd (dig_bytes z.2 h8.2.1 h8.2.2 _ hx).2 (by decide)
theorem pl_word (x : Int × Int) (h : (0 ≤ x.1 ∧ x.1 ≤ 8) ∧ 0 ≤ x.2 ∧ x.2 ≤ 8) : (plS x).data.toList ≠ [] ∧ ∀ y ∈ (plS x).data.toList, Wd y := by
  have hd : ∀ y : UInt8, 48 ≤ (y.toNat : Int) ∧ (y.toNat : Int) ≤ 56 → Wd y := fun y hy => by
    obtain ⟨h1, h2⟩ := hy
    have h3 : 48 ≤ y.toNat := by omega
    have h4 : y.toNat ≤ 56 := by omega
    refine ⟨by omega, ?_⟩
    generalize y.toNat = n at h3 h4
    unfold Lib.isSpaceR
    simp
    omega
  unfold plS
  rw [ByteArray.data_append, Array.toList_append, ByteArray.data_append, Array.toList_append]
  refine ⟨by simp, fun y hy => ?_⟩
  simp only [List.mem_append] at hy
  rcases hy with (hy | hy) | hy
  · exact hd y (dig_bytes x.1 h.1.1 h.1.2 y hy)
  · have : y = 44 := by simpa using hy
    subst this
    exact ⟨by decide, by decide⟩
  · exact hd y (dig_bytes x.2 h.2.1 h.2.2 y hy)
theorem pl_cut (x : Int × Int) (h : (0 ≤ x.1 ∧ x.1 ≤ 8) ∧ 0 ≤ x.2 ∧ x.2 ≤ 8) : Lib.cut (plS x).data.toList [44] = ((fmtS x.1).data.toList, (fmtS x.2).data.toList, true) := by
  obtain ⟨d, hd, h1, h2⟩ := dig_list x.1 h.1.1 h.1.2
  unfold plS
  rw [ByteArray.data_append, Array.toList_append, ByteArray.data_append, Array.toList_append, hd]
  exact cut_two d 44 _ (fun e => by subst e; exact absurd h1 (by decide))
/-- The places that the program reads. -/
noncomputable def parseQ (ws : List (List UInt8)) : List (Int × Int) := ws.map fun y => (piN ⟨(Lib.cut y [44]).1.toArray⟩, piN ⟨(Lib.cut y [44]).2.1.toArray⟩)
theorem parseQ_txt {p : Int} {l m : List (Int × Int)} (h : IsF p l m) : parseQ (m.map fun x => (plS x).data.toList) = m := by
  unfold parseQ
  rw [List.map_map]
  refine Eq.trans (List.map_congr_left (g := id) fun x hx => ?_) (List.map_id m)
  have h1 := mem_pl8 h x hx
  simp only [Function.comp_apply, id]
  rw [pl_cut x h1]
  exact Prod.ext (pi_fmt x.1 h1.1.1 h1.1.2) (pi_fmt x.2 h1.2.1 h1.2.2)
theorem ftx_fields {p : Int} {l m : List (Int × Int)} (h : IsF p l m) : Lib.fieldsD (restL (m.map fun x => (plS x).data.toList)) = m.map fun x => (plS x).data.toList :=
  fields_words _ fun w hw => by
    obtain ⟨x, hx, rfl⟩ := List.mem_map.1 hw
    exact pl_word x (mem_pl8 h x hx)
theorem ftx_cut {p : Int} {l m : List (Int × Int)} (h : IsF p l m) : Lib.cut (ftx p l m m.length).data.toList [32, 97, 116] = ((fmtG p l).data.toList, restL (m.map fun x => (plS x).data.toList), true) := by
  rw [ftx_rest m.length (Nat.le_refl _), List.take_length]
  exact cut_at _ _ (fmtG_bytes h.g)
/-- What the program answers once every word is read. -/
theorem pfI_end {s : ByteArray} {q : Int} {l m : List (Int × Int)} {is : Bool} (hg : PG ⟨(Lib.cut s.data.toList [32, 97, 116]).1.toArray⟩ q l is) (hm : m = parseQ (Lib.fieldsD (Lib.cut s.data.toList [32, 97, 116]).2.1)) :
    (isFB q l m = true → fmtF q l m = s → PF s q l m true) ∧ (is = false ∨ isFB q l m = false ∨ ¬ fmtF q l m = s → PF s 0 [] [] false) := by
  constructor
  · intro hF h
    exact .inl ⟨rfl, isFB_iff.1 hF, by rw [← fmtF_yes hF]; exact h⟩
  · intro h
    refine pf_no fun p l' m' hF hs => ?_
    have e0 := ftx_cut hF
    rw [hs] at e0
    rw [e0] at hg hm
    have e1 : (⟨(fmtG p l').data.toList.toArray⟩ : ByteArray) = fmtG p l' := by apply ByteArray.ext; simp
    simp only at hg hm
    rw [e1] at hg
    obtain ⟨rfl, rfl, rfl⟩ := PG.unique hg (.inl ⟨rfl, hF.g, (fmtG_yes (isGB_yes hF.g)).symm⟩)
    rw [ftx_fields hF, parseQ_txt hF] at hm
    subst hm
    rcases h with h | h | h
    · cases h
    · rw [isFB_yes hF] at h; cases h
    · exact h (by rw [fmtF_yes (isFB_yes hF)]; exact hs)
theorem pfI_none {s : ByteArray} {q : Int} {l : List (Int × Int)} (hg : PG ⟨(Lib.cut s.data.toList [32, 97, 116]).1.toArray⟩ q l false) : PF s 0 [] [] false := (pfI_end hg rfl).2 (.inl rfl)
end Go.Proofs.YtehendofgcebcaaDoor
/- A framework whose places are read one by one into a box, behind a graph that is read. No condition. -/
namespace Go.Proofs.YtehendofgcebcaaDoor
open Go.RowKit

/-- What ParseFramework returns: a framework of the call's own. -/
def ParseFO (w : World) (s : ByteArray) (e : Ending) (w' : World) : Prop := ∃ q l m b, PF s q l m b ∧ FwOB w q l m b e w'
/-- A framework stands in the box bg; its places are a row of blocks that are newer than w0. -/
structure FBox (w0 wr : World) (bg : Nat) (v0 v1 : Value) (A : Option Addr) (c : Nat) (l : List (Int × Int)) : Prop where
  lt : bg < wr.heap.size
  c0 : wr.cell? ⟨bg, 0, none⟩ = some v0
  c1 : wr.cell? ⟨bg, 1, none⟩ = some v1
  c2 : wr.cell? ⟨bg, 2, none⟩ = some (.slice A l.length c)
  f2 : wr.frozen? ⟨bg, 2, none⟩ = false
  ne : ∀ a, A = some a → a.block ≠ bg
  own : wr.ownsRow w0.heap.size 49 2 (.slice A l.length c) l.length (barCells l)
  keep : Below w0.heap.size w0 wr
  le : w0.heap.size ≤ bg
section
variable {w0 wr w' : World} {bg : Nat} {v0 v1 : Value} {A : Option Addr} {c : Nat} {l : List (Int × Int)}
theorem FBox.below (h : FBox w0 wr bg v0 v1 A c l) (hb : Below wr.heap.size wr w') : FBox w0 w' bg v0 v1 A c l :=
  ⟨Nat.lt_of_lt_of_le h.lt hb.size, (hb.cell (p := ⟨bg, 0, none⟩) h.lt).trans h.c0, (hb.cell (p := ⟨bg, 1, none⟩) h.lt).trans h.c1, (hb.cell (p := ⟨bg, 2, none⟩) h.lt).trans h.c2, (hb.frozen (p := ⟨bg, 2, none⟩) h.lt).trans h.f2, h.ne, own_below h.own hb, below_on h.keep hb h.keep.size, h.le⟩
theorem FBox.drew (h : FBox w0 wr bg v0 v1 A c l) : FBox w0 wr.drew bg v0 v1 A c l := h.below ((Below.refl _ _).drew)
theorem FBox.push {v' : Value} (h : FBox w0 wr bg v0 v1 A c l) (x : Int × Int)
    (ho : w'.ownsRow w0.heap.size 49 2 v' (l.length + 1) (barCells l ++ [.int .i64 x.1, .int .i64 x.2])) (hg : wr.grownBy w' (Value.slice A l.length c).ownBlock)
    (hat : v'.ownBlock = (Value.slice A l.length c).ownBlock ∨ v'.ownBlock = some (wr.heap.size + 1)) :
    w'.cell? ⟨bg, 2, none⟩ = some (.slice A l.length c) ∧ w'.frozen? ⟨bg, 2, none⟩ = false ∧ ∃ A2 c2, v' = .slice A2 (l.length + 1) c2 ∧ FBox w0 (w'.setCell ⟨bg, 2, none⟩ v') bg v0 v1 A2 c2 (l ++ [x]) := by
  have hne : some bg ≠ (Value.slice A l.length c).ownBlock := fun e => by
    cases A with
    | none => cases e
    | some a => cases e; exact h.ne a rfl rfl
  have hblk := hg.block bg h.lt hne
  have c0 := (World.cell?_of_block (a := ⟨bg, 0, none⟩) hblk).trans h.c0
  have c1 := (World.cell?_of_block (a := ⟨bg, 1, none⟩) hblk).trans h.c1
  have c2 := (World.cell?_of_block (a := ⟨bg, 2, none⟩) hblk).trans h.c2
  have f2 := (World.frozen?_of_block (a := ⟨bg, 2, none⟩) hblk).trans h.f2
  refine ⟨c2, f2, ?_⟩
  obtain ⟨A2, d2, rfl⟩ := own_shape ho
  refine ⟨A2, d2, rfl, ?_⟩
  have hA2 : ∀ a, A2 = some a → a.block ≠ bg := fun a e => by
    subst e
    rcases hat with hat | hat
    · cases A with
      | none => cases hat
      | some a0 =>
        have : a.block = a0.block := by simpa [Value.ownBlock] using hat
        rw [this]
        exact h.ne a0 rfl
    · have : a.block = wr.heap.size + 1 := by simpa [Value.ownBlock] using hat
      have := h.lt
      omega
  have hs := grownBy_set w' bg 2 (.slice A2 (l.length + 1) d2)
  have e2 : (l ++ [x]).length = l.length + 1 := by simp
  have e3 : barCells (l ++ [x]) = barCells l ++ [.int .i64 x.1, .int .i64 x.2] := by rw [barCells_append]; rfl
  have hle : w0.heap.size ≤ wr.heap.size := h.keep.size
  refine ⟨Nat.lt_of_lt_of_le (Nat.lt_of_lt_of_le h.lt hg.size) hs.size, ?_, ?_, ?_, ?_, hA2, ?_, ?_, h.le⟩
  · rw [World.cell?_setCell_other _ _ _ _ (by intro e; simp at e)]; exact c0
  · rw [World.cell?_setCell_other _ _ _ _ (by intro e; simp at e)]; exact c1
  · rw [e2]; exact World.cell?_setCell_same _ _ _ c2
  · rw [World.frozen?_setCell]; exact f2
  · rw [e2, e3]
    refine ho.kept hs ?_
    cases A2 with
    | none => exact .inl rfl
    | some a => exact .inr (by simp [Value.ownBlock]; exact hA2 a rfl)
  · exact (h.keep.grown hg hle fun g e => (h.own.lt g e).1).grown hs (Nat.le_trans hle hg.size) fun g e => by cases e; exact h.le
/-- A store into another block leaves it. -/
theorem FBox.other (h : FBox w0 wr bg v0 v1 A c l) (b k : Nat) (v : Value) (hb : b ≠ bg) (hA : ∀ a, A = some a → a.block ≠ b) (hB : w0.heap.size ≤ b) : FBox w0 (wr.setCell ⟨b, k, none⟩ v) bg v0 v1 A c l := by
  have hs := grownBy_set wr b k v
  have hblk := hs.block bg h.lt (by simp; exact fun e => hb e.symm)
  refine ⟨Nat.lt_of_lt_of_le h.lt hs.size, (World.cell?_of_block (a := ⟨bg, 0, none⟩) hblk).trans h.c0, (World.cell?_of_block (a := ⟨bg, 1, none⟩) hblk).trans h.c1, (World.cell?_of_block (a := ⟨bg, 2, none⟩) hblk).trans h.c2, (World.frozen?_of_block (a := ⟨bg, 2, none⟩) hblk).trans h.f2, h.ne, ?_, ?_, h.le⟩
  · refine h.own.kept hs ?_
    cases A with
    | none => exact .inl rfl
    | some a => exact .inr (by simp [Value.ownBlock]; exact hA a rfl)
  · exact h.keep.grown hs h.keep.size fun g e => by cases e; exact hB
/-- The framework is whole: it is the call's own, and the answer's variable stands. -/
theorem FBox.fin {w : World} {r f1 f2 ca : Nat} {T : TypeId} {u0 u1 u2 : Value} {B : Option Addr} {m : List (Int × Int)} (h : FBox w0 wr bg v0 v1 A c l) (hR : Cel3 w0 r T u0 u1 u2) (hO : OwnIn w0 f1 f2 B ca m) (hf : r + 1 ≤ f1) (hb : Below w.heap.size w w0) :
    Cel3 wr r T u0 u1 u2 ∧ OwnFw wr (r + 1) wr.heap.size B ca m A c l ∧ Below w.heap.size w wr :=
  ⟨hR.kept h.keep, ⟨(f1, f2), (w0.heap.size, wr.heap.size), hO.within (within_of h.keep) (.inr (Nat.zero_le _)), own_pl' h.own, .inl hO.1, ⟨hf, Nat.le_trans hO.1 h.keep.size⟩, ⟨hR.lt, Nat.le_refl _⟩, Nat.le_refl _⟩, below_on hb h.keep hb.size⟩
end
theorem fw_none {W : World} {lo : Nat} (h : lo ≤ W.heap.size) : OwnFw W lo W.heap.size none 0 [] none 0 [] :=
  ⟨(W.heap.size, W.heap.size), (W.heap.size, W.heap.size), ⟨Nat.le_refl _, .inl rfl⟩, ⟨Nat.le_refl _, .inl rfl⟩, .inl (Nat.le_refl _), ⟨h, Nat.le_refl _⟩, ⟨h, Nat.le_refl _⟩, Nat.le_refl _⟩
theorem fw_ret {w w6 : World} {r : Nat} {T : TypeId} {v0 v1 v2 : Value} {A2 B2 : Option Addr} {c2 d2 : Nat} {l m : List (Int × Int)} (hr : Cel3 w6 r T v0 v1 v2) (ho : OwnFw w6 (r + 1) w6.heap.size A2 c2 l B2 d2 m) (hb : Below w.heap.size w w6) (h : w.heap.size ≤ r) (p : Int) :
    (((w6.setCell ⟨r, 0, none⟩ (.int .i64 p)).setCell ⟨r, 1, none⟩ (.slice A2 l.length c2)).setCell ⟨r, 2, none⟩ (.slice B2 m.length d2)).cell? ⟨r, 0, none⟩ = some (.int .i64 p) ∧
    (((w6.setCell ⟨r, 0, none⟩ (.int .i64 p)).setCell ⟨r, 1, none⟩ (.slice A2 l.length c2)).setCell ⟨r, 2, none⟩ (.slice B2 m.length d2)).cell? ⟨r, 1, none⟩ = some (.slice A2 l.length c2) ∧
    (((w6.setCell ⟨r, 0, none⟩ (.int .i64 p)).setCell ⟨r, 1, none⟩ (.slice A2 l.length c2)).setCell ⟨r, 2, none⟩ (.slice B2 m.length d2)).cell? ⟨r, 2, none⟩ = some (.slice B2 m.length d2) ∧
    OwnFw (((w6.setCell ⟨r, 0, none⟩ (.int .i64 p)).setCell ⟨r, 1, none⟩ (.slice A2 l.length c2)).setCell ⟨r, 2, none⟩ (.slice B2 m.length d2)) w.heap.size (((w6.setCell ⟨r, 0, none⟩ (.int .i64 p)).setCell ⟨r, 1, none⟩ (.slice A2 l.length c2)).setCell ⟨r, 2, none⟩ (.slice B2 m.length d2)).heap.size A2 c2 l B2 d2 m ∧
    Below w.heap.size w (((w6.setCell ⟨r, 0, none⟩ (.int .i64 p)).setCell ⟨r, 1, none⟩ (.slice A2 l.length c2)).setCell ⟨r, 2, none⟩ (.slice B2 m.length d2)) := by
  obtain ⟨hc, hw⟩ := ret3 hr (.int .i64 p) (.slice A2 l.length c2) (.slice B2 m.length d2)
  have hO := ho.within hw (.inr (Nat.le_refl _))
  have hB := within_on hb hw hb.size (.inl h)
  have hs := hw.size
  generalize ((w6.setCell ⟨r, 0, none⟩ (.int .i64 p)).setCell ⟨r, 1, none⟩ (.slice A2 l.length c2)).setCell ⟨r, 2, none⟩ (.slice B2 m.length d2) = w7 at *
  obtain ⟨c0, c1, c2', _, _, _⟩ := hc.cells
  exact ⟨c0, c1, c2', hO.widen (by omega) hs (Nat.le_refl _), hB⟩
/-- Nothing is answered. -/
theorem fw_retn {w w6 : World} {r : Nat} {T : TypeId} {v0 v1 v2 : Value} (hr : Cel3 w6 r T v0 v1 v2) (hb : Below w.heap.size w w6) (h : w.heap.size ≤ r) :
    (((w6.setCell ⟨r, 0, none⟩ (.int .i64 0)).setCell ⟨r, 1, none⟩ (.slice none 0 0)).setCell ⟨r, 2, none⟩ (.slice none 0 0)).cell? ⟨r, 0, none⟩ = some (.int .i64 0) ∧
    (((w6.setCell ⟨r, 0, none⟩ (.int .i64 0)).setCell ⟨r, 1, none⟩ (.slice none 0 0)).setCell ⟨r, 2, none⟩ (.slice none 0 0)).cell? ⟨r, 1, none⟩ = some (.slice none 0 0) ∧
    (((w6.setCell ⟨r, 0, none⟩ (.int .i64 0)).setCell ⟨r, 1, none⟩ (.slice none 0 0)).setCell ⟨r, 2, none⟩ (.slice none 0 0)).cell? ⟨r, 2, none⟩ = some (.slice none 0 0) ∧
    FwOB w 0 [] [] false (.returned (.tuple #[.agg #[.int .i64 0, .slice none 0 0, .slice none 0 0], .bool false])) (((w6.setCell ⟨r, 0, none⟩ (.int .i64 0)).setCell ⟨r, 1, none⟩ (.slice none 0 0)).setCell ⟨r, 2, none⟩ (.slice none 0 0)) := by
  obtain ⟨c0, c1, c2, hO, hB⟩ := fw_ret hr (fw_none (lo := r + 1) hr.lt) hb h 0
  exact ⟨c0, c1, c2, none, 0, none, 0, rfl, hO, hB⟩
/-- A framework without places, just laid in a box. -/
theorem fbox_nil (W : World) (v0 v1 : Value) (T : TypeId) : FBox W (W.alloc (.cells #[v0, v1, .slice none 0 0] T)) W.heap.size v0 v1 none 0 [] := by
  have hb := new_below W (.cells #[v0, v1, .slice none 0 0] T)
  obtain ⟨c0, c1, c2, _, _, f2⟩ := (cel3_new W v0 v1 (.slice none 0 0) T).cells
  exact ⟨(cel3_new W v0 v1 (.slice none 0 0) T).lt, c0, c1, c2, f2, fun a e => (by cases e), ⟨rfl, .inl ⟨rfl, rfl⟩⟩, hb, Nat.le_refl _⟩
/-- The same with an empty row of its own. -/
theorem fbox_made (W : World) (v0 v1 : Value) (T : TypeId) : FBox W ((W.alloc (.cells #[] 49)).alloc (.cells #[v0, v1, .slice (some ⟨W.heap.size, 0, none⟩) 0 0] T)) (W.heap.size + 1) v0 v1 (some ⟨W.heap.size, 0, none⟩) 0 [] := by
  have hsz : (W.alloc (.cells #[] 49)).heap.size = W.heap.size + 1 := by simp
  have hb1 := new_below W (.cells #[] 49)
  have hb2 := new_below (W.alloc (.cells #[] 49)) (.cells #[v0, v1, .slice (some ⟨W.heap.size, 0, none⟩) 0 0] T)
  have hx := cel3_new (W.alloc (.cells #[] 49)) v0 v1 (.slice (some ⟨W.heap.size, 0, none⟩) 0 0) T
  rw [hsz] at hx
  have ho := World.ownsRow_made (base := W.heap.size) (e := 49) (size := 2) W #[] 0 (Nat.le_refl _) (by unfold maxLen; omega) (by simp)
  obtain ⟨c0, c1, c2, _, _, f2⟩ := hx.cells
  exact ⟨hx.lt, c0, c1, c2, f2, fun a e => (by cases e; show W.heap.size ≠ W.heap.size + 1; omega), own_below ho hb2, below_on hb1 hb2 hb1.size, by omega⟩
/-- How much room a text has. -/
theorem restL_len (l : List (List UInt8)) : l.length ≤ (restL l).length := by
  induction l with
  | nil => simp
  | cons x l ih => simp [restL] at ih ⊢; omega
theorem tj_room (s : ByteArray) (k : Nat) (hk : k < (cutB s 32).length) : (tjB (cutB s 32) k).size + ((cutB s 32).length - (k + 1)) ≤ s.size := by
  have h1 := congrArg List.length (tjB_join (cutB s 32) k hk)
  have h2 := congrArg List.length (cut_join s)
  rw [← List.take_append_drop (k + 1) (cutB s 32), List.map_append, joinL_app _ _ (by intro e; have h9 := congrArg List.length e; rw [List.length_map, List.length_take, List.length_nil] at h9; omega), List.length_append] at h2
  have h3 := restL_len (((cutB s 32).drop (k + 1)).map fun x => x.data.toList)
  rw [List.length_map, List.length_drop] at h3
  have e1 : (tjB (cutB s 32) k).data.toList.length = (tjB (cutB s 32) k).size := rfl
  have e2 : s.data.toList.length = s.size := rfl
  omega
theorem pg_room {s : ByteArray} {q : Int} {l : List (Int × Int)} (h : PG s q l true) : l.length ≤ s.size := by
  rcases h with ⟨_, h, hs⟩ | ⟨h, _⟩
  · have := txt_len h l.length (Nat.le_refl _)
    rw [← hs]
    omega
  · cases h
end Go.Proofs.YtehendofgcebcaaDoor
/- What spec.ParseFramework answers. -/
namespace Go.Proofs.YtehendofgcebcaaDoor
open Go.RowKit

set_option maxHeartbeats 4000000 in
set_option maxRecDepth 100000 in
theorem specParseF (s : ByteArray) (w : World) (hs : s.size ≤ 1048576) :
    Calls Tryd.prog 10 #[.string s] w (ParseFO w s) := by
  obtain ⟨i0, hi0, iz0, iz1, iz2⟩ := info_parts infoPlace
  have hA := new_below w (.cells #[.int .i64 0, .slice none 0 0, .slice none 0 0] 35)
  have HA := Lib.hid hA
  have HR1 := Lib.hid (cel3_new w (.int .i64 0) (.slice none 0 0) (.slice none 0 0) 35)
  have E97 := Lib.hid (show (⟨#[97, 116]⟩ : ByteArray).toList = [97, 116] by rw [ByteArray.toList_eq])
  have HML := Lib.hid (show (2000000 : Nat) ≤ maxLen by decide)
  clear hA
  go_enter Tryd.func10, Tryd.ntmps10
  go_wp2_with fail
  generalize (w.alloc (.cells #[.int .i64 0, .slice none 0 0, .slice none 0 0] 35)) = w1 at *
  refine (cut_c s 32 w1 hs).mono ?_
  rintro e w2 ⟨AW, cw, rfl, ho, hb⟩
  obtain ⟨g, rfl, hg1, hg2⟩ := words_block ho (cutB_pos s 32)
  have KW := Lib.hid (show ∀ W, Below w2.heap.size w2 W → ∀ i, i < (cutB s 32).length → W.cell? ⟨g, i, none⟩ = some (.string ((cutB s 32).getD i ⟨#[]⟩)) from fun W hb i hi => (hb.cell (p := ⟨g, i, none⟩) hg2).trans (words_cell ho i hi))
  have HR2S := Lib.hid (show w.heap.size + 1 ≤ w2.heap.size from Nat.lt_of_lt_of_le HR1.out.lt hb.size)
  have HB2 := Lib.hid (below_on HA.out hb HA.out.size)
  have HR2 := Lib.hid (HR1.out.kept hb)
  have hpos := cutB_pos s 32
  have hwl := cutB_len s 32
  have PAT := Lib.hid (fun k => @pf_at s k)
  have PWD := Lib.hid (fun k i => @pf_word s k i)
  have PEN := Lib.hid (fun q l m is k => @pf_end s q l m is k)
  have ROOM := Lib.hid (tj_room s)
  have TSZ := Lib.hid (tjB_size s)
  have GSZ := Lib.hid (cutB_get s 32)
  have PST := Lib.hid (parseP_step (cutB s 32))
  have HW0 := Lib.hid (show (cutB s 32).getD 0 ⟨#[]⟩ = tjB (cutB s 32) 0 from rfl)
  have TJS := Lib.hid (show ∀ j, tjB (cutB s 32) (j + 1) = (tjB (cutB s 32) j ++ ⟨#[32]⟩) ++ (cutB s 32).getD (j + 1) ⟨#[]⟩ from fun _ => rfl)
  clear ho hb
  obtain ⟨ws, hws⟩ : ∃ x, cutB s 32 = x := ⟨_, rfl⟩
  rw [hws] at KW hpos hwl PAT PWD PEN ROOM TSZ GSZ PST HW0 TJS ⊢
  clear hws
  go_wp2_with fail
  go_loopw [5] (fun i wr => ∃ k : Nat, k ≤ ws.length ∧ i = .int .i64 k ∧ w2 = wr ∧ ∀ j, j < k → ws.getD j ⟨#[]⟩ ≠ atS) (fun i _ => ws.length - (intOf i).toNat)
  case atStart => exact ⟨0, by omega, rfl, rfl, fun j h => by omega⟩
  case round =>
    obtain ⟨k, hk, rfl, rfl, hno⟩ := hrel
    have HNO := Lib.hid hno
    clear hno
    by_cases hlt : k < ws.length
    · have hik : (k : Int) < (ws.length : Int) := by omega
      have hck := KW.out _ (Below.refl _ _) k hlt
      obtain ⟨x, hx⟩ : ∃ x, ws.getD k ⟨#[]⟩ = x := ⟨_, rfl⟩
      rw [hx] at hck
      by_cases hat : x = atS
      · have HKA := Lib.hid (hx.trans hat)
        have hct := cmp_true (show x = ⟨#[97, 116]⟩ from hat)
        rw [E97.out] at hct
        clear hat hx
        by_cases h0 : k = 0
        · subst h0
          obtain ⟨s0, s1, s2, HFO⟩ := fw_retn HR2.out HB2.out (Nat.le_refl _)
          obtain ⟨r0, r1, r2, z0, z1, z2⟩ := (HR2.out).cells
          go_wp2_with fail
          refine bodyPost_ret (v := .tuple #[.agg #[.int .i64 0, .slice none 0 0, .slice none 0 0], .bool false]) ?_ rfl ⟨0, [], [], false, PAT.out _ HNO.out (by omega) (.inl ⟨rfl, HKA.out⟩), HFO⟩
          simp [results, Tryd.results10, go_sem, s0, s1, s2]
        · have e0 : ((k : Int) == 0) = false := by simp; omega
          have e1 : ((k : Int) == (ws.length : Int)) = false := by simp; omega
          have hc0 := KW.out _ (Below.refl _ _) 0 hpos
          have hpos' : (0 : Int) < (ws.length : Int) := by omega
          rw [HW0.out] at hc0
          go_wp2_with fail
          clear hck hct hc0
          go_loopw [6, 7] (fun x i wr => ∃ j : Nat, 1 ≤ j ∧ j ≤ k ∧ x = .string (tjB ws (j - 1)) ∧ i = .int .i64 j ∧ w2 = wr) (fun _ i _ => k - (intOf i).toNat)
          case atStart => exact ⟨1, by omega, by omega, rfl, rfl, rfl⟩
          case round =>
            obtain ⟨j, hj1, hj, rfl, rfl, rfl⟩ := hrel
            by_cases hjk : j < k
            · have hij : (j : Int) < (k : Int) := by omega
              have hil : (j : Int) < (ws.length : Int) := by omega
              have hcj := KW.out _ (Below.refl _ _) j (by omega)
              have z0 := TSZ.out (j - 1) (by omega)
              have z1 := TSZ.out j (by omega)
              have ej := TJS.out (j - 1)
              rw [show j - 1 + 1 = j by omega] at ej
              rw [ej] at z1
              have z3 : (⟨#[32]⟩ : ByteArray).size = 1 := rfl
              have z4 := size_app (tjB ws (j - 1)) ⟨#[32]⟩
              have z5 := HML.out
              have a1 : ∀ W : World, (Op.stringOp .add (tjB ws (j - 1)) (ByteArray.mk #[32])).run Tryd.prog W = .ok (.string (tjB ws (j - 1) ++ ⟨#[32]⟩)) W := fun W => run_string_add_sum W _ _ (by omega)
              have a2 : ∀ W : World, (Op.stringOp .add (tjB ws (j - 1) ++ ⟨#[32]⟩) (ws.getD j ⟨#[]⟩)).run Tryd.prog W = .ok (.string (tjB ws j)) W := fun W => by rw [ej]; exact run_string_add_sum W _ _ (by rw [size_app] at z1; omega)
              clear z0 z1 ej z3 z4 z5
              generalize ws.getD j ⟨#[]⟩ = y at *
              generalize tjB ws (j - 1) ++ ⟨#[32]⟩ = t1 at a1 a2
              obtain ⟨t0, ht0⟩ : ∃ x, tjB ws (j - 1) = x := ⟨_, rfl⟩
              rw [ht0] at a1 ⊢
              clear ht0
              go_wp2_with fail
              go_roundw
              case rel => exact ⟨j + 1, by omega, by omega, by rw [show j + 1 - 1 = j by omega], by go_num, (by first | trivial | rfl)⟩
              case measure => simp [intOf]; omega
            · obtain rfl : j = k := by omega
              have hzt := TSZ.out (j - 1) (by omega)
              have HRM := Lib.hid (ROOM.out (j - 1) (by omega))
              go_wp2_with fail
              refine (specParse (tjB ws (j - 1)) w2 (by omega)).mono ?_
              rintro e w3 ⟨q, l, is, hpg, AS, cs, rfl, hG, hb⟩
              have HR3 := Lib.hid (HR2.out.kept hb)
              have HB3 := Lib.hid (below_on HB2.out hb HB2.out.size)
              have KW3 := Lib.hid (fun W (h : Below w3.heap.size w3 W) => KW.out W (below_on hb h hb.size))
              have HG3 := Lib.hid hG
              have HPG := Lib.hid hpg
              have HSZ := Lib.hid hb.size
              clear hpg hG hb KW HR2
              go_upto_region 13 with fail
              have HX4 := Lib.hid (box_new w3 q (.slice AS l.length cs) 32)
              have hb := new_below w3 (.cells #[.int .i64 q, .slice AS l.length cs] 32)
              have HR4 := Lib.hid (HR3.out.kept hb)
              have HB4 := Lib.hid (below_on HB3.out hb HB3.out.size)
              have KW4 := Lib.hid (fun W (h : Below (w3.alloc (.cells #[.int .i64 q, .slice AS l.length cs] 32)).heap.size (w3.alloc (.cells #[.int .i64 q, .slice AS l.length cs] 32)) W) => KW3.out W (below_on hb h hb.size))
              have HG4 := Lib.hid (HG3.out.within (within_of hb) (.inr (Nat.zero_le _)))
              have HS4 := Lib.hid hb.size
              clear hb KW3 HG3 HR3
              generalize (w3.alloc (.cells #[.int .i64 q, .slice AS l.length cs] 32)) = w4 at *
              obtain ⟨_, x0, x1⟩ := HX4.out
              have HF5 := Lib.hid (fbox_made w4 (.int .i64 q) (.slice AS l.length cs) 35)
              go_wp2_with fail
              clear x0 x1
              generalize ((w4.alloc (.cells #[] 49)).alloc (.cells #[.int .i64 q, .slice AS l.length cs, .slice (some ⟨w4.heap.size, 0, none⟩) 0 0] 35)) = w5 at *
              go_loopw [11, 12] (fun i _ wr => ∃ n : Nat, j + 1 ≤ n ∧ n ≤ ws.length ∧ i = .int .i64 n ∧ ∃ A c m, m = parseP ((ws.drop (j + 1)).take (n - (j + 1))) ∧ FBox w4 wr (w4.heap.size + 1) (.int .i64 q) (.slice AS l.length cs) A c m) (fun i _ _ => ws.length - (intOf i).toNat)
              case atStart => exact ⟨j + 1, by omega, by omega, by go_num, _, _, [], by simp [parseP], HF5.out⟩
              case round =>
                obtain ⟨n, hn1, hn, rfl, A, c, m, hm, hf⟩ := hrel
                have HF := Lib.hid hf
                have HM := Lib.hid hm
                have hml : m.length + (j + 1) ≤ n := by rw [hm]; simp [parseP]; omega
                clear hf hm
                have hm20 : m.length ≤ 1048576 := by omega
                by_cases hnl : n < ws.length
                · have hin : (n : Int) < (ws.length : Int) := by omega
                  have hck := KW4.out _ HF.out.keep n hnl
                  have hzk := GSZ.out n hnl
                  have HPS := Lib.hid (PST.out (j + 1) n (by omega) hnl)
                  have HNW := Lib.hid (PWD.out _ _ HNO.out HKA.out hlt (by omega : j < n) hnl)
                  obtain ⟨h, hh⟩ : ∃ x, ws.getD n ⟨#[]⟩ = x := ⟨_, rfl⟩
                  rw [hh] at hck hzk HPS HNW
                  clear hh
                  go_wp2_with fail
                  clear hck
                  refine (cut_c h 44 wr (by omega)).mono ?_
                  rintro e w6 ⟨AP, cp, rfl, ho6, hb6⟩
                  obtain ⟨gp, rfl, hgp1, hgp2⟩ := words_block ho6 (cutB_pos h 44)
                  have G6 := Lib.hid (HF.out.below hb6)
                  have HP := Lib.hid ho6
                  clear ho6 hb6
                  by_cases hl2 : (cutB h 44).length = 2
                  · have hb0 := cutB_get h 44 0 (by omega)
                    have hb1 := cutB_get h 44 1 (by omega)
                    have hA0 := words_cell HP.out 0 (by omega)
                    have hA1 := words_cell HP.out 1 (by omega)
                    have hmx := HML.out
                    obtain ⟨a0, ha0⟩ : ∃ x, (cutB h 44).getD 0 ⟨#[]⟩ = x := ⟨_, rfl⟩
                    obtain ⟨a1, ha1⟩ : ∃ x, (cutB h 44).getD 1 ⟨#[]⟩ = x := ⟨_, rfl⟩
                    rw [ha0] at hA0 hb0 HPS
                    rw [ha1] at hA1 hb1 HPS
                    have HN0 := fun W => num_c a0 W (by omega)
                    have HN1 := fun W => num_c a1 W (by omega)
                    generalize numS a0 = n0 at *
                    generalize numS a1 = n1 at *
                    have HN0 := Lib.hid HN0
                    have HN1 := Lib.hid HN1
                    have hgb : gp ≠ w4.heap.size + 1 := by have := HF.out.lt; omega
                    have HOG := Lib.hid (show ∀ b, (Value.slice A m.length c).ownBlock = some b → b ≠ gp from fun b e => by have := (HF.out.own.lt b e).2; omega)
                    have C6 := Lib.hid (show w6.drew.cell? ⟨gp, 0, none⟩ = some (.string a0) ∧ w6.drew.cell? ⟨gp, 1, none⟩ = some (.string a1) from ⟨hA0, hA1⟩)
                    have Z6 := Lib.hid (show gp < w6.drew.heap.size from hgp2)
                    have G6d := Lib.hid G6.out.drew
                    rw [hl2]
                    clear hb0 hb1 hA0 hA1 ha0 ha1 hl2
                    go_wp2_with fail
                    refine wp_region_held_drew (S := (fun W' : World => W'.cell? ⟨gp, 0, none⟩ = some (.string a0) ∧ W'.cell? ⟨gp, 1, none⟩ = some (.string a1))) (by kernel_rfl) ?_ (fun hHeld => ?_)
                    · exact C6.out
                    refine wpAnyH_take (i := 0) (v := .pointer (some ⟨w4.heap.size + 1, 2, none⟩)) rfl (by kernel_rfl) (by kernel_rfl) (by kernel_rfl) (fun _ _ _ h => h) (Or.inl ⟨by kernel_rfl, fun w hSw => by (try dsimp only at hSw); go_simp; all_goals first | omega | exact IntWalk.i64_in _ (by omega)⟩) (by assumption) ?_
                    try simp only [Act.put, List.setIfInBounds_toArray]
                    refine wpAnyH_take (i := 2) (v := .slice (some ⟨gp, 0, none⟩) 2 cp) rfl (by kernel_rfl) (by kernel_rfl) (by kernel_rfl) (fun _ _ _ h => h) (Or.inl ⟨by kernel_rfl, fun w hSw => by (try dsimp only at hSw); go_simp; all_goals first | omega | exact IntWalk.i64_in _ (by omega)⟩) (by assumption) ?_
                    try simp only [Act.put]
                    refine wpAnyH_take (i := 3) (v := .pointer (some ⟨gp, 0, none⟩)) rfl (by kernel_rfl) (by kernel_rfl) (by kernel_rfl) (fun _ _ _ h => h) (Or.inl ⟨by kernel_rfl, fun w hSw => by (try dsimp only at hSw); go_simp; all_goals first | omega | exact IntWalk.i64_in _ (by omega)⟩) (by assumption) ?_
                    try simp only [Act.put]
                    refine wpAnyH_take (i := 4) (v := .string a0) rfl (by kernel_rfl) (by kernel_rfl) (by kernel_rfl) (fun _ _ _ h => h) (Or.inl ⟨by kernel_rfl, fun w hSw => by (try dsimp only at hSw); go_simp; all_goals first | omega | exact IntWalk.i64_in _ (by omega)⟩) (by assumption) ?_
                    try simp only [Act.put]
                    refine wpAnyH_take (i := 6) (v := .slice (some ⟨gp, 0, none⟩) 2 cp) rfl (by kernel_rfl) (by kernel_rfl) (by kernel_rfl) (fun _ _ _ h => h) (Or.inl ⟨by kernel_rfl, fun w hSw => by (try dsimp only at hSw); go_simp; all_goals first | omega | exact IntWalk.i64_in _ (by omega)⟩) (by assumption) ?_
                    try simp only [Act.put]
                    refine wpAnyH_take (i := 7) (v := .pointer (some ⟨gp, 1, none⟩)) rfl (by kernel_rfl) (by kernel_rfl) (by kernel_rfl) (fun _ _ _ h => h) (Or.inl ⟨by kernel_rfl, fun w hSw => by (try dsimp only at hSw); go_simp; all_goals first | omega | exact IntWalk.i64_in _ (by omega)⟩) (by assumption) ?_
                    try simp only [Act.put]
                    refine wpAnyH_take (i := 8) (v := .string a1) rfl (by kernel_rfl) (by kernel_rfl) (by kernel_rfl) (fun _ _ _ h => h) (Or.inl ⟨by kernel_rfl, fun w hSw => by (try dsimp only at hSw); go_simp; all_goals first | omega | exact IntWalk.i64_in _ (by omega)⟩) (by assumption) ?_
                    try simp only [Act.put]
                    refine wpAnyH_ready (rs := [1, 5]) (by kernel_rfl) (by simp) (AllReadyH.cons rfl (fun K hK => ?_) (AllReadyH.cons rfl (fun K hK => ?_) AllReadyH.nil))
                    · have q1 := G6d.out.c2
                      go_simp
                      clear q1
                      refine hK.out _ _ C6.out (fun hHeld => ?_)
                      clear hK K
                      try simp only [Act.put, List.setIfInBounds_toArray, List.set_cons_zero, List.set_cons_succ]
                      refine wpAnyH_ready (rs := [5]) (by kernel_rfl) (by simp) (AllReadyH.cons rfl (fun K hK => ?_) AllReadyH.nil)
                      go_simp
                      go_at_call 31
                      refine (HN0.out _).mono ?_
                      rintro e w7 ⟨rfl, hb⟩
                      have G7 := Lib.hid (G6d.out.below hb)
                      have C7 := Lib.hid (show w7.cell? ⟨gp, 0, none⟩ = some (.string a0) ∧ w7.cell? ⟨gp, 1, none⟩ = some (.string a1) from ⟨(hb.cell (p := ⟨gp, 0, none⟩) Z6.out).trans C6.out.1, (hb.cell (p := ⟨gp, 1, none⟩) Z6.out).trans C6.out.2⟩)
                      have Z7 := Lib.hid (Nat.lt_of_lt_of_le Z6.out hb.size)
                      clear hb
                      refine hK.out _ _ C7.out (fun hHeld => ?_)
                      clear hK K
                      try simp only [Act.put, List.setIfInBounds_toArray, List.set_cons_zero, List.set_cons_succ]
                      refine wpAnyH_ready (rs := [9]) (by kernel_rfl) (by simp) (AllReadyH.cons rfl (fun K hK => ?_) AllReadyH.nil)
                      go_simp
                      go_at_call 31
                      refine (HN1.out _).mono ?_
                      rintro e w8 ⟨rfl, hb⟩
                      have G8 := Lib.hid (G7.out.below hb)
                      have C8 := Lib.hid (show w8.cell? ⟨gp, 0, none⟩ = some (.string a0) ∧ w8.cell? ⟨gp, 1, none⟩ = some (.string a1) from ⟨(hb.cell (p := ⟨gp, 0, none⟩) Z7.out).trans C7.out.1, (hb.cell (p := ⟨gp, 1, none⟩) Z7.out).trans C7.out.2⟩)
                      have Z8 := Lib.hid (Nat.lt_of_lt_of_le Z7.out hb.size)
                      clear hb
                      refine hK.out _ _ C8.out (fun hHeld => ?_)
                      clear hK K
                      try simp only [Act.put, List.setIfInBounds_toArray, List.set_cons_zero, List.set_cons_succ]
                      refine wpAnyH_take (i := 10) (v := .agg #[.int .i64 n0, .int .i64 n1]) rfl (by kernel_rfl) (by kernel_rfl) (by kernel_rfl) (fun _ _ _ h => h) (Or.inl ⟨by kernel_rfl, fun w hSw => by (try dsimp only at hSw); go_simp; all_goals first | omega | exact IntWalk.i64_in _ (by omega)⟩) (by assumption) ?_
                      try simp only [Act.put, List.setIfInBounds_toArray]
                      refine wpAnyH_ready (rs := [11]) (by kernel_rfl) (by simp) (AllReadyH.cons rfl (fun K hK => ?_) AllReadyH.nil)
                      have hb := new_below w8 (.cells #[.int .i64 n0, .int .i64 n1] 49)
                      have G9 := Lib.hid (G8.out.below hb)
                      have C9 := Lib.hid (show (w8.alloc (.cells #[.int .i64 n0, .int .i64 n1] 49)).cell? ⟨gp, 0, none⟩ = some (.string a0) ∧ (w8.alloc (.cells #[.int .i64 n0, .int .i64 n1] 49)).cell? ⟨gp, 1, none⟩ = some (.string a1) from ⟨(hb.cell (p := ⟨gp, 0, none⟩) Z8.out).trans C8.out.1, (hb.cell (p := ⟨gp, 1, none⟩) Z8.out).trans C8.out.2⟩)
                      have Z9 := Lib.hid (Nat.lt_of_lt_of_le Z8.out hb.size)
                      have GA := Lib.hid (World.grownBy_alloc w8 (.cells #[.int .i64 n0, .int .i64 n1] 49) (Value.slice A m.length c).ownBlock)
                      have HN9 := Lib.hid (heap_alloc_new w8 (.cells #[.int .i64 n0, .int .i64 n1] 49))
                      have hs9 : (w8.alloc (.cells #[.int .i64 n0, .int .i64 n1] 49)).heap.size = w8.heap.size + 1 := by simp
                      have S9 := Lib.hid hs9
                      clear hb hs9
                      go_simp
                      generalize (w8.alloc (.cells #[.int .i64 n0, .int .i64 n1] 49)) = w9 at *
                      refine hK.out _ _ C9.out (fun hHeld => ?_)
                      clear hK K
                      try simp only [Act.put, List.setIfInBounds_toArray, List.set_cons_zero, List.set_cons_succ]
                      refine wpAnyH_ready (rs := [12]) (by kernel_rfl) (by simp) (AllReadyH.cons rfl (fun K hK => ?_) AllReadyH.nil)
                      refine step_append_lies _ (by rfl) _ _ _ (by rfl) w4.heap.size 49 i0 _ 2 16 Tryd.underlying33 hi0 iz0 iz1 iz2 rfl (by omega) _ m.length (barCells m) (by rfl) G9.out.own ⟨w8.heap.size, 0, none⟩ 1 1 [.int .i64 n0, .int .i64 n1] (by rfl) (by rfl) (World.news_of_block (cs := #[.int .i64 n0, .int .i64 n1]) (t := 49) (fr := (0, 0)) HN9.out) (by simp [Value.oneCell']) (by omega) (by omega) (by omega) G9.out.keep.size (w8.heap.size + 1) S9.out ?_
                      intro gg cap2 w10 hown1 hgrow hat hlt1
                      have hkp := hgrow.block gp Z9.out (fun e => HOG.out gp e.symm rfl)
                      obtain ⟨c1, f1, A2, c2, e2, hG2⟩ := G8.out.push (n0, n1) hown1 (GA.out.trans_ hgrow) (by rcases hat with hat | hat; exact .inl hat.symm; exact .inr (by rw [hat]; rfl))
                      cases e2
                      have HG2 := Lib.hid hG2
                      have Q10 := Lib.hid (And.intro c1 f1)
                      have C10 := Lib.hid (show w10.cell? ⟨gp, 0, none⟩ = some (.string a0) ∧ w10.cell? ⟨gp, 1, none⟩ = some (.string a1) from ⟨(World.cell?_of_block (a := ⟨gp, 0, none⟩) hkp).trans C9.out.1, (World.cell?_of_block (a := ⟨gp, 1, none⟩) hkp).trans C9.out.2⟩)
                      clear c1 f1 hG2 hkp hown1 hgrow hat hlt1
                      refine hK.out _ _ C10.out (fun hHeld => ?_)
                      clear hK K
                      try simp only [Act.put, List.setIfInBounds_toArray]
                      refine wpAnyH_take (i := 13) (v := .pointer (some ⟨w4.heap.size + 1, 2, none⟩)) rfl (by kernel_rfl) (by kernel_rfl) (by kernel_rfl) (fun _ _ _ h => h) (Or.inl ⟨by kernel_rfl, fun w hSw => by (try dsimp only at hSw); go_simp; all_goals first | omega | exact IntWalk.i64_in _ (by omega)⟩) (by assumption) ?_
                      try simp only [Act.put]
                      refine wpAnyH_ready (rs := [14]) (by kernel_rfl) (by simp) (AllReadyH.cons rfl (fun K hK => ?_) AllReadyH.nil)
                      obtain ⟨q1, q2⟩ := Q10.out
                      have C11 := Lib.hid (show (w10.setCell ⟨w4.heap.size + 1, 2, none⟩ (.slice (some ⟨gg, 0, none⟩) (m.length + 1) cap2)).cell? ⟨gp, 0, none⟩ = some (.string a0) ∧ (w10.setCell ⟨w4.heap.size + 1, 2, none⟩ (.slice (some ⟨gg, 0, none⟩) (m.length + 1) cap2)).cell? ⟨gp, 1, none⟩ = some (.string a1) from ⟨(World.cell?_setCell_other _ _ _ _ (by intro e; simp at e)).trans C10.out.1, (World.cell?_setCell_other _ _ _ _ (by intro e; simp at e)).trans C10.out.2⟩)
                      go_simp
                      clear q1 q2
                      refine hK.out _ _ C11.out (fun hHeld => ?_)
                      clear hK K
                      try simp only [Act.put, List.setIfInBounds_toArray, List.set_cons_zero, List.set_cons_succ]
                      refine wpAnyH_done (by kernel_rfl) ?_ _
                      generalize (w10.setCell ⟨w4.heap.size + 1, 2, none⟩ (.slice (some ⟨gg, 0, none⟩) (m.length + 1) cap2)) = w11 at *
                      go_wp2_with fail
                      go_roundw
                      case rel => exact ⟨n + 1, by omega, by omega, by go_num, _, _, m ++ [(n0, n1)], by rw [HPS.out, ← HM.out], HG2.out⟩
                      case measure => simp [intOf]; omega
                    · go_simp
                      go_at_call 31
                      refine (HN0.out _).mono ?_
                      rintro e w7 ⟨rfl, hb⟩
                      have G7 := Lib.hid (G6d.out.below hb)
                      have C7 := Lib.hid (show w7.cell? ⟨gp, 0, none⟩ = some (.string a0) ∧ w7.cell? ⟨gp, 1, none⟩ = some (.string a1) from ⟨(hb.cell (p := ⟨gp, 0, none⟩) Z6.out).trans C6.out.1, (hb.cell (p := ⟨gp, 1, none⟩) Z6.out).trans C6.out.2⟩)
                      have Z7 := Lib.hid (Nat.lt_of_lt_of_le Z6.out hb.size)
                      clear hb
                      refine hK.out _ _ C7.out (fun hHeld => ?_)
                      clear hK K
                      try simp only [Act.put, List.setIfInBounds_toArray, List.set_cons_zero, List.set_cons_succ]
                      refine wpAnyH_ready (rs := [1, 9]) (by kernel_rfl) (by simp) (AllReadyH.cons rfl (fun K hK => ?_) (AllReadyH.cons rfl (fun K hK => ?_) AllReadyH.nil))
                      · have q1 := G7.out.c2
                        go_simp
                        clear q1
                        refine hK.out _ _ C7.out (fun hHeld => ?_)
                        clear hK K
                        try simp only [Act.put, List.setIfInBounds_toArray, List.set_cons_zero, List.set_cons_succ]
                        refine wpAnyH_ready (rs := [9]) (by kernel_rfl) (by simp) (AllReadyH.cons rfl (fun K hK => ?_) AllReadyH.nil)
                        go_simp
                        go_at_call 31
                        refine (HN1.out _).mono ?_
                        rintro e w8 ⟨rfl, hb⟩
                        have G8 := Lib.hid (G7.out.below hb)
                        have C8 := Lib.hid (show w8.cell? ⟨gp, 0, none⟩ = some (.string a0) ∧ w8.cell? ⟨gp, 1, none⟩ = some (.string a1) from ⟨(hb.cell (p := ⟨gp, 0, none⟩) Z7.out).trans C7.out.1, (hb.cell (p := ⟨gp, 1, none⟩) Z7.out).trans C7.out.2⟩)
                        have Z8 := Lib.hid (Nat.lt_of_lt_of_le Z7.out hb.size)
                        clear hb
                        refine hK.out _ _ C8.out (fun hHeld => ?_)
                        clear hK K
                        try simp only [Act.put, List.setIfInBounds_toArray, List.set_cons_zero, List.set_cons_succ]
                        refine wpAnyH_take (i := 10) (v := .agg #[.int .i64 n0, .int .i64 n1]) rfl (by kernel_rfl) (by kernel_rfl) (by kernel_rfl) (fun _ _ _ h => h) (Or.inl ⟨by kernel_rfl, fun w hSw => by (try dsimp only at hSw); go_simp; all_goals first | omega | exact IntWalk.i64_in _ (by omega)⟩) (by assumption) ?_
                        try simp only [Act.put, List.setIfInBounds_toArray]
                        refine wpAnyH_ready (rs := [11]) (by kernel_rfl) (by simp) (AllReadyH.cons rfl (fun K hK => ?_) AllReadyH.nil)
                        have hb := new_below w8 (.cells #[.int .i64 n0, .int .i64 n1] 49)
                        have G9 := Lib.hid (G8.out.below hb)
                        have C9 := Lib.hid (show (w8.alloc (.cells #[.int .i64 n0, .int .i64 n1] 49)).cell? ⟨gp, 0, none⟩ = some (.string a0) ∧ (w8.alloc (.cells #[.int .i64 n0, .int .i64 n1] 49)).cell? ⟨gp, 1, none⟩ = some (.string a1) from ⟨(hb.cell (p := ⟨gp, 0, none⟩) Z8.out).trans C8.out.1, (hb.cell (p := ⟨gp, 1, none⟩) Z8.out).trans C8.out.2⟩)
                        have Z9 := Lib.hid (Nat.lt_of_lt_of_le Z8.out hb.size)
                        have GA := Lib.hid (World.grownBy_alloc w8 (.cells #[.int .i64 n0, .int .i64 n1] 49) (Value.slice A m.length c).ownBlock)
                        have HN9 := Lib.hid (heap_alloc_new w8 (.cells #[.int .i64 n0, .int .i64 n1] 49))
                        have hs9 : (w8.alloc (.cells #[.int .i64 n0, .int .i64 n1] 49)).heap.size = w8.heap.size + 1 := by simp
                        have S9 := Lib.hid hs9
                        clear hb hs9
                        go_simp
                        generalize (w8.alloc (.cells #[.int .i64 n0, .int .i64 n1] 49)) = w9 at *
                        refine hK.out _ _ C9.out (fun hHeld => ?_)
                        clear hK K
                        try simp only [Act.put, List.setIfInBounds_toArray, List.set_cons_zero, List.set_cons_succ]
                        refine wpAnyH_ready (rs := [12]) (by kernel_rfl) (by simp) (AllReadyH.cons rfl (fun K hK => ?_) AllReadyH.nil)
                        refine step_append_lies _ (by rfl) _ _ _ (by rfl) w4.heap.size 49 i0 _ 2 16 Tryd.underlying33 hi0 iz0 iz1 iz2 rfl (by omega) _ m.length (barCells m) (by rfl) G9.out.own ⟨w8.heap.size, 0, none⟩ 1 1 [.int .i64 n0, .int .i64 n1] (by rfl) (by rfl) (World.news_of_block (cs := #[.int .i64 n0, .int .i64 n1]) (t := 49) (fr := (0, 0)) HN9.out) (by simp [Value.oneCell']) (by omega) (by omega) (by omega) G9.out.keep.size (w8.heap.size + 1) S9.out ?_
                        intro gg cap2 w10 hown1 hgrow hat hlt1
                        have hkp := hgrow.block gp Z9.out (fun e => HOG.out gp e.symm rfl)
                        obtain ⟨c1, f1, A2, c2, e2, hG2⟩ := G8.out.push (n0, n1) hown1 (GA.out.trans_ hgrow) (by rcases hat with hat | hat; exact .inl hat.symm; exact .inr (by rw [hat]; rfl))
                        cases e2
                        have HG2 := Lib.hid hG2
                        have Q10 := Lib.hid (And.intro c1 f1)
                        have C10 := Lib.hid (show w10.cell? ⟨gp, 0, none⟩ = some (.string a0) ∧ w10.cell? ⟨gp, 1, none⟩ = some (.string a1) from ⟨(World.cell?_of_block (a := ⟨gp, 0, none⟩) hkp).trans C9.out.1, (World.cell?_of_block (a := ⟨gp, 1, none⟩) hkp).trans C9.out.2⟩)
                        clear c1 f1 hG2 hkp hown1 hgrow hat hlt1
                        refine hK.out _ _ C10.out (fun hHeld => ?_)
                        clear hK K
                        try simp only [Act.put, List.setIfInBounds_toArray]
                        refine wpAnyH_take (i := 13) (v := .pointer (some ⟨w4.heap.size + 1, 2, none⟩)) rfl (by kernel_rfl) (by kernel_rfl) (by kernel_rfl) (fun _ _ _ h => h) (Or.inl ⟨by kernel_rfl, fun w hSw => by (try dsimp only at hSw); go_simp; all_goals first | omega | exact IntWalk.i64_in _ (by omega)⟩) (by assumption) ?_
                        try simp only [Act.put]
                        refine wpAnyH_ready (rs := [14]) (by kernel_rfl) (by simp) (AllReadyH.cons rfl (fun K hK => ?_) AllReadyH.nil)
                        obtain ⟨q1, q2⟩ := Q10.out
                        have C11 := Lib.hid (show (w10.setCell ⟨w4.heap.size + 1, 2, none⟩ (.slice (some ⟨gg, 0, none⟩) (m.length + 1) cap2)).cell? ⟨gp, 0, none⟩ = some (.string a0) ∧ (w10.setCell ⟨w4.heap.size + 1, 2, none⟩ (.slice (some ⟨gg, 0, none⟩) (m.length + 1) cap2)).cell? ⟨gp, 1, none⟩ = some (.string a1) from ⟨(World.cell?_setCell_other _ _ _ _ (by intro e; simp at e)).trans C10.out.1, (World.cell?_setCell_other _ _ _ _ (by intro e; simp at e)).trans C10.out.2⟩)
                        go_simp
                        clear q1 q2
                        refine hK.out _ _ C11.out (fun hHeld => ?_)
                        clear hK K
                        try simp only [Act.put, List.setIfInBounds_toArray, List.set_cons_zero, List.set_cons_succ]
                        refine wpAnyH_done (by kernel_rfl) ?_ _
                        generalize (w10.setCell ⟨w4.heap.size + 1, 2, none⟩ (.slice (some ⟨gg, 0, none⟩) (m.length + 1) cap2)) = w11 at *
                        go_wp2_with fail
                        go_roundw
                        case rel => exact ⟨n + 1, by omega, by omega, by go_num, _, _, m ++ [(n0, n1)], by rw [HPS.out, ← HM.out], HG2.out⟩
                        case measure => simp [intOf]; omega
                      · go_simp
                        go_at_call 31
                        refine (HN1.out _).mono ?_
                        rintro e w8 ⟨rfl, hb⟩
                        have G8 := Lib.hid (G7.out.below hb)
                        have C8 := Lib.hid (show w8.cell? ⟨gp, 0, none⟩ = some (.string a0) ∧ w8.cell? ⟨gp, 1, none⟩ = some (.string a1) from ⟨(hb.cell (p := ⟨gp, 0, none⟩) Z7.out).trans C7.out.1, (hb.cell (p := ⟨gp, 1, none⟩) Z7.out).trans C7.out.2⟩)
                        have Z8 := Lib.hid (Nat.lt_of_lt_of_le Z7.out hb.size)
                        clear hb
                        refine hK.out _ _ C8.out (fun hHeld => ?_)
                        clear hK K
                        try simp only [Act.put, List.setIfInBounds_toArray, List.set_cons_zero, List.set_cons_succ]
                        refine wpAnyH_take (i := 10) (v := .agg #[.int .i64 n0, .int .i64 n1]) rfl (by kernel_rfl) (by kernel_rfl) (by kernel_rfl) (fun _ _ _ h => h) (Or.inl ⟨by kernel_rfl, fun w hSw => by (try dsimp only at hSw); go_simp; all_goals first | omega | exact IntWalk.i64_in _ (by omega)⟩) (by assumption) ?_
                        try simp only [Act.put, List.setIfInBounds_toArray]
                        refine wpAnyH_ready (rs := [1, 11]) (by kernel_rfl) (by simp) (AllReadyH.cons rfl (fun K hK => ?_) (AllReadyH.cons rfl (fun K hK => ?_) AllReadyH.nil))
                        · have q1 := G8.out.c2
                          go_simp
                          clear q1
                          refine hK.out _ _ C8.out (fun hHeld => ?_)
                          clear hK K
                          try simp only [Act.put, List.setIfInBounds_toArray, List.set_cons_zero, List.set_cons_succ]
                          refine wpAnyH_ready (rs := [11]) (by kernel_rfl) (by simp) (AllReadyH.cons rfl (fun K hK => ?_) AllReadyH.nil)
                          have hb := new_below w8 (.cells #[.int .i64 n0, .int .i64 n1] 49)
                          have G9 := Lib.hid (G8.out.below hb)
                          have C9 := Lib.hid (show (w8.alloc (.cells #[.int .i64 n0, .int .i64 n1] 49)).cell? ⟨gp, 0, none⟩ = some (.string a0) ∧ (w8.alloc (.cells #[.int .i64 n0, .int .i64 n1] 49)).cell? ⟨gp, 1, none⟩ = some (.string a1) from ⟨(hb.cell (p := ⟨gp, 0, none⟩) Z8.out).trans C8.out.1, (hb.cell (p := ⟨gp, 1, none⟩) Z8.out).trans C8.out.2⟩)
                          have Z9 := Lib.hid (Nat.lt_of_lt_of_le Z8.out hb.size)
                          have GA := Lib.hid (World.grownBy_alloc w8 (.cells #[.int .i64 n0, .int .i64 n1] 49) (Value.slice A m.length c).ownBlock)
                          have HN9 := Lib.hid (heap_alloc_new w8 (.cells #[.int .i64 n0, .int .i64 n1] 49))
                          have hs9 : (w8.alloc (.cells #[.int .i64 n0, .int .i64 n1] 49)).heap.size = w8.heap.size + 1 := by simp
                          have S9 := Lib.hid hs9
                          clear hb hs9
                          go_simp
                          generalize (w8.alloc (.cells #[.int .i64 n0, .int .i64 n1] 49)) = w9 at *
                          refine hK.out _ _ C9.out (fun hHeld => ?_)
                          clear hK K
                          try simp only [Act.put, List.setIfInBounds_toArray, List.set_cons_zero, List.set_cons_succ]
                          refine wpAnyH_ready (rs := [12]) (by kernel_rfl) (by simp) (AllReadyH.cons rfl (fun K hK => ?_) AllReadyH.nil)
                          refine step_append_lies _ (by rfl) _ _ _ (by rfl) w4.heap.size 49 i0 _ 2 16 Tryd.underlying33 hi0 iz0 iz1 iz2 rfl (by omega) _ m.length (barCells m) (by rfl) G9.out.own ⟨w8.heap.size, 0, none⟩ 1 1 [.int .i64 n0, .int .i64 n1] (by rfl) (by rfl) (World.news_of_block (cs := #[.int .i64 n0, .int .i64 n1]) (t := 49) (fr := (0, 0)) HN9.out) (by simp [Value.oneCell']) (by omega) (by omega) (by omega) G9.out.keep.size (w8.heap.size + 1) S9.out ?_
                          intro gg cap2 w10 hown1 hgrow hat hlt1
                          have hkp := hgrow.block gp Z9.out (fun e => HOG.out gp e.symm rfl)
                          obtain ⟨c1, f1, A2, c2, e2, hG2⟩ := G8.out.push (n0, n1) hown1 (GA.out.trans_ hgrow) (by rcases hat with hat | hat; exact .inl hat.symm; exact .inr (by rw [hat]; rfl))
                          cases e2
                          have HG2 := Lib.hid hG2
                          have Q10 := Lib.hid (And.intro c1 f1)
                          have C10 := Lib.hid (show w10.cell? ⟨gp, 0, none⟩ = some (.string a0) ∧ w10.cell? ⟨gp, 1, none⟩ = some (.string a1) from ⟨(World.cell?_of_block (a := ⟨gp, 0, none⟩) hkp).trans C9.out.1, (World.cell?_of_block (a := ⟨gp, 1, none⟩) hkp).trans C9.out.2⟩)
                          clear c1 f1 hG2 hkp hown1 hgrow hat hlt1
                          refine hK.out _ _ C10.out (fun hHeld => ?_)
                          clear hK K
                          try simp only [Act.put, List.setIfInBounds_toArray]
                          refine wpAnyH_take (i := 13) (v := .pointer (some ⟨w4.heap.size + 1, 2, none⟩)) rfl (by kernel_rfl) (by kernel_rfl) (by kernel_rfl) (fun _ _ _ h => h) (Or.inl ⟨by kernel_rfl, fun w hSw => by (try dsimp only at hSw); go_simp; all_goals first | omega | exact IntWalk.i64_in _ (by omega)⟩) (by assumption) ?_
                          try simp only [Act.put]
                          refine wpAnyH_ready (rs := [14]) (by kernel_rfl) (by simp) (AllReadyH.cons rfl (fun K hK => ?_) AllReadyH.nil)
                          obtain ⟨q1, q2⟩ := Q10.out
                          have C11 := Lib.hid (show (w10.setCell ⟨w4.heap.size + 1, 2, none⟩ (.slice (some ⟨gg, 0, none⟩) (m.length + 1) cap2)).cell? ⟨gp, 0, none⟩ = some (.string a0) ∧ (w10.setCell ⟨w4.heap.size + 1, 2, none⟩ (.slice (some ⟨gg, 0, none⟩) (m.length + 1) cap2)).cell? ⟨gp, 1, none⟩ = some (.string a1) from ⟨(World.cell?_setCell_other _ _ _ _ (by intro e; simp at e)).trans C10.out.1, (World.cell?_setCell_other _ _ _ _ (by intro e; simp at e)).trans C10.out.2⟩)
                          go_simp
                          clear q1 q2
                          refine hK.out _ _ C11.out (fun hHeld => ?_)
                          clear hK K
                          try simp only [Act.put, List.setIfInBounds_toArray, List.set_cons_zero, List.set_cons_succ]
                          refine wpAnyH_done (by kernel_rfl) ?_ _
                          generalize (w10.setCell ⟨w4.heap.size + 1, 2, none⟩ (.slice (some ⟨gg, 0, none⟩) (m.length + 1) cap2)) = w11 at *
                          go_wp2_with fail
                          go_roundw
                          case rel => exact ⟨n + 1, by omega, by omega, by go_num, _, _, m ++ [(n0, n1)], by rw [HPS.out, ← HM.out], HG2.out⟩
                          case measure => simp [intOf]; omega
                        · have hb := new_below w8 (.cells #[.int .i64 n0, .int .i64 n1] 49)
                          have G9 := Lib.hid (G8.out.below hb)
                          have C9 := Lib.hid (show (w8.alloc (.cells #[.int .i64 n0, .int .i64 n1] 49)).cell? ⟨gp, 0, none⟩ = some (.string a0) ∧ (w8.alloc (.cells #[.int .i64 n0, .int .i64 n1] 49)).cell? ⟨gp, 1, none⟩ = some (.string a1) from ⟨(hb.cell (p := ⟨gp, 0, none⟩) Z8.out).trans C8.out.1, (hb.cell (p := ⟨gp, 1, none⟩) Z8.out).trans C8.out.2⟩)
                          have Z9 := Lib.hid (Nat.lt_of_lt_of_le Z8.out hb.size)
                          have GA := Lib.hid (World.grownBy_alloc w8 (.cells #[.int .i64 n0, .int .i64 n1] 49) (Value.slice A m.length c).ownBlock)
                          have HN9 := Lib.hid (heap_alloc_new w8 (.cells #[.int .i64 n0, .int .i64 n1] 49))
                          have hs9 : (w8.alloc (.cells #[.int .i64 n0, .int .i64 n1] 49)).heap.size = w8.heap.size + 1 := by simp
                          have S9 := Lib.hid hs9
                          clear hb hs9
                          go_simp
                          generalize (w8.alloc (.cells #[.int .i64 n0, .int .i64 n1] 49)) = w9 at *
                          refine hK.out _ _ C9.out (fun hHeld => ?_)
                          clear hK K
                          try simp only [Act.put, List.setIfInBounds_toArray, List.set_cons_zero, List.set_cons_succ]
                          refine wpAnyH_ready (rs := [1]) (by kernel_rfl) (by simp) (AllReadyH.cons rfl (fun K hK => ?_) AllReadyH.nil)
                          have q1 := G9.out.c2
                          go_simp
                          clear q1
                          refine hK.out _ _ C9.out (fun hHeld => ?_)
                          clear hK K
                          try simp only [Act.put, List.setIfInBounds_toArray, List.set_cons_zero, List.set_cons_succ]
                          refine wpAnyH_ready (rs := [12]) (by kernel_rfl) (by simp) (AllReadyH.cons rfl (fun K hK => ?_) AllReadyH.nil)
                          refine step_append_lies _ (by rfl) _ _ _ (by rfl) w4.heap.size 49 i0 _ 2 16 Tryd.underlying33 hi0 iz0 iz1 iz2 rfl (by omega) _ m.length (barCells m) (by rfl) G9.out.own ⟨w8.heap.size, 0, none⟩ 1 1 [.int .i64 n0, .int .i64 n1] (by rfl) (by rfl) (World.news_of_block (cs := #[.int .i64 n0, .int .i64 n1]) (t := 49) (fr := (0, 0)) HN9.out) (by simp [Value.oneCell']) (by omega) (by omega) (by omega) G9.out.keep.size (w8.heap.size + 1) S9.out ?_
                          intro gg cap2 w10 hown1 hgrow hat hlt1
                          have hkp := hgrow.block gp Z9.out (fun e => HOG.out gp e.symm rfl)
                          obtain ⟨c1, f1, A2, c2, e2, hG2⟩ := G8.out.push (n0, n1) hown1 (GA.out.trans_ hgrow) (by rcases hat with hat | hat; exact .inl hat.symm; exact .inr (by rw [hat]; rfl))
                          cases e2
                          have HG2 := Lib.hid hG2
                          have Q10 := Lib.hid (And.intro c1 f1)
                          have C10 := Lib.hid (show w10.cell? ⟨gp, 0, none⟩ = some (.string a0) ∧ w10.cell? ⟨gp, 1, none⟩ = some (.string a1) from ⟨(World.cell?_of_block (a := ⟨gp, 0, none⟩) hkp).trans C9.out.1, (World.cell?_of_block (a := ⟨gp, 1, none⟩) hkp).trans C9.out.2⟩)
                          clear c1 f1 hG2 hkp hown1 hgrow hat hlt1
                          refine hK.out _ _ C10.out (fun hHeld => ?_)
                          clear hK K
                          try simp only [Act.put, List.setIfInBounds_toArray]
                          refine wpAnyH_take (i := 13) (v := .pointer (some ⟨w4.heap.size + 1, 2, none⟩)) rfl (by kernel_rfl) (by kernel_rfl) (by kernel_rfl) (fun _ _ _ h => h) (Or.inl ⟨by kernel_rfl, fun w hSw => by (try dsimp only at hSw); go_simp; all_goals first | omega | exact IntWalk.i64_in _ (by omega)⟩) (by assumption) ?_
                          try simp only [Act.put]
                          refine wpAnyH_ready (rs := [14]) (by kernel_rfl) (by simp) (AllReadyH.cons rfl (fun K hK => ?_) AllReadyH.nil)
                          obtain ⟨q1, q2⟩ := Q10.out
                          have C11 := Lib.hid (show (w10.setCell ⟨w4.heap.size + 1, 2, none⟩ (.slice (some ⟨gg, 0, none⟩) (m.length + 1) cap2)).cell? ⟨gp, 0, none⟩ = some (.string a0) ∧ (w10.setCell ⟨w4.heap.size + 1, 2, none⟩ (.slice (some ⟨gg, 0, none⟩) (m.length + 1) cap2)).cell? ⟨gp, 1, none⟩ = some (.string a1) from ⟨(World.cell?_setCell_other _ _ _ _ (by intro e; simp at e)).trans C10.out.1, (World.cell?_setCell_other _ _ _ _ (by intro e; simp at e)).trans C10.out.2⟩)
                          go_simp
                          clear q1 q2
                          refine hK.out _ _ C11.out (fun hHeld => ?_)
                          clear hK K
                          try simp only [Act.put, List.setIfInBounds_toArray, List.set_cons_zero, List.set_cons_succ]
                          refine wpAnyH_done (by kernel_rfl) ?_ _
                          generalize (w10.setCell ⟨w4.heap.size + 1, 2, none⟩ (.slice (some ⟨gg, 0, none⟩) (m.length + 1) cap2)) = w11 at *
                          go_wp2_with fail
                          go_roundw
                          case rel => exact ⟨n + 1, by omega, by omega, by go_num, _, _, m ++ [(n0, n1)], by rw [HPS.out, ← HM.out], HG2.out⟩
                          case measure => simp [intOf]; omega
                  · have hl2' : (((cutB h 44).length : Int) != 2) = true := by simp; omega
                    obtain ⟨hR, _, hB⟩ := G6.out.fin HR4.out HG4.out (by have := HR2S.out; omega) HB4.out
                    obtain ⟨s0, s1, s2, HFO⟩ := fw_retn hR hB (Nat.le_refl _)
                    obtain ⟨r0, r1, r2, z0, z1, z2⟩ := (hR).cells
                    go_wp2_with fail
                    refine bodyPost_ret (v := .tuple #[.agg #[.int .i64 0, .slice none 0 0, .slice none 0 0], .bool false]) ?_ rfl ⟨0, [], [], false, HNW.out hl2, HFO⟩
                    simp [results, Tryd.results10, go_sem, s0, s1, s2]
                · obtain rfl : n = ws.length := by omega
                  have HMF := Lib.hid (show m = parseP (ws.drop (j + 1)) by rw [HM.out, List.take_of_length_le (by simp)])
                  have HEND := Lib.hid (PEN.out _ _ _ _ _ HNO.out HKA.out (by omega) hlt HPG.out HMF.out)
                  obtain ⟨hR, hO, hB⟩ := HF.out.fin HR4.out HG4.out (by have := HR2S.out; omega) HB4.out
                  cases is
                  · have PFX := HEND.out.2 (.inl rfl)
                    obtain ⟨s0, s1, s2, HFO⟩ := fw_retn hR hB (Nat.le_refl _)
                    obtain ⟨r0, r1, r2, z0, z1, z2⟩ := (hR).cells
                    go_wp2_with fail
                    refine bodyPost_ret (v := .tuple #[.agg #[.int .i64 0, .slice none 0 0, .slice none 0 0], .bool false]) ?_ rfl ⟨0, [], [], false, PFX, HFO⟩
                    simp [results, Tryd.results10, go_sem, s0, s1, s2]
                  · have hrm := HRM.out
                    have hln := pg_room HPG.out
                    have hob := hO.reads
                    have g0 := HF.out.c0
                    have g1 := HF.out.c1
                    have g2 := HF.out.c2
                    go_wp2_with fail
                    clear g0 g1 g2
                    refine (specFmtF q l m AS cs A c _ _ wr hob (by omega)).mono ?_
                    rintro e w6 ⟨rfl, hb6⟩
                    have G6 := Lib.hid (HF.out.below hb6)
                    clear hb6 hob hR hO hB
                    obtain ⟨hR, hO, hB⟩ := G6.out.fin HR4.out HG4.out (by have := HR2S.out; omega) HB4.out
                    generalize fmtF q l m = tx at *
                    have g0 := G6.out.c0
                    have g1 := G6.out.c1
                    have g2 := G6.out.c2
                    by_cases hts : tx = s
                    · have hct := cmp_true hts
                      obtain ⟨s0, s1, s2, hO2, hB2⟩ := fw_ret hR hO hB (Nat.le_refl _) q
                      obtain ⟨r0, r1, r2, z0, z1, z2⟩ := hR.cells
                      go_wp2_with fail
                      refine bodyPost_ret (v := .tuple #[.agg #[.int .i64 q, .slice AS l.length cs, .slice A m.length c], .bool true]) ?_ rfl ⟨q, l, m, true, HEND.out.1 (by trivial) hts, AS, cs, A, c, rfl, hO2, hB2⟩
                      simp [results, Tryd.results10, go_sem, s0, s1, s2]
                    · have hct := cmp_false hts
                      have PFX := HEND.out.2 (.inr hts)
                      obtain ⟨s0, s1, s2, HFO⟩ := fw_retn hR hB (Nat.le_refl _)
                      obtain ⟨r0, r1, r2, z0, z1, z2⟩ := (hR).cells
                      go_wp2_with fail
                      refine bodyPost_ret (v := .tuple #[.agg #[.int .i64 0, .slice none 0 0, .slice none 0 0], .bool false]) ?_ rfl ⟨0, [], [], false, PFX, HFO⟩
                      simp [results, Tryd.results10, go_sem, s0, s1, s2]
      · have hct := cmp_false (show ¬ x = ⟨#[97, 116]⟩ from hat)
        rw [E97.out] at hct
        have HKA := Lib.hid (show ws.getD k ⟨#[]⟩ ≠ atS from fun e => hat (hx.symm.trans e))
        clear hat hx
        go_wp2_with fail
        go_roundw
        case rel => exact ⟨k + 1, by omega, by go_num, (by first | trivial | rfl), fun j hj => by
          rcases Nat.lt_or_ge j k with h | h
          · exact HNO.out j h
          · obtain rfl : j = k := by omega
            exact HKA.out⟩
        case measure => simp [intOf]; omega
    · obtain rfl : k = ws.length := by omega
      have e0 : ((ws.length : Int) == 0) = false := beq_eq_false_iff_ne.2 (by omega)
      have e2 : ¬ ws = [] := fun e => by rw [e] at hpos; exact absurd hpos (by simp)
      obtain ⟨s0, s1, s2, HFO⟩ := fw_retn HR2.out HB2.out (Nat.le_refl _)
      obtain ⟨r0, r1, r2, z0, z1, z2⟩ := (HR2.out).cells
      go_wp2_with fail
      refine bodyPost_ret (v := .tuple #[.agg #[.int .i64 0, .slice none 0 0, .slice none 0 0], .bool false]) ?_ rfl ⟨0, [], [], false, PAT.out _ HNO.out (Nat.le_refl _) (.inr rfl), HFO⟩
      simp [results, Tryd.results10, go_sem, s0, s1, s2]
end Go.Proofs.YtehendofgcebcaaDoor
/- What impl.ParseFramework answers. The condition: the library's tables read as the program lays them. -/
namespace Go.Proofs.YtehendofgcebcaaDoor
open Go.RowKit

theorem Tabs.cutAt {w : World} (h : Tabs w) (W : World) (x : ByteArray) (hb : Below w.heap.size w W) (hx : x.size ≤ 98) : Calls Tryd.prog 32 #[.string x, .string ⟨#[32, 97, 116]⟩] W fun e w' => e = .returned (.tuple #[.string ⟨(Lib.cut x.data.toList [32, 97, 116]).1.toArray⟩, .string ⟨(Lib.cut x.data.toList [32, 97, 116]).2.1.toArray⟩, .bool (Lib.cut x.data.toList [32, 97, 116]).2.2]) ∧ Below W.heap.size W w' := by
  obtain ⟨_, _, _, m, h4⟩ := h.below hb
  refine (Tryd.strings_Cut x ⟨#[32, 97, 116]⟩ m W (by omega) h4).mono ?_
  rintro e w' ⟨rfl, n, rfl⟩
  exact ⟨rfl, below_drewN _ _ _⟩
theorem cut_sizeL (x s : List UInt8) : (Lib.cut x s).1.length ≤ x.length ∧ (Lib.cut x s).2.1.length ≤ x.length := by
  unfold Lib.cut
  split
  · refine ⟨?_, ?_⟩
    · simp only [List.length_take]; omega
    · simp only [List.length_drop]; omega
  · simp
/-- The words' block stands. -/
def FStd (g : Nat) (w6 wr : World) (bg : Nat) (A : Option Addr) : Prop := g < wr.heap.size ∧ wr.heap[g]? = w6.heap[g]? ∧ g ≠ bg ∧ ∀ a, A = some a → a.block ≠ g
theorem FStd.below {g : Nat} {w6 wr w' : World} {bg : Nat} {A : Option Addr} (h : FStd g w6 wr bg A) (hb : Below wr.heap.size wr w') : FStd g w6 w' bg A :=
  ⟨Nat.lt_of_lt_of_le h.1 hb.size, (hb.block g h.1).trans h.2.1, h.2.2.1, h.2.2.2⟩
theorem FStd.other {g : Nat} {w6 wr : World} {bg : Nat} {A : Option Addr} (h : FStd g w6 wr bg A) (b k : Nat) (v : Value) (hb : b ≠ g) : FStd g w6 (wr.setCell ⟨b, k, none⟩ v) bg A := by
  have hs := grownBy_set wr b k v
  exact ⟨Nat.lt_of_lt_of_le h.1 hs.size, (hs.block g h.1 (by simp; exact fun e => hb e.symm)).trans h.2.1, h.2.2.1, h.2.2.2⟩
theorem FStd.push {g n n2 c c2 : Nat} {w6 wr w' : World} {bg : Nat} {A A2 : Option Addr} (h : FStd g w6 wr bg A) (hg : wr.grownBy w' (Value.slice A n c).ownBlock) (hat : (Value.slice A2 n2 c2).ownBlock = (Value.slice A n c).ownBlock ∨ (Value.slice A2 n2 c2).ownBlock = some (wr.heap.size + 1)) (v : Value) : FStd g w6 (w'.setCell ⟨bg, 2, none⟩ v) bg A2 := by
  obtain ⟨h1, h2, h3, h4⟩ := h
  have hs := grownBy_set w' bg 2 v
  have hne : some g ≠ (Value.slice A n c).ownBlock := fun e => by
    cases A with
    | none => cases e
    | some a => cases e; exact h4 a rfl rfl
  have hl := Nat.lt_of_lt_of_le h1 hg.size
  refine ⟨Nat.lt_of_lt_of_le hl hs.size, (hs.block g hl (by simp; exact h3)).trans ((hg.block g h1 hne).trans h2), h3, fun a e => ?_⟩
  subst e
  rcases hat with hat | hat
  · cases A with
    | none => cases hat
    | some a0 =>
      have : a.block = a0.block := by simpa [Value.ownBlock] using hat
      rw [this]
      exact h4 a0 rfl
  · have : a.block = wr.heap.size + 1 := by simpa [Value.ownBlock] using hat
    omega

set_option maxHeartbeats 4000000 in
set_option maxRecDepth 100000 in
theorem implParseF (s : ByteArray) (w : World) (hs : s.size ≤ 1048576) (ht : Tabs w) :
    Calls Tryd.prog 11 #[.string s] w (ParseFO w s) := by
  have hA := new_below w (.cells #[.int .i64 0, .slice none 0 0, .slice none 0 0] 35)
  have HA := Lib.hid hA
  have HR1 := Lib.hid (cel3_new w (.int .i64 0) (.slice none 0 0) (.slice none 0 0) 35)
  have HT := Lib.hid ht
  have HCUT := Lib.hid ht.cut
  have HFL := Lib.hid ht.fields
  clear hA ht
  go_enter Tryd.func11, Tryd.ntmps11
  go_upto_region 1 with fail
  generalize (w.alloc (.cells #[.int .i64 0, .slice none 0 0, .slice none 0 0] 35)) = w1 at *
  have HS1 := Lib.hid HR1.out.lt
  by_cases h89 : 89 < s.size
  · have h89' : (89 : Int) < (s.size : Int) := by omega
    obtain ⟨s0, s1, s2, HFO⟩ := fw_retn HR1.out HA.out (Nat.le_refl _)
    obtain ⟨r0, r1, r2, z0, z1, z2⟩ := (HR1.out).cells
    go_wp2_with fail
    refine bodyPost_ret (v := .tuple #[.agg #[.int .i64 0, .slice none 0 0, .slice none 0 0], .bool false]) ?_ rfl ⟨0, [], [], false, pf_long h89, HFO⟩
    simp [results, Tryd.results11, go_sem, s0, s1, s2]
  · have h89' : ¬ (89 : Int) < (s.size : Int) := by omega
    have hcs := cut_sizeL s.data.toList [32, 97, 116]
    have hsl : s.data.toList.length = s.size := rfl
    have HMX := Lib.hid (show (2000000 : Nat) ≤ maxLen by decide)
    go_wp2_with fail
    refine (HT.out.cutAt w1 s HA.out (by omega)).mono ?_
    rintro e w2 ⟨rfl, hb⟩
    have HB2 := Lib.hid (below_on HA.out hb HA.out.size)
    have HR2 := Lib.hid (HR1.out.kept hb)
    have HS2 := Lib.hid (Nat.lt_of_lt_of_le HS1.out hb.size)
    clear hb
    have HEND := Lib.hid (fun q l m is => @pfI_end s q l m is)
    generalize Lib.cut s.data.toList [32, 97, 116] = cu at *
    obtain ⟨c1, c2, cb⟩ := cu
    simp only at hcs HEND
    go_wp2_with fail
    refine (implParseT ⟨c1.toArray⟩ w2 (by have := HMX.out; have : (⟨c1.toArray⟩ : ByteArray).size = c1.length := rfl; omega) (HT.out.below HB2.out)).mono ?_
    rintro e w3 ⟨q, l, is, hpg, AS, cs, rfl, hG, hb⟩
    have HR3 := Lib.hid (HR2.out.kept hb)
    have HB3 := Lib.hid (below_on HB2.out hb HB2.out.size)
    have HG3 := Lib.hid hG
    have HPG := Lib.hid hpg
    clear hpg hG hb
    go_upto_region 5 with fail
    have HX4 := Lib.hid (box_new w3 q (.slice AS l.length cs) 32)
    have hb := new_below w3 (.cells #[.int .i64 q, .slice AS l.length cs] 32)
    have HR4 := Lib.hid (HR3.out.kept hb)
    have HB4 := Lib.hid (below_on HB3.out hb HB3.out.size)
    have HG4 := Lib.hid (HG3.out.within (within_of hb) (.inr (Nat.zero_le _)))
    clear hb HG3 HR3
    generalize (w3.alloc (.cells #[.int .i64 q, .slice AS l.length cs] 32)) = w4 at *
    cases is
    · have PFX := (HEND.out q l _ false HPG.out rfl).2 (.inl rfl)
      obtain ⟨s0, s1, s2, HFO⟩ := fw_retn HR4.out HB4.out (Nat.le_refl _)
      obtain ⟨r0, r1, r2, z0, z1, z2⟩ := (HR4.out).cells
      go_wp2_with fail
      refine bodyPost_ret (v := .tuple #[.agg #[.int .i64 0, .slice none 0 0, .slice none 0 0], .bool false]) ?_ rfl ⟨0, [], [], false, PFX, HFO⟩
      simp [results, Tryd.results11, go_sem, s0, s1, s2]
    · have hll := pg_room HPG.out
      have hc1 : (⟨c1.toArray⟩ : ByteArray).size = c1.length := rfl
      obtain ⟨_, x0, x1⟩ := HX4.out
      go_upto_region 8 with fail
      clear x0 x1
      have HF5 := Lib.hid (fbox_nil w4 (.int .i64 q) (.slice AS l.length cs) 35)
      generalize (w4.alloc (.cells #[.int .i64 q, .slice AS l.length cs, .slice none 0 0] 35)) = w5 at *
      have hF := HFL.out w5 ⟨c2.toArray⟩ (below_on HB4.out HF5.out.keep HB4.out.size) (by have : (⟨c2.toArray⟩ : ByteArray).size = c2.length := rfl; omega)
      rw [show (⟨c2.toArray⟩ : ByteArray).data.toList = c2 from rfl] at hF
      have hwz : ∀ y ∈ Lib.fieldsD c2, y.length ≤ 98 := fun y hy => by
        have := fields_le _ _ _ y hy
        simp at this
        omega
      have hwn : (Lib.fieldsD c2).length ≤ 1000000 := by
        have := fields_count (c2.length + 1) [] c2
        unfold Lib.fieldsD
        omega
      generalize Lib.fieldsD c2 = ws at *
      go_wp2_with fail
      refine hF.mono ?_
      rintro e w6 ⟨g, rfl, hg1, ho, hb⟩
      have hg2 : g < w6.heap.size := ((show w6.ownsRow _ _ _ _ _ _ from ho).lt g rfl).2
      have HW := Lib.hid ho
      have HF6 := Lib.hid (HF5.out.below hb)
      have HS6 := Lib.hid (show FStd g w6 w6 w4.heap.size none from ⟨hg2, rfl, by have := HF5.out.lt; omega, fun a e => by cases e⟩)
      clear ho hb hF
      go_wp2_with fail
      go_loopw [39] (fun i wr => ∃ k : Nat, k ≤ ws.length ∧ i = .int .i64 k ∧ ∃ A c m, m = parseQ (ws.take k) ∧ FBox w4 wr w4.heap.size (.int .i64 q) (.slice AS l.length cs) A c m ∧ FStd g w6 wr w4.heap.size A) (fun i _ => ws.length - (intOf i).toNat)
      case atStart => exact ⟨0, by omega, rfl, _, _, [], by simp [parseQ], HF6.out, HS6.out⟩
      case round =>
        obtain ⟨k, hk, rfl, A, c, m, hm, hf, hst⟩ := hrel
        have HF := Lib.hid hf
        have HS := Lib.hid hst
        have HM := Lib.hid hm
        have hml : m.length ≤ 1048576 := by rw [hm]; simp [parseQ]; omega
        have HLM := Lib.hid (show l.length + m.length ≤ 1048576 by
          have h1 : m.length ≤ ws.length := by rw [hm]; simp [parseQ]; omega
          omega)
        clear hf hm hst
        have HBR := Lib.hid (below_on HB4.out HF.out.keep HB4.out.size)
        have hbw := HBR.out.size
        have hkz := HF.out.keep.size
        have hbl := HF.out.lt
        by_cases hlt : k < ws.length
        · have hik : (k : Int) < (ws.length : Int) := by omega
          have hkm : k < (ws.map fun y => (⟨y.toArray⟩ : ByteArray)).length := by simpa using hlt
          have hck := (World.cell?_of_block (a := ⟨g, k, none⟩) HS.out.2.1).trans (words_cell HW.out k hkm)
          obtain ⟨y, hy⟩ : ∃ y, ws[k] = y := ⟨_, rfl⟩
          have hyk : (ws.map fun y => (⟨y.toArray⟩ : ByteArray)).getD k ⟨#[]⟩ = ⟨y.toArray⟩ := by rw [← hy]; simp [List.getD, hlt]
          rw [hyk] at hck
          have hyz : y.length ≤ 98 := hwz y (by rw [← hy]; exact List.getElem_mem hlt)
          have HSTEP := Lib.hid (show parseQ (ws.take (k + 1)) = parseQ (ws.take k) ++ [(piN ⟨(Lib.cut y [44]).1.toArray⟩, piN ⟨(Lib.cut y [44]).2.1.toArray⟩)] by rw [List.take_succ_eq_append_getElem hlt, hy]; simp [parseQ])
          have hcz := cut_size y 44
          clear hy hyk hkm
          have HOB := Lib.hid (show ∀ a, A = some a → a.block < wr.heap.size from fun a e => (HF.out.own.lt a.block (by rw [e]; rfl)).2)
          have hgl := HS.out.1
          go_wp2_with fail
          clear hck
          have hc := HCUT.out wr ⟨y.toArray⟩ 44 HBR.out (by have : (⟨y.toArray⟩ : ByteArray).size = y.length := rfl; omega)
          rw [show (⟨y.toArray⟩ : ByteArray).data.toList = y from rfl] at hc
          generalize Lib.cut y [44] = cu at *
          obtain ⟨b1, b2, bb⟩ := cu
          simp only at hcz HSTEP
          have hz1 : (⟨b1.toArray⟩ : ByteArray).size ≤ maxLen := by have := HMX.out; have : (⟨b1.toArray⟩ : ByteArray).size = b1.length := rfl; omega
          have hz2 : (⟨b2.toArray⟩ : ByteArray).size ≤ maxLen := by have := HMX.out; have : (⟨b2.toArray⟩ : ByteArray).size = b2.length := rfl; omega
          refine hc.mono ?_
          rintro e w7 ⟨rfl, hb⟩
          have G7 := Lib.hid (HF.out.below hb)
          have S7 := Lib.hid (HS.out.below hb)
          have HB7 := Lib.hid (below_on HBR.out hb hbw)
          have hs7 := hb.size
          clear hb hc
          go_upto_region 13 with fail
          have hb := new_below w7 (.cells #[.int .i64 0, .int .i64 0] 49)
          have G8 := Lib.hid (G7.out.below hb)
          have S8 := Lib.hid (S7.out.below hb)
          have HB8 := Lib.hid (below_on HB7.out hb (by omega))
          have BB8 := Lib.hid (box_new w7 0 (.int .i64 0) 49)
          have FB8 := Lib.hid (show (w7.alloc (.cells #[.int .i64 0, .int .i64 0] 49)).frozen? ⟨w7.heap.size, 0, none⟩ = false ∧ (w7.alloc (.cells #[.int .i64 0, .int .i64 0] 49)).frozen? ⟨w7.heap.size, 1, none⟩ = false from ⟨World.frozen?_alloc_at _ _ _ _ rfl, World.frozen?_alloc_at _ _ _ _ rfl⟩)
          clear hb
          generalize (w7.alloc (.cells #[.int .i64 0, .int .i64 0] 49)) = w8 at *
          go_wp2_with fail
          refine (implPi ⟨b1.toArray⟩ w8 hz1 (HT.out.below HB8.out).1).mono ?_
          rintro e w9 ⟨rfl, hb⟩
          generalize piN ⟨b1.toArray⟩ = n0 at *
          have hl8 := BB8.out.1
          have G9 := Lib.hid ((G8.out.below hb).other w7.heap.size 0 (.int .i64 n0) (by omega) (fun a e => by have := HOB.out a e; omega) (by omega))
          have S9 := Lib.hid ((S8.out.below hb).other w7.heap.size 0 (.int .i64 n0) (by omega))
          have HB9 := Lib.hid ((below_on HB8.out hb (by omega)).setCell (p := ⟨w7.heap.size, 0, none⟩) (by show w.heap.size ≤ w7.heap.size; omega) (.int .i64 n0))
          have BX9 := Lib.hid (BB8.out.kept hb)
          have FX9 := Lib.hid (show w9.frozen? ⟨w7.heap.size, 0, none⟩ = false ∧ w9.frozen? ⟨w7.heap.size, 1, none⟩ = false from ⟨(hb.frozen (p := ⟨w7.heap.size, 0, none⟩) hl8).trans FB8.out.1, (hb.frozen (p := ⟨w7.heap.size, 1, none⟩) hl8).trans FB8.out.2⟩)
          have hl9 := BX9.out.1
          have BB9 := Lib.hid (show Box (w9.setCell ⟨w7.heap.size, 0, none⟩ (.int .i64 n0)) w7.heap.size n0 (.int .i64 0) from ⟨Nat.lt_of_lt_of_le hl9 (grownBy_set w9 w7.heap.size 0 (.int .i64 n0)).size, World.cell?_setCell_same _ _ _ BX9.out.2.1, by rw [World.cell?_setCell_other _ _ _ _ (by intro e; simp at e)]; exact BX9.out.2.2⟩)
          have FB9 := Lib.hid (show (w9.setCell ⟨w7.heap.size, 0, none⟩ (.int .i64 n0)).frozen? ⟨w7.heap.size, 1, none⟩ = false by rw [World.frozen?_setCell]; exact FX9.out.2)
          clear hb
          obtain ⟨_, q0, _⟩ := BX9.out
          obtain ⟨f0, _⟩ := FX9.out
          go_upto_region 14 with fail
          clear q0 f0
          generalize (w9.setCell ⟨w7.heap.size, 0, none⟩ (.int .i64 n0)) = w10 at *
          go_wp2_with fail
          refine (implPi ⟨b2.toArray⟩ w10 hz2 (HT.out.below HB9.out).1).mono ?_
          rintro e w11 ⟨rfl, hb⟩
          generalize piN ⟨b2.toArray⟩ = n1 at *
          have hl10 := BB9.out.1
          have G11 := Lib.hid ((G9.out.below hb).other w7.heap.size 1 (.int .i64 n1) (by omega) (fun a e => by have := HOB.out a e; omega) (by omega))
          have S11 := Lib.hid ((S9.out.below hb).other w7.heap.size 1 (.int .i64 n1) (by omega))
          have BX11 := Lib.hid (BB9.out.kept hb)
          have FX11 := Lib.hid ((hb.frozen (p := ⟨w7.heap.size, 1, none⟩) hl10).trans FB9.out)
          have BB11 := Lib.hid (show (w11.setCell ⟨w7.heap.size, 1, none⟩ (.int .i64 n1)).cell? ⟨w7.heap.size, 0, none⟩ = some (.int .i64 n0) ∧ (w11.setCell ⟨w7.heap.size, 1, none⟩ (.int .i64 n1)).cell? ⟨w7.heap.size, 1, none⟩ = some (.int .i64 n1) from ⟨by rw [World.cell?_setCell_other _ _ _ _ (by intro e; simp at e)]; exact BX11.out.2.1, World.cell?_setCell_same _ _ _ BX11.out.2.2⟩)
          clear hb
          have q1 := BX11.out.2.2
          have f1 := FX11.out
          go_upto_region 15 with fail
          clear q1 f1
          generalize (w11.setCell ⟨w7.heap.size, 1, none⟩ (.int .i64 n1)) = w12 at *
          obtain ⟨k0, k1⟩ := BB11.out
          have g2 := G11.out.c2
          have gf := G11.out.f2
          have hB12 : w4.heap.size ≤ w12.heap.size := G11.out.keep.size
          go_wp2_with (at_builtin; refine wpList_at _ rfl _ _ 33 rfl w4.heap.size 49 (.agg #[.int .i64 0, .int .i64 0]) 2 16 Tryd.underlying33 infoPlace rfl (by decide) _ _ _ rfl G11.out.own #[.int .i64 n0, .int .i64 n1] 1 rfl (by simp [Value.oneCell']) _ _ rfl (by omega) (by have := HMX.out; omega) hB12 ?_; intro v' w' ho hg hat _; obtain ⟨c2', f2', A2, cc2, rfl, hG2⟩ := G11.out.push (n0, n1) ho hg hat; have HG2 := Lib.hid hG2; have HS2' := Lib.hid (S11.out.push hg hat (.slice A2 (m.length + 1) cc2)); clear ho hg hat hG2)
          go_roundw
          case rel => exact ⟨k + 1, by omega, by go_num, _, _, m ++ [(n0, n1)], by rw [HSTEP.out, ← HM.out], HG2.out, HS2'.out⟩
          case measure => simp [intOf]; omega
        · obtain rfl : k = ws.length := by omega
          rw [List.take_length] at HM
          have HE := Lib.hid (HEND.out q l m true HPG.out HM.out)
          obtain ⟨hR, hO, hB⟩ := HF.out.fin HR4.out HG4.out HS2.out HB4.out
          have hob := hO.reads
          have hgI := implIsF q l m AS cs A c _ _ wr hob HLM.out
          have g0 := HF.out.c0
          have g1 := HF.out.c1
          have g2 := HF.out.c2
          go_wp2_with fail
          clear g0 g1 g2 hR hO hB
          cases hgb : isFB q l m
          · rw [hgb] at hgI
            refine hgI.mono ?_
            rintro e w7 ⟨rfl, hb⟩
            have G7 := Lib.hid (HF.out.below hb)
            clear hb hgI hob
            obtain ⟨hR, hO, hB⟩ := G7.out.fin HR4.out HG4.out HS2.out HB4.out
            have PFX := HE.out.2 (.inr (.inl hgb))
            obtain ⟨s0, s1, s2, HFO⟩ := fw_retn hR hB (Nat.le_refl _)
            obtain ⟨r0, r1, r2, z0, z1, z2⟩ := (hR).cells
            go_wp2_with fail
            refine bodyPost_ret (v := .tuple #[.agg #[.int .i64 0, .slice none 0 0, .slice none 0 0], .bool false]) ?_ rfl ⟨0, [], [], false, PFX, HFO⟩
            simp [results, Tryd.results11, go_sem, s0, s1, s2]
          · rw [hgb] at hgI
            refine hgI.mono ?_
            rintro e w7 ⟨rfl, hb⟩
            have G7 := Lib.hid (HF.out.below hb)
            have HB7 := Lib.hid (below_on HBR.out hb hbw)
            have hob7 := hob.within (within_of hb) (.inr (Nat.zero_le _))
            clear hb hgI hob
            have g0 := G7.out.c0
            have g1 := G7.out.c1
            have g2 := G7.out.c2
            go_wp2_with fail
            clear g0 g1 g2
            refine (implFmtF q l m AS cs A c _ _ w7 hob7 HLM.out (HT.out.below HB7.out).1).mono ?_
            rintro e w8 ⟨rfl, hb⟩
            have G8 := Lib.hid (G7.out.below hb)
            clear hb hob7
            obtain ⟨hR, hO, hB⟩ := G8.out.fin HR4.out HG4.out HS2.out HB4.out
            generalize fmtF q l m = tx at *
            have g0 := G8.out.c0
            have g1 := G8.out.c1
            have g2 := G8.out.c2
            by_cases hts : tx = s
            · have hct := cmp_true hts
              obtain ⟨s0, s1, s2, hO2, hB2⟩ := fw_ret hR hO hB (Nat.le_refl _) q
              obtain ⟨r0, r1, r2, z0, z1, z2⟩ := hR.cells
              go_wp2_with fail
              refine bodyPost_ret (v := .tuple #[.agg #[.int .i64 q, .slice AS l.length cs, .slice A m.length c], .bool true]) ?_ rfl ⟨q, l, m, true, HE.out.1 hgb hts, AS, cs, A, c, rfl, hO2, hB2⟩
              simp [results, Tryd.results11, go_sem, s0, s1, s2]
            · have hct := cmp_false hts
              have PFX := HE.out.2 (.inr (.inr hts))
              obtain ⟨s0, s1, s2, HFO⟩ := fw_retn hR hB (Nat.le_refl _)
              obtain ⟨r0, r1, r2, z0, z1, z2⟩ := (hR).cells
              go_wp2_with fail
              refine bodyPost_ret (v := .tuple #[.agg #[.int .i64 0, .slice none 0 0, .slice none 0 0], .bool false]) ?_ rfl ⟨0, [], [], false, PFX, HFO⟩
              simp [results, Tryd.results11, go_sem, s0, s1, s2]
end Go.Proofs.YtehendofgcebcaaDoor
/- The law FnExactParseFramework returns true at every input. The condition: the library's tables read as the program lays them. -/
namespace Go.Proofs.YtehendofgcebcaaDoor
open Go.RowKit

theorem pf_len {s : ByteArray} {q : Int} {l m : List (Int × Int)} {b : Bool} (h : PF s q l m b) : l.length + m.length ≤ 1048576 := by
  rcases h with ⟨_, h, _⟩ | ⟨_, _, rfl, rfl, _⟩
  · have h2 := h.bars
    have h3 := h.len
    have h4 := h.six
    omega
  · simp

set_option maxHeartbeats 4000000 in
set_option maxRecDepth 100000 in
theorem lawParseFramework (s : ByteArray) (w : World) (_hs : s.size ≤ maxLen) (ht : Tabs w) :
    Calls Tryd.prog 4 #[.string s] w fun e w' => e = .returned (.bool true) ∧ Below w.heap.size w w' := by
  by_cases hn : s.size ≤ 1048576
  · have hx : ¬ (1048576 : Int) < (s.size : Int) := by omega
    have HT := Lib.hid ht
    clear ht
    have W0 := Lib.hid (Below.refl w.heap.size w)
    go_enter Tryd.func4, Tryd.ntmps4
    go_wp2_with fail
    refine (specParseF s _ hn).mono ?_
    rintro e w1 ⟨q, l, m, b, hpg, AS, cs, BS, ds, rfl, hs', hb⟩
    have Z1 := Lib.hid (within_of hb).size
    have W1 := Lib.hid (within_on W0.out (within_of hb) W0.out.size (.inr (Nat.le_refl _)))
    have SR_1 := Lib.hid (hs'.reads)
    clear hs' hb
    have hm := pf_len hpg
    have HPG := Lib.hid hpg
    clear hpg
    have hal := new_below w1 (.cells #[.int .i64 q, .slice AS l.length cs, .slice BS m.length ds] 35)
    have Z2 := Lib.hid (within_of hal).size
    have W2 := Lib.hid (within_on W1.out (within_of hal) W1.out.size (.inr (Nat.le_refl _)))
    have SR_2 := Lib.hid (SR_1.out.within (within_of hal) (by omega))
    clear hal
    have hsz : (w1.alloc (.cells #[.int .i64 q, .slice AS l.length cs, .slice BS m.length ds] 35)).heap.size = w1.heap.size + 1 := by simp
    have Y2 := Lib.hid hsz
    clear hsz
    have BW_2 := Lib.hid (box3_new w1 q (.slice AS l.length cs) (.slice BS m.length ds) 35)
    go_wp2_with fail
    generalize (w1.alloc (.cells #[.int .i64 q, .slice AS l.length cs, .slice BS m.length ds] 35)) = w2 at *
    refine (implParseF s _ hn (HT.out.below W2.out)).mono ?_
    rintro e w3 ⟨q', l', m', b', hpg, AG, cg, BG, dg, rfl, ho, hb⟩
    have Z3 := Lib.hid (within_of hb).size
    have W3 := Lib.hid (within_on W2.out (within_of hb) W2.out.size (.inr (Nat.le_refl _)))
    have SR_3 := Lib.hid (SR_2.out.within (within_of hb) (by omega))
    have BW_3 := Lib.hid (BW_2.out.within (within_of hb) (by omega))
    have SO_3 := Lib.hid (ho)
    clear hb
    obtain ⟨rfl, rfl, rfl, rfl⟩ := hpg.unique HPG.out
    clear hpg ho
    have hal := new_below w3 (.cells #[.int .i64 q', .slice AG l'.length cg, .slice BG m'.length dg] 35)
    have Z4 := Lib.hid (within_of hal).size
    have W4 := Lib.hid (within_on W3.out (within_of hal) W3.out.size (.inr (Nat.le_refl _)))
    have SR_4 := Lib.hid (SR_3.out.within (within_of hal) (by omega))
    have BW_4 := Lib.hid (BW_3.out.within (within_of hal) (by omega))
    have SO_4 := Lib.hid (SO_3.out.within (within_of hal) (by omega))
    clear hal
    have hsz : (w3.alloc (.cells #[.int .i64 q', .slice AG l'.length cg, .slice BG m'.length dg] 35)).heap.size = w3.heap.size + 1 := by simp
    have Y4 := Lib.hid hsz
    clear hsz
    have BG_4 := Lib.hid (box3_new w3 q' (.slice AG l'.length cg) (.slice BG m'.length dg) 35)
    obtain ⟨g01, g02, g03, g04⟩ := BW_4.out
    obtain ⟨g11, g12, g13, g14⟩ := BG_4.out
    go_wp2_with fail
    clear g01 g02 g03 g04 g11 g12 g13 g14
    generalize (w3.alloc (.cells #[.int .i64 q', .slice AG l'.length cg, .slice BG m'.length dg] 35)) = w4 at *
    refine (eqFw_c q' l' m' AG AS cg cs BG BS dg ds _ _ _ _ _ SO_4.out.reads SR_4.out hm).mono ?_
    rintro e w5 ⟨rfl, hb⟩
    have Z5 := Lib.hid (within_of hb).size
    have W5 := Lib.hid (within_on W4.out (within_of hb) W4.out.size (.inr (Nat.le_refl _)))
    have SR_5 := Lib.hid (SR_4.out.within (within_of hb) (by omega))
    have BW_5 := Lib.hid (BW_4.out.within (within_of hb) (by omega))
    have SO_5 := Lib.hid (SO_4.out.within (within_of hb) (by omega))
    have BG_5 := Lib.hid (BG_4.out.within (within_of hb) (by omega))
    clear hb
    obtain ⟨g01, g02, g03, g04⟩ := BG_5.out
    go_wp2_with fail
    clear g01 g02 g03 g04
    refine (markFw_o q' l' m' AG cg BG dg 1 w2.heap.size w3.heap.size _ SO_5.out hm (by omega) (by omega)).mono ?_
    rintro e w6 ⟨rfl, hin, hog⟩
    have Z6 := Lib.hid (hin).size
    have W6 := Lib.hid (within_on W5.out (hin) W5.out.size (by have := W5.out.size; have := Z1.out; have := Z2.out; have := Z3.out; have := Z4.out; have := Z5.out; have := Z6.out; have := Y2.out; have := Y4.out; omega))
    have SR_6 := Lib.hid (SR_5.out.within (hin) (by have := Z1.out; have := Z2.out; have := Z3.out; have := Z4.out; have := Z5.out; have := Z6.out; have := Y2.out; have := Y4.out; omega))
    have BW_6 := Lib.hid (BW_5.out.within (hin) (by have := Z1.out; have := Z2.out; have := Z3.out; have := Z4.out; have := Z5.out; have := Z6.out; have := Y2.out; have := Y4.out; omega))
    have BG_6 := Lib.hid (BG_5.out.within (hin) (by have := Z1.out; have := Z2.out; have := Z3.out; have := Z4.out; have := Z5.out; have := Z6.out; have := Y2.out; have := Y4.out; omega))
    have SM_6 := Lib.hid (hog)
    clear hog hin
    have hk2 : ¬ (1 : Int) + 2 * (l'.length : Int) + 2 * (m'.length : Int) < 0 := by omega
    obtain ⟨g01, g02, g03, g04⟩ := BG_6.out
    go_wp2_with fail
    clear g01 g02 g03 g04
    refine (heldFw_o q' l'.length m'.length AG cg BG dg 1 w2.heap.size w3.heap.size _ SM_6.out hm (by omega) (by omega)).mono ?_
    rintro e w7 ⟨rfl, hb⟩
    have Z7 := Lib.hid (within_of hb).size
    have W7 := Lib.hid (within_on W6.out (within_of hb) W6.out.size (.inr (Nat.le_refl _)))
    have SR_7 := Lib.hid (SR_6.out.within (within_of hb) (by omega))
    have BW_7 := Lib.hid (BW_6.out.within (within_of hb) (by omega))
    have BG_7 := Lib.hid (BG_6.out.within (within_of hb) (by omega))
    have SM_7 := Lib.hid (SM_6.out.within (within_of hb) (by omega))
    clear hb
    go_wp2_with fail
    refine (implParseF s _ hn (HT.out.below W7.out)).mono ?_
    rintro e w8 ⟨q2, l2, m2, b2, hpg, AH, ch, BH, dh, rfl, ho, hb⟩
    have Z8 := Lib.hid (within_of hb).size
    have W8 := Lib.hid (within_on W7.out (within_of hb) W7.out.size (.inr (Nat.le_refl _)))
    have SR_8 := Lib.hid (SR_7.out.within (within_of hb) (by omega))
    have BW_8 := Lib.hid (BW_7.out.within (within_of hb) (by omega))
    have BG_8 := Lib.hid (BG_7.out.within (within_of hb) (by omega))
    have SM_8 := Lib.hid (SM_7.out.within (within_of hb) (by omega))
    have SH_8 := Lib.hid (ho.reads)
    clear hb
    obtain ⟨rfl, rfl, rfl, rfl⟩ := hpg.unique HPG.out
    clear hpg ho
    have hal := new_below w8 (.cells #[.int .i64 q2, .slice AH l2.length ch, .slice BH m2.length dh] 35)
    have Z9 := Lib.hid (within_of hal).size
    have W9 := Lib.hid (within_on W8.out (within_of hal) W8.out.size (.inr (Nat.le_refl _)))
    have SR_9 := Lib.hid (SR_8.out.within (within_of hal) (by omega))
    have BW_9 := Lib.hid (BW_8.out.within (within_of hal) (by omega))
    have BG_9 := Lib.hid (BG_8.out.within (within_of hal) (by omega))
    have SM_9 := Lib.hid (SM_8.out.within (within_of hal) (by omega))
    have SH_9 := Lib.hid (SH_8.out.within (within_of hal) (by omega))
    clear hal
    have hsz : (w8.alloc (.cells #[.int .i64 q2, .slice AH l2.length ch, .slice BH m2.length dh] 35)).heap.size = w8.heap.size + 1 := by simp
    have Y9 := Lib.hid hsz
    clear hsz
    have BH_9 := Lib.hid (box3_new w8 q2 (.slice AH l2.length ch) (.slice BH m2.length dh) 35)
    obtain ⟨g01, g02, g03, g04⟩ := BW_9.out
    obtain ⟨g11, g12, g13, g14⟩ := BH_9.out
    go_wp2_with fail
    clear g01 g02 g03 g04 g11 g12 g13 g14
    generalize (w8.alloc (.cells #[.int .i64 q2, .slice AH l2.length ch, .slice BH m2.length dh] 35)) = w9 at *
    refine (eqFw_c q2 l2 m2 AH AS ch cs BH BS dh ds _ _ _ _ _ SH_9.out SR_9.out hm).mono ?_
    rintro e w10 ⟨rfl, hb⟩
    have Z10 := Lib.hid (within_of hb).size
    have W10 := Lib.hid (within_on W9.out (within_of hb) W9.out.size (.inr (Nat.le_refl _)))
    have SR_10 := Lib.hid (SR_9.out.within (within_of hb) (by omega))
    have BW_10 := Lib.hid (BW_9.out.within (within_of hb) (by omega))
    have BG_10 := Lib.hid (BG_9.out.within (within_of hb) (by omega))
    have SM_10 := Lib.hid (SM_9.out.within (within_of hb) (by omega))
    have SH_10 := Lib.hid (SH_9.out.within (within_of hb) (by omega))
    have BH_10 := Lib.hid (BH_9.out.within (within_of hb) (by omega))
    clear hb
    obtain ⟨g01, g02, g03, g04⟩ := BG_10.out
    go_wp2_with fail
    clear g01 g02 g03 g04
    refine (heldFw_o q2 l2.length m2.length AG cg BG dg 1 w2.heap.size w3.heap.size _ SM_10.out hm (by omega) (by omega)).mono ?_
    rintro e w11 ⟨rfl, hb⟩
    have Z11 := Lib.hid (within_of hb).size
    have W11 := Lib.hid (within_on W10.out (within_of hb) W10.out.size (.inr (Nat.le_refl _)))
    have SR_11 := Lib.hid (SR_10.out.within (within_of hb) (by omega))
    have BW_11 := Lib.hid (BW_10.out.within (within_of hb) (by omega))
    have BG_11 := Lib.hid (BG_10.out.within (within_of hb) (by omega))
    have SM_11 := Lib.hid (SM_10.out.within (within_of hb) (by omega))
    have SH_11 := Lib.hid (SH_10.out.within (within_of hb) (by omega))
    have BH_11 := Lib.hid (BH_10.out.within (within_of hb) (by omega))
    clear hb
    go_wp2_with fail
    go_ret
    exact ⟨rfl, W11.out⟩
  · have hx : (1048576 : Int) < (s.size : Int) := by omega
    clear ht
    go_enter Tryd.func4, Tryd.ntmps4
    go_wp2_with fail
    go_ret
    exact ⟨rfl, Below.refl _ _⟩
end Go.Proofs.YtehendofgcebcaaDoor
