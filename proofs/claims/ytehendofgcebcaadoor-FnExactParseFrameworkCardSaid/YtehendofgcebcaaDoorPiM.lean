/- Numbers and strings only: which strings are decimal numerals of at most nine digits, and what reading their bytes gives. No condition. -/
import Derived.Test.YtehendofgcebcaaDoorFmt
namespace Go.Proofs.YtehendofgcebcaaDoor
open Go.RowKit

/-- s is the numeral of n, and n has nine digits at most. -/
def Num (s : ByteArray) (n : Int) : Prop := (-999999999 ≤ n ∧ n ≤ 999999999) ∧ fmtS n = s

/-- The value of a list of digits. -/
def lv (l : List Int) : Int := l.foldl (fun a c => a * 10 + (c - 48)) 0
theorem lv_snoc (l : List Int) (c : Int) : lv (l ++ [c]) = lv l * 10 + (c - 48) := by simp [lv]
theorem lv_ds (m : Nat) : lv (ds m) = (m : Int) := by
  induction m using Nat.strongRecOn with
  | ind m ih =>
    by_cases h : m < 10
    · rw [ds_small m h]; simp [lv]; omega
    · rw [ds_big m h, lv_snoc, ih (m / 10) (by omega)]; omega
theorem ds_digits (m : Nat) : ∀ c ∈ ds m, 48 ≤ c ∧ c ≤ 57 := by
  induction m using Nat.strongRecOn with
  | ind m ih =>
    by_cases h : m < 10
    · rw [ds_small m h]; intro c hc; simp at hc; omega
    · rw [ds_big m h]
      intro c hc
      rcases List.mem_append.1 hc with hc | hc
      · exact ih (m / 10) (by omega) c hc
      · simp at hc; omega
theorem ds_len_pow (k : Nat) : ∀ m : Nat, m < 10 ^ (k + 1) → (ds m).length ≤ k + 1 := by
  induction k with
  | zero => intro m h; rw [ds_small m (by omega)]; simp
  | succ k ih =>
    intro m h
    by_cases hm : m < 10
    · rw [ds_small m hm]; simp
    · rw [ds_big m hm, List.length_append]
      have := ih (m / 10) (by rw [Nat.pow_succ] at h; omega)
      simp; omega
theorem ds_pos (m : Nat) : 1 ≤ (ds m).length := by
  by_cases h : m < 10
  · rw [ds_small m h]; simp
  · rw [ds_big m h]; simp

theorem byteAt_num (l : List Int) (hl : ∀ c ∈ l, 0 ≤ c ∧ c ≤ 255) (j : Nat) (hj : j < l.length) : byteAt (strOfNums l) j = l[j] := byteAt_nums l j hj (hl _ (List.getElem_mem hj))

/-- A numeral's sign and digits: where the digits begin, and what they are. -/
theorem Num.shape {s : ByteArray} {n : Int} (h : Num s n) : ∃ (o m : Nat), s.size = o + (ds m).length ∧ (ds m).length ≤ 9 ∧ (∀ j (hj : j < (ds m).length), byteAt s (o + j) = (ds m)[j]) ∧
    ((o = 0 ∧ n = (m : Int)) ∨ (o = 1 ∧ byteAt s 0 = 45 ∧ n = -(m : Int))) := by
  obtain ⟨⟨h0, h1⟩, rfl⟩ := h
  have db : ∀ m, ∀ c ∈ ds m, 0 ≤ c ∧ c ≤ 255 := fun m c hc => by have := ds_digits m c hc; omega
  rcases Int.lt_or_le n 0 with hn | hn
  · obtain ⟨m, hm⟩ : ∃ m : Nat, -n = (m : Int) := Int.eq_ofNat_of_zero_le (by omega)
    obtain rfl : n = -(m : Int) := by omega
    have hb : ∀ c ∈ (45 :: ds m), 0 ≤ c ∧ c ≤ 255 := by
      intro c hc
      rcases List.mem_cons.1 hc with rfl | hc
      · omega
      · exact db m c hc
    rw [fmtS_neg m (by omega)]
    refine ⟨1, m, ?_, ds_len_pow 8 m (by omega), ?_, .inr ⟨rfl, ?_, rfl⟩⟩
    · rw [strOfNums_size]; simp; omega
    · intro j hj
      rw [byteAt_num _ hb (1 + j) (by simp; omega)]
      simp [Nat.add_comm 1 j]
    · rw [byteAt_num _ hb 0 (by simp)]; rfl
  · obtain ⟨m, rfl⟩ := Int.eq_ofNat_of_zero_le hn
    rw [fmtS_pos]
    refine ⟨0, m, ?_, ds_len_pow 8 m (by omega), ?_, .inl ⟨rfl, rfl⟩⟩
    · rw [strOfNums_size]; simp
    · intro j hj
      simp only [Nat.zero_add]
      exact byteAt_num _ (db m) j hj

theorem Num.inj {s : ByteArray} {n n' : Int} (h : Num s n) (h' : Num s n') : n = n' := by
  obtain ⟨o, m, hs, _, hb, hc⟩ := h.shape
  obtain ⟨o', m', hs', _, hb', hc'⟩ := h'.shape
  have hoo : o = o' := by
    rcases hc with ⟨rfl, _⟩ | ⟨rfl, h45, _⟩ <;> rcases hc' with ⟨rfl, _⟩ | ⟨rfl, h45', _⟩
    · rfl
    · have hp := ds_pos m
      have := hb 0 (by omega)
      have := ds_digits m _ (List.getElem_mem (show 0 < (ds m).length by omega))
      simp at *
      omega
    · have hp := ds_pos m'
      have := hb' 0 (by omega)
      have := ds_digits m' _ (List.getElem_mem (show 0 < (ds m').length by omega))
      simp at *
      omega
    · rfl
  subst hoo
  have hd : ds m = ds m' := by
    apply List.ext_getElem (by omega)
    intro j h1 h2
    rw [← hb j h1, ← hb' j h2]
  have hm : (m : Int) = (m' : Int) := by rw [← lv_ds m, ← lv_ds m', hd]
  rcases hc with ⟨h0, e⟩ | ⟨h0, _, e⟩ <;> rcases hc' with ⟨h0', e'⟩ | ⟨h0', _, e'⟩ <;> omega

open Classical in
/-- The answer's first part: the number, or 0. -/
noncomputable def piN (s : ByteArray) : Int := if h : ∃ n, Num s n then h.choose else 0
open Classical in
/-- The answer's second part. -/
noncomputable def piB (s : ByteArray) : Bool := if ∃ n, Num s n then true else false
theorem pi_yes {s : ByteArray} {n : Int} (h : Num s n) : piN s = n ∧ piB s = true := by
  have he : ∃ n, Num s n := ⟨n, h⟩
  unfold piN piB
  rw [dif_pos he, if_pos he]
  exact ⟨he.choose_spec.inj h, rfl⟩
theorem pi_no {s : ByteArray} (h : ∀ n, ¬ Num s n) : piN s = 0 ∧ piB s = false := by
  have he : ¬ ∃ n, Num s n := fun ⟨n, hn⟩ => h n hn
  unfold piN piB
  rw [dif_neg he, if_neg he]
  exact ⟨rfl, rfl⟩

/-- What spec's loop has reckoned behind i bytes: the digits' value, and how many digits there were. -/
def pN (s : ByteArray) : Nat → Int
  | 0 => 0
  | i + 1 => if 48 ≤ byteAt s i ∧ byteAt s i ≤ 57 then pN s i * 10 + (byteAt s i - 48) else pN s i
def pK (s : ByteArray) : Nat → Nat
  | 0 => 0
  | i + 1 => if 48 ≤ byteAt s i ∧ byteAt s i ≤ 57 then pK s i + 1 else pK s i
theorem pK_le (s : ByteArray) (i : Nat) : pK s i ≤ i := by
  induction i with
  | zero => simp [pK]
  | succ i ih => rw [pK]; split <;> omega
theorem pN_bd (s : ByteArray) (i : Nat) : 0 ≤ pN s i ∧ pN s i < 10 ^ pK s i := by
  induction i with
  | zero => simp [pN, pK]
  | succ i ih =>
    rw [pN, pK]
    split
    · rw [Int.pow_succ]
      generalize (10 : Int) ^ pK s i = p at *
      omega
    · exact ih
theorem pN_bd11 (s : ByteArray) (i : Nat) (h : i ≤ 11) : 0 ≤ pN s i ∧ pN s i < 100000000000 := by
  have hb := pN_bd s i
  have hk := pK_le s i
  have : (10 : Int) ^ pK s i ≤ 10 ^ 11 := Int.ofNat_le.mpr (Nat.pow_le_pow_right (n := 10) (by decide) (by omega))
  have e : (10 : Int) ^ 11 = 100000000000 := by decide
  omega
theorem pN_bd9 (s : ByteArray) (i : Nat) (h : pK s i ≤ 9) : 0 ≤ pN s i ∧ pN s i ≤ 999999999 := by
  have hb := pN_bd s i
  have : (10 : Int) ^ pK s i ≤ 10 ^ 9 := Int.ofNat_le.mpr (Nat.pow_le_pow_right (n := 10) (by decide) h)
  have e : (10 : Int) ^ 9 = 1000000000 := by decide
  omega
theorem pNK_digits (s : ByteArray) (o : Nat) (l : List Int) (hl : ∀ c ∈ l, 48 ≤ c ∧ c ≤ 57) (hb : ∀ j (hj : j < l.length), byteAt s (o + j) = l[j]) (h0 : pN s o = 0) (hk : pK s o = 0) :
    ∀ i, i ≤ l.length → pN s (o + i) = lv (l.take i) ∧ pK s (o + i) = i := by
  intro i
  induction i with
  | zero => intro _; exact ⟨by simp [h0, lv], hk⟩
  | succ i ih =>
    intro hi
    obtain ⟨h1, h2⟩ := ih (by omega)
    have hd := hl _ (List.getElem_mem (show i < l.length by omega))
    have hbi := hb i (by omega)
    rw [← Nat.add_assoc, pN, pK, hbi, if_pos hd, if_pos hd, h1, h2, List.take_succ_eq_append_getElem (by omega), lv_snoc]
    exact ⟨rfl, rfl⟩

/-- The sign is put to the value. -/
def signed (s : ByteArray) (x : Int) : Int := if 0 < s.size ∧ byteAt s 0 = 45 then -x else x

theorem Num.read {s : ByteArray} {n : Int} (h : Num s n) : s.size ≤ 10 ∧ pK s s.size ≤ 9 ∧ signed s (pN s s.size) = n := by
  obtain ⟨o, m, hs, h9, hb, hc⟩ := h.shape
  have hp := ds_pos m
  rcases hc with ⟨rfl, rfl⟩ | ⟨rfl, h45, rfl⟩
  · obtain ⟨h1, h2⟩ := pNK_digits s 0 (ds m) (ds_digits m) hb rfl rfl _ (Nat.le_refl _)
    have hd := ds_digits m _ (List.getElem_mem (show 0 < (ds m).length by omega))
    have h0 := hb 0 (by omega)
    simp only [Nat.zero_add] at h0 h1 h2 hs
    rw [hs, h1, h2, List.take_length, lv_ds]
    refine ⟨by omega, h9, ?_⟩
    unfold signed
    rw [if_neg (by omega)]
  · have hn : ¬ (48 ≤ byteAt s 0 ∧ byteAt s 0 ≤ 57) := by omega
    obtain ⟨h1, h2⟩ := pNK_digits s 1 (ds m) (ds_digits m) hb (by simp [pN, hn]) (by simp [pK, hn]) _ (Nat.le_refl _)
    rw [hs, h1, h2, List.take_length, lv_ds]
    refine ⟨by omega, h9, ?_⟩
    unfold signed
    rw [if_pos (by omega)]

/-- What follows from the value that spec's walk has in hand at its end. -/
theorem pi_end {s : ByteArray} {v : Int} (hv : signed s (pN s s.size) = v) :
    (9 < pK s s.size → piN s = 0 ∧ piB s = false) ∧ (10 < s.size → piN s = 0 ∧ piB s = false) ∧ (pK s s.size ≤ 9 → fmtS v = s → piN s = v ∧ piB s = true) ∧
    (¬ fmtS v = s → piN s = 0 ∧ piB s = false) ∧ (pK s s.size ≤ 9 → -999999999 ≤ v ∧ v ≤ 999999999) := by
  have hbd : pK s s.size ≤ 9 → -999999999 ≤ v ∧ v ≤ 999999999 := by
    intro hk
    have := pN_bd9 s s.size hk
    unfold signed at hv
    split at hv <;> omega
  refine ⟨fun hk => pi_no fun n h => ?_, fun hk => pi_no fun n h => ?_, fun hk hf => pi_yes ⟨hbd hk, hf⟩, fun hf => pi_no fun n h => ?_, hbd⟩
  · have := h.read; omega
  · have := h.read; omega
  · have hr := h.read.2.2
    rw [hv] at hr
    subst hr
    exact hf h.2

/-- The text without a leading '-'. -/
def trimS (s : ByteArray) : ByteArray := ⟨(Lib.trimPrefix s.data.toList [45]).toArray⟩
theorem trim_yes {s : ByteArray} (h : 0 < s.size) (h45 : byteAt s 0 = 45) : (trimS s).size + 1 = s.size ∧ ∀ j, byteAt (trimS s) j = byteAt s (j + 1) := by
  obtain ⟨⟨l⟩⟩ := s
  rcases l with _ | ⟨c, l⟩
  · exact absurd h (by decide)
  · have hc : c = 45 := by
      have h46 : (c.toNat : Int) = 45 := by simpa [byteAt] using h45
      exact UInt8.toNat_inj.1 (show c.toNat = 45 by omega)
    subst hc
    have e : Lib.trimPrefix (45 :: l) [45] = l := by simp [Lib.trimPrefix, Lib.hasPrefix, List.isPrefixOf]
    unfold trimS
    simp only [e]
    exact ⟨by simp [ByteArray.size], fun j => by simp [byteAt]⟩
theorem trim_no {s : ByteArray} (h : ¬ (0 < s.size ∧ byteAt s 0 = 45)) : trimS s = s := by
  obtain ⟨⟨l⟩⟩ := s
  rcases l with _ | ⟨c, l⟩
  · rfl
  · have hc : c ≠ 45 := by
      intro e
      subst e
      exact h ⟨by simp [ByteArray.size], by simp [byteAt]⟩
    have e : Lib.trimPrefix (c :: l) [45] = c :: l := by
      have : ¬ (45 : UInt8) = c := fun e => hc e.symm
      simp [Lib.trimPrefix, Lib.hasPrefix, List.isPrefixOf, this]
    unfold trimS
    simp only [e]

/-- The value of the first i bytes, read as digits. -/
def vN (d : ByteArray) : Nat → Int
  | 0 => 0
  | i + 1 => vN d i * 10 + (byteAt d i - 48)
theorem vN_bd (d : ByteArray) (i : Nat) (h : ∀ j, j < i → 48 ≤ byteAt d j ∧ byteAt d j ≤ 57) : 0 ≤ vN d i ∧ vN d i < 10 ^ i := by
  induction i with
  | zero => simp [vN]
  | succ i ih =>
    have hi := ih fun j hj => h j (by omega)
    have hd := h i (by omega)
    rw [vN, Int.pow_succ]
    generalize (10 : Int) ^ i = p at *
    omega
theorem vN_bd9 (d : ByteArray) (i : Nat) (hi : i ≤ 9) (h : ∀ j, j < i → 48 ≤ byteAt d j ∧ byteAt d j ≤ 57) : 0 ≤ vN d i ∧ vN d i ≤ 999999999 := by
  have hb := vN_bd d i h
  have : (10 : Int) ^ i ≤ 10 ^ 9 := Int.ofNat_le.mpr (Nat.pow_le_pow_right (n := 10) (by decide) hi)
  have e : (10 : Int) ^ 9 = 1000000000 := by decide
  omega
theorem vN_list (d : ByteArray) (l : List Int) (hb : ∀ j (hj : j < l.length), byteAt d j = l[j]) : ∀ i, i ≤ l.length → vN d i = lv (l.take i) := by
  intro i
  induction i with
  | zero => intro _; rfl
  | succ i ih =>
    intro hi
    rw [vN, ih (by omega), hb i (by omega), List.take_succ_eq_append_getElem (by omega), lv_snoc]

theorem Num.trimmed {s : ByteArray} {n : Int} (h : Num s n) : (trimS s).size ≤ 9 ∧ (∀ j, j < (trimS s).size → 48 ≤ byteAt (trimS s) j ∧ byteAt (trimS s) j ≤ 57) ∧
    (if (trimS s).size < s.size then -(vN (trimS s) (trimS s).size) else vN (trimS s) (trimS s).size) = n := by
  obtain ⟨o, m, hs, h9, hb, hc⟩ := h.shape
  have hp := ds_pos m
  rcases hc with ⟨rfl, rfl⟩ | ⟨rfl, h45, rfl⟩
  · have hd := ds_digits m _ (List.getElem_mem (show 0 < (ds m).length by omega))
    have h0 := hb 0 (by omega)
    simp only [Nat.zero_add] at h0 hs hb
    rw [trim_no (s := s) (by omega)]
    refine ⟨by omega, fun j hj => ?_, ?_⟩
    · rw [hb j (by omega)]; exact ds_digits m _ (List.getElem_mem _)
    · rw [if_neg (by omega), hs, vN_list s (ds m) hb _ (Nat.le_refl _), List.take_length, lv_ds]
  · obtain ⟨ht, hbt⟩ := trim_yes (s := s) (by omega) h45
    have hts : (trimS s).size = (ds m).length := by omega
    have hb2 : ∀ j (hj : j < (ds m).length), byteAt (trimS s) j = (ds m)[j] := fun j hj => by rw [hbt j, Nat.add_comm, hb j hj]
    refine ⟨by omega, fun j hj => ?_, ?_⟩
    · rw [hb2 j (by omega)]; exact ds_digits m _ (List.getElem_mem _)
    · rw [if_pos (by omega), hts, vN_list _ (ds m) hb2 _ (Nat.le_refl _), List.take_length, lv_ds]
end Go.Proofs.YtehendofgcebcaaDoor
