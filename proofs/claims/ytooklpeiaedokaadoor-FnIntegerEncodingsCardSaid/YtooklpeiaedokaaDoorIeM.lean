/- Numbers and strings only: what is encoded is decoded again, whatever follows. No condition. -/
import Derived.Test.YtooklpeiaedokaaDoorDecVarM
import Derived.Test.YtooklpeiaedokaaDoorDecFix
import Derived.Test.YtooklpeiaedokaaDoorEncFix
import Derived.Test.YtooklpeiaedokaaDoorDecHexM
import Derived.Test.YtooklpeiaedokaaDoorPiM
namespace Go.Proofs.YtooklpeiaedokaaDoor
open Go.RowKit

theorem byteAt_left (a b : ByteArray) (j : Nat) (h : j < a.size) : byteAt (a ++ b) j = byteAt a j := by
  unfold byteAt
  have h' : j < a.data.toList.length := by simpa using h
  rw [List.getD_eq_getElem?_getD, List.getD_eq_getElem?_getD, ByteArray.data_append, Array.toList_append, List.getElem?_append_left h']
theorem extract_left (a b : ByteArray) : (a ++ b).extract 0 a.size = a := by
  apply ByteArray.ext
  rw [ByteArray.data_extract, ByteArray.data_append, ← ByteArray.size_data]
  simp
theorem vb_bytes (n : Nat) : ∀ c ∈ vb n, 0 ≤ c ∧ c ≤ 255 := by
  intro c hc
  obtain ⟨pre, x, e, hp, hx⟩ := vb_shape n
  rw [e] at hc
  rcases List.mem_append.1 hc with hc | hc
  · have := hp c hc; omega
  · simp at hc; omega
theorem byteAt_list (l : List Int) (hl : ∀ c ∈ l, 0 ≤ c ∧ c ≤ 255) (t : ByteArray) (j : Nat) (hj : j < l.length) : byteAt (strOfNums l ++ t) j = l[j] := by
  rw [byteAt_left _ _ _ (by rw [strOfNums_size]; exact hj)]
  exact byteAt_nums l j hj (hl _ (List.getElem_mem hj))

theorem leN_vb (s : ByteArray) : ∀ (n o : Nat), (∀ j (hj : j < (vb n).length), byteAt s (o + j) = (vb n)[j]) → leN s (o + (vb n).length) = leN s o + (n : Int) * 128 ^ o := by
  intro n
  induction n using Nat.strongRecOn with
  | ind n ih =>
    intro o hb
    by_cases h : n < 128
    · have e := vb_small n h
      have h0 := hb 0 (by rw [e]; simp)
      simp only [e, List.length_cons, List.length_nil, Nat.add_zero, List.getElem_cons_zero] at h0 ⊢
      rw [Nat.zero_add, leN, h0, show (n : Int) % 128 = n by omega]
    · have e := vb_big n h
      have h0 := hb 0 (by rw [e]; simp)
      have ht : ∀ j (hj : j < (vb (n / 128)).length), byteAt s (o + 1 + j) = (vb (n / 128))[j] := by
        intro j hj
        have := hb (j + 1) (by rw [e]; simpa using hj)
        simp only [e, List.getElem_cons_succ] at this
        rw [← this, show o + 1 + j = o + (j + 1) by omega]
      simp only [e, Nat.add_zero, List.getElem_cons_zero] at h0
      have hr := ih (n / 128) (by omega) (o + 1) ht
      rw [e, List.length_cons, show o + ((vb (n / 128)).length + 1) = o + 1 + (vb (n / 128)).length by omega, hr, leN, h0, Int.pow_succ]
      have hq : (n : Int) = (128 + (n : Int) % 128) % 128 + ((n / 128 : Nat) : Int) * 128 := by omega
      generalize (128 + (n : Int) % 128) % 128 = r at *
      generalize ((n / 128 : Nat) : Int) = q at *
      rw [hq]
      generalize (128 : Int) ^ o = p
      rw [Int.add_mul, Int.mul_assoc q 128 p, Int.mul_comm 128 p]
      omega

theorem dv_round (n : Nat) (h : n ≤ 562949953421311) (t : ByteArray) : dvFrom (strOfNums (vb n) ++ t) 7 0 = ((n : Int), ((vb n).length : Int)) := by
  have h7 := vb_len7 n h
  obtain ⟨pre, x, e, _⟩ := vb_shape n
  have hl1 : 1 ≤ (vb n).length := by rw [e]; simp
  obtain ⟨k, hk⟩ : ∃ k, (vb n).length = k + 1 := ⟨(vb n).length - 1, by omega⟩
  have hle : leN (strOfNums (vb n) ++ t) (k + 1) = (n : Int) := by
    have := leN_vb (strOfNums (vb n) ++ t) n 0 (fun j hj => by rw [Nat.zero_add]; exact byteAt_list _ (vb_bytes n) t j hj)
    rw [Nat.zero_add, hk] at this
    rw [this]
    simp [leN]
  have hsz : (strOfNums (vb n)).size = k + 1 := by rw [strOfNums_size, hk]
  have hen : Enc (strOfNums (vb n) ++ t) (k + 1) := by
    unfold Enc
    rw [hle, Int.toNat_natCast, ← hsz, extract_left]
  have := dv_of_enc (s := strOfNums (vb n) ++ t) (k := k) (by rw [ByteArray.size_append]; omega) hen k 7 0 (by omega) (by omega)
  rw [this, hle, hk]

theorem dg_bytes (n d : Nat) : ∀ c ∈ dg n d, 0 ≤ c ∧ c ≤ 255 := by
  induction d with
  | zero => intro c hc; simp [dg] at hc
  | succ d ih =>
    intro c hc
    rw [dg] at hc
    rcases List.mem_cons.1 hc with rfl | hc
    · omega
    · exact ih c hc
theorem be_round (n d : Nat) (h0 : n / 256 ^ d = 0) (t : ByteArray) : beN (strOfNums (dg n d) ++ t) d = (n : Int) := by
  have key : ∀ k, k ≤ d → beN (strOfNums (dg n d) ++ t) k = ((n / 256 ^ (d - k) : Nat) : Int) := by
    intro k
    induction k with
    | zero => intro _; rw [Nat.sub_zero, h0]; rfl
    | succ k ih =>
      intro hk
      have hb := byteAt_list (dg n d) (dg_bytes n d) t k (by rw [dg_len]; omega)
      have hg := dg_get n d k (by omega)
      rw [List.getElem?_eq_getElem (by rw [dg_len]; omega)] at hg
      have hg' := Option.some.inj hg
      rw [beN, ih (by omega), hb, hg', show d - k = (d - (k + 1)) + 1 by omega, show d - 1 - k = d - (k + 1) by omega, Nat.pow_succ, ← Nat.div_div_eq_div_mul]
      omega
  have := key d (Nat.le_refl _)
  rw [this, Nat.sub_self]
  simp

theorem hexDig_bd (d : Int) (h0 : 0 ≤ d) (h1 : d < 16) : 0 ≤ hexDig d ∧ hexDig d ≤ 255 := by unfold hexDig; split <;> omega
theorem hexN_bytes (t : ByteArray) (k : Nat) : ∀ c ∈ hexN t k, 0 ≤ c ∧ c ≤ 255 := by
  induction k with
  | zero => intro c hc; simp [hexN] at hc
  | succ k ih =>
    intro c hc
    have hb := byteAt_bd t k
    rw [hexN] at hc
    rcases List.mem_append.1 hc with hc | hc
    · exact ih c hc
    · simp at hc
      rcases hc with rfl | rfl
      · exact hexDig_bd _ (by omega) (by omega)
      · exact hexDig_bd _ (by omega) (by omega)
theorem hexN_get (t : ByteArray) : ∀ k j, j < k → (hexN t k)[2 * j]? = some (hexDig (byteAt t j / 16)) ∧ (hexN t k)[2 * j + 1]? = some (hexDig (byteAt t j % 16)) := by
  intro k
  induction k with
  | zero => intro j h; omega
  | succ k ih =>
    intro j h
    rw [hexN]
    by_cases hj : j < k
    · rw [List.getElem?_append_left (by rw [hexN_len]; omega), List.getElem?_append_left (by rw [hexN_len]; omega)]
      exact ih j hj
    · obtain rfl : j = k := by omega
      rw [List.getElem?_append_right (by rw [hexN_len]; omega), List.getElem?_append_right (by rw [hexN_len]; omega), hexN_len, Nat.sub_self, show 2 * j + 1 - 2 * j = 1 by omega]
      exact ⟨rfl, rfl⟩
theorem byteAt_hex (t : ByteArray) (j : Nat) (h : j < t.size) : byteAt (strOfNums (hexN t t.size)) (2 * j) = hexDig (byteAt t j / 16) ∧ byteAt (strOfNums (hexN t t.size)) (2 * j + 1) = hexDig (byteAt t j % 16) := by
  obtain ⟨h1, h2⟩ := hexN_get t t.size j h
  have hl := hexN_len t t.size
  have l1 : 2 * j < (hexN t t.size).length := by omega
  have l2 : 2 * j + 1 < (hexN t t.size).length := by omega
  rw [List.getElem?_eq_getElem l1] at h1
  rw [List.getElem?_eq_getElem l2] at h2
  constructor
  · rw [byteAt_nums _ _ l1 (hexN_bytes t _ _ (List.getElem_mem l1))]; exact Option.some.inj h1
  · rw [byteAt_nums _ _ l2 (hexN_bytes t _ _ (List.getElem_mem l2))]; exact Option.some.inj h2
theorem hv_hex (t : ByteArray) (j : Nat) (h : j < t.size) : hv (strOfNums (hexN t t.size)) (2 * j) = byteAt t j / 16 ∧ hv (strOfNums (hexN t t.size)) (2 * j + 1) = byteAt t j % 16 := by
  obtain ⟨h1, h2⟩ := byteAt_hex t j h
  have hb := byteAt_bd t j
  unfold hv
  rw [h1, h2]
  exact ⟨hexVal_dig _ (by omega) (by omega), hexVal_dig _ (by omega) (by omega)⟩
theorem hd_hex (t : ByteArray) : ∀ k, k ≤ t.size → hd (strOfNums (hexN t t.size)) k = (t.data.toList.take k).map fun c => (c.toNat : Int) := by
  intro k
  induction k with
  | zero => intro _; rfl
  | succ k ih =>
    intro h
    obtain ⟨h1, h2⟩ := hv_hex t k (by omega)
    have hl : k < t.data.toList.length := by simp; omega
    rw [hd, ih (by omega), h1, h2, List.take_succ_eq_append_getElem hl, List.map_append]
    congr 1
    have : byteAt t k = ((t.data.toList[k]'hl).toNat : Int) := by
      unfold byteAt
      rw [List.getD_eq_getElem?_getD, List.getElem?_eq_getElem hl]; rfl
    simp only [List.map_cons, List.map_nil, ← this]
    congr 1
    omega
theorem nums_back (t : ByteArray) : strOfNums (t.data.toList.map fun c => (c.toNat : Int)) = t := by
  unfold strOfNums
  rw [List.map_map]
  apply ByteArray.ext
  simp [Function.comp_def]
theorem dh_round (t : ByteArray) : dhS (strOfNums (hexN t t.size)) = t ∧ dhB (strOfNums (hexN t t.size)) = true := by
  have hsz : (strOfNums (hexN t t.size)).size = 2 * t.size := by rw [strOfNums_size, hexN_len]
  have hx : IsHex (strOfNums (hexN t t.size)) := by
    refine ⟨by omega, fun j hj => ?_⟩
    have hb := byteAt_bd t (j / 2)
    obtain ⟨h1, h2⟩ := hv_hex t (j / 2) (by omega)
    by_cases hp : j % 2 = 0
    · rw [show 2 * (j / 2) = j by omega] at h1; omega
    · rw [show 2 * (j / 2) + 1 = j by omega] at h2; omega
  obtain ⟨h1, h2⟩ := dh_yes hx
  refine ⟨?_, h2⟩
  rw [h1, hsz, show 2 * t.size / 2 = t.size by omega, hd_hex t t.size (Nat.le_refl _), List.take_of_length_le (by simp)]
  exact nums_back t

theorem ds_len_ge (m : Nat) (h : 1000000000 ≤ m) : 10 ≤ (ds m).length := by
  have step : ∀ m, ¬ m < 10 → (ds m).length = (ds (m / 10)).length + 1 := fun m hm => by rw [ds_big m hm, List.length_append]; rfl
  have := ds_pos (m / 10 / 10 / 10 / 10 / 10 / 10 / 10 / 10 / 10)
  rw [step m (by omega), step (m / 10) (by omega), step (m / 10 / 10) (by omega), step (m / 10 / 10 / 10) (by omega), step (m / 10 / 10 / 10 / 10) (by omega),
    step (m / 10 / 10 / 10 / 10 / 10) (by omega), step (m / 10 / 10 / 10 / 10 / 10 / 10) (by omega), step (m / 10 / 10 / 10 / 10 / 10 / 10 / 10) (by omega), step (m / 10 / 10 / 10 / 10 / 10 / 10 / 10 / 10) (by omega)]
  omega
theorem pi_small (n : Int) (h : -999999999 ≤ n ∧ n ≤ 999999999) : piN (fmtS n) = n ∧ piB (fmtS n) = true := pi_yes ⟨h, rfl⟩
theorem pi_large (n : Int) (h : n < -999999999 ∨ 999999999 < n) : piN (fmtS n) = 0 ∧ piB (fmtS n) = false := by
  refine pi_no fun n' hn => ?_
  have hr := hn.read.2.1
  have db : ∀ m, ∀ c ∈ ds m, 0 ≤ c ∧ c ≤ 255 := fun m c hc => by have := ds_digits m c hc; omega
  rcases h with h | h
  · obtain ⟨m, hm⟩ : ∃ m : Nat, -n = (m : Int) := Int.eq_ofNat_of_zero_le (by omega)
    obtain rfl : n = -(m : Int) := by omega
    have hb : ∀ c ∈ (45 :: ds m), 0 ≤ c ∧ c ≤ 255 := by
      intro c hc
      rcases List.mem_cons.1 hc with rfl | hc
      · omega
      · exact db m c hc
    have h10 := ds_len_ge m (by omega)
    rw [fmtS_neg m (by omega)] at hr
    have h45 : byteAt (strOfNums (45 :: ds m)) 0 = 45 := by rw [byteAt_num _ hb 0 (by simp)]; rfl
    have hn45 : ¬ (48 ≤ byteAt (strOfNums (45 :: ds m)) 0 ∧ byteAt (strOfNums (45 :: ds m)) 0 ≤ 57) := by omega
    have hk := (pNK_digits (strOfNums (45 :: ds m)) 1 (ds m) (ds_digits m) (fun j hj => by
      rw [byteAt_num _ hb (1 + j) (by simp; omega)]
      simp [Nat.add_comm 1 j]) (by simp [pN, hn45]) (by simp [pK, hn45]) _ (Nat.le_refl _)).2
    rw [strOfNums_size, List.length_cons, Nat.add_comm (ds m).length 1, hk] at hr
    omega
  · obtain ⟨m, rfl⟩ := Int.eq_ofNat_of_zero_le (show 0 ≤ n by omega)
    have h10 := ds_len_ge m (by omega)
    rw [fmtS_pos] at hr
    have hk := (pNK_digits (strOfNums (ds m)) 0 (ds m) (ds_digits m) (fun j hj => by rw [Nat.zero_add]; exact byteAt_num _ (db m) j hj) rfl rfl _ (Nat.le_refl _)).2
    rw [strOfNums_size] at hr
    rw [Nat.zero_add] at hk
    omega
end Go.Proofs.YtooklpeiaedokaaDoor
