/- Numbers and strings only: hexadecimal digits read back. No condition. -/
import Derived.Test.YtooklpeiaedokaaDoorEncHexM
import Derived.Test.YtooklpeiaedokaaDoorIdxRune
namespace Go.Proofs.YtooklpeiaedokaaDoor
open Go.RowKit

/-- What a hexadecimal digit stands for; -1 at any other byte. -/
def hexVal (b : Int) : Int := if 48 ≤ b ∧ b ≤ 57 then b - 48 else if 97 ≤ b ∧ b ≤ 102 then b - 87 else -1
theorem hexVal_dig (j : Int) (h0 : 0 ≤ j) (h1 : j < 16) : hexVal (hexDig j) = j := by unfold hexVal hexDig; split <;> split <;> omega
theorem hexVal_bd (b : Int) : -1 ≤ hexVal b ∧ hexVal b ≤ 15 := by unfold hexVal; split <;> (try split) <;> omega
theorem hexDig_val (b : Int) (h : 0 ≤ hexVal b) : hexDig (hexVal b) = b := by unfold hexVal at h ⊢; unfold hexDig; split <;> split <;> omega
theorem hexVal_none (b : Int) (h : ∀ j : Nat, j < 16 → ¬ hexDig j = b) : hexVal b = -1 := by
  have hb := hexVal_bd b
  by_cases h0 : 0 ≤ hexVal b
  · exfalso
    obtain ⟨j, hj⟩ := Int.eq_ofNat_of_zero_le h0
    apply h j (by omega)
    rw [← hj]
    exact hexDig_val b h0
  · omega
theorem hexVal_high (b : Int) (h : 128 ≤ b) : hexVal b = -1 := by unfold hexVal; split <;> (try split) <;> omega
theorem ix_hex (r : Nat) (h : r < 128) : Lib.indexByte [48, 49, 50, 51, 52, 53, 54, 55, 56, 57, 97, 98, 99, 100, 101, 102] r.toUInt8 = hexVal (r : Int) := by
  have g : ∀ i : Fin 128, Lib.indexByte [48, 49, 50, 51, 52, 53, 54, 55, 56, 57, 97, 98, 99, 100, 101, 102] i.val.toUInt8 = hexVal (i.val : Int) := by decide +kernel
  exact g ⟨r, h⟩

/-- The digit's value at place j. -/
def hv (s : ByteArray) (j : Nat) : Int := hexVal (byteAt s j)
theorem hv_bd (s : ByteArray) (j : Nat) : -1 ≤ hv s j ∧ hv s j ≤ 15 := hexVal_bd _

/-- s is the hexadecimal form of some bytes. -/
def IsHex (s : ByteArray) : Prop := s.size % 2 = 0 ∧ ∀ j, j < s.size → 0 ≤ hv s j
/-- The first k bytes that s stands for. -/
def hd (s : ByteArray) : Nat → List Int
  | 0 => []
  | k + 1 => hd s k ++ [16 * hv s (2 * k) + hv s (2 * k + 1)]
theorem hd_len (s : ByteArray) (k : Nat) : (hd s k).length = k := by
  induction k with
  | zero => rfl
  | succ k ih => rw [hd, List.length_append, ih]; rfl

open Classical in
noncomputable def dhS (s : ByteArray) : ByteArray := if IsHex s then strOfNums (hd s (s.size / 2)) else ByteArray.empty
open Classical in
noncomputable def dhB (s : ByteArray) : Bool := if IsHex s then true else false
theorem dh_yes {s : ByteArray} (h : IsHex s) : dhS s = strOfNums (hd s (s.size / 2)) ∧ dhB s = true := by
  unfold dhS dhB
  rw [if_pos h, if_pos h]
  exact ⟨rfl, rfl⟩
theorem dh_no {s : ByteArray} (h : ¬ IsHex s) : dhS s = ByteArray.empty ∧ dhB s = false := by
  unfold dhS dhB
  rw [if_neg h, if_neg h]
  exact ⟨rfl, rfl⟩

/-- What the row of half as many bytes holds when k digits have been read. -/
def rwAt (s : ByteArray) (k j : Nat) : Int := if 2 * j + 1 < k then 16 * hv s (2 * j) + hv s (2 * j + 1) else if 2 * j < k then hv s (2 * j) else 0
def rw_ (s : ByteArray) (k : Nat) : List Int := (List.range (s.size / 2)).map (rwAt s k)
theorem rw_len (s : ByteArray) (k : Nat) : (rw_ s k).length = s.size / 2 := by simp [rw_]
theorem rw_zero (s : ByteArray) : (rw_ s 0).map (Value.int .u8) = List.replicate (s.size / 2) (.int .u8 0) := by
  unfold rw_
  rw [List.map_map, List.eq_replicate_iff]
  refine ⟨by simp, fun b hb => ?_⟩
  simp [rwAt] at hb
  exact hb.2.symm
theorem rw_get (s : ByteArray) (k j : Nat) (h : j < s.size / 2) : (rw_ s k)[j]? = some (rwAt s k j) := by
  unfold rw_
  rw [List.getElem?_map, List.getElem?_range h]
  rfl
theorem rw_set (s : ByteArray) (k : Nat) : (rw_ s k).set (k / 2) (rwAt s (k + 1) (k / 2)) = rw_ s (k + 1) := by
  apply List.ext_getElem?
  intro j
  by_cases hj : j < s.size / 2
  · by_cases he : k / 2 = j
    · subst he
      rw [List.getElem?_set_self (by rw [rw_len]; exact hj), rw_get _ _ _ hj]
    · rw [List.getElem?_set_ne he, rw_get _ _ _ hj, rw_get _ _ _ hj]
      congr 1
      unfold rwAt
      by_cases h1 : 2 * j + 1 < k
      · have h1' : 2 * j + 1 < k + 1 := by omega
        rw [if_pos h1, if_pos h1']
      · have h1' : ¬ 2 * j + 1 < k + 1 := by omega
        have h2 : ¬ 2 * j < k := by omega
        have h2' : ¬ 2 * j < k + 1 := by omega
        rw [if_neg h1, if_neg h1', if_neg h2, if_neg h2']
  · rw [List.getElem?_eq_none (by rw [List.length_set, rw_len]; omega), List.getElem?_eq_none (by rw [rw_len]; omega)]
theorem hd_get (s : ByteArray) : ∀ k j, j < k → (hd s k)[j]? = some (16 * hv s (2 * j) + hv s (2 * j + 1)) := by
  intro k
  induction k with
  | zero => intro j h; omega
  | succ k ih =>
    intro j h
    rw [hd]
    by_cases hj : j < k
    · rw [List.getElem?_append_left (by rw [hd_len]; exact hj), ih j hj]
    · obtain rfl : j = k := by omega
      rw [List.getElem?_append_right (by rw [hd_len]; exact Nat.le_refl _), hd_len, Nat.sub_self]
      rfl
theorem rw_all (s : ByteArray) (he : s.size % 2 = 0) : rw_ s s.size = hd s (s.size / 2) := by
  apply List.ext_getElem?
  intro j
  by_cases hj : j < s.size / 2
  · rw [rw_get _ _ _ hj, hd_get _ _ _ hj, rwAt, if_pos (by omega)]
  · rw [List.getElem?_eq_none (by rw [rw_len]; omega), List.getElem?_eq_none (by rw [hd_len]; omega)]
/-- The step of the row's byte. -/
theorem rwAt_step (s : ByteArray) (k : Nat) (hk : ∀ j, j < k + 1 → 0 ≤ hv s j) : bits .or .u8 (rwAt s k (k / 2) * 16) (hv s k) = rwAt s (k + 1) (k / 2) ∧ 0 ≤ rwAt s k (k / 2) ∧ rwAt s k (k / 2) ≤ 15 ∧ 0 ≤ rwAt s (k + 1) (k / 2) ∧ rwAt s (k + 1) (k / 2) ≤ 255 := by
  have h0 := hk k (by omega)
  have hb := hv_bd s k
  by_cases hp : k % 2 = 0
  · have e1 : rwAt s k (k / 2) = 0 := by unfold rwAt; rw [if_neg (by omega), if_neg (by omega)]
    have e2 : rwAt s (k + 1) (k / 2) = hv s k := by unfold rwAt; rw [if_neg (by omega), if_pos (by omega), show 2 * (k / 2) = k by omega]
    rw [e1, e2]
    refine ⟨?_, by omega, by omega, by omega, by omega⟩
    rw [show (0 : Int) * 16 = 0 from rfl]
    rw [bits_join .u8 8 (by decide) wraps_u8' 4 0 (hv s k) (by decide) (by decide) (by decide) h0 (by omega) (by omega)]
    omega
  · have h1 := hk (k - 1) (by omega)
    have hb1 := hv_bd s (k - 1)
    have e1 : rwAt s k (k / 2) = hv s (k - 1) := by unfold rwAt; rw [if_neg (by omega), if_pos (by omega), show 2 * (k / 2) = k - 1 by omega]
    have e2 : rwAt s (k + 1) (k / 2) = 16 * hv s (k - 1) + hv s k := by unfold rwAt; rw [if_pos (by omega), show 2 * (k / 2) = k - 1 by omega, show k - 1 + 1 = k by omega]
    rw [e1, e2]
    refine ⟨?_, by omega, by omega, by omega, by omega⟩
    rw [bits_join .u8 8 (by decide) wraps_u8' 4 _ (hv s k) (by omega) (by omega) (by omega) h0 (by omega) (by omega)]
    omega
end Go.Proofs.YtooklpeiaedokaaDoor
