/- Numbers only: what a varint's bytes are, and which prefix of a string is one. No condition. -/
import Derived.Test.YtooklpeiaedokaaDoorEncVar
namespace Go.Proofs.YtooklpeiaedokaaDoor
open Go.RowKit

/-- The number that the low seven bits of the first k bytes spell, least significant first. -/
def leN (s : ByteArray) : Nat → Int
  | 0 => 0
  | k + 1 => leN s k + byteAt s k % 128 * 128 ^ k
theorem leN_bd (s : ByteArray) (k : Nat) : 0 ≤ leN s k ∧ leN s k < 128 ^ k := by
  induction k with
  | zero => simp [leN]
  | succ k ih =>
    have hb := byteAt_bd s k
    rw [leN, Int.pow_succ]
    have hp : (0 : Int) < 128 ^ k := Int.pow_pos (by decide)
    generalize (128 : Int) ^ k = p at *
    have h1 : 0 ≤ byteAt s k % 128 ∧ byteAt s k % 128 ≤ 127 := by omega
    generalize byteAt s k % 128 = d at *
    have h2 : 0 ≤ d * p := Int.mul_nonneg h1.1 (by omega)
    have h3 : d * p ≤ 127 * p := Int.mul_le_mul_of_nonneg_right h1.2 (by omega)
    omega
theorem leN_bd7 (s : ByteArray) (k : Nat) (h : k ≤ 7) : 0 ≤ leN s k ∧ leN s k ≤ 562949953421311 := by
  have hb := leN_bd s k
  have : (128 : Int) ^ k ≤ 128 ^ 7 := Int.ofNat_le.mpr (Nat.pow_le_pow_right (n := 128) (by decide) h)
  have e : (128 : Int) ^ 7 = 562949953421312 := by decide
  omega

theorem or_swap (x y : Int) (hx0 : 0 ≤ x) (hx : x < 2 ^ 63) (hy0 : 0 ≤ y) (hy : y < 2 ^ 63) : bits .or .i64 x y = bits .or .i64 y x := by
  obtain ⟨a, rfl⟩ := Int.eq_ofNat_of_zero_le hx0
  obtain ⟨b, rfl⟩ := Int.eq_ofNat_of_zero_le hy0
  have ha : a < 2 ^ 63 := by exact_mod_cast hx
  have hb : b < 2 ^ 63 := by exact_mod_cast hy
  rw [(bits_nat .i64 63 (by decide) wraps_i64 a b ha hb).2, (bits_nat .i64 63 (by decide) wraps_i64 b a hb ha).2, Nat.or_comm]
theorem and127 (x : Int) (h0 : 0 ≤ x) (h1 : x ≤ 255) : bits .and .u8 x 127 = x % 128 := bits_mask .u8 8 (by decide) wraps_u8' 7 (by decide) x h0 (by omega)
theorem pow_128 (k : Nat) : (2 : Int) ^ (7 * k) = 128 ^ k := by
  rw [Int.pow_mul]
  rfl
/-- One more byte is taken in. -/
theorem leN_or (s : ByteArray) (k : Nat) (hk : k < 7) (b : Int) (hb : byteAt s k = b) : bits .or .i64 (leN s k) (wrap64 (wrap64 (bits .and .u8 b 127) * 2 ^ (7 * k))) = leN s (k + 1) := by
  subst hb
  have h := byteAt_bd s k
  have hn := leN_bd s k
  have hn1 := leN_bd7 s (k + 1) (by omega)
  have hs : leN s (k + 1) = leN s k + byteAt s k % 128 * 128 ^ k := rfl
  rw [and127 _ h.1 h.2, IntWalk.wrap64_in (byteAt s k % 128) (by omega), pow_128]
  have hp : (0 : Int) < 128 ^ k := Int.pow_pos (by decide)
  have hm : 0 ≤ byteAt s k % 128 * 128 ^ k := Int.mul_nonneg (by omega) (by omega)
  rw [IntWalk.wrap64_in _ (by omega), or_swap _ _ hn.1 (by omega) hm (by omega), hs]
  rw [bits_join .i64 63 (by decide) wraps_i64 (7 * k) _ _ hm (by rw [pow_128]; exact Int.mul_emod_left _ _) (by omega) hn.1 (by rw [pow_128]; exact hn.2) (by omega)]
  omega

/-- The varint of the number that the first k bytes spell is those k bytes. -/
def Enc (s : ByteArray) (k : Nat) : Prop := strOfNums (vb (leN s k).toNat) = s.extract 0 k
instance (s : ByteArray) (k : Nat) : Decidable (Enc s k) := inferInstanceAs (Decidable (_ = _))

theorem Enc_true {s : ByteArray} {k m : Nat} (hm : leN s k = (m : Int)) (h : Enc s k) : ((strOfNums (vb m)).toList == (s.extract 0 k).toList) = true := by
  unfold Enc at h
  rw [hm, Int.toNat_natCast] at h
  rw [h]
  simp
theorem Enc_false {s : ByteArray} {k m : Nat} (hm : leN s k = (m : Int)) (h : ¬ Enc s k) : ((strOfNums (vb m)).toList == (s.extract 0 k).toList) = false := by
  unfold Enc at h
  rw [hm, Int.toNat_natCast] at h
  simp
  intro he
  apply h
  rw [ByteArray.toList_eq, ByteArray.toList_eq] at he
  exact ByteArray.ext (Array.ext' he)

theorem vb_shape (n : Nat) : ∃ pre x, vb n = pre ++ [x] ∧ (∀ y ∈ pre, 128 ≤ y ∧ y ≤ 255) ∧ 0 ≤ x ∧ x < 128 := by
  induction n using Nat.strongRecOn with
  | ind n ih =>
    by_cases h : n < 128
    · exact ⟨[], n, by rw [vb_small n h]; rfl, by simp, by omega, by omega⟩
    · obtain ⟨pre, x, e, hp, hx⟩ := ih (n / 128) (by omega)
      refine ⟨(128 + (n : Int) % 128) :: pre, x, by rw [vb_big n h, e]; rfl, ?_, hx⟩
      intro y hy
      rcases List.mem_cons.1 hy with rfl | hy
      · omega
      · exact hp y hy

theorem Enc_bytes {s : ByteArray} {k : Nat} (h : Enc s (k + 1)) (hk1 : k + 1 ≤ s.size) : byteAt s k < 128 ∧ ∀ j, j < k → 128 ≤ byteAt s j := by
  unfold Enc at h
  obtain ⟨pre, x, e, hp, hx0, hx⟩ := vb_shape (leN s (k + 1)).toNat
  rw [e] at h
  have hsz : (pre ++ [x]).length = k + 1 := by
    have := congrArg ByteArray.size h
    rw [strOfNums_size] at this
    have e2 : (s.extract 0 (k + 1)).size = k + 1 := by simp; omega
    exact this.trans e2
  have hpl : pre.length = k := by simpa using hsz
  have hall : ∀ j (hj : j < (pre ++ [x]).length), 0 ≤ (pre ++ [x])[j] ∧ (pre ++ [x])[j] ≤ 255 := by
    intro j hj
    have hm := List.getElem_mem hj
    rcases List.mem_append.1 hm with hm | hm
    · have := hp _ hm; omega
    · have : (pre ++ [x])[j] = x := by simpa using hm
      omega
  have key : ∀ j (hj : j < k + 1), byteAt s j = (pre ++ [x])[j]'(by omega) := by
    intro j hj
    rw [← byteAt_extract s (k + 1) j hj, ← h, byteAt_nums _ j (by omega) (hall j (by omega))]
  constructor
  · rw [key k (by omega)]
    simp [hpl]
    exact hx
  · intro j hj
    rw [key j (by omega)]
    have : (pre ++ [x])[j]'(by omega) = pre[j]'(by omega) := List.getElem_append_left (by omega)
    rw [this]
    exact (hp _ (List.getElem_mem _)).1

/-- What is answered from byte i on, f bytes at most. -/
def dvFrom (s : ByteArray) : Nat → Nat → Int × Int
  | 0, _ => (0, 0)
  | f + 1, i => if i < s.size then (if byteAt s i < 128 then (if Enc s (i + 1) then (leN s (i + 1), ((i + 1 : Nat) : Int)) else (0, 0)) else dvFrom s f (i + 1)) else (0, 0)

theorem dv_of_enc {s : ByteArray} {k : Nat} (hk : k + 1 ≤ s.size) (h : Enc s (k + 1)) : ∀ d f i, i + d = k → d < f → dvFrom s f i = (leN s (k + 1), ((k + 1 : Nat) : Int)) := by
  obtain ⟨h1, h2⟩ := Enc_bytes h hk
  intro d
  induction d with
  | zero =>
    intro f i hi hf
    obtain ⟨f, rfl⟩ : ∃ f', f = f' + 1 := ⟨f - 1, by omega⟩
    obtain rfl : i = k := by omega
    rw [dvFrom, if_pos (by omega), if_pos h1, if_pos h]
  | succ d ih =>
    intro f i hi hf
    obtain ⟨f, rfl⟩ : ∃ f', f = f' + 1 := ⟨f - 1, by omega⟩
    have := h2 i (by omega)
    rw [dvFrom, if_pos (by omega), if_neg (by omega)]
    exact ih f (i + 1) (by omega) (by omega)

theorem dv_none {s : ByteArray} (h : ∀ k, k < 7 → k + 1 ≤ s.size → ¬ Enc s (k + 1)) : ∀ f i, i + f ≤ 7 → dvFrom s f i = (0, 0) := by
  intro f
  induction f with
  | zero => intro i _; rfl
  | succ f ih =>
    intro i hi
    rw [dvFrom]
    by_cases h1 : i < s.size
    · rw [if_pos h1]
      by_cases h2 : byteAt s i < 128
      · rw [if_pos h2, if_neg (h i (by omega) (by omega))]
      · rw [if_neg h2, ih (i + 1) (by omega)]
    · rw [if_neg h1]
end Go.Proofs.YtooklpeiaedokaaDoor
