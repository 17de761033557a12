/- What impl.DecodeFixed answers: for every string and every width. No condition. -/
import Derived.Test.YtooklpeiaedokaaDoorWords
namespace Go.Proofs.YtooklpeiaedokaaDoor
open Go.RowKit

/-- The number that the first k bytes of s spell, most significant first. -/
def beN (s : ByteArray) : Nat → Int
  | 0 => 0
  | k + 1 => beN s k * 256 + byteAt s k

theorem beN_bd (s : ByteArray) (k : Nat) : 0 ≤ beN s k ∧ beN s k < 256 ^ k := by
  induction k with
  | zero => simp [beN]
  | succ k ih =>
    have hb := byteAt_bd s k
    rw [beN, Int.pow_succ]
    generalize (256 : Int) ^ k = p at *
    omega

theorem beN_bd7 (s : ByteArray) (k : Nat) (h : k ≤ 7) : 0 ≤ beN s k ∧ beN s k < 72057594037927936 := by
  have hb := beN_bd s k
  have : (256 : Int) ^ k ≤ 256 ^ 7 := Int.ofNat_le.mpr (Nat.pow_le_pow_right (n := 256) (by decide) h)
  have e : (256 : Int) ^ 7 = 72057594037927936 := by decide
  omega

theorem beN_bd6 (s : ByteArray) (k : Nat) (h : k ≤ 6) : 0 ≤ beN s k ∧ beN s k < 281474976710656 := by
  have hb := beN_bd s k
  have : (256 : Int) ^ k ≤ 256 ^ 6 := Int.ofNat_le.mpr (Nat.pow_le_pow_right (n := 256) (by decide) h)
  have e : (256 : Int) ^ 6 = 281474976710656 := by decide
  omega

theorem or_byte (x y : Int) (hx0 : 0 ≤ x) (hx : x < 281474976710656) (hy0 : 0 ≤ y) (hy : y ≤ 255) : bits .or .i64 (x * 256) y = x * 256 + y :=
  bits_join .i64 63 (by decide) wraps_i64 8 (x * 256) y (by omega) (by omega) (by omega) hy0 (by omega) (by omega)

set_option maxHeartbeats 400000 in
theorem implDec_bad (s : ByteArray) (a : Int) (w : World) (h : a < 1 ∨ 7 < a ∨ (1 ≤ a ∧ a ≤ 7 ∧ (s.size : Int) < a)) :
    Calls Tryd.prog 13 #[.string s, .int .i64 a] w fun e w' => e = .returned (.tuple #[.int .i64 0, .bool false]) ∧ w = w' := by
  rcases h with h | h | ⟨h1, h2, h3⟩
  all_goals
    go_enter Tryd.func13, Tryd.ntmps13
    go_wp2
    go_ret2
    exact ⟨rfl, rfl⟩

set_option maxHeartbeats 400000 in
theorem implDec_good (s : ByteArray) (a : Int) (w : World) (hs : s.size ≤ maxLen) (h1 : 1 ≤ a) (h2 : a ≤ 7) (h3 : a ≤ (s.size : Int)) :
    Calls Tryd.prog 13 #[.string s, .int .i64 a] w fun e w' => e = .returned (.tuple #[.int .i64 (beN s a.toNat), .bool true]) ∧ w = w' := by
  unfold maxLen at hs
  go_enter Tryd.func13, Tryd.ntmps13
  go_wp2
  go_loop [6, 18] (fun n i => ∃ k : Nat, (k : Int) ≤ a ∧ i = .int .i64 k ∧ n = .int .i64 (beN s k)) (fun _ i => a.toNat - (intOf i).toNat)
  case atStart => exact ⟨0, by omega, rfl, rfl⟩
  case round =>
    obtain ⟨k, hk, rfl, rfl⟩ := hrel
    by_cases hlt : (k : Int) < a
    · have hks : k < s.size := by omega
      have hb := byteAt_bd s k
      have hn := beN_bd6 s k (by omega)
      have he := byteAt_eq s k hks
      have hb' : 0 ≤ (s[k].toNat : Int) ∧ (s[k].toNat : Int) ≤ 255 := he ▸ hb
      have HE := Lib.hid he
      clear he
      go_wp2
      go_round
      case rel =>
        refine ⟨k + 1, by omega, by go_num, ?_⟩
        rw [or_byte _ _ hn.1 hn.2 hb'.1 hb'.2, beN, HE.out]
      case measure => simp [intOf]; omega
    · have hka : (k : Int) = a := by omega
      have hk' : k = a.toNat := by omega
      subst hk'
      go_wp2
      go_ret2
      exact ⟨rfl, rfl⟩
end Go.Proofs.YtooklpeiaedokaaDoor
