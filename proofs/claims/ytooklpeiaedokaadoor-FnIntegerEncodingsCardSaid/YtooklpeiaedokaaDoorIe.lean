/- That the law on integer encodings returns true: for every code; the library's table of powers of ten reads as the program lays it. -/
import Derived.Test.YtooklpeiaedokaaDoorIeM
import Derived.Test.YtooklpeiaedokaaDoorDraw1
import Derived.Test.YtooklpeiaedokaaDoorDecVar
import Derived.Test.YtooklpeiaedokaaDoorEncHexI
import Derived.Test.YtooklpeiaedokaaDoorDecHexI
import Derived.Test.YtooklpeiaedokaaDoorPiI
namespace Go.Proofs.YtooklpeiaedokaaDoor
open Go.RowKit

/-- Two ints, whatever they are. -/
def AnyII (w : World) (e : Ending) (w' : World) : Prop := ∃ x k : Int, e = .returned (.tuple #[.int .i64 x, .int .i64 k]) ∧ Below w.heap.size w w'
/-- An int and a bool, whatever they are. -/
def AnyIB (w : World) (e : Ending) (w' : World) : Prop := ∃ (x : Int) (b : Bool), e = .returned (.tuple #[.int .i64 x, .bool b]) ∧ Below w.heap.size w w'

theorem decV_any (s : ByteArray) (w : World) (hs : s.size ≤ maxLen) : Calls Tryd.prog 10 #[.string s] w (AnyII w) :=
  (implDecV s w hs).mono fun _ _ ⟨he, hb⟩ => ⟨_, _, he, hb⟩
theorem decV_enc (n : Nat) (t : ByteArray) (w : World) (h : n ≤ 562949953421311) (hs : (strOfNums (vb n) ++ t).size ≤ maxLen) :
    Calls Tryd.prog 10 #[.string (strOfNums (vb n) ++ t)] w fun e w' => e = .returned (.tuple #[.int .i64 (n : Int), .int .i64 ((vb n).length : Int)]) ∧ Below w.heap.size w w' :=
  (implDecV _ w hs).mono fun e _ ⟨he, hb⟩ => ⟨by rw [he, dv_round n h t], hb⟩
theorem decF_any (s : ByteArray) (a : Int) (w : World) (hs : s.size ≤ maxLen) : Calls Tryd.prog 13 #[.string s, .int .i64 a] w (AnyIB w) := by
  by_cases hg : 1 ≤ a ∧ a ≤ 7 ∧ a ≤ (s.size : Int)
  · exact (implDec_good s a w hs hg.1 hg.2.1 hg.2.2).mono fun e w' ⟨he, hw⟩ => ⟨_, _, he, by rw [← hw]; exact Below.refl _ _⟩
  · exact (implDec_bad s a w (by omega)).mono fun e w' ⟨he, hw⟩ => ⟨_, _, he, by rw [← hw]; exact Below.refl _ _⟩
theorem decF_enc (n d : Nat) (t : ByteArray) (w : World) (h1 : 1 ≤ d) (h2 : d ≤ 7) (h0 : n / 256 ^ d = 0) (hs : (strOfNums (dg n d) ++ t).size ≤ maxLen) :
    Calls Tryd.prog 13 #[.string (strOfNums (dg n d) ++ t), .int .i64 (d : Int)] w fun e w' => e = .returned (.tuple #[.int .i64 (n : Int), .bool true]) ∧ w = w' :=
  (implDec_good _ (d : Int) w hs (by omega) (by omega) (by rw [ByteArray.size_append, strOfNums_size, dg_len]; omega)).mono fun e _ ⟨he, hw⟩ => ⟨by rw [he, Int.toNat_natCast, be_round n d h0 t], hw⟩
theorem encF_empty (n a : Int) (w : World) (hn : InI64 n) (h : a < 1 ∨ 7 < a ∨ n < 0 ∨ ¬ n.toNat / 256 ^ a.toNat = 0) :
    (Calls Tryd.prog 12 #[.int .i64 n, .int .i64 a] w fun e w' => e = .returned (.string ByteArray.empty) ∧ Below w.heap.size w w') ∧
    (Calls Tryd.prog 14 #[.int .i64 n, .int .i64 a] w fun e w' => e = .returned (.string ByteArray.empty) ∧ Below w.heap.size w w') := by
  unfold InI64 at hn
  by_cases hb : a < 1 ∨ 7 < a ∨ n < 0
  · exact ⟨(implEncF_bad n a w hb).mono fun e w' ⟨he, hw⟩ => ⟨he, by rw [← hw]; exact Below.refl _ _⟩, (specEncF_bad n a w hb).mono fun e w' ⟨he, hw⟩ => ⟨he, by rw [← hw]; exact Below.refl _ _⟩⟩
  · obtain ⟨m, rfl⟩ := Int.eq_ofNat_of_zero_le (show 0 ≤ n by omega)
    obtain ⟨d, rfl⟩ := Int.eq_ofNat_of_zero_le (show 0 ≤ a by omega)
    have hf : ¬ m / 256 ^ d = 0 := by
      rcases h with h | h | h | h
      · omega
      · omega
      · omega
      · simpa using h
    have ha : fixAns m d = ByteArray.empty := by unfold fixAns; rw [if_neg hf]
    exact ⟨(implEncF_good m d w (by omega) (by omega) (by omega)).mono fun e w' ⟨he, hb⟩ => ⟨by rw [he, ha], hb⟩, (specEncF_good m d w (by omega) (by omega) (by omega)).mono fun e w' ⟨he, hb⟩ => ⟨by rw [he, ha], hb⟩⟩
theorem encF_full (n d : Nat) (w : World) (hn : n ≤ 9223372036854775807) (h1 : 1 ≤ d) (h2 : d ≤ 7) (h0 : n / 256 ^ d = 0) :
    (Calls Tryd.prog 12 #[.int .i64 (n : Int), .int .i64 (d : Int)] w fun e w' => e = .returned (.string (strOfNums (dg n d))) ∧ Below w.heap.size w w') ∧
    (Calls Tryd.prog 14 #[.int .i64 (n : Int), .int .i64 (d : Int)] w fun e w' => e = .returned (.string (strOfNums (dg n d))) ∧ Below w.heap.size w w') := by
  have ha : fixAns n d = strOfNums (dg n d) := by unfold fixAns; rw [if_pos h0]
  exact ⟨(implEncF_good n d w hn h1 h2).mono fun e w' ⟨he, hb⟩ => ⟨by rw [he, ha], hb⟩, (specEncF_good n d w hn h1 h2).mono fun e w' ⟨he, hb⟩ => ⟨by rw [he, ha], hb⟩⟩
theorem decH_enc (t : ByteArray) (w : World) (hs : t.size ≤ 500000) :
    Calls Tryd.prog 16 #[.string (strOfNums (hexN t t.size))] w fun e w' => e = .returned (.tuple #[.string t, .bool true]) ∧ Below w.heap.size w w' :=
  (implDecHex _ w (by rw [strOfNums_size, hexN_len]; omega)).mono fun e _ ⟨he, hb⟩ => ⟨by rw [he, (dh_round t).1, (dh_round t).2], hb⟩
theorem fmtS_size (n : Int) (h : InI64 n) : (fmtS n).size ≤ 21 := by
  have := Lib.itoa_length_le n h.1 h.2
  simpa [fmtS, ByteArray.size] using this
theorem parse_small (n : Int) (w : World) (h : -999999999 ≤ n ∧ n ≤ 999999999) (ht : Tab w) :
    Calls Tryd.prog 18 #[.string (fmtS n)] w fun e w' => e = .returned (.tuple #[.int .i64 n, .bool true]) ∧ Below w.heap.size w w' :=
  (implPi _ w (by have := fmtS_size n ⟨by omega, by omega⟩; unfold maxLen; omega) ht).mono fun e _ ⟨he, hb⟩ => ⟨by rw [he, (pi_small n h).1, (pi_small n h).2], hb⟩
theorem parse_large (n : Int) (w : World) (hi : InI64 n) (h : n < -999999999 ∨ 999999999 < n) (ht : Tab w) :
    Calls Tryd.prog 18 #[.string (fmtS n)] w fun e w' => e = .returned (.tuple #[.int .i64 0, .bool false]) ∧ Below w.heap.size w w' :=
  (implPi _ w (by have := fmtS_size n hi; unfold maxLen; omega) ht).mono fun e _ ⟨he, hb⟩ => ⟨by rw [he, (pi_large n h).1, (pi_large n h).2], hb⟩

theorem big_yes (w : World) (A : Option Addr) (len cap : Nat) (h : (1048576 : Int) < (len : Int)) :
    Calls Tryd.prog 6 #[.slice A len cap] w fun e w' => e = .returned (.bool true) ∧ w = w' := by
  have h' : decide ((1048576 : Int) < (len : Int)) = true := by simpa using h
  go_enter Tryd.func6, Tryd.ntmps6
  go_wp2
  go_ret
  exact ⟨rfl, rfl⟩
theorem big_no (w : World) (A : Option Addr) (len cap : Nat) (h : (len : Int) ≤ 1048576) :
    Calls Tryd.prog 6 #[.slice A len cap] w fun e w' => e = .returned (.bool false) ∧ w = w' := by
  have h' : decide ((1048576 : Int) < (len : Int)) = false := by simp; omega
  go_enter Tryd.func6, Tryd.ntmps6
  go_wp2
  go_ret
  exact ⟨rfl, rfl⟩
end Go.Proofs.YtooklpeiaedokaaDoor
