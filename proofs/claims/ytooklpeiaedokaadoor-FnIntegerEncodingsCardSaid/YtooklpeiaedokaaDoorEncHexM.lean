/- Numbers only: hexadecimal digits. No condition. -/
import Derived.Test.YtooklpeiaedokaaDoorEncVar
namespace Go.Proofs.YtooklpeiaedokaaDoor
open Go.RowKit

/-- The digit of a number below 16. -/
def hexDig (d : Int) : Int := if d < 10 then 48 + d else 87 + d

/-- The hexadecimal digits of the first k bytes of s. -/
def hexN (s : ByteArray) : Nat → List Int
  | 0 => []
  | k + 1 => hexN s k ++ [hexDig (byteAt s k / 16), hexDig (byteAt s k % 16)]

theorem hexN_len (s : ByteArray) (k : Nat) : (hexN s k).length = 2 * k := by
  induction k with
  | zero => rfl
  | succ k ih => rw [hexN, List.length_append, ih]; simp; omega

theorem hex_step {s : ByteArray} {k : Nat} {b : Int} (h : byteAt s k = b) : (hexN s (k + 1)).map (Value.int .u8) = (hexN s k).map (Value.int .u8) ++ [.int .u8 (hexDig (b / 16)), .int .u8 (hexDig (b % 16))] := by
  subst h
  rw [hexN, List.map_append]
  rfl
end Go.Proofs.YtooklpeiaedokaaDoor
