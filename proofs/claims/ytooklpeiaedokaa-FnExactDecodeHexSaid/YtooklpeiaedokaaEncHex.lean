/- What spec.EncodeHex and impl.EncodeHex answer, and that the law on EncodeHex returns true: for every string. No condition. -/
import Derived.Test.YtooklpeiaedokaaEncVar
import Derived.Deep.RegionLaw
namespace Go.Proofs.Ytooklpeiaedokaa
open Go.RowKit

/-- The digit of a number below 16. -/
def hexDig (d : Int) : Int := if d < 10 then 48 + d else 87 + d
/-- The hexadecimal digits of the first k bytes of s. -/
def hexN (s : ByteArray) : Nat → List Int
  | 0 => []
  | k + 1 => hexN s k ++ [hexDig (byteAt s k / 16), hexDig (byteAt s k % 16)]
theorem hexN_len (s : ByteArray) (k : Nat) : (hexN s k).length = 2 * k := by
  induction k with
  | zero => rfl
  | succ k ih => rw [hexN, List.length_append, ih]; simp; omega

theorem hex_step {s : ByteArray} {k : Nat} {b : Int} (h : byteAt s k = b) : (hexN s (k + 1)).map (Value.int .u8) = (hexN s k).map (Value.int .u8) ++ [.int .u8 (hexDig (b / 16)), .int .u8 (hexDig (b % 16))] := by
  subst h
  rw [hexN, List.map_append]
  rfl

theorem l1Digit_c (d : Int) (w : World) (h0 : 0 ≤ d) (h1 : d ≤ 15) :
    Calls Try.prog 23 #[.int .i64 d] w fun e w' => e = .returned (.int .u8 (hexDig d)) ∧ w = w' := by
  have h : d = 0 ∨ d = 1 ∨ d = 2 ∨ d = 3 ∨ d = 4 ∨ d = 5 ∨ d = 6 ∨ d = 7 ∨ d = 8 ∨ d = 9 ∨ d = 10 ∨ d = 11 ∨ d = 12 ∨ d = 13 ∨ d = 14 ∨ d = 15 := by omega
  clear h0 h1
  rcases h with rfl | rfl | rfl | rfl | rfl | rfl | rfl | rfl | rfl | rfl | rfl | rfl | rfl | rfl | rfl | rfl
  all_goals
    go_enter Try.func23, Try.ntmps23
    go_wp2
    go_ret
    exact ⟨rfl, rfl⟩

theorem l1Digit_e (a d : Int) (w : World) (h : a = d) (h0 : 0 ≤ d) (h1 : d ≤ 15) :
    Calls Try.prog 23 #[.int .i64 a] w fun e w' => e = .returned (.int .u8 (hexDig d)) ∧ w = w' := by
  subst h
  exact l1Digit_c a w h0 h1

set_option maxHeartbeats 400000 in
set_option maxRecDepth 100000 in
theorem specEncHex (s : ByteArray) (w : World) (hs : s.size ≤ 1048576) :
    Calls Try.prog 17 #[.string s] w fun e w' => e = .returned (.string (strOfNums (hexN s s.size))) ∧ Below w.heap.size w w' := by
  go_enter Try.func17, Try.ntmps17
  go_wp2
  go_loopw [3, 4] (fun v i wr => ∃ k : Nat, k ≤ s.size ∧ i = .int .i64 k ∧ wr.ownsRow w.heap.size 5 1 v (2 * k) ((hexN s k).map (Value.int .u8)) ∧ Below w.heap.size w wr) (fun _ i _ => s.size - (intOf i).toNat)
  case atStart => exact ⟨0, by omega, rfl, World.ownsRow_lit w #[] 0 (Nat.le_refl _) (by simp) rfl, (Below.refl _ _).alloc (Nat.le_refl _) _⟩
  case round =>
    obtain ⟨k, hk, rfl, hown, hb⟩ := hrel
    have HB := Lib.hid hb
    have hbs := hb.size
    clear hb
    by_cases hlt : k < s.size
    · have he := byteAt_eq s k hlt
      have hb' := byteAt_bd s k
      have hb2 : 0 ≤ (s[k].toNat : Int) ∧ (s[k].toNat : Int) ≤ 255 := he ▸ hb'
      have HE := Lib.hid he
      clear he
      have hi : (k : Int) < (s.size : Int) := by omega
      go_wp2_with fail
      have hw0 : IntKind.i64.wrap (s[k].toNat : Int) = (s[k].toNat : Int) := IntWalk.i64_in _ (by omega)
      have hw1 : IntKind.i64.wrap ((IntKind.i64.wrap (s[k].toNat : Int)).tdiv 16) = (s[k].toNat : Int) / 16 := by
        rw [hw0, Int.tdiv_eq_ediv_of_nonneg hb2.1]; exact IntWalk.i64_in _ (by omega)
      have hw2 : (IntKind.i64.wrap (s[k].toNat : Int)).tmod 16 = (s[k].toNat : Int) % 16 := by
        rw [hw0, Int.tmod_eq_emod_of_nonneg hb2.1]
      have H1 := Lib.hid hw1
      have H2 := Lib.hid hw2
      clear hw0 hw1 hw2
      have hown0 : wr.drew.ownsRow w.heap.size 5 1 u3 (2 * k) ((hexN s k).map (Value.int .u8)) := hown
      go_region_law (first | (go_simp; go_at_call 23; (first | (with_reducible refine (l1Digit_e _ _ _ H1.out ?_ ?_).mono ?_) | (with_reducible refine (l1Digit_e _ _ _ H2.out ?_ ?_).mono ?_)); (omega); (omega); rintro e w' ⟨rfl, rfl⟩) | (refine step_pushes (w := wr.drew) rfl _ _ 36 (by rfl) w.heap.size 5 (.int .u8 0) 1 Try.underlying36 infoU8 rfl _ _ _ (by rfl) hown0 #[.int .u8 (hexDig ((s[k].toNat : Int) / 16)), .int .u8 (hexDig ((s[k].toNat : Int) % 16))] 2 rfl (by simp [Value.oneCell']) _ 2 (by rfl) (by omega) (by unfold maxLen; omega) (by simp; omega) ?_; intro v1 w1 hown1 hb1))
      all_goals
        clear H1 H2 hown hown0
        go_wp2
        go_roundw
        case rel => exact ⟨k + 1, by omega, by go_num, by rw [hex_step HE.out]; exact hown1, HB.out.trans ((Below.refl _ _).drew.trans hb1)⟩
        case measure => simp [intOf]; omega
    · have hn : ¬ (k : Int) < (s.size : Int) := by omega
      obtain rfl : k = s.size := by omega
      have hst := own_string (P := Try.prog) (dst := 9) (ns := hexN s s.size) Try.underlying36 Try.underlying5 Try.underlying9 hown
      go_wp2
      go_ret
      exact ⟨rfl, HB.out⟩
end Go.Proofs.Ytooklpeiaedokaa
