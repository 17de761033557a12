/- What impl.EncodeHex answers: for every string. No condition. -/
import Derived.Test.YtooklpeiaedokaaDoorEncHexM
import Derived.Deep.RegionLaw
namespace Go.Proofs.YtooklpeiaedokaaDoor
open Go.RowKit

theorem dig_at (d : Int) (h0 : 0 ≤ d) (h1 : d < 16) : ∀ h, ((((ByteArray.mk #[48, 49, 50, 51, 52, 53, 54, 55, 56, 57, 97, 98, 99, 100, 101, 102])[d.toNat]'h).toNat : Nat) : Int) = hexDig d := by
  have h : d = 0 ∨ d = 1 ∨ d = 2 ∨ d = 3 ∨ d = 4 ∨ d = 5 ∨ d = 6 ∨ d = 7 ∨ d = 8 ∨ d = 9 ∨ d = 10 ∨ d = 11 ∨ d = 12 ∨ d = 13 ∨ d = 14 ∨ d = 15 := by omega
  rcases h with rfl | rfl | rfl | rfl | rfl | rfl | rfl | rfl | rfl | rfl | rfl | rfl | rfl | rfl | rfl | rfl <;> (intro _; rfl)

set_option maxHeartbeats 400000 in
set_option maxRecDepth 100000 in
theorem implEncHex (s : ByteArray) (w : World) (hs : s.size ≤ 1048576) :
    Calls Tryd.prog 15 #[.string s] w fun e w' => e = .returned (.string (strOfNums (hexN s s.size))) ∧ Below w.heap.size w w' := by
  go_enter Tryd.func15, Tryd.ntmps15
  go_wp2_with (at_make; refine wpList_mk0 _ rfl _ _ 22 rfl w.heap.size 5 (.int .u8 0) 1 Tryd.underlying22 infoU8 _ _ _ (2 * s.size) rfl rfl (by omega) (by omega) (by unfold maxLen; omega) (Nat.le_refl _) ?_; intro w0 hown0 hb0)
  go_loopw [3, 4] (fun v i wr => ∃ k : Nat, k ≤ s.size ∧ i = .int .i64 k ∧ wr.ownsRow w.heap.size 5 1 v (2 * k) ((hexN s k).map (Value.int .u8)) ∧ Below w.heap.size w wr) (fun _ i _ => s.size - (intOf i).toNat)
  case atStart => exact ⟨0, by omega, rfl, hown0, hb0⟩
  case round =>
    obtain ⟨k, hk, rfl, hown, hb⟩ := hrel
    have HB := Lib.hid hb
    have hbs := hb.size
    clear hb hown0 hb0
    by_cases hlt : k < s.size
    · have he := byteAt_eq s k hlt
      have hb' := byteAt_bd s k
      have hb2 : 0 ≤ (s[k].toNat : Int) ∧ (s[k].toNat : Int) ≤ 255 := he ▸ hb'
      have HE := Lib.hid he
      clear he
      have hi : (k : Int) < (s.size : Int) := by omega
      go_wp2_with fail
      have hown1 : wr.drew.ownsRow w.heap.size 5 1 u3 (2 * k) ((hexN s k).map (Value.int .u8)) := hown
      have hand : bits .and .u8 (s[k].toNat : Int) 15 = (s[k].toNat : Int) % 16 := u8_and15 _ hb2.1 (by omega)
      have hd1 : 0 ≤ (s[k].toNat : Int) / 16 := by omega
      have hd2 : (s[k].toNat : Int) / 16 < 16 := by omega
      have hd3 : 0 ≤ (s[k].toNat : Int) % 16 := by omega
      have hd4 : (s[k].toNat : Int) % 16 < 16 := by omega
      have hix1 := dig_at ((s[k].toNat : Int) / 16) hd1 hd2
      have hix2 := dig_at ((s[k].toNat : Int) % 16) hd3 hd4
      go_region_law (refine step_pushes (w := wr.drew) rfl _ _ 22 (by rfl) w.heap.size 5 (.int .u8 0) 1 Tryd.underlying22 infoU8 rfl _ _ _ (by rfl) hown1 #[.int .u8 (hexDig ((s[k].toNat : Int) / 16)), .int .u8 (hexDig ((s[k].toNat : Int) % 16))] 2 rfl (by simp [Value.oneCell']) _ 2 (by rfl) (by omega) (by unfold maxLen; omega) (by simp; omega) ?_; intro v1 w1 hown2 hb1)
      all_goals
        clear hand hix1 hix2 hown hown1
        go_wp2
        go_roundw
        case rel => exact ⟨k + 1, by omega, by go_num, by rw [hex_step HE.out]; exact hown2, HB.out.trans ((Below.refl _ _).drew.trans hb1)⟩
        case measure => simp [intOf]; omega
    · have hn : ¬ (k : Int) < (s.size : Int) := by omega
      obtain rfl : k = s.size := by omega
      have hst := own_string (P := Tryd.prog) (dst := 9) (ns := hexN s s.size) Tryd.underlying22 Tryd.underlying5 Tryd.underlying9 hown
      go_wp2
      go_ret
      exact ⟨rfl, HB.out⟩
end Go.Proofs.YtooklpeiaedokaaDoor
