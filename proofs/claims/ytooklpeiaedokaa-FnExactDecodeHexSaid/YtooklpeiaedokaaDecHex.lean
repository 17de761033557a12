/- What spec.DecodeHex answers. No condition. -/
import Derived.Test.YtooklpeiaedokaaDecHexM
namespace Go.Proofs.Ytooklpeiaedokaa
open Go.RowKit

theorem ret_sb {a c : ByteArray} {b d : Bool} (h1 : a = c) (h2 : b = d) : Ending.returned (.tuple #[.string a, .bool b]) = .returned (.tuple #[.string c, .bool d]) := by rw [h1, h2]

theorem fromHex (b : Int) (w : World) (_ : 0 ≤ b) (_ : b ≤ 255) :
    Calls Try.prog 24 #[.int .u8 b] w fun e w' => e = .returned (.int .i64 (hexVal b)) ∧ w = w' := by
  go_enter Try.func24, Try.ntmps24
  go_wp2
  go_loop [3] (fun i => ∃ k : Nat, k ≤ 16 ∧ i = .int .i64 k ∧ ∀ j : Nat, j < k → ¬ hexDig j = b) (fun i => 16 - (intOf i).toNat)
  case atStart => exact ⟨0, by omega, rfl, fun j hj => absurd hj (by omega)⟩
  case round =>
    obtain ⟨k, hk, rfl, hno⟩ := hrel
    have HN := Lib.hid hno
    clear hno
    by_cases hlt : k < 16
    · have hi : (k : Int) < 16 := by omega
      by_cases he : hexDig k = b
      · have hv : hexVal b = (k : Int) := by rw [← he]; exact hexVal_dig _ (by omega) hi
        have hc : (hexDig k == b) = true := by simpa using he
        have HV := Lib.hid hv
        clear he hv
        go_wp2_with fail
        refine (l1Digit_c _ _ (by omega) (by omega)).mono ?_
        rintro e w' ⟨rfl, rfl⟩
        go_wp2_with fail
        go_ret
        exact ⟨by rw [HV.out]; rfl, rfl⟩
      · have hc : (hexDig k == b) = false := by simpa using he
        have HE := Lib.hid he
        clear he
        go_wp2_with fail
        refine (l1Digit_c _ _ (by omega) (by omega)).mono ?_
        rintro e w' ⟨rfl, rfl⟩
        go_wp2_with fail
        go_round
        case rel =>
          refine ⟨k + 1, by omega, by go_num, fun j hj => ?_⟩
          by_cases hjk : j = k
          · subst hjk; exact HE.out
          · exact HN.out j (by omega)
        case measure => simp [intOf]; omega
    · obtain rfl : k = 16 := by omega
      have hv := Lib.hid (hexVal_none b HN.out)
      go_wp2_with fail
      go_ret
      exact ⟨by rw [hv.out]; rfl, rfl⟩

theorem fromHex_e (b v : Int) (w : World) (h0 : 0 ≤ b) (h1 : b ≤ 255) (h : hexVal b = v) :
    Calls Try.prog 24 #[.int .u8 b] w fun e w' => e = .returned (.int .i64 v) ∧ w = w' := by
  subst h
  exact fromHex b w h0 h1

set_option maxHeartbeats 800000 in
set_option maxRecDepth 100000 in
theorem specDecHex (s : ByteArray) (w : World) (hs : s.size ≤ 1048576) :
    Calls Try.prog 19 #[.string s] w fun e w' => e = .returned (.tuple #[.string (dhS s), .bool (dhB s)]) ∧ Below w.heap.size w w' := by
  by_cases hodd : s.size % 2 = 1
  · have Q := Lib.hid (dh_no (s := s) fun h => by have := h.1; omega)
    have ho : ((s.size : Int) % 2 == 1) = true := by simp; omega
    clear hodd
    go_enter Try.func19, Try.ntmps19
    go_wp2_with fail
    go_ret2
    exact ⟨by rw [Q.out.1, Q.out.2]; rfl, (Below.refl _ _).alloc (Nat.le_refl _) _⟩
  · have ho : ((s.size : Int) % 2 == 1) = false := by simp; omega
    have hev : s.size % 2 = 0 := by omega
    have HEV := Lib.hid hev
    clear hodd hev
    go_enter Try.func19, Try.ntmps19
    go_wp2_with fail
    go_loopw [4, 5] (fun v i wr => ∃ k : Nat, 2 * k ≤ s.size ∧ i = .int .i64 (2 * (k : Int)) ∧ wr.ownsRow w.heap.size 5 1 v k ((hd s k).map (Value.int .u8)) ∧ (∀ j, j < 2 * k → 0 ≤ hv s j) ∧ Below w.heap.size w wr) (fun _ i _ => s.size - (intOf i).toNat)
    case atStart => exact ⟨0, by omega, rfl, World.ownsRow_lit w #[] 0 (Nat.le_refl _) (by simp) rfl, fun j hj => absurd hj (by omega), (Below.refl _ _).alloc (Nat.le_refl _) _⟩
    case round =>
      obtain ⟨k, hk, rfl, hown, hok, hb⟩ := hrel
      have HB := Lib.hid hb
      have HOK := Lib.hid hok
      have hbs := hb.size
      clear hb hok ho
      by_cases hlt : 2 * k < s.size
      · have hlt2 : 2 * k + 1 < s.size := by have := HEV.out; omega
        have hi : 2 * (k : Int) < (s.size : Int) := by omega
        have hi2 : 2 * (k : Int) + 1 < (s.size : Int) := by omega
        have he1 := byteAt_eq s (2 * k) hlt
        have he2 := byteAt_eq s (2 * k + 1) hlt2
        have hb1 := byteAt_bd s (2 * k)
        have hb2 := byteAt_bd s (2 * k + 1)
        have hh1 := hv_bd s (2 * k)
        have hh2 := hv_bd s (2 * k + 1)
        have hx1 : hexVal (s[2 * k].toNat : Int) = hv s (2 * k) := by unfold hv; rw [he1]
        have hx2 : hexVal (s[2 * k + 1].toNat : Int) = hv s (2 * k + 1) := by unfold hv; rw [he2]
        rw [he1] at hb1
        rw [he2] at hb2
        have htn1 : (2 * (k : Int)).toNat = 2 * k := by omega
        have htn2 : (2 * (k : Int) + 1).toNat = 2 * k + 1 := by omega
        have H1 := Lib.hid hx1
        have H2 := Lib.hid hx2
        clear he1 he2 hx1 hx2
        by_cases hA : 0 ≤ hv s (2 * k)
        · by_cases hB : 0 ≤ hv s (2 * k + 1)
          · go_wp2_with fail
            refine (fromHex_e _ (hv s (2 * k)) _ hb1.1 hb1.2 H1.out).mono ?_
            rintro e w1 ⟨rfl, rfl⟩
            go_wp2_with fail
            refine (fromHex_e _ (hv s (2 * k + 1)) _ hb2.1 hb2.2 H2.out).mono ?_
            rintro e w1 ⟨rfl, rfl⟩
            go_wp2_with (at_builtin; refine wpList_push _ rfl _ _ 36 rfl w.heap.size 5 (.int .u8 0) 1 Try.underlying36 infoU8 rfl _ _ _ rfl hown _ (by rfl) _ rfl (by omega) (by unfold maxLen; omega) (by omega) ?_; intro v1 w1 hown1 hb1')
            go_roundw
            case rel =>
              refine ⟨k + 1, by omega, by go_num, by rw [hd, List.map_append]; exact hown1, fun j hj => ?_, HB.out.trans hb1'⟩
              by_cases h1 : j < 2 * k
              · exact HOK.out j h1
              · by_cases h2 : j = 2 * k
                · subst h2; exact hA
                · obtain rfl : j = 2 * k + 1 := by omega
                  exact hB
            case measure => simp [intOf]; omega
          · have Q := Lib.hid (dh_no (s := s) fun h => hB (h.2 _ hlt2))
            have hB' : hv s (2 * k + 1) < 0 := by omega
            go_wp2_with fail
            refine (fromHex_e _ (hv s (2 * k)) _ hb1.1 hb1.2 H1.out).mono ?_
            rintro e w1 ⟨rfl, rfl⟩
            go_wp2_with fail
            refine (fromHex_e _ (hv s (2 * k + 1)) _ hb2.1 hb2.2 H2.out).mono ?_
            rintro e w1 ⟨rfl, rfl⟩
            go_wp2_with fail
            go_ret2
            exact ⟨by rw [Q.out.1, Q.out.2]; rfl, HB.out⟩
        · have Q := Lib.hid (dh_no (s := s) fun h => hA (h.2 _ hlt))
          have hA' : hv s (2 * k) < 0 := by omega
          go_wp2_with fail
          refine (fromHex_e _ (hv s (2 * k)) _ hb1.1 hb1.2 H1.out).mono ?_
          rintro e w1 ⟨rfl, rfl⟩
          go_wp2_with fail
          refine (fromHex_e _ (hv s (2 * k + 1)) _ hb2.1 hb2.2 H2.out).mono ?_
          rintro e w1 ⟨rfl, rfl⟩
          go_wp2_with fail
          go_ret2
          exact ⟨by rw [Q.out.1, Q.out.2]; rfl, HB.out⟩
      · have hke : 2 * k = s.size := by omega
        have Q := Lib.hid (dh_yes (s := s) ⟨HEV.out, fun j hj => HOK.out j (by omega)⟩)
        have hkk : hd s (s.size / 2) = hd s k := by rw [show s.size / 2 = k by omega]
        have HK := Lib.hid hkk
        have hn : ¬ 2 * (k : Int) < (s.size : Int) := by omega
        have hst := own_string (P := Try.prog) (dst := 9) (ns := hd s k) Try.underlying36 Try.underlying5 Try.underlying9 hown
        clear hke hkk
        go_wp2_with fail
        go_ret2
        exact ⟨by rw [Q.out.1, Q.out.2, HK.out]; rfl, HB.out⟩
end Go.Proofs.Ytooklpeiaedokaa
