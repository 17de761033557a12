/- What spec.ParseInt and impl.ParseInt answer, wherever the library's table of powers of ten reads as the program lays it; and that the law on ParseInt returns true. -/
import Derived.Test.YtehendofgcebcaaDoorPiM
namespace Go.Proofs.YtehendofgcebcaaDoor
open Go.RowKit

theorem cmp_true {a b : ByteArray} (h : a = b) : (a.toList == b.toList) = true := by rw [h]; simp
theorem cmp_false {a b : ByteArray} (h : ¬ a = b) : (a.toList == b.toList) = false := by
  simp
  intro he
  apply h
  rw [ByteArray.toList_eq, ByteArray.toList_eq] at he
  exact ByteArray.ext (Array.ext' he)

set_option maxHeartbeats 800000 in
set_option maxRecDepth 100000 in
theorem specPi (s : ByteArray) (w : World) (hs : s.size ≤ maxLen) :
    Calls Tryd.prog 54 #[.string s] w fun e w' => e = .returned (.tuple #[.int .i64 (piN s), .bool (piB s)]) ∧ Below w.heap.size w w' := by
  unfold maxLen at hs
  go_enter Tryd.func54, Tryd.ntmps54
  go_wp2
  go_loop [4, 5, 6] (fun n c i => ∃ k : Nat, k ≤ 11 ∧ k ≤ s.size ∧ i = .int .i64 k ∧ n = .int .i64 (pN s k) ∧ c = .int .i64 (pK s k)) (fun _ _ i => 11 - (intOf i).toNat)
  case atStart => exact ⟨0, by omega, by omega, rfl, rfl, rfl⟩
  case round =>
    obtain ⟨k, hk11, hks, rfl, rfl, rfl⟩ := hrel
    have hn := pN_bd11 s k hk11
    have hk := pK_le s k
    by_cases hlt : k < s.size ∧ k < 11
    · obtain ⟨hsz, h11⟩ := hlt
      have hi : (k : Int) < (s.size : Int) := by omega
      have hi11 : (k : Int) < 11 := by omega
      have hb := byteAt_bd s k
      have he := byteAt_eq s k hsz
      have hb2 : 0 ≤ (s[k].toNat : Int) ∧ (s[k].toNat : Int) ≤ 255 := he ▸ hb
      by_cases hd : 48 ≤ byteAt s k ∧ byteAt s k ≤ 57
      · have e1 : pN s (k + 1) = pN s k * 10 + (byteAt s k - 48) := by rw [pN, if_pos hd]
        have e2 : pK s (k + 1) = pK s k + 1 := by rw [pK, if_pos hd]
        rw [he] at e1 hd
        have E1 := Lib.hid e1
        have E2 := Lib.hid e2
        obtain ⟨hd1, hd2⟩ := hd
        clear he e1 e2
        go_wp2
        go_round
        case rel => exact ⟨k + 1, by omega, by omega, by go_num, by rw [E1.out], by rw [E2.out]; go_num⟩
        case measure => simp [intOf]; omega
      · have e1 : pN s (k + 1) = pN s k := by rw [pN, if_neg hd]
        have e2 : pK s (k + 1) = pK s k := by rw [pK, if_neg hd]
        rw [he] at hd
        have E1 := Lib.hid e1
        have E2 := Lib.hid e2
        clear he e1 e2
        by_cases hd1 : (48 : Int) ≤ (s[k].toNat : Int)
        · have hd2 : (57 : Int) < (s[k].toNat : Int) := by omega
          clear hd
          go_wp2
          go_round
          case rel => exact ⟨k + 1, by omega, by omega, by go_num, by rw [E1.out], by rw [E2.out]⟩
          case measure => simp [intOf]; omega
        · clear hd
          go_wp2
          go_round
          case rel => exact ⟨k + 1, by omega, by omega, by go_num, by rw [E1.out], by rw [E2.out]⟩
          case measure => simp [intOf]; omega
    · by_cases hsz : (k : Int) < (s.size : Int)
      · obtain rfl : k = 11 := by omega
        have h10 : (10 : Int) < (s.size : Int) := by omega
        have Q := Lib.hid ((pi_end (s := s) rfl).2.1 (by omega))
        have he := byteAt_eq s 0 (by omega)
        have hb := byteAt_bd s 0
        rw [he] at hb
        clear he hlt
        by_cases hK : (9 : Int) < (pK s 11 : Int)
        all_goals by_cases h45 : (s[0].toNat : Int) = 45
        all_goals
          go_wp2_with fail
          go_ret2
          exact ⟨by rw [Q.out.1, Q.out.2]; rfl, Below.refl _ _⟩
      · obtain rfl : k = s.size := by omega
        clear hlt
        by_cases h0 : s.size = 0
        · have hv : signed s (pN s s.size) = pN s s.size := by unfold signed; rw [if_neg (by omega)]
          have h00 : ¬ (0 : Int) < (s.size : Int) := by omega
          clear h0
          have P := Lib.hid (pi_end (s := s) (v := pN s s.size) hv)
          clear hv
          have hv9 := P.out.2.2.2.2 (by omega)
          by_cases hf : fmtS (pN s s.size) = s
          · have Q := Lib.hid (P.out.2.2.1 (by omega) hf)
            have hcmp := cmp_true hf
            clear hf
            go_wp2_with fail
            refine (specFmt _ _ (by omega) (by omega)).mono ?_
            rintro e w1 ⟨rfl, hb1⟩
            have HB1 := Lib.hid hb1
            clear hb1
            go_wp2_with fail
            go_ret2
            exact ⟨by rw [Q.out.1, Q.out.2]; rfl, HB1.out⟩
          · have Q := Lib.hid (P.out.2.2.2.1 hf)
            have hcmp := cmp_false hf
            clear hf
            go_wp2_with fail
            refine (specFmt _ _ (by omega) (by omega)).mono ?_
            rintro e w1 ⟨rfl, hb1⟩
            have HB1 := Lib.hid hb1
            clear hb1
            go_wp2_with fail
            go_ret2
            exact ⟨by rw [Q.out.1, Q.out.2]; rfl, HB1.out⟩
        · have he := byteAt_eq s 0 (by omega)
          have h00 : (0 : Int) < (s.size : Int) := by omega
          have hb := byteAt_bd s 0
          rw [he] at hb
          by_cases h45 : (s[0].toNat : Int) = 45
          · have hv : signed s (pN s s.size) = -(pN s s.size) := by unfold signed; rw [if_pos (by omega)]
            clear he
            have P := Lib.hid (pi_end (s := s) (v := -(pN s s.size)) hv)
            clear hv
            by_cases hK : (9 : Int) < (pK s s.size : Int)
            · have Q := Lib.hid (P.out.1 (by omega))
              go_wp2_with fail
              go_ret2
              exact ⟨by rw [Q.out.1, Q.out.2]; rfl, Below.refl _ _⟩
            · by_cases h10 : (10 : Int) < (s.size : Int)
              · have Q := Lib.hid (P.out.2.1 (by omega))
                go_wp2_with fail
                go_ret2
                exact ⟨by rw [Q.out.1, Q.out.2]; rfl, Below.refl _ _⟩
              · have hv9 := P.out.2.2.2.2 (by omega)
                by_cases hf : fmtS (-(pN s s.size)) = s
                · have Q := Lib.hid (P.out.2.2.1 (by omega) hf)
                  have hcmp := cmp_true hf
                  clear hf
                  go_wp2_with fail
                  refine (specFmt _ _ (by omega) (by omega)).mono ?_
                  rintro e w1 ⟨rfl, hb1⟩
                  have HB1 := Lib.hid hb1
                  clear hb1
                  go_wp2_with fail
                  go_ret2
                  exact ⟨by rw [Q.out.1, Q.out.2]; rfl, HB1.out⟩
                · have Q := Lib.hid (P.out.2.2.2.1 hf)
                  have hcmp := cmp_false hf
                  clear hf
                  go_wp2_with fail
                  refine (specFmt _ _ (by omega) (by omega)).mono ?_
                  rintro e w1 ⟨rfl, hb1⟩
                  have HB1 := Lib.hid hb1
                  clear hb1
                  go_wp2_with fail
                  go_ret2
                  exact ⟨by rw [Q.out.1, Q.out.2]; rfl, HB1.out⟩
          · have hv : signed s (pN s s.size) = pN s s.size := by unfold signed; rw [if_neg (by omega)]
            clear he
            have P := Lib.hid (pi_end (s := s) (v := pN s s.size) hv)
            clear hv
            by_cases hK : (9 : Int) < (pK s s.size : Int)
            · have Q := Lib.hid (P.out.1 (by omega))
              go_wp2_with fail
              go_ret2
              exact ⟨by rw [Q.out.1, Q.out.2]; rfl, Below.refl _ _⟩
            · by_cases h10 : (10 : Int) < (s.size : Int)
              · have Q := Lib.hid (P.out.2.1 (by omega))
                go_wp2_with fail
                go_ret2
                exact ⟨by rw [Q.out.1, Q.out.2]; rfl, Below.refl _ _⟩
              · have hv9 := P.out.2.2.2.2 (by omega)
                by_cases hf : fmtS (pN s s.size) = s
                · have Q := Lib.hid (P.out.2.2.1 (by omega) hf)
                  have hcmp := cmp_true hf
                  clear hf
                  go_wp2_with fail
                  refine (specFmt _ _ (by omega) (by omega)).mono ?_
                  rintro e w1 ⟨rfl, hb1⟩
                  have HB1 := Lib.hid hb1
                  clear hb1
                  go_wp2_with fail
                  go_ret2
                  exact ⟨by rw [Q.out.1, Q.out.2]; rfl, HB1.out⟩
                · have Q := Lib.hid (P.out.2.2.2.1 hf)
                  have hcmp := cmp_false hf
                  clear hf
                  go_wp2_with fail
                  refine (specFmt _ _ (by omega) (by omega)).mono ?_
                  rintro e w1 ⟨rfl, hb1⟩
                  have HB1 := Lib.hid hb1
                  clear hb1
                  go_wp2_with fail
                  go_ret2
                  exact ⟨by rw [Q.out.1, Q.out.2]; rfl, HB1.out⟩
end Go.Proofs.YtehendofgcebcaaDoor
