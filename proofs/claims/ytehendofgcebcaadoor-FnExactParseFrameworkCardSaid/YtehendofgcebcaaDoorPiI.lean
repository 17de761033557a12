/- What impl.ParseInt answers, wherever the library's table of powers of ten reads as the program lays it; and that the law on ParseInt returns true. -/
import Derived.Test.YtehendofgcebcaaDoorPi
namespace Go.Proofs.YtehendofgcebcaaDoor
open Go.RowKit

theorem isDigit_yes (r : Int) (w : World) (h1 : 48 ≤ r) (h2 : r ≤ 57) :
    Calls Tryd.prog 59 #[.int .i32 r] w fun e w' => e = .returned (.bool true) ∧ w = w' := by
  have h1' : decide (48 ≤ r) = true := by simpa using h1
  have h2' : decide (r ≤ 57) = true := by simpa using h2
  go_enter Tryd.func59, Tryd.ntmps59
  go_wp2
  go_ret
  exact ⟨rfl, rfl⟩
theorem isDigit_no (r : Int) (w : World) (h : r < 48 ∨ 57 < r) :
    Calls Tryd.prog 59 #[.int .i32 r] w fun e w' => e = .returned (.bool false) ∧ w = w' := by
  by_cases h1 : 48 ≤ r
  · have h1' : decide (48 ≤ r) = true := by simpa using h1
    have h2' : decide (r ≤ 57) = false := by simp; omega
    clear h
    go_enter Tryd.func59, Tryd.ntmps59
    go_wp2
    go_ret
    exact ⟨rfl, rfl⟩
  · clear h
    go_enter Tryd.func59, Tryd.ntmps59
    go_wp2
    go_ret
    exact ⟨rfl, rfl⟩

theorem trim_le (s : ByteArray) : (trimS s).size ≤ s.size := by
  by_cases h : 0 < s.size ∧ byteAt s 0 = 45
  · have := (trim_yes h.1 h.2).1; omega
  · rw [trim_no h]; exact Nat.le_refl _

/-- What follows from the value that impl's walk has in hand at its end. -/
theorem pi_end' {s : ByteArray} {v : Int} (hd : ∀ j, j < (trimS s).size → 48 ≤ byteAt (trimS s) j ∧ byteAt (trimS s) j ≤ 57) (h9 : (trimS s).size ≤ 9)
    (hv : (if (trimS s).size < s.size then -(vN (trimS s) (trimS s).size) else vN (trimS s) (trimS s).size) = v) :
    (fmtS v = s → piN s = v ∧ piB s = true) ∧ (¬ fmtS v = s → piN s = 0 ∧ piB s = false) ∧ (-999999999 ≤ v ∧ v ≤ 999999999) := by
  have hbd : -999999999 ≤ v ∧ v ≤ 999999999 := by
    have := vN_bd9 (trimS s) _ h9 hd
    split at hv <;> omega
  refine ⟨fun hf => pi_yes ⟨hbd, hf⟩, fun hf => pi_no fun n h => ?_, hbd⟩
  have hr := h.trimmed.2.2
  rw [hv] at hr
  subst hr
  exact hf h.2

set_option maxHeartbeats 800000 in
set_option maxRecDepth 100000 in
theorem implPi (s : ByteArray) (w : World) (_ : s.size ≤ maxLen) (ht : Tab w) :
    Calls Tryd.prog 35 #[.string s] w fun e w' => e = .returned (.tuple #[.int .i64 (piN s), .bool (piB s)]) ∧ Below w.heap.size w w' := by
  have HT := Lib.hid ht
  clear ht
  obtain ⟨d, hd⟩ : ∃ d, trimS s = d := ⟨_, rfl⟩
  have hds := trim_le s
  rw [hd] at hds
  have HD := Lib.hid hd
  go_enter Tryd.func35, Tryd.ntmps35
  go_wp2_with fail
  refine (Tryd.strings_TrimPrefix s _ _).mono ?_
  rintro e w' ⟨rfl, rfl⟩
  rw [show (ByteArray.mk (Lib.trimPrefix s.data.toList (ByteArray.mk #[45]).data.toList).toArray) = d from hd]
  clear hd
  by_cases h9 : (9 : Int) < (d.size : Int)
  · have Q := Lib.hid (pi_no (s := s) fun n h => by have := h.trimmed.1; rw [HD.out] at this; omega)
    go_wp2_with fail
    go_ret2
    exact ⟨by rw [Q.out.1, Q.out.2]; rfl, Below.refl _ _⟩
  · have h9' : d.size ≤ 9 := by omega
    go_wp2_with fail
    go_loopw [5] (fun n wr => ∃ k : Nat, k ≤ d.size ∧ wr = w'.iter d k ∧ n = .int .i64 (vN d k) ∧ (∀ j, j < k → 48 ≤ byteAt d j ∧ byteAt d j ≤ 57)) (fun _ wr => d.size - wr.iterPos w'.heap.size)
    case atStart => exact ⟨0, by omega, rfl, rfl, fun j hj => absurd hj (by omega)⟩
    case round =>
      obtain ⟨k, hk, rfl, rfl, hdig⟩ := hrel
      have hn := vN_bd9 d k (by omega) hdig
      by_cases hlt : k < d.size
      · have he := byteAt_eq d k hlt
        have hb := byteAt_bd d k
        by_cases hdg : 48 ≤ byteAt d k ∧ byteAt d k ≤ 57
        · have hdig' : ∀ j, j < k + 1 → 48 ≤ byteAt d j ∧ byteAt d j ≤ 57 := fun j hj => by
            by_cases e : j = k
            · subst e; exact hdg
            · exact hdig j (by omega)
          have hn' := vN_bd9 d (k + 1) (by omega) hdig'
          have hvn : vN d (k + 1) = vN d k * 10 + (byteAt d k - 48) := rfl
          rw [he] at hdg hvn
          have hnx := fun ty => run_next_ascii (P := Tryd.prog) w' d k ty hlt (by omega)
          have HV := Lib.hid hvn
          have HDG := Lib.hid hdig'
          obtain ⟨hd1, hd2⟩ := hdg
          have hv0 : 0 ≤ vN d k ∧ vN d k ≤ 99999999 := by omega
          clear hdig hdig' he hb hvn hn hn'
          go_wp2_with fail
          refine (isDigit_yes _ _ (by omega) (by omega)).mono ?_
          rintro e w1 ⟨rfl, rfl⟩
          go_wp2_with fail
          go_roundw
          case rel => exact ⟨k + 1, by omega, rfl, by rw [HV.out, Int.mul_comm], HDG.out⟩
          case measure => simp; omega
        · have Q := Lib.hid (pi_no (s := s) fun n h => by have h2 := h.trimmed.2.1; rw [HD.out] at h2; exact hdg (h2 k hlt))
          by_cases ha : (d[k]'hlt).toNat < 128
          · have hnx := fun ty => run_next_ascii (P := Tryd.prog) w' d k ty hlt ha
            rw [he] at hdg
            have hno : (d[k].toNat : Int) < 48 ∨ 57 < (d[k].toNat : Int) := by omega
            have HNO := Lib.hid hno
            clear hdg hno hdig he hb
            go_wp2_with fail
            refine (isDigit_no _ _ HNO.out).mono ?_
            rintro e w1 ⟨rfl, rfl⟩
            go_wp2_with fail
            go_ret2
            exact ⟨by rw [Q.out.1, Q.out.2]; rfl, iter_below _ _ _⟩
          · have hnx := fun ty => run_next_any (P := Tryd.prog) w' d k ty hlt
            have hh := decode_high d k hlt (by omega)
            have HNO := Lib.hid (show ((Utf8.decode d k).1 : Int) < 48 ∨ 57 < ((Utf8.decode d k).1 : Int) by omega)
            clear hdg hdig he hb hh
            go_wp2_with fail
            refine (isDigit_no _ _ HNO.out).mono ?_
            rintro e w1 ⟨rfl, rfl⟩
            go_wp2_with fail
            go_ret2
            exact ⟨by rw [Q.out.1, Q.out.2]; rfl, iter_below _ _ _⟩
      · obtain rfl : k = d.size := by omega
        have hnx := fun ty => run_next_end (P := Tryd.prog) w' d d.size ty (by omega)
        by_cases hsh : (d.size : Int) < (s.size : Int)
        · have P := Lib.hid (pi_end' (s := s) (v := -(vN d d.size)) (by rw [HD.out]; exact hdig) (by rw [HD.out]; exact h9') (by rw [HD.out, if_pos (by omega)]))
          have hbd := P.out.2.2
          clear hdig hlt
          by_cases hf : fmtS (-(vN d d.size)) = s
          · have Q := Lib.hid (P.out.1 hf)
            have hcmp := cmp_true hf
            clear hf
            go_wp2_with fail
            refine (implFmt _ _ (by omega) (by omega) (HT.out.below (iter_below _ _ _))).mono ?_
            rintro e w1 ⟨rfl, hb1⟩
            have HB1 := Lib.hid ((iter_below w' d d.size).trans (hb1.mono (iter_below w' d d.size).size))
            clear hb1
            go_wp2_with fail
            go_ret2
            exact ⟨by rw [Q.out.1, Q.out.2]; rfl, HB1.out⟩
          · have Q := Lib.hid (P.out.2.1 hf)
            have hcmp := cmp_false hf
            clear hf
            go_wp2_with fail
            refine (implFmt _ _ (by omega) (by omega) (HT.out.below (iter_below _ _ _))).mono ?_
            rintro e w1 ⟨rfl, hb1⟩
            have HB1 := Lib.hid ((iter_below w' d d.size).trans (hb1.mono (iter_below w' d d.size).size))
            clear hb1
            go_wp2_with fail
            go_ret2
            exact ⟨by rw [Q.out.1, Q.out.2]; rfl, HB1.out⟩
        · have P := Lib.hid (pi_end' (s := s) (v := vN d d.size) (by rw [HD.out]; exact hdig) (by rw [HD.out]; exact h9') (by rw [HD.out, if_neg (by omega)]))
          have hbd := P.out.2.2
          clear hdig hlt
          by_cases hf : fmtS (vN d d.size) = s
          · have Q := Lib.hid (P.out.1 hf)
            have hcmp := cmp_true hf
            clear hf
            go_wp2_with fail
            refine (implFmt _ _ (by omega) (by omega) (HT.out.below (iter_below _ _ _))).mono ?_
            rintro e w1 ⟨rfl, hb1⟩
            have HB1 := Lib.hid ((iter_below w' d d.size).trans (hb1.mono (iter_below w' d d.size).size))
            clear hb1
            go_wp2_with fail
            go_ret2
            exact ⟨by rw [Q.out.1, Q.out.2]; rfl, HB1.out⟩
          · have Q := Lib.hid (P.out.2.1 hf)
            have hcmp := cmp_false hf
            clear hf
            go_wp2_with fail
            refine (implFmt _ _ (by omega) (by omega) (HT.out.below (iter_below _ _ _))).mono ?_
            rintro e w1 ⟨rfl, hb1⟩
            have HB1 := Lib.hid ((iter_below w' d d.size).trans (hb1.mono (iter_below w' d d.size).size))
            clear hb1
            go_wp2_with fail
            go_ret2
            exact ⟨by rw [Q.out.1, Q.out.2]; rfl, HB1.out⟩
end Go.Proofs.YtehendofgcebcaaDoor
