/- What spec.EncodeFixed and impl.EncodeFixed answer. No condition. -/
import Derived.Test.YtooklpeiaedokaaDoorEncVar
namespace Go.Proofs.YtooklpeiaedokaaDoor
open Go.RowKit

/-- The last k digits of n to the base 256, most significant first. -/
def dg (n : Nat) : Nat → List Int
  | 0 => []
  | k + 1 => ((n / 256 ^ k % 256 : Nat) : Int) :: dg n k

theorem dg_len (n k : Nat) : (dg n k).length = k := by
  induction k with
  | zero => rfl
  | succ k ih => rw [dg, List.length_cons, ih]

theorem dg_get (n : Nat) : ∀ k i, i < k → (dg n k)[i]? = some ((n / 256 ^ (k - 1 - i) % 256 : Nat) : Int) := by
  intro k
  induction k with
  | zero => intro i h; omega
  | succ k ih =>
    intro i h
    rw [dg]
    rcases i with _ | i
    · rfl
    · rw [List.getElem?_cons_succ, ih i (by omega), show k + 1 - 1 - (i + 1) = k - 1 - i by omega]

theorem specEncF_bad (n : Int) (a : Int) (w : World) (h : a < 1 ∨ 7 < a ∨ n < 0) :
    Calls Tryd.prog 14 #[.int .i64 n, .int .i64 a] w fun e w' => e = .returned (.string ByteArray.empty) ∧ w = w' := by
  have h' : (a < 1 ∨ 7 < a) ∨ ((1 ≤ a ∧ a ≤ 7) ∧ n < 0) := by omega
  clear h
  rcases h' with h | ⟨⟨h1, h2⟩, h3⟩
  · have H := Lib.hid h
    clear h
    go_enter Tryd.func14, Tryd.ntmps14
    go_wp2_with fail
    refine (l1In_no _ _ _ _ H.out).mono ?_
    rintro e w' ⟨rfl, rfl⟩
    go_wp2_with fail
    go_ret
    exact ⟨rfl, rfl⟩
  · go_enter Tryd.func14, Tryd.ntmps14
    go_wp2_with fail
    refine (l1In_yes _ _ _ _ h1 h2).mono ?_
    rintro e w' ⟨rfl, rfl⟩
    go_wp2_with fail
    go_ret
    exact ⟨rfl, rfl⟩

/-- The answer for a number and a width in bounds. -/
def fixAns (n d : Nat) : ByteArray := if n / 256 ^ d = 0 then strOfNums (dg n d) else ByteArray.empty

set_option maxHeartbeats 400000 in
set_option maxRecDepth 100000 in
theorem specEncF_good (n d : Nat) (w : World) (hn : n ≤ 9223372036854775807) (h1 : 1 ≤ d) (h2 : d ≤ 7) :
    Calls Tryd.prog 14 #[.int .i64 (n : Int), .int .i64 (d : Int)] w fun e w' => e = .returned (.string (fixAns n d)) ∧ Below w.heap.size w w' := by
  have HN := Lib.hid hn
  clear hn
  go_enter Tryd.func14, Tryd.ntmps14
  go_wp2_with fail
  refine (l1In_yes _ _ _ _ (by omega) (by omega)).mono ?_
  rintro e w' ⟨rfl, rfl⟩
  go_wp2_with fail
  go_loopw [0, 5, 6] (fun c v i wr => ∃ k : Nat, k ≤ d ∧ i = .int .i64 k ∧ c = .int .i64 ((n / 256 ^ k : Nat) : Int) ∧ v = .string (strOfNums (dg n k)) ∧ Below w.heap.size w wr) (fun _ _ i _ => d - (intOf i).toNat)
  case atStart => exact ⟨0, by omega, rfl, by simp, rfl, Below.refl _ _⟩
  case round =>
    obtain ⟨k, hk, rfl, rfl, rfl, hb⟩ := hrel
    have hbs := hb.size
    have HB := Lib.hid hb
    clear hb
    obtain ⟨c, hc⟩ : ∃ c, n / 256 ^ k = c := ⟨_, rfl⟩
    have hc0 : c ≤ 9223372036854775807 := by rw [← hc]; exact Nat.le_trans (Nat.div_le_self _ _) HN.out
    rw [hc]
    by_cases hlt : k < d
    · have hi : (k : Int) < (d : Int) := by omega
      have hc1 := fun (x : Int) => conv_one (P := Tryd.prog) wr 22 9 5 x Tryd.underlying22 Tryd.underlying5 Tryd.underlying9
      have hadd := fun (W : World) => add_nums (P := Tryd.prog) W [(c : Int) % 256] (dg n k) (by rw [dg_len]; simp; omega)
      have HC := Lib.hid hc
      clear hc
      go_wp2
      go_roundw
      case rel =>
        refine ⟨k + 1, by omega, by go_num, ?_, ?_, HB.out.trans ((Below.refl _ _).alloc hbs _)⟩
        · rw [← HC.out, Nat.pow_succ, ← Nat.div_div_eq_div_mul]; rfl
        · rw [dg, HC.out]; rfl
      case measure => simp [intOf]; omega
    · obtain rfl : k = d := by omega
      have HC := Lib.hid hc
      clear hc
      by_cases h0 : c = 0
      · subst h0
        go_wp2
        go_ret
        exact ⟨ret_str (by rw [fixAns, if_pos HC.out]), HB.out⟩
      · have hp : (0 : Int) < (c : Int) := by omega
        go_wp2
        go_ret
        exact ⟨ret_str (by rw [fixAns, if_neg (by rw [HC.out]; exact h0)]; rfl), HB.out⟩

theorem fixW_yes (a : Int) (w : World) (h1 : 1 ≤ a) (h2 : a ≤ 7) :
    Calls Tryd.prog 25 #[.int .i64 a] w fun e w' => e = .returned (.bool true) ∧ w = w' := by
  have h2' : decide (a ≤ 7) = true := by simpa using h2
  go_enter Tryd.func25, Tryd.ntmps25
  go_wp2
  go_ret
  exact ⟨rfl, rfl⟩

theorem fixW_no (a : Int) (w : World) (h : a < 1 ∨ 7 < a) :
    Calls Tryd.prog 25 #[.int .i64 a] w fun e w' => e = .returned (.bool false) ∧ w = w' := by
  by_cases h1 : 1 ≤ a
  · have h2' : decide (a ≤ 7) = false := by simp; omega
    clear h
    go_enter Tryd.func25, Tryd.ntmps25
    go_wp2
    go_ret
    exact ⟨rfl, rfl⟩
  · clear h
    go_enter Tryd.func25, Tryd.ntmps25
    go_wp2
    go_ret
    exact ⟨rfl, rfl⟩

theorem implEncF_bad (n : Int) (a : Int) (w : World) (h : a < 1 ∨ 7 < a ∨ n < 0) :
    Calls Tryd.prog 12 #[.int .i64 n, .int .i64 a] w fun e w' => e = .returned (.string ByteArray.empty) ∧ w = w' := by
  have h' : (a < 1 ∨ 7 < a) ∨ ((1 ≤ a ∧ a ≤ 7) ∧ n < 0) := by omega
  clear h
  rcases h' with h | ⟨⟨h1, h2⟩, h3⟩
  · have H := Lib.hid h
    clear h
    go_enter Tryd.func12, Tryd.ntmps12
    go_wp2_with fail
    refine (fixW_no _ _ H.out).mono ?_
    rintro e w' ⟨rfl, rfl⟩
    go_wp2_with fail
    go_ret
    exact ⟨rfl, rfl⟩
  · go_enter Tryd.func12, Tryd.ntmps12
    go_wp2_with fail
    refine (fixW_yes _ _ h1 h2).mono ?_
    rintro e w' ⟨rfl, rfl⟩
    go_wp2_with fail
    go_ret
    exact ⟨rfl, rfl⟩

theorem pow_256 (k : Nat) : (2 : Int) ^ (8 * k) = ((256 ^ k : Nat) : Int) := by rw [Int.pow_mul]; norm_cast

/-- What has been stored behind k rounds: the first k digits; zeros behind them. -/
def fxRow (n d k : Nat) : List Int := (dg n d).take k ++ List.replicate (d - k) 0

theorem fxRow_zero (n d : Nat) : (fxRow n d 0).map (Value.int .u8) = List.replicate d (.int .u8 0) := by simp [fxRow]

theorem fxRow_all (n d : Nat) : fxRow n d d = dg n d := by
  unfold fxRow
  rw [Nat.sub_self, List.take_of_length_le (by rw [dg_len]; exact Nat.le_refl _)]
  simp

theorem fxRow_len (n d k : Nat) (h : k ≤ d) : (fxRow n d k).length = d := by
  unfold fxRow
  simp [dg_len]
  omega

theorem fxRow_set (n d k : Nat) (h : k < d) : (fxRow n d k).set k ((n / 256 ^ (d - 1 - k) % 256 : Nat) : Int) = fxRow n d (k + 1) := by
  have hl : ((dg n d).take k).length = k := by simp [dg_len]; omega
  unfold fxRow
  rw [List.set_append_right _ _ (by omega), hl, Nat.sub_self]
  obtain ⟨r, hr⟩ : ∃ r, d - k = r + 1 := ⟨d - k - 1, by omega⟩
  rw [hr, List.replicate_succ, List.set_cons_zero, List.take_add_one, dg_get n d k h, show d - (k + 1) = r by omega]
  simp

set_option maxHeartbeats 400000 in
set_option maxRecDepth 100000 in
theorem implEncF_good (n d : Nat) (w : World) (hn : n ≤ 9223372036854775807) (h1 : 1 ≤ d) (h2 : d ≤ 7) :
    Calls Tryd.prog 12 #[.int .i64 (n : Int), .int .i64 (d : Int)] w fun e w' => e = .returned (.string (fixAns n d)) ∧ Below w.heap.size w w' := by
  have HN := Lib.hid hn
  clear hn
  by_cases h0 : n / 256 ^ d = 0
  · have H0 := Lib.hid h0
    have hz : (n : Int) / 2 ^ (8 * d) = 0 := by
      rw [pow_256]
      exact_mod_cast h0
    clear h0
    go_enter Tryd.func12, Tryd.ntmps12
    go_wp2_with fail
    refine (fixW_yes _ _ (by omega) (by omega)).mono ?_
    rintro e w' ⟨rfl, rfl⟩
    go_wp2_with (at_make; refine wpList_mkn _ rfl _ _ 22 rfl w.heap.size 5 (.int .u8 0) 1 Tryd.underlying22 infoU8 rfl _ _ _ _ d rfl rfl rfl rfl (by omega) (by unfold maxLen; omega) (Nat.le_refl _) ?_; intro w0 hown0 hb0)
    go_loopw [25] (fun i wr => ∃ k : Nat, k ≤ d ∧ i = .int .i64 k ∧ wr.ownsRow w.heap.size 5 1 (.slice (some ⟨w.heap.size, 0, none⟩) d d) d ((fxRow n d k).map (Value.int .u8)) ∧ Below w.heap.size w wr) (fun i _ => d - (intOf i).toNat)
    case atStart => exact ⟨0, by omega, rfl, by rw [fxRow_zero]; exact hown0, hb0⟩
    case round =>
      obtain ⟨k, hk, rfl, hown, hb⟩ := hrel
      have hbs := hb.size
      have HB := Lib.hid hb
      clear hb hown0 hb0
      by_cases hlt : k < d
      · have hi : (k : Int) < (d : Int) := by omega
        have hc := hown.cellAt k (by omega)
        have hc' : wr.cell? ⟨w.heap.size, k, none⟩ = some (.int .u8 ((fxRow n d k).getD k 0)) := by
          rw [hc]
          have := fxRow_len n d k hk
          simp [List.getD, List.getElem?_eq_getElem (show k < (fxRow n d k).length by omega)]
        have hf := hown.frozenAt k
        have hst := hown.stored k (.int .u8 ((n / 256 ^ (d - 1 - k) % 256 : Nat) : Int))
        have e : ((n / 256 ^ (d - 1 - k) % 256 : Nat) : Int) = (n : Int) / 256 ^ (d - 1 - k) % 256 := by norm_cast
        rw [← List.map_set, fxRow_set n d k hlt, e] at hst
        have HST := Lib.hid hst
        have hsh : (8 * ((d : Int) - 1 - (k : Int))).toNat = 8 * (d - 1 - k) := by omega
        have hdv : (n : Int) / 2 ^ (8 * (d - 1 - k)) = ((n / 256 ^ (d - 1 - k) : Nat) : Int) := by rw [pow_256]; rfl
        clear hc hst hown e
        go_wp2
        go_roundw
        case rel =>
          refine ⟨k + 1, by omega, by go_num, ?_, ?_⟩
          · exact HST.out.1
          · exact HB.out.setCell (Nat.le_refl _) _
        case measure => simp [intOf]; omega
      · obtain rfl : k = d := by omega
        rw [fxRow_all] at hown
        have hst := own_string (P := Tryd.prog) (dst := 9) (ns := dg n k) Tryd.underlying22 Tryd.underlying5 Tryd.underlying9 hown
        go_wp2
        go_ret
        exact ⟨ret_str (by rw [fixAns, if_pos H0.out]), HB.out⟩
  · have H0 := Lib.hid h0
    have hz : ((n : Int) / 2 ^ (8 * d) != 0) = true := by
      rw [pow_256]
      have : (n : Int) / ((256 ^ d : Nat) : Int) ≠ 0 := by exact_mod_cast h0
      simpa using this
    clear h0
    go_enter Tryd.func12, Tryd.ntmps12
    go_wp2_with fail
    refine (fixW_yes _ _ (by omega) (by omega)).mono ?_
    rintro e w' ⟨rfl, rfl⟩
    go_wp2_with fail
    go_ret
    exact ⟨ret_str (by rw [fixAns, if_neg H0.out]; rfl), Below.refl _ _⟩
end Go.Proofs.YtooklpeiaedokaaDoor
