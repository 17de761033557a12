/- What the program's pointSet.list and isOvercounted answer. No condition. -/
import Derived.Test.YtimgkekllanhmaaPop
import Derived.Test.YtimgkekllanhmaaSpanS
namespace Go.Proofs.Ytimgkekllanhmaa
open Go.RowKit

set_option maxHeartbeats 2000000 in
set_option maxRecDepth 100000 in
theorem implList (P m : Nat) (gv : Value) (w : World) (hP : P ≤ 8) (hm : m < 256) :
    Calls Try.prog 47 #[.int .u64 (m : Int), .agg #[.int .i64 (P : Int), gv]] w (IntsO w (setL P m)) := by
  have HG := Lib.hid (show GrowB w (w.alloc (.cells #[.int .i64 (P : Int), gv] 30)) (P : Int) gv (outF 0 fun v => m.testBit v) (.slice none 0 0) from
    ⟨GrowI.nil w _ (new_below w _), box_new w (P : Int) gv 30, by simp [Value.ownBlock]⟩)
  go_enter Try.func47, Try.ntmps47
  go_wp2_with fail
  generalize (w.alloc (.cells #[.int .i64 (P : Int), gv] 30)) = w1 at *
  go_loopw [5, 9] (fun o i wr => ∃ j : Nat, j ≤ P ∧ i = .int .i64 j ∧ GrowB w wr (P : Int) gv (outF j fun v => m.testBit v) o) (fun _ i _ => P - (intOf i).toNat)
  case atStart => exact ⟨0, by omega, rfl, HG.out⟩
  case round =>
    obtain ⟨j, hj, rfl, hst⟩ := hrel
    have hol := outF_len j (fun v => m.testBit v)
    obtain ⟨A', c', rfl⟩ := own_shape hst.1.1
    have HS := Lib.hid hst
    have hbs := hst.1.2.size
    clear hst
    by_cases hlt : j < P
    · have hij : (j : Int) < (P : Int) := by omega
      have HHAS := has_p m j wr hm (by omega)
      cases ht : m.testBit j
      · rw [ht] at HHAS
        have HE := Lib.hid (show outF (j + 1) (fun v => m.testBit v) = outF j (fun v => m.testBit v) by rw [outF_succ]; simp [ht])
        go_wp2_with (go_at_call 60; refine HHAS.mono ?_; rintro e w2 ⟨rfl, rfl⟩; clear HHAS)
        go_roundw
        case rel => exact ⟨j + 1, by omega, by go_num, by rw [HE.out]; exact HS.out⟩
        case measure => simp [intOf]; omega
      · rw [ht] at HHAS
        have HE := Lib.hid (show outF (j + 1) (fun v => m.testBit v) = outF j (fun v => m.testBit v) ++ [(j : Int)] by rw [outF_succ]; simp [ht])
        go_wp2_with (first | (go_at_call 60; refine HHAS.mono ?_; rintro e w2 ⟨rfl, rfl⟩; clear HHAS) | (at_builtin; refine wpList_at _ rfl _ _ 25 rfl w.heap.size 3 (.int .i64 0) 1 8 Try.underlying25 infoInt rfl (by decide) _ _ _ rfl HS.out.1.1 #[.int .i64 (j : Int)] 1 rfl (by simp [Value.oneCell']) _ 1 (by simp [Act.eval]) (by omega) (by unfold maxLen; omega) hbs ?_; intro v' w' ho hg hat _; obtain ⟨A2, c2, rfl⟩ := own_shape ho; have HY := Lib.hid (HS.out.push ho hg hat); clear ho hg hat))
        go_roundw
        case rel => exact ⟨j + 1, by omega, by go_num, by rw [HE.out]; exact HY.out⟩
        case measure => simp [intOf]; omega
    · obtain rfl : j = P := by omega
      go_wp2_with fail
      go_ret
      exact HS.out.1.intsO

def okE (P : Nat) (l : List (Int × Int)) : Prop := ∀ i, i < l.length → 0 ≤ (l.getD i (0, 0)).1 ∧ (l.getD i (0, 0)).1 < (l.getD i (0, 0)).2 ∧ (l.getD i (0, 0)).2 < (P : Int)

set_option maxHeartbeats 4000000 in
set_option maxRecDepth 100000 in
theorem implOverOne (P m : Nat) (k c : Int) (l : List (Int × Int)) (A : Option Addr) (cap : Nat) (w : World) (hl : BarsAt w w.heap.size A l) (hn : l.length ≤ 24) (hP : P ≤ 8) (hm : m < 2 ^ P) (hE : okE P l) (hr : rangeB k c = true) :
    Calls Try.prog 46 #[.agg #[.int .i64 (P : Int), .slice A l.length cap], .int .u64 (m : Int), .int .i64 k, .int .i64 c] w fun e w' => e = .returned (.bool (badS l k c P m)) ∧ Below w.heap.size w w' := by
  have hm8 : m < 256 := Nat.lt_of_lt_of_le hm (Nat.pow_le_pow_right (by decide) hP : 2 ^ P ≤ 2 ^ 8)
  have hk : 1 ≤ k ∧ k ≤ 3 ∧ 0 ≤ c ∧ c ≤ 2 * k - 1 := by simpa [rangeB, and_assoc] using hr
  have hb := new_below w (.cells #[.int .i64 (P : Int), .slice A l.length cap] 30)
  have HL := Lib.hid hl
  have HB := Lib.hid hb
  have HEE := Lib.hid hE
  have HSZ := size_p P m
  have BX := box_new w (P : Int) (.slice A l.length cap) 30
  clear hl hb hE hr
  obtain ⟨_, g1, g2⟩ := BX
  go_enter Try.func46, Try.ntmps46
  go_wp2_with fail
  clear g1 g2
  generalize (w.alloc (.cells #[.int .i64 (P : Int), .slice A l.length cap] 30)) = w1 at *
  go_loopw [9, 15] (fun n i wr => ∃ j : Nat, j ≤ l.length ∧ i = .int .i64 j ∧ n = .int .i64 ((l.take j).countP (bothB m) : Nat) ∧ Below w.heap.size w wr) (fun _ i _ => l.length - (intOf i).toNat)
  case atStart => exact ⟨0, by omega, rfl, by simp, HB.out⟩
  case round =>
    obtain ⟨j, hj, rfl, rfl, hbw⟩ := hrel
    have HBW := Lib.hid hbw
    have hbs := hbw.size
    clear hbw
    have hcl : (l.take j).countP (bothB m) ≤ j := Nat.le_trans List.countP_le_length (by simp; omega)
    by_cases hlt : j < l.length
    · have hij : (j : Int) < (l.length : Int) := by omega
      obtain ⟨b0, off, rfl, hbB, hcell⟩ := HL.out (by omega)
      have hc1 := (HBW.out.cell (p := ⟨b0, off + j * 2, none⟩) hbB).trans (hcell j hlt).1
      have hc2 := (HBW.out.cell (p := ⟨b0, off + j * 2 + 1, none⟩) hbB).trans (hcell j hlt).2
      have hbar := HEE.out j hlt
      have hx' := countP_take (bothB m) l j hlt
      obtain ⟨x, hx⟩ : ∃ x, l.getD j (0, 0) = x := ⟨_, rfl⟩
      rw [hx] at hc1 hc2 hbar hx'
      obtain ⟨x1, x2⟩ := x
      simp only at hc1 hc2 hbar
      obtain ⟨a, rfl⟩ : ∃ a : Nat, x1 = (a : Int) := ⟨x1.toNat, by omega⟩
      obtain ⟨b, rfl⟩ : ∃ b : Nat, x2 = (b : Int) := ⟨x2.toNat, by omega⟩
      have ha8 : a < 8 := by omega
      have hb8 : b < 8 := by omega
      have hbth : bothB m ((a : Int), (b : Int)) = (m.testBit a && m.testBit b) := rfl
      rw [hbth] at hx'
      clear hx hcell hbar hbth
      have HN := Lib.hid (HBW.out.trans ((new_below wr (.cells #[.int .i64 (a : Int), .int .i64 (b : Int)] 58)).mono hbs))
      have H1 := has_p m a (wr.alloc (.cells #[.int .i64 (a : Int), .int .i64 (b : Int)] 58)) hm8 ha8
      have H2 := has_p m b (wr.alloc (.cells #[.int .i64 (a : Int), .int .i64 (b : Int)] 58)) hm8 hb8
      generalize (l.take j).countP (bothB m) = n0 at *
      cases h1 : m.testBit a
      · rw [h1] at H1
        have HX := Lib.hid (hx'.trans (by rw [h1]; simp : _ = n0))
        clear hx' H2
        go_wp2_with (go_at_call 60; refine H1.mono ?_; rintro e w2 ⟨rfl, rfl⟩; clear H1)
        go_roundw
        case rel => exact ⟨j + 1, by omega, by go_num, by rw [HX.out], HN.out⟩
        case measure => simp [intOf]; omega
      · rw [h1] at H1
        cases h2 : m.testBit b
        · rw [h2] at H2
          have HX := Lib.hid (hx'.trans (by rw [h1, h2]; simp : _ = n0))
          clear hx'
          go_wp2_with (first | (go_at_call 60; refine H1.mono ?_; rintro e w2 ⟨rfl, rfl⟩; clear H1) | (go_at_call 60; refine H2.mono ?_; rintro e w2 ⟨rfl, rfl⟩; clear H2))
          go_roundw
          case rel => exact ⟨j + 1, by omega, by go_num, by rw [HX.out], HN.out⟩
          case measure => simp [intOf]; omega
        · rw [h2] at H2
          have HX := Lib.hid (hx'.trans (by rw [h1, h2]; simp : _ = n0 + 1))
          clear hx'
          go_wp2_with (first | (go_at_call 60; refine H1.mono ?_; rintro e w2 ⟨rfl, rfl⟩; clear H1) | (go_at_call 60; refine H2.mono ?_; rintro e w2 ⟨rfl, rfl⟩; clear H2))
          go_roundw
          case rel => exact ⟨j + 1, by omega, by go_num, by rw [HX.out]; go_num, HN.out⟩
          case measure => simp [intOf]; omega
    · obtain rfl : j = l.length := by omega
      rw [List.take_length] at hcl ⊢
      have hbad : badS l k c P m = (decide (0 < l.countP (bothB m)) && decide (k * ((setL P m).length : Int) - c < (l.countP (bothB m) : Int))) := rfl
      have hsl := setL_len P m
      generalize l.countP (bothB m) = n0 at *
      generalize (setL P m).length = s0 at *
      by_cases h0 : 0 < n0
      · have h0' : (0 : Int) < (n0 : Int) := by omega
        have hks : 0 ≤ k * (s0 : Int) ∧ k * (s0 : Int) ≤ 24 := by
          constructor
          · exact Int.mul_nonneg (by omega) (by omega)
          · calc k * (s0 : Int) ≤ 3 * (s0 : Int) := Int.mul_le_mul_of_nonneg_right (by omega) (by omega)
              _ ≤ 24 := by omega
        by_cases h1 : k * (s0 : Int) - c < (n0 : Int)
        all_goals
          have HBD := Lib.hid (hbad.trans (by simp [h0, h1] : _ = decide (k * (s0 : Int) - c < (n0 : Int))))
          rw [show decide (k * (s0 : Int) - c < (n0 : Int)) = _ from by first | exact decide_eq_true h1 | exact decide_eq_false h1] at HBD
          clear hbad
          go_wp2_with (go_at_call 61; refine (HSZ _ hP hm).mono ?_; rintro e w2 ⟨rfl, rfl⟩)
          go_ret
          exact ⟨by rw [HBD.out]; try simp [*], HBW.out⟩
      · obtain rfl : n0 = 0 := by omega
        have HBD := Lib.hid (hbad.trans (by simp : _ = false))
        clear hbad
        go_wp2_with fail
        go_ret
        exact ⟨by rw [HBD.out]; try simp [*], HBW.out⟩
end Go.Proofs.Ytimgkekllanhmaa
