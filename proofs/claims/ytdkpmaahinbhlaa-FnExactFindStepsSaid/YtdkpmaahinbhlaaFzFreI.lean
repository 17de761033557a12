/- impl.Graph.freed's function value, and slices.IndexFunc with it. No condition. -/
import Derived.Test.YtdkpmaahinbhlaaFzB1
import Derived.Test.YtdkpmaahinbhlaaFzDropS
namespace Go.Proofs.Ytdkpmaahinbhlaa
open Go.RowKit

theorem fre1_c (v : Int) (x : Int × Int) (vb : Nat) (w : World) (hv : w.cell? ⟨vb, 0, none⟩ = some (.int .i64 v)) (hlt : vb < w.heap.size) :
    Calls Try.prog 241 #[.agg #[.int .i64 x.1, .int .i64 x.2], .pointer (some ⟨vb, 0, none⟩)] w fun e w' => e = .returned (.bool (endB v x)) ∧ Below w.heap.size w w' := by
  have hA := new_below w (.cells #[.int .i64 x.1, .int .i64 x.2] 108)
  have HA := Lib.hid hA
  have hv2 := (hA.cell (p := ⟨vb, 0, none⟩) hlt).trans hv
  clear hA hv
  go_enter Try.func241, Try.ntmps241
  go_wp2_with (go_at_call 114; refine (hasEnd_c v x _).mono ?_; rintro e w4 ⟨rfl, hb4⟩; have HB4 := Lib.hid (below_on HA.out hb4 HA.out.size); clear hb4)
  go_ret
  exact ⟨rfl, HB4.out⟩
/-- No bar of the first n is at v. -/
def noneAt (v : Int) (l : List (Int × Int)) (n : Nat) : Prop := ∀ u, u < n → endB v (l.getD u (0, 0)) = false
theorem noneAt_succ {v : Int} {l : List (Int × Int)} {n : Nat} (h : noneAt v l n) (h1 : endB v (l.getD n (0, 0)) = false) : noneAt v l (n + 1) := fun u hu => by
  by_cases c : u = n
  · subst c; exact h1
  · exact h u (by omega)
set_option maxHeartbeats 4000000 in
set_option maxRecDepth 100000 in
theorem idxFB_c (v : Int) (l : List (Int × Int)) (A : Option Addr) (cap vb lo hi : Nat) (w : World) (hl : BarsIn w lo hi A l) (hv : w.cell? ⟨vb, 0, none⟩ = some (.int .i64 v)) (hlt : vb < w.heap.size) (hn : l.length ≤ 1048576) :
    Calls Try.prog 246 #[.slice A l.length cap, .func (.func 241) #[] #[.pointer (some ⟨vb, 0, none⟩)]] w fun e w' => Below w.heap.size w w' ∧ ((e = .returned (.int .i64 (-1)) ∧ noneAt v l l.length) ∨ ∃ j : Nat, j < l.length ∧ e = .returned (.int .i64 j) ∧ endB v (l.getD j (0, 0)) = true ∧ noneAt v l j) := by
  have HL := Lib.hid hl
  have HV := Lib.hid hv
  have HT := Lib.hid hlt
  clear hl hv hlt
  go_enter Try.func246, Try.ntmps246
  go_wp2_with fail
  go_loopw [8] (fun i wr => ∃ j : Nat, j ≤ l.length ∧ i = .int .i64 j ∧ noneAt v l j ∧ Below w.heap.size w wr) (fun i _ => l.length - (intOf i).toNat)
  case atStart => exact ⟨0, Nat.zero_le _, rfl, fun u hu => absurd hu (Nat.not_lt_zero _), Below.refl _ _⟩
  case round =>
    obtain ⟨j, hj, rfl, hno, hb⟩ := hrel
    have HNO := Lib.hid hno
    have HB := Lib.hid hb
    clear hno hb
    by_cases hlt : j < l.length
    · have hji : (j : Int) < (l.length : Int) := by omega
      obtain ⟨b0, off, rfl, _, _, hc⟩ := (HL.out.within (within_of HB.out) (.inr (Nat.zero_le _))).2 (by omega)
      obtain ⟨hc1, hc2⟩ := hc j hlt
      obtain ⟨x, hx⟩ : ∃ x, l.getD j (0, 0) = x := ⟨_, rfl⟩
      rw [hx] at hc1 hc2
      have HX := Lib.hid hx
      clear hc hx
      have HC := Lib.hid (fre1_c v x vb wr ((HB.out.cell (p := ⟨vb, 0, none⟩) HT.out).trans HV.out) (Nat.lt_of_lt_of_le HT.out HB.out.size))
      cases he : endB v x with
      | true =>
        have HE := Lib.hid he
        clear he
        go_wp2_with (go_at_call 241; refine HC.out.mono ?_; rintro e w5 ⟨rfl, hb5⟩; rw [HE.out]; have HB5 := Lib.hid (below_on HB.out hb5 HB.out.size); clear hb5)
        go_ret
        exact ⟨HB5.out, .inr ⟨j, hlt, rfl, by rw [HX.out]; exact HE.out, HNO.out⟩⟩
      | false =>
        have HE := Lib.hid he
        clear he
        go_wp2_with (go_at_call 241; refine HC.out.mono ?_; rintro e w5 ⟨rfl, hb5⟩; rw [HE.out]; have HB5 := Lib.hid (below_on HB.out hb5 HB.out.size); clear hb5)
        go_roundw
        case rel => exact ⟨j + 1, by omega, by go_num, noneAt_succ HNO.out (by rw [HX.out]; exact HE.out), HB5.out⟩
        case measure => simp [intOf]; omega
    · obtain rfl : j = l.length := by omega
      go_wp2_with fail
      go_ret
      exact ⟨HB.out, .inl ⟨rfl, HNO.out⟩⟩
end Go.Proofs.Ytdkpmaahinbhlaa
