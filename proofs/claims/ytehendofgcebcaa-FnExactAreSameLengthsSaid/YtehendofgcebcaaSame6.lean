/- spec.l6Same: whether two rows of ints are equal. No condition. -/
import Derived.Test.YtehendofgcebcaaInts
namespace Go.Proofs.Ytehendofgcebcaa
open Go.RowKit

theorem take_step {zs ys : List Int} {k : Nat} (h : zs.take k = ys.take k) (hz : k < zs.length) (hy : k < ys.length) (e : zs.getD k 0 = ys.getD k 0) : zs.take (k + 1) = ys.take (k + 1) := by
  rw [List.take_add_one, List.take_add_one, h]
  simp only [List.getD, List.getElem?_eq_getElem hz, List.getElem?_eq_getElem hy, Option.getD_some] at e
  rw [List.getElem?_eq_getElem hz, List.getElem?_eq_getElem hy, e]

set_option maxHeartbeats 2000000 in
set_option maxRecDepth 100000 in
theorem same6_c (zs ys : List Int) (A A' : Option Addr) (cap cap' : Nat) (lo hi lo' hi' : Nat) (w : World) (hl : IntsIn w lo hi A zs) (hl' : IntsIn w lo' hi' A' ys) (hn : zs.length ≤ 1048576) :
    Calls Try.prog 108 #[.slice A zs.length cap, .slice A' ys.length cap'] w fun e w' => e = .returned (.bool (decide (zs = ys))) ∧ Below w.heap.size w w' := by
  have HL := Lib.hid hl
  have HL' := Lib.hid hl'
  clear hl hl'
  by_cases hq : (zs.length : Int) = (ys.length : Int)
  · have dq : ((zs.length : Int) == (ys.length : Int)) = true := by simpa using hq
    go_enter Try.func108, Try.ntmps108
    go_wp2_with fail
    go_loopw [5] (fun i wr => ∃ k : Nat, k ≤ zs.length ∧ i = .int .i64 k ∧ zs.take k = ys.take k ∧ ∃ m, wr = w.drewN m) (fun i _ => zs.length - (intOf i).toNat)
    case atStart => exact ⟨0, by omega, rfl, by simp, 0, rfl⟩
    case round =>
      obtain ⟨k, hk, rfl, htk, m, rfl⟩ := hrel
      have HT := Lib.hid htk
      clear htk
      by_cases hlt : k < zs.length
      · have hi : (k : Int) < (zs.length : Int) := by omega
        obtain ⟨b, off, rfl, _, _, hcell⟩ := HL.out.2 (by omega)
        obtain ⟨b', off', rfl, _, _, hcell'⟩ := HL'.out.2 (by omega)
        have hc1 := hcell k hlt
        have hc2 := hcell' k (by omega)
        clear hcell hcell'
        have HZ := Lib.hid (fun (e : zs.getD k 0 = ys.getD k 0) => take_step HT.out hlt (by omega) e)
        have HN := Lib.hid (fun (e : zs = ys) => show zs.getD k 0 = ys.getD k 0 by rw [e])
        obtain ⟨x, hx⟩ : ∃ x, zs.getD k 0 = x := ⟨_, rfl⟩
        obtain ⟨y, hy⟩ : ∃ y, ys.getD k 0 = y := ⟨_, rfl⟩
        rw [hx] at hc1 HZ HN
        rw [hy] at hc2 HZ HN
        clear hx hy
        by_cases c : x = y
        · have d : (x == y) = true := by simpa using c
          go_wp2_with fail
          go_quiet (fail)
          go_wp2_with fail
          go_roundw
          case rel => exact ⟨k + 1, by omega, by go_num, HZ.out c, m + nq, rfl⟩
          case measure => simp [intOf]; omega
        · have d : (x == y) = false := by simpa using c
          go_wp2_with fail
          go_quiet (fail)
          go_wp2_with fail
          go_ret
          exact ⟨by rw [decide_eq_false (fun e => c (HN.out e))]; rfl, ⟨rfl, rfl, rfl, Nat.le_refl _, fun _ _ => rfl⟩⟩
      · go_wp2_with fail
        go_ret
        have e : zs = ys := by
          have h := HT.out
          rw [List.take_of_length_le (by omega), List.take_of_length_le (by omega)] at h
          exact h
        exact ⟨by rw [decide_eq_true e]; rfl, below_drewN _ _ _⟩
  · have dq : ((zs.length : Int) == (ys.length : Int)) = false := by simpa using hq
    go_enter Try.func108, Try.ntmps108
    go_wp2_with fail
    go_ret
    exact ⟨by rw [decide_eq_false (fun e => hq (by rw [e]))]; rfl, Below.refl _ _⟩
end Go.Proofs.Ytehendofgcebcaa
