/- What spec.TransposeMatrix answers. No condition. -/
import Derived.Test.YtcfgljfpkhefmaaMxS
import Derived.Test.YtcfgljfpkhefmaaRowsG
import Derived.Test.YtcfgljfpkhefmaaGrow
import Derived.Test.YtcfgljfpkhefmaaCpR
import Derived.Test.YtcfgljfpkhefmaaPlaM
namespace Go.Proofs.Ytcfgljfpkhefmaa
open Go.RowKit

theorem rowF_succ (x : Nat) (f : Nat → Int) : rowF (x + 1) f = rowF x f ++ [f x] := by unfold rowF; rw [List.range_succ, List.map_append]; rfl
/-- The first k columns. -/
def trK (m : List (List Int)) (k : Nat) : List (List Int) := (List.range k).map fun j => rowF m.length fun i => atM m i j
theorem trK_succ (m : List (List Int)) (k : Nat) : trK m (k + 1) = trK m k ++ [rowF m.length fun i => atM m i k] := by unfold trK; rw [List.range_succ, List.map_append]; rfl
theorem trK_len (m : List (List Int)) (k : Nat) : (trK m k).length = k := by unfold trK; rw [List.length_map, List.length_range]
theorem trV_len (m : List (List Int)) : (trV m).length ≤ 12 := by
  unfold trV
  split
  · rename_i h
    have := (isMatB_iff.1 h).w12
    unfold trL
    rw [List.length_map, List.length_range]; exact this
  · simp
theorem trV_row (m : List (List Int)) (k : Nat) : ((trV m).getD k []).length ≤ 9 := by
  unfold trV
  split
  · rename_i h
    have := (isMatB_iff.1 h).h9
    by_cases hk : k < widM m
    · have : (trL m).getD k [] = rowF m.length fun i => atM m i k := by unfold trL; simp [List.getD, hk]
      rw [this, rowF_len]; assumption
    · have : (trL m).getD k [] = [] := by unfold trL; simp [List.getD, hk]
      rw [this]; simp
  · simp
theorem rowsIn_widen {W : World} {lo hi lo' hi' : Nat} {A : Option Addr} {rs : List (List Int)} (h : RowsIn W lo hi A rs) (h1 : lo' ≤ lo) (h2 : hi ≤ hi') (h3 : hi' ≤ W.heap.size) : RowsIn W lo' hi' A rs :=
  ⟨h3, fun hl => by
    obtain ⟨b, off, e, q1, q2, hc⟩ := h.2 hl
    exact ⟨b, off, e, by omega, by omega, fun k hk => by
      obtain ⟨A', c', p1, p2⟩ := hc k hk
      exact ⟨A', c', p1, p2.widen h1 h2 h3⟩⟩⟩
theorem rowsIn_below {W W' : World} {lo hi : Nat} {A : Option Addr} {rs : List (List Int)} (h : RowsIn W lo hi A rs) (hb : Below W.heap.size W W') : RowsIn W' lo hi A rs := h.within (within_of hb) (.inr (Nat.zero_le _))

set_option maxHeartbeats 4000000 in
set_option maxRecDepth 100000 in
theorem specTr (m : List (List Int)) (A : Option Addr) (cap lo hi : Nat) (w : World) (hl : RowsIn w lo hi A m) (hn : m.length ≤ 1048576) (hr : ∀ k, k < m.length → (m.getD k []).length ≤ 1048576) :
    Calls Try.prog 25 #[.slice A m.length cap] w fun e w' => ∃ A' c', e = .returned (.slice A' (trV m).length c') ∧ RowsIn w' w.heap.size w'.heap.size A' (trV m) ∧ Below w.heap.size w w' := by
  have HL := Lib.hid hl
  have HMAT := Lib.hid (fun (W : World) (h : RowsIn W lo hi A m) => specMat m A cap lo hi W h hn hr)
  have HAL := Lib.hid (new_below w (.cells #[] 28))
  have HG0 := Lib.hid (RowsG.made w)
  have HSZ := Lib.hid (show (w.alloc (.cells #[] 28)).heap.size = w.heap.size + 1 by simp)
  by_cases hM : MatP m
  · rw [isMatB_yes hM] at HMAT
    have HTV := Lib.hid (show trV m = trK m (widM m) by unfold trV; rw [if_pos (isMatB_yes hM)]; rfl)
    obtain ⟨b, off, S, rfl, hbw, hc⟩ := rows_fn hl hM.h0
    have HC := Lib.hid hc
    have h0 := hM.h0
    have h9 := hM.h9
    have HROW := Lib.hid hM.row
    have hw0 := (hM.row 0 h0).1
    have h12 := hM.w12
    have h1 := hM.w1
    clear hc hl hr hM
    obtain ⟨n, hn'⟩ : ∃ n, widM m = n := ⟨_, rfl⟩
    rw [hn'] at HTV hw0 h12 h1
    have HWID := Lib.hid hn'
    clear hn'
    go_enter Try.func25, Try.ntmps25
    go_wp2_with fail
    generalize w.alloc (.cells #[] 28) = wA at *
    go_loopw [3, 4] (fun o i w' => ∃ (k T lo2 hi2 : Nat) (A' : Option Addr) (c' : Nat), k ≤ n ∧ i = .int .i64 k ∧ o = .slice A' k c' ∧ RowsG w' w.heap.size T lo2 hi2 A' c' (trK m k) ∧ Below w.heap.size w w') (fun _ i _ => n - (intOf i).toNat)
    case atStart => exact ⟨0, _, _, _, _, _, Nat.zero_le _, rfl, rfl, HG0.out, HAL.out⟩
    case round =>
      obtain ⟨k, T, lo2, hi2, A2, c2, hk, rfl, rfl, hrg, hb⟩ := hrel
      have HRG := Lib.hid hrg
      have HB := Lib.hid hb
      clear hrg hb
      have hsl : (0 : Int) < (m.length : Int) := by omega
      go_wp2_with fail
      refine (HMAT.out _ (rowsIn_below HL.out HB.out)).mono ?_
      rintro e wz ⟨rfl, hbz⟩
      have HRGZ := Lib.hid (HRG.out.below hbz)
      have HBZ := Lib.hid (below_on HB.out hbz HB.out.size)
      clear hbz
      have c0 := rows_cell hbw HC.out HBZ.out (i := 0) h0
      rw [Nat.add_zero, hw0] at c0
      obtain ⟨⟨A0, cz⟩, hS0⟩ : ∃ s, S 0 = s := ⟨_, rfl⟩
      rw [hS0] at c0
      dsimp only at c0
      by_cases hkn : k < n
      · have hki : (k : Int) < (n : Int) := by omega
        clear hS0
        obtain ⟨wy, rfl⟩ : ∃ x, x = wz := ⟨wz, rfl⟩
        have hal := new_below wy (.cells #[] 3)
        have HAL2 := Lib.hid hal
        have HOE := Lib.hid (ownR_empty wy)
        have HSZ2 := Lib.hid (show (wy.alloc (.cells #[] 3)).heap.size = wy.heap.size + 1 by simp)
        have HB3 := Lib.hid (below_on HBZ.out hal HBZ.out.size)
        have HG3 := Lib.hid (show GrowP wy.heap.size (wy.heap.size + 1) (wy.alloc (.cells #[] 3)) (wy.alloc (.cells #[] 3)) (rowF 0 fun i => atM m i k) (some ⟨wy.heap.size, 0, none⟩) 0 wy.heap.size (wy.heap.size + 1) from ⟨HOE.out, .inl ⟨rfl, rfl⟩, (by have := HSZ2.out; omega), Within.refl _ _ _⟩)
        clear hal
        go_wp2_with fail
        clear c0
        generalize wy.alloc (.cells #[] 3) = wV at *
        go_loopw [5, 6] (fun o i w' => ∃ (x : Nat) (Ar : Option Addr) (cr lo3 hi3 : Nat), x ≤ m.length ∧ i = .int .i64 x ∧ o = .slice Ar (rowF x fun i => atM m i k).length cr ∧ GrowP wy.heap.size (wy.heap.size + 1) wV w' (rowF x fun i => atM m i k) Ar cr lo3 hi3) (fun _ i _ => m.length - (intOf i).toNat)
        case atStart => exact ⟨0, _, 0, _, _, Nat.zero_le _, rfl, rfl, HG3.out⟩
        case round =>
          obtain ⟨x, Ar, cr, lo3, hi3, hx, rfl, rfl, hg⟩ := hrel
          have HG := Lib.hid hg
          have hbw2 := within_on HB3.out hg.wi HB3.out.size (.inl HBZ.out.size)
          have HBX := Lib.hid hbw2
          have HBL := Lib.hid (within_on HAL2.out hg.wi HAL2.out.size (.inl (Nat.le_refl _)))
          clear hg hbw2
          have hl9 : (rowF x fun i => atM m i k).length ≤ 9 := by rw [rowF_len]; omega
          have HSTEP := Lib.hid (rowF_succ x fun i => atM m i k)
          have HLX := Lib.hid (rowF_len x fun i => atM m i k)
          have HEQ := Lib.hid (fun h : x = m.length => (show (rowF x fun i => atM m i k) = rowF m.length fun i => atM m i k by rw [h]))
          obtain ⟨ys, hys⟩ : ∃ ys, (rowF x fun i => atM m i k) = ys := ⟨_, rfl⟩
          rw [hys] at HG hl9 HSTEP HEQ HLX ⊢
          clear hys
          by_cases hxn : x < m.length
          · have hxi : (x : Int) < (m.length : Int) := by omega
            have hrl := (HROW.out x hxn).1
            have c1 := rows_cell hbw HC.out HBX.out hxn
            obtain ⟨bi, oi, e1, c2'⟩ := rows_num HC.out HBX.out hxn (show k < (m.getD x []).length by rw [hrl, HWID.out]; exact hkn)
            rw [e1, hrl, HWID.out] at c1
            obtain ⟨y, hy⟩ : ∃ y, atM m x k = y := ⟨_, rfl⟩
            rw [hy] at c2' HSTEP
            clear hy e1 hrl
            go_wp2_with (at_builtin; refine wpList_pushR _ rfl _ _ rfl lo3 hi3 Ar cr ys y rfl HG.out.row _ (by first | rfl | (simp only [World.size_setCell]; rfl)) (by omega) HG.out.le ?_; intro A6 c6 w16 lo6 hi6 hr6 hor6 hw6; have HG6 := Lib.hid (HG.out.push hr6 hor6 hw6); clear hr6 hor6 hw6)
            go_roundw
            case rel => exact ⟨x + 1, A6, c6, lo6, hi6, by omega, by go_num, by rw [HSTEP.out, List.length_append]; rfl, by rw [HSTEP.out]; exact HG6.out⟩
            case measure => simp [intOf]; omega
          · have hxe : x = m.length := by omega
            have HY := Lib.hid (HEQ.out hxe)
            have HRG5 := Lib.hid (HRGZ.out.below HBL.out)
            have HOX := Lib.hid (HG.out.row.ints)
            have HTOP := Lib.hid (show T ≤ lo3 by have := HG.out.rng; have := HRGZ.out.top; have := HSZ2.out; omega)
            obtain ⟨zs, r, S', z1, z2, z3, z4⟩ := HRG5.out.rows
            rw [trK_len] at z1
            have HZ1 := Lib.hid z1
            have HZ2 := Lib.hid z2
            have HZ3 := Lib.hid (show RowsP _ w.heap.size T lo2 hi2 zs (trK m k) from ⟨r, S', z3, z4⟩)
            have HLO := Lib.hid (show lo2 ≤ _ from Nat.le_trans HRG5.out.out.2.1 HRG5.out.top)
            have HOB := Lib.hid (HRG5.out.out.1)
            clear z1 z2 z3 z4 hxe
            go_wp2_with (at_builtin; refine wpList_pushS _ rfl _ _ rfl lo2 hi2 A2 c2 zs (.slice Ar ys.length cr) rfl (by rw [HZ1.out]; rfl) HZ2.out _ rfl (by have := HZ1.out; omega) HLO.out ?_; intro A7 c7 w7 lo7 hi7 ho7 hd7 hw7; have HO7 := Lib.hid ho7; have HD7 := Lib.hid hd7; have HW7 := Lib.hid hw7; clear ho7 hd7 hw7)
            have HRG7 := Lib.hid (HRG5.out.push (q := (lo3, hi3)) HOX.out HTOP.out (HZ1.out.trans (trK_len _ _).symm) HZ3.out HO7.out HD7.out HW7.out)
            go_roundw
            case rel => exact ⟨k + 1, _, _, _, _, _, by omega, by go_num, by rw [HZ1.out], by rw [trK_succ, ← HY.out]; exact HRG7.out, within_on HBX.out HW7.out HBX.out.size (.inl HOB.out)⟩
            case measure => simp [intOf]; omega
      · obtain rfl : k = n := by omega
        clear hS0
        go_wp2_with fail
        go_ret
        have ht := HRGZ.out.top
        refine ⟨A2, c2, by rw [HTV.out, trK_len]; rfl, ?_, HBZ.out⟩
        rw [HTV.out]
        exact rowsIn_widen HRGZ.out.cells.reads (Nat.le_refl _) ht (Nat.le_refl _)
  · rw [isMatB_no hM] at HMAT
    have HTV := Lib.hid (show trV m = [] by unfold trV; rw [isMatB_no hM]; rfl)
    clear hl hr hM
    go_enter Try.func25, Try.ntmps25
    go_wp2_with fail
    generalize w.alloc (.cells #[] 28) = wA at *
    refine wp_loop_rounds 1 ?_
    rw [rounds_succ]
    go_wp2_with fail
    refine (HMAT.out _ (rowsIn_below HL.out HAL.out)).mono ?_
    rintro e wz ⟨rfl, hbz⟩
    have HBZ := Lib.hid (below_on HAL.out hbz HAL.out.size)
    clear hbz
    go_wp2_with fail
    go_ret
    exact ⟨_, _, by rw [HTV.out]; rfl, by rw [HTV.out]; exact ⟨Nat.le_refl _, fun h => absurd h (by simp)⟩, HBZ.out⟩
end Go.Proofs.Ytcfgljfpkhefmaa
