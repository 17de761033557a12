/- What spec.TimesVector answers. No condition. -/
import Derived.Test.YtcfgljfpkhefmaaTrS
namespace Go.Proofs.Ytcfgljfpkhefmaa
open Go.RowKit

theorem tmV_len (m : List (List Int)) (v : List Int) : (tmV m v).length ≤ 9 := by
  unfold tmV
  split
  · rename_i h
    have := (isMatB_iff.1 h.1).h9
    unfold tmL
    rw [rowF_len]; exact this
  · simp

set_option maxHeartbeats 4000000 in
set_option maxRecDepth 100000 in
theorem specTm (m : List (List Int)) (v : List Int) (A : Option Addr) (cap lo hi : Nat) (w : World) (hl : RowsIn w lo hi A m) (hn : m.length ≤ 1048576) (hr : ∀ k, k < m.length → (m.getD k []).length ≤ 1048576)
    (Av : Option Addr) (cv lo2 hi2 : Nat) (hv : IntsIn w lo2 hi2 Av v) (hnv : v.length ≤ 1048576) :
    Calls Try.prog 27 #[.slice A m.length cap, .slice Av v.length cv] w fun e w' => ∃ A' c', e = .returned (.slice A' (tmV m v).length c') ∧ IntsIn w' w.heap.size w'.heap.size A' (tmV m v) ∧ Below w.heap.size w w' := by
  have HL := Lib.hid hl
  have HVI := Lib.hid hv
  have HMAT := Lib.hid (fun (W : World) (h : RowsIn W lo hi A m) => specMat m A cap lo hi W h hn hr)
  have HAL := Lib.hid (new_below w (.cells #[] 3))
  have HOE := Lib.hid (ownR_empty w)
  have HSZ := Lib.hid (show (w.alloc (.cells #[] 3)).heap.size = w.heap.size + 1 by simp)
  clear hv
  by_cases hM : MatP m
  · rw [isMatB_yes hM] at HMAT
    obtain ⟨b, off, S, rfl, hbw, hc⟩ := rows_fn hl hM.h0
    have HC := Lib.hid hc
    have h0 := hM.h0
    have h9 := hM.h9
    have HROW := Lib.hid hM.row
    have hw0 := (hM.row 0 h0).1
    have h12 := hM.w12
    have h1 := hM.w1
    have HIB := Lib.hid (isMatB_yes hM)
    clear hc hl hr hM
    obtain ⟨n, hn'⟩ : ∃ n, widM m = n := ⟨_, rfl⟩
    rw [hn'] at hw0 h12 h1
    have HWID := Lib.hid hn'
    clear hn'
    by_cases hvn : v.length = n
    · have HTV := Lib.hid (show tmV m v = rowF m.length fun i => dotW64 (m.getD i []) v v.length by unfold tmV; rw [if_pos ⟨HIB.out, by rw [HWID.out]; exact hvn⟩]; rfl)
      obtain ⟨L, hL⟩ : ∃ L, v.length = L := ⟨_, rfl⟩
      rw [hL] at hvn HTV hnv ⊢
      subst hvn
      have hee : ((L : Int) == (L : Int)) = true := by simp
      go_enter Try.func27, Try.ntmps27
      go_wp2_with fail
      have HG0 := Lib.hid (show GrowP w.heap.size (w.heap.size + 1) (w.alloc (.cells #[] 3)) (w.alloc (.cells #[] 3)) (rowF 0 fun i => dotW64 (m.getD i []) v L) (some ⟨w.heap.size, 0, none⟩) 0 w.heap.size (w.heap.size + 1) from ⟨HOE.out, .inl ⟨rfl, rfl⟩, (by have := HSZ.out; omega), Within.refl _ _ _⟩)
      generalize w.alloc (.cells #[] 3) = wA at *
      have HL63 := Lib.hid hL
      clear hL
      go_loopw [5, 6] (fun o i w' => ∃ (k lo3 hi3 : Nat) (Ar : Option Addr) (cr : Nat), k ≤ m.length ∧ i = .int .i64 k ∧ o = .slice Ar (rowF k fun i => dotW64 (m.getD i []) v L).length cr ∧ OwnR w' lo3 hi3 Ar cr (rowF k fun i => dotW64 (m.getD i []) v L) ∧ (w.heap.size ≤ lo3 ∧ lo3 ≤ w'.heap.size) ∧ Below w.heap.size w w') (fun _ i _ => m.length - (intOf i).toNat)
      case atStart => exact ⟨0, _, _, _, _, by omega, rfl, rfl, HG0.out.row, ⟨Nat.le_refl _, (by have := HSZ.out; omega)⟩, HAL.out⟩
      case round =>
        obtain ⟨k, lo3, hi3, Ar, cr, hk, rfl, rfl, ho, hlo3, hb⟩ := hrel
        have HO := Lib.hid ho
        have HB := Lib.hid hb
        clear ho hb
        have HSTEP := Lib.hid (rowF_succ k fun i => dotW64 (m.getD i []) v L)
        have hl9 : (rowF k fun i => dotW64 (m.getD i []) v L).length ≤ 9 := by rw [rowF_len]; omega
        have HEQ := Lib.hid (fun h : k = m.length => (show (rowF k fun i => dotW64 (m.getD i []) v L) = tmV m v by rw [HTV.out, h]))
        obtain ⟨ys, hys⟩ : ∃ ys, (rowF k fun i => dotW64 (m.getD i []) v L) = ys := ⟨_, rfl⟩
        rw [hys] at HO hl9 HSTEP HEQ ⊢
        clear hys
        go_wp2_with fail
        refine (HMAT.out _ (rowsIn_below HL.out HB.out)).mono ?_
        rintro e wz ⟨rfl, hbz⟩
        have HOZ := Lib.hid (HO.out.within (within_of hbz) (.inr (Nat.zero_le _)))
        have HBZ := Lib.hid (below_on HB.out hbz HB.out.size)
        have hzs := hbz.size
        clear hbz
        have c0 := rows_cell hbw HC.out HBZ.out (i := 0) h0
        rw [Nat.add_zero, hw0] at c0
        obtain ⟨⟨A0, cz⟩, hS0⟩ : ∃ s, S 0 = s := ⟨_, rfl⟩
        rw [hS0] at c0
        dsimp only at c0
        clear hS0
        have hsl : (0 : Int) < (m.length : Int) := by omega
        by_cases hlt : k < m.length
        · have hki : (k : Int) < (m.length : Int) := by omega
          obtain ⟨wy, rfl⟩ : ∃ x, x = wz := ⟨wz, rfl⟩
          have hrl := (HROW.out k hlt).1
          obtain ⟨⟨A', c'⟩, hSk⟩ : ∃ s, S k = s := ⟨_, rfl⟩
          have HSK := Lib.hid hSk
          have HRL := Lib.hid hrl
          clear hSk hrl
          go_wp2_with fail
          clear c0
          go_loopw [7, 8] (fun s j wr2 => ∃ t : Nat, t ≤ L ∧ j = .int .i64 t ∧ s = .int .i64 (dotW64 (m.getD k []) v t) ∧ Below wy.heap.size wy wr2) (fun _ j _ => L - (intOf j).toNat)
          case atStart => exact ⟨0, by omega, rfl, rfl, Below.refl _ _⟩
          case round =>
            obtain ⟨t, ht, rfl, rfl, hb2⟩ := hrel
            have HB2 := Lib.hid hb2
            have HBW := Lib.hid (below_on HBZ.out hb2 HBZ.out.size)
            clear hb2
            by_cases htl : t < L
            · have hti : (t : Int) < (L : Int) := by omega
              have c1 := rows_cell hbw HC.out HBW.out hlt
              obtain ⟨bi, oi, e1, c2⟩ := rows_num HC.out HBW.out hlt (show t < (m.getD k []).length by rw [HRL.out, HWID.out]; exact htl)
              rw [HRL.out, HWID.out, e1] at c1
              have hvi := HVI.out.within (within_of HBW.out) (.inr (Nat.zero_le _))
              obtain ⟨bv, ov, rfl, _, _, hcv⟩ := hvi.2 (by rw [HL63.out]; omega)
              have c3 := hcv t (by rw [HL63.out]; exact htl)
              have hnx : dotW64 (m.getD k []) v (t + 1) = IntKind.i64.wrap (dotW64 (m.getD k []) v t + IntKind.i64.wrap ((m.getD k []).getD t 0 * v.getD t 0)) := rfl
              have HNX := Lib.hid hnx
              have hat : atM m k t = (m.getD k []).getD t 0 := rfl
              rw [← hat] at HNX
              obtain ⟨x, hx⟩ : ∃ x, atM m k t = x := ⟨_, rfl⟩
              obtain ⟨y, hy⟩ : ∃ y, v.getD t 0 = y := ⟨_, rfl⟩
              obtain ⟨d, hd⟩ : ∃ d, dotW64 (m.getD k []) v t = d := ⟨_, rfl⟩
              rw [hx] at c2 HNX
              rw [hy] at c3 HNX
              rw [hd] at HNX ⊢
              obtain ⟨p, hp⟩ : ∃ p, IntKind.i64.wrap (x * y) = p := ⟨_, rfl⟩
              obtain ⟨s, hs⟩ : ∃ s, IntKind.i64.wrap (d + p) = s := ⟨_, rfl⟩
              rw [hp, hs] at HNX
              clear hx hy hd hcv hvi hnx hat e1
              go_wp2_with fail
              go_quiet (fail)
              go_wp2_with fail
              go_roundw
              case rel => exact ⟨t + 1, by omega, by go_num, by rw [HNX.out], HB2.out.trans (below_drewN _ _ _)⟩
              case measure => simp [intOf]; omega
            · obtain rfl : t = L := by omega
              have HOY := Lib.hid (HOZ.out.within (within_of HB2.out) (.inr (Nat.zero_le _)))
              have hy2 := HB2.out.size
              obtain ⟨d, hd⟩ : ∃ d, dotW64 (m.getD k []) v t = d := ⟨_, rfl⟩
              rw [hd] at HSTEP ⊢
              clear hd
              go_wp2_with (at_builtin; refine wpList_pushR _ rfl _ _ rfl lo3 hi3 Ar cr ys d rfl HOY.out _ (by first | rfl | (simp only [World.size_setCell]; rfl)) (by omega) (by omega) ?_; intro A6 c6 w16 lo6 hi6 hr6 hor6 hw6; have HR6 := Lib.hid hr6; have HOR := Lib.hid hor6; have HW6 := Lib.hid hw6; clear hr6 hor6 hw6)
              go_roundw
              case rel => exact ⟨k + 1, lo6, hi6, A6, c6, by omega, by go_num, by rw [HSTEP.out, List.length_append]; rfl, by rw [HSTEP.out]; exact HR6.out, (by have := HOR.out; have := HW6.out.size; omega), within_on HBW.out HW6.out HBW.out.size (.inl hlo3.1)⟩
              case measure => simp [intOf]; omega
        · obtain rfl : k = m.length := by omega
          have HE := Lib.hid (HEQ.out rfl)
          go_wp2_with fail
          go_ret
          have ht := HOZ.out.1
          refine ⟨Ar, cr, by rw [← HE.out]; rfl, ?_, HBZ.out⟩
          rw [← HE.out]
          exact HOZ.out.ints.reads.widen hlo3.1 ht (Nat.le_refl _)
    · have HTV := Lib.hid (show tmV m v = [] by unfold tmV; rw [if_neg (fun h => hvn (by rw [← HWID.out]; exact h.2))])
      have hee : ((v.length : Int) == (n : Int)) = false := by simp; omega
      have c0 := rows_cell hbw HC.out HAL.out (i := 0) h0
      rw [Nat.add_zero, hw0] at c0
      have hsl : (0 : Int) < (m.length : Int) := by omega
      clear hvn
      go_enter Try.func27, Try.ntmps27
      go_wp2_with fail
      generalize w.alloc (.cells #[] 3) = wA at *
      refine wp_loop_rounds 1 ?_
      rw [rounds_succ]
      go_wp2_with fail
      refine (HMAT.out _ (rowsIn_below HL.out HAL.out)).mono ?_
      rintro e wz ⟨rfl, hbz⟩
      have HBZ := Lib.hid (below_on HAL.out hbz HAL.out.size)
      have c1 := rows_cell hbw HC.out HBZ.out (i := 0) h0
      rw [Nat.add_zero, hw0] at c1
      clear hbz c0
      go_wp2_with fail
      go_ret
      exact ⟨_, _, by rw [HTV.out]; rfl, by rw [HTV.out]; exact ⟨Nat.le_refl _, fun h => absurd h (by simp)⟩, HBZ.out⟩
  · rw [isMatB_no hM] at HMAT
    have HTV := Lib.hid (show tmV m v = [] by unfold tmV; rw [if_neg (fun h => hM (isMatB_iff.1 h.1))])
    clear hl hr hM
    go_enter Try.func27, Try.ntmps27
    go_wp2_with fail
    generalize w.alloc (.cells #[] 3) = wA at *
    refine wp_loop_rounds 1 ?_
    rw [rounds_succ]
    go_wp2_with fail
    refine (HMAT.out _ (rowsIn_below HL.out HAL.out)).mono ?_
    rintro e wz ⟨rfl, hbz⟩
    have HBZ := Lib.hid (below_on HAL.out hbz HAL.out.size)
    clear hbz
    go_wp2_with fail
    go_ret
    exact ⟨_, _, by rw [HTV.out]; rfl, by rw [HTV.out]; exact ⟨Nat.le_refl _, fun h => absurd h (by simp)⟩, HBZ.out⟩
end Go.Proofs.Ytcfgljfpkhefmaa
