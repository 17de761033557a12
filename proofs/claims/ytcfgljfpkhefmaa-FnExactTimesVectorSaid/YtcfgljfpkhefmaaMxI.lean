/- The program's test of a matrix (impl.IsMatrix, isMatrixRow). No condition. -/
import Derived.Test.YtcfgljfpkhefmaaMxS
namespace Go.Proofs.Ytcfgljfpkhefmaa
open Go.RowKit

noncomputable def rowOkB (row : List Int) : Bool := @decide (RngP row row.length ∧ sqsP row row.length ≤ 64) (Classical.propDecidable _)
theorem rowOkB_yes {row : List Int} (h : RngP row row.length ∧ sqsP row row.length ≤ 64) : rowOkB row = true := by unfold rowOkB; exact @decide_eq_true _ (Classical.propDecidable _) h
theorem rowOkB_no {row : List Int} (h : ¬ (RngP row row.length ∧ sqsP row row.length ≤ 64)) : rowOkB row = false := by unfold rowOkB; exact @decide_eq_false _ (Classical.propDecidable _) h
set_option maxHeartbeats 2000000 in
set_option maxRecDepth 100000 in
theorem matRow_c (row : List Int) (A : Option Addr) (cap lo hi : Nat) (w : World) (hl : IntsIn w lo hi A row) (hn : row.length ≤ 12) :
    Calls Try.prog 98 #[.slice A row.length cap] w fun e w' => e = .returned (.bool (rowOkB row)) ∧ w = w' := by
  have HL := Lib.hid hl
  clear hl
  obtain ⟨bm, hbm⟩ : ∃ bm, rowOkB row = bm := ⟨_, rfl⟩
  rw [hbm]
  have HBM := Lib.hid hbm
  clear hbm
  go_enter Try.func98, Try.ntmps98
  go_wp2_with fail
  go_loopw [3, 5, 8] (fun s _ i wr => w = wr ∧ ∃ t : Nat, t ≤ row.length ∧ i = .int .i64 t ∧ s = .int .i64 (sqsP row t) ∧ RngP row t) (fun _ _ i _ => row.length - (intOf i).toNat)
  case atStart => exact ⟨rfl, 0, by omega, rfl, rfl, fun t ht => absurd ht (Nat.not_lt_zero t)⟩
  case round =>
    obtain ⟨rfl, t, ht, rfl, rfl, hg⟩ := hrel
    have HG := Lib.hid hg
    clear hg
    have hp := sqsP_pos row t
    have hq := sqsP_bd HG.out t (Nat.le_refl t)
    have HNX := Lib.hid (show sqsP row (t + 1) = sqsP row t + row.getD t 0 * row.getD t 0 from rfl)
    obtain ⟨y, hy⟩ : ∃ y, sqsP row t = y := ⟨_, rfl⟩
    rw [hy] at hp hq HNX ⊢
    have HY := Lib.hid hy
    clear hy
    by_cases htl : t < row.length
    · have hti : (t : Int) < (row.length : Int) := by omega
      obtain ⟨bi, oi, rfl, _, _, hc⟩ := HL.out.2 (by omega)
      have c2 := hc t htl
      clear hc
      obtain ⟨x, hxv⟩ : ∃ x, row.getD t 0 = x := ⟨_, rfl⟩
      rw [hxv] at c2 HNX
      have HXV := Lib.hid hxv
      clear hxv
      by_cases h1 : x < -8
      · have h1' : decide (x < -8) = true := by simpa using h1
        have hno : bm = false := by
          rw [← HBM.out]
          refine rowOkB_no fun h => ?_
          have := h.1 t htl
          rw [HXV.out] at this
          omega
        go_wp2_with fail
        go_ret
        exact ⟨by first | rfl | (rw [hno]; rfl), by simp⟩
      · have h1' : decide (x < -8) = false := by simpa using h1
        by_cases h2 : 8 < x
        · have h2' : decide (8 < x) = true := by simpa using h2
          have hno : bm = false := by
            rw [← HBM.out]
            refine rowOkB_no fun h => ?_
            have := h.1 t htl
            rw [HXV.out] at this
            omega
          go_wp2_with fail
          go_ret
          exact ⟨by first | rfl | (rw [hno]; rfl), by simp⟩
        · have h2' : decide (8 < x) = false := by simpa using h2
          have hx : -8 ≤ x ∧ x ≤ 8 := by omega
          have hsq := sq_bd hx
          have hsq0 := sq_pos x
          obtain ⟨z, hz⟩ : ∃ z, x * x = z := ⟨_, rfl⟩
          have hz1 : IntKind.i64.wrap (x * x) = z := by rw [hz]; exact IntWalk.i64_in _ (by omega)
          rw [hz] at hsq hsq0 HNX
          have HX := Lib.hid hx
          clear hz hx h1 h2
          go_wp2_with fail
          go_roundw
          case rel => exact ⟨by simp, t + 1, by omega, by go_num, by rw [HNX.out], fun u hu => by
            by_cases e : u = t
            · subst e; rw [HXV.out]; exact HX.out
            · exact HG.out u (by omega)⟩
          case measure => simp [intOf]; omega
    · obtain rfl : t = row.length := by omega
      have hv : bm = decide (y ≤ 64) := by
        rw [← HBM.out]
        by_cases h64 : y ≤ 64
        · rw [rowOkB_yes ⟨HG.out, by rw [HY.out]; exact h64⟩, decide_eq_true h64]
        · rw [rowOkB_no (fun h => h64 (by rw [← HY.out]; exact h.2)), decide_eq_false h64]
      go_wp2_with fail
      go_ret
      exact ⟨by first | rfl | (rw [hv]; rfl), by simp⟩

set_option maxHeartbeats 4000000 in
set_option maxRecDepth 100000 in
theorem implMat (m : List (List Int)) (A : Option Addr) (cap lo hi : Nat) (w : World) (hl : RowsIn w lo hi A m) (hn : m.length ≤ 1048576) (hr : ∀ k, k < m.length → (m.getD k []).length ≤ 1048576) :
    Calls Try.prog 17 #[.slice A m.length cap] w fun e w' => e = .returned (.bool (isMatB m)) ∧ w = w' := by
  obtain ⟨bm, hbm⟩ : ∃ bm, isMatB m = bm := ⟨_, rfl⟩
  rw [hbm]
  have HBM := Lib.hid hbm
  clear hbm
  by_cases h0 : m.length < 1
  · have hno : bm = false := by rw [← HBM.out]; exact isMatB_no fun h => by have := h.h0; omega
    have h0' : decide ((m.length : Int) < 1) = true := by simp; omega
    clear hl hr
    rw [hno]
    go_enter Try.func17, Try.ntmps17
    go_wp2_with fail
    go_ret
    exact ⟨rfl, rfl⟩
  · have h0' : decide ((m.length : Int) < 1) = false := by simp; omega
    by_cases h9 : m.length ≤ 9
    · have h9' : decide (9 < (m.length : Int)) = false := by simp; omega
      have HRR := Lib.hid hr
      obtain ⟨b, off, S, rfl, hbw, hc⟩ := rows_fn hl (by omega)
      have HC := Lib.hid hc
      clear hc hl hr
      have c0 := (HC.out 0 (by omega)).1
      rw [Nat.add_zero] at c0
      have hr0 := HRR.out 0 (by omega)
      obtain ⟨W, hW⟩ : ∃ W, (m.getD 0 []).length = W := ⟨_, rfl⟩
      rw [hW] at c0 hr0
      have HWD := Lib.hid (show widM m = W from hW)
      clear hW
      obtain ⟨⟨A0, cz⟩, hS0⟩ : ∃ s, S 0 = s := ⟨_, rfl⟩
      rw [hS0] at c0
      dsimp only at c0
      clear hS0
      have hmi : (0 : Int) < (m.length : Int) := by omega
      by_cases hw1 : W < 1
      · have hw1' : decide ((W : Int) < 1) = true := by simp; omega
        have hno : bm = false := by
          rw [← HBM.out]
          refine isMatB_no fun h => ?_
          have h1 := h.w1
          rw [HWD.out] at h1
          omega
        rw [hno]
        go_enter Try.func17, Try.ntmps17
        go_wp2_with fail
        go_ret
        exact ⟨rfl, rfl⟩
      · have hw1' : decide ((W : Int) < 1) = false := by simp; omega
        by_cases hw2 : 12 < W
        · have hw2' : decide (12 < (W : Int)) = true := by simp; omega
          have hno : bm = false := by
            rw [← HBM.out]
            refine isMatB_no fun h => ?_
            have h1 := h.w12
            rw [HWD.out] at h1
            omega
          rw [hno]
          go_enter Try.func17, Try.ntmps17
          go_wp2_with fail
          go_ret
          exact ⟨rfl, rfl⟩
        · have hw2' : decide (12 < (W : Int)) = false := by simp; omega
          go_enter Try.func17, Try.ntmps17
          go_wp2_with fail
          go_loopw [5, 26] (fun _ i wr => w = wr ∧ ∃ k : Nat, k ≤ m.length ∧ i = .int .i64 k ∧ ∀ u, u < k → (m.getD u []).length = W ∧ RngP (m.getD u []) W ∧ sqsP (m.getD u []) W ≤ 64) (fun _ i _ => m.length - (intOf i).toNat)
          case atStart => exact ⟨rfl, 0, by omega, rfl, fun t ht => absurd ht (Nat.not_lt_zero t)⟩
          case round =>
            obtain ⟨rfl, k, hk, rfl, hs⟩ := hrel
            have HS := Lib.hid hs
            clear hs
            by_cases hlt : k < m.length
            · have hki : (k : Int) < (m.length : Int) := by omega
              have c1 := (HC.out k hlt).1
              have HI := Lib.hid (HC.out k hlt).2
              have hrk := HRR.out k hlt
              obtain ⟨row, hrow⟩ : ∃ row, m.getD k [] = row := ⟨_, rfl⟩
              obtain ⟨⟨A', c'⟩, hSk⟩ : ∃ s, S k = s := ⟨_, rfl⟩
              rw [hrow] at c1 hrk HI
              rw [hSk] at c1 HI
              dsimp only at c1 HI
              have HROW := Lib.hid hrow
              clear hrow hSk
              by_cases hlw : row.length = W
              · have hne : ((row.length : Int) != (W : Int)) = false := by simp [hlw]
                have HRC := Lib.hid (matRow_c row A' c' lo hi w HI.out (by omega))
                have HLW := Lib.hid hlw
                clear hlw
                by_cases hok : RngP row row.length ∧ sqsP row row.length ≤ 64
                · have HOK := Lib.hid hok
                  rw [rowOkB_yes hok] at HRC
                  clear hok
                  go_wp2_with fail
                  refine HRC.out.mono ?_
                  rintro e w3 ⟨rfl, rfl⟩
                  go_wp2_with fail
                  go_roundw
                  case rel => exact ⟨by simp, k + 1, by omega, by go_num, fun u hu => by
                    by_cases e : u = k
                    · subst e; rw [HROW.out, ← HLW.out]; exact ⟨rfl, HOK.out⟩
                    · exact HS.out u (by omega)⟩
                  case measure => simp [intOf]; omega
                · have HOK := Lib.hid hok
                  rw [rowOkB_no hok] at HRC
                  clear hok
                  have hno : bm = false := by
                    rw [← HBM.out]
                    refine isMatB_no fun h => HOK.out ?_
                    have h1 := (h.row k hlt).2
                    have h2 := h.sq k hlt
                    rw [HROW.out, HWD.out, ← HLW.out] at h1 h2
                    exact ⟨h1, h2⟩
                  go_wp2_with fail
                  refine HRC.out.mono ?_
                  rintro e w3 ⟨rfl, rfl⟩
                  go_wp2_with fail
                  go_ret
                  exact ⟨by first | rfl | (rw [hno]; rfl), by simp⟩
              · have hne : ((row.length : Int) != (W : Int)) = true := by simp; omega
                have hno : bm = false := by
                  rw [← HBM.out]
                  refine isMatB_no fun h => hlw ?_
                  have := (h.row k hlt).1
                  rw [HROW.out, HWD.out] at this
                  exact this
                go_wp2_with fail
                go_ret
                exact ⟨by first | rfl | (rw [hno]; rfl), by simp⟩
            · obtain rfl : k = m.length := by omega
              have hyes : bm = true := by
                rw [← HBM.out]
                exact isMatB_yes ⟨by omega, h9, by rw [HWD.out]; omega, by rw [HWD.out]; omega, fun u hu => by rw [HWD.out]; exact ⟨(HS.out u hu).1, (HS.out u hu).2.1⟩, fun u hu => by rw [HWD.out]; exact (HS.out u hu).2.2⟩
              go_wp2_with fail
              go_ret
              exact ⟨by first | rfl | (rw [hyes]; rfl), by simp⟩
    · have h9' : decide (9 < (m.length : Int)) = true := by simp; omega
      have hno : bm = false := by rw [← HBM.out]; exact isMatB_no fun h => by have := h.h9; omega
      clear hl hr
      rw [hno]
      go_enter Try.func17, Try.ntmps17
      go_wp2_with fail
      go_ret
      exact ⟨rfl, rfl⟩
end Go.Proofs.Ytcfgljfpkhefmaa
