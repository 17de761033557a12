/- The specification's test of a matrix (spec.IsMatrix, l9Small). No condition. -/
import Derived.Test.YtcfgljfpkhefmaaMxM
import Derived.Test.YtcfgljfpkhefmaaIn
import Derived.Test.YtcfgljfpkhefmaaRowS
import Derived.Deep.QuietTactic
import Derived.BigQuiet
namespace Go.Proofs.Ytcfgljfpkhefmaa
open Go.RowKit

theorem rows_fn {W : World} {lo hi : Nat} {A : Option Addr} {rs : List (List Int)} (h : RowsIn W lo hi A rs) (h0 : 0 < rs.length) : ∃ (b off : Nat) (S : Nat → Option Addr × Nat), A = some ⟨b, off, none⟩ ∧ b < W.heap.size ∧
    ∀ i, i < rs.length → W.cell? ⟨b, off + i, none⟩ = some (.slice (S i).1 (rs.getD i []).length (S i).2) ∧ IntsIn W lo hi (S i).1 (rs.getD i []) := by
  obtain ⟨b, off, e, h1, h2, hc⟩ := h.2 h0
  have key : ∀ i, ∃ s : Option Addr × Nat, i < rs.length → W.cell? ⟨b, off + i, none⟩ = some (.slice s.1 (rs.getD i []).length s.2) ∧ IntsIn W lo hi s.1 (rs.getD i []) := fun i => by
    by_cases hi : i < rs.length
    · obtain ⟨A', c', q⟩ := hc i hi
      exact ⟨(A', c'), fun _ => q⟩
    · exact ⟨(none, 0), fun hh => absurd hh hi⟩
  obtain ⟨S, hS⟩ := Classical.axiomOfChoice key
  exact ⟨b, off, S, e, Nat.lt_of_lt_of_le h2 h.1, hS⟩
/-- A row's cell, and one of its numbers, behind a call. -/
theorem rows_cell {W W' : World} {lo hi b off : Nat} {S : Nat → Option Addr × Nat} {rs : List (List Int)} (hb : b < W.heap.size)
    (hc : ∀ i, i < rs.length → W.cell? ⟨b, off + i, none⟩ = some (.slice (S i).1 (rs.getD i []).length (S i).2) ∧ IntsIn W lo hi (S i).1 (rs.getD i [])) (hB : Below W.heap.size W W') {i : Nat} (hi : i < rs.length) :
    W'.cell? ⟨b, off + i, none⟩ = some (.slice (S i).1 (rs.getD i []).length (S i).2) := (hB.cell (p := ⟨b, off + i, none⟩) hb).trans (hc i hi).1
theorem rows_num {W W' : World} {lo hi b off : Nat} {S : Nat → Option Addr × Nat} {rs : List (List Int)}
    (hc : ∀ i, i < rs.length → W.cell? ⟨b, off + i, none⟩ = some (.slice (S i).1 (rs.getD i []).length (S i).2) ∧ IntsIn W lo hi (S i).1 (rs.getD i [])) (hB : Below W.heap.size W W') {i j : Nat} (hi : i < rs.length) (hj : j < (rs.getD i []).length) :
    ∃ bi oi, (S i).1 = some ⟨bi, oi, none⟩ ∧ W'.cell? ⟨bi, oi + j, none⟩ = some (.int .i64 (atM rs i j)) := by
  have hI := (hc i hi).2
  obtain ⟨bi, oi, e, h1, h2, hq⟩ := hI.2 (by omega)
  exact ⟨bi, oi, e, (hB.cell (p := ⟨bi, oi + j, none⟩) (Nat.lt_of_lt_of_le h2 hI.1)).trans (hq j hj)⟩

noncomputable def sqOkB (m : List (List Int)) : Bool := decide (∀ i, i < m.length → sqsP (m.getD i []) (widM m) ≤ 64)
set_option maxHeartbeats 2000000 in
set_option maxRecDepth 100000 in
theorem specSmall (m : List (List Int)) (A : Option Addr) (cap lo hi : Nat) (w : World) (hl : RowsIn w lo hi A m) (h0 : 0 < m.length) (h9 : m.length ≤ 9) (h12 : widM m ≤ 12) (hr : RowsP1 m m.length) :
    Calls Try.prog 97 #[.slice A m.length cap] w fun e w' => e = .returned (.bool (sqOkB m)) ∧ Below w.heap.size w w' := by
  obtain ⟨b, off, S, rfl, hbw, hc⟩ := rows_fn hl h0
  have HC := Lib.hid hc
  have HR := Lib.hid hr
  clear hc hl hr
  go_enter Try.func97, Try.ntmps97
  go_wp2_with fail
  go_loopw [3, 4, 5] (fun i _ _ wr => ∃ k : Nat, k ≤ m.length ∧ i = .int .i64 k ∧ (∀ t, t < k → sqsP (m.getD t []) (widM m) ≤ 64) ∧ Below w.heap.size w wr) (fun i _ _ _ => m.length - (intOf i).toNat)
  case atStart => exact ⟨0, by omega, rfl, fun t ht => absurd ht (Nat.not_lt_zero t), Below.refl _ _⟩
  case round =>
    obtain ⟨k, hk, rfl, hs, hb⟩ := hrel
    have HS := Lib.hid hs
    have HB := Lib.hid hb
    clear hs hb
    by_cases hlt : k < m.length
    · have hki : (k : Int) < (m.length : Int) := by omega
      have hw := (HR.out k hlt).1
      have HRG := Lib.hid (HR.out k hlt).2
      obtain ⟨row, hrow⟩ : ∃ row, m.getD k [] = row := ⟨_, rfl⟩
      obtain ⟨⟨A', c'⟩, hSk⟩ : ∃ s, S k = s := ⟨_, rfl⟩
      rw [hrow] at hw HRG
      have hlen12 : row.length ≤ 12 := by omega
      have HW := Lib.hid hw
      have HROW := Lib.hid hrow
      have HSK := Lib.hid hSk
      clear hw hrow hSk
      obtain ⟨wq, hwq⟩ : ∃ x, x = wr := ⟨_, rfl⟩
      rw [← hwq] at HB ⊢
      clear hwq
      go_wp2_with fail
      go_loopw [4, 5] (fun n j wr2 => ∃ t : Nat, t ≤ row.length ∧ j = .int .i64 t ∧ n = .int .i64 (sqsP row t) ∧ Below w.heap.size w wr2) (fun _ j _ => row.length - (intOf j).toNat)
      case atStart => exact ⟨0, by omega, rfl, rfl, HB.out⟩
      case round =>
        obtain ⟨t, ht, rfl, rfl, hb2⟩ := hrel
        have HB2 := Lib.hid hb2
        clear hb2
        have c1 := rows_cell hbw HC.out HB2.out hlt
        rw [HROW.out, HSK.out] at c1
        dsimp only at c1
        by_cases htl : t < row.length
        · have hti : (t : Int) < (row.length : Int) := by omega
          obtain ⟨bi, oi, e1, c2⟩ := rows_num HC.out HB2.out hlt (show t < (m.getD k []).length by rw [HROW.out]; exact htl)
          rw [HSK.out] at e1
          dsimp only at e1
          subst e1
          have hrg := HRG.out t (by rw [← HW.out]; exact htl)
          have hv : atM m k t = row.getD t 0 := by unfold atM; rw [HROW.out]
          rw [hv] at c2
          have hsq := sq_bd hrg
          have hp := sqsP_pos row t
          have hq := sqsP_bd HRG.out t (by rw [← HW.out]; exact ht)
          have hsq0 := sq_pos (row.getD t 0)
          have hnx : sqsP row (t + 1) = sqsP row t + row.getD t 0 * row.getD t 0 := rfl
          have HNX := Lib.hid hnx
          clear hnx hv
          obtain ⟨x, hx⟩ : ∃ x, row.getD t 0 = x := ⟨_, rfl⟩
          obtain ⟨y, hy⟩ : ∃ y, sqsP row t = y := ⟨_, rfl⟩
          rw [hx] at hrg c2 hsq hsq0 HNX
          rw [hy] at hp hq HNX ⊢
          clear hx hy
          obtain ⟨z, hz⟩ : ∃ z, x * x = z := ⟨_, rfl⟩
          have hz1 : IntKind.i64.wrap (x * x) = z := by rw [hz]; exact IntWalk.i64_in _ (by omega)
          rw [hz] at hsq hsq0 HNX
          have HZ := Lib.hid hz
          clear hz
          go_wp2_with fail
          go_quiet (fail)
          go_wp2_with fail
          go_roundw
          case rel => exact ⟨t + 1, by omega, by go_num, by rw [HNX.out], HB2.out.trans (below_drewN _ _ _)⟩
          case measure => simp [intOf]; omega
        · obtain rfl : t = row.length := by omega
          have hq := sqsP_bd HRG.out row.length (by rw [← HW.out]; exact Nat.le_refl _)
          have hp := sqsP_pos row row.length
          by_cases h64 : sqsP row row.length ≤ 64
          · have h64' : decide (64 < sqsP row row.length) = false := by simpa using h64
            go_wp2_with fail
            go_roundw
            case rel => exact ⟨k + 1, by omega, by go_num, fun t ht => by
              by_cases e : t = k
              · subst e; rw [HROW.out, ← HW.out]; exact h64
              · exact HS.out t (by omega), HB2.out⟩
            case measure => simp [intOf]; omega
          · have h64' : decide (64 < sqsP row row.length) = true := by simp; omega
            have hno : sqOkB m = false := by
              unfold sqOkB
              apply decide_eq_false
              intro h
              have := h k hlt
              rw [HROW.out, ← HW.out] at this
              exact h64 this
            go_wp2_with fail
            go_ret
            exact ⟨rfl, HB2.out⟩
    · obtain rfl : k = m.length := by omega
      have hyes : sqOkB m = true := by unfold sqOkB; exact decide_eq_true HS.out
      go_wp2_with fail
      go_ret
      exact ⟨by rw [hyes]; rfl, HB.out⟩

set_option maxHeartbeats 4000000 in
set_option maxRecDepth 100000 in
theorem specMat (m : List (List Int)) (A : Option Addr) (cap lo hi : Nat) (w : World) (hl : RowsIn w lo hi A m) (hn : m.length ≤ 1048576) (hr : ∀ k, k < m.length → (m.getD k []).length ≤ 1048576) :
    Calls Try.prog 15 #[.slice A m.length cap] w fun e w' => e = .returned (.bool (isMatB m)) ∧ Below w.heap.size w w' := by
  by_cases h0 : m.length = 0
  · have hno : isMatB m = false := isMatB_no fun h => by have := h.h0; omega
    rw [hno, h0]
    go_enter Try.func15, Try.ntmps15
    go_wp2_with fail
    refine wp_loop_rounds 1 ?_
    rw [rounds_succ]
    go_wp2_with fail
    go_ret
    exact ⟨rfl, Below.refl _ _⟩
  · have HL := Lib.hid hl
    have HRR := Lib.hid hr
    obtain ⟨b, off, S, rfl, hbw, hc⟩ := rows_fn hl (by omega)
    have HC := Lib.hid hc
    clear hc hl hr
    obtain ⟨bm, hbm⟩ : ∃ bm, isMatB m = bm := ⟨_, rfl⟩
    rw [hbm]
    have HBM := Lib.hid hbm
    clear hbm
    go_enter Try.func15, Try.ntmps15
    go_wp2_with fail
    go_loopw [3, 4] (fun i _ wr => ∃ k : Nat, k ≤ m.length ∧ i = .int .i64 k ∧ RowsP1 m k ∧ Below w.heap.size w wr) (fun i _ _ => m.length - (intOf i).toNat)
    case atStart => exact ⟨0, by omega, rfl, fun t ht => absurd ht (Nat.not_lt_zero t), Below.refl _ _⟩
    case round =>
      obtain ⟨k, hk, rfl, hs, hb⟩ := hrel
      have HS := Lib.hid hs
      have HB := Lib.hid hb
      clear hs hb
      have c0 := rows_cell hbw HC.out HB.out (i := 0) (by omega)
      rw [Nat.add_zero] at c0
      have hr0 := HRR.out 0 (by omega)
      obtain ⟨W, hW⟩ : ∃ W, (m.getD 0 []).length = W := ⟨_, rfl⟩
      rw [hW] at c0 hr0
      have HWD := Lib.hid (show widM m = W from hW)
      clear hW
      obtain ⟨⟨A0, cz⟩, hS0⟩ : ∃ s, S 0 = s := ⟨_, rfl⟩
      rw [hS0] at c0
      dsimp only at c0
      clear hS0
      by_cases hlt : k < m.length
      · have hki : (k : Int) < (m.length : Int) := by omega
        have c1 := rows_cell hbw HC.out HB.out hlt
        have hrk := HRR.out k hlt
        obtain ⟨row, hrow⟩ : ∃ row, m.getD k [] = row := ⟨_, rfl⟩
        obtain ⟨⟨A', c'⟩, hSk⟩ : ∃ s, S k = s := ⟨_, rfl⟩
        rw [hrow] at c1 hrk
        rw [hSk] at c1
        dsimp only at c1
        have HROW := Lib.hid hrow
        have HSK := Lib.hid hSk
        clear hrow hSk
        by_cases hlw : row.length = W
        · have hne : ((row.length : Int) != (W : Int)) = false := by simp [hlw]
          have HLW := Lib.hid hlw
          clear hlw
          obtain ⟨wq, hwq⟩ : ∃ x, x = wr := ⟨_, rfl⟩
          rw [← hwq] at HB c0 c1 ⊢
          clear hwq
          go_wp2_with fail
          go_quiet (fail)
          clear c0 c1
          have HBQ := Lib.hid (HB.out.trans (below_drewN _ wq nq))
          go_wp2_with fail
          go_loopw [4] (fun j wr2 => ∃ t : Nat, t ≤ row.length ∧ j = .int .i64 t ∧ RngP row t ∧ Below w.heap.size w wr2) (fun j _ => row.length - (intOf j).toNat)
          case atStart => exact ⟨0, by omega, rfl, fun t ht => absurd ht (Nat.not_lt_zero t), HBQ.out⟩
          case round =>
            obtain ⟨t, ht, rfl, hg, hb2⟩ := hrel
            have HB2 := Lib.hid hb2
            have HG := Lib.hid hg
            clear hb2 hg
            have c1 := rows_cell hbw HC.out HB2.out hlt
            rw [HROW.out, HSK.out] at c1
            dsimp only at c1
            by_cases htl : t < row.length
            · have hti : (t : Int) < (row.length : Int) := by omega
              obtain ⟨bi, oi, e1, c2⟩ := rows_num HC.out HB2.out hlt (show t < (m.getD k []).length by rw [HROW.out]; exact htl)
              rw [HSK.out] at e1
              dsimp only at e1
              subst e1
              have hv : atM m k t = row.getD t 0 := by unfold atM; rw [HROW.out]
              rw [hv] at c2
              clear hv
              obtain ⟨x, hxv⟩ : ∃ x, row.getD t 0 = x := ⟨_, rfl⟩
              rw [hxv] at c2
              have HXV := Lib.hid hxv
              clear hxv
              by_cases hx : -8 ≤ x ∧ x ≤ 8
              · have HX := Lib.hid hx
                clear hx
                go_wp2_with fail
                refine (l1In_yes x (-8) 8 _ HX.out.1 HX.out.2).mono ?_
                rintro e w3 ⟨rfl, rfl⟩
                go_wp2_with fail
                go_roundw
                case rel => exact ⟨t + 1, by omega, by go_num, fun u hu => by
                  by_cases e : u = t
                  · subst e; rw [HXV.out]; exact HX.out
                  · exact HG.out u (by omega), HB2.out⟩
                case measure => simp [intOf]; omega
              · have HX := Lib.hid hx
                clear hx
                have hno : bm = false := by
                  rw [← HBM.out]
                  refine isMatB_no fun h => HX.out ?_
                  have := (h.row k hlt).2 t (by rw [HWD.out, ← HLW.out]; exact htl)
                  rw [HROW.out, HXV.out] at this
                  exact this
                go_wp2_with fail
                refine (l1In_no x (-8) 8 _ (by have := HX.out; omega)).mono ?_
                rintro e w3 ⟨rfl, rfl⟩
                go_wp2_with fail
                go_ret
                exact ⟨by rw [hno]; rfl, HB2.out⟩
            · obtain rfl : t = row.length := by omega
              go_wp2_with fail
              go_roundw
              case rel => exact ⟨k + 1, by omega, by go_num, fun u hu => by
                by_cases e : u = k
                · subst e; rw [HROW.out, HWD.out, ← HLW.out]; exact ⟨rfl, HG.out⟩
                · exact HS.out u (by omega), HB2.out⟩
              case measure => simp [intOf]; omega
        · have hne : ((row.length : Int) != (W : Int)) = true := by simp; omega
          have hno : bm = false := by
            rw [← HBM.out]
            refine isMatB_no fun h => hlw ?_
            have := (h.row k hlt).1
            rw [HROW.out, HWD.out] at this
            exact this
          go_wp2_with fail
          go_quiet (fail)
          go_wp2_with fail
          go_ret
          exact ⟨by rw [hno]; rfl, HB.out.trans (below_drewN _ _ _)⟩
      · obtain rfl : k = m.length := by omega
        have h0' : decide ((0 : Int) < (m.length : Int)) = true := by simp; omega
        have h0i : (0 : Int) < (m.length : Int) := by omega
        by_cases h9 : m.length ≤ 9
        · have h9' : decide ((m.length : Int) ≤ 9) = true := by simp; omega
          by_cases h12 : 1 ≤ W ∧ W ≤ 12
          · have hv : bm = sqOkB m := by
              rw [← HBM.out]
              by_cases hq : ∀ i, i < m.length → sqsP (m.getD i []) (widM m) ≤ 64
              · rw [isMatB_yes ⟨by omega, h9, by rw [HWD.out]; exact h12.1, by rw [HWD.out]; exact h12.2, HS.out, hq⟩]
                unfold sqOkB
                exact (decide_eq_true hq).symm
              · rw [isMatB_no fun h => hq h.sq]
                unfold sqOkB
                exact (decide_eq_false hq).symm
            have HSM := Lib.hid (fun (W' : World) (h : RowsIn W' lo hi (some ⟨b, off, none⟩) m) => specSmall m (some ⟨b, off, none⟩) cap lo hi W' h (by omega) h9 (by rw [HWD.out]; exact h12.2) HS.out)
            rw [← hv] at HSM
            clear hv
            go_wp2_with fail
            refine (l1In_yes (W : Int) 1 12 _ (by omega) (by omega)).mono ?_
            rintro e w3 ⟨rfl, rfl⟩
            go_wp2_with fail
            refine (HSM.out _ (HL.out.within (within_of HB.out) (.inr (Nat.zero_le _)))).mono ?_
            rintro e w3 ⟨rfl, hb3⟩
            have HB3 := Lib.hid (below_on HB.out hb3 HB.out.size)
            clear hb3
            go_wp2_with fail
            go_ret
            exact ⟨rfl, HB3.out⟩
          · have hno : bm = false := by
              rw [← HBM.out]
              refine isMatB_no fun h => h12 ?_
              have h1 := h.w1
              have h2 := h.w12
              rw [HWD.out] at h1 h2
              exact ⟨h1, h2⟩
            have H12 := Lib.hid h12
            clear h12
            go_wp2_with fail
            refine (l1In_no (W : Int) 1 12 _ (by have := H12.out; omega)).mono ?_
            rintro e w3 ⟨rfl, rfl⟩
            go_wp2_with fail
            go_ret
            exact ⟨by rw [hno]; rfl, HB.out⟩
        · have h9' : decide ((m.length : Int) ≤ 9) = false := by simp; omega
          have hno : bm = false := by
            rw [← HBM.out]
            exact isMatB_no fun h => h9 h.h9
          go_wp2_with fail
          go_ret
          exact ⟨by rw [hno]; rfl, HB.out⟩
end Go.Proofs.Ytcfgljfpkhefmaa
