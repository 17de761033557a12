/- What impl.TransposeMatrix answers. No condition. -/
import Derived.Test.YtcfgljfpkhefmaaMxI
import Derived.Test.YtcfgljfpkhefmaaNewR
import Derived.Test.YtcfgljfpkhefmaaRowsX
import Derived.Test.YtcfgljfpkhefmaaTrS
namespace Go.Proofs.Ytcfgljfpkhefmaa
open Go.RowKit

set_option maxHeartbeats 4000000 in
set_option maxRecDepth 100000 in
theorem implTr (m : List (List Int)) (A : Option Addr) (cap lo hi : Nat) (w : World) (hl : RowsIn w lo hi A m) (hn : m.length ≤ 1048576) (hr : ∀ k, k < m.length → (m.getD k []).length ≤ 1048576) :
    Calls Try.prog 26 #[.slice A m.length cap] w fun e w' => ∃ A' c', e = .returned (.slice A' (trV m).length c') ∧ RowsX w' w.heap.size w'.heap.size A' (trV m) ∧ Below w.heap.size w w' := by
  have HMAT := Lib.hid (implMat m A cap lo hi w hl hn hr)
  by_cases hM : MatP m
  · rw [isMatB_yes hM] at HMAT
    have HTV := Lib.hid (show trV m = trL m by unfold trV; rw [if_pos (isMatB_yes hM)])
    obtain ⟨b, off, S, rfl, hbw, hc⟩ := rows_fn hl hM.h0
    have HC := Lib.hid hc
    have h0 := hM.h0
    have h9 := hM.h9
    have HROW := Lib.hid hM.row
    have hw0 := (hM.row 0 h0).1
    have h12 := hM.w12
    have h1 := hM.w1
    clear hl hr hM
    obtain ⟨n, hn'⟩ : ∃ n, widM m = n := ⟨_, rfl⟩
    rw [hn'] at hw0 h12 h1
    have HWID := Lib.hid hn'
    have c0 := (hc 0 h0).1
    rw [Nat.add_zero, hw0] at c0
    clear hn' hc hw0
    have hsl : (0 : Int) < (m.length : Int) := by omega
    go_enter Try.func26, Try.ntmps26
    go_wp2_with fail
    refine HMAT.out.mono ?_
    rintro e wz ⟨rfl, rfl⟩
    go_wp2_with fail
    refine (newRows_c n m.length w (by omega) (by omega) h0).mono ?_
    rintro e w1 ⟨gh, g, rfl, hf, hb⟩
    have HF := Lib.hid hf
    have HB1 := Lib.hid hb
    clear hf hb c0
    go_wp2_with fail
    obtain ⟨hi1, hhi⟩ : ∃ x, w1.heap.size = x := ⟨_, rfl⟩
    rw [hhi] at HF
    clear hhi
    go_loopw [4, 5, 20] (fun _ _ i wr => ∃ (k : Nat) (f : Nat → Int), k ≤ m.length ∧ i = .int .i64 k ∧ RowsF wr w.heap.size hi1 gh g n m.length id f ∧ Below w.heap.size w wr ∧ ∀ c r, c < n → r < m.length → f (c * m.length + r) = if r < k then atM m r c else 0) (fun _ _ i _ => m.length - (intOf i).toNat)
    case atStart => exact ⟨0, _, by omega, rfl, HF.out, HB1.out, fun c r _ _ => (if_neg (by omega)).symm⟩
    case round =>
      obtain ⟨k, f, hk, rfl, hf, hb, hv⟩ := hrel
      have HF := Lib.hid hf
      have HB := Lib.hid hb
      have HV := Lib.hid hv
      clear hf hb hv
      by_cases hlt : k < m.length
      · have hki : (k : Int) < (m.length : Int) := by omega
        have hrl := (HROW.out k hlt).1
        have c1 := rows_cell hbw HC.out HB.out hlt
        rw [hrl, HWID.out] at c1
        obtain ⟨⟨A', c'⟩, hSk⟩ : ∃ s, S k = s := ⟨_, rfl⟩
        rw [hSk] at c1
        dsimp only at c1
        have HSK := Lib.hid hSk
        clear hSk hrl
        obtain ⟨wq, hwq⟩ : ∃ x, x = wr := ⟨_, rfl⟩
        rw [← hwq] at HF HB c1 ⊢
        clear hwq
        go_wp2_with fail
        clear c1
        go_loopw [6, 7, 27] (fun _ _ j wr2 => ∃ (t : Nat) (f2 : Nat → Int), t ≤ n ∧ j = .int .i64 t ∧ RowsF wr2 w.heap.size hi1 gh g n m.length id f2 ∧ Below w.heap.size w wr2 ∧ ∀ c r, c < n → r < m.length → f2 (c * m.length + r) = if r < k ∨ (r = k ∧ c < t) then atM m r c else 0) (fun _ _ j _ => n - (intOf j).toNat)
        case atStart => exact ⟨0, f, by omega, rfl, HF.out, HB.out, fun c r h1 h2 => by
          rw [HV.out c r h1 h2]
          by_cases e : r < k
          · rw [if_pos e, if_pos (.inl e)]
          · rw [if_neg e, if_neg (by omega)]⟩
        case round =>
          obtain ⟨t, f2, ht, rfl, hf2, hb2, hv2⟩ := hrel
          have HF2 := Lib.hid hf2
          have HB2 := Lib.hid hb2
          have HV2 := Lib.hid hv2
          clear hf2 hb2 hv2
          by_cases htn : t < n
          · have hti : (t : Int) < (n : Int) := by omega
            obtain ⟨bi, oi, e1, c2⟩ := rows_num HC.out HB2.out hlt (show t < (m.getD k []).length by rw [(HROW.out k hlt).1, HWID.out]; exact htn)
            rw [HSK.out] at e1
            dsimp only at e1
            subst e1
            obtain ⟨x, hx⟩ : ∃ x, atM m k t = x := ⟨_, rfl⟩
            rw [hx] at c2
            have HX := Lib.hid hx
            clear hx
            have c3 : wr.cell? ⟨gh, t, none⟩ = some (.slice (some ⟨g, t * m.length, none⟩) m.length m.length) := HF2.out.head htn
            have hidx : t * m.length + k < n * m.length := at_row htn hlt
            have hd := HF2.out.num.cell hidx
            have hfz := World.ownsRow.frozenAt HF2.out.num (t * m.length + k)
            have hst := HF2.out.store hidx x
            have HF3 := Lib.hid hst.1
            have HB3 := Lib.hid (within_on HB2.out hst.2 HB2.out.size (.inl HF2.out.nm.1))
            clear hst
            obtain ⟨K, hK⟩ : ∃ K, t * m.length = K := ⟨_, rfl⟩
            rw [hK] at c3 hd hfz HF3 HB3
            have HK := Lib.hid hK
            clear hK hidx
            go_wp2_with fail
            go_roundw
            case rel => exact ⟨t + 1, _, by omega, by go_num, HF3.out, HB3.out, fun c r h1 h2 => by
              by_cases e : c * m.length + r = K + k
              · rw [← HK.out] at e
                obtain ⟨rfl, rfl⟩ := at_inj h2 hlt e
                rw [if_pos (by rw [HK.out]), if_pos (by omega), HX.out]
              · rw [if_neg e, HV2.out c r h1 h2]
                have hne : ¬ (c = t ∧ r = k) := fun ⟨e1, e2⟩ => e (by rw [e1, e2, HK.out])
                by_cases e2 : r < k ∨ (r = k ∧ c < t)
                · rw [if_pos e2, if_pos (by omega)]
                · rw [if_neg e2, if_neg (by omega)]⟩
            case measure => simp [intOf]; omega
          · obtain rfl : t = n := by omega
            go_wp2_with fail
            go_roundw
            case rel => exact ⟨k + 1, f2, by omega, by go_num, HF2.out, HB2.out, fun c r h1 h2 => by
              rw [HV2.out c r h1 h2]
              by_cases e : r < k ∨ (r = k ∧ c < t)
              · rw [if_pos e, if_pos (by omega)]
              · rw [if_neg e, if_neg (by omega)]⟩
            case measure => simp [intOf]; omega
      · obtain rfl : k = m.length := by omega
        go_wp2_with fail
        go_ret
        have heq : trV m = rowsV n m.length id f := by
          rw [HTV.out]
          unfold trL rowsV
          rw [HWID.out]
          apply List.map_congr_left
          intro c hc
          apply rowF_congr
          intro r hr
          show _ = f (c * m.length + r)
          rw [HV.out c r (List.mem_range.1 hc) hr, if_pos hr]
        refine ⟨some ⟨gh, 0, none⟩, n, ?_, ?_, HB.out⟩
        · rw [heq, rowsV_len]; rfl
        · exact .inr ⟨gh, g, n, m.length, f, rfl, heq, by omega, by omega, HF.out.widen (Nat.le_refl _) HF.out.top (Nat.le_refl _)⟩
  · rw [isMatB_no hM] at HMAT
    have HTV := Lib.hid (show trV m = [] by unfold trV; rw [isMatB_no hM]; rfl)
    clear hl hr hM
    go_enter Try.func26, Try.ntmps26
    go_wp2_with fail
    refine HMAT.out.mono ?_
    rintro e wz ⟨rfl, rfl⟩
    go_wp2_with fail
    go_ret
    exact ⟨none, 0, by rw [HTV.out]; rfl, by rw [HTV.out]; exact .inl ⟨Nat.le_refl _, fun h => absurd h (by simp)⟩, Below.refl _ _⟩
end Go.Proofs.Ytcfgljfpkhefmaa
