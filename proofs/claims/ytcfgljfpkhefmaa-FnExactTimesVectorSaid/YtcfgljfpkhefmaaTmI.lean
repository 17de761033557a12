/- What impl.TimesVector answers. No condition. -/
import Derived.Test.YtcfgljfpkhefmaaMxI
import Derived.Test.YtcfgljfpkhefmaaNewR
import Derived.Test.YtcfgljfpkhefmaaTmS
import Derived.StillTailTactics
namespace Go.Proofs.Ytcfgljfpkhefmaa
open Go.RowKit

theorem FlatAt.own {W : World} {g N lo hi : Nat} {f : Nat → Int} (h : FlatAt W g N f) (h1 : lo ≤ g) (h2 : g < hi) (h3 : hi ≤ W.heap.size) : OwnInts W lo hi (some ⟨g, 0, none⟩) N (rowF N f) := by
  refine ⟨h3, .inr ⟨g, rfl, h1, h2, ?_⟩⟩
  rw [rowF_len]
  obtain ⟨l1, l2⟩ := h
  refine ⟨l1, ?_⟩
  rcases l2 with l2 | ⟨g2, c2, cur, e1, e2, e3⟩
  · cases l2.1
  · cases e1
    exact .inr ⟨g, N, cur, rfl, h1, e3⟩
theorem FlatAt.store {W : World} {g N : Nat} {f : Nat → Int} (r : FlatAt W g N f) {t : Nat} (ht : t < N) (x : Int) :
    FlatAt (W.setCell ⟨g, t, none⟩ (.int .i64 x)) g N (fun s => if s = t then x else f s) ∧ Within g (g + 1) W (W.setCell ⟨g, t, none⟩ (.int .i64 x)) := by
  have hst := World.ownsRow.stored r t (.int .i64 x)
  refine ⟨?_, ⟨hst.2.os, hst.2.tape, hst.2.output, hst.2.size, fun i hi' hd' => hst.2.block i hi' (by simp; omega)⟩⟩
  have := hst.1
  rw [rowF_set ht] at this
  exact this

set_option maxHeartbeats 4000000 in
set_option maxRecDepth 100000 in
theorem implTm (m : List (List Int)) (v : List Int) (A : Option Addr) (cap lo hi : Nat) (w : World) (hl : RowsIn w lo hi A m) (hn : m.length ≤ 1048576) (hr : ∀ k, k < m.length → (m.getD k []).length ≤ 1048576)
    (Av : Option Addr) (cv lo2 hi2 : Nat) (hv : IntsIn w lo2 hi2 Av v) (hnv : v.length ≤ 1048576) :
    Calls Try.prog 29 #[.slice A m.length cap, .slice Av v.length cv] w fun e w' => ∃ A' c', e = .returned (.slice A' (tmV m v).length c') ∧ OwnInts w' w.heap.size w'.heap.size A' c' (tmV m v) ∧ Below w.heap.size w w' := by
  have HMAT := Lib.hid (implMat m A cap lo hi w hl hn hr)
  have HVI := Lib.hid hv
  clear hv
  by_cases hM : MatP m
  · rw [isMatB_yes hM] at HMAT
    obtain ⟨b, off, S, rfl, hbw, hc⟩ := rows_fn hl hM.h0
    have HC := Lib.hid hc
    have h0 := hM.h0
    have h9 := hM.h9
    have HROW := Lib.hid hM.row
    have hw0 := (hM.row 0 h0).1
    have h12 := hM.w12
    have h1 := hM.w1
    have HIB := Lib.hid (isMatB_yes hM)
    clear hl hr hM
    obtain ⟨n, hn'⟩ : ∃ n, widM m = n := ⟨_, rfl⟩
    rw [hn'] at hw0 h12 h1
    have HWID := Lib.hid hn'
    have c0 := (hc 0 h0).1
    rw [Nat.add_zero, hw0] at c0
    obtain ⟨⟨A0, cz⟩, hS0⟩ : ∃ s, S 0 = s := ⟨_, rfl⟩
    rw [hS0] at c0
    dsimp only at c0
    clear hn' hc hw0 hS0
    have hsl : (0 : Int) < (m.length : Int) := by omega
    by_cases hvn : v.length = n
    · have HTV := Lib.hid (show tmV m v = rowF m.length fun i => dotW64 (m.getD i []) v v.length by unfold tmV; rw [if_pos ⟨HIB.out, by rw [HWID.out]; exact hvn⟩]; rfl)
      obtain ⟨L, hL⟩ : ∃ L, v.length = L := ⟨_, rfl⟩
      rw [hL] at hvn HTV hnv ⊢
      subst hvn
      have HL63 := Lib.hid hL
      clear hL
      have hee : ((L : Int) != (L : Int)) = false := by simp
      obtain ⟨M, hM⟩ : ∃ M, m.length = M := ⟨_, rfl⟩
      rw [hM] at h0 h9 hsl HTV HMAT ⊢
      have HMM := Lib.hid hM
      clear hn hM
      go_enter Try.func29, Try.ntmps29
      go_wp2_with fail
      refine HMAT.out.mono ?_
      rintro e wz ⟨rfl, rfl⟩
      go_wp2_with (at_make; refine wpList_mkn _ rfl _ _ 28 rfl w.heap.size 3 (.int .i64 0) 8 Try.underlying28 infoInt rfl _ _ _ _ M rfl rfl rfl rfl (by omega) (by unfold maxLen; omega) (Nat.le_refl _) ?_; intro w0 hown0 hb0)
      obtain ⟨g, hg⟩ : ∃ g, w.heap.size = g := ⟨_, rfl⟩
      rw [hg] at hown0 hb0 ⊢
      rw [rowF_zero] at hown0
      have HF := Lib.hid (show FlatAt w0 g M (fun _ => 0) from hown0)
      have HB0 := Lib.hid hb0
      have HG := Lib.hid hg
      clear hown0 hb0 hg c0
      go_loopw [6, 7, 27] (fun _ _ i wr => ∃ (k : Nat) (f : Nat → Int), k ≤ M ∧ i = .int .i64 k ∧ FlatAt wr g M f ∧ Below w.heap.size w wr ∧ ∀ r, r < M → f r = if r < k then dotW64 (m.getD r []) v L else 0) (fun _ _ i _ => M - (intOf i).toNat)
      case atStart => exact ⟨0, _, by omega, rfl, HF.out, by rw [HG.out]; exact HB0.out, fun r _ => (if_neg (by omega)).symm⟩
      case round =>
        obtain ⟨k, f, hk, rfl, hf, hb, hvv⟩ := hrel
        have HF := Lib.hid hf
        have HB := Lib.hid hb
        have HV := Lib.hid hvv
        clear hf hb hvv
        by_cases hlt : k < M
        · have hki : (k : Int) < (M : Int) := by omega
          have hltm : k < m.length := by rw [HMM.out]; exact hlt
          have hrl := (HROW.out k hltm).1
          have c1 := rows_cell hbw HC.out HB.out hltm
          rw [hrl, HWID.out] at c1
          obtain ⟨⟨A', c'⟩, hSk⟩ : ∃ s, S k = s := ⟨_, rfl⟩
          rw [hSk] at c1
          dsimp only at c1
          have HSK := Lib.hid hSk
          have HRL := Lib.hid hrl
          clear hSk hrl
          obtain ⟨wq, hwq⟩ : ∃ x, x = wr := ⟨_, rfl⟩
          rw [← hwq] at HF HB c1 ⊢
          clear hwq
          go_wp2_with fail
          clear c1
          go_loopw [8, 9, 34] (fun _ _ j wr2 => ∃ (t : Nat) (f2 : Nat → Int), t ≤ L ∧ j = .int .i64 t ∧ FlatAt wr2 g M f2 ∧ Below w.heap.size w wr2 ∧ ∀ r, r < M → f2 r = if r < k then dotW64 (m.getD r []) v L else if r = k then dotW64 (m.getD k []) v t else 0) (fun _ _ j _ => L - (intOf j).toNat)
          case atStart => exact ⟨0, f, by omega, rfl, HF.out, HB.out, fun r h1 => by
            rw [HV.out r h1]
            by_cases e : r < k
            · rw [if_pos e, if_pos e]
            · rw [if_neg e, if_neg e]; split <;> rfl⟩
          case round =>
            obtain ⟨t, f2, ht, rfl, hf2, hb2, hv2⟩ := hrel
            have HF2 := Lib.hid hf2
            have HB2 := Lib.hid hb2
            have HV2 := Lib.hid hv2
            clear hf2 hb2 hv2
            by_cases htl : t < L
            · have hti : (t : Int) < (L : Int) := by omega
              obtain ⟨bi, oi, e1, c2⟩ := rows_num HC.out HB2.out hltm (show t < (m.getD k []).length by rw [HRL.out, HWID.out]; exact htl)
              rw [HSK.out] at e1
              dsimp only at e1
              subst e1
              have hvi := HVI.out.within (within_of HB2.out) (.inr (Nat.zero_le _))
              obtain ⟨bv, ov, rfl, _, _, hcv⟩ := hvi.2 (by rw [HL63.out]; omega)
              have c3 := hcv t (by rw [HL63.out]; exact htl)
              have HNX := Lib.hid (show dotW64 (m.getD k []) v (t + 1) = IntKind.i64.wrap (dotW64 (m.getD k []) v t + IntKind.i64.wrap (atM m k t * v.getD t 0)) from rfl)
              have hfk := HV2.out k hlt
              rw [if_neg (by omega), if_pos rfl] at hfk
              have hd := HF2.out.cell hlt
              rw [hfk] at hd
              have hfz := World.ownsRow.frozenAt HF2.out k
              obtain ⟨x, hx⟩ : ∃ x, atM m k t = x := ⟨_, rfl⟩
              obtain ⟨y, hy⟩ : ∃ y, v.getD t 0 = y := ⟨_, rfl⟩
              obtain ⟨d, hdd⟩ : ∃ d, dotW64 (m.getD k []) v t = d := ⟨_, rfl⟩
              rw [hx] at c2 HNX
              rw [hy] at c3 HNX
              rw [hdd] at HNX hd
              obtain ⟨p, hp⟩ : ∃ p, IntKind.i64.wrap (x * y) = p := ⟨_, rfl⟩
              obtain ⟨s, hs⟩ : ∃ s, IntKind.i64.wrap (d + p) = s := ⟨_, rfl⟩
              rw [hp, hs] at HNX
              have hst := FlatAt.store (W := wr.drew) HF2.out hlt s
              have HF3 := Lib.hid hst.1
              have HB3 := Lib.hid (within_on HB2.out.drew hst.2 HB2.out.size (.inl (by rw [HG.out]; exact Nat.le_refl _)))
              clear hx hy hdd hcv hvi hst hfk
              go_wp2_with fail
              go_still_tail 12, (by kernel_rfl)
              change wpList _ _ _ _ _ wr.drew
              have hd2 : wr.drew.cell? ⟨g, k, none⟩ = some (.int .i64 d) := hd
              have hfz2 := World.ownsRow.frozenAt (w := wr.drew) HF2.out k
              go_wp2_with fail
              go_roundw
              case rel => exact ⟨t + 1, _, by omega, by go_num, HF3.out, HB3.out, fun r h1 => by
                by_cases e : r = k
                · subst e; rw [if_pos rfl, if_neg (by omega), if_pos rfl, HNX.out]
                · rw [if_neg e, HV2.out r h1, if_neg e, if_neg e]⟩
              case measure => simp [intOf]; omega
            · obtain rfl : t = L := by omega
              go_wp2_with fail
              go_roundw
              case rel => exact ⟨k + 1, f2, by omega, by go_num, HF2.out, HB2.out, fun r h1 => by
                rw [HV2.out r h1]
                by_cases e : r < k
                · rw [if_pos e, if_pos (by omega)]
                · rw [if_neg e]
                  by_cases e2 : r = k
                  · subst e2; rw [if_pos rfl, if_pos (by omega)]
                  · rw [if_neg e2, if_neg (by omega)]⟩
              case measure => simp [intOf]; omega
        · obtain rfl : k = M := by omega
          go_wp2_with fail
          go_ret
          have heq : tmV m v = rowF k f := by
            rw [HTV.out]
            exact rowF_congr fun r hr => by rw [HV.out r hr, if_pos hr]
          refine ⟨some ⟨g, 0, none⟩, k, ?_, ?_, HB.out⟩
          · rw [heq, rowF_len]; rfl
          · rw [heq, HG.out]
            exact HF.out.own (Nat.le_refl _) HF.out.lt (Nat.le_refl _)
    · have HTV := Lib.hid (show tmV m v = [] by unfold tmV; rw [if_neg (fun h => hvn (by rw [← HWID.out]; exact h.2))])
      have hee : ((v.length : Int) != (n : Int)) = true := by simp; omega
      clear hvn
      go_enter Try.func29, Try.ntmps29
      go_wp2_with fail
      refine HMAT.out.mono ?_
      rintro e wz ⟨rfl, rfl⟩
      go_wp2_with fail
      go_ret
      exact ⟨none, 0, by rw [HTV.out]; rfl, by rw [HTV.out]; exact ⟨Nat.le_refl _, .inl rfl⟩, Below.refl _ _⟩
  · rw [isMatB_no hM] at HMAT
    have HTV := Lib.hid (show tmV m v = [] by unfold tmV; rw [if_neg (fun h => hM (isMatB_iff.1 h.1))])
    clear hl hr hM
    go_enter Try.func29, Try.ntmps29
    go_wp2_with fail
    refine HMAT.out.mono ?_
    rintro e wz ⟨rfl, rfl⟩
    go_wp2_with fail
    go_ret
    exact ⟨none, 0, by rw [HTV.out]; rfl, by rw [HTV.out]; exact ⟨Nat.le_refl _, .inl rfl⟩, Below.refl _ _⟩
end Go.Proofs.Ytcfgljfpkhefmaa
