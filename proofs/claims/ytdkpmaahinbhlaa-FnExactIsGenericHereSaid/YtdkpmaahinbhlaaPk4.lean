/- Several texts in one, in the order in which they build on each other: what stands on the way to the laws; each names its own matter. No condition. -/
import Derived.Test.YtdkpmaahinbhlaaPk3
import Derived.Deep.RegionHeld3
import Derived.OrdersHeld
import Derived.Deep.QuietTactic
import Derived.BigQuiet
/- What impl.RankOfMatrix answers. No condition. -/
namespace Go.Proofs.Ytdkpmaahinbhlaa
open Go.RowKit

set_option maxRecDepth 100000 in
theorem field_pv (a : Value) (A : Option Addr) (n c : Nat) (d : Value) (w : World) : (Instr.field 142 (.agg #[a, .slice A n c, d]) 1).run Try.prog w = .ok (.slice A n c) w := by kernel_rfl
set_option maxHeartbeats 2000000 in
set_option maxRecDepth 100000 in
theorem implRkm (m : List (List Int)) (A : Option Addr) (cap lo hi : Nat) (w : World) (hl : RowsIn w lo hi A m) (hn : m.length ≤ 1048576) (hr : ∀ k, k < m.length → (m.getD k []).length ≤ 1048576) :
    Calls Try.prog 59 #[.slice A m.length cap] w fun e w' => e = .returned (.int .i64 (rkmV m)) ∧ Below w.heap.size w w' := by
  have HMAT := Lib.hid (implMat m A cap lo hi w hl hn hr)
  by_cases hM : MatP m
  · have HV := Lib.hid (show rkmV m = ((pvI (Red.run m.length (atM m) (widM m))).length : Int) from if_pos (isMatB_yes hM))
    rw [isMatB_yes hM] at HMAT
    have HRD := Lib.hid (rdm_c m hM.q A cap lo hi w hl)
    clear hl hr hM
    go_enter Try.func59, Try.ntmps59
    go_wp2_with fail
    refine HMAT.out.mono ?_
    rintro e w1 ⟨rfl, rfl⟩
    go_wp2_with fail
    refine HRD.out.mono ?_
    rintro e w2 ⟨gh, g, p, f, Ap, cp, plo, phi, lo2, hi2, rfl, _, _, _, _, hb2⟩
    have HB2 := Lib.hid hb2
    clear hb2
    have hfld := field_pv
    go_wp2_with fail
    go_ret
    exact ⟨by rw [HV.out]; rfl, HB2.out⟩
  · have HV := Lib.hid (show rkmV m = -1 from if_neg (by rw [isMatB_no hM]; decide))
    rw [isMatB_no hM] at HMAT
    clear hl hr hM
    go_enter Try.func59, Try.ntmps59
    go_wp2_with fail
    refine HMAT.out.mono ?_
    rintro e w1 ⟨rfl, rfl⟩
    go_wp2_with fail
    go_ret
    exact ⟨by rw [HV.out]; rfl, Below.refl _ _⟩
end Go.Proofs.Ytdkpmaahinbhlaa
/- What impl.FrameworkRank answers. No condition. -/
namespace Go.Proofs.Ytdkpmaahinbhlaa
open Go.RowKit

set_option maxHeartbeats 4000000 in
set_option maxRecDepth 100000 in
theorem implFrk (p : Int) (l m : List (Int × Int)) (A : Option Addr) (ca : Nat) (B : Option Addr) (cb : Nat) (lo hi : Nat) (w : World) (hl : FwIn w lo hi A l B m) (hn : l.length + m.length ≤ 1048576) :
    Calls Try.prog 96 #[.agg #[.int .i64 p, .slice A l.length ca, .slice B m.length cb]] w fun e w' => e = .returned (.int .i64 (frkV p l m)) ∧ Below w.heap.size w w' := by
  have HC := Lib.hid (fun (W : World) (h : FwIn W lo hi A l B m) => implIsF p l m A ca B cb lo hi W h hn)
  have HG := Lib.hid (fun (W : World) (h : FwIn W lo hi A l B m) => implRgm p l m A ca B cb lo hi W h hn)
  by_cases hg : isFB p l m = true
  · rw [hg] at HC
    have HI := Lib.hid (isFB_iff.1 hg)
    have HV := Lib.hid (frkV_yes hg)
    rw [rigV_yes hg] at HG
    clear hg
    have HF := Lib.hid (FbI.new (p := p) (ca := ca) (cb := cb) hl 97)
    clear hl
    go_enter Try.func96, Try.ntmps96
    go_wp2_with fail
    generalize (w.alloc (.cells #[.int .i64 p, .slice A l.length ca, .slice B m.length cb] 97)) = w1 at *
    refine (HC.out _ HF.out.f).mono ?_
    rintro e w2 ⟨rfl, hb⟩
    have HF2 := Lib.hid (HF.out.below hb)
    obtain ⟨_, x0, x1, x2⟩ := HF2.out.x
    clear hb HF
    go_wp2_with fail
    refine (HG.out _ HF2.out.f).mono ?_
    rintro e w3 ⟨A2, c2, rfl, hr, hb⟩
    have HF3 := Lib.hid (HF2.out.below hb)
    have HR3 := Lib.hid hr
    clear hb hr x0 x1 x2
    have HP := Lib.hid (show (pvI (Red.run (rigL p l m).length (atM (rigL p l m)) (widM (rigL p l m)))).length = rigP p l m from pvI_len _)
    by_cases h0 : 0 < l.length
    · have HQ := Lib.hid (rdm_c (rigL p l m) (rig_q HI.out h0) A2 c2 _ _ w3 HR3.out.reads)
      have hlen : (rigL p l m).length ≠ 0 := by rw [rigL_len]; omega
      obtain ⟨ps, hps⟩ : ∃ ps, pvI (Red.run (rigL p l m).length (atM (rigL p l m)) (widM (rigL p l m))) = ps := ⟨_, rfl⟩
      rw [hps] at HQ HP
      clear hps
      obtain ⟨N, hN⟩ : ∃ N, (rigL p l m).length = N := ⟨_, rfl⟩
      rw [hN] at HQ hlen ⊢
      clear hN HR3
      have hne : ((N : Int) == 0) = false := by simp; omega
      go_wp2_with fail
      refine HQ.out.mono ?_
      rintro e w4 ⟨gh, g, p2, f2, Ap, cp, plo, phi, lo2, hi2, rfl, _, _, _, _, hb⟩
      have HF4 := Lib.hid (HF3.out.below hb)
      clear hb
      have hfld := field_pv
      go_wp2_with fail
      go_ret
      exact ⟨by rw [HV.out, ← HP.out]; rfl, HF4.out.b⟩
    · obtain rfl : l = [] := List.length_eq_zero_iff.1 (by omega)
      go_wp2_with fail
      go_ret
      exact ⟨by rw [HV.out, rigP_nil]; rfl, HF3.out.b⟩
  · have hgf : isFB p l m = false := by simpa using hg
    rw [hgf] at HC
    have HV := Lib.hid (frkV_no hgf)
    clear hg hgf HG
    have HF := Lib.hid (FbI.new (p := p) (ca := ca) (cb := cb) hl 97)
    clear hl
    go_enter Try.func96, Try.ntmps96
    go_wp2_with fail
    generalize (w.alloc (.cells #[.int .i64 p, .slice A l.length ca, .slice B m.length cb] 97)) = w1 at *
    refine (HC.out _ HF.out.f).mono ?_
    rintro e w2 ⟨rfl, hb⟩
    have HF2 := Lib.hid (HF.out.below hb)
    obtain ⟨_, x0, x1, x2⟩ := HF2.out.x
    clear hb HF
    go_wp2_with fail
    go_wp2_with fail
    go_ret
    exact ⟨by rw [HV.out]; rfl, HF2.out.b⟩
end Go.Proofs.Ytdkpmaahinbhlaa
/- The law FnExactFrameworkRank returns true at every input. No condition. -/
namespace Go.Proofs.Ytdkpmaahinbhlaa
open Go.RowKit

set_option maxHeartbeats 4000000 in
set_option maxRecDepth 100000 in
theorem lawFrameworkRank (q : Int) (A : Option Addr) (cap : Nat) (l : List (Int × Int)) (B : Option Addr) (cb : Nat) (m : List (Int × Int)) (w : World) (hl : l.length ≤ maxLen ∧ m.length ≤ maxLen) (hb : BarsAt w w.heap.size A l) (hc : BarsAt w w.heap.size B m) :
    Calls Try.prog 8 #[.agg #[.int .i64 q, .slice A l.length cap, .slice B m.length cb]] w fun e w' => e = .returned (.bool true) ∧ Below w.heap.size w w' := by
  have HB_0 := Lib.hid (fw_in hb hc)
  clear hb hc
  by_cases hn : l.length + m.length ≤ 1048576
  · have W0 := Lib.hid (Below.refl w.heap.size w)
    have hal := new_below w (.cells #[.int .i64 q, .slice A l.length cap, .slice B m.length cb] 92)
    have Z1 := Lib.hid (within_of hal).size
    have W1 := Lib.hid (within_on W0.out (within_of hal) W0.out.size (.inr (Nat.le_refl _)))
    have HB_1 := Lib.hid (HB_0.out.within (within_of hal) (by omega))
    clear hal
    have hsz : (w.alloc (.cells #[.int .i64 q, .slice A l.length cap, .slice B m.length cb] 92)).heap.size = w.heap.size + 1 := by simp
    have Y1 := Lib.hid hsz
    clear hsz
    have BX_1 := Lib.hid (box3_new w q (.slice A l.length cap) (.slice B m.length cb) 92)
    go_enter Try.func8, Try.ntmps8
    go_wp2_with fail
    generalize (w.alloc (.cells #[.int .i64 q, .slice A l.length cap, .slice B m.length cb] 92)) = w1 at *
    refine (szFw_c q A l.length cap B m.length cb 1048576 _ (by omega) (by omega)).mono ?_
    rintro e w2 ⟨rfl, hb⟩
    have Z2 := Lib.hid (within_of hb).size
    have W2 := Lib.hid (within_on W1.out (within_of hb) W1.out.size (.inr (Nat.le_refl _)))
    have HB_2 := Lib.hid (HB_1.out.within (within_of hb) (by omega))
    have BX_2 := Lib.hid (BX_1.out.within (within_of hb) (by omega))
    clear hb
    have hnn : ¬ (1048576 : Int) - (l.length : Int) - (m.length : Int) < 0 := by omega
    obtain ⟨g01, g02, g03, g04⟩ := BX_2.out
    go_wp2_with fail
    clear g01 g02 g03 g04
    refine (toFw_c q l m A cap B cb _ _ _ HB_2.out hn).mono ?_
    rintro e w3 ⟨g0, g1, rfl, ho, hb⟩
    have Z3 := Lib.hid (within_of hb).size
    have W3 := Lib.hid (within_on W2.out (within_of hb) W2.out.size (.inr (Nat.le_refl _)))
    have HB_3 := Lib.hid (HB_2.out.within (within_of hb) (by omega))
    have BX_3 := Lib.hid (BX_2.out.within (within_of hb) (by omega))
    have SG_3 := Lib.hid (ho.reads)
    clear ho hb
    go_wp2_with fail
    refine (specFrk q l m (some ⟨g0, 0, none⟩) l.length (some ⟨g1, 0, none⟩) m.length _ _ _ SG_3.out hn).mono ?_
    rintro e w4 ⟨rfl, hb⟩
    have Z4 := Lib.hid (within_of hb).size
    have W4 := Lib.hid (within_on W3.out (within_of hb) W3.out.size (.inr (Nat.le_refl _)))
    have HB_4 := Lib.hid (HB_3.out.within (within_of hb) (by omega))
    have BX_4 := Lib.hid (BX_3.out.within (within_of hb) (by omega))
    have SG_4 := Lib.hid (SG_3.out.within (within_of hb) (by omega))
    clear hb
    obtain ⟨g01, g02, g03, g04⟩ := BX_4.out
    go_wp2_with fail
    clear g01 g02 g03 g04
    refine (toFw_c q l m A cap B cb _ _ _ HB_4.out hn).mono ?_
    rintro e w5 ⟨x0, x1, rfl, ho, hb⟩
    have Z5 := Lib.hid (within_of hb).size
    have W5 := Lib.hid (within_on W4.out (within_of hb) W4.out.size (.inr (Nat.le_refl _)))
    have HB_5 := Lib.hid (HB_4.out.within (within_of hb) (by omega))
    have BX_5 := Lib.hid (BX_4.out.within (within_of hb) (by omega))
    have SG_5 := Lib.hid (SG_4.out.within (within_of hb) (by omega))
    have SX_5 := Lib.hid (ho)
    clear ho hb
    go_wp2_with fail
    have hal := new_below w5 (.cells #[.int .i64 q, .slice (some ⟨x0, 0, none⟩) l.length l.length, .slice (some ⟨x1, 0, none⟩) m.length m.length] 97)
    have Z6 := Lib.hid (within_of hal).size
    have W6 := Lib.hid (within_on W5.out (within_of hal) W5.out.size (.inr (Nat.le_refl _)))
    have HB_6 := Lib.hid (HB_5.out.within (within_of hal) (by omega))
    have BX_6 := Lib.hid (BX_5.out.within (within_of hal) (by omega))
    have SG_6 := Lib.hid (SG_5.out.within (within_of hal) (by omega))
    have SX_6 := Lib.hid (SX_5.out.within (within_of hal) (by omega))
    clear hal
    have hsz : (w5.alloc (.cells #[.int .i64 q, .slice (some ⟨x0, 0, none⟩) l.length l.length, .slice (some ⟨x1, 0, none⟩) m.length m.length] 97)).heap.size = w5.heap.size + 1 := by simp
    have Y6 := Lib.hid hsz
    clear hsz
    have XX_6 := Lib.hid (box3_new w5 q (.slice (some ⟨x0, 0, none⟩) l.length l.length) (.slice (some ⟨x1, 0, none⟩) m.length m.length) 97)
    generalize (w5.alloc (.cells #[.int .i64 q, .slice (some ⟨x0, 0, none⟩) l.length l.length, .slice (some ⟨x1, 0, none⟩) m.length m.length] 97)) = w6 at *
    refine (implFrk q l m (some ⟨x0, 0, none⟩) l.length (some ⟨x1, 0, none⟩) m.length _ _ _ SX_6.out.reads hn).mono ?_
    rintro e w7 ⟨rfl, hb⟩
    have Z7 := Lib.hid (within_of hb).size
    have W7 := Lib.hid (within_on W6.out (within_of hb) W6.out.size (.inr (Nat.le_refl _)))
    have HB_7 := Lib.hid (HB_6.out.within (within_of hb) (by omega))
    have BX_7 := Lib.hid (BX_6.out.within (within_of hb) (by omega))
    have SG_7 := Lib.hid (SG_6.out.within (within_of hb) (by omega))
    have SX_7 := Lib.hid (SX_6.out.within (within_of hb) (by omega))
    have XX_7 := Lib.hid (XX_6.out.within (within_of hb) (by omega))
    clear hb
    have kk0 := box3s2 BX_7.out XX_7.out
    have kk := box3s2 BX_7.out XX_7.out
    have hdr : Below w7.heap.size w7 w7.drew := (Below.refl _ _).drew
    have Z8 := Lib.hid (within_of hdr).size
    have W8 := Lib.hid (within_on W7.out (within_of hdr) W7.out.size (.inr (Nat.le_refl _)))
    have HB_8 := Lib.hid (HB_7.out.within (within_of hdr) (by omega))
    have BX_8 := Lib.hid (BX_7.out.within (within_of hdr) (by omega))
    have SG_8 := Lib.hid (SG_7.out.within (within_of hdr) (by omega))
    have SX_8 := Lib.hid (SX_7.out.within (within_of hdr) (by omega))
    have XX_8 := Lib.hid (XX_7.out.within (within_of hdr) (by omega))
    clear hdr
    go_wp2_with fail
    go_region_held3 (fun W' => W'.cell? ⟨w.heap.size, 0, none⟩ = some (.int .i64 q) ∧ W'.cell? ⟨w.heap.size, 1, none⟩ = some (.slice A l.length cap) ∧ W'.cell? ⟨w.heap.size, 2, none⟩ = some (.slice B m.length cb) ∧ W'.cell? ⟨w5.heap.size, 0, none⟩ = some (.int .i64 q) ∧ W'.cell? ⟨w5.heap.size, 1, none⟩ = some (.slice (some ⟨x0, 0, none⟩) l.length l.length) ∧ W'.cell? ⟨w5.heap.size, 2, none⟩ = some (.slice (some ⟨x1, 0, none⟩) m.length m.length))
      (first | exact kk | exact box3s2 BX_9.out XX_9.out | exact box3s2 BX_10.out XX_10.out | fail)
      (first
        | (go_at_call 88; refine (toFw_c q l m A cap B cb _ _ _ HB_8.out hn).mono ?_; rintro e w9 ⟨u0, u1, rfl, ho, hb⟩; have Z9 := Lib.hid (within_of hb).size; have W9 := Lib.hid (within_on W8.out (within_of hb) W8.out.size (.inr (Nat.le_refl _))); have HB_9 := Lib.hid (HB_8.out.within (within_of hb) (by omega)); have BX_9 := Lib.hid (BX_8.out.within (within_of hb) (by omega)); have SG_9 := Lib.hid (SG_8.out.within (within_of hb) (by omega)); have SX_9 := Lib.hid (SX_8.out.within (within_of hb) (by omega)); have XX_9 := Lib.hid (XX_8.out.within (within_of hb) (by omega)); have YY := Lib.hid ho.reads; clear ho hb)
        | (go_at_call 91; refine (eqFw_c q l m _ _ _ _ _ _ _ _ _ _ _ _ _ SX_9.out.reads YY.out hn).mono ?_; rintro e w10 ⟨rfl, hb⟩; have Z10 := Lib.hid (within_of hb).size; have W10 := Lib.hid (within_on W9.out (within_of hb) W9.out.size (.inr (Nat.le_refl _))); have HB_10 := Lib.hid (HB_9.out.within (within_of hb) (by omega)); have BX_10 := Lib.hid (BX_9.out.within (within_of hb) (by omega)); have SG_10 := Lib.hid (SG_9.out.within (within_of hb) (by omega)); have SX_10 := Lib.hid (SX_9.out.within (within_of hb) (by omega)); have XX_10 := Lib.hid (XX_9.out.within (within_of hb) (by omega)); clear hb))
    clear kk0 kk YY
    go_wp2_with fail
    go_ret
    exact ⟨rfl, W10.out⟩
  · have W0 := Lib.hid (Below.refl w.heap.size w)
    have hal := new_below w (.cells #[.int .i64 q, .slice A l.length cap, .slice B m.length cb] 92)
    have Z1 := Lib.hid (within_of hal).size
    have W1 := Lib.hid (within_on W0.out (within_of hal) W0.out.size (.inr (Nat.le_refl _)))
    have HB_1 := Lib.hid (HB_0.out.within (within_of hal) (by omega))
    clear hal
    have hsz : (w.alloc (.cells #[.int .i64 q, .slice A l.length cap, .slice B m.length cb] 92)).heap.size = w.heap.size + 1 := by simp
    have Y1 := Lib.hid hsz
    clear hsz
    have BX_1 := Lib.hid (box3_new w q (.slice A l.length cap) (.slice B m.length cb) 92)
    go_enter Try.func8, Try.ntmps8
    go_wp2_with fail
    generalize (w.alloc (.cells #[.int .i64 q, .slice A l.length cap, .slice B m.length cb] 92)) = w1 at *
    refine (szFw_no q A l.length cap B m.length cb 1048576 _ hl.1 hl.2 (by omega) (by omega) (by omega)).mono ?_
    rintro e w2 ⟨rfl, hb⟩
    have Z2 := Lib.hid (within_of hb).size
    have W2 := Lib.hid (within_on W1.out (within_of hb) W1.out.size (.inr (Nat.le_refl _)))
    have HB_2 := Lib.hid (HB_1.out.within (within_of hb) (by omega))
    have BX_2 := Lib.hid (BX_1.out.within (within_of hb) (by omega))
    clear hb
    go_wp2_with fail
    go_ret
    exact ⟨rfl, W2.out⟩
end Go.Proofs.Ytdkpmaahinbhlaa
/- What spec.l11Trivial answers: by how many motions the plane moves the joints. No condition. -/
namespace Go.Proofs.Ytdkpmaahinbhlaa
open Go.RowKit
attribute [local go_sem ↓] neqPl guardPl

theorem nePl_no {x y : Int × Int} (h : neB x.1 x.2 y.1 y.2 = false) : x = y := by
  unfold neB at h
  by_cases h1 : x.1 = y.1 <;> by_cases h2 : x.2 = y.2 <;> simp [h1, h2] at h
  exact Prod.ext h1 h2
theorem nePl_ne {x y : Int × Int} (h : neB x.1 x.2 y.1 y.2 = true) : x ≠ y := by
  rintro rfl
  unfold neB at h
  simp at h

set_option maxHeartbeats 4000000 in
set_option maxRecDepth 100000 in
theorem specTrv (p : Int) (l m : List (Int × Int)) (A : Option Addr) (ca : Nat) (B : Option Addr) (cb : Nat) (lo hi : Nat) (w : World) (hl : FwIn w lo hi A l B m) (_hn : l.length + m.length ≤ 1048576) :
    Calls Try.prog 183 #[.agg #[.int .i64 p, .slice A l.length ca, .slice B m.length cb]] w fun e w' => e = .returned (.int .i64 (triV m)) ∧ Below w.heap.size w w' := by
  have HF := Lib.hid (FbI.new (p := p) (ca := ca) (cb := cb) hl 97)
  clear hl
  go_enter Try.func183, Try.ntmps183
  go_wp2_with fail
  generalize (w.alloc (.cells #[.int .i64 p, .slice A l.length ca, .slice B m.length cb] 97)) = w1 at *
  go_loopw [3] (fun i wr => ∃ k : Nat, 1 ≤ k ∧ i = .int .i64 k ∧ (∀ j, j < k → j < m.length → m.getD j (0, 0) = m.getD 0 (0, 0)) ∧ FbI w wr lo hi p A ca l B cb m) (fun i _ => m.length - (intOf i).toNat)
  case atStart => exact ⟨1, Nat.le_refl _, rfl, fun j hj _ => by rw [show j = 0 by omega], HF.out⟩
  case round =>
    clear HF
    obtain ⟨k, hk, rfl, hall, hf⟩ := hrel
    have HF := Lib.hid hf
    have HALL := Lib.hid hall
    clear hf hall
    obtain ⟨_, x0, x1, x2⟩ := HF.out.x
    by_cases hlt : k < m.length
    · have hki : (k : Int) < (m.length : Int) := by omega
      have h0i : (0 : Int) < (m.length : Int) := by omega
      have h0n : 0 < m.length := by omega
      have hnn : m ≠ [] := by rintro rfl; exact absurd hlt (Nat.not_lt_zero _)
      obtain ⟨bb, ob, rfl, hbb, hcb⟩ := HF.out.place hlt
      have hp := hcb k hlt
      have hq := hcb 0 (by omega)
      rw [Nat.zero_mul, Nat.add_zero] at hq
      have HNX := Lib.hid (fun (h : m.getD k (0, 0) = m.getD 0 (0, 0)) => (show ∀ j, j < k + 1 → j < m.length → m.getD j (0, 0) = m.getD 0 (0, 0) from fun j hj h2 => by
        by_cases e : j = k
        · subst e; exact h
        · exact HALL.out j (by omega) h2))
      have HNE := Lib.hid (fun (h : m.getD k (0, 0) ≠ m.getD 0 (0, 0)) => triV_three hlt h)
      obtain ⟨P, hP⟩ : ∃ P, m.getD k (0, 0) = P := ⟨_, rfl⟩
      obtain ⟨Q, hQ⟩ : ∃ Q, m.getD 0 (0, 0) = Q := ⟨_, rfl⟩
      rw [hP] at hp HNX HNE
      rw [hQ] at hq HNX HNE
      have HQQ := Lib.hid hQ
      clear hP hQ HALL
      obtain ⟨hp1, hp2⟩ := hp
      obtain ⟨hq1, hq2⟩ := hq
      have HDR := Lib.hid (show Below wr.heap.size wr wr.drew from (Below.refl _ _).drew)
      have KK := Lib.hid (show wr.drew.cell? ⟨w.heap.size, 2, none⟩ = some (.slice (some ⟨bb, ob, none⟩) m.length cb) ∧ wr.drew.cell? ⟨bb, ob + k * 2, none⟩ = some (.int .i64 P.1) ∧ wr.drew.cell? ⟨bb, ob + k * 2 + 1, none⟩ = some (.int .i64 P.2) ∧ wr.drew.cell? ⟨bb, ob, none⟩ = some (.int .i64 Q.1) ∧ wr.drew.cell? ⟨bb, ob + 1, none⟩ = some (.int .i64 Q.2) from ⟨x2, hp1, hp2, hq1, hq2⟩)
      have HFD := Lib.hid (HF.out.below HDR.out)
      obtain ⟨b, hb⟩ : ∃ b, neB P.1 P.2 Q.1 Q.2 = b := ⟨_, rfl⟩
      have HB := Lib.hid hb
      clear hb
      go_wp2_with fail
      go_region_held3 (fun W' => W'.cell? ⟨w.heap.size, 2, none⟩ = some (.slice (some ⟨bb, ob, none⟩) m.length cb) ∧ W'.cell? ⟨bb, ob + k * 2, none⟩ = some (.int .i64 P.1) ∧ W'.cell? ⟨bb, ob + k * 2 + 1, none⟩ = some (.int .i64 P.2) ∧ W'.cell? ⟨bb, ob, none⟩ = some (.int .i64 Q.1) ∧ W'.cell? ⟨bb, ob + 1, none⟩ = some (.int .i64 Q.2))
        (first | exact KK.out | fail)
        (fail)
      rw [HB.out]
      clear KK x0 x1 x2 hp1 hp2 hq1 hq2
      cases b
      · have he := nePl_no HB.out
        go_wp2_with fail
        go_roundw
        case rel => exact ⟨k + 1, by omega, by go_num, (by rw [HQQ.out]; exact HNX.out he), HFD.out⟩
        case measure => simp [intOf]; omega
      · have he := HNE.out (nePl_ne HB.out)
        go_wp2_with fail
        go_ret
        exact ⟨by rw [he]; rfl, HFD.out.b⟩
    · have he : triV m = 2 := triV_two fun i hi => HALL.out i (by omega) hi
      go_wp2_with fail
      go_ret
      exact ⟨by rw [he]; rfl, HF.out.b⟩
end Go.Proofs.Ytdkpmaahinbhlaa
/- What spec.FrameworkFreedom and spec.IsStiff answer. No condition. -/
namespace Go.Proofs.Ytdkpmaahinbhlaa
open Go.RowKit

set_option maxHeartbeats 4000000 in
set_option maxRecDepth 100000 in
theorem specFfr (p : Int) (l m : List (Int × Int)) (A : Option Addr) (ca : Nat) (B : Option Addr) (cb : Nat) (lo hi : Nat) (w : World) (hl : FwIn w lo hi A l B m) (hn : l.length + m.length ≤ 1048576) :
    Calls Try.prog 97 #[.agg #[.int .i64 p, .slice A l.length ca, .slice B m.length cb]] w fun e w' => e = .returned (.int .i64 (ffrV p l m)) ∧ Below w.heap.size w w' := by
  have HC := Lib.hid (fun (W : World) (h : FwIn W lo hi A l B m) => specIsF p l m A ca B cb lo hi W h hn)
  have HT := Lib.hid (fun (W : World) (h : FwIn W lo hi A l B m) => specTrv p l m A ca B cb lo hi W h hn)
  have HK := Lib.hid (fun (W : World) (h : FwIn W lo hi A l B m) => specFrk p l m A ca B cb lo hi W h hn)
  by_cases hg : isFB p l m = true
  · rw [hg] at HC
    have HI := Lib.hid (isFB_iff.1 hg)
    have HV := Lib.hid (ffrV_yes hg)
    have hp6 := HI.out.six
    have hp1 := HI.out.g.1.1
    have hk := rigP_le HI.out
    have ht := triV_bd m
    rw [frkV_yes hg] at HK HV
    clear hg
    obtain ⟨R, hR⟩ : ∃ R : Nat, rigP p l m = R := ⟨_, rfl⟩
    rw [hR] at hk HK HV
    clear hR
    obtain ⟨u, hu⟩ : ∃ u, triV m = u := ⟨_, rfl⟩
    rw [hu] at ht HT HV
    clear hu
    have HF := Lib.hid (FbI.new (p := p) (ca := ca) (cb := cb) hl 97)
    clear hl
    go_enter Try.func97, Try.ntmps97
    go_wp2_with fail
    generalize (w.alloc (.cells #[.int .i64 p, .slice A l.length ca, .slice B m.length cb] 97)) = w1 at *
    refine (HC.out _ HF.out.f).mono ?_
    rintro e w2 ⟨rfl, hb⟩
    have HF2 := Lib.hid (HF.out.below hb)
    clear hb HF
    obtain ⟨_, x0, x1, x2⟩ := HF2.out.x
    have HR0 := Lib.hid (HF2.out.below (show Below _ _ (World.drew _) from (Below.refl _ _).drew))
    go_wp2_with fail
    go_region_held3 (fun W' => W'.cell? ⟨w.heap.size, 0, none⟩ = some (.int .i64 p) ∧ W'.cell? ⟨w.heap.size, 1, none⟩ = some (.slice A l.length ca) ∧ W'.cell? ⟨w.heap.size, 2, none⟩ = some (.slice B m.length cb))
      (first | exact ⟨HR0.out.x.2.1, HR0.out.x.2.2.1, HR0.out.x.2.2.2⟩ | exact ⟨HR1.out.x.2.1, HR1.out.x.2.2.1, HR1.out.x.2.2.2⟩ | exact ⟨HR2.out.x.2.1, HR2.out.x.2.2.1, HR2.out.x.2.2.2⟩ | fail)
      (first
        | (go_at_call 183; refine (HT.out _ HR0.out.f).mono ?_; rintro e wz1 ⟨rfl, hb⟩; have HR1 := Lib.hid (HR0.out.below hb); clear hb)
        | (go_at_call 95; refine (HK.out _ HR1.out.f).mono ?_; rintro e wz2 ⟨rfl, hb⟩; have HR2 := Lib.hid (HR1.out.below hb); clear hb)
        | fail)
    have HWR := Lib.hid (show IntKind.i64.wrap (IntKind.i64.wrap (IntKind.i64.wrap (2 * p) - u) - (R : Int)) = 2 * p - u - (R : Int) by rw [IntWalk.i64_in (2 * p) (by omega), IntWalk.i64_in (2 * p - u) (by omega), IntWalk.i64_in _ (by omega)])
    go_wp2_with fail
    go_ret
    exact ⟨by rw [HV.out, ← HWR.out]; rfl, HR2.out.b⟩
  · have hgf : isFB p l m = false := by simpa using hg
    rw [hgf] at HC
    have HV := Lib.hid (ffrV_no hgf)
    clear hg hgf
    have HF := Lib.hid (FbI.new (p := p) (ca := ca) (cb := cb) hl 97)
    clear hl
    go_enter Try.func97, Try.ntmps97
    go_wp2_with fail
    generalize (w.alloc (.cells #[.int .i64 p, .slice A l.length ca, .slice B m.length cb] 97)) = w1 at *
    refine (HC.out _ HF.out.f).mono ?_
    rintro e w2 ⟨rfl, hb⟩
    have HF2 := Lib.hid (HF.out.below hb)
    obtain ⟨_, x0, x1, x2⟩ := HF2.out.x
    clear hb HF
    go_wp2_with fail
    go_ret
    exact ⟨by rw [HV.out]; rfl, HF2.out.b⟩

set_option maxHeartbeats 4000000 in
set_option maxRecDepth 100000 in
theorem specStf (p : Int) (l m : List (Int × Int)) (A : Option Addr) (ca : Nat) (B : Option Addr) (cb : Nat) (lo hi : Nat) (w : World) (hl : FwIn w lo hi A l B m) (hn : l.length + m.length ≤ 1048576) :
    Calls Try.prog 99 #[.agg #[.int .i64 p, .slice A l.length ca, .slice B m.length cb]] w fun e w' => e = .returned (.bool (stfB p l m)) ∧ Below w.heap.size w w' := by
  have HC := Lib.hid (fun (W : World) (h : FwIn W lo hi A l B m) => specFfr p l m A ca B cb lo hi W h hn)
  have HV := Lib.hid (show stfB p l m = (ffrV p l m == 0) from rfl)
  obtain ⟨u, hu⟩ : ∃ u, ffrV p l m = u := ⟨_, rfl⟩
  rw [hu] at HC HV
  clear hu
  have HF := Lib.hid (FbI.new (p := p) (ca := ca) (cb := cb) hl 97)
  clear hl
  go_enter Try.func99, Try.ntmps99
  go_wp2_with fail
  generalize (w.alloc (.cells #[.int .i64 p, .slice A l.length ca, .slice B m.length cb] 97)) = w1 at *
  refine (HC.out _ HF.out.f).mono ?_
  rintro e w2 ⟨rfl, hb⟩
  have HF2 := Lib.hid (HF.out.below hb)
  clear hb HF
  go_wp2_with fail
  go_ret
  exact ⟨by rw [HV.out]; rfl, HF2.out.b⟩
end Go.Proofs.Ytdkpmaahinbhlaa
/- What (impl.Framework).isAtOnePlace answers, slices.ContainsFunc and its function value with it. No condition. -/
namespace Go.Proofs.Ytdkpmaahinbhlaa
open Go.RowKit
attribute [local go_sem ↓] neqPl guardPl

/-- What the function value reads: the framework's box and the first place. -/
structure OneI (W : World) (fb bb ob cb : Nat) (m : List (Int × Int)) : Prop where
  lt : fb < W.heap.size ∧ bb < W.heap.size
  x2 : W.cell? ⟨fb, 2, none⟩ = some (.slice (some ⟨bb, ob, none⟩) m.length cb)
  pl : ∀ j, j < m.length → W.cell? ⟨bb, ob + j * 2, none⟩ = some (.int .i64 (m.getD j (0, 0)).1) ∧ W.cell? ⟨bb, ob + j * 2 + 1, none⟩ = some (.int .i64 (m.getD j (0, 0)).2)
theorem OneI.below {W W' : World} {fb bb ob cb : Nat} {m : List (Int × Int)} (h : OneI W fb bb ob cb m) (hb : Below W.heap.size W W') : OneI W' fb bb ob cb m :=
  ⟨⟨Nat.lt_of_lt_of_le h.lt.1 hb.size, Nat.lt_of_lt_of_le h.lt.2 hb.size⟩, (hb.cell (p := ⟨fb, 2, none⟩) h.lt.1).trans h.x2, fun j hj => ⟨(hb.cell (p := ⟨bb, ob + j * 2, none⟩) h.lt.2).trans (h.pl j hj).1, (hb.cell (p := ⟨bb, ob + j * 2 + 1, none⟩) h.lt.2).trans (h.pl j hj).2⟩⟩
set_option maxHeartbeats 2000000 in
set_option maxRecDepth 100000 in
theorem ne0_c (x y : Int) (fb bb ob cb : Nat) (m : List (Int × Int)) (w : World) (h : OneI w fb bb ob cb m) (h0 : 0 < m.length) :
    Calls Try.prog 220 #[.agg #[.int .i64 x, .int .i64 y], .pointer (some ⟨fb, 0, none⟩)] w fun e w' => e = .returned (.bool (neB x y (m.getD 0 (0, 0)).1 (m.getD 0 (0, 0)).2)) ∧ Below w.heap.size w w' := by
  have h0i : (0 : Int) < (m.length : Int) := by omega
  have hX := box_new w x (.int .i64 y) 167
  have HB := Lib.hid (new_below w (.cells #[.int .i64 x, .int .i64 y] 167))
  have HI := Lib.hid (h.below HB.out)
  clear h
  obtain ⟨Q, hQ⟩ : ∃ Q, m.getD 0 (0, 0) = Q := ⟨_, rfl⟩
  rw [hQ]
  have HQ := Lib.hid hQ
  clear hQ
  go_enter Try.func220, Try.ntmps220
  go_wp2_with fail
  generalize (w.alloc (.cells #[.int .i64 x, .int .i64 y] 167)) = w1 at *
  obtain ⟨_, p1, p2⟩ := hX
  have q := HI.out.pl 0 h0
  rw [Nat.zero_mul, Nat.add_zero] at q
  have hx2 := HI.out.x2
  rw [HQ.out] at q
  obtain ⟨q1, q2⟩ := q
  have HBD := Lib.hid (below_on HB.out (show Below w1.heap.size w1 w1.drew from (Below.refl _ _).drew) HB.out.size)
  have KK := Lib.hid (show w1.drew.cell? ⟨fb, 2, none⟩ = some (.slice (some ⟨bb, ob, none⟩) m.length cb) ∧ w1.drew.cell? ⟨w.heap.size, 0, none⟩ = some (.int .i64 x) ∧ w1.drew.cell? ⟨w.heap.size, 1, none⟩ = some (.int .i64 y) ∧ w1.drew.cell? ⟨bb, ob, none⟩ = some (.int .i64 Q.1) ∧ w1.drew.cell? ⟨bb, ob + 1, none⟩ = some (.int .i64 Q.2) from ⟨hx2, p1, p2, q1, q2⟩)
  go_region_held3 (fun W' => W'.cell? ⟨fb, 2, none⟩ = some (.slice (some ⟨bb, ob, none⟩) m.length cb) ∧ W'.cell? ⟨w.heap.size, 0, none⟩ = some (.int .i64 x) ∧ W'.cell? ⟨w.heap.size, 1, none⟩ = some (.int .i64 y) ∧ W'.cell? ⟨bb, ob, none⟩ = some (.int .i64 Q.1) ∧ W'.cell? ⟨bb, ob + 1, none⟩ = some (.int .i64 Q.2))
    (first | exact KK.out | fail)
    (fail)
  go_wp2_with fail
  go_ret
  exact ⟨rfl, HBD.out⟩
set_option maxHeartbeats 2000000 in
set_option maxRecDepth 100000 in
theorem idxP_c (fb bb ob cb cap : Nat) (m : List (Int × Int)) (w : World) (h : OneI w fb bb ob cb m) (h0 : 0 < m.length) (hN : m.length ≤ 1048576) :
    Calls Try.prog 244 #[.slice (some ⟨bb, ob, none⟩) m.length cap, .func (.func 220) #[] #[.pointer (some ⟨fb, 0, none⟩)]] w fun e w' => Below w.heap.size w w' ∧
      ((e = .returned (.int .i64 (-1)) ∧ triV m = 2) ∨ ∃ t : Nat, e = .returned (.int .i64 t) ∧ triV m = 3) := by
  have HI := Lib.hid h
  clear h
  go_enter Try.func244, Try.ntmps244
  go_wp2_with fail
  go_loopw [5, 8] (fun _ i wr => ∃ k : Nat, i = .int .i64 k ∧ (∀ j, j < k → j < m.length → m.getD j (0, 0) = m.getD 0 (0, 0)) ∧ OneI wr fb bb ob cb m ∧ Below w.heap.size w wr) (fun _ i _ => m.length - (intOf i).toNat)
  case atStart => exact ⟨0, rfl, fun j hj => absurd hj (Nat.not_lt_zero _), HI.out, Below.refl _ _⟩
  case round =>
    clear HI
    obtain ⟨k, rfl, hall, hi, hb⟩ := hrel
    have HI := Lib.hid hi
    have HB := Lib.hid hb
    have HALL := Lib.hid hall
    clear hi hb hall
    by_cases hlt : k < m.length
    · have hki : (k : Int) < (m.length : Int) := by omega
      obtain ⟨p1, p2⟩ := HI.out.pl k hlt
      have HC := Lib.hid (ne0_c (m.getD k (0, 0)).1 (m.getD k (0, 0)).2 fb bb ob cb m wr HI.out h0)
      have HNX := Lib.hid (fun (h : m.getD k (0, 0) = m.getD 0 (0, 0)) => (show ∀ j, j < k + 1 → j < m.length → m.getD j (0, 0) = m.getD 0 (0, 0) from fun j hj h2 => by
        by_cases e : j = k
        · subst e; exact h
        · exact HALL.out j (by omega) h2))
      have HNE := Lib.hid (fun (h : m.getD k (0, 0) ≠ m.getD 0 (0, 0)) => triV_three hlt h)
      obtain ⟨P, hP⟩ : ∃ P, m.getD k (0, 0) = P := ⟨_, rfl⟩
      obtain ⟨Q, hQ⟩ : ∃ Q, m.getD 0 (0, 0) = Q := ⟨_, rfl⟩
      rw [hP] at p1 p2 HC HNX HNE
      rw [hQ] at HC HNX HNE
      have HQQ := Lib.hid hQ
      clear hP hQ HALL
      obtain ⟨b, hb⟩ : ∃ b, neB P.1 P.2 Q.1 Q.2 = b := ⟨_, rfl⟩
      rw [hb] at HC
      have HBB := Lib.hid hb
      clear hb
      cases b
      · have HE := Lib.hid (nePl_no HBB.out)
        go_wp2_with (go_at_call 220; refine HC.out.mono ?_; rintro e w5 ⟨rfl, hb⟩; have HI5 := Lib.hid (HI.out.below hb); have HB5 := Lib.hid (below_on HB.out hb HB.out.size); clear hb)
        go_roundw
        case rel => exact ⟨k + 1, by go_num, (by rw [HQQ.out]; exact HNX.out HE.out), HI5.out, HB5.out⟩
        case measure => simp [intOf]; omega
      · have HE := Lib.hid (HNE.out (nePl_ne HBB.out))
        go_wp2_with (go_at_call 220; refine HC.out.mono ?_; rintro e w5 ⟨rfl, hb⟩; have HI5 := Lib.hid (HI.out.below hb); have HB5 := Lib.hid (below_on HB.out hb HB.out.size); clear hb)
        go_ret
        exact ⟨HB5.out, .inr ⟨k, rfl, HE.out⟩⟩
    · have he : triV m = 2 := triV_two fun i hi => HALL.out i (by omega) hi
      go_wp2_with fail
      go_ret
      exact ⟨HB.out, .inl ⟨rfl, he⟩⟩
set_option maxHeartbeats 2000000 in
set_option maxRecDepth 100000 in
theorem contP_c (fb bb ob cb cap : Nat) (m : List (Int × Int)) (w : World) (h : OneI w fb bb ob cb m) (h0 : 0 < m.length) (hN : m.length ≤ 1048576) :
    Calls Try.prog 219 #[.slice (some ⟨bb, ob, none⟩) m.length cap, .func (.func 220) #[] #[.pointer (some ⟨fb, 0, none⟩)]] w fun e w' => e = .returned (.bool (!oneB m)) ∧ Below w.heap.size w w' := by
  have HC := Lib.hid (idxP_c fb bb ob cb cap m w h h0 hN)
  clear h
  go_enter Try.func219, Try.ntmps219
  go_wp2_with fail
  refine HC.out.mono ?_
  rintro e w1 ⟨hb, ⟨rfl, ht⟩ | ⟨t, rfl, ht⟩⟩
  · have HB := Lib.hid hb
    have hv : oneB m = true := by unfold oneB; rw [ht]; rfl
    clear hb ht
    go_wp2_with fail
    go_ret
    exact ⟨by rw [hv]; rfl, HB.out⟩
  · have HB := Lib.hid hb
    have hv : oneB m = false := by unfold oneB; rw [ht]; rfl
    have hd : decide ((t : Int) ≥ 0) = true := by simp
    clear hb ht
    go_wp2_with fail
    go_ret
    exact ⟨by rw [hv]; rfl, HB.out⟩
set_option maxHeartbeats 2000000 in
set_option maxRecDepth 100000 in
theorem implTrv (p : Int) (l m : List (Int × Int)) (A : Option Addr) (ca : Nat) (B : Option Addr) (cb : Nat) (lo hi : Nat) (w : World) (hl : FwIn w lo hi A l B m) (hn : l.length + m.length ≤ 1048576) (h0 : 0 < m.length) :
    Calls Try.prog 184 #[.agg #[.int .i64 p, .slice A l.length ca, .slice B m.length cb]] w fun e w' => e = .returned (.bool (oneB m)) ∧ Below w.heap.size w w' := by
  have HF := Lib.hid (FbI.new (p := p) (ca := ca) (cb := cb) hl 97)
  clear hl
  go_enter Try.func184, Try.ntmps184
  go_wp2_with fail
  generalize (w.alloc (.cells #[.int .i64 p, .slice A l.length ca, .slice B m.length cb] 97)) = w1 at *
  obtain ⟨bb, ob, rfl, hbb, hcb⟩ := HF.out.place h0
  have HC := Lib.hid (contP_c w.heap.size bb ob cb cb m w1 ⟨⟨HF.out.x.1, hbb⟩, HF.out.x.2.2.2, hcb⟩ h0 (by omega))
  clear hcb
  refine HC.out.mono ?_
  rintro e w2 ⟨rfl, hb⟩
  have HF2 := Lib.hid (HF.out.below hb)
  clear hb
  go_wp2_with fail
  go_ret
  exact ⟨by simp, HF2.out.b⟩
end Go.Proofs.Ytdkpmaahinbhlaa
/- What impl.FrameworkFreedom and impl.IsStiff answer. No condition. -/
namespace Go.Proofs.Ytdkpmaahinbhlaa
open Go.RowKit

set_option maxHeartbeats 4000000 in
set_option maxRecDepth 100000 in
theorem implFfr (p : Int) (l m : List (Int × Int)) (A : Option Addr) (ca : Nat) (B : Option Addr) (cb : Nat) (lo hi : Nat) (w : World) (hl : FwIn w lo hi A l B m) (hn : l.length + m.length ≤ 1048576) :
    Calls Try.prog 98 #[.agg #[.int .i64 p, .slice A l.length ca, .slice B m.length cb]] w fun e w' => e = .returned (.int .i64 (ffrV p l m)) ∧ Below w.heap.size w w' := by
  have HC := Lib.hid (fun (W : World) (h : FwIn W lo hi A l B m) => implFrk p l m A ca B cb lo hi W h hn)
  have HT := Lib.hid (fun (W : World) (h : FwIn W lo hi A l B m) (h0 : 0 < m.length) => implTrv p l m A ca B cb lo hi W h hn h0)
  by_cases hg : isFB p l m = true
  · have HI := Lib.hid (isFB_iff.1 hg)
    have HV := Lib.hid (ffrV_yes hg)
    have hp6 := HI.out.six
    have hp1 := HI.out.g.1.1
    have hk := rigP_le HI.out
    rw [frkV_yes hg] at HC HV
    clear hg
    obtain ⟨R, hR⟩ : ∃ R : Nat, rigP p l m = R := ⟨_, rfl⟩
    rw [hR] at hk HC HV
    clear hR
    have h0m : 0 < m.length := by have := HI.out.len; omega
    have HF := Lib.hid (FbI.new (p := p) (ca := ca) (cb := cb) hl 97)
    clear hl
    go_enter Try.func98, Try.ntmps98
    go_wp2_with fail
    generalize (w.alloc (.cells #[.int .i64 p, .slice A l.length ca, .slice B m.length cb] 97)) = w1 at *
    refine (HC.out _ HF.out.f).mono ?_
    rintro e w2 ⟨rfl, hb⟩
    have HF2 := Lib.hid (HF.out.below hb)
    obtain ⟨_, x0, x1, x2⟩ := HF2.out.x
    clear hb HF
    have hR0 : ¬ (R : Int) < 0 := by omega
    go_wp2_with fail
    refine (HT.out _ HF2.out.f h0m).mono ?_
    rintro e w3 ⟨rfl, hb⟩
    have HF3 := Lib.hid (HF2.out.below hb)
    clear hb x0 x1 x2
    obtain ⟨_, x0, x1, x2⟩ := HF3.out.x
    rcases triV_or m with h2 | h3
    · have hd : oneB m = true := by unfold oneB; rw [h2]; rfl
      rw [h2] at HV
      rw [hd]
      clear h2 hd
      go_wp2_with fail
      go_ret
      exact ⟨by rw [HV.out]; rfl, HF3.out.b⟩
    · have hd : oneB m = false := by unfold oneB; rw [h3]; rfl
      rw [h3] at HV
      rw [hd]
      clear h3 hd
      go_wp2_with fail
      go_ret
      exact ⟨by rw [HV.out]; rfl, HF3.out.b⟩
  · have hgf : isFB p l m = false := by simpa using hg
    have HV := Lib.hid (ffrV_no hgf)
    have HK0 := Lib.hid (frkV_no hgf)
    clear hg hgf
    rw [show frkV p l m = -1 from HK0.out] at HC
    have HF := Lib.hid (FbI.new (p := p) (ca := ca) (cb := cb) hl 97)
    clear hl
    go_enter Try.func98, Try.ntmps98
    go_wp2_with fail
    generalize (w.alloc (.cells #[.int .i64 p, .slice A l.length ca, .slice B m.length cb] 97)) = w1 at *
    refine (HC.out _ HF.out.f).mono ?_
    rintro e w2 ⟨rfl, hb⟩
    have HF2 := Lib.hid (HF.out.below hb)
    clear hb HF
    go_wp2_with fail
    go_ret
    exact ⟨by rw [HV.out]; rfl, HF2.out.b⟩

set_option maxHeartbeats 4000000 in
set_option maxRecDepth 100000 in
theorem implStf (p : Int) (l m : List (Int × Int)) (A : Option Addr) (ca : Nat) (B : Option Addr) (cb : Nat) (lo hi : Nat) (w : World) (hl : FwIn w lo hi A l B m) (hn : l.length + m.length ≤ 1048576) :
    Calls Try.prog 100 #[.agg #[.int .i64 p, .slice A l.length ca, .slice B m.length cb]] w fun e w' => e = .returned (.bool (stfB p l m)) ∧ Below w.heap.size w w' := by
  have HC := Lib.hid (fun (W : World) (h : FwIn W lo hi A l B m) => implFfr p l m A ca B cb lo hi W h hn)
  have HV := Lib.hid (show stfB p l m = (ffrV p l m == 0) from rfl)
  obtain ⟨u, hu⟩ : ∃ u, ffrV p l m = u := ⟨_, rfl⟩
  rw [hu] at HC HV
  clear hu
  have HF := Lib.hid (FbI.new (p := p) (ca := ca) (cb := cb) hl 97)
  clear hl
  go_enter Try.func100, Try.ntmps100
  go_wp2_with fail
  generalize (w.alloc (.cells #[.int .i64 p, .slice A l.length ca, .slice B m.length cb] 97)) = w1 at *
  refine (HC.out _ HF.out.f).mono ?_
  rintro e w2 ⟨rfl, hb⟩
  have HF2 := Lib.hid (HF.out.below hb)
  clear hb HF
  go_wp2_with fail
  go_ret
  exact ⟨by rw [HV.out]; rfl, HF2.out.b⟩
end Go.Proofs.Ytdkpmaahinbhlaa
/- The law FnExactFrameworkFreedom returns true at every input. No condition. -/
namespace Go.Proofs.Ytdkpmaahinbhlaa
open Go.RowKit

set_option maxHeartbeats 4000000 in
set_option maxRecDepth 100000 in
theorem lawFrameworkFreedom (q : Int) (A : Option Addr) (cap : Nat) (l : List (Int × Int)) (B : Option Addr) (cb : Nat) (m : List (Int × Int)) (w : World) (hl : l.length ≤ maxLen ∧ m.length ≤ maxLen) (hb : BarsAt w w.heap.size A l) (hc : BarsAt w w.heap.size B m) :
    Calls Try.prog 9 #[.agg #[.int .i64 q, .slice A l.length cap, .slice B m.length cb]] w fun e w' => e = .returned (.bool true) ∧ Below w.heap.size w w' := by
  have HB_0 := Lib.hid (fw_in hb hc)
  clear hb hc
  by_cases hn : l.length + m.length ≤ 1048576
  · have W0 := Lib.hid (Below.refl w.heap.size w)
    have hal := new_below w (.cells #[.int .i64 q, .slice A l.length cap, .slice B m.length cb] 92)
    have Z1 := Lib.hid (within_of hal).size
    have W1 := Lib.hid (within_on W0.out (within_of hal) W0.out.size (.inr (Nat.le_refl _)))
    have HB_1 := Lib.hid (HB_0.out.within (within_of hal) (by omega))
    clear hal
    have hsz : (w.alloc (.cells #[.int .i64 q, .slice A l.length cap, .slice B m.length cb] 92)).heap.size = w.heap.size + 1 := by simp
    have Y1 := Lib.hid hsz
    clear hsz
    have BX_1 := Lib.hid (box3_new w q (.slice A l.length cap) (.slice B m.length cb) 92)
    go_enter Try.func9, Try.ntmps9
    go_wp2_with fail
    generalize (w.alloc (.cells #[.int .i64 q, .slice A l.length cap, .slice B m.length cb] 92)) = w1 at *
    refine (szFw_c q A l.length cap B m.length cb 1048576 _ (by omega) (by omega)).mono ?_
    rintro e w2 ⟨rfl, hb⟩
    have Z2 := Lib.hid (within_of hb).size
    have W2 := Lib.hid (within_on W1.out (within_of hb) W1.out.size (.inr (Nat.le_refl _)))
    have HB_2 := Lib.hid (HB_1.out.within (within_of hb) (by omega))
    have BX_2 := Lib.hid (BX_1.out.within (within_of hb) (by omega))
    clear hb
    have hnn : ¬ (1048576 : Int) - (l.length : Int) - (m.length : Int) < 0 := by omega
    obtain ⟨g01, g02, g03, g04⟩ := BX_2.out
    go_wp2_with fail
    clear g01 g02 g03 g04
    refine (toFw_c q l m A cap B cb _ _ _ HB_2.out hn).mono ?_
    rintro e w3 ⟨g0, g1, rfl, ho, hb⟩
    have Z3 := Lib.hid (within_of hb).size
    have W3 := Lib.hid (within_on W2.out (within_of hb) W2.out.size (.inr (Nat.le_refl _)))
    have HB_3 := Lib.hid (HB_2.out.within (within_of hb) (by omega))
    have BX_3 := Lib.hid (BX_2.out.within (within_of hb) (by omega))
    have SG_3 := Lib.hid (ho.reads)
    clear ho hb
    go_wp2_with fail
    refine (specFfr q l m (some ⟨g0, 0, none⟩) l.length (some ⟨g1, 0, none⟩) m.length _ _ _ SG_3.out hn).mono ?_
    rintro e w4 ⟨rfl, hb⟩
    have Z4 := Lib.hid (within_of hb).size
    have W4 := Lib.hid (within_on W3.out (within_of hb) W3.out.size (.inr (Nat.le_refl _)))
    have HB_4 := Lib.hid (HB_3.out.within (within_of hb) (by omega))
    have BX_4 := Lib.hid (BX_3.out.within (within_of hb) (by omega))
    have SG_4 := Lib.hid (SG_3.out.within (within_of hb) (by omega))
    clear hb
    obtain ⟨g01, g02, g03, g04⟩ := BX_4.out
    go_wp2_with fail
    clear g01 g02 g03 g04
    refine (toFw_c q l m A cap B cb _ _ _ HB_4.out hn).mono ?_
    rintro e w5 ⟨x0, x1, rfl, ho, hb⟩
    have Z5 := Lib.hid (within_of hb).size
    have W5 := Lib.hid (within_on W4.out (within_of hb) W4.out.size (.inr (Nat.le_refl _)))
    have HB_5 := Lib.hid (HB_4.out.within (within_of hb) (by omega))
    have BX_5 := Lib.hid (BX_4.out.within (within_of hb) (by omega))
    have SG_5 := Lib.hid (SG_4.out.within (within_of hb) (by omega))
    have SX_5 := Lib.hid (ho)
    clear ho hb
    go_wp2_with fail
    have hal := new_below w5 (.cells #[.int .i64 q, .slice (some ⟨x0, 0, none⟩) l.length l.length, .slice (some ⟨x1, 0, none⟩) m.length m.length] 97)
    have Z6 := Lib.hid (within_of hal).size
    have W6 := Lib.hid (within_on W5.out (within_of hal) W5.out.size (.inr (Nat.le_refl _)))
    have HB_6 := Lib.hid (HB_5.out.within (within_of hal) (by omega))
    have BX_6 := Lib.hid (BX_5.out.within (within_of hal) (by omega))
    have SG_6 := Lib.hid (SG_5.out.within (within_of hal) (by omega))
    have SX_6 := Lib.hid (SX_5.out.within (within_of hal) (by omega))
    clear hal
    have hsz : (w5.alloc (.cells #[.int .i64 q, .slice (some ⟨x0, 0, none⟩) l.length l.length, .slice (some ⟨x1, 0, none⟩) m.length m.length] 97)).heap.size = w5.heap.size + 1 := by simp
    have Y6 := Lib.hid hsz
    clear hsz
    have XX_6 := Lib.hid (box3_new w5 q (.slice (some ⟨x0, 0, none⟩) l.length l.length) (.slice (some ⟨x1, 0, none⟩) m.length m.length) 97)
    generalize (w5.alloc (.cells #[.int .i64 q, .slice (some ⟨x0, 0, none⟩) l.length l.length, .slice (some ⟨x1, 0, none⟩) m.length m.length] 97)) = w6 at *
    refine (implFfr q l m (some ⟨x0, 0, none⟩) l.length (some ⟨x1, 0, none⟩) m.length _ _ _ SX_6.out.reads hn).mono ?_
    rintro e w7 ⟨rfl, hb⟩
    have Z7 := Lib.hid (within_of hb).size
    have W7 := Lib.hid (within_on W6.out (within_of hb) W6.out.size (.inr (Nat.le_refl _)))
    have HB_7 := Lib.hid (HB_6.out.within (within_of hb) (by omega))
    have BX_7 := Lib.hid (BX_6.out.within (within_of hb) (by omega))
    have SG_7 := Lib.hid (SG_6.out.within (within_of hb) (by omega))
    have SX_7 := Lib.hid (SX_6.out.within (within_of hb) (by omega))
    have XX_7 := Lib.hid (XX_6.out.within (within_of hb) (by omega))
    clear hb
    have kk0 := box3s2 BX_7.out XX_7.out
    have kk := box3s2 BX_7.out XX_7.out
    have hdr : Below w7.heap.size w7 w7.drew := (Below.refl _ _).drew
    have Z8 := Lib.hid (within_of hdr).size
    have W8 := Lib.hid (within_on W7.out (within_of hdr) W7.out.size (.inr (Nat.le_refl _)))
    have HB_8 := Lib.hid (HB_7.out.within (within_of hdr) (by omega))
    have BX_8 := Lib.hid (BX_7.out.within (within_of hdr) (by omega))
    have SG_8 := Lib.hid (SG_7.out.within (within_of hdr) (by omega))
    have SX_8 := Lib.hid (SX_7.out.within (within_of hdr) (by omega))
    have XX_8 := Lib.hid (XX_7.out.within (within_of hdr) (by omega))
    clear hdr
    go_wp2_with fail
    go_region_held3 (fun W' => W'.cell? ⟨w.heap.size, 0, none⟩ = some (.int .i64 q) ∧ W'.cell? ⟨w.heap.size, 1, none⟩ = some (.slice A l.length cap) ∧ W'.cell? ⟨w.heap.size, 2, none⟩ = some (.slice B m.length cb) ∧ W'.cell? ⟨w5.heap.size, 0, none⟩ = some (.int .i64 q) ∧ W'.cell? ⟨w5.heap.size, 1, none⟩ = some (.slice (some ⟨x0, 0, none⟩) l.length l.length) ∧ W'.cell? ⟨w5.heap.size, 2, none⟩ = some (.slice (some ⟨x1, 0, none⟩) m.length m.length))
      (first | exact kk | exact box3s2 BX_9.out XX_9.out | exact box3s2 BX_10.out XX_10.out | fail)
      (first
        | (go_at_call 88; refine (toFw_c q l m A cap B cb _ _ _ HB_8.out hn).mono ?_; rintro e w9 ⟨u0, u1, rfl, ho, hb⟩; have Z9 := Lib.hid (within_of hb).size; have W9 := Lib.hid (within_on W8.out (within_of hb) W8.out.size (.inr (Nat.le_refl _))); have HB_9 := Lib.hid (HB_8.out.within (within_of hb) (by omega)); have BX_9 := Lib.hid (BX_8.out.within (within_of hb) (by omega)); have SG_9 := Lib.hid (SG_8.out.within (within_of hb) (by omega)); have SX_9 := Lib.hid (SX_8.out.within (within_of hb) (by omega)); have XX_9 := Lib.hid (XX_8.out.within (within_of hb) (by omega)); have YY := Lib.hid ho.reads; clear ho hb)
        | (go_at_call 91; refine (eqFw_c q l m _ _ _ _ _ _ _ _ _ _ _ _ _ SX_9.out.reads YY.out hn).mono ?_; rintro e w10 ⟨rfl, hb⟩; have Z10 := Lib.hid (within_of hb).size; have W10 := Lib.hid (within_on W9.out (within_of hb) W9.out.size (.inr (Nat.le_refl _))); have HB_10 := Lib.hid (HB_9.out.within (within_of hb) (by omega)); have BX_10 := Lib.hid (BX_9.out.within (within_of hb) (by omega)); have SG_10 := Lib.hid (SG_9.out.within (within_of hb) (by omega)); have SX_10 := Lib.hid (SX_9.out.within (within_of hb) (by omega)); have XX_10 := Lib.hid (XX_9.out.within (within_of hb) (by omega)); clear hb))
    clear kk0 kk YY
    go_wp2_with fail
    go_ret
    exact ⟨rfl, W10.out⟩
  · have W0 := Lib.hid (Below.refl w.heap.size w)
    have hal := new_below w (.cells #[.int .i64 q, .slice A l.length cap, .slice B m.length cb] 92)
    have Z1 := Lib.hid (within_of hal).size
    have W1 := Lib.hid (within_on W0.out (within_of hal) W0.out.size (.inr (Nat.le_refl _)))
    have HB_1 := Lib.hid (HB_0.out.within (within_of hal) (by omega))
    clear hal
    have hsz : (w.alloc (.cells #[.int .i64 q, .slice A l.length cap, .slice B m.length cb] 92)).heap.size = w.heap.size + 1 := by simp
    have Y1 := Lib.hid hsz
    clear hsz
    have BX_1 := Lib.hid (box3_new w q (.slice A l.length cap) (.slice B m.length cb) 92)
    go_enter Try.func9, Try.ntmps9
    go_wp2_with fail
    generalize (w.alloc (.cells #[.int .i64 q, .slice A l.length cap, .slice B m.length cb] 92)) = w1 at *
    refine (szFw_no q A l.length cap B m.length cb 1048576 _ hl.1 hl.2 (by omega) (by omega) (by omega)).mono ?_
    rintro e w2 ⟨rfl, hb⟩
    have Z2 := Lib.hid (within_of hb).size
    have W2 := Lib.hid (within_on W1.out (within_of hb) W1.out.size (.inr (Nat.le_refl _)))
    have HB_2 := Lib.hid (HB_1.out.within (within_of hb) (by omega))
    have BX_2 := Lib.hid (BX_1.out.within (within_of hb) (by omega))
    clear hb
    go_wp2_with fail
    go_ret
    exact ⟨rfl, W2.out⟩
end Go.Proofs.Ytdkpmaahinbhlaa
/- The law FnExactIsStiff returns true at every input. No condition. -/
namespace Go.Proofs.Ytdkpmaahinbhlaa
open Go.RowKit

set_option maxHeartbeats 4000000 in
set_option maxRecDepth 100000 in
theorem lawIsStiff (q : Int) (A : Option Addr) (cap : Nat) (l : List (Int × Int)) (B : Option Addr) (cb : Nat) (m : List (Int × Int)) (w : World) (hl : l.length ≤ maxLen ∧ m.length ≤ maxLen) (hb : BarsAt w w.heap.size A l) (hc : BarsAt w w.heap.size B m) :
    Calls Try.prog 10 #[.agg #[.int .i64 q, .slice A l.length cap, .slice B m.length cb]] w fun e w' => e = .returned (.bool true) ∧ Below w.heap.size w w' := by
  have HB_0 := Lib.hid (fw_in hb hc)
  clear hb hc
  by_cases hn : l.length + m.length ≤ 1048576
  · have W0 := Lib.hid (Below.refl w.heap.size w)
    have hal := new_below w (.cells #[.int .i64 q, .slice A l.length cap, .slice B m.length cb] 92)
    have Z1 := Lib.hid (within_of hal).size
    have W1 := Lib.hid (within_on W0.out (within_of hal) W0.out.size (.inr (Nat.le_refl _)))
    have HB_1 := Lib.hid (HB_0.out.within (within_of hal) (by omega))
    clear hal
    have hsz : (w.alloc (.cells #[.int .i64 q, .slice A l.length cap, .slice B m.length cb] 92)).heap.size = w.heap.size + 1 := by simp
    have Y1 := Lib.hid hsz
    clear hsz
    have BX_1 := Lib.hid (box3_new w q (.slice A l.length cap) (.slice B m.length cb) 92)
    go_enter Try.func10, Try.ntmps10
    go_wp2_with fail
    generalize (w.alloc (.cells #[.int .i64 q, .slice A l.length cap, .slice B m.length cb] 92)) = w1 at *
    refine (szFw_c q A l.length cap B m.length cb 1048576 _ (by omega) (by omega)).mono ?_
    rintro e w2 ⟨rfl, hb⟩
    have Z2 := Lib.hid (within_of hb).size
    have W2 := Lib.hid (within_on W1.out (within_of hb) W1.out.size (.inr (Nat.le_refl _)))
    have HB_2 := Lib.hid (HB_1.out.within (within_of hb) (by omega))
    have BX_2 := Lib.hid (BX_1.out.within (within_of hb) (by omega))
    clear hb
    have hnn : ¬ (1048576 : Int) - (l.length : Int) - (m.length : Int) < 0 := by omega
    obtain ⟨g01, g02, g03, g04⟩ := BX_2.out
    go_wp2_with fail
    clear g01 g02 g03 g04
    refine (toFw_c q l m A cap B cb _ _ _ HB_2.out hn).mono ?_
    rintro e w3 ⟨g0, g1, rfl, ho, hb⟩
    have Z3 := Lib.hid (within_of hb).size
    have W3 := Lib.hid (within_on W2.out (within_of hb) W2.out.size (.inr (Nat.le_refl _)))
    have HB_3 := Lib.hid (HB_2.out.within (within_of hb) (by omega))
    have BX_3 := Lib.hid (BX_2.out.within (within_of hb) (by omega))
    have SG_3 := Lib.hid (ho.reads)
    clear ho hb
    go_wp2_with fail
    refine (specStf q l m (some ⟨g0, 0, none⟩) l.length (some ⟨g1, 0, none⟩) m.length _ _ _ SG_3.out hn).mono ?_
    rintro e w4 ⟨rfl, hb⟩
    have Z4 := Lib.hid (within_of hb).size
    have W4 := Lib.hid (within_on W3.out (within_of hb) W3.out.size (.inr (Nat.le_refl _)))
    have HB_4 := Lib.hid (HB_3.out.within (within_of hb) (by omega))
    have BX_4 := Lib.hid (BX_3.out.within (within_of hb) (by omega))
    have SG_4 := Lib.hid (SG_3.out.within (within_of hb) (by omega))
    clear hb
    obtain ⟨g01, g02, g03, g04⟩ := BX_4.out
    go_wp2_with fail
    clear g01 g02 g03 g04
    refine (toFw_c q l m A cap B cb _ _ _ HB_4.out hn).mono ?_
    rintro e w5 ⟨x0, x1, rfl, ho, hb⟩
    have Z5 := Lib.hid (within_of hb).size
    have W5 := Lib.hid (within_on W4.out (within_of hb) W4.out.size (.inr (Nat.le_refl _)))
    have HB_5 := Lib.hid (HB_4.out.within (within_of hb) (by omega))
    have BX_5 := Lib.hid (BX_4.out.within (within_of hb) (by omega))
    have SG_5 := Lib.hid (SG_4.out.within (within_of hb) (by omega))
    have SX_5 := Lib.hid (ho)
    clear ho hb
    go_wp2_with fail
    have hal := new_below w5 (.cells #[.int .i64 q, .slice (some ⟨x0, 0, none⟩) l.length l.length, .slice (some ⟨x1, 0, none⟩) m.length m.length] 97)
    have Z6 := Lib.hid (within_of hal).size
    have W6 := Lib.hid (within_on W5.out (within_of hal) W5.out.size (.inr (Nat.le_refl _)))
    have HB_6 := Lib.hid (HB_5.out.within (within_of hal) (by omega))
    have BX_6 := Lib.hid (BX_5.out.within (within_of hal) (by omega))
    have SG_6 := Lib.hid (SG_5.out.within (within_of hal) (by omega))
    have SX_6 := Lib.hid (SX_5.out.within (within_of hal) (by omega))
    clear hal
    have hsz : (w5.alloc (.cells #[.int .i64 q, .slice (some ⟨x0, 0, none⟩) l.length l.length, .slice (some ⟨x1, 0, none⟩) m.length m.length] 97)).heap.size = w5.heap.size + 1 := by simp
    have Y6 := Lib.hid hsz
    clear hsz
    have XX_6 := Lib.hid (box3_new w5 q (.slice (some ⟨x0, 0, none⟩) l.length l.length) (.slice (some ⟨x1, 0, none⟩) m.length m.length) 97)
    generalize (w5.alloc (.cells #[.int .i64 q, .slice (some ⟨x0, 0, none⟩) l.length l.length, .slice (some ⟨x1, 0, none⟩) m.length m.length] 97)) = w6 at *
    refine (implStf q l m (some ⟨x0, 0, none⟩) l.length (some ⟨x1, 0, none⟩) m.length _ _ _ SX_6.out.reads hn).mono ?_
    rintro e w7 ⟨rfl, hb⟩
    have Z7 := Lib.hid (within_of hb).size
    have W7 := Lib.hid (within_on W6.out (within_of hb) W6.out.size (.inr (Nat.le_refl _)))
    have HB_7 := Lib.hid (HB_6.out.within (within_of hb) (by omega))
    have BX_7 := Lib.hid (BX_6.out.within (within_of hb) (by omega))
    have SG_7 := Lib.hid (SG_6.out.within (within_of hb) (by omega))
    have SX_7 := Lib.hid (SX_6.out.within (within_of hb) (by omega))
    have XX_7 := Lib.hid (XX_6.out.within (within_of hb) (by omega))
    clear hb
    have kk0 := box3s2 BX_7.out XX_7.out
    have kk := box3s2 BX_7.out XX_7.out
    have hdr : Below w7.heap.size w7 w7.drew := (Below.refl _ _).drew
    have Z8 := Lib.hid (within_of hdr).size
    have W8 := Lib.hid (within_on W7.out (within_of hdr) W7.out.size (.inr (Nat.le_refl _)))
    have HB_8 := Lib.hid (HB_7.out.within (within_of hdr) (by omega))
    have BX_8 := Lib.hid (BX_7.out.within (within_of hdr) (by omega))
    have SG_8 := Lib.hid (SG_7.out.within (within_of hdr) (by omega))
    have SX_8 := Lib.hid (SX_7.out.within (within_of hdr) (by omega))
    have XX_8 := Lib.hid (XX_7.out.within (within_of hdr) (by omega))
    clear hdr
    go_wp2_with fail
    go_region_held3 (fun W' => W'.cell? ⟨w.heap.size, 0, none⟩ = some (.int .i64 q) ∧ W'.cell? ⟨w.heap.size, 1, none⟩ = some (.slice A l.length cap) ∧ W'.cell? ⟨w.heap.size, 2, none⟩ = some (.slice B m.length cb) ∧ W'.cell? ⟨w5.heap.size, 0, none⟩ = some (.int .i64 q) ∧ W'.cell? ⟨w5.heap.size, 1, none⟩ = some (.slice (some ⟨x0, 0, none⟩) l.length l.length) ∧ W'.cell? ⟨w5.heap.size, 2, none⟩ = some (.slice (some ⟨x1, 0, none⟩) m.length m.length))
      (first | exact kk | exact box3s2 BX_9.out XX_9.out | exact box3s2 BX_10.out XX_10.out | fail)
      (first
        | (go_at_call 88; refine (toFw_c q l m A cap B cb _ _ _ HB_8.out hn).mono ?_; rintro e w9 ⟨u0, u1, rfl, ho, hb⟩; have Z9 := Lib.hid (within_of hb).size; have W9 := Lib.hid (within_on W8.out (within_of hb) W8.out.size (.inr (Nat.le_refl _))); have HB_9 := Lib.hid (HB_8.out.within (within_of hb) (by omega)); have BX_9 := Lib.hid (BX_8.out.within (within_of hb) (by omega)); have SG_9 := Lib.hid (SG_8.out.within (within_of hb) (by omega)); have SX_9 := Lib.hid (SX_8.out.within (within_of hb) (by omega)); have XX_9 := Lib.hid (XX_8.out.within (within_of hb) (by omega)); have YY := Lib.hid ho.reads; clear ho hb)
        | (go_at_call 91; refine (eqFw_c q l m _ _ _ _ _ _ _ _ _ _ _ _ _ SX_9.out.reads YY.out hn).mono ?_; rintro e w10 ⟨rfl, hb⟩; have Z10 := Lib.hid (within_of hb).size; have W10 := Lib.hid (within_on W9.out (within_of hb) W9.out.size (.inr (Nat.le_refl _))); have HB_10 := Lib.hid (HB_9.out.within (within_of hb) (by omega)); have BX_10 := Lib.hid (BX_9.out.within (within_of hb) (by omega)); have SG_10 := Lib.hid (SG_9.out.within (within_of hb) (by omega)); have SX_10 := Lib.hid (SX_9.out.within (within_of hb) (by omega)); have XX_10 := Lib.hid (XX_9.out.within (within_of hb) (by omega)); clear hb))
    clear kk0 kk YY
    go_wp2_with fail
    go_ret
    exact ⟨rfl, W10.out⟩
  · have W0 := Lib.hid (Below.refl w.heap.size w)
    have hal := new_below w (.cells #[.int .i64 q, .slice A l.length cap, .slice B m.length cb] 92)
    have Z1 := Lib.hid (within_of hal).size
    have W1 := Lib.hid (within_on W0.out (within_of hal) W0.out.size (.inr (Nat.le_refl _)))
    have HB_1 := Lib.hid (HB_0.out.within (within_of hal) (by omega))
    clear hal
    have hsz : (w.alloc (.cells #[.int .i64 q, .slice A l.length cap, .slice B m.length cb] 92)).heap.size = w.heap.size + 1 := by simp
    have Y1 := Lib.hid hsz
    clear hsz
    have BX_1 := Lib.hid (box3_new w q (.slice A l.length cap) (.slice B m.length cb) 92)
    go_enter Try.func10, Try.ntmps10
    go_wp2_with fail
    generalize (w.alloc (.cells #[.int .i64 q, .slice A l.length cap, .slice B m.length cb] 92)) = w1 at *
    refine (szFw_no q A l.length cap B m.length cb 1048576 _ hl.1 hl.2 (by omega) (by omega) (by omega)).mono ?_
    rintro e w2 ⟨rfl, hb⟩
    have Z2 := Lib.hid (within_of hb).size
    have W2 := Lib.hid (within_on W1.out (within_of hb) W1.out.size (.inr (Nat.le_refl _)))
    have HB_2 := Lib.hid (HB_1.out.within (within_of hb) (by omega))
    have BX_2 := Lib.hid (BX_1.out.within (within_of hb) (by omega))
    clear hb
    go_wp2_with fail
    go_ret
    exact ⟨rfl, W2.out⟩
end Go.Proofs.Ytdkpmaahinbhlaa
/- What spec.IsIndependentFramework answers. No condition. -/
namespace Go.Proofs.Ytdkpmaahinbhlaa
open Go.RowKit

set_option maxHeartbeats 4000000 in
set_option maxRecDepth 100000 in
theorem specIdf (p : Int) (l m : List (Int × Int)) (A : Option Addr) (ca : Nat) (B : Option Addr) (cb : Nat) (lo hi : Nat) (w : World) (hl : FwIn w lo hi A l B m) (hn : l.length + m.length ≤ 1048576) :
    Calls Try.prog 101 #[.agg #[.int .i64 p, .slice A l.length ca, .slice B m.length cb]] w fun e w' => e = .returned (.bool (idfB p l m)) ∧ Below w.heap.size w w' := by
  have HC := Lib.hid (fun (W : World) (h : FwIn W lo hi A l B m) => specIsF p l m A ca B cb lo hi W h hn)
  have HK := Lib.hid (fun (W : World) (h : FwIn W lo hi A l B m) => specFrk p l m A ca B cb lo hi W h hn)
  by_cases hg : isFB p l m = true
  · have HV := Lib.hid (show idfB p l m = (frkV p l m == (l.length : Int)) from by unfold idfB; rw [hg]; rfl)
    rw [hg] at HC
    clear hg
    obtain ⟨R, hR⟩ : ∃ R, (frkV p l m == (l.length : Int)) = R := ⟨_, rfl⟩
    rw [hR] at HV
    have HRR := Lib.hid hR
    obtain ⟨u, hu⟩ : ∃ u, frkV p l m = u := ⟨_, rfl⟩
    rw [hu] at HK hR
    clear HRR hu
    have HF := Lib.hid (FbI.new (p := p) (ca := ca) (cb := cb) hl 97)
    clear hl
    go_enter Try.func101, Try.ntmps101
    go_wp2_with fail
    generalize (w.alloc (.cells #[.int .i64 p, .slice A l.length ca, .slice B m.length cb] 97)) = w1 at *
    have HR0 := Lib.hid (HF.out.below (show Below w1.heap.size w1 w1.drew from (Below.refl _ _).drew))
    clear HF
    refine wp_region_held_drew (S := (fun W' : World => W'.cell? ⟨w.heap.size, 0, none⟩ = some (.int .i64 p) ∧ W'.cell? ⟨w.heap.size, 1, none⟩ = some (.slice A l.length ca) ∧ W'.cell? ⟨w.heap.size, 2, none⟩ = some (.slice B m.length cb))) (by kernel_rfl) ?_ (fun hHeld => ?_)
    · exact ⟨HR0.out.x.2.1, HR0.out.x.2.2.1, HR0.out.x.2.2.2⟩
    generalize w1.drew = WD at *
    refine wpAnyH_take (i := 0) (v := .agg #[.int .i64 p, .slice A l.length ca, .slice B m.length cb]) rfl (by kernel_rfl) (by kernel_rfl) (by kernel_rfl) (fun _ _ _ h => h) (Or.inl ⟨by kernel_rfl, fun w hSw => by (try dsimp only at hSw); go_simp; all_goals first | omega | exact IntWalk.i64_in _ (by omega)⟩) (by assumption) ?_
    try simp only [Act.put, List.getElem_toArray, List.getElem_cons_zero, List.setIfInBounds_toArray, List.set_cons_zero, List.set_cons_succ]
    refine wpAnyH_ready (rs := [1]) (by kernel_rfl) (by simp) (AllReadyH.cons rfl (fun K hK => ?_) AllReadyH.nil)
    go_simp
    go_at_call 173
    refine (HC.out _ HR0.out.f).mono ?_
    rintro e wz1 ⟨rfl, hb⟩
    have HR1 := Lib.hid (HR0.out.below hb)
    clear hb
    refine hK.out _ _ ⟨HR1.out.x.2.1, HR1.out.x.2.2.1, HR1.out.x.2.2.2⟩ (fun hHeld => ?_)
    clear hK K
    try simp only [Act.put, List.getElem_toArray, List.getElem_cons_zero, List.getElem_cons_succ, List.setIfInBounds_toArray, List.set_cons_zero, List.set_cons_succ]
    refine wpAnyH_take (i := 2) (v := .bool true) rfl (by kernel_rfl) (by kernel_rfl) (by kernel_rfl) (fun _ _ _ h => h) (Or.inl ⟨by kernel_rfl, fun w hSw => by (try dsimp only at hSw); go_simp; all_goals first | omega | exact IntWalk.i64_in _ (by omega)⟩) (by assumption) ?_
    try simp only [Act.put, List.getElem_toArray, List.getElem_cons_zero, List.getElem_cons_succ, List.setIfInBounds_toArray, List.set_cons_zero, List.set_cons_succ]
    refine wpAnyH_take (i := 3) (v := .agg #[.int .i64 p, .slice A l.length ca, .slice B m.length cb]) rfl (by kernel_rfl) (by kernel_rfl) (by kernel_rfl) (fun _ _ _ h => h) (Or.inl ⟨by kernel_rfl, fun w hSw => by (try dsimp only at hSw); go_simp; all_goals first | omega | exact IntWalk.i64_in _ (by omega)⟩) (by assumption) ?_
    try simp only [Act.put, List.getElem_toArray, List.getElem_cons_zero, List.getElem_cons_succ, List.setIfInBounds_toArray, List.set_cons_zero, List.set_cons_succ]
    refine wpAnyH_take (i := 5) (v := .pointer (some ⟨w.heap.size, 0, none⟩)) rfl (by kernel_rfl) (by kernel_rfl) (by kernel_rfl) (fun _ _ _ h => h) (Or.inl ⟨by kernel_rfl, fun w hSw => by (try dsimp only at hSw); go_simp; all_goals first | omega | exact IntWalk.i64_in _ (by omega)⟩) (by assumption) ?_
    try simp only [Act.put, List.getElem_toArray, List.getElem_cons_zero, List.getElem_cons_succ, List.setIfInBounds_toArray, List.set_cons_zero, List.set_cons_succ]
    refine wpAnyH_take (i := 6) (v := .pointer (some ⟨w.heap.size, 1, none⟩)) rfl (by kernel_rfl) (by kernel_rfl) (by kernel_rfl) (fun _ _ _ h => h) (Or.inl ⟨by kernel_rfl, fun w hSw => by (try dsimp only at hSw); go_simp; all_goals first | omega | exact IntWalk.i64_in _ (by omega)⟩) (by assumption) ?_
    try simp only [Act.put, List.getElem_toArray, List.getElem_cons_zero, List.getElem_cons_succ, List.setIfInBounds_toArray, List.set_cons_zero, List.set_cons_succ]
    refine wpAnyH_take (i := 7) (v := .slice A l.length ca) rfl (by kernel_rfl) (by kernel_rfl) (by kernel_rfl) (fun _ _ _ h => h) (Or.inl ⟨by kernel_rfl, fun w hSw => by (try dsimp only at hSw); go_simp; all_goals first | omega | exact IntWalk.i64_in _ (by omega)⟩) (by assumption) ?_
    try simp only [Act.put, List.getElem_toArray, List.getElem_cons_zero, List.getElem_cons_succ, List.setIfInBounds_toArray, List.set_cons_zero, List.set_cons_succ]
    refine wpAnyH_take (i := 8) (v := .int .i64 (l.length : Int)) rfl (by kernel_rfl) (by kernel_rfl) (by kernel_rfl) (fun _ _ _ h => h) (Or.inl ⟨by kernel_rfl, fun w hSw => by (try dsimp only at hSw); go_simp; all_goals first | omega | exact IntWalk.i64_in _ (by omega)⟩) (by assumption) ?_
    try simp only [Act.put, List.getElem_toArray, List.getElem_cons_zero, List.getElem_cons_succ, List.setIfInBounds_toArray, List.set_cons_zero, List.set_cons_succ]
    refine wpAnyH_ready (rs := [4]) (by kernel_rfl) (by simp) (AllReadyH.cons rfl (fun K hK => ?_) AllReadyH.nil)
    go_simp
    go_at_call 95
    refine (HK.out _ HR1.out.f).mono ?_
    rintro e wz2 ⟨rfl, hb⟩
    have HR2 := Lib.hid (HR1.out.below hb)
    clear hb
    refine hK.out _ _ ⟨HR2.out.x.2.1, HR2.out.x.2.2.1, HR2.out.x.2.2.2⟩ (fun hHeld => ?_)
    clear hK K
    try simp only [Act.put, List.getElem_toArray, List.getElem_cons_zero, List.getElem_cons_succ, List.setIfInBounds_toArray, List.set_cons_zero, List.set_cons_succ]
    refine wpAnyH_take (i := 9) (v := .bool R) rfl (by kernel_rfl) (by kernel_rfl) (by kernel_rfl) (fun _ _ _ h => h) (Or.inl ⟨by kernel_rfl, fun w hSw => by (try dsimp only at hSw); go_simp; all_goals first | omega | exact IntWalk.i64_in _ (by omega)⟩) (by assumption) ?_
    try simp only [Act.put, List.getElem_toArray, List.getElem_cons_zero, List.getElem_cons_succ, List.setIfInBounds_toArray, List.set_cons_zero, List.set_cons_succ]
    refine wpAnyH_take (i := 10) (v := .bool R) rfl (by kernel_rfl) (by kernel_rfl) (by kernel_rfl) (fun _ _ _ h => h) (Or.inl ⟨by kernel_rfl, fun w hSw => by (try dsimp only at hSw); go_simp; all_goals first | omega | exact IntWalk.i64_in _ (by omega)⟩) (by assumption) ?_
    try simp only [Act.put, List.getElem_toArray, List.getElem_cons_zero, List.getElem_cons_succ, List.setIfInBounds_toArray, List.set_cons_zero, List.set_cons_succ]
    refine wpAnyH_ready (rs := [11]) (by kernel_rfl) (by simp) (AllReadyH.cons rfl (fun K hK => ?_) AllReadyH.nil)
    go_simp
    refine hK.out _ _ ⟨HR2.out.x.2.1, HR2.out.x.2.2.1, HR2.out.x.2.2.2⟩ (fun hHeld => ?_)
    clear hK K
    try simp only [Act.put, List.getElem_toArray, List.getElem_cons_zero, List.getElem_cons_succ, List.setIfInBounds_toArray, List.set_cons_zero, List.set_cons_succ]
    refine wpAnyH_done (by kernel_rfl) ?_ _
    clear hHeld
    go_wp2_with fail
    go_ret
    exact ⟨by rw [HV.out]; rfl, HR2.out.b⟩
  · have hgf : isFB p l m = false := by simpa using hg
    have HV := Lib.hid (show idfB p l m = false from by unfold idfB; rw [hgf]; rfl)
    rw [hgf] at HC
    clear hg hgf
    have HF := Lib.hid (FbI.new (p := p) (ca := ca) (cb := cb) hl 97)
    clear hl
    go_enter Try.func101, Try.ntmps101
    go_wp2_with fail
    generalize (w.alloc (.cells #[.int .i64 p, .slice A l.length ca, .slice B m.length cb] 97)) = w1 at *
    have HR0 := Lib.hid (HF.out.below (show Below w1.heap.size w1 w1.drew from (Below.refl _ _).drew))
    clear HF
    refine wp_region_held_drew (S := (fun W' : World => W'.cell? ⟨w.heap.size, 0, none⟩ = some (.int .i64 p) ∧ W'.cell? ⟨w.heap.size, 1, none⟩ = some (.slice A l.length ca) ∧ W'.cell? ⟨w.heap.size, 2, none⟩ = some (.slice B m.length cb))) (by kernel_rfl) ?_ (fun hHeld => ?_)
    · exact ⟨HR0.out.x.2.1, HR0.out.x.2.2.1, HR0.out.x.2.2.2⟩
    generalize w1.drew = WD at *
    refine wpAnyH_take (i := 0) (v := .agg #[.int .i64 p, .slice A l.length ca, .slice B m.length cb]) rfl (by kernel_rfl) (by kernel_rfl) (by kernel_rfl) (fun _ _ _ h => h) (Or.inl ⟨by kernel_rfl, fun w hSw => by (try dsimp only at hSw); go_simp; all_goals first | omega | exact IntWalk.i64_in _ (by omega)⟩) (by assumption) ?_
    try simp only [Act.put, List.getElem_toArray, List.getElem_cons_zero, List.setIfInBounds_toArray, List.set_cons_zero, List.set_cons_succ]
    refine wpAnyH_ready (rs := [1]) (by kernel_rfl) (by simp) (AllReadyH.cons rfl (fun K hK => ?_) AllReadyH.nil)
    go_simp
    go_at_call 173
    refine (HC.out _ HR0.out.f).mono ?_
    rintro e wz1 ⟨rfl, hb⟩
    have HR1 := Lib.hid (HR0.out.below hb)
    clear hb
    refine hK.out _ _ ⟨HR1.out.x.2.1, HR1.out.x.2.2.1, HR1.out.x.2.2.2⟩ (fun hHeld => ?_)
    clear hK K
    try simp only [Act.put, List.getElem_toArray, List.getElem_cons_zero, List.getElem_cons_succ, List.setIfInBounds_toArray, List.set_cons_zero, List.set_cons_succ]
    refine wpAnyH_take (i := 2) (v := .bool false) rfl (by kernel_rfl) (by kernel_rfl) (by kernel_rfl) (fun _ _ _ h => h) (Or.inl ⟨by kernel_rfl, fun w hSw => by (try dsimp only at hSw); go_simp; all_goals first | omega | exact IntWalk.i64_in _ (by omega)⟩) (by assumption) ?_
    try simp only [Act.put, List.getElem_toArray, List.getElem_cons_zero, List.getElem_cons_succ, List.setIfInBounds_toArray, List.set_cons_zero, List.set_cons_succ]
    refine wpAnyH_take (i := 3) (v := undef) rfl (by kernel_rfl) (by kernel_rfl) (by kernel_rfl) (fun _ _ _ h => h) (Or.inr ⟨by kernel_rfl, rfl⟩) (by assumption) ?_
    try simp only [Act.put, List.getElem_toArray, List.getElem_cons_zero, List.getElem_cons_succ, List.setIfInBounds_toArray, List.set_cons_zero, List.set_cons_succ]
    refine wpAnyH_take (i := 4) (v := undef) rfl (by kernel_rfl) (by kernel_rfl) (by kernel_rfl) (fun _ _ _ h => h) (Or.inr ⟨by kernel_rfl, rfl⟩) (by assumption) ?_
    try simp only [Act.put, List.getElem_toArray, List.getElem_cons_zero, List.getElem_cons_succ, List.setIfInBounds_toArray, List.set_cons_zero, List.set_cons_succ]
    refine wpAnyH_take (i := 5) (v := undef) rfl (by kernel_rfl) (by kernel_rfl) (by kernel_rfl) (fun _ _ _ h => h) (Or.inr ⟨by kernel_rfl, rfl⟩) (by assumption) ?_
    try simp only [Act.put, List.getElem_toArray, List.getElem_cons_zero, List.getElem_cons_succ, List.setIfInBounds_toArray, List.set_cons_zero, List.set_cons_succ]
    refine wpAnyH_take (i := 6) (v := undef) rfl (by kernel_rfl) (by kernel_rfl) (by kernel_rfl) (fun _ _ _ h => h) (Or.inr ⟨by kernel_rfl, rfl⟩) (by assumption) ?_
    try simp only [Act.put, List.getElem_toArray, List.getElem_cons_zero, List.getElem_cons_succ, List.setIfInBounds_toArray, List.set_cons_zero, List.set_cons_succ]
    refine wpAnyH_take (i := 7) (v := undef) rfl (by kernel_rfl) (by kernel_rfl) (by kernel_rfl) (fun _ _ _ h => h) (Or.inr ⟨by kernel_rfl, rfl⟩) (by assumption) ?_
    try simp only [Act.put, List.getElem_toArray, List.getElem_cons_zero, List.getElem_cons_succ, List.setIfInBounds_toArray, List.set_cons_zero, List.set_cons_succ]
    refine wpAnyH_take (i := 8) (v := undef) rfl (by kernel_rfl) (by kernel_rfl) (by kernel_rfl) (fun _ _ _ h => h) (Or.inr ⟨by kernel_rfl, rfl⟩) (by assumption) ?_
    try simp only [Act.put, List.getElem_toArray, List.getElem_cons_zero, List.getElem_cons_succ, List.setIfInBounds_toArray, List.set_cons_zero, List.set_cons_succ]
    refine wpAnyH_take (i := 9) (v := undef) rfl (by kernel_rfl) (by kernel_rfl) (by kernel_rfl) (fun _ _ _ h => h) (Or.inr ⟨by kernel_rfl, rfl⟩) (by assumption) ?_
    try simp only [Act.put, List.getElem_toArray, List.getElem_cons_zero, List.getElem_cons_succ, List.setIfInBounds_toArray, List.set_cons_zero, List.set_cons_succ]
    refine wpAnyH_take (i := 10) (v := .bool false) rfl (by kernel_rfl) (by kernel_rfl) (by kernel_rfl) (fun _ _ _ h => h) (Or.inl ⟨by kernel_rfl, fun w hSw => by (try dsimp only at hSw); go_simp; all_goals first | omega | exact IntWalk.i64_in _ (by omega)⟩) (by assumption) ?_
    try simp only [Act.put, List.getElem_toArray, List.getElem_cons_zero, List.getElem_cons_succ, List.setIfInBounds_toArray, List.set_cons_zero, List.set_cons_succ]
    refine wpAnyH_ready (rs := [11]) (by kernel_rfl) (by simp) (AllReadyH.cons rfl (fun K hK => ?_) AllReadyH.nil)
    go_simp
    refine hK.out _ _ ⟨HR1.out.x.2.1, HR1.out.x.2.2.1, HR1.out.x.2.2.2⟩ (fun hHeld => ?_)
    clear hK K
    try simp only [Act.put, List.getElem_toArray, List.getElem_cons_zero, List.getElem_cons_succ, List.setIfInBounds_toArray, List.set_cons_zero, List.set_cons_succ]
    refine wpAnyH_done (by kernel_rfl) ?_ _
    clear hHeld
    go_wp2_with fail
    go_ret
    exact ⟨by rw [HV.out]; rfl, HR1.out.b⟩
end Go.Proofs.Ytdkpmaahinbhlaa
/- What impl.IsIndependentFramework answers. No condition. -/
namespace Go.Proofs.Ytdkpmaahinbhlaa
open Go.RowKit

set_option maxHeartbeats 4000000 in
set_option maxRecDepth 100000 in
theorem implIdf (p : Int) (l m : List (Int × Int)) (A : Option Addr) (ca : Nat) (B : Option Addr) (cb : Nat) (lo hi : Nat) (w : World) (hl : FwIn w lo hi A l B m) (hn : l.length + m.length ≤ 1048576) :
    Calls Try.prog 102 #[.agg #[.int .i64 p, .slice A l.length ca, .slice B m.length cb]] w fun e w' => e = .returned (.bool (idfB p l m)) ∧ Below w.heap.size w w' := by
  have HK := Lib.hid (fun (W : World) (h : FwIn W lo hi A l B m) => implFrk p l m A ca B cb lo hi W h hn)
  have HV := Lib.hid (show idfB p l m = (frkV p l m == (l.length : Int)) from by
    unfold idfB
    by_cases hg : isFB p l m = true
    · rw [hg]; rfl
    · have hgf : isFB p l m = false := by simpa using hg
      rw [hgf, frkV_no hgf, Bool.false_and]
      symm
      simp)
  obtain ⟨u, hu⟩ : ∃ u, frkV p l m = u := ⟨_, rfl⟩
  rw [hu] at HK HV
  clear hu
  have HF := Lib.hid (FbI.new (p := p) (ca := ca) (cb := cb) hl 97)
  clear hl
  go_enter Try.func102, Try.ntmps102
  go_wp2_with fail
  generalize (w.alloc (.cells #[.int .i64 p, .slice A l.length ca, .slice B m.length cb] 97)) = w1 at *
  obtain ⟨_, x0, x1, x2⟩ := HF.out.x
  have HR0 := Lib.hid (HF.out.below (show Below _ _ (World.drew _) from (Below.refl _ _).drew))
  go_region_held3 (fun W' => W'.cell? ⟨w.heap.size, 0, none⟩ = some (.int .i64 p) ∧ W'.cell? ⟨w.heap.size, 1, none⟩ = some (.slice A l.length ca) ∧ W'.cell? ⟨w.heap.size, 2, none⟩ = some (.slice B m.length cb))
    (first | exact ⟨HR0.out.x.2.1, HR0.out.x.2.2.1, HR0.out.x.2.2.2⟩ | exact ⟨HR1.out.x.2.1, HR1.out.x.2.2.1, HR1.out.x.2.2.2⟩ | fail)
    (first
      | (go_at_call 96; refine (HK.out _ HR0.out.f).mono ?_; rintro e wz1 ⟨rfl, hb⟩; have HR1 := Lib.hid (HR0.out.below hb); clear hb)
      | fail)
  go_wp2_with fail
  go_ret
  exact ⟨by rw [HV.out]; rfl, HR1.out.b⟩
end Go.Proofs.Ytdkpmaahinbhlaa
/- The law FnExactIsIndependentFramework returns true at every input. No condition. -/
namespace Go.Proofs.Ytdkpmaahinbhlaa
open Go.RowKit

set_option maxHeartbeats 4000000 in
set_option maxRecDepth 100000 in
theorem lawIsIndependentFramework (q : Int) (A : Option Addr) (cap : Nat) (l : List (Int × Int)) (B : Option Addr) (cb : Nat) (m : List (Int × Int)) (w : World) (hl : l.length ≤ maxLen ∧ m.length ≤ maxLen) (hb : BarsAt w w.heap.size A l) (hc : BarsAt w w.heap.size B m) :
    Calls Try.prog 11 #[.agg #[.int .i64 q, .slice A l.length cap, .slice B m.length cb]] w fun e w' => e = .returned (.bool true) ∧ Below w.heap.size w w' := by
  have HB_0 := Lib.hid (fw_in hb hc)
  clear hb hc
  by_cases hn : l.length + m.length ≤ 1048576
  · have W0 := Lib.hid (Below.refl w.heap.size w)
    have hal := new_below w (.cells #[.int .i64 q, .slice A l.length cap, .slice B m.length cb] 92)
    have Z1 := Lib.hid (within_of hal).size
    have W1 := Lib.hid (within_on W0.out (within_of hal) W0.out.size (.inr (Nat.le_refl _)))
    have HB_1 := Lib.hid (HB_0.out.within (within_of hal) (by omega))
    clear hal
    have hsz : (w.alloc (.cells #[.int .i64 q, .slice A l.length cap, .slice B m.length cb] 92)).heap.size = w.heap.size + 1 := by simp
    have Y1 := Lib.hid hsz
    clear hsz
    have BX_1 := Lib.hid (box3_new w q (.slice A l.length cap) (.slice B m.length cb) 92)
    go_enter Try.func11, Try.ntmps11
    go_wp2_with fail
    generalize (w.alloc (.cells #[.int .i64 q, .slice A l.length cap, .slice B m.length cb] 92)) = w1 at *
    refine (szFw_c q A l.length cap B m.length cb 1048576 _ (by omega) (by omega)).mono ?_
    rintro e w2 ⟨rfl, hb⟩
    have Z2 := Lib.hid (within_of hb).size
    have W2 := Lib.hid (within_on W1.out (within_of hb) W1.out.size (.inr (Nat.le_refl _)))
    have HB_2 := Lib.hid (HB_1.out.within (within_of hb) (by omega))
    have BX_2 := Lib.hid (BX_1.out.within (within_of hb) (by omega))
    clear hb
    have hnn : ¬ (1048576 : Int) - (l.length : Int) - (m.length : Int) < 0 := by omega
    obtain ⟨g01, g02, g03, g04⟩ := BX_2.out
    go_wp2_with fail
    clear g01 g02 g03 g04
    refine (toFw_c q l m A cap B cb _ _ _ HB_2.out hn).mono ?_
    rintro e w3 ⟨g0, g1, rfl, ho, hb⟩
    have Z3 := Lib.hid (within_of hb).size
    have W3 := Lib.hid (within_on W2.out (within_of hb) W2.out.size (.inr (Nat.le_refl _)))
    have HB_3 := Lib.hid (HB_2.out.within (within_of hb) (by omega))
    have BX_3 := Lib.hid (BX_2.out.within (within_of hb) (by omega))
    have SG_3 := Lib.hid (ho.reads)
    clear ho hb
    go_wp2_with fail
    refine (specIdf q l m (some ⟨g0, 0, none⟩) l.length (some ⟨g1, 0, none⟩) m.length _ _ _ SG_3.out hn).mono ?_
    rintro e w4 ⟨rfl, hb⟩
    have Z4 := Lib.hid (within_of hb).size
    have W4 := Lib.hid (within_on W3.out (within_of hb) W3.out.size (.inr (Nat.le_refl _)))
    have HB_4 := Lib.hid (HB_3.out.within (within_of hb) (by omega))
    have BX_4 := Lib.hid (BX_3.out.within (within_of hb) (by omega))
    have SG_4 := Lib.hid (SG_3.out.within (within_of hb) (by omega))
    clear hb
    obtain ⟨g01, g02, g03, g04⟩ := BX_4.out
    go_wp2_with fail
    clear g01 g02 g03 g04
    refine (toFw_c q l m A cap B cb _ _ _ HB_4.out hn).mono ?_
    rintro e w5 ⟨x0, x1, rfl, ho, hb⟩
    have Z5 := Lib.hid (within_of hb).size
    have W5 := Lib.hid (within_on W4.out (within_of hb) W4.out.size (.inr (Nat.le_refl _)))
    have HB_5 := Lib.hid (HB_4.out.within (within_of hb) (by omega))
    have BX_5 := Lib.hid (BX_4.out.within (within_of hb) (by omega))
    have SG_5 := Lib.hid (SG_4.out.within (within_of hb) (by omega))
    have SX_5 := Lib.hid (ho)
    clear ho hb
    go_wp2_with fail
    have hal := new_below w5 (.cells #[.int .i64 q, .slice (some ⟨x0, 0, none⟩) l.length l.length, .slice (some ⟨x1, 0, none⟩) m.length m.length] 97)
    have Z6 := Lib.hid (within_of hal).size
    have W6 := Lib.hid (within_on W5.out (within_of hal) W5.out.size (.inr (Nat.le_refl _)))
    have HB_6 := Lib.hid (HB_5.out.within (within_of hal) (by omega))
    have BX_6 := Lib.hid (BX_5.out.within (within_of hal) (by omega))
    have SG_6 := Lib.hid (SG_5.out.within (within_of hal) (by omega))
    have SX_6 := Lib.hid (SX_5.out.within (within_of hal) (by omega))
    clear hal
    have hsz : (w5.alloc (.cells #[.int .i64 q, .slice (some ⟨x0, 0, none⟩) l.length l.length, .slice (some ⟨x1, 0, none⟩) m.length m.length] 97)).heap.size = w5.heap.size + 1 := by simp
    have Y6 := Lib.hid hsz
    clear hsz
    have XX_6 := Lib.hid (box3_new w5 q (.slice (some ⟨x0, 0, none⟩) l.length l.length) (.slice (some ⟨x1, 0, none⟩) m.length m.length) 97)
    generalize (w5.alloc (.cells #[.int .i64 q, .slice (some ⟨x0, 0, none⟩) l.length l.length, .slice (some ⟨x1, 0, none⟩) m.length m.length] 97)) = w6 at *
    refine (implIdf q l m (some ⟨x0, 0, none⟩) l.length (some ⟨x1, 0, none⟩) m.length _ _ _ SX_6.out.reads hn).mono ?_
    rintro e w7 ⟨rfl, hb⟩
    have Z7 := Lib.hid (within_of hb).size
    have W7 := Lib.hid (within_on W6.out (within_of hb) W6.out.size (.inr (Nat.le_refl _)))
    have HB_7 := Lib.hid (HB_6.out.within (within_of hb) (by omega))
    have BX_7 := Lib.hid (BX_6.out.within (within_of hb) (by omega))
    have SG_7 := Lib.hid (SG_6.out.within (within_of hb) (by omega))
    have SX_7 := Lib.hid (SX_6.out.within (within_of hb) (by omega))
    have XX_7 := Lib.hid (XX_6.out.within (within_of hb) (by omega))
    clear hb
    have kk0 := box3s2 BX_7.out XX_7.out
    have kk := box3s2 BX_7.out XX_7.out
    have hdr : Below w7.heap.size w7 w7.drew := (Below.refl _ _).drew
    have Z8 := Lib.hid (within_of hdr).size
    have W8 := Lib.hid (within_on W7.out (within_of hdr) W7.out.size (.inr (Nat.le_refl _)))
    have HB_8 := Lib.hid (HB_7.out.within (within_of hdr) (by omega))
    have BX_8 := Lib.hid (BX_7.out.within (within_of hdr) (by omega))
    have SG_8 := Lib.hid (SG_7.out.within (within_of hdr) (by omega))
    have SX_8 := Lib.hid (SX_7.out.within (within_of hdr) (by omega))
    have XX_8 := Lib.hid (XX_7.out.within (within_of hdr) (by omega))
    clear hdr
    go_wp2_with fail
    go_region_held3 (fun W' => W'.cell? ⟨w.heap.size, 0, none⟩ = some (.int .i64 q) ∧ W'.cell? ⟨w.heap.size, 1, none⟩ = some (.slice A l.length cap) ∧ W'.cell? ⟨w.heap.size, 2, none⟩ = some (.slice B m.length cb) ∧ W'.cell? ⟨w5.heap.size, 0, none⟩ = some (.int .i64 q) ∧ W'.cell? ⟨w5.heap.size, 1, none⟩ = some (.slice (some ⟨x0, 0, none⟩) l.length l.length) ∧ W'.cell? ⟨w5.heap.size, 2, none⟩ = some (.slice (some ⟨x1, 0, none⟩) m.length m.length))
      (first | exact kk | exact box3s2 BX_9.out XX_9.out | exact box3s2 BX_10.out XX_10.out | fail)
      (first
        | (go_at_call 88; refine (toFw_c q l m A cap B cb _ _ _ HB_8.out hn).mono ?_; rintro e w9 ⟨u0, u1, rfl, ho, hb⟩; have Z9 := Lib.hid (within_of hb).size; have W9 := Lib.hid (within_on W8.out (within_of hb) W8.out.size (.inr (Nat.le_refl _))); have HB_9 := Lib.hid (HB_8.out.within (within_of hb) (by omega)); have BX_9 := Lib.hid (BX_8.out.within (within_of hb) (by omega)); have SG_9 := Lib.hid (SG_8.out.within (within_of hb) (by omega)); have SX_9 := Lib.hid (SX_8.out.within (within_of hb) (by omega)); have XX_9 := Lib.hid (XX_8.out.within (within_of hb) (by omega)); have YY := Lib.hid ho.reads; clear ho hb)
        | (go_at_call 91; refine (eqFw_c q l m _ _ _ _ _ _ _ _ _ _ _ _ _ SX_9.out.reads YY.out hn).mono ?_; rintro e w10 ⟨rfl, hb⟩; have Z10 := Lib.hid (within_of hb).size; have W10 := Lib.hid (within_on W9.out (within_of hb) W9.out.size (.inr (Nat.le_refl _))); have HB_10 := Lib.hid (HB_9.out.within (within_of hb) (by omega)); have BX_10 := Lib.hid (BX_9.out.within (within_of hb) (by omega)); have SG_10 := Lib.hid (SG_9.out.within (within_of hb) (by omega)); have SX_10 := Lib.hid (SX_9.out.within (within_of hb) (by omega)); have XX_10 := Lib.hid (XX_9.out.within (within_of hb) (by omega)); clear hb))
    clear kk0 kk YY
    go_wp2_with fail
    go_ret
    exact ⟨rfl, W10.out⟩
  · have W0 := Lib.hid (Below.refl w.heap.size w)
    have hal := new_below w (.cells #[.int .i64 q, .slice A l.length cap, .slice B m.length cb] 92)
    have Z1 := Lib.hid (within_of hal).size
    have W1 := Lib.hid (within_on W0.out (within_of hal) W0.out.size (.inr (Nat.le_refl _)))
    have HB_1 := Lib.hid (HB_0.out.within (within_of hal) (by omega))
    clear hal
    have hsz : (w.alloc (.cells #[.int .i64 q, .slice A l.length cap, .slice B m.length cb] 92)).heap.size = w.heap.size + 1 := by simp
    have Y1 := Lib.hid hsz
    clear hsz
    have BX_1 := Lib.hid (box3_new w q (.slice A l.length cap) (.slice B m.length cb) 92)
    go_enter Try.func11, Try.ntmps11
    go_wp2_with fail
    generalize (w.alloc (.cells #[.int .i64 q, .slice A l.length cap, .slice B m.length cb] 92)) = w1 at *
    refine (szFw_no q A l.length cap B m.length cb 1048576 _ hl.1 hl.2 (by omega) (by omega) (by omega)).mono ?_
    rintro e w2 ⟨rfl, hb⟩
    have Z2 := Lib.hid (within_of hb).size
    have W2 := Lib.hid (within_on W1.out (within_of hb) W1.out.size (.inr (Nat.le_refl _)))
    have HB_2 := Lib.hid (HB_1.out.within (within_of hb) (by omega))
    have BX_2 := Lib.hid (BX_1.out.within (within_of hb) (by omega))
    clear hb
    go_wp2_with fail
    go_ret
    exact ⟨rfl, W2.out⟩
end Go.Proofs.Ytdkpmaahinbhlaa
/- As many bars are placed as there are, at most. No program. No condition. -/
namespace Go.Proofs.Ytdkpmaahinbhlaa
open Go.RowKit

theorem IsPeb.many {p k : Int} {l : List (Int × Int)} {F T Z : List Int} (h : IsPeb p k l F T Z) : Z.length ≤ l.length := by
  have q : ∀ i, i < Z.length → (i : Int) ≤ Z.getD i 0 := by
    intro i
    induction i with
    | zero => intro hi; exact (h.2.2.2.2.1 0 hi).1.1
    | succ i ih =>
      intro hi
      have h1 := ih (by omega)
      have h2 := (h.2.2.2.2.1 (i + 1) hi).2.1 (by omega)
      rw [show i + 1 - 1 = i by omega] at h2
      omega
  by_cases h0 : 0 < Z.length
  · have h1 := q (Z.length - 1) (by omega)
    have h2 := (h.2.2.2.2.1 (Z.length - 1) (by omega)).1.2
    omega
  · omega
end Go.Proofs.Ytdkpmaahinbhlaa
/- What IsRange answers, the specification's and the program's. No condition. -/
namespace Go.Proofs.Ytdkpmaahinbhlaa
open Go.RowKit

set_option maxRecDepth 100000 in
theorem implRange (k c : Int) (w : World) :
    Calls Try.prog 108 #[.int .i64 k, .int .i64 c] w fun e w' => e = .returned (.bool (rangeB k c)) ∧ w = w' := by
  by_cases h1 : 1 ≤ k
  · by_cases h2 : k ≤ 3
    · by_cases h3 : 0 ≤ c
      · by_cases h4 : c ≤ 2 * k - 1
        all_goals
          have HR := Lib.hid (show rangeB k c = decide (c ≤ 2 * k - 1) by simp [rangeB, h1, h2, h3])
          rw [show decide (c ≤ 2 * k - 1) = _ from by first | exact decide_eq_true h4 | exact decide_eq_false h4] at HR
          go_enter Try.func108, Try.ntmps108
          go_wp2
          go_ret
          exact ⟨by rw [HR.out]; try simp [*], rfl⟩
      · have HR := Lib.hid (show rangeB k c = false by simp [rangeB, h3])
        go_enter Try.func108, Try.ntmps108
        go_wp2
        go_ret
        exact ⟨by rw [HR.out]; try simp [*], rfl⟩
    · have HR := Lib.hid (show rangeB k c = false by simp [rangeB, h2])
      go_enter Try.func108, Try.ntmps108
      go_wp2
      go_ret
      exact ⟨by rw [HR.out]; try simp [*], rfl⟩
  · have HR := Lib.hid (show rangeB k c = false by simp [rangeB, h1])
    go_enter Try.func108, Try.ntmps108
    go_wp2
    go_ret
    exact ⟨by rw [HR.out]; try simp [*], rfl⟩

set_option maxRecDepth 100000 in
theorem specRange (k c : Int) (w : World) :
    Calls Try.prog 110 #[.int .i64 k, .int .i64 c] w fun e w' => e = .returned (.bool (rangeB k c)) ∧ w = w' := by
  by_cases h1 : 1 ≤ k
  · by_cases h2 : k ≤ 3
    · by_cases h3 : 0 ≤ c
      · by_cases h4 : c < 2 * k
        all_goals
          have HR := Lib.hid (show rangeB k c = decide (c < 2 * k) by simp [rangeB, h1, h2, h3]; omega)
          rw [show decide (c < 2 * k) = _ from by first | exact decide_eq_true h4 | exact decide_eq_false h4] at HR
          go_enter Try.func110, Try.ntmps110
          go_wp2
          go_ret
          exact ⟨by rw [HR.out]; try simp [*], rfl⟩
      · have HR := Lib.hid (show rangeB k c = false by simp [rangeB, h3])
        go_enter Try.func110, Try.ntmps110
        go_wp2
        go_ret
        exact ⟨by rw [HR.out]; try simp [*], rfl⟩
    · have HR := Lib.hid (show rangeB k c = false by simp [rangeB, h2])
      go_enter Try.func110, Try.ntmps110
      go_wp2
      go_ret
      exact ⟨by rw [HR.out]; try simp [*], rfl⟩
  · have HR := Lib.hid (show rangeB k c = false by simp [rangeB, h1])
    go_enter Try.func110, Try.ntmps110
    go_wp2
    go_ret
    exact ⟨by rw [HR.out]; try simp [*], rfl⟩

end Go.Proofs.Ytdkpmaahinbhlaa
/- How long the rows of a state are behind a bar's placing. No program. No condition. -/
namespace Go.Proofs.Ytdkpmaahinbhlaa
open Go.RowKit

theorem rangeB_is {k c : Int} (h : rangeB k c = true) : (1 ≤ k ∧ k ≤ 3) ∧ 0 ≤ c ∧ c < 2 * k := by
  unfold rangeB at h
  simp only [Bool.and_eq_true, decide_eq_true_eq] at h
  omega
theorem IsPeb.lens {p k : Int} {l : List (Int × Int)} {F T Z : List Int} (h : IsPeb p k l F T Z) : F.length ≤ 8 ∧ T.length ≤ 24 ∧ Z.length ≤ 24 := by
  have h1 := h.1.1
  have h2 := h.1.2.1
  have h3 := h.2.2.1
  have h4 := h.2.2.2.1
  have h5 := h.many
  omega
/-- Placing a bar leaves the rows short. -/
theorem plaV_len (p k c : Int) (l : List (Int × Int)) (F T Z : List Int) (n : Int) (hF : F.length ≤ 1048576) (hT : T.length ≤ 1048576) (hZ : Z.length ≤ 1048576) :
    ((plaV p k c l F T Z n).getD (F, T, Z)).1.length ≤ 1048576 ∧ ((plaV p k c l F T Z n).getD (F, T, Z)).2.1.length ≤ 1048576 ∧ ((plaV p k c l F T Z n).getD (F, T, Z)).2.2.length ≤ 1048576 := by
  cases e : plaV p k c l F T Z n with
  | none => exact ⟨hF, hT, hZ⟩
  | some s =>
    unfold plaV at e
    by_cases q : isPebB p k l F T Z = true ∧ rangeB k c = true ∧ (0 ≤ n ∧ n < (l.length : Int)) ∧ (Z ≠ [] → Z.getD (Z.length - 1) 0 < n)
    · rw [if_pos q] at e
      have h := (plaR_ok (isPebB_is q.1) (rangeB_is q.2.1).2.1 q.2.2.1 q.2.2.2 e).1.lens
      rw [Option.getD_some]
      omega
    · rw [if_neg q] at e; cases e
end Go.Proofs.Ytdkpmaahinbhlaa
/- What the pebble game answers, bar by bar. No program. No condition. -/
namespace Go.Proofs.Ytdkpmaahinbhlaa
open Go.RowKit

/-- What RunPebbles answers. -/
noncomputable def runB (p k c : Int) (l : List (Int × Int)) : Bool := newB p k l && rangeB k c
noncomputable def runV (p k c : Int) (l : List (Int × Int)) : List Int × List Int × List Int := if runB p k c l = true then runN p.toNat k c l l.length else ([], [], [])
theorem runV_no {p k c : Int} {l : List (Int × Int)} (h : newB p k l = false ∨ rangeB k c = false) : runB p k c l = false ∧ runV p k c l = ([], [], []) := by
  have hb : runB p k c l = false := by
    unfold runB
    rcases h with h | h <;> rw [h] <;> simp
  exact ⟨hb, by unfold runV; rw [hb]; rfl⟩
theorem newB_is {p k : Int} {l : List (Int × Int)} (h : newB p k l = true) : IsG p l ∧ 1 ≤ k ∧ k ≤ 3 := by
  unfold newB at h
  simp only [Bool.and_eq_true, decide_eq_true_eq] at h
  exact ⟨Classical.byContradiction fun g => (by have h1 := h.1; rw [isGB_no g] at h1; cases h1), h.2.1, h.2.2⟩
theorem runV_yes {P : Nat} {k c : Int} {l : List (Int × Int)} (h : newB (P : Int) k l = true) (h2 : rangeB k c = true) : runB (P : Int) k c l = true ∧ runV (P : Int) k c l = runN P k c l l.length := by
  have hb : runB (P : Int) k c l = true := by unfold runB; rw [h, h2]; rfl
  exact ⟨hb, by unfold runV; rw [if_pos hb, Int.toNat_natCast]⟩
/-- A game that can be run, after n bars. -/
theorem runN_at {P : Nat} {k c : Int} {l : List (Int × Int)} (h : newB (P : Int) k l = true) (h2 : rangeB k c = true) {n : Nat} (hn : n ≤ l.length) : IsPeb (P : Int) k l (runN P k c l n).1 (runN P k c l n).2.1 (runN P k c l n).2.2 :=
  (runN_ok (newB_is h).1 (newB_is h).2 (rangeB_is h2).2.1 n hn).1
/-- One bar more. -/
theorem runN_step {P : Nat} {k c : Int} {l : List (Int × Int)} (h : newB (P : Int) k l = true) (h2 : rangeB k c = true) {n : Nat} (hn : n < l.length) :
    plaV (P : Int) k c l (runN P k c l n).1 (runN P k c l n).2.1 (runN P k c l n).2.2 (n : Int) = plaR l c (runN P k c l n).1 (runN P k c l n).2.1 (runN P k c l n).2.2 (n : Int) ∧
    runN P k c l (n + 1) = (plaR l c (runN P k c l n).1 (runN P k c l n).2.1 (runN P k c l n).2.2 (n : Int)).getD (runN P k c l n) := by
  obtain ⟨h3, h4, h5⟩ := runN_ok (newB_is h).1 (newB_is h).2 (rangeB_is h2).2.1 n (Nat.le_of_lt hn)
  refine ⟨?_, by rw [runN]⟩
  unfold plaV
  rw [if_pos ⟨isPebB_yes h3, h2, ⟨by omega, by omega⟩, h5⟩]
theorem runN_len {P : Nat} {k c : Int} {l : List (Int × Int)} (h : newB (P : Int) k l = true) (h2 : rangeB k c = true) {n : Nat} (hn : n ≤ l.length) : (runN P k c l n).1.length ≤ 8 ∧ (runN P k c l n).2.1.length ≤ 24 ∧ (runN P k c l n).2.2.length ≤ 24 :=
  (runN_at h h2 hn).lens
theorem runV_len (p k c : Int) (l : List (Int × Int)) : (runV p k c l).1.length ≤ 8 ∧ (runV p k c l).2.1.length ≤ 24 ∧ (runV p k c l).2.2.length ≤ 24 := by
  by_cases h : newB p k l = true
  · by_cases h2 : rangeB k c = true
    · have hG := (newB_is h).1
      obtain ⟨P, rfl⟩ : ∃ P : Nat, p = (P : Int) := ⟨p.toNat, by have := hG.1; omega⟩
      rw [(runV_yes h h2).2]
      exact runN_len h h2 (Nat.le_refl _)
    · rw [(runV_no (.inr (by simpa using h2))).2]; simp
  · rw [(runV_no (.inl (by simpa using h))).2]; simp
end Go.Proofs.Ytdkpmaahinbhlaa
/- What spec.l4Copy answers. No condition. -/
namespace Go.Proofs.Ytdkpmaahinbhlaa
open Go.RowKit

set_option maxHeartbeats 8000000 in
set_option maxRecDepth 100000 in
theorem copyPeb_c (AF AT AZ : Option Addr) (cF cT cZ lo hi : Nat) (F T Z : List Int) (w : World) (h : Peb3 w lo hi AF AT AZ F T Z) (hF : F.length ≤ 1048576) (hT : T.length ≤ 1048576) (hZ : Z.length ≤ 1048576) :
    Calls Try.prog 126 #[pebV AF F.length cF AT T.length cT AZ Z.length cZ] w (PebR w F T Z) := by
  have W0 := Lib.hid (Below.refl w.heap.size w)
  have H_0 := Lib.hid (h)
  have hhi : hi ≤ w.heap.size := h.f.1
  clear h
  have Z1 := Lib.hid (within_alloc w (.cells #[(.slice AF F.length cF), (.slice AT T.length cT), (.slice AZ Z.length cZ)] 31)).size
  have W1 := Lib.hid (within_on W0.out (within_alloc w (.cells #[(.slice AF F.length cF), (.slice AT T.length cT), (.slice AZ Z.length cZ)] 31)) W0.out.size (.inr (Nat.le_refl _)))
  have H_1 := Lib.hid (H_0.out.within (within_alloc w (.cells #[(.slice AF F.length cF), (.slice AT T.length cT), (.slice AZ Z.length cZ)] 31)) (by omega))
  have Y1 := Lib.hid (show (w.alloc (.cells #[(.slice AF F.length cF), (.slice AT T.length cT), (.slice AZ Z.length cZ)] 31)).heap.size = w.heap.size + 1 by simp)
  have hnew := cel3_new w (.slice AF F.length cF) (.slice AT T.length cT) (.slice AZ Z.length cZ) 31
  have GA_1 := Lib.hid hnew
  clear hnew
  have Z2 := Lib.hid (within_alloc (w.alloc (.cells #[(.slice AF F.length cF), (.slice AT T.length cT), (.slice AZ Z.length cZ)] 31)) (.cells #[(.slice none 0 0), (.slice none 0 0), (.slice none 0 0)] 31)).size
  have W2 := Lib.hid (within_on W1.out (within_alloc (w.alloc (.cells #[(.slice AF F.length cF), (.slice AT T.length cT), (.slice AZ Z.length cZ)] 31)) (.cells #[(.slice none 0 0), (.slice none 0 0), (.slice none 0 0)] 31)) W1.out.size (.inr (Nat.le_refl _)))
  have H_2 := Lib.hid (H_1.out.within (within_alloc (w.alloc (.cells #[(.slice AF F.length cF), (.slice AT T.length cT), (.slice AZ Z.length cZ)] 31)) (.cells #[(.slice none 0 0), (.slice none 0 0), (.slice none 0 0)] 31)) (by omega))
  have GA_2 := Lib.hid (GA_1.out.within (within_alloc (w.alloc (.cells #[(.slice AF F.length cF), (.slice AT T.length cT), (.slice AZ Z.length cZ)] 31)) (.cells #[(.slice none 0 0), (.slice none 0 0), (.slice none 0 0)] 31)) (by omega))
  have Y2 := Lib.hid (show ((w.alloc (.cells #[(.slice AF F.length cF), (.slice AT T.length cT), (.slice AZ Z.length cZ)] 31)).alloc (.cells #[(.slice none 0 0), (.slice none 0 0), (.slice none 0 0)] 31)).heap.size = (w.alloc (.cells #[(.slice AF F.length cF), (.slice AT T.length cT), (.slice AZ Z.length cZ)] 31)).heap.size + 1 by simp)
  have hnew := cel3_new (w.alloc (.cells #[(.slice AF F.length cF), (.slice AT T.length cT), (.slice AZ Z.length cZ)] 31)) (.slice none 0 0) (.slice none 0 0) (.slice none 0 0) 31
  rw [show (w.alloc (.cells #[(.slice AF F.length cF), (.slice AT T.length cT), (.slice AZ Z.length cZ)] 31)).heap.size = w.heap.size + 1 by simp] at hnew
  have GR_2 := Lib.hid hnew
  clear hnew
  have CI := Lib.hid (⟨GA_2.out, GR_2.out, H_2.out, W2.out⟩ : CpS w ((w.alloc (.cells #[(.slice AF F.length cF), (.slice AT T.length cT), (.slice AZ Z.length cZ)] 31)).alloc (.cells #[(.slice none 0 0), (.slice none 0 0), (.slice none 0 0)] 31)) AF cF AT cT AZ cZ lo hi F T Z)
  have SZ := Lib.hid (show ((w.alloc (.cells #[(.slice AF F.length cF), (.slice AT T.length cT), (.slice AZ Z.length cZ)] 31)).alloc (.cells #[(.slice none 0 0), (.slice none 0 0), (.slice none 0 0)] 31)).heap.size = w.heap.size + 1 + 1 by simp)
  go_enter Try.func126, Try.ntmps126
  go_wp2_with fail
  generalize ((w.alloc (.cells #[(.slice AF F.length cF), (.slice AT T.length cT), (.slice AZ Z.length cZ)] 31)).alloc (.cells #[(.slice none 0 0), (.slice none 0 0), (.slice none 0 0)] 31)) = w2 at *
  generalize (w.alloc (.cells #[(.slice AF F.length cF), (.slice AT T.length cT), (.slice AZ Z.length cZ)] 31)) = w1 at *
  have CD := Lib.hid (CI.out.below (Below.refl _ _).drew)
  have SD := Lib.hid (show w2.drew.heap.size = w.heap.size + 1 + 1 from SZ.out)
  clear CI
  refine wp_region_held_drew (S := (fun W' : World => W'.cell? ⟨w.heap.size, 0, none⟩ = some (.slice AF F.length cF) ∧ W'.cell? ⟨w.heap.size, 1, none⟩ = some (.slice AT T.length cT) ∧ W'.cell? ⟨w.heap.size, 2, none⟩ = some (.slice AZ Z.length cZ))) (by kernel_rfl) ?_ (fun hHeld => ?_)
  · exact CD.out.cells
  clear hHeld
  generalize w2.drew = WD at *
  have CR := Lib.hid (CpR.nil WD (w.heap.size + 1 + 1) (Nat.le_of_eq SD.out.symm))
  refine wpAnyH_take (i := 1) (v := .pointer (some ⟨w.heap.size, 0, none⟩)) rfl (by kernel_rfl) (by kernel_rfl) (by kernel_rfl) (fun _ _ _ h => h) (Or.inl ⟨by kernel_rfl, fun w hSw => by (try dsimp only at hSw); go_simp; all_goals first | omega | rfl⟩) CD.out.cells ?_
  refine wpAnyH_take (i := 2) (v := .slice AF F.length cF) rfl (by kernel_rfl) (by kernel_rfl) (by kernel_rfl) (fun _ _ _ h => h) (Or.inl ⟨by kernel_rfl, fun w hSw => by (try dsimp only at hSw); go_simp; all_goals first | omega | rfl⟩) CD.out.cells ?_
  refine wpAnyH_take (i := 5) (v := .pointer (some ⟨w.heap.size, 1, none⟩)) rfl (by kernel_rfl) (by kernel_rfl) (by kernel_rfl) (fun _ _ _ h => h) (Or.inl ⟨by kernel_rfl, fun w hSw => by (try dsimp only at hSw); go_simp; all_goals first | omega | rfl⟩) CD.out.cells ?_
  refine wpAnyH_take (i := 6) (v := .slice AT T.length cT) rfl (by kernel_rfl) (by kernel_rfl) (by kernel_rfl) (fun _ _ _ h => h) (Or.inl ⟨by kernel_rfl, fun w hSw => by (try dsimp only at hSw); go_simp; all_goals first | omega | rfl⟩) CD.out.cells ?_
  refine wpAnyH_take (i := 9) (v := .pointer (some ⟨w.heap.size, 2, none⟩)) rfl (by kernel_rfl) (by kernel_rfl) (by kernel_rfl) (fun _ _ _ h => h) (Or.inl ⟨by kernel_rfl, fun w hSw => by (try dsimp only at hSw); go_simp; all_goals first | omega | rfl⟩) CD.out.cells ?_
  refine wpAnyH_take (i := 10) (v := .slice AZ Z.length cZ) rfl (by kernel_rfl) (by kernel_rfl) (by kernel_rfl) (fun _ _ _ h => h) (Or.inl ⟨by kernel_rfl, fun w hSw => by (try dsimp only at hSw); go_simp; all_goals first | omega | rfl⟩) CD.out.cells ?_
  refine as_fun ?_
  intro R hR
  have j : ∀ (W : World) (f t z : Nat × Nat) (gF : Nat) (AF' : Option Addr) (cF' : Nat) (gT : Nat) (AT' : Option Addr) (cT' : Nat) (gZ : Nat) (AZ' : Option Addr) (cZ' : Nat), CpS w W AF cF AT cT AZ cZ lo hi F T Z → CpR W (w.heap.size + 1 + 1) f t z AF' cF' AT' cT' AZ' cZ' F T Z → R 2 #[true, true, true, true, true, true, true, true, true, true, true, true, false, false] ⟨#[pebV AF F.length cF AT T.length cT AZ Z.length cZ, .pointer (some ⟨w.heap.size, 0, none⟩), .pointer (some ⟨w.heap.size + 1, 0, none⟩), .slice (some ⟨gF, 0, none⟩) 0 0, .pointer (some ⟨w.heap.size, 0, none⟩), .slice AF F.length cF, .slice AF' F.length cF', .slice (some ⟨gT, 0, none⟩) 0 0, .pointer (some ⟨w.heap.size, 1, none⟩), .slice AT T.length cT, .slice AT' T.length cT', .slice (some ⟨gZ, 0, none⟩) 0 0, .pointer (some ⟨w.heap.size, 2, none⟩), .slice AZ Z.length cZ, .slice AZ' Z.length cZ', undef], []⟩ W := by
    intro W f t z gF AF' cF' gT AT' cT' gZ AZ' cZ' hc hr
    rw [hR]
    refine wpAnyH_take (i := 12) (v := .agg #[.slice AF' F.length cF', .slice AT' T.length cT', .slice AZ' Z.length cZ']) rfl (by kernel_rfl) (by kernel_rfl) (by kernel_rfl) (fun _ _ _ h => h) (Or.inl ⟨by kernel_rfl, fun w hSw => by (try dsimp only at hSw); go_simp; all_goals first | omega | rfl⟩) hc.cells ?_
    refine wpAnyH_ready (rs := [13]) (by kernel_rfl) (by simp) (AllReadyH.cons rfl (fun K hK => ?_) AllReadyH.nil)
    obtain ⟨q0, q1, q2, q3, q4, q5⟩ := hc.ret.cells
    have hr2 := ret3 hc.ret (.slice AF' F.length cF') (.slice AT' T.length cT') (.slice AZ' Z.length cZ')
    have RR := Lib.hid hr2.1
    have RW := Lib.hid hr2.2
    have RC := Lib.hid (hc.arg.within hr2.2 (by omega)).cells
    have HC := Lib.hid hc
    have HR := Lib.hid hr
    clear hr2 hc hr
    go_simp
    clear q0 q1 q2 q3 q4 q5
    refine hK.out _ _ ⟨RC.out.1, RC.out.2.1, RC.out.2.2.1⟩ (fun hHeld => ?_)
    clear hK K hHeld
    refine wpAnyH_done (by kernel_rfl) ?_ _
    obtain ⟨s0, s1, s2, _⟩ := RR.out.cells
    go_wp2_with fail
    refine bodyPost_ret (v := pebV AF' F.length cF' AT' T.length cT' AZ' Z.length cZ') ?_ rfl ?_
    · simp [results, Try.results126, go_sem, s0, s1, s2]
    · have lf := HR.out.lf
      have lt := HR.out.lt
      have lz := HR.out.lz
      have hh := HR.out.own.hi
      have rs := RW.out.size
      have ho := HR.out.own.within RW.out (by omega) (by omega) (by omega)
      exact ⟨AF', cF', AT', cT', AZ', cZ', rfl, ho.own3R (by omega) (by omega) (by omega) (Nat.le_refl _), within_on HC.out.bel RW.out HC.out.bel.size (.inl (by omega))⟩
  have J222 := Lib.hid j
  clear j
  have j : ∀ (W : World) (f t z : Nat × Nat) (gF : Nat) (AF' : Option Addr) (cF' : Nat) (gT : Nat) (AT' : Option Addr) (cT' : Nat) (gZ : Nat), CpS w W AF cF AT cT AZ cZ lo hi F T Z → CpR W (w.heap.size + 1 + 1) f t z AF' cF' AT' cT' (some ⟨gZ, 0, none⟩) 0 F T [] → R 3 #[true, true, true, true, true, true, true, true, true, true, true, false, false, false] ⟨#[pebV AF F.length cF AT T.length cT AZ Z.length cZ, .pointer (some ⟨w.heap.size, 0, none⟩), .pointer (some ⟨w.heap.size + 1, 0, none⟩), .slice (some ⟨gF, 0, none⟩) 0 0, .pointer (some ⟨w.heap.size, 0, none⟩), .slice AF F.length cF, .slice AF' F.length cF', .slice (some ⟨gT, 0, none⟩) 0 0, .pointer (some ⟨w.heap.size, 1, none⟩), .slice AT T.length cT, .slice AT' T.length cT', .slice (some ⟨gZ, 0, none⟩) 0 0, .pointer (some ⟨w.heap.size, 2, none⟩), .slice AZ Z.length cZ, undef, undef], []⟩ W := by
    intro W f t z gF AF' cF' gT AT' cT' gZ hc hr
    rw [hR]
    refine wpAnyH_ready (rs := [11]) (by kernel_rfl) (by simp) (AllReadyH.cons rfl (fun K hK => ?_) AllReadyH.nil)
    refine step_copyR (by rfl) _ _ (by rfl) gZ z.1 z.2 AZ Z cZ lo hi (by rfl) (by rfl) hr.own.2.2.1 hc.src.z hZ ?_
    intro AZ' cZ' W' r ho hl hb
    have C2 := Lib.hid (hc.below hb)
    have R2 := Lib.hid (hr.newZ hb ho hl)
    clear hb hc hr ho hl
    refine hK.out _ _ C2.out.cells (fun _ => ?_)
    clear hK K
    exact as_of hR (J222.out W' f t r gF AF' cF' gT AT' cT' gZ AZ' cZ' C2.out R2.out)
  have J221 := Lib.hid j
  clear j
  have j : ∀ (W : World) (f t z : Nat × Nat) (gF : Nat) (AF' : Option Addr) (cF' : Nat) (gT : Nat) (gZ : Nat), CpS w W AF cF AT cT AZ cZ lo hi F T Z → CpR W (w.heap.size + 1 + 1) f t z AF' cF' (some ⟨gT, 0, none⟩) 0 (some ⟨gZ, 0, none⟩) 0 F [] [] → R 4 #[true, true, true, true, true, true, true, false, true, true, true, false, false, false] ⟨#[pebV AF F.length cF AT T.length cT AZ Z.length cZ, .pointer (some ⟨w.heap.size, 0, none⟩), .pointer (some ⟨w.heap.size + 1, 0, none⟩), .slice (some ⟨gF, 0, none⟩) 0 0, .pointer (some ⟨w.heap.size, 0, none⟩), .slice AF F.length cF, .slice AF' F.length cF', .slice (some ⟨gT, 0, none⟩) 0 0, .pointer (some ⟨w.heap.size, 1, none⟩), .slice AT T.length cT, undef, .slice (some ⟨gZ, 0, none⟩) 0 0, .pointer (some ⟨w.heap.size, 2, none⟩), .slice AZ Z.length cZ, undef, undef], []⟩ W := by
    intro W f t z gF AF' cF' gT gZ hc hr
    rw [hR]
    refine wpAnyH_ready (rs := [7]) (by kernel_rfl) (by simp) (AllReadyH.cons rfl (fun K hK => ?_) AllReadyH.nil)
    refine step_copyR (by rfl) _ _ (by rfl) gT t.1 t.2 AT T cT lo hi (by rfl) (by rfl) hr.own.2.1 hc.src.t hT ?_
    intro AT' cT' W' r ho hl hb
    have C2 := Lib.hid (hc.below hb)
    have R2 := Lib.hid (hr.newT hb ho hl)
    clear hb hc hr ho hl
    refine hK.out _ _ C2.out.cells (fun _ => ?_)
    clear hK K
    exact as_of hR (J221.out W' f r z gF AF' cF' gT AT' cT' gZ C2.out R2.out)
  have J211 := Lib.hid j
  clear j
  have j : ∀ (W : World) (f t z : Nat × Nat) (gF : Nat) (AF' : Option Addr) (cF' : Nat) (gT : Nat) (AT' : Option Addr) (cT' : Nat), CpS w W AF cF AT cT AZ cZ lo hi F T Z → CpR W (w.heap.size + 1 + 1) f t z AF' cF' AT' cT' none 0 F T [] → R 4 #[true, true, true, true, true, true, true, true, false, true, true, false, false, false] ⟨#[pebV AF F.length cF AT T.length cT AZ Z.length cZ, .pointer (some ⟨w.heap.size, 0, none⟩), .pointer (some ⟨w.heap.size + 1, 0, none⟩), .slice (some ⟨gF, 0, none⟩) 0 0, .pointer (some ⟨w.heap.size, 0, none⟩), .slice AF F.length cF, .slice AF' F.length cF', .slice (some ⟨gT, 0, none⟩) 0 0, .pointer (some ⟨w.heap.size, 1, none⟩), .slice AT T.length cT, .slice AT' T.length cT', undef, .pointer (some ⟨w.heap.size, 2, none⟩), .slice AZ Z.length cZ, undef, undef], []⟩ W := by
    intro W f t z gF AF' cF' gT AT' cT' hc hr
    rw [hR]
    refine wpAnyH_ready (rs := [8]) (by kernel_rfl) (by simp) (AllReadyH.cons rfl (fun K hK => ?_) AllReadyH.nil)
    have hb := new_below W (.cells #[] 3)
    have C2 := Lib.hid (hc.below hb)
    have R2 := Lib.hid (hr.newZ (z' := (W.heap.size, W.heap.size + 1)) hb (ownR_empty W) (.inr (Nat.le_refl _)))
    clear hb hc hr
    go_simp
    refine hK.out _ _ C2.out.cells (fun _ => ?_)
    clear hK K
    exact as_of hR (J221.out (W.alloc (.cells #[] 3)) f t (W.heap.size, W.heap.size + 1) gF AF' cF' gT AT' cT' W.heap.size C2.out R2.out)
  have J220 := Lib.hid j
  clear j
  have j : ∀ (W : World) (f t z : Nat × Nat) (gF : Nat) (gT : Nat) (gZ : Nat), CpS w W AF cF AT cT AZ cZ lo hi F T Z → CpR W (w.heap.size + 1 + 1) f t z (some ⟨gF, 0, none⟩) 0 (some ⟨gT, 0, none⟩) 0 (some ⟨gZ, 0, none⟩) 0 [] [] [] → R 5 #[true, true, true, false, true, true, true, false, true, true, true, false, false, false] ⟨#[pebV AF F.length cF AT T.length cT AZ Z.length cZ, .pointer (some ⟨w.heap.size, 0, none⟩), .pointer (some ⟨w.heap.size + 1, 0, none⟩), .slice (some ⟨gF, 0, none⟩) 0 0, .pointer (some ⟨w.heap.size, 0, none⟩), .slice AF F.length cF, undef, .slice (some ⟨gT, 0, none⟩) 0 0, .pointer (some ⟨w.heap.size, 1, none⟩), .slice AT T.length cT, undef, .slice (some ⟨gZ, 0, none⟩) 0 0, .pointer (some ⟨w.heap.size, 2, none⟩), .slice AZ Z.length cZ, undef, undef], []⟩ W := by
    intro W f t z gF gT gZ hc hr
    rw [hR]
    refine wpAnyH_ready (rs := [3]) (by kernel_rfl) (by simp) (AllReadyH.cons rfl (fun K hK => ?_) AllReadyH.nil)
    refine step_copyR (by rfl) _ _ (by rfl) gF f.1 f.2 AF F cF lo hi (by rfl) (by rfl) hr.own.1 hc.src.f hF ?_
    intro AF' cF' W' r ho hl hb
    have C2 := Lib.hid (hc.below hb)
    have R2 := Lib.hid (hr.newF hb ho hl)
    clear hb hc hr ho hl
    refine hK.out _ _ C2.out.cells (fun _ => ?_)
    clear hK K
    exact as_of hR (J211.out W' r t z gF AF' cF' gT gZ C2.out R2.out)
  have J111 := Lib.hid j
  clear j
  have j : ∀ (W : World) (f t z : Nat × Nat) (gF : Nat) (AF' : Option Addr) (cF' : Nat) (gZ : Nat), CpS w W AF cF AT cT AZ cZ lo hi F T Z → CpR W (w.heap.size + 1 + 1) f t z AF' cF' none 0 (some ⟨gZ, 0, none⟩) 0 F [] [] → R 5 #[true, true, true, true, false, true, true, false, true, true, true, false, false, false] ⟨#[pebV AF F.length cF AT T.length cT AZ Z.length cZ, .pointer (some ⟨w.heap.size, 0, none⟩), .pointer (some ⟨w.heap.size + 1, 0, none⟩), .slice (some ⟨gF, 0, none⟩) 0 0, .pointer (some ⟨w.heap.size, 0, none⟩), .slice AF F.length cF, .slice AF' F.length cF', undef, .pointer (some ⟨w.heap.size, 1, none⟩), .slice AT T.length cT, undef, .slice (some ⟨gZ, 0, none⟩) 0 0, .pointer (some ⟨w.heap.size, 2, none⟩), .slice AZ Z.length cZ, undef, undef], []⟩ W := by
    intro W f t z gF AF' cF' gZ hc hr
    rw [hR]
    refine wpAnyH_ready (rs := [4]) (by kernel_rfl) (by simp) (AllReadyH.cons rfl (fun K hK => ?_) AllReadyH.nil)
    have hb := new_below W (.cells #[] 3)
    have C2 := Lib.hid (hc.below hb)
    have R2 := Lib.hid (hr.newT (t' := (W.heap.size, W.heap.size + 1)) hb (ownR_empty W) (.inr (Nat.le_refl _)))
    clear hb hc hr
    go_simp
    refine hK.out _ _ C2.out.cells (fun _ => ?_)
    clear hK K
    exact as_of hR (J211.out (W.alloc (.cells #[] 3)) f (W.heap.size, W.heap.size + 1) z gF AF' cF' W.heap.size gZ C2.out R2.out)
  have J201 := Lib.hid j
  clear j
  have j : ∀ (W : World) (f t z : Nat × Nat) (gF : Nat) (AF' : Option Addr) (cF' : Nat) (gT : Nat), CpS w W AF cF AT cT AZ cZ lo hi F T Z → CpR W (w.heap.size + 1 + 1) f t z AF' cF' (some ⟨gT, 0, none⟩) 0 none 0 F [] [] → R 5 #[true, true, true, true, true, true, true, false, false, true, true, false, false, false] ⟨#[pebV AF F.length cF AT T.length cT AZ Z.length cZ, .pointer (some ⟨w.heap.size, 0, none⟩), .pointer (some ⟨w.heap.size + 1, 0, none⟩), .slice (some ⟨gF, 0, none⟩) 0 0, .pointer (some ⟨w.heap.size, 0, none⟩), .slice AF F.length cF, .slice AF' F.length cF', .slice (some ⟨gT, 0, none⟩) 0 0, .pointer (some ⟨w.heap.size, 1, none⟩), .slice AT T.length cT, undef, undef, .pointer (some ⟨w.heap.size, 2, none⟩), .slice AZ Z.length cZ, undef, undef], []⟩ W := by
    intro W f t z gF AF' cF' gT hc hr
    rw [hR]
    refine wpAnyH_ready (rs := [7, 8]) (by kernel_rfl) (by simp) (AllReadyH.cons rfl (fun K hK => ?_) (AllReadyH.cons rfl (fun K hK => ?_) AllReadyH.nil))
    · refine step_copyR (by rfl) _ _ (by rfl) gT t.1 t.2 AT T cT lo hi (by rfl) (by rfl) hr.own.2.1 hc.src.t hT ?_
      intro AT' cT' W' r ho hl hb
      have C2 := Lib.hid (hc.below hb)
      have R2 := Lib.hid (hr.newT hb ho hl)
      clear hb hc hr ho hl
      refine hK.out _ _ C2.out.cells (fun _ => ?_)
      clear hK K
      exact as_of hR (J220.out W' f r z gF AF' cF' gT AT' cT' C2.out R2.out)
    · have hb := new_below W (.cells #[] 3)
      have C2 := Lib.hid (hc.below hb)
      have R2 := Lib.hid (hr.newZ (z' := (W.heap.size, W.heap.size + 1)) hb (ownR_empty W) (.inr (Nat.le_refl _)))
      clear hb hc hr
      go_simp
      refine hK.out _ _ C2.out.cells (fun _ => ?_)
      clear hK K
      exact as_of hR (J211.out (W.alloc (.cells #[] 3)) f t (W.heap.size, W.heap.size + 1) gF AF' cF' gT W.heap.size C2.out R2.out)
  have J210 := Lib.hid j
  clear j
  have j : ∀ (W : World) (f t z : Nat × Nat) (gT : Nat) (gZ : Nat), CpS w W AF cF AT cT AZ cZ lo hi F T Z → CpR W (w.heap.size + 1 + 1) f t z none 0 (some ⟨gT, 0, none⟩) 0 (some ⟨gZ, 0, none⟩) 0 [] [] [] → R 6 #[false, true, true, false, true, true, true, false, true, true, true, false, false, false] ⟨#[pebV AF F.length cF AT T.length cT AZ Z.length cZ, .pointer (some ⟨w.heap.size, 0, none⟩), .pointer (some ⟨w.heap.size + 1, 0, none⟩), undef, .pointer (some ⟨w.heap.size, 0, none⟩), .slice AF F.length cF, undef, .slice (some ⟨gT, 0, none⟩) 0 0, .pointer (some ⟨w.heap.size, 1, none⟩), .slice AT T.length cT, undef, .slice (some ⟨gZ, 0, none⟩) 0 0, .pointer (some ⟨w.heap.size, 2, none⟩), .slice AZ Z.length cZ, undef, undef], []⟩ W := by
    intro W f t z gT gZ hc hr
    rw [hR]
    refine wpAnyH_ready (rs := [0]) (by kernel_rfl) (by simp) (AllReadyH.cons rfl (fun K hK => ?_) AllReadyH.nil)
    have hb := new_below W (.cells #[] 3)
    have C2 := Lib.hid (hc.below hb)
    have R2 := Lib.hid (hr.newF (f' := (W.heap.size, W.heap.size + 1)) hb (ownR_empty W) (.inr (Nat.le_refl _)))
    clear hb hc hr
    go_simp
    refine hK.out _ _ C2.out.cells (fun _ => ?_)
    clear hK K
    exact as_of hR (J111.out (W.alloc (.cells #[] 3)) (W.heap.size, W.heap.size + 1) t z W.heap.size gT gZ C2.out R2.out)
  have J011 := Lib.hid j
  clear j
  have j : ∀ (W : World) (f t z : Nat × Nat) (gF : Nat) (gZ : Nat), CpS w W AF cF AT cT AZ cZ lo hi F T Z → CpR W (w.heap.size + 1 + 1) f t z (some ⟨gF, 0, none⟩) 0 none 0 (some ⟨gZ, 0, none⟩) 0 [] [] [] → R 6 #[true, true, true, false, false, true, true, false, true, true, true, false, false, false] ⟨#[pebV AF F.length cF AT T.length cT AZ Z.length cZ, .pointer (some ⟨w.heap.size, 0, none⟩), .pointer (some ⟨w.heap.size + 1, 0, none⟩), .slice (some ⟨gF, 0, none⟩) 0 0, .pointer (some ⟨w.heap.size, 0, none⟩), .slice AF F.length cF, undef, undef, .pointer (some ⟨w.heap.size, 1, none⟩), .slice AT T.length cT, undef, .slice (some ⟨gZ, 0, none⟩) 0 0, .pointer (some ⟨w.heap.size, 2, none⟩), .slice AZ Z.length cZ, undef, undef], []⟩ W := by
    intro W f t z gF gZ hc hr
    rw [hR]
    refine wpAnyH_ready (rs := [3, 4]) (by kernel_rfl) (by simp) (AllReadyH.cons rfl (fun K hK => ?_) (AllReadyH.cons rfl (fun K hK => ?_) AllReadyH.nil))
    · refine step_copyR (by rfl) _ _ (by rfl) gF f.1 f.2 AF F cF lo hi (by rfl) (by rfl) hr.own.1 hc.src.f hF ?_
      intro AF' cF' W' r ho hl hb
      have C2 := Lib.hid (hc.below hb)
      have R2 := Lib.hid (hr.newF hb ho hl)
      clear hb hc hr ho hl
      refine hK.out _ _ C2.out.cells (fun _ => ?_)
      clear hK K
      exact as_of hR (J201.out W' r t z gF AF' cF' gZ C2.out R2.out)
    · have hb := new_below W (.cells #[] 3)
      have C2 := Lib.hid (hc.below hb)
      have R2 := Lib.hid (hr.newT (t' := (W.heap.size, W.heap.size + 1)) hb (ownR_empty W) (.inr (Nat.le_refl _)))
      clear hb hc hr
      go_simp
      refine hK.out _ _ C2.out.cells (fun _ => ?_)
      clear hK K
      exact as_of hR (J111.out (W.alloc (.cells #[] 3)) f (W.heap.size, W.heap.size + 1) z gF W.heap.size gZ C2.out R2.out)
  have J101 := Lib.hid j
  clear j
  have j : ∀ (W : World) (f t z : Nat × Nat) (gF : Nat) (gT : Nat), CpS w W AF cF AT cT AZ cZ lo hi F T Z → CpR W (w.heap.size + 1 + 1) f t z (some ⟨gF, 0, none⟩) 0 (some ⟨gT, 0, none⟩) 0 none 0 [] [] [] → R 6 #[true, true, true, false, true, true, true, false, false, true, true, false, false, false] ⟨#[pebV AF F.length cF AT T.length cT AZ Z.length cZ, .pointer (some ⟨w.heap.size, 0, none⟩), .pointer (some ⟨w.heap.size + 1, 0, none⟩), .slice (some ⟨gF, 0, none⟩) 0 0, .pointer (some ⟨w.heap.size, 0, none⟩), .slice AF F.length cF, undef, .slice (some ⟨gT, 0, none⟩) 0 0, .pointer (some ⟨w.heap.size, 1, none⟩), .slice AT T.length cT, undef, undef, .pointer (some ⟨w.heap.size, 2, none⟩), .slice AZ Z.length cZ, undef, undef], []⟩ W := by
    intro W f t z gF gT hc hr
    rw [hR]
    refine wpAnyH_ready (rs := [3, 8]) (by kernel_rfl) (by simp) (AllReadyH.cons rfl (fun K hK => ?_) (AllReadyH.cons rfl (fun K hK => ?_) AllReadyH.nil))
    · refine step_copyR (by rfl) _ _ (by rfl) gF f.1 f.2 AF F cF lo hi (by rfl) (by rfl) hr.own.1 hc.src.f hF ?_
      intro AF' cF' W' r ho hl hb
      have C2 := Lib.hid (hc.below hb)
      have R2 := Lib.hid (hr.newF hb ho hl)
      clear hb hc hr ho hl
      refine hK.out _ _ C2.out.cells (fun _ => ?_)
      clear hK K
      exact as_of hR (J210.out W' r t z gF AF' cF' gT C2.out R2.out)
    · have hb := new_below W (.cells #[] 3)
      have C2 := Lib.hid (hc.below hb)
      have R2 := Lib.hid (hr.newZ (z' := (W.heap.size, W.heap.size + 1)) hb (ownR_empty W) (.inr (Nat.le_refl _)))
      clear hb hc hr
      go_simp
      refine hK.out _ _ C2.out.cells (fun _ => ?_)
      clear hK K
      exact as_of hR (J111.out (W.alloc (.cells #[] 3)) f t (W.heap.size, W.heap.size + 1) gF gT W.heap.size C2.out R2.out)
  have J110 := Lib.hid j
  clear j
  have j : ∀ (W : World) (f t z : Nat × Nat) (gF : Nat) (AF' : Option Addr) (cF' : Nat), CpS w W AF cF AT cT AZ cZ lo hi F T Z → CpR W (w.heap.size + 1 + 1) f t z AF' cF' none 0 none 0 F [] [] → R 6 #[true, true, true, true, false, true, true, false, false, true, true, false, false, false] ⟨#[pebV AF F.length cF AT T.length cT AZ Z.length cZ, .pointer (some ⟨w.heap.size, 0, none⟩), .pointer (some ⟨w.heap.size + 1, 0, none⟩), .slice (some ⟨gF, 0, none⟩) 0 0, .pointer (some ⟨w.heap.size, 0, none⟩), .slice AF F.length cF, .slice AF' F.length cF', undef, .pointer (some ⟨w.heap.size, 1, none⟩), .slice AT T.length cT, undef, undef, .pointer (some ⟨w.heap.size, 2, none⟩), .slice AZ Z.length cZ, undef, undef], []⟩ W := by
    intro W f t z gF AF' cF' hc hr
    rw [hR]
    refine wpAnyH_ready (rs := [4, 8]) (by kernel_rfl) (by simp) (AllReadyH.cons rfl (fun K hK => ?_) (AllReadyH.cons rfl (fun K hK => ?_) AllReadyH.nil))
    · have hb := new_below W (.cells #[] 3)
      have C2 := Lib.hid (hc.below hb)
      have R2 := Lib.hid (hr.newT (t' := (W.heap.size, W.heap.size + 1)) hb (ownR_empty W) (.inr (Nat.le_refl _)))
      clear hb hc hr
      go_simp
      refine hK.out _ _ C2.out.cells (fun _ => ?_)
      clear hK K
      exact as_of hR (J210.out (W.alloc (.cells #[] 3)) f (W.heap.size, W.heap.size + 1) z gF AF' cF' W.heap.size C2.out R2.out)
    · have hb := new_below W (.cells #[] 3)
      have C2 := Lib.hid (hc.below hb)
      have R2 := Lib.hid (hr.newZ (z' := (W.heap.size, W.heap.size + 1)) hb (ownR_empty W) (.inr (Nat.le_refl _)))
      clear hb hc hr
      go_simp
      refine hK.out _ _ C2.out.cells (fun _ => ?_)
      clear hK K
      exact as_of hR (J201.out (W.alloc (.cells #[] 3)) f t (W.heap.size, W.heap.size + 1) gF AF' cF' W.heap.size C2.out R2.out)
  have J200 := Lib.hid j
  clear j
  have j : ∀ (W : World) (f t z : Nat × Nat) (gZ : Nat), CpS w W AF cF AT cT AZ cZ lo hi F T Z → CpR W (w.heap.size + 1 + 1) f t z none 0 none 0 (some ⟨gZ, 0, none⟩) 0 [] [] [] → R 7 #[false, true, true, false, false, true, true, false, true, true, true, false, false, false] ⟨#[pebV AF F.length cF AT T.length cT AZ Z.length cZ, .pointer (some ⟨w.heap.size, 0, none⟩), .pointer (some ⟨w.heap.size + 1, 0, none⟩), undef, .pointer (some ⟨w.heap.size, 0, none⟩), .slice AF F.length cF, undef, undef, .pointer (some ⟨w.heap.size, 1, none⟩), .slice AT T.length cT, undef, .slice (some ⟨gZ, 0, none⟩) 0 0, .pointer (some ⟨w.heap.size, 2, none⟩), .slice AZ Z.length cZ, undef, undef], []⟩ W := by
    intro W f t z gZ hc hr
    rw [hR]
    refine wpAnyH_ready (rs := [0, 4]) (by kernel_rfl) (by simp) (AllReadyH.cons rfl (fun K hK => ?_) (AllReadyH.cons rfl (fun K hK => ?_) AllReadyH.nil))
    · have hb := new_below W (.cells #[] 3)
      have C2 := Lib.hid (hc.below hb)
      have R2 := Lib.hid (hr.newF (f' := (W.heap.size, W.heap.size + 1)) hb (ownR_empty W) (.inr (Nat.le_refl _)))
      clear hb hc hr
      go_simp
      refine hK.out _ _ C2.out.cells (fun _ => ?_)
      clear hK K
      exact as_of hR (J101.out (W.alloc (.cells #[] 3)) (W.heap.size, W.heap.size + 1) t z W.heap.size gZ C2.out R2.out)
    · have hb := new_below W (.cells #[] 3)
      have C2 := Lib.hid (hc.below hb)
      have R2 := Lib.hid (hr.newT (t' := (W.heap.size, W.heap.size + 1)) hb (ownR_empty W) (.inr (Nat.le_refl _)))
      clear hb hc hr
      go_simp
      refine hK.out _ _ C2.out.cells (fun _ => ?_)
      clear hK K
      exact as_of hR (J011.out (W.alloc (.cells #[] 3)) f (W.heap.size, W.heap.size + 1) z W.heap.size gZ C2.out R2.out)
  have J001 := Lib.hid j
  clear j
  have j : ∀ (W : World) (f t z : Nat × Nat) (gT : Nat), CpS w W AF cF AT cT AZ cZ lo hi F T Z → CpR W (w.heap.size + 1 + 1) f t z none 0 (some ⟨gT, 0, none⟩) 0 none 0 [] [] [] → R 7 #[false, true, true, false, true, true, true, false, false, true, true, false, false, false] ⟨#[pebV AF F.length cF AT T.length cT AZ Z.length cZ, .pointer (some ⟨w.heap.size, 0, none⟩), .pointer (some ⟨w.heap.size + 1, 0, none⟩), undef, .pointer (some ⟨w.heap.size, 0, none⟩), .slice AF F.length cF, undef, .slice (some ⟨gT, 0, none⟩) 0 0, .pointer (some ⟨w.heap.size, 1, none⟩), .slice AT T.length cT, undef, undef, .pointer (some ⟨w.heap.size, 2, none⟩), .slice AZ Z.length cZ, undef, undef], []⟩ W := by
    intro W f t z gT hc hr
    rw [hR]
    refine wpAnyH_ready (rs := [0, 8]) (by kernel_rfl) (by simp) (AllReadyH.cons rfl (fun K hK => ?_) (AllReadyH.cons rfl (fun K hK => ?_) AllReadyH.nil))
    · have hb := new_below W (.cells #[] 3)
      have C2 := Lib.hid (hc.below hb)
      have R2 := Lib.hid (hr.newF (f' := (W.heap.size, W.heap.size + 1)) hb (ownR_empty W) (.inr (Nat.le_refl _)))
      clear hb hc hr
      go_simp
      refine hK.out _ _ C2.out.cells (fun _ => ?_)
      clear hK K
      exact as_of hR (J110.out (W.alloc (.cells #[] 3)) (W.heap.size, W.heap.size + 1) t z W.heap.size gT C2.out R2.out)
    · have hb := new_below W (.cells #[] 3)
      have C2 := Lib.hid (hc.below hb)
      have R2 := Lib.hid (hr.newZ (z' := (W.heap.size, W.heap.size + 1)) hb (ownR_empty W) (.inr (Nat.le_refl _)))
      clear hb hc hr
      go_simp
      refine hK.out _ _ C2.out.cells (fun _ => ?_)
      clear hK K
      exact as_of hR (J011.out (W.alloc (.cells #[] 3)) f t (W.heap.size, W.heap.size + 1) gT W.heap.size C2.out R2.out)
  have J010 := Lib.hid j
  clear j
  have j : ∀ (W : World) (f t z : Nat × Nat) (gF : Nat), CpS w W AF cF AT cT AZ cZ lo hi F T Z → CpR W (w.heap.size + 1 + 1) f t z (some ⟨gF, 0, none⟩) 0 none 0 none 0 [] [] [] → R 7 #[true, true, true, false, false, true, true, false, false, true, true, false, false, false] ⟨#[pebV AF F.length cF AT T.length cT AZ Z.length cZ, .pointer (some ⟨w.heap.size, 0, none⟩), .pointer (some ⟨w.heap.size + 1, 0, none⟩), .slice (some ⟨gF, 0, none⟩) 0 0, .pointer (some ⟨w.heap.size, 0, none⟩), .slice AF F.length cF, undef, undef, .pointer (some ⟨w.heap.size, 1, none⟩), .slice AT T.length cT, undef, undef, .pointer (some ⟨w.heap.size, 2, none⟩), .slice AZ Z.length cZ, undef, undef], []⟩ W := by
    intro W f t z gF hc hr
    rw [hR]
    refine wpAnyH_ready (rs := [3, 4, 8]) (by kernel_rfl) (by simp) (AllReadyH.cons rfl (fun K hK => ?_) (AllReadyH.cons rfl (fun K hK => ?_) (AllReadyH.cons rfl (fun K hK => ?_) AllReadyH.nil)))
    · refine step_copyR (by rfl) _ _ (by rfl) gF f.1 f.2 AF F cF lo hi (by rfl) (by rfl) hr.own.1 hc.src.f hF ?_
      intro AF' cF' W' r ho hl hb
      have C2 := Lib.hid (hc.below hb)
      have R2 := Lib.hid (hr.newF hb ho hl)
      clear hb hc hr ho hl
      refine hK.out _ _ C2.out.cells (fun _ => ?_)
      clear hK K
      exact as_of hR (J200.out W' r t z gF AF' cF' C2.out R2.out)
    · have hb := new_below W (.cells #[] 3)
      have C2 := Lib.hid (hc.below hb)
      have R2 := Lib.hid (hr.newT (t' := (W.heap.size, W.heap.size + 1)) hb (ownR_empty W) (.inr (Nat.le_refl _)))
      clear hb hc hr
      go_simp
      refine hK.out _ _ C2.out.cells (fun _ => ?_)
      clear hK K
      exact as_of hR (J110.out (W.alloc (.cells #[] 3)) f (W.heap.size, W.heap.size + 1) z gF W.heap.size C2.out R2.out)
    · have hb := new_below W (.cells #[] 3)
      have C2 := Lib.hid (hc.below hb)
      have R2 := Lib.hid (hr.newZ (z' := (W.heap.size, W.heap.size + 1)) hb (ownR_empty W) (.inr (Nat.le_refl _)))
      clear hb hc hr
      go_simp
      refine hK.out _ _ C2.out.cells (fun _ => ?_)
      clear hK K
      exact as_of hR (J101.out (W.alloc (.cells #[] 3)) f t (W.heap.size, W.heap.size + 1) gF W.heap.size C2.out R2.out)
  have J100 := Lib.hid j
  clear j
  have j : ∀ (W : World) (f t z : Nat × Nat), CpS w W AF cF AT cT AZ cZ lo hi F T Z → CpR W (w.heap.size + 1 + 1) f t z none 0 none 0 none 0 [] [] [] → R 8 #[false, true, true, false, false, true, true, false, false, true, true, false, false, false] ⟨#[pebV AF F.length cF AT T.length cT AZ Z.length cZ, .pointer (some ⟨w.heap.size, 0, none⟩), .pointer (some ⟨w.heap.size + 1, 0, none⟩), undef, .pointer (some ⟨w.heap.size, 0, none⟩), .slice AF F.length cF, undef, undef, .pointer (some ⟨w.heap.size, 1, none⟩), .slice AT T.length cT, undef, undef, .pointer (some ⟨w.heap.size, 2, none⟩), .slice AZ Z.length cZ, undef, undef], []⟩ W := by
    intro W f t z  hc hr
    rw [hR]
    refine wpAnyH_ready (rs := [0, 4, 8]) (by kernel_rfl) (by simp) (AllReadyH.cons rfl (fun K hK => ?_) (AllReadyH.cons rfl (fun K hK => ?_) (AllReadyH.cons rfl (fun K hK => ?_) AllReadyH.nil)))
    · have hb := new_below W (.cells #[] 3)
      have C2 := Lib.hid (hc.below hb)
      have R2 := Lib.hid (hr.newF (f' := (W.heap.size, W.heap.size + 1)) hb (ownR_empty W) (.inr (Nat.le_refl _)))
      clear hb hc hr
      go_simp
      refine hK.out _ _ C2.out.cells (fun _ => ?_)
      clear hK K
      exact as_of hR (J100.out (W.alloc (.cells #[] 3)) (W.heap.size, W.heap.size + 1) t z W.heap.size C2.out R2.out)
    · have hb := new_below W (.cells #[] 3)
      have C2 := Lib.hid (hc.below hb)
      have R2 := Lib.hid (hr.newT (t' := (W.heap.size, W.heap.size + 1)) hb (ownR_empty W) (.inr (Nat.le_refl _)))
      clear hb hc hr
      go_simp
      refine hK.out _ _ C2.out.cells (fun _ => ?_)
      clear hK K
      exact as_of hR (J010.out (W.alloc (.cells #[] 3)) f (W.heap.size, W.heap.size + 1) z W.heap.size C2.out R2.out)
    · have hb := new_below W (.cells #[] 3)
      have C2 := Lib.hid (hc.below hb)
      have R2 := Lib.hid (hr.newZ (z' := (W.heap.size, W.heap.size + 1)) hb (ownR_empty W) (.inr (Nat.le_refl _)))
      clear hb hc hr
      go_simp
      refine hK.out _ _ C2.out.cells (fun _ => ?_)
      clear hK K
      exact as_of hR (J001.out (W.alloc (.cells #[] 3)) f t (W.heap.size, W.heap.size + 1) W.heap.size C2.out R2.out)
  have J000 := Lib.hid j
  clear j
  exact J000.out WD _ _ _ CD.out CR.out
end Go.Proofs.Ytdkpmaahinbhlaa
/- What stands while a state is worked upon: the graph's box, the state's box, the result's box. No program's walk. No condition. -/
namespace Go.Proofs.Ytdkpmaahinbhlaa
open Go.RowKit

/-- What stands while a state is worked upon: the graph's box, the state's box, the result's box. -/
structure GtI (w W : World) (p : Int) (A : Option Addr) (cap : Nat) (l : List (Int × Int)) (AF AT AZ : Option Addr) (cF cT cZ lo hi : Nat) (F T Z : List Int) : Prop where
  gb : Box W w.heap.size p (.slice A l.length cap)
  pb : Cel3 W (w.heap.size + 1) 31 (.slice AF F.length cF) (.slice AT T.length cT) (.slice AZ Z.length cZ)
  rb : Cel3 W (w.heap.size + 1 + 1) 31 (.slice none 0 0) (.slice none 0 0) (.slice none 0 0)
  bars : BarsIn W 0 w.heap.size A l
  src : Peb3 W lo hi AF AT AZ F T Z
  bel : Below w.heap.size w W
theorem GtI.below {w W : World} {p : Int} {A : Option Addr} {cap : Nat} {l : List (Int × Int)} {AF AT AZ : Option Addr} {cF cT cZ lo hi : Nat} {F T Z : List Int} {W' : World} (h : GtI w W p A cap l AF AT AZ cF cT cZ lo hi F T Z) (hb : Below W.heap.size W W') : GtI w W' p A cap l AF AT AZ cF cT cZ lo hi F T Z :=
  ⟨h.gb.kept hb, h.pb.kept hb, h.rb.kept hb, h.bars.within (within_of hb) (.inr (Nat.zero_le _)), h.src.within (within_of hb) (.inr (Nat.zero_le _)), below_on h.bel hb h.bel.size⟩
theorem GtI.within {w W : World} {p : Int} {A : Option Addr} {cap : Nat} {l : List (Int × Int)} {AF AT AZ : Option Addr} {cF cT cZ lo hi : Nat} {F T Z : List Int} {W' : World} (h : GtI w W p A cap l AF AT AZ cF cT cZ lo hi F T Z) {lo' hi' : Nat} (hw : Within lo' hi' W W') (h1 : w.heap.size + 3 ≤ lo') (h2 : hi ≤ lo') : GtI w W' p A cap l AF AT AZ cF cT cZ lo hi F T Z :=
  ⟨h.gb.within hw (by omega), h.pb.within hw (by omega), h.rb.within hw (by omega), h.bars.within hw (by omega), h.src.within hw (by omega), ⟨hw.os.trans h.bel.os, hw.tape.trans h.bel.tape, hw.output.trans h.bel.output, Nat.le_trans h.bel.size hw.size, fun k hk => (hw.block k (Nat.lt_of_lt_of_le hk h.bel.size) (by omega)).trans (h.bel.block k hk)⟩⟩
/-- Three boxes are made at the start. -/
theorem GtI.start (w : World) (p : Int) (A : Option Addr) (cap : Nat) (l : List (Int × Int)) (AF AT AZ : Option Addr) (cF cT cZ lo hi : Nat) (F T Z : List Int) (hl : BarsAt w w.heap.size A l) (h : Peb3 w lo hi AF AT AZ F T Z) :
    GtI w (((w.alloc (.cells #[.int .i64 p, .slice A l.length cap] 26)).alloc (.cells #[.slice AF F.length cF, .slice AT T.length cT, .slice AZ Z.length cZ] 31)).alloc (.cells #[.slice none 0 0, .slice none 0 0, .slice none 0 0] 31)) p A cap l AF AT AZ cF cT cZ lo hi F T Z := by
  have b1 := new_below w (.cells #[.int .i64 p, .slice A l.length cap] 26)
  generalize hw1 : (w.alloc (.cells #[.int .i64 p, .slice A l.length cap] 26)) = w1 at *
  have s1 : w1.heap.size = w.heap.size + 1 := by rw [← hw1]; simp
  have n1 := box_new w p (.slice A l.length cap) 26
  rw [hw1] at n1
  have b2 := new_below w1 (.cells #[.slice AF F.length cF, .slice AT T.length cT, .slice AZ Z.length cZ] 31)
  have n2 := cel3_new w1 (.slice AF F.length cF) (.slice AT T.length cT) (.slice AZ Z.length cZ) 31
  generalize hw2 : (w1.alloc (.cells #[.slice AF F.length cF, .slice AT T.length cT, .slice AZ Z.length cZ] 31)) = w2 at *
  have s2 : w2.heap.size = w.heap.size + 1 + 1 := by rw [← hw2]; simp [s1]
  have b3 := new_below w2 (.cells #[.slice none 0 0, .slice none 0 0, .slice none 0 0] 31)
  have n3 := cel3_new w2 (.slice none 0 0) (.slice none 0 0) (.slice none 0 0) 31
  have b123 := below_on (below_on b1 b2 b1.size) b3 (by omega)
  rw [s1] at n2
  rw [s2] at n3
  exact ⟨(n1.kept b2).kept b3, n2.kept b3, n3, (bars_in hl).within (within_of b123) (.inr (Nat.zero_le _)), h.within (within_of b123) (.inr (Nat.zero_le _)), b123⟩
end Go.Proofs.Ytdkpmaahinbhlaa
/- What spec.l4Tail answers: how many tails are a point. No condition. -/
namespace Go.Proofs.Ytdkpmaahinbhlaa
open Go.RowKit

theorem count_take (T : List Int) (v : Int) (k : Nat) (h : k < T.length) : (T.take (k + 1)).count v = (T.take k).count v + if T.getD k 0 = v then 1 else 0 := by
  rw [take_getD T 0 k h, List.count_append, List.count_singleton]
  by_cases c : T.getD k 0 = v
  · rw [if_pos c, if_pos (by simpa using c)]
  · rw [if_neg c, if_neg (by simpa using c)]

set_option maxHeartbeats 1000000 in
set_option maxRecDepth 100000 in
theorem tail_c (AF AT AZ : Option Addr) (cF cT cZ lo hi : Nat) (F T Z : List Int) (v : Int) (w : World) (h : Peb3 w lo hi AF AT AZ F T Z) (hT : T.length ≤ 1048576) :
    Calls Try.prog 132 #[pebV AF F.length cF AT T.length cT AZ Z.length cZ, .int .i64 v] w fun e w' => e = .returned (.int .i64 (T.count v : Int)) ∧ Below w.heap.size w w' := by
  have hal := new_below w (.cells #[.slice AF F.length cF, .slice AT T.length cT, .slice AZ Z.length cZ] 31)
  have HB := Lib.hid hal
  have HC := Lib.hid (cel3_new w (.slice AF F.length cF) (.slice AT T.length cT) (.slice AZ Z.length cZ) 31)
  have HI := Lib.hid (h.t.within (within_of hal) (.inr (Nat.zero_le _)))
  clear hal h
  obtain ⟨_, c1, _, _⟩ := HC.out.cells
  go_enter Try.func132, Try.ntmps132
  go_wp2_with fail
  generalize (w.alloc (.cells #[.slice AF F.length cF, .slice AT T.length cT, .slice AZ Z.length cZ] 31)) = w1 at *
  go_loop [5, 6] (fun s i => ∃ k : Nat, k ≤ T.length ∧ i = .int .i64 k ∧ s = .int .i64 ((T.take k).count v : Int)) (fun _ i => T.length - (intOf i).toNat)
  case atStart => exact ⟨0, by omega, rfl, rfl⟩
  case round =>
    obtain ⟨k, hk, rfl, rfl⟩ := hrel
    by_cases hlt : k < T.length
    · have hi' : (k : Int) < (T.length : Int) := by omega
      obtain ⟨b, off, rfl, _, _, hcell⟩ := HI.out.2 (by omega)
      have hc := hcell k hlt
      have HS := Lib.hid (count_take T v k hlt)
      have hle : (T.take k).count v ≤ k := Nat.le_trans (List.count_le_length ..) (by simp; omega)
      obtain ⟨x, hx⟩ : ∃ x, T.getD k 0 = x := ⟨_, rfl⟩
      rw [hx] at hc HS
      clear hcell hx
      by_cases c : x = v
      · rw [if_pos c] at HS
        have hb : (x == v) = true := by simpa using c
        go_wp2_with fail
        go_round
        case rel => exact ⟨k + 1, by omega, by go_num, by rw [HS.out]; go_num⟩
        case measure => simp [intOf]; omega
      · rw [if_neg c] at HS
        have hb : (x == v) = false := by simpa using c
        go_wp2_with fail
        go_round
        case rel => exact ⟨k + 1, by omega, by go_num, by rw [HS.out]; rfl⟩
        case measure => simp [intOf]; omega
    · obtain rfl : k = T.length := by omega
      go_wp2_with fail
      go_ret
      exact ⟨rfl, HB.out⟩
end Go.Proofs.Ytdkpmaahinbhlaa
/- What (Bar).hasEnd answers. No condition. -/
namespace Go.Proofs.Ytdkpmaahinbhlaa
open Go.RowKit

theorem endB_eq (v x y : Int) : endB v (x, y) = ((x == v) || (y == v)) := by
  unfold endB
  simp only [Bool.decide_or]
  rfl

theorem hasEnd_c (v : Int) (x : Int × Int) (w : World) :
    Calls Try.prog 114 #[.agg #[.int .i64 x.1, .int .i64 x.2], .int .i64 v] w fun e w' => e = .returned (.bool (endB v x)) ∧ Below w.heap.size w w' := by
  obtain ⟨x, y⟩ := x
  have hh := endB_eq v x y
  cases e1 : (x == v) <;> cases e2 : (y == v)
  all_goals
    rw [e1, e2] at hh
    have HH := Lib.hid hh
    clear hh
    go_enter Try.func114, Try.ntmps114
    go_wp2
    go_ret
    exact ⟨by rw [HH.out]; rfl, (Below.refl _ _).alloc (Nat.le_refl _) _⟩
end Go.Proofs.Ytdkpmaahinbhlaa
/- When a state is one of a graph, bar by bar. No program. No condition. -/
namespace Go.Proofs.Ytdkpmaahinbhlaa
open Go.RowKit

/-- The bar at place i of those that were placed is in order. -/
def OkP (l : List (Int × Int)) (T Z : List Int) (i : Nat) : Prop :=
  (0 ≤ Z.getD i 0 ∧ Z.getD i 0 < (l.length : Int)) ∧ (0 < i → Z.getD (i - 1) 0 < Z.getD i 0) ∧ isEnd (l.getD (Z.getD i 0).toNat (0, 0)) (T.getD i 0)
theorem okP_snoc {l : List (Int × Int)} {T Z : List Int} {k : Nat} (h : ∀ j, j < k → OkP l T Z j) (hk : OkP l T Z k) : ∀ j, j < k + 1 → OkP l T Z j := fun j hj => by
  by_cases e : j = k
  · subst e; exact hk
  · exact h j (by omega)
theorem isPeb_bad {p k : Int} {l : List (Int × Int)} {F T Z : List Int} {i : Nat} (hi : i < Z.length) (h : ¬ OkP l T Z i) : isPebB p k l F T Z = false := isPebB_no fun hp => h (hp.2.2.2.2.1 i hi)
theorem isPeb_free {p k : Int} {l : List (Int × Int)} {F T Z : List Int} {v : Nat} (hv : v < F.length) (h : ¬ (0 ≤ F.getD v 0 ∧ F.getD v 0 + (T.count (v : Int) : Int) = k)) : isPebB p k l F T Z = false := isPebB_no fun hp => h (hp.2.2.2.2.2 v hv)
/-- As many bars were placed as there are, at most. -/
theorem okP_len {l : List (Int × Int)} {T Z : List Int} (h : ∀ j, j < Z.length → OkP l T Z j) : Z.length ≤ l.length := by
  have key : ∀ j, j < Z.length → (j : Int) ≤ Z.getD j 0 := by
    intro j
    induction j with
    | zero => intro hj; exact (h 0 hj).1.1
    | succ j ih =>
      intro hj
      have h1 := ih (by omega)
      have h2 := (h (j + 1) hj).2.1 (by omega)
      rw [show j + 1 - 1 = j by omega] at h2
      omega
  by_cases hz : Z.length = 0
  · omega
  · have h1 := key (Z.length - 1) (by omega)
    have h2 := (h (Z.length - 1) (by omega)).1.2
    omega
theorem endB_is (x : Int × Int) (v : Int) : endB v x = true ↔ isEnd x v := by
  unfold endB isEnd
  rw [decide_eq_true_iff]
  constructor
  · rintro (h | h)
    · exact .inl h.symm
    · exact .inr h.symm
  · rintro (h | h)
    · exact .inl h.symm
    · exact .inr h.symm
theorem wf_add {x : Int} {n : Nat} {k : Int} (hw : Wf x) (h0 : 0 ≤ x) (hn : n ≤ 24) (hk : 1 ≤ k ∧ k ≤ 3) : (IntKind.i64.wrap (x + (n : Int)) = k) ↔ x + (n : Int) = k := by
  unfold Wf at hw
  simp [Lit.wf, IntKind.min, IntKind.max, IntKind.signed, IntKind.bits] at hw
  constructor
  · intro h
    by_cases hx : x + (n : Int) ≤ 9223372036854775807
    · rwa [IntWalk.i64_in _ (by omega)] at h
    · exfalso
      rw [IntKind.wrap_i64] at h
      omega
  · intro h
    rw [IntWalk.i64_in _ (by omega)]
    exact h
/-- A graph and a state that are read: each in a box of its own, with the rows that they point to. -/
structure GP (w wr : World) (bx bp : Nat) (p : Int) (A : Option Addr) (cap : Nat) (l : List (Int × Int)) (AF AT AZ : Option Addr) (cF cT cZ lo hi : Nat) (F T Z : List Int) : Prop where
  box : Box wr bx p (.slice A l.length cap)
  st : Cel3 wr bp 31 (.slice AF F.length cF) (.slice AT T.length cT) (.slice AZ Z.length cZ)
  bars : BarsIn wr 0 w.heap.size A l
  rows : Peb3 wr lo hi AF AT AZ F T Z
  bel : Below w.heap.size w wr
theorem GP.below {w wr w' : World} {bx bp : Nat} {p : Int} {A : Option Addr} {cap : Nat} {l : List (Int × Int)} {AF AT AZ : Option Addr} {cF cT cZ lo hi : Nat} {F T Z : List Int} (h : GP w wr bx bp p A cap l AF AT AZ cF cT cZ lo hi F T Z) (hb : Below wr.heap.size wr w') : GP w w' bx bp p A cap l AF AT AZ cF cT cZ lo hi F T Z :=
  ⟨h.box.kept hb, h.st.kept hb, h.bars.within (within_of hb) (.inr (Nat.zero_le _)), h.rows.within (within_of hb) (.inr (Nat.zero_le _)), below_on h.bel hb h.bel.size⟩
theorem GP.drewN {w wr : World} {bx bp : Nat} {p : Int} {A : Option Addr} {cap : Nat} {l : List (Int × Int)} {AF AT AZ : Option Addr} {cF cT cZ lo hi : Nat} {F T Z : List Int} (h : GP w wr bx bp p A cap l AF AT AZ cF cT cZ lo hi F T Z) (n : Nat) : GP w (wr.drewN n) bx bp p A cap l AF AT AZ cF cT cZ lo hi F T Z := h.below (below_drewN _ _ _)
theorem row_at {W : World} {lo hi : Nat} {A : Option Addr} {zs : List Int} (h : IntsIn W lo hi A zs) (hz : 0 < zs.length) : ∃ b off, A = some ⟨b, off, none⟩ ∧ ∀ k, k < zs.length → W.cell? ⟨b, off + k, none⟩ = some (.int .i64 (zs.getD k 0)) := by
  obtain ⟨b, off, e, _, _, hc⟩ := h.2 hz
  exact ⟨b, off, e, hc⟩
end Go.Proofs.Ytdkpmaahinbhlaa
/- What stands while a path is turned round in a copy of a state. No program's walk. No condition. -/
namespace Go.Proofs.Ytdkpmaahinbhlaa
open Go.RowKit

/-- Where a point stands in a queue. -/
def posQ : List (Int × Nat) → Int → Nat
  | [], _ => 0
  | x :: r, t => if x.1 = t then 0 else posQ r t + 1
theorem posQ_in : ∀ (q1 r : List (Int × Nat)) (t : Int), t ∈ q1.map Prod.fst → posQ (q1 ++ r) t < q1.length := by
  intro q1 r t
  induction q1 with
  | nil => intro h; cases h
  | cons x q1 ih =>
    intro h
    rw [List.cons_append, posQ]
    by_cases c : x.1 = t
    · rw [if_pos c]; simp
    · rw [if_neg c]
      have : t ∈ q1.map Prod.fst := by
        rcases List.mem_cons.1 h with e | e
        · exact absurd e.symm c
        · exact e
      have := ih this
      simp only [List.length_cons]
      omega
theorem posQ_out : ∀ (q1 q2 : List (Int × Nat)) (t : Int) (i : Nat), t ∉ q1.map Prod.fst → posQ (q1 ++ (t, i) :: q2) t = q1.length := by
  intro q1 q2 t i
  induction q1 with
  | nil => intro _; simp [posQ]
  | cons x q1 ih =>
    intro h
    simp only [List.map_cons, List.mem_cons, not_or] at h
    rw [List.cons_append, posQ, if_neg (fun e => h.1 e.symm), ih h.2]
    rfl
theorem posQ_step {q1 q2 : List (Int × Nat)} {t t' : Int} {i : Nat} (h : t ∉ q1.map Prod.fst) (h' : t' ∈ q1.map Prod.fst) : posQ (q1 ++ (t, i) :: q2) t' < posQ (q1 ++ (t, i) :: q2) t := by
  rw [posQ_out q1 q2 t i h]
  exact posQ_in q1 _ t' h'
/-- The path from t on is still to be turned. -/
structure TurnI (P : Nat) (E : List (Int × Int)) (T0 : List Int) (a : Int) (q : List (Int × Nat)) (TF : List Int) (t : Int) (T : List Int) : Prop where
  ends : EndsQ P E T0
  len : T.length = E.length
  ex : ∃ q1 q2, q = q1 ++ q2 ∧ PathQ P E T0 a q1 ∧ t ∈ q1.map Prod.fst ∧ turnQ E a q1.reverse t T = TF ∧ ∀ x ∈ q1, x.1 ≠ a → T.getD x.2 0 = T0.getD x.2 0
theorem TurnI.done {P : Nat} {E : List (Int × Int)} {T0 : List Int} {a : Int} {q : List (Int × Nat)} {TF T : List Int} (h : TurnI P E T0 a q TF a T) : T = TF := by
  obtain ⟨q1, q2, _, _, _, e, _⟩ := h.ex
  rw [turnQ_a] at e
  exact e
/-- One bar of the path: its number, and where the path goes on. -/
theorem TurnI.next {P : Nat} {E : List (Int × Int)} {T0 : List Int} {a : Int} {q : List (Int × Nat)} {TF T : List Int} {t : Int} (h : TurnI P E T0 a q TF t T) (hn : t ≠ a) :
    ∃ i, (t, i) ∈ q ∧ i < E.length ∧ (0 ≤ t ∧ t < (P : Int)) ∧ T.getD i 0 = oth (E.getD i (0, 0)) t ∧ isEnd (E.getD i (0, 0)) t ∧ (0 ≤ oth (E.getD i (0, 0)) t ∧ oth (E.getD i (0, 0)) t < (P : Int)) ∧ TurnI P E T0 a q TF (oth (E.getD i (0, 0)) t) (T.set i t) ∧ posQ q (oth (E.getD i (0, 0)) t) < posQ q t := by
  obtain ⟨q1, q2, rfl, hp, ht, e, hT⟩ := h.ex
  obtain ⟨i, p1, p2, rfl, h1, h2, h3, h4, h5, h6, h7, h8⟩ := hp.at ht hn
  rw [turnQ_step E a t i p1 p2 T h1 hn] at e
  have hend : isEnd (E.getD i (0, 0)) t := by
    have := h.ends.tail i h3
    rw [h4] at this
    have := oth_end this
    rwa [oth_oth] at this
  have hb := h.ends.bar i h3
  refine ⟨i, by simp, h3, ⟨h6, h7⟩, (hT (t, i) (by simp) hn).trans h4, hend, ?_, ⟨h.ends, by rw [List.length_set]; exact h.len, p1, (t, i) :: p2 ++ q2, by simp, h8, h5, e, fun x hx hxa => ?_⟩, ?_⟩
  · unfold isEnd at hend
    unfold oth
    omega
  · rw [set_getD_ne _ _ _ _ _ (h8.other h2 h4 hx hxa)]
    exact hT x (List.mem_append_left _ hx) hxa
  · rw [List.append_assoc, List.cons_append]
    exact posQ_step h2 h5
theorem TurnI.start {P : Nat} {E : List (Int × Int)} {T0 : List Int} {a u : Int} {q r : List (Int × Nat)} (he : EndsQ P E T0) (hp : PathQ P E T0 a q) (hu : u ∈ q.map Prod.fst) : TurnI P E T0 a (q ++ r) (turnQ E a q.reverse u T0) u T0 :=
  ⟨he, he.len, q, r, rfl, hp, hu, rfl, fun _ _ _ => rfl⟩
end Go.Proofs.Ytdkpmaahinbhlaa
/- What spec.l4Shift answers: a copy of the state where a pebble moved and a path was turned round. No condition. -/
namespace Go.Proofs.Ytdkpmaahinbhlaa
open Go.RowKit

/-- What stands while the path is turned in the copy: what is read, the copy's box, the copy's rows. -/
structure ShL (w wr : World) (p : Int) (A : Option Addr) (cap : Nat) (l : List (Int × Int)) (AF AT AZ : Option Addr) (cF cT cZ lo hi : Nat) (F T Z : List Int) (bx gF dF gT dT : Nat) (BZ : Option Addr) (dZ : Nat) (z : Nat × Nat) (lf hf : Nat) (Af : Option Addr) (FR G T' : List Int) : Prop where
  g : GtI w wr p A cap l AF AT AZ cF cT cZ lo hi F T Z
  x : Cel3 wr bx 31 (.slice (some ⟨gF, 0, none⟩) F.length dF) (.slice (some ⟨gT, 0, none⟩) T.length dT) (.slice BZ Z.length dZ)
  s : St3 wr 0 gF dF gT dT BZ dZ z.1 z.2 G T' Z
  fr : IntsIn wr lf hf Af FR
  oz : OwnR wr z.1 z.2 BZ dZ Z
theorem ShL.below {w wr : World} {p : Int} {A : Option Addr} {cap : Nat} {l : List (Int × Int)} {AF AT AZ : Option Addr} {cF cT cZ lo hi : Nat} {F T Z : List Int} {bx gF dF gT dT : Nat} {BZ : Option Addr} {dZ : Nat} {z : Nat × Nat} {lf hf : Nat} {Af : Option Addr} {FR G T' : List Int} {w' : World} (h : ShL w wr p A cap l AF AT AZ cF cT cZ lo hi F T Z bx gF dF gT dT BZ dZ z lf hf Af FR G T') (hb : Below wr.heap.size wr w') : ShL w w' p A cap l AF AT AZ cF cT cZ lo hi F T Z bx gF dF gT dT BZ dZ z lf hf Af FR G T' :=
  ⟨h.g.below hb, h.x.kept hb, h.s.below hb, h.fr.within (within_of hb) (.inr (Nat.zero_le _)), h.oz.within (within_of hb) (.inr (Nat.zero_le _))⟩
theorem ShL.setT {w wr : World} {p : Int} {A : Option Addr} {cap : Nat} {l : List (Int × Int)} {AF AT AZ : Option Addr} {cF cT cZ lo hi : Nat} {F T Z : List Int} {bx gF dF gT dT : Nat} {BZ : Option Addr} {dZ : Nat} {z : Nat × Nat} {lf hf : Nat} {Af : Option Addr} {FR G T' : List Int} (h : ShL w wr p A cap l AF AT AZ cF cT cZ lo hi F T Z bx gF dF gT dT BZ dZ z lf hf Af FR G T') (h1 : w.heap.size + 3 ≤ gT) (h2 : hi ≤ gT) (h3 : hf ≤ gT) (h4 : gT ≠ bx) (h5 : gT < z.1 ∨ z.2 ≤ gT) (i : Nat) (v : Int) : ShL w (wr.setCell ⟨gT, i, none⟩ (.int .i64 v)) p A cap l AF AT AZ cF cT cZ lo hi F T Z bx gF dF gT dT BZ dZ z lf hf Af FR G (T'.set i v) := by
  have hw := within_set wr gT i (.int .i64 v)
  exact ⟨h.g.within hw h1 h2, h.x.within hw (by omega), h.s.setT i v, h.fr.within hw (by omega), h.oz.within hw (by omega)⟩

set_option maxHeartbeats 4000000 in
set_option maxRecDepth 100000 in
theorem shift_c (P : Nat) (l : List (Int × Int)) (A : Option Addr) (cap : Nat) (AF AT AZ : Option Addr) (cF cT cZ lo hi : Nat) (F T Z : List Int) (a u : Int) (q : List (Int × Nat)) (TF FR : List Int) (Af : Option Addr) (cf lf hf : Nat) (w : World) (hl : BarsAt w w.heap.size A l) (h : Peb3 w lo hi AF AT AZ F T Z) (hn : l.length ≤ 24) (hFP : F.length = P) (hP : 1 ≤ P ∧ P ≤ 8) (hTZ : T.length = Z.length) (hZ24 : Z.length ≤ 24)
    (hZ : ∀ i, i < Z.length → 0 ≤ Z.getD i 0 ∧ Z.getD i 0 < (l.length : Int)) (hq : TurnI P (plE l Z) T a q TF u T) (hfr : IntsIn w lf hf Af FR) (hFR : FR.length = P) (hfq : ∀ x ∈ q, x.1 ≠ a → FR.getD x.1.toNat 0 = (x.2 : Int)) (ha : 0 ≤ a ∧ a < (P : Int)) (hu : 0 ≤ u ∧ u < (P : Int)) (hua : u ≠ a) (hFu : 0 ≤ F.getD u.toNat 0 ∧ F.getD u.toNat 0 ≤ 3) (hFa : 0 ≤ F.getD a.toNat 0 ∧ F.getD a.toNat 0 ≤ 3) :
    Calls Try.prog 227 #[.agg #[.int .i64 (P : Int), .slice A l.length cap], pebV AF F.length cF AT T.length cT AZ Z.length cZ, .slice Af FR.length cf, .int .i64 a, .int .i64 u] w (PebR w (movF F a u) TF Z) := by
  obtain ⟨an, rfl⟩ : ∃ an : Nat, a = (an : Int) := ⟨a.toNat, by omega⟩
  obtain ⟨un, rfl⟩ : ∃ un : Nat, u = (un : Int) := ⟨u.toNat, by omega⟩
  rw [Int.toNat_natCast] at hFu hFa
  subst hFP
  have hT0 : 0 < T.length := by
    obtain ⟨i, _, hi, _⟩ := hq.next hua
    rw [plE_len] at hi
    omega
  have hT24 : T.length ≤ 24 := by omega
  have HTZ := Lib.hid hTZ
  have HFL := Lib.hid hFR
  clear hTZ hFR
  have hhi : hi ≤ w.heap.size := h.f.1
  have hhf : hf ≤ w.heap.size := hfr.1
  have HI0 := Lib.hid (GtI.start w (F.length : Int) A cap l AF AT AZ cF cT cZ lo hi F T Z hl h)
  have HFR0 := Lib.hid (hfr.within (within_of HI0.out.bel) (.inr (Nat.zero_le _)))
  have HQ := Lib.hid hq
  have HZ := Lib.hid hZ
  have HFQ := Lib.hid hfq
  have HE := Lib.hid (fun i hi => plE_get l Z i hi)
  have HEL := Lib.hid (plE_len l Z)
  generalize plE l Z = E at *
  obtain ⟨g0, g1, g2, _, _, _⟩ := HI0.out.pb.cells
  clear hl h hfr hq hZ hfq
  go_enter Try.func227, Try.ntmps227
  have hsz3 : (((w.alloc (.cells #[.int .i64 (F.length : Int), .slice A l.length cap] 26)).alloc (.cells #[.slice AF F.length cF, .slice AT T.length cT, .slice AZ Z.length cZ] 31)).alloc (.cells #[.slice none 0 0, .slice none 0 0, .slice none 0 0] 31)).heap.size = w.heap.size + 3 := by simp
  go_wp2_with (go_at_call 126; refine (copyPeb_c AF AT AZ cF cT cZ lo hi F T Z _ HI0.out.src (by omega) (by omega) (by omega)).mono ?_; rintro e w4 ⟨BF, dF, BT, dT, BZ, dZ, rfl, ho, hb⟩; have hb5 := new_below w4 (.cells #[.slice BF F.length dF, .slice BT T.length dT, .slice BZ Z.length dZ] 31); have HI5 := Lib.hid ((HI0.out.below hb).below hb5); have HX5 := Lib.hid (cel3_new w4 (.slice BF F.length dF) (.slice BT T.length dT) (.slice BZ Z.length dZ) 31); have HFR5 := Lib.hid ((HFR0.out.within (within_of hb) (.inr (Nat.zero_le _))).within (within_of hb5) (.inr (Nat.zero_le _))); obtain ⟨f, t, z, hof, y1, y2, y3⟩ := ho.ownF; have HO5 := Lib.hid (hof.below hb5); have hh4 := hof.hi; clear hof; have hlo := hb.size; rw [hsz3] at hlo y1 y2 y3; obtain ⟨x2, x3, x4, _, _, _⟩ := HX5.out.cells; clear ho hb hb5 g0 g1 g2)
  clear x2 x3 x4
  have HIS := Lib.hid hsz3
  clear hsz3
  generalize hw5 : (w4.alloc (.cells #[.slice BF F.length dF, .slice BT T.length dT, .slice BZ Z.length dZ] 31)) = w5 at *
  have hs5 : w4.heap.size < w5.heap.size := by rw [← hw5]; simp
  clear hw5
  generalize w4.heap.size = bx at *
  obtain ⟨gF, gT, rfl, rfl, bF, bT, hst⟩ := HO5.out.open_ (by omega) hT0
  have HOZ := Lib.hid HO5.out.2.2
  obtain ⟨hc1, hf1⟩ := hst.cellF un (by omega)
  obtain ⟨d, hd⟩ : ∃ d, d = F.getD un 0 := ⟨_, rfl⟩
  obtain ⟨e, he⟩ : ∃ e, e = F.getD an 0 := ⟨_, rfl⟩
  have hne : an ≠ un := by omega
  have hst1 := hst.setF un (d - 1)
  have HEE := Lib.hid he
  rw [← hd] at hc1 hFu
  rw [← he] at hFa
  have HMV := Lib.hid (show (F.set un (d - 1)).set an (e + 1) = movF F (an : Int) (un : Int) by unfold movF; rw [Int.toNat_natCast, Int.toNat_natCast, hd, he])
  clear hd he
  have hw1 := within_set w5 gF un (.int .i64 (d - 1))
  have hdr : Below (w5.setCell ⟨gF, un, none⟩ (.int .i64 (d - 1))).heap.size (w5.setCell ⟨gF, un, none⟩ (.int .i64 (d - 1))) (w5.setCell ⟨gF, un, none⟩ (.int .i64 (d - 1))).drew := (Below.refl _ _).drew
  obtain ⟨x0, x1, x2, _, _, _⟩ := HX5.out.cells
  have HI6 := Lib.hid ((HI5.out.within hw1 (by omega) (by omega)).below hdr)
  have HX6 := Lib.hid ((HX5.out.within hw1 (by omega)).kept hdr)
  have HST6 := Lib.hid (hst1.below hdr)
  have HFR6 := Lib.hid ((HFR5.out.within hw1 (by omega)).within (within_of hdr) (.inr (Nat.zero_le _)))
  have HOZ6 := Lib.hid ((HOZ.out.1.within hw1 (by have := HOZ.out.2; unfold Dis at this; omega)).within (within_of hdr) (.inr (Nat.zero_le _)))
  have HZR := Lib.hid HOZ.out.2
  have hs6 := Nat.le_trans hw1.size hdr.size
  clear hst hst1 hw1 hdr HOZ
  have huF : (un : Int) < (F.length : Int) := hu.2
  have haF : (an : Int) < (F.length : Int) := ha.2
  go_region
  go_wp2_with fail
  clear x0 x1 x2 hc1 hf1
  generalize (w5.setCell ⟨gF, un, none⟩ (.int .i64 (d - 1))).drew = w6 at *
  obtain ⟨x0, x1, x2, _, _, _⟩ := HX6.out.cells
  obtain ⟨hc2, hf2⟩ := HST6.out.cellF an (by rw [List.length_set]; omega)
  rw [set_getD_ne _ _ _ _ _ hne, ← HEE.out] at hc2
  have hw2 := within_set w6 gF an (.int .i64 (e + 1))
  have hdr2 : Below (w6.setCell ⟨gF, an, none⟩ (.int .i64 (e + 1))).heap.size (w6.setCell ⟨gF, an, none⟩ (.int .i64 (e + 1))) (w6.setCell ⟨gF, an, none⟩ (.int .i64 (e + 1))).drew := (Below.refl _ _).drew
  have hst7 := (HST6.out.setF an (e + 1)).below hdr2
  rw [HMV.out] at hst7
  have HS7 := Lib.hid (show ShL w (w6.setCell ⟨gF, an, none⟩ (.int .i64 (e + 1))).drew (F.length : Int) A cap l AF AT AZ cF cT cZ lo hi F T Z bx gF dF gT dT BZ dZ z lf hf Af FR (movF F (an : Int) (un : Int)) T from ⟨(HI6.out.within hw2 (by omega) (by omega)).below hdr2, (HX6.out.within hw2 (by omega)).kept hdr2, hst7, (HFR6.out.within hw2 (by omega)).within (within_of hdr2) (.inr (Nat.zero_le _)), (HOZ6.out.within hw2 (by have := HZR.out; unfold Dis at this; omega)).within (within_of hdr2) (.inr (Nat.zero_le _))⟩)
  have hs7 := Nat.le_trans hw2.size hdr2.size
  clear hst7 hw2 hdr2 HI6 HX6 HST6 HFR6 HOZ6 HMV HEE
  go_region
  go_wp2_with fail
  clear x0 x1 x2 hc2 hf2
  generalize (w6.setCell ⟨gF, an, none⟩ (.int .i64 (e + 1))).drew = w7 at *
  go_loopw [12] (fun v wr => ∃ (t : Int) (T' : List Int), v = .int .i64 t ∧ TurnI F.length E T (an : Int) q TF t T' ∧ w5.heap.size ≤ wr.heap.size ∧ ShL w wr (F.length : Int) A cap l AF AT AZ cF cT cZ lo hi F T Z bx gF dF gT dT BZ dZ z lf hf Af FR (movF F (an : Int) (un : Int)) T') (fun v _ => posQ q (intOf v))
  case atStart => exact ⟨un, T, rfl, HQ.out, by omega, HS7.out⟩
  case round =>
    obtain ⟨t, T', rfl, ht, hsz, hs⟩ := hrel
    have HS := Lib.hid hs
    obtain ⟨x0, x1, x2, _, _, _⟩ := hs.x.cells
    clear hs HS7
    by_cases c : t = (an : Int)
    · subst c
      have HTF := Lib.hid ht.done
      have hlen := ht.len
      clear ht
      have e1 : ((an : Int) != (an : Int)) = false := by simp
      have r3 := ret3 HS.out.g.rb (.slice (some ⟨gF, 0, none⟩) F.length dF) (.slice (some ⟨gT, 0, none⟩) T.length dT) (.slice BZ Z.length dZ)
      obtain ⟨_, _, _, f0, f1, f2⟩ := HS.out.g.rb.cells
      obtain ⟨s0, s1, s2, _⟩ := r3.1.cells
      have HW := Lib.hid r3.2
      clear r3
      go_wp2_with fail
      refine bodyPost_ret (v := pebV (some ⟨gF, 0, none⟩) F.length dF (some ⟨gT, 0, none⟩) T.length dT BZ Z.length dZ) ?_ rfl ?_
      · simp [results, Try.results227, go_sem, s0, s1, s2]
      · have hd := HZR.out
        unfold Dis at hd
        have ho := HS.out.s.ownF bF bT (by omega) (by omega) HS.out.oz hd.1 hd.2.1 hd.2.2
        have hw := HW.out.size
        have hTF : TF.length = T.length := by rw [← HTF.out, hlen, HEL.out, HTZ.out]
        rw [HTF.out] at ho
        exact ⟨_, _, _, _, _, _, by rw [movF_len, hTF], (ho.within HW.out (by omega) (by omega) (by omega)).own3R (by omega) (by omega) (by omega) (Nat.le_refl _), within_on HS.out.g.bel HW.out HS.out.g.bel.size (.inl (by omega))⟩
    · have e1 : (t != (an : Int)) = true := by simpa using c
      obtain ⟨i, hi1, hi2, hi3, hi4, hend, hor, hi5, hi6⟩ := ht.next c
      have HX := Lib.hid hi5
      have HM := Lib.hid hi6
      have hEi := HE.out i (by have := HEL.out; omega)
      have hbar := ht.ends.bar i hi2
      have hfi := HFQ.out (t, i) hi1 c
      have hiZ : i < Z.length := by have := HEL.out; omega
      have hlen := ht.len
      clear ht hi1 hi4 hi5 hi6 c
      obtain ⟨tn, rfl⟩ : ∃ tn : Nat, t = (tn : Int) := ⟨t.toNat, by omega⟩
      simp only [Int.toNat_natCast] at hfi
      obtain ⟨fb, fo, rfl, hfc⟩ := row_at HS.out.fr (by have := HFL.out; omega)
      have hfn := hfc tn (by have := HFL.out; omega)
      rw [hfi] at hfn
      obtain ⟨zb, zo, rfl, hzc⟩ := row_at HS.out.g.src.z (by omega)
      have hz := hzc i hiZ
      have hzr := HZ.out i hiZ
      obtain ⟨n, hnz⟩ : ∃ n : Nat, Z.getD i 0 = (n : Int) := ⟨(Z.getD i 0).toNat, by omega⟩
      rw [hnz] at hz hzr hEi
      rw [Int.toNat_natCast] at hEi
      obtain ⟨b, off, rfl, hbB, hbc⟩ := HS.out.g.bars.at (by omega)
      have hx1 := (hbc n (by omega)).1
      have hx2 := (hbc n (by omega)).2
      rw [← hEi] at hx1 hx2
      obtain ⟨v, hv⟩ : ∃ v, oth (E.getD i (0, 0)) (tn : Int) = v := ⟨_, rfl⟩
      obtain ⟨x, hxd⟩ : ∃ x, E.getD i (0, 0) = x := ⟨_, rfl⟩
      rw [hv] at HX HM hor
      rw [hxd] at hx1 hx2 hbar hend hv
      clear hEi hxd hzc hbc hfc hnz
      obtain ⟨x1', x2'⟩ := x
      simp only at hx1 hx2 hbar
      have HV := Lib.hid hv
      clear hv hend
      have htF : (tn : Int) < (FR.length : Int) := by have := HFL.out; omega
      have hiZi : (i : Int) < (Z.length : Int) := by omega
      have hnl : (n : Int) < (l.length : Int) := by omega
      have hiT : (i : Int) < (T.length : Int) := by have := HTZ.out; omega
      obtain ⟨_, gx0, gx1⟩ := HS.out.g.gb
      obtain ⟨p0, p1, p2, _, _, _⟩ := HS.out.g.pb.cells
      have HKK := Lib.hid (show (fun W' => W'.cell? ⟨w.heap.size, 1, none⟩ = some (.slice (some ⟨b, off, none⟩) l.length cap) ∧ W'.cell? ⟨w.heap.size + 1, 2, none⟩ = some (.slice (some ⟨zb, zo, none⟩) Z.length cZ) ∧ W'.cell? ⟨zb, zo + i, none⟩ = some (.int .i64 (n : Int)) ∧ W'.cell? ⟨b, off + n * 2, none⟩ = some (.int .i64 x1') ∧ W'.cell? ⟨b, off + n * 2 + 1, none⟩ = some (.int .i64 x2')) wr from ⟨gx1, p2, hz, hx1, hx2⟩)
      have HSD := Lib.hid (HS.out.below (Below.refl _ _).drew)
      go_wp2_with fail
      clear gx0 gx1 p0 p1 p2 x0 x1 x2
      go_region_held3 (fun W' => W'.cell? ⟨w.heap.size, 1, none⟩ = some (.slice (some ⟨b, off, none⟩) l.length cap) ∧ W'.cell? ⟨w.heap.size + 1, 2, none⟩ = some (.slice (some ⟨zb, zo, none⟩) Z.length cZ) ∧ W'.cell? ⟨zb, zo + i, none⟩ = some (.int .i64 (n : Int)) ∧ W'.cell? ⟨b, off + n * 2, none⟩ = some (.int .i64 x1') ∧ W'.cell? ⟨b, off + n * 2 + 1, none⟩ = some (.int .i64 x2'))
        (first | exact HKK.out | exact HK5.out | fail)
        (first | (go_at_call 226; refine (other_c (x1', x2') (tn : Int) _ (by omega) (by omega) (by omega)).mono ?_; rintro e w8 ⟨rfl, hb⟩; rw [HV.out]; have HS8 := Lib.hid (HSD.out.below hb); have hsz8 := hb.size; have HK5 := Lib.hid (show (fun W' => W'.cell? ⟨w.heap.size, 1, none⟩ = some (.slice (some ⟨b, off, none⟩) l.length cap) ∧ W'.cell? ⟨w.heap.size + 1, 2, none⟩ = some (.slice (some ⟨zb, zo, none⟩) Z.length cZ) ∧ W'.cell? ⟨zb, zo + i, none⟩ = some (.int .i64 (n : Int)) ∧ W'.cell? ⟨b, off + n * 2, none⟩ = some (.int .i64 x1') ∧ W'.cell? ⟨b, off + n * 2 + 1, none⟩ = some (.int .i64 x2')) w8 from ⟨HS8.out.g.gb.2.2, HS8.out.g.pb.cells.2.2.1, (hb.cell (p := ⟨zb, zo + i, none⟩) (World.block_lt_of_cell? _ _ HKK.out.2.2.1)).trans HKK.out.2.2.1, (hb.cell (p := ⟨b, off + n * 2, none⟩) (World.block_lt_of_cell? _ _ HKK.out.2.2.2.1)).trans HKK.out.2.2.2.1, (hb.cell (p := ⟨b, off + n * 2 + 1, none⟩) (World.block_lt_of_cell? _ _ HKK.out.2.2.2.2)).trans HKK.out.2.2.2.2⟩); clear hb))
      obtain ⟨y0, y1', y2', _, _, _⟩ := HS8.out.x.cells
      obtain ⟨hct, hft⟩ := HS8.out.s.cellT i (by omega)
      have hd := HZR.out
      unfold Dis at hd
      have HN := Lib.hid (HS8.out.setT (by omega) (by omega) (by omega) (by omega) (by omega) i (tn : Int))
      go_wp2_with fail
      go_roundw
      case rel => exact ⟨v, _, rfl, HX.out, by simpa using (by have : wr.drew.heap.size = wr.heap.size := rfl; omega), HN.out⟩
      case measure => exact HM.out
end Go.Proofs.Ytdkpmaahinbhlaa
/- What impl.turnPath does: a path is turned round in the row of tails. No condition. -/
namespace Go.Proofs.Ytdkpmaahinbhlaa
open Go.RowKit

set_option maxHeartbeats 2000000 in
set_option maxRecDepth 100000 in
theorem turnPath_c (P : Nat) (E : List (Int × Int)) (F T Z TF : List Int) (a u : Int) (q : List (Int × Nat)) (rb B gF cF gT cT cZ z1 z2 : Nat) (AZ : Option Addr) (w : World) (hst : St3 w B gF cF gT cT AZ cZ z1 z2 F T Z) (hn : TurnI P E T a q TF u T) (hP : P ≤ 8)
    (hrb : ∀ x ∈ q, x.1 ≠ a → w.cell? ⟨rb, x.1.toNat, none⟩ = some (.pointer (some ⟨gT, x.2, none⟩))) (hne : rb ≠ gT) (hlt : rb < w.heap.size) :
    Calls Try.prog 224 #[.pointer (some ⟨rb, 0, none⟩), .int .i64 a, .int .i64 u] w fun e w' => e = .returned (.tuple #[]) ∧ St3 w' B gF cF gT cT AZ cZ z1 z2 F TF Z ∧ Within gT (gT + 1) w w' := by
  have HST := Lib.hid hst
  have HN := Lib.hid hn
  have HRB := Lib.hid hrb
  clear hst hn hrb
  go_enter Try.func224, Try.ntmps224
  go_wp2_with fail
  go_loopw [6] (fun v wr => ∃ (t : Int) (T' : List Int), v = .int .i64 t ∧ TurnI P E T a q TF t T' ∧ St3 wr B gF cF gT cT AZ cZ z1 z2 F T' Z ∧ Within gT (gT + 1) w wr) (fun v _ => posQ q (intOf v))
  case atStart => exact ⟨u, T, rfl, HN.out, HST.out, Within.refl _ _ _⟩
  case round =>
    obtain ⟨t, T', rfl, ht, hs, hw⟩ := hrel
    have HW := Lib.hid hw
    have HS := Lib.hid hs
    clear hs hw
    by_cases c : t = a
    · subst c
      obtain rfl := ht.done
      clear ht
      have e1 : (t != t) = false := by simp
      go_wp2_with fail
      go_end0
      exact ⟨rfl, HS.out, HW.out⟩
    · have e1 : (t != a) = true := by simpa using c
      obtain ⟨i, hi1, hi2, hi3, hi4, _, _, hi5, hi6⟩ := ht.next c
      have HX := Lib.hid hi5
      have HM := Lib.hid hi6
      have hlen := ht.len
      obtain ⟨hc1, hf1⟩ := HS.out.cellT i (by omega)
      have hr := (World.cell?_of_block (a := ⟨rb, t.toNat, none⟩) (HW.out.block rb hlt (by omega))).trans (HRB.out (t, i) hi1 c)
      have HS2 := Lib.hid (HS.out.setT i t)
      have HW2 := Lib.hid (HW.out.trans (within_set wr gT i (.int .i64 t)))
      rw [hi4] at hc1
      obtain ⟨v, hv⟩ : ∃ v, oth (E.getD i (0, 0)) t = v := ⟨_, rfl⟩
      rw [hv] at hc1 HX HM
      clear hi1 hi4 hi5 hi6 ht c hv
      obtain ⟨n, rfl⟩ : ∃ n : Nat, t = (n : Int) := ⟨t.toNat, by omega⟩
      rw [Int.toNat_natCast] at hr
      have hn8 : (n : Int) < 8 := by omega
      have hn8' : n < 8 := by omega
      go_wp2_with fail
      go_roundw
      case rel => exact ⟨v, _, rfl, HX.out, HS2.out, HW2.out⟩
      case measure => exact HM.out
end Go.Proofs.Ytdkpmaahinbhlaa
/- What spec.NewPebbles answers. No condition. -/
namespace Go.Proofs.Ytdkpmaahinbhlaa
open Go.RowKit

/-- An own row of no elements that is kept over steps of the world: what it is, and where. -/
structure Own0 (W : World) (base g : Nat) : Prop where
  row : W.ownsRow base 3 1 (.slice (some ⟨g, 0, none⟩) 0 0) 0 []
theorem Own0.within {W W' : World} {base g lo hi : Nat} (h : Own0 W base g) (hw : Within lo hi W W') (hd : g < lo ∨ hi ≤ g) : Own0 W' base g := by
  rcases h.row.2 with ⟨e, _⟩ | ⟨g', cap, cur, e, _, hh, _⟩
  · cases e
  · cases e
    exact ⟨own_block h.row (hw.block g (Array.getElem?_eq_some_iff.1 hh).1 hd)⟩
theorem Cel3.grown {W W' : World} {b : Nat} {T : TypeId} {v0 v1 v2 : Value} {g : Option Nat} (h : Cel3 W b T v0 v1 v2) (hg : W.grownBy W' g) (hne : some b ≠ g) : Cel3 W' b T v0 v1 v2 := (hg.block b h.lt (fun e => hne e)).trans h
/-- A state under the making: its free pebbles up to j. -/
structure NewS (w wr : World) (p k : Int) (gv : Value) (j : Nat) (v u1 u2 : Value) : Prop where
  row : wr.ownsRow w.heap.size 3 1 v j (intCells (List.replicate j k))
  at_ : ∀ a, v.ownBlock = some a → w.heap.size + 1 < a ∧ a ≠ w.heap.size + 1 + 1 + 1 + 1 + 1
  st : Cel3 wr (w.heap.size + 1 + 1 + 1 + 1 + 1) 31 v u1 u2
  ret : Cel3 wr (w.heap.size + 1) 31 (.slice none 0 0) (.slice none 0 0) (.slice none 0 0)
  box : Box wr w.heap.size p gv
  bel : Below w.heap.size w wr
theorem NewS.alloc {w wr : World} {p k : Int} {gv : Value} {j : Nat} {v u1 u2 : Value} (h : NewS w wr p k gv j v u1 u2) (o : Obj) : NewS w (wr.alloc o) p k gv j v u1 u2 :=
  ⟨h.row.alloc _, h.at_, h.st.kept (new_below wr o), h.ret.kept (new_below wr o), h.box.kept (new_below wr o), below_on h.bel (new_below wr o) h.bel.size⟩
theorem NewS.push {w wr w' : World} {p k : Int} {gv : Value} {j : Nat} {v v' u1 u2 : Value} (h : NewS w wr p k gv j v u1 u2) (ho : w'.ownsRow w.heap.size 3 1 v' (j + 1) (intCells (List.replicate j k) ++ [.int .i64 k])) (hg : wr.grownBy w' v.ownBlock)
    (hat : v'.ownBlock = v.ownBlock ∨ v'.ownBlock = some (wr.heap.size + 1)) : Cel3 w' (w.heap.size + 1 + 1 + 1 + 1 + 1) 31 v u1 u2 ∧ NewS w (w'.setCell ⟨w.heap.size + 1 + 1 + 1 + 1 + 1, 0, none⟩ v') p k gv (j + 1) v' u1 u2 := by
  obtain ⟨h1, h2, h3, h4, h5, h6⟩ := h
  have n5 : some (w.heap.size + 1 + 1 + 1 + 1 + 1) ≠ v.ownBlock := fun e => (h2 _ e.symm).2 rfl
  have c5 := h3.grown hg n5
  have l5 := h3.lt
  have hat' : ∀ a, v'.ownBlock = some a → w.heap.size + 1 < a ∧ a ≠ w.heap.size + 1 + 1 + 1 + 1 + 1 := fun a e => by
    rcases hat with hat | hat
    · exact h2 a (hat ▸ e)
    · rw [hat] at e
      cases e
      omega
  have hs := within_set w' (w.heap.size + 1 + 1 + 1 + 1 + 1) 0 v'
  refine ⟨c5, ?_, hat', c5.set0 v', ?_, ?_, ?_⟩
  · have hr : intCells (List.replicate (j + 1) k) = intCells (List.replicate j k) ++ [.int .i64 k] := by simp [intCells, List.replicate_succ']
    rw [hr]
    rcases ho.2 with ⟨e, e0⟩ | ⟨g, cap', cur, e, _, hh, _⟩
    · omega
    · subst e
      exact own_block ho (hs.block g (Array.getElem?_eq_some_iff.1 hh).1 (by have := (hat' g rfl).2; omega))
  · exact (h4.grown hg fun e => by have := (h2 _ e.symm).1; omega).within hs (by omega)
  · have hb := h5.1
    refine Box.within (W := w') ⟨Nat.lt_of_lt_of_le hb hg.size, ?_, ?_⟩ hs (by omega)
    · exact (World.cell?_of_block (hg.block w.heap.size hb fun e => by have := (h2 _ e.symm).1; omega)).trans h5.2.1
    · exact (World.cell?_of_block (a := ⟨w.heap.size, 1, none⟩) (hg.block w.heap.size hb fun e => by have := (h2 _ e.symm).1; omega)).trans h5.2.2
  · exact (h6.grown hg (Nat.le_trans h6.size (Nat.le_refl _)) fun g hgg => (h1.lt g hgg).1).setCell (p := ⟨w.heap.size + 1 + 1 + 1 + 1 + 1, 0, none⟩) (by simp only []; omega) _
theorem NewS.row2 {w wr : World} {p k : Int} {gv : Value} {j : Nat} {A : Option Addr} {c : Nat} {u1 u2 : Value} (h : NewS w wr p k gv j (.slice A j c) u1 u2) : OwnInts wr (w.heap.size + 1 + 1) wr.heap.size A c (List.replicate j k) := by
  refine ⟨Nat.le_refl _, ?_⟩
  rcases h.row.2 with ⟨_, e⟩ | ⟨g, cap, cur, e, h1, hh, h3⟩
  · subst e
    exact .inl rfl
  · cases e
    have := (h.at_ g rfl).1
    exact .inr ⟨g, rfl, by omega, (Array.getElem?_eq_some_iff.1 hh).1, by rw [List.length_replicate]; exact ⟨h.row.1, .inr ⟨g, c, cur, rfl, by omega, hh, h3⟩⟩⟩

set_option maxHeartbeats 4000000 in
set_option maxRecDepth 100000 in
theorem specNewP (p k : Int) (l : List (Int × Int)) (A : Option Addr) (cap : Nat) (w : World) (hl : BarsAt w w.heap.size A l) (hn : l.length ≤ 1048576) :
    Calls Try.prog 37 #[.agg #[.int .i64 p, .slice A l.length cap], .int .i64 k] w (PebOB w (newF p k l) [] [] (newB p k l)) := by
  have HISG : ∀ W : World, BarsAt W W.heap.size A l → Calls Try.prog 118 #[.agg #[.int .i64 p, .slice A l.length cap]] W fun e w' => e = .returned (.bool (isGB p l)) ∧ Below W.heap.size W w' := fun W h => specIsGraph' p l A cap W h hn
  by_cases hbad : isGB p l = false ∨ k < 1 ∨ 3 < k
  · have HR := Lib.hid (new_no hbad)
    rcases hg : isGB p l with _ | _
    · skip
      rw [hg] at HISG
      clear hbad
      have W0 := Lib.hid (Below.refl w.heap.size w)
      have HB_0 := Lib.hid (bars_in hl)
      clear hl
      have Z1 := Lib.hid (within_alloc w (.cells #[.int .i64 p, (.slice A l.length cap)] 26)).size
      have W1 := Lib.hid (within_on W0.out (within_alloc w (.cells #[.int .i64 p, (.slice A l.length cap)] 26)) W0.out.size (.inr (Nat.le_refl _)))
      have HB_1 := Lib.hid (HB_0.out.within (within_alloc w (.cells #[.int .i64 p, (.slice A l.length cap)] 26)) (by omega))
      have Y1 := Lib.hid (show (w.alloc (.cells #[.int .i64 p, (.slice A l.length cap)] 26)).heap.size = w.heap.size + 1 by simp)
      have hnew := box_new w p (.slice A l.length cap) 26
      have BX_1 := Lib.hid hnew
      clear hnew
      have Z2 := Lib.hid (within_alloc (w.alloc (.cells #[.int .i64 p, (.slice A l.length cap)] 26)) (.cells #[(.slice none 0 0), (.slice none 0 0), (.slice none 0 0)] 31)).size
      have W2 := Lib.hid (within_on W1.out (within_alloc (w.alloc (.cells #[.int .i64 p, (.slice A l.length cap)] 26)) (.cells #[(.slice none 0 0), (.slice none 0 0), (.slice none 0 0)] 31)) W1.out.size (.inr (Nat.le_refl _)))
      have HB_2 := Lib.hid (HB_1.out.within (within_alloc (w.alloc (.cells #[.int .i64 p, (.slice A l.length cap)] 26)) (.cells #[(.slice none 0 0), (.slice none 0 0), (.slice none 0 0)] 31)) (by omega))
      have BX_2 := Lib.hid (BX_1.out.within (within_alloc (w.alloc (.cells #[.int .i64 p, (.slice A l.length cap)] 26)) (.cells #[(.slice none 0 0), (.slice none 0 0), (.slice none 0 0)] 31)) (by omega))
      have Y2 := Lib.hid (show ((w.alloc (.cells #[.int .i64 p, (.slice A l.length cap)] 26)).alloc (.cells #[(.slice none 0 0), (.slice none 0 0), (.slice none 0 0)] 31)).heap.size = (w.alloc (.cells #[.int .i64 p, (.slice A l.length cap)] 26)).heap.size + 1 by simp)
      have hnew := cel3_new (w.alloc (.cells #[.int .i64 p, (.slice A l.length cap)] 26)) (.slice none 0 0) (.slice none 0 0) (.slice none 0 0) 31
      rw [show (w.alloc (.cells #[.int .i64 p, (.slice A l.length cap)] 26)).heap.size = w.heap.size + 1 by simp] at hnew
      have GR_2 := Lib.hid hnew
      clear hnew
      have Z3 := Lib.hid (within_alloc ((w.alloc (.cells #[.int .i64 p, (.slice A l.length cap)] 26)).alloc (.cells #[(.slice none 0 0), (.slice none 0 0), (.slice none 0 0)] 31)) (.cells #[] 3)).size
      have W3 := Lib.hid (within_on W2.out (within_alloc ((w.alloc (.cells #[.int .i64 p, (.slice A l.length cap)] 26)).alloc (.cells #[(.slice none 0 0), (.slice none 0 0), (.slice none 0 0)] 31)) (.cells #[] 3)) W2.out.size (.inr (Nat.le_refl _)))
      have HB_3 := Lib.hid (HB_2.out.within (within_alloc ((w.alloc (.cells #[.int .i64 p, (.slice A l.length cap)] 26)).alloc (.cells #[(.slice none 0 0), (.slice none 0 0), (.slice none 0 0)] 31)) (.cells #[] 3)) (by omega))
      have BX_3 := Lib.hid (BX_2.out.within (within_alloc ((w.alloc (.cells #[.int .i64 p, (.slice A l.length cap)] 26)).alloc (.cells #[(.slice none 0 0), (.slice none 0 0), (.slice none 0 0)] 31)) (.cells #[] 3)) (by omega))
      have GR_3 := Lib.hid (GR_2.out.within (within_alloc ((w.alloc (.cells #[.int .i64 p, (.slice A l.length cap)] 26)).alloc (.cells #[(.slice none 0 0), (.slice none 0 0), (.slice none 0 0)] 31)) (.cells #[] 3)) (by omega))
      have Y3 := Lib.hid (show (((w.alloc (.cells #[.int .i64 p, (.slice A l.length cap)] 26)).alloc (.cells #[(.slice none 0 0), (.slice none 0 0), (.slice none 0 0)] 31)).alloc (.cells #[] 3)).heap.size = ((w.alloc (.cells #[.int .i64 p, (.slice A l.length cap)] 26)).alloc (.cells #[(.slice none 0 0), (.slice none 0 0), (.slice none 0 0)] 31)).heap.size + 1 by simp)
      have Z4 := Lib.hid (within_alloc (((w.alloc (.cells #[.int .i64 p, (.slice A l.length cap)] 26)).alloc (.cells #[(.slice none 0 0), (.slice none 0 0), (.slice none 0 0)] 31)).alloc (.cells #[] 3)) (.cells #[] 3)).size
      have W4 := Lib.hid (within_on W3.out (within_alloc (((w.alloc (.cells #[.int .i64 p, (.slice A l.length cap)] 26)).alloc (.cells #[(.slice none 0 0), (.slice none 0 0), (.slice none 0 0)] 31)).alloc (.cells #[] 3)) (.cells #[] 3)) W3.out.size (.inr (Nat.le_refl _)))
      have HB_4 := Lib.hid (HB_3.out.within (within_alloc (((w.alloc (.cells #[.int .i64 p, (.slice A l.length cap)] 26)).alloc (.cells #[(.slice none 0 0), (.slice none 0 0), (.slice none 0 0)] 31)).alloc (.cells #[] 3)) (.cells #[] 3)) (by omega))
      have BX_4 := Lib.hid (BX_3.out.within (within_alloc (((w.alloc (.cells #[.int .i64 p, (.slice A l.length cap)] 26)).alloc (.cells #[(.slice none 0 0), (.slice none 0 0), (.slice none 0 0)] 31)).alloc (.cells #[] 3)) (.cells #[] 3)) (by omega))
      have GR_4 := Lib.hid (GR_3.out.within (within_alloc (((w.alloc (.cells #[.int .i64 p, (.slice A l.length cap)] 26)).alloc (.cells #[(.slice none 0 0), (.slice none 0 0), (.slice none 0 0)] 31)).alloc (.cells #[] 3)) (.cells #[] 3)) (by omega))
      have Y4 := Lib.hid (show ((((w.alloc (.cells #[.int .i64 p, (.slice A l.length cap)] 26)).alloc (.cells #[(.slice none 0 0), (.slice none 0 0), (.slice none 0 0)] 31)).alloc (.cells #[] 3)).alloc (.cells #[] 3)).heap.size = (((w.alloc (.cells #[.int .i64 p, (.slice A l.length cap)] 26)).alloc (.cells #[(.slice none 0 0), (.slice none 0 0), (.slice none 0 0)] 31)).alloc (.cells #[] 3)).heap.size + 1 by simp)
      have Z5 := Lib.hid (within_alloc ((((w.alloc (.cells #[.int .i64 p, (.slice A l.length cap)] 26)).alloc (.cells #[(.slice none 0 0), (.slice none 0 0), (.slice none 0 0)] 31)).alloc (.cells #[] 3)).alloc (.cells #[] 3)) (.cells #[] 3)).size
      have W5 := Lib.hid (within_on W4.out (within_alloc ((((w.alloc (.cells #[.int .i64 p, (.slice A l.length cap)] 26)).alloc (.cells #[(.slice none 0 0), (.slice none 0 0), (.slice none 0 0)] 31)).alloc (.cells #[] 3)).alloc (.cells #[] 3)) (.cells #[] 3)) W4.out.size (.inr (Nat.le_refl _)))
      have HB_5 := Lib.hid (HB_4.out.within (within_alloc ((((w.alloc (.cells #[.int .i64 p, (.slice A l.length cap)] 26)).alloc (.cells #[(.slice none 0 0), (.slice none 0 0), (.slice none 0 0)] 31)).alloc (.cells #[] 3)).alloc (.cells #[] 3)) (.cells #[] 3)) (by omega))
      have BX_5 := Lib.hid (BX_4.out.within (within_alloc ((((w.alloc (.cells #[.int .i64 p, (.slice A l.length cap)] 26)).alloc (.cells #[(.slice none 0 0), (.slice none 0 0), (.slice none 0 0)] 31)).alloc (.cells #[] 3)).alloc (.cells #[] 3)) (.cells #[] 3)) (by omega))
      have GR_5 := Lib.hid (GR_4.out.within (within_alloc ((((w.alloc (.cells #[.int .i64 p, (.slice A l.length cap)] 26)).alloc (.cells #[(.slice none 0 0), (.slice none 0 0), (.slice none 0 0)] 31)).alloc (.cells #[] 3)).alloc (.cells #[] 3)) (.cells #[] 3)) (by omega))
      have Y5 := Lib.hid (show (((((w.alloc (.cells #[.int .i64 p, (.slice A l.length cap)] 26)).alloc (.cells #[(.slice none 0 0), (.slice none 0 0), (.slice none 0 0)] 31)).alloc (.cells #[] 3)).alloc (.cells #[] 3)).alloc (.cells #[] 3)).heap.size = ((((w.alloc (.cells #[.int .i64 p, (.slice A l.length cap)] 26)).alloc (.cells #[(.slice none 0 0), (.slice none 0 0), (.slice none 0 0)] 31)).alloc (.cells #[] 3)).alloc (.cells #[] 3)).heap.size + 1 by simp)
      have Z6 := Lib.hid (within_alloc (((((w.alloc (.cells #[.int .i64 p, (.slice A l.length cap)] 26)).alloc (.cells #[(.slice none 0 0), (.slice none 0 0), (.slice none 0 0)] 31)).alloc (.cells #[] 3)).alloc (.cells #[] 3)).alloc (.cells #[] 3)) (.cells #[(.slice (some ⟨w.heap.size + 1 + 1, 0, none⟩) 0 0), (.slice (some ⟨w.heap.size + 1 + 1 + 1, 0, none⟩) 0 0), (.slice (some ⟨w.heap.size + 1 + 1 + 1 + 1, 0, none⟩) 0 0)] 31)).size
      have W6 := Lib.hid (within_on W5.out (within_alloc (((((w.alloc (.cells #[.int .i64 p, (.slice A l.length cap)] 26)).alloc (.cells #[(.slice none 0 0), (.slice none 0 0), (.slice none 0 0)] 31)).alloc (.cells #[] 3)).alloc (.cells #[] 3)).alloc (.cells #[] 3)) (.cells #[(.slice (some ⟨w.heap.size + 1 + 1, 0, none⟩) 0 0), (.slice (some ⟨w.heap.size + 1 + 1 + 1, 0, none⟩) 0 0), (.slice (some ⟨w.heap.size + 1 + 1 + 1 + 1, 0, none⟩) 0 0)] 31)) W5.out.size (.inr (Nat.le_refl _)))
      have HB_6 := Lib.hid (HB_5.out.within (within_alloc (((((w.alloc (.cells #[.int .i64 p, (.slice A l.length cap)] 26)).alloc (.cells #[(.slice none 0 0), (.slice none 0 0), (.slice none 0 0)] 31)).alloc (.cells #[] 3)).alloc (.cells #[] 3)).alloc (.cells #[] 3)) (.cells #[(.slice (some ⟨w.heap.size + 1 + 1, 0, none⟩) 0 0), (.slice (some ⟨w.heap.size + 1 + 1 + 1, 0, none⟩) 0 0), (.slice (some ⟨w.heap.size + 1 + 1 + 1 + 1, 0, none⟩) 0 0)] 31)) (by omega))
      have BX_6 := Lib.hid (BX_5.out.within (within_alloc (((((w.alloc (.cells #[.int .i64 p, (.slice A l.length cap)] 26)).alloc (.cells #[(.slice none 0 0), (.slice none 0 0), (.slice none 0 0)] 31)).alloc (.cells #[] 3)).alloc (.cells #[] 3)).alloc (.cells #[] 3)) (.cells #[(.slice (some ⟨w.heap.size + 1 + 1, 0, none⟩) 0 0), (.slice (some ⟨w.heap.size + 1 + 1 + 1, 0, none⟩) 0 0), (.slice (some ⟨w.heap.size + 1 + 1 + 1 + 1, 0, none⟩) 0 0)] 31)) (by omega))
      have GR_6 := Lib.hid (GR_5.out.within (within_alloc (((((w.alloc (.cells #[.int .i64 p, (.slice A l.length cap)] 26)).alloc (.cells #[(.slice none 0 0), (.slice none 0 0), (.slice none 0 0)] 31)).alloc (.cells #[] 3)).alloc (.cells #[] 3)).alloc (.cells #[] 3)) (.cells #[(.slice (some ⟨w.heap.size + 1 + 1, 0, none⟩) 0 0), (.slice (some ⟨w.heap.size + 1 + 1 + 1, 0, none⟩) 0 0), (.slice (some ⟨w.heap.size + 1 + 1 + 1 + 1, 0, none⟩) 0 0)] 31)) (by omega))
      have Y6 := Lib.hid (show ((((((w.alloc (.cells #[.int .i64 p, (.slice A l.length cap)] 26)).alloc (.cells #[(.slice none 0 0), (.slice none 0 0), (.slice none 0 0)] 31)).alloc (.cells #[] 3)).alloc (.cells #[] 3)).alloc (.cells #[] 3)).alloc (.cells #[(.slice (some ⟨w.heap.size + 1 + 1, 0, none⟩) 0 0), (.slice (some ⟨w.heap.size + 1 + 1 + 1, 0, none⟩) 0 0), (.slice (some ⟨w.heap.size + 1 + 1 + 1 + 1, 0, none⟩) 0 0)] 31)).heap.size = (((((w.alloc (.cells #[.int .i64 p, (.slice A l.length cap)] 26)).alloc (.cells #[(.slice none 0 0), (.slice none 0 0), (.slice none 0 0)] 31)).alloc (.cells #[] 3)).alloc (.cells #[] 3)).alloc (.cells #[] 3)).heap.size + 1 by simp)
      have hnew := cel3_new (((((w.alloc (.cells #[.int .i64 p, (.slice A l.length cap)] 26)).alloc (.cells #[(.slice none 0 0), (.slice none 0 0), (.slice none 0 0)] 31)).alloc (.cells #[] 3)).alloc (.cells #[] 3)).alloc (.cells #[] 3)) (.slice (some ⟨w.heap.size + 1 + 1, 0, none⟩) 0 0) (.slice (some ⟨w.heap.size + 1 + 1 + 1, 0, none⟩) 0 0) (.slice (some ⟨w.heap.size + 1 + 1 + 1 + 1, 0, none⟩) 0 0) 31
      rw [show (((((w.alloc (.cells #[.int .i64 p, (.slice A l.length cap)] 26)).alloc (.cells #[(.slice none 0 0), (.slice none 0 0), (.slice none 0 0)] 31)).alloc (.cells #[] 3)).alloc (.cells #[] 3)).alloc (.cells #[] 3)).heap.size = w.heap.size + 1 + 1 + 1 + 1 + 1 by simp] at hnew
      have GP_6 := Lib.hid hnew
      clear hnew
      go_enter Try.func37, Try.ntmps37
      obtain ⟨g0_0, g0_1, g0_2⟩ := BX_6.out
      go_wp2_with fail
      clear g0_0 g0_1 g0_2
      generalize ((((((w.alloc (.cells #[.int .i64 p, (.slice A l.length cap)] 26)).alloc (.cells #[(.slice none 0 0), (.slice none 0 0), (.slice none 0 0)] 31)).alloc (.cells #[] 3)).alloc (.cells #[] 3)).alloc (.cells #[] 3)).alloc (.cells #[(.slice (some ⟨w.heap.size + 1 + 1, 0, none⟩) 0 0), (.slice (some ⟨w.heap.size + 1 + 1 + 1, 0, none⟩) 0 0), (.slice (some ⟨w.heap.size + 1 + 1 + 1 + 1, 0, none⟩) 0 0)] 31)) = w6 at *
      generalize (((((w.alloc (.cells #[.int .i64 p, (.slice A l.length cap)] 26)).alloc (.cells #[(.slice none 0 0), (.slice none 0 0), (.slice none 0 0)] 31)).alloc (.cells #[] 3)).alloc (.cells #[] 3)).alloc (.cells #[] 3)) = w5 at *
      generalize ((((w.alloc (.cells #[.int .i64 p, (.slice A l.length cap)] 26)).alloc (.cells #[(.slice none 0 0), (.slice none 0 0), (.slice none 0 0)] 31)).alloc (.cells #[] 3)).alloc (.cells #[] 3)) = w4 at *
      generalize (((w.alloc (.cells #[.int .i64 p, (.slice A l.length cap)] 26)).alloc (.cells #[(.slice none 0 0), (.slice none 0 0), (.slice none 0 0)] 31)).alloc (.cells #[] 3)) = w3 at *
      generalize ((w.alloc (.cells #[.int .i64 p, (.slice A l.length cap)] 26)).alloc (.cells #[(.slice none 0 0), (.slice none 0 0), (.slice none 0 0)] 31)) = w2 at *
      generalize (w.alloc (.cells #[.int .i64 p, (.slice A l.length cap)] 26)) = w1 at *
      refine (HISG _ HB_6.out.at).mono ?_
      rintro e w7 ⟨rfl, hb⟩
      have Z7 := Lib.hid (within_of hb).size
      have W7 := Lib.hid (within_on W6.out (within_of hb) W6.out.size (.inr (Nat.le_refl _)))
      have HB_7 := Lib.hid (HB_6.out.within (within_of hb) (by omega))
      have BX_7 := Lib.hid (BX_6.out.within (within_of hb) (by omega))
      have GR_7 := Lib.hid (GR_6.out.within (within_of hb) (by omega))
      have GP_7 := Lib.hid (GP_6.out.within (within_of hb) (by omega))
      clear hb HISG
      obtain ⟨g1_0, g1_1, g1_2, g1_3, g1_4, g1_5⟩ := GR_7.out.cells
      have Z8 := Lib.hid ((ret3 GR_7.out (.slice none 0 0) (.slice none 0 0) (.slice none 0 0)).2).size
      have W8 := Lib.hid (within_on W7.out ((ret3 GR_7.out (.slice none 0 0) (.slice none 0 0) (.slice none 0 0)).2) W7.out.size (by have := Z1.out; have := Z2.out; have := Z3.out; have := Z4.out; have := Z5.out; have := Z6.out; have := Z7.out; have := Z8.out; have := Y1.out; have := Y2.out; have := Y3.out; have := Y4.out; have := Y5.out; have := Y6.out; omega))
      have HB_8 := Lib.hid (HB_7.out.within ((ret3 GR_7.out (.slice none 0 0) (.slice none 0 0) (.slice none 0 0)).2) (by have := Z1.out; have := Z2.out; have := Z3.out; have := Z4.out; have := Z5.out; have := Z6.out; have := Z7.out; have := Z8.out; have := Y1.out; have := Y2.out; have := Y3.out; have := Y4.out; have := Y5.out; have := Y6.out; omega))
      have BX_8 := Lib.hid (BX_7.out.within ((ret3 GR_7.out (.slice none 0 0) (.slice none 0 0) (.slice none 0 0)).2) (by have := Z1.out; have := Z2.out; have := Z3.out; have := Z4.out; have := Z5.out; have := Z6.out; have := Z7.out; have := Z8.out; have := Y1.out; have := Y2.out; have := Y3.out; have := Y4.out; have := Y5.out; have := Y6.out; omega))
      have GR_8 := Lib.hid ((ret3 GR_7.out (.slice none 0 0) (.slice none 0 0) (.slice none 0 0)).1)
      have GP_8 := Lib.hid (GP_7.out.within ((ret3 GR_7.out (.slice none 0 0) (.slice none 0 0) (.slice none 0 0)).2) (by have := Z1.out; have := Z2.out; have := Z3.out; have := Z4.out; have := Z5.out; have := Z6.out; have := Z7.out; have := Z8.out; have := Y1.out; have := Y2.out; have := Y3.out; have := Y4.out; have := Y5.out; have := Y6.out; omega))
      obtain ⟨g2_0, g2_1, g2_2, g2_3, g2_4, g2_5⟩ := GR_8.out.cells
      go_wp2_with fail
      generalize (((w7.setCell ⟨w.heap.size + 1, 0, none⟩ (.slice none 0 0)).setCell ⟨w.heap.size + 1, 1, none⟩ (.slice none 0 0)).setCell ⟨w.heap.size + 1, 2, none⟩ (.slice none 0 0)) = w8 at *
      refine bodyPost_ret (v := .tuple #[pebV none 0 0 none 0 0 none 0 0, .bool false]) ?_ rfl ?_
      · simp [results, Try.results37, go_sem, g2_0, g2_1, g2_2]
      · rw [HR.out.1, HR.out.2]
        exact ⟨none, 0, none, 0, none, 0, rfl, own3_nil _ _ W8.out.size _ _ _ _ _ _, W8.out⟩
    · skip
      rw [hg] at HISG
      have hk : k < 1 ∨ 3 < k := by simp only [hg] at hbad; simp at hbad; omega
      clear hbad
      have W0 := Lib.hid (Below.refl w.heap.size w)
      have HB_0 := Lib.hid (bars_in hl)
      clear hl
      have Z1 := Lib.hid (within_alloc w (.cells #[.int .i64 p, (.slice A l.length cap)] 26)).size
      have W1 := Lib.hid (within_on W0.out (within_alloc w (.cells #[.int .i64 p, (.slice A l.length cap)] 26)) W0.out.size (.inr (Nat.le_refl _)))
      have HB_1 := Lib.hid (HB_0.out.within (within_alloc w (.cells #[.int .i64 p, (.slice A l.length cap)] 26)) (by omega))
      have Y1 := Lib.hid (show (w.alloc (.cells #[.int .i64 p, (.slice A l.length cap)] 26)).heap.size = w.heap.size + 1 by simp)
      have hnew := box_new w p (.slice A l.length cap) 26
      have BX_1 := Lib.hid hnew
      clear hnew
      have Z2 := Lib.hid (within_alloc (w.alloc (.cells #[.int .i64 p, (.slice A l.length cap)] 26)) (.cells #[(.slice none 0 0), (.slice none 0 0), (.slice none 0 0)] 31)).size
      have W2 := Lib.hid (within_on W1.out (within_alloc (w.alloc (.cells #[.int .i64 p, (.slice A l.length cap)] 26)) (.cells #[(.slice none 0 0), (.slice none 0 0), (.slice none 0 0)] 31)) W1.out.size (.inr (Nat.le_refl _)))
      have HB_2 := Lib.hid (HB_1.out.within (within_alloc (w.alloc (.cells #[.int .i64 p, (.slice A l.length cap)] 26)) (.cells #[(.slice none 0 0), (.slice none 0 0), (.slice none 0 0)] 31)) (by omega))
      have BX_2 := Lib.hid (BX_1.out.within (within_alloc (w.alloc (.cells #[.int .i64 p, (.slice A l.length cap)] 26)) (.cells #[(.slice none 0 0), (.slice none 0 0), (.slice none 0 0)] 31)) (by omega))
      have Y2 := Lib.hid (show ((w.alloc (.cells #[.int .i64 p, (.slice A l.length cap)] 26)).alloc (.cells #[(.slice none 0 0), (.slice none 0 0), (.slice none 0 0)] 31)).heap.size = (w.alloc (.cells #[.int .i64 p, (.slice A l.length cap)] 26)).heap.size + 1 by simp)
      have hnew := cel3_new (w.alloc (.cells #[.int .i64 p, (.slice A l.length cap)] 26)) (.slice none 0 0) (.slice none 0 0) (.slice none 0 0) 31
      rw [show (w.alloc (.cells #[.int .i64 p, (.slice A l.length cap)] 26)).heap.size = w.heap.size + 1 by simp] at hnew
      have GR_2 := Lib.hid hnew
      clear hnew
      have Z3 := Lib.hid (within_alloc ((w.alloc (.cells #[.int .i64 p, (.slice A l.length cap)] 26)).alloc (.cells #[(.slice none 0 0), (.slice none 0 0), (.slice none 0 0)] 31)) (.cells #[] 3)).size
      have W3 := Lib.hid (within_on W2.out (within_alloc ((w.alloc (.cells #[.int .i64 p, (.slice A l.length cap)] 26)).alloc (.cells #[(.slice none 0 0), (.slice none 0 0), (.slice none 0 0)] 31)) (.cells #[] 3)) W2.out.size (.inr (Nat.le_refl _)))
      have HB_3 := Lib.hid (HB_2.out.within (within_alloc ((w.alloc (.cells #[.int .i64 p, (.slice A l.length cap)] 26)).alloc (.cells #[(.slice none 0 0), (.slice none 0 0), (.slice none 0 0)] 31)) (.cells #[] 3)) (by omega))
      have BX_3 := Lib.hid (BX_2.out.within (within_alloc ((w.alloc (.cells #[.int .i64 p, (.slice A l.length cap)] 26)).alloc (.cells #[(.slice none 0 0), (.slice none 0 0), (.slice none 0 0)] 31)) (.cells #[] 3)) (by omega))
      have GR_3 := Lib.hid (GR_2.out.within (within_alloc ((w.alloc (.cells #[.int .i64 p, (.slice A l.length cap)] 26)).alloc (.cells #[(.slice none 0 0), (.slice none 0 0), (.slice none 0 0)] 31)) (.cells #[] 3)) (by omega))
      have Y3 := Lib.hid (show (((w.alloc (.cells #[.int .i64 p, (.slice A l.length cap)] 26)).alloc (.cells #[(.slice none 0 0), (.slice none 0 0), (.slice none 0 0)] 31)).alloc (.cells #[] 3)).heap.size = ((w.alloc (.cells #[.int .i64 p, (.slice A l.length cap)] 26)).alloc (.cells #[(.slice none 0 0), (.slice none 0 0), (.slice none 0 0)] 31)).heap.size + 1 by simp)
      have Z4 := Lib.hid (within_alloc (((w.alloc (.cells #[.int .i64 p, (.slice A l.length cap)] 26)).alloc (.cells #[(.slice none 0 0), (.slice none 0 0), (.slice none 0 0)] 31)).alloc (.cells #[] 3)) (.cells #[] 3)).size
      have W4 := Lib.hid (within_on W3.out (within_alloc (((w.alloc (.cells #[.int .i64 p, (.slice A l.length cap)] 26)).alloc (.cells #[(.slice none 0 0), (.slice none 0 0), (.slice none 0 0)] 31)).alloc (.cells #[] 3)) (.cells #[] 3)) W3.out.size (.inr (Nat.le_refl _)))
      have HB_4 := Lib.hid (HB_3.out.within (within_alloc (((w.alloc (.cells #[.int .i64 p, (.slice A l.length cap)] 26)).alloc (.cells #[(.slice none 0 0), (.slice none 0 0), (.slice none 0 0)] 31)).alloc (.cells #[] 3)) (.cells #[] 3)) (by omega))
      have BX_4 := Lib.hid (BX_3.out.within (within_alloc (((w.alloc (.cells #[.int .i64 p, (.slice A l.length cap)] 26)).alloc (.cells #[(.slice none 0 0), (.slice none 0 0), (.slice none 0 0)] 31)).alloc (.cells #[] 3)) (.cells #[] 3)) (by omega))
      have GR_4 := Lib.hid (GR_3.out.within (within_alloc (((w.alloc (.cells #[.int .i64 p, (.slice A l.length cap)] 26)).alloc (.cells #[(.slice none 0 0), (.slice none 0 0), (.slice none 0 0)] 31)).alloc (.cells #[] 3)) (.cells #[] 3)) (by omega))
      have Y4 := Lib.hid (show ((((w.alloc (.cells #[.int .i64 p, (.slice A l.length cap)] 26)).alloc (.cells #[(.slice none 0 0), (.slice none 0 0), (.slice none 0 0)] 31)).alloc (.cells #[] 3)).alloc (.cells #[] 3)).heap.size = (((w.alloc (.cells #[.int .i64 p, (.slice A l.length cap)] 26)).alloc (.cells #[(.slice none 0 0), (.slice none 0 0), (.slice none 0 0)] 31)).alloc (.cells #[] 3)).heap.size + 1 by simp)
      have Z5 := Lib.hid (within_alloc ((((w.alloc (.cells #[.int .i64 p, (.slice A l.length cap)] 26)).alloc (.cells #[(.slice none 0 0), (.slice none 0 0), (.slice none 0 0)] 31)).alloc (.cells #[] 3)).alloc (.cells #[] 3)) (.cells #[] 3)).size
      have W5 := Lib.hid (within_on W4.out (within_alloc ((((w.alloc (.cells #[.int .i64 p, (.slice A l.length cap)] 26)).alloc (.cells #[(.slice none 0 0), (.slice none 0 0), (.slice none 0 0)] 31)).alloc (.cells #[] 3)).alloc (.cells #[] 3)) (.cells #[] 3)) W4.out.size (.inr (Nat.le_refl _)))
      have HB_5 := Lib.hid (HB_4.out.within (within_alloc ((((w.alloc (.cells #[.int .i64 p, (.slice A l.length cap)] 26)).alloc (.cells #[(.slice none 0 0), (.slice none 0 0), (.slice none 0 0)] 31)).alloc (.cells #[] 3)).alloc (.cells #[] 3)) (.cells #[] 3)) (by omega))
      have BX_5 := Lib.hid (BX_4.out.within (within_alloc ((((w.alloc (.cells #[.int .i64 p, (.slice A l.length cap)] 26)).alloc (.cells #[(.slice none 0 0), (.slice none 0 0), (.slice none 0 0)] 31)).alloc (.cells #[] 3)).alloc (.cells #[] 3)) (.cells #[] 3)) (by omega))
      have GR_5 := Lib.hid (GR_4.out.within (within_alloc ((((w.alloc (.cells #[.int .i64 p, (.slice A l.length cap)] 26)).alloc (.cells #[(.slice none 0 0), (.slice none 0 0), (.slice none 0 0)] 31)).alloc (.cells #[] 3)).alloc (.cells #[] 3)) (.cells #[] 3)) (by omega))
      have Y5 := Lib.hid (show (((((w.alloc (.cells #[.int .i64 p, (.slice A l.length cap)] 26)).alloc (.cells #[(.slice none 0 0), (.slice none 0 0), (.slice none 0 0)] 31)).alloc (.cells #[] 3)).alloc (.cells #[] 3)).alloc (.cells #[] 3)).heap.size = ((((w.alloc (.cells #[.int .i64 p, (.slice A l.length cap)] 26)).alloc (.cells #[(.slice none 0 0), (.slice none 0 0), (.slice none 0 0)] 31)).alloc (.cells #[] 3)).alloc (.cells #[] 3)).heap.size + 1 by simp)
      have Z6 := Lib.hid (within_alloc (((((w.alloc (.cells #[.int .i64 p, (.slice A l.length cap)] 26)).alloc (.cells #[(.slice none 0 0), (.slice none 0 0), (.slice none 0 0)] 31)).alloc (.cells #[] 3)).alloc (.cells #[] 3)).alloc (.cells #[] 3)) (.cells #[(.slice (some ⟨w.heap.size + 1 + 1, 0, none⟩) 0 0), (.slice (some ⟨w.heap.size + 1 + 1 + 1, 0, none⟩) 0 0), (.slice (some ⟨w.heap.size + 1 + 1 + 1 + 1, 0, none⟩) 0 0)] 31)).size
      have W6 := Lib.hid (within_on W5.out (within_alloc (((((w.alloc (.cells #[.int .i64 p, (.slice A l.length cap)] 26)).alloc (.cells #[(.slice none 0 0), (.slice none 0 0), (.slice none 0 0)] 31)).alloc (.cells #[] 3)).alloc (.cells #[] 3)).alloc (.cells #[] 3)) (.cells #[(.slice (some ⟨w.heap.size + 1 + 1, 0, none⟩) 0 0), (.slice (some ⟨w.heap.size + 1 + 1 + 1, 0, none⟩) 0 0), (.slice (some ⟨w.heap.size + 1 + 1 + 1 + 1, 0, none⟩) 0 0)] 31)) W5.out.size (.inr (Nat.le_refl _)))
      have HB_6 := Lib.hid (HB_5.out.within (within_alloc (((((w.alloc (.cells #[.int .i64 p, (.slice A l.length cap)] 26)).alloc (.cells #[(.slice none 0 0), (.slice none 0 0), (.slice none 0 0)] 31)).alloc (.cells #[] 3)).alloc (.cells #[] 3)).alloc (.cells #[] 3)) (.cells #[(.slice (some ⟨w.heap.size + 1 + 1, 0, none⟩) 0 0), (.slice (some ⟨w.heap.size + 1 + 1 + 1, 0, none⟩) 0 0), (.slice (some ⟨w.heap.size + 1 + 1 + 1 + 1, 0, none⟩) 0 0)] 31)) (by omega))
      have BX_6 := Lib.hid (BX_5.out.within (within_alloc (((((w.alloc (.cells #[.int .i64 p, (.slice A l.length cap)] 26)).alloc (.cells #[(.slice none 0 0), (.slice none 0 0), (.slice none 0 0)] 31)).alloc (.cells #[] 3)).alloc (.cells #[] 3)).alloc (.cells #[] 3)) (.cells #[(.slice (some ⟨w.heap.size + 1 + 1, 0, none⟩) 0 0), (.slice (some ⟨w.heap.size + 1 + 1 + 1, 0, none⟩) 0 0), (.slice (some ⟨w.heap.size + 1 + 1 + 1 + 1, 0, none⟩) 0 0)] 31)) (by omega))
      have GR_6 := Lib.hid (GR_5.out.within (within_alloc (((((w.alloc (.cells #[.int .i64 p, (.slice A l.length cap)] 26)).alloc (.cells #[(.slice none 0 0), (.slice none 0 0), (.slice none 0 0)] 31)).alloc (.cells #[] 3)).alloc (.cells #[] 3)).alloc (.cells #[] 3)) (.cells #[(.slice (some ⟨w.heap.size + 1 + 1, 0, none⟩) 0 0), (.slice (some ⟨w.heap.size + 1 + 1 + 1, 0, none⟩) 0 0), (.slice (some ⟨w.heap.size + 1 + 1 + 1 + 1, 0, none⟩) 0 0)] 31)) (by omega))
      have Y6 := Lib.hid (show ((((((w.alloc (.cells #[.int .i64 p, (.slice A l.length cap)] 26)).alloc (.cells #[(.slice none 0 0), (.slice none 0 0), (.slice none 0 0)] 31)).alloc (.cells #[] 3)).alloc (.cells #[] 3)).alloc (.cells #[] 3)).alloc (.cells #[(.slice (some ⟨w.heap.size + 1 + 1, 0, none⟩) 0 0), (.slice (some ⟨w.heap.size + 1 + 1 + 1, 0, none⟩) 0 0), (.slice (some ⟨w.heap.size + 1 + 1 + 1 + 1, 0, none⟩) 0 0)] 31)).heap.size = (((((w.alloc (.cells #[.int .i64 p, (.slice A l.length cap)] 26)).alloc (.cells #[(.slice none 0 0), (.slice none 0 0), (.slice none 0 0)] 31)).alloc (.cells #[] 3)).alloc (.cells #[] 3)).alloc (.cells #[] 3)).heap.size + 1 by simp)
      have hnew := cel3_new (((((w.alloc (.cells #[.int .i64 p, (.slice A l.length cap)] 26)).alloc (.cells #[(.slice none 0 0), (.slice none 0 0), (.slice none 0 0)] 31)).alloc (.cells #[] 3)).alloc (.cells #[] 3)).alloc (.cells #[] 3)) (.slice (some ⟨w.heap.size + 1 + 1, 0, none⟩) 0 0) (.slice (some ⟨w.heap.size + 1 + 1 + 1, 0, none⟩) 0 0) (.slice (some ⟨w.heap.size + 1 + 1 + 1 + 1, 0, none⟩) 0 0) 31
      rw [show (((((w.alloc (.cells #[.int .i64 p, (.slice A l.length cap)] 26)).alloc (.cells #[(.slice none 0 0), (.slice none 0 0), (.slice none 0 0)] 31)).alloc (.cells #[] 3)).alloc (.cells #[] 3)).alloc (.cells #[] 3)).heap.size = w.heap.size + 1 + 1 + 1 + 1 + 1 by simp] at hnew
      have GP_6 := Lib.hid hnew
      clear hnew
      go_enter Try.func37, Try.ntmps37
      obtain ⟨g0_0, g0_1, g0_2⟩ := BX_6.out
      go_wp2_with fail
      clear g0_0 g0_1 g0_2
      generalize ((((((w.alloc (.cells #[.int .i64 p, (.slice A l.length cap)] 26)).alloc (.cells #[(.slice none 0 0), (.slice none 0 0), (.slice none 0 0)] 31)).alloc (.cells #[] 3)).alloc (.cells #[] 3)).alloc (.cells #[] 3)).alloc (.cells #[(.slice (some ⟨w.heap.size + 1 + 1, 0, none⟩) 0 0), (.slice (some ⟨w.heap.size + 1 + 1 + 1, 0, none⟩) 0 0), (.slice (some ⟨w.heap.size + 1 + 1 + 1 + 1, 0, none⟩) 0 0)] 31)) = w6 at *
      generalize (((((w.alloc (.cells #[.int .i64 p, (.slice A l.length cap)] 26)).alloc (.cells #[(.slice none 0 0), (.slice none 0 0), (.slice none 0 0)] 31)).alloc (.cells #[] 3)).alloc (.cells #[] 3)).alloc (.cells #[] 3)) = w5 at *
      generalize ((((w.alloc (.cells #[.int .i64 p, (.slice A l.length cap)] 26)).alloc (.cells #[(.slice none 0 0), (.slice none 0 0), (.slice none 0 0)] 31)).alloc (.cells #[] 3)).alloc (.cells #[] 3)) = w4 at *
      generalize (((w.alloc (.cells #[.int .i64 p, (.slice A l.length cap)] 26)).alloc (.cells #[(.slice none 0 0), (.slice none 0 0), (.slice none 0 0)] 31)).alloc (.cells #[] 3)) = w3 at *
      generalize ((w.alloc (.cells #[.int .i64 p, (.slice A l.length cap)] 26)).alloc (.cells #[(.slice none 0 0), (.slice none 0 0), (.slice none 0 0)] 31)) = w2 at *
      generalize (w.alloc (.cells #[.int .i64 p, (.slice A l.length cap)] 26)) = w1 at *
      refine (HISG _ HB_6.out.at).mono ?_
      rintro e w7 ⟨rfl, hb⟩
      have Z7 := Lib.hid (within_of hb).size
      have W7 := Lib.hid (within_on W6.out (within_of hb) W6.out.size (.inr (Nat.le_refl _)))
      have HB_7 := Lib.hid (HB_6.out.within (within_of hb) (by omega))
      have BX_7 := Lib.hid (BX_6.out.within (within_of hb) (by omega))
      have GR_7 := Lib.hid (GR_6.out.within (within_of hb) (by omega))
      have GP_7 := Lib.hid (GP_6.out.within (within_of hb) (by omega))
      clear hb HISG
      go_wp2_with fail
      refine (l1In_no k 1 3 _ hk).mono ?_
      rintro e w9 ⟨rfl, rfl⟩
      obtain ⟨g1_0, g1_1, g1_2, g1_3, g1_4, g1_5⟩ := GR_7.out.cells
      have Z8 := Lib.hid ((ret3 GR_7.out (.slice none 0 0) (.slice none 0 0) (.slice none 0 0)).2).size
      have W8 := Lib.hid (within_on W7.out ((ret3 GR_7.out (.slice none 0 0) (.slice none 0 0) (.slice none 0 0)).2) W7.out.size (by have := Z1.out; have := Z2.out; have := Z3.out; have := Z4.out; have := Z5.out; have := Z6.out; have := Z7.out; have := Z8.out; have := Y1.out; have := Y2.out; have := Y3.out; have := Y4.out; have := Y5.out; have := Y6.out; omega))
      have HB_8 := Lib.hid (HB_7.out.within ((ret3 GR_7.out (.slice none 0 0) (.slice none 0 0) (.slice none 0 0)).2) (by have := Z1.out; have := Z2.out; have := Z3.out; have := Z4.out; have := Z5.out; have := Z6.out; have := Z7.out; have := Z8.out; have := Y1.out; have := Y2.out; have := Y3.out; have := Y4.out; have := Y5.out; have := Y6.out; omega))
      have BX_8 := Lib.hid (BX_7.out.within ((ret3 GR_7.out (.slice none 0 0) (.slice none 0 0) (.slice none 0 0)).2) (by have := Z1.out; have := Z2.out; have := Z3.out; have := Z4.out; have := Z5.out; have := Z6.out; have := Z7.out; have := Z8.out; have := Y1.out; have := Y2.out; have := Y3.out; have := Y4.out; have := Y5.out; have := Y6.out; omega))
      have GR_8 := Lib.hid ((ret3 GR_7.out (.slice none 0 0) (.slice none 0 0) (.slice none 0 0)).1)
      have GP_8 := Lib.hid (GP_7.out.within ((ret3 GR_7.out (.slice none 0 0) (.slice none 0 0) (.slice none 0 0)).2) (by have := Z1.out; have := Z2.out; have := Z3.out; have := Z4.out; have := Z5.out; have := Z6.out; have := Z7.out; have := Z8.out; have := Y1.out; have := Y2.out; have := Y3.out; have := Y4.out; have := Y5.out; have := Y6.out; omega))
      obtain ⟨g2_0, g2_1, g2_2, g2_3, g2_4, g2_5⟩ := GR_8.out.cells
      go_wp2_with fail
      generalize (((w7.setCell ⟨w.heap.size + 1, 0, none⟩ (.slice none 0 0)).setCell ⟨w.heap.size + 1, 1, none⟩ (.slice none 0 0)).setCell ⟨w.heap.size + 1, 2, none⟩ (.slice none 0 0)) = w8 at *
      refine bodyPost_ret (v := .tuple #[pebV none 0 0 none 0 0 none 0 0, .bool false]) ?_ rfl ?_
      · simp [results, Try.results37, go_sem, g2_0, g2_1, g2_2]
      · rw [HR.out.1, HR.out.2]
        exact ⟨none, 0, none, 0, none, 0, rfl, own3_nil _ _ W8.out.size _ _ _ _ _ _, W8.out⟩
  · skip
    have hg : isGB p l = true := by
      cases h : isGB p l with
      | true => rfl
      | false => exact absurd (.inl h) hbad
    have hG : IsG p l := Classical.byContradiction fun g => by rw [isGB_no g] at hg; cases hg
    obtain ⟨P, rfl⟩ : ∃ P : Nat, p = (P : Int) := ⟨p.toNat, by have := hG.1; omega⟩
    have hP : 1 ≤ P ∧ P ≤ 8 := by have := hG.1; omega
    have hk1 : ¬ k < 1 := by omega
    have hk2 : ¬ 3 < k := by omega
    have HR := Lib.hid (new_yes (l := l) hg (by omega : 1 ≤ k) (by omega))
    rw [hg] at HISG
    clear hbad hG hg
    have W0 := Lib.hid (Below.refl w.heap.size w)
    have HB_0 := Lib.hid (bars_in hl)
    clear hl
    have Z1 := Lib.hid (within_alloc w (.cells #[.int .i64 (P : Int), (.slice A l.length cap)] 26)).size
    have W1 := Lib.hid (within_on W0.out (within_alloc w (.cells #[.int .i64 (P : Int), (.slice A l.length cap)] 26)) W0.out.size (.inr (Nat.le_refl _)))
    have HB_1 := Lib.hid (HB_0.out.within (within_alloc w (.cells #[.int .i64 (P : Int), (.slice A l.length cap)] 26)) (by omega))
    have Y1 := Lib.hid (show (w.alloc (.cells #[.int .i64 (P : Int), (.slice A l.length cap)] 26)).heap.size = w.heap.size + 1 by simp)
    have hnew := box_new w (P : Int) (.slice A l.length cap) 26
    have BX_1 := Lib.hid hnew
    clear hnew
    have Z2 := Lib.hid (within_alloc (w.alloc (.cells #[.int .i64 (P : Int), (.slice A l.length cap)] 26)) (.cells #[(.slice none 0 0), (.slice none 0 0), (.slice none 0 0)] 31)).size
    have W2 := Lib.hid (within_on W1.out (within_alloc (w.alloc (.cells #[.int .i64 (P : Int), (.slice A l.length cap)] 26)) (.cells #[(.slice none 0 0), (.slice none 0 0), (.slice none 0 0)] 31)) W1.out.size (.inr (Nat.le_refl _)))
    have HB_2 := Lib.hid (HB_1.out.within (within_alloc (w.alloc (.cells #[.int .i64 (P : Int), (.slice A l.length cap)] 26)) (.cells #[(.slice none 0 0), (.slice none 0 0), (.slice none 0 0)] 31)) (by omega))
    have BX_2 := Lib.hid (BX_1.out.within (within_alloc (w.alloc (.cells #[.int .i64 (P : Int), (.slice A l.length cap)] 26)) (.cells #[(.slice none 0 0), (.slice none 0 0), (.slice none 0 0)] 31)) (by omega))
    have Y2 := Lib.hid (show ((w.alloc (.cells #[.int .i64 (P : Int), (.slice A l.length cap)] 26)).alloc (.cells #[(.slice none 0 0), (.slice none 0 0), (.slice none 0 0)] 31)).heap.size = (w.alloc (.cells #[.int .i64 (P : Int), (.slice A l.length cap)] 26)).heap.size + 1 by simp)
    have hnew := cel3_new (w.alloc (.cells #[.int .i64 (P : Int), (.slice A l.length cap)] 26)) (.slice none 0 0) (.slice none 0 0) (.slice none 0 0) 31
    rw [show (w.alloc (.cells #[.int .i64 (P : Int), (.slice A l.length cap)] 26)).heap.size = w.heap.size + 1 by simp] at hnew
    have GR_2 := Lib.hid hnew
    clear hnew
    have Z3 := Lib.hid (within_alloc ((w.alloc (.cells #[.int .i64 (P : Int), (.slice A l.length cap)] 26)).alloc (.cells #[(.slice none 0 0), (.slice none 0 0), (.slice none 0 0)] 31)) (.cells #[] 3)).size
    have W3 := Lib.hid (within_on W2.out (within_alloc ((w.alloc (.cells #[.int .i64 (P : Int), (.slice A l.length cap)] 26)).alloc (.cells #[(.slice none 0 0), (.slice none 0 0), (.slice none 0 0)] 31)) (.cells #[] 3)) W2.out.size (.inr (Nat.le_refl _)))
    have HB_3 := Lib.hid (HB_2.out.within (within_alloc ((w.alloc (.cells #[.int .i64 (P : Int), (.slice A l.length cap)] 26)).alloc (.cells #[(.slice none 0 0), (.slice none 0 0), (.slice none 0 0)] 31)) (.cells #[] 3)) (by omega))
    have BX_3 := Lib.hid (BX_2.out.within (within_alloc ((w.alloc (.cells #[.int .i64 (P : Int), (.slice A l.length cap)] 26)).alloc (.cells #[(.slice none 0 0), (.slice none 0 0), (.slice none 0 0)] 31)) (.cells #[] 3)) (by omega))
    have GR_3 := Lib.hid (GR_2.out.within (within_alloc ((w.alloc (.cells #[.int .i64 (P : Int), (.slice A l.length cap)] 26)).alloc (.cells #[(.slice none 0 0), (.slice none 0 0), (.slice none 0 0)] 31)) (.cells #[] 3)) (by omega))
    have Y3 := Lib.hid (show (((w.alloc (.cells #[.int .i64 (P : Int), (.slice A l.length cap)] 26)).alloc (.cells #[(.slice none 0 0), (.slice none 0 0), (.slice none 0 0)] 31)).alloc (.cells #[] 3)).heap.size = ((w.alloc (.cells #[.int .i64 (P : Int), (.slice A l.length cap)] 26)).alloc (.cells #[(.slice none 0 0), (.slice none 0 0), (.slice none 0 0)] 31)).heap.size + 1 by simp)
    have hown := World.ownsRow_made (base := w.heap.size) (e := 3) (size := 1) ((w.alloc (.cells #[.int .i64 (P : Int), (.slice A l.length cap)] 26)).alloc (.cells #[(.slice none 0 0), (.slice none 0 0), (.slice none 0 0)] 31)) #[] 0 (by simp; omega) (by unfold maxLen; omega) (by simp)
    rw [show ((w.alloc (.cells #[.int .i64 (P : Int), (.slice A l.length cap)] 26)).alloc (.cells #[(.slice none 0 0), (.slice none 0 0), (.slice none 0 0)] 31)).heap.size = w.heap.size + 1 + 1 by simp] at hown
    have OF_3 := Lib.hid (Own0.mk hown)
    clear hown
    have Z4 := Lib.hid (within_alloc (((w.alloc (.cells #[.int .i64 (P : Int), (.slice A l.length cap)] 26)).alloc (.cells #[(.slice none 0 0), (.slice none 0 0), (.slice none 0 0)] 31)).alloc (.cells #[] 3)) (.cells #[] 3)).size
    have W4 := Lib.hid (within_on W3.out (within_alloc (((w.alloc (.cells #[.int .i64 (P : Int), (.slice A l.length cap)] 26)).alloc (.cells #[(.slice none 0 0), (.slice none 0 0), (.slice none 0 0)] 31)).alloc (.cells #[] 3)) (.cells #[] 3)) W3.out.size (.inr (Nat.le_refl _)))
    have HB_4 := Lib.hid (HB_3.out.within (within_alloc (((w.alloc (.cells #[.int .i64 (P : Int), (.slice A l.length cap)] 26)).alloc (.cells #[(.slice none 0 0), (.slice none 0 0), (.slice none 0 0)] 31)).alloc (.cells #[] 3)) (.cells #[] 3)) (by omega))
    have BX_4 := Lib.hid (BX_3.out.within (within_alloc (((w.alloc (.cells #[.int .i64 (P : Int), (.slice A l.length cap)] 26)).alloc (.cells #[(.slice none 0 0), (.slice none 0 0), (.slice none 0 0)] 31)).alloc (.cells #[] 3)) (.cells #[] 3)) (by omega))
    have GR_4 := Lib.hid (GR_3.out.within (within_alloc (((w.alloc (.cells #[.int .i64 (P : Int), (.slice A l.length cap)] 26)).alloc (.cells #[(.slice none 0 0), (.slice none 0 0), (.slice none 0 0)] 31)).alloc (.cells #[] 3)) (.cells #[] 3)) (by omega))
    have OF_4 := Lib.hid (OF_3.out.within (within_alloc (((w.alloc (.cells #[.int .i64 (P : Int), (.slice A l.length cap)] 26)).alloc (.cells #[(.slice none 0 0), (.slice none 0 0), (.slice none 0 0)] 31)).alloc (.cells #[] 3)) (.cells #[] 3)) (by omega))
    have Y4 := Lib.hid (show ((((w.alloc (.cells #[.int .i64 (P : Int), (.slice A l.length cap)] 26)).alloc (.cells #[(.slice none 0 0), (.slice none 0 0), (.slice none 0 0)] 31)).alloc (.cells #[] 3)).alloc (.cells #[] 3)).heap.size = (((w.alloc (.cells #[.int .i64 (P : Int), (.slice A l.length cap)] 26)).alloc (.cells #[(.slice none 0 0), (.slice none 0 0), (.slice none 0 0)] 31)).alloc (.cells #[] 3)).heap.size + 1 by simp)
    have Z5 := Lib.hid (within_alloc ((((w.alloc (.cells #[.int .i64 (P : Int), (.slice A l.length cap)] 26)).alloc (.cells #[(.slice none 0 0), (.slice none 0 0), (.slice none 0 0)] 31)).alloc (.cells #[] 3)).alloc (.cells #[] 3)) (.cells #[] 3)).size
    have W5 := Lib.hid (within_on W4.out (within_alloc ((((w.alloc (.cells #[.int .i64 (P : Int), (.slice A l.length cap)] 26)).alloc (.cells #[(.slice none 0 0), (.slice none 0 0), (.slice none 0 0)] 31)).alloc (.cells #[] 3)).alloc (.cells #[] 3)) (.cells #[] 3)) W4.out.size (.inr (Nat.le_refl _)))
    have HB_5 := Lib.hid (HB_4.out.within (within_alloc ((((w.alloc (.cells #[.int .i64 (P : Int), (.slice A l.length cap)] 26)).alloc (.cells #[(.slice none 0 0), (.slice none 0 0), (.slice none 0 0)] 31)).alloc (.cells #[] 3)).alloc (.cells #[] 3)) (.cells #[] 3)) (by omega))
    have BX_5 := Lib.hid (BX_4.out.within (within_alloc ((((w.alloc (.cells #[.int .i64 (P : Int), (.slice A l.length cap)] 26)).alloc (.cells #[(.slice none 0 0), (.slice none 0 0), (.slice none 0 0)] 31)).alloc (.cells #[] 3)).alloc (.cells #[] 3)) (.cells #[] 3)) (by omega))
    have GR_5 := Lib.hid (GR_4.out.within (within_alloc ((((w.alloc (.cells #[.int .i64 (P : Int), (.slice A l.length cap)] 26)).alloc (.cells #[(.slice none 0 0), (.slice none 0 0), (.slice none 0 0)] 31)).alloc (.cells #[] 3)).alloc (.cells #[] 3)) (.cells #[] 3)) (by omega))
    have OF_5 := Lib.hid (OF_4.out.within (within_alloc ((((w.alloc (.cells #[.int .i64 (P : Int), (.slice A l.length cap)] 26)).alloc (.cells #[(.slice none 0 0), (.slice none 0 0), (.slice none 0 0)] 31)).alloc (.cells #[] 3)).alloc (.cells #[] 3)) (.cells #[] 3)) (by omega))
    have Y5 := Lib.hid (show (((((w.alloc (.cells #[.int .i64 (P : Int), (.slice A l.length cap)] 26)).alloc (.cells #[(.slice none 0 0), (.slice none 0 0), (.slice none 0 0)] 31)).alloc (.cells #[] 3)).alloc (.cells #[] 3)).alloc (.cells #[] 3)).heap.size = ((((w.alloc (.cells #[.int .i64 (P : Int), (.slice A l.length cap)] 26)).alloc (.cells #[(.slice none 0 0), (.slice none 0 0), (.slice none 0 0)] 31)).alloc (.cells #[] 3)).alloc (.cells #[] 3)).heap.size + 1 by simp)
    have Z6 := Lib.hid (within_alloc (((((w.alloc (.cells #[.int .i64 (P : Int), (.slice A l.length cap)] 26)).alloc (.cells #[(.slice none 0 0), (.slice none 0 0), (.slice none 0 0)] 31)).alloc (.cells #[] 3)).alloc (.cells #[] 3)).alloc (.cells #[] 3)) (.cells #[(.slice (some ⟨w.heap.size + 1 + 1, 0, none⟩) 0 0), (.slice (some ⟨w.heap.size + 1 + 1 + 1, 0, none⟩) 0 0), (.slice (some ⟨w.heap.size + 1 + 1 + 1 + 1, 0, none⟩) 0 0)] 31)).size
    have W6 := Lib.hid (within_on W5.out (within_alloc (((((w.alloc (.cells #[.int .i64 (P : Int), (.slice A l.length cap)] 26)).alloc (.cells #[(.slice none 0 0), (.slice none 0 0), (.slice none 0 0)] 31)).alloc (.cells #[] 3)).alloc (.cells #[] 3)).alloc (.cells #[] 3)) (.cells #[(.slice (some ⟨w.heap.size + 1 + 1, 0, none⟩) 0 0), (.slice (some ⟨w.heap.size + 1 + 1 + 1, 0, none⟩) 0 0), (.slice (some ⟨w.heap.size + 1 + 1 + 1 + 1, 0, none⟩) 0 0)] 31)) W5.out.size (.inr (Nat.le_refl _)))
    have HB_6 := Lib.hid (HB_5.out.within (within_alloc (((((w.alloc (.cells #[.int .i64 (P : Int), (.slice A l.length cap)] 26)).alloc (.cells #[(.slice none 0 0), (.slice none 0 0), (.slice none 0 0)] 31)).alloc (.cells #[] 3)).alloc (.cells #[] 3)).alloc (.cells #[] 3)) (.cells #[(.slice (some ⟨w.heap.size + 1 + 1, 0, none⟩) 0 0), (.slice (some ⟨w.heap.size + 1 + 1 + 1, 0, none⟩) 0 0), (.slice (some ⟨w.heap.size + 1 + 1 + 1 + 1, 0, none⟩) 0 0)] 31)) (by omega))
    have BX_6 := Lib.hid (BX_5.out.within (within_alloc (((((w.alloc (.cells #[.int .i64 (P : Int), (.slice A l.length cap)] 26)).alloc (.cells #[(.slice none 0 0), (.slice none 0 0), (.slice none 0 0)] 31)).alloc (.cells #[] 3)).alloc (.cells #[] 3)).alloc (.cells #[] 3)) (.cells #[(.slice (some ⟨w.heap.size + 1 + 1, 0, none⟩) 0 0), (.slice (some ⟨w.heap.size + 1 + 1 + 1, 0, none⟩) 0 0), (.slice (some ⟨w.heap.size + 1 + 1 + 1 + 1, 0, none⟩) 0 0)] 31)) (by omega))
    have GR_6 := Lib.hid (GR_5.out.within (within_alloc (((((w.alloc (.cells #[.int .i64 (P : Int), (.slice A l.length cap)] 26)).alloc (.cells #[(.slice none 0 0), (.slice none 0 0), (.slice none 0 0)] 31)).alloc (.cells #[] 3)).alloc (.cells #[] 3)).alloc (.cells #[] 3)) (.cells #[(.slice (some ⟨w.heap.size + 1 + 1, 0, none⟩) 0 0), (.slice (some ⟨w.heap.size + 1 + 1 + 1, 0, none⟩) 0 0), (.slice (some ⟨w.heap.size + 1 + 1 + 1 + 1, 0, none⟩) 0 0)] 31)) (by omega))
    have OF_6 := Lib.hid (OF_5.out.within (within_alloc (((((w.alloc (.cells #[.int .i64 (P : Int), (.slice A l.length cap)] 26)).alloc (.cells #[(.slice none 0 0), (.slice none 0 0), (.slice none 0 0)] 31)).alloc (.cells #[] 3)).alloc (.cells #[] 3)).alloc (.cells #[] 3)) (.cells #[(.slice (some ⟨w.heap.size + 1 + 1, 0, none⟩) 0 0), (.slice (some ⟨w.heap.size + 1 + 1 + 1, 0, none⟩) 0 0), (.slice (some ⟨w.heap.size + 1 + 1 + 1 + 1, 0, none⟩) 0 0)] 31)) (by omega))
    have Y6 := Lib.hid (show ((((((w.alloc (.cells #[.int .i64 (P : Int), (.slice A l.length cap)] 26)).alloc (.cells #[(.slice none 0 0), (.slice none 0 0), (.slice none 0 0)] 31)).alloc (.cells #[] 3)).alloc (.cells #[] 3)).alloc (.cells #[] 3)).alloc (.cells #[(.slice (some ⟨w.heap.size + 1 + 1, 0, none⟩) 0 0), (.slice (some ⟨w.heap.size + 1 + 1 + 1, 0, none⟩) 0 0), (.slice (some ⟨w.heap.size + 1 + 1 + 1 + 1, 0, none⟩) 0 0)] 31)).heap.size = (((((w.alloc (.cells #[.int .i64 (P : Int), (.slice A l.length cap)] 26)).alloc (.cells #[(.slice none 0 0), (.slice none 0 0), (.slice none 0 0)] 31)).alloc (.cells #[] 3)).alloc (.cells #[] 3)).alloc (.cells #[] 3)).heap.size + 1 by simp)
    have hnew := cel3_new (((((w.alloc (.cells #[.int .i64 (P : Int), (.slice A l.length cap)] 26)).alloc (.cells #[(.slice none 0 0), (.slice none 0 0), (.slice none 0 0)] 31)).alloc (.cells #[] 3)).alloc (.cells #[] 3)).alloc (.cells #[] 3)) (.slice (some ⟨w.heap.size + 1 + 1, 0, none⟩) 0 0) (.slice (some ⟨w.heap.size + 1 + 1 + 1, 0, none⟩) 0 0) (.slice (some ⟨w.heap.size + 1 + 1 + 1 + 1, 0, none⟩) 0 0) 31
    rw [show (((((w.alloc (.cells #[.int .i64 (P : Int), (.slice A l.length cap)] 26)).alloc (.cells #[(.slice none 0 0), (.slice none 0 0), (.slice none 0 0)] 31)).alloc (.cells #[] 3)).alloc (.cells #[] 3)).alloc (.cells #[] 3)).heap.size = w.heap.size + 1 + 1 + 1 + 1 + 1 by simp] at hnew
    have GP_6 := Lib.hid hnew
    clear hnew
    go_enter Try.func37, Try.ntmps37
    obtain ⟨g0_0, g0_1, g0_2⟩ := BX_6.out
    go_wp2_with fail
    clear g0_0 g0_1 g0_2
    generalize ((((((w.alloc (.cells #[.int .i64 (P : Int), (.slice A l.length cap)] 26)).alloc (.cells #[(.slice none 0 0), (.slice none 0 0), (.slice none 0 0)] 31)).alloc (.cells #[] 3)).alloc (.cells #[] 3)).alloc (.cells #[] 3)).alloc (.cells #[(.slice (some ⟨w.heap.size + 1 + 1, 0, none⟩) 0 0), (.slice (some ⟨w.heap.size + 1 + 1 + 1, 0, none⟩) 0 0), (.slice (some ⟨w.heap.size + 1 + 1 + 1 + 1, 0, none⟩) 0 0)] 31)) = w6 at *
    generalize (((((w.alloc (.cells #[.int .i64 (P : Int), (.slice A l.length cap)] 26)).alloc (.cells #[(.slice none 0 0), (.slice none 0 0), (.slice none 0 0)] 31)).alloc (.cells #[] 3)).alloc (.cells #[] 3)).alloc (.cells #[] 3)) = w5 at *
    generalize ((((w.alloc (.cells #[.int .i64 (P : Int), (.slice A l.length cap)] 26)).alloc (.cells #[(.slice none 0 0), (.slice none 0 0), (.slice none 0 0)] 31)).alloc (.cells #[] 3)).alloc (.cells #[] 3)) = w4 at *
    generalize (((w.alloc (.cells #[.int .i64 (P : Int), (.slice A l.length cap)] 26)).alloc (.cells #[(.slice none 0 0), (.slice none 0 0), (.slice none 0 0)] 31)).alloc (.cells #[] 3)) = w3 at *
    generalize ((w.alloc (.cells #[.int .i64 (P : Int), (.slice A l.length cap)] 26)).alloc (.cells #[(.slice none 0 0), (.slice none 0 0), (.slice none 0 0)] 31)) = w2 at *
    generalize (w.alloc (.cells #[.int .i64 (P : Int), (.slice A l.length cap)] 26)) = w1 at *
    refine (HISG _ HB_6.out.at).mono ?_
    rintro e w7 ⟨rfl, hb⟩
    have Z7 := Lib.hid (within_of hb).size
    have W7 := Lib.hid (within_on W6.out (within_of hb) W6.out.size (.inr (Nat.le_refl _)))
    have HB_7 := Lib.hid (HB_6.out.within (within_of hb) (by omega))
    have BX_7 := Lib.hid (BX_6.out.within (within_of hb) (by omega))
    have GR_7 := Lib.hid (GR_6.out.within (within_of hb) (by omega))
    have OF_7 := Lib.hid (OF_6.out.within (within_of hb) (by omega))
    have GP_7 := Lib.hid (GP_6.out.within (within_of hb) (by omega))
    clear hb HISG
    go_wp2_with fail
    refine (l1In_yes k 1 3 _ (by omega) (by omega)).mono ?_
    rintro e w9 ⟨rfl, rfl⟩
    have HN := Lib.hid (show NewS w w7 (P : Int) k (.slice A l.length cap) 0 (.slice (some ⟨w.heap.size + 1 + 1, 0, none⟩) 0 0) (.slice (some ⟨w.heap.size + 1 + 1 + 1, 0, none⟩) 0 0) (.slice (some ⟨w.heap.size + 1 + 1 + 1 + 1, 0, none⟩) 0 0) from ⟨OF_7.out.row, fun a e => by simp [Value.ownBlock] at e; omega, GP_7.out, GR_7.out, BX_7.out, W7.out⟩)
    go_wp2_with fail
    go_loopw [7] (fun i wr => ∃ j : Nat, j ≤ P ∧ i = .int .i64 j ∧ ∃ v, NewS w wr (P : Int) k (.slice A l.length cap) j v (.slice (some ⟨w.heap.size + 1 + 1 + 1, 0, none⟩) 0 0) (.slice (some ⟨w.heap.size + 1 + 1 + 1 + 1, 0, none⟩) 0 0)) (fun i _ => P - (intOf i).toNat)
    case atStart => exact ⟨0, Nat.zero_le _, rfl, _, HN.out⟩
    case round =>
      obtain ⟨j, hj, rfl, v, hst⟩ := hrel
      have HS := Lib.hid hst
      obtain ⟨A', c', rfl⟩ := own_shape hst.row
      have hbs := hst.bel.size
      obtain ⟨_, g1, g2⟩ := hst.box
      obtain ⟨c0, c1, c2, f0, f1, f2⟩ := hst.st.cells
      clear hst
      by_cases hlt : j < P
      · have hji : (j : Int) < (P : Int) := by omega
        obtain ⟨k0, k1, k2, e0, e1, e2⟩ := (HS.out.alloc (.cells #[.int .i64 k] 3)).st.cells
        go_wp2_with (at_builtin; refine wpList_at _ rfl _ _ 29 rfl w.heap.size 3 (.int .i64 0) 1 8 Try.underlying29 infoInt rfl (by decide) _ _ _ rfl HS.out.row #[.int .i64 k] 1 rfl (by simp [Value.oneCell']) _ _ rfl (by omega) (by unfold maxLen; omega) hbs ?_; intro v' w' ho hg hat _; obtain ⟨A2, c2', rfl⟩ := own_shape ho; obtain ⟨q5, hN⟩ := HS.out.push ho hg hat; obtain ⟨d0, d1, d2, h0, h1, h2⟩ := q5.cells; have HN2 := Lib.hid hN; clear ho hg hat q5 hN)
        go_roundw
        case rel => exact ⟨j + 1, by omega, by go_num, _, HN2.out⟩
        case measure => simp [intOf]; omega
      · obtain rfl : j = P := by omega
        have rt := HS.out.ret
        obtain ⟨r0, r1, r2, q0, q1, q2⟩ := rt.cells
        have h3 := ret3 rt (.slice A' j c') (.slice (some ⟨w.heap.size + 1 + 1 + 1, 0, none⟩) 0 0) (.slice (some ⟨w.heap.size + 1 + 1 + 1 + 1, 0, none⟩) 0 0)
        obtain ⟨s0, s1, s2, _⟩ := h3.1.cells
        have HW := Lib.hid h3.2
        clear h3 rt
        go_wp2_with fail
        refine bodyPost_ret (v := .tuple #[pebV A' j c' (some ⟨w.heap.size + 1 + 1 + 1, 0, none⟩) 0 0 (some ⟨w.heap.size + 1 + 1 + 1 + 1, 0, none⟩) 0 0, .bool true]) ?_ rfl ?_
        · simp [results, Try.results37, go_sem, s0, s1, s2]
        · have hro := HS.out.row2.within HW.out (by omega)
          have hz := HW.out.size
          rw [HR.out.1, HR.out.2]
          refine ⟨A', c', some ⟨w.heap.size + 1 + 1 + 1, 0, none⟩, 0, some ⟨w.heap.size + 1 + 1 + 1 + 1, 0, none⟩, 0, by rw [List.length_replicate]; rfl, ?_, within_on HS.out.bel HW.out hbs (by omega)⟩
          exact own3_f hro (by omega) hz (by omega)
end Go.Proofs.Ytdkpmaahinbhlaa
/- What stands while a pebble is looked for in a state of the call's own. No program's walk. No condition. -/
namespace Go.Proofs.Ytdkpmaahinbhlaa
open Go.RowKit

/-- The pointers to the tails that led to the points of a queue. -/
def arrV (gT : Nat) (a : Int) (q : List (Int × Nat)) (v : Int) : Value :=
  match q.find? (fun x => decide (x.1 = v) && decide (x.1 ≠ a)) with
  | some x => .pointer (some ⟨gT, x.2, none⟩)
  | none => .pointer none
def arrL (gT : Nat) (a : Int) (q : List (Int × Nat)) : List Value := (List.range 8).map fun (v : Nat) => arrV gT a q (v : Int)
theorem arrL_len (gT : Nat) (a : Int) (q : List (Int × Nat)) : (arrL gT a q).length = 8 := by simp [arrL]
theorem arrL_get (gT : Nat) (a : Int) (q : List (Int × Nat)) (v : Nat) (h : v < 8) : (arrL gT a q)[v]? = some (arrV gT a q (v : Int)) := by simp [arrL, h]
theorem arrV_none {gT : Nat} {a : Int} {q : List (Int × Nat)} {v : Int} (h : v ∉ q.map Prod.fst ∨ v = a) : arrV gT a q v = .pointer none := by
  unfold arrV
  rw [List.find?_eq_none.2]
  intro x hx
  rcases h with h | h
  · have : x.1 ≠ v := fun e => h (e ▸ List.mem_map_of_mem hx)
    simp [this]
  · subst h
    by_cases e : x.1 = v <;> simp [e]
theorem arrV_some {gT : Nat} {a : Int} {q : List (Int × Nat)} {v : Int} (h : v ∈ q.map Prod.fst) (ha : v ≠ a) : ∃ g j, arrV gT a q v = .pointer (some ⟨g, j, none⟩) := by
  unfold arrV
  obtain ⟨x, hx, e⟩ := List.mem_map.1 h
  cases hf : q.find? (fun x => decide (x.1 = v) && decide (x.1 ≠ a)) with
  | some y => exact ⟨gT, y.2, rfl⟩
  | none =>
    have := List.find?_eq_none.1 hf x hx
    simp [e, ha] at this
theorem arrV_at {P : Nat} {E : List (Int × Int)} {T : List Int} {gT : Nat} {a : Int} {q : List (Int × Nat)} (hp : PathQ P E T a q) {x : Int × Nat} (hx : x ∈ q) (ha : x.1 ≠ a) : arrV gT a q x.1 = .pointer (some ⟨gT, x.2, none⟩) := by
  obtain ⟨q1, q2, rfl⟩ := List.append_of_mem hx
  have hne : q1 ≠ [] := by
    rintro rfl
    obtain ⟨s, e⟩ := hp.1
    cases e
    exact ha rfl
  have h1 := (hp.2 q1 x q2 rfl hne).1
  unfold arrV
  rw [List.find?_append, List.find?_eq_none.2 fun y hy => by
    have : y.1 ≠ x.1 := fun e => h1 (e ▸ List.mem_map_of_mem hy)
    simp [this]]
  simp [ha]
theorem arrL_set (gT : Nat) (a : Int) (q : List (Int × Nat)) (o j : Nat) (h8 : o < 8) (ho : (o : Int) ∉ q.map Prod.fst) (ha : (o : Int) ≠ a) : (arrL gT a q).set o (.pointer (some ⟨gT, j, none⟩)) = arrL gT a (q ++ [((o : Int), j)]) := by
  apply List.ext_getElem?
  intro v
  by_cases hv : v < 8
  · rw [List.getElem?_set, arrL_get _ _ _ v hv, arrL_get _ _ _ v hv, arrL_len]
    by_cases e : o = v
    · subst e
      rw [if_pos rfl, if_pos h8]
      congr 1
      unfold arrV
      rw [List.find?_append, List.find?_eq_none.2 fun y hy => by
        have : y.1 ≠ (o : Int) := fun e => ho (e ▸ List.mem_map_of_mem hy)
        simp [this]]
      simp [ha]
    · rw [if_neg e]
      congr 1
      unfold arrV
      rw [List.find?_append]
      have hne : ¬ (o : Int) = (v : Int) := by omega
      simp [hne]
  · rw [List.getElem?_eq_none (by rw [List.length_set, arrL_len]; omega), List.getElem?_eq_none (by rw [arrL_len]; omega)]

/-- Where the search stands: the state, the graph's box, the pointers, the queue. -/
structure PullI (w wr : World) (pb : Nat) (f t z : Nat × Nat) (p : Int) (A : Option Addr) (cap : Nat) (l : List (Int × Int)) (AF : Option Addr) (cF : Nat) (AT : Option Addr) (cT : Nat) (AZ : Option Addr) (cZ : Nat) (F T Z : List Int) (a : Int) (gT : Nat) (qa qr : List (Int × Nat)) (qv : Value) : Prop where
  st : Cel3 wr pb 31 (.slice AF F.length cF) (.slice AT T.length cT) (.slice AZ Z.length cZ)
  own : OwnF wr f t z AF cF AT cT AZ cZ F T Z
  box : Box wr w.heap.size p (.slice A l.length cap)
  bars : BarsIn wr 0 w.heap.size A l
  arr : wr.heap[w.heap.size + 1]? = some (.cells (arrL gT a qa).toArray 210 (0, 0))
  row : wr.ownsRow (w.heap.size + 1 + 1) 3 1 qv qr.length (intCells (qr.map Prod.fst))
  bel : Below w.heap.size w wr
  low : pb < w.heap.size ∧ f.2 ≤ w.heap.size ∧ t.2 ≤ w.heap.size ∧ z.2 ≤ w.heap.size
theorem PullI.below {w wr w' : World} {pb : Nat} {f t z : Nat × Nat} {p : Int} {A : Option Addr} {cap : Nat} {l : List (Int × Int)} {AF : Option Addr} {cF : Nat} {AT : Option Addr} {cT : Nat} {AZ : Option Addr} {cZ : Nat} {F T Z : List Int} {a : Int} {gT : Nat} {qa qr : List (Int × Nat)} {qv : Value}
    (h : PullI w wr pb f t z p A cap l AF cF AT cT AZ cZ F T Z a gT qa qr qv) (hb : Below wr.heap.size wr w') : PullI w w' pb f t z p A cap l AF cF AT cT AZ cZ F T Z a gT qa qr qv :=
  ⟨h.st.kept hb, h.own.below hb, h.box.kept hb, h.bars.within (within_of hb) (.inr (Nat.zero_le _)), (hb.block _ (Array.getElem?_eq_some_iff.1 h.arr).1).trans h.arr, own_below h.row hb, below_on h.bel hb h.bel.size, h.low⟩
theorem PullI.reach {w wr : World} {pb : Nat} {f t z : Nat × Nat} {p : Int} {A : Option Addr} {cap : Nat} {l : List (Int × Int)} {AF : Option Addr} {cF : Nat} {AT : Option Addr} {cT : Nat} {AZ : Option Addr} {cZ : Nat} {F T Z : List Int} {a : Int} {gT : Nat} {qa qr : List (Int × Nat)} {qv : Value}
    (h : PullI w wr pb f t z p A cap l AF cF AT cT AZ cZ F T Z a gT qa qr qv) (o j : Nat) (h8 : o < 8) (ho : (o : Int) ∉ qa.map Prod.fst) (ha : (o : Int) ≠ a) : PullI w (wr.setCell ⟨w.heap.size + 1, o, none⟩ (.pointer (some ⟨gT, j, none⟩))) pb f t z p A cap l AF cF AT cT AZ cZ F T Z a gT (qa ++ [((o : Int), j)]) qr qv := by
  have hw := within_set wr (w.heap.size + 1) o (.pointer (some ⟨gT, j, none⟩))
  obtain ⟨l1, l2, l3, l4⟩ := h.low
  refine ⟨h.st.within hw (by omega), h.own.within hw (by omega) (by omega) (by omega), h.box.within hw (by omega), h.bars.within hw (by omega), ?_, ?_, h.bel.setCell (p := ⟨w.heap.size + 1, o, none⟩) (by simp only []; omega) _, h.low⟩
  · have := heap_setCell_same wr (w.heap.size + 1) o _ _ (.pointer (some ⟨gT, j, none⟩)) h.arr
    rw [← arrL_set gT a qa o j h8 ho ha]
    simpa using this
  · rcases h.row.2 with ⟨e, e0⟩ | ⟨g, c, cur, e, hg, hh, _⟩
    · exact ⟨h.row.1, .inl ⟨e, e0⟩⟩
    · subst e
      exact own_block h.row (hw.block g (Array.getElem?_eq_some_iff.1 hh).1 (by omega))
theorem PullI.push {w wr w' : World} {pb : Nat} {f t z : Nat × Nat} {p : Int} {A : Option Addr} {cap : Nat} {l : List (Int × Int)} {AF : Option Addr} {cF : Nat} {AT : Option Addr} {cT : Nat} {AZ : Option Addr} {cZ : Nat} {F T Z : List Int} {a : Int} {gT : Nat} {qa qr : List (Int × Nat)} {qv qv' : Value}
    (h : PullI w wr pb f t z p A cap l AF cF AT cT AZ cZ F T Z a gT qa qr qv) (x : Int × Nat) (ho : w'.ownsRow (w.heap.size + 1 + 1) 3 1 qv' (qr.length + 1) (intCells (qr.map Prod.fst) ++ [.int .i64 x.1])) (hg : wr.grownBy w' qv.ownBlock) : PullI w w' pb f t z p A cap l AF cF AT cT AZ cZ F T Z a gT qa (qr ++ [x]) qv' := by
  obtain ⟨l1, l2, l3, l4⟩ := h.low
  have hs := h.bel.size
  have hra := (Array.getElem?_eq_some_iff.1 h.arr).1
  have hw : Within (w.heap.size + 1 + 1) wr.heap.size wr w' := ⟨hg.os, hg.tape, hg.output, hg.size, fun k hk hd => hg.block k hk fun e => by
    have := (h.row.lt k e.symm).1
    omega⟩
  have hbx := h.box.1
  refine ⟨h.st.within hw (by omega), h.own.within hw (by omega) (by omega) (by omega), h.box.within hw (by omega), h.bars.within hw (by omega), (hw.block _ hra (by omega)).trans h.arr, ?_, h.bel.grown hg (by omega) fun g e => by have := (h.row.lt g e).1; omega, h.low⟩
  rw [List.length_append, List.map_append, show intCells (qr.map Prod.fst ++ [x].map Prod.fst) = intCells (qr.map Prod.fst) ++ [.int .i64 x.1] by simp [intCells]]
  exact ho
theorem GoodQ.range {P : Nat} {E : List (Int × Int)} {T : List Int} {a : Int} {q : List (Int × Nat)} (h : GoodQ P E T a q) (ha : 0 ≤ a ∧ a < (P : Int)) (k : Nat) (hk : k < q.length) : 0 ≤ (q.getD k (0, 0)).1 ∧ (q.getD k (0, 0)).1 < (P : Int) := by
  have hm := getD_mem_fst q k hk
  by_cases e : (q.getD k (0, 0)).1 = a
  · rw [e]; exact ha
  · obtain ⟨_, _, _, _, _, _, _, _, _, h6, h7, _⟩ := h.path.at hm e
    exact ⟨h6, h7⟩
theorem Own3.fst {W : World} {lo hi : Nat} {AF AT AZ : Option Addr} {cF cT cZ : Nat} {F T Z : List Int} (h : Own3 W lo hi AF cF AT cT AZ cZ F T Z) (hF : 0 < F.length) : ∃ gF, AF = some ⟨gF, 0, none⟩ ∧ lo ≤ gF ∧ gF < hi := by
  obtain ⟨⟨f1, f2⟩, _, _, o1, _, _, _, _, _, b1, _, _, _⟩ := h
  simp only at o1 b1
  rcases o1.2 with e | ⟨gF, rfl, g1, g2, _⟩
  · subst e; simp at hF
  · exact ⟨gF, rfl, by omega, by omega⟩
theorem turn_prefix {E : List (Int × Int)} {a : Int} {q0 r : List (Int × Nat)} {x : Int × Nat} (T : List Int) (h : x.1 ∉ r.map Prod.fst) : turnQ E a (q0 ++ x :: r).reverse x.1 T = turnQ E a (q0 ++ [x]).reverse x.1 T := by
  rw [show (q0 ++ x :: r).reverse = r.reverse ++ (q0 ++ [x]).reverse by simp, turnQ_skip _ _ _ _ _ _ (by simpa using h)]
theorem take_snoc_getD (q : List (Int × Nat)) (k : Nat) (hk : k < q.length) : q.take (k + 1) = q.take k ++ [q.getD k (0, 0)] := take_getD q (0, 0) k hk
theorem map_fst_getD (q : List (Int × Nat)) (k : Nat) (h : k < q.length) : (q.map Prod.fst).getD k 0 = (q.getD k (0, 0)).1 := by
  simp [List.getD, List.getElem?_eq_getElem h]
/-- A point was looked at: none of those so far gives a pebble. -/
theorem no_step {E : List (Int × Int)} {T F : List Int} {a b : Int} {k : Nat} (hk : k < (bfs E T a k).length) (h : ∀ y ∈ (bfs E T a k).take k, givesB F a b y = false) (hx : givesB F a b ((bfs E T a k).getD k (0, 0)) = false) : ∀ y ∈ (bfs E T a (k + 1)).take (k + 1), givesB F a b y = false := by
  obtain ⟨r, e⟩ := bfs_pre1 E T a k
  rw [e, List.take_append_of_le_length (by omega), take_snoc_getD _ _ hk]
  intro y hy
  rcases List.mem_append.1 hy with hy | hy
  · exact h y hy
  · have : y = (bfs E T a k).getD k (0, 0) := by simpa using hy
    rw [this]; exact hx
/-- What a search for a pebble answers, and what it makes of the state. -/
def PullP (w : World) (f t z : Nat × Nat) (AF : Option Addr) (cF : Nat) (AT : Option Addr) (cT : Nat) (AZ : Option Addr) (cZ : Nat) (E : List (Int × Int)) (F T Z : List Int) (a b : Int) (e : Ending) (w' : World) : Prop :=
  Within2 f t w w' ∧ ((e = .returned (.bool false) ∧ findM E a b (F, T) = none ∧ OwnF w' f t z AF cF AT cT AZ cZ F T Z) ∨ ∃ s', e = .returned (.bool true) ∧ findM E a b (F, T) = some s' ∧ OwnF w' f t z AF cF AT cT AZ cZ s'.1 s'.2 Z)
end Go.Proofs.Ytdkpmaahinbhlaa
/- What stands while the specification looks for a pebble. No program's walk. No condition. -/
namespace Go.Proofs.Ytdkpmaahinbhlaa
open Go.RowKit

/-- What was seen: a row of bools. -/
def seenC (n : Nat) (q : List (Int × Nat)) : List Value := (List.range n).map fun (u : Nat) => Value.bool (decide ((u : Int) ∈ q.map Prod.fst))
theorem seenC_len (n : Nat) (q : List (Int × Nat)) : (seenC n q).length = n := by simp [seenC]
theorem seenC_get (n : Nat) (q : List (Int × Nat)) (u : Nat) (h : u < n) : (seenC n q)[u]? = some (.bool (decide ((u : Int) ∈ q.map Prod.fst))) := by simp [seenC, h]
theorem seenC_set (n : Nat) (q : List (Int × Nat)) (o j : Nat) : (seenC n q).set o (.bool true) = seenC n (q ++ [((o : Int), j)]) := by
  apply List.ext_getElem?
  intro i
  by_cases hi : i < n
  · rw [List.getElem?_set, seenC_get _ _ _ hi, seenC_get _ _ _ hi]
    simp only [seenC_len]
    by_cases h : o = i
    · subst h; simp [hi]
    · have h' : ¬ (i : Int) = (o : Int) := by omega
      simp [h, h']
  · rw [List.getElem?_eq_none (by simp [seenC_len]; omega), List.getElem?_eq_none (by simp [seenC_len]; omega)]
theorem seenC_one (n : Nat) (a : Nat) : (List.replicate n (Value.bool false)).set a (.bool true) = seenC n [((a : Int), 0)] := by
  have e : List.replicate n (Value.bool false) = seenC n [] := by
    apply List.ext_getElem?
    intro i
    by_cases hi : i < n
    · rw [seenC_get _ _ _ hi]; simp [hi]
    · rw [List.getElem?_eq_none (by simp; omega), List.getElem?_eq_none (by simp [seenC_len]; omega)]
  rw [e, seenC_set n [] a 0, List.nil_append]
/-- Where the search stands: what is read, how each point was reached, what was seen, the queue. -/
structure FindI (w wr : World) (p : Int) (A : Option Addr) (cap : Nat) (l : List (Int × Int)) (AF AT AZ : Option Addr) (cF cT cZ lo hi : Nat) (F T Z : List Int) (gf gs : Nat) (FR : List Int) (a : Int) (qa qr : List (Int × Nat)) (qv : Value) : Prop where
  g : GtI w wr p A cap l AF AT AZ cF cT cZ lo hi F T Z
  fr : wr.ownsRow gf 3 1 (.slice (some ⟨gf, 0, none⟩) F.length F.length) F.length (intCells FR)
  sn : wr.ownsRow gs 4 1 (.slice (some ⟨gs, 0, none⟩) F.length F.length) F.length (seenC F.length qa)
  qu : wr.ownsRow (w.heap.size + 3) 3 1 qv qr.length (intCells (qr.map Prod.fst))
  qn : ∀ g, qv.ownBlock = some g → g ≠ gf ∧ g ≠ gs
  ne : gf ≠ gs
  lf : w.heap.size + 3 ≤ gf
  ls : w.heap.size + 3 ≤ gs
  lh : hi ≤ w.heap.size
  frl : FR.length = F.length
  fro : ∀ x ∈ qa, x.1 ≠ a → FR.getD x.1.toNat 0 = (x.2 : Int)
theorem FindI.below {w wr w' : World} {p : Int} {A : Option Addr} {cap : Nat} {l : List (Int × Int)} {AF AT AZ : Option Addr} {cF cT cZ lo hi : Nat} {F T Z : List Int} {gf gs : Nat} {FR : List Int} {a : Int} {qa qr : List (Int × Nat)} {qv : Value}
    (h : FindI w wr p A cap l AF AT AZ cF cT cZ lo hi F T Z gf gs FR a qa qr qv) (hb : Below wr.heap.size wr w') : FindI w w' p A cap l AF AT AZ cF cT cZ lo hi F T Z gf gs FR a qa qr qv :=
  ⟨h.g.below hb, own_below h.fr hb, own_below h.sn hb, own_below h.qu hb, h.qn, h.ne, h.lf, h.ls, h.lh, h.frl, h.fro⟩
/-- A point is seen for the first time, along bar j. -/
theorem FindI.see {w wr : World} {p : Int} {A : Option Addr} {cap : Nat} {l : List (Int × Int)} {AF AT AZ : Option Addr} {cF cT cZ lo hi : Nat} {F T Z : List Int} {gf gs : Nat} {FR : List Int} {a : Int} {qa qr : List (Int × Nat)} {qv : Value}
    (h : FindI w wr p A cap l AF AT AZ cF cT cZ lo hi F T Z gf gs FR a qa qr qv) (o j : Nat) (ho : o < F.length) (hn : (o : Int) ∉ qa.map Prod.fst) (hq : ∀ x ∈ qa, x.1 ≠ a → 0 ≤ x.1) : FindI w ((wr.setCell ⟨gs, o, none⟩ (.bool true)).setCell ⟨gf, o, none⟩ (.int .i64 (j : Int))) p A cap l AF AT AZ cF cT cZ lo hi F T Z gf gs (FR.set o (j : Int)) a (qa ++ [((o : Int), j)]) qr qv := by
  have h1 := within_set wr gs o (.bool true)
  have h2 := within_set (wr.setCell ⟨gs, o, none⟩ (.bool true)) gf o (.int .i64 (j : Int))
  have e := h.ne
  have e1 := h.lf
  have e2 := h.ls
  have e3 := h.lh
  have s1 := (h.sn.stored o (.bool true)).1
  rw [seenC_set _ _ _ j] at s1
  have s2 := ((own_block h.fr (h1.block gf (h.fr.lt gf rfl).2 (by omega))).stored o (.int .i64 (j : Int))).1
  rw [intCells_set] at s2
  refine ⟨(h.g.within h1 (by omega) (by omega)).within h2 (by omega) (by omega), s2, own_block s1 (h2.block gs (s1.lt gs rfl).2 (by omega)), ?_, h.qn, h.ne, h.lf, h.ls, h.lh, by rw [List.length_set]; exact h.frl, fun x hx hxa => ?_⟩
  · rcases h.qu.2 with ⟨c, c0⟩ | ⟨g, c, cur, c1, hg, hh, _⟩
    · exact ⟨h.qu.1, .inl ⟨c, c0⟩⟩
    · subst c1
      have hne := h.qn g rfl
      have hl := (Array.getElem?_eq_some_iff.1 hh).1
      exact own_block (own_block h.qu (h1.block g hl (by omega))) (h2.block g (Nat.lt_of_lt_of_le hl h1.size) (by omega))
  · rcases List.mem_append.1 hx with hx | hx
    · have hxo : x.1 ≠ (o : Int) := fun c => hn (c ▸ List.mem_map_of_mem hx)
      have h0 := hq x hx hxa
      rw [set_getD_ne _ _ _ _ _ (by omega)]
      exact h.fro x hx hxa
    · obtain rfl : x = ((o : Int), j) := by simpa using hx
      simp only [Int.toNat_natCast]
      exact set_getD_eq _ _ _ _ (by rw [h.frl]; exact ho)
/-- The point is put behind the queue. -/
theorem FindI.push {w wr w' : World} {p : Int} {A : Option Addr} {cap : Nat} {l : List (Int × Int)} {AF AT AZ : Option Addr} {cF cT cZ lo hi : Nat} {F T Z : List Int} {gf gs : Nat} {FR : List Int} {a : Int} {qa qr : List (Int × Nat)} {qv qv' : Value}
    (h : FindI w wr p A cap l AF AT AZ cF cT cZ lo hi F T Z gf gs FR a qa qr qv) (x : Int × Nat) (ho : w'.ownsRow (w.heap.size + 3) 3 1 qv' (qr.length + 1) (intCells (qr.map Prod.fst) ++ [.int .i64 x.1])) (hg : wr.grownBy w' qv.ownBlock) (hat : qv'.ownBlock = qv.ownBlock ∨ qv'.ownBlock = some (wr.heap.size + 1)) : FindI w w' p A cap l AF AT AZ cF cT cZ lo hi F T Z gf gs FR a qa (qr ++ [x]) qv' := by
  have e1 := h.lf
  have e2 := h.ls
  have e3 := h.lh
  have l1 := (h.fr.lt gf rfl).2
  have l2 := (h.sn.lt gs rfl).2
  have hw : Within (w.heap.size + 3) wr.heap.size wr w' := ⟨hg.os, hg.tape, hg.output, hg.size, fun k hk hd => hg.block k hk fun e => by
    have := (h.qu.lt k e.symm).1
    omega⟩
  refine ⟨h.g.within hw (by omega) (by omega), own_block h.fr (hg.block gf l1 fun c => (h.qn gf c.symm).1 rfl), own_block h.sn (hg.block gs l2 fun c => (h.qn gs c.symm).2 rfl), ?_, fun g c => ?_, h.ne, h.lf, h.ls, h.lh, h.frl, h.fro⟩
  · rw [List.length_append, List.map_append, show intCells (qr.map Prod.fst ++ [x].map Prod.fst) = intCells (qr.map Prod.fst) ++ [.int .i64 x.1] by simp [intCells]]
    exact ho
  · rcases hat with hat | hat
    · exact h.qn g (hat ▸ c)
    · rw [hat] at c
      cases c
      omega
/-- What the specification's search answers. -/
def FindP (w : World) (pv : Value) (E : List (Int × Int)) (F T Z : List Int) (a b : Int) (e : Ending) (w' : World) : Prop :=
  Below w.heap.size w w' ∧ ((e = .returned (.tuple #[pv, .bool false]) ∧ findM E a b (F, T) = none) ∨ ∃ s' AF cF AT cT AZ cZ, e = .returned (.tuple #[pebV AF s'.1.length cF AT s'.2.length cT AZ Z.length cZ, .bool true]) ∧ findM E a b (F, T) = some s' ∧ Own3R w' w.heap.size w'.heap.size AF cF AT cT AZ cZ s'.1 s'.2 Z)
end Go.Proofs.Ytdkpmaahinbhlaa
/- What spec.l4Find answers: a search by breadth for a free pebble, and the path turned round. No condition. -/
namespace Go.Proofs.Ytdkpmaahinbhlaa
open Go.RowKit

theorem infoB1 : (Try.prog.info? 4).map (fun i => (i.zero, i.size, i.bytes)) = some (some (.bool false), 1, 1) := by kernel_rfl
theorem Own3R.widen {W : World} {lo hi lo' hi' : Nat} {AF AT AZ : Option Addr} {cF cT cZ : Nat} {F T Z : List Int} (h : Own3R W lo hi AF cF AT cT AZ cZ F T Z) (h1 : lo' ≤ lo) (h2 : hi ≤ hi') (h3 : hi' ≤ W.heap.size) : Own3R W lo' hi' AF cF AT cT AZ cZ F T Z := by
  obtain ⟨f, t, z, o1, o2, o3, d1, d2, d3, b1, b2, b3, _⟩ := h
  exact ⟨f, t, z, o1, o2, o3, d1, d2, d3, by omega, by omega, by omega, h3⟩

set_option maxHeartbeats 8000000 in
set_option maxRecDepth 100000 in
theorem find_c (k0 : Int) (l : List (Int × Int)) (A : Option Addr) (cap : Nat) (AF AT AZ : Option Addr) (cF cT cZ lo hi : Nat) (F T Z : List Int) (a b : Int) (w : World) (hS : PebS F.length k0 (plE l Z) F T) (hP : 1 ≤ F.length ∧ F.length ≤ 8) (hk0 : k0 ≤ 3) (hn : l.length ≤ 24) (hz24 : Z.length ≤ 24)
    (hZ : ∀ i, i < Z.length → 0 ≤ Z.getD i 0 ∧ Z.getD i 0 < (l.length : Int)) (ha : 0 ≤ a ∧ a < (F.length : Int)) (hl : BarsAt w w.heap.size A l) (h : Peb3 w lo hi AF AT AZ F T Z) :
    Calls Try.prog 193 #[.agg #[.int .i64 (F.length : Int), .slice A l.length cap], pebV AF F.length cF AT T.length cT AZ Z.length cZ, .int .i64 a, .int .i64 b] w (FindP w (pebV AF F.length cF AT T.length cT AZ Z.length cZ) (plE l Z) F T Z a b) := by
  obtain ⟨an, rfl⟩ : ∃ an : Nat, a = (an : Int) := ⟨a.toNat, by omega⟩
  have hhi : hi ≤ w.heap.size := h.f.1
  have HI0 := Lib.hid (GtI.start w (F.length : Int) A cap l AF AT AZ cF cT cZ lo hi F T Z hl h)
  have HTZ := Lib.hid (show T.length = Z.length by rw [hS.ends.len, plE_len])
  have HE := Lib.hid (show ∀ i, i < Z.length → (plE l Z).getD i (0, 0) = l.getD (Z.getD i 0).toNat (0, 0) from fun i hi => plE_get l Z i hi)
  have HG := Lib.hid (fun k => bfs_good (T := T) hS.ends ha.1 ha.2 k)
  have HS := Lib.hid hS
  have HZ := Lib.hid hZ
  have HEL := Lib.hid (plE_len l Z)
  have HSH := Lib.hid (fun (u : Int) (q : List (Int × Nat)) (TF FR : List Int) (Af : Option Addr) (cf lf hf : Nat) (W : World) (h1 : BarsAt W W.heap.size A l) (h2 : Peb3 W lo hi AF AT AZ F T Z) (h3 : TurnI F.length (plE l Z) T (an : Int) q TF u T) (h4 : IntsIn W lf hf Af FR) (h5 : FR.length = F.length) (h6 : ∀ x ∈ q, x.1 ≠ (an : Int) → FR.getD x.1.toNat 0 = (x.2 : Int)) (h7 : 0 ≤ u ∧ u < (F.length : Int)) (h8 : u ≠ (an : Int)) => shift_c F.length l A cap AF AT AZ cF cT cZ lo hi F T Z (an : Int) u q TF FR Af cf lf hf W h1 h2 hn rfl hP (by rw [hS.ends.len, plE_len]) hz24 hZ h3 h4 h5 h6 ha h7 h8 (by have := hS.small h7; omega) (by have := hS.small ha; omega))
  generalize plE l Z = E at *
  clear hS hZ hl h
  have hs3 : (((w.alloc (.cells #[.int .i64 (F.length : Int), .slice A l.length cap] 26)).alloc (.cells #[.slice AF F.length cF, .slice AT T.length cT, .slice AZ Z.length cZ] 31)).alloc (.cells #[.slice none 0 0, .slice none 0 0, .slice none 0 0] 31)).heap.size = w.heap.size + 3 := by simp
  have HS3 := Lib.hid hs3
  clear hs3
  go_enter Try.func193, Try.ntmps193
  obtain ⟨_, g0, g1⟩ := HI0.out.gb
  go_wp2_with (at_make; generalize (((w.alloc (.cells #[.int .i64 (F.length : Int), .slice A l.length cap] 26)).alloc (.cells #[.slice AF F.length cF, .slice AT T.length cT, .slice AZ Z.length cZ] 31)).alloc (.cells #[.slice none 0 0, .slice none 0 0, .slice none 0 0] 31)) = w3 at *; refine wpList_mkn _ rfl _ _ 29 rfl w3.heap.size 3 (.int .i64 0) 8 Try.underlying29 infoInt rfl _ _ _ _ F.length rfl rfl rfl rfl (by omega) (by unfold maxLen; omega) (Nat.le_refl _) ?_; intro w4 hown4 hb4; have HO4 := Lib.hid hown4; have HI4 := Lib.hid (HI0.out.below hb4); have hsz4 := (hown4.lt _ rfl).2; clear hown4 hb4)
  clear g0 g1 HI0
  have hgf : w.heap.size + 3 ≤ w3.heap.size := Nat.le_of_eq HS3.out.symm
  clear HS3
  generalize w3.heap.size = gf at *
  go_loopw [11] (fun i wr => ∃ (j : Nat) (FR : List Int), j ≤ F.length ∧ i = .int .i64 j ∧ FR.length = F.length ∧ gf < wr.heap.size ∧ wr.ownsRow gf 3 1 (.slice (some ⟨gf, 0, none⟩) F.length F.length) F.length (intCells FR) ∧ GtI w wr (F.length : Int) A cap l AF AT AZ cF cT cZ lo hi F T Z) (fun i _ => F.length - (intOf i).toNat)
  case atStart => exact ⟨0, List.replicate F.length 0, Nat.zero_le _, rfl, by simp, hsz4, by simpa [intCells] using HO4.out, HI4.out⟩
  case round =>
    clear HO4 HI4 hsz4
    obtain ⟨j, FR, hj, rfl, hfl, hsz, hown, hg⟩ := hrel
    have HO := Lib.hid hown
    have HGI := Lib.hid hg
    have HFL := Lib.hid hfl
    obtain ⟨_, g0, g1⟩ := hg.gb
    clear hown hg hfl
    by_cases hlt : j < F.length
    · have hji : (j : Int) < (F.length : Int) := by omega
      have hf := HO.out.frozenAt j
      have hc := (HO.out.cellAt j (show j < F.length * 1 by omega)).trans (intCells_get FR j (by rw [HFL.out]; exact hlt))
      have hst := (HO.out.stored j (.int .i64 (-1))).1
      rw [intCells_set] at hst
      have hw := within_set wr gf j (.int .i64 (-1))
      have HN := Lib.hid (show (wr.setCell ⟨gf, j, none⟩ (.int .i64 (-1))).ownsRow gf 3 1 (.slice (some ⟨gf, 0, none⟩) F.length F.length) F.length (intCells (FR.set j (-1))) from hst)
      have HGN := Lib.hid (HGI.out.within hw (by omega) (by omega))
      clear hst hw
      go_wp2_with fail
      go_roundw
      case rel => exact ⟨j + 1, FR.set j (-1), by omega, by go_num, by rw [List.length_set]; exact HFL.out, by simpa using hsz, HN.out, HGN.out⟩
      case measure => simp [intOf]; omega
    · obtain rfl : j = F.length := by omega
      have hal := new_below wr (.cells #[.int .i64 (an : Int)] 3)
      have hrow := World.ownsRow_lit (base := w.heap.size + 3) (e := 3) (size := 1) wr #[.int .i64 (an : Int)] 1 (by omega) (by unfold maxLen; omega) (by simp)
      have HQ0 := Lib.hid hrow
      have HO5 := Lib.hid (own_below HO.out hal)
      have HG5 := Lib.hid (HGI.out.below hal)
      have hs5 : (wr.alloc (.cells #[.int .i64 (an : Int)] 3)).heap.size = wr.heap.size + 1 := by simp
      have HS5 := Lib.hid hs5
      obtain ⟨_, k0', k1⟩ := HG5.out.gb
      have haF : (an : Int) < (F.length : Int) := ha.2
      clear hal hrow hs5
      go_wp2_with (at_make; generalize (wr.alloc (.cells #[.int .i64 (an : Int)] 3)) = w5 at *; refine wpList_mkn _ rfl _ _ 190 rfl w5.heap.size 4 (.bool false) 1 Try.underlying190 infoB1 rfl _ _ _ _ F.length rfl rfl rfl rfl (by omega) (by unfold maxLen; omega) (Nat.le_refl _) ?_; intro w6 hown6 hb6; have hf6 := hown6.frozenAt an; have hc6 := hown6.cellAt an (show an < F.length * 1 by omega); have hc6' : w6.cell? ⟨w5.heap.size, an, none⟩ = some (.bool false) := hc6.trans (by rw [List.getElem?_replicate, if_pos (show an < F.length by omega)]); have HO6 := Lib.hid hown6; have HB6 := Lib.hid hb6; clear hown6 hb6 hc6 k0' k1 g0 g1)
      clear hf6 hc6'
      have hst := (HO6.out.stored an (.bool true)).1
      rw [seenC_one] at hst
      have hw6 := within_set w6 w5.heap.size an (.bool true)
      have hs5 : wr.heap.size < w5.heap.size := by have := HS5.out; omega
      have hlt3 := hsz
      have HFI := Lib.hid (show FindI w (w6.setCell ⟨w5.heap.size, an, none⟩ (.bool true)) (F.length : Int) A cap l AF AT AZ cF cT cZ lo hi F T Z gf w5.heap.size FR (an : Int) [((an : Int), 0)] [((an : Int), 0)] (.slice (some ⟨wr.heap.size, 0, none⟩) 1 1) from ⟨(HG5.out.below HB6.out).within hw6 (by omega) (by omega), own_block (own_below HO5.out HB6.out) (hw6.block _ (Nat.lt_of_lt_of_le (HO5.out.lt _ rfl).2 HB6.out.size) (by omega)), hst, own_block (own_below HQ0.out HB6.out) (hw6.block _ (by have := HB6.out.size; omega) (by omega)), fun g hg => (show wr.heap.size = g by simpa [Value.ownBlock] using hg) ▸ (show wr.heap.size ≠ gf ∧ wr.heap.size ≠ w5.heap.size by omega), by omega, by omega, by omega, by omega, HFL.out, fun x hx hxa => absurd (congrArg Prod.fst (show x = ((an : Int), 0) by simpa using hx)) hxa⟩)
      clear hst hw6
      generalize w5.heap.size = gs at *
      generalize (w6.setCell ⟨gs, an, none⟩ (.bool true)) = w7 at *
      clear HQ0 HO5 HG5 HS5 HO HGI
      go_loopw [12, 14] (fun qv i wr' => ∃ (k : Nat) (FR : List Int), k ≤ (bfs E T (an : Int) k).length ∧ i = .int .i64 k ∧ (∀ y ∈ bfs E T (an : Int) k, givesB F (an : Int) b y = false) ∧ FindI w wr' (F.length : Int) A cap l AF AT AZ cF cT cZ lo hi F T Z gf gs FR (an : Int) (bfs E T (an : Int) k) (bfs E T (an : Int) k) qv) (fun _ i _ => 9 - (intOf i).toNat)
      case atStart => exact ⟨0, FR, Nat.zero_le _, rfl, fun y hy => by obtain rfl : y = ((an : Int), 0) := by simpa [bfs] using hy
                                                                       simp [givesB], HFI.out⟩
      case round =>
        clear HFI HFL
        obtain ⟨k, FR, hk, rfl, hno, hin⟩ := hrel
        have HIN := Lib.hid hin
        have HNO := Lib.hid hno
        have hshort := (HG.out k).short
        obtain ⟨A', c', rfl⟩ := own_shape hin.qu
        clear hno
        by_cases hlt : k < (bfs E T (an : Int) k).length
        · have hki : (k : Int) < ((bfs E T (an : Int) k).length : Int) := by omega
          obtain ⟨gq, rfl⟩ : ∃ gq, A' = some ⟨gq, 0, none⟩ := by
            rcases hin.qu.2 with ⟨_, e0⟩ | ⟨g, _, _, e, _⟩
            · omega
            · cases e
              exact ⟨g, rfl⟩
          have hq := (hin.qu.cellAt k (show k < (bfs E T (an : Int) k).length * 1 by omega)).trans (intCells_get ((bfs E T (an : Int) k).map Prod.fst) k (by simpa using hlt))
          rw [map_fst_getD _ k hlt] at hq
          have hrg := (HG.out k).range ha k hlt
          have HSC := Lib.hid (show bfs E T (an : Int) (k + 1) = scanN E T ((bfs E T (an : Int) k).getD k (0, 0)).1 (bfs E T (an : Int) k) E.length by rw [bfs_succ, if_pos hlt])
          have HMEM := Lib.hid (getD_mem_fst _ k hlt)
          have HFS := Lib.hid (fun (j : Nat) (h1 : j < E.length) (h2 : T.getD j 0 = ((bfs E T (an : Int) k).getD k (0, 0)).1) => find_spec (F := F) (b := b) k j hlt (by omega) h1 rfl h2)
          obtain ⟨x, hx⟩ : ∃ x, (bfs E T (an : Int) k).getD k (0, 0) = x := ⟨_, rfl⟩
          rw [hx] at hq hrg HSC HMEM HFS
          obtain ⟨v, i0⟩ := x
          simp only at hq hrg
          obtain ⟨n, rfl⟩ : ∃ n : Nat, v = (n : Int) := ⟨v.toNat, by omega⟩
          have HGS := Lib.hid (fun j (hj : j ≤ E.length) => (HG.out k).scan HS.out.ends HMEM.out j hj)
          obtain ⟨p0, p1, p2, _, _, _⟩ := hin.g.pb.cells
          clear hin hx
          go_wp2_with fail
          clear hq p0 p1 p2
          go_loopw [12, 16] (fun qv jv wr' => ∃ (j : Nat) (FR : List Int), j ≤ Z.length ∧ jv = .int .i64 j ∧ (∀ y ∈ (scanN E T (n : Int) (bfs E T (an : Int) k) j), givesB F (an : Int) b y = false) ∧ FindI w wr' (F.length : Int) A cap l AF AT AZ cF cT cZ lo hi F T Z gf gs FR (an : Int) (scanN E T (n : Int) (bfs E T (an : Int) k) j) (scanN E T (n : Int) (bfs E T (an : Int) k) j) qv) (fun _ jv _ => Z.length - (intOf jv).toNat)
          case atStart => exact ⟨0, FR, Nat.zero_le _, rfl, HNO.out, HIN.out⟩
          case round =>
            clear HNO HIN
            obtain ⟨j, FR, hj, rfl, hno, hin2⟩ := hrel
            have HNO := Lib.hid hno
            have HIN2 := Lib.hid hin2
            obtain ⟨A2, c2', rfl⟩ := own_shape hin2.qu
            obtain ⟨p0, p1, p2, _, _, _⟩ := hin2.g.pb.cells
            clear hno
            by_cases hlt2 : j < Z.length
            · have hji : (j : Int) < (Z.length : Int) := by omega
              have hjt : (j : Int) < (T.length : Int) := by have := HTZ.out; omega
              obtain ⟨tb, tq9, rfl, htc⟩ := row_at hin2.g.src.t (by omega)
              have ht := htc j (by omega)
              obtain ⟨zb, zo, rfl, hzc⟩ := row_at hin2.g.src.z (by omega)
              have hz := hzc j hlt2
              have HSN := Lib.hid (show (scanN E T (n : Int) (bfs E T (an : Int) k) (j + 1)) = scan1 E T (n : Int) (scanN E T (n : Int) (bfs E T (an : Int) k) j) j from rfl)
              have HFSj := Lib.hid (fun h1 h2 => HFS.out j h1 h2)
              obtain ⟨t, htd⟩ : ∃ t, T.getD j 0 = t := ⟨_, rfl⟩
              rw [htd] at ht
              clear hin2 hzc htc
              by_cases c5 : t = (n : Int)
              · subst c5
                have d5 : ((n : Int) != (n : Int)) = false := by simp
                obtain ⟨hz0, hz1⟩ := HZ.out j hlt2
                have hEj := HE.out j hlt2
                have hbr := HS.out.ends.bar j (by rw [HEL.out]; exact hlt2)
                have hoth := HS.out.ends.oth_in (by rw [HEL.out]; exact hlt2) htd
                obtain ⟨gs', gm⟩ := HGS.out j (by rw [HEL.out]; omega)
                have hsh := gs'.short
                have HFSj2 := Lib.hid (HFSj.out (by rw [HEL.out]; exact hlt2) htd HNO.out)
                rw [hEj] at hoth hbr
                rw [hEj] at HFSj2
                obtain ⟨m, hm⟩ : ∃ m : Nat, Z.getD j 0 = (m : Int) := ⟨(Z.getD j 0).toNat, by omega⟩
                rw [hm] at hz hz0 hz1 hbr hoth hEj HFSj2
                rw [Int.toNat_natCast] at hbr hoth hEj HFSj2
                obtain ⟨b', off, rfl, _, hbc⟩ := HIN2.out.g.bars.at (by omega)
                have hx1 := (hbc m (by omega)).1
                have hx2 := (hbc m (by omega)).2
                obtain ⟨x, hxd⟩ : ∃ x, l.getD m (0, 0) = x := ⟨_, rfl⟩
                rw [hxd] at hx1 hx2 hbr hoth hEj HFSj2
                obtain ⟨x1, x2⟩ := x
                simp only at hx1 hx2 hbr
                obtain ⟨o, ho⟩ : ∃ o : Nat, oth (x1, x2) (n : Int) = (o : Int) := ⟨(oth (x1, x2) (n : Int)).toNat, by omega⟩
                rw [ho] at hoth HFSj2
                have HO := Lib.hid ho
                have HS1 := Lib.hid (show scan1 E T (n : Int) (scanN E T (n : Int) (bfs E T (an : Int) k) j) j = if (o : Int) ∉ (scanN E T (n : Int) (bfs E T (an : Int) k) j).map Prod.fst then (scanN E T (n : Int) (bfs E T (an : Int) k) j) ++ [((o : Int), j)] else (scanN E T (n : Int) (bfs E T (an : Int) k) j) by
                  unfold scan1
                  rw [htd, hEj, ho]
                  by_cases h : (o : Int) ∈ (scanN E T (n : Int) (bfs E T (an : Int) k) j).map Prod.fst
                  · rw [if_neg (fun q => q.2 h), if_neg (fun q => q h)]
                  · rw [if_pos ⟨rfl, h⟩, if_pos h])
                have HGJ := Lib.hid gs'
                have HGJ1 := Lib.hid (HGS.out (j + 1) (by rw [HEL.out]; omega)).1
                have hoF : o < F.length := by omega
                have hoFi : (o : Int) < (F.length : Int) := hoth.2.1
                have hmi : (m : Int) < (l.length : Int) := hz1
                have hoP := Lib.hid (show 0 ≤ (o : Int) ∧ (o : Int) < (F.length : Int) from ⟨hoth.1, hoth.2.1⟩)
                obtain ⟨_, gx0, gx1⟩ := HIN2.out.g.gb
                have HKK := Lib.hid (show (fun (W' : World) => W'.cell? ⟨w.heap.size, 1, none⟩ = some (.slice (some ⟨b', off, none⟩) l.length cap) ∧ W'.cell? ⟨w.heap.size + 1, 2, none⟩ = some (.slice (some ⟨zb, zo, none⟩) Z.length cZ) ∧ W'.cell? ⟨zb, zo + j, none⟩ = some (.int .i64 (m : Int)) ∧ W'.cell? ⟨b', off + m * 2, none⟩ = some (.int .i64 x1) ∧ W'.cell? ⟨b', off + m * 2 + 1, none⟩ = some (.int .i64 x2)) _ from ⟨gx1, p2, hz, hx1, hx2⟩)
                have HID := Lib.hid (HIN2.out.below (Below.refl _ _).drew)
                have y0 := ht
                have y1 := hz
                clear hbc hxd ho hEj hm gs' gm htd hz0 hoth hx1 hx2 HFSj
                go_wp2_with fail
                clear y0 y1 gx0 gx1 p0 p1 p2
                go_region_held3 (fun (W' : World) => W'.cell? ⟨w.heap.size, 1, none⟩ = some (.slice (some ⟨b', off, none⟩) l.length cap) ∧ W'.cell? ⟨w.heap.size + 1, 2, none⟩ = some (.slice (some ⟨zb, zo, none⟩) Z.length cZ) ∧ W'.cell? ⟨zb, zo + j, none⟩ = some (.int .i64 (m : Int)) ∧ W'.cell? ⟨b', off + m * 2, none⟩ = some (.int .i64 x1) ∧ W'.cell? ⟨b', off + m * 2 + 1, none⟩ = some (.int .i64 x2))
                  (first | exact HKK.out | exact HK5.out | fail)
                  (first | (go_at_call 226; refine (other_c (x1, x2) (n : Int) _ (by omega) (by omega) (by omega)).mono ?_; rintro e w8 ⟨rfl, hb⟩; rw [HO.out]; have HI8 := Lib.hid (HID.out.below hb); have HK5 := Lib.hid (show (fun (W' : World) => W'.cell? ⟨w.heap.size, 1, none⟩ = some (.slice (some ⟨b', off, none⟩) l.length cap) ∧ W'.cell? ⟨w.heap.size + 1, 2, none⟩ = some (.slice (some ⟨zb, zo, none⟩) Z.length cZ) ∧ W'.cell? ⟨zb, zo + j, none⟩ = some (.int .i64 (m : Int)) ∧ W'.cell? ⟨b', off + m * 2, none⟩ = some (.int .i64 x1) ∧ W'.cell? ⟨b', off + m * 2 + 1, none⟩ = some (.int .i64 x2)) w8 from ⟨HI8.out.g.gb.2.2, HI8.out.g.pb.cells.2.2.1, (hb.cell (p := ⟨zb, zo + j, none⟩) (World.block_lt_of_cell? _ _ HKK.out.2.2.1)).trans HKK.out.2.2.1, (hb.cell (p := ⟨b', off + m * 2, none⟩) (World.block_lt_of_cell? _ _ HKK.out.2.2.2.1)).trans HKK.out.2.2.2.1, (hb.cell (p := ⟨b', off + m * 2 + 1, none⟩) (World.block_lt_of_cell? _ _ HKK.out.2.2.2.2)).trans HKK.out.2.2.2.2⟩); clear hb))
                have hsn := (HI8.out.sn.cellAt o (show o < F.length * 1 by omega)).trans (seenC_get F.length _ o hoF)
                by_cases c7 : (o : Int) ∈ (scanN E T (n : Int) (bfs E T (an : Int) k) j).map Prod.fst
                · have HQ := Lib.hid (show (scanN E T (n : Int) (bfs E T (an : Int) k) j) = (scanN E T (n : Int) (bfs E T (an : Int) k) (j + 1)) by rw [HSN.out, HS1.out, if_neg]; simpa using c7)
                  rw [decide_eq_true c7] at hsn
                  clear c7
                  go_wp2_with fail
                  go_roundw
                  case rel => exact ⟨j + 1, FR, by omega, by go_num, by rw [← HQ.out]; exact HNO.out, by rw [← HQ.out]; exact HI8.out⟩
                  case measure => simp [intOf]; omega
                · have HQ := Lib.hid (show (scanN E T (n : Int) (bfs E T (an : Int) k) j) ++ [((o : Int), j)] = (scanN E T (n : Int) (bfs E T (an : Int) k) (j + 1)) by rw [HSN.out, HS1.out, if_pos c7])
                  rw [decide_eq_false c7] at hsn
                  have HNEW := Lib.hid (HI8.out.see o j hoF c7 (fun x hx hxa => by obtain ⟨_, _, _, _, _, _, _, _, _, h6, _⟩ := HGJ.out.path.at (List.mem_map_of_mem hx) hxa; exact h6))
                  have hoa : (o : Int) ≠ (an : Int) := fun e => c7 (by obtain ⟨r, e1⟩ := HGJ.out.start; rw [e1, e]; simp)
                  have hfz1 := HI8.out.sn.frozenAt o
                  have hfz2 := (own_block HI8.out.fr ((within_set w8 gs o (.bool true)).block gf (HI8.out.fr.lt gf rfl).2 (by have := HI8.out.ne; omega))).frozenAt o
                  have hbs : w.heap.size + 3 ≤ ((w8.setCell ⟨gs, o, none⟩ (.bool true)).setCell ⟨gf, o, none⟩ (.int .i64 (j : Int))).heap.size := by have h1 := HNEW.out.lf; have h2 := (HNEW.out.fr.lt gf rfl).2; omega
                  have hfv := HS.out.small (v := (o : Int)) hoP.out
                  rw [Int.toNat_natCast] at hfv
                  obtain ⟨fb, fo, rfl, _, hfb, hfc⟩ := HI8.out.g.src.f.2 (by omega)
                  have hfo := hfc o hoF
                  have l1 := HI8.out.lf
                  have l2 := HI8.out.ls
                  have n1 : gs ≠ w.heap.size + 1 := by omega
                  have n2 : gf ≠ w.heap.size + 1 := by omega
                  have n3 : gs ≠ fb := by omega
                  have n4 : gf ≠ fb := by omega
                  have n7 : gs ≠ gf := fun e => HI8.out.ne e.symm
                  have hcf := (HI8.out.fr.cellAt o (show o < F.length * 1 by omega)).trans (intCells_get FR o (by rw [HI8.out.frl]; exact hoF))
                  have hff := HI8.out.fr.frozenAt o
                  have n5 : gs ≠ w.heap.size := by omega
                  have n6 : gf ≠ w.heap.size := by omega
                  obtain ⟨q0, q1, q2, _, _, _⟩ := HI8.out.g.pb.cells
                  have HC7 := Lib.hid c7
                  have hgb : givesB F (an : Int) b ((o : Int), j) = (decide ((o : Int) ≠ (an : Int)) && decide ((o : Int) ≠ b) && decide (0 < F.getD o 0)) := by
                    show (_ && _ && decide (0 < F.getD ((o : Int)).toNat 0)) = _
                    rw [Int.toNat_natCast]
                  obtain ⟨d, hd⟩ : ∃ d, F.getD o 0 = d := ⟨_, rfl⟩
                  rw [hd] at hfo hfv hgb
                  clear hd hfc c7
                  have hNX : givesB F (an : Int) b ((o : Int), j) = false → ∀ y ∈ (scanN E T (n : Int) (bfs E T (an : Int) k) (j + 1)), givesB F (an : Int) b y = false := fun hg y hy => by
                    rw [← HQ.out] at hy
                    rcases List.mem_append.1 hy with hy | hy
                    · exact HNO.out y hy
                    · obtain rfl : y = ((o : Int), j) := by simpa using hy
                      exact hg
                  have HNX := Lib.hid hNX
                  clear hNX
                  by_cases hg : givesB F (an : Int) b ((o : Int), j) = true
                  · rw [hg] at hgb
                    have hgb' := hgb.symm
                    simp only [Bool.and_eq_true, decide_eq_true_eq] at hgb'
                    obtain ⟨⟨_, g2⟩, g3⟩ := hgb'
                    have e5 : ((o : Int) != b) = true := by simpa using g2
                    have g3d : decide (0 < d) = true := by simpa using g3
                    obtain ⟨hf1, r, hf2⟩ := HFSj2.out HC7.out hg
                    have HFM := Lib.hid (show findM E (an : Int) b (F, T) = some (movF F (an : Int) (o : Int), turnQ E (an : Int) (bfsQ E T (an : Int)).reverse (o : Int) T) by
                      show Option.map _ ((bfsQ E T (an : Int)).find? (givesB F (an : Int) b)) = _
                      rw [hf1]
                      rfl)
                    have hTI : TurnI F.length E T (an : Int) ((scanN E T (n : Int) (bfs E T (an : Int) k) j) ++ [((o : Int), j)]) (turnQ E (an : Int) (bfsQ E T (an : Int)).reverse (o : Int) T) (o : Int) T := by
                      have hnd := (HG.out (max E.length 8)).path.nodup (show bfs E T (an : Int) (max E.length 8) = (scanN E T (n : Int) (bfs E T (an : Int) k) j) ++ ((o : Int), j) :: r from hf2)
                      have hp1 : PathQ F.length E T (an : Int) ((scanN E T (n : Int) (bfs E T (an : Int) k) j) ++ [((o : Int), j)]) := by rw [HQ.out]; exact HGJ1.out.path
                      have := TurnI.start (r := []) HS.out.ends hp1 (show (o : Int) ∈ _ by simp)
                      rw [List.append_nil] at this
                      rw [hf2, turn_prefix (x := ((o : Int), j)) T hnd]
                      exact this
                    have hfr := HNEW.out.fr
                    have hfl := HNEW.out.frl
                    rw [← hfl] at hfr
                    have hsh := HSH.out (o : Int) _ _ (FR.set o (j : Int)) (some ⟨gf, 0, none⟩) F.length gf ((w8.setCell ⟨gs, o, none⟩ (.bool true)).setCell ⟨gf, o, none⟩ (.int .i64 (j : Int))).heap.size ((w8.setCell ⟨gs, o, none⟩ (.bool true)).setCell ⟨gf, o, none⟩ (.int .i64 (j : Int))) HNEW.out.g.bars.at HNEW.out.g.src hTI (own_ints' hfr).reads hfl HNEW.out.fro hoP.out hoa
                    rw [hfl] at hsh
                    have HSHI := Lib.hid hsh
                    obtain ⟨_, r0, r1⟩ := HI8.out.g.gb
                    clear hsh hfr hfl hTI hf1 hf2 hgb hg g2 g3 hoa
                    go_wp2_with (go_at_call 227; refine HSHI.out.mono ?_; rintro e w9 ⟨BF, dF, BT, dT, BZ, dZ, rfl, ho9, hb9⟩; have HO9 := Lib.hid ho9; have HB9 := Lib.hid hb9; have HG9 := Lib.hid (HNEW.out.g.below hb9); obtain ⟨_, _, _, f0, f1, f2⟩ := HG9.out.rb.cells; have r3 := ret3 HG9.out.rb (.slice BF (movF F (an : Int) (o : Int)).length dF) (.slice BT (turnQ E (an : Int) (bfsQ E T (an : Int)).reverse (o : Int) T).length dT) (.slice BZ Z.length dZ); obtain ⟨s0, s1, s2, _⟩ := r3.1.cells; have HW := Lib.hid r3.2; clear ho9 hb9 r3)
                    refine bodyPost_ret (v := .tuple #[pebV BF (movF F (an : Int) (o : Int)).length dF BT (turnQ E (an : Int) (bfsQ E T (an : Int)).reverse (o : Int) T).length dT BZ Z.length dZ, .bool true]) ?_ rfl ?_
                    · simp [results, Try.results193, go_sem, s0, s1, s2]
                    · have hz9 := HB9.out.size
                      have hg9 := HG9.out.bel
                      exact ⟨within_on hg9 HW.out hg9.size (.inl (by omega)), .inr ⟨_, BF, dF, BT, dT, BZ, dZ, rfl, HFM.out, (HO9.out.within HW.out (.inr (by omega))).widen (by omega) HW.out.size (Nat.le_refl _)⟩⟩
                  · have hgf : givesB F (an : Int) b ((o : Int), j) = false := by simpa using hg
                    have HNX2 := Lib.hid (HNX.out hgf)
                    have hcase : ((o : Int) != b) = false ∨ (((o : Int) != b) = true ∧ decide (0 < d) = false) := by
                      by_cases k2 : (o : Int) = b
                      · exact .inl (by simpa using k2)
                      · rw [hgf] at hgb
                        exact .inr ⟨by simpa using k2, by simpa [hoa, k2] using hgb.symm⟩
                    clear hgb hg hgf hoa
                    rcases hcase with c2 | ⟨c2, c3⟩
                    all_goals (
                      go_wp2_with (at_builtin; refine wpList_at _ rfl _ _ 29 rfl (w.heap.size + 3) 3 (.int .i64 0) 1 8 Try.underlying29 infoInt rfl (by decide) _ _ _ rfl HNEW.out.qu #[.int .i64 (o : Int)] 1 rfl (by simp [Value.oneCell']) _ 1 (by simp only [World.size_setCell]; rfl) (by omega) (by unfold maxLen; omega) hbs ?_; intro v' w' ho hg hat _; obtain ⟨A3, c3', rfl⟩ := own_shape ho; have HN := Lib.hid (HNEW.out.push ((o : Int), j) ho hg hat); clear ho hg hat)
                      go_roundw
                      case rel => exact ⟨j + 1, FR.set o (j : Int), by omega, by go_num, HNX2.out, by rw [← HQ.out]; exact HN.out⟩
                      case measure => simp [intOf]; omega)
              · have d5 : (t != (n : Int)) = true := by simpa using c5
                have HQ := Lib.hid (show (scanN E T (n : Int) (bfs E T (an : Int) k) j) = (scanN E T (n : Int) (bfs E T (an : Int) k) (j + 1)) by rw [HSN.out]; unfold scan1; rw [htd, if_neg]; exact fun h => c5 h.1)
                clear c5 htd
                go_wp2_with fail
                go_roundw
                case rel => exact ⟨j + 1, FR, by omega, by go_num, by rw [← HQ.out]; exact HNO.out, by rw [← HQ.out]; exact HIN2.out⟩
                case measure => simp [intOf]; omega
            · obtain rfl : j = Z.length := by omega
              have hji : ¬ (Z.length : Int) < (Z.length : Int) := by omega
              clear hin2
              go_wp2_with fail
              go_roundw
              case rel => exact ⟨k + 1, FR, by rw [HSC.out]; obtain ⟨r, e⟩ := scanN_pre E T (n : Int) (bfs E T (an : Int) k) E.length; rw [e, List.length_append]; omega, by go_num, by rw [HSC.out, HEL.out]; exact HNO.out, by rw [HSC.out, HEL.out]; exact HIN2.out⟩
              case measure => simp [intOf]; omega
        · have hkl : k = (bfs E T (an : Int) k).length := by omega
          have HF := Lib.hid (find_no (E := E) (T := T) (F := F) (a := (an : Int)) (b := b) k (by omega) (by omega) HNO.out)
          have hki : ¬ (k : Int) < ((bfs E T (an : Int) k).length : Int) := by omega
          obtain ⟨p0, p1, p2, _, _, _⟩ := HIN.out.g.pb.cells
          obtain ⟨_, _, _, f0, f1, f2⟩ := HIN.out.g.rb.cells
          have r3 := ret3 HIN.out.g.rb (.slice AF F.length cF) (.slice AT T.length cT) (.slice AZ Z.length cZ)
          obtain ⟨s0, s1, s2, _⟩ := r3.1.cells
          have HW := Lib.hid r3.2
          clear hkl r3 hin
          go_wp2_with fail
          refine bodyPost_ret (v := .tuple #[pebV AF F.length cF AT T.length cT AZ Z.length cZ, .bool false]) ?_ rfl ?_
          · simp [results, Try.results193, go_sem, s0, s1, s2]
          · have hg9 := HIN.out.g.bel
            exact ⟨within_on hg9 HW.out hg9.size (.inl (by omega)), .inl ⟨rfl, by show Option.map _ ((bfsQ E T (an : Int)).find? (givesB F (an : Int) b)) = none; rw [HF.out]; rfl⟩⟩
end Go.Proofs.Ytdkpmaahinbhlaa
/- What stands while the specification gathers pebbles: the copy's box, and where the copy's rows lie. No program's walk. No condition. -/
namespace Go.Proofs.Ytdkpmaahinbhlaa
open Go.RowKit

/-- Where gathering stands: what is read, the box of the state that changes, its rows. -/
structure GasI (w wr : World) (p : Int) (A : Option Addr) (cap : Nat) (l : List (Int × Int)) (AF AT AZ : Option Addr) (cF cT cZ lo hi : Nat) (F T Z : List Int) (bx : Nat) (BF : Option Addr) (dF : Nat) (BT : Option Addr) (dT : Nat) (BZ : Option Addr) (dZ : Nat) (r : Nat × Nat) (F' T' : List Int) : Prop where
  g : GtI w wr p A cap l AF AT AZ cF cT cZ lo hi F T Z
  x : Cel3 wr bx 31 (.slice BF F.length dF) (.slice BT T.length dT) (.slice BZ Z.length dZ)
  o : Own3R wr r.1 r.2 BF dF BT dT BZ dZ F' T' Z
  lb : w.heap.size + 3 ≤ bx
  lr : w.heap.size + 3 ≤ r.1
  dr : r.2 ≤ bx ∨ bx < r.1
  lh : hi ≤ w.heap.size
theorem GasI.below {w wr : World} {p : Int} {A : Option Addr} {cap : Nat} {l : List (Int × Int)} {AF AT AZ : Option Addr} {cF cT cZ lo hi : Nat} {F T Z : List Int} {bx : Nat} {BF : Option Addr} {dF : Nat} {BT : Option Addr} {dT : Nat} {BZ : Option Addr} {dZ : Nat} {r : Nat × Nat} {F' T' : List Int} {w' : World} (h : GasI w wr p A cap l AF AT AZ cF cT cZ lo hi F T Z bx BF dF BT dT BZ dZ r F' T') (hb : Below wr.heap.size wr w') : GasI w w' p A cap l AF AT AZ cF cT cZ lo hi F T Z bx BF dF BT dT BZ dZ r F' T' :=
  ⟨h.g.below hb, h.x.kept hb, h.o.within (within_of hb) (.inr (Nat.zero_le _)), h.lb, h.lr, h.dr, h.lh⟩
/-- Another block was written. -/
theorem GasI.other {w wr : World} {p : Int} {A : Option Addr} {cap : Nat} {l : List (Int × Int)} {AF AT AZ : Option Addr} {cF cT cZ lo hi : Nat} {F T Z : List Int} {bx : Nat} {BF : Option Addr} {dF : Nat} {BT : Option Addr} {dT : Nat} {BZ : Option Addr} {dZ : Nat} {r : Nat × Nat} {F' T' : List Int} {w' : World} (h : GasI w wr p A cap l AF AT AZ cF cT cZ lo hi F T Z bx BF dF BT dT BZ dZ r F' T') {b : Nat} (hw : Within b (b + 1) wr w') (h1 : w.heap.size + 3 ≤ b) (h2 : b ≠ bx) (h3 : r.2 ≤ b) : GasI w w' p A cap l AF AT AZ cF cT cZ lo hi F T Z bx BF dF BT dT BZ dZ r F' T' :=
  ⟨h.g.within hw h1 (by have := h.lh; omega), h.x.within hw (by omega), h.o.within hw (.inl h3), h.lb, h.lr, h.dr, h.lh⟩
/-- The state was replaced by another. -/
theorem GasI.put {w wr : World} {p : Int} {A : Option Addr} {cap : Nat} {l : List (Int × Int)} {AF AT AZ : Option Addr} {cF cT cZ lo hi : Nat} {F T Z : List Int} {bx : Nat} {BF : Option Addr} {dF : Nat} {BT : Option Addr} {dT : Nat} {BZ : Option Addr} {dZ : Nat} {r : Nat × Nat} {F' T' : List Int} (h : GasI w wr p A cap l AF AT AZ cF cT cZ lo hi F T Z bx BF dF BT dT BZ dZ r F' T') (CF : Option Addr) (eF : Nat) (CT : Option Addr) (eT : Nat) (CZ : Option Addr) (eZ : Nat) (q : Nat × Nat) (F2 T2 : List Int) (ho : Own3R wr q.1 q.2 CF eF CT eT CZ eZ F2 T2 Z) (hq : bx < q.1) : GasI w (((wr.setCell ⟨bx, 0, none⟩ (.slice CF F.length eF)).setCell ⟨bx, 1, none⟩ (.slice CT T.length eT)).setCell ⟨bx, 2, none⟩ (.slice CZ Z.length eZ)) p A cap l AF AT AZ cF cT cZ lo hi F T Z bx CF eF CT eT CZ eZ q F2 T2 := by
  have r3 := ret3 h.x (.slice CF F.length eF) (.slice CT T.length eT) (.slice CZ Z.length eZ)
  have h1 := h.lb
  have h2 := h.lh
  exact ⟨h.g.within r3.2 h1 (by omega), r3.1, ho.within r3.2 (.inr (by omega)), h.lb, by omega, .inr hq, h.lh⟩
/-- The free pebbles at a point, read out of the box. -/
def atX (W : World) (bx i : Nat) : Int :=
  match W.cell? ⟨bx, 0, none⟩ with
  | some (.slice (some g) _ _) => intOf ((W.cell? ⟨g.block, g.off + i, none⟩).getD (.bool false))
  | _ => 0
theorem GasI.at {w wr : World} {p : Int} {A : Option Addr} {cap : Nat} {l : List (Int × Int)} {AF AT AZ : Option Addr} {cF cT cZ lo hi : Nat} {F T Z : List Int} {bx : Nat} {BF : Option Addr} {dF : Nat} {BT : Option Addr} {dT : Nat} {BZ : Option Addr} {dZ : Nat} {r : Nat × Nat} {F' T' : List Int} (h : GasI w wr p A cap l AF AT AZ cF cT cZ lo hi F T Z bx BF dF BT dT BZ dZ r F' T') (i : Nat) (hi' : i < F'.length) : atX wr bx i = F'.getD i 0 := by
  obtain ⟨b, off, rfl, hc⟩ := row_at h.o.own3.reads.f (by omega)
  unfold atX
  rw [h.x.cells.1]
  show intOf ((wr.cell? ⟨b, off + i, none⟩).getD (.bool false)) = _
  rw [hc i hi']
  rfl
theorem GasI.find_no {w wr : World} {A : Option Addr} {cap : Nat} {l : List (Int × Int)} {AF AT AZ : Option Addr} {cF cT cZ lo hi : Nat} {F T Z : List Int} {bx : Nat} {BF : Option Addr} {dF : Nat} {BT : Option Addr} {dT : Nat} {BZ : Option Addr} {dZ : Nat} {r : Nat × Nat} {F' T' : List Int} {k0 a b : Int} (h : GasI w wr (F.length : Int) A cap l AF AT AZ cF cT cZ lo hi F T Z bx BF dF BT dT BZ dZ r F' T') (hS0 : PebS F.length k0 (plE l Z) F T) (hS : PebS F.length k0 (plE l Z) F' T') (hP : 1 ≤ F.length ∧ F.length ≤ 8) (hk0 : k0 ≤ 3) (hn : l.length ≤ 24) (hz24 : Z.length ≤ 24)
    (hZ : ∀ i, i < Z.length → 0 ≤ Z.getD i 0 ∧ Z.getD i 0 < (l.length : Int)) (ha : 0 ≤ a ∧ a < (F.length : Int)) (hf : findM (plE l Z) a b (F', T') = none) :
    Calls Try.prog 193 #[.agg #[.int .i64 (F.length : Int), .slice A l.length cap], pebV BF F.length dF BT T.length dT BZ Z.length dZ, .int .i64 a, .int .i64 b] wr (fun e w' => e = .returned (.tuple #[pebV BF F.length dF BT T.length dT BZ Z.length dZ, .bool false]) ∧ Below wr.heap.size wr w') := by
  have e1 : F'.length = F.length := hS.flen
  have e2 : T'.length = T.length := by rw [hS.ends.len, hS0.ends.len]
  have h1 := find_c k0 l A cap BF BT BZ dF dT dZ r.1 r.2 F' T' Z a b wr (by rw [e1]; exact hS) (by rw [e1]; exact hP) hk0 hn hz24 hZ (by rw [e1]; exact ha) h.g.bars.at h.o.own3.reads
  rw [e1, e2] at h1
  refine h1.mono ?_
  rintro e w' ⟨hb, ⟨rfl, _⟩ | ⟨s', _, _, _, _, _, _, _, hs, _⟩⟩
  · exact ⟨rfl, hb⟩
  · rw [hf] at hs; cases hs
theorem GasI.find_yes {w wr : World} {A : Option Addr} {cap : Nat} {l : List (Int × Int)} {AF AT AZ : Option Addr} {cF cT cZ lo hi : Nat} {F T Z : List Int} {bx : Nat} {BF : Option Addr} {dF : Nat} {BT : Option Addr} {dT : Nat} {BZ : Option Addr} {dZ : Nat} {r : Nat × Nat} {F' T' : List Int} {k0 a b : Int} {s : List Int × List Int} (h : GasI w wr (F.length : Int) A cap l AF AT AZ cF cT cZ lo hi F T Z bx BF dF BT dT BZ dZ r F' T') (hS0 : PebS F.length k0 (plE l Z) F T) (hS : PebS F.length k0 (plE l Z) F' T') (hP : 1 ≤ F.length ∧ F.length ≤ 8) (hk0 : k0 ≤ 3) (hn : l.length ≤ 24) (hz24 : Z.length ≤ 24)
    (hZ : ∀ i, i < Z.length → 0 ≤ Z.getD i 0 ∧ Z.getD i 0 < (l.length : Int)) (ha : 0 ≤ a ∧ a < (F.length : Int)) (hb0 : 0 ≤ b) (hab : a ≠ b) (hf : findM (plE l Z) a b (F', T') = some s) :
    Calls Try.prog 193 #[.agg #[.int .i64 (F.length : Int), .slice A l.length cap], pebV BF F.length dF BT T.length dT BZ Z.length dZ, .int .i64 a, .int .i64 b] wr (fun e w' => ∃ CF eF CT eT CZ eZ, e = .returned (.tuple #[pebV CF F.length eF CT T.length eT CZ Z.length eZ, .bool true]) ∧ Below wr.heap.size wr w' ∧ Own3R w' wr.heap.size w'.heap.size CF eF CT eT CZ eZ s.1 s.2 Z) := by
  have e1 : F'.length = F.length := hS.flen
  have e2 : T'.length = T.length := by rw [hS.ends.len, hS0.ends.len]
  obtain ⟨hk, _⟩ := findM_ok hS ha hab hb0 hf
  have h1 := find_c k0 l A cap BF BT BZ dF dT dZ r.1 r.2 F' T' Z a b wr (by rw [e1]; exact hS) (by rw [e1]; exact hP) hk0 hn hz24 hZ (by rw [e1]; exact ha) h.g.bars.at h.o.own3.reads
  rw [e1, e2] at h1
  refine h1.mono ?_
  rintro e w' ⟨hb, ⟨_, hs⟩ | ⟨s', CF, eF, CT, eT, CZ, eZ, rfl, hs, ho⟩⟩
  · rw [hf] at hs; cases hs
  · rw [hf] at hs
    cases hs
    exact ⟨CF, eF, CT, eT, CZ, eZ, by rw [hk.flen, hk.ends.len, ← hS0.ends.len], hb, ho⟩
theorem Own3R.hi {W : World} {lo hi : Nat} {AF AT AZ : Option Addr} {cF cT cZ : Nat} {F T Z : List Int} (h : Own3R W lo hi AF cF AT cT AZ cZ F T Z) : hi ≤ W.heap.size := by
  obtain ⟨_, _, _, _, _, _, _, _, _, _, _, _, h4⟩ := h
  exact h4
/-- What the specification's gathering answers. -/
def GathSP (w : World) (E : List (Int × Int)) (F T Z : List Int) (a b want : Int) (e : Ending) (w' : World) : Prop :=
  Below w.heap.size w w' ∧ ∃ AF cF AT cT AZ cZ, (e = .returned (.tuple #[pebV AF F.length cF AT T.length cT AZ Z.length cZ, .bool false]) ∧ gathR E a b want (F, T) = none) ∨ ∃ s, e = .returned (.tuple #[pebV AF F.length cF AT T.length cT AZ Z.length cZ, .bool true]) ∧ gathR E a b want (F, T) = some s ∧ s.1.length = F.length ∧ s.2.length = T.length ∧ Own3R w' w.heap.size w'.heap.size AF cF AT cT AZ cZ s.1 s.2 Z
end Go.Proofs.Ytdkpmaahinbhlaa
/- What spec.l4Gather answers. No condition. -/
namespace Go.Proofs.Ytdkpmaahinbhlaa
open Go.RowKit

set_option maxHeartbeats 8000000 in
set_option maxRecDepth 100000 in
theorem gathS_c (k0 : Int) (l : List (Int × Int)) (A : Option Addr) (cap : Nat) (AF AT AZ : Option Addr) (cF cT cZ lo hi : Nat) (F T Z : List Int) (a b : Nat) (want : Int) (w : World) (hS : PebS F.length k0 (plE l Z) F T) (hP : 1 ≤ F.length ∧ F.length ≤ 8) (hk0 : k0 ≤ 3) (hn : l.length ≤ 24) (hz24 : Z.length ≤ 24)
    (hZ : ∀ i, i < Z.length → 0 ≤ Z.getD i 0 ∧ Z.getD i 0 < (l.length : Int)) (ha : a < F.length) (hb : b < F.length) (hab : a ≠ b) (hl : BarsAt w w.heap.size A l) (h : Peb3 w lo hi AF AT AZ F T Z) :
    Calls Try.prog 127 #[.agg #[.int .i64 (F.length : Int), .slice A l.length cap], pebV AF F.length cF AT T.length cT AZ Z.length cZ, .int .i64 (a : Int), .int .i64 (b : Int), .int .i64 want] w (GathSP w (plE l Z) F T Z a b want) := by
  have hhi : hi ≤ w.heap.size := h.f.1
  have hTZ : T.length ≤ 24 := by rw [hS.ends.len, plE_len]; exact hz24
  have HI0 := Lib.hid (GtI.start w (F.length : Int) A cap l AF AT AZ cF cT cZ lo hi F T Z hl h)
  have HS := Lib.hid hS
  have HZ := Lib.hid hZ
  obtain ⟨g0, g1, g2, _, _, _⟩ := HI0.out.pb.cells
  have hs3 : (((w.alloc (.cells #[.int .i64 (F.length : Int), .slice A l.length cap] 26)).alloc (.cells #[.slice AF F.length cF, .slice AT T.length cT, .slice AZ Z.length cZ] 31)).alloc (.cells #[.slice none 0 0, .slice none 0 0, .slice none 0 0] 31)).heap.size = w.heap.size + 3 := by simp
  have HS3 := Lib.hid hs3
  clear hl h hS hZ hs3
  go_enter Try.func127, Try.ntmps127
  go_wp2_with (go_at_call 126; refine (copyPeb_c AF AT AZ cF cT cZ lo hi F T Z _ HI0.out.src (by omega) (by omega) (by omega)).mono ?_; rintro e w4 ⟨BF, dF, BT, dT, BZ, dZ, rfl, ho, hb4⟩; have hb5 := new_below w4 (.cells #[.slice BF F.length dF, .slice BT T.length dT, .slice BZ Z.length dZ] 31); have hz4 := hb4.size; have HGI := Lib.hid (show GasI w (w4.alloc (.cells #[.slice BF F.length dF, .slice BT T.length dT, .slice BZ Z.length dZ] 31)) (F.length : Int) A cap l AF AT AZ cF cT cZ lo hi F T Z w4.heap.size BF dF BT dT BZ dZ ((((w.alloc (.cells #[.int .i64 (F.length : Int), .slice A l.length cap] 26)).alloc (.cells #[.slice AF F.length cF, .slice AT T.length cT, .slice AZ Z.length cZ] 31)).alloc (.cells #[.slice none 0 0, .slice none 0 0, .slice none 0 0] 31)).heap.size, w4.heap.size) F T from ⟨(HI0.out.below hb4).below hb5, cel3_new w4 (.slice BF F.length dF) (.slice BT T.length dT) (.slice BZ Z.length dZ) 31, ho.within (within_of hb5) (.inr (Nat.zero_le _)), by have := HS3.out; omega, by have := HS3.out; omega, .inl (Nat.le_refl _), hhi⟩); clear ho hb4 hb5 hz4 g0 g1 g2)
  generalize ((((w.alloc (.cells #[.int .i64 (F.length : Int), .slice A l.length cap] 26)).alloc (.cells #[.slice AF F.length cF, .slice AT T.length cT, .slice AZ Z.length cZ] 31)).alloc (.cells #[.slice none 0 0, .slice none 0 0, .slice none 0 0] 31)).heap.size, w4.heap.size) = r0 at *
  generalize hw5 : (w4.alloc (.cells #[.slice BF F.length dF, .slice BT T.length dT, .slice BZ Z.length dZ] 31)) = w5 at *
  clear hw5 HS3
  generalize w4.heap.size = bx at *
  go_loopw [] (fun wr => ∃ (F' T' : List Int) (BF BT BZ : Option Addr) (dF dT dZ : Nat) (r : Nat × Nat), PebS F.length k0 (plE l Z) F' T' ∧ gathR (plE l Z) a b want (F, T) = gathR (plE l Z) a b want (F', T') ∧ GasI w wr (F.length : Int) A cap l AF AT AZ cF cT cZ lo hi F T Z bx BF dF BT dT BZ dZ r F' T') (fun wr => (want - (atX wr bx a + atX wr bx b)).toNat)
  case atStart => exact ⟨F, T, BF, BT, BZ, dF, dT, dZ, r0, HS.out, rfl, HGI.out⟩
  case round =>
    clear HGI
    obtain ⟨F', T', BF, BT, BZ, dF, dT, dZ, r, hS', hg, hin⟩ := hrel
    have HG := Lib.hid hg
    have HS' := Lib.hid hS'
    have hfl := hS'.flen
    have HMA := Lib.hid (hin.at a (by omega))
    have HMB := Lib.hid (hin.at b (by omega))
    obtain ⟨fb, fo, rfl, hfc⟩ := row_at hin.o.own3.reads.f (by omega)
    have ha1 := hfc a (by omega)
    have hb1 := hfc b (by omega)
    have hsa := hS'.small (v := (a : Int)) (by omega)
    have hsb := hS'.small (v := (b : Int)) (by omega)
    rw [Int.toNat_natCast] at hsa hsb
    have HDN := Lib.hid (fun h : ¬ F'.getD a 0 + F'.getD b 0 < want => gathR_done (E := plE l Z) (a := (a : Int)) (b := (b : Int)) (want := want) (s := (F', T')) (by simpa using h))
    obtain ⟨d1, hd1⟩ : ∃ d1, F'.getD a 0 = d1 := ⟨_, rfl⟩
    obtain ⟨d2, hd2⟩ : ∃ d2, F'.getD b 0 = d2 := ⟨_, rfl⟩
    rw [hd1] at ha1 hsa HDN HMA
    rw [hd2] at hb1 hsb HDN HMB
    have HD := Lib.hid (And.intro hd1 hd2)
    have haF : (a : Int) < (F.length : Int) := by omega
    have hbF : (b : Int) < (F.length : Int) := by omega
    have HIN := Lib.hid hin
    have hcc := hin.x.cells.1
    have HL := Lib.hid (show F'.length = F.length ∧ T'.length = T.length from ⟨hfl, by rw [hS'.ends.len, HS.out.ends.len]⟩)
    clear hg hS' hfl hfc hd1 hd2 hin
    by_cases c1 : d1 + d2 < want
    · have e1 : decide (d1 + d2 < want) = true := by simpa using c1
      go_wp2_with fail
      go_big_quiet (fail)
      have HQ := Lib.hid (HIN.out.below (below_drewN wr.heap.size wr nq))
      have hC1 : F'.getD (a : Int).toNat 0 + F'.getD (b : Int).toNat 0 < want := by rw [Int.toNat_natCast, Int.toNat_natCast, HD.out.1, HD.out.2]; exact c1
      have HC1 := Lib.hid hC1
      clear hcc ha1 hb1 hC1
      generalize wr.drewN nq = w1 at *
      obtain ⟨_, gx0, gx1⟩ := HQ.out.g.gb
      obtain ⟨x0, x1, x2, _, _, _⟩ := HQ.out.x.cells
      obtain ⟨r1, hr1⟩ : ∃ r1, findM (plE l Z) (a : Int) (b : Int) (F', T') = r1 := ⟨_, rfl⟩
      cases r1 with
      | some s' =>
        have HF1 := Lib.hid hr1
        have HK := Lib.hid (show PebS F.length k0 (plE l Z) s'.1 s'.2 ∧ s'.1.getD a 0 + s'.1.getD b 0 = d1 + d2 + 1 from by
          obtain ⟨k1, k2, k3⟩ := findM_ok HS'.out (a := (a : Int)) (b := (b : Int)) (by omega) (by omega) (by omega) HF1.out
          rw [Int.toNat_natCast] at k2 k3
          refine ⟨k1, ?_⟩
          rw [k2, k3, HD.out.1, HD.out.2]; omega)
        clear hr1
        go_wp2_with (go_at_call 193; refine (HQ.out.find_yes (a := (a : Int)) (b := (b : Int)) HS.out HS'.out hP hk0 hn hz24 HZ.out (by omega) (by omega) (by omega) HF1.out).mono ?_; rintro e w6 ⟨CF, eF, CT, eT, CZ, eZ, rfl, hb6, ho6⟩; have hb7 := new_below w6 (.cells #[.slice CF F.length eF, .slice CT T.length eT, .slice CZ Z.length eZ] 31); have HI7 := Lib.hid ((HQ.out.below hb6).below hb7); have hy7 := cel3_new w6 (.slice CF F.length eF) (.slice CT T.length eT) (.slice CZ Z.length eZ) 31; obtain ⟨y0, y1, y2, _, _, _⟩ := hy7.cells; obtain ⟨z0, z1, z2, f0, f1, f2⟩ := HI7.out.x.cells; have HN := Lib.hid (HI7.out.put CF eF CT eT CZ eZ (w1.heap.size, w6.heap.size) s'.1 s'.2 (ho6.within (within_of hb7) (.inr (Nat.zero_le _))) HQ.out.x.lt); clear ho6 hb6 hb7 hy7 gx0 gx1 x0 x1 x2)
        go_roundw
        case rel => exact ⟨s'.1, s'.2, CF, CT, CZ, eF, eT, eZ, _, HK.out.1, HG.out.trans (gathR_one HC1.out HF1.out (by rw [Int.toNat_natCast, Int.toNat_natCast]; show s'.1.getD a 0 + s'.1.getD b 0 = F'.getD a 0 + F'.getD b 0 + 1; rw [HK.out.2, HD.out.1, HD.out.2])), HN.out⟩
        case measure =>
          have hlen : s'.1.length = F.length := HK.out.1.flen
          have q3 := HK.out.2
          rw [HN.out.at a (by omega), HN.out.at b (by omega), HMA.out, HMB.out]
          omega
      | none =>
        have HF1 := Lib.hid hr1
        obtain ⟨r2, hr2⟩ : ∃ r2, findM (plE l Z) (b : Int) (a : Int) (F', T') = r2 := ⟨_, rfl⟩
        cases r2 with
        | some s' =>
          have HF2 := Lib.hid hr2
          have HK := Lib.hid (show PebS F.length k0 (plE l Z) s'.1 s'.2 ∧ s'.1.getD a 0 + s'.1.getD b 0 = d1 + d2 + 1 from by
            obtain ⟨k1, k2, k3⟩ := findM_ok HS'.out (a := (b : Int)) (b := (a : Int)) (by omega) (by omega) (by omega) HF2.out
            rw [Int.toNat_natCast] at k2 k3
            refine ⟨k1, ?_⟩
            rw [k2, k3, HD.out.1, HD.out.2]; omega)
          clear hr1 hr2
          have hzz : ∀ W : World, ∀ o : Obj, (W.alloc o).heap.size = W.heap.size + 1 := fun W o => by simp
          have HZZ := Lib.hid hzz
          clear hzz
          go_wp2_with (first
            | (go_at_call 193; refine (HI7.out.find_yes (a := (b : Int)) (b := (a : Int)) HS.out HS'.out hP hk0 hn hz24 HZ.out (by omega) (by omega) (by omega) HF2.out).mono ?_; rintro e w8 ⟨CF, eF, CT, eT, CZ, eZ, rfl, hb8, ho8⟩; have HY8 := Lib.hid (HY7.out.kept hb8); have r3y := ret3 HY8.out (.slice CF F.length eF) (.slice CT T.length eT) (.slice CZ Z.length eZ); have hy8 := HZZ.out w6 (.cells #[.slice (some ⟨fb, fo, none⟩) F.length dF, .slice BT T.length dT, .slice BZ Z.length dZ] 31); have HI9 := Lib.hid ((HI7.out.below hb8).other r3y.2 (by have := HQ.out.lb; omega) (by omega) (by omega)); have HN := Lib.hid (HI9.out.put CF eF CT eT CZ eZ (_, _) s'.1 s'.2 (ho8.within r3y.2 (.inr (by omega))) (by show bx < (World.alloc _ _).heap.size; omega)); obtain ⟨_, _, _, k0', k1, k2⟩ := HY8.out.cells; obtain ⟨i0, i1, i2, _⟩ := r3y.1.cells; obtain ⟨j0, j1, j2, j3, j4, j5⟩ := HI9.out.x.cells; clear ho8 hb8 r3y hy8 z0 z1 z2 u0 u1 y0 y1 y2)
            | (go_at_call 193; refine (HQ.out.find_no (a := (a : Int)) (b := (b : Int)) HS.out HS'.out hP hk0 hn hz24 HZ.out (by omega) HF1.out).mono ?_; rintro e w6 ⟨rfl, hb6⟩; have hb7 := new_below w6 (.cells #[.slice (some ⟨fb, fo, none⟩) F.length dF, .slice BT T.length dT, .slice BZ Z.length dZ] 31); have HI7 := Lib.hid ((HQ.out.below hb6).below hb7); have HY7 := Lib.hid (cel3_new w6 (.slice (some ⟨fb, fo, none⟩) F.length dF) (.slice BT T.length dT) (.slice BZ Z.length dZ) 31); have hlo6 := hb6.size; have hq2 := HQ.out.o.hi; have hq3 := HQ.out.x.lt; obtain ⟨z0, z1, z2, _, _, _⟩ := HI7.out.x.cells; obtain ⟨_, u0, u1⟩ := HI7.out.g.gb; obtain ⟨y0, y1, y2, _, _, _⟩ := HY7.out.cells; clear hb6 hb7 gx0 gx1 x0 x1 x2))
          go_roundw
          case rel => exact ⟨s'.1, s'.2, CF, CT, CZ, eF, eT, eZ, _, HK.out.1, HG.out.trans (gathR_two HC1.out HF1.out HF2.out (by rw [Int.toNat_natCast, Int.toNat_natCast]; show s'.1.getD a 0 + s'.1.getD b 0 = F'.getD a 0 + F'.getD b 0 + 1; rw [HK.out.2, HD.out.1, HD.out.2])), HN.out⟩
          case measure =>
            have hlen : s'.1.length = F.length := HK.out.1.flen
            have q3 := HK.out.2
            rw [HN.out.at a (by omega), HN.out.at b (by omega), HMA.out, HMB.out]
            omega
        | none =>
          have HF2 := Lib.hid hr2
          clear hr1 hr2
          have hzz : ∀ W : World, ∀ o : Obj, (W.alloc o).heap.size = W.heap.size + 1 := fun W o => by simp
          have HZZ := Lib.hid hzz
          clear hzz
          go_wp2_with (first
            | (go_at_call 193; refine (HI7.out.find_no (a := (b : Int)) (b := (a : Int)) HS.out HS'.out hP hk0 hn hz24 HZ.out (by omega) HF2.out).mono ?_; rintro e w8 ⟨rfl, hb8⟩; have HY8 := Lib.hid (HY7.out.kept hb8); have r3y := ret3 HY8.out (.slice (some ⟨fb, fo, none⟩) F.length dF) (.slice BT T.length dT) (.slice BZ Z.length dZ); have HI9 := Lib.hid ((HI7.out.below hb8).other r3y.2 (by have := HQ.out.lb; omega) (by omega) (by omega)); have r3 := ret3 HI9.out.g.rb (.slice (some ⟨fb, fo, none⟩) F.length dF) (.slice BT T.length dT) (.slice BZ Z.length dZ); obtain ⟨s0, s1, s2, _⟩ := r3.1.cells; have HW := Lib.hid r3.2; obtain ⟨_, _, _, f0, f1, f2⟩ := HI9.out.g.rb.cells; obtain ⟨_, _, _, k0', k1, k2⟩ := HY8.out.cells; obtain ⟨i0, i1, i2, _⟩ := r3y.1.cells; obtain ⟨j0, j1, j2, j3, j4, j5⟩ := HI9.out.x.cells; clear hb8 r3y r3 z0 z1 z2 u0 u1 y0 y1 y2)
            | (go_at_call 193; refine (HQ.out.find_no (a := (a : Int)) (b := (b : Int)) HS.out HS'.out hP hk0 hn hz24 HZ.out (by omega) HF1.out).mono ?_; rintro e w6 ⟨rfl, hb6⟩; have hb7 := new_below w6 (.cells #[.slice (some ⟨fb, fo, none⟩) F.length dF, .slice BT T.length dT, .slice BZ Z.length dZ] 31); have HI7 := Lib.hid ((HQ.out.below hb6).below hb7); have HY7 := Lib.hid (cel3_new w6 (.slice (some ⟨fb, fo, none⟩) F.length dF) (.slice BT T.length dT) (.slice BZ Z.length dZ) 31); have hlo6 := hb6.size; have hq2 := HQ.out.o.hi; have hq3 := HQ.out.x.lt; obtain ⟨z0, z1, z2, _, _, _⟩ := HI7.out.x.cells; obtain ⟨_, u0, u1⟩ := HI7.out.g.gb; obtain ⟨y0, y1, y2, _, _, _⟩ := HY7.out.cells; clear hb6 hb7 gx0 gx1 x0 x1 x2))
          refine bodyPost_ret (v := .tuple #[pebV (some ⟨fb, fo, none⟩) F.length dF BT T.length dT BZ Z.length dZ, .bool false]) ?_ rfl ?_
          · simp [results, Try.results127, go_sem, s0, s1, s2]
          · have hg9 := HI9.out.g.bel
            exact ⟨within_on hg9 HW.out hg9.size (.inl (by omega)), _, _, _, _, _, _, .inl ⟨rfl, by rw [HG.out]; exact gathR_no HC1.out HF1.out HF2.out⟩⟩
    · have e1 : decide (d1 + d2 < want) = false := by simpa using c1
      go_wp2_with fail
      go_big_quiet (fail)
      have HQ := Lib.hid (HIN.out.below (below_drewN wr.heap.size wr nq))
      clear hcc ha1 hb1
      generalize wr.drewN nq = w1 at *
      have r3 := ret3 HQ.out.g.rb (.slice (some ⟨fb, fo, none⟩) F.length dF) (.slice BT T.length dT) (.slice BZ Z.length dZ)
      obtain ⟨s0, s1, s2, _⟩ := r3.1.cells
      have HW := Lib.hid r3.2
      obtain ⟨_, _, _, f0, f1, f2⟩ := HQ.out.g.rb.cells
      obtain ⟨v0, v1, v2, _, _, _⟩ := HQ.out.x.cells
      clear r3
      go_wp2_with fail
      refine bodyPost_ret (v := .tuple #[pebV (some ⟨fb, fo, none⟩) F.length dF BT T.length dT BZ Z.length dZ, .bool true]) ?_ rfl ?_
      · simp [results, Try.results127, go_sem, s0, s1, s2]
      · have hg9 := HQ.out.g.bel
        have hlr := HQ.out.lr
        exact ⟨within_on hg9 HW.out hg9.size (.inl (by omega)), _, _, _, _, _, _, .inr ⟨(F', T'), rfl, by rw [HG.out]; exact HDN.out c1, HL.out.1, HL.out.2, (HQ.out.o.within HW.out (.inr (by omega))).widen (by omega) (by have := HW.out.size; have := HQ.out.o.hi; omega) (Nat.le_refl _)⟩⟩
end Go.Proofs.Ytdkpmaahinbhlaa
