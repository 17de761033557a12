/- What spec.IsCircuit answers. No condition. -/
import Derived.Test.YtdkpmaahinbhlaaFqB2
import Derived.Test.YtdkpmaahinbhlaaFqIndS
import Derived.Deep.RegionHeld3
namespace Go.Proofs.Ytdkpmaahinbhlaa
open Go.RowKit

theorem cell_lt {W : World} {a : Addr} {v : Value} (h : W.cell? a = some v) : a.block < W.heap.size := by
  by_cases e : a.block < W.heap.size
  · exact e
  · exfalso
    unfold World.cell? at h
    rw [Array.getElem?_eq_none (by omega)] at h
    simp at h
theorem step_allS {P : Nat → Prop} {j : Nat} (h : ∀ u, u < j → P u) (hj : P j) : ∀ u, u < j + 1 → P u := fun u hu => by
  by_cases e : u = j
  · subst e; exact hj
  · exact h u (by omega)
set_option maxHeartbeats 4000000 in
set_option maxRecDepth 100000 in
theorem specCir (p k c : Int) (l : List (Int × Int)) (zs : List Int) (A Z : Option Addr) (cap cz lo hi : Nat) (w : World) (hl : BarsAt w w.heap.size A l) (hz : IntsIn w lo hi Z zs) (hn : l.length ≤ 1048576) (hnz : zs.length ≤ 1048576) :
    Calls Try.prog 57 #[.agg #[.int .i64 p, .slice A l.length cap], .int .i64 k, .int .i64 c, .slice Z zs.length cz] w fun e w' => e = .returned (.bool (cirB p k c l zs)) ∧ Below w.heap.size w w' := by
  obtain ⟨rv, hrv⟩ : ∃ rv, cirB p k c l zs = rv := ⟨_, rfl⟩
  rw [hrv]
  have HSET : ∀ W : World, BarsAt W W.heap.size A l → ∀ lo hi, IntsIn W lo hi Z zs → Calls Try.prog 138 #[.agg #[.int .i64 p, .slice A l.length cap], .slice Z zs.length cz] W fun e w' => e = .returned (.bool (setB p l zs)) ∧ Below W.heap.size W w' := fun W h lo hi h2 => l5Set_c p l A Z cap cz lo hi zs W h h2 hn hnz
  cases hs : setB p l zs with
  | false =>
    have HRV := Lib.hid (show rv = false from by rw [← hrv]; exact cirB_no (.inl hs))
    clear hrv
    rw [hs] at HSET
    clear hs
    have hzh := hz.1
    have W0 := Lib.hid (Below.refl w.heap.size w)
    have HB_0 := Lib.hid (bars_in hl)
    have HZ_0 := Lib.hid (hz)
    clear hl hz
    have Z1 := Lib.hid (within_alloc w (.cells #[.int .i64 p, (.slice A l.length cap)] 26)).size
    have W1 := Lib.hid (within_on W0.out (within_alloc w (.cells #[.int .i64 p, (.slice A l.length cap)] 26)) W0.out.size (.inr (Nat.le_refl _)))
    have HB_1 := Lib.hid (HB_0.out.within (within_alloc w (.cells #[.int .i64 p, (.slice A l.length cap)] 26)) (by omega))
    have HZ_1 := Lib.hid (HZ_0.out.within (within_alloc w (.cells #[.int .i64 p, (.slice A l.length cap)] 26)) (by omega))
    have Y1 := Lib.hid (show (w.alloc (.cells #[.int .i64 p, (.slice A l.length cap)] 26)).heap.size = w.heap.size + 1 by simp)
    have hnew := box_new w p (.slice A l.length cap) 26
    have BX_1 := Lib.hid hnew
    clear hnew
    go_enter Try.func57, Try.ntmps57
    obtain ⟨g0_0, g0_1, g0_2⟩ := BX_1.out
    go_wp2_with fail
    clear g0_0 g0_1 g0_2
    generalize (w.alloc (.cells #[.int .i64 p, (.slice A l.length cap)] 26)) = w1 at *
    refine (HSET _ HB_1.out.at _ _ HZ_1.out).mono ?_
    rintro e w2 ⟨rfl, hb⟩
    have Z2 := Lib.hid (within_of hb).size
    have W2 := Lib.hid (within_on W1.out (within_of hb) W1.out.size (.inr (Nat.le_refl _)))
    have HB_2 := Lib.hid (HB_1.out.within (within_of hb) (by omega))
    have HZ_2 := Lib.hid (HZ_1.out.within (within_of hb) (by omega))
    have BX_2 := Lib.hid (BX_1.out.within (within_of hb) (by omega))
    clear hb HSET
    go_wp2_with fail
    go_ret
    exact ⟨by rw [HRV.out]; rfl, W2.out⟩
  | true =>
    cases hr : rangeB k c with
    | false =>
      have HRV := Lib.hid (show rv = false from by rw [← hrv]; exact cirB_no (.inr (.inl hr)))
      have HRG := Lib.hid hr
      clear hrv hr
      rw [hs] at HSET
      clear hs
      have hzh := hz.1
      have W0 := Lib.hid (Below.refl w.heap.size w)
      have HB_0 := Lib.hid (bars_in hl)
      have HZ_0 := Lib.hid (hz)
      clear hl hz
      have Z1 := Lib.hid (within_alloc w (.cells #[.int .i64 p, (.slice A l.length cap)] 26)).size
      have W1 := Lib.hid (within_on W0.out (within_alloc w (.cells #[.int .i64 p, (.slice A l.length cap)] 26)) W0.out.size (.inr (Nat.le_refl _)))
      have HB_1 := Lib.hid (HB_0.out.within (within_alloc w (.cells #[.int .i64 p, (.slice A l.length cap)] 26)) (by omega))
      have HZ_1 := Lib.hid (HZ_0.out.within (within_alloc w (.cells #[.int .i64 p, (.slice A l.length cap)] 26)) (by omega))
      have Y1 := Lib.hid (show (w.alloc (.cells #[.int .i64 p, (.slice A l.length cap)] 26)).heap.size = w.heap.size + 1 by simp)
      have hnew := box_new w p (.slice A l.length cap) 26
      have BX_1 := Lib.hid hnew
      clear hnew
      go_enter Try.func57, Try.ntmps57
      obtain ⟨g0_0, g0_1, g0_2⟩ := BX_1.out
      go_wp2_with fail
      clear g0_0 g0_1 g0_2
      generalize (w.alloc (.cells #[.int .i64 p, (.slice A l.length cap)] 26)) = w1 at *
      refine (HSET _ HB_1.out.at _ _ HZ_1.out).mono ?_
      rintro e w2 ⟨rfl, hb⟩
      have Z2 := Lib.hid (within_of hb).size
      have W2 := Lib.hid (within_on W1.out (within_of hb) W1.out.size (.inr (Nat.le_refl _)))
      have HB_2 := Lib.hid (HB_1.out.within (within_of hb) (by omega))
      have HZ_2 := Lib.hid (HZ_1.out.within (within_of hb) (by omega))
      have BX_2 := Lib.hid (BX_1.out.within (within_of hb) (by omega))
      clear hb HSET
      go_wp2_with fail
      refine (specRange k c _).mono ?_
      rintro e w9 ⟨rfl, rfl⟩
      rw [HRG.out]
      go_wp2_with fail
      go_ret
      exact ⟨by rw [HRV.out]; rfl, W2.out⟩
    | true =>
      have HIND : ∀ W : World, BarsAt W W.heap.size A l → ∀ lo hi, IntsIn W lo hi Z zs → Calls Try.prog 48 #[.agg #[.int .i64 p, .slice A l.length cap], .int .i64 k, .int .i64 c, .slice Z zs.length cz] W fun e w' => e = .returned (.bool (indB p k c l zs)) ∧ Below W.heap.size W w' := fun W h lo hi h2 => specInd p k c l zs A Z cap cz lo hi W h h2 hn hnz
      cases hi9 : indB p k c l zs with
      | true =>
        have HRV := Lib.hid (show rv = false from by rw [← hrv]; exact cirB_no (.inr (.inr hi9)))
        have HRG := Lib.hid hr
        rw [hs] at HSET
        rw [hi9] at HIND
        clear hrv hr hs hi9
        have hzh := hz.1
        have W0 := Lib.hid (Below.refl w.heap.size w)
        have HB_0 := Lib.hid (bars_in hl)
        have HZ_0 := Lib.hid (hz)
        clear hl hz
        have Z1 := Lib.hid (within_alloc w (.cells #[.int .i64 p, (.slice A l.length cap)] 26)).size
        have W1 := Lib.hid (within_on W0.out (within_alloc w (.cells #[.int .i64 p, (.slice A l.length cap)] 26)) W0.out.size (.inr (Nat.le_refl _)))
        have HB_1 := Lib.hid (HB_0.out.within (within_alloc w (.cells #[.int .i64 p, (.slice A l.length cap)] 26)) (by omega))
        have HZ_1 := Lib.hid (HZ_0.out.within (within_alloc w (.cells #[.int .i64 p, (.slice A l.length cap)] 26)) (by omega))
        have Y1 := Lib.hid (show (w.alloc (.cells #[.int .i64 p, (.slice A l.length cap)] 26)).heap.size = w.heap.size + 1 by simp)
        have hnew := box_new w p (.slice A l.length cap) 26
        have BX_1 := Lib.hid hnew
        clear hnew
        go_enter Try.func57, Try.ntmps57
        obtain ⟨g0_0, g0_1, g0_2⟩ := BX_1.out
        go_wp2_with fail
        clear g0_0 g0_1 g0_2
        generalize (w.alloc (.cells #[.int .i64 p, (.slice A l.length cap)] 26)) = w1 at *
        refine (HSET _ HB_1.out.at _ _ HZ_1.out).mono ?_
        rintro e w2 ⟨rfl, hb⟩
        have Z2 := Lib.hid (within_of hb).size
        have W2 := Lib.hid (within_on W1.out (within_of hb) W1.out.size (.inr (Nat.le_refl _)))
        have HB_2 := Lib.hid (HB_1.out.within (within_of hb) (by omega))
        have HZ_2 := Lib.hid (HZ_1.out.within (within_of hb) (by omega))
        have BX_2 := Lib.hid (BX_1.out.within (within_of hb) (by omega))
        clear hb HSET
        go_wp2_with fail
        refine (specRange k c _).mono ?_
        rintro e w9 ⟨rfl, rfl⟩
        rw [HRG.out]
        obtain ⟨g1_0, g1_1, g1_2⟩ := BX_2.out
        go_wp2_with fail
        clear g1_0 g1_1 g1_2
        refine (HIND _ HB_2.out.at _ _ HZ_2.out).mono ?_
        rintro e w3 ⟨rfl, hb⟩
        have Z3 := Lib.hid (within_of hb).size
        have W3 := Lib.hid (within_on W2.out (within_of hb) W2.out.size (.inr (Nat.le_refl _)))
        have HB_3 := Lib.hid (HB_2.out.within (within_of hb) (by omega))
        have HZ_3 := Lib.hid (HZ_2.out.within (within_of hb) (by omega))
        have BX_3 := Lib.hid (BX_2.out.within (within_of hb) (by omega))
        clear hb HIND
        go_wp2_with fail
        go_ret
        exact ⟨by rw [HRV.out]; rfl, W3.out⟩
      | false =>
        have HYES := Lib.hid (fun h => hrv.symm.trans (cirB_yes hs hr hi9 h))
        have HBAD := Lib.hid (fun (j : Nat) (hj : j < zs.length) h => hrv.symm.trans (cirB_bad (p := p) (k := k) (c := c) (l := l) hj h))
        have HRG := Lib.hid hr
        rw [hs] at HSET
        rw [hi9] at HIND
        clear hrv hr hs hi9
        have hzh := hz.1
        have W0 := Lib.hid (Below.refl w.heap.size w)
        have HB_0 := Lib.hid (bars_in hl)
        have HZ_0 := Lib.hid (hz)
        clear hl hz
        have Z1 := Lib.hid (within_alloc w (.cells #[.int .i64 p, (.slice A l.length cap)] 26)).size
        have W1 := Lib.hid (within_on W0.out (within_alloc w (.cells #[.int .i64 p, (.slice A l.length cap)] 26)) W0.out.size (.inr (Nat.le_refl _)))
        have HB_1 := Lib.hid (HB_0.out.within (within_alloc w (.cells #[.int .i64 p, (.slice A l.length cap)] 26)) (by omega))
        have HZ_1 := Lib.hid (HZ_0.out.within (within_alloc w (.cells #[.int .i64 p, (.slice A l.length cap)] 26)) (by omega))
        have Y1 := Lib.hid (show (w.alloc (.cells #[.int .i64 p, (.slice A l.length cap)] 26)).heap.size = w.heap.size + 1 by simp)
        have hnew := box_new w p (.slice A l.length cap) 26
        have BX_1 := Lib.hid hnew
        clear hnew
        go_enter Try.func57, Try.ntmps57
        obtain ⟨g0_0, g0_1, g0_2⟩ := BX_1.out
        go_wp2_with fail
        clear g0_0 g0_1 g0_2
        generalize (w.alloc (.cells #[.int .i64 p, (.slice A l.length cap)] 26)) = w1 at *
        refine (HSET _ HB_1.out.at _ _ HZ_1.out).mono ?_
        rintro e w2 ⟨rfl, hb⟩
        have Z2 := Lib.hid (within_of hb).size
        have W2 := Lib.hid (within_on W1.out (within_of hb) W1.out.size (.inr (Nat.le_refl _)))
        have HB_2 := Lib.hid (HB_1.out.within (within_of hb) (by omega))
        have HZ_2 := Lib.hid (HZ_1.out.within (within_of hb) (by omega))
        have BX_2 := Lib.hid (BX_1.out.within (within_of hb) (by omega))
        clear hb HSET
        go_wp2_with fail
        refine (specRange k c _).mono ?_
        rintro e w9 ⟨rfl, rfl⟩
        rw [HRG.out]
        obtain ⟨g1_0, g1_1, g1_2⟩ := BX_2.out
        go_wp2_with fail
        clear g1_0 g1_1 g1_2
        refine (HIND _ HB_2.out.at _ _ HZ_2.out).mono ?_
        rintro e w3 ⟨rfl, hb⟩
        have Z3 := Lib.hid (within_of hb).size
        have W3 := Lib.hid (within_on W2.out (within_of hb) W2.out.size (.inr (Nat.le_refl _)))
        have HB_3 := Lib.hid (HB_2.out.within (within_of hb) (by omega))
        have HZ_3 := Lib.hid (HZ_2.out.within (within_of hb) (by omega))
        have BX_3 := Lib.hid (BX_2.out.within (within_of hb) (by omega))
        clear hb HIND
        go_wp2_with fail
        go_loopw [9] (fun i wr => ∃ j : Nat, j ≤ zs.length ∧ i = .int .i64 j ∧ (∀ u, u < j → indB p k c l (woL zs (zs.getD u 0)) = true) ∧ Below w3.heap.size w3 wr) (fun i _ => zs.length - (intOf i).toNat)
        case atStart => exact ⟨0, Nat.zero_le _, rfl, fun u hu => absurd hu (Nat.not_lt_zero _), Below.refl _ _⟩
        case round =>
          obtain ⟨j, hj, rfl, hok, hb⟩ := hrel
          have HOK := Lib.hid hok
          have HBL := Lib.hid hb
          clear hok
          by_cases hlt : j < zs.length
          · have hji : (j : Int) < (zs.length : Int) := by omega
            have hdr : Below wr.heap.size wr wr.drew := (Below.refl _ _).drew
            have hbd := below_on hb hdr hb.size
            have HB8 := Lib.hid (HB_3.out.within (within_of hbd) (.inr (Nat.zero_le _)))
            have hz8 := HZ_3.out.within (within_of hbd) (.inr (Nat.zero_le _))
            have HBD := Lib.hid hbd
            obtain ⟨_, g1, g2⟩ := BX_3.out.kept hb
            obtain ⟨zb, zo, rfl, hzc⟩ := row_at (HZ_3.out.within (within_of hb) (.inr (Nat.zero_le _))) (by omega)
            have HZ8 := Lib.hid hz8
            have hz := hzc j hlt
            have hzlt : zb < wr.heap.size := cell_lt hz
            have hxlt : w.heap.size < wr.heap.size := cell_lt g1
            have HBADJ := Lib.hid (HBAD.out j hlt)
            have HNX := Lib.hid (fun h => step_allS (P := fun u => indB p k c l (woL zs (zs.getD u 0)) = true) HOK.out h)
            obtain ⟨z, hzd⟩ : ∃ z, zs.getD j 0 = z := ⟨_, rfl⟩
            rw [hzd] at hz HBADJ
            have HNX2 := Lib.hid (fun h => HNX.out (show indB p k c l (woL zs (zs.getD j 0)) = true from by rw [hzd]; exact h))
            clear hzd hzc
            have HKK := Lib.hid (show (fun W' => W'.cell? ⟨w.heap.size, 0, none⟩ = some (.int .i64 p) ∧ W'.cell? ⟨w.heap.size, 1, none⟩ = some (.slice A l.length cap) ∧ W'.cell? ⟨zb, zo + j, none⟩ = some (.int .i64 z)) wr from ⟨g1, g2, hz⟩)
            have HKB := Lib.hid (fun (W' : World) (h : Below wr.heap.size wr W') => show (fun W' => W'.cell? ⟨w.heap.size, 0, none⟩ = some (.int .i64 p) ∧ W'.cell? ⟨w.heap.size, 1, none⟩ = some (.slice A l.length cap) ∧ W'.cell? ⟨zb, zo + j, none⟩ = some (.int .i64 z)) W' from ⟨(h.cell (p := ⟨w.heap.size, 0, none⟩) hxlt).trans g1, (h.cell (p := ⟨w.heap.size, 1, none⟩) hxlt).trans g2, (h.cell (p := ⟨zb, zo + j, none⟩) hzlt).trans hz⟩)
            have HDR := Lib.hid hdr
            clear hz8 hbd hb hdr hxlt hzlt
            have hwl : (woL zs z).length ≤ 1048576 := by unfold woL; exact Nat.le_trans (List.length_filter_le _ _) hnz
            have HWL := Lib.hid hwl
            clear hwl
            cases hi8 : indB p k c l (woL zs z) with
            | true =>
              have HI := Lib.hid hi8
              clear hi8
              go_wp2_with fail
              go_region_held3 (fun W' => W'.cell? ⟨w.heap.size, 0, none⟩ = some (.int .i64 p) ∧ W'.cell? ⟨w.heap.size, 1, none⟩ = some (.slice A l.length cap) ∧ W'.cell? ⟨zb, zo + j, none⟩ = some (.int .i64 z))
                (first | exact HKK.out | exact HKB.out _ HDR.out | exact HKB.out _ HB5.out | exact HKB.out _ HB6.out | fail)
                (first
                  | (go_at_call 48; refine (specInd p k c l (woL zs z) A A2 cap c2 _ _ _ ?_ HO5.out hn HWL.out).mono ?_; (exact HB9.out.at); rintro e w6 ⟨rfl, hb⟩; rw [HI.out]; have HB6 := Lib.hid (below_on HB5.out hb HB5.out.size); have HBF := Lib.hid (below_on HBE.out hb HBE.out.size); clear hb)
                  | (go_at_call 147; refine (wo_c zs z (some ⟨zb, zo, none⟩) cz lo hi _ ?_ hnz).mono ?_; (exact HZ8.out); rintro e w5 ⟨A2, c2, rfl, ho, hb⟩; have HB5 := Lib.hid (below_on HDR.out hb HDR.out.size); have HBE := Lib.hid (below_on HBD.out hb HBD.out.size); have HB9 := Lib.hid (HB8.out.within (within_of hb) (.inr (Nat.zero_le _))); have HO5 := Lib.hid ho.reads; clear ho hb))
              go_wp2_with fail
              go_roundw
              case rel => exact ⟨j + 1, by omega, by go_num, HNX2.out HI.out, HBF.out⟩
              case measure => simp [intOf]; omega
            | false =>
              have HI := Lib.hid hi8
              clear hi8
              go_wp2_with fail
              go_region_held3 (fun W' => W'.cell? ⟨w.heap.size, 0, none⟩ = some (.int .i64 p) ∧ W'.cell? ⟨w.heap.size, 1, none⟩ = some (.slice A l.length cap) ∧ W'.cell? ⟨zb, zo + j, none⟩ = some (.int .i64 z))
                (first | exact HKK.out | exact HKB.out _ HDR.out | exact HKB.out _ HB5.out | exact HKB.out _ HB6.out | fail)
                (first
                  | (go_at_call 48; refine (specInd p k c l (woL zs z) A A2 cap c2 _ _ _ ?_ HO5.out hn HWL.out).mono ?_; (exact HB9.out.at); rintro e w6 ⟨rfl, hb⟩; rw [HI.out]; have HB6 := Lib.hid (below_on HB5.out hb HB5.out.size); have HBF := Lib.hid (below_on HBE.out hb HBE.out.size); clear hb)
                  | (go_at_call 147; refine (wo_c zs z (some ⟨zb, zo, none⟩) cz lo hi _ ?_ hnz).mono ?_; (exact HZ8.out); rintro e w5 ⟨A2, c2, rfl, ho, hb⟩; have HB5 := Lib.hid (below_on HDR.out hb HDR.out.size); have HBE := Lib.hid (below_on HBD.out hb HBD.out.size); have HB9 := Lib.hid (HB8.out.within (within_of hb) (.inr (Nat.zero_le _))); have HO5 := Lib.hid ho.reads; clear ho hb))
              go_wp2_with fail
              go_ret
              exact ⟨by rw [HBADJ.out HI.out]; rfl, below_on W3.out HBF.out W3.out.size⟩
          · obtain rfl : j = zs.length := by omega
            go_wp2_with fail
            go_ret
            exact ⟨by rw [HYES.out HOK.out]; rfl, below_on W3.out HBL.out W3.out.size⟩
end Go.Proofs.Ytdkpmaahinbhlaa
