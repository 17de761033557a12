/- What spec.l9Without and l9Clean answer. No condition. -/
import Derived.Test.YtcfgljfpkhefmaaWoutM
import Derived.Test.YtcfgljfpkhefmaaPvS
import Derived.Test.YtcfgljfpkhefmaaStepP
import Derived.StillTailTactics
import Derived.Deep.RegionLaw
import Derived.Deep.QuietTactic
namespace Go.Proofs.Ytcfgljfpkhefmaa
open Go.RowKit

theorem clean_c (v : List Int) (A : Option Addr) (cap lo hi : Nat) (w : World) (hl : IntsIn w lo hi A v) (hn : v.length ≤ 1048576) :
    Calls Try.prog 161 #[.slice A v.length cap] w fun e w' => ∃ A' c', e = .returned (.slice A' (pV v).length c') ∧ OwnInts w' w.heap.size w'.heap.size A' c' (pV v) ∧ Below w.heap.size w w' := by
  have HP := Lib.hid (specPv v A cap lo hi w hl hn)
  clear hl
  go_enter Try.func161, Try.ntmps161
  go_wp2_with fail
  refine HP.out.mono ?_
  rintro e w1 ⟨A2, c2, rfl, ho, hb⟩
  have HO := Lib.hid ho
  have HB := Lib.hid hb
  clear ho hb
  go_wp2_with fail
  go_ret
  exact ⟨A2, c2, rfl, HO.out, HB.out⟩

set_option maxHeartbeats 4000000 in
set_option maxRecDepth 100000 in
theorem wout_c (P Q : List Int) (c n : Nat) (A1 A2 : Option Addr) (c1 c2 l1 h1 l2 h2 : Nat) (w : World) (hl1 : IntsIn w l1 h1 A1 P) (hl2 : IntsIn w l2 h2 A2 Q) (hP : Sm P n) (hQ : Sm Q n) (hc : c < n) (hn : n ≤ 12) (hz : Q.getD c 0 ≠ 0) :
    Calls Try.prog 162 #[.slice A1 n c1, .slice A2 n c2, .int .i64 c] w fun e w' => ∃ A' c', e = .returned (.slice A' n c') ∧ OwnInts w' w.heap.size w'.heap.size A' c' (primV (wOut P Q c n)) ∧ Below w.heap.size w w' := by
  have hP1 := hP.1
  have hQ1 := hQ.1
  obtain ⟨b1, o1, rfl, _, q1, hc1⟩ := hl1.2 (by omega)
  obtain ⟨b2, o2, rfl, _, q2, hc2⟩ := hl2.2 (by omega)
  have hb1 : b1 < w.heap.size := Nat.lt_of_lt_of_le q1 hl1.1
  have hb2 : b2 < w.heap.size := Nat.lt_of_lt_of_le q2 hl2.1
  have d1 := hc1 c (by omega)
  have d2 := hc2 c (by omega)
  have HC1 := Lib.hid hc1
  have HC2 := Lib.hid hc2
  have HPV := Lib.hid (show pV (wOut P Q c n) = primV (wOut P Q c n) from wOut_ok hP hQ hc)
  have HW := Lib.hid (show wOut P Q c n = rowF n fun j => P.getD j 0 * Int.tdiv (Q.getD c 0) (Int.gcd (P.getD c 0) (Q.getD c 0)) - Q.getD j 0 * Int.tdiv (P.getD c 0) (Int.gcd (P.getD c 0) (Q.getD c 0)) from rfl)
  have HBD := Lib.hid (fun (j : Nat) (hj : j < n) => wOut_cell hP hQ hc hj)
  have hpc := hP.2 c hc
  have hqc := hQ.2 c hc
  have HPL := Lib.hid hP1
  have HQL := Lib.hid hQ1
  clear hc1 hc2 hl1 hl2 q1 q2
  obtain ⟨r, hr⟩ : ∃ r, wOut P Q c n = r := ⟨_, rfl⟩
  have HRL := Lib.hid (show r.length = n by rw [← hr]; exact wOut_len ..)
  rw [hr] at HPV HW ⊢
  clear hr
  obtain ⟨x, hx⟩ : ∃ x, P.getD c 0 = x := ⟨_, rfl⟩
  obtain ⟨y, hy⟩ : ∃ y, Q.getD c 0 = y := ⟨_, rfl⟩
  rw [hx] at d1 hpc HW HBD
  rw [hy] at d2 hqc HW HBD hz
  clear hx hy hP hQ hP1 hQ1
  have hg0 : Int.gcd x y ≠ 0 := fun h => hz (Int.gcd_eq_zero_iff.1 h).2
  have hgv : gcdV x y = (Int.gcd x y : Int) := if_pos ⟨by unfold OkG; omega, by unfold OkG; omega⟩
  have HGC := Lib.hid (fun W : World => specGcd x y W)
  rw [hgv] at HGC
  obtain ⟨g, hg⟩ : ∃ g : Int, (Int.gcd x y : Int) = g := ⟨_, rfl⟩
  have hgz : ¬ g = 0 := by omega
  have hgz' : (g != 0) = true := by simpa using hgz
  rw [hg] at HGC HW HBD
  have k1 := tdiv_sm (d := g) hqc
  have k2 := tdiv_sm (d := g) hpc
  obtain ⟨u, hu⟩ : ∃ u, Int.tdiv y g = u := ⟨_, rfl⟩
  obtain ⟨v, hv⟩ : ∃ v, Int.tdiv x g = v := ⟨_, rfl⟩
  rw [hu] at k1 HW HBD
  rw [hv] at k2 HW HBD
  have e1 : IntKind.i64.wrap (Int.tdiv y g) = u := by rw [hu]; exact IntWalk.i64_in _ (by omega)
  have e2 : IntKind.i64.wrap (Int.tdiv x g) = v := by rw [hv]; exact IntWalk.i64_in _ (by omega)
  clear hg hgv hg0 hu hv hz
  have hci : (c : Int) < (n : Int) := by omega
  go_enter Try.func162, Try.ntmps162
  go_wp2_with fail
  go_still_tail 8, (by kernel_rfl)
  change wpList _ _ _ _ _ w.drew
  have d1' : w.drew.cell? ⟨b1, o1 + c, none⟩ = some (.int .i64 x) := d1
  have d2' : w.drew.cell? ⟨b2, o2 + c, none⟩ = some (.int .i64 y) := d2
  have HBD0 := Lib.hid (show Below w.heap.size w w.drew from (Below.refl _ _).drew)
  have HSS := Lib.hid (show w.drew.heap.size = w.heap.size from rfl)
  generalize w.drew = wd at *
  go_wp2_with fail
  refine (HGC.out _).mono ?_
  rintro e w1 ⟨rfl, rfl⟩
  have hal := new_below wd (.cells #[] 3)
  have HAL := Lib.hid hal
  have HB1 := Lib.hid (HBD0.out.trans (hal.mono (by rw [HSS.out]; exact Nat.le_refl _)))
  have HOE := Lib.hid (ownR_empty wd)
  have HSZ := Lib.hid (show (wd.alloc (.cells #[] 3)).heap.size = wd.heap.size + 1 by simp)
  have HG0 := Lib.hid (show GrowP wd.heap.size (wd.heap.size + 1) (wd.alloc (.cells #[] 3)) (wd.alloc (.cells #[] 3)) (rowF 0 fun j => P.getD j 0 * u - Q.getD j 0 * v) (some ⟨wd.heap.size, 0, none⟩) 0 wd.heap.size (wd.heap.size + 1) from ⟨HOE.out, .inl ⟨rfl, rfl⟩, (by have := HSZ.out; omega), Within.refl _ _ _⟩)
  clear hal
  go_wp2_with fail
  clear d1 d2 d1' d2'
  generalize wd.alloc (.cells #[] 3) = wA at *
  go_loopw [10, 11] (fun o i w' => ∃ (k lo3 hi3 : Nat) (Ar : Option Addr) (cr : Nat), k ≤ n ∧ i = .int .i64 k ∧ o = .slice Ar (rowF k fun j => P.getD j 0 * u - Q.getD j 0 * v).length cr ∧ OwnR w' lo3 hi3 Ar cr (rowF k fun j => P.getD j 0 * u - Q.getD j 0 * v) ∧ (w.heap.size ≤ lo3 ∧ lo3 ≤ w'.heap.size) ∧ Below w.heap.size w w') (fun _ i _ => n - (intOf i).toNat)
  case atStart => exact ⟨0, _, _, _, _, by omega, rfl, rfl, HG0.out.row, ⟨by rw [HSS.out]; exact Nat.le_refl _, (by have := HSZ.out; have := HSS.out; omega)⟩, HB1.out⟩
  case round =>
    obtain ⟨k, lo3, hi3, Ar, cr, hk, rfl, rfl, ho, hlo3, hb⟩ := hrel
    have HO := Lib.hid ho
    have HB := Lib.hid hb
    clear ho hb
    have HSTEP := Lib.hid (rowF_succ k fun j => P.getD j 0 * u - Q.getD j 0 * v)
    have hlk : (rowF k fun j => P.getD j 0 * u - Q.getD j 0 * v).length ≤ 1048576 := by rw [rowF_len]; omega
    have HEQ := Lib.hid (fun h : k = n => (show (rowF k fun j => P.getD j 0 * u - Q.getD j 0 * v) = r by rw [HW.out, h]))
    obtain ⟨ys, hys⟩ : ∃ ys, (rowF k fun j => P.getD j 0 * u - Q.getD j 0 * v) = ys := ⟨_, rfl⟩
    rw [hys] at HO hlk HSTEP HEQ ⊢
    clear hys
    by_cases hlt : k < n
    · have hki : (k : Int) < (n : Int) := by omega
      have d1 := (HB.out.cell (p := ⟨b1, o1 + k, none⟩) hb1).trans (HC1.out k (by have := HPL.out; omega))
      have d2 := (HB.out.cell (p := ⟨b2, o2 + k, none⟩) hb2).trans (HC2.out k (by have := HQL.out; omega))
      have hbd := HBD.out k hlt
      obtain ⟨p, hp⟩ : ∃ p, P.getD k 0 = p := ⟨_, rfl⟩
      obtain ⟨q, hq⟩ : ∃ q, Q.getD k 0 = q := ⟨_, rfl⟩
      rw [hp] at d1 hbd HSTEP
      rw [hq] at d2 hbd HSTEP
      obtain ⟨pu, hpu⟩ : ∃ pu, p * u = pu := ⟨_, rfl⟩
      obtain ⟨qv, hqv⟩ : ∃ qv, q * v = qv := ⟨_, rfl⟩
      rw [hpu, hqv] at hbd HSTEP
      have f1 : IntKind.i64.wrap (p * u) = pu := by rw [hpu]; exact IntWalk.i64_in _ (by omega)
      have f2 : IntKind.i64.wrap (q * v) = qv := by rw [hqv]; exact IntWalk.i64_in _ (by omega)
      have hbd2 : -18014398509481984 ≤ pu ∧ pu ≤ 18014398509481984 := hbd.1
      have hbd3 : -18014398509481984 ≤ qv ∧ qv ≤ 18014398509481984 := hbd.2
      obtain ⟨z, hz⟩ : ∃ z, pu - qv = z := ⟨_, rfl⟩
      have f3 : IntKind.i64.wrap (pu - qv) = z := by rw [hz]; exact IntWalk.i64_in _ (by omega)
      rw [hz] at HSTEP
      clear hz
      have HBD2 := Lib.hid HB.out.drew
      have HOD := Lib.hid (show OwnR wr.drew lo3 hi3 Ar cr ys from HO.out)
      clear hp hq hpu hqv hbd
      go_wp2_with fail
      go_region_law (refine step_pushZ wr.drew (by rfl) _ _ (by rfl) lo3 hi3 Ar cr ys z (by rfl) HOD.out _ (by rfl) (by omega) hlo3.2 ?_; intro A6 c6 w16 lo6 hi6 hr6 hor6 hw6; have HR6 := Lib.hid hr6; have HOR := Lib.hid hor6; have HW6 := Lib.hid hw6; clear hr6 hor6 hw6)
      all_goals
        go_wp2_with fail
        go_roundw
        case rel => exact ⟨k + 1, lo6, hi6, A6, c6, by omega, by go_num, by rw [HSTEP.out, List.length_append]; rfl, by rw [HSTEP.out]; exact HR6.out, (by have := HOR.out; have := HW6.out.size; have : wr.drew.heap.size = wr.heap.size := rfl; omega), within_on HBD2.out HW6.out HBD2.out.size (.inl hlo3.1)⟩
        case measure => simp [intOf]; omega
    · obtain rfl : k = n := by omega
      have HE := Lib.hid (HEQ.out rfl)
      have hyl : ys.length = k := by rw [HE.out, HRL.out]
      have HCL := Lib.hid (clean_c ys Ar cr lo3 hi3 wr HO.out.ints.reads hlk)
      have HYL := Lib.hid hyl
      clear hyl
      go_wp2_with fail
      refine HCL.out.mono ?_
      rintro e w5 ⟨A5, c5, rfl, ho5, hb5⟩
      have HO5 := Lib.hid ho5
      have HB5 := Lib.hid (below_on HB.out hb5 HB.out.size)
      have hs5 := HB.out.size
      have hs6 := hb5.size
      clear ho5 hb5
      go_wp2_with fail
      go_ret
      refine ⟨A5, c5, by rw [pV_len, HYL.out]; rfl, ?_, HB5.out⟩
      have := HO5.out
      rw [HE.out, HPV.out] at this
      exact this.widen hs5 (Nat.le_refl _) (Nat.le_refl _)
end Go.Proofs.Ytcfgljfpkhefmaa
