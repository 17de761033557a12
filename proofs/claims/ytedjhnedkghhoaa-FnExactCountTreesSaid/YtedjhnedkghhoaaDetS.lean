/- What spec.l8Det answers: a determinant of at most five rows. No condition. -/
import Derived.Test.YtedjhnedkghhoaaLapM
import Derived.Test.YtedjhnedkghhoaaRowsG
import Derived.Test.YtedjhnedkghhoaaGrow
import Derived.Test.YtedjhnedkghhoaaCpR
import Derived.Test.YtedjhnedkghhoaaPlaM
import Derived.IntWalk
namespace Go.Proofs.Ytedjhnedkghhoaa
open Go.RowKit

theorem RowsIn.below {W W' : World} {lo hi : Nat} {A : Option Addr} {rs : List (List Int)} (h : RowsIn W lo hi A rs) (hb : Below W.heap.size W W') : RowsIn W' lo hi A rs := h.within (within_of hb) (.inr (Nat.zero_le _))
theorem RowsIn.low {B : Nat} {W W' : World} {lo hi : Nat} {A : Option Addr} {rs : List (List Int)} (h : RowsIn W lo hi A rs) (hb : Below B W W') (hB : hi ≤ B) : RowsIn W' lo hi A rs :=
  h.within (lo' := B) (hi' := W.heap.size) ⟨hb.os, hb.tape, hb.output, hb.size, fun k hk hd => hb.block k (by omega)⟩ (.inl hB)

set_option maxHeartbeats 8000000 in
set_option maxRecDepth 100000 in
theorem l8Det_c : ∀ (n : Nat), n ≤ 5 → ∀ (m : List (List Int)) (A : Option Addr) (cap lo hi : Nat) (w : World), RowsIn w lo hi A m → n ≤ m.length → m.length ≤ 6 → (∀ r, r < m.length → n ≤ (m.getD r []).length ∧ (m.getD r []).length ≤ 6) → (∀ r c, -24 ≤ entM m r c ∧ entM m r c ≤ 24) →
    Calls Try.prog 101 #[.slice A m.length cap, .int .i64 (n : Int)] w fun e w' => e = .returned (.int .i64 (detF n (entM m))) ∧ Below w.heap.size w w' := by
  intro n
  induction n with
  | zero =>
    intro _ m A cap lo hi w _ _ _ _ _
    go_enter Try.func101, Try.ntmps101
    go_wp2_with fail
    go_ret
    exact ⟨rfl, Below.refl _ _⟩
  | succ n ih =>
    intro hn m A cap lo hi w hr hnm hm6 hrow hbd
    have HIH := Lib.hid (ih (by omega))
    have HR := Lib.hid hr
    have hrs := hr.1
    have HROW := Lib.hid hrow
    have HBD := Lib.hid hbd
    have HTB := Lib.hid (fun j => trm_bd hbd (n := n) (by omega) j)
    have HTS := Lib.hid (fun j (hj : j ≤ 5) => trm_sum hbd (n := n) (by omega) j hj)
    have HV := Lib.hid (detF_trm m n)
    clear ih hr hrow hbd
    have hcast : ((n + 1 : Nat) : Int) = (n : Int) + 1 := by omega
    rw [hcast]
    have hne : ((n : Int) + 1 == 0) = false := by simp; omega
    have hwn : IntKind.i64.wrap ((n : Int) + 1 - 1) = (n : Int) := by rw [show (n : Int) + 1 - 1 = (n : Int) by omega]; exact IntWalk.i64_in _ (by omega)
    have HNE := Lib.hid (show True from trivial)
    go_enter Try.func101, Try.ntmps101
    go_wp2_with fail
    go_loopw [5, 6] (fun d i wr => ∃ j : Nat, j ≤ n + 1 ∧ i = .int .i64 j ∧ d = .int .i64 (sumZ (trmM m n) j) ∧ Below w.heap.size w wr) (fun _ i _ => n + 1 - (intOf i).toNat)
    case atStart => exact ⟨0, Nat.zero_le _, rfl, rfl, Below.refl _ _⟩
    case round =>
      obtain ⟨j, hj, rfl, rfl, hb⟩ := hrel
      have HB := Lib.hid hb
      have HRW := Lib.hid (HR.out.low hb hrs)
      clear hb
      have hsum := HTS.out j (by omega)
      by_cases hlt : j < n + 1
      · have hji : (j : Int) < (n : Int) + 1 := by omega
        obtain ⟨b0, off, rfl, _, hb0, hcell⟩ := HRW.out.2 (by omega)
        obtain ⟨A1, c1, hc, hi1⟩ := hcell n (by omega)
        have hrl := HROW.out n (by omega)
        have hbh : hi ≤ w.heap.size := hrs
        have hent := hi1.2 (by omega)
        obtain ⟨b1, off1, rfl, _, hb1, hcell1⟩ := hent
        have hce := hcell1 j (by omega)
        have HE := Lib.hid (show (m.getD n []).getD j 0 = entM m n j from rfl)
        have HT0 := Lib.hid (fun h : entM m n j = 0 => trm_zero (n := n) h)
        have HT1 := Lib.hid (show sumZ (trmM m n) (j + 1) = sumZ (trmM m n) j + trmM m n j from rfl)
        have HTR := Lib.hid (show trmM m n j = if (n + j) % 2 = 1 then -(entM m n j * detF n (fun i x => entM m i (skipC j x))) else entM m n j * detF n (fun i x => entM m i (skipC j x)) from rfl)
        have htb := HTB.out j
        have hts1 := HTS.out (j + 1) (by omega)
        rw [HE.out] at hce
        obtain ⟨lr, hlr⟩ : ∃ lr, (m.getD n []).length = lr := ⟨_, rfl⟩
        rw [hlr] at hc hrl
        have hjlr : (j : Int) < (lr : Int) := by omega
        have hnml : (n : Int) < (m.length : Int) := by omega
        obtain ⟨e, he⟩ : ∃ e, entM m n j = e := ⟨_, rfl⟩
        rw [he] at hce HT0 HTR htb
        have HEE := Lib.hid he
        clear hcell hi1 hcell1 he hlr
        obtain ⟨dd, hdd⟩ : ∃ dd, sumZ (trmM m n) j = dd := ⟨_, rfl⟩
        rw [hdd] at hsum HT0 HT1 ⊢
        clear hdd
        by_cases h0 : e = 0
        · subst h0
          have HN := Lib.hid (HT0.out rfl)
          clear htb
          go_wp2_with fail
          go_roundw
          case rel => exact ⟨j + 1, by omega, by go_num, by rw [HN.out], HB.out⟩
          case measure => simp [intOf]; omega
        · have h0' : (e == 0) = false := by simpa using h0
          have HFX := Lib.hid (show 0 < m.length from by omega)
          obtain ⟨D, hD⟩ : ∃ D, detF n (fun i x => entM m i (skipC j x)) = D := ⟨_, rfl⟩
          have HDL := Lib.hid (show detF n (entM (lessL m j (n + 1) n)) = D by rw [lessL_det m j n hlt, hD])
          rw [hD] at HTR htb
          clear hD
          have HHC := Lib.hid hc
          have HHE := Lib.hid hce
          have hal := new_below wr (.cells #[] 25)
          have HAL := Lib.hid hal
          have HG0 := Lib.hid (RowsG.made wr)
          have HSZ0 := Lib.hid (show (wr.alloc (.cells #[] 25)).heap.size = wr.heap.size + 1 by simp)
          go_wp2_with fail
          clear hal hc hce
          generalize wr.alloc (.cells #[] 25) = wA at *
          obtain ⟨wx, rfl⟩ : ∃ x, x = wr := ⟨wr, rfl⟩
          have HFIT := Lib.hid (show hi ≤ wx.heap.size from HRW.out.1)
          have hb0w : b0 < wx.heap.size := by have := HFIT.out; omega
          have hb1w : b1 < wx.heap.size := by have := HFIT.out; omega
          have HB01 := Lib.hid (And.intro hb0w hb1w)
          clear hb0w hb1w
          go_loopw [7, 8] (fun o i w' => ∃ (k T lo2 hi2 : Nat) (A' : Option Addr) (c' : Nat), k ≤ n ∧ i = .int .i64 k ∧ o = .slice A' k c' ∧ RowsG w' wx.heap.size T lo2 hi2 A' c' (lessL m j (n + 1) k) ∧ Below wx.heap.size wx w') (fun _ i _ => n - (intOf i).toNat)
          case atStart => exact ⟨0, _, _, _, _, _, Nat.zero_le _, rfl, rfl, HG0.out, HAL.out⟩
          case round =>
            obtain ⟨k, T, lo2, hi2, A2, c2, hk, rfl, rfl, hrg, hb⟩ := hrel
            have HRG := Lib.hid hrg
            have HB2 := Lib.hid hb
            clear hrg hb
            by_cases hkn : k < n
            · have hki : (k : Int) < (n : Int) := by omega
              obtain ⟨wy, rfl⟩ : ∃ x, x = wr := ⟨wr, rfl⟩
              have hal := new_below wy (.cells #[] 3)
              have HAL2 := Lib.hid hal
              have HOE := Lib.hid (ownR_empty wy)
              have HSZ2 := Lib.hid (show (wy.alloc (.cells #[] 3)).heap.size = wy.heap.size + 1 by simp)
              have HB3 := Lib.hid (below_on HB2.out hal HB2.out.size)
              have HG3 := Lib.hid (show GrowP wy.heap.size (wy.heap.size + 1) (wy.alloc (.cells #[] 3)) (wy.alloc (.cells #[] 3)) (rowL (entM m k) j 0) (some ⟨wy.heap.size, 0, none⟩) 0 wy.heap.size (wy.heap.size + 1) from ⟨HOE.out, .inl ⟨rfl, rfl⟩, (by have := HSZ2.out; omega), Within.refl _ _ _⟩)
              clear hal
              go_wp2_with fail
              generalize wy.alloc (.cells #[] 3) = wV at *
              go_loopw [9, 10] (fun o i w' => ∃ (x : Nat) (Ar : Option Addr) (cr lo3 hi3 : Nat), x ≤ n + 1 ∧ i = .int .i64 x ∧ o = .slice Ar (rowL (entM m k) j x).length cr ∧ GrowP wy.heap.size (wy.heap.size + 1) wV w' (rowL (entM m k) j x) Ar cr lo3 hi3) (fun _ i _ => n + 1 - (intOf i).toNat)
              case atStart => exact ⟨0, _, 0, _, _, Nat.zero_le _, rfl, rfl, HG3.out⟩
              case round =>
                obtain ⟨x, Ar, cr, lo3, hi3, hx, rfl, rfl, hg⟩ := hrel
                have HG := Lib.hid hg
                have hbw := within_on HB3.out hg.wi HB3.out.size (.inl HB2.out.size)
                have HBX := Lib.hid hbw
                have hbl := within_on HAL2.out hg.wi HAL2.out.size (.inl (Nat.le_refl _))
                have HBL := Lib.hid hbl
                have HRX := Lib.hid (HRW.out.low hbw HFIT.out)
                have HKX := Lib.hid (And.intro ((hbw.cell (p := ⟨b0, off + n, none⟩) HB01.out.1).trans HHC.out) ((hbw.cell (p := ⟨b1, off1 + j, none⟩) HB01.out.2).trans HHE.out))
                clear hg hbw hbl
                have hln := rowL_len (entM m k) j x
                have hl6 : (rowL (entM m k) j x).length ≤ 6 := by rw [hln]; split <;> omega
                have HSTEP := Lib.hid (show rowL (entM m k) j (x + 1) = if x = j then rowL (entM m k) j x else rowL (entM m k) j x ++ [entM m k x] from rfl)
                have HFULL := Lib.hid (fun h : x = n + 1 => (show (rowL (entM m k) j x).length = n by rw [hln, if_pos (by omega)]; omega))
                have HEQ := Lib.hid (fun h : x = n + 1 => (show rowL (entM m k) j x = rowL (entM m k) j (n + 1) by rw [h]))
                clear hln
                obtain ⟨ys, hys⟩ : ∃ ys, rowL (entM m k) j x = ys := ⟨_, rfl⟩
                rw [hys] at HG hl6 HSTEP HFULL HEQ ⊢
                clear hys
                by_cases hxn : x < n + 1
                · have hxi : (x : Int) < (n : Int) + 1 := by omega
                  by_cases hxj : x = j
                  · have hd : ((x : Int) != (j : Int)) = false := by rw [bne_eq_false_iff_eq]; omega
                    have HN := Lib.hid (show rowL (entM m k) j (x + 1) = ys by rw [HSTEP.out, if_pos hxj])
                    clear hxj
                    go_wp2_with fail
                    go_roundw
                    case rel => exact ⟨x + 1, Ar, cr, lo3, hi3, by omega, by go_num, by rw [HN.out], by rw [HN.out]; exact HG.out⟩
                    case measure => simp [intOf]; omega
                  · have hd : ((x : Int) != (j : Int)) = true := by rw [bne_iff_ne]; omega
                    have HN := Lib.hid (show rowL (entM m k) j (x + 1) = ys ++ [entM m k x] by rw [HSTEP.out, if_neg hxj])
                    obtain ⟨b2, off2, eq2, _, hb2, hcell⟩ := HRX.out.2 HFX.out
                    injection eq2 with eq2
                    injection eq2 with eqb eqo
                    subst eqb eqo
                    obtain ⟨A3, c3, hc3, hi3'⟩ := hcell k (by omega)
                    have hrl3 := HROW.out k (by omega)
                    obtain ⟨b3, off3, rfl, _, hb3, hcell3⟩ := hi3'.2 (by omega)
                    have hce3 := hcell3 x (by omega)
                    have hkm : (k : Int) < (m.length : Int) := by omega
                    obtain ⟨l3, hl3⟩ : ∃ l3, (m.getD k []).length = l3 := ⟨_, rfl⟩
                    rw [hl3] at hc3 hrl3
                    have hx3 : (x : Int) < (l3 : Int) := by omega
                    have HE3 := Lib.hid (show (m.getD k []).getD x 0 = entM m k x from rfl)
                    rw [HE3.out] at hce3
                    obtain ⟨y, hy⟩ : ∃ y, entM m k x = y := ⟨_, rfl⟩
                    rw [hy] at hce3 HN
                    clear hcell hcell3 hi3' hl3 hy hxj
                    go_wp2_with (at_builtin; refine wpList_pushR _ rfl _ _ rfl lo3 hi3 Ar cr ys y rfl HG.out.row _ (by first | rfl | (simp only [World.size_setCell]; rfl)) (by omega) HG.out.le ?_; intro A6 c6 w16 lo6 hi6 hr6 hor6 hw6; have HG6 := Lib.hid (HG.out.push hr6 hor6 hw6); clear hr6 hor6 hw6)
                    go_roundw
                    case rel => exact ⟨x + 1, A6, c6, lo6, hi6, by omega, by go_num, by rw [HN.out, List.length_append]; rfl, by rw [HN.out]; exact HG6.out⟩
                    case measure => simp [intOf]; omega
                · have hxe : x = n + 1 := by omega
                  have HL := Lib.hid (HFULL.out hxe)
                  have HY := Lib.hid (HEQ.out hxe)
                  have HRG5 := Lib.hid (HRG.out.below HBL.out)
                  have HOX := Lib.hid (HG.out.row.ints)
                  have HTOP := Lib.hid (show T ≤ lo3 by have := HG.out.rng; have := HRG.out.top; have := HSZ2.out; omega)
                  obtain ⟨zs, r, S, z1, z2, z3, z4⟩ := HRG5.out.rows
                  rw [lessL_len] at z1
                  have HZ1 := Lib.hid z1
                  have HZ2 := Lib.hid z2
                  have HZ3 := Lib.hid (show RowsP _ wx.heap.size T lo2 hi2 zs (lessL m j (n + 1) k) from ⟨r, S, z3, z4⟩)
                  have HLO := Lib.hid (show lo2 ≤ _ from Nat.le_trans HRG5.out.out.2.1 HRG5.out.top)
                  have HOB := Lib.hid (HRG5.out.out.1)
                  clear z1 z2 z3 z4 hxe
                  go_wp2_with (at_builtin; refine wpList_pushS _ rfl _ _ rfl lo2 hi2 A2 c2 zs (.slice Ar ys.length cr) rfl (by rw [HZ1.out]; rfl) HZ2.out _ rfl (by have := HZ1.out; omega) HLO.out ?_; intro A7 c7 w7 lo7 hi7 ho7 hd7 hw7; have HO7 := Lib.hid ho7; have HD7 := Lib.hid hd7; have HW7 := Lib.hid hw7; clear ho7 hd7 hw7)
                  have HRG7 := Lib.hid (HRG5.out.push (q := (lo3, hi3)) HOX.out HTOP.out (HZ1.out.trans (lessL_len _ _ _ _).symm) HZ3.out HO7.out HD7.out HW7.out)
                  go_roundw
                  case rel => exact ⟨k + 1, _, _, _, _, _, by omega, by go_num, by rw [HZ1.out], by rw [lessL_succ, ← HY.out]; exact HRG7.out, within_on HBX.out HW7.out HBX.out.size (.inl HOB.out)⟩
                  case measure => simp [intOf]; omega
            · obtain rfl : k = n := by omega
              have HRI := Lib.hid HRG.out.cells.reads
              have hcall := HIH.out (lessL m j (k + 1) k) A2 c2
              rw [lessL_len] at hcall
              have HC := Lib.hid (fun (W : World) (h : Below wr.heap.size wr W) => hcall _ _ W (HRI.out.below h) (Nat.le_refl _) (by omega) (fun r hr => by rw [lessL_get _ _ _ _ _ hr, rowL_len, if_pos hlt]; omega) (lessL_bd HBD.out j (k + 1) k))
              rw [HDL.out] at HC
              have hb0w := HB01.out.1
              have hb1w := HB01.out.2
              have hwk : IntKind.i64.wrap (k : Int) = (k : Int) := IntWalk.i64_in _ (by omega)
              have KK := Lib.hid (fun (W : World) (h : Below wr.heap.size wr W) => (And.intro (((below_on HB2.out h HB2.out.size).cell (p := ⟨b0, off + k, none⟩) hb0w).trans HHC.out) (((below_on HB2.out h HB2.out.size).cell (p := ⟨b1, off1 + j, none⟩) hb1w).trans HHE.out)))
              clear hcall
              have HDR := Lib.hid (show Below wr.heap.size wr wr.drew from (Below.refl _ _).drew)
              have hpw : IntKind.i64.wrap (e * D) = e * D := IntWalk.i64_in _ (by omega)
              have hpb : -191102976 ≤ e * D ∧ e * D ≤ 191102976 := htb
              go_wp2_with fail
              go_region_held3 (fun W' => W'.cell? ⟨b0, off + k, none⟩ = some (.slice (some ⟨b1, off1, none⟩) lr c1) ∧ W'.cell? ⟨b1, off1 + j, none⟩ = some (.int .i64 e))
                (first | exact KK.out _ HDR.out | exact KK.out _ HB5.out | fail)
                (first | (go_at_call 101; refine (HC.out _ HDR.out).mono ?_; rintro e5 w5 ⟨rfl, hb⟩; have HB5 := Lib.hid (below_on HDR.out hb HDR.out.size); clear hb) | fail)
              obtain ⟨q, hq⟩ : ∃ q, e * D = q := ⟨_, rfl⟩
              have HQ := Lib.hid hq
              rw [hq] at hpb HTR ⊢
              clear hq hpw hwk hwn
              by_cases hpar : (k + j) % 2 = 1
              · have ht : ((k : Int) + (j : Int)).tmod 2 = 1 := by rw [Int.tmod_eq_emod_of_nonneg (by omega)]; omega
                have HN := Lib.hid (show sumZ (trmM m k) (j + 1) = dd + -q by rw [HT1.out, HTR.out, if_pos hpar])
                clear hpar
                go_wp2_with fail
                go_roundw
                case rel => exact ⟨j + 1, by omega, by go_num, by rw [HN.out], below_on HB.out (below_on HB2.out HB5.out HB2.out.size) HB.out.size⟩
                case measure => simp [intOf]; omega
              · have ht : ((k : Int) + (j : Int)).tmod 2 = 0 := by rw [Int.tmod_eq_emod_of_nonneg (by omega)]; omega
                have HN := Lib.hid (show sumZ (trmM m k) (j + 1) = dd + q by rw [HT1.out, HTR.out, if_neg hpar])
                clear hpar
                go_wp2_with fail
                go_roundw
                case rel => exact ⟨j + 1, by omega, by go_num, by rw [HN.out], below_on HB.out (below_on HB2.out HB5.out HB2.out.size) HB.out.size⟩
                case measure => simp [intOf]; omega
      · obtain rfl : j = n + 1 := by omega
        go_wp2_with fail
        go_ret
        exact ⟨by rw [HV.out]; rfl, HB.out⟩
end Go.Proofs.Ytedjhnedkghhoaa
