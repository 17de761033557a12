/- What spec.PrimitiveVector answers. No condition. -/
import Derived.Test.YtcfgljfpkhefmaaPvM
import Derived.Test.YtcfgljfpkhefmaaRowF
import Derived.Test.YtcfgljfpkhefmaaPebCp
import Derived.Test.YtcfgljfpkhefmaaCpR
import Derived.Test.YtcfgljfpkhefmaaGrow
import Derived.Test.YtcfgljfpkhefmaaPlaM
import Derived.Test.YtcfgljfpkhefmaaIntsO
namespace Go.Proofs.Ytcfgljfpkhefmaa
open Go.RowKit

theorem wpList_copyV {w : World} {ops : Array Oper} {rest : List Oper} {o : Oper} {a : Act} {Q : Exit → Act → World → Prop} (hgd : o.guard = none) (s x : Operand) (ho : o.op = .call { callee := .builtin .append, args := #[s, x], argTypes := #[28, 28] })
    (g : Nat) (A : Option Addr) (zs : List Int) (cap lo hi : Nat) (hs : a.eval s = .slice (some ⟨g, 0, none⟩) 0 0) (hx : a.eval x = .slice A zs.length cap) (hz : IntsIn w lo hi A zs) (hn : zs.length ≤ 1048576)
    (h : ∀ A' c' w', OwnInts w' w.heap.size w'.heap.size A' c' zs → Below w.heap.size w w' → wpList Try.prog ops Q rest (a.put o.dst (.slice A' zs.length c')) w') : wpList Try.prog ops Q (o :: rest) a w :=
  wpList_plain hgd fun _ hK => wp_copyI s x ho g A zs cap lo hi hs hx hz hn fun A' c' w' h1 h2 => hK _ _ (h A' c' w' h1 h2)

set_option maxHeartbeats 4000000 in
set_option maxRecDepth 100000 in
theorem specPv (v : List Int) (A : Option Addr) (cap lo hi : Nat) (w : World) (hl : IntsIn w lo hi A v) (hn : v.length ≤ 1048576) :
    Calls Try.prog 33 #[.slice A v.length cap] w fun e w' => ∃ A' c', e = .returned (.slice A' (pV v).length c') ∧ OwnInts w' w.heap.size w'.heap.size A' c' (pV v) ∧ Below w.heap.size w w' := by
  have HL := Lib.hid hl
  have HAL := Lib.hid (new_below w (.cells #[] 3))
  have HLA := Lib.hid (hl.within (within_of HAL.out) (.inr (Nat.zero_le _)))
  have HOE := Lib.hid (ownR_empty w)
  have HSZ := Lib.hid (show (w.alloc (.cells #[] 3)).heap.size = w.heap.size + 1 by simp)
  clear hl
  obtain ⟨r, hr⟩ : ∃ r, pV v = r := ⟨_, rfl⟩
  rw [hr]
  have HR := Lib.hid hr
  clear hr
  go_enter Try.func33, Try.ntmps33
  go_wp2_with fail
  go_loopw [3, 4] (fun g i wr => w = wr ∧ ∃ k : Nat, k ≤ v.length ∧ i = .int .i64 k ∧ g = .int .i64 (gP v k) ∧ AllG v k) (fun _ i _ => v.length - (intOf i).toNat)
  case atStart => exact ⟨rfl, 0, by omega, rfl, rfl, fun j hj => absurd hj (Nat.not_lt_zero j)⟩
  case round =>
    obtain ⟨rfl, k, hk, rfl, rfl, hg⟩ := hrel
    have hgl := gP_le k hk hg
    have HG := Lib.hid hg
    clear hg
    by_cases hlt : k < v.length
    · have hki : (k : Int) < (v.length : Int) := by omega
      obtain ⟨bi, oi, rfl, _, _, hc⟩ := HL.out.2 (by omega)
      have c1 := hc k hlt
      clear hc
      have HNX := Lib.hid (gP_succ hlt)
      obtain ⟨x, hxv⟩ : ∃ x, v.getD k 0 = x := ⟨_, rfl⟩
      rw [hxv] at c1 HNX
      have HXV := Lib.hid hxv
      obtain ⟨gk, hgk⟩ : ∃ gk, gP v k = gk := ⟨_, rfl⟩
      rw [hgk] at hgl HNX ⊢
      clear hxv hgk
      by_cases hx : OkG x
      · have HX := Lib.hid hx
        have HLI := Lib.hid (l1In_g x w)
        rw [decide_eq_true hx] at HLI
        have HGC := Lib.hid (specGcd gk x w)
        have hgv : gcdV gk x = (gP v (k + 1) : Int) := by
          unfold gcdV
          rw [if_pos ⟨by unfold OkG; omega, hx⟩, HNX.out]
          rfl
        rw [hgv] at HGC
        clear hgv hx
        go_wp2_with fail
        refine HLI.out.mono ?_
        rintro e w3 ⟨rfl, rfl⟩
        go_wp2_with fail
        refine HGC.out.mono ?_
        rintro e w3 ⟨rfl, rfl⟩
        go_wp2_with fail
        go_roundw
        case rel => exact ⟨by simp, k + 1, by omega, by go_num, rfl, fun u hu => by
          by_cases e : u = k
          · subst e; rw [HXV.out]; exact HX.out
          · exact HG.out u (by omega)⟩
        case measure => simp [intOf]; omega
      · have HLI := Lib.hid (l1In_g x w)
        rw [decide_eq_false hx] at HLI
        have HE := Lib.hid (show r = v by rw [← HR.out]; exact pV_no fun h => hx (by have := h k hlt; rw [HXV.out] at this; exact this))
        clear hx
        go_wp2_with fail
        refine HLI.out.mono ?_
        rintro e w3 ⟨rfl, rfl⟩
        go_wp2_with (at_builtin; refine wpList_copyV rfl _ _ rfl w.heap.size _ v cap lo hi rfl rfl HLA.out hn ?_; intro A6 c6 w6 ho6 hb6; have HO6 := Lib.hid ho6; have HB6 := Lib.hid hb6; clear ho6 hb6)
        go_ret
        have hs1 := HAL.out.size
        rw [HE.out]
        exact ⟨A6, c6, rfl, HO6.out.widen hs1 (Nat.le_refl _) (Nat.le_refl _), HAL.out.trans (HB6.out.mono hs1)⟩
    · obtain rfl : k = v.length := by omega
      rw [gP_all] at hgl ⊢
      have HPV := Lib.hid (show r = primV v by rw [← HR.out]; exact pV_ok HG.out)
      by_cases h0 : gcdL v = 0
      · have h0' : ((gcdL v : Int) == 0) = true := by simp [h0]
        have HE := Lib.hid (show r = v by rw [HPV.out]; exact primV_zero h0)
        clear h0
        go_wp2_with (at_builtin; refine wpList_copyV rfl _ _ rfl w.heap.size _ v cap lo hi rfl rfl HLA.out hn ?_; intro A6 c6 w6 ho6 hb6; have HO6 := Lib.hid ho6; have HB6 := Lib.hid hb6; clear ho6 hb6)
        go_ret
        have hs1 := HAL.out.size
        rw [HE.out]
        exact ⟨A6, c6, rfl, HO6.out.widen hs1 (Nat.le_refl _) (Nat.le_refl _), HAL.out.trans (HB6.out.mono hs1)⟩
      · have h0' : ((gcdL v : Int) == 0) = false := by simp; omega
        have HE := Lib.hid (show r = rowF v.length fun j => Int.tdiv (v.getD j 0) (divZ v) by rw [HPV.out]; exact primV_row h0)
        have hfz : firstZ v ≠ 0 := fun h => h0 (gcdL_zero.2 (firstZ_zero.1 h))
        have HDZ := Lib.hid (divZ_nz h0)
        have HDV := Lib.hid (show divZ v = if firstZ v < 0 then -(gcdL v : Int) else gcdL v from rfl)
        obtain ⟨g, hgg⟩ : ∃ g, gcdL v = g := ⟨_, rfl⟩
        rw [hgg] at hgl h0' HDV ⊢
        clear hgg h0
        go_wp2_with fail
        go_loopw [5, 6] (fun f i wr => w = wr ∧ ∃ k : Nat, k ≤ v.length ∧ i = .int .i64 k ∧ f = .int .i64 (fP v k)) (fun _ i _ => v.length - (intOf i).toNat)
        case atStart => exact ⟨rfl, 0, by omega, rfl, rfl⟩
        case round =>
          obtain ⟨rfl, k, hk, rfl, rfl⟩ := hrel
          by_cases hlt : k < v.length
          · have hki : (k : Int) < (v.length : Int) := by omega
            obtain ⟨bi, oi, rfl, _, _, hc⟩ := HL.out.2 (by omega)
            have c1 := hc k hlt
            clear hc
            have HNX := Lib.hid (fP_succ hlt)
            obtain ⟨x, hxv⟩ : ∃ x, v.getD k 0 = x := ⟨_, rfl⟩
            rw [hxv] at c1 HNX
            obtain ⟨f, hf⟩ : ∃ f, fP v k = f := ⟨_, rfl⟩
            rw [hf] at HNX ⊢
            clear hxv hf
            by_cases hf0 : f = 0
            · have hf0' : (f == 0) = true := by simp [hf0]
              have HN := Lib.hid (show fP v (k + 1) = x by rw [HNX.out, if_pos hf0])
              clear hf0
              go_wp2_with fail
              go_roundw
              case rel => exact ⟨by simp, k + 1, by omega, by go_num, by rw [HN.out]⟩
              case measure => simp [intOf]; omega
            · have hf0' : (f == 0) = false := by simp [hf0]
              have HN := Lib.hid (show fP v (k + 1) = f by rw [HNX.out, if_neg hf0])
              clear hf0
              go_wp2_with fail
              go_roundw
              case rel => exact ⟨by simp, k + 1, by omega, by go_num, by rw [HN.out]⟩
              case measure => simp [intOf]; omega
          · obtain rfl : k = v.length := by omega
            rw [fP_all]
            have HDV2 := Lib.hid HDV.out
            obtain ⟨f, hf⟩ : ∃ f, firstZ v = f := ⟨_, rfl⟩
            rw [hf] at hfz HDV ⊢
            clear hf
            by_cases hneg : f < 0
            · skip
              clear hfz
              have hAG := HG.out
              have HGG := Lib.hid hAG
              clear hAG
              have HSZ2 := HSZ.out
              have HEL := Lib.hid (show r.length = v.length by rw [HE.out, rowF_len])
              have HG0 := Lib.hid (show GrowP w.heap.size (w.heap.size + 1) (w.alloc (.cells #[] 3)) (w.alloc (.cells #[] 3)) (rowF 0 fun j => Int.tdiv (v.getD j 0) (divZ v)) (some ⟨w.heap.size, 0, none⟩) 0 w.heap.size (w.heap.size + 1) from ⟨HOE.out, .inl ⟨rfl, rfl⟩, (by omega), Within.refl _ _ _⟩)
              obtain ⟨d, hng⟩ : ∃ d, -(g : Int) = d := ⟨_, rfl⟩
              have HDN := Lib.hid (show divZ v = d by rw [HDV.out, if_pos hneg, hng])
              have hd0 : (d != 0) = true := by simp at h0' ⊢; omega
              have hs0 : decide (f < 0) = true := by simpa using hneg
              have hgz : ¬ d = 0 := by simpa using hd0
              clear hneg
              go_wp2_with fail
              generalize w.alloc (.cells #[] 3) = wA at *
              go_loopw [7, 8] (fun o i w' => ∃ (k lo3 hi3 : Nat) (Ar : Option Addr) (cr : Nat), k ≤ v.length ∧ i = .int .i64 k ∧ o = .slice Ar (rowF k fun j => Int.tdiv (v.getD j 0) (divZ v)).length cr ∧ GrowP w.heap.size (w.heap.size + 1) wA w' (rowF k fun j => Int.tdiv (v.getD j 0) (divZ v)) Ar cr lo3 hi3) (fun _ i _ => v.length - (intOf i).toNat)
              case atStart => exact ⟨0, _, _, _, _, by omega, rfl, rfl, HG0.out⟩
              case round =>
                obtain ⟨k, lo3, hi3, Ar, cr, hk, rfl, rfl, hgp⟩ := hrel
                have HGP := Lib.hid hgp
                have hbw2 := within_on HAL.out hgp.wi HAL.out.size (.inl (Nat.le_refl _))
                have HBX := Lib.hid hbw2
                clear hgp hbw2
                have HSTEP := Lib.hid (rowF_succ k fun j => Int.tdiv (v.getD j 0) (divZ v))
                have hlk : (rowF k fun j => Int.tdiv (v.getD j 0) (divZ v)).length ≤ 1048576 := by rw [rowF_len]; omega
                have HEQ := Lib.hid (fun h : k = v.length => (show (rowF k fun j => Int.tdiv (v.getD j 0) (divZ v)) = r by rw [HE.out, h]))
                obtain ⟨ys, hys⟩ : ∃ ys, (rowF k fun j => Int.tdiv (v.getD j 0) (divZ v)) = ys := ⟨_, rfl⟩
                rw [hys] at HGP hlk HSTEP HEQ ⊢
                clear hys
                by_cases hlt : k < v.length
                · have hki : (k : Int) < (v.length : Int) := by omega
                  have hvi := HL.out.within (within_of HBX.out) (.inr (Nat.zero_le _))
                  obtain ⟨bi, oi, rfl, _, _, hc⟩ := hvi.2 (by omega)
                  have c1 := hc k hlt
                  have hxg := HGG.out k hlt
                  rw [HDN.out] at HSTEP
                  obtain ⟨x, hxv⟩ : ∃ x, v.getD k 0 = x := ⟨_, rfl⟩
                  rw [hxv] at c1 HSTEP hxg
                  obtain ⟨q, hq⟩ : ∃ q, Int.tdiv x d = q := ⟨_, rfl⟩
                  have hqg := quo_ok (d := d) hxg (by rw [← HDN.out]; exact HDZ.out)
                  rw [hq] at HSTEP hqg
                  have hqw : IntKind.i64.wrap (Int.tdiv x d) = q := by rw [hq]; exact IntWalk.i64_in _ (by unfold OkG at hqg; omega)
                  have HQ := Lib.hid hqg
                  clear hc hvi hxv hq hqg hxg
                  go_wp2_with (at_builtin; refine wpList_pushR _ rfl _ _ rfl lo3 hi3 Ar cr ys q rfl HGP.out.row _ (by first | rfl | (simp only [World.size_setCell]; rfl)) (by omega) HGP.out.le ?_; intro A6 c6 w16 lo6 hi6 hr6 hor6 hw6; have HG6 := Lib.hid (HGP.out.push hr6 hor6 hw6); clear hr6 hor6 hw6)
                  go_roundw
                  case rel => exact ⟨k + 1, lo6, hi6, A6, c6, by omega, by go_num, by rw [HDN.out, HSTEP.out, List.length_append]; rfl, by rw [HDN.out, HSTEP.out]; exact HG6.out⟩
                  case measure => simp [intOf]; omega
                · have hkv : k = v.length := by omega
                  have HY := Lib.hid (HEQ.out hkv)
                  subst hkv
                  go_wp2_with fail
                  go_ret
                  have hs2 := HBX.out.size
                  rw [← HY.out]
                  exact ⟨Ar, cr, rfl, HGP.out.out (Nat.le_refl _) HAL.out.size, HBX.out⟩
            · skip
              clear hfz
              have hAG := HG.out
              have HGG := Lib.hid hAG
              clear hAG
              have HSZ2 := HSZ.out
              have HEL := Lib.hid (show r.length = v.length by rw [HE.out, rowF_len])
              have HG0 := Lib.hid (show GrowP w.heap.size (w.heap.size + 1) (w.alloc (.cells #[] 3)) (w.alloc (.cells #[] 3)) (rowF 0 fun j => Int.tdiv (v.getD j 0) (divZ v)) (some ⟨w.heap.size, 0, none⟩) 0 w.heap.size (w.heap.size + 1) from ⟨HOE.out, .inl ⟨rfl, rfl⟩, (by omega), Within.refl _ _ _⟩)
              have HDN := Lib.hid (show divZ v = (g : Int) by rw [HDV.out, if_neg (by omega)])
              have hd0 : ((g : Int) != 0) = true := by simpa using h0'
              have hs0 : decide (f < 0) = false := by simpa using hneg
              have hgz : ¬ (g : Int) = 0 := by simpa using hd0
              clear hneg
              go_wp2_with fail
              generalize w.alloc (.cells #[] 3) = wA at *
              go_loopw [7, 8] (fun o i w' => ∃ (k lo3 hi3 : Nat) (Ar : Option Addr) (cr : Nat), k ≤ v.length ∧ i = .int .i64 k ∧ o = .slice Ar (rowF k fun j => Int.tdiv (v.getD j 0) (divZ v)).length cr ∧ GrowP w.heap.size (w.heap.size + 1) wA w' (rowF k fun j => Int.tdiv (v.getD j 0) (divZ v)) Ar cr lo3 hi3) (fun _ i _ => v.length - (intOf i).toNat)
              case atStart => exact ⟨0, _, _, _, _, by omega, rfl, rfl, HG0.out⟩
              case round =>
                obtain ⟨k, lo3, hi3, Ar, cr, hk, rfl, rfl, hgp⟩ := hrel
                have HGP := Lib.hid hgp
                have hbw2 := within_on HAL.out hgp.wi HAL.out.size (.inl (Nat.le_refl _))
                have HBX := Lib.hid hbw2
                clear hgp hbw2
                have HSTEP := Lib.hid (rowF_succ k fun j => Int.tdiv (v.getD j 0) (divZ v))
                have hlk : (rowF k fun j => Int.tdiv (v.getD j 0) (divZ v)).length ≤ 1048576 := by rw [rowF_len]; omega
                have HEQ := Lib.hid (fun h : k = v.length => (show (rowF k fun j => Int.tdiv (v.getD j 0) (divZ v)) = r by rw [HE.out, h]))
                obtain ⟨ys, hys⟩ : ∃ ys, (rowF k fun j => Int.tdiv (v.getD j 0) (divZ v)) = ys := ⟨_, rfl⟩
                rw [hys] at HGP hlk HSTEP HEQ ⊢
                clear hys
                by_cases hlt : k < v.length
                · have hki : (k : Int) < (v.length : Int) := by omega
                  have hvi := HL.out.within (within_of HBX.out) (.inr (Nat.zero_le _))
                  obtain ⟨bi, oi, rfl, _, _, hc⟩ := hvi.2 (by omega)
                  have c1 := hc k hlt
                  have hxg := HGG.out k hlt
                  rw [HDN.out] at HSTEP
                  obtain ⟨x, hxv⟩ : ∃ x, v.getD k 0 = x := ⟨_, rfl⟩
                  rw [hxv] at c1 HSTEP hxg
                  obtain ⟨q, hq⟩ : ∃ q, Int.tdiv x (g : Int) = q := ⟨_, rfl⟩
                  have hqg := quo_ok (d := (g : Int)) hxg (by rw [← HDN.out]; exact HDZ.out)
                  rw [hq] at HSTEP hqg
                  have hqw : IntKind.i64.wrap (Int.tdiv x (g : Int)) = q := by rw [hq]; exact IntWalk.i64_in _ (by unfold OkG at hqg; omega)
                  have HQ := Lib.hid hqg
                  clear hc hvi hxv hq hqg hxg
                  go_wp2_with (at_builtin; refine wpList_pushR _ rfl _ _ rfl lo3 hi3 Ar cr ys q rfl HGP.out.row _ (by first | rfl | (simp only [World.size_setCell]; rfl)) (by omega) HGP.out.le ?_; intro A6 c6 w16 lo6 hi6 hr6 hor6 hw6; have HG6 := Lib.hid (HGP.out.push hr6 hor6 hw6); clear hr6 hor6 hw6)
                  go_roundw
                  case rel => exact ⟨k + 1, lo6, hi6, A6, c6, by omega, by go_num, by rw [HDN.out, HSTEP.out, List.length_append]; rfl, by rw [HDN.out, HSTEP.out]; exact HG6.out⟩
                  case measure => simp [intOf]; omega
                · have hkv : k = v.length := by omega
                  have HY := Lib.hid (HEQ.out hkv)
                  subst hkv
                  go_wp2_with fail
                  go_ret
                  have hs2 := HBX.out.size
                  rw [← HY.out]
                  exact ⟨Ar, cr, rfl, HGP.out.out (Nat.le_refl _) HAL.out.size, HBX.out⟩
end Go.Proofs.Ytcfgljfpkhefmaa
