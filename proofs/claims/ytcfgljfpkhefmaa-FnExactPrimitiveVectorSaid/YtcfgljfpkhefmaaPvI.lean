/- What impl.PrimitiveVector answers. No condition. -/
import Derived.Test.YtcfgljfpkhefmaaPvS
namespace Go.Proofs.Ytcfgljfpkhefmaa
open Go.RowKit

theorem own_ints_v {w' : World} {base g cap : Nat} {zs : List Int} (h : w'.ownsRow base 3 1 (.slice (some ⟨g, 0, none⟩) zs.length cap) zs.length (intCells zs)) : OwnInts w' base w'.heap.size (some ⟨g, 0, none⟩) cap zs :=
  ⟨Nat.le_refl _, .inr ⟨g, rfl, (h.lt g rfl).1, (h.lt g rfl).2, h⟩⟩
theorem ne0_c (x : Int) (w : World) :
    Calls Try.prog 108 #[.int .i64 x] w fun e w' => e = .returned (.bool (x != 0)) ∧ w = w' := by
  go_enter Try.func108, Try.ntmps108
  go_wp2
  go_ret
  exact ⟨rfl, rfl⟩
set_option maxHeartbeats 2000000 in
set_option maxRecDepth 100000 in
theorem idxN_c (v : List Int) (A : Option Addr) (cap lo hi : Nat) (w : World) (hl : IntsIn w lo hi A v) (hn : v.length ≤ 1048576) :
    Calls Try.prog 107 #[.slice A v.length cap, .func (.func 108) #[] #[]] w fun e w' => w = w' ∧
      ((e = .returned (.int .i64 (-1)) ∧ ∀ i, i < v.length → v.getD i 0 = 0) ∨ ∃ f : Nat, f < v.length ∧ e = .returned (.int .i64 f) ∧ v.getD f 0 ≠ 0 ∧ ∀ i, i < f → v.getD i 0 = 0) := by
  have HL := Lib.hid hl
  clear hl
  go_enter Try.func107, Try.ntmps107
  go_wp2_with fail
  go_loopw [8] (fun i wr => w = wr ∧ ∃ j : Nat, j ≤ v.length ∧ i = .int .i64 j ∧ ∀ u : Nat, u < j → v.getD u 0 = 0) (fun i _ => v.length - (intOf i).toNat)
  case atStart => exact ⟨rfl, 0, Nat.zero_le _, rfl, fun u hu => absurd hu (Nat.not_lt_zero _)⟩
  case round =>
    obtain ⟨rfl, j, hj, rfl, hall⟩ := hrel
    have HALL := Lib.hid hall
    clear hall
    by_cases hlt : j < v.length
    · have hji : (j : Int) < (v.length : Int) := by omega
      obtain ⟨bi, oi, rfl, _, _, hc⟩ := HL.out.2 (by omega)
      have c1 := hc j hlt
      clear hc
      obtain ⟨x, hxv⟩ : ∃ x, v.getD j 0 = x := ⟨_, rfl⟩
      rw [hxv] at c1
      have HXV := Lib.hid hxv
      clear hxv
      by_cases hx : x = 0
      · have hx' : (x != 0) = false := by simp [hx]
        have HX := Lib.hid hx
        have HNE := Lib.hid (ne0_c x w)
        rw [hx'] at HNE
        clear hx hx'
        go_wp2_with (go_at_call 108; refine HNE.out.mono ?_; rintro e w5 ⟨rfl, rfl⟩)
        go_roundw
        case rel => exact ⟨by simp, j + 1, by omega, by go_num, fun u hu => by
          by_cases e : u = j
          · subst e; rw [HXV.out]; exact HX.out
          · exact HALL.out u (by omega)⟩
        case measure => simp [intOf]; omega
      · have hx' : (x != 0) = true := by simpa using hx
        have HX := Lib.hid hx
        have HNE := Lib.hid (ne0_c x w)
        rw [hx'] at HNE
        clear hx hx'
        go_wp2_with (go_at_call 108; refine HNE.out.mono ?_; rintro e w5 ⟨rfl, rfl⟩)
        go_ret
        exact ⟨by simp, .inr ⟨j, hlt, rfl, by rw [HXV.out]; exact HX.out, HALL.out⟩⟩
    · obtain rfl : j = v.length := by omega
      go_wp2_with fail
      go_ret
      exact ⟨by simp, .inl ⟨rfl, HALL.out⟩⟩

set_option maxHeartbeats 4000000 in
set_option maxRecDepth 100000 in
theorem implPv (v : List Int) (A : Option Addr) (cap lo hi : Nat) (w : World) (hl : IntsIn w lo hi A v) (hn : v.length ≤ 1048576) :
    Calls Try.prog 34 #[.slice A v.length cap] w fun e w' => ∃ A' c', e = .returned (.slice A' (pV v).length c') ∧ OwnInts w' w.heap.size w'.heap.size A' c' (pV v) ∧ Below w.heap.size w w' := by
  have HL := Lib.hid hl
  obtain ⟨r, hr⟩ : ∃ r, pV v = r := ⟨_, rfl⟩
  rw [hr]
  have HR := Lib.hid hr
  clear hr
  go_enter Try.func34, Try.ntmps34
  go_wp2_with fail
  refine (slCloneR v A cap lo hi w hl hn).mono ?_
  rintro e w1 ⟨A2, c2, rfl, ho, hb⟩
  have HO := Lib.hid ho
  have HB := Lib.hid hb
  have HL1 := Lib.hid (hl.within (within_of hb) (.inr (Nat.zero_le _)))
  have hs1 := hb.size
  have HEV := Lib.hid (fun h : r = v => (show OwnInts w1 w.heap.size w1.heap.size A2 c2 r by rw [h]; exact HO.out.ints))
  clear hl ho hb
  go_wp2_with fail
  go_loopw [4, 6, 13] (fun g _ i wr => Below w1.heap.size w1 wr ∧ ∃ k : Nat, k ≤ v.length ∧ i = .int .i64 k ∧ g = .int .i64 (gP v k) ∧ AllG v k) (fun _ _ i _ => v.length - (intOf i).toNat)
  case atStart => exact ⟨Below.refl _ _, 0, by omega, rfl, rfl, fun j hj => absurd hj (Nat.not_lt_zero j)⟩
  case round =>
    obtain ⟨hb1, k, hk, rfl, rfl, hg⟩ := hrel
    have HB1 := Lib.hid hb1
    have HBW := Lib.hid (below_on HB.out hb1 hs1)
    have hgl := gP_le k hk hg
    have HG := Lib.hid hg
    clear hg hb1
    have hvi := HL1.out.within (within_of HB1.out) (.inr (Nat.zero_le _))
    by_cases hlt : k < v.length
    · have hki : (k : Int) < (v.length : Int) := by omega
      obtain ⟨bi, oi, rfl, _, _, hc⟩ := hvi.2 (by omega)
      have c1 := hc k hlt
      clear hc hvi
      have HNX := Lib.hid (gP_succ hlt)
      obtain ⟨x, hxv⟩ : ∃ x, v.getD k 0 = x := ⟨_, rfl⟩
      rw [hxv] at c1 HNX
      have HXV := Lib.hid hxv
      obtain ⟨gk, hgk⟩ : ∃ gk, gP v k = gk := ⟨_, rfl⟩
      rw [hgk] at hgl HNX ⊢
      clear hxv hgk
      by_cases hx : OkG x
      · have HX := Lib.hid hx
        have HLI := Lib.hid (hasGcd_c x wr)
        rw [decide_eq_true hx] at HLI
        have HGC := Lib.hid (implGcd gk x wr)
        have hgv : gcdV gk x = (gP v (k + 1) : Int) := by
          unfold gcdV
          rw [if_pos ⟨by unfold OkG; omega, hx⟩, HNX.out]
          rfl
        rw [hgv] at HGC
        clear hgv hx
        go_wp2_with fail
        refine HLI.out.mono ?_
        rintro e w3 ⟨rfl, rfl⟩
        go_wp2_with fail
        refine HGC.out.mono ?_
        rintro e w3 ⟨rfl, hb3⟩
        have HB3 := Lib.hid (below_on HB1.out hb3 HB1.out.size)
        clear hb3
        go_wp2_with fail
        go_roundw
        case rel => exact ⟨HB3.out, k + 1, by omega, by go_num, rfl, fun u hu => by
          by_cases e : u = k
          · subst e; rw [HXV.out]; exact HX.out
          · exact HG.out u (by omega)⟩
        case measure => simp [intOf]; omega
      · have HLI := Lib.hid (hasGcd_c x wr)
        rw [decide_eq_false hx] at HLI
        have HE := Lib.hid (show r = v by rw [← HR.out]; exact pV_no fun h => hx (by have := h k hlt; rw [HXV.out] at this; exact this))
        clear hx
        go_wp2_with fail
        refine HLI.out.mono ?_
        rintro e w3 ⟨rfl, rfl⟩
        go_wp2_with fail
        go_ret
        have ho := HEV.out HE.out
        have hs2 := HB1.out.size
        exact ⟨A2, c2, by rw [HE.out]; rfl, (ho.within (within_of HB1.out) (.inr (Nat.zero_le _))).widen (Nat.le_refl _) hs2 (Nat.le_refl _), HBW.out⟩
    · obtain rfl : k = v.length := by omega
      rw [gP_all] at hgl ⊢
      have HPV := Lib.hid (show r = primV v by rw [← HR.out]; exact pV_ok HG.out)
      have HIX := Lib.hid (idxN_c v A cap lo hi wr hvi hn)
      have HVI := Lib.hid hvi
      clear hvi
      go_wp2_with fail
      refine HIX.out.mono ?_
      rintro e w3 ⟨rfl, hor⟩
      rcases hor with ⟨rfl, hz⟩ | ⟨f, hf, rfl, hfz, hbf⟩
      · have HE := Lib.hid (show r = v by rw [HPV.out]; exact primV_zero (zero_all hz))
        clear hz
        go_wp2_with fail
        go_ret
        have ho := HEV.out HE.out
        have hs2 := HB1.out.size
        exact ⟨A2, c2, by rw [HE.out]; rfl, (ho.within (within_of HB1.out) (.inr (Nat.zero_le _))).widen (Nat.le_refl _) hs2 (Nat.le_refl _), HBW.out⟩
      · have h0 := gcd_nz hf hfz
        have HE := Lib.hid (show r = rowF v.length fun j => Int.tdiv (v.getD j 0) (divZ v) by rw [HPV.out]; exact primV_row h0)
        have hfi := fP_first hf hbf hfz
        have HDZ := Lib.hid (divZ_nz h0)
        have hdv : divZ v = if v.getD f 0 < 0 then -(gcdL v : Int) else gcdL v := by unfold divZ; rw [hfi]
        have HDV := Lib.hid hdv
        obtain ⟨bi, oi, e1, _, _, hc⟩ := HVI.out.2 (by omega)
        subst e1
        have c1 := hc f hf
        have hfl : (f : Int) < (v.length : Int) := by omega
        have hf0 : decide ((f : Int) < 0) = false := by simp
        obtain ⟨x, hxv⟩ : ∃ x, v.getD f 0 = x := ⟨_, rfl⟩
        rw [hxv] at c1 HDV hfz
        obtain ⟨g, hgg⟩ : ∃ g, gcdL v = g := ⟨_, rfl⟩
        rw [hgg] at hgl HDV h0 ⊢
        have HF := Lib.hid hf
        clear hgg hc hxv hfi hdv hbf hf
        -- the copy's own row
        have hoR := HO.out.within (within_of HB1.out) (.inr (Nat.zero_le _))
        have hlo := hoR.1
        rcases hoR.2 with ⟨_, _, hnil⟩ | ⟨gb, rfl, hg1, hg2, hown⟩
        · have := HF.out; rw [hnil] at this; exact absurd this (Nat.not_lt_zero _)
        · have hrow0 : v = rowF v.length fun j => if j < 0 then Int.tdiv (v.getD j 0) (divZ v) else v.getD j 0 := by
            refine (rowF_of v).symm.trans (rowF_congr fun j _ => ?_)
            rw [if_neg (by omega)]
          have HOW := Lib.hid (show wr.ownsRow w.heap.size 3 1 (.slice (some ⟨gb, 0, none⟩) v.length c2) v.length (intCells (rowF v.length fun j => if j < 0 then Int.tdiv (v.getD j 0) (divZ v) else v.getD j 0)) by rw [← hrow0]; exact hown)
          clear hrow0 hown hoR hlo
          by_cases hneg : x < 0
          · obtain ⟨d, hng⟩ : ∃ d, -(g : Int) = d := ⟨_, rfl⟩
            have HDN := Lib.hid (show divZ v = d by rw [HDV.out, if_pos hneg, hng])
            have hs0 : decide (x < 0) = true := by simpa using hneg
            have hd0 : (d != 0) = true := by simp; omega
            have hgz : ¬ d = 0 := by simpa using hd0
            clear hneg h0 hfz
            go_wp2_with fail
            go_loopw [8, 39] (fun _ i wr2 => ∃ k : Nat, k ≤ v.length ∧ i = .int .i64 k ∧ wr2.ownsRow w.heap.size 3 1 (.slice (some ⟨gb, 0, none⟩) v.length c2) v.length (intCells (rowF v.length fun j => if j < k then Int.tdiv (v.getD j 0) (divZ v) else v.getD j 0)) ∧ Below w.heap.size w wr2) (fun _ i _ => v.length - (intOf i).toNat)
            case atStart => exact ⟨0, by omega, rfl, HOW.out, HBW.out⟩
            case round =>
              obtain ⟨k, hk, rfl, hown, hb2⟩ := hrel
              have HB2 := Lib.hid hb2
              clear hb2
              by_cases hlt : k < v.length
              · have hki : (k : Int) < (v.length : Int) := by omega
                have hxg := HG.out k hlt
                have hd := (hown.cellAt k (by omega)).trans (intCells_get _ k (by rw [rowF_len]; exact hlt))
                rw [rowF_getD hlt, if_neg (by omega)] at hd
                have hfr := hown.frozenAt k
                have HQE := Lib.hid (show Int.tdiv (v.getD k 0) (divZ v) = Int.tdiv (v.getD k 0) d by rw [HDN.out])
                obtain ⟨y, hy⟩ : ∃ y, v.getD k 0 = y := ⟨_, rfl⟩
                rw [hy] at hd hxg HQE
                obtain ⟨q, hq⟩ : ∃ q, Int.tdiv y d = q := ⟨_, rfl⟩
                have hqg := quo_ok (d := d) hxg (by rw [← HDN.out]; exact HDZ.out)
                rw [hq] at hqg HQE
                have hqw : IntKind.i64.wrap (Int.tdiv y d) = q := by rw [hq]; exact IntWalk.i64_in _ (by unfold OkG at hqg; omega)
                have hst := hown.stored k (.int .i64 q)
                have hst1 := hst.1
                rw [rowF_set hlt] at hst1
                have heq : (rowF v.length fun t => if t = k then q else if t < k then Int.tdiv (v.getD t 0) (divZ v) else v.getD t 0) = rowF v.length fun t => if t < k + 1 then Int.tdiv (v.getD t 0) (divZ v) else v.getD t 0 := by
                  apply rowF_congr
                  intro t _
                  by_cases e : t = k
                  · subst e; rw [if_pos rfl, if_pos (by omega), hy, HQE.out]
                  · rw [if_neg e]
                    by_cases e2 : t < k
                    · rw [if_pos e2, if_pos (by omega)]
                    · rw [if_neg e2, if_neg (by omega)]
                rw [heq] at hst1
                have HST := Lib.hid hst1
                have HB3 := Lib.hid (HB2.out.grown hst.2 HB2.out.size fun g' e => by cases e; exact hg1)
                clear hst hst1 heq hqg hq hxg hy hown
                go_wp2_with fail
                go_roundw
                case rel => exact ⟨k + 1, by omega, by go_num, HST.out, HB3.out⟩
                case measure => simp [intOf]; omega
              · obtain rfl : k = v.length := by omega
                have heq : (rowF v.length fun j => if j < v.length then Int.tdiv (v.getD j 0) (divZ v) else v.getD j 0) = r := by
                  rw [HE.out]
                  exact rowF_congr fun j hj => if_pos hj
                rw [heq] at hown
                have HOWN := Lib.hid hown
                have HRL := Lib.hid (show r.length = v.length by rw [HE.out, rowF_len])
                clear hown heq
                go_wp2_with fail
                go_ret
                have hh := HOWN.out
                rw [← HRL.out] at hh
                exact ⟨some ⟨gb, 0, none⟩, c2, by rw [HRL.out]; rfl, own_ints_v hh, HB2.out⟩
          · obtain ⟨d, hng⟩ : ∃ d : Int, (g : Int) = d := ⟨_, rfl⟩
            have HDN := Lib.hid (show divZ v = d by rw [HDV.out, if_neg hneg, hng])
            have hs0 : decide (x < 0) = false := by simpa using hneg
            have hd0 : (d != 0) = true := by simp; omega
            have hgz : ¬ d = 0 := by simpa using hd0
            rw [hng]
            clear hneg h0 hfz hng
            go_wp2_with fail
            go_loopw [8, 39] (fun _ i wr2 => ∃ k : Nat, k ≤ v.length ∧ i = .int .i64 k ∧ wr2.ownsRow w.heap.size 3 1 (.slice (some ⟨gb, 0, none⟩) v.length c2) v.length (intCells (rowF v.length fun j => if j < k then Int.tdiv (v.getD j 0) (divZ v) else v.getD j 0)) ∧ Below w.heap.size w wr2) (fun _ i _ => v.length - (intOf i).toNat)
            case atStart => exact ⟨0, by omega, rfl, HOW.out, HBW.out⟩
            case round =>
              obtain ⟨k, hk, rfl, hown, hb2⟩ := hrel
              have HB2 := Lib.hid hb2
              clear hb2
              by_cases hlt : k < v.length
              · have hki : (k : Int) < (v.length : Int) := by omega
                have hxg := HG.out k hlt
                have hd := (hown.cellAt k (by omega)).trans (intCells_get _ k (by rw [rowF_len]; exact hlt))
                rw [rowF_getD hlt, if_neg (by omega)] at hd
                have hfr := hown.frozenAt k
                have HQE := Lib.hid (show Int.tdiv (v.getD k 0) (divZ v) = Int.tdiv (v.getD k 0) d by rw [HDN.out])
                obtain ⟨y, hy⟩ : ∃ y, v.getD k 0 = y := ⟨_, rfl⟩
                rw [hy] at hd hxg HQE
                obtain ⟨q, hq⟩ : ∃ q, Int.tdiv y d = q := ⟨_, rfl⟩
                have hqg := quo_ok (d := d) hxg (by rw [← HDN.out]; exact HDZ.out)
                rw [hq] at hqg HQE
                have hqw : IntKind.i64.wrap (Int.tdiv y d) = q := by rw [hq]; exact IntWalk.i64_in _ (by unfold OkG at hqg; omega)
                have hst := hown.stored k (.int .i64 q)
                have hst1 := hst.1
                rw [rowF_set hlt] at hst1
                have heq : (rowF v.length fun t => if t = k then q else if t < k then Int.tdiv (v.getD t 0) (divZ v) else v.getD t 0) = rowF v.length fun t => if t < k + 1 then Int.tdiv (v.getD t 0) (divZ v) else v.getD t 0 := by
                  apply rowF_congr
                  intro t _
                  by_cases e : t = k
                  · subst e; rw [if_pos rfl, if_pos (by omega), hy, HQE.out]
                  · rw [if_neg e]
                    by_cases e2 : t < k
                    · rw [if_pos e2, if_pos (by omega)]
                    · rw [if_neg e2, if_neg (by omega)]
                rw [heq] at hst1
                have HST := Lib.hid hst1
                have HB3 := Lib.hid (HB2.out.grown hst.2 HB2.out.size fun g' e => by cases e; exact hg1)
                clear hst hst1 heq hqg hq hxg hy hown
                go_wp2_with fail
                go_roundw
                case rel => exact ⟨k + 1, by omega, by go_num, HST.out, HB3.out⟩
                case measure => simp [intOf]; omega
              · obtain rfl : k = v.length := by omega
                have heq : (rowF v.length fun j => if j < v.length then Int.tdiv (v.getD j 0) (divZ v) else v.getD j 0) = r := by
                  rw [HE.out]
                  exact rowF_congr fun j hj => if_pos hj
                rw [heq] at hown
                have HOWN := Lib.hid hown
                have HRL := Lib.hid (show r.length = v.length by rw [HE.out, rowF_len])
                clear hown heq
                go_wp2_with fail
                go_ret
                have hh := HOWN.out
                rw [← HRL.out] at hh
                exact ⟨some ⟨gb, 0, none⟩, c2, by rw [HRL.out]; rfl, own_ints_v hh, HB2.out⟩
end Go.Proofs.Ytcfgljfpkhefmaa
