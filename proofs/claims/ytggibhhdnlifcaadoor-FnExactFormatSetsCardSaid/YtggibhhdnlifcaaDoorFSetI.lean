/- What impl.FormatSets answers: the lists in braces, wherever the library's table of powers of ten reads as the program lays it. -/
import Derived.Test.YtggibhhdnlifcaaDoorFSetS
import Derived.Test.YtggibhhdnlifcaaDoorFStepI
namespace Go.Proofs.YtggibhhdnlifcaaDoor
open Go.RowKit

set_option maxHeartbeats 8000000 in
set_option maxRecDepth 100000 in
theorem implFSets (rs : List (List Int)) (A : Option Addr) (cap lo hi : Nat) (w : World) (hl : RowsD w lo hi A rs) (hr : ∀ k, k < rs.length → R64Z (rs.getD k [])) (hn : rs.length + totD rs rs.length ≤ 1048576) (ht : Tab w) :
    Calls Tryd.prog 13 #[.slice A rs.length cap] w fun e w' => e = .returned (.string (fmtSets rs)) ∧ Below w.heap.size w w' := by
  have HL := Lib.hid hl
  have HR := Lib.hid hr
  have HT := Lib.hid ht
  have HSZ := Lib.hid (fun (n : Nat) (h : n ≤ rs.length) => sets_size hr n h)
  clear hl hr ht
  by_cases h0 : rs.length = 0
  · have HE := Lib.hid (fmtSets_no h0)
    rw [h0]
    go_enter Tryd.func13, Tryd.ntmps13
    go_wp2_with fail
    go_ret
    exact ⟨by rw [HE.out] <;> rfl, Below.refl _ _⟩
  · have HE := Lib.hid (fmtSets_yes (rs := rs) (by omega))
    have hbe : ((rs.length : Int) == 0) = false := by
      have : ¬ ((rs.length : Int) = 0) := by omega
      simpa using this
    go_enter Tryd.func13, Tryd.ntmps13
    go_wp2_with fail
    go_loopw [3, 14] (fun v i wr => ∃ k : Nat, k ≤ rs.length ∧ i = .int .i64 k ∧ OwnStrs wr w.heap.size v (partsS (seF rs) k) ∧ Below w.heap.size w wr) (fun _ i _ => rs.length - (intOf i).toNat)
    case atStart => exact ⟨0, by omega, rfl, ⟨rfl, .inl ⟨rfl, rfl⟩⟩, Below.refl _ _⟩
    case round =>
      obtain ⟨k, hk, rfl, hst, hb⟩ := hrel
      have HB := Lib.hid hb
      have HQ := Lib.hid (HL.out.below hb)
      have hpl := parts_len (seF rs) k
      obtain ⟨A1, c1, rfl⟩ := strs_shape hst
      have HS := Lib.hid hst
      clear hst hb
      generalize wr = wo at *
      by_cases hlt : k < rs.length
      · have hi0 : (k : Int) < (rs.length : Int) := by omega
        have htl := totD_le rs (j := k + 1) (n := rs.length) (by omega)
        have hts : totD rs (k + 1) = totD rs k + (rs.getD k []).length := rfl
        have hzz := HR.out k hlt
        obtain ⟨b, off, rfl, _, _, hcell⟩ := HQ.out.2 (by omega)
        obtain ⟨AZ, cz, hc, hi1⟩ := hcell k hlt
        have HP := Lib.hid (parts_snoc (seF rs) k)
        have hst : seF rs k = setS (rs.getD k []) := rfl
        rw [hst] at HP
        obtain ⟨zs, hzs⟩ : ∃ zs, rs.getD k [] = zs := ⟨_, rfl⟩
        rw [hzs] at hc hi1 hzz HP hts
        obtain ⟨qs, hqs⟩ : ∃ qs, partsS (seF rs) k = qs := ⟨_, rfl⟩
        rw [hqs] at HS HP hpl ⊢
        have HPL := Lib.hid hpl
        have HZ := Lib.hid hzz
        have HI1 := Lib.hid hi1
        have HRS := Lib.hid (fun (n : Nat) (h : n ≤ zs.length) => row_size hzz n h)
        have hzl : zs.length ≤ 1048576 := by omega
        clear hcell hst hzs hzz hi1 hqs hpl
        go_wp2_with fail
        clear hc
        go_loopw [6, 20] (fun v i wq => ∃ j : Nat, j ≤ zs.length ∧ i = .int .i64 j ∧ OwnStrs wq wo.heap.size v (partsS (nmF zs) j) ∧ Below wo.heap.size wo wq) (fun _ i _ => zs.length - (intOf i).toNat)
        case atStart => exact ⟨0, by omega, rfl, ⟨rfl, .inl ⟨rfl, rfl⟩⟩, Below.refl _ _⟩
        case round =>
          obtain ⟨j, hj, rfl, hst, hb⟩ := hrel
          have HBI := Lib.hid hb
          have HII := Lib.hid (HI1.out.below hb)
          have hpl := parts_len (nmF zs) j
          obtain ⟨A3, c3, rfl⟩ := strs_shape hst
          have HS3 := Lib.hid hst
          clear hst hb
          by_cases hjl : j < zs.length
          · have hij : (j : Int) < (zs.length : Int) := by omega
            obtain ⟨bz, oz, rfl, _, _, hcz⟩ := HII.out.2 (by omega)
            have hcj := hcz j hjl
            have hrj := HZ.out j hjl
            have HPN := Lib.hid (parts_snoc (nmF zs) j)
            have hnf : nmF zs j = fmtS (zs.getD j 0) := rfl
            rw [hnf] at HPN
            obtain ⟨x, hx⟩ : ∃ x, zs.getD j 0 = x := ⟨_, rfl⟩
            rw [hx] at hcj hrj HPN
            have HRJ := Lib.hid hrj
            obtain ⟨ps, hps⟩ : ∃ ps, partsS (nmF zs) j = ps := ⟨_, rfl⟩
            rw [hps] at HS3 HPN hpl ⊢
            have HPL3 := Lib.hid hpl
            clear hcz hnf hx hps hpl hrj
            go_wp2_with fail
            clear hcj
            refine (implFmt x _ HRJ.out.1 HRJ.out.2 (HT.out.below (belowB HB.out HBI.out HB.out.size))).mono ?_
            rintro e w2 ⟨rfl, hb2⟩
            have HB2 := Lib.hid (belowB HBI.out hb2 HBI.out.size)
            have HS2 := Lib.hid (strs_below HS3.out hb2)
            clear hb2
            obtain ⟨t, htt⟩ : ∃ t, fmtS x = t := ⟨_, rfl⟩
            rw [htt] at HPN ⊢
            clear htt
            have hown : w2.ownsRow wo.heap.size 9 1 (.slice A3 ps.length c3) ps.length (strVals ps) := HS2.out
            have hbs2 := HB2.out.size
            go_wp2_with (at_builtin; refine wpList_push _ rfl _ _ 40 rfl wo.heap.size 9 (.string ⟨#[]⟩) 16 Tryd.underlying40 infoStr rfl _ _ _ rfl hown (.string t) rfl _ rfl (by have := HPL3.out; omega) (by have := HPL3.out; unfold maxLen; omega) hbs2 ?_; intro v' w' ho hb3; obtain ⟨A2, c2, rfl⟩ := strs_shape (OwnStrs.put ho); have HY := Lib.hid (OwnStrs.put ho); have HBY := Lib.hid (HB2.out.trans hb3); clear ho hb3)
            go_roundw
            case rel => exact ⟨j + 1, by omega, by go_num, by have h := HY.out; rw [List.length_append] at h; rw [HPN.out]; exact h, HBY.out⟩
            case measure => simp [intOf]; omega
          · obtain rfl : j = zs.length := by omega
            have hlen := acc_len ⟨#[44]⟩ (nmF zs) zs.length
            have hjj := join_mk ⟨#[44]⟩ (nmF zs) zs.length
            have hrz := HRS.out zs.length (Nat.le_refl _)
            obtain ⟨ps, hps⟩ : ∃ ps, partsS (nmF zs) zs.length = ps := ⟨_, rfl⟩
            rw [hps] at HS3 hpl hlen hjj ⊢
            obtain ⟨sj, hsj⟩ : ∃ s, accS ⟨#[44]⟩ (nmF zs) zs.length = s := ⟨_, rfl⟩
            have HSS : setS zs = ((⟨#[123]⟩ : ByteArray) ++ sj) ++ ⟨#[125]⟩ := by unfold setS; rw [hsj]
            have HZ0 := Lib.hid (show zs.length = 0 → sj = ⟨#[]⟩ from fun e => by rw [← hsj, e]; rfl)
            rw [hsj] at hlen hjj hrz
            have y2 : (⟨#[123]⟩ : ByteArray).size = 1 := rfl
            have y3 : (⟨#[125]⟩ : ByteArray).size = 1 := rfl
            obtain ⟨s1, hs1⟩ : ∃ s, s = (⟨#[123]⟩ : ByteArray) ++ sj := ⟨_, rfl⟩
            have hz1 : s1.size = 1 + sj.size := by rw [hs1, ByteArray.size_append]; rfl
            have ha1 : ∀ W : World, (Op.stringOp .add (ByteArray.mk #[123]) sj).run Tryd.prog W = .ok (.string s1) W := fun W => by rw [hs1]; exact run_string_add_sum W _ _ (by omega)
            obtain ⟨s2, hs2⟩ : ∃ s, s = s1 ++ (⟨#[125]⟩ : ByteArray) := ⟨_, rfl⟩
            have ha2 : ∀ W : World, (Op.stringOp .add s1 (ByteArray.mk #[125])).run Tryd.prog W = .ok (.string s2) W := fun W => by rw [hs2]; exact run_string_add_sum W _ _ (by omega)
            rw [HSS, ← hs1, ← hs2] at HP
            have HLEN := Lib.hid hlen
            have HJ := Lib.hid hjj
            have HPL3 := Lib.hid hpl
            have HRZ := Lib.hid hrz
            clear hlen hjj hps hpl hsj HSS hs1 hs2 y2 y3 hz1 hrz
            have HBQ := Lib.hid (belowB HB.out HBI.out HB.out.size)
            have HSQ := Lib.hid (strs_below HS.out HBI.out)
            by_cases hz0 : zs.length = 0
            · have hp0 : ps.length = 0 := by have := HPL3.out; omega
              have e0 := HZ0.out hz0
              subst e0
              rw [hp0]
              clear hz0 hp0
              go_wp2_with fail
              refine (Tryd.strings_Join_none A3 c3 ⟨#[44]⟩ _).mono ?_
              rintro e w5 ⟨rfl, rfl⟩
              have hown : World.ownsRow _ w.heap.size 9 1 (.slice A1 qs.length c1) qs.length (strVals qs) := HSQ.out
              have hbsq := HBQ.out.size
              go_wp2_with (at_builtin; refine wpList_push _ rfl _ _ 40 rfl w.heap.size 9 (.string ⟨#[]⟩) 16 Tryd.underlying40 infoStr rfl _ _ _ rfl hown (.string s2) rfl _ rfl (by have := HPL.out; omega) (by have := HPL.out; unfold maxLen; omega) hbsq ?_; intro v' w' ho hb3; obtain ⟨A2, c2, rfl⟩ := strs_shape (OwnStrs.put ho); have HY := Lib.hid (OwnStrs.put ho); have HBY := Lib.hid (HBQ.out.trans hb3); clear ho hb3)
              go_roundw
              case rel => exact ⟨k + 1, by omega, by go_num, by have h := HY.out; rw [List.length_append] at h; rw [HP.out]; exact h, HBY.out⟩
              case measure => simp [intOf]; omega
            · obtain ⟨g, c4, e4⟩ := strs_at HS3.out (by have := HPL3.out; omega)
              cases e4
              have HCS := Lib.hid (strs_cells HS3.out)
              have HCP := Lib.hid (strs_caps HS3.out)
              clear hz0
              go_wp2_with fail
              refine (Tryd.strings_Join g 0 c3 ps ⟨#[44]⟩ _ HCS.out HCP.out.1 (by have := HPL3.out; omega) HCP.out.2 (by have := HRZ.out; rw [HLEN.out]; omega)).mono ?_
              rintro e w5 ⟨rfl, hb5⟩
              rw [HJ.out]
              have HBQ := Lib.hid (belowB HBQ.out hb5 HBQ.out.size)
              have HSQ := Lib.hid (strs_below HSQ.out hb5)
              clear hb5
              have hown : World.ownsRow _ w.heap.size 9 1 (.slice A1 qs.length c1) qs.length (strVals qs) := HSQ.out
              have hbsq := HBQ.out.size
              go_wp2_with (at_builtin; refine wpList_push _ rfl _ _ 40 rfl w.heap.size 9 (.string ⟨#[]⟩) 16 Tryd.underlying40 infoStr rfl _ _ _ rfl hown (.string s2) rfl _ rfl (by have := HPL.out; omega) (by have := HPL.out; unfold maxLen; omega) hbsq ?_; intro v' w' ho hb3; obtain ⟨A2, c2, rfl⟩ := strs_shape (OwnStrs.put ho); have HY := Lib.hid (OwnStrs.put ho); have HBY := Lib.hid (HBQ.out.trans hb3); clear ho hb3)
              go_roundw
              case rel => exact ⟨k + 1, by omega, by go_num, by have h := HY.out; rw [List.length_append] at h; rw [HP.out]; exact h, HBY.out⟩
              case measure => simp [intOf]; omega
      · obtain rfl : k = rs.length := by omega
        have hs := HSZ.out rs.length (Nat.le_refl _)
        have hlen := acc_len ⟨#[32]⟩ (seF rs) rs.length
        have hj := join_mk ⟨#[32]⟩ (seF rs) rs.length
        obtain ⟨ps, hps⟩ : ∃ ps, partsS (seF rs) rs.length = ps := ⟨_, rfl⟩
        rw [hps] at HS hpl hlen hj ⊢
        have HLEN := Lib.hid hlen
        have HJ := Lib.hid hj
        have HPL := Lib.hid hpl
        have HSS := Lib.hid hs
        clear hlen hj hps hs
        obtain ⟨g, c2, e2⟩ := strs_at HS.out (by omega)
        clear hpl
        cases e2
        have HCS := Lib.hid (strs_cells HS.out)
        have HCP := Lib.hid (strs_caps HS.out)
        go_wp2_with fail
        refine (Tryd.strings_Join g 0 c1 ps ⟨#[32]⟩ _ HCS.out HCP.out.1 (by have := HPL.out; omega) HCP.out.2 (by have := HSS.out; rw [HLEN.out]; omega)).mono ?_
        rintro e w5 ⟨rfl, hb5⟩
        rw [HJ.out]
        have HB5 := Lib.hid (belowB HB.out hb5 HB.out.size)
        clear hb5
        go_wp2_with fail
        go_ret
        exact ⟨by rw [HE.out] <;> rfl, HB5.out⟩
end Go.Proofs.YtggibhhdnlifcaaDoor
