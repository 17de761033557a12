/- What (*Pebbles).gather does. No condition. -/
import Derived.Test.YtdkpmaahinbhlaaFqGathM
namespace Go.Proofs.Ytdkpmaahinbhlaa
open Go.RowKit

set_option maxHeartbeats 8000000 in
set_option maxRecDepth 100000 in
theorem gather_c (P : Nat) (k0 : Int) (l : List (Int × Int)) (A : Option Addr) (cap pb : Nat) (f t z : Nat × Nat) (AF AT AZ : Option Addr) (cF cT cZ : Nat) (F T Z : List Int) (a b : Nat) (want : Int) (w : World) (hS : PebS P k0 (plE l Z) F T) (hP : 1 ≤ P ∧ P ≤ 8) (hk0 : k0 ≤ 3) (hn : l.length ≤ 24) (hz24 : Z.length ≤ 24)
    (hZ : ∀ i, i < Z.length → 0 ≤ Z.getD i 0 ∧ Z.getD i 0 < (l.length : Int)) (ha : a < P) (hb : b < P) (hab : a ≠ b) (hl : BarsAt w w.heap.size A l) (hst : Cel3 w pb 31 (.slice AF F.length cF) (.slice AT T.length cT) (.slice AZ Z.length cZ)) (ho : OwnF w f t z AF cF AT cT AZ cZ F T Z) (hpf : pb < f.1 ∨ f.2 ≤ pb) (hpt : pb < t.1 ∨ t.2 ≤ pb) (hbar : 0 < l.length → ∀ g off, A = some ⟨g, off, none⟩ → (g < f.1 ∨ f.2 ≤ g) ∧ (g < t.1 ∨ t.2 ≤ g)) :
    Calls Try.prog 124 #[.pointer (some ⟨pb, 0, none⟩), .agg #[.int .i64 (P : Int), .slice A l.length cap], .int .i64 (a : Int), .int .i64 (b : Int), .int .i64 want] w (GathP w f t z AF cF AT cT AZ cZ (plE l Z) F T Z a b want) := by
  have hFl := hS.flen
  have hTl : T.length = Z.length := by rw [hS.ends.len, plE_len]
  obtain ⟨gF, rfl, _, _⟩ := ho.fst (by omega)
  have hhi := ho.hi
  obtain ⟨gT, hgT⟩ : ∃ gT, 0 < T.length → AT = some ⟨gT, 0, none⟩ := by
    by_cases h : 0 < T.length
    · obtain ⟨_, gT, _, e, _⟩ := ho.open_ (by omega) h
      exact ⟨gT, fun _ => e⟩
    · exact ⟨0, fun k => absurd k h⟩
  have HGT := Lib.hid hgT
  have HS := Lib.hid hS
  have HZ := Lib.hid hZ
  have HBAR := Lib.hid hbar
  have b1 := new_below w (.cells #[.int .i64 (P : Int), .slice A l.length cap] 26)
  have hbx := box_new w (P : Int) (.slice A l.length cap) 26
  have HBX := Lib.hid hbx
  have HBI := Lib.hid ((bars_in hl).within (within_of b1) (.inr (Nat.zero_le _)))
  have HW1 := Lib.hid b1
  have HST := Lib.hid (hst.within (within_of b1) (.inr (Nat.zero_le _)))
  have HO := Lib.hid (ho.below b1)
  have hs1 : (w.alloc (.cells #[.int .i64 (P : Int), .slice A l.length cap] 26)).heap.size = w.heap.size + 1 := by simp
  have hplt := hst.lt
  have HFL := Lib.hid hFl
  have HTL := Lib.hid hTl
  have hF1 : F.length ≤ 1048576 := by omega
  have hT1 : T.length ≤ 1048576 := by omega
  clear hS hZ hgT hst ho hl hbar b1 hbx hFl hTl
  go_enter Try.func124, Try.ntmps124
  go_wp2_with fail
  generalize (w.alloc (.cells #[.int .i64 (P : Int), .slice A l.length cap] 26)) = w1 at *
  have hdr : Below w1.heap.size w1 w1.drew := (Below.refl _ _).drew
  have HST3 := Lib.hid (HST.out.kept hdr)
  have HO3 := Lib.hid (HO.out.below hdr)
  have HW3 := Lib.hid (below_on HW1.out hdr HW1.out.size)
  have HBX3 := Lib.hid (HBX.out.kept hdr)
  have HBI3 := Lib.hid (HBI.out.within (within_of hdr) (.inr (Nat.zero_le _)))
  have hz0 : w1.drew.heap.size = w1.heap.size := rfl
  have kk1 : (fun W' => W'.cell? ⟨pb, 0, none⟩ = some (.slice (some ⟨gF, 0, none⟩) F.length cF) ∧ W'.cell? ⟨pb, 1, none⟩ = some (.slice AT T.length cT)) w1 := ⟨HST.out.cells.1, HST.out.cells.2.1⟩
  clear hdr
  go_region_held3 (fun W' => W'.cell? ⟨pb, 0, none⟩ = some (.slice (some ⟨gF, 0, none⟩) F.length cF) ∧ W'.cell? ⟨pb, 1, none⟩ = some (.slice AT T.length cT))
    (first | exact kk1 | exact ⟨HST4.out.cells.1, HST4.out.cells.2.1⟩ | exact ⟨HST5.out.cells.1, HST5.out.cells.2.1⟩ | fail)
    (first
      | (go_at_call_of 146 (some (⟨gF, 0, none⟩ : Addr)); refine (slCloneI F (some ⟨gF, 0, none⟩) cF 0 _ _ HO3.out.reads.f hF1).mono ?_; rintro e w4 ⟨BF, bF, rfl, hc, hb4⟩; have HW4 := Lib.hid (below_on HW3.out hb4 HW3.out.size); have HST4 := Lib.hid (HST3.out.kept hb4); have HO4 := Lib.hid (HO3.out.below hb4); have HBX4 := Lib.hid (HBX3.out.kept hb4); have HBI4 := Lib.hid (HBI3.out.within (within_of hb4) (.inr (Nat.zero_le _))); have HCF4 := Lib.hid hc; have hz4 := hb4.size; clear hc hb4)
      | (go_at_call_of 146 AT; refine (slCloneI T AT cT 0 _ _ HO4.out.reads.t hT1).mono ?_; rintro e w5 ⟨BT, bT, rfl, hc, hb5⟩; have HW5 := Lib.hid (below_on HW4.out hb5 HW4.out.size); have HST5 := Lib.hid (HST4.out.kept hb5); have HO5 := Lib.hid (HO4.out.below hb5); have HBX5 := Lib.hid (HBX4.out.kept hb5); have HBI5 := Lib.hid (HBI4.out.within (within_of hb5) (.inr (Nat.zero_le _))); have HCF5 := Lib.hid (HCF4.out.within (within_of hb5) (.inr (Nat.zero_le _))); have HCT5 := Lib.hid hc; have hz5 := hb5.size; clear hc hb5)
      | fail)
  go_wp2_with fail
  have HI := Lib.hid (show GatI w w5 pb f t z w1.drew.heap.size w4.heap.size w4.heap.size w5.heap.size (P : Int) A cap l (some ⟨gF, 0, none⟩) cF AT cT AZ cZ BF BT F T F T Z from
    ⟨HST5.out, HO5.out, HBX5.out, HBI5.out, HCF5.out.reads, HCT5.out.reads, Within2.of (within_of HW5.out) (.inl (Nat.le_refl 0)), ⟨hplt, ⟨hhi.1, hhi.2.1⟩, by omega, by omega, by omega⟩, hpf, hpt, HBAR.out⟩)
  go_loopw [] (fun wr => ∃ F' T' : List Int, PebS P k0 (plE l Z) F' T' ∧ gathR (plE l Z) a b want (F, T) = gathR (plE l Z) a b want (F', T') ∧ GatI w wr pb f t z w1.drew.heap.size w4.heap.size w4.heap.size w5.heap.size (P : Int) A cap l (some ⟨gF, 0, none⟩) cF AT cT AZ cZ BF BT F T F' T' Z) (fun wr => (want - (intOf ((wr.cell? ⟨gF, a, none⟩).getD (.bool false)) + intOf ((wr.cell? ⟨gF, b, none⟩).getD (.bool false)))).toNat)
  case atStart => exact ⟨F, T, HS.out, rfl, HI.out⟩
  case round =>
    obtain ⟨F', T', hS', hg, hin⟩ := hrel
    have HG := Lib.hid hg
    have HS' := Lib.hid hS'
    have hfl := hS'.flen
    obtain ⟨fb, fo, e, hfc⟩ := row_at hin.own.reads.f (by omega)
    cases e
    have ha1 := hfc a (by omega)
    have hb1 := hfc b (by omega)
    rw [Nat.zero_add] at ha1 hb1
    have hsa := hS'.small (v := (a : Int)) (by omega)
    have hsb := hS'.small (v := (b : Int)) (by omega)
    rw [Int.toNat_natCast] at hsa hsb
    have HDN := Lib.hid (fun h : ¬ F'.getD a 0 + F'.getD b 0 < want => gathR_done (E := plE l Z) (a := (a : Int)) (b := (b : Int)) (want := want) (s := (F', T')) (by simpa using h))
    obtain ⟨d1, hd1⟩ : ∃ d1, F'.getD a 0 = d1 := ⟨_, rfl⟩
    obtain ⟨d2, hd2⟩ : ∃ d2, F'.getD b 0 = d2 := ⟨_, rfl⟩
    rw [hd1] at ha1 hsa HDN
    rw [hd2] at hb1 hsb HDN
    have HD := Lib.hid (And.intro hd1 hd2)
    have haF : (a : Int) < (F.length : Int) := by have := HFL.out; omega
    have hbF : (b : Int) < (F.length : Int) := by have := HFL.out; omega
    have HIN := Lib.hid hin
    have hcc := hin.st.cells.1
    clear hg hS' hfl hfc hd1 hd2 hin
    by_cases c1 : d1 + d2 < want
    · have e1 : decide (d1 + d2 < want) = true := by simpa using c1
      go_wp2_with fail
      go_big_quiet (fail)
      have HQ := Lib.hid (HIN.out.next (Within2.of (within_of (below_drewN wr.heap.size wr nq)) (.inl (Nat.le_refl 0))) (HIN.out.own.below (below_drewN wr.heap.size wr nq)))
      have hC1 : F'.getD (a : Int).toNat 0 + F'.getD (b : Int).toNat 0 < want := by rw [Int.toNat_natCast, Int.toNat_natCast, HD.out.1, HD.out.2]; exact c1
      have HC1 := Lib.hid hC1
      obtain ⟨_, gx0, gx1⟩ := HIN.out.box
      obtain ⟨r1, hr1⟩ : ∃ r1, findM (plE l Z) (a : Int) (b : Int) (F', T') = r1 := ⟨_, rfl⟩
      cases r1 with
      | some s' =>
        have HF1 := Lib.hid hr1
        have HK := Lib.hid (show PebS P k0 (plE l Z) s'.1 s'.2 ∧ s'.1.getD a 0 + s'.1.getD b 0 = d1 + d2 + 1 from by
          obtain ⟨k1, k2, k3⟩ := findM_ok HS'.out (a := (a : Int)) (b := (b : Int)) (by omega) (by omega) (by omega) HF1.out
          rw [Int.toNat_natCast] at k2 k3
          refine ⟨k1, ?_⟩
          rw [k2, k3, HD.out.1, HD.out.2]; omega)
        clear hr1 hC1
        go_wp2_with (go_at_call 192; refine (HQ.out.pull_yes (a := (a : Int)) (b := (b : Int)) HS.out HS'.out hP hk0 hn hz24 HZ.out ⟨by omega, by omega⟩ ⟨by omega, by omega⟩ HGT.out HF1.out).mono ?_; rintro e w6 ⟨rfl, h6⟩; obtain ⟨_, gy6, gz6⟩ := h6.box; have H6 := Lib.hid h6; clear h6)
        go_roundw
        case rel => exact ⟨s'.1, s'.2, HK.out.1, HG.out.trans (gathR_one HC1.out HF1.out (by rw [Int.toNat_natCast, Int.toNat_natCast]; show s'.1.getD a 0 + s'.1.getD b 0 = F'.getD a 0 + F'.getD b 0 + 1; rw [HK.out.2, HD.out.1, HD.out.2])), H6.out⟩
        case measure =>
          have hlen : s'.1.length = P := HK.out.1.flen
          obtain ⟨fb, fo, e, hfc⟩ := row_at H6.out.own.reads.f (by omega)
          cases e
          have q1 := hfc a (by omega)
          have q2 := hfc b (by omega)
          rw [Nat.zero_add] at q1 q2
          have q3 := HK.out.2
          rw [q1, q2, ha1, hb1]
          simp only [Option.getD_some, intOf]
          omega

      | none =>
        have HF1 := Lib.hid hr1
        obtain ⟨r2, hr2⟩ : ∃ r2, findM (plE l Z) (b : Int) (a : Int) (F', T') = r2 := ⟨_, rfl⟩
        cases r2 with
        | some s' =>
          have HF2 := Lib.hid hr2
          have HK := Lib.hid (show PebS P k0 (plE l Z) s'.1 s'.2 ∧ s'.1.getD a 0 + s'.1.getD b 0 = d1 + d2 + 1 from by
            obtain ⟨k1, k2, k3⟩ := findM_ok HS'.out (a := (b : Int)) (b := (a : Int)) (by omega) (by omega) (by omega) HF2.out
            rw [Int.toNat_natCast] at k2 k3
            refine ⟨k1, ?_⟩
            rw [k2, k3, HD.out.1, HD.out.2]; omega)
          clear hr1 hr2 hC1
          go_wp2_with (first
            | (go_at_call 192; refine (H6.out.pull_yes (a := (b : Int)) (b := (a : Int)) HS.out HS'.out hP hk0 hn hz24 HZ.out ⟨by omega, by omega⟩ ⟨by omega, by omega⟩ HGT.out HF2.out).mono ?_; rintro e w7 ⟨rfl, h7⟩; obtain ⟨_, gy7, gz7⟩ := h7.box; have H7 := Lib.hid h7; clear h7)
            | (go_at_call 192; refine (HQ.out.pull_no (a := (a : Int)) (b := (b : Int)) HS.out HS'.out hP hk0 hn hz24 HZ.out ⟨by omega, by omega⟩ ⟨by omega, by omega⟩ HGT.out HF1.out).mono ?_; rintro e w6 ⟨rfl, h6⟩; obtain ⟨_, gy6, gz6⟩ := h6.box; have H6 := Lib.hid h6; clear h6))
          go_roundw
          case rel => exact ⟨s'.1, s'.2, HK.out.1, HG.out.trans (gathR_two HC1.out HF1.out HF2.out (by rw [Int.toNat_natCast, Int.toNat_natCast]; show s'.1.getD a 0 + s'.1.getD b 0 = F'.getD a 0 + F'.getD b 0 + 1; rw [HK.out.2, HD.out.1, HD.out.2])), H7.out⟩
          case measure =>
            have hlen : s'.1.length = P := HK.out.1.flen
            obtain ⟨fb, fo, e, hfc⟩ := row_at H7.out.own.reads.f (by omega)
            cases e
            have q1 := hfc a (by omega)
            have q2 := hfc b (by omega)
            rw [Nat.zero_add] at q1 q2
            have q3 := HK.out.2
            rw [q1, q2, ha1, hb1]
            simp only [Option.getD_some, intOf]
            omega

        | none =>
          have HF2 := Lib.hid hr2
          have HLF := Lib.hid (show F'.length = F.length by rw [HS'.out.flen, HFL.out])
          have HLT := Lib.hid (show T'.length = T.length by rw [HS'.out.ends.len, HS.out.ends.len])
          clear hr1 hr2 hC1
          go_wp2_with (first
            | (go_at_call 192; refine (H6.out.pull_no (a := (b : Int)) (b := (a : Int)) HS.out HS'.out hP hk0 hn hz24 HZ.out ⟨by omega, by omega⟩ ⟨by omega, by omega⟩ HGT.out HF2.out).mono ?_; rintro e w7 ⟨rfl, h7⟩; obtain ⟨of7, ot7, oz7, x1, x2, x3⟩ := h7.own; obtain ⟨v0, v1, _, _, _, _⟩ := h7.st.cells; have OF := Lib.hid of7; have OT := Lib.hid ot7; have OZ := Lib.hid oz7; clear of7 ot7 oz7; have H7 := Lib.hid h7; clear h7)
            | (go_at_call 192; refine (HQ.out.pull_no (a := (a : Int)) (b := (b : Int)) HS.out HS'.out hP hk0 hn hz24 HZ.out ⟨by omega, by omega⟩ ⟨by omega, by omega⟩ HGT.out HF1.out).mono ?_; rintro e w6 ⟨rfl, h6⟩; obtain ⟨_, gy6, gz6⟩ := h6.box; have H6 := Lib.hid h6; clear h6)
            | (with_reducible refine wpList_back rfl _ _ rfl AT BT T' T cT bT t.1 t.2 _ _ T.length rfl rfl (OT.out.within HW8.out (by unfold Dis at x1; omega)) (H7.out.ct.within HW8.out (by have := H7.out.low; omega)) HLT.out.symm HLT.out.symm ?_; intro w9 ot9 hw9; have OT9 := Lib.hid ot9; have HW9 := Lib.hid hw9; clear ot9 hw9)
            | (with_reducible refine wpList_back rfl _ _ rfl (some ⟨gF, 0, none⟩) BF F' F cF bF f.1 f.2 _ _ F.length rfl rfl OF.out H7.out.cf HLF.out.symm HLF.out.symm ?_; intro w8 of8 hw8; have OF8 := Lib.hid of8; have HW8 := Lib.hid hw8; have HST8 := Lib.hid (H7.out.st.within hw8 H7.out.outf); obtain ⟨u0, u1, _, _, _, _⟩ := HST8.out.cells; clear of8 hw8))
          go_ret
          refine ⟨(H7.out.wit.trans (Within2.of HW8.out (by omega))).trans (Within2.of HW9.out (by omega)), .inl ⟨rfl, by rw [HG.out]; exact gathR_no HC1.out HF1.out HF2.out, ?_⟩⟩
          unfold Dis at x1 x2 x3
          have k8 := HW8.out.size
          have k9 := HW9.out.size
          exact ⟨OF8.out.within HW9.out (by omega), OT9.out, (OZ.out.within HW8.out (by omega)).within HW9.out (by omega), x1, x2, x3⟩
    · have e1 : decide (d1 + d2 < want) = false := by simpa using c1
      go_wp2_with fail
      go_big_quiet (fail)
      go_wp2_with fail
      go_ret
      have HQ := Lib.hid (HIN.out.next (Within2.of (within_of (below_drewN wr.heap.size wr nq)) (.inl (Nat.le_refl 0))) (HIN.out.own.below (below_drewN wr.heap.size wr nq)))
      exact ⟨HQ.out.wit, .inr ⟨(F', T'), rfl, by rw [HG.out]; exact HDN.out c1, HQ.out.own⟩⟩
end Go.Proofs.Ytdkpmaahinbhlaa
