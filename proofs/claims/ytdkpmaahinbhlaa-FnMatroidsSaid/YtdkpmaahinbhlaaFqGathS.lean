/- What spec.l4Gather answers. No condition. -/
import Derived.Test.YtdkpmaahinbhlaaFqGathSM
namespace Go.Proofs.Ytdkpmaahinbhlaa
open Go.RowKit

set_option maxHeartbeats 8000000 in
set_option maxRecDepth 100000 in
theorem gathS_c (k0 : Int) (l : List (Int × Int)) (A : Option Addr) (cap : Nat) (AF AT AZ : Option Addr) (cF cT cZ lo hi : Nat) (F T Z : List Int) (a b : Nat) (want : Int) (w : World) (hS : PebS F.length k0 (plE l Z) F T) (hP : 1 ≤ F.length ∧ F.length ≤ 8) (hk0 : k0 ≤ 3) (hn : l.length ≤ 24) (hz24 : Z.length ≤ 24)
    (hZ : ∀ i, i < Z.length → 0 ≤ Z.getD i 0 ∧ Z.getD i 0 < (l.length : Int)) (ha : a < F.length) (hb : b < F.length) (hab : a ≠ b) (hl : BarsAt w w.heap.size A l) (h : Peb3 w lo hi AF AT AZ F T Z) :
    Calls Try.prog 127 #[.agg #[.int .i64 (F.length : Int), .slice A l.length cap], pebV AF F.length cF AT T.length cT AZ Z.length cZ, .int .i64 (a : Int), .int .i64 (b : Int), .int .i64 want] w (GathSP w (plE l Z) F T Z a b want) := by
  have hhi : hi ≤ w.heap.size := h.f.1
  have hTZ : T.length ≤ 24 := by rw [hS.ends.len, plE_len]; exact hz24
  have HI0 := Lib.hid (GtI.start w (F.length : Int) A cap l AF AT AZ cF cT cZ lo hi F T Z hl h)
  have HS := Lib.hid hS
  have HZ := Lib.hid hZ
  obtain ⟨g0, g1, g2, _, _, _⟩ := HI0.out.pb.cells
  have hs3 : (((w.alloc (.cells #[.int .i64 (F.length : Int), .slice A l.length cap] 26)).alloc (.cells #[.slice AF F.length cF, .slice AT T.length cT, .slice AZ Z.length cZ] 31)).alloc (.cells #[.slice none 0 0, .slice none 0 0, .slice none 0 0] 31)).heap.size = w.heap.size + 3 := by simp
  have HS3 := Lib.hid hs3
  clear hl h hS hZ hs3
  go_enter Try.func127, Try.ntmps127
  go_wp2_with (go_at_call 126; refine (copyPeb_c AF AT AZ cF cT cZ lo hi F T Z _ HI0.out.src (by omega) (by omega) (by omega)).mono ?_; rintro e w4 ⟨BF, dF, BT, dT, BZ, dZ, rfl, ho, hb4⟩; have hb5 := new_below w4 (.cells #[.slice BF F.length dF, .slice BT T.length dT, .slice BZ Z.length dZ] 31); have hz4 := hb4.size; have HGI := Lib.hid (show GasI w (w4.alloc (.cells #[.slice BF F.length dF, .slice BT T.length dT, .slice BZ Z.length dZ] 31)) (F.length : Int) A cap l AF AT AZ cF cT cZ lo hi F T Z w4.heap.size BF dF BT dT BZ dZ ((((w.alloc (.cells #[.int .i64 (F.length : Int), .slice A l.length cap] 26)).alloc (.cells #[.slice AF F.length cF, .slice AT T.length cT, .slice AZ Z.length cZ] 31)).alloc (.cells #[.slice none 0 0, .slice none 0 0, .slice none 0 0] 31)).heap.size, w4.heap.size) F T from ⟨(HI0.out.below hb4).below hb5, cel3_new w4 (.slice BF F.length dF) (.slice BT T.length dT) (.slice BZ Z.length dZ) 31, ho.within (within_of hb5) (.inr (Nat.zero_le _)), by have := HS3.out; omega, by have := HS3.out; omega, .inl (Nat.le_refl _), hhi⟩); clear ho hb4 hb5 hz4 g0 g1 g2)
  generalize ((((w.alloc (.cells #[.int .i64 (F.length : Int), .slice A l.length cap] 26)).alloc (.cells #[.slice AF F.length cF, .slice AT T.length cT, .slice AZ Z.length cZ] 31)).alloc (.cells #[.slice none 0 0, .slice none 0 0, .slice none 0 0] 31)).heap.size, w4.heap.size) = r0 at *
  generalize hw5 : (w4.alloc (.cells #[.slice BF F.length dF, .slice BT T.length dT, .slice BZ Z.length dZ] 31)) = w5 at *
  clear hw5 HS3
  generalize w4.heap.size = bx at *
  go_loopw [] (fun wr => ∃ (F' T' : List Int) (BF BT BZ : Option Addr) (dF dT dZ : Nat) (r : Nat × Nat), PebS F.length k0 (plE l Z) F' T' ∧ gathR (plE l Z) a b want (F, T) = gathR (plE l Z) a b want (F', T') ∧ GasI w wr (F.length : Int) A cap l AF AT AZ cF cT cZ lo hi F T Z bx BF dF BT dT BZ dZ r F' T') (fun wr => (want - (atX wr bx a + atX wr bx b)).toNat)
  case atStart => exact ⟨F, T, BF, BT, BZ, dF, dT, dZ, r0, HS.out, rfl, HGI.out⟩
  case round =>
    clear HGI
    obtain ⟨F', T', BF, BT, BZ, dF, dT, dZ, r, hS', hg, hin⟩ := hrel
    have HG := Lib.hid hg
    have HS' := Lib.hid hS'
    have hfl := hS'.flen
    have HMA := Lib.hid (hin.at a (by omega))
    have HMB := Lib.hid (hin.at b (by omega))
    obtain ⟨fb, fo, rfl, hfc⟩ := row_at hin.o.own3.reads.f (by omega)
    have ha1 := hfc a (by omega)
    have hb1 := hfc b (by omega)
    have hsa := hS'.small (v := (a : Int)) (by omega)
    have hsb := hS'.small (v := (b : Int)) (by omega)
    rw [Int.toNat_natCast] at hsa hsb
    have HDN := Lib.hid (fun h : ¬ F'.getD a 0 + F'.getD b 0 < want => gathR_done (E := plE l Z) (a := (a : Int)) (b := (b : Int)) (want := want) (s := (F', T')) (by simpa using h))
    obtain ⟨d1, hd1⟩ : ∃ d1, F'.getD a 0 = d1 := ⟨_, rfl⟩
    obtain ⟨d2, hd2⟩ : ∃ d2, F'.getD b 0 = d2 := ⟨_, rfl⟩
    rw [hd1] at ha1 hsa HDN HMA
    rw [hd2] at hb1 hsb HDN HMB
    have HD := Lib.hid (And.intro hd1 hd2)
    have haF : (a : Int) < (F.length : Int) := by omega
    have hbF : (b : Int) < (F.length : Int) := by omega
    have HIN := Lib.hid hin
    have hcc := hin.x.cells.1
    have HL := Lib.hid (show F'.length = F.length ∧ T'.length = T.length from ⟨hfl, by rw [hS'.ends.len, HS.out.ends.len]⟩)
    clear hg hS' hfl hfc hd1 hd2 hin
    by_cases c1 : d1 + d2 < want
    · have e1 : decide (d1 + d2 < want) = true := by simpa using c1
      go_wp2_with fail
      go_big_quiet (fail)
      have HQ := Lib.hid (HIN.out.below (below_drewN wr.heap.size wr nq))
      have hC1 : F'.getD (a : Int).toNat 0 + F'.getD (b : Int).toNat 0 < want := by rw [Int.toNat_natCast, Int.toNat_natCast, HD.out.1, HD.out.2]; exact c1
      have HC1 := Lib.hid hC1
      clear hcc ha1 hb1 hC1
      generalize wr.drewN nq = w1 at *
      obtain ⟨_, gx0, gx1⟩ := HQ.out.g.gb
      obtain ⟨x0, x1, x2, _, _, _⟩ := HQ.out.x.cells
      obtain ⟨r1, hr1⟩ : ∃ r1, findM (plE l Z) (a : Int) (b : Int) (F', T') = r1 := ⟨_, rfl⟩
      cases r1 with
      | some s' =>
        have HF1 := Lib.hid hr1
        have HK := Lib.hid (show PebS F.length k0 (plE l Z) s'.1 s'.2 ∧ s'.1.getD a 0 + s'.1.getD b 0 = d1 + d2 + 1 from by
          obtain ⟨k1, k2, k3⟩ := findM_ok HS'.out (a := (a : Int)) (b := (b : Int)) (by omega) (by omega) (by omega) HF1.out
          rw [Int.toNat_natCast] at k2 k3
          refine ⟨k1, ?_⟩
          rw [k2, k3, HD.out.1, HD.out.2]; omega)
        clear hr1
        go_wp2_with (go_at_call 193; refine (HQ.out.find_yes (a := (a : Int)) (b := (b : Int)) HS.out HS'.out hP hk0 hn hz24 HZ.out (by omega) (by omega) (by omega) HF1.out).mono ?_; rintro e w6 ⟨CF, eF, CT, eT, CZ, eZ, rfl, hb6, ho6⟩; have hb7 := new_below w6 (.cells #[.slice CF F.length eF, .slice CT T.length eT, .slice CZ Z.length eZ] 31); have HI7 := Lib.hid ((HQ.out.below hb6).below hb7); have hy7 := cel3_new w6 (.slice CF F.length eF) (.slice CT T.length eT) (.slice CZ Z.length eZ) 31; obtain ⟨y0, y1, y2, _, _, _⟩ := hy7.cells; obtain ⟨z0, z1, z2, f0, f1, f2⟩ := HI7.out.x.cells; have HN := Lib.hid (HI7.out.put CF eF CT eT CZ eZ (w1.heap.size, w6.heap.size) s'.1 s'.2 (ho6.within (within_of hb7) (.inr (Nat.zero_le _))) HQ.out.x.lt); clear ho6 hb6 hb7 hy7 gx0 gx1 x0 x1 x2)
        go_roundw
        case rel => exact ⟨s'.1, s'.2, CF, CT, CZ, eF, eT, eZ, _, HK.out.1, HG.out.trans (gathR_one HC1.out HF1.out (by rw [Int.toNat_natCast, Int.toNat_natCast]; show s'.1.getD a 0 + s'.1.getD b 0 = F'.getD a 0 + F'.getD b 0 + 1; rw [HK.out.2, HD.out.1, HD.out.2])), HN.out⟩
        case measure =>
          have hlen : s'.1.length = F.length := HK.out.1.flen
          have q3 := HK.out.2
          rw [HN.out.at a (by omega), HN.out.at b (by omega), HMA.out, HMB.out]
          omega
      | none =>
        have HF1 := Lib.hid hr1
        obtain ⟨r2, hr2⟩ : ∃ r2, findM (plE l Z) (b : Int) (a : Int) (F', T') = r2 := ⟨_, rfl⟩
        cases r2 with
        | some s' =>
          have HF2 := Lib.hid hr2
          have HK := Lib.hid (show PebS F.length k0 (plE l Z) s'.1 s'.2 ∧ s'.1.getD a 0 + s'.1.getD b 0 = d1 + d2 + 1 from by
            obtain ⟨k1, k2, k3⟩ := findM_ok HS'.out (a := (b : Int)) (b := (a : Int)) (by omega) (by omega) (by omega) HF2.out
            rw [Int.toNat_natCast] at k2 k3
            refine ⟨k1, ?_⟩
            rw [k2, k3, HD.out.1, HD.out.2]; omega)
          clear hr1 hr2
          have hzz : ∀ W : World, ∀ o : Obj, (W.alloc o).heap.size = W.heap.size + 1 := fun W o => by simp
          have HZZ := Lib.hid hzz
          clear hzz
          go_wp2_with (first
            | (go_at_call 193; refine (HI7.out.find_yes (a := (b : Int)) (b := (a : Int)) HS.out HS'.out hP hk0 hn hz24 HZ.out (by omega) (by omega) (by omega) HF2.out).mono ?_; rintro e w8 ⟨CF, eF, CT, eT, CZ, eZ, rfl, hb8, ho8⟩; have HY8 := Lib.hid (HY7.out.kept hb8); have r3y := ret3 HY8.out (.slice CF F.length eF) (.slice CT T.length eT) (.slice CZ Z.length eZ); have hy8 := HZZ.out w6 (.cells #[.slice (some ⟨fb, fo, none⟩) F.length dF, .slice BT T.length dT, .slice BZ Z.length dZ] 31); have HI9 := Lib.hid ((HI7.out.below hb8).other r3y.2 (by have := HQ.out.lb; omega) (by omega) (by omega)); have HN := Lib.hid (HI9.out.put CF eF CT eT CZ eZ (_, _) s'.1 s'.2 (ho8.within r3y.2 (.inr (by omega))) (by show bx < (World.alloc _ _).heap.size; omega)); obtain ⟨_, _, _, k0', k1, k2⟩ := HY8.out.cells; obtain ⟨i0, i1, i2, _⟩ := r3y.1.cells; obtain ⟨j0, j1, j2, j3, j4, j5⟩ := HI9.out.x.cells; clear ho8 hb8 r3y hy8 z0 z1 z2 u0 u1 y0 y1 y2)
            | (go_at_call 193; refine (HQ.out.find_no (a := (a : Int)) (b := (b : Int)) HS.out HS'.out hP hk0 hn hz24 HZ.out (by omega) HF1.out).mono ?_; rintro e w6 ⟨rfl, hb6⟩; have hb7 := new_below w6 (.cells #[.slice (some ⟨fb, fo, none⟩) F.length dF, .slice BT T.length dT, .slice BZ Z.length dZ] 31); have HI7 := Lib.hid ((HQ.out.below hb6).below hb7); have HY7 := Lib.hid (cel3_new w6 (.slice (some ⟨fb, fo, none⟩) F.length dF) (.slice BT T.length dT) (.slice BZ Z.length dZ) 31); have hlo6 := hb6.size; have hq2 := HQ.out.o.hi; have hq3 := HQ.out.x.lt; obtain ⟨z0, z1, z2, _, _, _⟩ := HI7.out.x.cells; obtain ⟨_, u0, u1⟩ := HI7.out.g.gb; obtain ⟨y0, y1, y2, _, _, _⟩ := HY7.out.cells; clear hb6 hb7 gx0 gx1 x0 x1 x2))
          go_roundw
          case rel => exact ⟨s'.1, s'.2, CF, CT, CZ, eF, eT, eZ, _, HK.out.1, HG.out.trans (gathR_two HC1.out HF1.out HF2.out (by rw [Int.toNat_natCast, Int.toNat_natCast]; show s'.1.getD a 0 + s'.1.getD b 0 = F'.getD a 0 + F'.getD b 0 + 1; rw [HK.out.2, HD.out.1, HD.out.2])), HN.out⟩
          case measure =>
            have hlen : s'.1.length = F.length := HK.out.1.flen
            have q3 := HK.out.2
            rw [HN.out.at a (by omega), HN.out.at b (by omega), HMA.out, HMB.out]
            omega
        | none =>
          have HF2 := Lib.hid hr2
          clear hr1 hr2
          have hzz : ∀ W : World, ∀ o : Obj, (W.alloc o).heap.size = W.heap.size + 1 := fun W o => by simp
          have HZZ := Lib.hid hzz
          clear hzz
          go_wp2_with (first
            | (go_at_call 193; refine (HI7.out.find_no (a := (b : Int)) (b := (a : Int)) HS.out HS'.out hP hk0 hn hz24 HZ.out (by omega) HF2.out).mono ?_; rintro e w8 ⟨rfl, hb8⟩; have HY8 := Lib.hid (HY7.out.kept hb8); have r3y := ret3 HY8.out (.slice (some ⟨fb, fo, none⟩) F.length dF) (.slice BT T.length dT) (.slice BZ Z.length dZ); have HI9 := Lib.hid ((HI7.out.below hb8).other r3y.2 (by have := HQ.out.lb; omega) (by omega) (by omega)); have r3 := ret3 HI9.out.g.rb (.slice (some ⟨fb, fo, none⟩) F.length dF) (.slice BT T.length dT) (.slice BZ Z.length dZ); obtain ⟨s0, s1, s2, _⟩ := r3.1.cells; have HW := Lib.hid r3.2; obtain ⟨_, _, _, f0, f1, f2⟩ := HI9.out.g.rb.cells; obtain ⟨_, _, _, k0', k1, k2⟩ := HY8.out.cells; obtain ⟨i0, i1, i2, _⟩ := r3y.1.cells; obtain ⟨j0, j1, j2, j3, j4, j5⟩ := HI9.out.x.cells; clear hb8 r3y r3 z0 z1 z2 u0 u1 y0 y1 y2)
            | (go_at_call 193; refine (HQ.out.find_no (a := (a : Int)) (b := (b : Int)) HS.out HS'.out hP hk0 hn hz24 HZ.out (by omega) HF1.out).mono ?_; rintro e w6 ⟨rfl, hb6⟩; have hb7 := new_below w6 (.cells #[.slice (some ⟨fb, fo, none⟩) F.length dF, .slice BT T.length dT, .slice BZ Z.length dZ] 31); have HI7 := Lib.hid ((HQ.out.below hb6).below hb7); have HY7 := Lib.hid (cel3_new w6 (.slice (some ⟨fb, fo, none⟩) F.length dF) (.slice BT T.length dT) (.slice BZ Z.length dZ) 31); have hlo6 := hb6.size; have hq2 := HQ.out.o.hi; have hq3 := HQ.out.x.lt; obtain ⟨z0, z1, z2, _, _, _⟩ := HI7.out.x.cells; obtain ⟨_, u0, u1⟩ := HI7.out.g.gb; obtain ⟨y0, y1, y2, _, _, _⟩ := HY7.out.cells; clear hb6 hb7 gx0 gx1 x0 x1 x2))
          refine bodyPost_ret (v := .tuple #[pebV (some ⟨fb, fo, none⟩) F.length dF BT T.length dT BZ Z.length dZ, .bool false]) ?_ rfl ?_
          · simp [results, Try.results127, go_sem, s0, s1, s2]
          · have hg9 := HI9.out.g.bel
            exact ⟨within_on hg9 HW.out hg9.size (.inl (by omega)), _, _, _, _, _, _, .inl ⟨rfl, by rw [HG.out]; exact gathR_no HC1.out HF1.out HF2.out⟩⟩
    · have e1 : decide (d1 + d2 < want) = false := by simpa using c1
      go_wp2_with fail
      go_big_quiet (fail)
      have HQ := Lib.hid (HIN.out.below (below_drewN wr.heap.size wr nq))
      clear hcc ha1 hb1
      generalize wr.drewN nq = w1 at *
      have r3 := ret3 HQ.out.g.rb (.slice (some ⟨fb, fo, none⟩) F.length dF) (.slice BT T.length dT) (.slice BZ Z.length dZ)
      obtain ⟨s0, s1, s2, _⟩ := r3.1.cells
      have HW := Lib.hid r3.2
      obtain ⟨_, _, _, f0, f1, f2⟩ := HQ.out.g.rb.cells
      obtain ⟨v0, v1, v2, _, _, _⟩ := HQ.out.x.cells
      clear r3
      go_wp2_with fail
      refine bodyPost_ret (v := .tuple #[pebV (some ⟨fb, fo, none⟩) F.length dF BT T.length dT BZ Z.length dZ, .bool true]) ?_ rfl ?_
      · simp [results, Try.results127, go_sem, s0, s1, s2]
      · have hg9 := HQ.out.g.bel
        have hlr := HQ.out.lr
        exact ⟨within_on hg9 HW.out hg9.size (.inl (by omega)), _, _, _, _, _, _, .inr ⟨(F', T'), rfl, by rw [HG.out]; exact HDN.out c1, HL.out.1, HL.out.2, (HQ.out.o.within HW.out (.inr (by omega))).widen (by omega) (by have := HW.out.size; have := HQ.out.o.hi; omega) (Nat.le_refl _)⟩⟩
end Go.Proofs.Ytdkpmaahinbhlaa
