/- What spec.l4Gather answers on a list of up to 25 bars. No condition. -/
import Derived.Test.YtggibhhdnlifcaaGathS
import Derived.Deep.QuietTactic
import Derived.BigQuiet
import Derived.Deep.RegionHeld3
namespace Go.Proofs.Ytggibhhdnlifcaa
open Go.RowKit

set_option maxHeartbeats 4000000 in
set_option maxRecDepth 100000 in
theorem shift5_c (P : Nat) (l : List (Int × Int)) (A : Option Addr) (cap : Nat) (AF AT AZ : Option Addr) (cF cT cZ lo hi : Nat) (F T Z : List Int) (a u : Int) (q : List (Int × Nat)) (TF FR : List Int) (Af : Option Addr) (cf lf hf : Nat) (w : World) (hl : BarsAt w w.heap.size A l) (h : Peb3 w lo hi AF AT AZ F T Z) (hn : l.length ≤ 25) (hFP : F.length = P) (hP : 1 ≤ P ∧ P ≤ 8) (hTZ : T.length = Z.length) (hZ24 : Z.length ≤ 24)
    (hZ : ∀ i, i < Z.length → 0 ≤ Z.getD i 0 ∧ Z.getD i 0 < (l.length : Int)) (hq : TurnI P (plE l Z) T a q TF u T) (hfr : IntsIn w lf hf Af FR) (hFR : FR.length = P) (hfq : ∀ x ∈ q, x.1 ≠ a → FR.getD x.1.toNat 0 = (x.2 : Int)) (ha : 0 ≤ a ∧ a < (P : Int)) (hu : 0 ≤ u ∧ u < (P : Int)) (hua : u ≠ a) (hFu : 0 ≤ F.getD u.toNat 0 ∧ F.getD u.toNat 0 ≤ 3) (hFa : 0 ≤ F.getD a.toNat 0 ∧ F.getD a.toNat 0 ≤ 3) :
    Calls Try.prog 204 #[.agg #[.int .i64 (P : Int), .slice A l.length cap], pebV AF F.length cF AT T.length cT AZ Z.length cZ, .slice Af FR.length cf, .int .i64 a, .int .i64 u] w (PebR w (movF F a u) TF Z) := by
  obtain ⟨an, rfl⟩ : ∃ an : Nat, a = (an : Int) := ⟨a.toNat, by omega⟩
  obtain ⟨un, rfl⟩ : ∃ un : Nat, u = (un : Int) := ⟨u.toNat, by omega⟩
  rw [Int.toNat_natCast] at hFu hFa
  subst hFP
  have hT0 : 0 < T.length := by
    obtain ⟨i, _, hi, _⟩ := hq.next hua
    rw [plE_len] at hi
    omega
  have hT24 : T.length ≤ 24 := by omega
  have HTZ := Lib.hid hTZ
  have HFL := Lib.hid hFR
  clear hTZ hFR
  have hhi : hi ≤ w.heap.size := h.f.1
  have hhf : hf ≤ w.heap.size := hfr.1
  have HI0 := Lib.hid (GtI.start w (F.length : Int) A cap l AF AT AZ cF cT cZ lo hi F T Z hl h)
  have HFR0 := Lib.hid (hfr.within (within_of HI0.out.bel) (.inr (Nat.zero_le _)))
  have HQ := Lib.hid hq
  have HZ := Lib.hid hZ
  have HFQ := Lib.hid hfq
  have HE := Lib.hid (fun i hi => plE_get l Z i hi)
  have HEL := Lib.hid (plE_len l Z)
  generalize plE l Z = E at *
  obtain ⟨g0, g1, g2, _, _, _⟩ := HI0.out.pb.cells
  clear hl h hfr hq hZ hfq
  go_enter Try.func204, Try.ntmps204
  have hsz3 : (((w.alloc (.cells #[.int .i64 (F.length : Int), .slice A l.length cap] 30)).alloc (.cells #[.slice AF F.length cF, .slice AT T.length cT, .slice AZ Z.length cZ] 63)).alloc (.cells #[.slice none 0 0, .slice none 0 0, .slice none 0 0] 63)).heap.size = w.heap.size + 3 := by simp
  go_wp2_with (go_at_call 130; refine (copyPeb_c AF AT AZ cF cT cZ lo hi F T Z _ HI0.out.src (by omega) (by omega) (by omega)).mono ?_; rintro e w4 ⟨BF, dF, BT, dT, BZ, dZ, rfl, ho, hb⟩; have hb5 := new_below w4 (.cells #[.slice BF F.length dF, .slice BT T.length dT, .slice BZ Z.length dZ] 63); have HI5 := Lib.hid ((HI0.out.below hb).below hb5); have HX5 := Lib.hid (cel3_new w4 (.slice BF F.length dF) (.slice BT T.length dT) (.slice BZ Z.length dZ) 63); have HFR5 := Lib.hid ((HFR0.out.within (within_of hb) (.inr (Nat.zero_le _))).within (within_of hb5) (.inr (Nat.zero_le _))); obtain ⟨f, t, z, hof, y1, y2, y3⟩ := ho.ownF; have HO5 := Lib.hid (hof.below hb5); have hh4 := hof.hi; clear hof; have hlo := hb.size; rw [hsz3] at hlo y1 y2 y3; obtain ⟨x2, x3, x4, _, _, _⟩ := HX5.out.cells; clear ho hb hb5 g0 g1 g2)
  clear x2 x3 x4
  have HIS := Lib.hid hsz3
  clear hsz3
  generalize hw5 : (w4.alloc (.cells #[.slice BF F.length dF, .slice BT T.length dT, .slice BZ Z.length dZ] 63)) = w5 at *
  have hs5 : w4.heap.size < w5.heap.size := by rw [← hw5]; simp
  clear hw5
  generalize w4.heap.size = bx at *
  obtain ⟨gF, gT, rfl, rfl, bF, bT, hst⟩ := HO5.out.open_ (by omega) hT0
  have HOZ := Lib.hid HO5.out.2.2
  obtain ⟨hc1, hf1⟩ := hst.cellF un (by omega)
  obtain ⟨d, hd⟩ : ∃ d, d = F.getD un 0 := ⟨_, rfl⟩
  obtain ⟨e, he⟩ : ∃ e, e = F.getD an 0 := ⟨_, rfl⟩
  have hne : an ≠ un := by omega
  have hst1 := hst.setF un (d - 1)
  have HEE := Lib.hid he
  rw [← hd] at hc1 hFu
  rw [← he] at hFa
  have HMV := Lib.hid (show (F.set un (d - 1)).set an (e + 1) = movF F (an : Int) (un : Int) by unfold movF; rw [Int.toNat_natCast, Int.toNat_natCast, hd, he])
  clear hd he
  have hw1 := within_set w5 gF un (.int .i64 (d - 1))
  have hdr : Below (w5.setCell ⟨gF, un, none⟩ (.int .i64 (d - 1))).heap.size (w5.setCell ⟨gF, un, none⟩ (.int .i64 (d - 1))) (w5.setCell ⟨gF, un, none⟩ (.int .i64 (d - 1))).drew := (Below.refl _ _).drew
  obtain ⟨x0, x1, x2, _, _, _⟩ := HX5.out.cells
  have HI6 := Lib.hid ((HI5.out.within hw1 (by omega) (by omega)).below hdr)
  have HX6 := Lib.hid ((HX5.out.within hw1 (by omega)).kept hdr)
  have HST6 := Lib.hid (hst1.below hdr)
  have HFR6 := Lib.hid ((HFR5.out.within hw1 (by omega)).within (within_of hdr) (.inr (Nat.zero_le _)))
  have HOZ6 := Lib.hid ((HOZ.out.1.within hw1 (by have := HOZ.out.2; unfold Dis at this; omega)).within (within_of hdr) (.inr (Nat.zero_le _)))
  have HZR := Lib.hid HOZ.out.2
  have hs6 := Nat.le_trans hw1.size hdr.size
  clear hst hst1 hw1 hdr HOZ
  have huF : (un : Int) < (F.length : Int) := hu.2
  have haF : (an : Int) < (F.length : Int) := ha.2
  go_region
  go_wp2_with fail
  clear x0 x1 x2 hc1 hf1
  generalize (w5.setCell ⟨gF, un, none⟩ (.int .i64 (d - 1))).drew = w6 at *
  obtain ⟨x0, x1, x2, _, _, _⟩ := HX6.out.cells
  obtain ⟨hc2, hf2⟩ := HST6.out.cellF an (by rw [List.length_set]; omega)
  rw [set_getD_ne _ _ _ _ _ hne, ← HEE.out] at hc2
  have hw2 := within_set w6 gF an (.int .i64 (e + 1))
  have hdr2 : Below (w6.setCell ⟨gF, an, none⟩ (.int .i64 (e + 1))).heap.size (w6.setCell ⟨gF, an, none⟩ (.int .i64 (e + 1))) (w6.setCell ⟨gF, an, none⟩ (.int .i64 (e + 1))).drew := (Below.refl _ _).drew
  have hst7 := (HST6.out.setF an (e + 1)).below hdr2
  rw [HMV.out] at hst7
  have HS7 := Lib.hid (show ShL w (w6.setCell ⟨gF, an, none⟩ (.int .i64 (e + 1))).drew (F.length : Int) A cap l AF AT AZ cF cT cZ lo hi F T Z bx gF dF gT dT BZ dZ z lf hf Af FR (movF F (an : Int) (un : Int)) T from ⟨(HI6.out.within hw2 (by omega) (by omega)).below hdr2, (HX6.out.within hw2 (by omega)).kept hdr2, hst7, (HFR6.out.within hw2 (by omega)).within (within_of hdr2) (.inr (Nat.zero_le _)), (HOZ6.out.within hw2 (by have := HZR.out; unfold Dis at this; omega)).within (within_of hdr2) (.inr (Nat.zero_le _))⟩)
  have hs7 := Nat.le_trans hw2.size hdr2.size
  clear hst7 hw2 hdr2 HI6 HX6 HST6 HFR6 HOZ6 HMV HEE
  go_region
  go_wp2_with fail
  clear x0 x1 x2 hc2 hf2
  generalize (w6.setCell ⟨gF, an, none⟩ (.int .i64 (e + 1))).drew = w7 at *
  go_loopw [12] (fun v wr => ∃ (t : Int) (T' : List Int), v = .int .i64 t ∧ TurnI F.length E T (an : Int) q TF t T' ∧ w5.heap.size ≤ wr.heap.size ∧ ShL w wr (F.length : Int) A cap l AF AT AZ cF cT cZ lo hi F T Z bx gF dF gT dT BZ dZ z lf hf Af FR (movF F (an : Int) (un : Int)) T') (fun v _ => posQ q (intOf v))
  case atStart => exact ⟨un, T, rfl, HQ.out, by omega, HS7.out⟩
  case round =>
    obtain ⟨t, T', rfl, ht, hsz, hs⟩ := hrel
    have HS := Lib.hid hs
    obtain ⟨x0, x1, x2, _, _, _⟩ := hs.x.cells
    clear hs HS7
    by_cases c : t = (an : Int)
    · subst c
      have HTF := Lib.hid ht.done
      have hlen := ht.len
      clear ht
      have e1 : ((an : Int) != (an : Int)) = false := by simp
      have r3 := ret3 HS.out.g.rb (.slice (some ⟨gF, 0, none⟩) F.length dF) (.slice (some ⟨gT, 0, none⟩) T.length dT) (.slice BZ Z.length dZ)
      obtain ⟨_, _, _, f0, f1, f2⟩ := HS.out.g.rb.cells
      obtain ⟨s0, s1, s2, _⟩ := r3.1.cells
      have HW := Lib.hid r3.2
      clear r3
      go_wp2_with fail
      refine bodyPost_ret (v := pebV (some ⟨gF, 0, none⟩) F.length dF (some ⟨gT, 0, none⟩) T.length dT BZ Z.length dZ) ?_ rfl ?_
      · simp [results, Try.results204, go_sem, s0, s1, s2]
      · have hd := HZR.out
        unfold Dis at hd
        have ho := HS.out.s.ownF bF bT (by omega) (by omega) HS.out.oz hd.1 hd.2.1 hd.2.2
        have hw := HW.out.size
        have hTF : TF.length = T.length := by rw [← HTF.out, hlen, HEL.out, HTZ.out]
        rw [HTF.out] at ho
        exact ⟨_, _, _, _, _, _, by rw [movF_len, hTF], (ho.within HW.out (by omega) (by omega) (by omega)).own3R (by omega) (by omega) (by omega) (Nat.le_refl _), within_on HS.out.g.bel HW.out HS.out.g.bel.size (.inl (by omega))⟩
    · have e1 : (t != (an : Int)) = true := by simpa using c
      obtain ⟨i, hi1, hi2, hi3, hi4, hend, hor, hi5, hi6⟩ := ht.next c
      have HX := Lib.hid hi5
      have HM := Lib.hid hi6
      have hEi := HE.out i (by have := HEL.out; omega)
      have hbar := ht.ends.bar i hi2
      have hfi := HFQ.out (t, i) hi1 c
      have hiZ : i < Z.length := by have := HEL.out; omega
      have hlen := ht.len
      clear ht hi1 hi4 hi5 hi6 c
      obtain ⟨tn, rfl⟩ : ∃ tn : Nat, t = (tn : Int) := ⟨t.toNat, by omega⟩
      simp only [Int.toNat_natCast] at hfi
      obtain ⟨fb, fo, rfl, hfc⟩ := row_at HS.out.fr (by have := HFL.out; omega)
      have hfn := hfc tn (by have := HFL.out; omega)
      rw [hfi] at hfn
      obtain ⟨zb, zo, rfl, hzc⟩ := row_at HS.out.g.src.z (by omega)
      have hz := hzc i hiZ
      have hzr := HZ.out i hiZ
      obtain ⟨n, hnz⟩ : ∃ n : Nat, Z.getD i 0 = (n : Int) := ⟨(Z.getD i 0).toNat, by omega⟩
      rw [hnz] at hz hzr hEi
      rw [Int.toNat_natCast] at hEi
      obtain ⟨b, off, rfl, hbB, hbc⟩ := HS.out.g.bars.at (by omega)
      have hx1 := (hbc n (by omega)).1
      have hx2 := (hbc n (by omega)).2
      rw [← hEi] at hx1 hx2
      obtain ⟨v, hv⟩ : ∃ v, oth (E.getD i (0, 0)) (tn : Int) = v := ⟨_, rfl⟩
      obtain ⟨x, hxd⟩ : ∃ x, E.getD i (0, 0) = x := ⟨_, rfl⟩
      rw [hv] at HX HM hor
      rw [hxd] at hx1 hx2 hbar hend hv
      clear hEi hxd hzc hbc hfc hnz
      obtain ⟨x1', x2'⟩ := x
      simp only at hx1 hx2 hbar
      have HV := Lib.hid hv
      clear hv hend
      have htF : (tn : Int) < (FR.length : Int) := by have := HFL.out; omega
      have hiZi : (i : Int) < (Z.length : Int) := by omega
      have hnl : (n : Int) < (l.length : Int) := by omega
      have hiT : (i : Int) < (T.length : Int) := by have := HTZ.out; omega
      obtain ⟨_, gx0, gx1⟩ := HS.out.g.gb
      obtain ⟨p0, p1, p2, _, _, _⟩ := HS.out.g.pb.cells
      have HKK := Lib.hid (show (fun W' => W'.cell? ⟨w.heap.size, 1, none⟩ = some (.slice (some ⟨b, off, none⟩) l.length cap) ∧ W'.cell? ⟨w.heap.size + 1, 2, none⟩ = some (.slice (some ⟨zb, zo, none⟩) Z.length cZ) ∧ W'.cell? ⟨zb, zo + i, none⟩ = some (.int .i64 (n : Int)) ∧ W'.cell? ⟨b, off + n * 2, none⟩ = some (.int .i64 x1') ∧ W'.cell? ⟨b, off + n * 2 + 1, none⟩ = some (.int .i64 x2')) wr from ⟨gx1, p2, hz, hx1, hx2⟩)
      have HSD := Lib.hid (HS.out.below (Below.refl _ _).drew)
      go_wp2_with fail
      clear gx0 gx1 p0 p1 p2 x0 x1 x2
      go_region_held3 (fun W' => W'.cell? ⟨w.heap.size, 1, none⟩ = some (.slice (some ⟨b, off, none⟩) l.length cap) ∧ W'.cell? ⟨w.heap.size + 1, 2, none⟩ = some (.slice (some ⟨zb, zo, none⟩) Z.length cZ) ∧ W'.cell? ⟨zb, zo + i, none⟩ = some (.int .i64 (n : Int)) ∧ W'.cell? ⟨b, off + n * 2, none⟩ = some (.int .i64 x1') ∧ W'.cell? ⟨b, off + n * 2 + 1, none⟩ = some (.int .i64 x2'))
        (first | exact HKK.out | exact HK5.out | fail)
        (first | (go_at_call 197; refine (other_c (x1', x2') (tn : Int) _ (by omega) (by omega) (by omega)).mono ?_; rintro e w8 ⟨rfl, hb⟩; rw [HV.out]; have HS8 := Lib.hid (HSD.out.below hb); have hsz8 := hb.size; have HK5 := Lib.hid (show (fun W' => W'.cell? ⟨w.heap.size, 1, none⟩ = some (.slice (some ⟨b, off, none⟩) l.length cap) ∧ W'.cell? ⟨w.heap.size + 1, 2, none⟩ = some (.slice (some ⟨zb, zo, none⟩) Z.length cZ) ∧ W'.cell? ⟨zb, zo + i, none⟩ = some (.int .i64 (n : Int)) ∧ W'.cell? ⟨b, off + n * 2, none⟩ = some (.int .i64 x1') ∧ W'.cell? ⟨b, off + n * 2 + 1, none⟩ = some (.int .i64 x2')) w8 from ⟨HS8.out.g.gb.2.2, HS8.out.g.pb.cells.2.2.1, (hb.cell (p := ⟨zb, zo + i, none⟩) (World.block_lt_of_cell? _ _ HKK.out.2.2.1)).trans HKK.out.2.2.1, (hb.cell (p := ⟨b, off + n * 2, none⟩) (World.block_lt_of_cell? _ _ HKK.out.2.2.2.1)).trans HKK.out.2.2.2.1, (hb.cell (p := ⟨b, off + n * 2 + 1, none⟩) (World.block_lt_of_cell? _ _ HKK.out.2.2.2.2)).trans HKK.out.2.2.2.2⟩); clear hb))
      obtain ⟨y0, y1', y2', _, _, _⟩ := HS8.out.x.cells
      obtain ⟨hct, hft⟩ := HS8.out.s.cellT i (by omega)
      have hd := HZR.out
      unfold Dis at hd
      have HN := Lib.hid (HS8.out.setT (by omega) (by omega) (by omega) (by omega) (by omega) i (tn : Int))
      go_wp2_with fail
      go_roundw
      case rel => exact ⟨v, _, rfl, HX.out, by simpa using (by have : wr.drew.heap.size = wr.heap.size := rfl; omega), HN.out⟩
      case measure => exact HM.out
set_option maxHeartbeats 8000000 in
set_option maxRecDepth 100000 in
theorem find5_c (k0 : Int) (l : List (Int × Int)) (A : Option Addr) (cap : Nat) (AF AT AZ : Option Addr) (cF cT cZ lo hi : Nat) (F T Z : List Int) (a b : Int) (w : World) (hS : PebS F.length k0 (plE l Z) F T) (hP : 1 ≤ F.length ∧ F.length ≤ 8) (hk0 : k0 ≤ 3) (hn : l.length ≤ 25) (hz24 : Z.length ≤ 24)
    (hZ : ∀ i, i < Z.length → 0 ≤ Z.getD i 0 ∧ Z.getD i 0 < (l.length : Int)) (ha : 0 ≤ a ∧ a < (F.length : Int)) (hl : BarsAt w w.heap.size A l) (h : Peb3 w lo hi AF AT AZ F T Z) :
    Calls Try.prog 182 #[.agg #[.int .i64 (F.length : Int), .slice A l.length cap], pebV AF F.length cF AT T.length cT AZ Z.length cZ, .int .i64 a, .int .i64 b] w (FindP w (pebV AF F.length cF AT T.length cT AZ Z.length cZ) (plE l Z) F T Z a b) := by
  obtain ⟨an, rfl⟩ : ∃ an : Nat, a = (an : Int) := ⟨a.toNat, by omega⟩
  have hhi : hi ≤ w.heap.size := h.f.1
  have HI0 := Lib.hid (GtI.start w (F.length : Int) A cap l AF AT AZ cF cT cZ lo hi F T Z hl h)
  have HTZ := Lib.hid (show T.length = Z.length by rw [hS.ends.len, plE_len])
  have HE := Lib.hid (show ∀ i, i < Z.length → (plE l Z).getD i (0, 0) = l.getD (Z.getD i 0).toNat (0, 0) from fun i hi => plE_get l Z i hi)
  have HG := Lib.hid (fun k => bfs_good (T := T) hS.ends ha.1 ha.2 k)
  have HS := Lib.hid hS
  have HZ := Lib.hid hZ
  have HEL := Lib.hid (plE_len l Z)
  have HSH := Lib.hid (fun (u : Int) (q : List (Int × Nat)) (TF FR : List Int) (Af : Option Addr) (cf lf hf : Nat) (W : World) (h1 : BarsAt W W.heap.size A l) (h2 : Peb3 W lo hi AF AT AZ F T Z) (h3 : TurnI F.length (plE l Z) T (an : Int) q TF u T) (h4 : IntsIn W lf hf Af FR) (h5 : FR.length = F.length) (h6 : ∀ x ∈ q, x.1 ≠ (an : Int) → FR.getD x.1.toNat 0 = (x.2 : Int)) (h7 : 0 ≤ u ∧ u < (F.length : Int)) (h8 : u ≠ (an : Int)) => shift5_c F.length l A cap AF AT AZ cF cT cZ lo hi F T Z (an : Int) u q TF FR Af cf lf hf W h1 h2 hn rfl hP (by rw [hS.ends.len, plE_len]) hz24 hZ h3 h4 h5 h6 ha h7 h8 (by have := hS.small h7; omega) (by have := hS.small ha; omega))
  generalize plE l Z = E at *
  clear hS hZ hl h
  have hs3 : (((w.alloc (.cells #[.int .i64 (F.length : Int), .slice A l.length cap] 30)).alloc (.cells #[.slice AF F.length cF, .slice AT T.length cT, .slice AZ Z.length cZ] 63)).alloc (.cells #[.slice none 0 0, .slice none 0 0, .slice none 0 0] 63)).heap.size = w.heap.size + 3 := by simp
  have HS3 := Lib.hid hs3
  clear hs3
  go_enter Try.func182, Try.ntmps182
  obtain ⟨_, g0, g1⟩ := HI0.out.gb
  go_wp2_with (at_make; generalize (((w.alloc (.cells #[.int .i64 (F.length : Int), .slice A l.length cap] 30)).alloc (.cells #[.slice AF F.length cF, .slice AT T.length cT, .slice AZ Z.length cZ] 63)).alloc (.cells #[.slice none 0 0, .slice none 0 0, .slice none 0 0] 63)) = w3 at *; refine wpList_mkn _ rfl _ _ 61 rfl w3.heap.size 3 (.int .i64 0) 8 Try.underlying61 infoInt rfl _ _ _ _ F.length rfl rfl rfl rfl (by omega) (by unfold maxLen; omega) (Nat.le_refl _) ?_; intro w4 hown4 hb4; have HO4 := Lib.hid hown4; have HI4 := Lib.hid (HI0.out.below hb4); have hsz4 := (hown4.lt _ rfl).2; clear hown4 hb4)
  clear g0 g1 HI0
  have hgf : w.heap.size + 3 ≤ w3.heap.size := Nat.le_of_eq HS3.out.symm
  clear HS3
  generalize w3.heap.size = gf at *
  go_loopw [11] (fun i wr => ∃ (j : Nat) (FR : List Int), j ≤ F.length ∧ i = .int .i64 j ∧ FR.length = F.length ∧ gf < wr.heap.size ∧ wr.ownsRow gf 3 1 (.slice (some ⟨gf, 0, none⟩) F.length F.length) F.length (intCells FR) ∧ GtI w wr (F.length : Int) A cap l AF AT AZ cF cT cZ lo hi F T Z) (fun i _ => F.length - (intOf i).toNat)
  case atStart => exact ⟨0, List.replicate F.length 0, Nat.zero_le _, rfl, by simp, hsz4, by simpa [intCells] using HO4.out, HI4.out⟩
  case round =>
    clear HO4 HI4 hsz4
    obtain ⟨j, FR, hj, rfl, hfl, hsz, hown, hg⟩ := hrel
    have HO := Lib.hid hown
    have HGI := Lib.hid hg
    have HFL := Lib.hid hfl
    obtain ⟨_, g0, g1⟩ := hg.gb
    clear hown hg hfl
    by_cases hlt : j < F.length
    · have hji : (j : Int) < (F.length : Int) := by omega
      have hf := HO.out.frozenAt j
      have hc := (HO.out.cellAt j (show j < F.length * 1 by omega)).trans (intCells_get FR j (by rw [HFL.out]; exact hlt))
      have hst := (HO.out.stored j (.int .i64 (-1))).1
      rw [intCells_set] at hst
      have hw := within_set wr gf j (.int .i64 (-1))
      have HN := Lib.hid (show (wr.setCell ⟨gf, j, none⟩ (.int .i64 (-1))).ownsRow gf 3 1 (.slice (some ⟨gf, 0, none⟩) F.length F.length) F.length (intCells (FR.set j (-1))) from hst)
      have HGN := Lib.hid (HGI.out.within hw (by omega) (by omega))
      clear hst hw
      go_wp2_with fail
      go_roundw
      case rel => exact ⟨j + 1, FR.set j (-1), by omega, by go_num, by rw [List.length_set]; exact HFL.out, by simpa using hsz, HN.out, HGN.out⟩
      case measure => simp [intOf]; omega
    · obtain rfl : j = F.length := by omega
      have hal := new_below wr (.cells #[.int .i64 (an : Int)] 3)
      have hrow := World.ownsRow_lit (base := w.heap.size + 3) (e := 3) (size := 1) wr #[.int .i64 (an : Int)] 1 (by omega) (by unfold maxLen; omega) (by simp)
      have HQ0 := Lib.hid hrow
      have HO5 := Lib.hid (own_below HO.out hal)
      have HG5 := Lib.hid (HGI.out.below hal)
      have hs5 : (wr.alloc (.cells #[.int .i64 (an : Int)] 3)).heap.size = wr.heap.size + 1 := by simp
      have HS5 := Lib.hid hs5
      obtain ⟨_, k0', k1⟩ := HG5.out.gb
      have haF : (an : Int) < (F.length : Int) := ha.2
      clear hal hrow hs5
      go_wp2_with (at_make; generalize (wr.alloc (.cells #[.int .i64 (an : Int)] 3)) = w5 at *; refine wpList_mkn _ rfl _ _ 183 rfl w5.heap.size 4 (.bool false) 1 Try.underlying183 infoB1 rfl _ _ _ _ F.length rfl rfl rfl rfl (by omega) (by unfold maxLen; omega) (Nat.le_refl _) ?_; intro w6 hown6 hb6; have hf6 := hown6.frozenAt an; have hc6 := hown6.cellAt an (show an < F.length * 1 by omega); have hc6' : w6.cell? ⟨w5.heap.size, an, none⟩ = some (.bool false) := hc6.trans (by rw [List.getElem?_replicate, if_pos (show an < F.length by omega)]); have HO6 := Lib.hid hown6; have HB6 := Lib.hid hb6; clear hown6 hb6 hc6 k0' k1 g0 g1)
      clear hf6 hc6'
      have hst := (HO6.out.stored an (.bool true)).1
      rw [seenC_one] at hst
      have hw6 := within_set w6 w5.heap.size an (.bool true)
      have hs5 : wr.heap.size < w5.heap.size := by have := HS5.out; omega
      have hlt3 := hsz
      have HFI := Lib.hid (show FindI w (w6.setCell ⟨w5.heap.size, an, none⟩ (.bool true)) (F.length : Int) A cap l AF AT AZ cF cT cZ lo hi F T Z gf w5.heap.size FR (an : Int) [((an : Int), 0)] [((an : Int), 0)] (.slice (some ⟨wr.heap.size, 0, none⟩) 1 1) from ⟨(HG5.out.below HB6.out).within hw6 (by omega) (by omega), own_block (own_below HO5.out HB6.out) (hw6.block _ (Nat.lt_of_lt_of_le (HO5.out.lt _ rfl).2 HB6.out.size) (by omega)), hst, own_block (own_below HQ0.out HB6.out) (hw6.block _ (by have := HB6.out.size; omega) (by omega)), fun g hg => (show wr.heap.size = g by simpa [Value.ownBlock] using hg) ▸ (show wr.heap.size ≠ gf ∧ wr.heap.size ≠ w5.heap.size by omega), by omega, by omega, by omega, by omega, HFL.out, fun x hx hxa => absurd (congrArg Prod.fst (show x = ((an : Int), 0) by simpa using hx)) hxa⟩)
      clear hst hw6
      generalize w5.heap.size = gs at *
      generalize (w6.setCell ⟨gs, an, none⟩ (.bool true)) = w7 at *
      clear HQ0 HO5 HG5 HS5 HO HGI
      go_loopw [12, 14] (fun qv i wr' => ∃ (k : Nat) (FR : List Int), k ≤ (bfs E T (an : Int) k).length ∧ i = .int .i64 k ∧ (∀ y ∈ bfs E T (an : Int) k, givesB F (an : Int) b y = false) ∧ FindI w wr' (F.length : Int) A cap l AF AT AZ cF cT cZ lo hi F T Z gf gs FR (an : Int) (bfs E T (an : Int) k) (bfs E T (an : Int) k) qv) (fun _ i _ => 9 - (intOf i).toNat)
      case atStart => exact ⟨0, FR, Nat.zero_le _, rfl, fun y hy => by obtain rfl : y = ((an : Int), 0) := by simpa [bfs] using hy
                                                                       simp [givesB], HFI.out⟩
      case round =>
        clear HFI HFL
        obtain ⟨k, FR, hk, rfl, hno, hin⟩ := hrel
        have HIN := Lib.hid hin
        have HNO := Lib.hid hno
        have hshort := (HG.out k).short
        obtain ⟨A', c', rfl⟩ := own_shape hin.qu
        clear hno
        by_cases hlt : k < (bfs E T (an : Int) k).length
        · have hki : (k : Int) < ((bfs E T (an : Int) k).length : Int) := by omega
          obtain ⟨gq, rfl⟩ : ∃ gq, A' = some ⟨gq, 0, none⟩ := by
            rcases hin.qu.2 with ⟨_, e0⟩ | ⟨g, _, _, e, _⟩
            · omega
            · cases e
              exact ⟨g, rfl⟩
          have hq := (hin.qu.cellAt k (show k < (bfs E T (an : Int) k).length * 1 by omega)).trans (intCells_get ((bfs E T (an : Int) k).map Prod.fst) k (by simpa using hlt))
          rw [map_fst_getD _ k hlt] at hq
          have hrg := (HG.out k).range ha k hlt
          have HSC := Lib.hid (show bfs E T (an : Int) (k + 1) = scanN E T ((bfs E T (an : Int) k).getD k (0, 0)).1 (bfs E T (an : Int) k) E.length by rw [bfs_succ, if_pos hlt])
          have HMEM := Lib.hid (getD_mem_fst _ k hlt)
          have HFS := Lib.hid (fun (j : Nat) (h1 : j < E.length) (h2 : T.getD j 0 = ((bfs E T (an : Int) k).getD k (0, 0)).1) => find_spec (F := F) (b := b) k j hlt (by omega) h1 rfl h2)
          obtain ⟨x, hx⟩ : ∃ x, (bfs E T (an : Int) k).getD k (0, 0) = x := ⟨_, rfl⟩
          rw [hx] at hq hrg HSC HMEM HFS
          obtain ⟨v, i0⟩ := x
          simp only at hq hrg
          obtain ⟨n, rfl⟩ : ∃ n : Nat, v = (n : Int) := ⟨v.toNat, by omega⟩
          have HGS := Lib.hid (fun j (hj : j ≤ E.length) => (HG.out k).scan HS.out.ends HMEM.out j hj)
          obtain ⟨p0, p1, p2, _, _, _⟩ := hin.g.pb.cells
          clear hin hx
          go_wp2_with fail
          clear hq p0 p1 p2
          go_loopw [12, 16] (fun qv jv wr' => ∃ (j : Nat) (FR : List Int), j ≤ Z.length ∧ jv = .int .i64 j ∧ (∀ y ∈ (scanN E T (n : Int) (bfs E T (an : Int) k) j), givesB F (an : Int) b y = false) ∧ FindI w wr' (F.length : Int) A cap l AF AT AZ cF cT cZ lo hi F T Z gf gs FR (an : Int) (scanN E T (n : Int) (bfs E T (an : Int) k) j) (scanN E T (n : Int) (bfs E T (an : Int) k) j) qv) (fun _ jv _ => Z.length - (intOf jv).toNat)
          case atStart => exact ⟨0, FR, Nat.zero_le _, rfl, HNO.out, HIN.out⟩
          case round =>
            clear HNO HIN
            obtain ⟨j, FR, hj, rfl, hno, hin2⟩ := hrel
            have HNO := Lib.hid hno
            have HIN2 := Lib.hid hin2
            obtain ⟨A2, c2', rfl⟩ := own_shape hin2.qu
            obtain ⟨p0, p1, p2, _, _, _⟩ := hin2.g.pb.cells
            clear hno
            by_cases hlt2 : j < Z.length
            · have hji : (j : Int) < (Z.length : Int) := by omega
              have hjt : (j : Int) < (T.length : Int) := by have := HTZ.out; omega
              obtain ⟨tb, to, rfl, htc⟩ := row_at hin2.g.src.t (by omega)
              have ht := htc j (by omega)
              obtain ⟨zb, zo, rfl, hzc⟩ := row_at hin2.g.src.z (by omega)
              have hz := hzc j hlt2
              have HSN := Lib.hid (show (scanN E T (n : Int) (bfs E T (an : Int) k) (j + 1)) = scan1 E T (n : Int) (scanN E T (n : Int) (bfs E T (an : Int) k) j) j from rfl)
              have HFSj := Lib.hid (fun h1 h2 => HFS.out j h1 h2)
              obtain ⟨t, htd⟩ : ∃ t, T.getD j 0 = t := ⟨_, rfl⟩
              rw [htd] at ht
              clear hin2 hzc htc
              by_cases c5 : t = (n : Int)
              · subst c5
                have d5 : ((n : Int) != (n : Int)) = false := by simp
                obtain ⟨hz0, hz1⟩ := HZ.out j hlt2
                have hEj := HE.out j hlt2
                have hbr := HS.out.ends.bar j (by rw [HEL.out]; exact hlt2)
                have hoth := HS.out.ends.oth_in (by rw [HEL.out]; exact hlt2) htd
                obtain ⟨gs', gm⟩ := HGS.out j (by rw [HEL.out]; omega)
                have hsh := gs'.short
                have HFSj2 := Lib.hid (HFSj.out (by rw [HEL.out]; exact hlt2) htd HNO.out)
                rw [hEj] at hoth hbr
                rw [hEj] at HFSj2
                obtain ⟨m, hm⟩ : ∃ m : Nat, Z.getD j 0 = (m : Int) := ⟨(Z.getD j 0).toNat, by omega⟩
                rw [hm] at hz hz0 hz1 hbr hoth hEj HFSj2
                rw [Int.toNat_natCast] at hbr hoth hEj HFSj2
                obtain ⟨b', off, rfl, _, hbc⟩ := HIN2.out.g.bars.at (by omega)
                have hx1 := (hbc m (by omega)).1
                have hx2 := (hbc m (by omega)).2
                obtain ⟨x, hxd⟩ : ∃ x, l.getD m (0, 0) = x := ⟨_, rfl⟩
                rw [hxd] at hx1 hx2 hbr hoth hEj HFSj2
                obtain ⟨x1, x2⟩ := x
                simp only at hx1 hx2 hbr
                obtain ⟨o, ho⟩ : ∃ o : Nat, oth (x1, x2) (n : Int) = (o : Int) := ⟨(oth (x1, x2) (n : Int)).toNat, by omega⟩
                rw [ho] at hoth HFSj2
                have HO := Lib.hid ho
                have HS1 := Lib.hid (show scan1 E T (n : Int) (scanN E T (n : Int) (bfs E T (an : Int) k) j) j = if (o : Int) ∉ (scanN E T (n : Int) (bfs E T (an : Int) k) j).map Prod.fst then (scanN E T (n : Int) (bfs E T (an : Int) k) j) ++ [((o : Int), j)] else (scanN E T (n : Int) (bfs E T (an : Int) k) j) by
                  unfold scan1
                  rw [htd, hEj, ho]
                  by_cases h : (o : Int) ∈ (scanN E T (n : Int) (bfs E T (an : Int) k) j).map Prod.fst
                  · rw [if_neg (fun q => q.2 h), if_neg (fun q => q h)]
                  · rw [if_pos ⟨rfl, h⟩, if_pos h])
                have HGJ := Lib.hid gs'
                have HGJ1 := Lib.hid (HGS.out (j + 1) (by rw [HEL.out]; omega)).1
                have hoF : o < F.length := by omega
                have hoFi : (o : Int) < (F.length : Int) := hoth.2.1
                have hmi : (m : Int) < (l.length : Int) := hz1
                have hoP := Lib.hid (show 0 ≤ (o : Int) ∧ (o : Int) < (F.length : Int) from ⟨hoth.1, hoth.2.1⟩)
                obtain ⟨_, gx0, gx1⟩ := HIN2.out.g.gb
                have HKK := Lib.hid (show (fun (W' : World) => W'.cell? ⟨w.heap.size, 1, none⟩ = some (.slice (some ⟨b', off, none⟩) l.length cap) ∧ W'.cell? ⟨w.heap.size + 1, 2, none⟩ = some (.slice (some ⟨zb, zo, none⟩) Z.length cZ) ∧ W'.cell? ⟨zb, zo + j, none⟩ = some (.int .i64 (m : Int)) ∧ W'.cell? ⟨b', off + m * 2, none⟩ = some (.int .i64 x1) ∧ W'.cell? ⟨b', off + m * 2 + 1, none⟩ = some (.int .i64 x2)) _ from ⟨gx1, p2, hz, hx1, hx2⟩)
                have HID := Lib.hid (HIN2.out.below (Below.refl _ _).drew)
                have y0 := ht
                have y1 := hz
                clear hbc hxd ho hEj hm gs' gm htd hz0 hoth hx1 hx2 HFSj
                go_wp2_with fail
                clear y0 y1 gx0 gx1 p0 p1 p2
                go_region_held3 (fun (W' : World) => W'.cell? ⟨w.heap.size, 1, none⟩ = some (.slice (some ⟨b', off, none⟩) l.length cap) ∧ W'.cell? ⟨w.heap.size + 1, 2, none⟩ = some (.slice (some ⟨zb, zo, none⟩) Z.length cZ) ∧ W'.cell? ⟨zb, zo + j, none⟩ = some (.int .i64 (m : Int)) ∧ W'.cell? ⟨b', off + m * 2, none⟩ = some (.int .i64 x1) ∧ W'.cell? ⟨b', off + m * 2 + 1, none⟩ = some (.int .i64 x2))
                  (first | exact HKK.out | exact HK5.out | fail)
                  (first | (go_at_call 197; refine (other_c (x1, x2) (n : Int) _ (by omega) (by omega) (by omega)).mono ?_; rintro e w8 ⟨rfl, hb⟩; rw [HO.out]; have HI8 := Lib.hid (HID.out.below hb); have HK5 := Lib.hid (show (fun (W' : World) => W'.cell? ⟨w.heap.size, 1, none⟩ = some (.slice (some ⟨b', off, none⟩) l.length cap) ∧ W'.cell? ⟨w.heap.size + 1, 2, none⟩ = some (.slice (some ⟨zb, zo, none⟩) Z.length cZ) ∧ W'.cell? ⟨zb, zo + j, none⟩ = some (.int .i64 (m : Int)) ∧ W'.cell? ⟨b', off + m * 2, none⟩ = some (.int .i64 x1) ∧ W'.cell? ⟨b', off + m * 2 + 1, none⟩ = some (.int .i64 x2)) w8 from ⟨HI8.out.g.gb.2.2, HI8.out.g.pb.cells.2.2.1, (hb.cell (p := ⟨zb, zo + j, none⟩) (World.block_lt_of_cell? _ _ HKK.out.2.2.1)).trans HKK.out.2.2.1, (hb.cell (p := ⟨b', off + m * 2, none⟩) (World.block_lt_of_cell? _ _ HKK.out.2.2.2.1)).trans HKK.out.2.2.2.1, (hb.cell (p := ⟨b', off + m * 2 + 1, none⟩) (World.block_lt_of_cell? _ _ HKK.out.2.2.2.2)).trans HKK.out.2.2.2.2⟩); clear hb))
                have hsn := (HI8.out.sn.cellAt o (show o < F.length * 1 by omega)).trans (seenC_get F.length _ o hoF)
                by_cases c7 : (o : Int) ∈ (scanN E T (n : Int) (bfs E T (an : Int) k) j).map Prod.fst
                · have HQ := Lib.hid (show (scanN E T (n : Int) (bfs E T (an : Int) k) j) = (scanN E T (n : Int) (bfs E T (an : Int) k) (j + 1)) by rw [HSN.out, HS1.out, if_neg]; simpa using c7)
                  rw [decide_eq_true c7] at hsn
                  clear c7
                  go_wp2_with fail
                  go_roundw
                  case rel => exact ⟨j + 1, FR, by omega, by go_num, by rw [← HQ.out]; exact HNO.out, by rw [← HQ.out]; exact HI8.out⟩
                  case measure => simp [intOf]; omega
                · have HQ := Lib.hid (show (scanN E T (n : Int) (bfs E T (an : Int) k) j) ++ [((o : Int), j)] = (scanN E T (n : Int) (bfs E T (an : Int) k) (j + 1)) by rw [HSN.out, HS1.out, if_pos c7])
                  rw [decide_eq_false c7] at hsn
                  have HNEW := Lib.hid (HI8.out.see o j hoF c7 (fun x hx hxa => by obtain ⟨_, _, _, _, _, _, _, _, _, h6, _⟩ := HGJ.out.path.at (List.mem_map_of_mem hx) hxa; exact h6))
                  have hoa : (o : Int) ≠ (an : Int) := fun e => c7 (by obtain ⟨r, e1⟩ := HGJ.out.start; rw [e1, e]; simp)
                  have hfz1 := HI8.out.sn.frozenAt o
                  have hfz2 := (own_block HI8.out.fr ((within_set w8 gs o (.bool true)).block gf (HI8.out.fr.lt gf rfl).2 (by have := HI8.out.ne; omega))).frozenAt o
                  have hbs : w.heap.size + 3 ≤ ((w8.setCell ⟨gs, o, none⟩ (.bool true)).setCell ⟨gf, o, none⟩ (.int .i64 (j : Int))).heap.size := by have h1 := HNEW.out.lf; have h2 := (HNEW.out.fr.lt gf rfl).2; omega
                  have hfv := HS.out.small (v := (o : Int)) hoP.out
                  rw [Int.toNat_natCast] at hfv
                  obtain ⟨fb, fo, rfl, _, hfb, hfc⟩ := HI8.out.g.src.f.2 (by omega)
                  have hfo := hfc o hoF
                  have l1 := HI8.out.lf
                  have l2 := HI8.out.ls
                  have n1 : gs ≠ w.heap.size + 1 := by omega
                  have n2 : gf ≠ w.heap.size + 1 := by omega
                  have n3 : gs ≠ fb := by omega
                  have n4 : gf ≠ fb := by omega
                  have n7 : gs ≠ gf := fun e => HI8.out.ne e.symm
                  have hcf := (HI8.out.fr.cellAt o (show o < F.length * 1 by omega)).trans (intCells_get FR o (by rw [HI8.out.frl]; exact hoF))
                  have hff := HI8.out.fr.frozenAt o
                  have n5 : gs ≠ w.heap.size := by omega
                  have n6 : gf ≠ w.heap.size := by omega
                  obtain ⟨q0, q1, q2, _, _, _⟩ := HI8.out.g.pb.cells
                  have HC7 := Lib.hid c7
                  have hgb : givesB F (an : Int) b ((o : Int), j) = (decide ((o : Int) ≠ (an : Int)) && decide ((o : Int) ≠ b) && decide (0 < F.getD o 0)) := by
                    show (_ && _ && decide (0 < F.getD ((o : Int)).toNat 0)) = _
                    rw [Int.toNat_natCast]
                  obtain ⟨d, hd⟩ : ∃ d, F.getD o 0 = d := ⟨_, rfl⟩
                  rw [hd] at hfo hfv hgb
                  clear hd hfc c7
                  have hNX : givesB F (an : Int) b ((o : Int), j) = false → ∀ y ∈ (scanN E T (n : Int) (bfs E T (an : Int) k) (j + 1)), givesB F (an : Int) b y = false := fun hg y hy => by
                    rw [← HQ.out] at hy
                    rcases List.mem_append.1 hy with hy | hy
                    · exact HNO.out y hy
                    · obtain rfl : y = ((o : Int), j) := by simpa using hy
                      exact hg
                  have HNX := Lib.hid hNX
                  clear hNX
                  by_cases hg : givesB F (an : Int) b ((o : Int), j) = true
                  · rw [hg] at hgb
                    have hgb' := hgb.symm
                    simp only [Bool.and_eq_true, decide_eq_true_eq] at hgb'
                    obtain ⟨⟨_, g2⟩, g3⟩ := hgb'
                    have e5 : ((o : Int) != b) = true := by simpa using g2
                    have g3d : decide (0 < d) = true := by simpa using g3
                    obtain ⟨hf1, r, hf2⟩ := HFSj2.out HC7.out hg
                    have HFM := Lib.hid (show findM E (an : Int) b (F, T) = some (movF F (an : Int) (o : Int), turnQ E (an : Int) (bfsQ E T (an : Int)).reverse (o : Int) T) by
                      show Option.map _ ((bfsQ E T (an : Int)).find? (givesB F (an : Int) b)) = _
                      rw [hf1]
                      rfl)
                    have hTI : TurnI F.length E T (an : Int) ((scanN E T (n : Int) (bfs E T (an : Int) k) j) ++ [((o : Int), j)]) (turnQ E (an : Int) (bfsQ E T (an : Int)).reverse (o : Int) T) (o : Int) T := by
                      have hnd := (HG.out (max E.length 8)).path.nodup (show bfs E T (an : Int) (max E.length 8) = (scanN E T (n : Int) (bfs E T (an : Int) k) j) ++ ((o : Int), j) :: r from hf2)
                      have hp1 : PathQ F.length E T (an : Int) ((scanN E T (n : Int) (bfs E T (an : Int) k) j) ++ [((o : Int), j)]) := by rw [HQ.out]; exact HGJ1.out.path
                      have := TurnI.start (r := []) HS.out.ends hp1 (show (o : Int) ∈ _ by simp)
                      rw [List.append_nil] at this
                      rw [hf2, turn_prefix (x := ((o : Int), j)) T hnd]
                      exact this
                    have hfr := HNEW.out.fr
                    have hfl := HNEW.out.frl
                    rw [← hfl] at hfr
                    have hsh := HSH.out (o : Int) _ _ (FR.set o (j : Int)) (some ⟨gf, 0, none⟩) F.length gf ((w8.setCell ⟨gs, o, none⟩ (.bool true)).setCell ⟨gf, o, none⟩ (.int .i64 (j : Int))).heap.size ((w8.setCell ⟨gs, o, none⟩ (.bool true)).setCell ⟨gf, o, none⟩ (.int .i64 (j : Int))) HNEW.out.g.bars.at HNEW.out.g.src hTI (own_ints' hfr).reads hfl HNEW.out.fro hoP.out hoa
                    rw [hfl] at hsh
                    have HSHI := Lib.hid hsh
                    obtain ⟨_, r0, r1⟩ := HI8.out.g.gb
                    clear hsh hfr hfl hTI hf1 hf2 hgb hg g2 g3 hoa
                    go_wp2_with (go_at_call 204; refine HSHI.out.mono ?_; rintro e w9 ⟨BF, dF, BT, dT, BZ, dZ, rfl, ho9, hb9⟩; have HO9 := Lib.hid ho9; have HB9 := Lib.hid hb9; have HG9 := Lib.hid (HNEW.out.g.below hb9); obtain ⟨_, _, _, f0, f1, f2⟩ := HG9.out.rb.cells; have r3 := ret3 HG9.out.rb (.slice BF (movF F (an : Int) (o : Int)).length dF) (.slice BT (turnQ E (an : Int) (bfsQ E T (an : Int)).reverse (o : Int) T).length dT) (.slice BZ Z.length dZ); obtain ⟨s0, s1, s2, _⟩ := r3.1.cells; have HW := Lib.hid r3.2; clear ho9 hb9 r3)
                    refine bodyPost_ret (v := .tuple #[pebV BF (movF F (an : Int) (o : Int)).length dF BT (turnQ E (an : Int) (bfsQ E T (an : Int)).reverse (o : Int) T).length dT BZ Z.length dZ, .bool true]) ?_ rfl ?_
                    · simp [results, Try.results182, go_sem, s0, s1, s2]
                    · have hz9 := HB9.out.size
                      have hg9 := HG9.out.bel
                      exact ⟨within_on hg9 HW.out hg9.size (.inl (by omega)), .inr ⟨_, BF, dF, BT, dT, BZ, dZ, rfl, HFM.out, (HO9.out.within HW.out (.inr (by omega))).widen (by omega) HW.out.size (Nat.le_refl _)⟩⟩
                  · have hgf : givesB F (an : Int) b ((o : Int), j) = false := by simpa using hg
                    have HNX2 := Lib.hid (HNX.out hgf)
                    have hcase : ((o : Int) != b) = false ∨ (((o : Int) != b) = true ∧ decide (0 < d) = false) := by
                      by_cases k2 : (o : Int) = b
                      · exact .inl (by simpa using k2)
                      · rw [hgf] at hgb
                        exact .inr ⟨by simpa using k2, by simpa [hoa, k2] using hgb.symm⟩
                    clear hgb hg hgf hoa
                    rcases hcase with c2 | ⟨c2, c3⟩
                    all_goals (
                      go_wp2_with (at_builtin; refine wpList_at _ rfl _ _ 61 rfl (w.heap.size + 3) 3 (.int .i64 0) 1 8 Try.underlying61 infoInt rfl (by decide) _ _ _ rfl HNEW.out.qu #[.int .i64 (o : Int)] 1 rfl (by simp [Value.oneCell']) _ 1 (by simp only [World.size_setCell]; rfl) (by omega) (by unfold maxLen; omega) hbs ?_; intro v' w' ho hg hat _; obtain ⟨A3, c3', rfl⟩ := own_shape ho; have HN := Lib.hid (HNEW.out.push ((o : Int), j) ho hg hat); clear ho hg hat)
                      go_roundw
                      case rel => exact ⟨j + 1, FR.set o (j : Int), by omega, by go_num, HNX2.out, by rw [← HQ.out]; exact HN.out⟩
                      case measure => simp [intOf]; omega)
              · have d5 : (t != (n : Int)) = true := by simpa using c5
                have HQ := Lib.hid (show (scanN E T (n : Int) (bfs E T (an : Int) k) j) = (scanN E T (n : Int) (bfs E T (an : Int) k) (j + 1)) by rw [HSN.out]; unfold scan1; rw [htd, if_neg]; exact fun h => c5 h.1)
                clear c5 htd
                go_wp2_with fail
                go_roundw
                case rel => exact ⟨j + 1, FR, by omega, by go_num, by rw [← HQ.out]; exact HNO.out, by rw [← HQ.out]; exact HIN2.out⟩
                case measure => simp [intOf]; omega
            · obtain rfl : j = Z.length := by omega
              have hji : ¬ (Z.length : Int) < (Z.length : Int) := by omega
              clear hin2
              go_wp2_with fail
              go_roundw
              case rel => exact ⟨k + 1, FR, by rw [HSC.out]; obtain ⟨r, e⟩ := scanN_pre E T (n : Int) (bfs E T (an : Int) k) E.length; rw [e, List.length_append]; omega, by go_num, by rw [HSC.out, HEL.out]; exact HNO.out, by rw [HSC.out, HEL.out]; exact HIN2.out⟩
              case measure => simp [intOf]; omega
        · have hkl : k = (bfs E T (an : Int) k).length := by omega
          have HF := Lib.hid (find_no (E := E) (T := T) (F := F) (a := (an : Int)) (b := b) k (by omega) (by omega) HNO.out)
          have hki : ¬ (k : Int) < ((bfs E T (an : Int) k).length : Int) := by omega
          obtain ⟨p0, p1, p2, _, _, _⟩ := HIN.out.g.pb.cells
          obtain ⟨_, _, _, f0, f1, f2⟩ := HIN.out.g.rb.cells
          have r3 := ret3 HIN.out.g.rb (.slice AF F.length cF) (.slice AT T.length cT) (.slice AZ Z.length cZ)
          obtain ⟨s0, s1, s2, _⟩ := r3.1.cells
          have HW := Lib.hid r3.2
          clear hkl r3 hin
          go_wp2_with fail
          refine bodyPost_ret (v := .tuple #[pebV AF F.length cF AT T.length cT AZ Z.length cZ, .bool false]) ?_ rfl ?_
          · simp [results, Try.results182, go_sem, s0, s1, s2]
          · have hg9 := HIN.out.g.bel
            exact ⟨within_on hg9 HW.out hg9.size (.inl (by omega)), .inl ⟨rfl, by show Option.map _ ((bfsQ E T (an : Int)).find? (givesB F (an : Int) b)) = none; rw [HF.out]; rfl⟩⟩
theorem GasI.find_no5 {w wr : World} {A : Option Addr} {cap : Nat} {l : List (Int × Int)} {AF AT AZ : Option Addr} {cF cT cZ lo hi : Nat} {F T Z : List Int} {bx : Nat} {BF : Option Addr} {dF : Nat} {BT : Option Addr} {dT : Nat} {BZ : Option Addr} {dZ : Nat} {r : Nat × Nat} {F' T' : List Int} {k0 a b : Int} (h : GasI w wr (F.length : Int) A cap l AF AT AZ cF cT cZ lo hi F T Z bx BF dF BT dT BZ dZ r F' T') (hS0 : PebS F.length k0 (plE l Z) F T) (hS : PebS F.length k0 (plE l Z) F' T') (hP : 1 ≤ F.length ∧ F.length ≤ 8) (hk0 : k0 ≤ 3) (hn : l.length ≤ 25) (hz24 : Z.length ≤ 24)
    (hZ : ∀ i, i < Z.length → 0 ≤ Z.getD i 0 ∧ Z.getD i 0 < (l.length : Int)) (ha : 0 ≤ a ∧ a < (F.length : Int)) (hf : findM (plE l Z) a b (F', T') = none) :
    Calls Try.prog 182 #[.agg #[.int .i64 (F.length : Int), .slice A l.length cap], pebV BF F.length dF BT T.length dT BZ Z.length dZ, .int .i64 a, .int .i64 b] wr (fun e w' => e = .returned (.tuple #[pebV BF F.length dF BT T.length dT BZ Z.length dZ, .bool false]) ∧ Below wr.heap.size wr w') := by
  have e1 : F'.length = F.length := hS.flen
  have e2 : T'.length = T.length := by rw [hS.ends.len, hS0.ends.len]
  have h1 := find5_c k0 l A cap BF BT BZ dF dT dZ r.1 r.2 F' T' Z a b wr (by rw [e1]; exact hS) (by rw [e1]; exact hP) hk0 hn hz24 hZ (by rw [e1]; exact ha) h.g.bars.at h.o.own3.reads
  rw [e1, e2] at h1
  refine h1.mono ?_
  rintro e w' ⟨hb, ⟨rfl, _⟩ | ⟨s', _, _, _, _, _, _, _, hs, _⟩⟩
  · exact ⟨rfl, hb⟩
  · rw [hf] at hs; cases hs
theorem GasI.find_yes5 {w wr : World} {A : Option Addr} {cap : Nat} {l : List (Int × Int)} {AF AT AZ : Option Addr} {cF cT cZ lo hi : Nat} {F T Z : List Int} {bx : Nat} {BF : Option Addr} {dF : Nat} {BT : Option Addr} {dT : Nat} {BZ : Option Addr} {dZ : Nat} {r : Nat × Nat} {F' T' : List Int} {k0 a b : Int} {s : List Int × List Int} (h : GasI w wr (F.length : Int) A cap l AF AT AZ cF cT cZ lo hi F T Z bx BF dF BT dT BZ dZ r F' T') (hS0 : PebS F.length k0 (plE l Z) F T) (hS : PebS F.length k0 (plE l Z) F' T') (hP : 1 ≤ F.length ∧ F.length ≤ 8) (hk0 : k0 ≤ 3) (hn : l.length ≤ 25) (hz24 : Z.length ≤ 24)
    (hZ : ∀ i, i < Z.length → 0 ≤ Z.getD i 0 ∧ Z.getD i 0 < (l.length : Int)) (ha : 0 ≤ a ∧ a < (F.length : Int)) (hb0 : 0 ≤ b) (hab : a ≠ b) (hf : findM (plE l Z) a b (F', T') = some s) :
    Calls Try.prog 182 #[.agg #[.int .i64 (F.length : Int), .slice A l.length cap], pebV BF F.length dF BT T.length dT BZ Z.length dZ, .int .i64 a, .int .i64 b] wr (fun e w' => ∃ CF eF CT eT CZ eZ, e = .returned (.tuple #[pebV CF F.length eF CT T.length eT CZ Z.length eZ, .bool true]) ∧ Below wr.heap.size wr w' ∧ Own3R w' wr.heap.size w'.heap.size CF eF CT eT CZ eZ s.1 s.2 Z) := by
  have e1 : F'.length = F.length := hS.flen
  have e2 : T'.length = T.length := by rw [hS.ends.len, hS0.ends.len]
  obtain ⟨hk, _⟩ := findM_ok hS ha hab hb0 hf
  have h1 := find5_c k0 l A cap BF BT BZ dF dT dZ r.1 r.2 F' T' Z a b wr (by rw [e1]; exact hS) (by rw [e1]; exact hP) hk0 hn hz24 hZ (by rw [e1]; exact ha) h.g.bars.at h.o.own3.reads
  rw [e1, e2] at h1
  refine h1.mono ?_
  rintro e w' ⟨hb, ⟨_, hs⟩ | ⟨s', CF, eF, CT, eT, CZ, eZ, rfl, hs, ho⟩⟩
  · rw [hf] at hs; cases hs
  · rw [hf] at hs
    cases hs
    exact ⟨CF, eF, CT, eT, CZ, eZ, by rw [hk.flen, hk.ends.len, ← hS0.ends.len], hb, ho⟩
set_option maxHeartbeats 8000000 in
set_option maxRecDepth 100000 in
theorem gathS5_c (k0 : Int) (l : List (Int × Int)) (A : Option Addr) (cap : Nat) (AF AT AZ : Option Addr) (cF cT cZ lo hi : Nat) (F T Z : List Int) (a b : Nat) (want : Int) (w : World) (hS : PebS F.length k0 (plE l Z) F T) (hP : 1 ≤ F.length ∧ F.length ≤ 8) (hk0 : k0 ≤ 3) (hn : l.length ≤ 25) (hz24 : Z.length ≤ 24)
    (hZ : ∀ i, i < Z.length → 0 ≤ Z.getD i 0 ∧ Z.getD i 0 < (l.length : Int)) (ha : a < F.length) (hb : b < F.length) (hab : a ≠ b) (hl : BarsAt w w.heap.size A l) (h : Peb3 w lo hi AF AT AZ F T Z) :
    Calls Try.prog 131 #[.agg #[.int .i64 (F.length : Int), .slice A l.length cap], pebV AF F.length cF AT T.length cT AZ Z.length cZ, .int .i64 (a : Int), .int .i64 (b : Int), .int .i64 want] w (GathSP w (plE l Z) F T Z a b want) := by
  have hhi : hi ≤ w.heap.size := h.f.1
  have hTZ : T.length ≤ 24 := by rw [hS.ends.len, plE_len]; exact hz24
  have HI0 := Lib.hid (GtI.start w (F.length : Int) A cap l AF AT AZ cF cT cZ lo hi F T Z hl h)
  have HS := Lib.hid hS
  have HZ := Lib.hid hZ
  obtain ⟨g0, g1, g2, _, _, _⟩ := HI0.out.pb.cells
  have hs3 : (((w.alloc (.cells #[.int .i64 (F.length : Int), .slice A l.length cap] 30)).alloc (.cells #[.slice AF F.length cF, .slice AT T.length cT, .slice AZ Z.length cZ] 63)).alloc (.cells #[.slice none 0 0, .slice none 0 0, .slice none 0 0] 63)).heap.size = w.heap.size + 3 := by simp
  have HS3 := Lib.hid hs3
  clear hl h hS hZ hs3
  go_enter Try.func131, Try.ntmps131
  go_wp2_with (go_at_call 130; refine (copyPeb_c AF AT AZ cF cT cZ lo hi F T Z _ HI0.out.src (by omega) (by omega) (by omega)).mono ?_; rintro e w4 ⟨BF, dF, BT, dT, BZ, dZ, rfl, ho, hb4⟩; have hb5 := new_below w4 (.cells #[.slice BF F.length dF, .slice BT T.length dT, .slice BZ Z.length dZ] 63); have hz4 := hb4.size; have HGI := Lib.hid (show GasI w (w4.alloc (.cells #[.slice BF F.length dF, .slice BT T.length dT, .slice BZ Z.length dZ] 63)) (F.length : Int) A cap l AF AT AZ cF cT cZ lo hi F T Z w4.heap.size BF dF BT dT BZ dZ ((((w.alloc (.cells #[.int .i64 (F.length : Int), .slice A l.length cap] 30)).alloc (.cells #[.slice AF F.length cF, .slice AT T.length cT, .slice AZ Z.length cZ] 63)).alloc (.cells #[.slice none 0 0, .slice none 0 0, .slice none 0 0] 63)).heap.size, w4.heap.size) F T from ⟨(HI0.out.below hb4).below hb5, cel3_new w4 (.slice BF F.length dF) (.slice BT T.length dT) (.slice BZ Z.length dZ) 63, ho.within (within_of hb5) (.inr (Nat.zero_le _)), by have := HS3.out; omega, by have := HS3.out; omega, .inl (Nat.le_refl _), hhi⟩); clear ho hb4 hb5 hz4 g0 g1 g2)
  generalize ((((w.alloc (.cells #[.int .i64 (F.length : Int), .slice A l.length cap] 30)).alloc (.cells #[.slice AF F.length cF, .slice AT T.length cT, .slice AZ Z.length cZ] 63)).alloc (.cells #[.slice none 0 0, .slice none 0 0, .slice none 0 0] 63)).heap.size, w4.heap.size) = r0 at *
  generalize hw5 : (w4.alloc (.cells #[.slice BF F.length dF, .slice BT T.length dT, .slice BZ Z.length dZ] 63)) = w5 at *
  clear hw5 HS3
  generalize w4.heap.size = bx at *
  go_loopw [] (fun wr => ∃ (F' T' : List Int) (BF BT BZ : Option Addr) (dF dT dZ : Nat) (r : Nat × Nat), PebS F.length k0 (plE l Z) F' T' ∧ gathR (plE l Z) a b want (F, T) = gathR (plE l Z) a b want (F', T') ∧ GasI w wr (F.length : Int) A cap l AF AT AZ cF cT cZ lo hi F T Z bx BF dF BT dT BZ dZ r F' T') (fun wr => (want - (atX wr bx a + atX wr bx b)).toNat)
  case atStart => exact ⟨F, T, BF, BT, BZ, dF, dT, dZ, r0, HS.out, rfl, HGI.out⟩
  case round =>
    clear HGI
    obtain ⟨F', T', BF, BT, BZ, dF, dT, dZ, r, hS', hg, hin⟩ := hrel
    have HG := Lib.hid hg
    have HS' := Lib.hid hS'
    have hfl := hS'.flen
    have HMA := Lib.hid (hin.at a (by omega))
    have HMB := Lib.hid (hin.at b (by omega))
    obtain ⟨fb, fo, rfl, hfc⟩ := row_at hin.o.own3.reads.f (by omega)
    have ha1 := hfc a (by omega)
    have hb1 := hfc b (by omega)
    have hsa := hS'.small (v := (a : Int)) (by omega)
    have hsb := hS'.small (v := (b : Int)) (by omega)
    rw [Int.toNat_natCast] at hsa hsb
    have HDN := Lib.hid (fun h : ¬ F'.getD a 0 + F'.getD b 0 < want => gathR_done (E := plE l Z) (a := (a : Int)) (b := (b : Int)) (want := want) (s := (F', T')) (by simpa using h))
    obtain ⟨d1, hd1⟩ : ∃ d1, F'.getD a 0 = d1 := ⟨_, rfl⟩
    obtain ⟨d2, hd2⟩ : ∃ d2, F'.getD b 0 = d2 := ⟨_, rfl⟩
    rw [hd1] at ha1 hsa HDN HMA
    rw [hd2] at hb1 hsb HDN HMB
    have HD := Lib.hid (And.intro hd1 hd2)
    have haF : (a : Int) < (F.length : Int) := by omega
    have hbF : (b : Int) < (F.length : Int) := by omega
    have HIN := Lib.hid hin
    have hcc := hin.x.cells.1
    have HL := Lib.hid (show F'.length = F.length ∧ T'.length = T.length from ⟨hfl, by rw [hS'.ends.len, HS.out.ends.len]⟩)
    clear hg hS' hfl hfc hd1 hd2 hin
    by_cases c1 : d1 + d2 < want
    · have e1 : decide (d1 + d2 < want) = true := by simpa using c1
      go_wp2_with fail
      go_big_quiet (fail)
      have HQ := Lib.hid (HIN.out.below (below_drewN wr.heap.size wr nq))
      have hC1 : F'.getD (a : Int).toNat 0 + F'.getD (b : Int).toNat 0 < want := by rw [Int.toNat_natCast, Int.toNat_natCast, HD.out.1, HD.out.2]; exact c1
      have HC1 := Lib.hid hC1
      clear hcc ha1 hb1 hC1
      generalize wr.drewN nq = w1 at *
      obtain ⟨_, gx0, gx1⟩ := HQ.out.g.gb
      obtain ⟨x0, x1, x2, _, _, _⟩ := HQ.out.x.cells
      obtain ⟨r1, hr1⟩ : ∃ r1, findM (plE l Z) (a : Int) (b : Int) (F', T') = r1 := ⟨_, rfl⟩
      cases r1 with
      | some s' =>
        have HF1 := Lib.hid hr1
        have HK := Lib.hid (show PebS F.length k0 (plE l Z) s'.1 s'.2 ∧ s'.1.getD a 0 + s'.1.getD b 0 = d1 + d2 + 1 from by
          obtain ⟨k1, k2, k3⟩ := findM_ok HS'.out (a := (a : Int)) (b := (b : Int)) (by omega) (by omega) (by omega) HF1.out
          rw [Int.toNat_natCast] at k2 k3
          refine ⟨k1, ?_⟩
          rw [k2, k3, HD.out.1, HD.out.2]; omega)
        clear hr1
        go_wp2_with (go_at_call 182; refine (HQ.out.find_yes5 (a := (a : Int)) (b := (b : Int)) HS.out HS'.out hP hk0 hn hz24 HZ.out (by omega) (by omega) (by omega) HF1.out).mono ?_; rintro e w6 ⟨CF, eF, CT, eT, CZ, eZ, rfl, hb6, ho6⟩; have hb7 := new_below w6 (.cells #[.slice CF F.length eF, .slice CT T.length eT, .slice CZ Z.length eZ] 63); have HI7 := Lib.hid ((HQ.out.below hb6).below hb7); have hy7 := cel3_new w6 (.slice CF F.length eF) (.slice CT T.length eT) (.slice CZ Z.length eZ) 63; obtain ⟨y0, y1, y2, _, _, _⟩ := hy7.cells; obtain ⟨z0, z1, z2, f0, f1, f2⟩ := HI7.out.x.cells; have HN := Lib.hid (HI7.out.put CF eF CT eT CZ eZ (w1.heap.size, w6.heap.size) s'.1 s'.2 (ho6.within (within_of hb7) (.inr (Nat.zero_le _))) HQ.out.x.lt); clear ho6 hb6 hb7 hy7 gx0 gx1 x0 x1 x2)
        go_roundw
        case rel => exact ⟨s'.1, s'.2, CF, CT, CZ, eF, eT, eZ, _, HK.out.1, HG.out.trans (gathR_one HC1.out HF1.out (by rw [Int.toNat_natCast, Int.toNat_natCast]; show s'.1.getD a 0 + s'.1.getD b 0 = F'.getD a 0 + F'.getD b 0 + 1; rw [HK.out.2, HD.out.1, HD.out.2])), HN.out⟩
        case measure =>
          have hlen : s'.1.length = F.length := HK.out.1.flen
          have q3 := HK.out.2
          rw [HN.out.at a (by omega), HN.out.at b (by omega), HMA.out, HMB.out]
          omega
      | none =>
        have HF1 := Lib.hid hr1
        obtain ⟨r2, hr2⟩ : ∃ r2, findM (plE l Z) (b : Int) (a : Int) (F', T') = r2 := ⟨_, rfl⟩
        cases r2 with
        | some s' =>
          have HF2 := Lib.hid hr2
          have HK := Lib.hid (show PebS F.length k0 (plE l Z) s'.1 s'.2 ∧ s'.1.getD a 0 + s'.1.getD b 0 = d1 + d2 + 1 from by
            obtain ⟨k1, k2, k3⟩ := findM_ok HS'.out (a := (b : Int)) (b := (a : Int)) (by omega) (by omega) (by omega) HF2.out
            rw [Int.toNat_natCast] at k2 k3
            refine ⟨k1, ?_⟩
            rw [k2, k3, HD.out.1, HD.out.2]; omega)
          clear hr1 hr2
          have hzz : ∀ W : World, ∀ o : Obj, (W.alloc o).heap.size = W.heap.size + 1 := fun W o => by simp
          have HZZ := Lib.hid hzz
          clear hzz
          go_wp2_with (first
            | (go_at_call 182; refine (HI7.out.find_yes5 (a := (b : Int)) (b := (a : Int)) HS.out HS'.out hP hk0 hn hz24 HZ.out (by omega) (by omega) (by omega) HF2.out).mono ?_; rintro e w8 ⟨CF, eF, CT, eT, CZ, eZ, rfl, hb8, ho8⟩; have HY8 := Lib.hid (HY7.out.kept hb8); have r3y := ret3 HY8.out (.slice CF F.length eF) (.slice CT T.length eT) (.slice CZ Z.length eZ); have hy8 := HZZ.out w6 (.cells #[.slice (some ⟨fb, fo, none⟩) F.length dF, .slice BT T.length dT, .slice BZ Z.length dZ] 63); have HI9 := Lib.hid ((HI7.out.below hb8).other r3y.2 (by have := HQ.out.lb; omega) (by omega) (by omega)); have HN := Lib.hid (HI9.out.put CF eF CT eT CZ eZ (_, _) s'.1 s'.2 (ho8.within r3y.2 (.inr (by omega))) (by show bx < (World.alloc _ _).heap.size; omega)); obtain ⟨_, _, _, k0', k1, k2⟩ := HY8.out.cells; obtain ⟨i0, i1, i2, _⟩ := r3y.1.cells; obtain ⟨j0, j1, j2, j3, j4, j5⟩ := HI9.out.x.cells; clear ho8 hb8 r3y hy8 z0 z1 z2 u0 u1 y0 y1 y2)
            | (go_at_call 182; refine (HQ.out.find_no5 (a := (a : Int)) (b := (b : Int)) HS.out HS'.out hP hk0 hn hz24 HZ.out (by omega) HF1.out).mono ?_; rintro e w6 ⟨rfl, hb6⟩; have hb7 := new_below w6 (.cells #[.slice (some ⟨fb, fo, none⟩) F.length dF, .slice BT T.length dT, .slice BZ Z.length dZ] 63); have HI7 := Lib.hid ((HQ.out.below hb6).below hb7); have HY7 := Lib.hid (cel3_new w6 (.slice (some ⟨fb, fo, none⟩) F.length dF) (.slice BT T.length dT) (.slice BZ Z.length dZ) 63); have hlo6 := hb6.size; have hq2 := HQ.out.o.hi; have hq3 := HQ.out.x.lt; obtain ⟨z0, z1, z2, _, _, _⟩ := HI7.out.x.cells; obtain ⟨_, u0, u1⟩ := HI7.out.g.gb; obtain ⟨y0, y1, y2, _, _, _⟩ := HY7.out.cells; clear hb6 hb7 gx0 gx1 x0 x1 x2))
          go_roundw
          case rel => exact ⟨s'.1, s'.2, CF, CT, CZ, eF, eT, eZ, _, HK.out.1, HG.out.trans (gathR_two HC1.out HF1.out HF2.out (by rw [Int.toNat_natCast, Int.toNat_natCast]; show s'.1.getD a 0 + s'.1.getD b 0 = F'.getD a 0 + F'.getD b 0 + 1; rw [HK.out.2, HD.out.1, HD.out.2])), HN.out⟩
          case measure =>
            have hlen : s'.1.length = F.length := HK.out.1.flen
            have q3 := HK.out.2
            rw [HN.out.at a (by omega), HN.out.at b (by omega), HMA.out, HMB.out]
            omega
        | none =>
          have HF2 := Lib.hid hr2
          clear hr1 hr2
          have hzz : ∀ W : World, ∀ o : Obj, (W.alloc o).heap.size = W.heap.size + 1 := fun W o => by simp
          have HZZ := Lib.hid hzz
          clear hzz
          go_wp2_with (first
            | (go_at_call 182; refine (HI7.out.find_no5 (a := (b : Int)) (b := (a : Int)) HS.out HS'.out hP hk0 hn hz24 HZ.out (by omega) HF2.out).mono ?_; rintro e w8 ⟨rfl, hb8⟩; have HY8 := Lib.hid (HY7.out.kept hb8); have r3y := ret3 HY8.out (.slice (some ⟨fb, fo, none⟩) F.length dF) (.slice BT T.length dT) (.slice BZ Z.length dZ); have HI9 := Lib.hid ((HI7.out.below hb8).other r3y.2 (by have := HQ.out.lb; omega) (by omega) (by omega)); have r3 := ret3 HI9.out.g.rb (.slice (some ⟨fb, fo, none⟩) F.length dF) (.slice BT T.length dT) (.slice BZ Z.length dZ); obtain ⟨s0, s1, s2, _⟩ := r3.1.cells; have HW := Lib.hid r3.2; obtain ⟨_, _, _, f0, f1, f2⟩ := HI9.out.g.rb.cells; obtain ⟨_, _, _, k0', k1, k2⟩ := HY8.out.cells; obtain ⟨i0, i1, i2, _⟩ := r3y.1.cells; obtain ⟨j0, j1, j2, j3, j4, j5⟩ := HI9.out.x.cells; clear hb8 r3y r3 z0 z1 z2 u0 u1 y0 y1 y2)
            | (go_at_call 182; refine (HQ.out.find_no5 (a := (a : Int)) (b := (b : Int)) HS.out HS'.out hP hk0 hn hz24 HZ.out (by omega) HF1.out).mono ?_; rintro e w6 ⟨rfl, hb6⟩; have hb7 := new_below w6 (.cells #[.slice (some ⟨fb, fo, none⟩) F.length dF, .slice BT T.length dT, .slice BZ Z.length dZ] 63); have HI7 := Lib.hid ((HQ.out.below hb6).below hb7); have HY7 := Lib.hid (cel3_new w6 (.slice (some ⟨fb, fo, none⟩) F.length dF) (.slice BT T.length dT) (.slice BZ Z.length dZ) 63); have hlo6 := hb6.size; have hq2 := HQ.out.o.hi; have hq3 := HQ.out.x.lt; obtain ⟨z0, z1, z2, _, _, _⟩ := HI7.out.x.cells; obtain ⟨_, u0, u1⟩ := HI7.out.g.gb; obtain ⟨y0, y1, y2, _, _, _⟩ := HY7.out.cells; clear hb6 hb7 gx0 gx1 x0 x1 x2))
          refine bodyPost_ret (v := .tuple #[pebV (some ⟨fb, fo, none⟩) F.length dF BT T.length dT BZ Z.length dZ, .bool false]) ?_ rfl ?_
          · simp [results, Try.results131, go_sem, s0, s1, s2]
          · have hg9 := HI9.out.g.bel
            exact ⟨within_on hg9 HW.out hg9.size (.inl (by omega)), _, _, _, _, _, _, .inl ⟨rfl, by rw [HG.out]; exact gathR_no HC1.out HF1.out HF2.out⟩⟩
    · have e1 : decide (d1 + d2 < want) = false := by simpa using c1
      go_wp2_with fail
      go_big_quiet (fail)
      have HQ := Lib.hid (HIN.out.below (below_drewN wr.heap.size wr nq))
      clear hcc ha1 hb1
      generalize wr.drewN nq = w1 at *
      have r3 := ret3 HQ.out.g.rb (.slice (some ⟨fb, fo, none⟩) F.length dF) (.slice BT T.length dT) (.slice BZ Z.length dZ)
      obtain ⟨s0, s1, s2, _⟩ := r3.1.cells
      have HW := Lib.hid r3.2
      obtain ⟨_, _, _, f0, f1, f2⟩ := HQ.out.g.rb.cells
      obtain ⟨v0, v1, v2, _, _, _⟩ := HQ.out.x.cells
      clear r3
      go_wp2_with fail
      refine bodyPost_ret (v := .tuple #[pebV (some ⟨fb, fo, none⟩) F.length dF BT T.length dT BZ Z.length dZ, .bool true]) ?_ rfl ?_
      · simp [results, Try.results131, go_sem, s0, s1, s2]
      · have hg9 := HQ.out.g.bel
        have hlr := HQ.out.lr
        exact ⟨within_on hg9 HW.out hg9.size (.inl (by omega)), _, _, _, _, _, _, .inr ⟨(F', T'), rfl, by rw [HG.out]; exact HDN.out c1, HL.out.1, HL.out.2, (HQ.out.o.within HW.out (.inr (by omega))).widen (by omega) (by have := HW.out.size; have := HQ.out.o.hi; omega) (Nat.le_refl _)⟩⟩
end Go.Proofs.Ytggibhhdnlifcaa
