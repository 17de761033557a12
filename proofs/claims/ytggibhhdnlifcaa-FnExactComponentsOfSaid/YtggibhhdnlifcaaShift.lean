/- What spec.l4Shift answers: a copy of the state where a pebble moved and a path was turned round. No condition. -/
import Derived.Test.YtggibhhdnlifcaaPebCpS
import Derived.Test.YtggibhhdnlifcaaGtI
import Derived.Test.YtggibhhdnlifcaaShiftM
import Derived.Deep.QuietTactic
import Derived.BigQuiet
import Derived.Deep.RegionHeld3
namespace Go.Proofs.Ytggibhhdnlifcaa
open Go.RowKit

/-- What stands while the path is turned in the copy: what is read, the copy's box, the copy's rows. -/
structure ShL (w wr : World) (p : Int) (A : Option Addr) (cap : Nat) (l : List (Int × Int)) (AF AT AZ : Option Addr) (cF cT cZ lo hi : Nat) (F T Z : List Int) (bx gF dF gT dT : Nat) (BZ : Option Addr) (dZ : Nat) (z : Nat × Nat) (lf hf : Nat) (Af : Option Addr) (FR G T' : List Int) : Prop where
  g : GtI w wr p A cap l AF AT AZ cF cT cZ lo hi F T Z
  x : Cel3 wr bx 63 (.slice (some ⟨gF, 0, none⟩) F.length dF) (.slice (some ⟨gT, 0, none⟩) T.length dT) (.slice BZ Z.length dZ)
  s : St3 wr 0 gF dF gT dT BZ dZ z.1 z.2 G T' Z
  fr : IntsIn wr lf hf Af FR
  oz : OwnR wr z.1 z.2 BZ dZ Z
theorem ShL.below {w wr : World} {p : Int} {A : Option Addr} {cap : Nat} {l : List (Int × Int)} {AF AT AZ : Option Addr} {cF cT cZ lo hi : Nat} {F T Z : List Int} {bx gF dF gT dT : Nat} {BZ : Option Addr} {dZ : Nat} {z : Nat × Nat} {lf hf : Nat} {Af : Option Addr} {FR G T' : List Int} {w' : World} (h : ShL w wr p A cap l AF AT AZ cF cT cZ lo hi F T Z bx gF dF gT dT BZ dZ z lf hf Af FR G T') (hb : Below wr.heap.size wr w') : ShL w w' p A cap l AF AT AZ cF cT cZ lo hi F T Z bx gF dF gT dT BZ dZ z lf hf Af FR G T' :=
  ⟨h.g.below hb, h.x.kept hb, h.s.below hb, h.fr.within (within_of hb) (.inr (Nat.zero_le _)), h.oz.within (within_of hb) (.inr (Nat.zero_le _))⟩
theorem ShL.setT {w wr : World} {p : Int} {A : Option Addr} {cap : Nat} {l : List (Int × Int)} {AF AT AZ : Option Addr} {cF cT cZ lo hi : Nat} {F T Z : List Int} {bx gF dF gT dT : Nat} {BZ : Option Addr} {dZ : Nat} {z : Nat × Nat} {lf hf : Nat} {Af : Option Addr} {FR G T' : List Int} (h : ShL w wr p A cap l AF AT AZ cF cT cZ lo hi F T Z bx gF dF gT dT BZ dZ z lf hf Af FR G T') (h1 : w.heap.size + 3 ≤ gT) (h2 : hi ≤ gT) (h3 : hf ≤ gT) (h4 : gT ≠ bx) (h5 : gT < z.1 ∨ z.2 ≤ gT) (i : Nat) (v : Int) : ShL w (wr.setCell ⟨gT, i, none⟩ (.int .i64 v)) p A cap l AF AT AZ cF cT cZ lo hi F T Z bx gF dF gT dT BZ dZ z lf hf Af FR G (T'.set i v) := by
  have hw := within_set wr gT i (.int .i64 v)
  exact ⟨h.g.within hw h1 h2, h.x.within hw (by omega), h.s.setT i v, h.fr.within hw (by omega), h.oz.within hw (by omega)⟩

set_option maxHeartbeats 4000000 in
set_option maxRecDepth 100000 in
theorem shift_c (P : Nat) (l : List (Int × Int)) (A : Option Addr) (cap : Nat) (AF AT AZ : Option Addr) (cF cT cZ lo hi : Nat) (F T Z : List Int) (a u : Int) (q : List (Int × Nat)) (TF FR : List Int) (Af : Option Addr) (cf lf hf : Nat) (w : World) (hl : BarsAt w w.heap.size A l) (h : Peb3 w lo hi AF AT AZ F T Z) (hn : l.length ≤ 24) (hFP : F.length = P) (hP : 1 ≤ P ∧ P ≤ 8) (hTZ : T.length = Z.length) (hZ24 : Z.length ≤ 24)
    (hZ : ∀ i, i < Z.length → 0 ≤ Z.getD i 0 ∧ Z.getD i 0 < (l.length : Int)) (hq : TurnI P (plE l Z) T a q TF u T) (hfr : IntsIn w lf hf Af FR) (hFR : FR.length = P) (hfq : ∀ x ∈ q, x.1 ≠ a → FR.getD x.1.toNat 0 = (x.2 : Int)) (ha : 0 ≤ a ∧ a < (P : Int)) (hu : 0 ≤ u ∧ u < (P : Int)) (hua : u ≠ a) (hFu : 0 ≤ F.getD u.toNat 0 ∧ F.getD u.toNat 0 ≤ 3) (hFa : 0 ≤ F.getD a.toNat 0 ∧ F.getD a.toNat 0 ≤ 3) :
    Calls Try.prog 204 #[.agg #[.int .i64 (P : Int), .slice A l.length cap], pebV AF F.length cF AT T.length cT AZ Z.length cZ, .slice Af FR.length cf, .int .i64 a, .int .i64 u] w (PebR w (movF F a u) TF Z) := by
  obtain ⟨an, rfl⟩ : ∃ an : Nat, a = (an : Int) := ⟨a.toNat, by omega⟩
  obtain ⟨un, rfl⟩ : ∃ un : Nat, u = (un : Int) := ⟨u.toNat, by omega⟩
  rw [Int.toNat_natCast] at hFu hFa
  subst hFP
  have hT0 : 0 < T.length := by
    obtain ⟨i, _, hi, _⟩ := hq.next hua
    rw [plE_len] at hi
    omega
  have hT24 : T.length ≤ 24 := by omega
  have HTZ := Lib.hid hTZ
  have HFL := Lib.hid hFR
  clear hTZ hFR
  have hhi : hi ≤ w.heap.size := h.f.1
  have hhf : hf ≤ w.heap.size := hfr.1
  have HI0 := Lib.hid (GtI.start w (F.length : Int) A cap l AF AT AZ cF cT cZ lo hi F T Z hl h)
  have HFR0 := Lib.hid (hfr.within (within_of HI0.out.bel) (.inr (Nat.zero_le _)))
  have HQ := Lib.hid hq
  have HZ := Lib.hid hZ
  have HFQ := Lib.hid hfq
  have HE := Lib.hid (fun i hi => plE_get l Z i hi)
  have HEL := Lib.hid (plE_len l Z)
  generalize plE l Z = E at *
  obtain ⟨g0, g1, g2, _, _, _⟩ := HI0.out.pb.cells
  clear hl h hfr hq hZ hfq
  go_enter Try.func204, Try.ntmps204
  have hsz3 : (((w.alloc (.cells #[.int .i64 (F.length : Int), .slice A l.length cap] 30)).alloc (.cells #[.slice AF F.length cF, .slice AT T.length cT, .slice AZ Z.length cZ] 63)).alloc (.cells #[.slice none 0 0, .slice none 0 0, .slice none 0 0] 63)).heap.size = w.heap.size + 3 := by simp
  go_wp2_with (go_at_call 130; refine (copyPeb_c AF AT AZ cF cT cZ lo hi F T Z _ HI0.out.src (by omega) (by omega) (by omega)).mono ?_; rintro e w4 ⟨BF, dF, BT, dT, BZ, dZ, rfl, ho, hb⟩; have hb5 := new_below w4 (.cells #[.slice BF F.length dF, .slice BT T.length dT, .slice BZ Z.length dZ] 63); have HI5 := Lib.hid ((HI0.out.below hb).below hb5); have HX5 := Lib.hid (cel3_new w4 (.slice BF F.length dF) (.slice BT T.length dT) (.slice BZ Z.length dZ) 63); have HFR5 := Lib.hid ((HFR0.out.within (within_of hb) (.inr (Nat.zero_le _))).within (within_of hb5) (.inr (Nat.zero_le _))); obtain ⟨f, t, z, hof, y1, y2, y3⟩ := ho.ownF; have HO5 := Lib.hid (hof.below hb5); have hh4 := hof.hi; clear hof; have hlo := hb.size; rw [hsz3] at hlo y1 y2 y3; obtain ⟨x2, x3, x4, _, _, _⟩ := HX5.out.cells; clear ho hb hb5 g0 g1 g2)
  clear x2 x3 x4
  have HIS := Lib.hid hsz3
  clear hsz3
  generalize hw5 : (w4.alloc (.cells #[.slice BF F.length dF, .slice BT T.length dT, .slice BZ Z.length dZ] 63)) = w5 at *
  have hs5 : w4.heap.size < w5.heap.size := by rw [← hw5]; simp
  clear hw5
  generalize w4.heap.size = bx at *
  obtain ⟨gF, gT, rfl, rfl, bF, bT, hst⟩ := HO5.out.open_ (by omega) hT0
  have HOZ := Lib.hid HO5.out.2.2
  obtain ⟨hc1, hf1⟩ := hst.cellF un (by omega)
  obtain ⟨d, hd⟩ : ∃ d, d = F.getD un 0 := ⟨_, rfl⟩
  obtain ⟨e, he⟩ : ∃ e, e = F.getD an 0 := ⟨_, rfl⟩
  have hne : an ≠ un := by omega
  have hst1 := hst.setF un (d - 1)
  have HEE := Lib.hid he
  rw [← hd] at hc1 hFu
  rw [← he] at hFa
  have HMV := Lib.hid (show (F.set un (d - 1)).set an (e + 1) = movF F (an : Int) (un : Int) by unfold movF; rw [Int.toNat_natCast, Int.toNat_natCast, hd, he])
  clear hd he
  have hw1 := within_set w5 gF un (.int .i64 (d - 1))
  have hdr : Below (w5.setCell ⟨gF, un, none⟩ (.int .i64 (d - 1))).heap.size (w5.setCell ⟨gF, un, none⟩ (.int .i64 (d - 1))) (w5.setCell ⟨gF, un, none⟩ (.int .i64 (d - 1))).drew := (Below.refl _ _).drew
  obtain ⟨x0, x1, x2, _, _, _⟩ := HX5.out.cells
  have HI6 := Lib.hid ((HI5.out.within hw1 (by omega) (by omega)).below hdr)
  have HX6 := Lib.hid ((HX5.out.within hw1 (by omega)).kept hdr)
  have HST6 := Lib.hid (hst1.below hdr)
  have HFR6 := Lib.hid ((HFR5.out.within hw1 (by omega)).within (within_of hdr) (.inr (Nat.zero_le _)))
  have HOZ6 := Lib.hid ((HOZ.out.1.within hw1 (by have := HOZ.out.2; unfold Dis at this; omega)).within (within_of hdr) (.inr (Nat.zero_le _)))
  have HZR := Lib.hid HOZ.out.2
  have hs6 := Nat.le_trans hw1.size hdr.size
  clear hst hst1 hw1 hdr HOZ
  have huF : (un : Int) < (F.length : Int) := hu.2
  have haF : (an : Int) < (F.length : Int) := ha.2
  go_region
  go_wp2_with fail
  clear x0 x1 x2 hc1 hf1
  generalize (w5.setCell ⟨gF, un, none⟩ (.int .i64 (d - 1))).drew = w6 at *
  obtain ⟨x0, x1, x2, _, _, _⟩ := HX6.out.cells
  obtain ⟨hc2, hf2⟩ := HST6.out.cellF an (by rw [List.length_set]; omega)
  rw [set_getD_ne _ _ _ _ _ hne, ← HEE.out] at hc2
  have hw2 := within_set w6 gF an (.int .i64 (e + 1))
  have hdr2 : Below (w6.setCell ⟨gF, an, none⟩ (.int .i64 (e + 1))).heap.size (w6.setCell ⟨gF, an, none⟩ (.int .i64 (e + 1))) (w6.setCell ⟨gF, an, none⟩ (.int .i64 (e + 1))).drew := (Below.refl _ _).drew
  have hst7 := (HST6.out.setF an (e + 1)).below hdr2
  rw [HMV.out] at hst7
  have HS7 := Lib.hid (show ShL w (w6.setCell ⟨gF, an, none⟩ (.int .i64 (e + 1))).drew (F.length : Int) A cap l AF AT AZ cF cT cZ lo hi F T Z bx gF dF gT dT BZ dZ z lf hf Af FR (movF F (an : Int) (un : Int)) T from ⟨(HI6.out.within hw2 (by omega) (by omega)).below hdr2, (HX6.out.within hw2 (by omega)).kept hdr2, hst7, (HFR6.out.within hw2 (by omega)).within (within_of hdr2) (.inr (Nat.zero_le _)), (HOZ6.out.within hw2 (by have := HZR.out; unfold Dis at this; omega)).within (within_of hdr2) (.inr (Nat.zero_le _))⟩)
  have hs7 := Nat.le_trans hw2.size hdr2.size
  clear hst7 hw2 hdr2 HI6 HX6 HST6 HFR6 HOZ6 HMV HEE
  go_region
  go_wp2_with fail
  clear x0 x1 x2 hc2 hf2
  generalize (w6.setCell ⟨gF, an, none⟩ (.int .i64 (e + 1))).drew = w7 at *
  go_loopw [12] (fun v wr => ∃ (t : Int) (T' : List Int), v = .int .i64 t ∧ TurnI F.length E T (an : Int) q TF t T' ∧ w5.heap.size ≤ wr.heap.size ∧ ShL w wr (F.length : Int) A cap l AF AT AZ cF cT cZ lo hi F T Z bx gF dF gT dT BZ dZ z lf hf Af FR (movF F (an : Int) (un : Int)) T') (fun v _ => posQ q (intOf v))
  case atStart => exact ⟨un, T, rfl, HQ.out, by omega, HS7.out⟩
  case round =>
    obtain ⟨t, T', rfl, ht, hsz, hs⟩ := hrel
    have HS := Lib.hid hs
    obtain ⟨x0, x1, x2, _, _, _⟩ := hs.x.cells
    clear hs HS7
    by_cases c : t = (an : Int)
    · subst c
      have HTF := Lib.hid ht.done
      have hlen := ht.len
      clear ht
      have e1 : ((an : Int) != (an : Int)) = false := by simp
      have r3 := ret3 HS.out.g.rb (.slice (some ⟨gF, 0, none⟩) F.length dF) (.slice (some ⟨gT, 0, none⟩) T.length dT) (.slice BZ Z.length dZ)
      obtain ⟨_, _, _, f0, f1, f2⟩ := HS.out.g.rb.cells
      obtain ⟨s0, s1, s2, _⟩ := r3.1.cells
      have HW := Lib.hid r3.2
      clear r3
      go_wp2_with fail
      refine bodyPost_ret (v := pebV (some ⟨gF, 0, none⟩) F.length dF (some ⟨gT, 0, none⟩) T.length dT BZ Z.length dZ) ?_ rfl ?_
      · simp [results, Try.results204, go_sem, s0, s1, s2]
      · have hd := HZR.out
        unfold Dis at hd
        have ho := HS.out.s.ownF bF bT (by omega) (by omega) HS.out.oz hd.1 hd.2.1 hd.2.2
        have hw := HW.out.size
        have hTF : TF.length = T.length := by rw [← HTF.out, hlen, HEL.out, HTZ.out]
        rw [HTF.out] at ho
        exact ⟨_, _, _, _, _, _, by rw [movF_len, hTF], (ho.within HW.out (by omega) (by omega) (by omega)).own3R (by omega) (by omega) (by omega) (Nat.le_refl _), within_on HS.out.g.bel HW.out HS.out.g.bel.size (.inl (by omega))⟩
    · have e1 : (t != (an : Int)) = true := by simpa using c
      obtain ⟨i, hi1, hi2, hi3, hi4, hend, hor, hi5, hi6⟩ := ht.next c
      have HX := Lib.hid hi5
      have HM := Lib.hid hi6
      have hEi := HE.out i (by have := HEL.out; omega)
      have hbar := ht.ends.bar i hi2
      have hfi := HFQ.out (t, i) hi1 c
      have hiZ : i < Z.length := by have := HEL.out; omega
      have hlen := ht.len
      clear ht hi1 hi4 hi5 hi6 c
      obtain ⟨tn, rfl⟩ : ∃ tn : Nat, t = (tn : Int) := ⟨t.toNat, by omega⟩
      simp only [Int.toNat_natCast] at hfi
      obtain ⟨fb, fo, rfl, hfc⟩ := row_at HS.out.fr (by have := HFL.out; omega)
      have hfn := hfc tn (by have := HFL.out; omega)
      rw [hfi] at hfn
      obtain ⟨zb, zo, rfl, hzc⟩ := row_at HS.out.g.src.z (by omega)
      have hz := hzc i hiZ
      have hzr := HZ.out i hiZ
      obtain ⟨n, hnz⟩ : ∃ n : Nat, Z.getD i 0 = (n : Int) := ⟨(Z.getD i 0).toNat, by omega⟩
      rw [hnz] at hz hzr hEi
      rw [Int.toNat_natCast] at hEi
      obtain ⟨b, off, rfl, hbB, hbc⟩ := HS.out.g.bars.at (by omega)
      have hx1 := (hbc n (by omega)).1
      have hx2 := (hbc n (by omega)).2
      rw [← hEi] at hx1 hx2
      obtain ⟨v, hv⟩ : ∃ v, oth (E.getD i (0, 0)) (tn : Int) = v := ⟨_, rfl⟩
      obtain ⟨x, hxd⟩ : ∃ x, E.getD i (0, 0) = x := ⟨_, rfl⟩
      rw [hv] at HX HM hor
      rw [hxd] at hx1 hx2 hbar hend hv
      clear hEi hxd hzc hbc hfc hnz
      obtain ⟨x1', x2'⟩ := x
      simp only at hx1 hx2 hbar
      have HV := Lib.hid hv
      clear hv hend
      have htF : (tn : Int) < (FR.length : Int) := by have := HFL.out; omega
      have hiZi : (i : Int) < (Z.length : Int) := by omega
      have hnl : (n : Int) < (l.length : Int) := by omega
      have hiT : (i : Int) < (T.length : Int) := by have := HTZ.out; omega
      obtain ⟨_, gx0, gx1⟩ := HS.out.g.gb
      obtain ⟨p0, p1, p2, _, _, _⟩ := HS.out.g.pb.cells
      have HKK := Lib.hid (show (fun W' => W'.cell? ⟨w.heap.size, 1, none⟩ = some (.slice (some ⟨b, off, none⟩) l.length cap) ∧ W'.cell? ⟨w.heap.size + 1, 2, none⟩ = some (.slice (some ⟨zb, zo, none⟩) Z.length cZ) ∧ W'.cell? ⟨zb, zo + i, none⟩ = some (.int .i64 (n : Int)) ∧ W'.cell? ⟨b, off + n * 2, none⟩ = some (.int .i64 x1') ∧ W'.cell? ⟨b, off + n * 2 + 1, none⟩ = some (.int .i64 x2')) wr from ⟨gx1, p2, hz, hx1, hx2⟩)
      have HSD := Lib.hid (HS.out.below (Below.refl _ _).drew)
      go_wp2_with fail
      clear gx0 gx1 p0 p1 p2 x0 x1 x2
      go_region_held3 (fun W' => W'.cell? ⟨w.heap.size, 1, none⟩ = some (.slice (some ⟨b, off, none⟩) l.length cap) ∧ W'.cell? ⟨w.heap.size + 1, 2, none⟩ = some (.slice (some ⟨zb, zo, none⟩) Z.length cZ) ∧ W'.cell? ⟨zb, zo + i, none⟩ = some (.int .i64 (n : Int)) ∧ W'.cell? ⟨b, off + n * 2, none⟩ = some (.int .i64 x1') ∧ W'.cell? ⟨b, off + n * 2 + 1, none⟩ = some (.int .i64 x2'))
        (first | exact HKK.out | exact HK5.out | fail)
        (first | (go_at_call 197; refine (other_c (x1', x2') (tn : Int) _ (by omega) (by omega) (by omega)).mono ?_; rintro e w8 ⟨rfl, hb⟩; rw [HV.out]; have HS8 := Lib.hid (HSD.out.below hb); have hsz8 := hb.size; have HK5 := Lib.hid (show (fun W' => W'.cell? ⟨w.heap.size, 1, none⟩ = some (.slice (some ⟨b, off, none⟩) l.length cap) ∧ W'.cell? ⟨w.heap.size + 1, 2, none⟩ = some (.slice (some ⟨zb, zo, none⟩) Z.length cZ) ∧ W'.cell? ⟨zb, zo + i, none⟩ = some (.int .i64 (n : Int)) ∧ W'.cell? ⟨b, off + n * 2, none⟩ = some (.int .i64 x1') ∧ W'.cell? ⟨b, off + n * 2 + 1, none⟩ = some (.int .i64 x2')) w8 from ⟨HS8.out.g.gb.2.2, HS8.out.g.pb.cells.2.2.1, (hb.cell (p := ⟨zb, zo + i, none⟩) (World.block_lt_of_cell? _ _ HKK.out.2.2.1)).trans HKK.out.2.2.1, (hb.cell (p := ⟨b, off + n * 2, none⟩) (World.block_lt_of_cell? _ _ HKK.out.2.2.2.1)).trans HKK.out.2.2.2.1, (hb.cell (p := ⟨b, off + n * 2 + 1, none⟩) (World.block_lt_of_cell? _ _ HKK.out.2.2.2.2)).trans HKK.out.2.2.2.2⟩); clear hb))
      obtain ⟨y0, y1', y2', _, _, _⟩ := HS8.out.x.cells
      obtain ⟨hct, hft⟩ := HS8.out.s.cellT i (by omega)
      have hd := HZR.out
      unfold Dis at hd
      have HN := Lib.hid (HS8.out.setT (by omega) (by omega) (by omega) (by omega) (by omega) i (tn : Int))
      go_wp2_with fail
      go_roundw
      case rel => exact ⟨v, _, rfl, HX.out, by simpa using (by have : wr.drew.heap.size = wr.heap.size := rfl; omega), HN.out⟩
      case measure => exact HM.out
end Go.Proofs.Ytggibhhdnlifcaa
