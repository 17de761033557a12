/- What spec.PlaceBar answers. No condition. -/
import Derived.Test.YtdkpmaahinbhlaaFqGathS
import Derived.Test.YtdkpmaahinbhlaaFqB2
import Derived.Test.YtdkpmaahinbhlaaFqB1
import Derived.Deep.QuietTactic
namespace Go.Proofs.Ytdkpmaahinbhlaa
open Go.RowKit

set_option maxHeartbeats 8000000 in
set_option maxRecDepth 100000 in
theorem specPlaP (p k c : Int) (l : List (Int × Int)) (A : Option Addr) (cap : Nat) (AF AT AZ : Option Addr) (cF cT cZ lo hi : Nat) (F T Z : List Int) (n : Int) (w : World) (hl : BarsAt w w.heap.size A l) (h : Peb3 w lo hi AF AT AZ F T Z) (hn : l.length ≤ 1048576) (hF : F.length ≤ 1048576) (hT : T.length ≤ 1048576) (hZ : Z.length ≤ 1048576) (hw : WfI F) :
    Calls Try.prog 34 #[.agg #[.int .i64 p, .slice A l.length cap], .int .i64 k, .int .i64 c, pebV AF F.length cF AT T.length cT AZ Z.length cZ, .int .i64 n] w (PebOB w ((plaV p k c l F T Z n).getD (F, T, Z)).1 ((plaV p k c l F T Z n).getD (F, T, Z)).2.1 ((plaV p k c l F T Z n).getD (F, T, Z)).2.2 (plaV p k c l F T Z n).isSome) := by
  by_cases c1 : isPebB p k l F T Z = true
  case neg =>
    have c1' : isPebB p k l F T Z = false := by simpa using c1
    have HB := Lib.hid c1'
    clear c1'
    have HI0 := Lib.hid (GtI.start w p A cap l AF AT AZ cF cT cZ lo hi F T Z hl h)
    have HWF := Lib.hid hw
    have hs3 : (((w.alloc (.cells #[.int .i64 p, .slice A l.length cap] 26)).alloc (.cells #[.slice AF F.length cF, .slice AT T.length cT, .slice AZ Z.length cZ] 31)).alloc (.cells #[.slice none 0 0, .slice none 0 0, .slice none 0 0] 31)).heap.size = w.heap.size + 3 := by simp
    have HS3 := Lib.hid hs3
    obtain ⟨_, g0, g1⟩ := HI0.out.gb
    obtain ⟨x0, x1, x2, _, _, _⟩ := HI0.out.pb.cells
    clear hl h hw hs3
    have HN := Lib.hid (show plaV p k c l F T Z n = none from if_neg (fun q => by exact c1 q.1))
    go_enter Try.func34, Try.ntmps34
    go_wp2_with (first
      | (go_at_call 126; refine (copyPeb_c AF AT AZ cF cT cZ lo hi F T Z _ HI6.out.src hF hT hZ).mono ?_; rintro e w7 ⟨BF, dF, BT, dT, BZ, dZ, rfl, ho, hb7⟩; have HI7 := Lib.hid (HI6.out.below hb7); have HO7 := Lib.hid ho; obtain ⟨_, _, _, f0, f1, f2⟩ := HI7.out.rb.cells; have r3 := ret3 HI7.out.rb (.slice BF F.length dF) (.slice BT T.length dT) (.slice BZ Z.length dZ); obtain ⟨s0, s1, s2, _⟩ := r3.1.cells; have HW := Lib.hid r3.2; clear ho hb7 r3)
      | (go_at_call 39; refine (specIsPeb p k l A cap AF AT AZ cF cT cZ lo hi F T Z _ HI0.out.bars.at HI0.out.src hn hF hT hZ HWF.out).mono ?_; rintro e w6 ⟨rfl, hb6⟩; rw [HB.out]; have HI6 := Lib.hid (HI0.out.below hb6); obtain ⟨_, v0, v1⟩ := HI6.out.gb; obtain ⟨v2, v3, v4, _, _, _⟩ := HI6.out.pb.cells; have hlo6 := hb6.size; have HLO := Lib.hid (show w.heap.size + 1 + 1 + 1 ≤ w6.heap.size by have := HS3.out; omega); clear hlo6 hb6 g0 g1 x0 x1 x2))
    rw [HN.out]
    refine bodyPost_ret (v := .tuple #[pebV BF F.length dF BT T.length dT BZ Z.length dZ, .bool false]) ?_ rfl ?_
    · simp [results, Try.results34, go_sem, s0, s1, s2]
    · have hg := HI7.out.bel
      have hlo6 := HI6.out.bel.size
      have hsw := HW.out.size
      exact ⟨_, _, _, _, _, _, rfl, (HO7.out.own3.within HW.out (.inr HLO.out)).widen (by omega) (by omega) (Nat.le_refl _), within_on hg HW.out hg.size (.inl (by omega))⟩
  have HB := Lib.hid c1
  have hp := isPebB_is c1
  obtain rfl : p = (F.length : Int) := hp.2.2.1.symm
  have HP := Lib.hid hp
  have hF8 := hp.1.1
  have hk3 := hp.2.1
  clear hp c1
  have HHI0 := Lib.hid h.f.1
  have HI0 := Lib.hid (GtI.start w (F.length : Int) A cap l AF AT AZ cF cT cZ lo hi F T Z hl h)
  have HWF := Lib.hid hw
  have hs3 : (((w.alloc (.cells #[.int .i64 (F.length : Int), .slice A l.length cap] 26)).alloc (.cells #[.slice AF F.length cF, .slice AT T.length cT, .slice AZ Z.length cZ] 31)).alloc (.cells #[.slice none 0 0, .slice none 0 0, .slice none 0 0] 31)).heap.size = w.heap.size + 3 := by simp
  have HS3 := Lib.hid hs3
  obtain ⟨_, g0, g1⟩ := HI0.out.gb
  obtain ⟨x0, x1, x2, _, _, _⟩ := HI0.out.pb.cells
  clear hl h hw hs3
  by_cases c2 : rangeB k c = true
  case neg =>
    have c2' : rangeB k c = false := by simpa using c2
    have HRG := Lib.hid c2'
    clear c2'
    have HN := Lib.hid (show plaV (F.length : Int) k c l F T Z n = none from if_neg (fun q => by exact c2 q.2.1))
    go_enter Try.func34, Try.ntmps34
    go_wp2_with (first
      | (go_at_call 126; refine (copyPeb_c AF AT AZ cF cT cZ lo hi F T Z _ HI6.out.src hF hT hZ).mono ?_; rintro e w7 ⟨BF, dF, BT, dT, BZ, dZ, rfl, ho, hb7⟩; have HI7 := Lib.hid (HI6.out.below hb7); have HO7 := Lib.hid ho; obtain ⟨_, _, _, f0, f1, f2⟩ := HI7.out.rb.cells; have r3 := ret3 HI7.out.rb (.slice BF F.length dF) (.slice BT T.length dT) (.slice BZ Z.length dZ); obtain ⟨s0, s1, s2, _⟩ := r3.1.cells; have HW := Lib.hid r3.2; clear ho hb7 r3)
      | (go_at_call 110; refine (specRange k c _).mono ?_; rintro e w9 ⟨rfl, rfl⟩; rw [HRG.out])
      | (go_at_call 39; refine (specIsPeb (F.length : Int) k l A cap AF AT AZ cF cT cZ lo hi F T Z _ HI0.out.bars.at HI0.out.src hn hF hT hZ HWF.out).mono ?_; rintro e w6 ⟨rfl, hb6⟩; rw [HB.out]; have HI6 := Lib.hid (HI0.out.below hb6); obtain ⟨_, v0, v1⟩ := HI6.out.gb; obtain ⟨v2, v3, v4, _, _, _⟩ := HI6.out.pb.cells; have hlo6 := hb6.size; have HLO := Lib.hid (show w.heap.size + 1 + 1 + 1 ≤ w6.heap.size by have := HS3.out; omega); clear hlo6 hb6 g0 g1 x0 x1 x2))
    rw [HN.out]
    refine bodyPost_ret (v := .tuple #[pebV BF F.length dF BT T.length dT BZ Z.length dZ, .bool false]) ?_ rfl ?_
    · simp [results, Try.results34, go_sem, s0, s1, s2]
    · have hg := HI7.out.bel
      have hlo6 := HI6.out.bel.size
      have hsw := HW.out.size
      exact ⟨_, _, _, _, _, _, rfl, (HO7.out.own3.within HW.out (.inr HLO.out)).widen (by omega) (by omega) (Nat.le_refl _), within_on hg HW.out hg.size (.inl (by omega))⟩
  have HRG := Lib.hid c2
  by_cases c3 : 0 ≤ n
  case neg =>
    have c3' : n < 0 := by omega
    have HN := Lib.hid (show plaV (F.length : Int) k c l F T Z n = none from if_neg (fun q => by exact c3 q.2.2.1.1))
    go_enter Try.func34, Try.ntmps34
    go_wp2_with (first
      | (go_at_call 126; refine (copyPeb_c AF AT AZ cF cT cZ lo hi F T Z _ HI6.out.src hF hT hZ).mono ?_; rintro e w7 ⟨BF, dF, BT, dT, BZ, dZ, rfl, ho, hb7⟩; have HI7 := Lib.hid (HI6.out.below hb7); have HO7 := Lib.hid ho; obtain ⟨_, _, _, f0, f1, f2⟩ := HI7.out.rb.cells; have r3 := ret3 HI7.out.rb (.slice BF F.length dF) (.slice BT T.length dT) (.slice BZ Z.length dZ); obtain ⟨s0, s1, s2, _⟩ := r3.1.cells; have HW := Lib.hid r3.2; clear ho hb7 r3)
      | (go_at_call 110; refine (specRange k c _).mono ?_; rintro e w9 ⟨rfl, rfl⟩; rw [HRG.out])
      | (go_at_call 39; refine (specIsPeb (F.length : Int) k l A cap AF AT AZ cF cT cZ lo hi F T Z _ HI0.out.bars.at HI0.out.src hn hF hT hZ HWF.out).mono ?_; rintro e w6 ⟨rfl, hb6⟩; rw [HB.out]; have HI6 := Lib.hid (HI0.out.below hb6); obtain ⟨_, v0, v1⟩ := HI6.out.gb; obtain ⟨v2, v3, v4, _, _, _⟩ := HI6.out.pb.cells; have hlo6 := hb6.size; have HLO := Lib.hid (show w.heap.size + 1 + 1 + 1 ≤ w6.heap.size by have := HS3.out; omega); clear hlo6 hb6 g0 g1 x0 x1 x2))
    rw [HN.out]
    refine bodyPost_ret (v := .tuple #[pebV BF F.length dF BT T.length dT BZ Z.length dZ, .bool false]) ?_ rfl ?_
    · simp [results, Try.results34, go_sem, s0, s1, s2]
    · have hg := HI7.out.bel
      have hlo6 := HI6.out.bel.size
      have hsw := HW.out.size
      exact ⟨_, _, _, _, _, _, rfl, (HO7.out.own3.within HW.out (.inr HLO.out)).widen (by omega) (by omega) (Nat.le_refl _), within_on hg HW.out hg.size (.inl (by omega))⟩
  have c3' : ¬ n < 0 := by omega
  by_cases c4 : n < (l.length : Int)
  case neg =>
    have c4' : (l.length : Int) ≤ n := by omega
    have HN := Lib.hid (show plaV (F.length : Int) k c l F T Z n = none from if_neg (fun q => by exact c4 q.2.2.1.2))
    go_enter Try.func34, Try.ntmps34
    go_wp2_with (first
      | (go_at_call 126; refine (copyPeb_c AF AT AZ cF cT cZ lo hi F T Z _ HI6.out.src hF hT hZ).mono ?_; rintro e w7 ⟨BF, dF, BT, dT, BZ, dZ, rfl, ho, hb7⟩; have HI7 := Lib.hid (HI6.out.below hb7); have HO7 := Lib.hid ho; obtain ⟨_, _, _, f0, f1, f2⟩ := HI7.out.rb.cells; have r3 := ret3 HI7.out.rb (.slice BF F.length dF) (.slice BT T.length dT) (.slice BZ Z.length dZ); obtain ⟨s0, s1, s2, _⟩ := r3.1.cells; have HW := Lib.hid r3.2; clear ho hb7 r3)
      | (go_at_call 110; refine (specRange k c _).mono ?_; rintro e w9 ⟨rfl, rfl⟩; rw [HRG.out])
      | (go_at_call 39; refine (specIsPeb (F.length : Int) k l A cap AF AT AZ cF cT cZ lo hi F T Z _ HI0.out.bars.at HI0.out.src hn hF hT hZ HWF.out).mono ?_; rintro e w6 ⟨rfl, hb6⟩; rw [HB.out]; have HI6 := Lib.hid (HI0.out.below hb6); obtain ⟨_, v0, v1⟩ := HI6.out.gb; obtain ⟨v2, v3, v4, _, _, _⟩ := HI6.out.pb.cells; have hlo6 := hb6.size; have HLO := Lib.hid (show w.heap.size + 1 + 1 + 1 ≤ w6.heap.size by have := HS3.out; omega); clear hlo6 hb6 g0 g1 x0 x1 x2))
    rw [HN.out]
    refine bodyPost_ret (v := .tuple #[pebV BF F.length dF BT T.length dT BZ Z.length dZ, .bool false]) ?_ rfl ?_
    · simp [results, Try.results34, go_sem, s0, s1, s2]
    · have hg := HI7.out.bel
      have hlo6 := HI6.out.bel.size
      have hsw := HW.out.size
      exact ⟨_, _, _, _, _, _, rfl, (HO7.out.own3.within HW.out (.inr HLO.out)).widen (by omega) (by omega) (Nat.le_refl _), within_on hg HW.out hg.size (.inl (by omega))⟩
  have c4' : ¬ (l.length : Int) ≤ n := by omega
  obtain ⟨nn, rfl⟩ : ∃ nn : Nat, n = (nn : Int) := ⟨n.toNat, by omega⟩
  by_cases c5 : Z ≠ [] → Z.getD (Z.length - 1) 0 < (nn : Int)
  case neg =>
    have hne : Z ≠ [] := fun e => c5 (fun h => absurd e h)
    have hle : ¬ Z.getD (Z.length - 1) 0 < (nn : Int) := fun h => c5 (fun _ => h)
    have hzp0 : 0 < Z.length := List.length_pos_iff.2 hne
    have hzp : 0 < Z.length := by omega
    have hzd : (0 : Int) < (Z.length : Int) := by omega
    have hzd2 : decide ((0 : Int) < (Z.length : Int)) = true := decide_eq_true hzd
    obtain ⟨zb, zo, rfl, _, _, hzc⟩ := HI0.out.src.z.2 hzp
    have hzl0 : ∀ W : World, GtI w W (F.length : Int) A cap l AF AT (some ⟨zb, zo, none⟩) cF cT cZ lo hi F T Z → W.cell? ⟨zb, zo + (Z.length - 1), none⟩ = some (.int .i64 (Z.getD (Z.length - 1) 0)) := fun W hh => by
      obtain ⟨b', o', e', _, _, hc'⟩ := hh.src.z.2 hzp
      cases e'
      exact hc' (Z.length - 1) (by omega)
    have hzi : ((Z.length : Int) - 1) = ((Z.length - 1 : Nat) : Int) := by omega
    have hzi2 : ((Z.length - 1 : Nat) : Int) < (Z.length : Int) := by omega
    obtain ⟨zl, hzl1⟩ : ∃ zl, Z.getD (Z.length - 1) 0 = zl := ⟨_, rfl⟩
    rw [hzl1] at hzl0
    have HZL0 := Lib.hid hzl0
    clear hzc hzl0
    rw [hzl1] at hle
    have hle2 : (nn : Int) ≤ zl := by omega
    have HZL := Lib.hid hzl1
    clear hzl1 hne c5
    have HN := Lib.hid (show plaV (F.length : Int) k c l F T Z (nn : Int) = none from if_neg (fun q => by have h1 := q.2.2.2 (by intro e; rw [e] at hzp; simp at hzp); rw [HZL.out] at h1; omega))
    go_enter Try.func34, Try.ntmps34
    go_wp2_with (first
      | (go_at_call 126; refine (copyPeb_c AF AT (some ⟨zb, zo, none⟩) cF cT cZ lo hi F T Z _ HI6.out.src hF hT hZ).mono ?_; rintro e w7 ⟨BF, dF, BT, dT, BZ, dZ, rfl, ho, hb7⟩; have HI7 := Lib.hid (HI6.out.below hb7); have HO7 := Lib.hid ho; obtain ⟨_, _, _, f0, f1, f2⟩ := HI7.out.rb.cells; have r3 := ret3 HI7.out.rb (.slice BF F.length dF) (.slice BT T.length dT) (.slice BZ Z.length dZ); obtain ⟨s0, s1, s2, _⟩ := r3.1.cells; have HW := Lib.hid r3.2; clear ho hb7 r3)
      | (go_at_call 110; refine (specRange k c _).mono ?_; rintro e w9 ⟨rfl, rfl⟩; rw [HRG.out])
      | (go_at_call 39; refine (specIsPeb (F.length : Int) k l A cap AF AT (some ⟨zb, zo, none⟩) cF cT cZ lo hi F T Z _ HI0.out.bars.at HI0.out.src hn hF hT hZ HWF.out).mono ?_; rintro e w6 ⟨rfl, hb6⟩; rw [HB.out]; have HI6 := Lib.hid (HI0.out.below hb6); obtain ⟨_, v0, v1⟩ := HI6.out.gb; obtain ⟨v2, v3, v4, _, _, _⟩ := HI6.out.pb.cells; have hlo6 := hb6.size; have HLO := Lib.hid (show w.heap.size + 1 + 1 + 1 ≤ w6.heap.size by have := HS3.out; omega); have hzl := HZL0.out w6 HI6.out; clear hlo6 hb6 g0 g1 x0 x1 x2))
    rw [HN.out]
    refine bodyPost_ret (v := .tuple #[pebV BF F.length dF BT T.length dT BZ Z.length dZ, .bool false]) ?_ rfl ?_
    · simp [results, Try.results34, go_sem, s0, s1, s2]
    · have hg := HI7.out.bel
      have hlo6 := HI6.out.bel.size
      have hsw := HW.out.size
      exact ⟨_, _, _, _, _, _, rfl, (HO7.out.own3.within HW.out (.inr HLO.out)).widen (by omega) (by omega) (Nat.le_refl _), within_on hg HW.out hg.size (.inl (by omega))⟩
  have HV := Lib.hid (show plaV (F.length : Int) k c l F T Z (nn : Int) = plaR l c F T Z (nn : Int) from if_pos ⟨HB.out, HRG.out, ⟨c3, c4⟩, c5⟩)
  have hrg := HRG.out
  unfold rangeB at hrg
  simp only [Bool.and_eq_true, decide_eq_true_eq] at hrg
  have hmany := HP.out.many
  have h24 := HP.out.1.2.1
  have hPT := HP.out.2.2.2.1
  have hT24 : T.length ≤ 24 := by omega
  have hZ24 : Z.length ≤ 24 := by omega
  have HPT := Lib.hid hPT
  clear hPT
  have hOB := HP.out.1.2.2 nn (by omega)
  unfold OkBar at hOB
  have hnn : nn < l.length := by omega
  obtain ⟨x, hxd⟩ : ∃ x, l.getD nn (0, 0) = x := ⟨_, rfl⟩
  rw [hxd] at hOB
  obtain ⟨x1, x2⟩ := x
  simp only at hOB
  obtain ⟨a, rfl⟩ : ∃ a : Nat, x1 = (a : Int) := ⟨x1.toNat, by omega⟩
  obtain ⟨b, rfl⟩ : ∃ b : Nat, x2 = (b : Int) := ⟨x2.toNat, by omega⟩
  obtain ⟨bb, boff, rfl, _, hbB, _⟩ := HI0.out.bars.2 (by omega)
  have HBC := Lib.hid (fun (W : World) (hh : GtI w W (F.length : Int) (some ⟨bb, boff, none⟩) cap l AF AT AZ cF cT cZ lo hi F T Z) => (show W.cell? ⟨bb, boff + nn * 2, none⟩ = some (.int .i64 (a : Int)) ∧ W.cell? ⟨bb, boff + nn * 2 + 1, none⟩ = some (.int .i64 (b : Int)) from by
    obtain ⟨b', o', e', _, _, hc'⟩ := hh.bars.2 (by omega)
    cases e'
    have h2 := hc' nn hnn
    rw [hxd] at h2
    exact h2))
  have HX := Lib.hid hxd
  clear hxd
  obtain ⟨rg, hrg0⟩ : ∃ rg, gathR (plE l Z) (a : Int) (b : Int) (c + 1) (F, T) = rg := ⟨_, rfl⟩
  have HR := Lib.hid hrg0
  clear hrg0
  have HPL := Lib.hid (show plaV (F.length : Int) k c l F T Z (nn : Int) = rg.map fun s => if s.1.getD a 0 = 0 then (s.1.set b (s.1.getD b 0 - 1), s.2 ++ [(b : Int)], Z ++ [(nn : Int)]) else (s.1.set a (s.1.getD a 0 - 1), s.2 ++ [(a : Int)], Z ++ [(nn : Int)]) from by
    rw [HV.out]
    unfold plaR
    rw [Int.toNat_natCast, HX.out]
    simp only [Int.toNat_natCast]
    rw [HR.out])
  have HHI := Lib.hid (show hi ≤ w.heap.size from HHI0.out)
  by_cases c6 : 0 < Z.length
  · have hlt0 := c5 (by intro e; rw [e] at c6; simp at c6)
    have hzp : 0 < Z.length := by omega
    have hzd : (0 : Int) < (Z.length : Int) := by omega
    have hzd2 : decide ((0 : Int) < (Z.length : Int)) = true := decide_eq_true hzd
    obtain ⟨zb, zo, rfl, _, _, hzc⟩ := HI0.out.src.z.2 hzp
    have hzl0 : ∀ W : World, GtI w W (F.length : Int) (some ⟨bb, boff, none⟩) cap l AF AT (some ⟨zb, zo, none⟩) cF cT cZ lo hi F T Z → W.cell? ⟨zb, zo + (Z.length - 1), none⟩ = some (.int .i64 (Z.getD (Z.length - 1) 0)) := fun W hh => by
      obtain ⟨b', o', e', _, _, hc'⟩ := hh.src.z.2 hzp
      cases e'
      exact hc' (Z.length - 1) (by omega)
    have hzi : ((Z.length : Int) - 1) = ((Z.length - 1 : Nat) : Int) := by omega
    have hzi2 : ((Z.length - 1 : Nat) : Int) < (Z.length : Int) := by omega
    obtain ⟨zl, hzl1⟩ : ∃ zl, Z.getD (Z.length - 1) 0 = zl := ⟨_, rfl⟩
    rw [hzl1] at hzl0
    have HZL0 := Lib.hid hzl0
    clear hzc hzl0
    rw [hzl1] at hlt0
    have hle2 : ¬ (nn : Int) ≤ zl := by omega
    clear hzl1 c5
    cases rg with
    | none =>
      have HGC := Lib.hid (fun (W : World) (h1 : BarsAt W W.heap.size (some ⟨bb, boff, none⟩) l) (h2 : Peb3 W lo hi AF AT (some ⟨zb, zo, none⟩) F T Z) => show Calls Try.prog 127 _ W (fun e w' => Below W.heap.size W w' ∧ ∃ BF dF BT dT BZ dZ, e = .returned (.tuple #[pebV BF F.length dF BT T.length dT BZ Z.length dZ, .bool false])) from (gathS_c k l (some ⟨bb, boff, none⟩) cap AF AT (some ⟨zb, zo, none⟩) cF cT cZ lo hi F T Z a b (c + 1) W HP.out.state (by omega) (by omega) h24 (by omega) (fun i hi => (HP.out.2.2.2.2.1 i hi).1) (by omega) (by omega) (by omega) h1 h2).mono (by
        rintro e w' ⟨hb, BF, dF, BT, dT, BZ, dZ, ⟨rfl, _⟩ | ⟨s, _, hs, _⟩⟩
        · exact ⟨hb, _, _, _, _, _, _, rfl⟩
        · rw [HR.out] at hs; cases hs))
      go_enter Try.func34, Try.ntmps34
      go_wp2_with (first
        | (go_at_call 126; refine (copyPeb_c AF AT (some ⟨zb, zo, none⟩) cF cT cZ lo hi F T Z _ HI8.out.src hF hT hZ).mono ?_; rintro e w9 ⟨BF, dF, BT, dT, BZ, dZ, rfl, ho, hb7⟩; have HI9 := Lib.hid (HI8.out.below hb7); have HO7 := Lib.hid ho; obtain ⟨_, _, _, f0, f1, f2⟩ := HI9.out.rb.cells; have r3 := ret3 HI9.out.rb (.slice BF F.length dF) (.slice BT T.length dT) (.slice BZ Z.length dZ); obtain ⟨s0, s1, s2, _⟩ := r3.1.cells; have HW := Lib.hid r3.2; clear ho hb7 r3)
        | (go_at_call 127; have hbb := new_below w6 (.cells #[.int .i64 (a : Int), .int .i64 (b : Int)] 108); refine (HGC.out (w6.alloc (.cells #[.int .i64 (a : Int), .int .i64 (b : Int)] 108)) ((HI6.out.below hbb).bars.at) ((HI6.out.below hbb).src)).mono ?_; rintro e w7 ⟨hb, DF, eF, DT, eT, DZ, eZ, rfl⟩; have HI7 := Lib.hid ((HI6.out.below hbb).below hb); have hb8 := new_below w7 (.cells #[.slice DF F.length eF, .slice DT T.length eT, .slice DZ Z.length eZ] 31); have HI8 := Lib.hid (HI7.out.below hb8); have HLO8 := Lib.hid (Nat.le_trans HLO.out (Nat.le_trans hbb.size (Nat.le_trans hb.size hb8.size))); have HBX := Lib.hid (((box_new w6 (a : Int) (.int .i64 (b : Int)) 108).kept hb).kept hb8); obtain ⟨_, k0, k1⟩ := HBX.out; obtain ⟨u2, u3, u4, _, _, _⟩ := HI8.out.pb.cells; clear hb hb8 hbb v0 v1 v2 v3 v4 bc0 bc1)
        | (go_at_call 110; refine (specRange k c _).mono ?_; rintro e w9 ⟨rfl, rfl⟩; rw [HRG.out])
        | (go_at_call 39; refine (specIsPeb (F.length : Int) k l (some ⟨bb, boff, none⟩) cap AF AT (some ⟨zb, zo, none⟩) cF cT cZ lo hi F T Z _ HI0.out.bars.at HI0.out.src hn hF hT hZ HWF.out).mono ?_; rintro e w6 ⟨rfl, hb6⟩; rw [HB.out]; have HI6 := Lib.hid (HI0.out.below hb6); obtain ⟨_, v0, v1⟩ := HI6.out.gb; obtain ⟨v2, v3, v4, _, _, _⟩ := HI6.out.pb.cells; have hlo6 := hb6.size; have HLO := Lib.hid (show w.heap.size + 1 + 1 + 1 ≤ w6.heap.size by have := HS3.out; omega); have hzl := HZL0.out w6 HI6.out; obtain ⟨bc0, bc1⟩ := HBC.out w6 HI6.out; have nn1 : w.heap.size + 1 ≠ w6.heap.size := (by have := HLO.out; omega); have nn2 : w.heap.size ≠ w6.heap.size := (by have := HLO.out; omega); have nn3 : w.heap.size + 1 < w6.heap.size := (by have := HLO.out; omega); have nn4 : w.heap.size < w6.heap.size := (by have := HLO.out; omega); clear hlo6 hb6 g0 g1 x0 x1 x2))
      rw [HPL.out]
      refine bodyPost_ret (v := .tuple #[pebV BF F.length dF BT T.length dT BZ Z.length dZ, .bool false]) ?_ rfl ?_
      · simp [results, Try.results34, go_sem, s0, s1, s2]
      · have hg := HI9.out.bel
        have hlo6 := HI8.out.bel.size
        have hsw := HW.out.size
        exact ⟨_, _, _, _, _, _, rfl, (HO7.out.own3.within HW.out (.inr HLO8.out)).widen (by omega) (by omega) (Nat.le_refl _), within_on hg HW.out hg.size (.inl (by omega))⟩
    | some s =>
      have HGC := Lib.hid (fun (W : World) (h1 : BarsAt W W.heap.size (some ⟨bb, boff, none⟩) l) (h2 : Peb3 W lo hi AF AT (some ⟨zb, zo, none⟩) F T Z) => show Calls Try.prog 127 _ W (fun e w' => Below W.heap.size W w' ∧ ∃ BF dF BT dT BZ dZ, e = .returned (.tuple #[pebV BF s.1.length dF BT s.2.length dT BZ Z.length dZ, .bool true]) ∧ s.1.length = F.length ∧ s.2.length = T.length ∧ Own3R w' W.heap.size w'.heap.size BF dF BT dT BZ dZ s.1 s.2 Z) from (gathS_c k l (some ⟨bb, boff, none⟩) cap AF AT (some ⟨zb, zo, none⟩) cF cT cZ lo hi F T Z a b (c + 1) W HP.out.state (by omega) (by omega) h24 (by omega) (fun i hi => (HP.out.2.2.2.2.1 i hi).1) (by omega) (by omega) (by omega) h1 h2).mono (by
        rintro e w' ⟨hb, BF, dF, BT, dT, BZ, dZ, ⟨_, hs⟩ | ⟨s2, rfl, hs, h1, h2, ho⟩⟩
        · rw [HR.out] at hs; cases hs
        · rw [HR.out] at hs
          cases hs
          exact ⟨hb, _, _, _, _, _, _, by rw [h1, h2], h1, h2, ho⟩))
      obtain ⟨d1, hd1⟩ : ∃ d1, s.1.getD a 0 = d1 := ⟨_, rfl⟩
      obtain ⟨d2, hd2⟩ : ∃ d2, s.1.getD b 0 = d2 := ⟨_, rfl⟩
      have HDA := Lib.hid hd1
      have HDB := Lib.hid hd2
      clear hd1 hd2
      by_cases c0 : d1 = 0
      · have e1 : (d1 == 0) = true := by simpa using c0
        go_enter Try.func34, Try.ntmps34
        go_wp2_with (first
          | (go_at_call 127; have hbb := new_below w6 (.cells #[.int .i64 (a : Int), .int .i64 (b : Int)] 108); refine (HGC.out (w6.alloc (.cells #[.int .i64 (a : Int), .int .i64 (b : Int)] 108)) ((HI6.out.below hbb).bars.at) ((HI6.out.below hbb).src)).mono ?_; rintro e w7 ⟨hb, DF, eF, DT, eT, DZ, eZ, rfl, hl1, hl2, ho⟩; have HI7 := Lib.hid ((HI6.out.below hbb).below hb); have hb8 := new_below w7 (.cells #[.slice DF s.1.length eF, .slice DT s.2.length eT, .slice DZ Z.length eZ] 31); have HI8 := Lib.hid (HI7.out.below hb8); have HLO8 := Lib.hid (Nat.le_trans HLO.out (Nat.le_trans hbb.size (Nat.le_trans hb.size hb8.size))); have HBX := Lib.hid (((box_new w6 (a : Int) (.int .i64 (b : Int)) 108).kept hb).kept hb8); obtain ⟨_, k0, k1⟩ := HBX.out; have HX8 := Lib.hid (cel3_new w7 (.slice DF s.1.length eF) (.slice DT s.2.length eT) (.slice DZ Z.length eZ) 31); obtain ⟨f, t, z, hof, y1, y2, y3⟩ := ho.ownF; have HF8 := Lib.hid (hof.below hb8); have hz6 : (w6.alloc (.cells #[.int .i64 (a : Int), .int .i64 (b : Int)] 108)).heap.size = w6.heap.size + 1 := (by simp); have HLY := Lib.hid (show (w6.heap.size + 1 ≤ f.1 ∧ f.2 ≤ w7.heap.size) ∧ (w6.heap.size + 1 ≤ t.1 ∧ t.2 ≤ w7.heap.size) ∧ (w6.heap.size + 1 ≤ z.1 ∧ z.2 ≤ w7.heap.size) from by omega); have HLL := Lib.hid (And.intro hl1 hl2); obtain ⟨hq, _⟩ := gathR_ok (P := F.length) (by omega) (by omega) (by omega) HP.out.state HR.out; have hfl := hq.flen; have hsa := hq.small (v := (a : Int)) (by omega); have hsb := hq.small (v := (b : Int)) (by omega); rw [Int.toNat_natCast] at hsa hsb; obtain ⟨gF, rfl, g1', g2', hFr⟩ := hof.1.open_ (by omega); have hFr8 := own_below hFr hb8; have ha1 := (hFr8.cellAt a (by omega)).trans (intCells_get s.1 a (by omega)); have HFR := Lib.hid hFr8; have HG12 := Lib.hid (And.intro g1' g2'); have HQS := Lib.hid (And.intro hsa hsb); have HFL := Lib.hid hfl; obtain ⟨j0, j1, j2, _, _, _⟩ := HX8.out.cells; rw [HDA.out] at ha1; have hsla : (a : Int) < (s.1.length : Int) := (by omega); clear hof y1 y2 y3 hz6 hl1 hl2 hq hfl hsa hsb hFr hFr8 g1' g2' ho hb hb8 hbb v0 v1 v2 v3 v4 bc0 bc1)
          | (go_at_call 110; refine (specRange k c _).mono ?_; rintro e w9 ⟨rfl, rfl⟩; rw [HRG.out])
          | (go_at_call 39; refine (specIsPeb (F.length : Int) k l (some ⟨bb, boff, none⟩) cap AF AT (some ⟨zb, zo, none⟩) cF cT cZ lo hi F T Z _ HI0.out.bars.at HI0.out.src hn hF hT hZ HWF.out).mono ?_; rintro e w6 ⟨rfl, hb6⟩; rw [HB.out]; have HI6 := Lib.hid (HI0.out.below hb6); obtain ⟨_, v0, v1⟩ := HI6.out.gb; obtain ⟨v2, v3, v4, _, _, _⟩ := HI6.out.pb.cells; have hlo6 := hb6.size; have HLO := Lib.hid (show w.heap.size + 1 + 1 + 1 ≤ w6.heap.size by have := HS3.out; omega); have hzl := HZL0.out w6 HI6.out; obtain ⟨bc0, bc1⟩ := HBC.out w6 HI6.out; have nn1 : w.heap.size + 1 ≠ w6.heap.size := (by have := HLO.out; omega); have nn2 : w.heap.size ≠ w6.heap.size := (by have := HLO.out; omega); have nn3 : w.heap.size + 1 < w6.heap.size := (by have := HLO.out; omega); have nn4 : w.heap.size < w6.heap.size := (by have := HLO.out; omega); clear hlo6 hb6 g0 g1 x0 x1 x2))
        have hw8 : w7.heap.size < (w7.alloc (.cells #[.slice (some ⟨gF, 0, none⟩) s.1.length eF, .slice DT s.2.length eT, .slice DZ Z.length eZ] 31)).heap.size := by simp
        have hbxl : w.heap.size + 1 + 1 + 1 ≤ w7.heap.size := by have := HLY.out; have := HG12.out; have := HLO.out; omega
        have HBXL := Lib.hid hbxl
        obtain ⟨t', z', hn8, m1, m2, m3, m4, m5, m6⟩ := HF8.out.norm (B := w.heap.size + 3) (pb := w7.heap.size) (by omega) hw8 (by have := HLY.out; have := HLO.out; omega) (by have := HLY.out; have := HLO.out; omega) (.inr HLY.out.2.1.2) (.inr HLY.out.2.2.2)
        have HF9 := Lib.hid hn8
        have HPB := Lib.hid (And.intro m3 m4)
        have HLT := Lib.hid (And.intro m5 m6)
        have HLZ := Lib.hid (show w.heap.size + 3 ≤ f.1 ∧ w.heap.size + 3 ≤ t'.1 ∧ w.heap.size + 3 ≤ z'.1 ∧ gF < w7.heap.size ∧ f.2 ≤ w7.heap.size from ⟨by have := HLY.out; have := HLO.out; omega, m1, m2, by have := HLY.out; have := HG12.out; omega, HLY.out.1.2⟩)
        have HGW := Lib.hid (show w6.heap.size < gF from by have := HLY.out; have := HG12.out; omega)
        clear hbxl m1 m2 m3 m4 m5 m6 hn8 HF8 HLY
        clear ha1 j0 j1 j2 k0 k1
        generalize (w7.alloc (.cells #[.slice (some ⟨gF, 0, none⟩) s.1.length eF, .slice DT s.2.length eT, .slice DZ Z.length eZ] 31)) = w8 at *
        generalize hbx : w7.heap.size = bx at *
        have hw4 := within_set w8 gF b (.int .i64 (d2 - 1))
        have hdr : Below (w8.setCell ⟨gF, b, none⟩ (.int .i64 (d2 - 1))).heap.size (w8.setCell ⟨gF, b, none⟩ (.int .i64 (d2 - 1))) (w8.setCell ⟨gF, b, none⟩ (.int .i64 (d2 - 1))).drew := (Below.refl _ _).drew
        obtain ⟨o1, o2, o3, d1', d2', d3'⟩ := HF9.out
        have HXX := Lib.hid (And.intro d1' (And.intro d2' d3'))
        unfold Dis at d1' d2' d3'
        have hg12 := HG12.out
        have hly := HLZ.out
        have HT4 := Lib.hid ((o2.within hw4 (by omega)).within (within_of hdr) (.inr (Nat.zero_le _)))
        have HZ4 := Lib.hid ((o3.within hw4 (by omega)).within (within_of hdr) (.inr (Nat.zero_le _)))
        have HFR4 := Lib.hid (show World.ownsRow (w8.setCell ⟨gF, b, none⟩ (.int .i64 (d2 - 1))).drew 0 3 1 (.slice (some ⟨gF, 0, none⟩) (s.1.set b (d2 - 1)).length eF) (s.1.set b (d2 - 1)).length (intCells (s.1.set b (d2 - 1))) from by
          have h1 := (HFR.out.stored b (.int .i64 (d2 - 1))).1
          rw [intCells_set] at h1
          rw [List.length_set]
          exact own_below h1 hdr)
        have HX4 := Lib.hid ((HX8.out.within hw4 (by omega)).kept hdr)
        have HI4 := Lib.hid ((HI8.out.within hw4 (by have := HLO.out; omega) (by have := HHI.out; have := HLO.out; omega)).below hdr)
        have hs9 : (w8.setCell ⟨gF, b, none⟩ (.int .i64 (d2 - 1))).drew.heap.size = w8.heap.size := (by simp)
        have hb9 := HBX.out
        have hb9' := (hb9.within hw4 (by have := HGW.out; omega)).kept hdr
        have HBX4 := Lib.hid hb9'
        have hvi := (HFR.out.cellAt b (by have := HFL.out; omega)).trans (intCells_get s.1 b (by have := HFL.out; omega))
        rw [HDB.out] at hvi
        have hvf := HFR.out.frozenAt b
        have hsl : (b : Int) < (s.1.length : Int) := by have := HFL.out; omega
        obtain ⟨j0, j1, j2, _, _, _⟩ := HX8.out.cells
        have hsv : 0 ≤ d2 ∧ d2 ≤ k := by have := HQS.out; rw [HDA.out, HDB.out] at this; omega
        clear o1 o2 o3 d1' d2' d3' hw4 hdr hb9 hb9' hg12 hly
        go_region
        have HSZ := Lib.hid hs9
        clear hs9
        clear hvi hvf j0 j1 j2
        obtain ⟨m0, m1, m2, m3, m4, m5⟩ := HX4.out.cells
        have HTW := Lib.hid (show t'.1 ≤ ((w8.setCell ⟨gF, b, none⟩ (.int .i64 (d2 - 1))).drew).heap.size from by have := HLT.out; have := HSZ.out; omega)
        have HZV := Lib.hid (show z'.1 ≤ ((w8.setCell ⟨gF, b, none⟩ (.int .i64 (d2 - 1))).drew).heap.size from by have := HLT.out; have := HSZ.out; omega)
        have hpt : bx < t'.1 ∨ t'.2 ≤ bx := HPB.out.1
        have hpz : bx < z'.1 ∨ z'.2 ≤ bx := HPB.out.2
        have hTl : s.2.length ≤ 24 := by have := HLL.out.2; omega
        go_wp2_with (first
          | (at_builtin; refine wpList_pushR _ rfl _ _ rfl z'.1 z'.2 DZ eZ Z (nn : Int) rfl HZ6.out _ (by first | rfl | (simp only [World.size_setCell]; rfl)) (by omega) HZW.out ?_; intro A7 c7 w17 lo7 hi7 hr7 hor7 hw7; have HR7 := Lib.hid hr7; have HOR7 := Lib.hid hor7; have HW7 := Lib.hid hw7; have HX7 := Lib.hid (HX6.out.within hw7 hpz); have HXE := Lib.hid (HX7.out.set2 (.slice A7 (Z.length + 1) c7)); have HI17 := Lib.hid ((HI16.out.within hw7 (by have := HLO.out; have := HLZ.out; omega) (by have := HHI.out; have := HLO.out; have := HLZ.out; omega)).within (within_set w17 bx 2 (.slice A7 (Z.length + 1) c7)) (by have := HBXL.out; omega) (by have := HBXL.out; have := HHI.out; omega)); obtain ⟨r0, r1, r2, r3, r4, r5⟩ := HX7.out.cells; obtain ⟨z0, z1, z2, _, _, _⟩ := HXE.out.cells; obtain ⟨_, _, _, f0, f1, f2⟩ := HI17.out.rb.cells; have rr3 := ret3 HI17.out.rb (.slice (some ⟨gF, 0, none⟩) s.1.length eF) (.slice A5 (s.2.length + 1) c5) (.slice A7 (Z.length + 1) c7); obtain ⟨s0, s1, s2, _⟩ := rr3.1.cells; have HW := Lib.hid rr3.2; clear rr3 hr7 hor7 hw7)
          | (at_builtin; refine wpList_pushR _ rfl _ _ rfl t'.1 t'.2 DT eT s.2 (b : Int) rfl HT4.out _ (by first | rfl | (simp only [World.size_setCell]; rfl) | (show _ = Value.slice (some ⟨(w8.setCell _ _).heap.size, 0, none⟩) 1 1; simp only [World.size_setCell]; rfl)) (by omega) HTW.out ?_; intro A5 c5 w15 lo5 hi5 hr5 hor5 hw5; have HR5 := Lib.hid hr5; have HOR5 := Lib.hid hor5; have HW5 := Lib.hid hw5; have HX5 := Lib.hid (HX4.out.within hw5 hpt); have HX6 := Lib.hid (HX5.out.set1 (.slice A5 (s.2.length + 1) c5)); have HI16 := Lib.hid ((HI4.out.within hw5 (by have := HLO.out; have := HLZ.out; omega) (by have := HHI.out; have := HLO.out; have := HLZ.out; omega)).within (within_set w15 bx 1 (.slice A5 (s.2.length + 1) c5)) (by have := HBXL.out; omega) (by have := HBXL.out; have := HHI.out; omega)); have HZ6 := Lib.hid ((HZ4.out.within hw5 (by have := HXX.out.2.2; unfold Dis at this; omega)).within (within_set w15 bx 1 (.slice A5 (s.2.length + 1) c5)) (by omega)); have HZW := Lib.hid (show z'.1 ≤ (w15.setCell ⟨bx, 1, none⟩ (.slice A5 (s.2.length + 1) c5)).heap.size from by rw [World.size_setCell]; exact Nat.le_trans HZV.out hw5.size); obtain ⟨p0, p1, p2, p3, p4, p5⟩ := HX5.out.cells; obtain ⟨u0, u1, u2, u3, u4, u5⟩ := HX6.out.cells; clear hr5 hor5 hw5))
        rw [HPL.out]
        rw [Option.map_some, if_pos (HDA.out.trans c0)]
        rw [HDB.out]
        refine bodyPost_ret (v := .tuple #[pebV (some ⟨gF, 0, none⟩) s.1.length eF A5 (s.2.length + 1) c5 A7 (Z.length + 1) c7, .bool true]) ?_ rfl ?_
        · simp [results, Try.results34, go_sem, s0, s1, s2]
        · have hr5 := HR5.out
          have hr7 := HR7.out
          have hor5 := HOR5.out
          have hor7 := HOR7.out
          have w5w := HW5.out
          have w7w := HW7.out
          have xx := HXX.out
          have hz := HLZ.out
          have hbl := HBXL.out
          have q5 := within_set w15 bx 1 (.slice A5 (s.2.length + 1) c5)
          have q7 := within_set w17 bx 2 (.slice A7 (Z.length + 1) c7)
          have hw := HW.out
          have s5 := w5w.size
          have s6 := q5.size
          have s7 := w7w.size
          have s8 := q7.size
          have s9 := hw.size
          have g12 := HG12.out
          have hsz := HSZ.out
          have hhi := HF9.out.hi
          unfold Dis at xx
          have hgb : gF ≠ bx := by omega
          have hfl := (HFR4.out.lt gF rfl).2
          have hf8 := own_block (own_block (own_block (own_block (own_block HFR4.out (w5w.block gF hfl (by omega))) (q5.block gF (by omega) (by omega))) (w7w.block gF (by omega) (by omega))) (q7.block gF (by omega) (by omega))) (hw.block gF (by omega) (by omega))
          have ht8 := (((hr5.within q5 (by omega)).within w7w (by omega)).within q7 (by omega)).within hw (by omega)
          have hz8 := (hr7.within q7 (by omega)).within hw (by omega)
          have hof : OwnF _ f (lo5, hi5) (lo7, hi7) (some ⟨gF, 0, none⟩) eF A5 c5 A7 c7 (s.1.set b (d2 - 1)) (s.2 ++ [(b : Int)]) (Z ++ [(nn : Int)]) := ⟨⟨by show f.2 ≤ _; omega, .inr ⟨gF, rfl, g12.1, g12.2, own_rebase hf8 g12.1⟩⟩, ht8, hz8, by unfold Dis; show f.2 ≤ lo5 ∨ hi5 ≤ f.1; omega, by unfold Dis; show f.2 ≤ lo7 ∨ hi7 ≤ f.1; omega, by unfold Dis; show hi5 ≤ lo7 ∨ hi7 ≤ lo5; omega⟩
          have hg := HI17.out.bel
          exact ⟨_, _, _, _, _, _, by show _ = Ending.returned (.tuple #[pebV _ (s.1.set b (d2 - 1)).length _ _ (s.2 ++ [(b : Int)]).length _ _ (Z ++ [(nn : Int)]).length _, .bool true]); rw [List.length_set, List.length_append, List.length_append]; rfl, hof.own3 (lo := w.heap.size) ⟨by omega, hof.hi.1⟩ ⟨by show w.heap.size ≤ lo5; omega, hof.hi.2.1⟩ ⟨by show w.heap.size ≤ lo7; omega, hof.hi.2.2⟩ (Nat.le_refl _), within_on hg hw hg.size (.inl (by omega))⟩
      · have e1 : (d1 == 0) = false := by simpa using c0
        go_enter Try.func34, Try.ntmps34
        go_wp2_with (first
          | (go_at_call 127; have hbb := new_below w6 (.cells #[.int .i64 (a : Int), .int .i64 (b : Int)] 108); refine (HGC.out (w6.alloc (.cells #[.int .i64 (a : Int), .int .i64 (b : Int)] 108)) ((HI6.out.below hbb).bars.at) ((HI6.out.below hbb).src)).mono ?_; rintro e w7 ⟨hb, DF, eF, DT, eT, DZ, eZ, rfl, hl1, hl2, ho⟩; have HI7 := Lib.hid ((HI6.out.below hbb).below hb); have hb8 := new_below w7 (.cells #[.slice DF s.1.length eF, .slice DT s.2.length eT, .slice DZ Z.length eZ] 31); have HI8 := Lib.hid (HI7.out.below hb8); have HLO8 := Lib.hid (Nat.le_trans HLO.out (Nat.le_trans hbb.size (Nat.le_trans hb.size hb8.size))); have HBX := Lib.hid (((box_new w6 (a : Int) (.int .i64 (b : Int)) 108).kept hb).kept hb8); obtain ⟨_, k0, k1⟩ := HBX.out; have HX8 := Lib.hid (cel3_new w7 (.slice DF s.1.length eF) (.slice DT s.2.length eT) (.slice DZ Z.length eZ) 31); obtain ⟨f, t, z, hof, y1, y2, y3⟩ := ho.ownF; have HF8 := Lib.hid (hof.below hb8); have hz6 : (w6.alloc (.cells #[.int .i64 (a : Int), .int .i64 (b : Int)] 108)).heap.size = w6.heap.size + 1 := (by simp); have HLY := Lib.hid (show (w6.heap.size + 1 ≤ f.1 ∧ f.2 ≤ w7.heap.size) ∧ (w6.heap.size + 1 ≤ t.1 ∧ t.2 ≤ w7.heap.size) ∧ (w6.heap.size + 1 ≤ z.1 ∧ z.2 ≤ w7.heap.size) from by omega); have HLL := Lib.hid (And.intro hl1 hl2); obtain ⟨hq, _⟩ := gathR_ok (P := F.length) (by omega) (by omega) (by omega) HP.out.state HR.out; have hfl := hq.flen; have hsa := hq.small (v := (a : Int)) (by omega); have hsb := hq.small (v := (b : Int)) (by omega); rw [Int.toNat_natCast] at hsa hsb; obtain ⟨gF, rfl, g1', g2', hFr⟩ := hof.1.open_ (by omega); have hFr8 := own_below hFr hb8; have ha1 := (hFr8.cellAt a (by omega)).trans (intCells_get s.1 a (by omega)); have HFR := Lib.hid hFr8; have HG12 := Lib.hid (And.intro g1' g2'); have HQS := Lib.hid (And.intro hsa hsb); have HFL := Lib.hid hfl; obtain ⟨j0, j1, j2, _, _, _⟩ := HX8.out.cells; rw [HDA.out] at ha1; have hsla : (a : Int) < (s.1.length : Int) := (by omega); clear hof y1 y2 y3 hz6 hl1 hl2 hq hfl hsa hsb hFr hFr8 g1' g2' ho hb hb8 hbb v0 v1 v2 v3 v4 bc0 bc1)
          | (go_at_call 110; refine (specRange k c _).mono ?_; rintro e w9 ⟨rfl, rfl⟩; rw [HRG.out])
          | (go_at_call 39; refine (specIsPeb (F.length : Int) k l (some ⟨bb, boff, none⟩) cap AF AT (some ⟨zb, zo, none⟩) cF cT cZ lo hi F T Z _ HI0.out.bars.at HI0.out.src hn hF hT hZ HWF.out).mono ?_; rintro e w6 ⟨rfl, hb6⟩; rw [HB.out]; have HI6 := Lib.hid (HI0.out.below hb6); obtain ⟨_, v0, v1⟩ := HI6.out.gb; obtain ⟨v2, v3, v4, _, _, _⟩ := HI6.out.pb.cells; have hlo6 := hb6.size; have HLO := Lib.hid (show w.heap.size + 1 + 1 + 1 ≤ w6.heap.size by have := HS3.out; omega); have hzl := HZL0.out w6 HI6.out; obtain ⟨bc0, bc1⟩ := HBC.out w6 HI6.out; have nn1 : w.heap.size + 1 ≠ w6.heap.size := (by have := HLO.out; omega); have nn2 : w.heap.size ≠ w6.heap.size := (by have := HLO.out; omega); have nn3 : w.heap.size + 1 < w6.heap.size := (by have := HLO.out; omega); have nn4 : w.heap.size < w6.heap.size := (by have := HLO.out; omega); clear hlo6 hb6 g0 g1 x0 x1 x2))
        have hw8 : w7.heap.size < (w7.alloc (.cells #[.slice (some ⟨gF, 0, none⟩) s.1.length eF, .slice DT s.2.length eT, .slice DZ Z.length eZ] 31)).heap.size := by simp
        have hbxl : w.heap.size + 1 + 1 + 1 ≤ w7.heap.size := by have := HLY.out; have := HG12.out; have := HLO.out; omega
        have HBXL := Lib.hid hbxl
        obtain ⟨t', z', hn8, m1, m2, m3, m4, m5, m6⟩ := HF8.out.norm (B := w.heap.size + 3) (pb := w7.heap.size) (by omega) hw8 (by have := HLY.out; have := HLO.out; omega) (by have := HLY.out; have := HLO.out; omega) (.inr HLY.out.2.1.2) (.inr HLY.out.2.2.2)
        have HF9 := Lib.hid hn8
        have HPB := Lib.hid (And.intro m3 m4)
        have HLT := Lib.hid (And.intro m5 m6)
        have HLZ := Lib.hid (show w.heap.size + 3 ≤ f.1 ∧ w.heap.size + 3 ≤ t'.1 ∧ w.heap.size + 3 ≤ z'.1 ∧ gF < w7.heap.size ∧ f.2 ≤ w7.heap.size from ⟨by have := HLY.out; have := HLO.out; omega, m1, m2, by have := HLY.out; have := HG12.out; omega, HLY.out.1.2⟩)
        have HGW := Lib.hid (show w6.heap.size < gF from by have := HLY.out; have := HG12.out; omega)
        clear hbxl m1 m2 m3 m4 m5 m6 hn8 HF8 HLY
        clear ha1 j0 j1 j2 k0 k1
        generalize (w7.alloc (.cells #[.slice (some ⟨gF, 0, none⟩) s.1.length eF, .slice DT s.2.length eT, .slice DZ Z.length eZ] 31)) = w8 at *
        generalize hbx : w7.heap.size = bx at *
        have hw4 := within_set w8 gF a (.int .i64 (d1 - 1))
        have hdr : Below (w8.setCell ⟨gF, a, none⟩ (.int .i64 (d1 - 1))).heap.size (w8.setCell ⟨gF, a, none⟩ (.int .i64 (d1 - 1))) (w8.setCell ⟨gF, a, none⟩ (.int .i64 (d1 - 1))).drew := (Below.refl _ _).drew
        obtain ⟨o1, o2, o3, d1', d2', d3'⟩ := HF9.out
        have HXX := Lib.hid (And.intro d1' (And.intro d2' d3'))
        unfold Dis at d1' d2' d3'
        have hg12 := HG12.out
        have hly := HLZ.out
        have HT4 := Lib.hid ((o2.within hw4 (by omega)).within (within_of hdr) (.inr (Nat.zero_le _)))
        have HZ4 := Lib.hid ((o3.within hw4 (by omega)).within (within_of hdr) (.inr (Nat.zero_le _)))
        have HFR4 := Lib.hid (show World.ownsRow (w8.setCell ⟨gF, a, none⟩ (.int .i64 (d1 - 1))).drew 0 3 1 (.slice (some ⟨gF, 0, none⟩) (s.1.set a (d1 - 1)).length eF) (s.1.set a (d1 - 1)).length (intCells (s.1.set a (d1 - 1))) from by
          have h1 := (HFR.out.stored a (.int .i64 (d1 - 1))).1
          rw [intCells_set] at h1
          rw [List.length_set]
          exact own_below h1 hdr)
        have HX4 := Lib.hid ((HX8.out.within hw4 (by omega)).kept hdr)
        have HI4 := Lib.hid ((HI8.out.within hw4 (by have := HLO.out; omega) (by have := HHI.out; have := HLO.out; omega)).below hdr)
        have hs9 : (w8.setCell ⟨gF, a, none⟩ (.int .i64 (d1 - 1))).drew.heap.size = w8.heap.size := (by simp)
        have hb9 := HBX.out
        have hb9' := (hb9.within hw4 (by have := HGW.out; omega)).kept hdr
        have HBX4 := Lib.hid hb9'
        have hvi := (HFR.out.cellAt a (by have := HFL.out; omega)).trans (intCells_get s.1 a (by have := HFL.out; omega))
        rw [HDA.out] at hvi
        have hvf := HFR.out.frozenAt a
        have hsl : (a : Int) < (s.1.length : Int) := by have := HFL.out; omega
        obtain ⟨j0, j1, j2, _, _, _⟩ := HX8.out.cells
        have hsv : 0 ≤ d1 ∧ d1 ≤ k := by have := HQS.out; rw [HDA.out, HDB.out] at this; omega
        clear o1 o2 o3 d1' d2' d3' hw4 hdr hb9 hb9' hg12 hly
        go_region
        have HSZ := Lib.hid hs9
        clear hs9
        clear hvi hvf j0 j1 j2
        obtain ⟨m0, m1, m2, m3, m4, m5⟩ := HX4.out.cells
        have HTW := Lib.hid (show t'.1 ≤ ((w8.setCell ⟨gF, a, none⟩ (.int .i64 (d1 - 1))).drew).heap.size from by have := HLT.out; have := HSZ.out; omega)
        have HZV := Lib.hid (show z'.1 ≤ ((w8.setCell ⟨gF, a, none⟩ (.int .i64 (d1 - 1))).drew).heap.size from by have := HLT.out; have := HSZ.out; omega)
        have hpt : bx < t'.1 ∨ t'.2 ≤ bx := HPB.out.1
        have hpz : bx < z'.1 ∨ z'.2 ≤ bx := HPB.out.2
        have hTl : s.2.length ≤ 24 := by have := HLL.out.2; omega
        go_wp2_with (first
          | (at_builtin; refine wpList_pushR _ rfl _ _ rfl z'.1 z'.2 DZ eZ Z (nn : Int) rfl HZ6.out _ (by first | rfl | (simp only [World.size_setCell]; rfl)) (by omega) HZW.out ?_; intro A7 c7 w17 lo7 hi7 hr7 hor7 hw7; have HR7 := Lib.hid hr7; have HOR7 := Lib.hid hor7; have HW7 := Lib.hid hw7; have HX7 := Lib.hid (HX6.out.within hw7 hpz); have HXE := Lib.hid (HX7.out.set2 (.slice A7 (Z.length + 1) c7)); have HI17 := Lib.hid ((HI16.out.within hw7 (by have := HLO.out; have := HLZ.out; omega) (by have := HHI.out; have := HLO.out; have := HLZ.out; omega)).within (within_set w17 bx 2 (.slice A7 (Z.length + 1) c7)) (by have := HBXL.out; omega) (by have := HBXL.out; have := HHI.out; omega)); obtain ⟨r0, r1, r2, r3, r4, r5⟩ := HX7.out.cells; obtain ⟨z0, z1, z2, _, _, _⟩ := HXE.out.cells; obtain ⟨_, _, _, f0, f1, f2⟩ := HI17.out.rb.cells; have rr3 := ret3 HI17.out.rb (.slice (some ⟨gF, 0, none⟩) s.1.length eF) (.slice A5 (s.2.length + 1) c5) (.slice A7 (Z.length + 1) c7); obtain ⟨s0, s1, s2, _⟩ := rr3.1.cells; have HW := Lib.hid rr3.2; clear rr3 hr7 hor7 hw7)
          | (at_builtin; refine wpList_pushR _ rfl _ _ rfl t'.1 t'.2 DT eT s.2 (a : Int) rfl HT4.out _ (by first | rfl | (simp only [World.size_setCell]; rfl) | (show _ = Value.slice (some ⟨(w8.setCell _ _).heap.size, 0, none⟩) 1 1; simp only [World.size_setCell]; rfl)) (by omega) HTW.out ?_; intro A5 c5 w15 lo5 hi5 hr5 hor5 hw5; have HR5 := Lib.hid hr5; have HOR5 := Lib.hid hor5; have HW5 := Lib.hid hw5; have HX5 := Lib.hid (HX4.out.within hw5 hpt); have HX6 := Lib.hid (HX5.out.set1 (.slice A5 (s.2.length + 1) c5)); have HI16 := Lib.hid ((HI4.out.within hw5 (by have := HLO.out; have := HLZ.out; omega) (by have := HHI.out; have := HLO.out; have := HLZ.out; omega)).within (within_set w15 bx 1 (.slice A5 (s.2.length + 1) c5)) (by have := HBXL.out; omega) (by have := HBXL.out; have := HHI.out; omega)); have HZ6 := Lib.hid ((HZ4.out.within hw5 (by have := HXX.out.2.2; unfold Dis at this; omega)).within (within_set w15 bx 1 (.slice A5 (s.2.length + 1) c5)) (by omega)); have HZW := Lib.hid (show z'.1 ≤ (w15.setCell ⟨bx, 1, none⟩ (.slice A5 (s.2.length + 1) c5)).heap.size from by rw [World.size_setCell]; exact Nat.le_trans HZV.out hw5.size); obtain ⟨p0, p1, p2, p3, p4, p5⟩ := HX5.out.cells; obtain ⟨u0, u1, u2, u3, u4, u5⟩ := HX6.out.cells; clear hr5 hor5 hw5))
        rw [HPL.out]
        rw [Option.map_some, if_neg (fun e => c0 (HDA.out.symm.trans e))]
        rw [HDA.out]
        refine bodyPost_ret (v := .tuple #[pebV (some ⟨gF, 0, none⟩) s.1.length eF A5 (s.2.length + 1) c5 A7 (Z.length + 1) c7, .bool true]) ?_ rfl ?_
        · simp [results, Try.results34, go_sem, s0, s1, s2]
        · have hr5 := HR5.out
          have hr7 := HR7.out
          have hor5 := HOR5.out
          have hor7 := HOR7.out
          have w5w := HW5.out
          have w7w := HW7.out
          have xx := HXX.out
          have hz := HLZ.out
          have hbl := HBXL.out
          have q5 := within_set w15 bx 1 (.slice A5 (s.2.length + 1) c5)
          have q7 := within_set w17 bx 2 (.slice A7 (Z.length + 1) c7)
          have hw := HW.out
          have s5 := w5w.size
          have s6 := q5.size
          have s7 := w7w.size
          have s8 := q7.size
          have s9 := hw.size
          have g12 := HG12.out
          have hsz := HSZ.out
          have hhi := HF9.out.hi
          unfold Dis at xx
          have hgb : gF ≠ bx := by omega
          have hfl := (HFR4.out.lt gF rfl).2
          have hf8 := own_block (own_block (own_block (own_block (own_block HFR4.out (w5w.block gF hfl (by omega))) (q5.block gF (by omega) (by omega))) (w7w.block gF (by omega) (by omega))) (q7.block gF (by omega) (by omega))) (hw.block gF (by omega) (by omega))
          have ht8 := (((hr5.within q5 (by omega)).within w7w (by omega)).within q7 (by omega)).within hw (by omega)
          have hz8 := (hr7.within q7 (by omega)).within hw (by omega)
          have hof : OwnF _ f (lo5, hi5) (lo7, hi7) (some ⟨gF, 0, none⟩) eF A5 c5 A7 c7 (s.1.set a (d1 - 1)) (s.2 ++ [(a : Int)]) (Z ++ [(nn : Int)]) := ⟨⟨by show f.2 ≤ _; omega, .inr ⟨gF, rfl, g12.1, g12.2, own_rebase hf8 g12.1⟩⟩, ht8, hz8, by unfold Dis; show f.2 ≤ lo5 ∨ hi5 ≤ f.1; omega, by unfold Dis; show f.2 ≤ lo7 ∨ hi7 ≤ f.1; omega, by unfold Dis; show hi5 ≤ lo7 ∨ hi7 ≤ lo5; omega⟩
          have hg := HI17.out.bel
          exact ⟨_, _, _, _, _, _, by show _ = Ending.returned (.tuple #[pebV _ (s.1.set a (d1 - 1)).length _ _ (s.2 ++ [(a : Int)]).length _ _ (Z ++ [(nn : Int)]).length _, .bool true]); rw [List.length_set, List.length_append, List.length_append]; rfl, hof.own3 (lo := w.heap.size) ⟨by omega, hof.hi.1⟩ ⟨by show w.heap.size ≤ lo5; omega, hof.hi.2.1⟩ ⟨by show w.heap.size ≤ lo7; omega, hof.hi.2.2⟩ (Nat.le_refl _), within_on hg hw hg.size (.inl (by omega))⟩
  · have hz0 : Z.length = 0 := by omega
    have hzd : ¬ (0 : Int) < (Z.length : Int) := by omega
    clear hz0 c5
    cases rg with
    | none =>
      have HGC := Lib.hid (fun (W : World) (h1 : BarsAt W W.heap.size (some ⟨bb, boff, none⟩) l) (h2 : Peb3 W lo hi AF AT AZ F T Z) => show Calls Try.prog 127 _ W (fun e w' => Below W.heap.size W w' ∧ ∃ BF dF BT dT BZ dZ, e = .returned (.tuple #[pebV BF F.length dF BT T.length dT BZ Z.length dZ, .bool false])) from (gathS_c k l (some ⟨bb, boff, none⟩) cap AF AT AZ cF cT cZ lo hi F T Z a b (c + 1) W HP.out.state (by omega) (by omega) h24 (by omega) (fun i hi => (HP.out.2.2.2.2.1 i hi).1) (by omega) (by omega) (by omega) h1 h2).mono (by
        rintro e w' ⟨hb, BF, dF, BT, dT, BZ, dZ, ⟨rfl, _⟩ | ⟨s, _, hs, _⟩⟩
        · exact ⟨hb, _, _, _, _, _, _, rfl⟩
        · rw [HR.out] at hs; cases hs))
      go_enter Try.func34, Try.ntmps34
      go_wp2_with (first
        | (go_at_call 126; refine (copyPeb_c AF AT AZ cF cT cZ lo hi F T Z _ HI8.out.src hF hT hZ).mono ?_; rintro e w9 ⟨BF, dF, BT, dT, BZ, dZ, rfl, ho, hb7⟩; have HI9 := Lib.hid (HI8.out.below hb7); have HO7 := Lib.hid ho; obtain ⟨_, _, _, f0, f1, f2⟩ := HI9.out.rb.cells; have r3 := ret3 HI9.out.rb (.slice BF F.length dF) (.slice BT T.length dT) (.slice BZ Z.length dZ); obtain ⟨s0, s1, s2, _⟩ := r3.1.cells; have HW := Lib.hid r3.2; clear ho hb7 r3)
        | (go_at_call 127; have hbb := new_below w6 (.cells #[.int .i64 (a : Int), .int .i64 (b : Int)] 108); refine (HGC.out (w6.alloc (.cells #[.int .i64 (a : Int), .int .i64 (b : Int)] 108)) ((HI6.out.below hbb).bars.at) ((HI6.out.below hbb).src)).mono ?_; rintro e w7 ⟨hb, DF, eF, DT, eT, DZ, eZ, rfl⟩; have HI7 := Lib.hid ((HI6.out.below hbb).below hb); have hb8 := new_below w7 (.cells #[.slice DF F.length eF, .slice DT T.length eT, .slice DZ Z.length eZ] 31); have HI8 := Lib.hid (HI7.out.below hb8); have HLO8 := Lib.hid (Nat.le_trans HLO.out (Nat.le_trans hbb.size (Nat.le_trans hb.size hb8.size))); have HBX := Lib.hid (((box_new w6 (a : Int) (.int .i64 (b : Int)) 108).kept hb).kept hb8); obtain ⟨_, k0, k1⟩ := HBX.out; obtain ⟨u2, u3, u4, _, _, _⟩ := HI8.out.pb.cells; clear hb hb8 hbb v0 v1 v2 v3 v4 bc0 bc1)
        | (go_at_call 110; refine (specRange k c _).mono ?_; rintro e w9 ⟨rfl, rfl⟩; rw [HRG.out])
        | (go_at_call 39; refine (specIsPeb (F.length : Int) k l (some ⟨bb, boff, none⟩) cap AF AT AZ cF cT cZ lo hi F T Z _ HI0.out.bars.at HI0.out.src hn hF hT hZ HWF.out).mono ?_; rintro e w6 ⟨rfl, hb6⟩; rw [HB.out]; have HI6 := Lib.hid (HI0.out.below hb6); obtain ⟨_, v0, v1⟩ := HI6.out.gb; obtain ⟨v2, v3, v4, _, _, _⟩ := HI6.out.pb.cells; have hlo6 := hb6.size; have HLO := Lib.hid (show w.heap.size + 1 + 1 + 1 ≤ w6.heap.size by have := HS3.out; omega); obtain ⟨bc0, bc1⟩ := HBC.out w6 HI6.out; have nn1 : w.heap.size + 1 ≠ w6.heap.size := (by have := HLO.out; omega); have nn2 : w.heap.size ≠ w6.heap.size := (by have := HLO.out; omega); have nn3 : w.heap.size + 1 < w6.heap.size := (by have := HLO.out; omega); have nn4 : w.heap.size < w6.heap.size := (by have := HLO.out; omega); clear hlo6 hb6 g0 g1 x0 x1 x2))
      rw [HPL.out]
      refine bodyPost_ret (v := .tuple #[pebV BF F.length dF BT T.length dT BZ Z.length dZ, .bool false]) ?_ rfl ?_
      · simp [results, Try.results34, go_sem, s0, s1, s2]
      · have hg := HI9.out.bel
        have hlo6 := HI8.out.bel.size
        have hsw := HW.out.size
        exact ⟨_, _, _, _, _, _, rfl, (HO7.out.own3.within HW.out (.inr HLO8.out)).widen (by omega) (by omega) (Nat.le_refl _), within_on hg HW.out hg.size (.inl (by omega))⟩
    | some s =>
      have HGC := Lib.hid (fun (W : World) (h1 : BarsAt W W.heap.size (some ⟨bb, boff, none⟩) l) (h2 : Peb3 W lo hi AF AT AZ F T Z) => show Calls Try.prog 127 _ W (fun e w' => Below W.heap.size W w' ∧ ∃ BF dF BT dT BZ dZ, e = .returned (.tuple #[pebV BF s.1.length dF BT s.2.length dT BZ Z.length dZ, .bool true]) ∧ s.1.length = F.length ∧ s.2.length = T.length ∧ Own3R w' W.heap.size w'.heap.size BF dF BT dT BZ dZ s.1 s.2 Z) from (gathS_c k l (some ⟨bb, boff, none⟩) cap AF AT AZ cF cT cZ lo hi F T Z a b (c + 1) W HP.out.state (by omega) (by omega) h24 (by omega) (fun i hi => (HP.out.2.2.2.2.1 i hi).1) (by omega) (by omega) (by omega) h1 h2).mono (by
        rintro e w' ⟨hb, BF, dF, BT, dT, BZ, dZ, ⟨_, hs⟩ | ⟨s2, rfl, hs, h1, h2, ho⟩⟩
        · rw [HR.out] at hs; cases hs
        · rw [HR.out] at hs
          cases hs
          exact ⟨hb, _, _, _, _, _, _, by rw [h1, h2], h1, h2, ho⟩))
      obtain ⟨d1, hd1⟩ : ∃ d1, s.1.getD a 0 = d1 := ⟨_, rfl⟩
      obtain ⟨d2, hd2⟩ : ∃ d2, s.1.getD b 0 = d2 := ⟨_, rfl⟩
      have HDA := Lib.hid hd1
      have HDB := Lib.hid hd2
      clear hd1 hd2
      by_cases c0 : d1 = 0
      · have e1 : (d1 == 0) = true := by simpa using c0
        go_enter Try.func34, Try.ntmps34
        go_wp2_with (first
          | (go_at_call 127; have hbb := new_below w6 (.cells #[.int .i64 (a : Int), .int .i64 (b : Int)] 108); refine (HGC.out (w6.alloc (.cells #[.int .i64 (a : Int), .int .i64 (b : Int)] 108)) ((HI6.out.below hbb).bars.at) ((HI6.out.below hbb).src)).mono ?_; rintro e w7 ⟨hb, DF, eF, DT, eT, DZ, eZ, rfl, hl1, hl2, ho⟩; have HI7 := Lib.hid ((HI6.out.below hbb).below hb); have hb8 := new_below w7 (.cells #[.slice DF s.1.length eF, .slice DT s.2.length eT, .slice DZ Z.length eZ] 31); have HI8 := Lib.hid (HI7.out.below hb8); have HLO8 := Lib.hid (Nat.le_trans HLO.out (Nat.le_trans hbb.size (Nat.le_trans hb.size hb8.size))); have HBX := Lib.hid (((box_new w6 (a : Int) (.int .i64 (b : Int)) 108).kept hb).kept hb8); obtain ⟨_, k0, k1⟩ := HBX.out; have HX8 := Lib.hid (cel3_new w7 (.slice DF s.1.length eF) (.slice DT s.2.length eT) (.slice DZ Z.length eZ) 31); obtain ⟨f, t, z, hof, y1, y2, y3⟩ := ho.ownF; have HF8 := Lib.hid (hof.below hb8); have hz6 : (w6.alloc (.cells #[.int .i64 (a : Int), .int .i64 (b : Int)] 108)).heap.size = w6.heap.size + 1 := (by simp); have HLY := Lib.hid (show (w6.heap.size + 1 ≤ f.1 ∧ f.2 ≤ w7.heap.size) ∧ (w6.heap.size + 1 ≤ t.1 ∧ t.2 ≤ w7.heap.size) ∧ (w6.heap.size + 1 ≤ z.1 ∧ z.2 ≤ w7.heap.size) from by omega); have HLL := Lib.hid (And.intro hl1 hl2); obtain ⟨hq, _⟩ := gathR_ok (P := F.length) (by omega) (by omega) (by omega) HP.out.state HR.out; have hfl := hq.flen; have hsa := hq.small (v := (a : Int)) (by omega); have hsb := hq.small (v := (b : Int)) (by omega); rw [Int.toNat_natCast] at hsa hsb; obtain ⟨gF, rfl, g1', g2', hFr⟩ := hof.1.open_ (by omega); have hFr8 := own_below hFr hb8; have ha1 := (hFr8.cellAt a (by omega)).trans (intCells_get s.1 a (by omega)); have HFR := Lib.hid hFr8; have HG12 := Lib.hid (And.intro g1' g2'); have HQS := Lib.hid (And.intro hsa hsb); have HFL := Lib.hid hfl; obtain ⟨j0, j1, j2, _, _, _⟩ := HX8.out.cells; rw [HDA.out] at ha1; have hsla : (a : Int) < (s.1.length : Int) := (by omega); clear hof y1 y2 y3 hz6 hl1 hl2 hq hfl hsa hsb hFr hFr8 g1' g2' ho hb hb8 hbb v0 v1 v2 v3 v4 bc0 bc1)
          | (go_at_call 110; refine (specRange k c _).mono ?_; rintro e w9 ⟨rfl, rfl⟩; rw [HRG.out])
          | (go_at_call 39; refine (specIsPeb (F.length : Int) k l (some ⟨bb, boff, none⟩) cap AF AT AZ cF cT cZ lo hi F T Z _ HI0.out.bars.at HI0.out.src hn hF hT hZ HWF.out).mono ?_; rintro e w6 ⟨rfl, hb6⟩; rw [HB.out]; have HI6 := Lib.hid (HI0.out.below hb6); obtain ⟨_, v0, v1⟩ := HI6.out.gb; obtain ⟨v2, v3, v4, _, _, _⟩ := HI6.out.pb.cells; have hlo6 := hb6.size; have HLO := Lib.hid (show w.heap.size + 1 + 1 + 1 ≤ w6.heap.size by have := HS3.out; omega); obtain ⟨bc0, bc1⟩ := HBC.out w6 HI6.out; have nn1 : w.heap.size + 1 ≠ w6.heap.size := (by have := HLO.out; omega); have nn2 : w.heap.size ≠ w6.heap.size := (by have := HLO.out; omega); have nn3 : w.heap.size + 1 < w6.heap.size := (by have := HLO.out; omega); have nn4 : w.heap.size < w6.heap.size := (by have := HLO.out; omega); clear hlo6 hb6 g0 g1 x0 x1 x2))
        have hw8 : w7.heap.size < (w7.alloc (.cells #[.slice (some ⟨gF, 0, none⟩) s.1.length eF, .slice DT s.2.length eT, .slice DZ Z.length eZ] 31)).heap.size := by simp
        have hbxl : w.heap.size + 1 + 1 + 1 ≤ w7.heap.size := by have := HLY.out; have := HG12.out; have := HLO.out; omega
        have HBXL := Lib.hid hbxl
        obtain ⟨t', z', hn8, m1, m2, m3, m4, m5, m6⟩ := HF8.out.norm (B := w.heap.size + 3) (pb := w7.heap.size) (by omega) hw8 (by have := HLY.out; have := HLO.out; omega) (by have := HLY.out; have := HLO.out; omega) (.inr HLY.out.2.1.2) (.inr HLY.out.2.2.2)
        have HF9 := Lib.hid hn8
        have HPB := Lib.hid (And.intro m3 m4)
        have HLT := Lib.hid (And.intro m5 m6)
        have HLZ := Lib.hid (show w.heap.size + 3 ≤ f.1 ∧ w.heap.size + 3 ≤ t'.1 ∧ w.heap.size + 3 ≤ z'.1 ∧ gF < w7.heap.size ∧ f.2 ≤ w7.heap.size from ⟨by have := HLY.out; have := HLO.out; omega, m1, m2, by have := HLY.out; have := HG12.out; omega, HLY.out.1.2⟩)
        have HGW := Lib.hid (show w6.heap.size < gF from by have := HLY.out; have := HG12.out; omega)
        clear hbxl m1 m2 m3 m4 m5 m6 hn8 HF8 HLY
        clear ha1 j0 j1 j2 k0 k1
        generalize (w7.alloc (.cells #[.slice (some ⟨gF, 0, none⟩) s.1.length eF, .slice DT s.2.length eT, .slice DZ Z.length eZ] 31)) = w8 at *
        generalize hbx : w7.heap.size = bx at *
        have hw4 := within_set w8 gF b (.int .i64 (d2 - 1))
        have hdr : Below (w8.setCell ⟨gF, b, none⟩ (.int .i64 (d2 - 1))).heap.size (w8.setCell ⟨gF, b, none⟩ (.int .i64 (d2 - 1))) (w8.setCell ⟨gF, b, none⟩ (.int .i64 (d2 - 1))).drew := (Below.refl _ _).drew
        obtain ⟨o1, o2, o3, d1', d2', d3'⟩ := HF9.out
        have HXX := Lib.hid (And.intro d1' (And.intro d2' d3'))
        unfold Dis at d1' d2' d3'
        have hg12 := HG12.out
        have hly := HLZ.out
        have HT4 := Lib.hid ((o2.within hw4 (by omega)).within (within_of hdr) (.inr (Nat.zero_le _)))
        have HZ4 := Lib.hid ((o3.within hw4 (by omega)).within (within_of hdr) (.inr (Nat.zero_le _)))
        have HFR4 := Lib.hid (show World.ownsRow (w8.setCell ⟨gF, b, none⟩ (.int .i64 (d2 - 1))).drew 0 3 1 (.slice (some ⟨gF, 0, none⟩) (s.1.set b (d2 - 1)).length eF) (s.1.set b (d2 - 1)).length (intCells (s.1.set b (d2 - 1))) from by
          have h1 := (HFR.out.stored b (.int .i64 (d2 - 1))).1
          rw [intCells_set] at h1
          rw [List.length_set]
          exact own_below h1 hdr)
        have HX4 := Lib.hid ((HX8.out.within hw4 (by omega)).kept hdr)
        have HI4 := Lib.hid ((HI8.out.within hw4 (by have := HLO.out; omega) (by have := HHI.out; have := HLO.out; omega)).below hdr)
        have hs9 : (w8.setCell ⟨gF, b, none⟩ (.int .i64 (d2 - 1))).drew.heap.size = w8.heap.size := (by simp)
        have hb9 := HBX.out
        have hb9' := (hb9.within hw4 (by have := HGW.out; omega)).kept hdr
        have HBX4 := Lib.hid hb9'
        have hvi := (HFR.out.cellAt b (by have := HFL.out; omega)).trans (intCells_get s.1 b (by have := HFL.out; omega))
        rw [HDB.out] at hvi
        have hvf := HFR.out.frozenAt b
        have hsl : (b : Int) < (s.1.length : Int) := by have := HFL.out; omega
        obtain ⟨j0, j1, j2, _, _, _⟩ := HX8.out.cells
        have hsv : 0 ≤ d2 ∧ d2 ≤ k := by have := HQS.out; rw [HDA.out, HDB.out] at this; omega
        clear o1 o2 o3 d1' d2' d3' hw4 hdr hb9 hb9' hg12 hly
        go_region
        have HSZ := Lib.hid hs9
        clear hs9
        clear hvi hvf j0 j1 j2
        obtain ⟨m0, m1, m2, m3, m4, m5⟩ := HX4.out.cells
        have HTW := Lib.hid (show t'.1 ≤ ((w8.setCell ⟨gF, b, none⟩ (.int .i64 (d2 - 1))).drew).heap.size from by have := HLT.out; have := HSZ.out; omega)
        have HZV := Lib.hid (show z'.1 ≤ ((w8.setCell ⟨gF, b, none⟩ (.int .i64 (d2 - 1))).drew).heap.size from by have := HLT.out; have := HSZ.out; omega)
        have hpt : bx < t'.1 ∨ t'.2 ≤ bx := HPB.out.1
        have hpz : bx < z'.1 ∨ z'.2 ≤ bx := HPB.out.2
        have hTl : s.2.length ≤ 24 := by have := HLL.out.2; omega
        go_wp2_with (first
          | (at_builtin; refine wpList_pushR _ rfl _ _ rfl z'.1 z'.2 DZ eZ Z (nn : Int) rfl HZ6.out _ (by first | rfl | (simp only [World.size_setCell]; rfl)) (by omega) HZW.out ?_; intro A7 c7 w17 lo7 hi7 hr7 hor7 hw7; have HR7 := Lib.hid hr7; have HOR7 := Lib.hid hor7; have HW7 := Lib.hid hw7; have HX7 := Lib.hid (HX6.out.within hw7 hpz); have HXE := Lib.hid (HX7.out.set2 (.slice A7 (Z.length + 1) c7)); have HI17 := Lib.hid ((HI16.out.within hw7 (by have := HLO.out; have := HLZ.out; omega) (by have := HHI.out; have := HLO.out; have := HLZ.out; omega)).within (within_set w17 bx 2 (.slice A7 (Z.length + 1) c7)) (by have := HBXL.out; omega) (by have := HBXL.out; have := HHI.out; omega)); obtain ⟨r0, r1, r2, r3, r4, r5⟩ := HX7.out.cells; obtain ⟨z0, z1, z2, _, _, _⟩ := HXE.out.cells; obtain ⟨_, _, _, f0, f1, f2⟩ := HI17.out.rb.cells; have rr3 := ret3 HI17.out.rb (.slice (some ⟨gF, 0, none⟩) s.1.length eF) (.slice A5 (s.2.length + 1) c5) (.slice A7 (Z.length + 1) c7); obtain ⟨s0, s1, s2, _⟩ := rr3.1.cells; have HW := Lib.hid rr3.2; clear rr3 hr7 hor7 hw7)
          | (at_builtin; refine wpList_pushR _ rfl _ _ rfl t'.1 t'.2 DT eT s.2 (b : Int) rfl HT4.out _ (by first | rfl | (simp only [World.size_setCell]; rfl) | (show _ = Value.slice (some ⟨(w8.setCell _ _).heap.size, 0, none⟩) 1 1; simp only [World.size_setCell]; rfl)) (by omega) HTW.out ?_; intro A5 c5 w15 lo5 hi5 hr5 hor5 hw5; have HR5 := Lib.hid hr5; have HOR5 := Lib.hid hor5; have HW5 := Lib.hid hw5; have HX5 := Lib.hid (HX4.out.within hw5 hpt); have HX6 := Lib.hid (HX5.out.set1 (.slice A5 (s.2.length + 1) c5)); have HI16 := Lib.hid ((HI4.out.within hw5 (by have := HLO.out; have := HLZ.out; omega) (by have := HHI.out; have := HLO.out; have := HLZ.out; omega)).within (within_set w15 bx 1 (.slice A5 (s.2.length + 1) c5)) (by have := HBXL.out; omega) (by have := HBXL.out; have := HHI.out; omega)); have HZ6 := Lib.hid ((HZ4.out.within hw5 (by have := HXX.out.2.2; unfold Dis at this; omega)).within (within_set w15 bx 1 (.slice A5 (s.2.length + 1) c5)) (by omega)); have HZW := Lib.hid (show z'.1 ≤ (w15.setCell ⟨bx, 1, none⟩ (.slice A5 (s.2.length + 1) c5)).heap.size from by rw [World.size_setCell]; exact Nat.le_trans HZV.out hw5.size); obtain ⟨p0, p1, p2, p3, p4, p5⟩ := HX5.out.cells; obtain ⟨u0, u1, u2, u3, u4, u5⟩ := HX6.out.cells; clear hr5 hor5 hw5))
        rw [HPL.out]
        rw [Option.map_some, if_pos (HDA.out.trans c0)]
        rw [HDB.out]
        refine bodyPost_ret (v := .tuple #[pebV (some ⟨gF, 0, none⟩) s.1.length eF A5 (s.2.length + 1) c5 A7 (Z.length + 1) c7, .bool true]) ?_ rfl ?_
        · simp [results, Try.results34, go_sem, s0, s1, s2]
        · have hr5 := HR5.out
          have hr7 := HR7.out
          have hor5 := HOR5.out
          have hor7 := HOR7.out
          have w5w := HW5.out
          have w7w := HW7.out
          have xx := HXX.out
          have hz := HLZ.out
          have hbl := HBXL.out
          have q5 := within_set w15 bx 1 (.slice A5 (s.2.length + 1) c5)
          have q7 := within_set w17 bx 2 (.slice A7 (Z.length + 1) c7)
          have hw := HW.out
          have s5 := w5w.size
          have s6 := q5.size
          have s7 := w7w.size
          have s8 := q7.size
          have s9 := hw.size
          have g12 := HG12.out
          have hsz := HSZ.out
          have hhi := HF9.out.hi
          unfold Dis at xx
          have hgb : gF ≠ bx := by omega
          have hfl := (HFR4.out.lt gF rfl).2
          have hf8 := own_block (own_block (own_block (own_block (own_block HFR4.out (w5w.block gF hfl (by omega))) (q5.block gF (by omega) (by omega))) (w7w.block gF (by omega) (by omega))) (q7.block gF (by omega) (by omega))) (hw.block gF (by omega) (by omega))
          have ht8 := (((hr5.within q5 (by omega)).within w7w (by omega)).within q7 (by omega)).within hw (by omega)
          have hz8 := (hr7.within q7 (by omega)).within hw (by omega)
          have hof : OwnF _ f (lo5, hi5) (lo7, hi7) (some ⟨gF, 0, none⟩) eF A5 c5 A7 c7 (s.1.set b (d2 - 1)) (s.2 ++ [(b : Int)]) (Z ++ [(nn : Int)]) := ⟨⟨by show f.2 ≤ _; omega, .inr ⟨gF, rfl, g12.1, g12.2, own_rebase hf8 g12.1⟩⟩, ht8, hz8, by unfold Dis; show f.2 ≤ lo5 ∨ hi5 ≤ f.1; omega, by unfold Dis; show f.2 ≤ lo7 ∨ hi7 ≤ f.1; omega, by unfold Dis; show hi5 ≤ lo7 ∨ hi7 ≤ lo5; omega⟩
          have hg := HI17.out.bel
          exact ⟨_, _, _, _, _, _, by show _ = Ending.returned (.tuple #[pebV _ (s.1.set b (d2 - 1)).length _ _ (s.2 ++ [(b : Int)]).length _ _ (Z ++ [(nn : Int)]).length _, .bool true]); rw [List.length_set, List.length_append, List.length_append]; rfl, hof.own3 (lo := w.heap.size) ⟨by omega, hof.hi.1⟩ ⟨by show w.heap.size ≤ lo5; omega, hof.hi.2.1⟩ ⟨by show w.heap.size ≤ lo7; omega, hof.hi.2.2⟩ (Nat.le_refl _), within_on hg hw hg.size (.inl (by omega))⟩
      · have e1 : (d1 == 0) = false := by simpa using c0
        go_enter Try.func34, Try.ntmps34
        go_wp2_with (first
          | (go_at_call 127; have hbb := new_below w6 (.cells #[.int .i64 (a : Int), .int .i64 (b : Int)] 108); refine (HGC.out (w6.alloc (.cells #[.int .i64 (a : Int), .int .i64 (b : Int)] 108)) ((HI6.out.below hbb).bars.at) ((HI6.out.below hbb).src)).mono ?_; rintro e w7 ⟨hb, DF, eF, DT, eT, DZ, eZ, rfl, hl1, hl2, ho⟩; have HI7 := Lib.hid ((HI6.out.below hbb).below hb); have hb8 := new_below w7 (.cells #[.slice DF s.1.length eF, .slice DT s.2.length eT, .slice DZ Z.length eZ] 31); have HI8 := Lib.hid (HI7.out.below hb8); have HLO8 := Lib.hid (Nat.le_trans HLO.out (Nat.le_trans hbb.size (Nat.le_trans hb.size hb8.size))); have HBX := Lib.hid (((box_new w6 (a : Int) (.int .i64 (b : Int)) 108).kept hb).kept hb8); obtain ⟨_, k0, k1⟩ := HBX.out; have HX8 := Lib.hid (cel3_new w7 (.slice DF s.1.length eF) (.slice DT s.2.length eT) (.slice DZ Z.length eZ) 31); obtain ⟨f, t, z, hof, y1, y2, y3⟩ := ho.ownF; have HF8 := Lib.hid (hof.below hb8); have hz6 : (w6.alloc (.cells #[.int .i64 (a : Int), .int .i64 (b : Int)] 108)).heap.size = w6.heap.size + 1 := (by simp); have HLY := Lib.hid (show (w6.heap.size + 1 ≤ f.1 ∧ f.2 ≤ w7.heap.size) ∧ (w6.heap.size + 1 ≤ t.1 ∧ t.2 ≤ w7.heap.size) ∧ (w6.heap.size + 1 ≤ z.1 ∧ z.2 ≤ w7.heap.size) from by omega); have HLL := Lib.hid (And.intro hl1 hl2); obtain ⟨hq, _⟩ := gathR_ok (P := F.length) (by omega) (by omega) (by omega) HP.out.state HR.out; have hfl := hq.flen; have hsa := hq.small (v := (a : Int)) (by omega); have hsb := hq.small (v := (b : Int)) (by omega); rw [Int.toNat_natCast] at hsa hsb; obtain ⟨gF, rfl, g1', g2', hFr⟩ := hof.1.open_ (by omega); have hFr8 := own_below hFr hb8; have ha1 := (hFr8.cellAt a (by omega)).trans (intCells_get s.1 a (by omega)); have HFR := Lib.hid hFr8; have HG12 := Lib.hid (And.intro g1' g2'); have HQS := Lib.hid (And.intro hsa hsb); have HFL := Lib.hid hfl; obtain ⟨j0, j1, j2, _, _, _⟩ := HX8.out.cells; rw [HDA.out] at ha1; have hsla : (a : Int) < (s.1.length : Int) := (by omega); clear hof y1 y2 y3 hz6 hl1 hl2 hq hfl hsa hsb hFr hFr8 g1' g2' ho hb hb8 hbb v0 v1 v2 v3 v4 bc0 bc1)
          | (go_at_call 110; refine (specRange k c _).mono ?_; rintro e w9 ⟨rfl, rfl⟩; rw [HRG.out])
          | (go_at_call 39; refine (specIsPeb (F.length : Int) k l (some ⟨bb, boff, none⟩) cap AF AT AZ cF cT cZ lo hi F T Z _ HI0.out.bars.at HI0.out.src hn hF hT hZ HWF.out).mono ?_; rintro e w6 ⟨rfl, hb6⟩; rw [HB.out]; have HI6 := Lib.hid (HI0.out.below hb6); obtain ⟨_, v0, v1⟩ := HI6.out.gb; obtain ⟨v2, v3, v4, _, _, _⟩ := HI6.out.pb.cells; have hlo6 := hb6.size; have HLO := Lib.hid (show w.heap.size + 1 + 1 + 1 ≤ w6.heap.size by have := HS3.out; omega); obtain ⟨bc0, bc1⟩ := HBC.out w6 HI6.out; have nn1 : w.heap.size + 1 ≠ w6.heap.size := (by have := HLO.out; omega); have nn2 : w.heap.size ≠ w6.heap.size := (by have := HLO.out; omega); have nn3 : w.heap.size + 1 < w6.heap.size := (by have := HLO.out; omega); have nn4 : w.heap.size < w6.heap.size := (by have := HLO.out; omega); clear hlo6 hb6 g0 g1 x0 x1 x2))
        have hw8 : w7.heap.size < (w7.alloc (.cells #[.slice (some ⟨gF, 0, none⟩) s.1.length eF, .slice DT s.2.length eT, .slice DZ Z.length eZ] 31)).heap.size := by simp
        have hbxl : w.heap.size + 1 + 1 + 1 ≤ w7.heap.size := by have := HLY.out; have := HG12.out; have := HLO.out; omega
        have HBXL := Lib.hid hbxl
        obtain ⟨t', z', hn8, m1, m2, m3, m4, m5, m6⟩ := HF8.out.norm (B := w.heap.size + 3) (pb := w7.heap.size) (by omega) hw8 (by have := HLY.out; have := HLO.out; omega) (by have := HLY.out; have := HLO.out; omega) (.inr HLY.out.2.1.2) (.inr HLY.out.2.2.2)
        have HF9 := Lib.hid hn8
        have HPB := Lib.hid (And.intro m3 m4)
        have HLT := Lib.hid (And.intro m5 m6)
        have HLZ := Lib.hid (show w.heap.size + 3 ≤ f.1 ∧ w.heap.size + 3 ≤ t'.1 ∧ w.heap.size + 3 ≤ z'.1 ∧ gF < w7.heap.size ∧ f.2 ≤ w7.heap.size from ⟨by have := HLY.out; have := HLO.out; omega, m1, m2, by have := HLY.out; have := HG12.out; omega, HLY.out.1.2⟩)
        have HGW := Lib.hid (show w6.heap.size < gF from by have := HLY.out; have := HG12.out; omega)
        clear hbxl m1 m2 m3 m4 m5 m6 hn8 HF8 HLY
        clear ha1 j0 j1 j2 k0 k1
        generalize (w7.alloc (.cells #[.slice (some ⟨gF, 0, none⟩) s.1.length eF, .slice DT s.2.length eT, .slice DZ Z.length eZ] 31)) = w8 at *
        generalize hbx : w7.heap.size = bx at *
        have hw4 := within_set w8 gF a (.int .i64 (d1 - 1))
        have hdr : Below (w8.setCell ⟨gF, a, none⟩ (.int .i64 (d1 - 1))).heap.size (w8.setCell ⟨gF, a, none⟩ (.int .i64 (d1 - 1))) (w8.setCell ⟨gF, a, none⟩ (.int .i64 (d1 - 1))).drew := (Below.refl _ _).drew
        obtain ⟨o1, o2, o3, d1', d2', d3'⟩ := HF9.out
        have HXX := Lib.hid (And.intro d1' (And.intro d2' d3'))
        unfold Dis at d1' d2' d3'
        have hg12 := HG12.out
        have hly := HLZ.out
        have HT4 := Lib.hid ((o2.within hw4 (by omega)).within (within_of hdr) (.inr (Nat.zero_le _)))
        have HZ4 := Lib.hid ((o3.within hw4 (by omega)).within (within_of hdr) (.inr (Nat.zero_le _)))
        have HFR4 := Lib.hid (show World.ownsRow (w8.setCell ⟨gF, a, none⟩ (.int .i64 (d1 - 1))).drew 0 3 1 (.slice (some ⟨gF, 0, none⟩) (s.1.set a (d1 - 1)).length eF) (s.1.set a (d1 - 1)).length (intCells (s.1.set a (d1 - 1))) from by
          have h1 := (HFR.out.stored a (.int .i64 (d1 - 1))).1
          rw [intCells_set] at h1
          rw [List.length_set]
          exact own_below h1 hdr)
        have HX4 := Lib.hid ((HX8.out.within hw4 (by omega)).kept hdr)
        have HI4 := Lib.hid ((HI8.out.within hw4 (by have := HLO.out; omega) (by have := HHI.out; have := HLO.out; omega)).below hdr)
        have hs9 : (w8.setCell ⟨gF, a, none⟩ (.int .i64 (d1 - 1))).drew.heap.size = w8.heap.size := (by simp)
        have hb9 := HBX.out
        have hb9' := (hb9.within hw4 (by have := HGW.out; omega)).kept hdr
        have HBX4 := Lib.hid hb9'
        have hvi := (HFR.out.cellAt a (by have := HFL.out; omega)).trans (intCells_get s.1 a (by have := HFL.out; omega))
        rw [HDA.out] at hvi
        have hvf := HFR.out.frozenAt a
        have hsl : (a : Int) < (s.1.length : Int) := by have := HFL.out; omega
        obtain ⟨j0, j1, j2, _, _, _⟩ := HX8.out.cells
        have hsv : 0 ≤ d1 ∧ d1 ≤ k := by have := HQS.out; rw [HDA.out, HDB.out] at this; omega
        clear o1 o2 o3 d1' d2' d3' hw4 hdr hb9 hb9' hg12 hly
        go_region
        have HSZ := Lib.hid hs9
        clear hs9
        clear hvi hvf j0 j1 j2
        obtain ⟨m0, m1, m2, m3, m4, m5⟩ := HX4.out.cells
        have HTW := Lib.hid (show t'.1 ≤ ((w8.setCell ⟨gF, a, none⟩ (.int .i64 (d1 - 1))).drew).heap.size from by have := HLT.out; have := HSZ.out; omega)
        have HZV := Lib.hid (show z'.1 ≤ ((w8.setCell ⟨gF, a, none⟩ (.int .i64 (d1 - 1))).drew).heap.size from by have := HLT.out; have := HSZ.out; omega)
        have hpt : bx < t'.1 ∨ t'.2 ≤ bx := HPB.out.1
        have hpz : bx < z'.1 ∨ z'.2 ≤ bx := HPB.out.2
        have hTl : s.2.length ≤ 24 := by have := HLL.out.2; omega
        go_wp2_with (first
          | (at_builtin; refine wpList_pushR _ rfl _ _ rfl z'.1 z'.2 DZ eZ Z (nn : Int) rfl HZ6.out _ (by first | rfl | (simp only [World.size_setCell]; rfl)) (by omega) HZW.out ?_; intro A7 c7 w17 lo7 hi7 hr7 hor7 hw7; have HR7 := Lib.hid hr7; have HOR7 := Lib.hid hor7; have HW7 := Lib.hid hw7; have HX7 := Lib.hid (HX6.out.within hw7 hpz); have HXE := Lib.hid (HX7.out.set2 (.slice A7 (Z.length + 1) c7)); have HI17 := Lib.hid ((HI16.out.within hw7 (by have := HLO.out; have := HLZ.out; omega) (by have := HHI.out; have := HLO.out; have := HLZ.out; omega)).within (within_set w17 bx 2 (.slice A7 (Z.length + 1) c7)) (by have := HBXL.out; omega) (by have := HBXL.out; have := HHI.out; omega)); obtain ⟨r0, r1, r2, r3, r4, r5⟩ := HX7.out.cells; obtain ⟨z0, z1, z2, _, _, _⟩ := HXE.out.cells; obtain ⟨_, _, _, f0, f1, f2⟩ := HI17.out.rb.cells; have rr3 := ret3 HI17.out.rb (.slice (some ⟨gF, 0, none⟩) s.1.length eF) (.slice A5 (s.2.length + 1) c5) (.slice A7 (Z.length + 1) c7); obtain ⟨s0, s1, s2, _⟩ := rr3.1.cells; have HW := Lib.hid rr3.2; clear rr3 hr7 hor7 hw7)
          | (at_builtin; refine wpList_pushR _ rfl _ _ rfl t'.1 t'.2 DT eT s.2 (a : Int) rfl HT4.out _ (by first | rfl | (simp only [World.size_setCell]; rfl) | (show _ = Value.slice (some ⟨(w8.setCell _ _).heap.size, 0, none⟩) 1 1; simp only [World.size_setCell]; rfl)) (by omega) HTW.out ?_; intro A5 c5 w15 lo5 hi5 hr5 hor5 hw5; have HR5 := Lib.hid hr5; have HOR5 := Lib.hid hor5; have HW5 := Lib.hid hw5; have HX5 := Lib.hid (HX4.out.within hw5 hpt); have HX6 := Lib.hid (HX5.out.set1 (.slice A5 (s.2.length + 1) c5)); have HI16 := Lib.hid ((HI4.out.within hw5 (by have := HLO.out; have := HLZ.out; omega) (by have := HHI.out; have := HLO.out; have := HLZ.out; omega)).within (within_set w15 bx 1 (.slice A5 (s.2.length + 1) c5)) (by have := HBXL.out; omega) (by have := HBXL.out; have := HHI.out; omega)); have HZ6 := Lib.hid ((HZ4.out.within hw5 (by have := HXX.out.2.2; unfold Dis at this; omega)).within (within_set w15 bx 1 (.slice A5 (s.2.length + 1) c5)) (by omega)); have HZW := Lib.hid (show z'.1 ≤ (w15.setCell ⟨bx, 1, none⟩ (.slice A5 (s.2.length + 1) c5)).heap.size from by rw [World.size_setCell]; exact Nat.le_trans HZV.out hw5.size); obtain ⟨p0, p1, p2, p3, p4, p5⟩ := HX5.out.cells; obtain ⟨u0, u1, u2, u3, u4, u5⟩ := HX6.out.cells; clear hr5 hor5 hw5))
        rw [HPL.out]
        rw [Option.map_some, if_neg (fun e => c0 (HDA.out.symm.trans e))]
        rw [HDA.out]
        refine bodyPost_ret (v := .tuple #[pebV (some ⟨gF, 0, none⟩) s.1.length eF A5 (s.2.length + 1) c5 A7 (Z.length + 1) c7, .bool true]) ?_ rfl ?_
        · simp [results, Try.results34, go_sem, s0, s1, s2]
        · have hr5 := HR5.out
          have hr7 := HR7.out
          have hor5 := HOR5.out
          have hor7 := HOR7.out
          have w5w := HW5.out
          have w7w := HW7.out
          have xx := HXX.out
          have hz := HLZ.out
          have hbl := HBXL.out
          have q5 := within_set w15 bx 1 (.slice A5 (s.2.length + 1) c5)
          have q7 := within_set w17 bx 2 (.slice A7 (Z.length + 1) c7)
          have hw := HW.out
          have s5 := w5w.size
          have s6 := q5.size
          have s7 := w7w.size
          have s8 := q7.size
          have s9 := hw.size
          have g12 := HG12.out
          have hsz := HSZ.out
          have hhi := HF9.out.hi
          unfold Dis at xx
          have hgb : gF ≠ bx := by omega
          have hfl := (HFR4.out.lt gF rfl).2
          have hf8 := own_block (own_block (own_block (own_block (own_block HFR4.out (w5w.block gF hfl (by omega))) (q5.block gF (by omega) (by omega))) (w7w.block gF (by omega) (by omega))) (q7.block gF (by omega) (by omega))) (hw.block gF (by omega) (by omega))
          have ht8 := (((hr5.within q5 (by omega)).within w7w (by omega)).within q7 (by omega)).within hw (by omega)
          have hz8 := (hr7.within q7 (by omega)).within hw (by omega)
          have hof : OwnF _ f (lo5, hi5) (lo7, hi7) (some ⟨gF, 0, none⟩) eF A5 c5 A7 c7 (s.1.set a (d1 - 1)) (s.2 ++ [(a : Int)]) (Z ++ [(nn : Int)]) := ⟨⟨by show f.2 ≤ _; omega, .inr ⟨gF, rfl, g12.1, g12.2, own_rebase hf8 g12.1⟩⟩, ht8, hz8, by unfold Dis; show f.2 ≤ lo5 ∨ hi5 ≤ f.1; omega, by unfold Dis; show f.2 ≤ lo7 ∨ hi7 ≤ f.1; omega, by unfold Dis; show hi5 ≤ lo7 ∨ hi7 ≤ lo5; omega⟩
          have hg := HI17.out.bel
          exact ⟨_, _, _, _, _, _, by show _ = Ending.returned (.tuple #[pebV _ (s.1.set a (d1 - 1)).length _ _ (s.2 ++ [(a : Int)]).length _ _ (Z ++ [(nn : Int)]).length _, .bool true]); rw [List.length_set, List.length_append, List.length_append]; rfl, hof.own3 (lo := w.heap.size) ⟨by omega, hof.hi.1⟩ ⟨by show w.heap.size ≤ lo5; omega, hof.hi.2.1⟩ ⟨by show w.heap.size ≤ lo7; omega, hof.hi.2.2⟩ (Nat.le_refl _), within_on hg hw hg.size (.inl (by omega))⟩
end Go.Proofs.Ytdkpmaahinbhlaa
