/- Several texts in one, in the order in which they build on each other: what stands on the way to the law; each names its own matter. No condition. -/
import Derived.Test.YtdkpmaahinbhlaaFzB2
import Derived.Test.YtdkpmaahinbhlaaFzB1
import Derived.Deep.QuietTactic
import Derived.Deep.AppendLies
import Derived.Deep.RegionLaw
import Derived.Test.YtdkpmaahinbhlaaFzB2
/- What (*Pebbles).place does. No condition. -/
namespace Go.Proofs.Ytdkpmaahinbhlaa
open Go.RowKit

set_option maxHeartbeats 8000000 in
set_option maxRecDepth 100000 in
theorem place_c (P : Nat) (k0 : Int) (l : List (Int × Int)) (A : Option Addr) (cap pb B : Nat) (f t z : Nat × Nat) (AF AT AZ : Option Addr) (cF cT cZ : Nat) (F T Z : List Int) (c : Int) (n : Nat) (w : World) (hI : IsPeb (P : Int) k0 l F T Z) (hc : 0 ≤ c ∧ c ≤ 100) (hn : n < l.length)
    (hl : BarsIn w 0 B A l) (hst : Cel3 w pb 31 (.slice AF F.length cF) (.slice AT T.length cT) (.slice AZ Z.length cZ)) (ho : OwnF w f t z AF cF AT cT AZ cZ F T Z) (hB : B ≤ w.heap.size ∧ B ≤ pb ∧ B ≤ f.1 ∧ B ≤ t.1 ∧ B ≤ z.1) (hpf : pb < f.1 ∨ f.2 ≤ pb) (hpt : pb < t.1 ∨ t.2 ≤ pb) (hpz : pb < z.1 ∨ z.2 ≤ pb) (ht12 : t.1 ≤ w.heap.size) (hz12 : z.1 ≤ w.heap.size) :
    Calls Try.prog 109 #[.pointer (some ⟨pb, 0, none⟩), .agg #[.int .i64 (P : Int), .slice A l.length cap], .int .i64 c, .int .i64 (n : Int)] w (PlaceP w B pb f t z AF cF AT cT AZ cZ l c F T Z (n : Int)) := by
  have hFP : F.length = P := by have := hI.2.2.1; omega
  have hS := hI.state
  rw [hFP] at hS
  have hOB := hI.1.2.2 n hn
  unfold OkBar at hOB
  have hP8 := hI.1.1
  have hl24 := hI.1.2.1
  have hz24 : Z.length ≤ 24 := by have := hI.many; omega
  have hz24t : T.length ≤ 24 := by have := hI.2.2.2.1; omega
  have hk := hI.2.1
  have hbar : 0 < l.length → ∀ g off, A = some ⟨g, off, none⟩ → (g < f.1 ∨ f.2 ≤ g) ∧ (g < t.1 ∨ t.2 ≤ g) := fun h0 g off e => by
    obtain ⟨b, o, e1, _, h2, _⟩ := hl.2 h0
    rw [e] at e1
    cases e1
    omega
  obtain ⟨bb, boff, rfl, _, hbc⟩ := hl.at (by omega)
  have hx1 := (hbc n hn).1
  have hx2 := (hbc n hn).2
  obtain ⟨x, hxd⟩ : ∃ x, l.getD n (0, 0) = x := ⟨_, rfl⟩
  rw [hxd] at hx1 hx2 hOB
  obtain ⟨x1, x2⟩ := x
  simp only at hx1 hx2 hOB
  obtain ⟨a, rfl⟩ : ∃ a : Nat, x1 = (a : Int) := ⟨x1.toNat, by omega⟩
  obtain ⟨b, rfl⟩ : ∃ b : Nat, x2 = (b : Int) := ⟨x2.toNat, by omega⟩
  have HX := Lib.hid hxd
  have HS := Lib.hid hS
  have HZ := Lib.hid (fun i hi => (hI.2.2.2.2.1 i hi).1)
  have HBAR := Lib.hid hbar
  have hni : (n : Int) < (l.length : Int) := by omega
  have b1 := new_below w (.cells #[.int .i64 (P : Int), .slice (some ⟨bb, boff, none⟩) l.length cap] 26)
  have b2 := new_below (w.alloc (.cells #[.int .i64 (P : Int), .slice (some ⟨bb, boff, none⟩) l.length cap] 26)) (.cells #[.int .i64 (a : Int), .int .i64 (b : Int)] 108)
  have hb12 := below_on b1 b2 b1.size
  have HW := Lib.hid hb12
  have HBX := Lib.hid ((box_new w (P : Int) (.slice (some ⟨bb, boff, none⟩) l.length cap) 26).kept b2)
  have HBI := Lib.hid (hl.within (within_of hb12) (.inr (Nat.zero_le _)))
  have hb3 := box_new (w.alloc (.cells #[.int .i64 (P : Int), .slice (some ⟨bb, boff, none⟩) l.length cap] 26)) (a : Int) (.int .i64 (b : Int)) 108
  rw [show (w.alloc (.cells #[.int .i64 (P : Int), .slice (some ⟨bb, boff, none⟩) l.length cap] 26)).heap.size = w.heap.size + 1 by simp] at hb3
  have HB3 := Lib.hid hb3
  clear hb3
  have HST := Lib.hid (hst.kept hb12)
  have HO := Lib.hid (ho.below hb12)
  have hplt := hst.lt
  have hh := ho.hi
  have HTT := Lib.hid hI.2.2.2.1
  have HFP := Lib.hid hFP
  clear hI hS hxd hbc hbar b1 b2 hb12 hl hst ho hFP
  go_enter Try.func109, Try.ntmps109
  go_wp2_with fail
  refine (gather_c P k0 l (some ⟨bb, boff, none⟩) cap pb f t z AF AT AZ cF cT cZ F T Z a b (c + 1) _ HS.out (by omega) (by omega) hl24 hz24 HZ.out (by omega) (by omega) (by omega) HBI.out.at HST.out HO.out hpf hpt HBAR.out).mono ?_
  rintro e w3 ⟨hw, ⟨rfl, hg, ho⟩ | ⟨s', rfl, hg, ho⟩⟩
  · have HW3 := Lib.hid (below_low2 ((Within2.of (within_of HW.out) (.inl (Nat.le_refl 0))).trans hw) hB.2.2.1 hB.2.2.2.1 hB.1)
    have HO3 := Lib.hid ho
    have HG := Lib.hid hg
    have HST3 := Lib.hid (HST.out.at hw hpf hpt)
    clear hw ho hg
    go_wp2_with fail
    go_ret
    exact ⟨HW3.out, .inl ⟨rfl, by unfold plaR; rw [Int.toNat_natCast, HX.out, HG.out]; rfl, HO3.out, HST3.out⟩⟩
  · obtain ⟨hq, _⟩ := gathR_ok (P := P) (by omega) (by omega) (by omega) HS.out hg
    have HL1 := Lib.hid (show s'.1.length = F.length by rw [hq.flen, HFP.out])
    have HL2 := Lib.hid (show s'.2.length = T.length by rw [hq.ends.len, HS.out.ends.len])
    have hst3 := HST.out.at hw hpf hpt
    rw [← HL1.out, ← HL2.out] at hst3
    have HST3 := Lib.hid hst3
    have HB := Lib.hid (HB3.out.at hw (by omega) (by omega))
    have HW3 := Lib.hid (below_low2 ((Within2.of (within_of HW.out) (.inl (Nat.le_refl 0))).trans hw) hB.2.2.1 hB.2.2.2.1 hB.1)
    have hsa := hq.small (v := (a : Int)) (by omega)
    have hsb := hq.small (v := (b : Int)) (by omega)
    rw [Int.toNat_natCast] at hsa hsb
    have hfl := hq.flen
    obtain ⟨F', T'⟩ := s'
    simp only at hsa hsb hfl hst3 ho HST3 HL1 HL2
    obtain ⟨gF, rfl, g1, g2, hF⟩ := ho.1.open_ (by omega)
    have ha1 := (hF.cellAt a (by omega)).trans (intCells_get F' a (by omega))
    have hb1 := (hF.cellAt b (by omega)).trans (intCells_get F' b (by omega))
    have hfa := hF.frozenAt a
    have hfb := hF.frozenAt b
    have HF := Lib.hid hF
    have HO3 := Lib.hid ho
    have HG := Lib.hid hg
    have haF : (a : Int) < (F'.length : Int) := by omega
    have hbF : (b : Int) < (F'.length : Int) := by omega
    obtain ⟨d1, hd1⟩ : ∃ d1, F'.getD a 0 = d1 := ⟨_, rfl⟩
    obtain ⟨d2, hd2⟩ : ∃ d2, F'.getD b 0 = d2 := ⟨_, rfl⟩
    rw [hd1] at ha1 hsa
    rw [hd2] at hb1 hsb
    have HD := Lib.hid (And.intro hd1 hd2)
    have HFL := Lib.hid hfl
    have HTL := Lib.hid (show T'.length ≤ 24 by rw [HL2.out]; exact hz24t)
    have hs3 : w.heap.size ≤ w3.heap.size := HW3.out.size
    obtain ⟨hc0, hc1, hc2, hz0, hz1, hz2⟩ := hst3.cells
    obtain ⟨_, y0, y1⟩ := HB.out
    have hpb1 : w.heap.size ≠ pb := by omega
    have hpb2 : w.heap.size + 1 ≠ pb := by omega
    clear hq hst3 hd1 hd2 hfl hF ho hg hw
    have hgp : gF ≠ pb := by omega
    by_cases c1 : d1 = 0
    · have e1 : (d1 == 0) = true := by simpa using c1
      have hw4 := within_set w3 gF b (.int .i64 (d2 - 1))
      obtain ⟨o1, o2, o3, x1, x2, x3⟩ := HO3.out
      have HXX := Lib.hid (And.intro x1 (And.intro x2 x3))
      unfold Dis at x1 x2 x3
      have HT4 := Lib.hid (o2.within hw4 (by omega))
      have HZ4 := Lib.hid (o3.within hw4 (by omega))
      have HF4 := Lib.hid (show (w3.setCell ⟨gF, b, none⟩ (.int .i64 (d2 - 1))).ownsRow 0 3 1 (.slice (some ⟨gF, 0, none⟩) (F'.set b (d2 - 1)).length cF) (F'.set b (d2 - 1)).length (intCells (F'.set b (d2 - 1))) from by
        have h1 := (HF.out.stored b (.int .i64 (d2 - 1))).1
        rw [intCells_set] at h1
        rw [List.length_set]
        exact h1)
      have HST4 := Lib.hid (HST3.out.within hw4 (by omega))
      have HTW := Lib.hid (show t.1 ≤ (w3.setCell ⟨gF, b, none⟩ (.int .i64 (d2 - 1))).heap.size from Nat.le_trans ht12 (Nat.le_trans hs3 hw4.size))
      have HZV := Lib.hid (show z.1 ≤ (w3.setCell ⟨gF, b, none⟩ (.int .i64 (d2 - 1))).heap.size from Nat.le_trans hz12 (Nat.le_trans hs3 hw4.size))
      have HW4 := Lib.hid hw4
      obtain ⟨m0, m1, m2, m3, m4, m5⟩ := HST4.out.cells
      clear o1 o2 o3 x1 x2 x3 hw4
      go_wp2_with (first
        | (at_builtin; refine wpList_pushR _ rfl _ _ rfl z.1 z.2 AZ cZ Z (n : Int) rfl HZ6.out _ (by first | rfl | (simp only [World.size_setCell]; rfl)) (by omega) HZW.out ?_; intro A7 c7 w7 lo7 hi7 hr7 hor7 hw7; have HR7 := Lib.hid hr7; have HOR7 := Lib.hid hor7; have HW7 := Lib.hid hw7; have HST7 := Lib.hid (HST6.out.within hw7 hpz); obtain ⟨r0, r1, r2, r3, r4, r5⟩ := HST7.out.cells; clear hr7 hor7 hw7)
        | (at_builtin; refine wpList_pushR _ rfl _ _ rfl t.1 t.2 AT cT T' (b : Int) rfl HT4.out _ (by first | rfl | (simp only [World.size_setCell]; rfl)) (by have := HTL.out; omega) HTW.out ?_; intro A5 c5 w5 lo5 hi5 hr5 hor5 hw5; have HR5 := Lib.hid hr5; have HOR5 := Lib.hid hor5; have HW5 := Lib.hid hw5; have HST5 := Lib.hid (HST4.out.within hw5 hpt); have HST6 := Lib.hid (HST5.out.set1 (.slice A5 (T'.length + 1) c5)); have HZ6 := Lib.hid ((HZ4.out.within hw5 (by have := HXX.out.2.2; unfold Dis at this; omega)).within (within_set w5 pb 1 (.slice A5 (T'.length + 1) c5)) (by omega)); have HZW := Lib.hid (show z.1 ≤ (w5.setCell ⟨pb, 1, none⟩ (.slice A5 (T'.length + 1) c5)).heap.size from by rw [World.size_setCell]; exact Nat.le_trans HZV.out hw5.size); obtain ⟨p0, p1, p2, p3, p4, p5⟩ := HST5.out.cells; obtain ⟨u0, u1, u2, u3, u4, u5⟩ := HST6.out.cells; clear hr5 hor5 hw5))
      go_ret
      have hr5 := HR5.out
      have hr7 := HR7.out
      have hor5 := HOR5.out
      have hor7 := HOR7.out
      have w4 := HW4.out
      have w5w := HW5.out
      have w7w := HW7.out
      have xx := HXX.out
      have q5 := within_set w5 pb 1 (.slice A5 (T'.length + 1) c5)
      have q7 := within_set w7 pb 2 (.slice A7 (Z.length + 1) c7)
      have s4 := w4.size
      have s5 := w5w.size
      have s6 := q5.size
      have s7 := w7w.size
      have s8 := q7.size
      unfold Dis at xx
      have hB' := hB
      have e4 : (w3.setCell ⟨gF, b, none⟩ (.int .i64 (d2 - 1))).heap.size = w3.heap.size := by simp
      have e6 : (w5.setCell ⟨pb, 1, none⟩ (.slice A5 (T'.length + 1) c5)).heap.size = w5.heap.size := by simp
      have e8 : (w7.setCell ⟨pb, 2, none⟩ (.slice A7 (Z.length + 1) c7)).heap.size = w7.heap.size := by simp
      have hbel : Below B w (w7.setCell ⟨pb, 2, none⟩ (.slice A7 (Z.length + 1) c7)) := ((((HW3.out.trans (below_low w4 (by omega) (by omega))).trans (below_low w5w (by omega) (by omega))).trans (below_low q5 (by omega) (by omega))).trans (below_low w7w (by omega) (by omega))).trans (below_low q7 (by omega) (by omega))
      have hf8 := own_block (own_block (own_block (own_block HF4.out (w5w.block gF (HF4.out.lt gF rfl).2 (by omega))) (q5.block gF (by have := (HF4.out.lt gF rfl).2; omega) (by omega))) (w7w.block gF (by have := (HF4.out.lt gF rfl).2; omega) (by omega))) (q7.block gF (by have := (HF4.out.lt gF rfl).2; omega) (by omega))
      have ht8 := ((hr5.within q5 (by omega)).within w7w (by omega)).within q7 (by omega)
      have hz8 := hr7.within q7 (by omega)
      have hc8 := HST7.out.set2 (.slice A7 (Z.length + 1) c7)
      refine ⟨hbel, .inr ⟨(F'.set b (d2 - 1), (T' ++ [(b : Int)]), (Z ++ [(n : Int)])), A5, c5, A7, c7, (lo5, hi5), (lo7, hi7), rfl, ?_, ⟨⟨by show f.2 ≤ _; omega, .inr ⟨gF, rfl, g1, g2, own_rebase hf8 g1⟩⟩, ht8, hz8, ?_, ?_, ?_⟩, ?_, ?_, ?_⟩⟩
      · unfold plaR
        rw [Int.toNat_natCast, HX.out, HG.out]
        simp only [Option.map_some, Int.toNat_natCast, HD.out.1, HD.out.2]
        rw [if_pos c1]
      · unfold Dis; show f.2 ≤ lo5 ∨ hi5 ≤ f.1; omega
      · unfold Dis; show f.2 ≤ lo7 ∨ hi7 ≤ f.1; omega
      · unfold Dis; show hi5 ≤ lo7 ∨ hi7 ≤ lo5; omega
      · show Cel3 _ pb _ (.slice _ (F'.set b (d2 - 1)).length _) (.slice _ (T' ++ [(b : Int)]).length _) (.slice _ (Z ++ [(n : Int)]).length _)
        rw [List.length_set, List.length_append, List.length_append]
        exact hc8
      · rcases hor5 with ⟨rfl, rfl⟩ | h
        · exact .inl rfl
        · exact .inr ⟨by show w.heap.size ≤ lo5; omega, by show lo5 ≤ _; omega⟩
      · rcases hor7 with ⟨rfl, rfl⟩ | h
        · exact .inl rfl
        · exact .inr ⟨by show w.heap.size ≤ lo7; omega, by show lo7 ≤ _; omega⟩
    · have e1 : (d1 == 0) = false := by simpa using c1
      have hw4 := within_set w3 gF a (.int .i64 (d1 - 1))
      obtain ⟨o1, o2, o3, x1, x2, x3⟩ := HO3.out
      have HXX := Lib.hid (And.intro x1 (And.intro x2 x3))
      unfold Dis at x1 x2 x3
      have HT4 := Lib.hid (o2.within hw4 (by omega))
      have HZ4 := Lib.hid (o3.within hw4 (by omega))
      have HF4 := Lib.hid (show (w3.setCell ⟨gF, a, none⟩ (.int .i64 (d1 - 1))).ownsRow 0 3 1 (.slice (some ⟨gF, 0, none⟩) (F'.set a (d1 - 1)).length cF) (F'.set a (d1 - 1)).length (intCells (F'.set a (d1 - 1))) from by
        have h1 := (HF.out.stored a (.int .i64 (d1 - 1))).1
        rw [intCells_set] at h1
        rw [List.length_set]
        exact h1)
      have HST4 := Lib.hid (HST3.out.within hw4 (by omega))
      have HTW := Lib.hid (show t.1 ≤ (w3.setCell ⟨gF, a, none⟩ (.int .i64 (d1 - 1))).heap.size from Nat.le_trans ht12 (Nat.le_trans hs3 hw4.size))
      have HZV := Lib.hid (show z.1 ≤ (w3.setCell ⟨gF, a, none⟩ (.int .i64 (d1 - 1))).heap.size from Nat.le_trans hz12 (Nat.le_trans hs3 hw4.size))
      have HW4 := Lib.hid hw4
      obtain ⟨m0, m1, m2, m3, m4, m5⟩ := HST4.out.cells
      clear o1 o2 o3 x1 x2 x3 hw4
      go_wp2_with (first
        | (at_builtin; refine wpList_pushR _ rfl _ _ rfl z.1 z.2 AZ cZ Z (n : Int) rfl HZ6.out _ (by first | rfl | (simp only [World.size_setCell]; rfl)) (by omega) HZW.out ?_; intro A7 c7 w7 lo7 hi7 hr7 hor7 hw7; have HR7 := Lib.hid hr7; have HOR7 := Lib.hid hor7; have HW7 := Lib.hid hw7; have HST7 := Lib.hid (HST6.out.within hw7 hpz); obtain ⟨r0, r1, r2, r3, r4, r5⟩ := HST7.out.cells; clear hr7 hor7 hw7)
        | (at_builtin; refine wpList_pushR _ rfl _ _ rfl t.1 t.2 AT cT T' (a : Int) rfl HT4.out _ (by first | rfl | (simp only [World.size_setCell]; rfl)) (by have := HTL.out; omega) HTW.out ?_; intro A5 c5 w5 lo5 hi5 hr5 hor5 hw5; have HR5 := Lib.hid hr5; have HOR5 := Lib.hid hor5; have HW5 := Lib.hid hw5; have HST5 := Lib.hid (HST4.out.within hw5 hpt); have HST6 := Lib.hid (HST5.out.set1 (.slice A5 (T'.length + 1) c5)); have HZ6 := Lib.hid ((HZ4.out.within hw5 (by have := HXX.out.2.2; unfold Dis at this; omega)).within (within_set w5 pb 1 (.slice A5 (T'.length + 1) c5)) (by omega)); have HZW := Lib.hid (show z.1 ≤ (w5.setCell ⟨pb, 1, none⟩ (.slice A5 (T'.length + 1) c5)).heap.size from by rw [World.size_setCell]; exact Nat.le_trans HZV.out hw5.size); obtain ⟨p0, p1, p2, p3, p4, p5⟩ := HST5.out.cells; obtain ⟨u0, u1, u2, u3, u4, u5⟩ := HST6.out.cells; clear hr5 hor5 hw5))
      go_ret
      have hr5 := HR5.out
      have hr7 := HR7.out
      have hor5 := HOR5.out
      have hor7 := HOR7.out
      have w4 := HW4.out
      have w5w := HW5.out
      have w7w := HW7.out
      have xx := HXX.out
      have q5 := within_set w5 pb 1 (.slice A5 (T'.length + 1) c5)
      have q7 := within_set w7 pb 2 (.slice A7 (Z.length + 1) c7)
      have s4 := w4.size
      have s5 := w5w.size
      have s6 := q5.size
      have s7 := w7w.size
      have s8 := q7.size
      unfold Dis at xx
      have hB' := hB
      have e4 : (w3.setCell ⟨gF, a, none⟩ (.int .i64 (d1 - 1))).heap.size = w3.heap.size := by simp
      have e6 : (w5.setCell ⟨pb, 1, none⟩ (.slice A5 (T'.length + 1) c5)).heap.size = w5.heap.size := by simp
      have e8 : (w7.setCell ⟨pb, 2, none⟩ (.slice A7 (Z.length + 1) c7)).heap.size = w7.heap.size := by simp
      have hbel : Below B w (w7.setCell ⟨pb, 2, none⟩ (.slice A7 (Z.length + 1) c7)) := ((((HW3.out.trans (below_low w4 (by omega) (by omega))).trans (below_low w5w (by omega) (by omega))).trans (below_low q5 (by omega) (by omega))).trans (below_low w7w (by omega) (by omega))).trans (below_low q7 (by omega) (by omega))
      have hf8 := own_block (own_block (own_block (own_block HF4.out (w5w.block gF (HF4.out.lt gF rfl).2 (by omega))) (q5.block gF (by have := (HF4.out.lt gF rfl).2; omega) (by omega))) (w7w.block gF (by have := (HF4.out.lt gF rfl).2; omega) (by omega))) (q7.block gF (by have := (HF4.out.lt gF rfl).2; omega) (by omega))
      have ht8 := ((hr5.within q5 (by omega)).within w7w (by omega)).within q7 (by omega)
      have hz8 := hr7.within q7 (by omega)
      have hc8 := HST7.out.set2 (.slice A7 (Z.length + 1) c7)
      refine ⟨hbel, .inr ⟨(F'.set a (d1 - 1), (T' ++ [(a : Int)]), (Z ++ [(n : Int)])), A5, c5, A7, c7, (lo5, hi5), (lo7, hi7), rfl, ?_, ⟨⟨by show f.2 ≤ _; omega, .inr ⟨gF, rfl, g1, g2, own_rebase hf8 g1⟩⟩, ht8, hz8, ?_, ?_, ?_⟩, ?_, ?_, ?_⟩⟩
      · unfold plaR
        rw [Int.toNat_natCast, HX.out, HG.out]
        simp only [Option.map_some, Int.toNat_natCast, HD.out.1, HD.out.2]
        rw [if_neg c1]
      · unfold Dis; show f.2 ≤ lo5 ∨ hi5 ≤ f.1; omega
      · unfold Dis; show f.2 ≤ lo7 ∨ hi7 ≤ f.1; omega
      · unfold Dis; show hi5 ≤ lo7 ∨ hi7 ≤ lo5; omega
      · show Cel3 _ pb _ (.slice _ (F'.set a (d1 - 1)).length _) (.slice _ (T' ++ [(a : Int)]).length _) (.slice _ (Z ++ [(n : Int)]).length _)
        rw [List.length_set, List.length_append, List.length_append]
        exact hc8
      · rcases hor5 with ⟨rfl, rfl⟩ | h
        · exact .inl rfl
        · exact .inr ⟨by show w.heap.size ≤ lo5; omega, by show lo5 ≤ _; omega⟩
      · rcases hor7 with ⟨rfl, rfl⟩ | h
        · exact .inl rfl
        · exact .inr ⟨by show w.heap.size ≤ lo7; omega, by show lo7 ≤ _; omega⟩
end Go.Proofs.Ytdkpmaahinbhlaa
/- What impl.RunPebbles answers. No condition. -/
namespace Go.Proofs.Ytdkpmaahinbhlaa
open Go.RowKit

/-- What stands in the program's run of the game: the graph's box, the result's box, the state's box with its rows' ranges. -/
structure RunI (w W : World) (P : Nat) (A : Option Addr) (cap : Nat) (l : List (Int × Int)) (pb : Nat) (f t z : Nat × Nat) (AF AT AZ : Option Addr) (cF cT cZ : Nat) (R : List Int × List Int × List Int) : Prop where
  gb : Box W w.heap.size (P : Int) (.slice A l.length cap)
  rb : Cel3 W (w.heap.size + 1) 31 (.slice none 0 0) (.slice none 0 0) (.slice none 0 0)
  st : Cel3 W pb 31 (.slice AF R.1.length cF) (.slice AT R.2.1.length cT) (.slice AZ R.2.2.length cZ)
  own : OwnF W f t z AF cF AT cT AZ cZ R.1 R.2.1 R.2.2
  bars : BarsIn W 0 w.heap.size A l
  bel : Below w.heap.size w W
  lo : w.heap.size + 2 ≤ pb ∧ w.heap.size + 2 ≤ f.1 ∧ w.heap.size + 2 ≤ t.1 ∧ w.heap.size + 2 ≤ z.1
  hp : (pb < f.1 ∨ f.2 ≤ pb) ∧ (pb < t.1 ∨ t.2 ≤ pb) ∧ (pb < z.1 ∨ z.2 ≤ pb)
  hs : t.1 ≤ W.heap.size ∧ z.1 ≤ W.heap.size
theorem RunI.mk0 {w W : World} {P : Nat} {k c : Int} {A : Option Addr} {cap : Nat} {l : List (Int × Int)} {pb a b : Nat} {AF : Option Addr} {cF : Nat} (g : Box W w.heap.size (P : Int) (.slice A l.length cap)) (r : Cel3 W (w.heap.size + 1) 31 (.slice none 0 0) (.slice none 0 0) (.slice none 0 0))
    (h : Cel3 W pb 31 (.slice AF (runN P k c l 0).1.length cF) (.slice none 0 0) (.slice none 0 0)) (ho : OwnR W a b AF cF (runN P k c l 0).1) (hb : BarsIn W 0 w.heap.size A l) (hw : Below w.heap.size w W) (h1 : w.heap.size + 2 ≤ pb) (h2 : w.heap.size + 2 ≤ a) (h3 : b ≤ pb) (h4 : pb < W.heap.size) :
    RunI w W P A cap l pb (a, b) (W.heap.size, W.heap.size) (W.heap.size, W.heap.size) AF none none cF 0 0 (runN P k c l 0) :=
  ⟨g, r, h, ⟨ho, ⟨Nat.le_refl _, .inl ⟨rfl, rfl, rfl⟩⟩, ⟨Nat.le_refl _, .inl ⟨rfl, rfl, rfl⟩⟩, .inl (by show b ≤ W.heap.size; omega), .inl (by show b ≤ W.heap.size; omega), .inl (Nat.le_refl _)⟩, hb, hw,
    ⟨h1, h2, by show _ ≤ W.heap.size; omega, by show _ ≤ W.heap.size; omega⟩, ⟨.inr h3, .inl h4, .inl h4⟩, ⟨Nat.le_refl _, Nat.le_refl _⟩⟩
theorem runN_zero {P : Nat} {k c : Int} {l : List (Int × Int)} (h : newB (P : Int) k l = true) : (runN P k c l 0).1 ≠ [] := by
  have h1 := (newB_is h).1.1
  intro e
  have h2 : (runN P k c l 0).1.length = P := by simp [runN]
  rw [e] at h2
  simp at h2
  omega
theorem own_new {W : World} {a b : Nat} {A : Option Addr} {cap : Nat} {zs : List Int} (h : OwnInts W a b A cap zs) (hz : zs ≠ []) : OwnR W a b A cap zs :=
  ⟨h.1, by
    rcases h.2 with e | r
    · exact absurd e hz
    · exact .inr r⟩
/-- The program's next bar. -/
theorem RunI.call {w W : World} {P : Nat} {k c : Int} {A : Option Addr} {cap : Nat} {l : List (Int × Int)} {pb : Nat} {f t z : Nat × Nat} {AF AT AZ : Option Addr} {cF cT cZ : Nat} {n : Nat} (h : RunI w W P A cap l pb f t z AF AT AZ cF cT cZ (runN P k c l n)) (hk : newB (P : Int) k l = true) (hr : rangeB k c = true) (hn : n < l.length) :
    Calls Try.prog 109 #[.pointer (some ⟨pb, 0, none⟩), .agg #[.int .i64 (P : Int), .slice A l.length cap], .int .i64 c, .int .i64 (n : Int)] W (fun e W' => ∃ (b : Bool) (f' t' z' : Nat × Nat) (BF BT BZ : Option Addr) (dF dT dZ : Nat), e = .returned (.bool b) ∧ RunI w W' P A cap l pb f' t' z' BF BT BZ dF dT dZ (runN P k c l (n + 1))) := by
  obtain ⟨h1, h2, h3, h4, h5, h6, h7, h8, h9⟩ := h
  have hlt := h3.lt
  have hs := runN_step hk hr hn
  have hrr := rangeB_is hr
  have hs0 := h6.size
  refine (place_c P k l A cap pb (w.heap.size + 2) f t z AF AT AZ cF cT cZ _ _ _ c n W (runN_at hk hr (Nat.le_of_lt hn)) (by omega) hn (h5.widen (Nat.le_refl _) (by omega) (by omega)) h3 h4 (by omega) h8.1 h8.2.1 h8.2.2 h9.1 h9.2).mono ?_
  rintro e W' ⟨hb, ⟨rfl, hp, ho, hc⟩ | ⟨s, AT', cT', AZ', cZ', t', z', rfl, hp, ho, hc, ht, hz⟩⟩
  · have hw := within_low hb
    have e1 : runN P k c l (n + 1) = runN P k c l n := by rw [hs.2, hp]; rfl
    have hsz := hb.size
    rw [e1]
    exact ⟨false, f, t, z, AF, AT, AZ, cF, cT, cZ, rfl, h1.within hw (by omega), h2.within hw (by omega), hc, ho, h5.within hw (by omega), within_on h6 hw h6.size (.inl (by omega)), h7, h8, by omega, by omega⟩
  · have hw := within_low hb
    have e1 : runN P k c l (n + 1) = s := by rw [hs.2, hp]; rfl
    have hsz := hb.size
    rw [e1]
    refine ⟨true, f, t', z', AF, AT', AZ', cF, cT', cZ', rfl, h1.within hw (by omega), h2.within hw (by omega), hc, ho, h5.within hw (by omega), within_on h6 hw h6.size (.inl (by omega)), ⟨h7.1, h7.2.1, ?_, ?_⟩, ⟨h8.1, ?_, ?_⟩, ?_, ?_⟩
    · rcases ht with e | e
      · rw [e]; exact h7.2.2.1
      · omega
    · rcases hz with e | e
      · rw [e]; exact h7.2.2.2
      · omega
    · rcases ht with e | e
      · rw [e]; exact h8.2.1
      · omega
    · rcases hz with e | e
      · rw [e]; exact h8.2.2
      · omega
    · rcases ht with e | e
      · rw [e]; omega
      · omega
    · rcases hz with e | e
      · rw [e]; omega
      · omega

set_option maxHeartbeats 4000000 in
set_option maxRecDepth 100000 in
theorem implRunP (p k c : Int) (l : List (Int × Int)) (A : Option Addr) (cap : Nat) (w : World) (hl : BarsAt w w.heap.size A l) (hn : l.length ≤ 1048576) :
    Calls Try.prog 16 #[.agg #[.int .i64 p, .slice A l.length cap], .int .i64 k, .int .i64 c] w (PebOB w (runV p k c l).1 (runV p k c l).2.1 (runV p k c l).2.2 (runB p k c l)) := by
  by_cases hb1 : newB p k l = true
  case neg =>
    have hb1' : newB p k l = false := by simpa using hb1
    have HR := Lib.hid (runV_no (c := c) (.inl hb1'))
    clear hb1
    rename newB p k l = false => hb1
    have HNW : ∀ W : World, BarsAt W W.heap.size A l → Calls Try.prog 36 #[.agg #[.int .i64 p, .slice A l.length cap], .int .i64 k] W (NewOB W (newF p k l) false) := fun W h => by have hc := implNewN p k l A cap W h hn; rw [hb1] at hc; exact hc
    clear hb1
    have W0 := Lib.hid (Below.refl w.heap.size w)
    have HB_0 := Lib.hid (bars_in hl)
    clear hl
    have Z1 := Lib.hid (within_alloc w (.cells #[.int .i64 p, (.slice A l.length cap)] 26)).size
    have W1 := Lib.hid (within_on W0.out (within_alloc w (.cells #[.int .i64 p, (.slice A l.length cap)] 26)) W0.out.size (.inr (Nat.le_refl _)))
    have HB_1 := Lib.hid (HB_0.out.within (within_alloc w (.cells #[.int .i64 p, (.slice A l.length cap)] 26)) (by omega))
    have Y1 := Lib.hid (show (w.alloc (.cells #[.int .i64 p, (.slice A l.length cap)] 26)).heap.size = w.heap.size + 1 by simp)
    have hnew := box_new w p (.slice A l.length cap) 26
    have BX_1 := Lib.hid hnew
    clear hnew
    have Z2 := Lib.hid (within_alloc (w.alloc (.cells #[.int .i64 p, (.slice A l.length cap)] 26)) (.cells #[(.slice none 0 0), (.slice none 0 0), (.slice none 0 0)] 31)).size
    have W2 := Lib.hid (within_on W1.out (within_alloc (w.alloc (.cells #[.int .i64 p, (.slice A l.length cap)] 26)) (.cells #[(.slice none 0 0), (.slice none 0 0), (.slice none 0 0)] 31)) W1.out.size (.inr (Nat.le_refl _)))
    have HB_2 := Lib.hid (HB_1.out.within (within_alloc (w.alloc (.cells #[.int .i64 p, (.slice A l.length cap)] 26)) (.cells #[(.slice none 0 0), (.slice none 0 0), (.slice none 0 0)] 31)) (by omega))
    have BX_2 := Lib.hid (BX_1.out.within (within_alloc (w.alloc (.cells #[.int .i64 p, (.slice A l.length cap)] 26)) (.cells #[(.slice none 0 0), (.slice none 0 0), (.slice none 0 0)] 31)) (by omega))
    have Y2 := Lib.hid (show ((w.alloc (.cells #[.int .i64 p, (.slice A l.length cap)] 26)).alloc (.cells #[(.slice none 0 0), (.slice none 0 0), (.slice none 0 0)] 31)).heap.size = (w.alloc (.cells #[.int .i64 p, (.slice A l.length cap)] 26)).heap.size + 1 by simp)
    have hnew := cel3_new (w.alloc (.cells #[.int .i64 p, (.slice A l.length cap)] 26)) (.slice none 0 0) (.slice none 0 0) (.slice none 0 0) 31
    rw [show (w.alloc (.cells #[.int .i64 p, (.slice A l.length cap)] 26)).heap.size = w.heap.size + 1 by simp] at hnew
    have GR_2 := Lib.hid hnew
    clear hnew
    go_enter Try.func16, Try.ntmps16
    obtain ⟨g0_0, g0_1, g0_2⟩ := BX_2.out
    go_wp2_with fail
    clear g0_0 g0_1 g0_2
    generalize ((w.alloc (.cells #[.int .i64 p, (.slice A l.length cap)] 26)).alloc (.cells #[(.slice none 0 0), (.slice none 0 0), (.slice none 0 0)] 31)) = w2 at *
    generalize (w.alloc (.cells #[.int .i64 p, (.slice A l.length cap)] 26)) = w1 at *
    refine (HNW _ HB_2.out.at).mono ?_
    rintro e w3 ⟨AF, cF, a, b, rfl, ho, ha1, hb1, hb⟩
    have Z3 := Lib.hid (within_of hb).size
    have W3 := Lib.hid (within_on W2.out (within_of hb) W2.out.size (.inr (Nat.le_refl _)))
    have HB_3 := Lib.hid (HB_2.out.within (within_of hb) (by omega))
    have BX_3 := Lib.hid (BX_2.out.within (within_of hb) (by omega))
    have GR_3 := Lib.hid (GR_2.out.within (within_of hb) (by omega))
    clear hb ho HNW ha1 hb1
    have Z4 := Lib.hid (within_alloc w3 (.cells #[(.slice AF (newF p k l).length cF), (.slice none 0 0), (.slice none 0 0)] 31)).size
    have W4 := Lib.hid (within_on W3.out (within_alloc w3 (.cells #[(.slice AF (newF p k l).length cF), (.slice none 0 0), (.slice none 0 0)] 31)) W3.out.size (.inr (Nat.le_refl _)))
    have HB_4 := Lib.hid (HB_3.out.within (within_alloc w3 (.cells #[(.slice AF (newF p k l).length cF), (.slice none 0 0), (.slice none 0 0)] 31)) (by omega))
    have BX_4 := Lib.hid (BX_3.out.within (within_alloc w3 (.cells #[(.slice AF (newF p k l).length cF), (.slice none 0 0), (.slice none 0 0)] 31)) (by omega))
    have GR_4 := Lib.hid (GR_3.out.within (within_alloc w3 (.cells #[(.slice AF (newF p k l).length cF), (.slice none 0 0), (.slice none 0 0)] 31)) (by omega))
    have Y4 := Lib.hid (show (w3.alloc (.cells #[(.slice AF (newF p k l).length cF), (.slice none 0 0), (.slice none 0 0)] 31)).heap.size = w3.heap.size + 1 by simp)
    have hnew := cel3_new w3 (.slice AF (newF p k l).length cF) (.slice none 0 0) (.slice none 0 0) 31
    have BP_4 := Lib.hid hnew
    clear hnew
    obtain ⟨g1_0, g1_1, g1_2, g1_3, g1_4, g1_5⟩ := GR_4.out.cells
    have Z5 := Lib.hid ((ret3 GR_4.out (.slice none 0 0) (.slice none 0 0) (.slice none 0 0)).2).size
    have W5 := Lib.hid (within_on W4.out ((ret3 GR_4.out (.slice none 0 0) (.slice none 0 0) (.slice none 0 0)).2) W4.out.size (by have := Z1.out; have := Z2.out; have := Z3.out; have := Z4.out; have := Z5.out; have := Y1.out; have := Y2.out; have := Y4.out; omega))
    have HB_5 := Lib.hid (HB_4.out.within ((ret3 GR_4.out (.slice none 0 0) (.slice none 0 0) (.slice none 0 0)).2) (by have := Z1.out; have := Z2.out; have := Z3.out; have := Z4.out; have := Z5.out; have := Y1.out; have := Y2.out; have := Y4.out; omega))
    have BX_5 := Lib.hid (BX_4.out.within ((ret3 GR_4.out (.slice none 0 0) (.slice none 0 0) (.slice none 0 0)).2) (by have := Z1.out; have := Z2.out; have := Z3.out; have := Z4.out; have := Z5.out; have := Y1.out; have := Y2.out; have := Y4.out; omega))
    have GR_5 := Lib.hid ((ret3 GR_4.out (.slice none 0 0) (.slice none 0 0) (.slice none 0 0)).1)
    have BP_5 := Lib.hid (BP_4.out.within ((ret3 GR_4.out (.slice none 0 0) (.slice none 0 0) (.slice none 0 0)).2) (by have := Z1.out; have := Z2.out; have := Z3.out; have := Z4.out; have := Z5.out; have := Y1.out; have := Y2.out; have := Y4.out; omega))
    obtain ⟨g2_0, g2_1, g2_2, g2_3, g2_4, g2_5⟩ := GR_5.out.cells
    go_wp2_with fail
    generalize ((((w3.alloc (.cells #[(.slice AF (newF p k l).length cF), (.slice none 0 0), (.slice none 0 0)] 31)).setCell ⟨w.heap.size + 1, 0, none⟩ (.slice none 0 0)).setCell ⟨w.heap.size + 1, 1, none⟩ (.slice none 0 0)).setCell ⟨w.heap.size + 1, 2, none⟩ (.slice none 0 0)) = w5 at *
    generalize (w3.alloc (.cells #[(.slice AF (newF p k l).length cF), (.slice none 0 0), (.slice none 0 0)] 31)) = w4 at *
    refine bodyPost_ret (v := .tuple #[pebV none 0 0 none 0 0 none 0 0, .bool false]) ?_ rfl ?_
    · simp [results, Try.results16, go_sem, g2_0, g2_1, g2_2]
    · rw [HR.out.1, HR.out.2]
      exact ⟨none, 0, none, 0, none, 0, rfl, own3_nil _ _ W5.out.size _ _ _ _ _ _, W5.out⟩
  by_cases hb2 : rangeB k c = true
  case neg =>
    have hb2' : rangeB k c = false := by simpa using hb2
    have HR := Lib.hid (runV_no (p := p) (l := l) (.inr hb2'))
    have HRG := Lib.hid hb2'
    clear hb2 hb2'
    have HNW : ∀ W : World, BarsAt W W.heap.size A l → Calls Try.prog 36 #[.agg #[.int .i64 p, .slice A l.length cap], .int .i64 k] W (NewOB W (newF p k l) true) := fun W h => by have hc := implNewN p k l A cap W h hn; rw [hb1] at hc; exact hc
    clear hb1
    have W0 := Lib.hid (Below.refl w.heap.size w)
    have HB_0 := Lib.hid (bars_in hl)
    clear hl
    have Z1 := Lib.hid (within_alloc w (.cells #[.int .i64 p, (.slice A l.length cap)] 26)).size
    have W1 := Lib.hid (within_on W0.out (within_alloc w (.cells #[.int .i64 p, (.slice A l.length cap)] 26)) W0.out.size (.inr (Nat.le_refl _)))
    have HB_1 := Lib.hid (HB_0.out.within (within_alloc w (.cells #[.int .i64 p, (.slice A l.length cap)] 26)) (by omega))
    have Y1 := Lib.hid (show (w.alloc (.cells #[.int .i64 p, (.slice A l.length cap)] 26)).heap.size = w.heap.size + 1 by simp)
    have hnew := box_new w p (.slice A l.length cap) 26
    have BX_1 := Lib.hid hnew
    clear hnew
    have Z2 := Lib.hid (within_alloc (w.alloc (.cells #[.int .i64 p, (.slice A l.length cap)] 26)) (.cells #[(.slice none 0 0), (.slice none 0 0), (.slice none 0 0)] 31)).size
    have W2 := Lib.hid (within_on W1.out (within_alloc (w.alloc (.cells #[.int .i64 p, (.slice A l.length cap)] 26)) (.cells #[(.slice none 0 0), (.slice none 0 0), (.slice none 0 0)] 31)) W1.out.size (.inr (Nat.le_refl _)))
    have HB_2 := Lib.hid (HB_1.out.within (within_alloc (w.alloc (.cells #[.int .i64 p, (.slice A l.length cap)] 26)) (.cells #[(.slice none 0 0), (.slice none 0 0), (.slice none 0 0)] 31)) (by omega))
    have BX_2 := Lib.hid (BX_1.out.within (within_alloc (w.alloc (.cells #[.int .i64 p, (.slice A l.length cap)] 26)) (.cells #[(.slice none 0 0), (.slice none 0 0), (.slice none 0 0)] 31)) (by omega))
    have Y2 := Lib.hid (show ((w.alloc (.cells #[.int .i64 p, (.slice A l.length cap)] 26)).alloc (.cells #[(.slice none 0 0), (.slice none 0 0), (.slice none 0 0)] 31)).heap.size = (w.alloc (.cells #[.int .i64 p, (.slice A l.length cap)] 26)).heap.size + 1 by simp)
    have hnew := cel3_new (w.alloc (.cells #[.int .i64 p, (.slice A l.length cap)] 26)) (.slice none 0 0) (.slice none 0 0) (.slice none 0 0) 31
    rw [show (w.alloc (.cells #[.int .i64 p, (.slice A l.length cap)] 26)).heap.size = w.heap.size + 1 by simp] at hnew
    have GR_2 := Lib.hid hnew
    clear hnew
    go_enter Try.func16, Try.ntmps16
    obtain ⟨g0_0, g0_1, g0_2⟩ := BX_2.out
    go_wp2_with fail
    clear g0_0 g0_1 g0_2
    generalize ((w.alloc (.cells #[.int .i64 p, (.slice A l.length cap)] 26)).alloc (.cells #[(.slice none 0 0), (.slice none 0 0), (.slice none 0 0)] 31)) = w2 at *
    generalize (w.alloc (.cells #[.int .i64 p, (.slice A l.length cap)] 26)) = w1 at *
    refine (HNW _ HB_2.out.at).mono ?_
    rintro e w3 ⟨AF, cF, a, b, rfl, ho, ha1, hb1, hb⟩
    have Z3 := Lib.hid (within_of hb).size
    have W3 := Lib.hid (within_on W2.out (within_of hb) W2.out.size (.inr (Nat.le_refl _)))
    have HB_3 := Lib.hid (HB_2.out.within (within_of hb) (by omega))
    have BX_3 := Lib.hid (BX_2.out.within (within_of hb) (by omega))
    have GR_3 := Lib.hid (GR_2.out.within (within_of hb) (by omega))
    clear hb ho HNW ha1 hb1
    have Z4 := Lib.hid (within_alloc w3 (.cells #[(.slice AF (newF p k l).length cF), (.slice none 0 0), (.slice none 0 0)] 31)).size
    have W4 := Lib.hid (within_on W3.out (within_alloc w3 (.cells #[(.slice AF (newF p k l).length cF), (.slice none 0 0), (.slice none 0 0)] 31)) W3.out.size (.inr (Nat.le_refl _)))
    have HB_4 := Lib.hid (HB_3.out.within (within_alloc w3 (.cells #[(.slice AF (newF p k l).length cF), (.slice none 0 0), (.slice none 0 0)] 31)) (by omega))
    have BX_4 := Lib.hid (BX_3.out.within (within_alloc w3 (.cells #[(.slice AF (newF p k l).length cF), (.slice none 0 0), (.slice none 0 0)] 31)) (by omega))
    have GR_4 := Lib.hid (GR_3.out.within (within_alloc w3 (.cells #[(.slice AF (newF p k l).length cF), (.slice none 0 0), (.slice none 0 0)] 31)) (by omega))
    have Y4 := Lib.hid (show (w3.alloc (.cells #[(.slice AF (newF p k l).length cF), (.slice none 0 0), (.slice none 0 0)] 31)).heap.size = w3.heap.size + 1 by simp)
    have hnew := cel3_new w3 (.slice AF (newF p k l).length cF) (.slice none 0 0) (.slice none 0 0) 31
    have BP_4 := Lib.hid hnew
    clear hnew
    obtain ⟨g1_0, g1_1, g1_2⟩ := BX_4.out
    go_wp2_with fail
    clear g1_0 g1_1 g1_2
    generalize (w3.alloc (.cells #[(.slice AF (newF p k l).length cF), (.slice none 0 0), (.slice none 0 0)] 31)) = w4 at *
    refine (implRange k c _).mono ?_
    rintro e w9 ⟨rfl, rfl⟩
    rw [HRG.out]
    obtain ⟨g2_0, g2_1, g2_2, g2_3, g2_4, g2_5⟩ := GR_4.out.cells
    have Z5 := Lib.hid ((ret3 GR_4.out (.slice none 0 0) (.slice none 0 0) (.slice none 0 0)).2).size
    have W5 := Lib.hid (within_on W4.out ((ret3 GR_4.out (.slice none 0 0) (.slice none 0 0) (.slice none 0 0)).2) W4.out.size (by have := Z1.out; have := Z2.out; have := Z3.out; have := Z4.out; have := Z5.out; have := Y1.out; have := Y2.out; have := Y4.out; omega))
    have HB_5 := Lib.hid (HB_4.out.within ((ret3 GR_4.out (.slice none 0 0) (.slice none 0 0) (.slice none 0 0)).2) (by have := Z1.out; have := Z2.out; have := Z3.out; have := Z4.out; have := Z5.out; have := Y1.out; have := Y2.out; have := Y4.out; omega))
    have BX_5 := Lib.hid (BX_4.out.within ((ret3 GR_4.out (.slice none 0 0) (.slice none 0 0) (.slice none 0 0)).2) (by have := Z1.out; have := Z2.out; have := Z3.out; have := Z4.out; have := Z5.out; have := Y1.out; have := Y2.out; have := Y4.out; omega))
    have GR_5 := Lib.hid ((ret3 GR_4.out (.slice none 0 0) (.slice none 0 0) (.slice none 0 0)).1)
    have BP_5 := Lib.hid (BP_4.out.within ((ret3 GR_4.out (.slice none 0 0) (.slice none 0 0) (.slice none 0 0)).2) (by have := Z1.out; have := Z2.out; have := Z3.out; have := Z4.out; have := Z5.out; have := Y1.out; have := Y2.out; have := Y4.out; omega))
    obtain ⟨g3_0, g3_1, g3_2, g3_3, g3_4, g3_5⟩ := GR_5.out.cells
    go_wp2_with fail
    generalize (((w4.setCell ⟨w.heap.size + 1, 0, none⟩ (.slice none 0 0)).setCell ⟨w.heap.size + 1, 1, none⟩ (.slice none 0 0)).setCell ⟨w.heap.size + 1, 2, none⟩ (.slice none 0 0)) = w5 at *
    refine bodyPost_ret (v := .tuple #[pebV none 0 0 none 0 0 none 0 0, .bool false]) ?_ rfl ?_
    · simp [results, Try.results16, go_sem, g3_0, g3_1, g3_2]
    · rw [HR.out.1, HR.out.2]
      exact ⟨none, 0, none, 0, none, 0, rfl, own3_nil _ _ W5.out.size _ _ _ _ _ _, W5.out⟩
  obtain ⟨P, rfl⟩ : ∃ P : Nat, p = (P : Int) := ⟨p.toNat, by have := (newB_is hb1).1.1; omega⟩
  have HP := Lib.hid (And.intro hb1 hb2)
  have HRG := Lib.hid hb2
  have HR := Lib.hid (runV_yes hb1 hb2)
  have hnf : newF (P : Int) k l = (runN P k c l 0).1 := by unfold newF; rw [if_pos hb1, Int.toNat_natCast]; rfl
  have HNW : ∀ W : World, BarsAt W W.heap.size A l → Calls Try.prog 36 #[.agg #[.int .i64 (P : Int), .slice A l.length cap], .int .i64 k] W (NewOB W (runN P k c l 0).1 true) := fun W h => by have hc := implNewN (P : Int) k l A cap W h hn; rw [hb1, hnf] at hc; exact hc
  clear hb1 hb2 hnf
  have W0 := Lib.hid (Below.refl w.heap.size w)
  have HB_0 := Lib.hid (bars_in hl)
  clear hl
  have Z1 := Lib.hid (within_alloc w (.cells #[.int .i64 (P : Int), (.slice A l.length cap)] 26)).size
  have W1 := Lib.hid (within_on W0.out (within_alloc w (.cells #[.int .i64 (P : Int), (.slice A l.length cap)] 26)) W0.out.size (.inr (Nat.le_refl _)))
  have HB_1 := Lib.hid (HB_0.out.within (within_alloc w (.cells #[.int .i64 (P : Int), (.slice A l.length cap)] 26)) (by omega))
  have Y1 := Lib.hid (show (w.alloc (.cells #[.int .i64 (P : Int), (.slice A l.length cap)] 26)).heap.size = w.heap.size + 1 by simp)
  have hnew := box_new w (P : Int) (.slice A l.length cap) 26
  have BX_1 := Lib.hid hnew
  clear hnew
  have Z2 := Lib.hid (within_alloc (w.alloc (.cells #[.int .i64 (P : Int), (.slice A l.length cap)] 26)) (.cells #[(.slice none 0 0), (.slice none 0 0), (.slice none 0 0)] 31)).size
  have W2 := Lib.hid (within_on W1.out (within_alloc (w.alloc (.cells #[.int .i64 (P : Int), (.slice A l.length cap)] 26)) (.cells #[(.slice none 0 0), (.slice none 0 0), (.slice none 0 0)] 31)) W1.out.size (.inr (Nat.le_refl _)))
  have HB_2 := Lib.hid (HB_1.out.within (within_alloc (w.alloc (.cells #[.int .i64 (P : Int), (.slice A l.length cap)] 26)) (.cells #[(.slice none 0 0), (.slice none 0 0), (.slice none 0 0)] 31)) (by omega))
  have BX_2 := Lib.hid (BX_1.out.within (within_alloc (w.alloc (.cells #[.int .i64 (P : Int), (.slice A l.length cap)] 26)) (.cells #[(.slice none 0 0), (.slice none 0 0), (.slice none 0 0)] 31)) (by omega))
  have Y2 := Lib.hid (show ((w.alloc (.cells #[.int .i64 (P : Int), (.slice A l.length cap)] 26)).alloc (.cells #[(.slice none 0 0), (.slice none 0 0), (.slice none 0 0)] 31)).heap.size = (w.alloc (.cells #[.int .i64 (P : Int), (.slice A l.length cap)] 26)).heap.size + 1 by simp)
  have hnew := cel3_new (w.alloc (.cells #[.int .i64 (P : Int), (.slice A l.length cap)] 26)) (.slice none 0 0) (.slice none 0 0) (.slice none 0 0) 31
  rw [show (w.alloc (.cells #[.int .i64 (P : Int), (.slice A l.length cap)] 26)).heap.size = w.heap.size + 1 by simp] at hnew
  have GR_2 := Lib.hid hnew
  clear hnew
  go_enter Try.func16, Try.ntmps16
  obtain ⟨g0_0, g0_1, g0_2⟩ := BX_2.out
  go_wp2_with fail
  clear g0_0 g0_1 g0_2
  generalize ((w.alloc (.cells #[.int .i64 (P : Int), (.slice A l.length cap)] 26)).alloc (.cells #[(.slice none 0 0), (.slice none 0 0), (.slice none 0 0)] 31)) = w2 at *
  generalize (w.alloc (.cells #[.int .i64 (P : Int), (.slice A l.length cap)] 26)) = w1 at *
  refine (HNW _ HB_2.out.at).mono ?_
  rintro e w3 ⟨AF, cF, a, b, rfl, ho, ha1, hb1, hb⟩
  have Z3 := Lib.hid (within_of hb).size
  have W3 := Lib.hid (within_on W2.out (within_of hb) W2.out.size (.inr (Nat.le_refl _)))
  have HB_3 := Lib.hid (HB_2.out.within (within_of hb) (by omega))
  have BX_3 := Lib.hid (BX_2.out.within (within_of hb) (by omega))
  have GR_3 := Lib.hid (GR_2.out.within (within_of hb) (by omega))
  have OP_3 := Lib.hid (own_new ho (runN_zero HP.out.1))
  clear hb HNW
  have HAB := Lib.hid (And.intro ha1 hb1)
  clear ho ha1 hb1
  have Z4 := Lib.hid (within_alloc w3 (.cells #[(.slice AF (runN P k c l 0).1.length cF), (.slice none 0 0), (.slice none 0 0)] 31)).size
  have W4 := Lib.hid (within_on W3.out (within_alloc w3 (.cells #[(.slice AF (runN P k c l 0).1.length cF), (.slice none 0 0), (.slice none 0 0)] 31)) W3.out.size (.inr (Nat.le_refl _)))
  have HB_4 := Lib.hid (HB_3.out.within (within_alloc w3 (.cells #[(.slice AF (runN P k c l 0).1.length cF), (.slice none 0 0), (.slice none 0 0)] 31)) (by omega))
  have BX_4 := Lib.hid (BX_3.out.within (within_alloc w3 (.cells #[(.slice AF (runN P k c l 0).1.length cF), (.slice none 0 0), (.slice none 0 0)] 31)) (by omega))
  have GR_4 := Lib.hid (GR_3.out.within (within_alloc w3 (.cells #[(.slice AF (runN P k c l 0).1.length cF), (.slice none 0 0), (.slice none 0 0)] 31)) (by omega))
  have OP_4 := Lib.hid (OP_3.out.within (within_alloc w3 (.cells #[(.slice AF (runN P k c l 0).1.length cF), (.slice none 0 0), (.slice none 0 0)] 31)) (by omega))
  have Y4 := Lib.hid (show (w3.alloc (.cells #[(.slice AF (runN P k c l 0).1.length cF), (.slice none 0 0), (.slice none 0 0)] 31)).heap.size = w3.heap.size + 1 by simp)
  have hnew := cel3_new w3 (.slice AF (runN P k c l 0).1.length cF) (.slice none 0 0) (.slice none 0 0) 31
  have BP_4 := Lib.hid hnew
  clear hnew
  obtain ⟨g1_0, g1_1, g1_2⟩ := BX_4.out
  go_wp2_with fail
  clear g1_0 g1_1 g1_2
  generalize (w3.alloc (.cells #[(.slice AF (runN P k c l 0).1.length cF), (.slice none 0 0), (.slice none 0 0)] 31)) = w4 at *
  refine (implRange k c _).mono ?_
  rintro e w9 ⟨rfl, rfl⟩
  rw [HRG.out]
  have HN := Lib.hid (show RunI w w4 P A cap l w3.heap.size (a, b) (w4.heap.size, w4.heap.size) (w4.heap.size, w4.heap.size) AF none none cF 0 0 (runN P k c l 0) from RunI.mk0 BX_4.out GR_4.out BP_4.out OP_4.out HB_4.out W4.out (by have := HAB.out; have := Z1.out; have := Z2.out; have := Z3.out; have := Z4.out; have := Y1.out; have := Y2.out; have := Y4.out; omega) (by have := HAB.out; have := Z1.out; have := Z2.out; have := Z3.out; have := Z4.out; have := Y1.out; have := Y2.out; have := Y4.out; omega) (by have := HAB.out; have := Z1.out; have := Z2.out; have := Z3.out; have := Z4.out; have := Y1.out; have := Y2.out; have := Y4.out; omega) (by have := HAB.out; have := Z1.out; have := Z2.out; have := Z3.out; have := Z4.out; have := Y1.out; have := Y2.out; have := Y4.out; omega))
  obtain ⟨g2_0, g2_1, g2_2⟩ := BX_4.out
  go_wp2_with fail
  clear g2_0 g2_1 g2_2
  go_loopw [29] (fun i wr => ∃ j : Nat, j ≤ l.length ∧ i = .int .i64 j ∧ ∃ f t z AF AT AZ cF cT cZ, RunI w wr P A cap l w3.heap.size f t z AF AT AZ cF cT cZ (runN P k c l j)) (fun i _ => l.length - (intOf i).toNat)
  case atStart => exact ⟨0, Nat.zero_le _, rfl, _, _, _, _, _, _, _, _, _, HN.out⟩
  case round =>
    obtain ⟨j, hj, rfl, f, t, z, AF, AT, AZ, cF, cT, cZ, hst⟩ := hrel
    have HS := Lib.hid hst
    obtain ⟨_, g1, g2⟩ := hst.gb
    obtain ⟨c0, c1, c2, f0, f1, f2⟩ := hst.st.cells
    clear hst
    by_cases hlt : j < l.length
    · have hji : (j : Int) < (l.length : Int) := by omega
      go_wp2_with (go_at_call 109; refine (HS.out.call HP.out.1 HP.out.2 hlt).mono ?_; rintro e w5 ⟨r, f2, t2, z2, BF, BT, BZ, dF, dT, dZ, rfl, hs5⟩; have HS2 := Lib.hid hs5; clear hs5)
      go_roundw
      case rel => exact ⟨j + 1, by omega, by go_num, _, _, _, _, _, _, _, _, _, HS2.out⟩
      case measure => simp [intOf]; omega
    · obtain rfl : j = l.length := by omega
      obtain ⟨r0, r1, r2, q0, q1, q2⟩ := HS.out.rb.cells
      have h3 := ret3 HS.out.rb (.slice AF (runN P k c l l.length).1.length cF) (.slice AT (runN P k c l l.length).2.1.length cT) (.slice AZ (runN P k c l l.length).2.2.length cZ)
      obtain ⟨s0, s1, s2, _⟩ := h3.1.cells
      have HW := Lib.hid h3.2
      clear h3
      go_wp2_with fail
      refine bodyPost_ret (v := .tuple #[pebV AF (runN P k c l l.length).1.length cF AT (runN P k c l l.length).2.1.length cT AZ (runN P k c l l.length).2.2.length cZ, .bool true]) ?_ rfl ?_
      · simp [results, Try.results16, go_sem, s0, s1, s2]
      · have hlo := HS.out.lo
        have hz := HW.out.size
        have hhi := HS.out.own.hi
        have hbs := HS.out.bel.size
        rw [HR.out.1, HR.out.2]
        have hown := HS.out.own.own3 (lo := w.heap.size + 2) ⟨hlo.2.1, hhi.1⟩ ⟨hlo.2.2.1, hhi.2.1⟩ ⟨hlo.2.2.2, hhi.2.2⟩ (Nat.le_refl _)
        exact ⟨AF, cF, AT, cT, AZ, cZ, rfl, (hown.within HW.out (.inr (Nat.le_refl _))).widen (by omega) hz (Nat.le_refl _), within_on HS.out.bel HW.out hbs (.inl (by omega))⟩
end Go.Proofs.Ytdkpmaahinbhlaa
/- What impl.RankOf answers. No condition. -/
namespace Go.Proofs.Ytdkpmaahinbhlaa
open Go.RowKit

set_option maxHeartbeats 2000000 in
set_option maxRecDepth 100000 in
theorem implRank (p k c : Int) (l : List (Int × Int)) (A : Option Addr) (cap : Nat) (w : World) (hl : BarsAt w w.heap.size A l) (hn : l.length ≤ 1048576) :
    Calls Try.prog 45 #[.agg #[.int .i64 p, .slice A l.length cap], .int .i64 k, .int .i64 c] w fun e w' => e = .returned (.int .i64 (rankV p k c l)) ∧ Below w.heap.size w w' := by
  obtain ⟨rv, hrv⟩ : ∃ rv, rankV p k c l = rv := ⟨_, rfl⟩
  rw [hrv]
  unfold rankV at hrv
  cases hb : runB p k c l with
  | false =>
    have HRV := Lib.hid (show rv = -1 from by rw [← hrv, hb]; rfl)
    clear hrv
    have HNW : ∀ W : World, BarsAt W W.heap.size A l → Calls Try.prog 16 #[.agg #[.int .i64 p, .slice A l.length cap], .int .i64 k, .int .i64 c] W (PebOB W (runV p k c l).1 (runV p k c l).2.1 (runV p k c l).2.2 false) := fun W h => by have hc := implRunP p k c l A cap W h hn; rw [hb] at hc; exact hc
    clear hb
    have W0 := Lib.hid (Below.refl w.heap.size w)
    have HB_0 := Lib.hid (bars_in hl)
    clear hl
    have Z1 := Lib.hid (within_alloc w (.cells #[.int .i64 p, (.slice A l.length cap)] 26)).size
    have W1 := Lib.hid (within_on W0.out (within_alloc w (.cells #[.int .i64 p, (.slice A l.length cap)] 26)) W0.out.size (.inr (Nat.le_refl _)))
    have HB_1 := Lib.hid (HB_0.out.within (within_alloc w (.cells #[.int .i64 p, (.slice A l.length cap)] 26)) (by omega))
    have Y1 := Lib.hid (show (w.alloc (.cells #[.int .i64 p, (.slice A l.length cap)] 26)).heap.size = w.heap.size + 1 by simp)
    have hnew := box_new w p (.slice A l.length cap) 26
    have BX_1 := Lib.hid hnew
    clear hnew
    go_enter Try.func45, Try.ntmps45
    obtain ⟨g0_0, g0_1, g0_2⟩ := BX_1.out
    go_wp2_with fail
    clear g0_0 g0_1 g0_2
    generalize (w.alloc (.cells #[.int .i64 p, (.slice A l.length cap)] 26)) = w1 at *
    refine (HNW _ HB_1.out.at).mono ?_
    rintro e w2 ⟨AF, cF, AT, cT, AZ, cZ, rfl, ho, hb⟩
    have Z2 := Lib.hid (within_of hb).size
    have W2 := Lib.hid (within_on W1.out (within_of hb) W1.out.size (.inr (Nat.le_refl _)))
    have HB_2 := Lib.hid (HB_1.out.within (within_of hb) (by omega))
    have BX_2 := Lib.hid (BX_1.out.within (within_of hb) (by omega))
    have OP_2 := Lib.hid (ho)
    clear ho hb
    have Z3 := Lib.hid (within_alloc w2 (.cells #[(.slice AF (runV p k c l).1.length cF), (.slice AT (runV p k c l).2.1.length cT), (.slice AZ (runV p k c l).2.2.length cZ)] 31)).size
    have W3 := Lib.hid (within_on W2.out (within_alloc w2 (.cells #[(.slice AF (runV p k c l).1.length cF), (.slice AT (runV p k c l).2.1.length cT), (.slice AZ (runV p k c l).2.2.length cZ)] 31)) W2.out.size (.inr (Nat.le_refl _)))
    have HB_3 := Lib.hid (HB_2.out.within (within_alloc w2 (.cells #[(.slice AF (runV p k c l).1.length cF), (.slice AT (runV p k c l).2.1.length cT), (.slice AZ (runV p k c l).2.2.length cZ)] 31)) (by omega))
    have BX_3 := Lib.hid (BX_2.out.within (within_alloc w2 (.cells #[(.slice AF (runV p k c l).1.length cF), (.slice AT (runV p k c l).2.1.length cT), (.slice AZ (runV p k c l).2.2.length cZ)] 31)) (by omega))
    have OP_3 := Lib.hid (OP_2.out.within (within_alloc w2 (.cells #[(.slice AF (runV p k c l).1.length cF), (.slice AT (runV p k c l).2.1.length cT), (.slice AZ (runV p k c l).2.2.length cZ)] 31)) (by omega))
    have Y3 := Lib.hid (show (w2.alloc (.cells #[(.slice AF (runV p k c l).1.length cF), (.slice AT (runV p k c l).2.1.length cT), (.slice AZ (runV p k c l).2.2.length cZ)] 31)).heap.size = w2.heap.size + 1 by simp)
    have hnew := cel3_new w2 (.slice AF (runV p k c l).1.length cF) (.slice AT (runV p k c l).2.1.length cT) (.slice AZ (runV p k c l).2.2.length cZ) 31
    have BP_3 := Lib.hid hnew
    clear hnew
    obtain ⟨g1_0, g1_1, g1_2, g1_3, g1_4, g1_5⟩ := BP_3.out.cells
    go_wp2_with fail
    clear g1_0 g1_1 g1_2 g1_3 g1_4 g1_5
    generalize (w2.alloc (.cells #[(.slice AF (runV p k c l).1.length cF), (.slice AT (runV p k c l).2.1.length cT), (.slice AZ (runV p k c l).2.2.length cZ)] 31)) = w3 at *
    go_ret
    exact ⟨by rw [HRV.out]; rfl, W3.out⟩
  | true =>
    have HRV := Lib.hid (show rv = (((runV p k c l).2.2.length : Nat) : Int) from by rw [← hrv, hb]; rfl)
    clear hrv
    have HNW : ∀ W : World, BarsAt W W.heap.size A l → Calls Try.prog 16 #[.agg #[.int .i64 p, .slice A l.length cap], .int .i64 k, .int .i64 c] W (PebOB W (runV p k c l).1 (runV p k c l).2.1 (runV p k c l).2.2 true) := fun W h => by have hc := implRunP p k c l A cap W h hn; rw [hb] at hc; exact hc
    clear hb
    have W0 := Lib.hid (Below.refl w.heap.size w)
    have HB_0 := Lib.hid (bars_in hl)
    clear hl
    have Z1 := Lib.hid (within_alloc w (.cells #[.int .i64 p, (.slice A l.length cap)] 26)).size
    have W1 := Lib.hid (within_on W0.out (within_alloc w (.cells #[.int .i64 p, (.slice A l.length cap)] 26)) W0.out.size (.inr (Nat.le_refl _)))
    have HB_1 := Lib.hid (HB_0.out.within (within_alloc w (.cells #[.int .i64 p, (.slice A l.length cap)] 26)) (by omega))
    have Y1 := Lib.hid (show (w.alloc (.cells #[.int .i64 p, (.slice A l.length cap)] 26)).heap.size = w.heap.size + 1 by simp)
    have hnew := box_new w p (.slice A l.length cap) 26
    have BX_1 := Lib.hid hnew
    clear hnew
    go_enter Try.func45, Try.ntmps45
    obtain ⟨g0_0, g0_1, g0_2⟩ := BX_1.out
    go_wp2_with fail
    clear g0_0 g0_1 g0_2
    generalize (w.alloc (.cells #[.int .i64 p, (.slice A l.length cap)] 26)) = w1 at *
    refine (HNW _ HB_1.out.at).mono ?_
    rintro e w2 ⟨AF, cF, AT, cT, AZ, cZ, rfl, ho, hb⟩
    have Z2 := Lib.hid (within_of hb).size
    have W2 := Lib.hid (within_on W1.out (within_of hb) W1.out.size (.inr (Nat.le_refl _)))
    have HB_2 := Lib.hid (HB_1.out.within (within_of hb) (by omega))
    have BX_2 := Lib.hid (BX_1.out.within (within_of hb) (by omega))
    have OP_2 := Lib.hid (ho)
    clear ho hb
    have Z3 := Lib.hid (within_alloc w2 (.cells #[(.slice AF (runV p k c l).1.length cF), (.slice AT (runV p k c l).2.1.length cT), (.slice AZ (runV p k c l).2.2.length cZ)] 31)).size
    have W3 := Lib.hid (within_on W2.out (within_alloc w2 (.cells #[(.slice AF (runV p k c l).1.length cF), (.slice AT (runV p k c l).2.1.length cT), (.slice AZ (runV p k c l).2.2.length cZ)] 31)) W2.out.size (.inr (Nat.le_refl _)))
    have HB_3 := Lib.hid (HB_2.out.within (within_alloc w2 (.cells #[(.slice AF (runV p k c l).1.length cF), (.slice AT (runV p k c l).2.1.length cT), (.slice AZ (runV p k c l).2.2.length cZ)] 31)) (by omega))
    have BX_3 := Lib.hid (BX_2.out.within (within_alloc w2 (.cells #[(.slice AF (runV p k c l).1.length cF), (.slice AT (runV p k c l).2.1.length cT), (.slice AZ (runV p k c l).2.2.length cZ)] 31)) (by omega))
    have OP_3 := Lib.hid (OP_2.out.within (within_alloc w2 (.cells #[(.slice AF (runV p k c l).1.length cF), (.slice AT (runV p k c l).2.1.length cT), (.slice AZ (runV p k c l).2.2.length cZ)] 31)) (by omega))
    have Y3 := Lib.hid (show (w2.alloc (.cells #[(.slice AF (runV p k c l).1.length cF), (.slice AT (runV p k c l).2.1.length cT), (.slice AZ (runV p k c l).2.2.length cZ)] 31)).heap.size = w2.heap.size + 1 by simp)
    have hnew := cel3_new w2 (.slice AF (runV p k c l).1.length cF) (.slice AT (runV p k c l).2.1.length cT) (.slice AZ (runV p k c l).2.2.length cZ) 31
    have BP_3 := Lib.hid hnew
    clear hnew
    obtain ⟨g1_0, g1_1, g1_2, g1_3, g1_4, g1_5⟩ := BP_3.out.cells
    go_wp2_with fail
    clear g1_0 g1_1 g1_2 g1_3 g1_4 g1_5
    generalize (w2.alloc (.cells #[(.slice AF (runV p k c l).1.length cF), (.slice AT (runV p k c l).2.1.length cT), (.slice AZ (runV p k c l).2.2.length cZ)] 31)) = w3 at *
    go_ret
    exact ⟨by rw [HRV.out]; rfl, W3.out⟩
end Go.Proofs.Ytdkpmaahinbhlaa
/- What spec.l4Find answers: a search by breadth for a free pebble, and the path turned round. No condition. -/
namespace Go.Proofs.Ytdkpmaahinbhlaa
open Go.RowKit

theorem infoB1 : (Try.prog.info? 4).map (fun i => (i.zero, i.size, i.bytes)) = some (some (.bool false), 1, 1) := by kernel_rfl
theorem Own3R.widen {W : World} {lo hi lo' hi' : Nat} {AF AT AZ : Option Addr} {cF cT cZ : Nat} {F T Z : List Int} (h : Own3R W lo hi AF cF AT cT AZ cZ F T Z) (h1 : lo' ≤ lo) (h2 : hi ≤ hi') (h3 : hi' ≤ W.heap.size) : Own3R W lo' hi' AF cF AT cT AZ cZ F T Z := by
  obtain ⟨f, t, z, o1, o2, o3, d1, d2, d3, b1, b2, b3, _⟩ := h
  exact ⟨f, t, z, o1, o2, o3, d1, d2, d3, by omega, by omega, by omega, h3⟩

set_option maxHeartbeats 8000000 in
set_option maxRecDepth 100000 in
theorem find_c (k0 : Int) (l : List (Int × Int)) (A : Option Addr) (cap : Nat) (AF AT AZ : Option Addr) (cF cT cZ lo hi : Nat) (F T Z : List Int) (a b : Int) (w : World) (hS : PebS F.length k0 (plE l Z) F T) (hP : 1 ≤ F.length ∧ F.length ≤ 8) (hk0 : k0 ≤ 3) (hn : l.length ≤ 24) (hz24 : Z.length ≤ 24)
    (hZ : ∀ i, i < Z.length → 0 ≤ Z.getD i 0 ∧ Z.getD i 0 < (l.length : Int)) (ha : 0 ≤ a ∧ a < (F.length : Int)) (hl : BarsAt w w.heap.size A l) (h : Peb3 w lo hi AF AT AZ F T Z) :
    Calls Try.prog 193 #[.agg #[.int .i64 (F.length : Int), .slice A l.length cap], pebV AF F.length cF AT T.length cT AZ Z.length cZ, .int .i64 a, .int .i64 b] w (FindP w (pebV AF F.length cF AT T.length cT AZ Z.length cZ) (plE l Z) F T Z a b) := by
  obtain ⟨an, rfl⟩ : ∃ an : Nat, a = (an : Int) := ⟨a.toNat, by omega⟩
  have hhi : hi ≤ w.heap.size := h.f.1
  have HI0 := Lib.hid (GtI.start w (F.length : Int) A cap l AF AT AZ cF cT cZ lo hi F T Z hl h)
  have HTZ := Lib.hid (show T.length = Z.length by rw [hS.ends.len, plE_len])
  have HE := Lib.hid (show ∀ i, i < Z.length → (plE l Z).getD i (0, 0) = l.getD (Z.getD i 0).toNat (0, 0) from fun i hi => plE_get l Z i hi)
  have HG := Lib.hid (fun k => bfs_good (T := T) hS.ends ha.1 ha.2 k)
  have HS := Lib.hid hS
  have HZ := Lib.hid hZ
  have HEL := Lib.hid (plE_len l Z)
  have HSH := Lib.hid (fun (u : Int) (q : List (Int × Nat)) (TF FR : List Int) (Af : Option Addr) (cf lf hf : Nat) (W : World) (h1 : BarsAt W W.heap.size A l) (h2 : Peb3 W lo hi AF AT AZ F T Z) (h3 : TurnI F.length (plE l Z) T (an : Int) q TF u T) (h4 : IntsIn W lf hf Af FR) (h5 : FR.length = F.length) (h6 : ∀ x ∈ q, x.1 ≠ (an : Int) → FR.getD x.1.toNat 0 = (x.2 : Int)) (h7 : 0 ≤ u ∧ u < (F.length : Int)) (h8 : u ≠ (an : Int)) => shift_c F.length l A cap AF AT AZ cF cT cZ lo hi F T Z (an : Int) u q TF FR Af cf lf hf W h1 h2 hn rfl hP (by rw [hS.ends.len, plE_len]) hz24 hZ h3 h4 h5 h6 ha h7 h8 (by have := hS.small h7; omega) (by have := hS.small ha; omega))
  generalize plE l Z = E at *
  clear hS hZ hl h
  have hs3 : (((w.alloc (.cells #[.int .i64 (F.length : Int), .slice A l.length cap] 26)).alloc (.cells #[.slice AF F.length cF, .slice AT T.length cT, .slice AZ Z.length cZ] 31)).alloc (.cells #[.slice none 0 0, .slice none 0 0, .slice none 0 0] 31)).heap.size = w.heap.size + 3 := by simp
  have HS3 := Lib.hid hs3
  clear hs3
  go_enter Try.func193, Try.ntmps193
  obtain ⟨_, g0, g1⟩ := HI0.out.gb
  go_wp2_with (at_make; generalize (((w.alloc (.cells #[.int .i64 (F.length : Int), .slice A l.length cap] 26)).alloc (.cells #[.slice AF F.length cF, .slice AT T.length cT, .slice AZ Z.length cZ] 31)).alloc (.cells #[.slice none 0 0, .slice none 0 0, .slice none 0 0] 31)) = w3 at *; refine wpList_mkn _ rfl _ _ 29 rfl w3.heap.size 3 (.int .i64 0) 8 Try.underlying29 infoInt rfl _ _ _ _ F.length rfl rfl rfl rfl (by omega) (by unfold maxLen; omega) (Nat.le_refl _) ?_; intro w4 hown4 hb4; have HO4 := Lib.hid hown4; have HI4 := Lib.hid (HI0.out.below hb4); have hsz4 := (hown4.lt _ rfl).2; clear hown4 hb4)
  clear g0 g1 HI0
  have hgf : w.heap.size + 3 ≤ w3.heap.size := Nat.le_of_eq HS3.out.symm
  clear HS3
  generalize w3.heap.size = gf at *
  go_loopw [11] (fun i wr => ∃ (j : Nat) (FR : List Int), j ≤ F.length ∧ i = .int .i64 j ∧ FR.length = F.length ∧ gf < wr.heap.size ∧ wr.ownsRow gf 3 1 (.slice (some ⟨gf, 0, none⟩) F.length F.length) F.length (intCells FR) ∧ GtI w wr (F.length : Int) A cap l AF AT AZ cF cT cZ lo hi F T Z) (fun i _ => F.length - (intOf i).toNat)
  case atStart => exact ⟨0, List.replicate F.length 0, Nat.zero_le _, rfl, by simp, hsz4, by simpa [intCells] using HO4.out, HI4.out⟩
  case round =>
    clear HO4 HI4 hsz4
    obtain ⟨j, FR, hj, rfl, hfl, hsz, hown, hg⟩ := hrel
    have HO := Lib.hid hown
    have HGI := Lib.hid hg
    have HFL := Lib.hid hfl
    obtain ⟨_, g0, g1⟩ := hg.gb
    clear hown hg hfl
    by_cases hlt : j < F.length
    · have hji : (j : Int) < (F.length : Int) := by omega
      have hf := HO.out.frozenAt j
      have hc := (HO.out.cellAt j (show j < F.length * 1 by omega)).trans (intCells_get FR j (by rw [HFL.out]; exact hlt))
      have hst := (HO.out.stored j (.int .i64 (-1))).1
      rw [intCells_set] at hst
      have hw := within_set wr gf j (.int .i64 (-1))
      have HN := Lib.hid (show (wr.setCell ⟨gf, j, none⟩ (.int .i64 (-1))).ownsRow gf 3 1 (.slice (some ⟨gf, 0, none⟩) F.length F.length) F.length (intCells (FR.set j (-1))) from hst)
      have HGN := Lib.hid (HGI.out.within hw (by omega) (by omega))
      clear hst hw
      go_wp2_with fail
      go_roundw
      case rel => exact ⟨j + 1, FR.set j (-1), by omega, by go_num, by rw [List.length_set]; exact HFL.out, by simpa using hsz, HN.out, HGN.out⟩
      case measure => simp [intOf]; omega
    · obtain rfl : j = F.length := by omega
      have hal := new_below wr (.cells #[.int .i64 (an : Int)] 3)
      have hrow := World.ownsRow_lit (base := w.heap.size + 3) (e := 3) (size := 1) wr #[.int .i64 (an : Int)] 1 (by omega) (by unfold maxLen; omega) (by simp)
      have HQ0 := Lib.hid hrow
      have HO5 := Lib.hid (own_below HO.out hal)
      have HG5 := Lib.hid (HGI.out.below hal)
      have hs5 : (wr.alloc (.cells #[.int .i64 (an : Int)] 3)).heap.size = wr.heap.size + 1 := by simp
      have HS5 := Lib.hid hs5
      obtain ⟨_, k0', k1⟩ := HG5.out.gb
      have haF : (an : Int) < (F.length : Int) := ha.2
      clear hal hrow hs5
      go_wp2_with (at_make; generalize (wr.alloc (.cells #[.int .i64 (an : Int)] 3)) = w5 at *; refine wpList_mkn _ rfl _ _ 190 rfl w5.heap.size 4 (.bool false) 1 Try.underlying190 infoB1 rfl _ _ _ _ F.length rfl rfl rfl rfl (by omega) (by unfold maxLen; omega) (Nat.le_refl _) ?_; intro w6 hown6 hb6; have hf6 := hown6.frozenAt an; have hc6 := hown6.cellAt an (show an < F.length * 1 by omega); have hc6' : w6.cell? ⟨w5.heap.size, an, none⟩ = some (.bool false) := hc6.trans (by rw [List.getElem?_replicate, if_pos (show an < F.length by omega)]); have HO6 := Lib.hid hown6; have HB6 := Lib.hid hb6; clear hown6 hb6 hc6 k0' k1 g0 g1)
      clear hf6 hc6'
      have hst := (HO6.out.stored an (.bool true)).1
      rw [seenC_one] at hst
      have hw6 := within_set w6 w5.heap.size an (.bool true)
      have hs5 : wr.heap.size < w5.heap.size := by have := HS5.out; omega
      have hlt3 := hsz
      have HFI := Lib.hid (show FindI w (w6.setCell ⟨w5.heap.size, an, none⟩ (.bool true)) (F.length : Int) A cap l AF AT AZ cF cT cZ lo hi F T Z gf w5.heap.size FR (an : Int) [((an : Int), 0)] [((an : Int), 0)] (.slice (some ⟨wr.heap.size, 0, none⟩) 1 1) from ⟨(HG5.out.below HB6.out).within hw6 (by omega) (by omega), own_block (own_below HO5.out HB6.out) (hw6.block _ (Nat.lt_of_lt_of_le (HO5.out.lt _ rfl).2 HB6.out.size) (by omega)), hst, own_block (own_below HQ0.out HB6.out) (hw6.block _ (by have := HB6.out.size; omega) (by omega)), fun g hg => (show wr.heap.size = g by simpa [Value.ownBlock] using hg) ▸ (show wr.heap.size ≠ gf ∧ wr.heap.size ≠ w5.heap.size by omega), by omega, by omega, by omega, by omega, HFL.out, fun x hx hxa => absurd (congrArg Prod.fst (show x = ((an : Int), 0) by simpa using hx)) hxa⟩)
      clear hst hw6
      generalize w5.heap.size = gs at *
      generalize (w6.setCell ⟨gs, an, none⟩ (.bool true)) = w7 at *
      clear HQ0 HO5 HG5 HS5 HO HGI
      go_loopw [12, 14] (fun qv i wr' => ∃ (k : Nat) (FR : List Int), k ≤ (bfs E T (an : Int) k).length ∧ i = .int .i64 k ∧ (∀ y ∈ bfs E T (an : Int) k, givesB F (an : Int) b y = false) ∧ FindI w wr' (F.length : Int) A cap l AF AT AZ cF cT cZ lo hi F T Z gf gs FR (an : Int) (bfs E T (an : Int) k) (bfs E T (an : Int) k) qv) (fun _ i _ => 9 - (intOf i).toNat)
      case atStart => exact ⟨0, FR, Nat.zero_le _, rfl, fun y hy => by obtain rfl : y = ((an : Int), 0) := by simpa [bfs] using hy
                                                                       simp [givesB], HFI.out⟩
      case round =>
        clear HFI HFL
        obtain ⟨k, FR, hk, rfl, hno, hin⟩ := hrel
        have HIN := Lib.hid hin
        have HNO := Lib.hid hno
        have hshort := (HG.out k).short
        obtain ⟨A', c', rfl⟩ := own_shape hin.qu
        clear hno
        by_cases hlt : k < (bfs E T (an : Int) k).length
        · have hki : (k : Int) < ((bfs E T (an : Int) k).length : Int) := by omega
          obtain ⟨gq, rfl⟩ : ∃ gq, A' = some ⟨gq, 0, none⟩ := by
            rcases hin.qu.2 with ⟨_, e0⟩ | ⟨g, _, _, e, _⟩
            · omega
            · cases e
              exact ⟨g, rfl⟩
          have hq := (hin.qu.cellAt k (show k < (bfs E T (an : Int) k).length * 1 by omega)).trans (intCells_get ((bfs E T (an : Int) k).map Prod.fst) k (by simpa using hlt))
          rw [map_fst_getD _ k hlt] at hq
          have hrg := (HG.out k).range ha k hlt
          have HSC := Lib.hid (show bfs E T (an : Int) (k + 1) = scanN E T ((bfs E T (an : Int) k).getD k (0, 0)).1 (bfs E T (an : Int) k) E.length by rw [bfs_succ, if_pos hlt])
          have HMEM := Lib.hid (getD_mem_fst _ k hlt)
          have HFS := Lib.hid (fun (j : Nat) (h1 : j < E.length) (h2 : T.getD j 0 = ((bfs E T (an : Int) k).getD k (0, 0)).1) => find_spec (F := F) (b := b) k j hlt (by omega) h1 rfl h2)
          obtain ⟨x, hx⟩ : ∃ x, (bfs E T (an : Int) k).getD k (0, 0) = x := ⟨_, rfl⟩
          rw [hx] at hq hrg HSC HMEM HFS
          obtain ⟨v, i0⟩ := x
          simp only at hq hrg
          obtain ⟨n, rfl⟩ : ∃ n : Nat, v = (n : Int) := ⟨v.toNat, by omega⟩
          have HGS := Lib.hid (fun j (hj : j ≤ E.length) => (HG.out k).scan HS.out.ends HMEM.out j hj)
          obtain ⟨p0, p1, p2, _, _, _⟩ := hin.g.pb.cells
          clear hin hx
          go_wp2_with fail
          clear hq p0 p1 p2
          go_loopw [12, 16] (fun qv jv wr' => ∃ (j : Nat) (FR : List Int), j ≤ Z.length ∧ jv = .int .i64 j ∧ (∀ y ∈ (scanN E T (n : Int) (bfs E T (an : Int) k) j), givesB F (an : Int) b y = false) ∧ FindI w wr' (F.length : Int) A cap l AF AT AZ cF cT cZ lo hi F T Z gf gs FR (an : Int) (scanN E T (n : Int) (bfs E T (an : Int) k) j) (scanN E T (n : Int) (bfs E T (an : Int) k) j) qv) (fun _ jv _ => Z.length - (intOf jv).toNat)
          case atStart => exact ⟨0, FR, Nat.zero_le _, rfl, HNO.out, HIN.out⟩
          case round =>
            clear HNO HIN
            obtain ⟨j, FR, hj, rfl, hno, hin2⟩ := hrel
            have HNO := Lib.hid hno
            have HIN2 := Lib.hid hin2
            obtain ⟨A2, c2', rfl⟩ := own_shape hin2.qu
            obtain ⟨p0, p1, p2, _, _, _⟩ := hin2.g.pb.cells
            clear hno
            by_cases hlt2 : j < Z.length
            · have hji : (j : Int) < (Z.length : Int) := by omega
              have hjt : (j : Int) < (T.length : Int) := by have := HTZ.out; omega
              obtain ⟨tb, tq9, rfl, htc⟩ := row_at hin2.g.src.t (by omega)
              have ht := htc j (by omega)
              obtain ⟨zb, zo, rfl, hzc⟩ := row_at hin2.g.src.z (by omega)
              have hz := hzc j hlt2
              have HSN := Lib.hid (show (scanN E T (n : Int) (bfs E T (an : Int) k) (j + 1)) = scan1 E T (n : Int) (scanN E T (n : Int) (bfs E T (an : Int) k) j) j from rfl)
              have HFSj := Lib.hid (fun h1 h2 => HFS.out j h1 h2)
              obtain ⟨t, htd⟩ : ∃ t, T.getD j 0 = t := ⟨_, rfl⟩
              rw [htd] at ht
              clear hin2 hzc htc
              by_cases c5 : t = (n : Int)
              · subst c5
                have d5 : ((n : Int) != (n : Int)) = false := by simp
                obtain ⟨hz0, hz1⟩ := HZ.out j hlt2
                have hEj := HE.out j hlt2
                have hbr := HS.out.ends.bar j (by rw [HEL.out]; exact hlt2)
                have hoth := HS.out.ends.oth_in (by rw [HEL.out]; exact hlt2) htd
                obtain ⟨gs', gm⟩ := HGS.out j (by rw [HEL.out]; omega)
                have hsh := gs'.short
                have HFSj2 := Lib.hid (HFSj.out (by rw [HEL.out]; exact hlt2) htd HNO.out)
                rw [hEj] at hoth hbr
                rw [hEj] at HFSj2
                obtain ⟨m, hm⟩ : ∃ m : Nat, Z.getD j 0 = (m : Int) := ⟨(Z.getD j 0).toNat, by omega⟩
                rw [hm] at hz hz0 hz1 hbr hoth hEj HFSj2
                rw [Int.toNat_natCast] at hbr hoth hEj HFSj2
                obtain ⟨b', off, rfl, _, hbc⟩ := HIN2.out.g.bars.at (by omega)
                have hx1 := (hbc m (by omega)).1
                have hx2 := (hbc m (by omega)).2
                obtain ⟨x, hxd⟩ : ∃ x, l.getD m (0, 0) = x := ⟨_, rfl⟩
                rw [hxd] at hx1 hx2 hbr hoth hEj HFSj2
                obtain ⟨x1, x2⟩ := x
                simp only at hx1 hx2 hbr
                obtain ⟨o, ho⟩ : ∃ o : Nat, oth (x1, x2) (n : Int) = (o : Int) := ⟨(oth (x1, x2) (n : Int)).toNat, by omega⟩
                rw [ho] at hoth HFSj2
                have HO := Lib.hid ho
                have HS1 := Lib.hid (show scan1 E T (n : Int) (scanN E T (n : Int) (bfs E T (an : Int) k) j) j = if (o : Int) ∉ (scanN E T (n : Int) (bfs E T (an : Int) k) j).map Prod.fst then (scanN E T (n : Int) (bfs E T (an : Int) k) j) ++ [((o : Int), j)] else (scanN E T (n : Int) (bfs E T (an : Int) k) j) by
                  unfold scan1
                  rw [htd, hEj, ho]
                  by_cases h : (o : Int) ∈ (scanN E T (n : Int) (bfs E T (an : Int) k) j).map Prod.fst
                  · rw [if_neg (fun q => q.2 h), if_neg (fun q => q h)]
                  · rw [if_pos ⟨rfl, h⟩, if_pos h])
                have HGJ := Lib.hid gs'
                have HGJ1 := Lib.hid (HGS.out (j + 1) (by rw [HEL.out]; omega)).1
                have hoF : o < F.length := by omega
                have hoFi : (o : Int) < (F.length : Int) := hoth.2.1
                have hmi : (m : Int) < (l.length : Int) := hz1
                have hoP := Lib.hid (show 0 ≤ (o : Int) ∧ (o : Int) < (F.length : Int) from ⟨hoth.1, hoth.2.1⟩)
                obtain ⟨_, gx0, gx1⟩ := HIN2.out.g.gb
                have HKK := Lib.hid (show (fun (W' : World) => W'.cell? ⟨w.heap.size, 1, none⟩ = some (.slice (some ⟨b', off, none⟩) l.length cap) ∧ W'.cell? ⟨w.heap.size + 1, 2, none⟩ = some (.slice (some ⟨zb, zo, none⟩) Z.length cZ) ∧ W'.cell? ⟨zb, zo + j, none⟩ = some (.int .i64 (m : Int)) ∧ W'.cell? ⟨b', off + m * 2, none⟩ = some (.int .i64 x1) ∧ W'.cell? ⟨b', off + m * 2 + 1, none⟩ = some (.int .i64 x2)) _ from ⟨gx1, p2, hz, hx1, hx2⟩)
                have HID := Lib.hid (HIN2.out.below (Below.refl _ _).drew)
                have y0 := ht
                have y1 := hz
                clear hbc hxd ho hEj hm gs' gm htd hz0 hoth hx1 hx2 HFSj
                go_wp2_with fail
                clear y0 y1 gx0 gx1 p0 p1 p2
                go_region_held3 (fun (W' : World) => W'.cell? ⟨w.heap.size, 1, none⟩ = some (.slice (some ⟨b', off, none⟩) l.length cap) ∧ W'.cell? ⟨w.heap.size + 1, 2, none⟩ = some (.slice (some ⟨zb, zo, none⟩) Z.length cZ) ∧ W'.cell? ⟨zb, zo + j, none⟩ = some (.int .i64 (m : Int)) ∧ W'.cell? ⟨b', off + m * 2, none⟩ = some (.int .i64 x1) ∧ W'.cell? ⟨b', off + m * 2 + 1, none⟩ = some (.int .i64 x2))
                  (first | exact HKK.out | exact HK5.out | fail)
                  (first | (go_at_call 226; refine (other_c (x1, x2) (n : Int) _ (by omega) (by omega) (by omega)).mono ?_; rintro e w8 ⟨rfl, hb⟩; rw [HO.out]; have HI8 := Lib.hid (HID.out.below hb); have HK5 := Lib.hid (show (fun (W' : World) => W'.cell? ⟨w.heap.size, 1, none⟩ = some (.slice (some ⟨b', off, none⟩) l.length cap) ∧ W'.cell? ⟨w.heap.size + 1, 2, none⟩ = some (.slice (some ⟨zb, zo, none⟩) Z.length cZ) ∧ W'.cell? ⟨zb, zo + j, none⟩ = some (.int .i64 (m : Int)) ∧ W'.cell? ⟨b', off + m * 2, none⟩ = some (.int .i64 x1) ∧ W'.cell? ⟨b', off + m * 2 + 1, none⟩ = some (.int .i64 x2)) w8 from ⟨HI8.out.g.gb.2.2, HI8.out.g.pb.cells.2.2.1, (hb.cell (p := ⟨zb, zo + j, none⟩) (World.block_lt_of_cell? _ _ HKK.out.2.2.1)).trans HKK.out.2.2.1, (hb.cell (p := ⟨b', off + m * 2, none⟩) (World.block_lt_of_cell? _ _ HKK.out.2.2.2.1)).trans HKK.out.2.2.2.1, (hb.cell (p := ⟨b', off + m * 2 + 1, none⟩) (World.block_lt_of_cell? _ _ HKK.out.2.2.2.2)).trans HKK.out.2.2.2.2⟩); clear hb))
                have hsn := (HI8.out.sn.cellAt o (show o < F.length * 1 by omega)).trans (seenC_get F.length _ o hoF)
                by_cases c7 : (o : Int) ∈ (scanN E T (n : Int) (bfs E T (an : Int) k) j).map Prod.fst
                · have HQ := Lib.hid (show (scanN E T (n : Int) (bfs E T (an : Int) k) j) = (scanN E T (n : Int) (bfs E T (an : Int) k) (j + 1)) by rw [HSN.out, HS1.out, if_neg]; simpa using c7)
                  rw [decide_eq_true c7] at hsn
                  clear c7
                  go_wp2_with fail
                  go_roundw
                  case rel => exact ⟨j + 1, FR, by omega, by go_num, by rw [← HQ.out]; exact HNO.out, by rw [← HQ.out]; exact HI8.out⟩
                  case measure => simp [intOf]; omega
                · have HQ := Lib.hid (show (scanN E T (n : Int) (bfs E T (an : Int) k) j) ++ [((o : Int), j)] = (scanN E T (n : Int) (bfs E T (an : Int) k) (j + 1)) by rw [HSN.out, HS1.out, if_pos c7])
                  rw [decide_eq_false c7] at hsn
                  have HNEW := Lib.hid (HI8.out.see o j hoF c7 (fun x hx hxa => by obtain ⟨_, _, _, _, _, _, _, _, _, h6, _⟩ := HGJ.out.path.at (List.mem_map_of_mem hx) hxa; exact h6))
                  have hoa : (o : Int) ≠ (an : Int) := fun e => c7 (by obtain ⟨r, e1⟩ := HGJ.out.start; rw [e1, e]; simp)
                  have hfz1 := HI8.out.sn.frozenAt o
                  have hfz2 := (own_block HI8.out.fr ((within_set w8 gs o (.bool true)).block gf (HI8.out.fr.lt gf rfl).2 (by have := HI8.out.ne; omega))).frozenAt o
                  have hbs : w.heap.size + 3 ≤ ((w8.setCell ⟨gs, o, none⟩ (.bool true)).setCell ⟨gf, o, none⟩ (.int .i64 (j : Int))).heap.size := by have h1 := HNEW.out.lf; have h2 := (HNEW.out.fr.lt gf rfl).2; omega
                  have hfv := HS.out.small (v := (o : Int)) hoP.out
                  rw [Int.toNat_natCast] at hfv
                  obtain ⟨fb, fo, rfl, _, hfb, hfc⟩ := HI8.out.g.src.f.2 (by omega)
                  have hfo := hfc o hoF
                  have l1 := HI8.out.lf
                  have l2 := HI8.out.ls
                  have n1 : gs ≠ w.heap.size + 1 := by omega
                  have n2 : gf ≠ w.heap.size + 1 := by omega
                  have n3 : gs ≠ fb := by omega
                  have n4 : gf ≠ fb := by omega
                  have n7 : gs ≠ gf := fun e => HI8.out.ne e.symm
                  have hcf := (HI8.out.fr.cellAt o (show o < F.length * 1 by omega)).trans (intCells_get FR o (by rw [HI8.out.frl]; exact hoF))
                  have hff := HI8.out.fr.frozenAt o
                  have n5 : gs ≠ w.heap.size := by omega
                  have n6 : gf ≠ w.heap.size := by omega
                  obtain ⟨q0, q1, q2, _, _, _⟩ := HI8.out.g.pb.cells
                  have HC7 := Lib.hid c7
                  have hgb : givesB F (an : Int) b ((o : Int), j) = (decide ((o : Int) ≠ (an : Int)) && decide ((o : Int) ≠ b) && decide (0 < F.getD o 0)) := by
                    show (_ && _ && decide (0 < F.getD ((o : Int)).toNat 0)) = _
                    rw [Int.toNat_natCast]
                  obtain ⟨d, hd⟩ : ∃ d, F.getD o 0 = d := ⟨_, rfl⟩
                  rw [hd] at hfo hfv hgb
                  clear hd hfc c7
                  have hNX : givesB F (an : Int) b ((o : Int), j) = false → ∀ y ∈ (scanN E T (n : Int) (bfs E T (an : Int) k) (j + 1)), givesB F (an : Int) b y = false := fun hg y hy => by
                    rw [← HQ.out] at hy
                    rcases List.mem_append.1 hy with hy | hy
                    · exact HNO.out y hy
                    · obtain rfl : y = ((o : Int), j) := by simpa using hy
                      exact hg
                  have HNX := Lib.hid hNX
                  clear hNX
                  by_cases hg : givesB F (an : Int) b ((o : Int), j) = true
                  · rw [hg] at hgb
                    have hgb' := hgb.symm
                    simp only [Bool.and_eq_true, decide_eq_true_eq] at hgb'
                    obtain ⟨⟨_, g2⟩, g3⟩ := hgb'
                    have e5 : ((o : Int) != b) = true := by simpa using g2
                    have g3d : decide (0 < d) = true := by simpa using g3
                    obtain ⟨hf1, r, hf2⟩ := HFSj2.out HC7.out hg
                    have HFM := Lib.hid (show findM E (an : Int) b (F, T) = some (movF F (an : Int) (o : Int), turnQ E (an : Int) (bfsQ E T (an : Int)).reverse (o : Int) T) by
                      show Option.map _ ((bfsQ E T (an : Int)).find? (givesB F (an : Int) b)) = _
                      rw [hf1]
                      rfl)
                    have hTI : TurnI F.length E T (an : Int) ((scanN E T (n : Int) (bfs E T (an : Int) k) j) ++ [((o : Int), j)]) (turnQ E (an : Int) (bfsQ E T (an : Int)).reverse (o : Int) T) (o : Int) T := by
                      have hnd := (HG.out (max E.length 8)).path.nodup (show bfs E T (an : Int) (max E.length 8) = (scanN E T (n : Int) (bfs E T (an : Int) k) j) ++ ((o : Int), j) :: r from hf2)
                      have hp1 : PathQ F.length E T (an : Int) ((scanN E T (n : Int) (bfs E T (an : Int) k) j) ++ [((o : Int), j)]) := by rw [HQ.out]; exact HGJ1.out.path
                      have := TurnI.start (r := []) HS.out.ends hp1 (show (o : Int) ∈ _ by simp)
                      rw [List.append_nil] at this
                      rw [hf2, turn_prefix (x := ((o : Int), j)) T hnd]
                      exact this
                    have hfr := HNEW.out.fr
                    have hfl := HNEW.out.frl
                    rw [← hfl] at hfr
                    have hsh := HSH.out (o : Int) _ _ (FR.set o (j : Int)) (some ⟨gf, 0, none⟩) F.length gf ((w8.setCell ⟨gs, o, none⟩ (.bool true)).setCell ⟨gf, o, none⟩ (.int .i64 (j : Int))).heap.size ((w8.setCell ⟨gs, o, none⟩ (.bool true)).setCell ⟨gf, o, none⟩ (.int .i64 (j : Int))) HNEW.out.g.bars.at HNEW.out.g.src hTI (own_ints' hfr).reads hfl HNEW.out.fro hoP.out hoa
                    rw [hfl] at hsh
                    have HSHI := Lib.hid hsh
                    obtain ⟨_, r0, r1⟩ := HI8.out.g.gb
                    clear hsh hfr hfl hTI hf1 hf2 hgb hg g2 g3 hoa
                    go_wp2_with (go_at_call 227; refine HSHI.out.mono ?_; rintro e w9 ⟨BF, dF, BT, dT, BZ, dZ, rfl, ho9, hb9⟩; have HO9 := Lib.hid ho9; have HB9 := Lib.hid hb9; have HG9 := Lib.hid (HNEW.out.g.below hb9); obtain ⟨_, _, _, f0, f1, f2⟩ := HG9.out.rb.cells; have r3 := ret3 HG9.out.rb (.slice BF (movF F (an : Int) (o : Int)).length dF) (.slice BT (turnQ E (an : Int) (bfsQ E T (an : Int)).reverse (o : Int) T).length dT) (.slice BZ Z.length dZ); obtain ⟨s0, s1, s2, _⟩ := r3.1.cells; have HW := Lib.hid r3.2; clear ho9 hb9 r3)
                    refine bodyPost_ret (v := .tuple #[pebV BF (movF F (an : Int) (o : Int)).length dF BT (turnQ E (an : Int) (bfsQ E T (an : Int)).reverse (o : Int) T).length dT BZ Z.length dZ, .bool true]) ?_ rfl ?_
                    · simp [results, Try.results193, go_sem, s0, s1, s2]
                    · have hz9 := HB9.out.size
                      have hg9 := HG9.out.bel
                      exact ⟨within_on hg9 HW.out hg9.size (.inl (by omega)), .inr ⟨_, BF, dF, BT, dT, BZ, dZ, rfl, HFM.out, (HO9.out.within HW.out (.inr (by omega))).widen (by omega) HW.out.size (Nat.le_refl _)⟩⟩
                  · have hgf : givesB F (an : Int) b ((o : Int), j) = false := by simpa using hg
                    have HNX2 := Lib.hid (HNX.out hgf)
                    have hcase : ((o : Int) != b) = false ∨ (((o : Int) != b) = true ∧ decide (0 < d) = false) := by
                      by_cases k2 : (o : Int) = b
                      · exact .inl (by simpa using k2)
                      · rw [hgf] at hgb
                        exact .inr ⟨by simpa using k2, by simpa [hoa, k2] using hgb.symm⟩
                    clear hgb hg hgf hoa
                    rcases hcase with c2 | ⟨c2, c3⟩
                    all_goals (
                      go_wp2_with (at_builtin; refine wpList_at _ rfl _ _ 29 rfl (w.heap.size + 3) 3 (.int .i64 0) 1 8 Try.underlying29 infoInt rfl (by decide) _ _ _ rfl HNEW.out.qu #[.int .i64 (o : Int)] 1 rfl (by simp [Value.oneCell']) _ 1 (by simp only [World.size_setCell]; rfl) (by omega) (by unfold maxLen; omega) hbs ?_; intro v' w' ho hg hat _; obtain ⟨A3, c3', rfl⟩ := own_shape ho; have HN := Lib.hid (HNEW.out.push ((o : Int), j) ho hg hat); clear ho hg hat)
                      go_roundw
                      case rel => exact ⟨j + 1, FR.set o (j : Int), by omega, by go_num, HNX2.out, by rw [← HQ.out]; exact HN.out⟩
                      case measure => simp [intOf]; omega)
              · have d5 : (t != (n : Int)) = true := by simpa using c5
                have HQ := Lib.hid (show (scanN E T (n : Int) (bfs E T (an : Int) k) j) = (scanN E T (n : Int) (bfs E T (an : Int) k) (j + 1)) by rw [HSN.out]; unfold scan1; rw [htd, if_neg]; exact fun h => c5 h.1)
                clear c5 htd
                go_wp2_with fail
                go_roundw
                case rel => exact ⟨j + 1, FR, by omega, by go_num, by rw [← HQ.out]; exact HNO.out, by rw [← HQ.out]; exact HIN2.out⟩
                case measure => simp [intOf]; omega
            · obtain rfl : j = Z.length := by omega
              have hji : ¬ (Z.length : Int) < (Z.length : Int) := by omega
              clear hin2
              go_wp2_with fail
              go_roundw
              case rel => exact ⟨k + 1, FR, by rw [HSC.out]; obtain ⟨r, e⟩ := scanN_pre E T (n : Int) (bfs E T (an : Int) k) E.length; rw [e, List.length_append]; omega, by go_num, by rw [HSC.out, HEL.out]; exact HNO.out, by rw [HSC.out, HEL.out]; exact HIN2.out⟩
              case measure => simp [intOf]; omega
        · have hkl : k = (bfs E T (an : Int) k).length := by omega
          have HF := Lib.hid (find_no (E := E) (T := T) (F := F) (a := (an : Int)) (b := b) k (by omega) (by omega) HNO.out)
          have hki : ¬ (k : Int) < ((bfs E T (an : Int) k).length : Int) := by omega
          obtain ⟨p0, p1, p2, _, _, _⟩ := HIN.out.g.pb.cells
          obtain ⟨_, _, _, f0, f1, f2⟩ := HIN.out.g.rb.cells
          have r3 := ret3 HIN.out.g.rb (.slice AF F.length cF) (.slice AT T.length cT) (.slice AZ Z.length cZ)
          obtain ⟨s0, s1, s2, _⟩ := r3.1.cells
          have HW := Lib.hid r3.2
          clear hkl r3 hin
          go_wp2_with fail
          refine bodyPost_ret (v := .tuple #[pebV AF F.length cF AT T.length cT AZ Z.length cZ, .bool false]) ?_ rfl ?_
          · simp [results, Try.results193, go_sem, s0, s1, s2]
          · have hg9 := HIN.out.g.bel
            exact ⟨within_on hg9 HW.out hg9.size (.inl (by omega)), .inl ⟨rfl, by show Option.map _ ((bfsQ E T (an : Int)).find? (givesB F (an : Int) b)) = none; rw [HF.out]; rfl⟩⟩
end Go.Proofs.Ytdkpmaahinbhlaa
/- What stands while the specification gathers pebbles: the copy's box, and where the copy's rows lie. No program's walk. No condition. -/
namespace Go.Proofs.Ytdkpmaahinbhlaa
open Go.RowKit

/-- Where gathering stands: what is read, the box of the state that changes, its rows. -/
structure GasI (w wr : World) (p : Int) (A : Option Addr) (cap : Nat) (l : List (Int × Int)) (AF AT AZ : Option Addr) (cF cT cZ lo hi : Nat) (F T Z : List Int) (bx : Nat) (BF : Option Addr) (dF : Nat) (BT : Option Addr) (dT : Nat) (BZ : Option Addr) (dZ : Nat) (r : Nat × Nat) (F' T' : List Int) : Prop where
  g : GtI w wr p A cap l AF AT AZ cF cT cZ lo hi F T Z
  x : Cel3 wr bx 31 (.slice BF F.length dF) (.slice BT T.length dT) (.slice BZ Z.length dZ)
  o : Own3R wr r.1 r.2 BF dF BT dT BZ dZ F' T' Z
  lb : w.heap.size + 3 ≤ bx
  lr : w.heap.size + 3 ≤ r.1
  dr : r.2 ≤ bx ∨ bx < r.1
  lh : hi ≤ w.heap.size
theorem GasI.below {w wr : World} {p : Int} {A : Option Addr} {cap : Nat} {l : List (Int × Int)} {AF AT AZ : Option Addr} {cF cT cZ lo hi : Nat} {F T Z : List Int} {bx : Nat} {BF : Option Addr} {dF : Nat} {BT : Option Addr} {dT : Nat} {BZ : Option Addr} {dZ : Nat} {r : Nat × Nat} {F' T' : List Int} {w' : World} (h : GasI w wr p A cap l AF AT AZ cF cT cZ lo hi F T Z bx BF dF BT dT BZ dZ r F' T') (hb : Below wr.heap.size wr w') : GasI w w' p A cap l AF AT AZ cF cT cZ lo hi F T Z bx BF dF BT dT BZ dZ r F' T' :=
  ⟨h.g.below hb, h.x.kept hb, h.o.within (within_of hb) (.inr (Nat.zero_le _)), h.lb, h.lr, h.dr, h.lh⟩
/-- Another block was written. -/
theorem GasI.other {w wr : World} {p : Int} {A : Option Addr} {cap : Nat} {l : List (Int × Int)} {AF AT AZ : Option Addr} {cF cT cZ lo hi : Nat} {F T Z : List Int} {bx : Nat} {BF : Option Addr} {dF : Nat} {BT : Option Addr} {dT : Nat} {BZ : Option Addr} {dZ : Nat} {r : Nat × Nat} {F' T' : List Int} {w' : World} (h : GasI w wr p A cap l AF AT AZ cF cT cZ lo hi F T Z bx BF dF BT dT BZ dZ r F' T') {b : Nat} (hw : Within b (b + 1) wr w') (h1 : w.heap.size + 3 ≤ b) (h2 : b ≠ bx) (h3 : r.2 ≤ b) : GasI w w' p A cap l AF AT AZ cF cT cZ lo hi F T Z bx BF dF BT dT BZ dZ r F' T' :=
  ⟨h.g.within hw h1 (by have := h.lh; omega), h.x.within hw (by omega), h.o.within hw (.inl h3), h.lb, h.lr, h.dr, h.lh⟩
/-- The state was replaced by another. -/
theorem GasI.put {w wr : World} {p : Int} {A : Option Addr} {cap : Nat} {l : List (Int × Int)} {AF AT AZ : Option Addr} {cF cT cZ lo hi : Nat} {F T Z : List Int} {bx : Nat} {BF : Option Addr} {dF : Nat} {BT : Option Addr} {dT : Nat} {BZ : Option Addr} {dZ : Nat} {r : Nat × Nat} {F' T' : List Int} (h : GasI w wr p A cap l AF AT AZ cF cT cZ lo hi F T Z bx BF dF BT dT BZ dZ r F' T') (CF : Option Addr) (eF : Nat) (CT : Option Addr) (eT : Nat) (CZ : Option Addr) (eZ : Nat) (q : Nat × Nat) (F2 T2 : List Int) (ho : Own3R wr q.1 q.2 CF eF CT eT CZ eZ F2 T2 Z) (hq : bx < q.1) : GasI w (((wr.setCell ⟨bx, 0, none⟩ (.slice CF F.length eF)).setCell ⟨bx, 1, none⟩ (.slice CT T.length eT)).setCell ⟨bx, 2, none⟩ (.slice CZ Z.length eZ)) p A cap l AF AT AZ cF cT cZ lo hi F T Z bx CF eF CT eT CZ eZ q F2 T2 := by
  have r3 := ret3 h.x (.slice CF F.length eF) (.slice CT T.length eT) (.slice CZ Z.length eZ)
  have h1 := h.lb
  have h2 := h.lh
  exact ⟨h.g.within r3.2 h1 (by omega), r3.1, ho.within r3.2 (.inr (by omega)), h.lb, by omega, .inr hq, h.lh⟩
/-- The free pebbles at a point, read out of the box. -/
def atX (W : World) (bx i : Nat) : Int :=
  match W.cell? ⟨bx, 0, none⟩ with
  | some (.slice (some g) _ _) => intOf ((W.cell? ⟨g.block, g.off + i, none⟩).getD (.bool false))
  | _ => 0
theorem GasI.at {w wr : World} {p : Int} {A : Option Addr} {cap : Nat} {l : List (Int × Int)} {AF AT AZ : Option Addr} {cF cT cZ lo hi : Nat} {F T Z : List Int} {bx : Nat} {BF : Option Addr} {dF : Nat} {BT : Option Addr} {dT : Nat} {BZ : Option Addr} {dZ : Nat} {r : Nat × Nat} {F' T' : List Int} (h : GasI w wr p A cap l AF AT AZ cF cT cZ lo hi F T Z bx BF dF BT dT BZ dZ r F' T') (i : Nat) (hi' : i < F'.length) : atX wr bx i = F'.getD i 0 := by
  obtain ⟨b, off, rfl, hc⟩ := row_at h.o.own3.reads.f (by omega)
  unfold atX
  rw [h.x.cells.1]
  show intOf ((wr.cell? ⟨b, off + i, none⟩).getD (.bool false)) = _
  rw [hc i hi']
  rfl
theorem GasI.find_no {w wr : World} {A : Option Addr} {cap : Nat} {l : List (Int × Int)} {AF AT AZ : Option Addr} {cF cT cZ lo hi : Nat} {F T Z : List Int} {bx : Nat} {BF : Option Addr} {dF : Nat} {BT : Option Addr} {dT : Nat} {BZ : Option Addr} {dZ : Nat} {r : Nat × Nat} {F' T' : List Int} {k0 a b : Int} (h : GasI w wr (F.length : Int) A cap l AF AT AZ cF cT cZ lo hi F T Z bx BF dF BT dT BZ dZ r F' T') (hS0 : PebS F.length k0 (plE l Z) F T) (hS : PebS F.length k0 (plE l Z) F' T') (hP : 1 ≤ F.length ∧ F.length ≤ 8) (hk0 : k0 ≤ 3) (hn : l.length ≤ 24) (hz24 : Z.length ≤ 24)
    (hZ : ∀ i, i < Z.length → 0 ≤ Z.getD i 0 ∧ Z.getD i 0 < (l.length : Int)) (ha : 0 ≤ a ∧ a < (F.length : Int)) (hf : findM (plE l Z) a b (F', T') = none) :
    Calls Try.prog 193 #[.agg #[.int .i64 (F.length : Int), .slice A l.length cap], pebV BF F.length dF BT T.length dT BZ Z.length dZ, .int .i64 a, .int .i64 b] wr (fun e w' => e = .returned (.tuple #[pebV BF F.length dF BT T.length dT BZ Z.length dZ, .bool false]) ∧ Below wr.heap.size wr w') := by
  have e1 : F'.length = F.length := hS.flen
  have e2 : T'.length = T.length := by rw [hS.ends.len, hS0.ends.len]
  have h1 := find_c k0 l A cap BF BT BZ dF dT dZ r.1 r.2 F' T' Z a b wr (by rw [e1]; exact hS) (by rw [e1]; exact hP) hk0 hn hz24 hZ (by rw [e1]; exact ha) h.g.bars.at h.o.own3.reads
  rw [e1, e2] at h1
  refine h1.mono ?_
  rintro e w' ⟨hb, ⟨rfl, _⟩ | ⟨s', _, _, _, _, _, _, _, hs, _⟩⟩
  · exact ⟨rfl, hb⟩
  · rw [hf] at hs; cases hs
theorem GasI.find_yes {w wr : World} {A : Option Addr} {cap : Nat} {l : List (Int × Int)} {AF AT AZ : Option Addr} {cF cT cZ lo hi : Nat} {F T Z : List Int} {bx : Nat} {BF : Option Addr} {dF : Nat} {BT : Option Addr} {dT : Nat} {BZ : Option Addr} {dZ : Nat} {r : Nat × Nat} {F' T' : List Int} {k0 a b : Int} {s : List Int × List Int} (h : GasI w wr (F.length : Int) A cap l AF AT AZ cF cT cZ lo hi F T Z bx BF dF BT dT BZ dZ r F' T') (hS0 : PebS F.length k0 (plE l Z) F T) (hS : PebS F.length k0 (plE l Z) F' T') (hP : 1 ≤ F.length ∧ F.length ≤ 8) (hk0 : k0 ≤ 3) (hn : l.length ≤ 24) (hz24 : Z.length ≤ 24)
    (hZ : ∀ i, i < Z.length → 0 ≤ Z.getD i 0 ∧ Z.getD i 0 < (l.length : Int)) (ha : 0 ≤ a ∧ a < (F.length : Int)) (hb0 : 0 ≤ b) (hab : a ≠ b) (hf : findM (plE l Z) a b (F', T') = some s) :
    Calls Try.prog 193 #[.agg #[.int .i64 (F.length : Int), .slice A l.length cap], pebV BF F.length dF BT T.length dT BZ Z.length dZ, .int .i64 a, .int .i64 b] wr (fun e w' => ∃ CF eF CT eT CZ eZ, e = .returned (.tuple #[pebV CF F.length eF CT T.length eT CZ Z.length eZ, .bool true]) ∧ Below wr.heap.size wr w' ∧ Own3R w' wr.heap.size w'.heap.size CF eF CT eT CZ eZ s.1 s.2 Z) := by
  have e1 : F'.length = F.length := hS.flen
  have e2 : T'.length = T.length := by rw [hS.ends.len, hS0.ends.len]
  obtain ⟨hk, _⟩ := findM_ok hS ha hab hb0 hf
  have h1 := find_c k0 l A cap BF BT BZ dF dT dZ r.1 r.2 F' T' Z a b wr (by rw [e1]; exact hS) (by rw [e1]; exact hP) hk0 hn hz24 hZ (by rw [e1]; exact ha) h.g.bars.at h.o.own3.reads
  rw [e1, e2] at h1
  refine h1.mono ?_
  rintro e w' ⟨hb, ⟨_, hs⟩ | ⟨s', CF, eF, CT, eT, CZ, eZ, rfl, hs, ho⟩⟩
  · rw [hf] at hs; cases hs
  · rw [hf] at hs
    cases hs
    exact ⟨CF, eF, CT, eT, CZ, eZ, by rw [hk.flen, hk.ends.len, ← hS0.ends.len], hb, ho⟩
theorem Own3R.hi {W : World} {lo hi : Nat} {AF AT AZ : Option Addr} {cF cT cZ : Nat} {F T Z : List Int} (h : Own3R W lo hi AF cF AT cT AZ cZ F T Z) : hi ≤ W.heap.size := by
  obtain ⟨_, _, _, _, _, _, _, _, _, _, _, _, h4⟩ := h
  exact h4
/-- What the specification's gathering answers. -/
def GathSP (w : World) (E : List (Int × Int)) (F T Z : List Int) (a b want : Int) (e : Ending) (w' : World) : Prop :=
  Below w.heap.size w w' ∧ ∃ AF cF AT cT AZ cZ, (e = .returned (.tuple #[pebV AF F.length cF AT T.length cT AZ Z.length cZ, .bool false]) ∧ gathR E a b want (F, T) = none) ∨ ∃ s, e = .returned (.tuple #[pebV AF F.length cF AT T.length cT AZ Z.length cZ, .bool true]) ∧ gathR E a b want (F, T) = some s ∧ s.1.length = F.length ∧ s.2.length = T.length ∧ Own3R w' w.heap.size w'.heap.size AF cF AT cT AZ cZ s.1 s.2 Z
end Go.Proofs.Ytdkpmaahinbhlaa
/- What spec.l4Gather answers. No condition. -/
namespace Go.Proofs.Ytdkpmaahinbhlaa
open Go.RowKit

set_option maxHeartbeats 8000000 in
set_option maxRecDepth 100000 in
theorem gathS_c (k0 : Int) (l : List (Int × Int)) (A : Option Addr) (cap : Nat) (AF AT AZ : Option Addr) (cF cT cZ lo hi : Nat) (F T Z : List Int) (a b : Nat) (want : Int) (w : World) (hS : PebS F.length k0 (plE l Z) F T) (hP : 1 ≤ F.length ∧ F.length ≤ 8) (hk0 : k0 ≤ 3) (hn : l.length ≤ 24) (hz24 : Z.length ≤ 24)
    (hZ : ∀ i, i < Z.length → 0 ≤ Z.getD i 0 ∧ Z.getD i 0 < (l.length : Int)) (ha : a < F.length) (hb : b < F.length) (hab : a ≠ b) (hl : BarsAt w w.heap.size A l) (h : Peb3 w lo hi AF AT AZ F T Z) :
    Calls Try.prog 127 #[.agg #[.int .i64 (F.length : Int), .slice A l.length cap], pebV AF F.length cF AT T.length cT AZ Z.length cZ, .int .i64 (a : Int), .int .i64 (b : Int), .int .i64 want] w (GathSP w (plE l Z) F T Z a b want) := by
  have hhi : hi ≤ w.heap.size := h.f.1
  have hTZ : T.length ≤ 24 := by rw [hS.ends.len, plE_len]; exact hz24
  have HI0 := Lib.hid (GtI.start w (F.length : Int) A cap l AF AT AZ cF cT cZ lo hi F T Z hl h)
  have HS := Lib.hid hS
  have HZ := Lib.hid hZ
  obtain ⟨g0, g1, g2, _, _, _⟩ := HI0.out.pb.cells
  have hs3 : (((w.alloc (.cells #[.int .i64 (F.length : Int), .slice A l.length cap] 26)).alloc (.cells #[.slice AF F.length cF, .slice AT T.length cT, .slice AZ Z.length cZ] 31)).alloc (.cells #[.slice none 0 0, .slice none 0 0, .slice none 0 0] 31)).heap.size = w.heap.size + 3 := by simp
  have HS3 := Lib.hid hs3
  clear hl h hS hZ hs3
  go_enter Try.func127, Try.ntmps127
  go_wp2_with (go_at_call 126; refine (copyPeb_c AF AT AZ cF cT cZ lo hi F T Z _ HI0.out.src (by omega) (by omega) (by omega)).mono ?_; rintro e w4 ⟨BF, dF, BT, dT, BZ, dZ, rfl, ho, hb4⟩; have hb5 := new_below w4 (.cells #[.slice BF F.length dF, .slice BT T.length dT, .slice BZ Z.length dZ] 31); have hz4 := hb4.size; have HGI := Lib.hid (show GasI w (w4.alloc (.cells #[.slice BF F.length dF, .slice BT T.length dT, .slice BZ Z.length dZ] 31)) (F.length : Int) A cap l AF AT AZ cF cT cZ lo hi F T Z w4.heap.size BF dF BT dT BZ dZ ((((w.alloc (.cells #[.int .i64 (F.length : Int), .slice A l.length cap] 26)).alloc (.cells #[.slice AF F.length cF, .slice AT T.length cT, .slice AZ Z.length cZ] 31)).alloc (.cells #[.slice none 0 0, .slice none 0 0, .slice none 0 0] 31)).heap.size, w4.heap.size) F T from ⟨(HI0.out.below hb4).below hb5, cel3_new w4 (.slice BF F.length dF) (.slice BT T.length dT) (.slice BZ Z.length dZ) 31, ho.within (within_of hb5) (.inr (Nat.zero_le _)), by have := HS3.out; omega, by have := HS3.out; omega, .inl (Nat.le_refl _), hhi⟩); clear ho hb4 hb5 hz4 g0 g1 g2)
  generalize ((((w.alloc (.cells #[.int .i64 (F.length : Int), .slice A l.length cap] 26)).alloc (.cells #[.slice AF F.length cF, .slice AT T.length cT, .slice AZ Z.length cZ] 31)).alloc (.cells #[.slice none 0 0, .slice none 0 0, .slice none 0 0] 31)).heap.size, w4.heap.size) = r0 at *
  generalize hw5 : (w4.alloc (.cells #[.slice BF F.length dF, .slice BT T.length dT, .slice BZ Z.length dZ] 31)) = w5 at *
  clear hw5 HS3
  generalize w4.heap.size = bx at *
  go_loopw [] (fun wr => ∃ (F' T' : List Int) (BF BT BZ : Option Addr) (dF dT dZ : Nat) (r : Nat × Nat), PebS F.length k0 (plE l Z) F' T' ∧ gathR (plE l Z) a b want (F, T) = gathR (plE l Z) a b want (F', T') ∧ GasI w wr (F.length : Int) A cap l AF AT AZ cF cT cZ lo hi F T Z bx BF dF BT dT BZ dZ r F' T') (fun wr => (want - (atX wr bx a + atX wr bx b)).toNat)
  case atStart => exact ⟨F, T, BF, BT, BZ, dF, dT, dZ, r0, HS.out, rfl, HGI.out⟩
  case round =>
    clear HGI
    obtain ⟨F', T', BF, BT, BZ, dF, dT, dZ, r, hS', hg, hin⟩ := hrel
    have HG := Lib.hid hg
    have HS' := Lib.hid hS'
    have hfl := hS'.flen
    have HMA := Lib.hid (hin.at a (by omega))
    have HMB := Lib.hid (hin.at b (by omega))
    obtain ⟨fb, fo, rfl, hfc⟩ := row_at hin.o.own3.reads.f (by omega)
    have ha1 := hfc a (by omega)
    have hb1 := hfc b (by omega)
    have hsa := hS'.small (v := (a : Int)) (by omega)
    have hsb := hS'.small (v := (b : Int)) (by omega)
    rw [Int.toNat_natCast] at hsa hsb
    have HDN := Lib.hid (fun h : ¬ F'.getD a 0 + F'.getD b 0 < want => gathR_done (E := plE l Z) (a := (a : Int)) (b := (b : Int)) (want := want) (s := (F', T')) (by simpa using h))
    obtain ⟨d1, hd1⟩ : ∃ d1, F'.getD a 0 = d1 := ⟨_, rfl⟩
    obtain ⟨d2, hd2⟩ : ∃ d2, F'.getD b 0 = d2 := ⟨_, rfl⟩
    rw [hd1] at ha1 hsa HDN HMA
    rw [hd2] at hb1 hsb HDN HMB
    have HD := Lib.hid (And.intro hd1 hd2)
    have haF : (a : Int) < (F.length : Int) := by omega
    have hbF : (b : Int) < (F.length : Int) := by omega
    have HIN := Lib.hid hin
    have hcc := hin.x.cells.1
    have HL := Lib.hid (show F'.length = F.length ∧ T'.length = T.length from ⟨hfl, by rw [hS'.ends.len, HS.out.ends.len]⟩)
    clear hg hS' hfl hfc hd1 hd2 hin
    by_cases c1 : d1 + d2 < want
    · have e1 : decide (d1 + d2 < want) = true := by simpa using c1
      go_wp2_with fail
      go_big_quiet (fail)
      have HQ := Lib.hid (HIN.out.below (below_drewN wr.heap.size wr nq))
      have hC1 : F'.getD (a : Int).toNat 0 + F'.getD (b : Int).toNat 0 < want := by rw [Int.toNat_natCast, Int.toNat_natCast, HD.out.1, HD.out.2]; exact c1
      have HC1 := Lib.hid hC1
      clear hcc ha1 hb1 hC1
      generalize wr.drewN nq = w1 at *
      obtain ⟨_, gx0, gx1⟩ := HQ.out.g.gb
      obtain ⟨x0, x1, x2, _, _, _⟩ := HQ.out.x.cells
      obtain ⟨r1, hr1⟩ : ∃ r1, findM (plE l Z) (a : Int) (b : Int) (F', T') = r1 := ⟨_, rfl⟩
      cases r1 with
      | some s' =>
        have HF1 := Lib.hid hr1
        have HK := Lib.hid (show PebS F.length k0 (plE l Z) s'.1 s'.2 ∧ s'.1.getD a 0 + s'.1.getD b 0 = d1 + d2 + 1 from by
          obtain ⟨k1, k2, k3⟩ := findM_ok HS'.out (a := (a : Int)) (b := (b : Int)) (by omega) (by omega) (by omega) HF1.out
          rw [Int.toNat_natCast] at k2 k3
          refine ⟨k1, ?_⟩
          rw [k2, k3, HD.out.1, HD.out.2]; omega)
        clear hr1
        go_wp2_with (go_at_call 193; refine (HQ.out.find_yes (a := (a : Int)) (b := (b : Int)) HS.out HS'.out hP hk0 hn hz24 HZ.out (by omega) (by omega) (by omega) HF1.out).mono ?_; rintro e w6 ⟨CF, eF, CT, eT, CZ, eZ, rfl, hb6, ho6⟩; have hb7 := new_below w6 (.cells #[.slice CF F.length eF, .slice CT T.length eT, .slice CZ Z.length eZ] 31); have HI7 := Lib.hid ((HQ.out.below hb6).below hb7); have hy7 := cel3_new w6 (.slice CF F.length eF) (.slice CT T.length eT) (.slice CZ Z.length eZ) 31; obtain ⟨y0, y1, y2, _, _, _⟩ := hy7.cells; obtain ⟨z0, z1, z2, f0, f1, f2⟩ := HI7.out.x.cells; have HN := Lib.hid (HI7.out.put CF eF CT eT CZ eZ (w1.heap.size, w6.heap.size) s'.1 s'.2 (ho6.within (within_of hb7) (.inr (Nat.zero_le _))) HQ.out.x.lt); clear ho6 hb6 hb7 hy7 gx0 gx1 x0 x1 x2)
        go_roundw
        case rel => exact ⟨s'.1, s'.2, CF, CT, CZ, eF, eT, eZ, _, HK.out.1, HG.out.trans (gathR_one HC1.out HF1.out (by rw [Int.toNat_natCast, Int.toNat_natCast]; show s'.1.getD a 0 + s'.1.getD b 0 = F'.getD a 0 + F'.getD b 0 + 1; rw [HK.out.2, HD.out.1, HD.out.2])), HN.out⟩
        case measure =>
          have hlen : s'.1.length = F.length := HK.out.1.flen
          have q3 := HK.out.2
          rw [HN.out.at a (by omega), HN.out.at b (by omega), HMA.out, HMB.out]
          omega
      | none =>
        have HF1 := Lib.hid hr1
        obtain ⟨r2, hr2⟩ : ∃ r2, findM (plE l Z) (b : Int) (a : Int) (F', T') = r2 := ⟨_, rfl⟩
        cases r2 with
        | some s' =>
          have HF2 := Lib.hid hr2
          have HK := Lib.hid (show PebS F.length k0 (plE l Z) s'.1 s'.2 ∧ s'.1.getD a 0 + s'.1.getD b 0 = d1 + d2 + 1 from by
            obtain ⟨k1, k2, k3⟩ := findM_ok HS'.out (a := (b : Int)) (b := (a : Int)) (by omega) (by omega) (by omega) HF2.out
            rw [Int.toNat_natCast] at k2 k3
            refine ⟨k1, ?_⟩
            rw [k2, k3, HD.out.1, HD.out.2]; omega)
          clear hr1 hr2
          have hzz : ∀ W : World, ∀ o : Obj, (W.alloc o).heap.size = W.heap.size + 1 := fun W o => by simp
          have HZZ := Lib.hid hzz
          clear hzz
          go_wp2_with (first
            | (go_at_call 193; refine (HI7.out.find_yes (a := (b : Int)) (b := (a : Int)) HS.out HS'.out hP hk0 hn hz24 HZ.out (by omega) (by omega) (by omega) HF2.out).mono ?_; rintro e w8 ⟨CF, eF, CT, eT, CZ, eZ, rfl, hb8, ho8⟩; have HY8 := Lib.hid (HY7.out.kept hb8); have r3y := ret3 HY8.out (.slice CF F.length eF) (.slice CT T.length eT) (.slice CZ Z.length eZ); have hy8 := HZZ.out w6 (.cells #[.slice (some ⟨fb, fo, none⟩) F.length dF, .slice BT T.length dT, .slice BZ Z.length dZ] 31); have HI9 := Lib.hid ((HI7.out.below hb8).other r3y.2 (by have := HQ.out.lb; omega) (by omega) (by omega)); have HN := Lib.hid (HI9.out.put CF eF CT eT CZ eZ (_, _) s'.1 s'.2 (ho8.within r3y.2 (.inr (by omega))) (by show bx < (World.alloc _ _).heap.size; omega)); obtain ⟨_, _, _, k0', k1, k2⟩ := HY8.out.cells; obtain ⟨i0, i1, i2, _⟩ := r3y.1.cells; obtain ⟨j0, j1, j2, j3, j4, j5⟩ := HI9.out.x.cells; clear ho8 hb8 r3y hy8 z0 z1 z2 u0 u1 y0 y1 y2)
            | (go_at_call 193; refine (HQ.out.find_no (a := (a : Int)) (b := (b : Int)) HS.out HS'.out hP hk0 hn hz24 HZ.out (by omega) HF1.out).mono ?_; rintro e w6 ⟨rfl, hb6⟩; have hb7 := new_below w6 (.cells #[.slice (some ⟨fb, fo, none⟩) F.length dF, .slice BT T.length dT, .slice BZ Z.length dZ] 31); have HI7 := Lib.hid ((HQ.out.below hb6).below hb7); have HY7 := Lib.hid (cel3_new w6 (.slice (some ⟨fb, fo, none⟩) F.length dF) (.slice BT T.length dT) (.slice BZ Z.length dZ) 31); have hlo6 := hb6.size; have hq2 := HQ.out.o.hi; have hq3 := HQ.out.x.lt; obtain ⟨z0, z1, z2, _, _, _⟩ := HI7.out.x.cells; obtain ⟨_, u0, u1⟩ := HI7.out.g.gb; obtain ⟨y0, y1, y2, _, _, _⟩ := HY7.out.cells; clear hb6 hb7 gx0 gx1 x0 x1 x2))
          go_roundw
          case rel => exact ⟨s'.1, s'.2, CF, CT, CZ, eF, eT, eZ, _, HK.out.1, HG.out.trans (gathR_two HC1.out HF1.out HF2.out (by rw [Int.toNat_natCast, Int.toNat_natCast]; show s'.1.getD a 0 + s'.1.getD b 0 = F'.getD a 0 + F'.getD b 0 + 1; rw [HK.out.2, HD.out.1, HD.out.2])), HN.out⟩
          case measure =>
            have hlen : s'.1.length = F.length := HK.out.1.flen
            have q3 := HK.out.2
            rw [HN.out.at a (by omega), HN.out.at b (by omega), HMA.out, HMB.out]
            omega
        | none =>
          have HF2 := Lib.hid hr2
          clear hr1 hr2
          have hzz : ∀ W : World, ∀ o : Obj, (W.alloc o).heap.size = W.heap.size + 1 := fun W o => by simp
          have HZZ := Lib.hid hzz
          clear hzz
          go_wp2_with (first
            | (go_at_call 193; refine (HI7.out.find_no (a := (b : Int)) (b := (a : Int)) HS.out HS'.out hP hk0 hn hz24 HZ.out (by omega) HF2.out).mono ?_; rintro e w8 ⟨rfl, hb8⟩; have HY8 := Lib.hid (HY7.out.kept hb8); have r3y := ret3 HY8.out (.slice (some ⟨fb, fo, none⟩) F.length dF) (.slice BT T.length dT) (.slice BZ Z.length dZ); have HI9 := Lib.hid ((HI7.out.below hb8).other r3y.2 (by have := HQ.out.lb; omega) (by omega) (by omega)); have r3 := ret3 HI9.out.g.rb (.slice (some ⟨fb, fo, none⟩) F.length dF) (.slice BT T.length dT) (.slice BZ Z.length dZ); obtain ⟨s0, s1, s2, _⟩ := r3.1.cells; have HW := Lib.hid r3.2; obtain ⟨_, _, _, f0, f1, f2⟩ := HI9.out.g.rb.cells; obtain ⟨_, _, _, k0', k1, k2⟩ := HY8.out.cells; obtain ⟨i0, i1, i2, _⟩ := r3y.1.cells; obtain ⟨j0, j1, j2, j3, j4, j5⟩ := HI9.out.x.cells; clear hb8 r3y r3 z0 z1 z2 u0 u1 y0 y1 y2)
            | (go_at_call 193; refine (HQ.out.find_no (a := (a : Int)) (b := (b : Int)) HS.out HS'.out hP hk0 hn hz24 HZ.out (by omega) HF1.out).mono ?_; rintro e w6 ⟨rfl, hb6⟩; have hb7 := new_below w6 (.cells #[.slice (some ⟨fb, fo, none⟩) F.length dF, .slice BT T.length dT, .slice BZ Z.length dZ] 31); have HI7 := Lib.hid ((HQ.out.below hb6).below hb7); have HY7 := Lib.hid (cel3_new w6 (.slice (some ⟨fb, fo, none⟩) F.length dF) (.slice BT T.length dT) (.slice BZ Z.length dZ) 31); have hlo6 := hb6.size; have hq2 := HQ.out.o.hi; have hq3 := HQ.out.x.lt; obtain ⟨z0, z1, z2, _, _, _⟩ := HI7.out.x.cells; obtain ⟨_, u0, u1⟩ := HI7.out.g.gb; obtain ⟨y0, y1, y2, _, _, _⟩ := HY7.out.cells; clear hb6 hb7 gx0 gx1 x0 x1 x2))
          refine bodyPost_ret (v := .tuple #[pebV (some ⟨fb, fo, none⟩) F.length dF BT T.length dT BZ Z.length dZ, .bool false]) ?_ rfl ?_
          · simp [results, Try.results127, go_sem, s0, s1, s2]
          · have hg9 := HI9.out.g.bel
            exact ⟨within_on hg9 HW.out hg9.size (.inl (by omega)), _, _, _, _, _, _, .inl ⟨rfl, by rw [HG.out]; exact gathR_no HC1.out HF1.out HF2.out⟩⟩
    · have e1 : decide (d1 + d2 < want) = false := by simpa using c1
      go_wp2_with fail
      go_big_quiet (fail)
      have HQ := Lib.hid (HIN.out.below (below_drewN wr.heap.size wr nq))
      clear hcc ha1 hb1
      generalize wr.drewN nq = w1 at *
      have r3 := ret3 HQ.out.g.rb (.slice (some ⟨fb, fo, none⟩) F.length dF) (.slice BT T.length dT) (.slice BZ Z.length dZ)
      obtain ⟨s0, s1, s2, _⟩ := r3.1.cells
      have HW := Lib.hid r3.2
      obtain ⟨_, _, _, f0, f1, f2⟩ := HQ.out.g.rb.cells
      obtain ⟨v0, v1, v2, _, _, _⟩ := HQ.out.x.cells
      clear r3
      go_wp2_with fail
      refine bodyPost_ret (v := .tuple #[pebV (some ⟨fb, fo, none⟩) F.length dF BT T.length dT BZ Z.length dZ, .bool true]) ?_ rfl ?_
      · simp [results, Try.results127, go_sem, s0, s1, s2]
      · have hg9 := HQ.out.g.bel
        have hlr := HQ.out.lr
        exact ⟨within_on hg9 HW.out hg9.size (.inl (by omega)), _, _, _, _, _, _, .inr ⟨(F', T'), rfl, by rw [HG.out]; exact HDN.out c1, HL.out.1, HL.out.2, (HQ.out.o.within HW.out (.inr (by omega))).widen (by omega) (by have := HW.out.size; have := HQ.out.o.hi; omega) (Nat.le_refl _)⟩⟩
end Go.Proofs.Ytdkpmaahinbhlaa
/- What spec.PlaceBar answers. No condition. -/
namespace Go.Proofs.Ytdkpmaahinbhlaa
open Go.RowKit

set_option maxHeartbeats 8000000 in
set_option maxRecDepth 100000 in
theorem specPlaP (p k c : Int) (l : List (Int × Int)) (A : Option Addr) (cap : Nat) (AF AT AZ : Option Addr) (cF cT cZ lo hi : Nat) (F T Z : List Int) (n : Int) (w : World) (hl : BarsAt w w.heap.size A l) (h : Peb3 w lo hi AF AT AZ F T Z) (hn : l.length ≤ 1048576) (hF : F.length ≤ 1048576) (hT : T.length ≤ 1048576) (hZ : Z.length ≤ 1048576) (hw : WfI F) :
    Calls Try.prog 34 #[.agg #[.int .i64 p, .slice A l.length cap], .int .i64 k, .int .i64 c, pebV AF F.length cF AT T.length cT AZ Z.length cZ, .int .i64 n] w (PebOB w ((plaV p k c l F T Z n).getD (F, T, Z)).1 ((plaV p k c l F T Z n).getD (F, T, Z)).2.1 ((plaV p k c l F T Z n).getD (F, T, Z)).2.2 (plaV p k c l F T Z n).isSome) := by
  by_cases c1 : isPebB p k l F T Z = true
  case neg =>
    have c1' : isPebB p k l F T Z = false := by simpa using c1
    have HB := Lib.hid c1'
    clear c1'
    have HI0 := Lib.hid (GtI.start w p A cap l AF AT AZ cF cT cZ lo hi F T Z hl h)
    have HWF := Lib.hid hw
    have hs3 : (((w.alloc (.cells #[.int .i64 p, .slice A l.length cap] 26)).alloc (.cells #[.slice AF F.length cF, .slice AT T.length cT, .slice AZ Z.length cZ] 31)).alloc (.cells #[.slice none 0 0, .slice none 0 0, .slice none 0 0] 31)).heap.size = w.heap.size + 3 := by simp
    have HS3 := Lib.hid hs3
    obtain ⟨_, g0, g1⟩ := HI0.out.gb
    obtain ⟨x0, x1, x2, _, _, _⟩ := HI0.out.pb.cells
    clear hl h hw hs3
    have HN := Lib.hid (show plaV p k c l F T Z n = none from if_neg (fun q => by exact c1 q.1))
    go_enter Try.func34, Try.ntmps34
    go_wp2_with (first
      | (go_at_call 126; refine (copyPeb_c AF AT AZ cF cT cZ lo hi F T Z _ HI6.out.src hF hT hZ).mono ?_; rintro e w7 ⟨BF, dF, BT, dT, BZ, dZ, rfl, ho, hb7⟩; have HI7 := Lib.hid (HI6.out.below hb7); have HO7 := Lib.hid ho; obtain ⟨_, _, _, f0, f1, f2⟩ := HI7.out.rb.cells; have r3 := ret3 HI7.out.rb (.slice BF F.length dF) (.slice BT T.length dT) (.slice BZ Z.length dZ); obtain ⟨s0, s1, s2, _⟩ := r3.1.cells; have HW := Lib.hid r3.2; clear ho hb7 r3)
      | (go_at_call 39; refine (specIsPeb p k l A cap AF AT AZ cF cT cZ lo hi F T Z _ HI0.out.bars.at HI0.out.src hn hF hT hZ HWF.out).mono ?_; rintro e w6 ⟨rfl, hb6⟩; rw [HB.out]; have HI6 := Lib.hid (HI0.out.below hb6); obtain ⟨_, v0, v1⟩ := HI6.out.gb; obtain ⟨v2, v3, v4, _, _, _⟩ := HI6.out.pb.cells; have hlo6 := hb6.size; have HLO := Lib.hid (show w.heap.size + 1 + 1 + 1 ≤ w6.heap.size by have := HS3.out; omega); clear hlo6 hb6 g0 g1 x0 x1 x2))
    rw [HN.out]
    refine bodyPost_ret (v := .tuple #[pebV BF F.length dF BT T.length dT BZ Z.length dZ, .bool false]) ?_ rfl ?_
    · simp [results, Try.results34, go_sem, s0, s1, s2]
    · have hg := HI7.out.bel
      have hlo6 := HI6.out.bel.size
      have hsw := HW.out.size
      exact ⟨_, _, _, _, _, _, rfl, (HO7.out.own3.within HW.out (.inr HLO.out)).widen (by omega) (by omega) (Nat.le_refl _), within_on hg HW.out hg.size (.inl (by omega))⟩
  have HB := Lib.hid c1
  have hp := isPebB_is c1
  obtain rfl : p = (F.length : Int) := hp.2.2.1.symm
  have HP := Lib.hid hp
  have hF8 := hp.1.1
  have hk3 := hp.2.1
  clear hp c1
  have HHI0 := Lib.hid h.f.1
  have HI0 := Lib.hid (GtI.start w (F.length : Int) A cap l AF AT AZ cF cT cZ lo hi F T Z hl h)
  have HWF := Lib.hid hw
  have hs3 : (((w.alloc (.cells #[.int .i64 (F.length : Int), .slice A l.length cap] 26)).alloc (.cells #[.slice AF F.length cF, .slice AT T.length cT, .slice AZ Z.length cZ] 31)).alloc (.cells #[.slice none 0 0, .slice none 0 0, .slice none 0 0] 31)).heap.size = w.heap.size + 3 := by simp
  have HS3 := Lib.hid hs3
  obtain ⟨_, g0, g1⟩ := HI0.out.gb
  obtain ⟨x0, x1, x2, _, _, _⟩ := HI0.out.pb.cells
  clear hl h hw hs3
  by_cases c2 : rangeB k c = true
  case neg =>
    have c2' : rangeB k c = false := by simpa using c2
    have HRG := Lib.hid c2'
    clear c2'
    have HN := Lib.hid (show plaV (F.length : Int) k c l F T Z n = none from if_neg (fun q => by exact c2 q.2.1))
    go_enter Try.func34, Try.ntmps34
    go_wp2_with (first
      | (go_at_call 126; refine (copyPeb_c AF AT AZ cF cT cZ lo hi F T Z _ HI6.out.src hF hT hZ).mono ?_; rintro e w7 ⟨BF, dF, BT, dT, BZ, dZ, rfl, ho, hb7⟩; have HI7 := Lib.hid (HI6.out.below hb7); have HO7 := Lib.hid ho; obtain ⟨_, _, _, f0, f1, f2⟩ := HI7.out.rb.cells; have r3 := ret3 HI7.out.rb (.slice BF F.length dF) (.slice BT T.length dT) (.slice BZ Z.length dZ); obtain ⟨s0, s1, s2, _⟩ := r3.1.cells; have HW := Lib.hid r3.2; clear ho hb7 r3)
      | (go_at_call 110; refine (specRange k c _).mono ?_; rintro e w9 ⟨rfl, rfl⟩; rw [HRG.out])
      | (go_at_call 39; refine (specIsPeb (F.length : Int) k l A cap AF AT AZ cF cT cZ lo hi F T Z _ HI0.out.bars.at HI0.out.src hn hF hT hZ HWF.out).mono ?_; rintro e w6 ⟨rfl, hb6⟩; rw [HB.out]; have HI6 := Lib.hid (HI0.out.below hb6); obtain ⟨_, v0, v1⟩ := HI6.out.gb; obtain ⟨v2, v3, v4, _, _, _⟩ := HI6.out.pb.cells; have hlo6 := hb6.size; have HLO := Lib.hid (show w.heap.size + 1 + 1 + 1 ≤ w6.heap.size by have := HS3.out; omega); clear hlo6 hb6 g0 g1 x0 x1 x2))
    rw [HN.out]
    refine bodyPost_ret (v := .tuple #[pebV BF F.length dF BT T.length dT BZ Z.length dZ, .bool false]) ?_ rfl ?_
    · simp [results, Try.results34, go_sem, s0, s1, s2]
    · have hg := HI7.out.bel
      have hlo6 := HI6.out.bel.size
      have hsw := HW.out.size
      exact ⟨_, _, _, _, _, _, rfl, (HO7.out.own3.within HW.out (.inr HLO.out)).widen (by omega) (by omega) (Nat.le_refl _), within_on hg HW.out hg.size (.inl (by omega))⟩
  have HRG := Lib.hid c2
  by_cases c3 : 0 ≤ n
  case neg =>
    have c3' : n < 0 := by omega
    have HN := Lib.hid (show plaV (F.length : Int) k c l F T Z n = none from if_neg (fun q => by exact c3 q.2.2.1.1))
    go_enter Try.func34, Try.ntmps34
    go_wp2_with (first
      | (go_at_call 126; refine (copyPeb_c AF AT AZ cF cT cZ lo hi F T Z _ HI6.out.src hF hT hZ).mono ?_; rintro e w7 ⟨BF, dF, BT, dT, BZ, dZ, rfl, ho, hb7⟩; have HI7 := Lib.hid (HI6.out.below hb7); have HO7 := Lib.hid ho; obtain ⟨_, _, _, f0, f1, f2⟩ := HI7.out.rb.cells; have r3 := ret3 HI7.out.rb (.slice BF F.length dF) (.slice BT T.length dT) (.slice BZ Z.length dZ); obtain ⟨s0, s1, s2, _⟩ := r3.1.cells; have HW := Lib.hid r3.2; clear ho hb7 r3)
      | (go_at_call 110; refine (specRange k c _).mono ?_; rintro e w9 ⟨rfl, rfl⟩; rw [HRG.out])
      | (go_at_call 39; refine (specIsPeb (F.length : Int) k l A cap AF AT AZ cF cT cZ lo hi F T Z _ HI0.out.bars.at HI0.out.src hn hF hT hZ HWF.out).mono ?_; rintro e w6 ⟨rfl, hb6⟩; rw [HB.out]; have HI6 := Lib.hid (HI0.out.below hb6); obtain ⟨_, v0, v1⟩ := HI6.out.gb; obtain ⟨v2, v3, v4, _, _, _⟩ := HI6.out.pb.cells; have hlo6 := hb6.size; have HLO := Lib.hid (show w.heap.size + 1 + 1 + 1 ≤ w6.heap.size by have := HS3.out; omega); clear hlo6 hb6 g0 g1 x0 x1 x2))
    rw [HN.out]
    refine bodyPost_ret (v := .tuple #[pebV BF F.length dF BT T.length dT BZ Z.length dZ, .bool false]) ?_ rfl ?_
    · simp [results, Try.results34, go_sem, s0, s1, s2]
    · have hg := HI7.out.bel
      have hlo6 := HI6.out.bel.size
      have hsw := HW.out.size
      exact ⟨_, _, _, _, _, _, rfl, (HO7.out.own3.within HW.out (.inr HLO.out)).widen (by omega) (by omega) (Nat.le_refl _), within_on hg HW.out hg.size (.inl (by omega))⟩
  have c3' : ¬ n < 0 := by omega
  by_cases c4 : n < (l.length : Int)
  case neg =>
    have c4' : (l.length : Int) ≤ n := by omega
    have HN := Lib.hid (show plaV (F.length : Int) k c l F T Z n = none from if_neg (fun q => by exact c4 q.2.2.1.2))
    go_enter Try.func34, Try.ntmps34
    go_wp2_with (first
      | (go_at_call 126; refine (copyPeb_c AF AT AZ cF cT cZ lo hi F T Z _ HI6.out.src hF hT hZ).mono ?_; rintro e w7 ⟨BF, dF, BT, dT, BZ, dZ, rfl, ho, hb7⟩; have HI7 := Lib.hid (HI6.out.below hb7); have HO7 := Lib.hid ho; obtain ⟨_, _, _, f0, f1, f2⟩ := HI7.out.rb.cells; have r3 := ret3 HI7.out.rb (.slice BF F.length dF) (.slice BT T.length dT) (.slice BZ Z.length dZ); obtain ⟨s0, s1, s2, _⟩ := r3.1.cells; have HW := Lib.hid r3.2; clear ho hb7 r3)
      | (go_at_call 110; refine (specRange k c _).mono ?_; rintro e w9 ⟨rfl, rfl⟩; rw [HRG.out])
      | (go_at_call 39; refine (specIsPeb (F.length : Int) k l A cap AF AT AZ cF cT cZ lo hi F T Z _ HI0.out.bars.at HI0.out.src hn hF hT hZ HWF.out).mono ?_; rintro e w6 ⟨rfl, hb6⟩; rw [HB.out]; have HI6 := Lib.hid (HI0.out.below hb6); obtain ⟨_, v0, v1⟩ := HI6.out.gb; obtain ⟨v2, v3, v4, _, _, _⟩ := HI6.out.pb.cells; have hlo6 := hb6.size; have HLO := Lib.hid (show w.heap.size + 1 + 1 + 1 ≤ w6.heap.size by have := HS3.out; omega); clear hlo6 hb6 g0 g1 x0 x1 x2))
    rw [HN.out]
    refine bodyPost_ret (v := .tuple #[pebV BF F.length dF BT T.length dT BZ Z.length dZ, .bool false]) ?_ rfl ?_
    · simp [results, Try.results34, go_sem, s0, s1, s2]
    · have hg := HI7.out.bel
      have hlo6 := HI6.out.bel.size
      have hsw := HW.out.size
      exact ⟨_, _, _, _, _, _, rfl, (HO7.out.own3.within HW.out (.inr HLO.out)).widen (by omega) (by omega) (Nat.le_refl _), within_on hg HW.out hg.size (.inl (by omega))⟩
  have c4' : ¬ (l.length : Int) ≤ n := by omega
  obtain ⟨nn, rfl⟩ : ∃ nn : Nat, n = (nn : Int) := ⟨n.toNat, by omega⟩
  by_cases c5 : Z ≠ [] → Z.getD (Z.length - 1) 0 < (nn : Int)
  case neg =>
    have hne : Z ≠ [] := fun e => c5 (fun h => absurd e h)
    have hle : ¬ Z.getD (Z.length - 1) 0 < (nn : Int) := fun h => c5 (fun _ => h)
    have hzp0 : 0 < Z.length := List.length_pos_iff.2 hne
    have hzp : 0 < Z.length := by omega
    have hzd : (0 : Int) < (Z.length : Int) := by omega
    have hzd2 : decide ((0 : Int) < (Z.length : Int)) = true := decide_eq_true hzd
    obtain ⟨zb, zo, rfl, _, _, hzc⟩ := HI0.out.src.z.2 hzp
    have hzl0 : ∀ W : World, GtI w W (F.length : Int) A cap l AF AT (some ⟨zb, zo, none⟩) cF cT cZ lo hi F T Z → W.cell? ⟨zb, zo + (Z.length - 1), none⟩ = some (.int .i64 (Z.getD (Z.length - 1) 0)) := fun W hh => by
      obtain ⟨b', o', e', _, _, hc'⟩ := hh.src.z.2 hzp
      cases e'
      exact hc' (Z.length - 1) (by omega)
    have hzi : ((Z.length : Int) - 1) = ((Z.length - 1 : Nat) : Int) := by omega
    have hzi2 : ((Z.length - 1 : Nat) : Int) < (Z.length : Int) := by omega
    obtain ⟨zl, hzl1⟩ : ∃ zl, Z.getD (Z.length - 1) 0 = zl := ⟨_, rfl⟩
    rw [hzl1] at hzl0
    have HZL0 := Lib.hid hzl0
    clear hzc hzl0
    rw [hzl1] at hle
    have hle2 : (nn : Int) ≤ zl := by omega
    have HZL := Lib.hid hzl1
    clear hzl1 hne c5
    have HN := Lib.hid (show plaV (F.length : Int) k c l F T Z (nn : Int) = none from if_neg (fun q => by have h1 := q.2.2.2 (by intro e; rw [e] at hzp; simp at hzp); rw [HZL.out] at h1; omega))
    go_enter Try.func34, Try.ntmps34
    go_wp2_with (first
      | (go_at_call 126; refine (copyPeb_c AF AT (some ⟨zb, zo, none⟩) cF cT cZ lo hi F T Z _ HI6.out.src hF hT hZ).mono ?_; rintro e w7 ⟨BF, dF, BT, dT, BZ, dZ, rfl, ho, hb7⟩; have HI7 := Lib.hid (HI6.out.below hb7); have HO7 := Lib.hid ho; obtain ⟨_, _, _, f0, f1, f2⟩ := HI7.out.rb.cells; have r3 := ret3 HI7.out.rb (.slice BF F.length dF) (.slice BT T.length dT) (.slice BZ Z.length dZ); obtain ⟨s0, s1, s2, _⟩ := r3.1.cells; have HW := Lib.hid r3.2; clear ho hb7 r3)
      | (go_at_call 110; refine (specRange k c _).mono ?_; rintro e w9 ⟨rfl, rfl⟩; rw [HRG.out])
      | (go_at_call 39; refine (specIsPeb (F.length : Int) k l A cap AF AT (some ⟨zb, zo, none⟩) cF cT cZ lo hi F T Z _ HI0.out.bars.at HI0.out.src hn hF hT hZ HWF.out).mono ?_; rintro e w6 ⟨rfl, hb6⟩; rw [HB.out]; have HI6 := Lib.hid (HI0.out.below hb6); obtain ⟨_, v0, v1⟩ := HI6.out.gb; obtain ⟨v2, v3, v4, _, _, _⟩ := HI6.out.pb.cells; have hlo6 := hb6.size; have HLO := Lib.hid (show w.heap.size + 1 + 1 + 1 ≤ w6.heap.size by have := HS3.out; omega); have hzl := HZL0.out w6 HI6.out; clear hlo6 hb6 g0 g1 x0 x1 x2))
    rw [HN.out]
    refine bodyPost_ret (v := .tuple #[pebV BF F.length dF BT T.length dT BZ Z.length dZ, .bool false]) ?_ rfl ?_
    · simp [results, Try.results34, go_sem, s0, s1, s2]
    · have hg := HI7.out.bel
      have hlo6 := HI6.out.bel.size
      have hsw := HW.out.size
      exact ⟨_, _, _, _, _, _, rfl, (HO7.out.own3.within HW.out (.inr HLO.out)).widen (by omega) (by omega) (Nat.le_refl _), within_on hg HW.out hg.size (.inl (by omega))⟩
  have HV := Lib.hid (show plaV (F.length : Int) k c l F T Z (nn : Int) = plaR l c F T Z (nn : Int) from if_pos ⟨HB.out, HRG.out, ⟨c3, c4⟩, c5⟩)
  have hrg := HRG.out
  unfold rangeB at hrg
  simp only [Bool.and_eq_true, decide_eq_true_eq] at hrg
  have hmany := HP.out.many
  have h24 := HP.out.1.2.1
  have hPT := HP.out.2.2.2.1
  have hT24 : T.length ≤ 24 := by omega
  have hZ24 : Z.length ≤ 24 := by omega
  have HPT := Lib.hid hPT
  clear hPT
  have hOB := HP.out.1.2.2 nn (by omega)
  unfold OkBar at hOB
  have hnn : nn < l.length := by omega
  obtain ⟨x, hxd⟩ : ∃ x, l.getD nn (0, 0) = x := ⟨_, rfl⟩
  rw [hxd] at hOB
  obtain ⟨x1, x2⟩ := x
  simp only at hOB
  obtain ⟨a, rfl⟩ : ∃ a : Nat, x1 = (a : Int) := ⟨x1.toNat, by omega⟩
  obtain ⟨b, rfl⟩ : ∃ b : Nat, x2 = (b : Int) := ⟨x2.toNat, by omega⟩
  obtain ⟨bb, boff, rfl, _, hbB, _⟩ := HI0.out.bars.2 (by omega)
  have HBC := Lib.hid (fun (W : World) (hh : GtI w W (F.length : Int) (some ⟨bb, boff, none⟩) cap l AF AT AZ cF cT cZ lo hi F T Z) => (show W.cell? ⟨bb, boff + nn * 2, none⟩ = some (.int .i64 (a : Int)) ∧ W.cell? ⟨bb, boff + nn * 2 + 1, none⟩ = some (.int .i64 (b : Int)) from by
    obtain ⟨b', o', e', _, _, hc'⟩ := hh.bars.2 (by omega)
    cases e'
    have h2 := hc' nn hnn
    rw [hxd] at h2
    exact h2))
  have HX := Lib.hid hxd
  clear hxd
  obtain ⟨rg, hrg0⟩ : ∃ rg, gathR (plE l Z) (a : Int) (b : Int) (c + 1) (F, T) = rg := ⟨_, rfl⟩
  have HR := Lib.hid hrg0
  clear hrg0
  have HPL := Lib.hid (show plaV (F.length : Int) k c l F T Z (nn : Int) = rg.map fun s => if s.1.getD a 0 = 0 then (s.1.set b (s.1.getD b 0 - 1), s.2 ++ [(b : Int)], Z ++ [(nn : Int)]) else (s.1.set a (s.1.getD a 0 - 1), s.2 ++ [(a : Int)], Z ++ [(nn : Int)]) from by
    rw [HV.out]
    unfold plaR
    rw [Int.toNat_natCast, HX.out]
    simp only [Int.toNat_natCast]
    rw [HR.out])
  have HHI := Lib.hid (show hi ≤ w.heap.size from HHI0.out)
  by_cases c6 : 0 < Z.length
  · have hlt0 := c5 (by intro e; rw [e] at c6; simp at c6)
    have hzp : 0 < Z.length := by omega
    have hzd : (0 : Int) < (Z.length : Int) := by omega
    have hzd2 : decide ((0 : Int) < (Z.length : Int)) = true := decide_eq_true hzd
    obtain ⟨zb, zo, rfl, _, _, hzc⟩ := HI0.out.src.z.2 hzp
    have hzl0 : ∀ W : World, GtI w W (F.length : Int) (some ⟨bb, boff, none⟩) cap l AF AT (some ⟨zb, zo, none⟩) cF cT cZ lo hi F T Z → W.cell? ⟨zb, zo + (Z.length - 1), none⟩ = some (.int .i64 (Z.getD (Z.length - 1) 0)) := fun W hh => by
      obtain ⟨b', o', e', _, _, hc'⟩ := hh.src.z.2 hzp
      cases e'
      exact hc' (Z.length - 1) (by omega)
    have hzi : ((Z.length : Int) - 1) = ((Z.length - 1 : Nat) : Int) := by omega
    have hzi2 : ((Z.length - 1 : Nat) : Int) < (Z.length : Int) := by omega
    obtain ⟨zl, hzl1⟩ : ∃ zl, Z.getD (Z.length - 1) 0 = zl := ⟨_, rfl⟩
    rw [hzl1] at hzl0
    have HZL0 := Lib.hid hzl0
    clear hzc hzl0
    rw [hzl1] at hlt0
    have hle2 : ¬ (nn : Int) ≤ zl := by omega
    clear hzl1 c5
    cases rg with
    | none =>
      have HGC := Lib.hid (fun (W : World) (h1 : BarsAt W W.heap.size (some ⟨bb, boff, none⟩) l) (h2 : Peb3 W lo hi AF AT (some ⟨zb, zo, none⟩) F T Z) => show Calls Try.prog 127 _ W (fun e w' => Below W.heap.size W w' ∧ ∃ BF dF BT dT BZ dZ, e = .returned (.tuple #[pebV BF F.length dF BT T.length dT BZ Z.length dZ, .bool false])) from (gathS_c k l (some ⟨bb, boff, none⟩) cap AF AT (some ⟨zb, zo, none⟩) cF cT cZ lo hi F T Z a b (c + 1) W HP.out.state (by omega) (by omega) h24 (by omega) (fun i hi => (HP.out.2.2.2.2.1 i hi).1) (by omega) (by omega) (by omega) h1 h2).mono (by
        rintro e w' ⟨hb, BF, dF, BT, dT, BZ, dZ, ⟨rfl, _⟩ | ⟨s, _, hs, _⟩⟩
        · exact ⟨hb, _, _, _, _, _, _, rfl⟩
        · rw [HR.out] at hs; cases hs))
      go_enter Try.func34, Try.ntmps34
      go_wp2_with (first
        | (go_at_call 126; refine (copyPeb_c AF AT (some ⟨zb, zo, none⟩) cF cT cZ lo hi F T Z _ HI8.out.src hF hT hZ).mono ?_; rintro e w9 ⟨BF, dF, BT, dT, BZ, dZ, rfl, ho, hb7⟩; have HI9 := Lib.hid (HI8.out.below hb7); have HO7 := Lib.hid ho; obtain ⟨_, _, _, f0, f1, f2⟩ := HI9.out.rb.cells; have r3 := ret3 HI9.out.rb (.slice BF F.length dF) (.slice BT T.length dT) (.slice BZ Z.length dZ); obtain ⟨s0, s1, s2, _⟩ := r3.1.cells; have HW := Lib.hid r3.2; clear ho hb7 r3)
        | (go_at_call 127; have hbb := new_below w6 (.cells #[.int .i64 (a : Int), .int .i64 (b : Int)] 108); refine (HGC.out (w6.alloc (.cells #[.int .i64 (a : Int), .int .i64 (b : Int)] 108)) ((HI6.out.below hbb).bars.at) ((HI6.out.below hbb).src)).mono ?_; rintro e w7 ⟨hb, DF, eF, DT, eT, DZ, eZ, rfl⟩; have HI7 := Lib.hid ((HI6.out.below hbb).below hb); have hb8 := new_below w7 (.cells #[.slice DF F.length eF, .slice DT T.length eT, .slice DZ Z.length eZ] 31); have HI8 := Lib.hid (HI7.out.below hb8); have HLO8 := Lib.hid (Nat.le_trans HLO.out (Nat.le_trans hbb.size (Nat.le_trans hb.size hb8.size))); have HBX := Lib.hid (((box_new w6 (a : Int) (.int .i64 (b : Int)) 108).kept hb).kept hb8); obtain ⟨_, k0, k1⟩ := HBX.out; obtain ⟨u2, u3, u4, _, _, _⟩ := HI8.out.pb.cells; clear hb hb8 hbb v0 v1 v2 v3 v4 bc0 bc1)
        | (go_at_call 110; refine (specRange k c _).mono ?_; rintro e w9 ⟨rfl, rfl⟩; rw [HRG.out])
        | (go_at_call 39; refine (specIsPeb (F.length : Int) k l (some ⟨bb, boff, none⟩) cap AF AT (some ⟨zb, zo, none⟩) cF cT cZ lo hi F T Z _ HI0.out.bars.at HI0.out.src hn hF hT hZ HWF.out).mono ?_; rintro e w6 ⟨rfl, hb6⟩; rw [HB.out]; have HI6 := Lib.hid (HI0.out.below hb6); obtain ⟨_, v0, v1⟩ := HI6.out.gb; obtain ⟨v2, v3, v4, _, _, _⟩ := HI6.out.pb.cells; have hlo6 := hb6.size; have HLO := Lib.hid (show w.heap.size + 1 + 1 + 1 ≤ w6.heap.size by have := HS3.out; omega); have hzl := HZL0.out w6 HI6.out; obtain ⟨bc0, bc1⟩ := HBC.out w6 HI6.out; have nn1 : w.heap.size + 1 ≠ w6.heap.size := (by have := HLO.out; omega); have nn2 : w.heap.size ≠ w6.heap.size := (by have := HLO.out; omega); have nn3 : w.heap.size + 1 < w6.heap.size := (by have := HLO.out; omega); have nn4 : w.heap.size < w6.heap.size := (by have := HLO.out; omega); clear hlo6 hb6 g0 g1 x0 x1 x2))
      rw [HPL.out]
      refine bodyPost_ret (v := .tuple #[pebV BF F.length dF BT T.length dT BZ Z.length dZ, .bool false]) ?_ rfl ?_
      · simp [results, Try.results34, go_sem, s0, s1, s2]
      · have hg := HI9.out.bel
        have hlo6 := HI8.out.bel.size
        have hsw := HW.out.size
        exact ⟨_, _, _, _, _, _, rfl, (HO7.out.own3.within HW.out (.inr HLO8.out)).widen (by omega) (by omega) (Nat.le_refl _), within_on hg HW.out hg.size (.inl (by omega))⟩
    | some s =>
      have HGC := Lib.hid (fun (W : World) (h1 : BarsAt W W.heap.size (some ⟨bb, boff, none⟩) l) (h2 : Peb3 W lo hi AF AT (some ⟨zb, zo, none⟩) F T Z) => show Calls Try.prog 127 _ W (fun e w' => Below W.heap.size W w' ∧ ∃ BF dF BT dT BZ dZ, e = .returned (.tuple #[pebV BF s.1.length dF BT s.2.length dT BZ Z.length dZ, .bool true]) ∧ s.1.length = F.length ∧ s.2.length = T.length ∧ Own3R w' W.heap.size w'.heap.size BF dF BT dT BZ dZ s.1 s.2 Z) from (gathS_c k l (some ⟨bb, boff, none⟩) cap AF AT (some ⟨zb, zo, none⟩) cF cT cZ lo hi F T Z a b (c + 1) W HP.out.state (by omega) (by omega) h24 (by omega) (fun i hi => (HP.out.2.2.2.2.1 i hi).1) (by omega) (by omega) (by omega) h1 h2).mono (by
        rintro e w' ⟨hb, BF, dF, BT, dT, BZ, dZ, ⟨_, hs⟩ | ⟨s2, rfl, hs, h1, h2, ho⟩⟩
        · rw [HR.out] at hs; cases hs
        · rw [HR.out] at hs
          cases hs
          exact ⟨hb, _, _, _, _, _, _, by rw [h1, h2], h1, h2, ho⟩))
      obtain ⟨d1, hd1⟩ : ∃ d1, s.1.getD a 0 = d1 := ⟨_, rfl⟩
      obtain ⟨d2, hd2⟩ : ∃ d2, s.1.getD b 0 = d2 := ⟨_, rfl⟩
      have HDA := Lib.hid hd1
      have HDB := Lib.hid hd2
      clear hd1 hd2
      by_cases c0 : d1 = 0
      · have e1 : (d1 == 0) = true := by simpa using c0
        go_enter Try.func34, Try.ntmps34
        go_wp2_with (first
          | (go_at_call 127; have hbb := new_below w6 (.cells #[.int .i64 (a : Int), .int .i64 (b : Int)] 108); refine (HGC.out (w6.alloc (.cells #[.int .i64 (a : Int), .int .i64 (b : Int)] 108)) ((HI6.out.below hbb).bars.at) ((HI6.out.below hbb).src)).mono ?_; rintro e w7 ⟨hb, DF, eF, DT, eT, DZ, eZ, rfl, hl1, hl2, ho⟩; have HI7 := Lib.hid ((HI6.out.below hbb).below hb); have hb8 := new_below w7 (.cells #[.slice DF s.1.length eF, .slice DT s.2.length eT, .slice DZ Z.length eZ] 31); have HI8 := Lib.hid (HI7.out.below hb8); have HLO8 := Lib.hid (Nat.le_trans HLO.out (Nat.le_trans hbb.size (Nat.le_trans hb.size hb8.size))); have HBX := Lib.hid (((box_new w6 (a : Int) (.int .i64 (b : Int)) 108).kept hb).kept hb8); obtain ⟨_, k0, k1⟩ := HBX.out; have HX8 := Lib.hid (cel3_new w7 (.slice DF s.1.length eF) (.slice DT s.2.length eT) (.slice DZ Z.length eZ) 31); obtain ⟨f, t, z, hof, y1, y2, y3⟩ := ho.ownF; have HF8 := Lib.hid (hof.below hb8); have hz6 : (w6.alloc (.cells #[.int .i64 (a : Int), .int .i64 (b : Int)] 108)).heap.size = w6.heap.size + 1 := (by simp); have HLY := Lib.hid (show (w6.heap.size + 1 ≤ f.1 ∧ f.2 ≤ w7.heap.size) ∧ (w6.heap.size + 1 ≤ t.1 ∧ t.2 ≤ w7.heap.size) ∧ (w6.heap.size + 1 ≤ z.1 ∧ z.2 ≤ w7.heap.size) from by omega); have HLL := Lib.hid (And.intro hl1 hl2); obtain ⟨hq, _⟩ := gathR_ok (P := F.length) (by omega) (by omega) (by omega) HP.out.state HR.out; have hfl := hq.flen; have hsa := hq.small (v := (a : Int)) (by omega); have hsb := hq.small (v := (b : Int)) (by omega); rw [Int.toNat_natCast] at hsa hsb; obtain ⟨gF, rfl, g1', g2', hFr⟩ := hof.1.open_ (by omega); have hFr8 := own_below hFr hb8; have ha1 := (hFr8.cellAt a (by omega)).trans (intCells_get s.1 a (by omega)); have HFR := Lib.hid hFr8; have HG12 := Lib.hid (And.intro g1' g2'); have HQS := Lib.hid (And.intro hsa hsb); have HFL := Lib.hid hfl; obtain ⟨j0, j1, j2, _, _, _⟩ := HX8.out.cells; rw [HDA.out] at ha1; have hsla : (a : Int) < (s.1.length : Int) := (by omega); clear hof y1 y2 y3 hz6 hl1 hl2 hq hfl hsa hsb hFr hFr8 g1' g2' ho hb hb8 hbb v0 v1 v2 v3 v4 bc0 bc1)
          | (go_at_call 110; refine (specRange k c _).mono ?_; rintro e w9 ⟨rfl, rfl⟩; rw [HRG.out])
          | (go_at_call 39; refine (specIsPeb (F.length : Int) k l (some ⟨bb, boff, none⟩) cap AF AT (some ⟨zb, zo, none⟩) cF cT cZ lo hi F T Z _ HI0.out.bars.at HI0.out.src hn hF hT hZ HWF.out).mono ?_; rintro e w6 ⟨rfl, hb6⟩; rw [HB.out]; have HI6 := Lib.hid (HI0.out.below hb6); obtain ⟨_, v0, v1⟩ := HI6.out.gb; obtain ⟨v2, v3, v4, _, _, _⟩ := HI6.out.pb.cells; have hlo6 := hb6.size; have HLO := Lib.hid (show w.heap.size + 1 + 1 + 1 ≤ w6.heap.size by have := HS3.out; omega); have hzl := HZL0.out w6 HI6.out; obtain ⟨bc0, bc1⟩ := HBC.out w6 HI6.out; have nn1 : w.heap.size + 1 ≠ w6.heap.size := (by have := HLO.out; omega); have nn2 : w.heap.size ≠ w6.heap.size := (by have := HLO.out; omega); have nn3 : w.heap.size + 1 < w6.heap.size := (by have := HLO.out; omega); have nn4 : w.heap.size < w6.heap.size := (by have := HLO.out; omega); clear hlo6 hb6 g0 g1 x0 x1 x2))
        have hw8 : w7.heap.size < (w7.alloc (.cells #[.slice (some ⟨gF, 0, none⟩) s.1.length eF, .slice DT s.2.length eT, .slice DZ Z.length eZ] 31)).heap.size := by simp
        have hbxl : w.heap.size + 1 + 1 + 1 ≤ w7.heap.size := by have := HLY.out; have := HG12.out; have := HLO.out; omega
        have HBXL := Lib.hid hbxl
        obtain ⟨t', z', hn8, m1, m2, m3, m4, m5, m6⟩ := HF8.out.norm (B := w.heap.size + 3) (pb := w7.heap.size) (by omega) hw8 (by have := HLY.out; have := HLO.out; omega) (by have := HLY.out; have := HLO.out; omega) (.inr HLY.out.2.1.2) (.inr HLY.out.2.2.2)
        have HF9 := Lib.hid hn8
        have HPB := Lib.hid (And.intro m3 m4)
        have HLT := Lib.hid (And.intro m5 m6)
        have HLZ := Lib.hid (show w.heap.size + 3 ≤ f.1 ∧ w.heap.size + 3 ≤ t'.1 ∧ w.heap.size + 3 ≤ z'.1 ∧ gF < w7.heap.size ∧ f.2 ≤ w7.heap.size from ⟨by have := HLY.out; have := HLO.out; omega, m1, m2, by have := HLY.out; have := HG12.out; omega, HLY.out.1.2⟩)
        have HGW := Lib.hid (show w6.heap.size < gF from by have := HLY.out; have := HG12.out; omega)
        clear hbxl m1 m2 m3 m4 m5 m6 hn8 HF8 HLY
        clear ha1 j0 j1 j2 k0 k1
        generalize (w7.alloc (.cells #[.slice (some ⟨gF, 0, none⟩) s.1.length eF, .slice DT s.2.length eT, .slice DZ Z.length eZ] 31)) = w8 at *
        generalize hbx : w7.heap.size = bx at *
        have hw4 := within_set w8 gF b (.int .i64 (d2 - 1))
        have hdr : Below (w8.setCell ⟨gF, b, none⟩ (.int .i64 (d2 - 1))).heap.size (w8.setCell ⟨gF, b, none⟩ (.int .i64 (d2 - 1))) (w8.setCell ⟨gF, b, none⟩ (.int .i64 (d2 - 1))).drew := (Below.refl _ _).drew
        obtain ⟨o1, o2, o3, d1', d2', d3'⟩ := HF9.out
        have HXX := Lib.hid (And.intro d1' (And.intro d2' d3'))
        unfold Dis at d1' d2' d3'
        have hg12 := HG12.out
        have hly := HLZ.out
        have HT4 := Lib.hid ((o2.within hw4 (by omega)).within (within_of hdr) (.inr (Nat.zero_le _)))
        have HZ4 := Lib.hid ((o3.within hw4 (by omega)).within (within_of hdr) (.inr (Nat.zero_le _)))
        have HFR4 := Lib.hid (show World.ownsRow (w8.setCell ⟨gF, b, none⟩ (.int .i64 (d2 - 1))).drew 0 3 1 (.slice (some ⟨gF, 0, none⟩) (s.1.set b (d2 - 1)).length eF) (s.1.set b (d2 - 1)).length (intCells (s.1.set b (d2 - 1))) from by
          have h1 := (HFR.out.stored b (.int .i64 (d2 - 1))).1
          rw [intCells_set] at h1
          rw [List.length_set]
          exact own_below h1 hdr)
        have HX4 := Lib.hid ((HX8.out.within hw4 (by omega)).kept hdr)
        have HI4 := Lib.hid ((HI8.out.within hw4 (by have := HLO.out; omega) (by have := HHI.out; have := HLO.out; omega)).below hdr)
        have hs9 : (w8.setCell ⟨gF, b, none⟩ (.int .i64 (d2 - 1))).drew.heap.size = w8.heap.size := (by simp)
        have hb9 := HBX.out
        have hb9' := (hb9.within hw4 (by have := HGW.out; omega)).kept hdr
        have HBX4 := Lib.hid hb9'
        have hvi := (HFR.out.cellAt b (by have := HFL.out; omega)).trans (intCells_get s.1 b (by have := HFL.out; omega))
        rw [HDB.out] at hvi
        have hvf := HFR.out.frozenAt b
        have hsl : (b : Int) < (s.1.length : Int) := by have := HFL.out; omega
        obtain ⟨j0, j1, j2, _, _, _⟩ := HX8.out.cells
        have hsv : 0 ≤ d2 ∧ d2 ≤ k := by have := HQS.out; rw [HDA.out, HDB.out] at this; omega
        clear o1 o2 o3 d1' d2' d3' hw4 hdr hb9 hb9' hg12 hly
        go_region
        have HSZ := Lib.hid hs9
        clear hs9
        clear hvi hvf j0 j1 j2
        obtain ⟨m0, m1, m2, m3, m4, m5⟩ := HX4.out.cells
        have HTW := Lib.hid (show t'.1 ≤ ((w8.setCell ⟨gF, b, none⟩ (.int .i64 (d2 - 1))).drew).heap.size from by have := HLT.out; have := HSZ.out; omega)
        have HZV := Lib.hid (show z'.1 ≤ ((w8.setCell ⟨gF, b, none⟩ (.int .i64 (d2 - 1))).drew).heap.size from by have := HLT.out; have := HSZ.out; omega)
        have hpt : bx < t'.1 ∨ t'.2 ≤ bx := HPB.out.1
        have hpz : bx < z'.1 ∨ z'.2 ≤ bx := HPB.out.2
        have hTl : s.2.length ≤ 24 := by have := HLL.out.2; omega
        go_wp2_with (first
          | (at_builtin; refine wpList_pushR _ rfl _ _ rfl z'.1 z'.2 DZ eZ Z (nn : Int) rfl HZ6.out _ (by first | rfl | (simp only [World.size_setCell]; rfl)) (by omega) HZW.out ?_; intro A7 c7 w17 lo7 hi7 hr7 hor7 hw7; have HR7 := Lib.hid hr7; have HOR7 := Lib.hid hor7; have HW7 := Lib.hid hw7; have HX7 := Lib.hid (HX6.out.within hw7 hpz); have HXE := Lib.hid (HX7.out.set2 (.slice A7 (Z.length + 1) c7)); have HI17 := Lib.hid ((HI16.out.within hw7 (by have := HLO.out; have := HLZ.out; omega) (by have := HHI.out; have := HLO.out; have := HLZ.out; omega)).within (within_set w17 bx 2 (.slice A7 (Z.length + 1) c7)) (by have := HBXL.out; omega) (by have := HBXL.out; have := HHI.out; omega)); obtain ⟨r0, r1, r2, r3, r4, r5⟩ := HX7.out.cells; obtain ⟨z0, z1, z2, _, _, _⟩ := HXE.out.cells; obtain ⟨_, _, _, f0, f1, f2⟩ := HI17.out.rb.cells; have rr3 := ret3 HI17.out.rb (.slice (some ⟨gF, 0, none⟩) s.1.length eF) (.slice A5 (s.2.length + 1) c5) (.slice A7 (Z.length + 1) c7); obtain ⟨s0, s1, s2, _⟩ := rr3.1.cells; have HW := Lib.hid rr3.2; clear rr3 hr7 hor7 hw7)
          | (at_builtin; refine wpList_pushR _ rfl _ _ rfl t'.1 t'.2 DT eT s.2 (b : Int) rfl HT4.out _ (by first | rfl | (simp only [World.size_setCell]; rfl) | (show _ = Value.slice (some ⟨(w8.setCell _ _).heap.size, 0, none⟩) 1 1; simp only [World.size_setCell]; rfl)) (by omega) HTW.out ?_; intro A5 c5 w15 lo5 hi5 hr5 hor5 hw5; have HR5 := Lib.hid hr5; have HOR5 := Lib.hid hor5; have HW5 := Lib.hid hw5; have HX5 := Lib.hid (HX4.out.within hw5 hpt); have HX6 := Lib.hid (HX5.out.set1 (.slice A5 (s.2.length + 1) c5)); have HI16 := Lib.hid ((HI4.out.within hw5 (by have := HLO.out; have := HLZ.out; omega) (by have := HHI.out; have := HLO.out; have := HLZ.out; omega)).within (within_set w15 bx 1 (.slice A5 (s.2.length + 1) c5)) (by have := HBXL.out; omega) (by have := HBXL.out; have := HHI.out; omega)); have HZ6 := Lib.hid ((HZ4.out.within hw5 (by have := HXX.out.2.2; unfold Dis at this; omega)).within (within_set w15 bx 1 (.slice A5 (s.2.length + 1) c5)) (by omega)); have HZW := Lib.hid (show z'.1 ≤ (w15.setCell ⟨bx, 1, none⟩ (.slice A5 (s.2.length + 1) c5)).heap.size from by rw [World.size_setCell]; exact Nat.le_trans HZV.out hw5.size); obtain ⟨p0, p1, p2, p3, p4, p5⟩ := HX5.out.cells; obtain ⟨u0, u1, u2, u3, u4, u5⟩ := HX6.out.cells; clear hr5 hor5 hw5))
        rw [HPL.out]
        rw [Option.map_some, if_pos (HDA.out.trans c0)]
        rw [HDB.out]
        refine bodyPost_ret (v := .tuple #[pebV (some ⟨gF, 0, none⟩) s.1.length eF A5 (s.2.length + 1) c5 A7 (Z.length + 1) c7, .bool true]) ?_ rfl ?_
        · simp [results, Try.results34, go_sem, s0, s1, s2]
        · have hr5 := HR5.out
          have hr7 := HR7.out
          have hor5 := HOR5.out
          have hor7 := HOR7.out
          have w5w := HW5.out
          have w7w := HW7.out
          have xx := HXX.out
          have hz := HLZ.out
          have hbl := HBXL.out
          have q5 := within_set w15 bx 1 (.slice A5 (s.2.length + 1) c5)
          have q7 := within_set w17 bx 2 (.slice A7 (Z.length + 1) c7)
          have hw := HW.out
          have s5 := w5w.size
          have s6 := q5.size
          have s7 := w7w.size
          have s8 := q7.size
          have s9 := hw.size
          have g12 := HG12.out
          have hsz := HSZ.out
          have hhi := HF9.out.hi
          unfold Dis at xx
          have hgb : gF ≠ bx := by omega
          have hfl := (HFR4.out.lt gF rfl).2
          have hf8 := own_block (own_block (own_block (own_block (own_block HFR4.out (w5w.block gF hfl (by omega))) (q5.block gF (by omega) (by omega))) (w7w.block gF (by omega) (by omega))) (q7.block gF (by omega) (by omega))) (hw.block gF (by omega) (by omega))
          have ht8 := (((hr5.within q5 (by omega)).within w7w (by omega)).within q7 (by omega)).within hw (by omega)
          have hz8 := (hr7.within q7 (by omega)).within hw (by omega)
          have hof : OwnF _ f (lo5, hi5) (lo7, hi7) (some ⟨gF, 0, none⟩) eF A5 c5 A7 c7 (s.1.set b (d2 - 1)) (s.2 ++ [(b : Int)]) (Z ++ [(nn : Int)]) := ⟨⟨by show f.2 ≤ _; omega, .inr ⟨gF, rfl, g12.1, g12.2, own_rebase hf8 g12.1⟩⟩, ht8, hz8, by unfold Dis; show f.2 ≤ lo5 ∨ hi5 ≤ f.1; omega, by unfold Dis; show f.2 ≤ lo7 ∨ hi7 ≤ f.1; omega, by unfold Dis; show hi5 ≤ lo7 ∨ hi7 ≤ lo5; omega⟩
          have hg := HI17.out.bel
          exact ⟨_, _, _, _, _, _, by show _ = Ending.returned (.tuple #[pebV _ (s.1.set b (d2 - 1)).length _ _ (s.2 ++ [(b : Int)]).length _ _ (Z ++ [(nn : Int)]).length _, .bool true]); rw [List.length_set, List.length_append, List.length_append]; rfl, hof.own3 (lo := w.heap.size) ⟨by omega, hof.hi.1⟩ ⟨by show w.heap.size ≤ lo5; omega, hof.hi.2.1⟩ ⟨by show w.heap.size ≤ lo7; omega, hof.hi.2.2⟩ (Nat.le_refl _), within_on hg hw hg.size (.inl (by omega))⟩
      · have e1 : (d1 == 0) = false := by simpa using c0
        go_enter Try.func34, Try.ntmps34
        go_wp2_with (first
          | (go_at_call 127; have hbb := new_below w6 (.cells #[.int .i64 (a : Int), .int .i64 (b : Int)] 108); refine (HGC.out (w6.alloc (.cells #[.int .i64 (a : Int), .int .i64 (b : Int)] 108)) ((HI6.out.below hbb).bars.at) ((HI6.out.below hbb).src)).mono ?_; rintro e w7 ⟨hb, DF, eF, DT, eT, DZ, eZ, rfl, hl1, hl2, ho⟩; have HI7 := Lib.hid ((HI6.out.below hbb).below hb); have hb8 := new_below w7 (.cells #[.slice DF s.1.length eF, .slice DT s.2.length eT, .slice DZ Z.length eZ] 31); have HI8 := Lib.hid (HI7.out.below hb8); have HLO8 := Lib.hid (Nat.le_trans HLO.out (Nat.le_trans hbb.size (Nat.le_trans hb.size hb8.size))); have HBX := Lib.hid (((box_new w6 (a : Int) (.int .i64 (b : Int)) 108).kept hb).kept hb8); obtain ⟨_, k0, k1⟩ := HBX.out; have HX8 := Lib.hid (cel3_new w7 (.slice DF s.1.length eF) (.slice DT s.2.length eT) (.slice DZ Z.length eZ) 31); obtain ⟨f, t, z, hof, y1, y2, y3⟩ := ho.ownF; have HF8 := Lib.hid (hof.below hb8); have hz6 : (w6.alloc (.cells #[.int .i64 (a : Int), .int .i64 (b : Int)] 108)).heap.size = w6.heap.size + 1 := (by simp); have HLY := Lib.hid (show (w6.heap.size + 1 ≤ f.1 ∧ f.2 ≤ w7.heap.size) ∧ (w6.heap.size + 1 ≤ t.1 ∧ t.2 ≤ w7.heap.size) ∧ (w6.heap.size + 1 ≤ z.1 ∧ z.2 ≤ w7.heap.size) from by omega); have HLL := Lib.hid (And.intro hl1 hl2); obtain ⟨hq, _⟩ := gathR_ok (P := F.length) (by omega) (by omega) (by omega) HP.out.state HR.out; have hfl := hq.flen; have hsa := hq.small (v := (a : Int)) (by omega); have hsb := hq.small (v := (b : Int)) (by omega); rw [Int.toNat_natCast] at hsa hsb; obtain ⟨gF, rfl, g1', g2', hFr⟩ := hof.1.open_ (by omega); have hFr8 := own_below hFr hb8; have ha1 := (hFr8.cellAt a (by omega)).trans (intCells_get s.1 a (by omega)); have HFR := Lib.hid hFr8; have HG12 := Lib.hid (And.intro g1' g2'); have HQS := Lib.hid (And.intro hsa hsb); have HFL := Lib.hid hfl; obtain ⟨j0, j1, j2, _, _, _⟩ := HX8.out.cells; rw [HDA.out] at ha1; have hsla : (a : Int) < (s.1.length : Int) := (by omega); clear hof y1 y2 y3 hz6 hl1 hl2 hq hfl hsa hsb hFr hFr8 g1' g2' ho hb hb8 hbb v0 v1 v2 v3 v4 bc0 bc1)
          | (go_at_call 110; refine (specRange k c _).mono ?_; rintro e w9 ⟨rfl, rfl⟩; rw [HRG.out])
          | (go_at_call 39; refine (specIsPeb (F.length : Int) k l (some ⟨bb, boff, none⟩) cap AF AT (some ⟨zb, zo, none⟩) cF cT cZ lo hi F T Z _ HI0.out.bars.at HI0.out.src hn hF hT hZ HWF.out).mono ?_; rintro e w6 ⟨rfl, hb6⟩; rw [HB.out]; have HI6 := Lib.hid (HI0.out.below hb6); obtain ⟨_, v0, v1⟩ := HI6.out.gb; obtain ⟨v2, v3, v4, _, _, _⟩ := HI6.out.pb.cells; have hlo6 := hb6.size; have HLO := Lib.hid (show w.heap.size + 1 + 1 + 1 ≤ w6.heap.size by have := HS3.out; omega); have hzl := HZL0.out w6 HI6.out; obtain ⟨bc0, bc1⟩ := HBC.out w6 HI6.out; have nn1 : w.heap.size + 1 ≠ w6.heap.size := (by have := HLO.out; omega); have nn2 : w.heap.size ≠ w6.heap.size := (by have := HLO.out; omega); have nn3 : w.heap.size + 1 < w6.heap.size := (by have := HLO.out; omega); have nn4 : w.heap.size < w6.heap.size := (by have := HLO.out; omega); clear hlo6 hb6 g0 g1 x0 x1 x2))
        have hw8 : w7.heap.size < (w7.alloc (.cells #[.slice (some ⟨gF, 0, none⟩) s.1.length eF, .slice DT s.2.length eT, .slice DZ Z.length eZ] 31)).heap.size := by simp
        have hbxl : w.heap.size + 1 + 1 + 1 ≤ w7.heap.size := by have := HLY.out; have := HG12.out; have := HLO.out; omega
        have HBXL := Lib.hid hbxl
        obtain ⟨t', z', hn8, m1, m2, m3, m4, m5, m6⟩ := HF8.out.norm (B := w.heap.size + 3) (pb := w7.heap.size) (by omega) hw8 (by have := HLY.out; have := HLO.out; omega) (by have := HLY.out; have := HLO.out; omega) (.inr HLY.out.2.1.2) (.inr HLY.out.2.2.2)
        have HF9 := Lib.hid hn8
        have HPB := Lib.hid (And.intro m3 m4)
        have HLT := Lib.hid (And.intro m5 m6)
        have HLZ := Lib.hid (show w.heap.size + 3 ≤ f.1 ∧ w.heap.size + 3 ≤ t'.1 ∧ w.heap.size + 3 ≤ z'.1 ∧ gF < w7.heap.size ∧ f.2 ≤ w7.heap.size from ⟨by have := HLY.out; have := HLO.out; omega, m1, m2, by have := HLY.out; have := HG12.out; omega, HLY.out.1.2⟩)
        have HGW := Lib.hid (show w6.heap.size < gF from by have := HLY.out; have := HG12.out; omega)
        clear hbxl m1 m2 m3 m4 m5 m6 hn8 HF8 HLY
        clear ha1 j0 j1 j2 k0 k1
        generalize (w7.alloc (.cells #[.slice (some ⟨gF, 0, none⟩) s.1.length eF, .slice DT s.2.length eT, .slice DZ Z.length eZ] 31)) = w8 at *
        generalize hbx : w7.heap.size = bx at *
        have hw4 := within_set w8 gF a (.int .i64 (d1 - 1))
        have hdr : Below (w8.setCell ⟨gF, a, none⟩ (.int .i64 (d1 - 1))).heap.size (w8.setCell ⟨gF, a, none⟩ (.int .i64 (d1 - 1))) (w8.setCell ⟨gF, a, none⟩ (.int .i64 (d1 - 1))).drew := (Below.refl _ _).drew
        obtain ⟨o1, o2, o3, d1', d2', d3'⟩ := HF9.out
        have HXX := Lib.hid (And.intro d1' (And.intro d2' d3'))
        unfold Dis at d1' d2' d3'
        have hg12 := HG12.out
        have hly := HLZ.out
        have HT4 := Lib.hid ((o2.within hw4 (by omega)).within (within_of hdr) (.inr (Nat.zero_le _)))
        have HZ4 := Lib.hid ((o3.within hw4 (by omega)).within (within_of hdr) (.inr (Nat.zero_le _)))
        have HFR4 := Lib.hid (show World.ownsRow (w8.setCell ⟨gF, a, none⟩ (.int .i64 (d1 - 1))).drew 0 3 1 (.slice (some ⟨gF, 0, none⟩) (s.1.set a (d1 - 1)).length eF) (s.1.set a (d1 - 1)).length (intCells (s.1.set a (d1 - 1))) from by
          have h1 := (HFR.out.stored a (.int .i64 (d1 - 1))).1
          rw [intCells_set] at h1
          rw [List.length_set]
          exact own_below h1 hdr)
        have HX4 := Lib.hid ((HX8.out.within hw4 (by omega)).kept hdr)
        have HI4 := Lib.hid ((HI8.out.within hw4 (by have := HLO.out; omega) (by have := HHI.out; have := HLO.out; omega)).below hdr)
        have hs9 : (w8.setCell ⟨gF, a, none⟩ (.int .i64 (d1 - 1))).drew.heap.size = w8.heap.size := (by simp)
        have hb9 := HBX.out
        have hb9' := (hb9.within hw4 (by have := HGW.out; omega)).kept hdr
        have HBX4 := Lib.hid hb9'
        have hvi := (HFR.out.cellAt a (by have := HFL.out; omega)).trans (intCells_get s.1 a (by have := HFL.out; omega))
        rw [HDA.out] at hvi
        have hvf := HFR.out.frozenAt a
        have hsl : (a : Int) < (s.1.length : Int) := by have := HFL.out; omega
        obtain ⟨j0, j1, j2, _, _, _⟩ := HX8.out.cells
        have hsv : 0 ≤ d1 ∧ d1 ≤ k := by have := HQS.out; rw [HDA.out, HDB.out] at this; omega
        clear o1 o2 o3 d1' d2' d3' hw4 hdr hb9 hb9' hg12 hly
        go_region
        have HSZ := Lib.hid hs9
        clear hs9
        clear hvi hvf j0 j1 j2
        obtain ⟨m0, m1, m2, m3, m4, m5⟩ := HX4.out.cells
        have HTW := Lib.hid (show t'.1 ≤ ((w8.setCell ⟨gF, a, none⟩ (.int .i64 (d1 - 1))).drew).heap.size from by have := HLT.out; have := HSZ.out; omega)
        have HZV := Lib.hid (show z'.1 ≤ ((w8.setCell ⟨gF, a, none⟩ (.int .i64 (d1 - 1))).drew).heap.size from by have := HLT.out; have := HSZ.out; omega)
        have hpt : bx < t'.1 ∨ t'.2 ≤ bx := HPB.out.1
        have hpz : bx < z'.1 ∨ z'.2 ≤ bx := HPB.out.2
        have hTl : s.2.length ≤ 24 := by have := HLL.out.2; omega
        go_wp2_with (first
          | (at_builtin; refine wpList_pushR _ rfl _ _ rfl z'.1 z'.2 DZ eZ Z (nn : Int) rfl HZ6.out _ (by first | rfl | (simp only [World.size_setCell]; rfl)) (by omega) HZW.out ?_; intro A7 c7 w17 lo7 hi7 hr7 hor7 hw7; have HR7 := Lib.hid hr7; have HOR7 := Lib.hid hor7; have HW7 := Lib.hid hw7; have HX7 := Lib.hid (HX6.out.within hw7 hpz); have HXE := Lib.hid (HX7.out.set2 (.slice A7 (Z.length + 1) c7)); have HI17 := Lib.hid ((HI16.out.within hw7 (by have := HLO.out; have := HLZ.out; omega) (by have := HHI.out; have := HLO.out; have := HLZ.out; omega)).within (within_set w17 bx 2 (.slice A7 (Z.length + 1) c7)) (by have := HBXL.out; omega) (by have := HBXL.out; have := HHI.out; omega)); obtain ⟨r0, r1, r2, r3, r4, r5⟩ := HX7.out.cells; obtain ⟨z0, z1, z2, _, _, _⟩ := HXE.out.cells; obtain ⟨_, _, _, f0, f1, f2⟩ := HI17.out.rb.cells; have rr3 := ret3 HI17.out.rb (.slice (some ⟨gF, 0, none⟩) s.1.length eF) (.slice A5 (s.2.length + 1) c5) (.slice A7 (Z.length + 1) c7); obtain ⟨s0, s1, s2, _⟩ := rr3.1.cells; have HW := Lib.hid rr3.2; clear rr3 hr7 hor7 hw7)
          | (at_builtin; refine wpList_pushR _ rfl _ _ rfl t'.1 t'.2 DT eT s.2 (a : Int) rfl HT4.out _ (by first | rfl | (simp only [World.size_setCell]; rfl) | (show _ = Value.slice (some ⟨(w8.setCell _ _).heap.size, 0, none⟩) 1 1; simp only [World.size_setCell]; rfl)) (by omega) HTW.out ?_; intro A5 c5 w15 lo5 hi5 hr5 hor5 hw5; have HR5 := Lib.hid hr5; have HOR5 := Lib.hid hor5; have HW5 := Lib.hid hw5; have HX5 := Lib.hid (HX4.out.within hw5 hpt); have HX6 := Lib.hid (HX5.out.set1 (.slice A5 (s.2.length + 1) c5)); have HI16 := Lib.hid ((HI4.out.within hw5 (by have := HLO.out; have := HLZ.out; omega) (by have := HHI.out; have := HLO.out; have := HLZ.out; omega)).within (within_set w15 bx 1 (.slice A5 (s.2.length + 1) c5)) (by have := HBXL.out; omega) (by have := HBXL.out; have := HHI.out; omega)); have HZ6 := Lib.hid ((HZ4.out.within hw5 (by have := HXX.out.2.2; unfold Dis at this; omega)).within (within_set w15 bx 1 (.slice A5 (s.2.length + 1) c5)) (by omega)); have HZW := Lib.hid (show z'.1 ≤ (w15.setCell ⟨bx, 1, none⟩ (.slice A5 (s.2.length + 1) c5)).heap.size from by rw [World.size_setCell]; exact Nat.le_trans HZV.out hw5.size); obtain ⟨p0, p1, p2, p3, p4, p5⟩ := HX5.out.cells; obtain ⟨u0, u1, u2, u3, u4, u5⟩ := HX6.out.cells; clear hr5 hor5 hw5))
        rw [HPL.out]
        rw [Option.map_some, if_neg (fun e => c0 (HDA.out.symm.trans e))]
        rw [HDA.out]
        refine bodyPost_ret (v := .tuple #[pebV (some ⟨gF, 0, none⟩) s.1.length eF A5 (s.2.length + 1) c5 A7 (Z.length + 1) c7, .bool true]) ?_ rfl ?_
        · simp [results, Try.results34, go_sem, s0, s1, s2]
        · have hr5 := HR5.out
          have hr7 := HR7.out
          have hor5 := HOR5.out
          have hor7 := HOR7.out
          have w5w := HW5.out
          have w7w := HW7.out
          have xx := HXX.out
          have hz := HLZ.out
          have hbl := HBXL.out
          have q5 := within_set w15 bx 1 (.slice A5 (s.2.length + 1) c5)
          have q7 := within_set w17 bx 2 (.slice A7 (Z.length + 1) c7)
          have hw := HW.out
          have s5 := w5w.size
          have s6 := q5.size
          have s7 := w7w.size
          have s8 := q7.size
          have s9 := hw.size
          have g12 := HG12.out
          have hsz := HSZ.out
          have hhi := HF9.out.hi
          unfold Dis at xx
          have hgb : gF ≠ bx := by omega
          have hfl := (HFR4.out.lt gF rfl).2
          have hf8 := own_block (own_block (own_block (own_block (own_block HFR4.out (w5w.block gF hfl (by omega))) (q5.block gF (by omega) (by omega))) (w7w.block gF (by omega) (by omega))) (q7.block gF (by omega) (by omega))) (hw.block gF (by omega) (by omega))
          have ht8 := (((hr5.within q5 (by omega)).within w7w (by omega)).within q7 (by omega)).within hw (by omega)
          have hz8 := (hr7.within q7 (by omega)).within hw (by omega)
          have hof : OwnF _ f (lo5, hi5) (lo7, hi7) (some ⟨gF, 0, none⟩) eF A5 c5 A7 c7 (s.1.set a (d1 - 1)) (s.2 ++ [(a : Int)]) (Z ++ [(nn : Int)]) := ⟨⟨by show f.2 ≤ _; omega, .inr ⟨gF, rfl, g12.1, g12.2, own_rebase hf8 g12.1⟩⟩, ht8, hz8, by unfold Dis; show f.2 ≤ lo5 ∨ hi5 ≤ f.1; omega, by unfold Dis; show f.2 ≤ lo7 ∨ hi7 ≤ f.1; omega, by unfold Dis; show hi5 ≤ lo7 ∨ hi7 ≤ lo5; omega⟩
          have hg := HI17.out.bel
          exact ⟨_, _, _, _, _, _, by show _ = Ending.returned (.tuple #[pebV _ (s.1.set a (d1 - 1)).length _ _ (s.2 ++ [(a : Int)]).length _ _ (Z ++ [(nn : Int)]).length _, .bool true]); rw [List.length_set, List.length_append, List.length_append]; rfl, hof.own3 (lo := w.heap.size) ⟨by omega, hof.hi.1⟩ ⟨by show w.heap.size ≤ lo5; omega, hof.hi.2.1⟩ ⟨by show w.heap.size ≤ lo7; omega, hof.hi.2.2⟩ (Nat.le_refl _), within_on hg hw hg.size (.inl (by omega))⟩
  · have hz0 : Z.length = 0 := by omega
    have hzd : ¬ (0 : Int) < (Z.length : Int) := by omega
    clear hz0 c5
    cases rg with
    | none =>
      have HGC := Lib.hid (fun (W : World) (h1 : BarsAt W W.heap.size (some ⟨bb, boff, none⟩) l) (h2 : Peb3 W lo hi AF AT AZ F T Z) => show Calls Try.prog 127 _ W (fun e w' => Below W.heap.size W w' ∧ ∃ BF dF BT dT BZ dZ, e = .returned (.tuple #[pebV BF F.length dF BT T.length dT BZ Z.length dZ, .bool false])) from (gathS_c k l (some ⟨bb, boff, none⟩) cap AF AT AZ cF cT cZ lo hi F T Z a b (c + 1) W HP.out.state (by omega) (by omega) h24 (by omega) (fun i hi => (HP.out.2.2.2.2.1 i hi).1) (by omega) (by omega) (by omega) h1 h2).mono (by
        rintro e w' ⟨hb, BF, dF, BT, dT, BZ, dZ, ⟨rfl, _⟩ | ⟨s, _, hs, _⟩⟩
        · exact ⟨hb, _, _, _, _, _, _, rfl⟩
        · rw [HR.out] at hs; cases hs))
      go_enter Try.func34, Try.ntmps34
      go_wp2_with (first
        | (go_at_call 126; refine (copyPeb_c AF AT AZ cF cT cZ lo hi F T Z _ HI8.out.src hF hT hZ).mono ?_; rintro e w9 ⟨BF, dF, BT, dT, BZ, dZ, rfl, ho, hb7⟩; have HI9 := Lib.hid (HI8.out.below hb7); have HO7 := Lib.hid ho; obtain ⟨_, _, _, f0, f1, f2⟩ := HI9.out.rb.cells; have r3 := ret3 HI9.out.rb (.slice BF F.length dF) (.slice BT T.length dT) (.slice BZ Z.length dZ); obtain ⟨s0, s1, s2, _⟩ := r3.1.cells; have HW := Lib.hid r3.2; clear ho hb7 r3)
        | (go_at_call 127; have hbb := new_below w6 (.cells #[.int .i64 (a : Int), .int .i64 (b : Int)] 108); refine (HGC.out (w6.alloc (.cells #[.int .i64 (a : Int), .int .i64 (b : Int)] 108)) ((HI6.out.below hbb).bars.at) ((HI6.out.below hbb).src)).mono ?_; rintro e w7 ⟨hb, DF, eF, DT, eT, DZ, eZ, rfl⟩; have HI7 := Lib.hid ((HI6.out.below hbb).below hb); have hb8 := new_below w7 (.cells #[.slice DF F.length eF, .slice DT T.length eT, .slice DZ Z.length eZ] 31); have HI8 := Lib.hid (HI7.out.below hb8); have HLO8 := Lib.hid (Nat.le_trans HLO.out (Nat.le_trans hbb.size (Nat.le_trans hb.size hb8.size))); have HBX := Lib.hid (((box_new w6 (a : Int) (.int .i64 (b : Int)) 108).kept hb).kept hb8); obtain ⟨_, k0, k1⟩ := HBX.out; obtain ⟨u2, u3, u4, _, _, _⟩ := HI8.out.pb.cells; clear hb hb8 hbb v0 v1 v2 v3 v4 bc0 bc1)
        | (go_at_call 110; refine (specRange k c _).mono ?_; rintro e w9 ⟨rfl, rfl⟩; rw [HRG.out])
        | (go_at_call 39; refine (specIsPeb (F.length : Int) k l (some ⟨bb, boff, none⟩) cap AF AT AZ cF cT cZ lo hi F T Z _ HI0.out.bars.at HI0.out.src hn hF hT hZ HWF.out).mono ?_; rintro e w6 ⟨rfl, hb6⟩; rw [HB.out]; have HI6 := Lib.hid (HI0.out.below hb6); obtain ⟨_, v0, v1⟩ := HI6.out.gb; obtain ⟨v2, v3, v4, _, _, _⟩ := HI6.out.pb.cells; have hlo6 := hb6.size; have HLO := Lib.hid (show w.heap.size + 1 + 1 + 1 ≤ w6.heap.size by have := HS3.out; omega); obtain ⟨bc0, bc1⟩ := HBC.out w6 HI6.out; have nn1 : w.heap.size + 1 ≠ w6.heap.size := (by have := HLO.out; omega); have nn2 : w.heap.size ≠ w6.heap.size := (by have := HLO.out; omega); have nn3 : w.heap.size + 1 < w6.heap.size := (by have := HLO.out; omega); have nn4 : w.heap.size < w6.heap.size := (by have := HLO.out; omega); clear hlo6 hb6 g0 g1 x0 x1 x2))
      rw [HPL.out]
      refine bodyPost_ret (v := .tuple #[pebV BF F.length dF BT T.length dT BZ Z.length dZ, .bool false]) ?_ rfl ?_
      · simp [results, Try.results34, go_sem, s0, s1, s2]
      · have hg := HI9.out.bel
        have hlo6 := HI8.out.bel.size
        have hsw := HW.out.size
        exact ⟨_, _, _, _, _, _, rfl, (HO7.out.own3.within HW.out (.inr HLO8.out)).widen (by omega) (by omega) (Nat.le_refl _), within_on hg HW.out hg.size (.inl (by omega))⟩
    | some s =>
      have HGC := Lib.hid (fun (W : World) (h1 : BarsAt W W.heap.size (some ⟨bb, boff, none⟩) l) (h2 : Peb3 W lo hi AF AT AZ F T Z) => show Calls Try.prog 127 _ W (fun e w' => Below W.heap.size W w' ∧ ∃ BF dF BT dT BZ dZ, e = .returned (.tuple #[pebV BF s.1.length dF BT s.2.length dT BZ Z.length dZ, .bool true]) ∧ s.1.length = F.length ∧ s.2.length = T.length ∧ Own3R w' W.heap.size w'.heap.size BF dF BT dT BZ dZ s.1 s.2 Z) from (gathS_c k l (some ⟨bb, boff, none⟩) cap AF AT AZ cF cT cZ lo hi F T Z a b (c + 1) W HP.out.state (by omega) (by omega) h24 (by omega) (fun i hi => (HP.out.2.2.2.2.1 i hi).1) (by omega) (by omega) (by omega) h1 h2).mono (by
        rintro e w' ⟨hb, BF, dF, BT, dT, BZ, dZ, ⟨_, hs⟩ | ⟨s2, rfl, hs, h1, h2, ho⟩⟩
        · rw [HR.out] at hs; cases hs
        · rw [HR.out] at hs
          cases hs
          exact ⟨hb, _, _, _, _, _, _, by rw [h1, h2], h1, h2, ho⟩))
      obtain ⟨d1, hd1⟩ : ∃ d1, s.1.getD a 0 = d1 := ⟨_, rfl⟩
      obtain ⟨d2, hd2⟩ : ∃ d2, s.1.getD b 0 = d2 := ⟨_, rfl⟩
      have HDA := Lib.hid hd1
      have HDB := Lib.hid hd2
      clear hd1 hd2
      by_cases c0 : d1 = 0
      · have e1 : (d1 == 0) = true := by simpa using c0
        go_enter Try.func34, Try.ntmps34
        go_wp2_with (first
          | (go_at_call 127; have hbb := new_below w6 (.cells #[.int .i64 (a : Int), .int .i64 (b : Int)] 108); refine (HGC.out (w6.alloc (.cells #[.int .i64 (a : Int), .int .i64 (b : Int)] 108)) ((HI6.out.below hbb).bars.at) ((HI6.out.below hbb).src)).mono ?_; rintro e w7 ⟨hb, DF, eF, DT, eT, DZ, eZ, rfl, hl1, hl2, ho⟩; have HI7 := Lib.hid ((HI6.out.below hbb).below hb); have hb8 := new_below w7 (.cells #[.slice DF s.1.length eF, .slice DT s.2.length eT, .slice DZ Z.length eZ] 31); have HI8 := Lib.hid (HI7.out.below hb8); have HLO8 := Lib.hid (Nat.le_trans HLO.out (Nat.le_trans hbb.size (Nat.le_trans hb.size hb8.size))); have HBX := Lib.hid (((box_new w6 (a : Int) (.int .i64 (b : Int)) 108).kept hb).kept hb8); obtain ⟨_, k0, k1⟩ := HBX.out; have HX8 := Lib.hid (cel3_new w7 (.slice DF s.1.length eF) (.slice DT s.2.length eT) (.slice DZ Z.length eZ) 31); obtain ⟨f, t, z, hof, y1, y2, y3⟩ := ho.ownF; have HF8 := Lib.hid (hof.below hb8); have hz6 : (w6.alloc (.cells #[.int .i64 (a : Int), .int .i64 (b : Int)] 108)).heap.size = w6.heap.size + 1 := (by simp); have HLY := Lib.hid (show (w6.heap.size + 1 ≤ f.1 ∧ f.2 ≤ w7.heap.size) ∧ (w6.heap.size + 1 ≤ t.1 ∧ t.2 ≤ w7.heap.size) ∧ (w6.heap.size + 1 ≤ z.1 ∧ z.2 ≤ w7.heap.size) from by omega); have HLL := Lib.hid (And.intro hl1 hl2); obtain ⟨hq, _⟩ := gathR_ok (P := F.length) (by omega) (by omega) (by omega) HP.out.state HR.out; have hfl := hq.flen; have hsa := hq.small (v := (a : Int)) (by omega); have hsb := hq.small (v := (b : Int)) (by omega); rw [Int.toNat_natCast] at hsa hsb; obtain ⟨gF, rfl, g1', g2', hFr⟩ := hof.1.open_ (by omega); have hFr8 := own_below hFr hb8; have ha1 := (hFr8.cellAt a (by omega)).trans (intCells_get s.1 a (by omega)); have HFR := Lib.hid hFr8; have HG12 := Lib.hid (And.intro g1' g2'); have HQS := Lib.hid (And.intro hsa hsb); have HFL := Lib.hid hfl; obtain ⟨j0, j1, j2, _, _, _⟩ := HX8.out.cells; rw [HDA.out] at ha1; have hsla : (a : Int) < (s.1.length : Int) := (by omega); clear hof y1 y2 y3 hz6 hl1 hl2 hq hfl hsa hsb hFr hFr8 g1' g2' ho hb hb8 hbb v0 v1 v2 v3 v4 bc0 bc1)
          | (go_at_call 110; refine (specRange k c _).mono ?_; rintro e w9 ⟨rfl, rfl⟩; rw [HRG.out])
          | (go_at_call 39; refine (specIsPeb (F.length : Int) k l (some ⟨bb, boff, none⟩) cap AF AT AZ cF cT cZ lo hi F T Z _ HI0.out.bars.at HI0.out.src hn hF hT hZ HWF.out).mono ?_; rintro e w6 ⟨rfl, hb6⟩; rw [HB.out]; have HI6 := Lib.hid (HI0.out.below hb6); obtain ⟨_, v0, v1⟩ := HI6.out.gb; obtain ⟨v2, v3, v4, _, _, _⟩ := HI6.out.pb.cells; have hlo6 := hb6.size; have HLO := Lib.hid (show w.heap.size + 1 + 1 + 1 ≤ w6.heap.size by have := HS3.out; omega); obtain ⟨bc0, bc1⟩ := HBC.out w6 HI6.out; have nn1 : w.heap.size + 1 ≠ w6.heap.size := (by have := HLO.out; omega); have nn2 : w.heap.size ≠ w6.heap.size := (by have := HLO.out; omega); have nn3 : w.heap.size + 1 < w6.heap.size := (by have := HLO.out; omega); have nn4 : w.heap.size < w6.heap.size := (by have := HLO.out; omega); clear hlo6 hb6 g0 g1 x0 x1 x2))
        have hw8 : w7.heap.size < (w7.alloc (.cells #[.slice (some ⟨gF, 0, none⟩) s.1.length eF, .slice DT s.2.length eT, .slice DZ Z.length eZ] 31)).heap.size := by simp
        have hbxl : w.heap.size + 1 + 1 + 1 ≤ w7.heap.size := by have := HLY.out; have := HG12.out; have := HLO.out; omega
        have HBXL := Lib.hid hbxl
        obtain ⟨t', z', hn8, m1, m2, m3, m4, m5, m6⟩ := HF8.out.norm (B := w.heap.size + 3) (pb := w7.heap.size) (by omega) hw8 (by have := HLY.out; have := HLO.out; omega) (by have := HLY.out; have := HLO.out; omega) (.inr HLY.out.2.1.2) (.inr HLY.out.2.2.2)
        have HF9 := Lib.hid hn8
        have HPB := Lib.hid (And.intro m3 m4)
        have HLT := Lib.hid (And.intro m5 m6)
        have HLZ := Lib.hid (show w.heap.size + 3 ≤ f.1 ∧ w.heap.size + 3 ≤ t'.1 ∧ w.heap.size + 3 ≤ z'.1 ∧ gF < w7.heap.size ∧ f.2 ≤ w7.heap.size from ⟨by have := HLY.out; have := HLO.out; omega, m1, m2, by have := HLY.out; have := HG12.out; omega, HLY.out.1.2⟩)
        have HGW := Lib.hid (show w6.heap.size < gF from by have := HLY.out; have := HG12.out; omega)
        clear hbxl m1 m2 m3 m4 m5 m6 hn8 HF8 HLY
        clear ha1 j0 j1 j2 k0 k1
        generalize (w7.alloc (.cells #[.slice (some ⟨gF, 0, none⟩) s.1.length eF, .slice DT s.2.length eT, .slice DZ Z.length eZ] 31)) = w8 at *
        generalize hbx : w7.heap.size = bx at *
        have hw4 := within_set w8 gF b (.int .i64 (d2 - 1))
        have hdr : Below (w8.setCell ⟨gF, b, none⟩ (.int .i64 (d2 - 1))).heap.size (w8.setCell ⟨gF, b, none⟩ (.int .i64 (d2 - 1))) (w8.setCell ⟨gF, b, none⟩ (.int .i64 (d2 - 1))).drew := (Below.refl _ _).drew
        obtain ⟨o1, o2, o3, d1', d2', d3'⟩ := HF9.out
        have HXX := Lib.hid (And.intro d1' (And.intro d2' d3'))
        unfold Dis at d1' d2' d3'
        have hg12 := HG12.out
        have hly := HLZ.out
        have HT4 := Lib.hid ((o2.within hw4 (by omega)).within (within_of hdr) (.inr (Nat.zero_le _)))
        have HZ4 := Lib.hid ((o3.within hw4 (by omega)).within (within_of hdr) (.inr (Nat.zero_le _)))
        have HFR4 := Lib.hid (show World.ownsRow (w8.setCell ⟨gF, b, none⟩ (.int .i64 (d2 - 1))).drew 0 3 1 (.slice (some ⟨gF, 0, none⟩) (s.1.set b (d2 - 1)).length eF) (s.1.set b (d2 - 1)).length (intCells (s.1.set b (d2 - 1))) from by
          have h1 := (HFR.out.stored b (.int .i64 (d2 - 1))).1
          rw [intCells_set] at h1
          rw [List.length_set]
          exact own_below h1 hdr)
        have HX4 := Lib.hid ((HX8.out.within hw4 (by omega)).kept hdr)
        have HI4 := Lib.hid ((HI8.out.within hw4 (by have := HLO.out; omega) (by have := HHI.out; have := HLO.out; omega)).below hdr)
        have hs9 : (w8.setCell ⟨gF, b, none⟩ (.int .i64 (d2 - 1))).drew.heap.size = w8.heap.size := (by simp)
        have hb9 := HBX.out
        have hb9' := (hb9.within hw4 (by have := HGW.out; omega)).kept hdr
        have HBX4 := Lib.hid hb9'
        have hvi := (HFR.out.cellAt b (by have := HFL.out; omega)).trans (intCells_get s.1 b (by have := HFL.out; omega))
        rw [HDB.out] at hvi
        have hvf := HFR.out.frozenAt b
        have hsl : (b : Int) < (s.1.length : Int) := by have := HFL.out; omega
        obtain ⟨j0, j1, j2, _, _, _⟩ := HX8.out.cells
        have hsv : 0 ≤ d2 ∧ d2 ≤ k := by have := HQS.out; rw [HDA.out, HDB.out] at this; omega
        clear o1 o2 o3 d1' d2' d3' hw4 hdr hb9 hb9' hg12 hly
        go_region
        have HSZ := Lib.hid hs9
        clear hs9
        clear hvi hvf j0 j1 j2
        obtain ⟨m0, m1, m2, m3, m4, m5⟩ := HX4.out.cells
        have HTW := Lib.hid (show t'.1 ≤ ((w8.setCell ⟨gF, b, none⟩ (.int .i64 (d2 - 1))).drew).heap.size from by have := HLT.out; have := HSZ.out; omega)
        have HZV := Lib.hid (show z'.1 ≤ ((w8.setCell ⟨gF, b, none⟩ (.int .i64 (d2 - 1))).drew).heap.size from by have := HLT.out; have := HSZ.out; omega)
        have hpt : bx < t'.1 ∨ t'.2 ≤ bx := HPB.out.1
        have hpz : bx < z'.1 ∨ z'.2 ≤ bx := HPB.out.2
        have hTl : s.2.length ≤ 24 := by have := HLL.out.2; omega
        go_wp2_with (first
          | (at_builtin; refine wpList_pushR _ rfl _ _ rfl z'.1 z'.2 DZ eZ Z (nn : Int) rfl HZ6.out _ (by first | rfl | (simp only [World.size_setCell]; rfl)) (by omega) HZW.out ?_; intro A7 c7 w17 lo7 hi7 hr7 hor7 hw7; have HR7 := Lib.hid hr7; have HOR7 := Lib.hid hor7; have HW7 := Lib.hid hw7; have HX7 := Lib.hid (HX6.out.within hw7 hpz); have HXE := Lib.hid (HX7.out.set2 (.slice A7 (Z.length + 1) c7)); have HI17 := Lib.hid ((HI16.out.within hw7 (by have := HLO.out; have := HLZ.out; omega) (by have := HHI.out; have := HLO.out; have := HLZ.out; omega)).within (within_set w17 bx 2 (.slice A7 (Z.length + 1) c7)) (by have := HBXL.out; omega) (by have := HBXL.out; have := HHI.out; omega)); obtain ⟨r0, r1, r2, r3, r4, r5⟩ := HX7.out.cells; obtain ⟨z0, z1, z2, _, _, _⟩ := HXE.out.cells; obtain ⟨_, _, _, f0, f1, f2⟩ := HI17.out.rb.cells; have rr3 := ret3 HI17.out.rb (.slice (some ⟨gF, 0, none⟩) s.1.length eF) (.slice A5 (s.2.length + 1) c5) (.slice A7 (Z.length + 1) c7); obtain ⟨s0, s1, s2, _⟩ := rr3.1.cells; have HW := Lib.hid rr3.2; clear rr3 hr7 hor7 hw7)
          | (at_builtin; refine wpList_pushR _ rfl _ _ rfl t'.1 t'.2 DT eT s.2 (b : Int) rfl HT4.out _ (by first | rfl | (simp only [World.size_setCell]; rfl) | (show _ = Value.slice (some ⟨(w8.setCell _ _).heap.size, 0, none⟩) 1 1; simp only [World.size_setCell]; rfl)) (by omega) HTW.out ?_; intro A5 c5 w15 lo5 hi5 hr5 hor5 hw5; have HR5 := Lib.hid hr5; have HOR5 := Lib.hid hor5; have HW5 := Lib.hid hw5; have HX5 := Lib.hid (HX4.out.within hw5 hpt); have HX6 := Lib.hid (HX5.out.set1 (.slice A5 (s.2.length + 1) c5)); have HI16 := Lib.hid ((HI4.out.within hw5 (by have := HLO.out; have := HLZ.out; omega) (by have := HHI.out; have := HLO.out; have := HLZ.out; omega)).within (within_set w15 bx 1 (.slice A5 (s.2.length + 1) c5)) (by have := HBXL.out; omega) (by have := HBXL.out; have := HHI.out; omega)); have HZ6 := Lib.hid ((HZ4.out.within hw5 (by have := HXX.out.2.2; unfold Dis at this; omega)).within (within_set w15 bx 1 (.slice A5 (s.2.length + 1) c5)) (by omega)); have HZW := Lib.hid (show z'.1 ≤ (w15.setCell ⟨bx, 1, none⟩ (.slice A5 (s.2.length + 1) c5)).heap.size from by rw [World.size_setCell]; exact Nat.le_trans HZV.out hw5.size); obtain ⟨p0, p1, p2, p3, p4, p5⟩ := HX5.out.cells; obtain ⟨u0, u1, u2, u3, u4, u5⟩ := HX6.out.cells; clear hr5 hor5 hw5))
        rw [HPL.out]
        rw [Option.map_some, if_pos (HDA.out.trans c0)]
        rw [HDB.out]
        refine bodyPost_ret (v := .tuple #[pebV (some ⟨gF, 0, none⟩) s.1.length eF A5 (s.2.length + 1) c5 A7 (Z.length + 1) c7, .bool true]) ?_ rfl ?_
        · simp [results, Try.results34, go_sem, s0, s1, s2]
        · have hr5 := HR5.out
          have hr7 := HR7.out
          have hor5 := HOR5.out
          have hor7 := HOR7.out
          have w5w := HW5.out
          have w7w := HW7.out
          have xx := HXX.out
          have hz := HLZ.out
          have hbl := HBXL.out
          have q5 := within_set w15 bx 1 (.slice A5 (s.2.length + 1) c5)
          have q7 := within_set w17 bx 2 (.slice A7 (Z.length + 1) c7)
          have hw := HW.out
          have s5 := w5w.size
          have s6 := q5.size
          have s7 := w7w.size
          have s8 := q7.size
          have s9 := hw.size
          have g12 := HG12.out
          have hsz := HSZ.out
          have hhi := HF9.out.hi
          unfold Dis at xx
          have hgb : gF ≠ bx := by omega
          have hfl := (HFR4.out.lt gF rfl).2
          have hf8 := own_block (own_block (own_block (own_block (own_block HFR4.out (w5w.block gF hfl (by omega))) (q5.block gF (by omega) (by omega))) (w7w.block gF (by omega) (by omega))) (q7.block gF (by omega) (by omega))) (hw.block gF (by omega) (by omega))
          have ht8 := (((hr5.within q5 (by omega)).within w7w (by omega)).within q7 (by omega)).within hw (by omega)
          have hz8 := (hr7.within q7 (by omega)).within hw (by omega)
          have hof : OwnF _ f (lo5, hi5) (lo7, hi7) (some ⟨gF, 0, none⟩) eF A5 c5 A7 c7 (s.1.set b (d2 - 1)) (s.2 ++ [(b : Int)]) (Z ++ [(nn : Int)]) := ⟨⟨by show f.2 ≤ _; omega, .inr ⟨gF, rfl, g12.1, g12.2, own_rebase hf8 g12.1⟩⟩, ht8, hz8, by unfold Dis; show f.2 ≤ lo5 ∨ hi5 ≤ f.1; omega, by unfold Dis; show f.2 ≤ lo7 ∨ hi7 ≤ f.1; omega, by unfold Dis; show hi5 ≤ lo7 ∨ hi7 ≤ lo5; omega⟩
          have hg := HI17.out.bel
          exact ⟨_, _, _, _, _, _, by show _ = Ending.returned (.tuple #[pebV _ (s.1.set b (d2 - 1)).length _ _ (s.2 ++ [(b : Int)]).length _ _ (Z ++ [(nn : Int)]).length _, .bool true]); rw [List.length_set, List.length_append, List.length_append]; rfl, hof.own3 (lo := w.heap.size) ⟨by omega, hof.hi.1⟩ ⟨by show w.heap.size ≤ lo5; omega, hof.hi.2.1⟩ ⟨by show w.heap.size ≤ lo7; omega, hof.hi.2.2⟩ (Nat.le_refl _), within_on hg hw hg.size (.inl (by omega))⟩
      · have e1 : (d1 == 0) = false := by simpa using c0
        go_enter Try.func34, Try.ntmps34
        go_wp2_with (first
          | (go_at_call 127; have hbb := new_below w6 (.cells #[.int .i64 (a : Int), .int .i64 (b : Int)] 108); refine (HGC.out (w6.alloc (.cells #[.int .i64 (a : Int), .int .i64 (b : Int)] 108)) ((HI6.out.below hbb).bars.at) ((HI6.out.below hbb).src)).mono ?_; rintro e w7 ⟨hb, DF, eF, DT, eT, DZ, eZ, rfl, hl1, hl2, ho⟩; have HI7 := Lib.hid ((HI6.out.below hbb).below hb); have hb8 := new_below w7 (.cells #[.slice DF s.1.length eF, .slice DT s.2.length eT, .slice DZ Z.length eZ] 31); have HI8 := Lib.hid (HI7.out.below hb8); have HLO8 := Lib.hid (Nat.le_trans HLO.out (Nat.le_trans hbb.size (Nat.le_trans hb.size hb8.size))); have HBX := Lib.hid (((box_new w6 (a : Int) (.int .i64 (b : Int)) 108).kept hb).kept hb8); obtain ⟨_, k0, k1⟩ := HBX.out; have HX8 := Lib.hid (cel3_new w7 (.slice DF s.1.length eF) (.slice DT s.2.length eT) (.slice DZ Z.length eZ) 31); obtain ⟨f, t, z, hof, y1, y2, y3⟩ := ho.ownF; have HF8 := Lib.hid (hof.below hb8); have hz6 : (w6.alloc (.cells #[.int .i64 (a : Int), .int .i64 (b : Int)] 108)).heap.size = w6.heap.size + 1 := (by simp); have HLY := Lib.hid (show (w6.heap.size + 1 ≤ f.1 ∧ f.2 ≤ w7.heap.size) ∧ (w6.heap.size + 1 ≤ t.1 ∧ t.2 ≤ w7.heap.size) ∧ (w6.heap.size + 1 ≤ z.1 ∧ z.2 ≤ w7.heap.size) from by omega); have HLL := Lib.hid (And.intro hl1 hl2); obtain ⟨hq, _⟩ := gathR_ok (P := F.length) (by omega) (by omega) (by omega) HP.out.state HR.out; have hfl := hq.flen; have hsa := hq.small (v := (a : Int)) (by omega); have hsb := hq.small (v := (b : Int)) (by omega); rw [Int.toNat_natCast] at hsa hsb; obtain ⟨gF, rfl, g1', g2', hFr⟩ := hof.1.open_ (by omega); have hFr8 := own_below hFr hb8; have ha1 := (hFr8.cellAt a (by omega)).trans (intCells_get s.1 a (by omega)); have HFR := Lib.hid hFr8; have HG12 := Lib.hid (And.intro g1' g2'); have HQS := Lib.hid (And.intro hsa hsb); have HFL := Lib.hid hfl; obtain ⟨j0, j1, j2, _, _, _⟩ := HX8.out.cells; rw [HDA.out] at ha1; have hsla : (a : Int) < (s.1.length : Int) := (by omega); clear hof y1 y2 y3 hz6 hl1 hl2 hq hfl hsa hsb hFr hFr8 g1' g2' ho hb hb8 hbb v0 v1 v2 v3 v4 bc0 bc1)
          | (go_at_call 110; refine (specRange k c _).mono ?_; rintro e w9 ⟨rfl, rfl⟩; rw [HRG.out])
          | (go_at_call 39; refine (specIsPeb (F.length : Int) k l (some ⟨bb, boff, none⟩) cap AF AT AZ cF cT cZ lo hi F T Z _ HI0.out.bars.at HI0.out.src hn hF hT hZ HWF.out).mono ?_; rintro e w6 ⟨rfl, hb6⟩; rw [HB.out]; have HI6 := Lib.hid (HI0.out.below hb6); obtain ⟨_, v0, v1⟩ := HI6.out.gb; obtain ⟨v2, v3, v4, _, _, _⟩ := HI6.out.pb.cells; have hlo6 := hb6.size; have HLO := Lib.hid (show w.heap.size + 1 + 1 + 1 ≤ w6.heap.size by have := HS3.out; omega); obtain ⟨bc0, bc1⟩ := HBC.out w6 HI6.out; have nn1 : w.heap.size + 1 ≠ w6.heap.size := (by have := HLO.out; omega); have nn2 : w.heap.size ≠ w6.heap.size := (by have := HLO.out; omega); have nn3 : w.heap.size + 1 < w6.heap.size := (by have := HLO.out; omega); have nn4 : w.heap.size < w6.heap.size := (by have := HLO.out; omega); clear hlo6 hb6 g0 g1 x0 x1 x2))
        have hw8 : w7.heap.size < (w7.alloc (.cells #[.slice (some ⟨gF, 0, none⟩) s.1.length eF, .slice DT s.2.length eT, .slice DZ Z.length eZ] 31)).heap.size := by simp
        have hbxl : w.heap.size + 1 + 1 + 1 ≤ w7.heap.size := by have := HLY.out; have := HG12.out; have := HLO.out; omega
        have HBXL := Lib.hid hbxl
        obtain ⟨t', z', hn8, m1, m2, m3, m4, m5, m6⟩ := HF8.out.norm (B := w.heap.size + 3) (pb := w7.heap.size) (by omega) hw8 (by have := HLY.out; have := HLO.out; omega) (by have := HLY.out; have := HLO.out; omega) (.inr HLY.out.2.1.2) (.inr HLY.out.2.2.2)
        have HF9 := Lib.hid hn8
        have HPB := Lib.hid (And.intro m3 m4)
        have HLT := Lib.hid (And.intro m5 m6)
        have HLZ := Lib.hid (show w.heap.size + 3 ≤ f.1 ∧ w.heap.size + 3 ≤ t'.1 ∧ w.heap.size + 3 ≤ z'.1 ∧ gF < w7.heap.size ∧ f.2 ≤ w7.heap.size from ⟨by have := HLY.out; have := HLO.out; omega, m1, m2, by have := HLY.out; have := HG12.out; omega, HLY.out.1.2⟩)
        have HGW := Lib.hid (show w6.heap.size < gF from by have := HLY.out; have := HG12.out; omega)
        clear hbxl m1 m2 m3 m4 m5 m6 hn8 HF8 HLY
        clear ha1 j0 j1 j2 k0 k1
        generalize (w7.alloc (.cells #[.slice (some ⟨gF, 0, none⟩) s.1.length eF, .slice DT s.2.length eT, .slice DZ Z.length eZ] 31)) = w8 at *
        generalize hbx : w7.heap.size = bx at *
        have hw4 := within_set w8 gF a (.int .i64 (d1 - 1))
        have hdr : Below (w8.setCell ⟨gF, a, none⟩ (.int .i64 (d1 - 1))).heap.size (w8.setCell ⟨gF, a, none⟩ (.int .i64 (d1 - 1))) (w8.setCell ⟨gF, a, none⟩ (.int .i64 (d1 - 1))).drew := (Below.refl _ _).drew
        obtain ⟨o1, o2, o3, d1', d2', d3'⟩ := HF9.out
        have HXX := Lib.hid (And.intro d1' (And.intro d2' d3'))
        unfold Dis at d1' d2' d3'
        have hg12 := HG12.out
        have hly := HLZ.out
        have HT4 := Lib.hid ((o2.within hw4 (by omega)).within (within_of hdr) (.inr (Nat.zero_le _)))
        have HZ4 := Lib.hid ((o3.within hw4 (by omega)).within (within_of hdr) (.inr (Nat.zero_le _)))
        have HFR4 := Lib.hid (show World.ownsRow (w8.setCell ⟨gF, a, none⟩ (.int .i64 (d1 - 1))).drew 0 3 1 (.slice (some ⟨gF, 0, none⟩) (s.1.set a (d1 - 1)).length eF) (s.1.set a (d1 - 1)).length (intCells (s.1.set a (d1 - 1))) from by
          have h1 := (HFR.out.stored a (.int .i64 (d1 - 1))).1
          rw [intCells_set] at h1
          rw [List.length_set]
          exact own_below h1 hdr)
        have HX4 := Lib.hid ((HX8.out.within hw4 (by omega)).kept hdr)
        have HI4 := Lib.hid ((HI8.out.within hw4 (by have := HLO.out; omega) (by have := HHI.out; have := HLO.out; omega)).below hdr)
        have hs9 : (w8.setCell ⟨gF, a, none⟩ (.int .i64 (d1 - 1))).drew.heap.size = w8.heap.size := (by simp)
        have hb9 := HBX.out
        have hb9' := (hb9.within hw4 (by have := HGW.out; omega)).kept hdr
        have HBX4 := Lib.hid hb9'
        have hvi := (HFR.out.cellAt a (by have := HFL.out; omega)).trans (intCells_get s.1 a (by have := HFL.out; omega))
        rw [HDA.out] at hvi
        have hvf := HFR.out.frozenAt a
        have hsl : (a : Int) < (s.1.length : Int) := by have := HFL.out; omega
        obtain ⟨j0, j1, j2, _, _, _⟩ := HX8.out.cells
        have hsv : 0 ≤ d1 ∧ d1 ≤ k := by have := HQS.out; rw [HDA.out, HDB.out] at this; omega
        clear o1 o2 o3 d1' d2' d3' hw4 hdr hb9 hb9' hg12 hly
        go_region
        have HSZ := Lib.hid hs9
        clear hs9
        clear hvi hvf j0 j1 j2
        obtain ⟨m0, m1, m2, m3, m4, m5⟩ := HX4.out.cells
        have HTW := Lib.hid (show t'.1 ≤ ((w8.setCell ⟨gF, a, none⟩ (.int .i64 (d1 - 1))).drew).heap.size from by have := HLT.out; have := HSZ.out; omega)
        have HZV := Lib.hid (show z'.1 ≤ ((w8.setCell ⟨gF, a, none⟩ (.int .i64 (d1 - 1))).drew).heap.size from by have := HLT.out; have := HSZ.out; omega)
        have hpt : bx < t'.1 ∨ t'.2 ≤ bx := HPB.out.1
        have hpz : bx < z'.1 ∨ z'.2 ≤ bx := HPB.out.2
        have hTl : s.2.length ≤ 24 := by have := HLL.out.2; omega
        go_wp2_with (first
          | (at_builtin; refine wpList_pushR _ rfl _ _ rfl z'.1 z'.2 DZ eZ Z (nn : Int) rfl HZ6.out _ (by first | rfl | (simp only [World.size_setCell]; rfl)) (by omega) HZW.out ?_; intro A7 c7 w17 lo7 hi7 hr7 hor7 hw7; have HR7 := Lib.hid hr7; have HOR7 := Lib.hid hor7; have HW7 := Lib.hid hw7; have HX7 := Lib.hid (HX6.out.within hw7 hpz); have HXE := Lib.hid (HX7.out.set2 (.slice A7 (Z.length + 1) c7)); have HI17 := Lib.hid ((HI16.out.within hw7 (by have := HLO.out; have := HLZ.out; omega) (by have := HHI.out; have := HLO.out; have := HLZ.out; omega)).within (within_set w17 bx 2 (.slice A7 (Z.length + 1) c7)) (by have := HBXL.out; omega) (by have := HBXL.out; have := HHI.out; omega)); obtain ⟨r0, r1, r2, r3, r4, r5⟩ := HX7.out.cells; obtain ⟨z0, z1, z2, _, _, _⟩ := HXE.out.cells; obtain ⟨_, _, _, f0, f1, f2⟩ := HI17.out.rb.cells; have rr3 := ret3 HI17.out.rb (.slice (some ⟨gF, 0, none⟩) s.1.length eF) (.slice A5 (s.2.length + 1) c5) (.slice A7 (Z.length + 1) c7); obtain ⟨s0, s1, s2, _⟩ := rr3.1.cells; have HW := Lib.hid rr3.2; clear rr3 hr7 hor7 hw7)
          | (at_builtin; refine wpList_pushR _ rfl _ _ rfl t'.1 t'.2 DT eT s.2 (a : Int) rfl HT4.out _ (by first | rfl | (simp only [World.size_setCell]; rfl) | (show _ = Value.slice (some ⟨(w8.setCell _ _).heap.size, 0, none⟩) 1 1; simp only [World.size_setCell]; rfl)) (by omega) HTW.out ?_; intro A5 c5 w15 lo5 hi5 hr5 hor5 hw5; have HR5 := Lib.hid hr5; have HOR5 := Lib.hid hor5; have HW5 := Lib.hid hw5; have HX5 := Lib.hid (HX4.out.within hw5 hpt); have HX6 := Lib.hid (HX5.out.set1 (.slice A5 (s.2.length + 1) c5)); have HI16 := Lib.hid ((HI4.out.within hw5 (by have := HLO.out; have := HLZ.out; omega) (by have := HHI.out; have := HLO.out; have := HLZ.out; omega)).within (within_set w15 bx 1 (.slice A5 (s.2.length + 1) c5)) (by have := HBXL.out; omega) (by have := HBXL.out; have := HHI.out; omega)); have HZ6 := Lib.hid ((HZ4.out.within hw5 (by have := HXX.out.2.2; unfold Dis at this; omega)).within (within_set w15 bx 1 (.slice A5 (s.2.length + 1) c5)) (by omega)); have HZW := Lib.hid (show z'.1 ≤ (w15.setCell ⟨bx, 1, none⟩ (.slice A5 (s.2.length + 1) c5)).heap.size from by rw [World.size_setCell]; exact Nat.le_trans HZV.out hw5.size); obtain ⟨p0, p1, p2, p3, p4, p5⟩ := HX5.out.cells; obtain ⟨u0, u1, u2, u3, u4, u5⟩ := HX6.out.cells; clear hr5 hor5 hw5))
        rw [HPL.out]
        rw [Option.map_some, if_neg (fun e => c0 (HDA.out.symm.trans e))]
        rw [HDA.out]
        refine bodyPost_ret (v := .tuple #[pebV (some ⟨gF, 0, none⟩) s.1.length eF A5 (s.2.length + 1) c5 A7 (Z.length + 1) c7, .bool true]) ?_ rfl ?_
        · simp [results, Try.results34, go_sem, s0, s1, s2]
        · have hr5 := HR5.out
          have hr7 := HR7.out
          have hor5 := HOR5.out
          have hor7 := HOR7.out
          have w5w := HW5.out
          have w7w := HW7.out
          have xx := HXX.out
          have hz := HLZ.out
          have hbl := HBXL.out
          have q5 := within_set w15 bx 1 (.slice A5 (s.2.length + 1) c5)
          have q7 := within_set w17 bx 2 (.slice A7 (Z.length + 1) c7)
          have hw := HW.out
          have s5 := w5w.size
          have s6 := q5.size
          have s7 := w7w.size
          have s8 := q7.size
          have s9 := hw.size
          have g12 := HG12.out
          have hsz := HSZ.out
          have hhi := HF9.out.hi
          unfold Dis at xx
          have hgb : gF ≠ bx := by omega
          have hfl := (HFR4.out.lt gF rfl).2
          have hf8 := own_block (own_block (own_block (own_block (own_block HFR4.out (w5w.block gF hfl (by omega))) (q5.block gF (by omega) (by omega))) (w7w.block gF (by omega) (by omega))) (q7.block gF (by omega) (by omega))) (hw.block gF (by omega) (by omega))
          have ht8 := (((hr5.within q5 (by omega)).within w7w (by omega)).within q7 (by omega)).within hw (by omega)
          have hz8 := (hr7.within q7 (by omega)).within hw (by omega)
          have hof : OwnF _ f (lo5, hi5) (lo7, hi7) (some ⟨gF, 0, none⟩) eF A5 c5 A7 c7 (s.1.set a (d1 - 1)) (s.2 ++ [(a : Int)]) (Z ++ [(nn : Int)]) := ⟨⟨by show f.2 ≤ _; omega, .inr ⟨gF, rfl, g12.1, g12.2, own_rebase hf8 g12.1⟩⟩, ht8, hz8, by unfold Dis; show f.2 ≤ lo5 ∨ hi5 ≤ f.1; omega, by unfold Dis; show f.2 ≤ lo7 ∨ hi7 ≤ f.1; omega, by unfold Dis; show hi5 ≤ lo7 ∨ hi7 ≤ lo5; omega⟩
          have hg := HI17.out.bel
          exact ⟨_, _, _, _, _, _, by show _ = Ending.returned (.tuple #[pebV _ (s.1.set a (d1 - 1)).length _ _ (s.2 ++ [(a : Int)]).length _ _ (Z ++ [(nn : Int)]).length _, .bool true]); rw [List.length_set, List.length_append, List.length_append]; rfl, hof.own3 (lo := w.heap.size) ⟨by omega, hof.hi.1⟩ ⟨by show w.heap.size ≤ lo5; omega, hof.hi.2.1⟩ ⟨by show w.heap.size ≤ lo7; omega, hof.hi.2.2⟩ (Nat.le_refl _), within_on hg hw hg.size (.inl (by omega))⟩
end Go.Proofs.Ytdkpmaahinbhlaa
/- What spec.RunPebbles answers. No condition. -/
namespace Go.Proofs.Ytdkpmaahinbhlaa
open Go.RowKit

/-- What stands in the specification's run of the game: the graph's box, the result's box, the state's box. -/
structure RunS (w W : World) (P : Nat) (A : Option Addr) (cap : Nat) (l : List (Int × Int)) (pb lo hi : Nat) (AF AT AZ : Option Addr) (cF cT cZ : Nat) (R : List Int × List Int × List Int) : Prop where
  gb : Box W w.heap.size (P : Int) (.slice A l.length cap)
  rb : Cel3 W (w.heap.size + 1) 31 (.slice none 0 0) (.slice none 0 0) (.slice none 0 0)
  st : Cel3 W pb 31 (.slice AF R.1.length cF) (.slice AT R.2.1.length cT) (.slice AZ R.2.2.length cZ)
  own : Own3 W lo hi AF cF AT cT AZ cZ R.1 R.2.1 R.2.2
  bars : BarsIn W 0 w.heap.size A l
  bel : Below w.heap.size w W
  hlo : w.heap.size + 2 ≤ lo
  hpb : w.heap.size + 2 ≤ pb ∧ (pb < lo ∨ hi ≤ pb)
theorem RunS.put {w W W' : World} {P : Nat} {A : Option Addr} {cap : Nat} {l : List (Int × Int)} {pb lo hi : Nat} {AF AT AZ BF BT BZ : Option Addr} {cF cT cZ dF dT dZ : Nat} {R Q : List Int × List Int × List Int} (h : RunS w W P A cap l pb lo hi AF AT AZ cF cT cZ R)
    (ho : Own3 W' W.heap.size W'.heap.size BF dF BT dT BZ dZ Q.1 Q.2.1 Q.2.2) (hb : Below W.heap.size W W') :
    RunS w (((W'.setCell ⟨pb, 0, none⟩ (.slice BF Q.1.length dF)).setCell ⟨pb, 1, none⟩ (.slice BT Q.2.1.length dT)).setCell ⟨pb, 2, none⟩ (.slice BZ Q.2.2.length dZ)) P A cap l pb W.heap.size W'.heap.size BF BT BZ dF dT dZ Q := by
  obtain ⟨h1, h2, h3, _, h5, h6, h7, h8⟩ := h
  have hlt := h3.lt
  have r3 := ret3 (h3.kept hb) (.slice BF Q.1.length dF) (.slice BT Q.2.1.length dT) (.slice BZ Q.2.2.length dZ)
  have hs := h6.size
  have hs2 := hb.size
  exact ⟨(h1.kept hb).within r3.2 (by omega), (h2.kept hb).within r3.2 (by omega), r3.1, ho.within r3.2 (.inr (by omega)), (h5.within (within_of hb) (.inr (Nat.zero_le _))).within r3.2 (by omega), within_on (below_on h6 hb h6.size) r3.2 (by omega) (.inl (by omega)), by omega, by omega, .inl hlt⟩
theorem own3_hi {W : World} {lo hi : Nat} {AF AT AZ : Option Addr} {cF cT cZ : Nat} {F T Z : List Int} (h : Own3 W lo hi AF cF AT cT AZ cZ F T Z) : hi ≤ W.heap.size := by
  obtain ⟨_, _, _, _, _, _, _, _, _, _, _, _, h4⟩ := h
  exact h4
theorem runN_wf {P : Nat} {k c : Int} {l : List (Int × Int)} (h : newB (P : Int) k l = true) (h2 : rangeB k c = true) {n : Nat} (hn : n ≤ l.length) : WfI (runN P k c l n).1 := fun v hv => by
  have h3 := runN_at h h2 hn
  have h4 := h3.2.2.2.2.2 v hv
  have h5 := h3.2.1
  have h6 : (runN P k c l n).1.getD v 0 = 0 ∨ (runN P k c l n).1.getD v 0 = 1 ∨ (runN P k c l n).1.getD v 0 = 2 ∨ (runN P k c l n).1.getD v 0 = 3 := by omega
  unfold Wf
  rcases h6 with e | e | e | e <;> rw [e] <;> rfl
/-- The specification's next bar. -/
theorem specPlaRun {P : Nat} {k c : Int} {l : List (Int × Int)} (h : newB (P : Int) k l = true) (h2 : rangeB k c = true) {n : Nat} (hn : n < l.length) (A : Option Addr) (cap : Nat) (AF AT AZ : Option Addr) (cF cT cZ lo hi : Nat) (W : World) (hl : BarsAt W W.heap.size A l) (hp : Peb3 W lo hi AF AT AZ (runN P k c l n).1 (runN P k c l n).2.1 (runN P k c l n).2.2) :
    Calls Try.prog 34 #[.agg #[.int .i64 (P : Int), .slice A l.length cap], .int .i64 k, .int .i64 c, pebV AF (runN P k c l n).1.length cF AT (runN P k c l n).2.1.length cT AZ (runN P k c l n).2.2.length cZ, .int .i64 (n : Int)] W (fun e W' => ∃ r, PebOB W (runN P k c l (n + 1)).1 (runN P k c l (n + 1)).2.1 (runN P k c l (n + 1)).2.2 r e W') := by
  have hs := runN_step h h2 hn
  have hlen := runN_len h h2 (Nat.le_of_lt hn)
  have hG := (newB_is h).1.2.1
  refine (specPlaP P k c l A cap AF AT AZ cF cT cZ lo hi _ _ _ (n : Int) W hl hp (by omega) (by omega) (by omega) (by omega) (runN_wf h h2 (Nat.le_of_lt hn))).mono fun e W' he => ?_
  rw [hs.1] at he
  rw [hs.2]
  exact ⟨_, he⟩

set_option maxHeartbeats 4000000 in
set_option maxRecDepth 100000 in
theorem specRunP (p k c : Int) (l : List (Int × Int)) (A : Option Addr) (cap : Nat) (w : World) (hl : BarsAt w w.heap.size A l) (hn : l.length ≤ 1048576) :
    Calls Try.prog 17 #[.agg #[.int .i64 p, .slice A l.length cap], .int .i64 k, .int .i64 c] w (PebOB w (runV p k c l).1 (runV p k c l).2.1 (runV p k c l).2.2 (runB p k c l)) := by
  by_cases hb1 : newB p k l = true
  case neg =>
    have hb1' : newB p k l = false := by simpa using hb1
    have HR := Lib.hid (runV_no (c := c) (.inl hb1'))
    clear hb1
    rename newB p k l = false => hb1
    have HNW : ∀ W : World, BarsAt W W.heap.size A l → Calls Try.prog 37 #[.agg #[.int .i64 p, .slice A l.length cap], .int .i64 k] W (PebOB W (newF p k l) [] [] false) := fun W h => by have hc := specNewP p k l A cap W h hn; rw [hb1] at hc; exact hc
    clear hb1
    have W0 := Lib.hid (Below.refl w.heap.size w)
    have HB_0 := Lib.hid (bars_in hl)
    clear hl
    have Z1 := Lib.hid (within_alloc w (.cells #[.int .i64 p, (.slice A l.length cap)] 26)).size
    have W1 := Lib.hid (within_on W0.out (within_alloc w (.cells #[.int .i64 p, (.slice A l.length cap)] 26)) W0.out.size (.inr (Nat.le_refl _)))
    have HB_1 := Lib.hid (HB_0.out.within (within_alloc w (.cells #[.int .i64 p, (.slice A l.length cap)] 26)) (by omega))
    have Y1 := Lib.hid (show (w.alloc (.cells #[.int .i64 p, (.slice A l.length cap)] 26)).heap.size = w.heap.size + 1 by simp)
    have hnew := box_new w p (.slice A l.length cap) 26
    have BX_1 := Lib.hid hnew
    clear hnew
    have Z2 := Lib.hid (within_alloc (w.alloc (.cells #[.int .i64 p, (.slice A l.length cap)] 26)) (.cells #[(.slice none 0 0), (.slice none 0 0), (.slice none 0 0)] 31)).size
    have W2 := Lib.hid (within_on W1.out (within_alloc (w.alloc (.cells #[.int .i64 p, (.slice A l.length cap)] 26)) (.cells #[(.slice none 0 0), (.slice none 0 0), (.slice none 0 0)] 31)) W1.out.size (.inr (Nat.le_refl _)))
    have HB_2 := Lib.hid (HB_1.out.within (within_alloc (w.alloc (.cells #[.int .i64 p, (.slice A l.length cap)] 26)) (.cells #[(.slice none 0 0), (.slice none 0 0), (.slice none 0 0)] 31)) (by omega))
    have BX_2 := Lib.hid (BX_1.out.within (within_alloc (w.alloc (.cells #[.int .i64 p, (.slice A l.length cap)] 26)) (.cells #[(.slice none 0 0), (.slice none 0 0), (.slice none 0 0)] 31)) (by omega))
    have Y2 := Lib.hid (show ((w.alloc (.cells #[.int .i64 p, (.slice A l.length cap)] 26)).alloc (.cells #[(.slice none 0 0), (.slice none 0 0), (.slice none 0 0)] 31)).heap.size = (w.alloc (.cells #[.int .i64 p, (.slice A l.length cap)] 26)).heap.size + 1 by simp)
    have hnew := cel3_new (w.alloc (.cells #[.int .i64 p, (.slice A l.length cap)] 26)) (.slice none 0 0) (.slice none 0 0) (.slice none 0 0) 31
    rw [show (w.alloc (.cells #[.int .i64 p, (.slice A l.length cap)] 26)).heap.size = w.heap.size + 1 by simp] at hnew
    have GR_2 := Lib.hid hnew
    clear hnew
    go_enter Try.func17, Try.ntmps17
    obtain ⟨g0_0, g0_1, g0_2⟩ := BX_2.out
    go_wp2_with fail
    clear g0_0 g0_1 g0_2
    generalize ((w.alloc (.cells #[.int .i64 p, (.slice A l.length cap)] 26)).alloc (.cells #[(.slice none 0 0), (.slice none 0 0), (.slice none 0 0)] 31)) = w2 at *
    generalize (w.alloc (.cells #[.int .i64 p, (.slice A l.length cap)] 26)) = w1 at *
    refine (HNW _ HB_2.out.at).mono ?_
    rintro e w3 ⟨AF, cF, AT, cT, AZ, cZ, rfl, ho, hb⟩
    have Z3 := Lib.hid (within_of hb).size
    have W3 := Lib.hid (within_on W2.out (within_of hb) W2.out.size (.inr (Nat.le_refl _)))
    have HB_3 := Lib.hid (HB_2.out.within (within_of hb) (by omega))
    have BX_3 := Lib.hid (BX_2.out.within (within_of hb) (by omega))
    have GR_3 := Lib.hid (GR_2.out.within (within_of hb) (by omega))
    clear hb ho HNW
    have Z4 := Lib.hid (within_alloc w3 (.cells #[(.slice AF (newF p k l).length cF), (.slice AT 0 cT), (.slice AZ 0 cZ)] 31)).size
    have W4 := Lib.hid (within_on W3.out (within_alloc w3 (.cells #[(.slice AF (newF p k l).length cF), (.slice AT 0 cT), (.slice AZ 0 cZ)] 31)) W3.out.size (.inr (Nat.le_refl _)))
    have HB_4 := Lib.hid (HB_3.out.within (within_alloc w3 (.cells #[(.slice AF (newF p k l).length cF), (.slice AT 0 cT), (.slice AZ 0 cZ)] 31)) (by omega))
    have BX_4 := Lib.hid (BX_3.out.within (within_alloc w3 (.cells #[(.slice AF (newF p k l).length cF), (.slice AT 0 cT), (.slice AZ 0 cZ)] 31)) (by omega))
    have GR_4 := Lib.hid (GR_3.out.within (within_alloc w3 (.cells #[(.slice AF (newF p k l).length cF), (.slice AT 0 cT), (.slice AZ 0 cZ)] 31)) (by omega))
    have Y4 := Lib.hid (show (w3.alloc (.cells #[(.slice AF (newF p k l).length cF), (.slice AT 0 cT), (.slice AZ 0 cZ)] 31)).heap.size = w3.heap.size + 1 by simp)
    have hnew := cel3_new w3 (.slice AF (newF p k l).length cF) (.slice AT 0 cT) (.slice AZ 0 cZ) 31
    have BP_4 := Lib.hid hnew
    clear hnew
    obtain ⟨g1_0, g1_1, g1_2, g1_3, g1_4, g1_5⟩ := GR_4.out.cells
    have Z5 := Lib.hid ((ret3 GR_4.out (.slice none 0 0) (.slice none 0 0) (.slice none 0 0)).2).size
    have W5 := Lib.hid (within_on W4.out ((ret3 GR_4.out (.slice none 0 0) (.slice none 0 0) (.slice none 0 0)).2) W4.out.size (by have := Z1.out; have := Z2.out; have := Z3.out; have := Z4.out; have := Z5.out; have := Y1.out; have := Y2.out; have := Y4.out; omega))
    have HB_5 := Lib.hid (HB_4.out.within ((ret3 GR_4.out (.slice none 0 0) (.slice none 0 0) (.slice none 0 0)).2) (by have := Z1.out; have := Z2.out; have := Z3.out; have := Z4.out; have := Z5.out; have := Y1.out; have := Y2.out; have := Y4.out; omega))
    have BX_5 := Lib.hid (BX_4.out.within ((ret3 GR_4.out (.slice none 0 0) (.slice none 0 0) (.slice none 0 0)).2) (by have := Z1.out; have := Z2.out; have := Z3.out; have := Z4.out; have := Z5.out; have := Y1.out; have := Y2.out; have := Y4.out; omega))
    have GR_5 := Lib.hid ((ret3 GR_4.out (.slice none 0 0) (.slice none 0 0) (.slice none 0 0)).1)
    have BP_5 := Lib.hid (BP_4.out.within ((ret3 GR_4.out (.slice none 0 0) (.slice none 0 0) (.slice none 0 0)).2) (by have := Z1.out; have := Z2.out; have := Z3.out; have := Z4.out; have := Z5.out; have := Y1.out; have := Y2.out; have := Y4.out; omega))
    obtain ⟨g2_0, g2_1, g2_2, g2_3, g2_4, g2_5⟩ := GR_5.out.cells
    go_wp2_with fail
    generalize ((((w3.alloc (.cells #[(.slice AF (newF p k l).length cF), (.slice AT 0 cT), (.slice AZ 0 cZ)] 31)).setCell ⟨w.heap.size + 1, 0, none⟩ (.slice none 0 0)).setCell ⟨w.heap.size + 1, 1, none⟩ (.slice none 0 0)).setCell ⟨w.heap.size + 1, 2, none⟩ (.slice none 0 0)) = w5 at *
    generalize (w3.alloc (.cells #[(.slice AF (newF p k l).length cF), (.slice AT 0 cT), (.slice AZ 0 cZ)] 31)) = w4 at *
    refine bodyPost_ret (v := .tuple #[pebV none 0 0 none 0 0 none 0 0, .bool false]) ?_ rfl ?_
    · simp [results, Try.results17, go_sem, g2_0, g2_1, g2_2]
    · rw [HR.out.1, HR.out.2]
      exact ⟨none, 0, none, 0, none, 0, rfl, own3_nil _ _ W5.out.size _ _ _ _ _ _, W5.out⟩
  by_cases hb2 : rangeB k c = true
  case neg =>
    have hb2' : rangeB k c = false := by simpa using hb2
    have HR := Lib.hid (runV_no (p := p) (l := l) (.inr hb2'))
    have HRG := Lib.hid hb2'
    clear hb2 hb2'
    have HNW : ∀ W : World, BarsAt W W.heap.size A l → Calls Try.prog 37 #[.agg #[.int .i64 p, .slice A l.length cap], .int .i64 k] W (PebOB W (newF p k l) [] [] true) := fun W h => by have hc := specNewP p k l A cap W h hn; rw [hb1] at hc; exact hc
    clear hb1
    have W0 := Lib.hid (Below.refl w.heap.size w)
    have HB_0 := Lib.hid (bars_in hl)
    clear hl
    have Z1 := Lib.hid (within_alloc w (.cells #[.int .i64 p, (.slice A l.length cap)] 26)).size
    have W1 := Lib.hid (within_on W0.out (within_alloc w (.cells #[.int .i64 p, (.slice A l.length cap)] 26)) W0.out.size (.inr (Nat.le_refl _)))
    have HB_1 := Lib.hid (HB_0.out.within (within_alloc w (.cells #[.int .i64 p, (.slice A l.length cap)] 26)) (by omega))
    have Y1 := Lib.hid (show (w.alloc (.cells #[.int .i64 p, (.slice A l.length cap)] 26)).heap.size = w.heap.size + 1 by simp)
    have hnew := box_new w p (.slice A l.length cap) 26
    have BX_1 := Lib.hid hnew
    clear hnew
    have Z2 := Lib.hid (within_alloc (w.alloc (.cells #[.int .i64 p, (.slice A l.length cap)] 26)) (.cells #[(.slice none 0 0), (.slice none 0 0), (.slice none 0 0)] 31)).size
    have W2 := Lib.hid (within_on W1.out (within_alloc (w.alloc (.cells #[.int .i64 p, (.slice A l.length cap)] 26)) (.cells #[(.slice none 0 0), (.slice none 0 0), (.slice none 0 0)] 31)) W1.out.size (.inr (Nat.le_refl _)))
    have HB_2 := Lib.hid (HB_1.out.within (within_alloc (w.alloc (.cells #[.int .i64 p, (.slice A l.length cap)] 26)) (.cells #[(.slice none 0 0), (.slice none 0 0), (.slice none 0 0)] 31)) (by omega))
    have BX_2 := Lib.hid (BX_1.out.within (within_alloc (w.alloc (.cells #[.int .i64 p, (.slice A l.length cap)] 26)) (.cells #[(.slice none 0 0), (.slice none 0 0), (.slice none 0 0)] 31)) (by omega))
    have Y2 := Lib.hid (show ((w.alloc (.cells #[.int .i64 p, (.slice A l.length cap)] 26)).alloc (.cells #[(.slice none 0 0), (.slice none 0 0), (.slice none 0 0)] 31)).heap.size = (w.alloc (.cells #[.int .i64 p, (.slice A l.length cap)] 26)).heap.size + 1 by simp)
    have hnew := cel3_new (w.alloc (.cells #[.int .i64 p, (.slice A l.length cap)] 26)) (.slice none 0 0) (.slice none 0 0) (.slice none 0 0) 31
    rw [show (w.alloc (.cells #[.int .i64 p, (.slice A l.length cap)] 26)).heap.size = w.heap.size + 1 by simp] at hnew
    have GR_2 := Lib.hid hnew
    clear hnew
    go_enter Try.func17, Try.ntmps17
    obtain ⟨g0_0, g0_1, g0_2⟩ := BX_2.out
    go_wp2_with fail
    clear g0_0 g0_1 g0_2
    generalize ((w.alloc (.cells #[.int .i64 p, (.slice A l.length cap)] 26)).alloc (.cells #[(.slice none 0 0), (.slice none 0 0), (.slice none 0 0)] 31)) = w2 at *
    generalize (w.alloc (.cells #[.int .i64 p, (.slice A l.length cap)] 26)) = w1 at *
    refine (HNW _ HB_2.out.at).mono ?_
    rintro e w3 ⟨AF, cF, AT, cT, AZ, cZ, rfl, ho, hb⟩
    have Z3 := Lib.hid (within_of hb).size
    have W3 := Lib.hid (within_on W2.out (within_of hb) W2.out.size (.inr (Nat.le_refl _)))
    have HB_3 := Lib.hid (HB_2.out.within (within_of hb) (by omega))
    have BX_3 := Lib.hid (BX_2.out.within (within_of hb) (by omega))
    have GR_3 := Lib.hid (GR_2.out.within (within_of hb) (by omega))
    clear hb ho HNW
    have Z4 := Lib.hid (within_alloc w3 (.cells #[(.slice AF (newF p k l).length cF), (.slice AT 0 cT), (.slice AZ 0 cZ)] 31)).size
    have W4 := Lib.hid (within_on W3.out (within_alloc w3 (.cells #[(.slice AF (newF p k l).length cF), (.slice AT 0 cT), (.slice AZ 0 cZ)] 31)) W3.out.size (.inr (Nat.le_refl _)))
    have HB_4 := Lib.hid (HB_3.out.within (within_alloc w3 (.cells #[(.slice AF (newF p k l).length cF), (.slice AT 0 cT), (.slice AZ 0 cZ)] 31)) (by omega))
    have BX_4 := Lib.hid (BX_3.out.within (within_alloc w3 (.cells #[(.slice AF (newF p k l).length cF), (.slice AT 0 cT), (.slice AZ 0 cZ)] 31)) (by omega))
    have GR_4 := Lib.hid (GR_3.out.within (within_alloc w3 (.cells #[(.slice AF (newF p k l).length cF), (.slice AT 0 cT), (.slice AZ 0 cZ)] 31)) (by omega))
    have Y4 := Lib.hid (show (w3.alloc (.cells #[(.slice AF (newF p k l).length cF), (.slice AT 0 cT), (.slice AZ 0 cZ)] 31)).heap.size = w3.heap.size + 1 by simp)
    have hnew := cel3_new w3 (.slice AF (newF p k l).length cF) (.slice AT 0 cT) (.slice AZ 0 cZ) 31
    have BP_4 := Lib.hid hnew
    clear hnew
    obtain ⟨g1_0, g1_1, g1_2⟩ := BX_4.out
    go_wp2_with fail
    clear g1_0 g1_1 g1_2
    generalize (w3.alloc (.cells #[(.slice AF (newF p k l).length cF), (.slice AT 0 cT), (.slice AZ 0 cZ)] 31)) = w4 at *
    refine (specRange k c _).mono ?_
    rintro e w9 ⟨rfl, rfl⟩
    rw [HRG.out]
    obtain ⟨g2_0, g2_1, g2_2, g2_3, g2_4, g2_5⟩ := GR_4.out.cells
    have Z5 := Lib.hid ((ret3 GR_4.out (.slice none 0 0) (.slice none 0 0) (.slice none 0 0)).2).size
    have W5 := Lib.hid (within_on W4.out ((ret3 GR_4.out (.slice none 0 0) (.slice none 0 0) (.slice none 0 0)).2) W4.out.size (by have := Z1.out; have := Z2.out; have := Z3.out; have := Z4.out; have := Z5.out; have := Y1.out; have := Y2.out; have := Y4.out; omega))
    have HB_5 := Lib.hid (HB_4.out.within ((ret3 GR_4.out (.slice none 0 0) (.slice none 0 0) (.slice none 0 0)).2) (by have := Z1.out; have := Z2.out; have := Z3.out; have := Z4.out; have := Z5.out; have := Y1.out; have := Y2.out; have := Y4.out; omega))
    have BX_5 := Lib.hid (BX_4.out.within ((ret3 GR_4.out (.slice none 0 0) (.slice none 0 0) (.slice none 0 0)).2) (by have := Z1.out; have := Z2.out; have := Z3.out; have := Z4.out; have := Z5.out; have := Y1.out; have := Y2.out; have := Y4.out; omega))
    have GR_5 := Lib.hid ((ret3 GR_4.out (.slice none 0 0) (.slice none 0 0) (.slice none 0 0)).1)
    have BP_5 := Lib.hid (BP_4.out.within ((ret3 GR_4.out (.slice none 0 0) (.slice none 0 0) (.slice none 0 0)).2) (by have := Z1.out; have := Z2.out; have := Z3.out; have := Z4.out; have := Z5.out; have := Y1.out; have := Y2.out; have := Y4.out; omega))
    obtain ⟨g3_0, g3_1, g3_2, g3_3, g3_4, g3_5⟩ := GR_5.out.cells
    go_wp2_with fail
    generalize (((w4.setCell ⟨w.heap.size + 1, 0, none⟩ (.slice none 0 0)).setCell ⟨w.heap.size + 1, 1, none⟩ (.slice none 0 0)).setCell ⟨w.heap.size + 1, 2, none⟩ (.slice none 0 0)) = w5 at *
    refine bodyPost_ret (v := .tuple #[pebV none 0 0 none 0 0 none 0 0, .bool false]) ?_ rfl ?_
    · simp [results, Try.results17, go_sem, g3_0, g3_1, g3_2]
    · rw [HR.out.1, HR.out.2]
      exact ⟨none, 0, none, 0, none, 0, rfl, own3_nil _ _ W5.out.size _ _ _ _ _ _, W5.out⟩
  obtain ⟨P, rfl⟩ : ∃ P : Nat, p = (P : Int) := ⟨p.toNat, by have := (newB_is hb1).1.1; omega⟩
  have HP := Lib.hid (And.intro hb1 hb2)
  have HRG := Lib.hid hb2
  have HR := Lib.hid (runV_yes hb1 hb2)
  have hnf : newF (P : Int) k l = (runN P k c l 0).1 := by unfold newF; rw [if_pos hb1, Int.toNat_natCast]; rfl
  have HNW : ∀ W : World, BarsAt W W.heap.size A l → Calls Try.prog 37 #[.agg #[.int .i64 (P : Int), .slice A l.length cap], .int .i64 k] W (PebOB W (runN P k c l 0).1 (runN P k c l 0).2.1 (runN P k c l 0).2.2 true) := fun W h => by have hc := specNewP (P : Int) k l A cap W h hn; rw [hb1, hnf] at hc; exact hc
  clear hb1 hb2 hnf
  have W0 := Lib.hid (Below.refl w.heap.size w)
  have HB_0 := Lib.hid (bars_in hl)
  clear hl
  have Z1 := Lib.hid (within_alloc w (.cells #[.int .i64 (P : Int), (.slice A l.length cap)] 26)).size
  have W1 := Lib.hid (within_on W0.out (within_alloc w (.cells #[.int .i64 (P : Int), (.slice A l.length cap)] 26)) W0.out.size (.inr (Nat.le_refl _)))
  have HB_1 := Lib.hid (HB_0.out.within (within_alloc w (.cells #[.int .i64 (P : Int), (.slice A l.length cap)] 26)) (by omega))
  have Y1 := Lib.hid (show (w.alloc (.cells #[.int .i64 (P : Int), (.slice A l.length cap)] 26)).heap.size = w.heap.size + 1 by simp)
  have hnew := box_new w (P : Int) (.slice A l.length cap) 26
  have BX_1 := Lib.hid hnew
  clear hnew
  have Z2 := Lib.hid (within_alloc (w.alloc (.cells #[.int .i64 (P : Int), (.slice A l.length cap)] 26)) (.cells #[(.slice none 0 0), (.slice none 0 0), (.slice none 0 0)] 31)).size
  have W2 := Lib.hid (within_on W1.out (within_alloc (w.alloc (.cells #[.int .i64 (P : Int), (.slice A l.length cap)] 26)) (.cells #[(.slice none 0 0), (.slice none 0 0), (.slice none 0 0)] 31)) W1.out.size (.inr (Nat.le_refl _)))
  have HB_2 := Lib.hid (HB_1.out.within (within_alloc (w.alloc (.cells #[.int .i64 (P : Int), (.slice A l.length cap)] 26)) (.cells #[(.slice none 0 0), (.slice none 0 0), (.slice none 0 0)] 31)) (by omega))
  have BX_2 := Lib.hid (BX_1.out.within (within_alloc (w.alloc (.cells #[.int .i64 (P : Int), (.slice A l.length cap)] 26)) (.cells #[(.slice none 0 0), (.slice none 0 0), (.slice none 0 0)] 31)) (by omega))
  have Y2 := Lib.hid (show ((w.alloc (.cells #[.int .i64 (P : Int), (.slice A l.length cap)] 26)).alloc (.cells #[(.slice none 0 0), (.slice none 0 0), (.slice none 0 0)] 31)).heap.size = (w.alloc (.cells #[.int .i64 (P : Int), (.slice A l.length cap)] 26)).heap.size + 1 by simp)
  have hnew := cel3_new (w.alloc (.cells #[.int .i64 (P : Int), (.slice A l.length cap)] 26)) (.slice none 0 0) (.slice none 0 0) (.slice none 0 0) 31
  rw [show (w.alloc (.cells #[.int .i64 (P : Int), (.slice A l.length cap)] 26)).heap.size = w.heap.size + 1 by simp] at hnew
  have GR_2 := Lib.hid hnew
  clear hnew
  go_enter Try.func17, Try.ntmps17
  obtain ⟨g0_0, g0_1, g0_2⟩ := BX_2.out
  go_wp2_with fail
  clear g0_0 g0_1 g0_2
  generalize ((w.alloc (.cells #[.int .i64 (P : Int), (.slice A l.length cap)] 26)).alloc (.cells #[(.slice none 0 0), (.slice none 0 0), (.slice none 0 0)] 31)) = w2 at *
  generalize (w.alloc (.cells #[.int .i64 (P : Int), (.slice A l.length cap)] 26)) = w1 at *
  refine (HNW _ HB_2.out.at).mono ?_
  rintro e w3 ⟨AF, cF, AT, cT, AZ, cZ, rfl, ho, hb⟩
  have Z3 := Lib.hid (within_of hb).size
  have W3 := Lib.hid (within_on W2.out (within_of hb) W2.out.size (.inr (Nat.le_refl _)))
  have HB_3 := Lib.hid (HB_2.out.within (within_of hb) (by omega))
  have BX_3 := Lib.hid (BX_2.out.within (within_of hb) (by omega))
  have GR_3 := Lib.hid (GR_2.out.within (within_of hb) (by omega))
  have OP_3 := Lib.hid (ho)
  clear hb HNW
  clear ho
  have Z4 := Lib.hid (within_alloc w3 (.cells #[(.slice AF (runN P k c l 0).1.length cF), (.slice AT (runN P k c l 0).2.1.length cT), (.slice AZ (runN P k c l 0).2.2.length cZ)] 31)).size
  have W4 := Lib.hid (within_on W3.out (within_alloc w3 (.cells #[(.slice AF (runN P k c l 0).1.length cF), (.slice AT (runN P k c l 0).2.1.length cT), (.slice AZ (runN P k c l 0).2.2.length cZ)] 31)) W3.out.size (.inr (Nat.le_refl _)))
  have HB_4 := Lib.hid (HB_3.out.within (within_alloc w3 (.cells #[(.slice AF (runN P k c l 0).1.length cF), (.slice AT (runN P k c l 0).2.1.length cT), (.slice AZ (runN P k c l 0).2.2.length cZ)] 31)) (by omega))
  have BX_4 := Lib.hid (BX_3.out.within (within_alloc w3 (.cells #[(.slice AF (runN P k c l 0).1.length cF), (.slice AT (runN P k c l 0).2.1.length cT), (.slice AZ (runN P k c l 0).2.2.length cZ)] 31)) (by omega))
  have GR_4 := Lib.hid (GR_3.out.within (within_alloc w3 (.cells #[(.slice AF (runN P k c l 0).1.length cF), (.slice AT (runN P k c l 0).2.1.length cT), (.slice AZ (runN P k c l 0).2.2.length cZ)] 31)) (by omega))
  have OP_4 := Lib.hid (OP_3.out.within (within_alloc w3 (.cells #[(.slice AF (runN P k c l 0).1.length cF), (.slice AT (runN P k c l 0).2.1.length cT), (.slice AZ (runN P k c l 0).2.2.length cZ)] 31)) (by omega))
  have Y4 := Lib.hid (show (w3.alloc (.cells #[(.slice AF (runN P k c l 0).1.length cF), (.slice AT (runN P k c l 0).2.1.length cT), (.slice AZ (runN P k c l 0).2.2.length cZ)] 31)).heap.size = w3.heap.size + 1 by simp)
  have hnew := cel3_new w3 (.slice AF (runN P k c l 0).1.length cF) (.slice AT (runN P k c l 0).2.1.length cT) (.slice AZ (runN P k c l 0).2.2.length cZ) 31
  have BP_4 := Lib.hid hnew
  clear hnew
  obtain ⟨g1_0, g1_1, g1_2⟩ := BX_4.out
  go_wp2_with fail
  clear g1_0 g1_1 g1_2
  generalize (w3.alloc (.cells #[(.slice AF (runN P k c l 0).1.length cF), (.slice AT (runN P k c l 0).2.1.length cT), (.slice AZ (runN P k c l 0).2.2.length cZ)] 31)) = w4 at *
  refine (specRange k c _).mono ?_
  rintro e w9 ⟨rfl, rfl⟩
  rw [HRG.out]
  have HN := Lib.hid (show RunS w w4 P A cap l w3.heap.size w2.heap.size w3.heap.size AF AT AZ cF cT cZ (runN P k c l 0) from ⟨BX_4.out, GR_4.out, BP_4.out, OP_4.out, HB_4.out, W4.out, (by have := Z1.out; have := Z2.out; have := Z3.out; have := Z4.out; have := Y1.out; have := Y2.out; have := Y4.out; omega), (by have := Z1.out; have := Z2.out; have := Z3.out; have := Z4.out; have := Y1.out; have := Y2.out; have := Y4.out; omega), .inr (Nat.le_refl _)⟩)
  go_wp2_with fail
  go_loopw [10] (fun i wr => ∃ j : Nat, j ≤ l.length ∧ i = .int .i64 j ∧ ∃ lo hi AF AT AZ cF cT cZ, RunS w wr P A cap l w3.heap.size lo hi AF AT AZ cF cT cZ (runN P k c l j)) (fun i _ => l.length - (intOf i).toNat)
  case atStart => exact ⟨0, Nat.zero_le _, rfl, _, _, _, _, _, _, _, _, HN.out⟩
  case round =>
    obtain ⟨j, hj, rfl, lo, hi, AF, AT, AZ, cF, cT, cZ, hst⟩ := hrel
    have HS := Lib.hid hst
    obtain ⟨_, g1, g2⟩ := hst.gb
    obtain ⟨c0, c1, c2, f0, f1, f2⟩ := hst.st.cells
    clear hst
    by_cases hlt : j < l.length
    · have hji : (j : Int) < (l.length : Int) := by omega
      go_wp2_with (go_at_call 34; refine (specPlaRun HP.out.1 HP.out.2 hlt A cap AF AT AZ cF cT cZ lo hi _ HS.out.bars.at HS.out.own.reads).mono ?_; rintro e w5 ⟨r, BF, dF, BT, dT, BZ, dZ, rfl, ho, hb⟩; have HS2 := Lib.hid (HS.out.put ho hb); obtain ⟨d0, d1, d2, h0, h1, h2⟩ := (HS.out.st.kept hb).cells; clear ho hb)
      go_roundw
      case rel => exact ⟨j + 1, by omega, by go_num, _, _, _, _, _, _, _, _, HS2.out⟩
      case measure => simp [intOf]; omega
    · obtain rfl : j = l.length := by omega
      obtain ⟨r0, r1, r2, q0, q1, q2⟩ := HS.out.rb.cells
      have h3 := ret3 HS.out.rb (.slice AF (runN P k c l l.length).1.length cF) (.slice AT (runN P k c l l.length).2.1.length cT) (.slice AZ (runN P k c l l.length).2.2.length cZ)
      obtain ⟨s0, s1, s2, _⟩ := h3.1.cells
      have HW := Lib.hid h3.2
      clear h3
      go_wp2_with fail
      refine bodyPost_ret (v := .tuple #[pebV AF (runN P k c l l.length).1.length cF AT (runN P k c l l.length).2.1.length cT AZ (runN P k c l l.length).2.2.length cZ, .bool true]) ?_ rfl ?_
      · simp [results, Try.results17, go_sem, s0, s1, s2]
      · have hlo := HS.out.hlo
        have hz := HW.out.size
        have hown := HS.out.own.within HW.out (.inr hlo)
        have hhi := own3_hi HS.out.own
        have hbs := HS.out.bel.size
        rw [HR.out.1, HR.out.2]
        exact ⟨AF, cF, AT, cT, AZ, cZ, rfl, hown.widen (by omega) (Nat.le_trans hhi hz) (Nat.le_refl _), within_on HS.out.bel HW.out hbs (.inl (by omega))⟩
end Go.Proofs.Ytdkpmaahinbhlaa
/- What spec.RankOf answers. No condition. -/
namespace Go.Proofs.Ytdkpmaahinbhlaa
open Go.RowKit

set_option maxHeartbeats 2000000 in
set_option maxRecDepth 100000 in
theorem specRank (p k c : Int) (l : List (Int × Int)) (A : Option Addr) (cap : Nat) (w : World) (hl : BarsAt w w.heap.size A l) (hn : l.length ≤ 1048576) :
    Calls Try.prog 46 #[.agg #[.int .i64 p, .slice A l.length cap], .int .i64 k, .int .i64 c] w fun e w' => e = .returned (.int .i64 (rankV p k c l)) ∧ Below w.heap.size w w' := by
  obtain ⟨rv, hrv⟩ : ∃ rv, rankV p k c l = rv := ⟨_, rfl⟩
  rw [hrv]
  unfold rankV at hrv
  cases hb : runB p k c l with
  | false =>
    have HRV := Lib.hid (show rv = -1 from by rw [← hrv, hb]; rfl)
    clear hrv
    have HNW : ∀ W : World, BarsAt W W.heap.size A l → Calls Try.prog 17 #[.agg #[.int .i64 p, .slice A l.length cap], .int .i64 k, .int .i64 c] W (PebOB W (runV p k c l).1 (runV p k c l).2.1 (runV p k c l).2.2 false) := fun W h => by have hc := specRunP p k c l A cap W h hn; rw [hb] at hc; exact hc
    clear hb
    have W0 := Lib.hid (Below.refl w.heap.size w)
    have HB_0 := Lib.hid (bars_in hl)
    clear hl
    have Z1 := Lib.hid (within_alloc w (.cells #[.int .i64 p, (.slice A l.length cap)] 26)).size
    have W1 := Lib.hid (within_on W0.out (within_alloc w (.cells #[.int .i64 p, (.slice A l.length cap)] 26)) W0.out.size (.inr (Nat.le_refl _)))
    have HB_1 := Lib.hid (HB_0.out.within (within_alloc w (.cells #[.int .i64 p, (.slice A l.length cap)] 26)) (by omega))
    have Y1 := Lib.hid (show (w.alloc (.cells #[.int .i64 p, (.slice A l.length cap)] 26)).heap.size = w.heap.size + 1 by simp)
    have hnew := box_new w p (.slice A l.length cap) 26
    have BX_1 := Lib.hid hnew
    clear hnew
    go_enter Try.func46, Try.ntmps46
    obtain ⟨g0_0, g0_1, g0_2⟩ := BX_1.out
    go_wp2_with fail
    clear g0_0 g0_1 g0_2
    generalize (w.alloc (.cells #[.int .i64 p, (.slice A l.length cap)] 26)) = w1 at *
    refine (HNW _ HB_1.out.at).mono ?_
    rintro e w2 ⟨AF, cF, AT, cT, AZ, cZ, rfl, ho, hb⟩
    have Z2 := Lib.hid (within_of hb).size
    have W2 := Lib.hid (within_on W1.out (within_of hb) W1.out.size (.inr (Nat.le_refl _)))
    have HB_2 := Lib.hid (HB_1.out.within (within_of hb) (by omega))
    have BX_2 := Lib.hid (BX_1.out.within (within_of hb) (by omega))
    have OP_2 := Lib.hid (ho)
    clear ho hb
    have Z3 := Lib.hid (within_alloc w2 (.cells #[(.slice AF (runV p k c l).1.length cF), (.slice AT (runV p k c l).2.1.length cT), (.slice AZ (runV p k c l).2.2.length cZ)] 31)).size
    have W3 := Lib.hid (within_on W2.out (within_alloc w2 (.cells #[(.slice AF (runV p k c l).1.length cF), (.slice AT (runV p k c l).2.1.length cT), (.slice AZ (runV p k c l).2.2.length cZ)] 31)) W2.out.size (.inr (Nat.le_refl _)))
    have HB_3 := Lib.hid (HB_2.out.within (within_alloc w2 (.cells #[(.slice AF (runV p k c l).1.length cF), (.slice AT (runV p k c l).2.1.length cT), (.slice AZ (runV p k c l).2.2.length cZ)] 31)) (by omega))
    have BX_3 := Lib.hid (BX_2.out.within (within_alloc w2 (.cells #[(.slice AF (runV p k c l).1.length cF), (.slice AT (runV p k c l).2.1.length cT), (.slice AZ (runV p k c l).2.2.length cZ)] 31)) (by omega))
    have OP_3 := Lib.hid (OP_2.out.within (within_alloc w2 (.cells #[(.slice AF (runV p k c l).1.length cF), (.slice AT (runV p k c l).2.1.length cT), (.slice AZ (runV p k c l).2.2.length cZ)] 31)) (by omega))
    have Y3 := Lib.hid (show (w2.alloc (.cells #[(.slice AF (runV p k c l).1.length cF), (.slice AT (runV p k c l).2.1.length cT), (.slice AZ (runV p k c l).2.2.length cZ)] 31)).heap.size = w2.heap.size + 1 by simp)
    have hnew := cel3_new w2 (.slice AF (runV p k c l).1.length cF) (.slice AT (runV p k c l).2.1.length cT) (.slice AZ (runV p k c l).2.2.length cZ) 31
    have BP_3 := Lib.hid hnew
    clear hnew
    obtain ⟨g1_0, g1_1, g1_2, g1_3, g1_4, g1_5⟩ := BP_3.out.cells
    go_wp2_with fail
    clear g1_0 g1_1 g1_2 g1_3 g1_4 g1_5
    generalize (w2.alloc (.cells #[(.slice AF (runV p k c l).1.length cF), (.slice AT (runV p k c l).2.1.length cT), (.slice AZ (runV p k c l).2.2.length cZ)] 31)) = w3 at *
    go_ret
    exact ⟨by rw [HRV.out]; rfl, W3.out⟩
  | true =>
    have HRV := Lib.hid (show rv = (((runV p k c l).2.2.length : Nat) : Int) from by rw [← hrv, hb]; rfl)
    clear hrv
    have HNW : ∀ W : World, BarsAt W W.heap.size A l → Calls Try.prog 17 #[.agg #[.int .i64 p, .slice A l.length cap], .int .i64 k, .int .i64 c] W (PebOB W (runV p k c l).1 (runV p k c l).2.1 (runV p k c l).2.2 true) := fun W h => by have hc := specRunP p k c l A cap W h hn; rw [hb] at hc; exact hc
    clear hb
    have W0 := Lib.hid (Below.refl w.heap.size w)
    have HB_0 := Lib.hid (bars_in hl)
    clear hl
    have Z1 := Lib.hid (within_alloc w (.cells #[.int .i64 p, (.slice A l.length cap)] 26)).size
    have W1 := Lib.hid (within_on W0.out (within_alloc w (.cells #[.int .i64 p, (.slice A l.length cap)] 26)) W0.out.size (.inr (Nat.le_refl _)))
    have HB_1 := Lib.hid (HB_0.out.within (within_alloc w (.cells #[.int .i64 p, (.slice A l.length cap)] 26)) (by omega))
    have Y1 := Lib.hid (show (w.alloc (.cells #[.int .i64 p, (.slice A l.length cap)] 26)).heap.size = w.heap.size + 1 by simp)
    have hnew := box_new w p (.slice A l.length cap) 26
    have BX_1 := Lib.hid hnew
    clear hnew
    go_enter Try.func46, Try.ntmps46
    obtain ⟨g0_0, g0_1, g0_2⟩ := BX_1.out
    go_wp2_with fail
    clear g0_0 g0_1 g0_2
    generalize (w.alloc (.cells #[.int .i64 p, (.slice A l.length cap)] 26)) = w1 at *
    refine (HNW _ HB_1.out.at).mono ?_
    rintro e w2 ⟨AF, cF, AT, cT, AZ, cZ, rfl, ho, hb⟩
    have Z2 := Lib.hid (within_of hb).size
    have W2 := Lib.hid (within_on W1.out (within_of hb) W1.out.size (.inr (Nat.le_refl _)))
    have HB_2 := Lib.hid (HB_1.out.within (within_of hb) (by omega))
    have BX_2 := Lib.hid (BX_1.out.within (within_of hb) (by omega))
    have OP_2 := Lib.hid (ho)
    clear ho hb
    have Z3 := Lib.hid (within_alloc w2 (.cells #[(.slice AF (runV p k c l).1.length cF), (.slice AT (runV p k c l).2.1.length cT), (.slice AZ (runV p k c l).2.2.length cZ)] 31)).size
    have W3 := Lib.hid (within_on W2.out (within_alloc w2 (.cells #[(.slice AF (runV p k c l).1.length cF), (.slice AT (runV p k c l).2.1.length cT), (.slice AZ (runV p k c l).2.2.length cZ)] 31)) W2.out.size (.inr (Nat.le_refl _)))
    have HB_3 := Lib.hid (HB_2.out.within (within_alloc w2 (.cells #[(.slice AF (runV p k c l).1.length cF), (.slice AT (runV p k c l).2.1.length cT), (.slice AZ (runV p k c l).2.2.length cZ)] 31)) (by omega))
    have BX_3 := Lib.hid (BX_2.out.within (within_alloc w2 (.cells #[(.slice AF (runV p k c l).1.length cF), (.slice AT (runV p k c l).2.1.length cT), (.slice AZ (runV p k c l).2.2.length cZ)] 31)) (by omega))
    have OP_3 := Lib.hid (OP_2.out.within (within_alloc w2 (.cells #[(.slice AF (runV p k c l).1.length cF), (.slice AT (runV p k c l).2.1.length cT), (.slice AZ (runV p k c l).2.2.length cZ)] 31)) (by omega))
    have Y3 := Lib.hid (show (w2.alloc (.cells #[(.slice AF (runV p k c l).1.length cF), (.slice AT (runV p k c l).2.1.length cT), (.slice AZ (runV p k c l).2.2.length cZ)] 31)).heap.size = w2.heap.size + 1 by simp)
    have hnew := cel3_new w2 (.slice AF (runV p k c l).1.length cF) (.slice AT (runV p k c l).2.1.length cT) (.slice AZ (runV p k c l).2.2.length cZ) 31
    have BP_3 := Lib.hid hnew
    clear hnew
    obtain ⟨g1_0, g1_1, g1_2, g1_3, g1_4, g1_5⟩ := BP_3.out.cells
    go_wp2_with fail
    clear g1_0 g1_1 g1_2 g1_3 g1_4 g1_5
    generalize (w2.alloc (.cells #[(.slice AF (runV p k c l).1.length cF), (.slice AT (runV p k c l).2.1.length cT), (.slice AZ (runV p k c l).2.2.length cZ)] 31)) = w3 at *
    go_ret
    exact ⟨by rw [HRV.out]; rfl, W3.out⟩
end Go.Proofs.Ytdkpmaahinbhlaa
/- What spec.OnlyBars answers, and spec.l2Has. No condition. -/
namespace Go.Proofs.Ytdkpmaahinbhlaa
open Go.RowKit

/-- The first k bars whose index S takes. -/
def onlyK (l : List (Int × Int)) (S : Nat → Bool) : Nat → List (Int × Int)
  | 0 => []
  | k + 1 => onlyK l S k ++ if S k then [l.getD k (0, 0)] else []
def inS (zs : List Int) (k : Nat) : Bool := decide ((k : Int) ∈ zs)
def onlyL (l : List (Int × Int)) (zs : List Int) : List (Int × Int) := onlyK l (inS zs) l.length
theorem onlyK_len (l : List (Int × Int)) (S : Nat → Bool) : ∀ k, (onlyK l S k).length ≤ k := by
  intro k
  induction k with
  | zero => exact Nat.le_refl _
  | succ k ih =>
    rw [onlyK, List.length_append]
    split <;> simp <;> omega
set_option maxHeartbeats 4000000 in
set_option maxRecDepth 100000 in
theorem specOnly (p : Int) (l : List (Int × Int)) (zs : List Int) (A Z : Option Addr) (cap cz lo hi : Nat) (w : World) (hl : BarsAt w w.heap.size A l) (hz : IntsIn w lo hi Z zs) (hn : l.length ≤ 1048576) (hnz : zs.length ≤ 1048576) :
    Calls Try.prog 27 #[.agg #[.int .i64 p, .slice A l.length cap], .slice Z zs.length cz] w (GraphR w p (onlyL l zs)) := by
  have hA1 := new_below w (.cells #[.int .i64 p, .slice A l.length cap] 26)
  have hA2 := new_below (w.alloc (.cells #[.int .i64 p, .slice A l.length cap] 26)) (.cells #[.int .i64 0, .slice none 0 0] 26)
  have hsz1 : (w.alloc (.cells #[.int .i64 p, .slice A l.length cap] 26)).heap.size = w.heap.size + 1 := by simp
  have hsz2 : ((w.alloc (.cells #[.int .i64 p, .slice A l.length cap] 26)).alloc (.cells #[.int .i64 0, .slice none 0 0] 26)).heap.size = w.heap.size + 2 := by simp
  have HA := Lib.hid (below_on hA1 hA2 hA1.size)
  have HLW := Lib.hid hl
  have HZW := Lib.hid hz
  have BX := Lib.hid ((box_new w p (.slice A l.length cap) 26).kept hA2)
  have hR := box_new (w.alloc (.cells #[.int .i64 p, .slice A l.length cap] 26)) 0 (.slice none 0 0) 26
  have hF : ((w.alloc (.cells #[.int .i64 p, .slice A l.length cap] 26)).alloc (.cells #[.int .i64 0, .slice none 0 0] 26)).frozen? ⟨(w.alloc (.cells #[.int .i64 p, .slice A l.length cap] 26)).heap.size, 0, none⟩ = false ∧ ((w.alloc (.cells #[.int .i64 p, .slice A l.length cap] 26)).alloc (.cells #[.int .i64 0, .slice none 0 0] 26)).frozen? ⟨(w.alloc (.cells #[.int .i64 p, .slice A l.length cap] 26)).heap.size, 1, none⟩ = false := ⟨World.frozen?_alloc_at _ _ _ _ rfl, World.frozen?_alloc_at _ _ _ _ rfl⟩
  rw [hsz1] at hR hF
  have HR := Lib.hid hR
  have HF := Lib.hid hF
  have hG := gbox_made ((w.alloc (.cells #[.int .i64 p, .slice A l.length cap] 26)).alloc (.cells #[.int .i64 0, .slice none 0 0] 26)) w.heap.size [w.heap.size, w.heap.size + 1] p (by rw [hsz2]; omega) (fun o ho => by rw [hsz2]; simp at ho; omega)
  rw [hsz2] at hG
  have HG := Lib.hid hG
  clear hl hz hA1 hA2 hsz1 hR hF hG
  go_enter Try.func27, Try.ntmps27
  go_wp2_with fail
  have HSZ2 := Lib.hid hsz2
  clear hsz2
  generalize ((((w.alloc (.cells #[.int .i64 p, .slice A l.length cap] 26)).alloc (.cells #[.int .i64 0, .slice none 0 0] 26)).alloc (.cells #[] 108)).alloc (.cells #[.int .i64 p, .slice (some ⟨w.heap.size + 2, 0, none⟩) 0 0] 26)) = w1 at *
  generalize ((w.alloc (.cells #[.int .i64 p, .slice A l.length cap] 26)).alloc (.cells #[.int .i64 0, .slice none 0 0] 26)) = w0 at *
  go_loopw [6] (fun i wr => ∃ k : Nat, k ≤ l.length ∧ i = .int .i64 k ∧ ∃ A' c', GBox w.heap.size w0 wr (w.heap.size + 2 + 1) [w.heap.size, w.heap.size + 1] p A' c' (onlyK l (inS zs) k)) (fun i _ => l.length - (intOf i).toNat)
  case atStart => exact ⟨0, by omega, rfl, _, _, HG.out⟩
  case round =>
    obtain ⟨k, hk, rfl, A', c', hst⟩ := hrel
    have HST := Lib.hid hst
    have HBW := Lib.hid (HA.out.trans hst.2.2.2.2.2.1)
    have hbs : w.heap.size ≤ wr.heap.size := Nat.le_of_lt (Nat.lt_of_le_of_lt hst.2.2.2.2.2.2 hst.1.1)
    have b1 := (hst.cell (o := w.heap.size) (k := 1) (by simp)).trans BX.out.2.2
    clear hst
    by_cases hlt : k < l.length
    · have hik : (k : Int) < (l.length : Int) := by omega
      obtain ⟨b0, off, rfl, hbB, hcell⟩ := HLW.out (by omega)
      have hc1 := (HBW.out.cell (p := ⟨b0, off + k * 2, none⟩) hbB).trans (hcell k hlt).1
      have hc2 := (HBW.out.cell (p := ⟨b0, off + k * 2 + 1, none⟩) hbB).trans (hcell k hlt).2
      clear hcell
      have HZ := Lib.hid (show IntsIn wr lo hi Z zs from ⟨Nat.le_trans HZW.out.1 hbs, fun hl0 => by
        obtain ⟨bz, oz, e, h1, h2, hc⟩ := HZW.out.2 hl0
        exact ⟨bz, oz, e, h1, h2, fun j hj => (HBW.out.cell (p := ⟨bz, oz + j, none⟩) (Nat.lt_of_lt_of_le h2 HZW.out.1)).trans (hc j hj)⟩⟩)
      go_wp2_with fail
      refine (has_c zs (k : Int) Z cz lo hi _ HZ.out hnz).mono ?_
      rintro e w2 ⟨rfl, rfl⟩
      rcases hs : decide ((k : Int) ∈ zs) with _ | _
      · have HE := Lib.hid (show onlyK l (inS zs) (k + 1) = onlyK l (inS zs) k by rw [onlyK, show inS zs k = false from hs]; simp)
        go_wp2_with fail
        go_roundw
        case rel => exact ⟨k + 1, by omega, by go_num, A', c', by rw [HE.out]; exact HST.out⟩
        case measure => simp [intOf]; omega
      · have HE := Lib.hid (show onlyK l (inS zs) (k + 1) = onlyK l (inS zs) k ++ [l.getD k (0, 0)] by rw [onlyK, show inS zs k = true from hs]; simp)
        have hll := onlyK_len l (inS zs) k
        obtain ⟨x, hx⟩ : ∃ x, l.getD k (0, 0) = x := ⟨_, rfl⟩
        rw [hx] at hc1 hc2 HE
        clear hx
        obtain ⟨x1, x2⟩ := x
        simp only at hc1 hc2
        obtain ⟨L, hL⟩ : ∃ L, L = onlyK l (inS zs) k := ⟨_, rfl⟩
        rw [← hL] at HST HE hll
        clear hL
        obtain ⟨i0, hi0, hz0, hz1, hz2⟩ := info_parts infoBar
        obtain ⟨hlt0, g1, g2⟩ := HST.out.1
        have gf := HST.out.2.1
        go_wp2_with fail
        go_region_law (refine step_append_lies _ (by rfl) _ _ _ (by rfl) w.heap.size 108 i0 _ 2 16 Try.underlying24 hi0 hz0 hz1 hz2 rfl (by omega) _ L.length (barCells L) (by rfl) ((HST.out.2.2.2.1.alloc _).drew) ⟨wr.heap.size, 0, none⟩ 1 1 [.int .i64 x1, .int .i64 x2] (by rfl) (by rfl) (World.news_of_block (cs := #[.int .i64 x1, .int .i64 x2]) (t := 108) (fr := (0, 0)) (heap_alloc_new wr _)) (by simp [Value.oneCell']) (by omega) (by unfold maxLen; omega) (by omega) (by simp; omega) (wr.heap.size + 1) (by simp) ?_; intro gg cap2 w1' hown1 hgrow hat hlt; obtain ⟨c0, c1, f1, hG2⟩ := HST.out.push2 (x1, x2) hown1 hgrow hat; have HG2 := Lib.hid hG2; clear hown1 hgrow hat hG2)
        all_goals
          go_wp2_with fail
          go_roundw
          case rel => exact ⟨k + 1, by omega, by go_num, _, cap2, by rw [HE.out]; first | exact HG2.out | exact HG2.out.drew⟩
          case measure => simp [intOf]; omega
    · obtain rfl : k = l.length := by omega
      obtain ⟨_, g1, g2⟩ := HST.out.1
      have r0 := (HST.out.cell (o := w.heap.size + 1) (k := 0) (by simp)).trans HR.out.2.1
      have r1 := (HST.out.cell (o := w.heap.size + 1) (k := 1) (by simp)).trans HR.out.2.2
      have f0 := (HST.out.frozen (o := w.heap.size + 1) (k := 0) (by simp)).trans HF.out.1
      have f1 := (HST.out.frozen (o := w.heap.size + 1) (k := 1) (by simp)).trans HF.out.2
      have hr := HST.out.ret (o := w.heap.size + 1) (by simp) (by omega) (.int .i64 p) (.slice A' (onlyK l (inS zs) l.length).length c')
      have HRT := Lib.hid hr
      have s0 : ((wr.setCell ⟨w.heap.size + 1, 0, none⟩ (.int .i64 p)).setCell ⟨w.heap.size + 1, 1, none⟩ (.slice A' (onlyK l (inS zs) l.length).length c')).cell? ⟨w.heap.size + 1, 0, none⟩ = some (.int .i64 p) := by
        rw [World.cell?_setCell_other _ _ _ _ (by intro e; simp at e)]
        exact World.cell?_setCell_same _ _ _ r0
      have s1 : ((wr.setCell ⟨w.heap.size + 1, 0, none⟩ (.int .i64 p)).setCell ⟨w.heap.size + 1, 1, none⟩ (.slice A' (onlyK l (inS zs) l.length).length c')).cell? ⟨w.heap.size + 1, 1, none⟩ = some (.slice A' (onlyK l (inS zs) l.length).length c') := by
        have r2 : (wr.setCell ⟨w.heap.size + 1, 0, none⟩ (.int .i64 p)).cell? ⟨w.heap.size + 1, 1, none⟩ = some (.slice none 0 0) := by
          rw [World.cell?_setCell_other _ _ _ _ (by intro e; simp at e)]
          exact r1
        exact World.cell?_setCell_same _ _ _ r2
      clear hr
      go_wp2_with fail
      refine bodyPost_ret (v := .agg #[.int .i64 p, .slice A' (onlyK l (inS zs) l.length).length c']) ?_ rfl ⟨A', c', rfl, HRT.out.1.bars.at, HA.out.trans HRT.out.2⟩
      simp [results, Try.results27, go_sem, s0, s1]
end Go.Proofs.Ytdkpmaahinbhlaa
/- What RankOfSet answers, as a number. No program's walk. No condition. -/
namespace Go.Proofs.Ytdkpmaahinbhlaa
open Go.RowKit

end Go.Proofs.Ytdkpmaahinbhlaa
