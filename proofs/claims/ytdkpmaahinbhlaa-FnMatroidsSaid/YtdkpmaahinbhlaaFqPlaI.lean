/- What (*Pebbles).place does. No condition. -/
import Derived.Test.YtdkpmaahinbhlaaFqB2
import Derived.Test.YtdkpmaahinbhlaaFqB1
import Derived.Test.YtdkpmaahinbhlaaFqGathI
namespace Go.Proofs.Ytdkpmaahinbhlaa
open Go.RowKit

set_option maxHeartbeats 8000000 in
set_option maxRecDepth 100000 in
theorem place_c (P : Nat) (k0 : Int) (l : List (Int × Int)) (A : Option Addr) (cap pb B : Nat) (f t z : Nat × Nat) (AF AT AZ : Option Addr) (cF cT cZ : Nat) (F T Z : List Int) (c : Int) (n : Nat) (w : World) (hI : IsPeb (P : Int) k0 l F T Z) (hc : 0 ≤ c ∧ c ≤ 100) (hn : n < l.length)
    (hl : BarsIn w 0 B A l) (hst : Cel3 w pb 31 (.slice AF F.length cF) (.slice AT T.length cT) (.slice AZ Z.length cZ)) (ho : OwnF w f t z AF cF AT cT AZ cZ F T Z) (hB : B ≤ w.heap.size ∧ B ≤ pb ∧ B ≤ f.1 ∧ B ≤ t.1 ∧ B ≤ z.1) (hpf : pb < f.1 ∨ f.2 ≤ pb) (hpt : pb < t.1 ∨ t.2 ≤ pb) (hpz : pb < z.1 ∨ z.2 ≤ pb) (ht12 : t.1 ≤ w.heap.size) (hz12 : z.1 ≤ w.heap.size) :
    Calls Try.prog 109 #[.pointer (some ⟨pb, 0, none⟩), .agg #[.int .i64 (P : Int), .slice A l.length cap], .int .i64 c, .int .i64 (n : Int)] w (PlaceP w B pb f t z AF cF AT cT AZ cZ l c F T Z (n : Int)) := by
  have hFP : F.length = P := by have := hI.2.2.1; omega
  have hS := hI.state
  rw [hFP] at hS
  have hOB := hI.1.2.2 n hn
  unfold OkBar at hOB
  have hP8 := hI.1.1
  have hl24 := hI.1.2.1
  have hz24 : Z.length ≤ 24 := by have := hI.many; omega
  have hz24t : T.length ≤ 24 := by have := hI.2.2.2.1; omega
  have hk := hI.2.1
  have hbar : 0 < l.length → ∀ g off, A = some ⟨g, off, none⟩ → (g < f.1 ∨ f.2 ≤ g) ∧ (g < t.1 ∨ t.2 ≤ g) := fun h0 g off e => by
    obtain ⟨b, o, e1, _, h2, _⟩ := hl.2 h0
    rw [e] at e1
    cases e1
    omega
  obtain ⟨bb, boff, rfl, _, hbc⟩ := hl.at (by omega)
  have hx1 := (hbc n hn).1
  have hx2 := (hbc n hn).2
  obtain ⟨x, hxd⟩ : ∃ x, l.getD n (0, 0) = x := ⟨_, rfl⟩
  rw [hxd] at hx1 hx2 hOB
  obtain ⟨x1, x2⟩ := x
  simp only at hx1 hx2 hOB
  obtain ⟨a, rfl⟩ : ∃ a : Nat, x1 = (a : Int) := ⟨x1.toNat, by omega⟩
  obtain ⟨b, rfl⟩ : ∃ b : Nat, x2 = (b : Int) := ⟨x2.toNat, by omega⟩
  have HX := Lib.hid hxd
  have HS := Lib.hid hS
  have HZ := Lib.hid (fun i hi => (hI.2.2.2.2.1 i hi).1)
  have HBAR := Lib.hid hbar
  have hni : (n : Int) < (l.length : Int) := by omega
  have b1 := new_below w (.cells #[.int .i64 (P : Int), .slice (some ⟨bb, boff, none⟩) l.length cap] 26)
  have b2 := new_below (w.alloc (.cells #[.int .i64 (P : Int), .slice (some ⟨bb, boff, none⟩) l.length cap] 26)) (.cells #[.int .i64 (a : Int), .int .i64 (b : Int)] 108)
  have hb12 := below_on b1 b2 b1.size
  have HW := Lib.hid hb12
  have HBX := Lib.hid ((box_new w (P : Int) (.slice (some ⟨bb, boff, none⟩) l.length cap) 26).kept b2)
  have HBI := Lib.hid (hl.within (within_of hb12) (.inr (Nat.zero_le _)))
  have hb3 := box_new (w.alloc (.cells #[.int .i64 (P : Int), .slice (some ⟨bb, boff, none⟩) l.length cap] 26)) (a : Int) (.int .i64 (b : Int)) 108
  rw [show (w.alloc (.cells #[.int .i64 (P : Int), .slice (some ⟨bb, boff, none⟩) l.length cap] 26)).heap.size = w.heap.size + 1 by simp] at hb3
  have HB3 := Lib.hid hb3
  clear hb3
  have HST := Lib.hid (hst.kept hb12)
  have HO := Lib.hid (ho.below hb12)
  have hplt := hst.lt
  have hh := ho.hi
  have HTT := Lib.hid hI.2.2.2.1
  have HFP := Lib.hid hFP
  clear hI hS hxd hbc hbar b1 b2 hb12 hl hst ho hFP
  go_enter Try.func109, Try.ntmps109
  go_wp2_with fail
  refine (gather_c P k0 l (some ⟨bb, boff, none⟩) cap pb f t z AF AT AZ cF cT cZ F T Z a b (c + 1) _ HS.out (by omega) (by omega) hl24 hz24 HZ.out (by omega) (by omega) (by omega) HBI.out.at HST.out HO.out hpf hpt HBAR.out).mono ?_
  rintro e w3 ⟨hw, ⟨rfl, hg, ho⟩ | ⟨s', rfl, hg, ho⟩⟩
  · have HW3 := Lib.hid (below_low2 ((Within2.of (within_of HW.out) (.inl (Nat.le_refl 0))).trans hw) hB.2.2.1 hB.2.2.2.1 hB.1)
    have HO3 := Lib.hid ho
    have HG := Lib.hid hg
    have HST3 := Lib.hid (HST.out.at hw hpf hpt)
    clear hw ho hg
    go_wp2_with fail
    go_ret
    exact ⟨HW3.out, .inl ⟨rfl, by unfold plaR; rw [Int.toNat_natCast, HX.out, HG.out]; rfl, HO3.out, HST3.out⟩⟩
  · obtain ⟨hq, _⟩ := gathR_ok (P := P) (by omega) (by omega) (by omega) HS.out hg
    have HL1 := Lib.hid (show s'.1.length = F.length by rw [hq.flen, HFP.out])
    have HL2 := Lib.hid (show s'.2.length = T.length by rw [hq.ends.len, HS.out.ends.len])
    have hst3 := HST.out.at hw hpf hpt
    rw [← HL1.out, ← HL2.out] at hst3
    have HST3 := Lib.hid hst3
    have HB := Lib.hid (HB3.out.at hw (by omega) (by omega))
    have HW3 := Lib.hid (below_low2 ((Within2.of (within_of HW.out) (.inl (Nat.le_refl 0))).trans hw) hB.2.2.1 hB.2.2.2.1 hB.1)
    have hsa := hq.small (v := (a : Int)) (by omega)
    have hsb := hq.small (v := (b : Int)) (by omega)
    rw [Int.toNat_natCast] at hsa hsb
    have hfl := hq.flen
    obtain ⟨F', T'⟩ := s'
    simp only at hsa hsb hfl hst3 ho HST3 HL1 HL2
    obtain ⟨gF, rfl, g1, g2, hF⟩ := ho.1.open_ (by omega)
    have ha1 := (hF.cellAt a (by omega)).trans (intCells_get F' a (by omega))
    have hb1 := (hF.cellAt b (by omega)).trans (intCells_get F' b (by omega))
    have hfa := hF.frozenAt a
    have hfb := hF.frozenAt b
    have HF := Lib.hid hF
    have HO3 := Lib.hid ho
    have HG := Lib.hid hg
    have haF : (a : Int) < (F'.length : Int) := by omega
    have hbF : (b : Int) < (F'.length : Int) := by omega
    obtain ⟨d1, hd1⟩ : ∃ d1, F'.getD a 0 = d1 := ⟨_, rfl⟩
    obtain ⟨d2, hd2⟩ : ∃ d2, F'.getD b 0 = d2 := ⟨_, rfl⟩
    rw [hd1] at ha1 hsa
    rw [hd2] at hb1 hsb
    have HD := Lib.hid (And.intro hd1 hd2)
    have HFL := Lib.hid hfl
    have HTL := Lib.hid (show T'.length ≤ 24 by rw [HL2.out]; exact hz24t)
    have hs3 : w.heap.size ≤ w3.heap.size := HW3.out.size
    obtain ⟨hc0, hc1, hc2, hz0, hz1, hz2⟩ := hst3.cells
    obtain ⟨_, y0, y1⟩ := HB.out
    have hpb1 : w.heap.size ≠ pb := by omega
    have hpb2 : w.heap.size + 1 ≠ pb := by omega
    clear hq hst3 hd1 hd2 hfl hF ho hg hw
    have hgp : gF ≠ pb := by omega
    by_cases c1 : d1 = 0
    · have e1 : (d1 == 0) = true := by simpa using c1
      have hw4 := within_set w3 gF b (.int .i64 (d2 - 1))
      obtain ⟨o1, o2, o3, x1, x2, x3⟩ := HO3.out
      have HXX := Lib.hid (And.intro x1 (And.intro x2 x3))
      unfold Dis at x1 x2 x3
      have HT4 := Lib.hid (o2.within hw4 (by omega))
      have HZ4 := Lib.hid (o3.within hw4 (by omega))
      have HF4 := Lib.hid (show (w3.setCell ⟨gF, b, none⟩ (.int .i64 (d2 - 1))).ownsRow 0 3 1 (.slice (some ⟨gF, 0, none⟩) (F'.set b (d2 - 1)).length cF) (F'.set b (d2 - 1)).length (intCells (F'.set b (d2 - 1))) from by
        have h1 := (HF.out.stored b (.int .i64 (d2 - 1))).1
        rw [intCells_set] at h1
        rw [List.length_set]
        exact h1)
      have HST4 := Lib.hid (HST3.out.within hw4 (by omega))
      have HTW := Lib.hid (show t.1 ≤ (w3.setCell ⟨gF, b, none⟩ (.int .i64 (d2 - 1))).heap.size from Nat.le_trans ht12 (Nat.le_trans hs3 hw4.size))
      have HZV := Lib.hid (show z.1 ≤ (w3.setCell ⟨gF, b, none⟩ (.int .i64 (d2 - 1))).heap.size from Nat.le_trans hz12 (Nat.le_trans hs3 hw4.size))
      have HW4 := Lib.hid hw4
      obtain ⟨m0, m1, m2, m3, m4, m5⟩ := HST4.out.cells
      clear o1 o2 o3 x1 x2 x3 hw4
      go_wp2_with (first
        | (at_builtin; refine wpList_pushR _ rfl _ _ rfl z.1 z.2 AZ cZ Z (n : Int) rfl HZ6.out _ (by first | rfl | (simp only [World.size_setCell]; rfl)) (by omega) HZW.out ?_; intro A7 c7 w7 lo7 hi7 hr7 hor7 hw7; have HR7 := Lib.hid hr7; have HOR7 := Lib.hid hor7; have HW7 := Lib.hid hw7; have HST7 := Lib.hid (HST6.out.within hw7 hpz); obtain ⟨r0, r1, r2, r3, r4, r5⟩ := HST7.out.cells; clear hr7 hor7 hw7)
        | (at_builtin; refine wpList_pushR _ rfl _ _ rfl t.1 t.2 AT cT T' (b : Int) rfl HT4.out _ (by first | rfl | (simp only [World.size_setCell]; rfl)) (by have := HTL.out; omega) HTW.out ?_; intro A5 c5 w5 lo5 hi5 hr5 hor5 hw5; have HR5 := Lib.hid hr5; have HOR5 := Lib.hid hor5; have HW5 := Lib.hid hw5; have HST5 := Lib.hid (HST4.out.within hw5 hpt); have HST6 := Lib.hid (HST5.out.set1 (.slice A5 (T'.length + 1) c5)); have HZ6 := Lib.hid ((HZ4.out.within hw5 (by have := HXX.out.2.2; unfold Dis at this; omega)).within (within_set w5 pb 1 (.slice A5 (T'.length + 1) c5)) (by omega)); have HZW := Lib.hid (show z.1 ≤ (w5.setCell ⟨pb, 1, none⟩ (.slice A5 (T'.length + 1) c5)).heap.size from by rw [World.size_setCell]; exact Nat.le_trans HZV.out hw5.size); obtain ⟨p0, p1, p2, p3, p4, p5⟩ := HST5.out.cells; obtain ⟨u0, u1, u2, u3, u4, u5⟩ := HST6.out.cells; clear hr5 hor5 hw5))
      go_ret
      have hr5 := HR5.out
      have hr7 := HR7.out
      have hor5 := HOR5.out
      have hor7 := HOR7.out
      have w4 := HW4.out
      have w5w := HW5.out
      have w7w := HW7.out
      have xx := HXX.out
      have q5 := within_set w5 pb 1 (.slice A5 (T'.length + 1) c5)
      have q7 := within_set w7 pb 2 (.slice A7 (Z.length + 1) c7)
      have s4 := w4.size
      have s5 := w5w.size
      have s6 := q5.size
      have s7 := w7w.size
      have s8 := q7.size
      unfold Dis at xx
      have hB' := hB
      have e4 : (w3.setCell ⟨gF, b, none⟩ (.int .i64 (d2 - 1))).heap.size = w3.heap.size := by simp
      have e6 : (w5.setCell ⟨pb, 1, none⟩ (.slice A5 (T'.length + 1) c5)).heap.size = w5.heap.size := by simp
      have e8 : (w7.setCell ⟨pb, 2, none⟩ (.slice A7 (Z.length + 1) c7)).heap.size = w7.heap.size := by simp
      have hbel : Below B w (w7.setCell ⟨pb, 2, none⟩ (.slice A7 (Z.length + 1) c7)) := ((((HW3.out.trans (below_low w4 (by omega) (by omega))).trans (below_low w5w (by omega) (by omega))).trans (below_low q5 (by omega) (by omega))).trans (below_low w7w (by omega) (by omega))).trans (below_low q7 (by omega) (by omega))
      have hf8 := own_block (own_block (own_block (own_block HF4.out (w5w.block gF (HF4.out.lt gF rfl).2 (by omega))) (q5.block gF (by have := (HF4.out.lt gF rfl).2; omega) (by omega))) (w7w.block gF (by have := (HF4.out.lt gF rfl).2; omega) (by omega))) (q7.block gF (by have := (HF4.out.lt gF rfl).2; omega) (by omega))
      have ht8 := ((hr5.within q5 (by omega)).within w7w (by omega)).within q7 (by omega)
      have hz8 := hr7.within q7 (by omega)
      have hc8 := HST7.out.set2 (.slice A7 (Z.length + 1) c7)
      refine ⟨hbel, .inr ⟨(F'.set b (d2 - 1), (T' ++ [(b : Int)]), (Z ++ [(n : Int)])), A5, c5, A7, c7, (lo5, hi5), (lo7, hi7), rfl, ?_, ⟨⟨by show f.2 ≤ _; omega, .inr ⟨gF, rfl, g1, g2, own_rebase hf8 g1⟩⟩, ht8, hz8, ?_, ?_, ?_⟩, ?_, ?_, ?_⟩⟩
      · unfold plaR
        rw [Int.toNat_natCast, HX.out, HG.out]
        simp only [Option.map_some, Int.toNat_natCast, HD.out.1, HD.out.2]
        rw [if_pos c1]
      · unfold Dis; show f.2 ≤ lo5 ∨ hi5 ≤ f.1; omega
      · unfold Dis; show f.2 ≤ lo7 ∨ hi7 ≤ f.1; omega
      · unfold Dis; show hi5 ≤ lo7 ∨ hi7 ≤ lo5; omega
      · show Cel3 _ pb _ (.slice _ (F'.set b (d2 - 1)).length _) (.slice _ (T' ++ [(b : Int)]).length _) (.slice _ (Z ++ [(n : Int)]).length _)
        rw [List.length_set, List.length_append, List.length_append]
        exact hc8
      · rcases hor5 with ⟨rfl, rfl⟩ | h
        · exact .inl rfl
        · exact .inr ⟨by show w.heap.size ≤ lo5; omega, by show lo5 ≤ _; omega⟩
      · rcases hor7 with ⟨rfl, rfl⟩ | h
        · exact .inl rfl
        · exact .inr ⟨by show w.heap.size ≤ lo7; omega, by show lo7 ≤ _; omega⟩
    · have e1 : (d1 == 0) = false := by simpa using c1
      have hw4 := within_set w3 gF a (.int .i64 (d1 - 1))
      obtain ⟨o1, o2, o3, x1, x2, x3⟩ := HO3.out
      have HXX := Lib.hid (And.intro x1 (And.intro x2 x3))
      unfold Dis at x1 x2 x3
      have HT4 := Lib.hid (o2.within hw4 (by omega))
      have HZ4 := Lib.hid (o3.within hw4 (by omega))
      have HF4 := Lib.hid (show (w3.setCell ⟨gF, a, none⟩ (.int .i64 (d1 - 1))).ownsRow 0 3 1 (.slice (some ⟨gF, 0, none⟩) (F'.set a (d1 - 1)).length cF) (F'.set a (d1 - 1)).length (intCells (F'.set a (d1 - 1))) from by
        have h1 := (HF.out.stored a (.int .i64 (d1 - 1))).1
        rw [intCells_set] at h1
        rw [List.length_set]
        exact h1)
      have HST4 := Lib.hid (HST3.out.within hw4 (by omega))
      have HTW := Lib.hid (show t.1 ≤ (w3.setCell ⟨gF, a, none⟩ (.int .i64 (d1 - 1))).heap.size from Nat.le_trans ht12 (Nat.le_trans hs3 hw4.size))
      have HZV := Lib.hid (show z.1 ≤ (w3.setCell ⟨gF, a, none⟩ (.int .i64 (d1 - 1))).heap.size from Nat.le_trans hz12 (Nat.le_trans hs3 hw4.size))
      have HW4 := Lib.hid hw4
      obtain ⟨m0, m1, m2, m3, m4, m5⟩ := HST4.out.cells
      clear o1 o2 o3 x1 x2 x3 hw4
      go_wp2_with (first
        | (at_builtin; refine wpList_pushR _ rfl _ _ rfl z.1 z.2 AZ cZ Z (n : Int) rfl HZ6.out _ (by first | rfl | (simp only [World.size_setCell]; rfl)) (by omega) HZW.out ?_; intro A7 c7 w7 lo7 hi7 hr7 hor7 hw7; have HR7 := Lib.hid hr7; have HOR7 := Lib.hid hor7; have HW7 := Lib.hid hw7; have HST7 := Lib.hid (HST6.out.within hw7 hpz); obtain ⟨r0, r1, r2, r3, r4, r5⟩ := HST7.out.cells; clear hr7 hor7 hw7)
        | (at_builtin; refine wpList_pushR _ rfl _ _ rfl t.1 t.2 AT cT T' (a : Int) rfl HT4.out _ (by first | rfl | (simp only [World.size_setCell]; rfl)) (by have := HTL.out; omega) HTW.out ?_; intro A5 c5 w5 lo5 hi5 hr5 hor5 hw5; have HR5 := Lib.hid hr5; have HOR5 := Lib.hid hor5; have HW5 := Lib.hid hw5; have HST5 := Lib.hid (HST4.out.within hw5 hpt); have HST6 := Lib.hid (HST5.out.set1 (.slice A5 (T'.length + 1) c5)); have HZ6 := Lib.hid ((HZ4.out.within hw5 (by have := HXX.out.2.2; unfold Dis at this; omega)).within (within_set w5 pb 1 (.slice A5 (T'.length + 1) c5)) (by omega)); have HZW := Lib.hid (show z.1 ≤ (w5.setCell ⟨pb, 1, none⟩ (.slice A5 (T'.length + 1) c5)).heap.size from by rw [World.size_setCell]; exact Nat.le_trans HZV.out hw5.size); obtain ⟨p0, p1, p2, p3, p4, p5⟩ := HST5.out.cells; obtain ⟨u0, u1, u2, u3, u4, u5⟩ := HST6.out.cells; clear hr5 hor5 hw5))
      go_ret
      have hr5 := HR5.out
      have hr7 := HR7.out
      have hor5 := HOR5.out
      have hor7 := HOR7.out
      have w4 := HW4.out
      have w5w := HW5.out
      have w7w := HW7.out
      have xx := HXX.out
      have q5 := within_set w5 pb 1 (.slice A5 (T'.length + 1) c5)
      have q7 := within_set w7 pb 2 (.slice A7 (Z.length + 1) c7)
      have s4 := w4.size
      have s5 := w5w.size
      have s6 := q5.size
      have s7 := w7w.size
      have s8 := q7.size
      unfold Dis at xx
      have hB' := hB
      have e4 : (w3.setCell ⟨gF, a, none⟩ (.int .i64 (d1 - 1))).heap.size = w3.heap.size := by simp
      have e6 : (w5.setCell ⟨pb, 1, none⟩ (.slice A5 (T'.length + 1) c5)).heap.size = w5.heap.size := by simp
      have e8 : (w7.setCell ⟨pb, 2, none⟩ (.slice A7 (Z.length + 1) c7)).heap.size = w7.heap.size := by simp
      have hbel : Below B w (w7.setCell ⟨pb, 2, none⟩ (.slice A7 (Z.length + 1) c7)) := ((((HW3.out.trans (below_low w4 (by omega) (by omega))).trans (below_low w5w (by omega) (by omega))).trans (below_low q5 (by omega) (by omega))).trans (below_low w7w (by omega) (by omega))).trans (below_low q7 (by omega) (by omega))
      have hf8 := own_block (own_block (own_block (own_block HF4.out (w5w.block gF (HF4.out.lt gF rfl).2 (by omega))) (q5.block gF (by have := (HF4.out.lt gF rfl).2; omega) (by omega))) (w7w.block gF (by have := (HF4.out.lt gF rfl).2; omega) (by omega))) (q7.block gF (by have := (HF4.out.lt gF rfl).2; omega) (by omega))
      have ht8 := ((hr5.within q5 (by omega)).within w7w (by omega)).within q7 (by omega)
      have hz8 := hr7.within q7 (by omega)
      have hc8 := HST7.out.set2 (.slice A7 (Z.length + 1) c7)
      refine ⟨hbel, .inr ⟨(F'.set a (d1 - 1), (T' ++ [(a : Int)]), (Z ++ [(n : Int)])), A5, c5, A7, c7, (lo5, hi5), (lo7, hi7), rfl, ?_, ⟨⟨by show f.2 ≤ _; omega, .inr ⟨gF, rfl, g1, g2, own_rebase hf8 g1⟩⟩, ht8, hz8, ?_, ?_, ?_⟩, ?_, ?_, ?_⟩⟩
      · unfold plaR
        rw [Int.toNat_natCast, HX.out, HG.out]
        simp only [Option.map_some, Int.toNat_natCast, HD.out.1, HD.out.2]
        rw [if_neg c1]
      · unfold Dis; show f.2 ≤ lo5 ∨ hi5 ≤ f.1; omega
      · unfold Dis; show f.2 ≤ lo7 ∨ hi7 ≤ f.1; omega
      · unfold Dis; show hi5 ≤ lo7 ∨ hi7 ≤ lo5; omega
      · show Cel3 _ pb _ (.slice _ (F'.set a (d1 - 1)).length _) (.slice _ (T' ++ [(a : Int)]).length _) (.slice _ (Z ++ [(n : Int)]).length _)
        rw [List.length_set, List.length_append, List.length_append]
        exact hc8
      · rcases hor5 with ⟨rfl, rfl⟩ | h
        · exact .inl rfl
        · exact .inr ⟨by show w.heap.size ≤ lo5; omega, by show lo5 ≤ _; omega⟩
      · rcases hor7 with ⟨rfl, rfl⟩ | h
        · exact .inl rfl
        · exact .inr ⟨by show w.heap.size ≤ lo7; omega, by show lo7 ≤ _; omega⟩
end Go.Proofs.Ytdkpmaahinbhlaa
