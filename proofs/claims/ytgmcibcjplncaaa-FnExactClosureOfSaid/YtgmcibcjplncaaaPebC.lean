/- How the laws compare, mark and measure a state of the pebble game. No condition. -/
import Derived.Test.YtgmcibcjplncaaaPebB
namespace Go.Proofs.Ytgmcibcjplncaaa
open Go.RowKit

set_option maxHeartbeats 2000000 in
set_option maxRecDepth 100000 in
theorem eqPeb_c (AF AT AZ BF BT BZ : Option Addr) (cF cT cZ dF dT dZ lo hi lo' hi' : Nat) (F T Z : List Int) (w : World) (h : Peb3 w lo hi AF AT AZ F T Z) (h' : Peb3 w lo' hi' BF BT BZ F T Z) (hF : F.length ≤ 1048576) (hT : T.length ≤ 1048576) (hZ : Z.length ≤ 1048576) :
    Calls Try.prog 23 #[pebV AF F.length cF AT T.length cT AZ Z.length cZ, pebV BF F.length dF BT T.length dT BZ Z.length dZ] w fun e w' => e = .returned (.bool true) ∧ Below w.heap.size w w' := by
  have hhi : hi ≤ w.heap.size := h.f.1
  have hhi' : hi' ≤ w.heap.size := h'.f.1
  have W0 := Lib.hid (Below.refl w.heap.size w)
  have H_0 := Lib.hid (h)
  have K_0 := Lib.hid (h')
  clear h h'
  have Z1 := Lib.hid (within_alloc w (.cells #[(.slice AF F.length cF), (.slice AT T.length cT), (.slice AZ Z.length cZ)] 30)).size
  have W1 := Lib.hid (within_on W0.out (within_alloc w (.cells #[(.slice AF F.length cF), (.slice AT T.length cT), (.slice AZ Z.length cZ)] 30)) W0.out.size (.inr (Nat.le_refl _)))
  have H_1 := Lib.hid (H_0.out.within (within_alloc w (.cells #[(.slice AF F.length cF), (.slice AT T.length cT), (.slice AZ Z.length cZ)] 30)) (by omega))
  have K_1 := Lib.hid (K_0.out.within (within_alloc w (.cells #[(.slice AF F.length cF), (.slice AT T.length cT), (.slice AZ Z.length cZ)] 30)) (by omega))
  have Y1 := Lib.hid (show (w.alloc (.cells #[(.slice AF F.length cF), (.slice AT T.length cT), (.slice AZ Z.length cZ)] 30)).heap.size = w.heap.size + 1 by simp)
  have hnew := cel3_new w (.slice AF F.length cF) (.slice AT T.length cT) (.slice AZ Z.length cZ) 30
  have GA_1 := Lib.hid hnew
  clear hnew
  have Z2 := Lib.hid (within_alloc (w.alloc (.cells #[(.slice AF F.length cF), (.slice AT T.length cT), (.slice AZ Z.length cZ)] 30)) (.cells #[(.slice BF F.length dF), (.slice BT T.length dT), (.slice BZ Z.length dZ)] 30)).size
  have W2 := Lib.hid (within_on W1.out (within_alloc (w.alloc (.cells #[(.slice AF F.length cF), (.slice AT T.length cT), (.slice AZ Z.length cZ)] 30)) (.cells #[(.slice BF F.length dF), (.slice BT T.length dT), (.slice BZ Z.length dZ)] 30)) W1.out.size (.inr (Nat.le_refl _)))
  have H_2 := Lib.hid (H_1.out.within (within_alloc (w.alloc (.cells #[(.slice AF F.length cF), (.slice AT T.length cT), (.slice AZ Z.length cZ)] 30)) (.cells #[(.slice BF F.length dF), (.slice BT T.length dT), (.slice BZ Z.length dZ)] 30)) (by omega))
  have K_2 := Lib.hid (K_1.out.within (within_alloc (w.alloc (.cells #[(.slice AF F.length cF), (.slice AT T.length cT), (.slice AZ Z.length cZ)] 30)) (.cells #[(.slice BF F.length dF), (.slice BT T.length dT), (.slice BZ Z.length dZ)] 30)) (by omega))
  have GA_2 := Lib.hid (GA_1.out.within (within_alloc (w.alloc (.cells #[(.slice AF F.length cF), (.slice AT T.length cT), (.slice AZ Z.length cZ)] 30)) (.cells #[(.slice BF F.length dF), (.slice BT T.length dT), (.slice BZ Z.length dZ)] 30)) (by omega))
  have Y2 := Lib.hid (show ((w.alloc (.cells #[(.slice AF F.length cF), (.slice AT T.length cT), (.slice AZ Z.length cZ)] 30)).alloc (.cells #[(.slice BF F.length dF), (.slice BT T.length dT), (.slice BZ Z.length dZ)] 30)).heap.size = (w.alloc (.cells #[(.slice AF F.length cF), (.slice AT T.length cT), (.slice AZ Z.length cZ)] 30)).heap.size + 1 by simp)
  have hnew := cel3_new (w.alloc (.cells #[(.slice AF F.length cF), (.slice AT T.length cT), (.slice AZ Z.length cZ)] 30)) (.slice BF F.length dF) (.slice BT T.length dT) (.slice BZ Z.length dZ) 30
  rw [show (w.alloc (.cells #[(.slice AF F.length cF), (.slice AT T.length cT), (.slice AZ Z.length cZ)] 30)).heap.size = w.heap.size + 1 by simp] at hnew
  have GB_2 := Lib.hid hnew
  clear hnew
  go_enter Try.func23, Try.ntmps23
  obtain ⟨g0_0, g0_1, g0_2, g0_3, g0_4, g0_5⟩ := GA_2.out.cells
  obtain ⟨g1_0, g1_1, g1_2, g1_3, g1_4, g1_5⟩ := GB_2.out.cells
  go_wp2_with fail
  clear g0_0 g0_1 g0_2 g0_3 g0_4 g0_5 g1_0 g1_1 g1_2 g1_3 g1_4 g1_5
  generalize ((w.alloc (.cells #[(.slice AF F.length cF), (.slice AT T.length cT), (.slice AZ Z.length cZ)] 30)).alloc (.cells #[(.slice BF F.length dF), (.slice BT T.length dT), (.slice BZ Z.length dZ)] 30)) = w2 at *
  generalize (w.alloc (.cells #[(.slice AF F.length cF), (.slice AT T.length cT), (.slice AZ Z.length cZ)] 30)) = w1 at *
  refine (eqInts_c F AF BF cF dF lo hi lo' hi' _ H_2.out.f K_2.out.f hF).mono ?_
  rintro e w3 ⟨rfl, hb⟩
  have Z3 := Lib.hid (within_of hb).size
  have W3 := Lib.hid (within_on W2.out (within_of hb) W2.out.size (.inr (Nat.le_refl _)))
  have H_3 := Lib.hid (H_2.out.within (within_of hb) (by omega))
  have K_3 := Lib.hid (K_2.out.within (within_of hb) (by omega))
  have GA_3 := Lib.hid (GA_2.out.within (within_of hb) (by omega))
  have GB_3 := Lib.hid (GB_2.out.within (within_of hb) (by omega))
  clear hb
  obtain ⟨g2_0, g2_1, g2_2, g2_3, g2_4, g2_5⟩ := GA_3.out.cells
  obtain ⟨g3_0, g3_1, g3_2, g3_3, g3_4, g3_5⟩ := GB_3.out.cells
  go_wp2_with fail
  clear g2_0 g2_1 g2_2 g2_3 g2_4 g2_5 g3_0 g3_1 g3_2 g3_3 g3_4 g3_5
  refine (eqInts_c T AT BT cT dT lo hi lo' hi' _ H_3.out.t K_3.out.t hT).mono ?_
  rintro e w4 ⟨rfl, hb⟩
  have Z4 := Lib.hid (within_of hb).size
  have W4 := Lib.hid (within_on W3.out (within_of hb) W3.out.size (.inr (Nat.le_refl _)))
  have H_4 := Lib.hid (H_3.out.within (within_of hb) (by omega))
  have K_4 := Lib.hid (K_3.out.within (within_of hb) (by omega))
  have GA_4 := Lib.hid (GA_3.out.within (within_of hb) (by omega))
  have GB_4 := Lib.hid (GB_3.out.within (within_of hb) (by omega))
  clear hb
  obtain ⟨g4_0, g4_1, g4_2, g4_3, g4_4, g4_5⟩ := GA_4.out.cells
  obtain ⟨g5_0, g5_1, g5_2, g5_3, g5_4, g5_5⟩ := GB_4.out.cells
  go_wp2_with fail
  clear g4_0 g4_1 g4_2 g4_3 g4_4 g4_5 g5_0 g5_1 g5_2 g5_3 g5_4 g5_5
  refine (eqInts_c Z AZ BZ cZ dZ lo hi lo' hi' _ H_4.out.z K_4.out.z hZ).mono ?_
  rintro e w5 ⟨rfl, hb⟩
  have Z5 := Lib.hid (within_of hb).size
  have W5 := Lib.hid (within_on W4.out (within_of hb) W4.out.size (.inr (Nat.le_refl _)))
  have H_5 := Lib.hid (H_4.out.within (within_of hb) (by omega))
  have K_5 := Lib.hid (K_4.out.within (within_of hb) (by omega))
  have GA_5 := Lib.hid (GA_4.out.within (within_of hb) (by omega))
  have GB_5 := Lib.hid (GB_4.out.within (within_of hb) (by omega))
  clear hb
  go_wp2_with fail
  go_ret
  exact ⟨rfl, W5.out⟩

set_option maxHeartbeats 2000000 in
set_option maxRecDepth 100000 in
theorem markPeb_o (AF AT AZ : Option Addr) (cF cT cZ lo hi : Nat) (F T Z : List Int) (k : Int) (w : World) (h : Own3 w lo hi AF cF AT cT AZ cZ F T Z) (hF : F.length ≤ 1048576) (hT : T.length ≤ 1048576) (hZ : Z.length ≤ 1048576) (hk0 : 0 ≤ k) (hk1 : k ≤ 5000000) :
    Calls Try.prog 26 #[pebV AF F.length cF AT T.length cT AZ Z.length cZ, .int .i64 k] w fun e w' => e = .returned (.int .i64 (k + (F.length : Int) + (T.length : Int) + (Z.length : Int))) ∧ Within lo hi w w' ∧ Own3 w' lo hi AF cF AT cT AZ cZ (marksI k F.length) (marksI (k + (F.length : Int)) T.length) (marksI (k + (F.length : Int) + (T.length : Int)) Z.length) := by
  obtain ⟨⟨f1, f2⟩, ⟨t1, t2⟩, ⟨z1, z2⟩, o1, o2, o3, d1, d2, d3, b1, b2, b3, h4⟩ := h
  simp only [Dis] at o1 o2 o3 d1 d2 d3 b1 b2 b3
  have V0 := Lib.hid (Within.refl lo hi w)
  have OF_0 := Lib.hid (o1)
  have OT_0 := Lib.hid (o2)
  have OZ_0 := Lib.hid (o3)
  clear o1 o2 o3
  have Z1 := Lib.hid (within_alloc w (.cells #[(.slice AF F.length cF), (.slice AT T.length cT), (.slice AZ Z.length cZ)] 30)).size
  have V1 := Lib.hid (V0.out.trans ((within_alloc w (.cells #[(.slice AF F.length cF), (.slice AT T.length cT), (.slice AZ Z.length cZ)] 30)).widen (.inl (Nat.le_refl _))))
  have OF_1 := Lib.hid (OF_0.out.within (within_alloc w (.cells #[(.slice AF F.length cF), (.slice AT T.length cT), (.slice AZ Z.length cZ)] 30)) (by omega))
  have OT_1 := Lib.hid (OT_0.out.within (within_alloc w (.cells #[(.slice AF F.length cF), (.slice AT T.length cT), (.slice AZ Z.length cZ)] 30)) (by omega))
  have OZ_1 := Lib.hid (OZ_0.out.within (within_alloc w (.cells #[(.slice AF F.length cF), (.slice AT T.length cT), (.slice AZ Z.length cZ)] 30)) (by omega))
  have Y1 := Lib.hid (show (w.alloc (.cells #[(.slice AF F.length cF), (.slice AT T.length cT), (.slice AZ Z.length cZ)] 30)).heap.size = w.heap.size + 1 by simp)
  have hnew := cel3_new w (.slice AF F.length cF) (.slice AT T.length cT) (.slice AZ Z.length cZ) 30
  have GA_1 := Lib.hid hnew
  clear hnew
  go_enter Try.func26, Try.ntmps26
  obtain ⟨g0_0, g0_1, g0_2, g0_3, g0_4, g0_5⟩ := GA_1.out.cells
  go_wp2_with fail
  clear g0_0 g0_1 g0_2 g0_3 g0_4 g0_5
  generalize (w.alloc (.cells #[(.slice AF F.length cF), (.slice AT T.length cT), (.slice AZ Z.length cZ)] 30)) = w1 at *
  refine (markInts_o AF cF F k f1 f2 _ OF_1.out hF (by omega) (by omega)).mono ?_
  rintro e w2 ⟨rfl, hin, hog⟩
  have Z2 := Lib.hid (hin).size
  have V2 := Lib.hid (V1.out.trans ((hin).widen (by have := Z1.out; have := Z2.out; have := Y1.out; omega)))
  have OT_2 := Lib.hid (OT_1.out.within (hin) (by have := Z1.out; have := Z2.out; have := Y1.out; omega))
  have OZ_2 := Lib.hid (OZ_1.out.within (hin) (by have := Z1.out; have := Z2.out; have := Y1.out; omega))
  have GA_2 := Lib.hid (GA_1.out.within (hin) (by have := Z1.out; have := Z2.out; have := Y1.out; omega))
  have OF_2 := Lib.hid (hog)
  clear hin hog
  obtain ⟨g1_0, g1_1, g1_2, g1_3, g1_4, g1_5⟩ := GA_2.out.cells
  go_wp2_with fail
  clear g1_0 g1_1 g1_2 g1_3 g1_4 g1_5
  refine (markInts_o AT cT T (k + (F.length : Int)) t1 t2 _ OT_2.out hT (by omega) (by omega)).mono ?_
  rintro e w3 ⟨rfl, hin, hog⟩
  have Z3 := Lib.hid (hin).size
  have V3 := Lib.hid (V2.out.trans ((hin).widen (by have := Z1.out; have := Z2.out; have := Z3.out; have := Y1.out; omega)))
  have OZ_3 := Lib.hid (OZ_2.out.within (hin) (by have := Z1.out; have := Z2.out; have := Z3.out; have := Y1.out; omega))
  have GA_3 := Lib.hid (GA_2.out.within (hin) (by have := Z1.out; have := Z2.out; have := Z3.out; have := Y1.out; omega))
  have OF_3 := Lib.hid (OF_2.out.within (hin) (by have := Z1.out; have := Z2.out; have := Z3.out; have := Y1.out; omega))
  have OT_3 := Lib.hid (hog)
  clear hin hog
  obtain ⟨g2_0, g2_1, g2_2, g2_3, g2_4, g2_5⟩ := GA_3.out.cells
  go_wp2_with fail
  clear g2_0 g2_1 g2_2 g2_3 g2_4 g2_5
  refine (markInts_o AZ cZ Z (k + (F.length : Int) + (T.length : Int)) z1 z2 _ OZ_3.out hZ (by omega) (by omega)).mono ?_
  rintro e w4 ⟨rfl, hin, hog⟩
  have Z4 := Lib.hid (hin).size
  have V4 := Lib.hid (V3.out.trans ((hin).widen (by have := Z1.out; have := Z2.out; have := Z3.out; have := Z4.out; have := Y1.out; omega)))
  have GA_4 := Lib.hid (GA_3.out.within (hin) (by have := Z1.out; have := Z2.out; have := Z3.out; have := Z4.out; have := Y1.out; omega))
  have OF_4 := Lib.hid (OF_3.out.within (hin) (by have := Z1.out; have := Z2.out; have := Z3.out; have := Z4.out; have := Y1.out; omega))
  have OT_4 := Lib.hid (OT_3.out.within (hin) (by have := Z1.out; have := Z2.out; have := Z3.out; have := Z4.out; have := Y1.out; omega))
  have OZ_4 := Lib.hid (hog)
  clear hin hog
  go_wp2_with fail
  go_ret
  exact ⟨rfl, V4.out, (f1, f2), (t1, t2), (z1, z2), OF_4.out, OT_4.out, OZ_4.out, d1, d2, d3, b1, b2, b3, Nat.le_trans h4 V4.out.size⟩

set_option maxHeartbeats 2000000 in
set_option maxRecDepth 100000 in
theorem heldPeb_c (AF AT AZ : Option Addr) (cF cT cZ lo hi nF nT nZ : Nat) (k : Int) (w : World) (h : Peb3 w lo hi AF AT AZ (marksI k nF) (marksI (k + (nF : Int)) nT) (marksI (k + (nF : Int) + (nT : Int)) nZ)) (hF : nF ≤ 1048576) (hT : nT ≤ 1048576) (hZ : nZ ≤ 1048576) (hk0 : 0 ≤ k) (hk1 : k ≤ 5000000) :
    Calls Try.prog 27 #[pebV AF nF cF AT nT cT AZ nZ cZ, .int .i64 k] w fun e w' => e = .returned (.int .i64 (k + (nF : Int) + (nT : Int) + (nZ : Int))) ∧ Below w.heap.size w w' := by
  have hhi : hi ≤ w.heap.size := h.f.1
  have W0 := Lib.hid (Below.refl w.heap.size w)
  have H_0 := Lib.hid (h)
  clear h
  have Z1 := Lib.hid (within_alloc w (.cells #[(.slice AF nF cF), (.slice AT nT cT), (.slice AZ nZ cZ)] 30)).size
  have W1 := Lib.hid (within_on W0.out (within_alloc w (.cells #[(.slice AF nF cF), (.slice AT nT cT), (.slice AZ nZ cZ)] 30)) W0.out.size (.inr (Nat.le_refl _)))
  have H_1 := Lib.hid (H_0.out.within (within_alloc w (.cells #[(.slice AF nF cF), (.slice AT nT cT), (.slice AZ nZ cZ)] 30)) (by omega))
  have Y1 := Lib.hid (show (w.alloc (.cells #[(.slice AF nF cF), (.slice AT nT cT), (.slice AZ nZ cZ)] 30)).heap.size = w.heap.size + 1 by simp)
  have hnew := cel3_new w (.slice AF nF cF) (.slice AT nT cT) (.slice AZ nZ cZ) 30
  have GA_1 := Lib.hid hnew
  clear hnew
  go_enter Try.func27, Try.ntmps27
  obtain ⟨g0_0, g0_1, g0_2, g0_3, g0_4, g0_5⟩ := GA_1.out.cells
  go_wp2_with fail
  clear g0_0 g0_1 g0_2 g0_3 g0_4 g0_5
  generalize (w.alloc (.cells #[(.slice AF nF cF), (.slice AT nT cT), (.slice AZ nZ cZ)] 30)) = w1 at *
  refine (heldInts_c nF AF cF k lo hi _ H_1.out.f hF (by omega) (by omega)).mono ?_
  rintro e w2 ⟨rfl, hb⟩
  have Z2 := Lib.hid (within_of hb).size
  have W2 := Lib.hid (within_on W1.out (within_of hb) W1.out.size (.inr (Nat.le_refl _)))
  have H_2 := Lib.hid (H_1.out.within (within_of hb) (by omega))
  have GA_2 := Lib.hid (GA_1.out.within (within_of hb) (by omega))
  clear hb
  have hnn0 : ¬ k + (nF : Int) < 0 := by omega
  obtain ⟨g1_0, g1_1, g1_2, g1_3, g1_4, g1_5⟩ := GA_2.out.cells
  go_wp2_with fail
  clear g1_0 g1_1 g1_2 g1_3 g1_4 g1_5
  refine (heldInts_c nT AT cT (k + (nF : Int)) lo hi _ H_2.out.t hT (by omega) (by omega)).mono ?_
  rintro e w3 ⟨rfl, hb⟩
  have Z3 := Lib.hid (within_of hb).size
  have W3 := Lib.hid (within_on W2.out (within_of hb) W2.out.size (.inr (Nat.le_refl _)))
  have H_3 := Lib.hid (H_2.out.within (within_of hb) (by omega))
  have GA_3 := Lib.hid (GA_2.out.within (within_of hb) (by omega))
  clear hb
  have hnn1 : ¬ (k + (nF : Int)) + (nT : Int) < 0 := by omega
  obtain ⟨g2_0, g2_1, g2_2, g2_3, g2_4, g2_5⟩ := GA_3.out.cells
  go_wp2_with fail
  clear g2_0 g2_1 g2_2 g2_3 g2_4 g2_5
  refine (heldInts_c nZ AZ cZ (k + (nF : Int) + (nT : Int)) lo hi _ H_3.out.z hZ (by omega) (by omega)).mono ?_
  rintro e w4 ⟨rfl, hb⟩
  have Z4 := Lib.hid (within_of hb).size
  have W4 := Lib.hid (within_on W3.out (within_of hb) W3.out.size (.inr (Nat.le_refl _)))
  have H_4 := Lib.hid (H_3.out.within (within_of hb) (by omega))
  have GA_4 := Lib.hid (GA_3.out.within (within_of hb) (by omega))
  clear hb
  have hnn2 : ¬ (k + (nF : Int) + (nT : Int)) + (nZ : Int) < 0 := by omega
  go_wp2_with fail
  go_ret
  exact ⟨rfl, W4.out⟩

set_option maxHeartbeats 2000000 in
set_option maxRecDepth 100000 in
theorem szInts_c (A : Option Addr) (n cap : Nat) (left : Int) (w : World) (hn : n ≤ 9223372036854775807) (h0 : 0 ≤ left) (h1 : left ≤ 1048576) :
    Calls Try.prog 71 #[.slice A n cap, .int .i64 left] w fun e w' => e = .returned (.int .i64 (if left - (n : Int) < 0 then -1 else left - (n : Int))) ∧ w = w' := by
  by_cases c : left - (n : Int) < 0
  all_goals
    first | rw [if_pos c] | rw [if_neg c]
    go_enter Try.func71, Try.ntmps71
    go_wp2_with fail
    go_ret
    exact ⟨rfl, rfl⟩

set_option maxHeartbeats 2000000 in
set_option maxRecDepth 100000 in
theorem szPeb_c (AF AT AZ : Option Addr) (f t z cF cT cZ : Nat) (left : Int) (w : World) (hf : f ≤ 9223372036854775807) (ht : t ≤ 9223372036854775807) (hz : z ≤ 9223372036854775807) (h0 : 0 ≤ left) (h1 : left ≤ 1048576) (hs : (f : Int) + (t : Int) + (z : Int) ≤ left) :
    Calls Try.prog 18 #[pebV AF f cF AT t cT AZ z cZ, .int .i64 left] w fun e w' => e = .returned (.int .i64 (left - (f : Int) - (t : Int) - (z : Int))) ∧ Below w.heap.size w w' := by
  have W0 := Lib.hid (Below.refl w.heap.size w)
  have Z1 := Lib.hid (within_alloc w (.cells #[(.slice AF f cF), (.slice AT t cT), (.slice AZ z cZ)] 27)).size
  have W1 := Lib.hid (within_on W0.out (within_alloc w (.cells #[(.slice AF f cF), (.slice AT t cT), (.slice AZ z cZ)] 27)) W0.out.size (.inr (Nat.le_refl _)))
  have Y1 := Lib.hid (show (w.alloc (.cells #[(.slice AF f cF), (.slice AT t cT), (.slice AZ z cZ)] 27)).heap.size = w.heap.size + 1 by simp)
  have hnew := cel3_new w (.slice AF f cF) (.slice AT t cT) (.slice AZ z cZ) 27
  have GA_1 := Lib.hid hnew
  clear hnew
  go_enter Try.func18, Try.ntmps18
  obtain ⟨g0_0, g0_1, g0_2, g0_3, g0_4, g0_5⟩ := GA_1.out.cells
  go_wp2_with fail
  clear g0_0 g0_1 g0_2 g0_3 g0_4 g0_5
  generalize (w.alloc (.cells #[(.slice AF f cF), (.slice AT t cT), (.slice AZ z cZ)] 27)) = w1 at *
  refine (szInts_c AF f cF (left) _ hf (by omega) (by omega)).mono ?_
  rintro e w2 ⟨rfl, rfl⟩
  have hn0 : ¬ left - (f : Int) < 0 := by omega
  rw [if_neg hn0]
  obtain ⟨g1_0, g1_1, g1_2, g1_3, g1_4, g1_5⟩ := GA_1.out.cells
  go_wp2_with fail
  clear g1_0 g1_1 g1_2 g1_3 g1_4 g1_5
  refine (szInts_c AT t cT (left - (f : Int)) _ ht (by omega) (by omega)).mono ?_
  rintro e w2 ⟨rfl, rfl⟩
  have hn1 : ¬ left - (f : Int) - (t : Int) < 0 := by omega
  rw [if_neg hn1]
  obtain ⟨g2_0, g2_1, g2_2, g2_3, g2_4, g2_5⟩ := GA_1.out.cells
  go_wp2_with fail
  clear g2_0 g2_1 g2_2 g2_3 g2_4 g2_5
  refine (szInts_c AZ z cZ (left - (f : Int) - (t : Int)) _ hz (by omega) (by omega)).mono ?_
  rintro e w2 ⟨rfl, rfl⟩
  have hn2 : ¬ left - (f : Int) - (t : Int) - (z : Int) < 0 := by omega
  rw [if_neg hn2]
  go_wp2_with fail
  go_ret
  exact ⟨rfl, W1.out⟩

set_option maxHeartbeats 2000000 in
set_option maxRecDepth 100000 in
theorem szPeb_no (AF AT AZ : Option Addr) (f t z cF cT cZ : Nat) (left : Int) (w : World) (hf : f ≤ 9223372036854775807) (ht : t ≤ 9223372036854775807) (hz : z ≤ 9223372036854775807) (h0 : 0 ≤ left) (h1 : left ≤ 1048576) (hs : left < (f : Int) + (t : Int) + (z : Int)) :
    Calls Try.prog 18 #[pebV AF f cF AT t cT AZ z cZ, .int .i64 left] w fun e w' => e = .returned (.int .i64 (-1)) ∧ Below w.heap.size w w' := by
  by_cases hc0 : left - (f : Int) < 0
  · skip
    have W0 := Lib.hid (Below.refl w.heap.size w)
    have Z1 := Lib.hid (within_alloc w (.cells #[(.slice AF f cF), (.slice AT t cT), (.slice AZ z cZ)] 27)).size
    have W1 := Lib.hid (within_on W0.out (within_alloc w (.cells #[(.slice AF f cF), (.slice AT t cT), (.slice AZ z cZ)] 27)) W0.out.size (.inr (Nat.le_refl _)))
    have Y1 := Lib.hid (show (w.alloc (.cells #[(.slice AF f cF), (.slice AT t cT), (.slice AZ z cZ)] 27)).heap.size = w.heap.size + 1 by simp)
    have hnew := cel3_new w (.slice AF f cF) (.slice AT t cT) (.slice AZ z cZ) 27
    have GA_1 := Lib.hid hnew
    clear hnew
    go_enter Try.func18, Try.ntmps18
    obtain ⟨g0_0, g0_1, g0_2, g0_3, g0_4, g0_5⟩ := GA_1.out.cells
    go_wp2_with fail
    clear g0_0 g0_1 g0_2 g0_3 g0_4 g0_5
    generalize (w.alloc (.cells #[(.slice AF f cF), (.slice AT t cT), (.slice AZ z cZ)] 27)) = w1 at *
    refine (szInts_c AF f cF (left) _ hf (by omega) (by omega)).mono ?_
    rintro e w2 ⟨rfl, rfl⟩
    have hn0 : left - (f : Int) < 0 := by omega
    rw [if_pos hn0]
    go_wp2_with fail
    go_ret
    exact ⟨rfl, W1.out⟩
  by_cases hc1 : left - (f : Int) - (t : Int) < 0
  · skip
    have W0 := Lib.hid (Below.refl w.heap.size w)
    have Z1 := Lib.hid (within_alloc w (.cells #[(.slice AF f cF), (.slice AT t cT), (.slice AZ z cZ)] 27)).size
    have W1 := Lib.hid (within_on W0.out (within_alloc w (.cells #[(.slice AF f cF), (.slice AT t cT), (.slice AZ z cZ)] 27)) W0.out.size (.inr (Nat.le_refl _)))
    have Y1 := Lib.hid (show (w.alloc (.cells #[(.slice AF f cF), (.slice AT t cT), (.slice AZ z cZ)] 27)).heap.size = w.heap.size + 1 by simp)
    have hnew := cel3_new w (.slice AF f cF) (.slice AT t cT) (.slice AZ z cZ) 27
    have GA_1 := Lib.hid hnew
    clear hnew
    go_enter Try.func18, Try.ntmps18
    obtain ⟨g0_0, g0_1, g0_2, g0_3, g0_4, g0_5⟩ := GA_1.out.cells
    go_wp2_with fail
    clear g0_0 g0_1 g0_2 g0_3 g0_4 g0_5
    generalize (w.alloc (.cells #[(.slice AF f cF), (.slice AT t cT), (.slice AZ z cZ)] 27)) = w1 at *
    refine (szInts_c AF f cF (left) _ hf (by omega) (by omega)).mono ?_
    rintro e w2 ⟨rfl, rfl⟩
    have hn0 : ¬ left - (f : Int) < 0 := by omega
    rw [if_neg hn0]
    obtain ⟨g1_0, g1_1, g1_2, g1_3, g1_4, g1_5⟩ := GA_1.out.cells
    go_wp2_with fail
    clear g1_0 g1_1 g1_2 g1_3 g1_4 g1_5
    refine (szInts_c AT t cT (left - (f : Int)) _ ht (by omega) (by omega)).mono ?_
    rintro e w2 ⟨rfl, rfl⟩
    have hn1 : left - (f : Int) - (t : Int) < 0 := by omega
    rw [if_pos hn1]
    go_wp2_with fail
    go_ret
    exact ⟨rfl, W1.out⟩
  have W0 := Lib.hid (Below.refl w.heap.size w)
  have Z1 := Lib.hid (within_alloc w (.cells #[(.slice AF f cF), (.slice AT t cT), (.slice AZ z cZ)] 27)).size
  have W1 := Lib.hid (within_on W0.out (within_alloc w (.cells #[(.slice AF f cF), (.slice AT t cT), (.slice AZ z cZ)] 27)) W0.out.size (.inr (Nat.le_refl _)))
  have Y1 := Lib.hid (show (w.alloc (.cells #[(.slice AF f cF), (.slice AT t cT), (.slice AZ z cZ)] 27)).heap.size = w.heap.size + 1 by simp)
  have hnew := cel3_new w (.slice AF f cF) (.slice AT t cT) (.slice AZ z cZ) 27
  have GA_1 := Lib.hid hnew
  clear hnew
  go_enter Try.func18, Try.ntmps18
  obtain ⟨g0_0, g0_1, g0_2, g0_3, g0_4, g0_5⟩ := GA_1.out.cells
  go_wp2_with fail
  clear g0_0 g0_1 g0_2 g0_3 g0_4 g0_5
  generalize (w.alloc (.cells #[(.slice AF f cF), (.slice AT t cT), (.slice AZ z cZ)] 27)) = w1 at *
  refine (szInts_c AF f cF (left) _ hf (by omega) (by omega)).mono ?_
  rintro e w2 ⟨rfl, rfl⟩
  have hn0 : ¬ left - (f : Int) < 0 := by omega
  rw [if_neg hn0]
  obtain ⟨g1_0, g1_1, g1_2, g1_3, g1_4, g1_5⟩ := GA_1.out.cells
  go_wp2_with fail
  clear g1_0 g1_1 g1_2 g1_3 g1_4 g1_5
  refine (szInts_c AT t cT (left - (f : Int)) _ ht (by omega) (by omega)).mono ?_
  rintro e w2 ⟨rfl, rfl⟩
  have hn1 : ¬ left - (f : Int) - (t : Int) < 0 := by omega
  rw [if_neg hn1]
  obtain ⟨g2_0, g2_1, g2_2, g2_3, g2_4, g2_5⟩ := GA_1.out.cells
  go_wp2_with fail
  clear g2_0 g2_1 g2_2 g2_3 g2_4 g2_5
  refine (szInts_c AZ z cZ (left - (f : Int) - (t : Int)) _ hz (by omega) (by omega)).mono ?_
  rintro e w2 ⟨rfl, rfl⟩
  have hn2 : left - (f : Int) - (t : Int) - (z : Int) < 0 := by omega
  rw [if_pos hn2]
  go_wp2_with fail
  go_ret
  exact ⟨rfl, W1.out⟩

end Go.Proofs.Ytgmcibcjplncaaa
