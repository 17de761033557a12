/- What spec.IsPebbles answers. No condition. -/
import Derived.Test.YtdnmmjaelgjkaaaIsPebM
import Derived.Test.YtdnmmjaelgjkaaaIsGraphI
import Derived.Test.YtdnmmjaelgjkaaaRng
import Derived.Deep.QuietTactic
import Derived.BigQuiet
import Derived.Deep.RegionHeld3
namespace Go.Proofs.Ytdnmmjaelgjkaaa
open Go.RowKit

set_option maxHeartbeats 8000000 in
set_option maxRecDepth 100000 in
theorem specIsPeb (p k : Int) (l : List (Int × Int)) (A : Option Addr) (cap : Nat) (AF AT AZ : Option Addr) (cF cT cZ lo hi : Nat) (F T Z : List Int) (w : World) (hl : BarsAt w w.heap.size A l) (h : Peb3 w lo hi AF AT AZ F T Z) (hn : l.length ≤ 1048576) (hF : F.length ≤ 1048576) (hT : T.length ≤ 1048576) (hZ : Z.length ≤ 1048576) (hw : WfI F) :
    Calls Try.prog 78 #[.agg #[.int .i64 p, .slice A l.length cap], .int .i64 k, pebV AF F.length cF AT T.length cT AZ Z.length cZ] w fun e w' => e = .returned (.bool (isPebB p k l F T Z)) ∧ Below w.heap.size w w' := by
  have HISG : ∀ W : World, BarsAt W W.heap.size A l → Calls Try.prog 80 #[.agg #[.int .i64 p, .slice A l.length cap]] W fun e w' => e = .returned (.bool (isGB p l)) ∧ Below W.heap.size W w' := fun W h => specIsGraph' p l A cap W h hn
  rcases hg : isGB p l with _ | _
  · skip
    rw [hg] at HISG
    have HR := Lib.hid (show isPebB p k l F T Z = false from isPebB_no fun hp => by rw [isGB_yes hp.1] at hg; cases hg)
    have hhi : hi ≤ w.heap.size := h.f.1
    have W0 := Lib.hid (Below.refl w.heap.size w)
    have HB_0 := Lib.hid (bars_in hl)
    have H_0 := Lib.hid (h)
    clear hl h
    have Z1 := Lib.hid (within_alloc w (.cells #[.int .i64 p, (.slice A l.length cap)] 29)).size
    have W1 := Lib.hid (within_on W0.out (within_alloc w (.cells #[.int .i64 p, (.slice A l.length cap)] 29)) W0.out.size (.inr (Nat.le_refl _)))
    have HB_1 := Lib.hid (HB_0.out.within (within_alloc w (.cells #[.int .i64 p, (.slice A l.length cap)] 29)) (by omega))
    have H_1 := Lib.hid (H_0.out.within (within_alloc w (.cells #[.int .i64 p, (.slice A l.length cap)] 29)) (by omega))
    have Y1 := Lib.hid (show (w.alloc (.cells #[.int .i64 p, (.slice A l.length cap)] 29)).heap.size = w.heap.size + 1 by simp)
    have hnew := box_new w p (.slice A l.length cap) 29
    have BX_1 := Lib.hid hnew
    clear hnew
    have Z2 := Lib.hid (within_alloc (w.alloc (.cells #[.int .i64 p, (.slice A l.length cap)] 29)) (.cells #[(.slice AF F.length cF), (.slice AT T.length cT), (.slice AZ Z.length cZ)] 64)).size
    have W2 := Lib.hid (within_on W1.out (within_alloc (w.alloc (.cells #[.int .i64 p, (.slice A l.length cap)] 29)) (.cells #[(.slice AF F.length cF), (.slice AT T.length cT), (.slice AZ Z.length cZ)] 64)) W1.out.size (.inr (Nat.le_refl _)))
    have HB_2 := Lib.hid (HB_1.out.within (within_alloc (w.alloc (.cells #[.int .i64 p, (.slice A l.length cap)] 29)) (.cells #[(.slice AF F.length cF), (.slice AT T.length cT), (.slice AZ Z.length cZ)] 64)) (by omega))
    have H_2 := Lib.hid (H_1.out.within (within_alloc (w.alloc (.cells #[.int .i64 p, (.slice A l.length cap)] 29)) (.cells #[(.slice AF F.length cF), (.slice AT T.length cT), (.slice AZ Z.length cZ)] 64)) (by omega))
    have BX_2 := Lib.hid (BX_1.out.within (within_alloc (w.alloc (.cells #[.int .i64 p, (.slice A l.length cap)] 29)) (.cells #[(.slice AF F.length cF), (.slice AT T.length cT), (.slice AZ Z.length cZ)] 64)) (by omega))
    have Y2 := Lib.hid (show ((w.alloc (.cells #[.int .i64 p, (.slice A l.length cap)] 29)).alloc (.cells #[(.slice AF F.length cF), (.slice AT T.length cT), (.slice AZ Z.length cZ)] 64)).heap.size = (w.alloc (.cells #[.int .i64 p, (.slice A l.length cap)] 29)).heap.size + 1 by simp)
    have hnew := cel3_new (w.alloc (.cells #[.int .i64 p, (.slice A l.length cap)] 29)) (.slice AF F.length cF) (.slice AT T.length cT) (.slice AZ Z.length cZ) 64
    rw [show (w.alloc (.cells #[.int .i64 p, (.slice A l.length cap)] 29)).heap.size = w.heap.size + 1 by simp] at hnew
    have GA_2 := Lib.hid hnew
    clear hnew
    go_enter Try.func78, Try.ntmps78
    obtain ⟨g0_0, g0_1, g0_2⟩ := BX_2.out
    obtain ⟨g1_0, g1_1, g1_2, g1_3, g1_4, g1_5⟩ := GA_2.out.cells
    go_wp2_with fail
    clear g0_0 g0_1 g0_2 g1_0 g1_1 g1_2 g1_3 g1_4 g1_5
    generalize ((w.alloc (.cells #[.int .i64 p, (.slice A l.length cap)] 29)).alloc (.cells #[(.slice AF F.length cF), (.slice AT T.length cT), (.slice AZ Z.length cZ)] 64)) = w2 at *
    generalize (w.alloc (.cells #[.int .i64 p, (.slice A l.length cap)] 29)) = w1 at *
    refine (HISG _ HB_2.out.at).mono ?_
    rintro e w3 ⟨rfl, hb⟩
    have Z3 := Lib.hid (within_of hb).size
    have W3 := Lib.hid (within_on W2.out (within_of hb) W2.out.size (.inr (Nat.le_refl _)))
    have HB_3 := Lib.hid (HB_2.out.within (within_of hb) (by omega))
    have H_3 := Lib.hid (H_2.out.within (within_of hb) (by omega))
    have BX_3 := Lib.hid (BX_2.out.within (within_of hb) (by omega))
    have GA_3 := Lib.hid (GA_2.out.within (within_of hb) (by omega))
    clear hb HISG
    go_wp2_with fail
    go_ret
    exact ⟨by rw [HR.out]; rfl, W3.out⟩
  · by_cases hkk : 1 ≤ k ∧ k ≤ 3
    case neg =>
      rw [hg] at HISG
      have hk : k < 1 ∨ 3 < k := by omega
      have HR := Lib.hid (show isPebB p k l F T Z = false from isPebB_no fun hp => by exact hkk hp.2.1)
      have hhi : hi ≤ w.heap.size := h.f.1
      have W0 := Lib.hid (Below.refl w.heap.size w)
      have HB_0 := Lib.hid (bars_in hl)
      have H_0 := Lib.hid (h)
      clear hl h
      have Z1 := Lib.hid (within_alloc w (.cells #[.int .i64 p, (.slice A l.length cap)] 29)).size
      have W1 := Lib.hid (within_on W0.out (within_alloc w (.cells #[.int .i64 p, (.slice A l.length cap)] 29)) W0.out.size (.inr (Nat.le_refl _)))
      have HB_1 := Lib.hid (HB_0.out.within (within_alloc w (.cells #[.int .i64 p, (.slice A l.length cap)] 29)) (by omega))
      have H_1 := Lib.hid (H_0.out.within (within_alloc w (.cells #[.int .i64 p, (.slice A l.length cap)] 29)) (by omega))
      have Y1 := Lib.hid (show (w.alloc (.cells #[.int .i64 p, (.slice A l.length cap)] 29)).heap.size = w.heap.size + 1 by simp)
      have hnew := box_new w p (.slice A l.length cap) 29
      have BX_1 := Lib.hid hnew
      clear hnew
      have Z2 := Lib.hid (within_alloc (w.alloc (.cells #[.int .i64 p, (.slice A l.length cap)] 29)) (.cells #[(.slice AF F.length cF), (.slice AT T.length cT), (.slice AZ Z.length cZ)] 64)).size
      have W2 := Lib.hid (within_on W1.out (within_alloc (w.alloc (.cells #[.int .i64 p, (.slice A l.length cap)] 29)) (.cells #[(.slice AF F.length cF), (.slice AT T.length cT), (.slice AZ Z.length cZ)] 64)) W1.out.size (.inr (Nat.le_refl _)))
      have HB_2 := Lib.hid (HB_1.out.within (within_alloc (w.alloc (.cells #[.int .i64 p, (.slice A l.length cap)] 29)) (.cells #[(.slice AF F.length cF), (.slice AT T.length cT), (.slice AZ Z.length cZ)] 64)) (by omega))
      have H_2 := Lib.hid (H_1.out.within (within_alloc (w.alloc (.cells #[.int .i64 p, (.slice A l.length cap)] 29)) (.cells #[(.slice AF F.length cF), (.slice AT T.length cT), (.slice AZ Z.length cZ)] 64)) (by omega))
      have BX_2 := Lib.hid (BX_1.out.within (within_alloc (w.alloc (.cells #[.int .i64 p, (.slice A l.length cap)] 29)) (.cells #[(.slice AF F.length cF), (.slice AT T.length cT), (.slice AZ Z.length cZ)] 64)) (by omega))
      have Y2 := Lib.hid (show ((w.alloc (.cells #[.int .i64 p, (.slice A l.length cap)] 29)).alloc (.cells #[(.slice AF F.length cF), (.slice AT T.length cT), (.slice AZ Z.length cZ)] 64)).heap.size = (w.alloc (.cells #[.int .i64 p, (.slice A l.length cap)] 29)).heap.size + 1 by simp)
      have hnew := cel3_new (w.alloc (.cells #[.int .i64 p, (.slice A l.length cap)] 29)) (.slice AF F.length cF) (.slice AT T.length cT) (.slice AZ Z.length cZ) 64
      rw [show (w.alloc (.cells #[.int .i64 p, (.slice A l.length cap)] 29)).heap.size = w.heap.size + 1 by simp] at hnew
      have GA_2 := Lib.hid hnew
      clear hnew
      go_enter Try.func78, Try.ntmps78
      obtain ⟨g0_0, g0_1, g0_2⟩ := BX_2.out
      obtain ⟨g1_0, g1_1, g1_2, g1_3, g1_4, g1_5⟩ := GA_2.out.cells
      go_wp2_with fail
      clear g0_0 g0_1 g0_2 g1_0 g1_1 g1_2 g1_3 g1_4 g1_5
      generalize ((w.alloc (.cells #[.int .i64 p, (.slice A l.length cap)] 29)).alloc (.cells #[(.slice AF F.length cF), (.slice AT T.length cT), (.slice AZ Z.length cZ)] 64)) = w2 at *
      generalize (w.alloc (.cells #[.int .i64 p, (.slice A l.length cap)] 29)) = w1 at *
      refine (HISG _ HB_2.out.at).mono ?_
      rintro e w3 ⟨rfl, hb⟩
      have Z3 := Lib.hid (within_of hb).size
      have W3 := Lib.hid (within_on W2.out (within_of hb) W2.out.size (.inr (Nat.le_refl _)))
      have HB_3 := Lib.hid (HB_2.out.within (within_of hb) (by omega))
      have H_3 := Lib.hid (H_2.out.within (within_of hb) (by omega))
      have BX_3 := Lib.hid (BX_2.out.within (within_of hb) (by omega))
      have GA_3 := Lib.hid (GA_2.out.within (within_of hb) (by omega))
      clear hb HISG
      go_wp2_with fail
      refine (l1In_no k 1 3 _ hk).mono ?_
      rintro e w9 ⟨rfl, rfl⟩
      go_wp2_with fail
      go_ret
      exact ⟨by rw [HR.out]; rfl, W3.out⟩
    by_cases hfp : (F.length : Int) = p
    case neg =>
      rw [hg] at HISG
      have hk : 1 ≤ k ∧ k ≤ 3 := hkk
      have hne : ((F.length : Int) == p) = false := by simpa using hfp
      have HR := Lib.hid (show isPebB p k l F T Z = false from isPebB_no fun hp => by exact hfp hp.2.2.1)
      have hhi : hi ≤ w.heap.size := h.f.1
      have W0 := Lib.hid (Below.refl w.heap.size w)
      have HB_0 := Lib.hid (bars_in hl)
      have H_0 := Lib.hid (h)
      clear hl h
      have Z1 := Lib.hid (within_alloc w (.cells #[.int .i64 p, (.slice A l.length cap)] 29)).size
      have W1 := Lib.hid (within_on W0.out (within_alloc w (.cells #[.int .i64 p, (.slice A l.length cap)] 29)) W0.out.size (.inr (Nat.le_refl _)))
      have HB_1 := Lib.hid (HB_0.out.within (within_alloc w (.cells #[.int .i64 p, (.slice A l.length cap)] 29)) (by omega))
      have H_1 := Lib.hid (H_0.out.within (within_alloc w (.cells #[.int .i64 p, (.slice A l.length cap)] 29)) (by omega))
      have Y1 := Lib.hid (show (w.alloc (.cells #[.int .i64 p, (.slice A l.length cap)] 29)).heap.size = w.heap.size + 1 by simp)
      have hnew := box_new w p (.slice A l.length cap) 29
      have BX_1 := Lib.hid hnew
      clear hnew
      have Z2 := Lib.hid (within_alloc (w.alloc (.cells #[.int .i64 p, (.slice A l.length cap)] 29)) (.cells #[(.slice AF F.length cF), (.slice AT T.length cT), (.slice AZ Z.length cZ)] 64)).size
      have W2 := Lib.hid (within_on W1.out (within_alloc (w.alloc (.cells #[.int .i64 p, (.slice A l.length cap)] 29)) (.cells #[(.slice AF F.length cF), (.slice AT T.length cT), (.slice AZ Z.length cZ)] 64)) W1.out.size (.inr (Nat.le_refl _)))
      have HB_2 := Lib.hid (HB_1.out.within (within_alloc (w.alloc (.cells #[.int .i64 p, (.slice A l.length cap)] 29)) (.cells #[(.slice AF F.length cF), (.slice AT T.length cT), (.slice AZ Z.length cZ)] 64)) (by omega))
      have H_2 := Lib.hid (H_1.out.within (within_alloc (w.alloc (.cells #[.int .i64 p, (.slice A l.length cap)] 29)) (.cells #[(.slice AF F.length cF), (.slice AT T.length cT), (.slice AZ Z.length cZ)] 64)) (by omega))
      have BX_2 := Lib.hid (BX_1.out.within (within_alloc (w.alloc (.cells #[.int .i64 p, (.slice A l.length cap)] 29)) (.cells #[(.slice AF F.length cF), (.slice AT T.length cT), (.slice AZ Z.length cZ)] 64)) (by omega))
      have Y2 := Lib.hid (show ((w.alloc (.cells #[.int .i64 p, (.slice A l.length cap)] 29)).alloc (.cells #[(.slice AF F.length cF), (.slice AT T.length cT), (.slice AZ Z.length cZ)] 64)).heap.size = (w.alloc (.cells #[.int .i64 p, (.slice A l.length cap)] 29)).heap.size + 1 by simp)
      have hnew := cel3_new (w.alloc (.cells #[.int .i64 p, (.slice A l.length cap)] 29)) (.slice AF F.length cF) (.slice AT T.length cT) (.slice AZ Z.length cZ) 64
      rw [show (w.alloc (.cells #[.int .i64 p, (.slice A l.length cap)] 29)).heap.size = w.heap.size + 1 by simp] at hnew
      have GA_2 := Lib.hid hnew
      clear hnew
      go_enter Try.func78, Try.ntmps78
      obtain ⟨g0_0, g0_1, g0_2⟩ := BX_2.out
      obtain ⟨g1_0, g1_1, g1_2, g1_3, g1_4, g1_5⟩ := GA_2.out.cells
      go_wp2_with fail
      clear g0_0 g0_1 g0_2 g1_0 g1_1 g1_2 g1_3 g1_4 g1_5
      generalize ((w.alloc (.cells #[.int .i64 p, (.slice A l.length cap)] 29)).alloc (.cells #[(.slice AF F.length cF), (.slice AT T.length cT), (.slice AZ Z.length cZ)] 64)) = w2 at *
      generalize (w.alloc (.cells #[.int .i64 p, (.slice A l.length cap)] 29)) = w1 at *
      refine (HISG _ HB_2.out.at).mono ?_
      rintro e w3 ⟨rfl, hb⟩
      have Z3 := Lib.hid (within_of hb).size
      have W3 := Lib.hid (within_on W2.out (within_of hb) W2.out.size (.inr (Nat.le_refl _)))
      have HB_3 := Lib.hid (HB_2.out.within (within_of hb) (by omega))
      have H_3 := Lib.hid (H_2.out.within (within_of hb) (by omega))
      have BX_3 := Lib.hid (BX_2.out.within (within_of hb) (by omega))
      have GA_3 := Lib.hid (GA_2.out.within (within_of hb) (by omega))
      clear hb HISG
      obtain ⟨g2_0, g2_1, g2_2⟩ := BX_3.out
      obtain ⟨g3_0, g3_1, g3_2, g3_3, g3_4, g3_5⟩ := GA_3.out.cells
      go_wp2_with fail
      refine (l1In_yes k 1 3 _ hk.1 hk.2).mono ?_
      rintro e w9 ⟨rfl, rfl⟩
      go_wp2_with fail
      go_ret
      exact ⟨by rw [HR.out]; rfl, W3.out⟩
    by_cases htz : T.length = Z.length
    case neg =>
      rw [hg] at HISG
      have hk : 1 ≤ k ∧ k ≤ 3 := hkk
      have heq : ((F.length : Int) == p) = true := by simpa using hfp
      have hne : ((T.length : Int) == (Z.length : Int)) = false := by rw [beq_eq_false_iff_ne]; omega
      have hne2 : (T.length == Z.length) = false := by simpa using htz
      have HR := Lib.hid (show isPebB p k l F T Z = false from isPebB_no fun hp => by exact htz hp.2.2.2.1)
      have hhi : hi ≤ w.heap.size := h.f.1
      have W0 := Lib.hid (Below.refl w.heap.size w)
      have HB_0 := Lib.hid (bars_in hl)
      have H_0 := Lib.hid (h)
      clear hl h
      have Z1 := Lib.hid (within_alloc w (.cells #[.int .i64 p, (.slice A l.length cap)] 29)).size
      have W1 := Lib.hid (within_on W0.out (within_alloc w (.cells #[.int .i64 p, (.slice A l.length cap)] 29)) W0.out.size (.inr (Nat.le_refl _)))
      have HB_1 := Lib.hid (HB_0.out.within (within_alloc w (.cells #[.int .i64 p, (.slice A l.length cap)] 29)) (by omega))
      have H_1 := Lib.hid (H_0.out.within (within_alloc w (.cells #[.int .i64 p, (.slice A l.length cap)] 29)) (by omega))
      have Y1 := Lib.hid (show (w.alloc (.cells #[.int .i64 p, (.slice A l.length cap)] 29)).heap.size = w.heap.size + 1 by simp)
      have hnew := box_new w p (.slice A l.length cap) 29
      have BX_1 := Lib.hid hnew
      clear hnew
      have Z2 := Lib.hid (within_alloc (w.alloc (.cells #[.int .i64 p, (.slice A l.length cap)] 29)) (.cells #[(.slice AF F.length cF), (.slice AT T.length cT), (.slice AZ Z.length cZ)] 64)).size
      have W2 := Lib.hid (within_on W1.out (within_alloc (w.alloc (.cells #[.int .i64 p, (.slice A l.length cap)] 29)) (.cells #[(.slice AF F.length cF), (.slice AT T.length cT), (.slice AZ Z.length cZ)] 64)) W1.out.size (.inr (Nat.le_refl _)))
      have HB_2 := Lib.hid (HB_1.out.within (within_alloc (w.alloc (.cells #[.int .i64 p, (.slice A l.length cap)] 29)) (.cells #[(.slice AF F.length cF), (.slice AT T.length cT), (.slice AZ Z.length cZ)] 64)) (by omega))
      have H_2 := Lib.hid (H_1.out.within (within_alloc (w.alloc (.cells #[.int .i64 p, (.slice A l.length cap)] 29)) (.cells #[(.slice AF F.length cF), (.slice AT T.length cT), (.slice AZ Z.length cZ)] 64)) (by omega))
      have BX_2 := Lib.hid (BX_1.out.within (within_alloc (w.alloc (.cells #[.int .i64 p, (.slice A l.length cap)] 29)) (.cells #[(.slice AF F.length cF), (.slice AT T.length cT), (.slice AZ Z.length cZ)] 64)) (by omega))
      have Y2 := Lib.hid (show ((w.alloc (.cells #[.int .i64 p, (.slice A l.length cap)] 29)).alloc (.cells #[(.slice AF F.length cF), (.slice AT T.length cT), (.slice AZ Z.length cZ)] 64)).heap.size = (w.alloc (.cells #[.int .i64 p, (.slice A l.length cap)] 29)).heap.size + 1 by simp)
      have hnew := cel3_new (w.alloc (.cells #[.int .i64 p, (.slice A l.length cap)] 29)) (.slice AF F.length cF) (.slice AT T.length cT) (.slice AZ Z.length cZ) 64
      rw [show (w.alloc (.cells #[.int .i64 p, (.slice A l.length cap)] 29)).heap.size = w.heap.size + 1 by simp] at hnew
      have GA_2 := Lib.hid hnew
      clear hnew
      go_enter Try.func78, Try.ntmps78
      obtain ⟨g0_0, g0_1, g0_2⟩ := BX_2.out
      obtain ⟨g1_0, g1_1, g1_2, g1_3, g1_4, g1_5⟩ := GA_2.out.cells
      go_wp2_with fail
      clear g0_0 g0_1 g0_2 g1_0 g1_1 g1_2 g1_3 g1_4 g1_5
      generalize ((w.alloc (.cells #[.int .i64 p, (.slice A l.length cap)] 29)).alloc (.cells #[(.slice AF F.length cF), (.slice AT T.length cT), (.slice AZ Z.length cZ)] 64)) = w2 at *
      generalize (w.alloc (.cells #[.int .i64 p, (.slice A l.length cap)] 29)) = w1 at *
      refine (HISG _ HB_2.out.at).mono ?_
      rintro e w3 ⟨rfl, hb⟩
      have Z3 := Lib.hid (within_of hb).size
      have W3 := Lib.hid (within_on W2.out (within_of hb) W2.out.size (.inr (Nat.le_refl _)))
      have HB_3 := Lib.hid (HB_2.out.within (within_of hb) (by omega))
      have H_3 := Lib.hid (H_2.out.within (within_of hb) (by omega))
      have BX_3 := Lib.hid (BX_2.out.within (within_of hb) (by omega))
      have GA_3 := Lib.hid (GA_2.out.within (within_of hb) (by omega))
      clear hb HISG
      obtain ⟨g2_0, g2_1, g2_2⟩ := BX_3.out
      obtain ⟨g3_0, g3_1, g3_2, g3_3, g3_4, g3_5⟩ := GA_3.out.cells
      go_wp2_with fail
      refine (l1In_yes k 1 3 _ hk.1 hk.2).mono ?_
      rintro e w9 ⟨rfl, rfl⟩
      go_wp2_with fail
      go_ret
      exact ⟨by rw [HR.out]; rfl, W3.out⟩
    rw [hg] at HISG
    have hG : IsG p l := Classical.byContradiction fun g => by rw [isGB_no g] at hg; cases hg
    obtain rfl : p = (F.length : Int) := hfp.symm
    have hk : 1 ≤ k ∧ k ≤ 3 := hkk
    have heq : ((F.length : Int) != (F.length : Int)) = false := by simp
    have hF8 := hG.1.2
    have heq1 : ((T.length : Int) != (Z.length : Int)) = false := by rw [bne_eq_false_iff_eq]; omega
    have heq2 : (T.length == Z.length) = true := by simpa using htz
    have h24 := hG.2.1
    have HYES := Lib.hid (show (∀ j, j < Z.length → OkP l T Z j) → (∀ v : Nat, v < F.length → 0 ≤ F.getD v 0 ∧ F.getD v 0 + (T.count (v : Int) : Int) = k) → isPebB (F.length : Int) k l F T Z = true from fun h1 h2 => isPebB_yes ⟨hG, hkk, rfl, htz, h1, h2⟩)
    have HW := Lib.hid hw
    have HTZ := Lib.hid htz
    clear hg hG hw htz
    have hhi : hi ≤ w.heap.size := h.f.1
    have W0 := Lib.hid (Below.refl w.heap.size w)
    have HB_0 := Lib.hid (bars_in hl)
    have H_0 := Lib.hid (h)
    clear hl h
    have Z1 := Lib.hid (within_alloc w (.cells #[.int .i64 (F.length : Int), (.slice A l.length cap)] 29)).size
    have W1 := Lib.hid (within_on W0.out (within_alloc w (.cells #[.int .i64 (F.length : Int), (.slice A l.length cap)] 29)) W0.out.size (.inr (Nat.le_refl _)))
    have HB_1 := Lib.hid (HB_0.out.within (within_alloc w (.cells #[.int .i64 (F.length : Int), (.slice A l.length cap)] 29)) (by omega))
    have H_1 := Lib.hid (H_0.out.within (within_alloc w (.cells #[.int .i64 (F.length : Int), (.slice A l.length cap)] 29)) (by omega))
    have Y1 := Lib.hid (show (w.alloc (.cells #[.int .i64 (F.length : Int), (.slice A l.length cap)] 29)).heap.size = w.heap.size + 1 by simp)
    have hnew := box_new w (F.length : Int) (.slice A l.length cap) 29
    have BX_1 := Lib.hid hnew
    clear hnew
    have Z2 := Lib.hid (within_alloc (w.alloc (.cells #[.int .i64 (F.length : Int), (.slice A l.length cap)] 29)) (.cells #[(.slice AF F.length cF), (.slice AT T.length cT), (.slice AZ Z.length cZ)] 64)).size
    have W2 := Lib.hid (within_on W1.out (within_alloc (w.alloc (.cells #[.int .i64 (F.length : Int), (.slice A l.length cap)] 29)) (.cells #[(.slice AF F.length cF), (.slice AT T.length cT), (.slice AZ Z.length cZ)] 64)) W1.out.size (.inr (Nat.le_refl _)))
    have HB_2 := Lib.hid (HB_1.out.within (within_alloc (w.alloc (.cells #[.int .i64 (F.length : Int), (.slice A l.length cap)] 29)) (.cells #[(.slice AF F.length cF), (.slice AT T.length cT), (.slice AZ Z.length cZ)] 64)) (by omega))
    have H_2 := Lib.hid (H_1.out.within (within_alloc (w.alloc (.cells #[.int .i64 (F.length : Int), (.slice A l.length cap)] 29)) (.cells #[(.slice AF F.length cF), (.slice AT T.length cT), (.slice AZ Z.length cZ)] 64)) (by omega))
    have BX_2 := Lib.hid (BX_1.out.within (within_alloc (w.alloc (.cells #[.int .i64 (F.length : Int), (.slice A l.length cap)] 29)) (.cells #[(.slice AF F.length cF), (.slice AT T.length cT), (.slice AZ Z.length cZ)] 64)) (by omega))
    have Y2 := Lib.hid (show ((w.alloc (.cells #[.int .i64 (F.length : Int), (.slice A l.length cap)] 29)).alloc (.cells #[(.slice AF F.length cF), (.slice AT T.length cT), (.slice AZ Z.length cZ)] 64)).heap.size = (w.alloc (.cells #[.int .i64 (F.length : Int), (.slice A l.length cap)] 29)).heap.size + 1 by simp)
    have hnew := cel3_new (w.alloc (.cells #[.int .i64 (F.length : Int), (.slice A l.length cap)] 29)) (.slice AF F.length cF) (.slice AT T.length cT) (.slice AZ Z.length cZ) 64
    rw [show (w.alloc (.cells #[.int .i64 (F.length : Int), (.slice A l.length cap)] 29)).heap.size = w.heap.size + 1 by simp] at hnew
    have GA_2 := Lib.hid hnew
    clear hnew
    go_enter Try.func78, Try.ntmps78
    obtain ⟨g0_0, g0_1, g0_2⟩ := BX_2.out
    obtain ⟨g1_0, g1_1, g1_2, g1_3, g1_4, g1_5⟩ := GA_2.out.cells
    go_wp2_with fail
    clear g0_0 g0_1 g0_2 g1_0 g1_1 g1_2 g1_3 g1_4 g1_5
    generalize ((w.alloc (.cells #[.int .i64 (F.length : Int), (.slice A l.length cap)] 29)).alloc (.cells #[(.slice AF F.length cF), (.slice AT T.length cT), (.slice AZ Z.length cZ)] 64)) = w2 at *
    generalize (w.alloc (.cells #[.int .i64 (F.length : Int), (.slice A l.length cap)] 29)) = w1 at *
    refine (HISG _ HB_2.out.at).mono ?_
    rintro e w3 ⟨rfl, hb⟩
    have Z3 := Lib.hid (within_of hb).size
    have W3 := Lib.hid (within_on W2.out (within_of hb) W2.out.size (.inr (Nat.le_refl _)))
    have HB_3 := Lib.hid (HB_2.out.within (within_of hb) (by omega))
    have H_3 := Lib.hid (H_2.out.within (within_of hb) (by omega))
    have BX_3 := Lib.hid (BX_2.out.within (within_of hb) (by omega))
    have GA_3 := Lib.hid (GA_2.out.within (within_of hb) (by omega))
    clear hb HISG
    obtain ⟨g2_0, g2_1, g2_2⟩ := BX_3.out
    obtain ⟨g3_0, g3_1, g3_2, g3_3, g3_4, g3_5⟩ := GA_3.out.cells
    go_wp2_with fail
    refine (l1In_yes k 1 3 _ hk.1 hk.2).mono ?_
    rintro e w9 ⟨rfl, rfl⟩
    have HGP := Lib.hid (⟨BX_3.out, GA_3.out, HB_3.out, H_3.out, W3.out⟩ : GP w w3 w.heap.size (w.heap.size + 1) (F.length : Int) A cap l AF AT AZ cF cT cZ lo hi F T Z)
    go_wp2_with fail
    clear g2_0 g2_1 g2_2 g3_0 g3_1 g3_2 g3_3 g3_4 g3_5
    clear heq heq1 heq2
    go_loopw [7] (fun i wr => ∃ j : Nat, j ≤ Z.length ∧ i = .int .i64 j ∧ (∀ u, u < j → OkP l T Z u) ∧ GP w wr w.heap.size (w.heap.size + 1) (F.length : Int) A cap l AF AT AZ cF cT cZ lo hi F T Z) (fun i _ => Z.length - (intOf i).toNat)
    case atStart => exact ⟨0, Nat.zero_le _, rfl, fun u hu => absurd hu (Nat.not_lt_zero _), HGP.out⟩
    case round =>
      obtain ⟨j, hj, rfl, hok, hst⟩ := hrel
      have HOK := Lib.hid hok
      have HS := Lib.hid hst
      obtain ⟨_, gx0, gx1⟩ := hst.box
      obtain ⟨gc0, gc1, gc2, _, _, _⟩ := hst.st.cells
      clear hok hst
      by_cases hlt : j < Z.length
      · skip
        have hji : (j : Int) < (Z.length : Int) := by omega
        obtain ⟨zb, zo, rfl, hzc⟩ := row_at HS.out.rows.z (by omega)
        obtain ⟨tb, to, rfl, htc⟩ := row_at HS.out.rows.t (by have := HTZ.out; omega)
        have hz := hzc j hlt
        have hjt : (j : Int) < (T.length : Int) := by have := HTZ.out; omega
        have ht := htc j (by omega)
        have HBAD := Lib.hid (fun h : ¬ OkP l T Z j => isPeb_bad (p := (F.length : Int)) (k := k) (F := F) hlt h)
        have HNEXT := Lib.hid (fun h : OkP l T Z j => okP_snoc HOK.out h)
        have HDEF := Lib.hid (show OkP l T Z j = ((0 ≤ Z.getD j 0 ∧ Z.getD j 0 < (l.length : Int)) ∧ (0 < j → Z.getD (j - 1) 0 < Z.getD j 0) ∧ isEnd (l.getD (Z.getD j 0).toNat (0, 0)) (T.getD j 0)) from rfl)
        have HPREV := Lib.hid (fun h0 : 0 < j => hzc (j - 1) (by omega))
        obtain ⟨z, hzd⟩ : ∃ z, Z.getD j 0 = z := ⟨_, rfl⟩
        obtain ⟨t, htd⟩ : ∃ t, T.getD j 0 = t := ⟨_, rfl⟩
        obtain ⟨y, hyd⟩ : ∃ y, Z.getD (j - 1) 0 = y := ⟨_, rfl⟩
        rw [hzd] at hz HDEF
        rw [htd] at ht HDEF
        rw [hyd] at HPREV HDEF
        clear hzd htd hyd hzc htc
        by_cases c1 : z < 0
        · skip
          have Q := Lib.hid (HBAD.out fun h => by rw [HDEF.out] at h; omega)
          go_wp2_with fail
          go_big_quiet (fail)
          go_wp2_with fail
          go_ret
          exact ⟨by rw [Q.out]; rfl, HS.out.bel.trans (below_drewN _ _ _)⟩
        have d1 : decide (z < 0) = false := by simpa using c1
        obtain ⟨n, rfl⟩ : ∃ n : Nat, z = (n : Int) := ⟨z.toNat, by omega⟩
        have d1n : decide ((n : Int) < 0) = false := d1
        by_cases c2 : l.length ≤ n
        · skip
          have c2i : (l.length : Int) ≤ (n : Int) := by omega
          have Q := Lib.hid (HBAD.out fun h => by rw [HDEF.out] at h; omega)
          go_wp2_with fail
          go_big_quiet (fail)
          go_wp2_with fail
          go_ret
          exact ⟨by rw [Q.out]; rfl, HS.out.bel.trans (below_drewN _ _ _)⟩
        have c2i : ¬ (l.length : Int) ≤ (n : Int) := by omega
        have d2 : decide ((l.length : Int) ≤ (n : Int)) = false := by simpa using c2i
        have d2n : decide (l.length ≤ n) = false := by simpa using c2
        obtain ⟨b, off, rfl, _, hbc⟩ := HS.out.bars.at (by omega)
        have hx1 := (hbc n (by omega)).1
        have hx2 := (hbc n (by omega)).2
        obtain ⟨x, hxd⟩ : ∃ x, l.getD n (0, 0) = x := ⟨_, rfl⟩
        rw [hxd] at hx1 hx2
        rw [Int.toNat_natCast, hxd] at HDEF
        clear hxd hbc
        obtain ⟨x1, x2⟩ := x
        simp only at hx1 hx2 HDEF
        by_cases hj0 : j = 0
        · skip
          have d3 : decide ((0 : Int) < (j : Int)) = false := by simp; omega
          have d3n : decide (0 < j) = false := by simp; omega
          have HJ0 := Lib.hid hj0
          clear hj0
          by_cases c4 : t = x1
          · skip
            have e1 : (t != x1) = false := by simpa using c4
            have HN := Lib.hid (HNEXT.out (by rw [HDEF.out]; exact ⟨by omega, fun h => absurd h (by have := HJ0.out; omega), .inl c4⟩))
            clear c4
            go_wp2_with fail
            go_big_quiet (fail)
            go_wp2_with fail
            go_roundw
            case rel => exact ⟨j + 1, by omega, by go_num, HN.out, HS.out.drewN _⟩
            case measure => simp [intOf]; omega
          have e1 : (t != x1) = true := by simpa using c4
          have HC4 := Lib.hid c4
          clear c4
          by_cases c5 : t = x2
          · skip
            have e2 : (t != x2) = false := by simpa using c5
            have HN := Lib.hid (HNEXT.out (by rw [HDEF.out]; exact ⟨by omega, fun h => absurd h (by have := HJ0.out; omega), .inr c5⟩))
            clear c5
            go_wp2_with fail
            go_big_quiet (fail)
            go_wp2_with fail
            go_roundw
            case rel => exact ⟨j + 1, by omega, by go_num, HN.out, HS.out.drewN _⟩
            case measure => simp [intOf]; omega
          have e2 : (t != x2) = true := by simpa using c5
          have HC5 := Lib.hid c5
          clear c5
          have Q := Lib.hid (HBAD.out fun h => by rw [HDEF.out] at h; rcases h.2.2 with h | h; exact HC4.out h; exact HC5.out h)
          go_wp2_with fail
          go_big_quiet (fail)
          go_wp2_with fail
          go_ret
          exact ⟨by rw [Q.out]; rfl, HS.out.bel.trans (below_drewN _ _ _)⟩
        · skip
          have d3 : decide ((0 : Int) < (j : Int)) = true := by simp; omega
          have d3n : decide (0 < j) = true := by simp; omega
          have hy := HPREV.out (by omega)
          have hjm : (j : Int) - 1 = ((j - 1 : Nat) : Int) := by omega
          have hjw : IntKind.i64.wrap ((j - 1 : Nat) : Int) = ((j - 1 : Nat) : Int) := IntWalk.i64_in _ (by omega)
          have hjl : ((j - 1 : Nat) : Int) < (Z.length : Int) := by omega
          have hjl2 : j - 1 < Z.length := by omega
          have HJ0 := Lib.hid hj0
          clear hj0
          by_cases c3 : (n : Int) ≤ y
          · skip
            have Q := Lib.hid (HBAD.out fun h => by rw [HDEF.out] at h; have := h.2.1 (by have := HJ0.out; omega); omega)
            go_wp2_with fail
            go_big_quiet (fail)
            go_wp2_with fail
            go_ret
            exact ⟨by rw [Q.out]; rfl, HS.out.bel.trans (below_drewN _ _ _)⟩
          have d4 : decide ((n : Int) ≤ y) = false := by simpa using c3
          by_cases c4 : t = x1
          · skip
            have e1 : (t != x1) = false := by simpa using c4
            have HN := Lib.hid (HNEXT.out (by rw [HDEF.out]; exact ⟨by omega, fun _ => by omega, .inl c4⟩))
            clear c4
            go_wp2_with fail
            go_big_quiet (fail)
            go_wp2_with fail
            go_roundw
            case rel => exact ⟨j + 1, by omega, by go_num, HN.out, HS.out.drewN _⟩
            case measure => simp [intOf]; omega
          have e1 : (t != x1) = true := by simpa using c4
          have HC4 := Lib.hid c4
          clear c4
          by_cases c5 : t = x2
          · skip
            have e2 : (t != x2) = false := by simpa using c5
            have HN := Lib.hid (HNEXT.out (by rw [HDEF.out]; exact ⟨by omega, fun _ => by omega, .inr c5⟩))
            clear c5
            go_wp2_with fail
            go_big_quiet (fail)
            go_wp2_with fail
            go_roundw
            case rel => exact ⟨j + 1, by omega, by go_num, HN.out, HS.out.drewN _⟩
            case measure => simp [intOf]; omega
          have e2 : (t != x2) = true := by simpa using c5
          have HC5 := Lib.hid c5
          clear c5
          have Q := Lib.hid (HBAD.out fun h => by rw [HDEF.out] at h; rcases h.2.2 with h | h; exact HC4.out h; exact HC5.out h)
          go_wp2_with fail
          go_big_quiet (fail)
          go_wp2_with fail
          go_ret
          exact ⟨by rw [Q.out]; rfl, HS.out.bel.trans (below_drewN _ _ _)⟩
      · obtain rfl : j = Z.length := by omega
        have HL24 := Lib.hid (Nat.le_trans (okP_len HOK.out) h24)
        have HNO := Lib.hid (fun (v : Nat) (hv : v < F.length) h => isPeb_free (p := (F.length : Int)) (k := k) (l := l) (Z := Z) (T := T) hv h)
        have HY2 := Lib.hid (HYES.out HOK.out)
        clear HYES HOK
        go_wp2_with fail
        go_loopw [9] (fun i wr => ∃ v : Nat, v ≤ F.length ∧ i = .int .i64 v ∧ (∀ u : Nat, u < v → 0 ≤ F.getD u 0 ∧ F.getD u 0 + (T.count (u : Int) : Int) = k) ∧ GP w wr w.heap.size (w.heap.size + 1) (F.length : Int) A cap l AF AT AZ cF cT cZ lo hi F T Z) (fun i _ => F.length - (intOf i).toNat)
        case atStart => exact ⟨0, Nat.zero_le _, rfl, fun u hu => absurd hu (Nat.not_lt_zero _), HS.out⟩
        case round =>
          clear gx0 gx1 gc0 gc1 gc2 hlt hj HS
          obtain ⟨v, hv, rfl, hok, hst⟩ := hrel
          have HOK := Lib.hid hok
          have HS := Lib.hid hst
          obtain ⟨_, gx0, gx1⟩ := hst.box
          obtain ⟨gc0, gc1, gc2, _, _, _⟩ := hst.st.cells
          clear hok hst
          by_cases hlt : v < F.length
          · skip
            have hvi : (v : Int) < (F.length : Int) := by omega
            obtain ⟨fb, fo, rfl, hfc⟩ := row_at HS.out.rows.f (by omega)
            have hfv := hfc v hlt
            have HN := Lib.hid (HNO.out v hlt)
            have HSN := Lib.hid (show (0 ≤ F.getD v 0 ∧ F.getD v 0 + (T.count (v : Int) : Int) = k) → ∀ u : Nat, u < v + 1 → 0 ≤ F.getD u 0 ∧ F.getD u 0 + (T.count (u : Int) : Int) = k from fun h u hu => by
              by_cases e : u = v
              · subst e; exact h
              · exact HOK.out u (by omega))
            have hxw := HW.out v hlt
            have hcn : T.count (v : Int) ≤ 24 := Nat.le_trans (List.count_le_length ..) (by have := HTZ.out; have := HL24.out; omega)
            obtain ⟨x, hx⟩ : ∃ x, F.getD v 0 = x := ⟨_, rfl⟩
            rw [hx] at hfv HN HSN hxw
            clear hx hfc
            obtain ⟨c, hcd⟩ : ∃ c, T.count (v : Int) = c := ⟨_, rfl⟩
            rw [hcd] at HN HSN hcn
            have HCD := Lib.hid hcd
            clear hcd
            by_cases c1 : x < 0
            · skip
              have Q := Lib.hid (HN.out (by omega))
              go_wp2_with fail
              go_big_quiet (fail)
              go_wp2_with fail
              go_ret
              exact ⟨by rw [Q.out]; rfl, HS.out.bel.trans (below_drewN _ _ _)⟩
            have d1 : decide (x < 0) = false := by simpa using c1
            have hwf := wf_add hxw (by omega) hcn hk
            have HSD := Lib.hid (HS.out.below (Below.refl _ _).drew)
            have kk : (fun W' => W'.cell? ⟨w.heap.size + 1, 0, none⟩ = some (.slice (some ⟨fb, fo, none⟩) F.length cF) ∧ W'.cell? ⟨w.heap.size + 1, 1, none⟩ = some (.slice AT T.length cT) ∧ W'.cell? ⟨w.heap.size + 1, 2, none⟩ = some (.slice AZ Z.length cZ) ∧ W'.cell? ⟨fb, fo + v, none⟩ = some (.int .i64 x)) wr := ⟨gc0, gc1, gc2, hfv⟩
            have HKK := Lib.hid kk
            by_cases c2 : x + (c : Int) = k
            · skip
              have hs : IntKind.i64.wrap (x + (c : Int)) = k := hwf.2 c2
              have hq : (IntKind.i64.wrap (x + (c : Int)) != k) = false := by rw [hs]; simp
              have HNX := Lib.hid (HSN.out ⟨by omega, c2⟩)
              clear hwf hs c2
              go_wp2_with fail
              go_region_held3 (fun W' => W'.cell? ⟨w.heap.size + 1, 0, none⟩ = some (.slice (some ⟨fb, fo, none⟩) F.length cF) ∧ W'.cell? ⟨w.heap.size + 1, 1, none⟩ = some (.slice AT T.length cT) ∧ W'.cell? ⟨w.heap.size + 1, 2, none⟩ = some (.slice AZ Z.length cZ) ∧ W'.cell? ⟨fb, fo + v, none⟩ = some (.int .i64 x))
                (first | exact HKK.out | exact HK5.out | fail)
                (first | (go_at_call 130; refine (tail_c (some ⟨fb, fo, none⟩) AT AZ cF cT cZ lo hi F T Z (v : Int) _ HSD.out.rows hT).mono ?_; rintro e w5 ⟨rfl, hb⟩; rw [HCD.out]; have HS5 := Lib.hid (HSD.out.below hb); have HK5 := Lib.hid (show (fun W' : World => W'.cell? ⟨w.heap.size + 1, 0, none⟩ = some (.slice (some ⟨fb, fo, none⟩) F.length cF) ∧ W'.cell? ⟨w.heap.size + 1, 1, none⟩ = some (.slice AT T.length cT) ∧ W'.cell? ⟨w.heap.size + 1, 2, none⟩ = some (.slice AZ Z.length cZ) ∧ W'.cell? ⟨fb, fo + v, none⟩ = some (.int .i64 x)) w5 from ⟨HS5.out.st.cells.1, HS5.out.st.cells.2.1, HS5.out.st.cells.2.2.1, (hb.cell (p := ⟨fb, fo + v, none⟩) (World.block_lt_of_cell? _ _ HKK.out.2.2.2)).trans HKK.out.2.2.2⟩); clear hb))
              go_wp2_with fail
              go_roundw
              case rel => exact ⟨v + 1, by omega, by go_num, HNX.out, HS5.out⟩
              case measure => simp [intOf]; omega
            have hq : (IntKind.i64.wrap (x + (c : Int)) != k) = true := by rw [bne_iff_ne]; exact fun h => c2 (hwf.1 h)
            have Q := Lib.hid (HN.out (by omega))
            clear hwf
            go_wp2_with fail
            go_region_held3 (fun W' => W'.cell? ⟨w.heap.size + 1, 0, none⟩ = some (.slice (some ⟨fb, fo, none⟩) F.length cF) ∧ W'.cell? ⟨w.heap.size + 1, 1, none⟩ = some (.slice AT T.length cT) ∧ W'.cell? ⟨w.heap.size + 1, 2, none⟩ = some (.slice AZ Z.length cZ) ∧ W'.cell? ⟨fb, fo + v, none⟩ = some (.int .i64 x))
              (first | exact HKK.out | exact HK5.out | fail)
              (first | (go_at_call 130; refine (tail_c (some ⟨fb, fo, none⟩) AT AZ cF cT cZ lo hi F T Z (v : Int) _ HSD.out.rows hT).mono ?_; rintro e w5 ⟨rfl, hb⟩; rw [HCD.out]; have HS5 := Lib.hid (HSD.out.below hb); have HK5 := Lib.hid (show (fun W' : World => W'.cell? ⟨w.heap.size + 1, 0, none⟩ = some (.slice (some ⟨fb, fo, none⟩) F.length cF) ∧ W'.cell? ⟨w.heap.size + 1, 1, none⟩ = some (.slice AT T.length cT) ∧ W'.cell? ⟨w.heap.size + 1, 2, none⟩ = some (.slice AZ Z.length cZ) ∧ W'.cell? ⟨fb, fo + v, none⟩ = some (.int .i64 x)) w5 from ⟨HS5.out.st.cells.1, HS5.out.st.cells.2.1, HS5.out.st.cells.2.2.1, (hb.cell (p := ⟨fb, fo + v, none⟩) (World.block_lt_of_cell? _ _ HKK.out.2.2.2)).trans HKK.out.2.2.2⟩); clear hb))
            go_wp2_with fail
            go_ret
            exact ⟨by rw [Q.out]; rfl, HS5.out.bel⟩
          · obtain rfl : v = F.length := by omega
            go_wp2_with fail
            go_ret
            exact ⟨by rw [HY2.out HOK.out]; rfl, HS.out.bel⟩
end Go.Proofs.Ytdnmmjaelgjkaaa
