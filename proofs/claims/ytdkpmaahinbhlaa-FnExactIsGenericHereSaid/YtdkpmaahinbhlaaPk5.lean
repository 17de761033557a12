/- Several texts in one, in the order in which they build on each other: what stands on the way to the laws; each names its own matter. No condition. -/
import Derived.Test.YtdkpmaahinbhlaaPk4
import Derived.Deep.QuietTactic
import Derived.BigQuiet
import Derived.Deep.RegionHeld3
import Derived.OrdersHeld
import Derived.Laws.CopyOwn
/- What spec.IsPebbles answers. No condition. -/
namespace Go.Proofs.Ytdkpmaahinbhlaa
open Go.RowKit

set_option maxHeartbeats 8000000 in
set_option maxRecDepth 100000 in
theorem specIsPeb (p k : Int) (l : List (Int × Int)) (A : Option Addr) (cap : Nat) (AF AT AZ : Option Addr) (cF cT cZ lo hi : Nat) (F T Z : List Int) (w : World) (hl : BarsAt w w.heap.size A l) (h : Peb3 w lo hi AF AT AZ F T Z) (hn : l.length ≤ 1048576) (hF : F.length ≤ 1048576) (hT : T.length ≤ 1048576) (hZ : Z.length ≤ 1048576) (hw : WfI F) :
    Calls Try.prog 39 #[.agg #[.int .i64 p, .slice A l.length cap], .int .i64 k, pebV AF F.length cF AT T.length cT AZ Z.length cZ] w fun e w' => e = .returned (.bool (isPebB p k l F T Z)) ∧ Below w.heap.size w w' := by
  have HISG : ∀ W : World, BarsAt W W.heap.size A l → Calls Try.prog 118 #[.agg #[.int .i64 p, .slice A l.length cap]] W fun e w' => e = .returned (.bool (isGB p l)) ∧ Below W.heap.size W w' := fun W h => specIsGraph' p l A cap W h hn
  rcases hg : isGB p l with _ | _
  · skip
    rw [hg] at HISG
    have HR := Lib.hid (show isPebB p k l F T Z = false from isPebB_no fun hp => by rw [isGB_yes hp.1] at hg; cases hg)
    have hhi : hi ≤ w.heap.size := h.f.1
    have W0 := Lib.hid (Below.refl w.heap.size w)
    have HB_0 := Lib.hid (bars_in hl)
    have H_0 := Lib.hid (h)
    clear hl h
    have Z1 := Lib.hid (within_alloc w (.cells #[.int .i64 p, (.slice A l.length cap)] 26)).size
    have W1 := Lib.hid (within_on W0.out (within_alloc w (.cells #[.int .i64 p, (.slice A l.length cap)] 26)) W0.out.size (.inr (Nat.le_refl _)))
    have HB_1 := Lib.hid (HB_0.out.within (within_alloc w (.cells #[.int .i64 p, (.slice A l.length cap)] 26)) (by omega))
    have H_1 := Lib.hid (H_0.out.within (within_alloc w (.cells #[.int .i64 p, (.slice A l.length cap)] 26)) (by omega))
    have Y1 := Lib.hid (show (w.alloc (.cells #[.int .i64 p, (.slice A l.length cap)] 26)).heap.size = w.heap.size + 1 by simp)
    have hnew := box_new w p (.slice A l.length cap) 26
    have BX_1 := Lib.hid hnew
    clear hnew
    have Z2 := Lib.hid (within_alloc (w.alloc (.cells #[.int .i64 p, (.slice A l.length cap)] 26)) (.cells #[(.slice AF F.length cF), (.slice AT T.length cT), (.slice AZ Z.length cZ)] 31)).size
    have W2 := Lib.hid (within_on W1.out (within_alloc (w.alloc (.cells #[.int .i64 p, (.slice A l.length cap)] 26)) (.cells #[(.slice AF F.length cF), (.slice AT T.length cT), (.slice AZ Z.length cZ)] 31)) W1.out.size (.inr (Nat.le_refl _)))
    have HB_2 := Lib.hid (HB_1.out.within (within_alloc (w.alloc (.cells #[.int .i64 p, (.slice A l.length cap)] 26)) (.cells #[(.slice AF F.length cF), (.slice AT T.length cT), (.slice AZ Z.length cZ)] 31)) (by omega))
    have H_2 := Lib.hid (H_1.out.within (within_alloc (w.alloc (.cells #[.int .i64 p, (.slice A l.length cap)] 26)) (.cells #[(.slice AF F.length cF), (.slice AT T.length cT), (.slice AZ Z.length cZ)] 31)) (by omega))
    have BX_2 := Lib.hid (BX_1.out.within (within_alloc (w.alloc (.cells #[.int .i64 p, (.slice A l.length cap)] 26)) (.cells #[(.slice AF F.length cF), (.slice AT T.length cT), (.slice AZ Z.length cZ)] 31)) (by omega))
    have Y2 := Lib.hid (show ((w.alloc (.cells #[.int .i64 p, (.slice A l.length cap)] 26)).alloc (.cells #[(.slice AF F.length cF), (.slice AT T.length cT), (.slice AZ Z.length cZ)] 31)).heap.size = (w.alloc (.cells #[.int .i64 p, (.slice A l.length cap)] 26)).heap.size + 1 by simp)
    have hnew := cel3_new (w.alloc (.cells #[.int .i64 p, (.slice A l.length cap)] 26)) (.slice AF F.length cF) (.slice AT T.length cT) (.slice AZ Z.length cZ) 31
    rw [show (w.alloc (.cells #[.int .i64 p, (.slice A l.length cap)] 26)).heap.size = w.heap.size + 1 by simp] at hnew
    have GA_2 := Lib.hid hnew
    clear hnew
    go_enter Try.func39, Try.ntmps39
    obtain ⟨g0_0, g0_1, g0_2⟩ := BX_2.out
    obtain ⟨g1_0, g1_1, g1_2, g1_3, g1_4, g1_5⟩ := GA_2.out.cells
    go_wp2_with fail
    clear g0_0 g0_1 g0_2 g1_0 g1_1 g1_2 g1_3 g1_4 g1_5
    generalize ((w.alloc (.cells #[.int .i64 p, (.slice A l.length cap)] 26)).alloc (.cells #[(.slice AF F.length cF), (.slice AT T.length cT), (.slice AZ Z.length cZ)] 31)) = w2 at *
    generalize (w.alloc (.cells #[.int .i64 p, (.slice A l.length cap)] 26)) = w1 at *
    refine (HISG _ HB_2.out.at).mono ?_
    rintro e w3 ⟨rfl, hb⟩
    have Z3 := Lib.hid (within_of hb).size
    have W3 := Lib.hid (within_on W2.out (within_of hb) W2.out.size (.inr (Nat.le_refl _)))
    have HB_3 := Lib.hid (HB_2.out.within (within_of hb) (by omega))
    have H_3 := Lib.hid (H_2.out.within (within_of hb) (by omega))
    have BX_3 := Lib.hid (BX_2.out.within (within_of hb) (by omega))
    have GA_3 := Lib.hid (GA_2.out.within (within_of hb) (by omega))
    clear hb HISG
    go_wp2_with fail
    go_ret
    exact ⟨by rw [HR.out]; rfl, W3.out⟩
  · by_cases hkk : 1 ≤ k ∧ k ≤ 3
    case neg =>
      rw [hg] at HISG
      have hk : k < 1 ∨ 3 < k := by omega
      have HR := Lib.hid (show isPebB p k l F T Z = false from isPebB_no fun hp => by exact hkk hp.2.1)
      have hhi : hi ≤ w.heap.size := h.f.1
      have W0 := Lib.hid (Below.refl w.heap.size w)
      have HB_0 := Lib.hid (bars_in hl)
      have H_0 := Lib.hid (h)
      clear hl h
      have Z1 := Lib.hid (within_alloc w (.cells #[.int .i64 p, (.slice A l.length cap)] 26)).size
      have W1 := Lib.hid (within_on W0.out (within_alloc w (.cells #[.int .i64 p, (.slice A l.length cap)] 26)) W0.out.size (.inr (Nat.le_refl _)))
      have HB_1 := Lib.hid (HB_0.out.within (within_alloc w (.cells #[.int .i64 p, (.slice A l.length cap)] 26)) (by omega))
      have H_1 := Lib.hid (H_0.out.within (within_alloc w (.cells #[.int .i64 p, (.slice A l.length cap)] 26)) (by omega))
      have Y1 := Lib.hid (show (w.alloc (.cells #[.int .i64 p, (.slice A l.length cap)] 26)).heap.size = w.heap.size + 1 by simp)
      have hnew := box_new w p (.slice A l.length cap) 26
      have BX_1 := Lib.hid hnew
      clear hnew
      have Z2 := Lib.hid (within_alloc (w.alloc (.cells #[.int .i64 p, (.slice A l.length cap)] 26)) (.cells #[(.slice AF F.length cF), (.slice AT T.length cT), (.slice AZ Z.length cZ)] 31)).size
      have W2 := Lib.hid (within_on W1.out (within_alloc (w.alloc (.cells #[.int .i64 p, (.slice A l.length cap)] 26)) (.cells #[(.slice AF F.length cF), (.slice AT T.length cT), (.slice AZ Z.length cZ)] 31)) W1.out.size (.inr (Nat.le_refl _)))
      have HB_2 := Lib.hid (HB_1.out.within (within_alloc (w.alloc (.cells #[.int .i64 p, (.slice A l.length cap)] 26)) (.cells #[(.slice AF F.length cF), (.slice AT T.length cT), (.slice AZ Z.length cZ)] 31)) (by omega))
      have H_2 := Lib.hid (H_1.out.within (within_alloc (w.alloc (.cells #[.int .i64 p, (.slice A l.length cap)] 26)) (.cells #[(.slice AF F.length cF), (.slice AT T.length cT), (.slice AZ Z.length cZ)] 31)) (by omega))
      have BX_2 := Lib.hid (BX_1.out.within (within_alloc (w.alloc (.cells #[.int .i64 p, (.slice A l.length cap)] 26)) (.cells #[(.slice AF F.length cF), (.slice AT T.length cT), (.slice AZ Z.length cZ)] 31)) (by omega))
      have Y2 := Lib.hid (show ((w.alloc (.cells #[.int .i64 p, (.slice A l.length cap)] 26)).alloc (.cells #[(.slice AF F.length cF), (.slice AT T.length cT), (.slice AZ Z.length cZ)] 31)).heap.size = (w.alloc (.cells #[.int .i64 p, (.slice A l.length cap)] 26)).heap.size + 1 by simp)
      have hnew := cel3_new (w.alloc (.cells #[.int .i64 p, (.slice A l.length cap)] 26)) (.slice AF F.length cF) (.slice AT T.length cT) (.slice AZ Z.length cZ) 31
      rw [show (w.alloc (.cells #[.int .i64 p, (.slice A l.length cap)] 26)).heap.size = w.heap.size + 1 by simp] at hnew
      have GA_2 := Lib.hid hnew
      clear hnew
      go_enter Try.func39, Try.ntmps39
      obtain ⟨g0_0, g0_1, g0_2⟩ := BX_2.out
      obtain ⟨g1_0, g1_1, g1_2, g1_3, g1_4, g1_5⟩ := GA_2.out.cells
      go_wp2_with fail
      clear g0_0 g0_1 g0_2 g1_0 g1_1 g1_2 g1_3 g1_4 g1_5
      generalize ((w.alloc (.cells #[.int .i64 p, (.slice A l.length cap)] 26)).alloc (.cells #[(.slice AF F.length cF), (.slice AT T.length cT), (.slice AZ Z.length cZ)] 31)) = w2 at *
      generalize (w.alloc (.cells #[.int .i64 p, (.slice A l.length cap)] 26)) = w1 at *
      refine (HISG _ HB_2.out.at).mono ?_
      rintro e w3 ⟨rfl, hb⟩
      have Z3 := Lib.hid (within_of hb).size
      have W3 := Lib.hid (within_on W2.out (within_of hb) W2.out.size (.inr (Nat.le_refl _)))
      have HB_3 := Lib.hid (HB_2.out.within (within_of hb) (by omega))
      have H_3 := Lib.hid (H_2.out.within (within_of hb) (by omega))
      have BX_3 := Lib.hid (BX_2.out.within (within_of hb) (by omega))
      have GA_3 := Lib.hid (GA_2.out.within (within_of hb) (by omega))
      clear hb HISG
      go_wp2_with fail
      refine (l1In_no k 1 3 _ hk).mono ?_
      rintro e w9 ⟨rfl, rfl⟩
      go_wp2_with fail
      go_ret
      exact ⟨by rw [HR.out]; rfl, W3.out⟩
    by_cases hfp : (F.length : Int) = p
    case neg =>
      rw [hg] at HISG
      have hk : 1 ≤ k ∧ k ≤ 3 := hkk
      have hne : ((F.length : Int) == p) = false := by simpa using hfp
      have HR := Lib.hid (show isPebB p k l F T Z = false from isPebB_no fun hp => by exact hfp hp.2.2.1)
      have hhi : hi ≤ w.heap.size := h.f.1
      have W0 := Lib.hid (Below.refl w.heap.size w)
      have HB_0 := Lib.hid (bars_in hl)
      have H_0 := Lib.hid (h)
      clear hl h
      have Z1 := Lib.hid (within_alloc w (.cells #[.int .i64 p, (.slice A l.length cap)] 26)).size
      have W1 := Lib.hid (within_on W0.out (within_alloc w (.cells #[.int .i64 p, (.slice A l.length cap)] 26)) W0.out.size (.inr (Nat.le_refl _)))
      have HB_1 := Lib.hid (HB_0.out.within (within_alloc w (.cells #[.int .i64 p, (.slice A l.length cap)] 26)) (by omega))
      have H_1 := Lib.hid (H_0.out.within (within_alloc w (.cells #[.int .i64 p, (.slice A l.length cap)] 26)) (by omega))
      have Y1 := Lib.hid (show (w.alloc (.cells #[.int .i64 p, (.slice A l.length cap)] 26)).heap.size = w.heap.size + 1 by simp)
      have hnew := box_new w p (.slice A l.length cap) 26
      have BX_1 := Lib.hid hnew
      clear hnew
      have Z2 := Lib.hid (within_alloc (w.alloc (.cells #[.int .i64 p, (.slice A l.length cap)] 26)) (.cells #[(.slice AF F.length cF), (.slice AT T.length cT), (.slice AZ Z.length cZ)] 31)).size
      have W2 := Lib.hid (within_on W1.out (within_alloc (w.alloc (.cells #[.int .i64 p, (.slice A l.length cap)] 26)) (.cells #[(.slice AF F.length cF), (.slice AT T.length cT), (.slice AZ Z.length cZ)] 31)) W1.out.size (.inr (Nat.le_refl _)))
      have HB_2 := Lib.hid (HB_1.out.within (within_alloc (w.alloc (.cells #[.int .i64 p, (.slice A l.length cap)] 26)) (.cells #[(.slice AF F.length cF), (.slice AT T.length cT), (.slice AZ Z.length cZ)] 31)) (by omega))
      have H_2 := Lib.hid (H_1.out.within (within_alloc (w.alloc (.cells #[.int .i64 p, (.slice A l.length cap)] 26)) (.cells #[(.slice AF F.length cF), (.slice AT T.length cT), (.slice AZ Z.length cZ)] 31)) (by omega))
      have BX_2 := Lib.hid (BX_1.out.within (within_alloc (w.alloc (.cells #[.int .i64 p, (.slice A l.length cap)] 26)) (.cells #[(.slice AF F.length cF), (.slice AT T.length cT), (.slice AZ Z.length cZ)] 31)) (by omega))
      have Y2 := Lib.hid (show ((w.alloc (.cells #[.int .i64 p, (.slice A l.length cap)] 26)).alloc (.cells #[(.slice AF F.length cF), (.slice AT T.length cT), (.slice AZ Z.length cZ)] 31)).heap.size = (w.alloc (.cells #[.int .i64 p, (.slice A l.length cap)] 26)).heap.size + 1 by simp)
      have hnew := cel3_new (w.alloc (.cells #[.int .i64 p, (.slice A l.length cap)] 26)) (.slice AF F.length cF) (.slice AT T.length cT) (.slice AZ Z.length cZ) 31
      rw [show (w.alloc (.cells #[.int .i64 p, (.slice A l.length cap)] 26)).heap.size = w.heap.size + 1 by simp] at hnew
      have GA_2 := Lib.hid hnew
      clear hnew
      go_enter Try.func39, Try.ntmps39
      obtain ⟨g0_0, g0_1, g0_2⟩ := BX_2.out
      obtain ⟨g1_0, g1_1, g1_2, g1_3, g1_4, g1_5⟩ := GA_2.out.cells
      go_wp2_with fail
      clear g0_0 g0_1 g0_2 g1_0 g1_1 g1_2 g1_3 g1_4 g1_5
      generalize ((w.alloc (.cells #[.int .i64 p, (.slice A l.length cap)] 26)).alloc (.cells #[(.slice AF F.length cF), (.slice AT T.length cT), (.slice AZ Z.length cZ)] 31)) = w2 at *
      generalize (w.alloc (.cells #[.int .i64 p, (.slice A l.length cap)] 26)) = w1 at *
      refine (HISG _ HB_2.out.at).mono ?_
      rintro e w3 ⟨rfl, hb⟩
      have Z3 := Lib.hid (within_of hb).size
      have W3 := Lib.hid (within_on W2.out (within_of hb) W2.out.size (.inr (Nat.le_refl _)))
      have HB_3 := Lib.hid (HB_2.out.within (within_of hb) (by omega))
      have H_3 := Lib.hid (H_2.out.within (within_of hb) (by omega))
      have BX_3 := Lib.hid (BX_2.out.within (within_of hb) (by omega))
      have GA_3 := Lib.hid (GA_2.out.within (within_of hb) (by omega))
      clear hb HISG
      obtain ⟨g2_0, g2_1, g2_2⟩ := BX_3.out
      obtain ⟨g3_0, g3_1, g3_2, g3_3, g3_4, g3_5⟩ := GA_3.out.cells
      go_wp2_with fail
      refine (l1In_yes k 1 3 _ hk.1 hk.2).mono ?_
      rintro e w9 ⟨rfl, rfl⟩
      go_wp2_with fail
      go_ret
      exact ⟨by rw [HR.out]; rfl, W3.out⟩
    by_cases htz : T.length = Z.length
    case neg =>
      rw [hg] at HISG
      have hk : 1 ≤ k ∧ k ≤ 3 := hkk
      have heq : ((F.length : Int) == p) = true := by simpa using hfp
      have hne : ((T.length : Int) == (Z.length : Int)) = false := by rw [beq_eq_false_iff_ne]; omega
      have hne2 : (T.length == Z.length) = false := by simpa using htz
      have HR := Lib.hid (show isPebB p k l F T Z = false from isPebB_no fun hp => by exact htz hp.2.2.2.1)
      have hhi : hi ≤ w.heap.size := h.f.1
      have W0 := Lib.hid (Below.refl w.heap.size w)
      have HB_0 := Lib.hid (bars_in hl)
      have H_0 := Lib.hid (h)
      clear hl h
      have Z1 := Lib.hid (within_alloc w (.cells #[.int .i64 p, (.slice A l.length cap)] 26)).size
      have W1 := Lib.hid (within_on W0.out (within_alloc w (.cells #[.int .i64 p, (.slice A l.length cap)] 26)) W0.out.size (.inr (Nat.le_refl _)))
      have HB_1 := Lib.hid (HB_0.out.within (within_alloc w (.cells #[.int .i64 p, (.slice A l.length cap)] 26)) (by omega))
      have H_1 := Lib.hid (H_0.out.within (within_alloc w (.cells #[.int .i64 p, (.slice A l.length cap)] 26)) (by omega))
      have Y1 := Lib.hid (show (w.alloc (.cells #[.int .i64 p, (.slice A l.length cap)] 26)).heap.size = w.heap.size + 1 by simp)
      have hnew := box_new w p (.slice A l.length cap) 26
      have BX_1 := Lib.hid hnew
      clear hnew
      have Z2 := Lib.hid (within_alloc (w.alloc (.cells #[.int .i64 p, (.slice A l.length cap)] 26)) (.cells #[(.slice AF F.length cF), (.slice AT T.length cT), (.slice AZ Z.length cZ)] 31)).size
      have W2 := Lib.hid (within_on W1.out (within_alloc (w.alloc (.cells #[.int .i64 p, (.slice A l.length cap)] 26)) (.cells #[(.slice AF F.length cF), (.slice AT T.length cT), (.slice AZ Z.length cZ)] 31)) W1.out.size (.inr (Nat.le_refl _)))
      have HB_2 := Lib.hid (HB_1.out.within (within_alloc (w.alloc (.cells #[.int .i64 p, (.slice A l.length cap)] 26)) (.cells #[(.slice AF F.length cF), (.slice AT T.length cT), (.slice AZ Z.length cZ)] 31)) (by omega))
      have H_2 := Lib.hid (H_1.out.within (within_alloc (w.alloc (.cells #[.int .i64 p, (.slice A l.length cap)] 26)) (.cells #[(.slice AF F.length cF), (.slice AT T.length cT), (.slice AZ Z.length cZ)] 31)) (by omega))
      have BX_2 := Lib.hid (BX_1.out.within (within_alloc (w.alloc (.cells #[.int .i64 p, (.slice A l.length cap)] 26)) (.cells #[(.slice AF F.length cF), (.slice AT T.length cT), (.slice AZ Z.length cZ)] 31)) (by omega))
      have Y2 := Lib.hid (show ((w.alloc (.cells #[.int .i64 p, (.slice A l.length cap)] 26)).alloc (.cells #[(.slice AF F.length cF), (.slice AT T.length cT), (.slice AZ Z.length cZ)] 31)).heap.size = (w.alloc (.cells #[.int .i64 p, (.slice A l.length cap)] 26)).heap.size + 1 by simp)
      have hnew := cel3_new (w.alloc (.cells #[.int .i64 p, (.slice A l.length cap)] 26)) (.slice AF F.length cF) (.slice AT T.length cT) (.slice AZ Z.length cZ) 31
      rw [show (w.alloc (.cells #[.int .i64 p, (.slice A l.length cap)] 26)).heap.size = w.heap.size + 1 by simp] at hnew
      have GA_2 := Lib.hid hnew
      clear hnew
      go_enter Try.func39, Try.ntmps39
      obtain ⟨g0_0, g0_1, g0_2⟩ := BX_2.out
      obtain ⟨g1_0, g1_1, g1_2, g1_3, g1_4, g1_5⟩ := GA_2.out.cells
      go_wp2_with fail
      clear g0_0 g0_1 g0_2 g1_0 g1_1 g1_2 g1_3 g1_4 g1_5
      generalize ((w.alloc (.cells #[.int .i64 p, (.slice A l.length cap)] 26)).alloc (.cells #[(.slice AF F.length cF), (.slice AT T.length cT), (.slice AZ Z.length cZ)] 31)) = w2 at *
      generalize (w.alloc (.cells #[.int .i64 p, (.slice A l.length cap)] 26)) = w1 at *
      refine (HISG _ HB_2.out.at).mono ?_
      rintro e w3 ⟨rfl, hb⟩
      have Z3 := Lib.hid (within_of hb).size
      have W3 := Lib.hid (within_on W2.out (within_of hb) W2.out.size (.inr (Nat.le_refl _)))
      have HB_3 := Lib.hid (HB_2.out.within (within_of hb) (by omega))
      have H_3 := Lib.hid (H_2.out.within (within_of hb) (by omega))
      have BX_3 := Lib.hid (BX_2.out.within (within_of hb) (by omega))
      have GA_3 := Lib.hid (GA_2.out.within (within_of hb) (by omega))
      clear hb HISG
      obtain ⟨g2_0, g2_1, g2_2⟩ := BX_3.out
      obtain ⟨g3_0, g3_1, g3_2, g3_3, g3_4, g3_5⟩ := GA_3.out.cells
      go_wp2_with fail
      refine (l1In_yes k 1 3 _ hk.1 hk.2).mono ?_
      rintro e w9 ⟨rfl, rfl⟩
      go_wp2_with fail
      go_ret
      exact ⟨by rw [HR.out]; rfl, W3.out⟩
    rw [hg] at HISG
    have hG : IsG p l := Classical.byContradiction fun g => by rw [isGB_no g] at hg; cases hg
    obtain rfl : p = (F.length : Int) := hfp.symm
    have hk : 1 ≤ k ∧ k ≤ 3 := hkk
    have heq : ((F.length : Int) != (F.length : Int)) = false := by simp
    have hF8 := hG.1.2
    have heq1 : ((T.length : Int) != (Z.length : Int)) = false := by rw [bne_eq_false_iff_eq]; omega
    have heq2 : (T.length == Z.length) = true := by simpa using htz
    have h24 := hG.2.1
    have HYES := Lib.hid (show (∀ j, j < Z.length → OkP l T Z j) → (∀ v : Nat, v < F.length → 0 ≤ F.getD v 0 ∧ F.getD v 0 + (T.count (v : Int) : Int) = k) → isPebB (F.length : Int) k l F T Z = true from fun h1 h2 => isPebB_yes ⟨hG, hkk, rfl, htz, h1, h2⟩)
    have HW := Lib.hid hw
    have HTZ := Lib.hid htz
    clear hg hG hw htz
    have hhi : hi ≤ w.heap.size := h.f.1
    have W0 := Lib.hid (Below.refl w.heap.size w)
    have HB_0 := Lib.hid (bars_in hl)
    have H_0 := Lib.hid (h)
    clear hl h
    have Z1 := Lib.hid (within_alloc w (.cells #[.int .i64 (F.length : Int), (.slice A l.length cap)] 26)).size
    have W1 := Lib.hid (within_on W0.out (within_alloc w (.cells #[.int .i64 (F.length : Int), (.slice A l.length cap)] 26)) W0.out.size (.inr (Nat.le_refl _)))
    have HB_1 := Lib.hid (HB_0.out.within (within_alloc w (.cells #[.int .i64 (F.length : Int), (.slice A l.length cap)] 26)) (by omega))
    have H_1 := Lib.hid (H_0.out.within (within_alloc w (.cells #[.int .i64 (F.length : Int), (.slice A l.length cap)] 26)) (by omega))
    have Y1 := Lib.hid (show (w.alloc (.cells #[.int .i64 (F.length : Int), (.slice A l.length cap)] 26)).heap.size = w.heap.size + 1 by simp)
    have hnew := box_new w (F.length : Int) (.slice A l.length cap) 26
    have BX_1 := Lib.hid hnew
    clear hnew
    have Z2 := Lib.hid (within_alloc (w.alloc (.cells #[.int .i64 (F.length : Int), (.slice A l.length cap)] 26)) (.cells #[(.slice AF F.length cF), (.slice AT T.length cT), (.slice AZ Z.length cZ)] 31)).size
    have W2 := Lib.hid (within_on W1.out (within_alloc (w.alloc (.cells #[.int .i64 (F.length : Int), (.slice A l.length cap)] 26)) (.cells #[(.slice AF F.length cF), (.slice AT T.length cT), (.slice AZ Z.length cZ)] 31)) W1.out.size (.inr (Nat.le_refl _)))
    have HB_2 := Lib.hid (HB_1.out.within (within_alloc (w.alloc (.cells #[.int .i64 (F.length : Int), (.slice A l.length cap)] 26)) (.cells #[(.slice AF F.length cF), (.slice AT T.length cT), (.slice AZ Z.length cZ)] 31)) (by omega))
    have H_2 := Lib.hid (H_1.out.within (within_alloc (w.alloc (.cells #[.int .i64 (F.length : Int), (.slice A l.length cap)] 26)) (.cells #[(.slice AF F.length cF), (.slice AT T.length cT), (.slice AZ Z.length cZ)] 31)) (by omega))
    have BX_2 := Lib.hid (BX_1.out.within (within_alloc (w.alloc (.cells #[.int .i64 (F.length : Int), (.slice A l.length cap)] 26)) (.cells #[(.slice AF F.length cF), (.slice AT T.length cT), (.slice AZ Z.length cZ)] 31)) (by omega))
    have Y2 := Lib.hid (show ((w.alloc (.cells #[.int .i64 (F.length : Int), (.slice A l.length cap)] 26)).alloc (.cells #[(.slice AF F.length cF), (.slice AT T.length cT), (.slice AZ Z.length cZ)] 31)).heap.size = (w.alloc (.cells #[.int .i64 (F.length : Int), (.slice A l.length cap)] 26)).heap.size + 1 by simp)
    have hnew := cel3_new (w.alloc (.cells #[.int .i64 (F.length : Int), (.slice A l.length cap)] 26)) (.slice AF F.length cF) (.slice AT T.length cT) (.slice AZ Z.length cZ) 31
    rw [show (w.alloc (.cells #[.int .i64 (F.length : Int), (.slice A l.length cap)] 26)).heap.size = w.heap.size + 1 by simp] at hnew
    have GA_2 := Lib.hid hnew
    clear hnew
    go_enter Try.func39, Try.ntmps39
    obtain ⟨g0_0, g0_1, g0_2⟩ := BX_2.out
    obtain ⟨g1_0, g1_1, g1_2, g1_3, g1_4, g1_5⟩ := GA_2.out.cells
    go_wp2_with fail
    clear g0_0 g0_1 g0_2 g1_0 g1_1 g1_2 g1_3 g1_4 g1_5
    generalize ((w.alloc (.cells #[.int .i64 (F.length : Int), (.slice A l.length cap)] 26)).alloc (.cells #[(.slice AF F.length cF), (.slice AT T.length cT), (.slice AZ Z.length cZ)] 31)) = w2 at *
    generalize (w.alloc (.cells #[.int .i64 (F.length : Int), (.slice A l.length cap)] 26)) = w1 at *
    refine (HISG _ HB_2.out.at).mono ?_
    rintro e w3 ⟨rfl, hb⟩
    have Z3 := Lib.hid (within_of hb).size
    have W3 := Lib.hid (within_on W2.out (within_of hb) W2.out.size (.inr (Nat.le_refl _)))
    have HB_3 := Lib.hid (HB_2.out.within (within_of hb) (by omega))
    have H_3 := Lib.hid (H_2.out.within (within_of hb) (by omega))
    have BX_3 := Lib.hid (BX_2.out.within (within_of hb) (by omega))
    have GA_3 := Lib.hid (GA_2.out.within (within_of hb) (by omega))
    clear hb HISG
    obtain ⟨g2_0, g2_1, g2_2⟩ := BX_3.out
    obtain ⟨g3_0, g3_1, g3_2, g3_3, g3_4, g3_5⟩ := GA_3.out.cells
    go_wp2_with fail
    refine (l1In_yes k 1 3 _ hk.1 hk.2).mono ?_
    rintro e w9 ⟨rfl, rfl⟩
    have HGP := Lib.hid (⟨BX_3.out, GA_3.out, HB_3.out, H_3.out, W3.out⟩ : GP w w3 w.heap.size (w.heap.size + 1) (F.length : Int) A cap l AF AT AZ cF cT cZ lo hi F T Z)
    go_wp2_with fail
    clear g2_0 g2_1 g2_2 g3_0 g3_1 g3_2 g3_3 g3_4 g3_5
    clear heq heq1 heq2
    go_loopw [7] (fun i wr => ∃ j : Nat, j ≤ Z.length ∧ i = .int .i64 j ∧ (∀ u, u < j → OkP l T Z u) ∧ GP w wr w.heap.size (w.heap.size + 1) (F.length : Int) A cap l AF AT AZ cF cT cZ lo hi F T Z) (fun i _ => Z.length - (intOf i).toNat)
    case atStart => exact ⟨0, Nat.zero_le _, rfl, fun u hu => absurd hu (Nat.not_lt_zero _), HGP.out⟩
    case round =>
      obtain ⟨j, hj, rfl, hok, hst⟩ := hrel
      have HOK := Lib.hid hok
      have HS := Lib.hid hst
      obtain ⟨_, gx0, gx1⟩ := hst.box
      obtain ⟨gc0, gc1, gc2, _, _, _⟩ := hst.st.cells
      clear hok hst
      by_cases hlt : j < Z.length
      · skip
        have hji : (j : Int) < (Z.length : Int) := by omega
        obtain ⟨zb, zo, rfl, hzc⟩ := row_at HS.out.rows.z (by omega)
        obtain ⟨tb, tq9, rfl, htc⟩ := row_at HS.out.rows.t (by have := HTZ.out; omega)
        have hz := hzc j hlt
        have hjt : (j : Int) < (T.length : Int) := by have := HTZ.out; omega
        have ht := htc j (by omega)
        have HBAD := Lib.hid (fun h : ¬ OkP l T Z j => isPeb_bad (p := (F.length : Int)) (k := k) (F := F) hlt h)
        have HNEXT := Lib.hid (fun h : OkP l T Z j => okP_snoc HOK.out h)
        have HDEF := Lib.hid (show OkP l T Z j = ((0 ≤ Z.getD j 0 ∧ Z.getD j 0 < (l.length : Int)) ∧ (0 < j → Z.getD (j - 1) 0 < Z.getD j 0) ∧ isEnd (l.getD (Z.getD j 0).toNat (0, 0)) (T.getD j 0)) from rfl)
        have HPREV := Lib.hid (fun h0 : 0 < j => hzc (j - 1) (by omega))
        obtain ⟨z, hzd⟩ : ∃ z, Z.getD j 0 = z := ⟨_, rfl⟩
        obtain ⟨t, htd⟩ : ∃ t, T.getD j 0 = t := ⟨_, rfl⟩
        obtain ⟨y, hyd⟩ : ∃ y, Z.getD (j - 1) 0 = y := ⟨_, rfl⟩
        rw [hzd] at hz HDEF
        rw [htd] at ht HDEF
        rw [hyd] at HPREV HDEF
        clear hzd htd hyd hzc htc
        by_cases c1 : z < 0
        · skip
          have Q := Lib.hid (HBAD.out fun h => by rw [HDEF.out] at h; omega)
          go_wp2_with fail
          go_big_quiet (fail)
          go_wp2_with fail
          go_ret
          exact ⟨by rw [Q.out]; rfl, HS.out.bel.trans (below_drewN _ _ _)⟩
        have d1 : decide (z < 0) = false := by simpa using c1
        obtain ⟨n, rfl⟩ : ∃ n : Nat, z = (n : Int) := ⟨z.toNat, by omega⟩
        have d1n : decide ((n : Int) < 0) = false := d1
        by_cases c2 : l.length ≤ n
        · skip
          have c2i : (l.length : Int) ≤ (n : Int) := by omega
          have Q := Lib.hid (HBAD.out fun h => by rw [HDEF.out] at h; omega)
          go_wp2_with fail
          go_big_quiet (fail)
          go_wp2_with fail
          go_ret
          exact ⟨by rw [Q.out]; rfl, HS.out.bel.trans (below_drewN _ _ _)⟩
        have c2i : ¬ (l.length : Int) ≤ (n : Int) := by omega
        have d2 : decide ((l.length : Int) ≤ (n : Int)) = false := by simpa using c2i
        have d2n : decide (l.length ≤ n) = false := by simpa using c2
        obtain ⟨b, off, rfl, _, hbc⟩ := HS.out.bars.at (by omega)
        have hx1 := (hbc n (by omega)).1
        have hx2 := (hbc n (by omega)).2
        obtain ⟨x, hxd⟩ : ∃ x, l.getD n (0, 0) = x := ⟨_, rfl⟩
        rw [hxd] at hx1 hx2
        rw [Int.toNat_natCast, hxd] at HDEF
        clear hxd hbc
        obtain ⟨x1, x2⟩ := x
        simp only at hx1 hx2 HDEF
        by_cases hj0 : j = 0
        · skip
          have d3 : decide ((0 : Int) < (j : Int)) = false := by simp; omega
          have d3n : decide (0 < j) = false := by simp; omega
          have HJ0 := Lib.hid hj0
          clear hj0
          by_cases c4 : t = x1
          · skip
            have e1 : (t != x1) = false := by simpa using c4
            have HN := Lib.hid (HNEXT.out (by rw [HDEF.out]; exact ⟨by omega, fun h => absurd h (by have := HJ0.out; omega), .inl c4⟩))
            clear c4
            go_wp2_with fail
            go_big_quiet (fail)
            go_wp2_with fail
            go_roundw
            case rel => exact ⟨j + 1, by omega, by go_num, HN.out, HS.out.drewN _⟩
            case measure => simp [intOf]; omega
          have e1 : (t != x1) = true := by simpa using c4
          have HC4 := Lib.hid c4
          clear c4
          by_cases c5 : t = x2
          · skip
            have e2 : (t != x2) = false := by simpa using c5
            have HN := Lib.hid (HNEXT.out (by rw [HDEF.out]; exact ⟨by omega, fun h => absurd h (by have := HJ0.out; omega), .inr c5⟩))
            clear c5
            go_wp2_with fail
            go_big_quiet (fail)
            go_wp2_with fail
            go_roundw
            case rel => exact ⟨j + 1, by omega, by go_num, HN.out, HS.out.drewN _⟩
            case measure => simp [intOf]; omega
          have e2 : (t != x2) = true := by simpa using c5
          have HC5 := Lib.hid c5
          clear c5
          have Q := Lib.hid (HBAD.out fun h => by rw [HDEF.out] at h; rcases h.2.2 with h | h; exact HC4.out h; exact HC5.out h)
          go_wp2_with fail
          go_big_quiet (fail)
          go_wp2_with fail
          go_ret
          exact ⟨by rw [Q.out]; rfl, HS.out.bel.trans (below_drewN _ _ _)⟩
        · skip
          have d3 : decide ((0 : Int) < (j : Int)) = true := by simp; omega
          have d3n : decide (0 < j) = true := by simp; omega
          have hy := HPREV.out (by omega)
          have hjm : (j : Int) - 1 = ((j - 1 : Nat) : Int) := by omega
          have hjw : IntKind.i64.wrap ((j - 1 : Nat) : Int) = ((j - 1 : Nat) : Int) := IntWalk.i64_in _ (by omega)
          have hjl : ((j - 1 : Nat) : Int) < (Z.length : Int) := by omega
          have hjl2 : j - 1 < Z.length := by omega
          have HJ0 := Lib.hid hj0
          clear hj0
          by_cases c3 : (n : Int) ≤ y
          · skip
            have Q := Lib.hid (HBAD.out fun h => by rw [HDEF.out] at h; have := h.2.1 (by have := HJ0.out; omega); omega)
            go_wp2_with fail
            go_big_quiet (fail)
            go_wp2_with fail
            go_ret
            exact ⟨by rw [Q.out]; rfl, HS.out.bel.trans (below_drewN _ _ _)⟩
          have d4 : decide ((n : Int) ≤ y) = false := by simpa using c3
          by_cases c4 : t = x1
          · skip
            have e1 : (t != x1) = false := by simpa using c4
            have HN := Lib.hid (HNEXT.out (by rw [HDEF.out]; exact ⟨by omega, fun _ => by omega, .inl c4⟩))
            clear c4
            go_wp2_with fail
            go_big_quiet (fail)
            go_wp2_with fail
            go_roundw
            case rel => exact ⟨j + 1, by omega, by go_num, HN.out, HS.out.drewN _⟩
            case measure => simp [intOf]; omega
          have e1 : (t != x1) = true := by simpa using c4
          have HC4 := Lib.hid c4
          clear c4
          by_cases c5 : t = x2
          · skip
            have e2 : (t != x2) = false := by simpa using c5
            have HN := Lib.hid (HNEXT.out (by rw [HDEF.out]; exact ⟨by omega, fun _ => by omega, .inr c5⟩))
            clear c5
            go_wp2_with fail
            go_big_quiet (fail)
            go_wp2_with fail
            go_roundw
            case rel => exact ⟨j + 1, by omega, by go_num, HN.out, HS.out.drewN _⟩
            case measure => simp [intOf]; omega
          have e2 : (t != x2) = true := by simpa using c5
          have HC5 := Lib.hid c5
          clear c5
          have Q := Lib.hid (HBAD.out fun h => by rw [HDEF.out] at h; rcases h.2.2 with h | h; exact HC4.out h; exact HC5.out h)
          go_wp2_with fail
          go_big_quiet (fail)
          go_wp2_with fail
          go_ret
          exact ⟨by rw [Q.out]; rfl, HS.out.bel.trans (below_drewN _ _ _)⟩
      · obtain rfl : j = Z.length := by omega
        have HL24 := Lib.hid (Nat.le_trans (okP_len HOK.out) h24)
        have HNO := Lib.hid (fun (v : Nat) (hv : v < F.length) h => isPeb_free (p := (F.length : Int)) (k := k) (l := l) (Z := Z) (T := T) hv h)
        have HY2 := Lib.hid (HYES.out HOK.out)
        clear HYES HOK
        go_wp2_with fail
        go_loopw [9] (fun i wr => ∃ v : Nat, v ≤ F.length ∧ i = .int .i64 v ∧ (∀ u : Nat, u < v → 0 ≤ F.getD u 0 ∧ F.getD u 0 + (T.count (u : Int) : Int) = k) ∧ GP w wr w.heap.size (w.heap.size + 1) (F.length : Int) A cap l AF AT AZ cF cT cZ lo hi F T Z) (fun i _ => F.length - (intOf i).toNat)
        case atStart => exact ⟨0, Nat.zero_le _, rfl, fun u hu => absurd hu (Nat.not_lt_zero _), HS.out⟩
        case round =>
          clear gx0 gx1 gc0 gc1 gc2 hlt hj HS
          obtain ⟨v, hv, rfl, hok, hst⟩ := hrel
          have HOK := Lib.hid hok
          have HS := Lib.hid hst
          obtain ⟨_, gx0, gx1⟩ := hst.box
          obtain ⟨gc0, gc1, gc2, _, _, _⟩ := hst.st.cells
          clear hok hst
          by_cases hlt : v < F.length
          · skip
            have hvi : (v : Int) < (F.length : Int) := by omega
            obtain ⟨fb, fo, rfl, hfc⟩ := row_at HS.out.rows.f (by omega)
            have hfv := hfc v hlt
            have HN := Lib.hid (HNO.out v hlt)
            have HSN := Lib.hid (show (0 ≤ F.getD v 0 ∧ F.getD v 0 + (T.count (v : Int) : Int) = k) → ∀ u : Nat, u < v + 1 → 0 ≤ F.getD u 0 ∧ F.getD u 0 + (T.count (u : Int) : Int) = k from fun h u hu => by
              by_cases e : u = v
              · subst e; exact h
              · exact HOK.out u (by omega))
            have hxw := HW.out v hlt
            have hcn : T.count (v : Int) ≤ 24 := Nat.le_trans (List.count_le_length ..) (by have := HTZ.out; have := HL24.out; omega)
            obtain ⟨x, hx⟩ : ∃ x, F.getD v 0 = x := ⟨_, rfl⟩
            rw [hx] at hfv HN HSN hxw
            clear hx hfc
            obtain ⟨c, hcd⟩ : ∃ c, T.count (v : Int) = c := ⟨_, rfl⟩
            rw [hcd] at HN HSN hcn
            have HCD := Lib.hid hcd
            clear hcd
            by_cases c1 : x < 0
            · skip
              have Q := Lib.hid (HN.out (by omega))
              go_wp2_with fail
              go_big_quiet (fail)
              go_wp2_with fail
              go_ret
              exact ⟨by rw [Q.out]; rfl, HS.out.bel.trans (below_drewN _ _ _)⟩
            have d1 : decide (x < 0) = false := by simpa using c1
            have hwf := wf_add hxw (by omega) hcn hk
            have HSD := Lib.hid (HS.out.below (Below.refl _ _).drew)
            have kk : (fun W' => W'.cell? ⟨w.heap.size + 1, 0, none⟩ = some (.slice (some ⟨fb, fo, none⟩) F.length cF) ∧ W'.cell? ⟨w.heap.size + 1, 1, none⟩ = some (.slice AT T.length cT) ∧ W'.cell? ⟨w.heap.size + 1, 2, none⟩ = some (.slice AZ Z.length cZ) ∧ W'.cell? ⟨fb, fo + v, none⟩ = some (.int .i64 x)) wr := ⟨gc0, gc1, gc2, hfv⟩
            have HKK := Lib.hid kk
            by_cases c2 : x + (c : Int) = k
            · skip
              have hs : IntKind.i64.wrap (x + (c : Int)) = k := hwf.2 c2
              have hq : (IntKind.i64.wrap (x + (c : Int)) != k) = false := by rw [hs]; simp
              have HNX := Lib.hid (HSN.out ⟨by omega, c2⟩)
              clear hwf hs c2
              go_wp2_with fail
              go_region_held3 (fun W' => W'.cell? ⟨w.heap.size + 1, 0, none⟩ = some (.slice (some ⟨fb, fo, none⟩) F.length cF) ∧ W'.cell? ⟨w.heap.size + 1, 1, none⟩ = some (.slice AT T.length cT) ∧ W'.cell? ⟨w.heap.size + 1, 2, none⟩ = some (.slice AZ Z.length cZ) ∧ W'.cell? ⟨fb, fo + v, none⟩ = some (.int .i64 x))
                (first | exact HKK.out | exact HK5.out | fail)
                (first | (go_at_call 132; refine (tail_c (some ⟨fb, fo, none⟩) AT AZ cF cT cZ lo hi F T Z (v : Int) _ HSD.out.rows hT).mono ?_; rintro e w5 ⟨rfl, hb⟩; rw [HCD.out]; have HS5 := Lib.hid (HSD.out.below hb); have HK5 := Lib.hid (show (fun W' : World => W'.cell? ⟨w.heap.size + 1, 0, none⟩ = some (.slice (some ⟨fb, fo, none⟩) F.length cF) ∧ W'.cell? ⟨w.heap.size + 1, 1, none⟩ = some (.slice AT T.length cT) ∧ W'.cell? ⟨w.heap.size + 1, 2, none⟩ = some (.slice AZ Z.length cZ) ∧ W'.cell? ⟨fb, fo + v, none⟩ = some (.int .i64 x)) w5 from ⟨HS5.out.st.cells.1, HS5.out.st.cells.2.1, HS5.out.st.cells.2.2.1, (hb.cell (p := ⟨fb, fo + v, none⟩) (World.block_lt_of_cell? _ _ HKK.out.2.2.2)).trans HKK.out.2.2.2⟩); clear hb))
              go_wp2_with fail
              go_roundw
              case rel => exact ⟨v + 1, by omega, by go_num, HNX.out, HS5.out⟩
              case measure => simp [intOf]; omega
            have hq : (IntKind.i64.wrap (x + (c : Int)) != k) = true := by rw [bne_iff_ne]; exact fun h => c2 (hwf.1 h)
            have Q := Lib.hid (HN.out (by omega))
            clear hwf
            go_wp2_with fail
            go_region_held3 (fun W' => W'.cell? ⟨w.heap.size + 1, 0, none⟩ = some (.slice (some ⟨fb, fo, none⟩) F.length cF) ∧ W'.cell? ⟨w.heap.size + 1, 1, none⟩ = some (.slice AT T.length cT) ∧ W'.cell? ⟨w.heap.size + 1, 2, none⟩ = some (.slice AZ Z.length cZ) ∧ W'.cell? ⟨fb, fo + v, none⟩ = some (.int .i64 x))
              (first | exact HKK.out | exact HK5.out | fail)
              (first | (go_at_call 132; refine (tail_c (some ⟨fb, fo, none⟩) AT AZ cF cT cZ lo hi F T Z (v : Int) _ HSD.out.rows hT).mono ?_; rintro e w5 ⟨rfl, hb⟩; rw [HCD.out]; have HS5 := Lib.hid (HSD.out.below hb); have HK5 := Lib.hid (show (fun W' : World => W'.cell? ⟨w.heap.size + 1, 0, none⟩ = some (.slice (some ⟨fb, fo, none⟩) F.length cF) ∧ W'.cell? ⟨w.heap.size + 1, 1, none⟩ = some (.slice AT T.length cT) ∧ W'.cell? ⟨w.heap.size + 1, 2, none⟩ = some (.slice AZ Z.length cZ) ∧ W'.cell? ⟨fb, fo + v, none⟩ = some (.int .i64 x)) w5 from ⟨HS5.out.st.cells.1, HS5.out.st.cells.2.1, HS5.out.st.cells.2.2.1, (hb.cell (p := ⟨fb, fo + v, none⟩) (World.block_lt_of_cell? _ _ HKK.out.2.2.2)).trans HKK.out.2.2.2⟩); clear hb))
            go_wp2_with fail
            go_ret
            exact ⟨by rw [Q.out]; rfl, HS5.out.bel⟩
          · obtain rfl : v = F.length := by omega
            go_wp2_with fail
            go_ret
            exact ⟨by rw [HY2.out HOK.out]; rfl, HS.out.bel⟩
end Go.Proofs.Ytdkpmaahinbhlaa
/- A row's range is chosen so that it begins in the heap; what a state of the call's own asks ahead of a bar's placing. No program's walk. No condition. -/
namespace Go.Proofs.Ytdkpmaahinbhlaa
open Go.RowKit

theorem OwnR.norm {W : World} {r : Nat × Nat} {A : Option Addr} {cap : Nat} {zs : List Int} (h : OwnR W r.1 r.2 A cap zs) : ∃ q : Nat × Nat, OwnR W q.1 q.2 A cap zs ∧ q.1 ≤ W.heap.size ∧ (q = r ∨ q = (W.heap.size, W.heap.size)) := by
  rcases h.2 with e | ⟨g, e, h1, h2, ho⟩
  · exact ⟨(W.heap.size, W.heap.size), ⟨Nat.le_refl _, .inl e⟩, Nat.le_refl _, .inr rfl⟩
  · exact ⟨r, h, by have := h.1; omega, .inl rfl⟩
theorem OwnF.norm {W : World} {f t z : Nat × Nat} {AF AT AZ : Option Addr} {cF cT cZ : Nat} {F T Z : List Int} (h : OwnF W f t z AF cF AT cT AZ cZ F T Z) {B pb : Nat} (hB : B ≤ W.heap.size) (hp : pb < W.heap.size) (h2 : B ≤ t.1) (h3 : B ≤ z.1) (p2 : pb < t.1 ∨ t.2 ≤ pb) (p3 : pb < z.1 ∨ z.2 ≤ pb) :
    ∃ t' z' : Nat × Nat, OwnF W f t' z' AF cF AT cT AZ cZ F T Z ∧ B ≤ t'.1 ∧ B ≤ z'.1 ∧ (pb < t'.1 ∨ t'.2 ≤ pb) ∧ (pb < z'.1 ∨ z'.2 ≤ pb) ∧ t'.1 ≤ W.heap.size ∧ z'.1 ≤ W.heap.size := by
  obtain ⟨o1, o2, o3, d1, d2, d3⟩ := h
  obtain ⟨t', o2', l2, e2⟩ := o2.norm
  obtain ⟨z', o3', l3, e3⟩ := o3.norm
  have s1 := o1.1
  have s2 := o2.1
  have s3 := o3.1
  unfold Dis at d1 d2 d3
  refine ⟨t', z', ⟨o1, o2', o3', ?_, ?_, ?_⟩, ?_, ?_, ?_, ?_, l2, l3⟩
  all_goals (rcases e2 with rfl | rfl <;> rcases e3 with rfl | rfl)
  all_goals (first | omega | (unfold Dis; omega) | (unfold Dis; simp only []; omega))
end Go.Proofs.Ytdkpmaahinbhlaa
/- What spec.PlaceBar answers. No condition. -/
namespace Go.Proofs.Ytdkpmaahinbhlaa
open Go.RowKit

set_option maxHeartbeats 8000000 in
set_option maxRecDepth 100000 in
theorem specPlaP (p k c : Int) (l : List (Int × Int)) (A : Option Addr) (cap : Nat) (AF AT AZ : Option Addr) (cF cT cZ lo hi : Nat) (F T Z : List Int) (n : Int) (w : World) (hl : BarsAt w w.heap.size A l) (h : Peb3 w lo hi AF AT AZ F T Z) (hn : l.length ≤ 1048576) (hF : F.length ≤ 1048576) (hT : T.length ≤ 1048576) (hZ : Z.length ≤ 1048576) (hw : WfI F) :
    Calls Try.prog 34 #[.agg #[.int .i64 p, .slice A l.length cap], .int .i64 k, .int .i64 c, pebV AF F.length cF AT T.length cT AZ Z.length cZ, .int .i64 n] w (PebOB w ((plaV p k c l F T Z n).getD (F, T, Z)).1 ((plaV p k c l F T Z n).getD (F, T, Z)).2.1 ((plaV p k c l F T Z n).getD (F, T, Z)).2.2 (plaV p k c l F T Z n).isSome) := by
  by_cases c1 : isPebB p k l F T Z = true
  case neg =>
    have c1' : isPebB p k l F T Z = false := by simpa using c1
    have HB := Lib.hid c1'
    clear c1'
    have HI0 := Lib.hid (GtI.start w p A cap l AF AT AZ cF cT cZ lo hi F T Z hl h)
    have HWF := Lib.hid hw
    have hs3 : (((w.alloc (.cells #[.int .i64 p, .slice A l.length cap] 26)).alloc (.cells #[.slice AF F.length cF, .slice AT T.length cT, .slice AZ Z.length cZ] 31)).alloc (.cells #[.slice none 0 0, .slice none 0 0, .slice none 0 0] 31)).heap.size = w.heap.size + 3 := by simp
    have HS3 := Lib.hid hs3
    obtain ⟨_, g0, g1⟩ := HI0.out.gb
    obtain ⟨x0, x1, x2, _, _, _⟩ := HI0.out.pb.cells
    clear hl h hw hs3
    have HN := Lib.hid (show plaV p k c l F T Z n = none from if_neg (fun q => by exact c1 q.1))
    go_enter Try.func34, Try.ntmps34
    go_wp2_with (first
      | (go_at_call 126; refine (copyPeb_c AF AT AZ cF cT cZ lo hi F T Z _ HI6.out.src hF hT hZ).mono ?_; rintro e w7 ⟨BF, dF, BT, dT, BZ, dZ, rfl, ho, hb7⟩; have HI7 := Lib.hid (HI6.out.below hb7); have HO7 := Lib.hid ho; obtain ⟨_, _, _, f0, f1, f2⟩ := HI7.out.rb.cells; have r3 := ret3 HI7.out.rb (.slice BF F.length dF) (.slice BT T.length dT) (.slice BZ Z.length dZ); obtain ⟨s0, s1, s2, _⟩ := r3.1.cells; have HW := Lib.hid r3.2; clear ho hb7 r3)
      | (go_at_call 39; refine (specIsPeb p k l A cap AF AT AZ cF cT cZ lo hi F T Z _ HI0.out.bars.at HI0.out.src hn hF hT hZ HWF.out).mono ?_; rintro e w6 ⟨rfl, hb6⟩; rw [HB.out]; have HI6 := Lib.hid (HI0.out.below hb6); obtain ⟨_, v0, v1⟩ := HI6.out.gb; obtain ⟨v2, v3, v4, _, _, _⟩ := HI6.out.pb.cells; have hlo6 := hb6.size; have HLO := Lib.hid (show w.heap.size + 1 + 1 + 1 ≤ w6.heap.size by have := HS3.out; omega); clear hlo6 hb6 g0 g1 x0 x1 x2))
    rw [HN.out]
    refine bodyPost_ret (v := .tuple #[pebV BF F.length dF BT T.length dT BZ Z.length dZ, .bool false]) ?_ rfl ?_
    · simp [results, Try.results34, go_sem, s0, s1, s2]
    · have hg := HI7.out.bel
      have hlo6 := HI6.out.bel.size
      have hsw := HW.out.size
      exact ⟨_, _, _, _, _, _, rfl, (HO7.out.own3.within HW.out (.inr HLO.out)).widen (by omega) (by omega) (Nat.le_refl _), within_on hg HW.out hg.size (.inl (by omega))⟩
  have HB := Lib.hid c1
  have hp := isPebB_is c1
  obtain rfl : p = (F.length : Int) := hp.2.2.1.symm
  have HP := Lib.hid hp
  have hF8 := hp.1.1
  have hk3 := hp.2.1
  clear hp c1
  have HHI0 := Lib.hid h.f.1
  have HI0 := Lib.hid (GtI.start w (F.length : Int) A cap l AF AT AZ cF cT cZ lo hi F T Z hl h)
  have HWF := Lib.hid hw
  have hs3 : (((w.alloc (.cells #[.int .i64 (F.length : Int), .slice A l.length cap] 26)).alloc (.cells #[.slice AF F.length cF, .slice AT T.length cT, .slice AZ Z.length cZ] 31)).alloc (.cells #[.slice none 0 0, .slice none 0 0, .slice none 0 0] 31)).heap.size = w.heap.size + 3 := by simp
  have HS3 := Lib.hid hs3
  obtain ⟨_, g0, g1⟩ := HI0.out.gb
  obtain ⟨x0, x1, x2, _, _, _⟩ := HI0.out.pb.cells
  clear hl h hw hs3
  by_cases c2 : rangeB k c = true
  case neg =>
    have c2' : rangeB k c = false := by simpa using c2
    have HRG := Lib.hid c2'
    clear c2'
    have HN := Lib.hid (show plaV (F.length : Int) k c l F T Z n = none from if_neg (fun q => by exact c2 q.2.1))
    go_enter Try.func34, Try.ntmps34
    go_wp2_with (first
      | (go_at_call 126; refine (copyPeb_c AF AT AZ cF cT cZ lo hi F T Z _ HI6.out.src hF hT hZ).mono ?_; rintro e w7 ⟨BF, dF, BT, dT, BZ, dZ, rfl, ho, hb7⟩; have HI7 := Lib.hid (HI6.out.below hb7); have HO7 := Lib.hid ho; obtain ⟨_, _, _, f0, f1, f2⟩ := HI7.out.rb.cells; have r3 := ret3 HI7.out.rb (.slice BF F.length dF) (.slice BT T.length dT) (.slice BZ Z.length dZ); obtain ⟨s0, s1, s2, _⟩ := r3.1.cells; have HW := Lib.hid r3.2; clear ho hb7 r3)
      | (go_at_call 110; refine (specRange k c _).mono ?_; rintro e w9 ⟨rfl, rfl⟩; rw [HRG.out])
      | (go_at_call 39; refine (specIsPeb (F.length : Int) k l A cap AF AT AZ cF cT cZ lo hi F T Z _ HI0.out.bars.at HI0.out.src hn hF hT hZ HWF.out).mono ?_; rintro e w6 ⟨rfl, hb6⟩; rw [HB.out]; have HI6 := Lib.hid (HI0.out.below hb6); obtain ⟨_, v0, v1⟩ := HI6.out.gb; obtain ⟨v2, v3, v4, _, _, _⟩ := HI6.out.pb.cells; have hlo6 := hb6.size; have HLO := Lib.hid (show w.heap.size + 1 + 1 + 1 ≤ w6.heap.size by have := HS3.out; omega); clear hlo6 hb6 g0 g1 x0 x1 x2))
    rw [HN.out]
    refine bodyPost_ret (v := .tuple #[pebV BF F.length dF BT T.length dT BZ Z.length dZ, .bool false]) ?_ rfl ?_
    · simp [results, Try.results34, go_sem, s0, s1, s2]
    · have hg := HI7.out.bel
      have hlo6 := HI6.out.bel.size
      have hsw := HW.out.size
      exact ⟨_, _, _, _, _, _, rfl, (HO7.out.own3.within HW.out (.inr HLO.out)).widen (by omega) (by omega) (Nat.le_refl _), within_on hg HW.out hg.size (.inl (by omega))⟩
  have HRG := Lib.hid c2
  by_cases c3 : 0 ≤ n
  case neg =>
    have c3' : n < 0 := by omega
    have HN := Lib.hid (show plaV (F.length : Int) k c l F T Z n = none from if_neg (fun q => by exact c3 q.2.2.1.1))
    go_enter Try.func34, Try.ntmps34
    go_wp2_with (first
      | (go_at_call 126; refine (copyPeb_c AF AT AZ cF cT cZ lo hi F T Z _ HI6.out.src hF hT hZ).mono ?_; rintro e w7 ⟨BF, dF, BT, dT, BZ, dZ, rfl, ho, hb7⟩; have HI7 := Lib.hid (HI6.out.below hb7); have HO7 := Lib.hid ho; obtain ⟨_, _, _, f0, f1, f2⟩ := HI7.out.rb.cells; have r3 := ret3 HI7.out.rb (.slice BF F.length dF) (.slice BT T.length dT) (.slice BZ Z.length dZ); obtain ⟨s0, s1, s2, _⟩ := r3.1.cells; have HW := Lib.hid r3.2; clear ho hb7 r3)
      | (go_at_call 110; refine (specRange k c _).mono ?_; rintro e w9 ⟨rfl, rfl⟩; rw [HRG.out])
      | (go_at_call 39; refine (specIsPeb (F.length : Int) k l A cap AF AT AZ cF cT cZ lo hi F T Z _ HI0.out.bars.at HI0.out.src hn hF hT hZ HWF.out).mono ?_; rintro e w6 ⟨rfl, hb6⟩; rw [HB.out]; have HI6 := Lib.hid (HI0.out.below hb6); obtain ⟨_, v0, v1⟩ := HI6.out.gb; obtain ⟨v2, v3, v4, _, _, _⟩ := HI6.out.pb.cells; have hlo6 := hb6.size; have HLO := Lib.hid (show w.heap.size + 1 + 1 + 1 ≤ w6.heap.size by have := HS3.out; omega); clear hlo6 hb6 g0 g1 x0 x1 x2))
    rw [HN.out]
    refine bodyPost_ret (v := .tuple #[pebV BF F.length dF BT T.length dT BZ Z.length dZ, .bool false]) ?_ rfl ?_
    · simp [results, Try.results34, go_sem, s0, s1, s2]
    · have hg := HI7.out.bel
      have hlo6 := HI6.out.bel.size
      have hsw := HW.out.size
      exact ⟨_, _, _, _, _, _, rfl, (HO7.out.own3.within HW.out (.inr HLO.out)).widen (by omega) (by omega) (Nat.le_refl _), within_on hg HW.out hg.size (.inl (by omega))⟩
  have c3' : ¬ n < 0 := by omega
  by_cases c4 : n < (l.length : Int)
  case neg =>
    have c4' : (l.length : Int) ≤ n := by omega
    have HN := Lib.hid (show plaV (F.length : Int) k c l F T Z n = none from if_neg (fun q => by exact c4 q.2.2.1.2))
    go_enter Try.func34, Try.ntmps34
    go_wp2_with (first
      | (go_at_call 126; refine (copyPeb_c AF AT AZ cF cT cZ lo hi F T Z _ HI6.out.src hF hT hZ).mono ?_; rintro e w7 ⟨BF, dF, BT, dT, BZ, dZ, rfl, ho, hb7⟩; have HI7 := Lib.hid (HI6.out.below hb7); have HO7 := Lib.hid ho; obtain ⟨_, _, _, f0, f1, f2⟩ := HI7.out.rb.cells; have r3 := ret3 HI7.out.rb (.slice BF F.length dF) (.slice BT T.length dT) (.slice BZ Z.length dZ); obtain ⟨s0, s1, s2, _⟩ := r3.1.cells; have HW := Lib.hid r3.2; clear ho hb7 r3)
      | (go_at_call 110; refine (specRange k c _).mono ?_; rintro e w9 ⟨rfl, rfl⟩; rw [HRG.out])
      | (go_at_call 39; refine (specIsPeb (F.length : Int) k l A cap AF AT AZ cF cT cZ lo hi F T Z _ HI0.out.bars.at HI0.out.src hn hF hT hZ HWF.out).mono ?_; rintro e w6 ⟨rfl, hb6⟩; rw [HB.out]; have HI6 := Lib.hid (HI0.out.below hb6); obtain ⟨_, v0, v1⟩ := HI6.out.gb; obtain ⟨v2, v3, v4, _, _, _⟩ := HI6.out.pb.cells; have hlo6 := hb6.size; have HLO := Lib.hid (show w.heap.size + 1 + 1 + 1 ≤ w6.heap.size by have := HS3.out; omega); clear hlo6 hb6 g0 g1 x0 x1 x2))
    rw [HN.out]
    refine bodyPost_ret (v := .tuple #[pebV BF F.length dF BT T.length dT BZ Z.length dZ, .bool false]) ?_ rfl ?_
    · simp [results, Try.results34, go_sem, s0, s1, s2]
    · have hg := HI7.out.bel
      have hlo6 := HI6.out.bel.size
      have hsw := HW.out.size
      exact ⟨_, _, _, _, _, _, rfl, (HO7.out.own3.within HW.out (.inr HLO.out)).widen (by omega) (by omega) (Nat.le_refl _), within_on hg HW.out hg.size (.inl (by omega))⟩
  have c4' : ¬ (l.length : Int) ≤ n := by omega
  obtain ⟨nn, rfl⟩ : ∃ nn : Nat, n = (nn : Int) := ⟨n.toNat, by omega⟩
  by_cases c5 : Z ≠ [] → Z.getD (Z.length - 1) 0 < (nn : Int)
  case neg =>
    have hne : Z ≠ [] := fun e => c5 (fun h => absurd e h)
    have hle : ¬ Z.getD (Z.length - 1) 0 < (nn : Int) := fun h => c5 (fun _ => h)
    have hzp0 : 0 < Z.length := List.length_pos_iff.2 hne
    have hzp : 0 < Z.length := by omega
    have hzd : (0 : Int) < (Z.length : Int) := by omega
    have hzd2 : decide ((0 : Int) < (Z.length : Int)) = true := decide_eq_true hzd
    obtain ⟨zb, zo, rfl, _, _, hzc⟩ := HI0.out.src.z.2 hzp
    have hzl0 : ∀ W : World, GtI w W (F.length : Int) A cap l AF AT (some ⟨zb, zo, none⟩) cF cT cZ lo hi F T Z → W.cell? ⟨zb, zo + (Z.length - 1), none⟩ = some (.int .i64 (Z.getD (Z.length - 1) 0)) := fun W hh => by
      obtain ⟨b', o', e', _, _, hc'⟩ := hh.src.z.2 hzp
      cases e'
      exact hc' (Z.length - 1) (by omega)
    have hzi : ((Z.length : Int) - 1) = ((Z.length - 1 : Nat) : Int) := by omega
    have hzi2 : ((Z.length - 1 : Nat) : Int) < (Z.length : Int) := by omega
    obtain ⟨zl, hzl1⟩ : ∃ zl, Z.getD (Z.length - 1) 0 = zl := ⟨_, rfl⟩
    rw [hzl1] at hzl0
    have HZL0 := Lib.hid hzl0
    clear hzc hzl0
    rw [hzl1] at hle
    have hle2 : (nn : Int) ≤ zl := by omega
    have HZL := Lib.hid hzl1
    clear hzl1 hne c5
    have HN := Lib.hid (show plaV (F.length : Int) k c l F T Z (nn : Int) = none from if_neg (fun q => by have h1 := q.2.2.2 (by intro e; rw [e] at hzp; simp at hzp); rw [HZL.out] at h1; omega))
    go_enter Try.func34, Try.ntmps34
    go_wp2_with (first
      | (go_at_call 126; refine (copyPeb_c AF AT (some ⟨zb, zo, none⟩) cF cT cZ lo hi F T Z _ HI6.out.src hF hT hZ).mono ?_; rintro e w7 ⟨BF, dF, BT, dT, BZ, dZ, rfl, ho, hb7⟩; have HI7 := Lib.hid (HI6.out.below hb7); have HO7 := Lib.hid ho; obtain ⟨_, _, _, f0, f1, f2⟩ := HI7.out.rb.cells; have r3 := ret3 HI7.out.rb (.slice BF F.length dF) (.slice BT T.length dT) (.slice BZ Z.length dZ); obtain ⟨s0, s1, s2, _⟩ := r3.1.cells; have HW := Lib.hid r3.2; clear ho hb7 r3)
      | (go_at_call 110; refine (specRange k c _).mono ?_; rintro e w9 ⟨rfl, rfl⟩; rw [HRG.out])
      | (go_at_call 39; refine (specIsPeb (F.length : Int) k l A cap AF AT (some ⟨zb, zo, none⟩) cF cT cZ lo hi F T Z _ HI0.out.bars.at HI0.out.src hn hF hT hZ HWF.out).mono ?_; rintro e w6 ⟨rfl, hb6⟩; rw [HB.out]; have HI6 := Lib.hid (HI0.out.below hb6); obtain ⟨_, v0, v1⟩ := HI6.out.gb; obtain ⟨v2, v3, v4, _, _, _⟩ := HI6.out.pb.cells; have hlo6 := hb6.size; have HLO := Lib.hid (show w.heap.size + 1 + 1 + 1 ≤ w6.heap.size by have := HS3.out; omega); have hzl := HZL0.out w6 HI6.out; clear hlo6 hb6 g0 g1 x0 x1 x2))
    rw [HN.out]
    refine bodyPost_ret (v := .tuple #[pebV BF F.length dF BT T.length dT BZ Z.length dZ, .bool false]) ?_ rfl ?_
    · simp [results, Try.results34, go_sem, s0, s1, s2]
    · have hg := HI7.out.bel
      have hlo6 := HI6.out.bel.size
      have hsw := HW.out.size
      exact ⟨_, _, _, _, _, _, rfl, (HO7.out.own3.within HW.out (.inr HLO.out)).widen (by omega) (by omega) (Nat.le_refl _), within_on hg HW.out hg.size (.inl (by omega))⟩
  have HV := Lib.hid (show plaV (F.length : Int) k c l F T Z (nn : Int) = plaR l c F T Z (nn : Int) from if_pos ⟨HB.out, HRG.out, ⟨c3, c4⟩, c5⟩)
  have hrg := HRG.out
  unfold rangeB at hrg
  simp only [Bool.and_eq_true, decide_eq_true_eq] at hrg
  have hmany := HP.out.many
  have h24 := HP.out.1.2.1
  have hPT := HP.out.2.2.2.1
  have hT24 : T.length ≤ 24 := by omega
  have hZ24 : Z.length ≤ 24 := by omega
  have HPT := Lib.hid hPT
  clear hPT
  have hOB := HP.out.1.2.2 nn (by omega)
  unfold OkBar at hOB
  have hnn : nn < l.length := by omega
  obtain ⟨x, hxd⟩ : ∃ x, l.getD nn (0, 0) = x := ⟨_, rfl⟩
  rw [hxd] at hOB
  obtain ⟨x1, x2⟩ := x
  simp only at hOB
  obtain ⟨a, rfl⟩ : ∃ a : Nat, x1 = (a : Int) := ⟨x1.toNat, by omega⟩
  obtain ⟨b, rfl⟩ : ∃ b : Nat, x2 = (b : Int) := ⟨x2.toNat, by omega⟩
  obtain ⟨bb, boff, rfl, _, hbB, _⟩ := HI0.out.bars.2 (by omega)
  have HBC := Lib.hid (fun (W : World) (hh : GtI w W (F.length : Int) (some ⟨bb, boff, none⟩) cap l AF AT AZ cF cT cZ lo hi F T Z) => (show W.cell? ⟨bb, boff + nn * 2, none⟩ = some (.int .i64 (a : Int)) ∧ W.cell? ⟨bb, boff + nn * 2 + 1, none⟩ = some (.int .i64 (b : Int)) from by
    obtain ⟨b', o', e', _, _, hc'⟩ := hh.bars.2 (by omega)
    cases e'
    have h2 := hc' nn hnn
    rw [hxd] at h2
    exact h2))
  have HX := Lib.hid hxd
  clear hxd
  obtain ⟨rg, hrg0⟩ : ∃ rg, gathR (plE l Z) (a : Int) (b : Int) (c + 1) (F, T) = rg := ⟨_, rfl⟩
  have HR := Lib.hid hrg0
  clear hrg0
  have HPL := Lib.hid (show plaV (F.length : Int) k c l F T Z (nn : Int) = rg.map fun s => if s.1.getD a 0 = 0 then (s.1.set b (s.1.getD b 0 - 1), s.2 ++ [(b : Int)], Z ++ [(nn : Int)]) else (s.1.set a (s.1.getD a 0 - 1), s.2 ++ [(a : Int)], Z ++ [(nn : Int)]) from by
    rw [HV.out]
    unfold plaR
    rw [Int.toNat_natCast, HX.out]
    simp only [Int.toNat_natCast]
    rw [HR.out])
  have HHI := Lib.hid (show hi ≤ w.heap.size from HHI0.out)
  by_cases c6 : 0 < Z.length
  · have hlt0 := c5 (by intro e; rw [e] at c6; simp at c6)
    have hzp : 0 < Z.length := by omega
    have hzd : (0 : Int) < (Z.length : Int) := by omega
    have hzd2 : decide ((0 : Int) < (Z.length : Int)) = true := decide_eq_true hzd
    obtain ⟨zb, zo, rfl, _, _, hzc⟩ := HI0.out.src.z.2 hzp
    have hzl0 : ∀ W : World, GtI w W (F.length : Int) (some ⟨bb, boff, none⟩) cap l AF AT (some ⟨zb, zo, none⟩) cF cT cZ lo hi F T Z → W.cell? ⟨zb, zo + (Z.length - 1), none⟩ = some (.int .i64 (Z.getD (Z.length - 1) 0)) := fun W hh => by
      obtain ⟨b', o', e', _, _, hc'⟩ := hh.src.z.2 hzp
      cases e'
      exact hc' (Z.length - 1) (by omega)
    have hzi : ((Z.length : Int) - 1) = ((Z.length - 1 : Nat) : Int) := by omega
    have hzi2 : ((Z.length - 1 : Nat) : Int) < (Z.length : Int) := by omega
    obtain ⟨zl, hzl1⟩ : ∃ zl, Z.getD (Z.length - 1) 0 = zl := ⟨_, rfl⟩
    rw [hzl1] at hzl0
    have HZL0 := Lib.hid hzl0
    clear hzc hzl0
    rw [hzl1] at hlt0
    have hle2 : ¬ (nn : Int) ≤ zl := by omega
    clear hzl1 c5
    cases rg with
    | none =>
      have HGC := Lib.hid (fun (W : World) (h1 : BarsAt W W.heap.size (some ⟨bb, boff, none⟩) l) (h2 : Peb3 W lo hi AF AT (some ⟨zb, zo, none⟩) F T Z) => show Calls Try.prog 127 _ W (fun e w' => Below W.heap.size W w' ∧ ∃ BF dF BT dT BZ dZ, e = .returned (.tuple #[pebV BF F.length dF BT T.length dT BZ Z.length dZ, .bool false])) from (gathS_c k l (some ⟨bb, boff, none⟩) cap AF AT (some ⟨zb, zo, none⟩) cF cT cZ lo hi F T Z a b (c + 1) W HP.out.state (by omega) (by omega) h24 (by omega) (fun i hi => (HP.out.2.2.2.2.1 i hi).1) (by omega) (by omega) (by omega) h1 h2).mono (by
        rintro e w' ⟨hb, BF, dF, BT, dT, BZ, dZ, ⟨rfl, _⟩ | ⟨s, _, hs, _⟩⟩
        · exact ⟨hb, _, _, _, _, _, _, rfl⟩
        · rw [HR.out] at hs; cases hs))
      go_enter Try.func34, Try.ntmps34
      go_wp2_with (first
        | (go_at_call 126; refine (copyPeb_c AF AT (some ⟨zb, zo, none⟩) cF cT cZ lo hi F T Z _ HI8.out.src hF hT hZ).mono ?_; rintro e w9 ⟨BF, dF, BT, dT, BZ, dZ, rfl, ho, hb7⟩; have HI9 := Lib.hid (HI8.out.below hb7); have HO7 := Lib.hid ho; obtain ⟨_, _, _, f0, f1, f2⟩ := HI9.out.rb.cells; have r3 := ret3 HI9.out.rb (.slice BF F.length dF) (.slice BT T.length dT) (.slice BZ Z.length dZ); obtain ⟨s0, s1, s2, _⟩ := r3.1.cells; have HW := Lib.hid r3.2; clear ho hb7 r3)
        | (go_at_call 127; have hbb := new_below w6 (.cells #[.int .i64 (a : Int), .int .i64 (b : Int)] 108); refine (HGC.out (w6.alloc (.cells #[.int .i64 (a : Int), .int .i64 (b : Int)] 108)) ((HI6.out.below hbb).bars.at) ((HI6.out.below hbb).src)).mono ?_; rintro e w7 ⟨hb, DF, eF, DT, eT, DZ, eZ, rfl⟩; have HI7 := Lib.hid ((HI6.out.below hbb).below hb); have hb8 := new_below w7 (.cells #[.slice DF F.length eF, .slice DT T.length eT, .slice DZ Z.length eZ] 31); have HI8 := Lib.hid (HI7.out.below hb8); have HLO8 := Lib.hid (Nat.le_trans HLO.out (Nat.le_trans hbb.size (Nat.le_trans hb.size hb8.size))); have HBX := Lib.hid (((box_new w6 (a : Int) (.int .i64 (b : Int)) 108).kept hb).kept hb8); obtain ⟨_, k0, k1⟩ := HBX.out; obtain ⟨u2, u3, u4, _, _, _⟩ := HI8.out.pb.cells; clear hb hb8 hbb v0 v1 v2 v3 v4 bc0 bc1)
        | (go_at_call 110; refine (specRange k c _).mono ?_; rintro e w9 ⟨rfl, rfl⟩; rw [HRG.out])
        | (go_at_call 39; refine (specIsPeb (F.length : Int) k l (some ⟨bb, boff, none⟩) cap AF AT (some ⟨zb, zo, none⟩) cF cT cZ lo hi F T Z _ HI0.out.bars.at HI0.out.src hn hF hT hZ HWF.out).mono ?_; rintro e w6 ⟨rfl, hb6⟩; rw [HB.out]; have HI6 := Lib.hid (HI0.out.below hb6); obtain ⟨_, v0, v1⟩ := HI6.out.gb; obtain ⟨v2, v3, v4, _, _, _⟩ := HI6.out.pb.cells; have hlo6 := hb6.size; have HLO := Lib.hid (show w.heap.size + 1 + 1 + 1 ≤ w6.heap.size by have := HS3.out; omega); have hzl := HZL0.out w6 HI6.out; obtain ⟨bc0, bc1⟩ := HBC.out w6 HI6.out; have nn1 : w.heap.size + 1 ≠ w6.heap.size := (by have := HLO.out; omega); have nn2 : w.heap.size ≠ w6.heap.size := (by have := HLO.out; omega); have nn3 : w.heap.size + 1 < w6.heap.size := (by have := HLO.out; omega); have nn4 : w.heap.size < w6.heap.size := (by have := HLO.out; omega); clear hlo6 hb6 g0 g1 x0 x1 x2))
      rw [HPL.out]
      refine bodyPost_ret (v := .tuple #[pebV BF F.length dF BT T.length dT BZ Z.length dZ, .bool false]) ?_ rfl ?_
      · simp [results, Try.results34, go_sem, s0, s1, s2]
      · have hg := HI9.out.bel
        have hlo6 := HI8.out.bel.size
        have hsw := HW.out.size
        exact ⟨_, _, _, _, _, _, rfl, (HO7.out.own3.within HW.out (.inr HLO8.out)).widen (by omega) (by omega) (Nat.le_refl _), within_on hg HW.out hg.size (.inl (by omega))⟩
    | some s =>
      have HGC := Lib.hid (fun (W : World) (h1 : BarsAt W W.heap.size (some ⟨bb, boff, none⟩) l) (h2 : Peb3 W lo hi AF AT (some ⟨zb, zo, none⟩) F T Z) => show Calls Try.prog 127 _ W (fun e w' => Below W.heap.size W w' ∧ ∃ BF dF BT dT BZ dZ, e = .returned (.tuple #[pebV BF s.1.length dF BT s.2.length dT BZ Z.length dZ, .bool true]) ∧ s.1.length = F.length ∧ s.2.length = T.length ∧ Own3R w' W.heap.size w'.heap.size BF dF BT dT BZ dZ s.1 s.2 Z) from (gathS_c k l (some ⟨bb, boff, none⟩) cap AF AT (some ⟨zb, zo, none⟩) cF cT cZ lo hi F T Z a b (c + 1) W HP.out.state (by omega) (by omega) h24 (by omega) (fun i hi => (HP.out.2.2.2.2.1 i hi).1) (by omega) (by omega) (by omega) h1 h2).mono (by
        rintro e w' ⟨hb, BF, dF, BT, dT, BZ, dZ, ⟨_, hs⟩ | ⟨s2, rfl, hs, h1, h2, ho⟩⟩
        · rw [HR.out] at hs; cases hs
        · rw [HR.out] at hs
          cases hs
          exact ⟨hb, _, _, _, _, _, _, by rw [h1, h2], h1, h2, ho⟩))
      obtain ⟨d1, hd1⟩ : ∃ d1, s.1.getD a 0 = d1 := ⟨_, rfl⟩
      obtain ⟨d2, hd2⟩ : ∃ d2, s.1.getD b 0 = d2 := ⟨_, rfl⟩
      have HDA := Lib.hid hd1
      have HDB := Lib.hid hd2
      clear hd1 hd2
      by_cases c0 : d1 = 0
      · have e1 : (d1 == 0) = true := by simpa using c0
        go_enter Try.func34, Try.ntmps34
        go_wp2_with (first
          | (go_at_call 127; have hbb := new_below w6 (.cells #[.int .i64 (a : Int), .int .i64 (b : Int)] 108); refine (HGC.out (w6.alloc (.cells #[.int .i64 (a : Int), .int .i64 (b : Int)] 108)) ((HI6.out.below hbb).bars.at) ((HI6.out.below hbb).src)).mono ?_; rintro e w7 ⟨hb, DF, eF, DT, eT, DZ, eZ, rfl, hl1, hl2, ho⟩; have HI7 := Lib.hid ((HI6.out.below hbb).below hb); have hb8 := new_below w7 (.cells #[.slice DF s.1.length eF, .slice DT s.2.length eT, .slice DZ Z.length eZ] 31); have HI8 := Lib.hid (HI7.out.below hb8); have HLO8 := Lib.hid (Nat.le_trans HLO.out (Nat.le_trans hbb.size (Nat.le_trans hb.size hb8.size))); have HBX := Lib.hid (((box_new w6 (a : Int) (.int .i64 (b : Int)) 108).kept hb).kept hb8); obtain ⟨_, k0, k1⟩ := HBX.out; have HX8 := Lib.hid (cel3_new w7 (.slice DF s.1.length eF) (.slice DT s.2.length eT) (.slice DZ Z.length eZ) 31); obtain ⟨f, t, z, hof, y1, y2, y3⟩ := ho.ownF; have HF8 := Lib.hid (hof.below hb8); have hz6 : (w6.alloc (.cells #[.int .i64 (a : Int), .int .i64 (b : Int)] 108)).heap.size = w6.heap.size + 1 := (by simp); have HLY := Lib.hid (show (w6.heap.size + 1 ≤ f.1 ∧ f.2 ≤ w7.heap.size) ∧ (w6.heap.size + 1 ≤ t.1 ∧ t.2 ≤ w7.heap.size) ∧ (w6.heap.size + 1 ≤ z.1 ∧ z.2 ≤ w7.heap.size) from by omega); have HLL := Lib.hid (And.intro hl1 hl2); obtain ⟨hq, _⟩ := gathR_ok (P := F.length) (by omega) (by omega) (by omega) HP.out.state HR.out; have hfl := hq.flen; have hsa := hq.small (v := (a : Int)) (by omega); have hsb := hq.small (v := (b : Int)) (by omega); rw [Int.toNat_natCast] at hsa hsb; obtain ⟨gF, rfl, g1', g2', hFr⟩ := hof.1.open_ (by omega); have hFr8 := own_below hFr hb8; have ha1 := (hFr8.cellAt a (by omega)).trans (intCells_get s.1 a (by omega)); have HFR := Lib.hid hFr8; have HG12 := Lib.hid (And.intro g1' g2'); have HQS := Lib.hid (And.intro hsa hsb); have HFL := Lib.hid hfl; obtain ⟨j0, j1, j2, _, _, _⟩ := HX8.out.cells; rw [HDA.out] at ha1; have hsla : (a : Int) < (s.1.length : Int) := (by omega); clear hof y1 y2 y3 hz6 hl1 hl2 hq hfl hsa hsb hFr hFr8 g1' g2' ho hb hb8 hbb v0 v1 v2 v3 v4 bc0 bc1)
          | (go_at_call 110; refine (specRange k c _).mono ?_; rintro e w9 ⟨rfl, rfl⟩; rw [HRG.out])
          | (go_at_call 39; refine (specIsPeb (F.length : Int) k l (some ⟨bb, boff, none⟩) cap AF AT (some ⟨zb, zo, none⟩) cF cT cZ lo hi F T Z _ HI0.out.bars.at HI0.out.src hn hF hT hZ HWF.out).mono ?_; rintro e w6 ⟨rfl, hb6⟩; rw [HB.out]; have HI6 := Lib.hid (HI0.out.below hb6); obtain ⟨_, v0, v1⟩ := HI6.out.gb; obtain ⟨v2, v3, v4, _, _, _⟩ := HI6.out.pb.cells; have hlo6 := hb6.size; have HLO := Lib.hid (show w.heap.size + 1 + 1 + 1 ≤ w6.heap.size by have := HS3.out; omega); have hzl := HZL0.out w6 HI6.out; obtain ⟨bc0, bc1⟩ := HBC.out w6 HI6.out; have nn1 : w.heap.size + 1 ≠ w6.heap.size := (by have := HLO.out; omega); have nn2 : w.heap.size ≠ w6.heap.size := (by have := HLO.out; omega); have nn3 : w.heap.size + 1 < w6.heap.size := (by have := HLO.out; omega); have nn4 : w.heap.size < w6.heap.size := (by have := HLO.out; omega); clear hlo6 hb6 g0 g1 x0 x1 x2))
        have hw8 : w7.heap.size < (w7.alloc (.cells #[.slice (some ⟨gF, 0, none⟩) s.1.length eF, .slice DT s.2.length eT, .slice DZ Z.length eZ] 31)).heap.size := by simp
        have hbxl : w.heap.size + 1 + 1 + 1 ≤ w7.heap.size := by have := HLY.out; have := HG12.out; have := HLO.out; omega
        have HBXL := Lib.hid hbxl
        obtain ⟨t', z', hn8, m1, m2, m3, m4, m5, m6⟩ := HF8.out.norm (B := w.heap.size + 3) (pb := w7.heap.size) (by omega) hw8 (by have := HLY.out; have := HLO.out; omega) (by have := HLY.out; have := HLO.out; omega) (.inr HLY.out.2.1.2) (.inr HLY.out.2.2.2)
        have HF9 := Lib.hid hn8
        have HPB := Lib.hid (And.intro m3 m4)
        have HLT := Lib.hid (And.intro m5 m6)
        have HLZ := Lib.hid (show w.heap.size + 3 ≤ f.1 ∧ w.heap.size + 3 ≤ t'.1 ∧ w.heap.size + 3 ≤ z'.1 ∧ gF < w7.heap.size ∧ f.2 ≤ w7.heap.size from ⟨by have := HLY.out; have := HLO.out; omega, m1, m2, by have := HLY.out; have := HG12.out; omega, HLY.out.1.2⟩)
        have HGW := Lib.hid (show w6.heap.size < gF from by have := HLY.out; have := HG12.out; omega)
        clear hbxl m1 m2 m3 m4 m5 m6 hn8 HF8 HLY
        clear ha1 j0 j1 j2 k0 k1
        generalize (w7.alloc (.cells #[.slice (some ⟨gF, 0, none⟩) s.1.length eF, .slice DT s.2.length eT, .slice DZ Z.length eZ] 31)) = w8 at *
        generalize hbx : w7.heap.size = bx at *
        have hw4 := within_set w8 gF b (.int .i64 (d2 - 1))
        have hdr : Below (w8.setCell ⟨gF, b, none⟩ (.int .i64 (d2 - 1))).heap.size (w8.setCell ⟨gF, b, none⟩ (.int .i64 (d2 - 1))) (w8.setCell ⟨gF, b, none⟩ (.int .i64 (d2 - 1))).drew := (Below.refl _ _).drew
        obtain ⟨o1, o2, o3, d1', d2', d3'⟩ := HF9.out
        have HXX := Lib.hid (And.intro d1' (And.intro d2' d3'))
        unfold Dis at d1' d2' d3'
        have hg12 := HG12.out
        have hly := HLZ.out
        have HT4 := Lib.hid ((o2.within hw4 (by omega)).within (within_of hdr) (.inr (Nat.zero_le _)))
        have HZ4 := Lib.hid ((o3.within hw4 (by omega)).within (within_of hdr) (.inr (Nat.zero_le _)))
        have HFR4 := Lib.hid (show World.ownsRow (w8.setCell ⟨gF, b, none⟩ (.int .i64 (d2 - 1))).drew 0 3 1 (.slice (some ⟨gF, 0, none⟩) (s.1.set b (d2 - 1)).length eF) (s.1.set b (d2 - 1)).length (intCells (s.1.set b (d2 - 1))) from by
          have h1 := (HFR.out.stored b (.int .i64 (d2 - 1))).1
          rw [intCells_set] at h1
          rw [List.length_set]
          exact own_below h1 hdr)
        have HX4 := Lib.hid ((HX8.out.within hw4 (by omega)).kept hdr)
        have HI4 := Lib.hid ((HI8.out.within hw4 (by have := HLO.out; omega) (by have := HHI.out; have := HLO.out; omega)).below hdr)
        have hs9 : (w8.setCell ⟨gF, b, none⟩ (.int .i64 (d2 - 1))).drew.heap.size = w8.heap.size := (by simp)
        have hb9 := HBX.out
        have hb9' := (hb9.within hw4 (by have := HGW.out; omega)).kept hdr
        have HBX4 := Lib.hid hb9'
        have hvi := (HFR.out.cellAt b (by have := HFL.out; omega)).trans (intCells_get s.1 b (by have := HFL.out; omega))
        rw [HDB.out] at hvi
        have hvf := HFR.out.frozenAt b
        have hsl : (b : Int) < (s.1.length : Int) := by have := HFL.out; omega
        obtain ⟨j0, j1, j2, _, _, _⟩ := HX8.out.cells
        have hsv : 0 ≤ d2 ∧ d2 ≤ k := by have := HQS.out; rw [HDA.out, HDB.out] at this; omega
        clear o1 o2 o3 d1' d2' d3' hw4 hdr hb9 hb9' hg12 hly
        go_region
        have HSZ := Lib.hid hs9
        clear hs9
        clear hvi hvf j0 j1 j2
        obtain ⟨m0, m1, m2, m3, m4, m5⟩ := HX4.out.cells
        have HTW := Lib.hid (show t'.1 ≤ ((w8.setCell ⟨gF, b, none⟩ (.int .i64 (d2 - 1))).drew).heap.size from by have := HLT.out; have := HSZ.out; omega)
        have HZV := Lib.hid (show z'.1 ≤ ((w8.setCell ⟨gF, b, none⟩ (.int .i64 (d2 - 1))).drew).heap.size from by have := HLT.out; have := HSZ.out; omega)
        have hpt : bx < t'.1 ∨ t'.2 ≤ bx := HPB.out.1
        have hpz : bx < z'.1 ∨ z'.2 ≤ bx := HPB.out.2
        have hTl : s.2.length ≤ 24 := by have := HLL.out.2; omega
        go_wp2_with (first
          | (at_builtin; refine wpList_pushR _ rfl _ _ rfl z'.1 z'.2 DZ eZ Z (nn : Int) rfl HZ6.out _ (by first | rfl | (simp only [World.size_setCell]; rfl)) (by omega) HZW.out ?_; intro A7 c7 w17 lo7 hi7 hr7 hor7 hw7; have HR7 := Lib.hid hr7; have HOR7 := Lib.hid hor7; have HW7 := Lib.hid hw7; have HX7 := Lib.hid (HX6.out.within hw7 hpz); have HXE := Lib.hid (HX7.out.set2 (.slice A7 (Z.length + 1) c7)); have HI17 := Lib.hid ((HI16.out.within hw7 (by have := HLO.out; have := HLZ.out; omega) (by have := HHI.out; have := HLO.out; have := HLZ.out; omega)).within (within_set w17 bx 2 (.slice A7 (Z.length + 1) c7)) (by have := HBXL.out; omega) (by have := HBXL.out; have := HHI.out; omega)); obtain ⟨r0, r1, r2, r3, r4, r5⟩ := HX7.out.cells; obtain ⟨z0, z1, z2, _, _, _⟩ := HXE.out.cells; obtain ⟨_, _, _, f0, f1, f2⟩ := HI17.out.rb.cells; have rr3 := ret3 HI17.out.rb (.slice (some ⟨gF, 0, none⟩) s.1.length eF) (.slice A5 (s.2.length + 1) c5) (.slice A7 (Z.length + 1) c7); obtain ⟨s0, s1, s2, _⟩ := rr3.1.cells; have HW := Lib.hid rr3.2; clear rr3 hr7 hor7 hw7)
          | (at_builtin; refine wpList_pushR _ rfl _ _ rfl t'.1 t'.2 DT eT s.2 (b : Int) rfl HT4.out _ (by first | rfl | (simp only [World.size_setCell]; rfl) | (show _ = Value.slice (some ⟨(w8.setCell _ _).heap.size, 0, none⟩) 1 1; simp only [World.size_setCell]; rfl)) (by omega) HTW.out ?_; intro A5 c5 w15 lo5 hi5 hr5 hor5 hw5; have HR5 := Lib.hid hr5; have HOR5 := Lib.hid hor5; have HW5 := Lib.hid hw5; have HX5 := Lib.hid (HX4.out.within hw5 hpt); have HX6 := Lib.hid (HX5.out.set1 (.slice A5 (s.2.length + 1) c5)); have HI16 := Lib.hid ((HI4.out.within hw5 (by have := HLO.out; have := HLZ.out; omega) (by have := HHI.out; have := HLO.out; have := HLZ.out; omega)).within (within_set w15 bx 1 (.slice A5 (s.2.length + 1) c5)) (by have := HBXL.out; omega) (by have := HBXL.out; have := HHI.out; omega)); have HZ6 := Lib.hid ((HZ4.out.within hw5 (by have := HXX.out.2.2; unfold Dis at this; omega)).within (within_set w15 bx 1 (.slice A5 (s.2.length + 1) c5)) (by omega)); have HZW := Lib.hid (show z'.1 ≤ (w15.setCell ⟨bx, 1, none⟩ (.slice A5 (s.2.length + 1) c5)).heap.size from by rw [World.size_setCell]; exact Nat.le_trans HZV.out hw5.size); obtain ⟨p0, p1, p2, p3, p4, p5⟩ := HX5.out.cells; obtain ⟨u0, u1, u2, u3, u4, u5⟩ := HX6.out.cells; clear hr5 hor5 hw5))
        rw [HPL.out]
        rw [Option.map_some, if_pos (HDA.out.trans c0)]
        rw [HDB.out]
        refine bodyPost_ret (v := .tuple #[pebV (some ⟨gF, 0, none⟩) s.1.length eF A5 (s.2.length + 1) c5 A7 (Z.length + 1) c7, .bool true]) ?_ rfl ?_
        · simp [results, Try.results34, go_sem, s0, s1, s2]
        · have hr5 := HR5.out
          have hr7 := HR7.out
          have hor5 := HOR5.out
          have hor7 := HOR7.out
          have w5w := HW5.out
          have w7w := HW7.out
          have xx := HXX.out
          have hz := HLZ.out
          have hbl := HBXL.out
          have q5 := within_set w15 bx 1 (.slice A5 (s.2.length + 1) c5)
          have q7 := within_set w17 bx 2 (.slice A7 (Z.length + 1) c7)
          have hw := HW.out
          have s5 := w5w.size
          have s6 := q5.size
          have s7 := w7w.size
          have s8 := q7.size
          have s9 := hw.size
          have g12 := HG12.out
          have hsz := HSZ.out
          have hhi := HF9.out.hi
          unfold Dis at xx
          have hgb : gF ≠ bx := by omega
          have hfl := (HFR4.out.lt gF rfl).2
          have hf8 := own_block (own_block (own_block (own_block (own_block HFR4.out (w5w.block gF hfl (by omega))) (q5.block gF (by omega) (by omega))) (w7w.block gF (by omega) (by omega))) (q7.block gF (by omega) (by omega))) (hw.block gF (by omega) (by omega))
          have ht8 := (((hr5.within q5 (by omega)).within w7w (by omega)).within q7 (by omega)).within hw (by omega)
          have hz8 := (hr7.within q7 (by omega)).within hw (by omega)
          have hof : OwnF _ f (lo5, hi5) (lo7, hi7) (some ⟨gF, 0, none⟩) eF A5 c5 A7 c7 (s.1.set b (d2 - 1)) (s.2 ++ [(b : Int)]) (Z ++ [(nn : Int)]) := ⟨⟨by show f.2 ≤ _; omega, .inr ⟨gF, rfl, g12.1, g12.2, own_rebase hf8 g12.1⟩⟩, ht8, hz8, by unfold Dis; show f.2 ≤ lo5 ∨ hi5 ≤ f.1; omega, by unfold Dis; show f.2 ≤ lo7 ∨ hi7 ≤ f.1; omega, by unfold Dis; show hi5 ≤ lo7 ∨ hi7 ≤ lo5; omega⟩
          have hg := HI17.out.bel
          exact ⟨_, _, _, _, _, _, by show _ = Ending.returned (.tuple #[pebV _ (s.1.set b (d2 - 1)).length _ _ (s.2 ++ [(b : Int)]).length _ _ (Z ++ [(nn : Int)]).length _, .bool true]); rw [List.length_set, List.length_append, List.length_append]; rfl, hof.own3 (lo := w.heap.size) ⟨by omega, hof.hi.1⟩ ⟨by show w.heap.size ≤ lo5; omega, hof.hi.2.1⟩ ⟨by show w.heap.size ≤ lo7; omega, hof.hi.2.2⟩ (Nat.le_refl _), within_on hg hw hg.size (.inl (by omega))⟩
      · have e1 : (d1 == 0) = false := by simpa using c0
        go_enter Try.func34, Try.ntmps34
        go_wp2_with (first
          | (go_at_call 127; have hbb := new_below w6 (.cells #[.int .i64 (a : Int), .int .i64 (b : Int)] 108); refine (HGC.out (w6.alloc (.cells #[.int .i64 (a : Int), .int .i64 (b : Int)] 108)) ((HI6.out.below hbb).bars.at) ((HI6.out.below hbb).src)).mono ?_; rintro e w7 ⟨hb, DF, eF, DT, eT, DZ, eZ, rfl, hl1, hl2, ho⟩; have HI7 := Lib.hid ((HI6.out.below hbb).below hb); have hb8 := new_below w7 (.cells #[.slice DF s.1.length eF, .slice DT s.2.length eT, .slice DZ Z.length eZ] 31); have HI8 := Lib.hid (HI7.out.below hb8); have HLO8 := Lib.hid (Nat.le_trans HLO.out (Nat.le_trans hbb.size (Nat.le_trans hb.size hb8.size))); have HBX := Lib.hid (((box_new w6 (a : Int) (.int .i64 (b : Int)) 108).kept hb).kept hb8); obtain ⟨_, k0, k1⟩ := HBX.out; have HX8 := Lib.hid (cel3_new w7 (.slice DF s.1.length eF) (.slice DT s.2.length eT) (.slice DZ Z.length eZ) 31); obtain ⟨f, t, z, hof, y1, y2, y3⟩ := ho.ownF; have HF8 := Lib.hid (hof.below hb8); have hz6 : (w6.alloc (.cells #[.int .i64 (a : Int), .int .i64 (b : Int)] 108)).heap.size = w6.heap.size + 1 := (by simp); have HLY := Lib.hid (show (w6.heap.size + 1 ≤ f.1 ∧ f.2 ≤ w7.heap.size) ∧ (w6.heap.size + 1 ≤ t.1 ∧ t.2 ≤ w7.heap.size) ∧ (w6.heap.size + 1 ≤ z.1 ∧ z.2 ≤ w7.heap.size) from by omega); have HLL := Lib.hid (And.intro hl1 hl2); obtain ⟨hq, _⟩ := gathR_ok (P := F.length) (by omega) (by omega) (by omega) HP.out.state HR.out; have hfl := hq.flen; have hsa := hq.small (v := (a : Int)) (by omega); have hsb := hq.small (v := (b : Int)) (by omega); rw [Int.toNat_natCast] at hsa hsb; obtain ⟨gF, rfl, g1', g2', hFr⟩ := hof.1.open_ (by omega); have hFr8 := own_below hFr hb8; have ha1 := (hFr8.cellAt a (by omega)).trans (intCells_get s.1 a (by omega)); have HFR := Lib.hid hFr8; have HG12 := Lib.hid (And.intro g1' g2'); have HQS := Lib.hid (And.intro hsa hsb); have HFL := Lib.hid hfl; obtain ⟨j0, j1, j2, _, _, _⟩ := HX8.out.cells; rw [HDA.out] at ha1; have hsla : (a : Int) < (s.1.length : Int) := (by omega); clear hof y1 y2 y3 hz6 hl1 hl2 hq hfl hsa hsb hFr hFr8 g1' g2' ho hb hb8 hbb v0 v1 v2 v3 v4 bc0 bc1)
          | (go_at_call 110; refine (specRange k c _).mono ?_; rintro e w9 ⟨rfl, rfl⟩; rw [HRG.out])
          | (go_at_call 39; refine (specIsPeb (F.length : Int) k l (some ⟨bb, boff, none⟩) cap AF AT (some ⟨zb, zo, none⟩) cF cT cZ lo hi F T Z _ HI0.out.bars.at HI0.out.src hn hF hT hZ HWF.out).mono ?_; rintro e w6 ⟨rfl, hb6⟩; rw [HB.out]; have HI6 := Lib.hid (HI0.out.below hb6); obtain ⟨_, v0, v1⟩ := HI6.out.gb; obtain ⟨v2, v3, v4, _, _, _⟩ := HI6.out.pb.cells; have hlo6 := hb6.size; have HLO := Lib.hid (show w.heap.size + 1 + 1 + 1 ≤ w6.heap.size by have := HS3.out; omega); have hzl := HZL0.out w6 HI6.out; obtain ⟨bc0, bc1⟩ := HBC.out w6 HI6.out; have nn1 : w.heap.size + 1 ≠ w6.heap.size := (by have := HLO.out; omega); have nn2 : w.heap.size ≠ w6.heap.size := (by have := HLO.out; omega); have nn3 : w.heap.size + 1 < w6.heap.size := (by have := HLO.out; omega); have nn4 : w.heap.size < w6.heap.size := (by have := HLO.out; omega); clear hlo6 hb6 g0 g1 x0 x1 x2))
        have hw8 : w7.heap.size < (w7.alloc (.cells #[.slice (some ⟨gF, 0, none⟩) s.1.length eF, .slice DT s.2.length eT, .slice DZ Z.length eZ] 31)).heap.size := by simp
        have hbxl : w.heap.size + 1 + 1 + 1 ≤ w7.heap.size := by have := HLY.out; have := HG12.out; have := HLO.out; omega
        have HBXL := Lib.hid hbxl
        obtain ⟨t', z', hn8, m1, m2, m3, m4, m5, m6⟩ := HF8.out.norm (B := w.heap.size + 3) (pb := w7.heap.size) (by omega) hw8 (by have := HLY.out; have := HLO.out; omega) (by have := HLY.out; have := HLO.out; omega) (.inr HLY.out.2.1.2) (.inr HLY.out.2.2.2)
        have HF9 := Lib.hid hn8
        have HPB := Lib.hid (And.intro m3 m4)
        have HLT := Lib.hid (And.intro m5 m6)
        have HLZ := Lib.hid (show w.heap.size + 3 ≤ f.1 ∧ w.heap.size + 3 ≤ t'.1 ∧ w.heap.size + 3 ≤ z'.1 ∧ gF < w7.heap.size ∧ f.2 ≤ w7.heap.size from ⟨by have := HLY.out; have := HLO.out; omega, m1, m2, by have := HLY.out; have := HG12.out; omega, HLY.out.1.2⟩)
        have HGW := Lib.hid (show w6.heap.size < gF from by have := HLY.out; have := HG12.out; omega)
        clear hbxl m1 m2 m3 m4 m5 m6 hn8 HF8 HLY
        clear ha1 j0 j1 j2 k0 k1
        generalize (w7.alloc (.cells #[.slice (some ⟨gF, 0, none⟩) s.1.length eF, .slice DT s.2.length eT, .slice DZ Z.length eZ] 31)) = w8 at *
        generalize hbx : w7.heap.size = bx at *
        have hw4 := within_set w8 gF a (.int .i64 (d1 - 1))
        have hdr : Below (w8.setCell ⟨gF, a, none⟩ (.int .i64 (d1 - 1))).heap.size (w8.setCell ⟨gF, a, none⟩ (.int .i64 (d1 - 1))) (w8.setCell ⟨gF, a, none⟩ (.int .i64 (d1 - 1))).drew := (Below.refl _ _).drew
        obtain ⟨o1, o2, o3, d1', d2', d3'⟩ := HF9.out
        have HXX := Lib.hid (And.intro d1' (And.intro d2' d3'))
        unfold Dis at d1' d2' d3'
        have hg12 := HG12.out
        have hly := HLZ.out
        have HT4 := Lib.hid ((o2.within hw4 (by omega)).within (within_of hdr) (.inr (Nat.zero_le _)))
        have HZ4 := Lib.hid ((o3.within hw4 (by omega)).within (within_of hdr) (.inr (Nat.zero_le _)))
        have HFR4 := Lib.hid (show World.ownsRow (w8.setCell ⟨gF, a, none⟩ (.int .i64 (d1 - 1))).drew 0 3 1 (.slice (some ⟨gF, 0, none⟩) (s.1.set a (d1 - 1)).length eF) (s.1.set a (d1 - 1)).length (intCells (s.1.set a (d1 - 1))) from by
          have h1 := (HFR.out.stored a (.int .i64 (d1 - 1))).1
          rw [intCells_set] at h1
          rw [List.length_set]
          exact own_below h1 hdr)
        have HX4 := Lib.hid ((HX8.out.within hw4 (by omega)).kept hdr)
        have HI4 := Lib.hid ((HI8.out.within hw4 (by have := HLO.out; omega) (by have := HHI.out; have := HLO.out; omega)).below hdr)
        have hs9 : (w8.setCell ⟨gF, a, none⟩ (.int .i64 (d1 - 1))).drew.heap.size = w8.heap.size := (by simp)
        have hb9 := HBX.out
        have hb9' := (hb9.within hw4 (by have := HGW.out; omega)).kept hdr
        have HBX4 := Lib.hid hb9'
        have hvi := (HFR.out.cellAt a (by have := HFL.out; omega)).trans (intCells_get s.1 a (by have := HFL.out; omega))
        rw [HDA.out] at hvi
        have hvf := HFR.out.frozenAt a
        have hsl : (a : Int) < (s.1.length : Int) := by have := HFL.out; omega
        obtain ⟨j0, j1, j2, _, _, _⟩ := HX8.out.cells
        have hsv : 0 ≤ d1 ∧ d1 ≤ k := by have := HQS.out; rw [HDA.out, HDB.out] at this; omega
        clear o1 o2 o3 d1' d2' d3' hw4 hdr hb9 hb9' hg12 hly
        go_region
        have HSZ := Lib.hid hs9
        clear hs9
        clear hvi hvf j0 j1 j2
        obtain ⟨m0, m1, m2, m3, m4, m5⟩ := HX4.out.cells
        have HTW := Lib.hid (show t'.1 ≤ ((w8.setCell ⟨gF, a, none⟩ (.int .i64 (d1 - 1))).drew).heap.size from by have := HLT.out; have := HSZ.out; omega)
        have HZV := Lib.hid (show z'.1 ≤ ((w8.setCell ⟨gF, a, none⟩ (.int .i64 (d1 - 1))).drew).heap.size from by have := HLT.out; have := HSZ.out; omega)
        have hpt : bx < t'.1 ∨ t'.2 ≤ bx := HPB.out.1
        have hpz : bx < z'.1 ∨ z'.2 ≤ bx := HPB.out.2
        have hTl : s.2.length ≤ 24 := by have := HLL.out.2; omega
        go_wp2_with (first
          | (at_builtin; refine wpList_pushR _ rfl _ _ rfl z'.1 z'.2 DZ eZ Z (nn : Int) rfl HZ6.out _ (by first | rfl | (simp only [World.size_setCell]; rfl)) (by omega) HZW.out ?_; intro A7 c7 w17 lo7 hi7 hr7 hor7 hw7; have HR7 := Lib.hid hr7; have HOR7 := Lib.hid hor7; have HW7 := Lib.hid hw7; have HX7 := Lib.hid (HX6.out.within hw7 hpz); have HXE := Lib.hid (HX7.out.set2 (.slice A7 (Z.length + 1) c7)); have HI17 := Lib.hid ((HI16.out.within hw7 (by have := HLO.out; have := HLZ.out; omega) (by have := HHI.out; have := HLO.out; have := HLZ.out; omega)).within (within_set w17 bx 2 (.slice A7 (Z.length + 1) c7)) (by have := HBXL.out; omega) (by have := HBXL.out; have := HHI.out; omega)); obtain ⟨r0, r1, r2, r3, r4, r5⟩ := HX7.out.cells; obtain ⟨z0, z1, z2, _, _, _⟩ := HXE.out.cells; obtain ⟨_, _, _, f0, f1, f2⟩ := HI17.out.rb.cells; have rr3 := ret3 HI17.out.rb (.slice (some ⟨gF, 0, none⟩) s.1.length eF) (.slice A5 (s.2.length + 1) c5) (.slice A7 (Z.length + 1) c7); obtain ⟨s0, s1, s2, _⟩ := rr3.1.cells; have HW := Lib.hid rr3.2; clear rr3 hr7 hor7 hw7)
          | (at_builtin; refine wpList_pushR _ rfl _ _ rfl t'.1 t'.2 DT eT s.2 (a : Int) rfl HT4.out _ (by first | rfl | (simp only [World.size_setCell]; rfl) | (show _ = Value.slice (some ⟨(w8.setCell _ _).heap.size, 0, none⟩) 1 1; simp only [World.size_setCell]; rfl)) (by omega) HTW.out ?_; intro A5 c5 w15 lo5 hi5 hr5 hor5 hw5; have HR5 := Lib.hid hr5; have HOR5 := Lib.hid hor5; have HW5 := Lib.hid hw5; have HX5 := Lib.hid (HX4.out.within hw5 hpt); have HX6 := Lib.hid (HX5.out.set1 (.slice A5 (s.2.length + 1) c5)); have HI16 := Lib.hid ((HI4.out.within hw5 (by have := HLO.out; have := HLZ.out; omega) (by have := HHI.out; have := HLO.out; have := HLZ.out; omega)).within (within_set w15 bx 1 (.slice A5 (s.2.length + 1) c5)) (by have := HBXL.out; omega) (by have := HBXL.out; have := HHI.out; omega)); have HZ6 := Lib.hid ((HZ4.out.within hw5 (by have := HXX.out.2.2; unfold Dis at this; omega)).within (within_set w15 bx 1 (.slice A5 (s.2.length + 1) c5)) (by omega)); have HZW := Lib.hid (show z'.1 ≤ (w15.setCell ⟨bx, 1, none⟩ (.slice A5 (s.2.length + 1) c5)).heap.size from by rw [World.size_setCell]; exact Nat.le_trans HZV.out hw5.size); obtain ⟨p0, p1, p2, p3, p4, p5⟩ := HX5.out.cells; obtain ⟨u0, u1, u2, u3, u4, u5⟩ := HX6.out.cells; clear hr5 hor5 hw5))
        rw [HPL.out]
        rw [Option.map_some, if_neg (fun e => c0 (HDA.out.symm.trans e))]
        rw [HDA.out]
        refine bodyPost_ret (v := .tuple #[pebV (some ⟨gF, 0, none⟩) s.1.length eF A5 (s.2.length + 1) c5 A7 (Z.length + 1) c7, .bool true]) ?_ rfl ?_
        · simp [results, Try.results34, go_sem, s0, s1, s2]
        · have hr5 := HR5.out
          have hr7 := HR7.out
          have hor5 := HOR5.out
          have hor7 := HOR7.out
          have w5w := HW5.out
          have w7w := HW7.out
          have xx := HXX.out
          have hz := HLZ.out
          have hbl := HBXL.out
          have q5 := within_set w15 bx 1 (.slice A5 (s.2.length + 1) c5)
          have q7 := within_set w17 bx 2 (.slice A7 (Z.length + 1) c7)
          have hw := HW.out
          have s5 := w5w.size
          have s6 := q5.size
          have s7 := w7w.size
          have s8 := q7.size
          have s9 := hw.size
          have g12 := HG12.out
          have hsz := HSZ.out
          have hhi := HF9.out.hi
          unfold Dis at xx
          have hgb : gF ≠ bx := by omega
          have hfl := (HFR4.out.lt gF rfl).2
          have hf8 := own_block (own_block (own_block (own_block (own_block HFR4.out (w5w.block gF hfl (by omega))) (q5.block gF (by omega) (by omega))) (w7w.block gF (by omega) (by omega))) (q7.block gF (by omega) (by omega))) (hw.block gF (by omega) (by omega))
          have ht8 := (((hr5.within q5 (by omega)).within w7w (by omega)).within q7 (by omega)).within hw (by omega)
          have hz8 := (hr7.within q7 (by omega)).within hw (by omega)
          have hof : OwnF _ f (lo5, hi5) (lo7, hi7) (some ⟨gF, 0, none⟩) eF A5 c5 A7 c7 (s.1.set a (d1 - 1)) (s.2 ++ [(a : Int)]) (Z ++ [(nn : Int)]) := ⟨⟨by show f.2 ≤ _; omega, .inr ⟨gF, rfl, g12.1, g12.2, own_rebase hf8 g12.1⟩⟩, ht8, hz8, by unfold Dis; show f.2 ≤ lo5 ∨ hi5 ≤ f.1; omega, by unfold Dis; show f.2 ≤ lo7 ∨ hi7 ≤ f.1; omega, by unfold Dis; show hi5 ≤ lo7 ∨ hi7 ≤ lo5; omega⟩
          have hg := HI17.out.bel
          exact ⟨_, _, _, _, _, _, by show _ = Ending.returned (.tuple #[pebV _ (s.1.set a (d1 - 1)).length _ _ (s.2 ++ [(a : Int)]).length _ _ (Z ++ [(nn : Int)]).length _, .bool true]); rw [List.length_set, List.length_append, List.length_append]; rfl, hof.own3 (lo := w.heap.size) ⟨by omega, hof.hi.1⟩ ⟨by show w.heap.size ≤ lo5; omega, hof.hi.2.1⟩ ⟨by show w.heap.size ≤ lo7; omega, hof.hi.2.2⟩ (Nat.le_refl _), within_on hg hw hg.size (.inl (by omega))⟩
  · have hz0 : Z.length = 0 := by omega
    have hzd : ¬ (0 : Int) < (Z.length : Int) := by omega
    clear hz0 c5
    cases rg with
    | none =>
      have HGC := Lib.hid (fun (W : World) (h1 : BarsAt W W.heap.size (some ⟨bb, boff, none⟩) l) (h2 : Peb3 W lo hi AF AT AZ F T Z) => show Calls Try.prog 127 _ W (fun e w' => Below W.heap.size W w' ∧ ∃ BF dF BT dT BZ dZ, e = .returned (.tuple #[pebV BF F.length dF BT T.length dT BZ Z.length dZ, .bool false])) from (gathS_c k l (some ⟨bb, boff, none⟩) cap AF AT AZ cF cT cZ lo hi F T Z a b (c + 1) W HP.out.state (by omega) (by omega) h24 (by omega) (fun i hi => (HP.out.2.2.2.2.1 i hi).1) (by omega) (by omega) (by omega) h1 h2).mono (by
        rintro e w' ⟨hb, BF, dF, BT, dT, BZ, dZ, ⟨rfl, _⟩ | ⟨s, _, hs, _⟩⟩
        · exact ⟨hb, _, _, _, _, _, _, rfl⟩
        · rw [HR.out] at hs; cases hs))
      go_enter Try.func34, Try.ntmps34
      go_wp2_with (first
        | (go_at_call 126; refine (copyPeb_c AF AT AZ cF cT cZ lo hi F T Z _ HI8.out.src hF hT hZ).mono ?_; rintro e w9 ⟨BF, dF, BT, dT, BZ, dZ, rfl, ho, hb7⟩; have HI9 := Lib.hid (HI8.out.below hb7); have HO7 := Lib.hid ho; obtain ⟨_, _, _, f0, f1, f2⟩ := HI9.out.rb.cells; have r3 := ret3 HI9.out.rb (.slice BF F.length dF) (.slice BT T.length dT) (.slice BZ Z.length dZ); obtain ⟨s0, s1, s2, _⟩ := r3.1.cells; have HW := Lib.hid r3.2; clear ho hb7 r3)
        | (go_at_call 127; have hbb := new_below w6 (.cells #[.int .i64 (a : Int), .int .i64 (b : Int)] 108); refine (HGC.out (w6.alloc (.cells #[.int .i64 (a : Int), .int .i64 (b : Int)] 108)) ((HI6.out.below hbb).bars.at) ((HI6.out.below hbb).src)).mono ?_; rintro e w7 ⟨hb, DF, eF, DT, eT, DZ, eZ, rfl⟩; have HI7 := Lib.hid ((HI6.out.below hbb).below hb); have hb8 := new_below w7 (.cells #[.slice DF F.length eF, .slice DT T.length eT, .slice DZ Z.length eZ] 31); have HI8 := Lib.hid (HI7.out.below hb8); have HLO8 := Lib.hid (Nat.le_trans HLO.out (Nat.le_trans hbb.size (Nat.le_trans hb.size hb8.size))); have HBX := Lib.hid (((box_new w6 (a : Int) (.int .i64 (b : Int)) 108).kept hb).kept hb8); obtain ⟨_, k0, k1⟩ := HBX.out; obtain ⟨u2, u3, u4, _, _, _⟩ := HI8.out.pb.cells; clear hb hb8 hbb v0 v1 v2 v3 v4 bc0 bc1)
        | (go_at_call 110; refine (specRange k c _).mono ?_; rintro e w9 ⟨rfl, rfl⟩; rw [HRG.out])
        | (go_at_call 39; refine (specIsPeb (F.length : Int) k l (some ⟨bb, boff, none⟩) cap AF AT AZ cF cT cZ lo hi F T Z _ HI0.out.bars.at HI0.out.src hn hF hT hZ HWF.out).mono ?_; rintro e w6 ⟨rfl, hb6⟩; rw [HB.out]; have HI6 := Lib.hid (HI0.out.below hb6); obtain ⟨_, v0, v1⟩ := HI6.out.gb; obtain ⟨v2, v3, v4, _, _, _⟩ := HI6.out.pb.cells; have hlo6 := hb6.size; have HLO := Lib.hid (show w.heap.size + 1 + 1 + 1 ≤ w6.heap.size by have := HS3.out; omega); obtain ⟨bc0, bc1⟩ := HBC.out w6 HI6.out; have nn1 : w.heap.size + 1 ≠ w6.heap.size := (by have := HLO.out; omega); have nn2 : w.heap.size ≠ w6.heap.size := (by have := HLO.out; omega); have nn3 : w.heap.size + 1 < w6.heap.size := (by have := HLO.out; omega); have nn4 : w.heap.size < w6.heap.size := (by have := HLO.out; omega); clear hlo6 hb6 g0 g1 x0 x1 x2))
      rw [HPL.out]
      refine bodyPost_ret (v := .tuple #[pebV BF F.length dF BT T.length dT BZ Z.length dZ, .bool false]) ?_ rfl ?_
      · simp [results, Try.results34, go_sem, s0, s1, s2]
      · have hg := HI9.out.bel
        have hlo6 := HI8.out.bel.size
        have hsw := HW.out.size
        exact ⟨_, _, _, _, _, _, rfl, (HO7.out.own3.within HW.out (.inr HLO8.out)).widen (by omega) (by omega) (Nat.le_refl _), within_on hg HW.out hg.size (.inl (by omega))⟩
    | some s =>
      have HGC := Lib.hid (fun (W : World) (h1 : BarsAt W W.heap.size (some ⟨bb, boff, none⟩) l) (h2 : Peb3 W lo hi AF AT AZ F T Z) => show Calls Try.prog 127 _ W (fun e w' => Below W.heap.size W w' ∧ ∃ BF dF BT dT BZ dZ, e = .returned (.tuple #[pebV BF s.1.length dF BT s.2.length dT BZ Z.length dZ, .bool true]) ∧ s.1.length = F.length ∧ s.2.length = T.length ∧ Own3R w' W.heap.size w'.heap.size BF dF BT dT BZ dZ s.1 s.2 Z) from (gathS_c k l (some ⟨bb, boff, none⟩) cap AF AT AZ cF cT cZ lo hi F T Z a b (c + 1) W HP.out.state (by omega) (by omega) h24 (by omega) (fun i hi => (HP.out.2.2.2.2.1 i hi).1) (by omega) (by omega) (by omega) h1 h2).mono (by
        rintro e w' ⟨hb, BF, dF, BT, dT, BZ, dZ, ⟨_, hs⟩ | ⟨s2, rfl, hs, h1, h2, ho⟩⟩
        · rw [HR.out] at hs; cases hs
        · rw [HR.out] at hs
          cases hs
          exact ⟨hb, _, _, _, _, _, _, by rw [h1, h2], h1, h2, ho⟩))
      obtain ⟨d1, hd1⟩ : ∃ d1, s.1.getD a 0 = d1 := ⟨_, rfl⟩
      obtain ⟨d2, hd2⟩ : ∃ d2, s.1.getD b 0 = d2 := ⟨_, rfl⟩
      have HDA := Lib.hid hd1
      have HDB := Lib.hid hd2
      clear hd1 hd2
      by_cases c0 : d1 = 0
      · have e1 : (d1 == 0) = true := by simpa using c0
        go_enter Try.func34, Try.ntmps34
        go_wp2_with (first
          | (go_at_call 127; have hbb := new_below w6 (.cells #[.int .i64 (a : Int), .int .i64 (b : Int)] 108); refine (HGC.out (w6.alloc (.cells #[.int .i64 (a : Int), .int .i64 (b : Int)] 108)) ((HI6.out.below hbb).bars.at) ((HI6.out.below hbb).src)).mono ?_; rintro e w7 ⟨hb, DF, eF, DT, eT, DZ, eZ, rfl, hl1, hl2, ho⟩; have HI7 := Lib.hid ((HI6.out.below hbb).below hb); have hb8 := new_below w7 (.cells #[.slice DF s.1.length eF, .slice DT s.2.length eT, .slice DZ Z.length eZ] 31); have HI8 := Lib.hid (HI7.out.below hb8); have HLO8 := Lib.hid (Nat.le_trans HLO.out (Nat.le_trans hbb.size (Nat.le_trans hb.size hb8.size))); have HBX := Lib.hid (((box_new w6 (a : Int) (.int .i64 (b : Int)) 108).kept hb).kept hb8); obtain ⟨_, k0, k1⟩ := HBX.out; have HX8 := Lib.hid (cel3_new w7 (.slice DF s.1.length eF) (.slice DT s.2.length eT) (.slice DZ Z.length eZ) 31); obtain ⟨f, t, z, hof, y1, y2, y3⟩ := ho.ownF; have HF8 := Lib.hid (hof.below hb8); have hz6 : (w6.alloc (.cells #[.int .i64 (a : Int), .int .i64 (b : Int)] 108)).heap.size = w6.heap.size + 1 := (by simp); have HLY := Lib.hid (show (w6.heap.size + 1 ≤ f.1 ∧ f.2 ≤ w7.heap.size) ∧ (w6.heap.size + 1 ≤ t.1 ∧ t.2 ≤ w7.heap.size) ∧ (w6.heap.size + 1 ≤ z.1 ∧ z.2 ≤ w7.heap.size) from by omega); have HLL := Lib.hid (And.intro hl1 hl2); obtain ⟨hq, _⟩ := gathR_ok (P := F.length) (by omega) (by omega) (by omega) HP.out.state HR.out; have hfl := hq.flen; have hsa := hq.small (v := (a : Int)) (by omega); have hsb := hq.small (v := (b : Int)) (by omega); rw [Int.toNat_natCast] at hsa hsb; obtain ⟨gF, rfl, g1', g2', hFr⟩ := hof.1.open_ (by omega); have hFr8 := own_below hFr hb8; have ha1 := (hFr8.cellAt a (by omega)).trans (intCells_get s.1 a (by omega)); have HFR := Lib.hid hFr8; have HG12 := Lib.hid (And.intro g1' g2'); have HQS := Lib.hid (And.intro hsa hsb); have HFL := Lib.hid hfl; obtain ⟨j0, j1, j2, _, _, _⟩ := HX8.out.cells; rw [HDA.out] at ha1; have hsla : (a : Int) < (s.1.length : Int) := (by omega); clear hof y1 y2 y3 hz6 hl1 hl2 hq hfl hsa hsb hFr hFr8 g1' g2' ho hb hb8 hbb v0 v1 v2 v3 v4 bc0 bc1)
          | (go_at_call 110; refine (specRange k c _).mono ?_; rintro e w9 ⟨rfl, rfl⟩; rw [HRG.out])
          | (go_at_call 39; refine (specIsPeb (F.length : Int) k l (some ⟨bb, boff, none⟩) cap AF AT AZ cF cT cZ lo hi F T Z _ HI0.out.bars.at HI0.out.src hn hF hT hZ HWF.out).mono ?_; rintro e w6 ⟨rfl, hb6⟩; rw [HB.out]; have HI6 := Lib.hid (HI0.out.below hb6); obtain ⟨_, v0, v1⟩ := HI6.out.gb; obtain ⟨v2, v3, v4, _, _, _⟩ := HI6.out.pb.cells; have hlo6 := hb6.size; have HLO := Lib.hid (show w.heap.size + 1 + 1 + 1 ≤ w6.heap.size by have := HS3.out; omega); obtain ⟨bc0, bc1⟩ := HBC.out w6 HI6.out; have nn1 : w.heap.size + 1 ≠ w6.heap.size := (by have := HLO.out; omega); have nn2 : w.heap.size ≠ w6.heap.size := (by have := HLO.out; omega); have nn3 : w.heap.size + 1 < w6.heap.size := (by have := HLO.out; omega); have nn4 : w.heap.size < w6.heap.size := (by have := HLO.out; omega); clear hlo6 hb6 g0 g1 x0 x1 x2))
        have hw8 : w7.heap.size < (w7.alloc (.cells #[.slice (some ⟨gF, 0, none⟩) s.1.length eF, .slice DT s.2.length eT, .slice DZ Z.length eZ] 31)).heap.size := by simp
        have hbxl : w.heap.size + 1 + 1 + 1 ≤ w7.heap.size := by have := HLY.out; have := HG12.out; have := HLO.out; omega
        have HBXL := Lib.hid hbxl
        obtain ⟨t', z', hn8, m1, m2, m3, m4, m5, m6⟩ := HF8.out.norm (B := w.heap.size + 3) (pb := w7.heap.size) (by omega) hw8 (by have := HLY.out; have := HLO.out; omega) (by have := HLY.out; have := HLO.out; omega) (.inr HLY.out.2.1.2) (.inr HLY.out.2.2.2)
        have HF9 := Lib.hid hn8
        have HPB := Lib.hid (And.intro m3 m4)
        have HLT := Lib.hid (And.intro m5 m6)
        have HLZ := Lib.hid (show w.heap.size + 3 ≤ f.1 ∧ w.heap.size + 3 ≤ t'.1 ∧ w.heap.size + 3 ≤ z'.1 ∧ gF < w7.heap.size ∧ f.2 ≤ w7.heap.size from ⟨by have := HLY.out; have := HLO.out; omega, m1, m2, by have := HLY.out; have := HG12.out; omega, HLY.out.1.2⟩)
        have HGW := Lib.hid (show w6.heap.size < gF from by have := HLY.out; have := HG12.out; omega)
        clear hbxl m1 m2 m3 m4 m5 m6 hn8 HF8 HLY
        clear ha1 j0 j1 j2 k0 k1
        generalize (w7.alloc (.cells #[.slice (some ⟨gF, 0, none⟩) s.1.length eF, .slice DT s.2.length eT, .slice DZ Z.length eZ] 31)) = w8 at *
        generalize hbx : w7.heap.size = bx at *
        have hw4 := within_set w8 gF b (.int .i64 (d2 - 1))
        have hdr : Below (w8.setCell ⟨gF, b, none⟩ (.int .i64 (d2 - 1))).heap.size (w8.setCell ⟨gF, b, none⟩ (.int .i64 (d2 - 1))) (w8.setCell ⟨gF, b, none⟩ (.int .i64 (d2 - 1))).drew := (Below.refl _ _).drew
        obtain ⟨o1, o2, o3, d1', d2', d3'⟩ := HF9.out
        have HXX := Lib.hid (And.intro d1' (And.intro d2' d3'))
        unfold Dis at d1' d2' d3'
        have hg12 := HG12.out
        have hly := HLZ.out
        have HT4 := Lib.hid ((o2.within hw4 (by omega)).within (within_of hdr) (.inr (Nat.zero_le _)))
        have HZ4 := Lib.hid ((o3.within hw4 (by omega)).within (within_of hdr) (.inr (Nat.zero_le _)))
        have HFR4 := Lib.hid (show World.ownsRow (w8.setCell ⟨gF, b, none⟩ (.int .i64 (d2 - 1))).drew 0 3 1 (.slice (some ⟨gF, 0, none⟩) (s.1.set b (d2 - 1)).length eF) (s.1.set b (d2 - 1)).length (intCells (s.1.set b (d2 - 1))) from by
          have h1 := (HFR.out.stored b (.int .i64 (d2 - 1))).1
          rw [intCells_set] at h1
          rw [List.length_set]
          exact own_below h1 hdr)
        have HX4 := Lib.hid ((HX8.out.within hw4 (by omega)).kept hdr)
        have HI4 := Lib.hid ((HI8.out.within hw4 (by have := HLO.out; omega) (by have := HHI.out; have := HLO.out; omega)).below hdr)
        have hs9 : (w8.setCell ⟨gF, b, none⟩ (.int .i64 (d2 - 1))).drew.heap.size = w8.heap.size := (by simp)
        have hb9 := HBX.out
        have hb9' := (hb9.within hw4 (by have := HGW.out; omega)).kept hdr
        have HBX4 := Lib.hid hb9'
        have hvi := (HFR.out.cellAt b (by have := HFL.out; omega)).trans (intCells_get s.1 b (by have := HFL.out; omega))
        rw [HDB.out] at hvi
        have hvf := HFR.out.frozenAt b
        have hsl : (b : Int) < (s.1.length : Int) := by have := HFL.out; omega
        obtain ⟨j0, j1, j2, _, _, _⟩ := HX8.out.cells
        have hsv : 0 ≤ d2 ∧ d2 ≤ k := by have := HQS.out; rw [HDA.out, HDB.out] at this; omega
        clear o1 o2 o3 d1' d2' d3' hw4 hdr hb9 hb9' hg12 hly
        go_region
        have HSZ := Lib.hid hs9
        clear hs9
        clear hvi hvf j0 j1 j2
        obtain ⟨m0, m1, m2, m3, m4, m5⟩ := HX4.out.cells
        have HTW := Lib.hid (show t'.1 ≤ ((w8.setCell ⟨gF, b, none⟩ (.int .i64 (d2 - 1))).drew).heap.size from by have := HLT.out; have := HSZ.out; omega)
        have HZV := Lib.hid (show z'.1 ≤ ((w8.setCell ⟨gF, b, none⟩ (.int .i64 (d2 - 1))).drew).heap.size from by have := HLT.out; have := HSZ.out; omega)
        have hpt : bx < t'.1 ∨ t'.2 ≤ bx := HPB.out.1
        have hpz : bx < z'.1 ∨ z'.2 ≤ bx := HPB.out.2
        have hTl : s.2.length ≤ 24 := by have := HLL.out.2; omega
        go_wp2_with (first
          | (at_builtin; refine wpList_pushR _ rfl _ _ rfl z'.1 z'.2 DZ eZ Z (nn : Int) rfl HZ6.out _ (by first | rfl | (simp only [World.size_setCell]; rfl)) (by omega) HZW.out ?_; intro A7 c7 w17 lo7 hi7 hr7 hor7 hw7; have HR7 := Lib.hid hr7; have HOR7 := Lib.hid hor7; have HW7 := Lib.hid hw7; have HX7 := Lib.hid (HX6.out.within hw7 hpz); have HXE := Lib.hid (HX7.out.set2 (.slice A7 (Z.length + 1) c7)); have HI17 := Lib.hid ((HI16.out.within hw7 (by have := HLO.out; have := HLZ.out; omega) (by have := HHI.out; have := HLO.out; have := HLZ.out; omega)).within (within_set w17 bx 2 (.slice A7 (Z.length + 1) c7)) (by have := HBXL.out; omega) (by have := HBXL.out; have := HHI.out; omega)); obtain ⟨r0, r1, r2, r3, r4, r5⟩ := HX7.out.cells; obtain ⟨z0, z1, z2, _, _, _⟩ := HXE.out.cells; obtain ⟨_, _, _, f0, f1, f2⟩ := HI17.out.rb.cells; have rr3 := ret3 HI17.out.rb (.slice (some ⟨gF, 0, none⟩) s.1.length eF) (.slice A5 (s.2.length + 1) c5) (.slice A7 (Z.length + 1) c7); obtain ⟨s0, s1, s2, _⟩ := rr3.1.cells; have HW := Lib.hid rr3.2; clear rr3 hr7 hor7 hw7)
          | (at_builtin; refine wpList_pushR _ rfl _ _ rfl t'.1 t'.2 DT eT s.2 (b : Int) rfl HT4.out _ (by first | rfl | (simp only [World.size_setCell]; rfl) | (show _ = Value.slice (some ⟨(w8.setCell _ _).heap.size, 0, none⟩) 1 1; simp only [World.size_setCell]; rfl)) (by omega) HTW.out ?_; intro A5 c5 w15 lo5 hi5 hr5 hor5 hw5; have HR5 := Lib.hid hr5; have HOR5 := Lib.hid hor5; have HW5 := Lib.hid hw5; have HX5 := Lib.hid (HX4.out.within hw5 hpt); have HX6 := Lib.hid (HX5.out.set1 (.slice A5 (s.2.length + 1) c5)); have HI16 := Lib.hid ((HI4.out.within hw5 (by have := HLO.out; have := HLZ.out; omega) (by have := HHI.out; have := HLO.out; have := HLZ.out; omega)).within (within_set w15 bx 1 (.slice A5 (s.2.length + 1) c5)) (by have := HBXL.out; omega) (by have := HBXL.out; have := HHI.out; omega)); have HZ6 := Lib.hid ((HZ4.out.within hw5 (by have := HXX.out.2.2; unfold Dis at this; omega)).within (within_set w15 bx 1 (.slice A5 (s.2.length + 1) c5)) (by omega)); have HZW := Lib.hid (show z'.1 ≤ (w15.setCell ⟨bx, 1, none⟩ (.slice A5 (s.2.length + 1) c5)).heap.size from by rw [World.size_setCell]; exact Nat.le_trans HZV.out hw5.size); obtain ⟨p0, p1, p2, p3, p4, p5⟩ := HX5.out.cells; obtain ⟨u0, u1, u2, u3, u4, u5⟩ := HX6.out.cells; clear hr5 hor5 hw5))
        rw [HPL.out]
        rw [Option.map_some, if_pos (HDA.out.trans c0)]
        rw [HDB.out]
        refine bodyPost_ret (v := .tuple #[pebV (some ⟨gF, 0, none⟩) s.1.length eF A5 (s.2.length + 1) c5 A7 (Z.length + 1) c7, .bool true]) ?_ rfl ?_
        · simp [results, Try.results34, go_sem, s0, s1, s2]
        · have hr5 := HR5.out
          have hr7 := HR7.out
          have hor5 := HOR5.out
          have hor7 := HOR7.out
          have w5w := HW5.out
          have w7w := HW7.out
          have xx := HXX.out
          have hz := HLZ.out
          have hbl := HBXL.out
          have q5 := within_set w15 bx 1 (.slice A5 (s.2.length + 1) c5)
          have q7 := within_set w17 bx 2 (.slice A7 (Z.length + 1) c7)
          have hw := HW.out
          have s5 := w5w.size
          have s6 := q5.size
          have s7 := w7w.size
          have s8 := q7.size
          have s9 := hw.size
          have g12 := HG12.out
          have hsz := HSZ.out
          have hhi := HF9.out.hi
          unfold Dis at xx
          have hgb : gF ≠ bx := by omega
          have hfl := (HFR4.out.lt gF rfl).2
          have hf8 := own_block (own_block (own_block (own_block (own_block HFR4.out (w5w.block gF hfl (by omega))) (q5.block gF (by omega) (by omega))) (w7w.block gF (by omega) (by omega))) (q7.block gF (by omega) (by omega))) (hw.block gF (by omega) (by omega))
          have ht8 := (((hr5.within q5 (by omega)).within w7w (by omega)).within q7 (by omega)).within hw (by omega)
          have hz8 := (hr7.within q7 (by omega)).within hw (by omega)
          have hof : OwnF _ f (lo5, hi5) (lo7, hi7) (some ⟨gF, 0, none⟩) eF A5 c5 A7 c7 (s.1.set b (d2 - 1)) (s.2 ++ [(b : Int)]) (Z ++ [(nn : Int)]) := ⟨⟨by show f.2 ≤ _; omega, .inr ⟨gF, rfl, g12.1, g12.2, own_rebase hf8 g12.1⟩⟩, ht8, hz8, by unfold Dis; show f.2 ≤ lo5 ∨ hi5 ≤ f.1; omega, by unfold Dis; show f.2 ≤ lo7 ∨ hi7 ≤ f.1; omega, by unfold Dis; show hi5 ≤ lo7 ∨ hi7 ≤ lo5; omega⟩
          have hg := HI17.out.bel
          exact ⟨_, _, _, _, _, _, by show _ = Ending.returned (.tuple #[pebV _ (s.1.set b (d2 - 1)).length _ _ (s.2 ++ [(b : Int)]).length _ _ (Z ++ [(nn : Int)]).length _, .bool true]); rw [List.length_set, List.length_append, List.length_append]; rfl, hof.own3 (lo := w.heap.size) ⟨by omega, hof.hi.1⟩ ⟨by show w.heap.size ≤ lo5; omega, hof.hi.2.1⟩ ⟨by show w.heap.size ≤ lo7; omega, hof.hi.2.2⟩ (Nat.le_refl _), within_on hg hw hg.size (.inl (by omega))⟩
      · have e1 : (d1 == 0) = false := by simpa using c0
        go_enter Try.func34, Try.ntmps34
        go_wp2_with (first
          | (go_at_call 127; have hbb := new_below w6 (.cells #[.int .i64 (a : Int), .int .i64 (b : Int)] 108); refine (HGC.out (w6.alloc (.cells #[.int .i64 (a : Int), .int .i64 (b : Int)] 108)) ((HI6.out.below hbb).bars.at) ((HI6.out.below hbb).src)).mono ?_; rintro e w7 ⟨hb, DF, eF, DT, eT, DZ, eZ, rfl, hl1, hl2, ho⟩; have HI7 := Lib.hid ((HI6.out.below hbb).below hb); have hb8 := new_below w7 (.cells #[.slice DF s.1.length eF, .slice DT s.2.length eT, .slice DZ Z.length eZ] 31); have HI8 := Lib.hid (HI7.out.below hb8); have HLO8 := Lib.hid (Nat.le_trans HLO.out (Nat.le_trans hbb.size (Nat.le_trans hb.size hb8.size))); have HBX := Lib.hid (((box_new w6 (a : Int) (.int .i64 (b : Int)) 108).kept hb).kept hb8); obtain ⟨_, k0, k1⟩ := HBX.out; have HX8 := Lib.hid (cel3_new w7 (.slice DF s.1.length eF) (.slice DT s.2.length eT) (.slice DZ Z.length eZ) 31); obtain ⟨f, t, z, hof, y1, y2, y3⟩ := ho.ownF; have HF8 := Lib.hid (hof.below hb8); have hz6 : (w6.alloc (.cells #[.int .i64 (a : Int), .int .i64 (b : Int)] 108)).heap.size = w6.heap.size + 1 := (by simp); have HLY := Lib.hid (show (w6.heap.size + 1 ≤ f.1 ∧ f.2 ≤ w7.heap.size) ∧ (w6.heap.size + 1 ≤ t.1 ∧ t.2 ≤ w7.heap.size) ∧ (w6.heap.size + 1 ≤ z.1 ∧ z.2 ≤ w7.heap.size) from by omega); have HLL := Lib.hid (And.intro hl1 hl2); obtain ⟨hq, _⟩ := gathR_ok (P := F.length) (by omega) (by omega) (by omega) HP.out.state HR.out; have hfl := hq.flen; have hsa := hq.small (v := (a : Int)) (by omega); have hsb := hq.small (v := (b : Int)) (by omega); rw [Int.toNat_natCast] at hsa hsb; obtain ⟨gF, rfl, g1', g2', hFr⟩ := hof.1.open_ (by omega); have hFr8 := own_below hFr hb8; have ha1 := (hFr8.cellAt a (by omega)).trans (intCells_get s.1 a (by omega)); have HFR := Lib.hid hFr8; have HG12 := Lib.hid (And.intro g1' g2'); have HQS := Lib.hid (And.intro hsa hsb); have HFL := Lib.hid hfl; obtain ⟨j0, j1, j2, _, _, _⟩ := HX8.out.cells; rw [HDA.out] at ha1; have hsla : (a : Int) < (s.1.length : Int) := (by omega); clear hof y1 y2 y3 hz6 hl1 hl2 hq hfl hsa hsb hFr hFr8 g1' g2' ho hb hb8 hbb v0 v1 v2 v3 v4 bc0 bc1)
          | (go_at_call 110; refine (specRange k c _).mono ?_; rintro e w9 ⟨rfl, rfl⟩; rw [HRG.out])
          | (go_at_call 39; refine (specIsPeb (F.length : Int) k l (some ⟨bb, boff, none⟩) cap AF AT AZ cF cT cZ lo hi F T Z _ HI0.out.bars.at HI0.out.src hn hF hT hZ HWF.out).mono ?_; rintro e w6 ⟨rfl, hb6⟩; rw [HB.out]; have HI6 := Lib.hid (HI0.out.below hb6); obtain ⟨_, v0, v1⟩ := HI6.out.gb; obtain ⟨v2, v3, v4, _, _, _⟩ := HI6.out.pb.cells; have hlo6 := hb6.size; have HLO := Lib.hid (show w.heap.size + 1 + 1 + 1 ≤ w6.heap.size by have := HS3.out; omega); obtain ⟨bc0, bc1⟩ := HBC.out w6 HI6.out; have nn1 : w.heap.size + 1 ≠ w6.heap.size := (by have := HLO.out; omega); have nn2 : w.heap.size ≠ w6.heap.size := (by have := HLO.out; omega); have nn3 : w.heap.size + 1 < w6.heap.size := (by have := HLO.out; omega); have nn4 : w.heap.size < w6.heap.size := (by have := HLO.out; omega); clear hlo6 hb6 g0 g1 x0 x1 x2))
        have hw8 : w7.heap.size < (w7.alloc (.cells #[.slice (some ⟨gF, 0, none⟩) s.1.length eF, .slice DT s.2.length eT, .slice DZ Z.length eZ] 31)).heap.size := by simp
        have hbxl : w.heap.size + 1 + 1 + 1 ≤ w7.heap.size := by have := HLY.out; have := HG12.out; have := HLO.out; omega
        have HBXL := Lib.hid hbxl
        obtain ⟨t', z', hn8, m1, m2, m3, m4, m5, m6⟩ := HF8.out.norm (B := w.heap.size + 3) (pb := w7.heap.size) (by omega) hw8 (by have := HLY.out; have := HLO.out; omega) (by have := HLY.out; have := HLO.out; omega) (.inr HLY.out.2.1.2) (.inr HLY.out.2.2.2)
        have HF9 := Lib.hid hn8
        have HPB := Lib.hid (And.intro m3 m4)
        have HLT := Lib.hid (And.intro m5 m6)
        have HLZ := Lib.hid (show w.heap.size + 3 ≤ f.1 ∧ w.heap.size + 3 ≤ t'.1 ∧ w.heap.size + 3 ≤ z'.1 ∧ gF < w7.heap.size ∧ f.2 ≤ w7.heap.size from ⟨by have := HLY.out; have := HLO.out; omega, m1, m2, by have := HLY.out; have := HG12.out; omega, HLY.out.1.2⟩)
        have HGW := Lib.hid (show w6.heap.size < gF from by have := HLY.out; have := HG12.out; omega)
        clear hbxl m1 m2 m3 m4 m5 m6 hn8 HF8 HLY
        clear ha1 j0 j1 j2 k0 k1
        generalize (w7.alloc (.cells #[.slice (some ⟨gF, 0, none⟩) s.1.length eF, .slice DT s.2.length eT, .slice DZ Z.length eZ] 31)) = w8 at *
        generalize hbx : w7.heap.size = bx at *
        have hw4 := within_set w8 gF a (.int .i64 (d1 - 1))
        have hdr : Below (w8.setCell ⟨gF, a, none⟩ (.int .i64 (d1 - 1))).heap.size (w8.setCell ⟨gF, a, none⟩ (.int .i64 (d1 - 1))) (w8.setCell ⟨gF, a, none⟩ (.int .i64 (d1 - 1))).drew := (Below.refl _ _).drew
        obtain ⟨o1, o2, o3, d1', d2', d3'⟩ := HF9.out
        have HXX := Lib.hid (And.intro d1' (And.intro d2' d3'))
        unfold Dis at d1' d2' d3'
        have hg12 := HG12.out
        have hly := HLZ.out
        have HT4 := Lib.hid ((o2.within hw4 (by omega)).within (within_of hdr) (.inr (Nat.zero_le _)))
        have HZ4 := Lib.hid ((o3.within hw4 (by omega)).within (within_of hdr) (.inr (Nat.zero_le _)))
        have HFR4 := Lib.hid (show World.ownsRow (w8.setCell ⟨gF, a, none⟩ (.int .i64 (d1 - 1))).drew 0 3 1 (.slice (some ⟨gF, 0, none⟩) (s.1.set a (d1 - 1)).length eF) (s.1.set a (d1 - 1)).length (intCells (s.1.set a (d1 - 1))) from by
          have h1 := (HFR.out.stored a (.int .i64 (d1 - 1))).1
          rw [intCells_set] at h1
          rw [List.length_set]
          exact own_below h1 hdr)
        have HX4 := Lib.hid ((HX8.out.within hw4 (by omega)).kept hdr)
        have HI4 := Lib.hid ((HI8.out.within hw4 (by have := HLO.out; omega) (by have := HHI.out; have := HLO.out; omega)).below hdr)
        have hs9 : (w8.setCell ⟨gF, a, none⟩ (.int .i64 (d1 - 1))).drew.heap.size = w8.heap.size := (by simp)
        have hb9 := HBX.out
        have hb9' := (hb9.within hw4 (by have := HGW.out; omega)).kept hdr
        have HBX4 := Lib.hid hb9'
        have hvi := (HFR.out.cellAt a (by have := HFL.out; omega)).trans (intCells_get s.1 a (by have := HFL.out; omega))
        rw [HDA.out] at hvi
        have hvf := HFR.out.frozenAt a
        have hsl : (a : Int) < (s.1.length : Int) := by have := HFL.out; omega
        obtain ⟨j0, j1, j2, _, _, _⟩ := HX8.out.cells
        have hsv : 0 ≤ d1 ∧ d1 ≤ k := by have := HQS.out; rw [HDA.out, HDB.out] at this; omega
        clear o1 o2 o3 d1' d2' d3' hw4 hdr hb9 hb9' hg12 hly
        go_region
        have HSZ := Lib.hid hs9
        clear hs9
        clear hvi hvf j0 j1 j2
        obtain ⟨m0, m1, m2, m3, m4, m5⟩ := HX4.out.cells
        have HTW := Lib.hid (show t'.1 ≤ ((w8.setCell ⟨gF, a, none⟩ (.int .i64 (d1 - 1))).drew).heap.size from by have := HLT.out; have := HSZ.out; omega)
        have HZV := Lib.hid (show z'.1 ≤ ((w8.setCell ⟨gF, a, none⟩ (.int .i64 (d1 - 1))).drew).heap.size from by have := HLT.out; have := HSZ.out; omega)
        have hpt : bx < t'.1 ∨ t'.2 ≤ bx := HPB.out.1
        have hpz : bx < z'.1 ∨ z'.2 ≤ bx := HPB.out.2
        have hTl : s.2.length ≤ 24 := by have := HLL.out.2; omega
        go_wp2_with (first
          | (at_builtin; refine wpList_pushR _ rfl _ _ rfl z'.1 z'.2 DZ eZ Z (nn : Int) rfl HZ6.out _ (by first | rfl | (simp only [World.size_setCell]; rfl)) (by omega) HZW.out ?_; intro A7 c7 w17 lo7 hi7 hr7 hor7 hw7; have HR7 := Lib.hid hr7; have HOR7 := Lib.hid hor7; have HW7 := Lib.hid hw7; have HX7 := Lib.hid (HX6.out.within hw7 hpz); have HXE := Lib.hid (HX7.out.set2 (.slice A7 (Z.length + 1) c7)); have HI17 := Lib.hid ((HI16.out.within hw7 (by have := HLO.out; have := HLZ.out; omega) (by have := HHI.out; have := HLO.out; have := HLZ.out; omega)).within (within_set w17 bx 2 (.slice A7 (Z.length + 1) c7)) (by have := HBXL.out; omega) (by have := HBXL.out; have := HHI.out; omega)); obtain ⟨r0, r1, r2, r3, r4, r5⟩ := HX7.out.cells; obtain ⟨z0, z1, z2, _, _, _⟩ := HXE.out.cells; obtain ⟨_, _, _, f0, f1, f2⟩ := HI17.out.rb.cells; have rr3 := ret3 HI17.out.rb (.slice (some ⟨gF, 0, none⟩) s.1.length eF) (.slice A5 (s.2.length + 1) c5) (.slice A7 (Z.length + 1) c7); obtain ⟨s0, s1, s2, _⟩ := rr3.1.cells; have HW := Lib.hid rr3.2; clear rr3 hr7 hor7 hw7)
          | (at_builtin; refine wpList_pushR _ rfl _ _ rfl t'.1 t'.2 DT eT s.2 (a : Int) rfl HT4.out _ (by first | rfl | (simp only [World.size_setCell]; rfl) | (show _ = Value.slice (some ⟨(w8.setCell _ _).heap.size, 0, none⟩) 1 1; simp only [World.size_setCell]; rfl)) (by omega) HTW.out ?_; intro A5 c5 w15 lo5 hi5 hr5 hor5 hw5; have HR5 := Lib.hid hr5; have HOR5 := Lib.hid hor5; have HW5 := Lib.hid hw5; have HX5 := Lib.hid (HX4.out.within hw5 hpt); have HX6 := Lib.hid (HX5.out.set1 (.slice A5 (s.2.length + 1) c5)); have HI16 := Lib.hid ((HI4.out.within hw5 (by have := HLO.out; have := HLZ.out; omega) (by have := HHI.out; have := HLO.out; have := HLZ.out; omega)).within (within_set w15 bx 1 (.slice A5 (s.2.length + 1) c5)) (by have := HBXL.out; omega) (by have := HBXL.out; have := HHI.out; omega)); have HZ6 := Lib.hid ((HZ4.out.within hw5 (by have := HXX.out.2.2; unfold Dis at this; omega)).within (within_set w15 bx 1 (.slice A5 (s.2.length + 1) c5)) (by omega)); have HZW := Lib.hid (show z'.1 ≤ (w15.setCell ⟨bx, 1, none⟩ (.slice A5 (s.2.length + 1) c5)).heap.size from by rw [World.size_setCell]; exact Nat.le_trans HZV.out hw5.size); obtain ⟨p0, p1, p2, p3, p4, p5⟩ := HX5.out.cells; obtain ⟨u0, u1, u2, u3, u4, u5⟩ := HX6.out.cells; clear hr5 hor5 hw5))
        rw [HPL.out]
        rw [Option.map_some, if_neg (fun e => c0 (HDA.out.symm.trans e))]
        rw [HDA.out]
        refine bodyPost_ret (v := .tuple #[pebV (some ⟨gF, 0, none⟩) s.1.length eF A5 (s.2.length + 1) c5 A7 (Z.length + 1) c7, .bool true]) ?_ rfl ?_
        · simp [results, Try.results34, go_sem, s0, s1, s2]
        · have hr5 := HR5.out
          have hr7 := HR7.out
          have hor5 := HOR5.out
          have hor7 := HOR7.out
          have w5w := HW5.out
          have w7w := HW7.out
          have xx := HXX.out
          have hz := HLZ.out
          have hbl := HBXL.out
          have q5 := within_set w15 bx 1 (.slice A5 (s.2.length + 1) c5)
          have q7 := within_set w17 bx 2 (.slice A7 (Z.length + 1) c7)
          have hw := HW.out
          have s5 := w5w.size
          have s6 := q5.size
          have s7 := w7w.size
          have s8 := q7.size
          have s9 := hw.size
          have g12 := HG12.out
          have hsz := HSZ.out
          have hhi := HF9.out.hi
          unfold Dis at xx
          have hgb : gF ≠ bx := by omega
          have hfl := (HFR4.out.lt gF rfl).2
          have hf8 := own_block (own_block (own_block (own_block (own_block HFR4.out (w5w.block gF hfl (by omega))) (q5.block gF (by omega) (by omega))) (w7w.block gF (by omega) (by omega))) (q7.block gF (by omega) (by omega))) (hw.block gF (by omega) (by omega))
          have ht8 := (((hr5.within q5 (by omega)).within w7w (by omega)).within q7 (by omega)).within hw (by omega)
          have hz8 := (hr7.within q7 (by omega)).within hw (by omega)
          have hof : OwnF _ f (lo5, hi5) (lo7, hi7) (some ⟨gF, 0, none⟩) eF A5 c5 A7 c7 (s.1.set a (d1 - 1)) (s.2 ++ [(a : Int)]) (Z ++ [(nn : Int)]) := ⟨⟨by show f.2 ≤ _; omega, .inr ⟨gF, rfl, g12.1, g12.2, own_rebase hf8 g12.1⟩⟩, ht8, hz8, by unfold Dis; show f.2 ≤ lo5 ∨ hi5 ≤ f.1; omega, by unfold Dis; show f.2 ≤ lo7 ∨ hi7 ≤ f.1; omega, by unfold Dis; show hi5 ≤ lo7 ∨ hi7 ≤ lo5; omega⟩
          have hg := HI17.out.bel
          exact ⟨_, _, _, _, _, _, by show _ = Ending.returned (.tuple #[pebV _ (s.1.set a (d1 - 1)).length _ _ (s.2 ++ [(a : Int)]).length _ _ (Z ++ [(nn : Int)]).length _, .bool true]); rw [List.length_set, List.length_append, List.length_append]; rfl, hof.own3 (lo := w.heap.size) ⟨by omega, hof.hi.1⟩ ⟨by show w.heap.size ≤ lo5; omega, hof.hi.2.1⟩ ⟨by show w.heap.size ≤ lo7; omega, hof.hi.2.2⟩ (Nat.le_refl _), within_on hg hw hg.size (.inl (by omega))⟩
end Go.Proofs.Ytdkpmaahinbhlaa
/- What spec.RunPebbles answers. No condition. -/
namespace Go.Proofs.Ytdkpmaahinbhlaa
open Go.RowKit

/-- What stands in the specification's run of the game: the graph's box, the result's box, the state's box. -/
structure RunS (w W : World) (P : Nat) (A : Option Addr) (cap : Nat) (l : List (Int × Int)) (pb lo hi : Nat) (AF AT AZ : Option Addr) (cF cT cZ : Nat) (R : List Int × List Int × List Int) : Prop where
  gb : Box W w.heap.size (P : Int) (.slice A l.length cap)
  rb : Cel3 W (w.heap.size + 1) 31 (.slice none 0 0) (.slice none 0 0) (.slice none 0 0)
  st : Cel3 W pb 31 (.slice AF R.1.length cF) (.slice AT R.2.1.length cT) (.slice AZ R.2.2.length cZ)
  own : Own3 W lo hi AF cF AT cT AZ cZ R.1 R.2.1 R.2.2
  bars : BarsIn W 0 w.heap.size A l
  bel : Below w.heap.size w W
  hlo : w.heap.size + 2 ≤ lo
  hpb : w.heap.size + 2 ≤ pb ∧ (pb < lo ∨ hi ≤ pb)
theorem RunS.put {w W W' : World} {P : Nat} {A : Option Addr} {cap : Nat} {l : List (Int × Int)} {pb lo hi : Nat} {AF AT AZ BF BT BZ : Option Addr} {cF cT cZ dF dT dZ : Nat} {R Q : List Int × List Int × List Int} (h : RunS w W P A cap l pb lo hi AF AT AZ cF cT cZ R)
    (ho : Own3 W' W.heap.size W'.heap.size BF dF BT dT BZ dZ Q.1 Q.2.1 Q.2.2) (hb : Below W.heap.size W W') :
    RunS w (((W'.setCell ⟨pb, 0, none⟩ (.slice BF Q.1.length dF)).setCell ⟨pb, 1, none⟩ (.slice BT Q.2.1.length dT)).setCell ⟨pb, 2, none⟩ (.slice BZ Q.2.2.length dZ)) P A cap l pb W.heap.size W'.heap.size BF BT BZ dF dT dZ Q := by
  obtain ⟨h1, h2, h3, _, h5, h6, h7, h8⟩ := h
  have hlt := h3.lt
  have r3 := ret3 (h3.kept hb) (.slice BF Q.1.length dF) (.slice BT Q.2.1.length dT) (.slice BZ Q.2.2.length dZ)
  have hs := h6.size
  have hs2 := hb.size
  exact ⟨(h1.kept hb).within r3.2 (by omega), (h2.kept hb).within r3.2 (by omega), r3.1, ho.within r3.2 (.inr (by omega)), (h5.within (within_of hb) (.inr (Nat.zero_le _))).within r3.2 (by omega), within_on (below_on h6 hb h6.size) r3.2 (by omega) (.inl (by omega)), by omega, by omega, .inl hlt⟩
theorem own3_hi {W : World} {lo hi : Nat} {AF AT AZ : Option Addr} {cF cT cZ : Nat} {F T Z : List Int} (h : Own3 W lo hi AF cF AT cT AZ cZ F T Z) : hi ≤ W.heap.size := by
  obtain ⟨_, _, _, _, _, _, _, _, _, _, _, _, h4⟩ := h
  exact h4
theorem runN_wf {P : Nat} {k c : Int} {l : List (Int × Int)} (h : newB (P : Int) k l = true) (h2 : rangeB k c = true) {n : Nat} (hn : n ≤ l.length) : WfI (runN P k c l n).1 := fun v hv => by
  have h3 := runN_at h h2 hn
  have h4 := h3.2.2.2.2.2 v hv
  have h5 := h3.2.1
  have h6 : (runN P k c l n).1.getD v 0 = 0 ∨ (runN P k c l n).1.getD v 0 = 1 ∨ (runN P k c l n).1.getD v 0 = 2 ∨ (runN P k c l n).1.getD v 0 = 3 := by omega
  unfold Wf
  rcases h6 with e | e | e | e <;> rw [e] <;> rfl
/-- The specification's next bar. -/
theorem specPlaRun {P : Nat} {k c : Int} {l : List (Int × Int)} (h : newB (P : Int) k l = true) (h2 : rangeB k c = true) {n : Nat} (hn : n < l.length) (A : Option Addr) (cap : Nat) (AF AT AZ : Option Addr) (cF cT cZ lo hi : Nat) (W : World) (hl : BarsAt W W.heap.size A l) (hp : Peb3 W lo hi AF AT AZ (runN P k c l n).1 (runN P k c l n).2.1 (runN P k c l n).2.2) :
    Calls Try.prog 34 #[.agg #[.int .i64 (P : Int), .slice A l.length cap], .int .i64 k, .int .i64 c, pebV AF (runN P k c l n).1.length cF AT (runN P k c l n).2.1.length cT AZ (runN P k c l n).2.2.length cZ, .int .i64 (n : Int)] W (fun e W' => ∃ r, PebOB W (runN P k c l (n + 1)).1 (runN P k c l (n + 1)).2.1 (runN P k c l (n + 1)).2.2 r e W') := by
  have hs := runN_step h h2 hn
  have hlen := runN_len h h2 (Nat.le_of_lt hn)
  have hG := (newB_is h).1.2.1
  refine (specPlaP P k c l A cap AF AT AZ cF cT cZ lo hi _ _ _ (n : Int) W hl hp (by omega) (by omega) (by omega) (by omega) (runN_wf h h2 (Nat.le_of_lt hn))).mono fun e W' he => ?_
  rw [hs.1] at he
  rw [hs.2]
  exact ⟨_, he⟩

set_option maxHeartbeats 4000000 in
set_option maxRecDepth 100000 in
theorem specRunP (p k c : Int) (l : List (Int × Int)) (A : Option Addr) (cap : Nat) (w : World) (hl : BarsAt w w.heap.size A l) (hn : l.length ≤ 1048576) :
    Calls Try.prog 17 #[.agg #[.int .i64 p, .slice A l.length cap], .int .i64 k, .int .i64 c] w (PebOB w (runV p k c l).1 (runV p k c l).2.1 (runV p k c l).2.2 (runB p k c l)) := by
  by_cases hb1 : newB p k l = true
  case neg =>
    have hb1' : newB p k l = false := by simpa using hb1
    have HR := Lib.hid (runV_no (c := c) (.inl hb1'))
    clear hb1
    rename newB p k l = false => hb1
    have HNW : ∀ W : World, BarsAt W W.heap.size A l → Calls Try.prog 37 #[.agg #[.int .i64 p, .slice A l.length cap], .int .i64 k] W (PebOB W (newF p k l) [] [] false) := fun W h => by have hc := specNewP p k l A cap W h hn; rw [hb1] at hc; exact hc
    clear hb1
    have W0 := Lib.hid (Below.refl w.heap.size w)
    have HB_0 := Lib.hid (bars_in hl)
    clear hl
    have Z1 := Lib.hid (within_alloc w (.cells #[.int .i64 p, (.slice A l.length cap)] 26)).size
    have W1 := Lib.hid (within_on W0.out (within_alloc w (.cells #[.int .i64 p, (.slice A l.length cap)] 26)) W0.out.size (.inr (Nat.le_refl _)))
    have HB_1 := Lib.hid (HB_0.out.within (within_alloc w (.cells #[.int .i64 p, (.slice A l.length cap)] 26)) (by omega))
    have Y1 := Lib.hid (show (w.alloc (.cells #[.int .i64 p, (.slice A l.length cap)] 26)).heap.size = w.heap.size + 1 by simp)
    have hnew := box_new w p (.slice A l.length cap) 26
    have BX_1 := Lib.hid hnew
    clear hnew
    have Z2 := Lib.hid (within_alloc (w.alloc (.cells #[.int .i64 p, (.slice A l.length cap)] 26)) (.cells #[(.slice none 0 0), (.slice none 0 0), (.slice none 0 0)] 31)).size
    have W2 := Lib.hid (within_on W1.out (within_alloc (w.alloc (.cells #[.int .i64 p, (.slice A l.length cap)] 26)) (.cells #[(.slice none 0 0), (.slice none 0 0), (.slice none 0 0)] 31)) W1.out.size (.inr (Nat.le_refl _)))
    have HB_2 := Lib.hid (HB_1.out.within (within_alloc (w.alloc (.cells #[.int .i64 p, (.slice A l.length cap)] 26)) (.cells #[(.slice none 0 0), (.slice none 0 0), (.slice none 0 0)] 31)) (by omega))
    have BX_2 := Lib.hid (BX_1.out.within (within_alloc (w.alloc (.cells #[.int .i64 p, (.slice A l.length cap)] 26)) (.cells #[(.slice none 0 0), (.slice none 0 0), (.slice none 0 0)] 31)) (by omega))
    have Y2 := Lib.hid (show ((w.alloc (.cells #[.int .i64 p, (.slice A l.length cap)] 26)).alloc (.cells #[(.slice none 0 0), (.slice none 0 0), (.slice none 0 0)] 31)).heap.size = (w.alloc (.cells #[.int .i64 p, (.slice A l.length cap)] 26)).heap.size + 1 by simp)
    have hnew := cel3_new (w.alloc (.cells #[.int .i64 p, (.slice A l.length cap)] 26)) (.slice none 0 0) (.slice none 0 0) (.slice none 0 0) 31
    rw [show (w.alloc (.cells #[.int .i64 p, (.slice A l.length cap)] 26)).heap.size = w.heap.size + 1 by simp] at hnew
    have GR_2 := Lib.hid hnew
    clear hnew
    go_enter Try.func17, Try.ntmps17
    obtain ⟨g0_0, g0_1, g0_2⟩ := BX_2.out
    go_wp2_with fail
    clear g0_0 g0_1 g0_2
    generalize ((w.alloc (.cells #[.int .i64 p, (.slice A l.length cap)] 26)).alloc (.cells #[(.slice none 0 0), (.slice none 0 0), (.slice none 0 0)] 31)) = w2 at *
    generalize (w.alloc (.cells #[.int .i64 p, (.slice A l.length cap)] 26)) = w1 at *
    refine (HNW _ HB_2.out.at).mono ?_
    rintro e w3 ⟨AF, cF, AT, cT, AZ, cZ, rfl, ho, hb⟩
    have Z3 := Lib.hid (within_of hb).size
    have W3 := Lib.hid (within_on W2.out (within_of hb) W2.out.size (.inr (Nat.le_refl _)))
    have HB_3 := Lib.hid (HB_2.out.within (within_of hb) (by omega))
    have BX_3 := Lib.hid (BX_2.out.within (within_of hb) (by omega))
    have GR_3 := Lib.hid (GR_2.out.within (within_of hb) (by omega))
    clear hb ho HNW
    have Z4 := Lib.hid (within_alloc w3 (.cells #[(.slice AF (newF p k l).length cF), (.slice AT 0 cT), (.slice AZ 0 cZ)] 31)).size
    have W4 := Lib.hid (within_on W3.out (within_alloc w3 (.cells #[(.slice AF (newF p k l).length cF), (.slice AT 0 cT), (.slice AZ 0 cZ)] 31)) W3.out.size (.inr (Nat.le_refl _)))
    have HB_4 := Lib.hid (HB_3.out.within (within_alloc w3 (.cells #[(.slice AF (newF p k l).length cF), (.slice AT 0 cT), (.slice AZ 0 cZ)] 31)) (by omega))
    have BX_4 := Lib.hid (BX_3.out.within (within_alloc w3 (.cells #[(.slice AF (newF p k l).length cF), (.slice AT 0 cT), (.slice AZ 0 cZ)] 31)) (by omega))
    have GR_4 := Lib.hid (GR_3.out.within (within_alloc w3 (.cells #[(.slice AF (newF p k l).length cF), (.slice AT 0 cT), (.slice AZ 0 cZ)] 31)) (by omega))
    have Y4 := Lib.hid (show (w3.alloc (.cells #[(.slice AF (newF p k l).length cF), (.slice AT 0 cT), (.slice AZ 0 cZ)] 31)).heap.size = w3.heap.size + 1 by simp)
    have hnew := cel3_new w3 (.slice AF (newF p k l).length cF) (.slice AT 0 cT) (.slice AZ 0 cZ) 31
    have BP_4 := Lib.hid hnew
    clear hnew
    obtain ⟨g1_0, g1_1, g1_2, g1_3, g1_4, g1_5⟩ := GR_4.out.cells
    have Z5 := Lib.hid ((ret3 GR_4.out (.slice none 0 0) (.slice none 0 0) (.slice none 0 0)).2).size
    have W5 := Lib.hid (within_on W4.out ((ret3 GR_4.out (.slice none 0 0) (.slice none 0 0) (.slice none 0 0)).2) W4.out.size (by have := Z1.out; have := Z2.out; have := Z3.out; have := Z4.out; have := Z5.out; have := Y1.out; have := Y2.out; have := Y4.out; omega))
    have HB_5 := Lib.hid (HB_4.out.within ((ret3 GR_4.out (.slice none 0 0) (.slice none 0 0) (.slice none 0 0)).2) (by have := Z1.out; have := Z2.out; have := Z3.out; have := Z4.out; have := Z5.out; have := Y1.out; have := Y2.out; have := Y4.out; omega))
    have BX_5 := Lib.hid (BX_4.out.within ((ret3 GR_4.out (.slice none 0 0) (.slice none 0 0) (.slice none 0 0)).2) (by have := Z1.out; have := Z2.out; have := Z3.out; have := Z4.out; have := Z5.out; have := Y1.out; have := Y2.out; have := Y4.out; omega))
    have GR_5 := Lib.hid ((ret3 GR_4.out (.slice none 0 0) (.slice none 0 0) (.slice none 0 0)).1)
    have BP_5 := Lib.hid (BP_4.out.within ((ret3 GR_4.out (.slice none 0 0) (.slice none 0 0) (.slice none 0 0)).2) (by have := Z1.out; have := Z2.out; have := Z3.out; have := Z4.out; have := Z5.out; have := Y1.out; have := Y2.out; have := Y4.out; omega))
    obtain ⟨g2_0, g2_1, g2_2, g2_3, g2_4, g2_5⟩ := GR_5.out.cells
    go_wp2_with fail
    generalize ((((w3.alloc (.cells #[(.slice AF (newF p k l).length cF), (.slice AT 0 cT), (.slice AZ 0 cZ)] 31)).setCell ⟨w.heap.size + 1, 0, none⟩ (.slice none 0 0)).setCell ⟨w.heap.size + 1, 1, none⟩ (.slice none 0 0)).setCell ⟨w.heap.size + 1, 2, none⟩ (.slice none 0 0)) = w5 at *
    generalize (w3.alloc (.cells #[(.slice AF (newF p k l).length cF), (.slice AT 0 cT), (.slice AZ 0 cZ)] 31)) = w4 at *
    refine bodyPost_ret (v := .tuple #[pebV none 0 0 none 0 0 none 0 0, .bool false]) ?_ rfl ?_
    · simp [results, Try.results17, go_sem, g2_0, g2_1, g2_2]
    · rw [HR.out.1, HR.out.2]
      exact ⟨none, 0, none, 0, none, 0, rfl, own3_nil _ _ W5.out.size _ _ _ _ _ _, W5.out⟩
  by_cases hb2 : rangeB k c = true
  case neg =>
    have hb2' : rangeB k c = false := by simpa using hb2
    have HR := Lib.hid (runV_no (p := p) (l := l) (.inr hb2'))
    have HRG := Lib.hid hb2'
    clear hb2 hb2'
    have HNW : ∀ W : World, BarsAt W W.heap.size A l → Calls Try.prog 37 #[.agg #[.int .i64 p, .slice A l.length cap], .int .i64 k] W (PebOB W (newF p k l) [] [] true) := fun W h => by have hc := specNewP p k l A cap W h hn; rw [hb1] at hc; exact hc
    clear hb1
    have W0 := Lib.hid (Below.refl w.heap.size w)
    have HB_0 := Lib.hid (bars_in hl)
    clear hl
    have Z1 := Lib.hid (within_alloc w (.cells #[.int .i64 p, (.slice A l.length cap)] 26)).size
    have W1 := Lib.hid (within_on W0.out (within_alloc w (.cells #[.int .i64 p, (.slice A l.length cap)] 26)) W0.out.size (.inr (Nat.le_refl _)))
    have HB_1 := Lib.hid (HB_0.out.within (within_alloc w (.cells #[.int .i64 p, (.slice A l.length cap)] 26)) (by omega))
    have Y1 := Lib.hid (show (w.alloc (.cells #[.int .i64 p, (.slice A l.length cap)] 26)).heap.size = w.heap.size + 1 by simp)
    have hnew := box_new w p (.slice A l.length cap) 26
    have BX_1 := Lib.hid hnew
    clear hnew
    have Z2 := Lib.hid (within_alloc (w.alloc (.cells #[.int .i64 p, (.slice A l.length cap)] 26)) (.cells #[(.slice none 0 0), (.slice none 0 0), (.slice none 0 0)] 31)).size
    have W2 := Lib.hid (within_on W1.out (within_alloc (w.alloc (.cells #[.int .i64 p, (.slice A l.length cap)] 26)) (.cells #[(.slice none 0 0), (.slice none 0 0), (.slice none 0 0)] 31)) W1.out.size (.inr (Nat.le_refl _)))
    have HB_2 := Lib.hid (HB_1.out.within (within_alloc (w.alloc (.cells #[.int .i64 p, (.slice A l.length cap)] 26)) (.cells #[(.slice none 0 0), (.slice none 0 0), (.slice none 0 0)] 31)) (by omega))
    have BX_2 := Lib.hid (BX_1.out.within (within_alloc (w.alloc (.cells #[.int .i64 p, (.slice A l.length cap)] 26)) (.cells #[(.slice none 0 0), (.slice none 0 0), (.slice none 0 0)] 31)) (by omega))
    have Y2 := Lib.hid (show ((w.alloc (.cells #[.int .i64 p, (.slice A l.length cap)] 26)).alloc (.cells #[(.slice none 0 0), (.slice none 0 0), (.slice none 0 0)] 31)).heap.size = (w.alloc (.cells #[.int .i64 p, (.slice A l.length cap)] 26)).heap.size + 1 by simp)
    have hnew := cel3_new (w.alloc (.cells #[.int .i64 p, (.slice A l.length cap)] 26)) (.slice none 0 0) (.slice none 0 0) (.slice none 0 0) 31
    rw [show (w.alloc (.cells #[.int .i64 p, (.slice A l.length cap)] 26)).heap.size = w.heap.size + 1 by simp] at hnew
    have GR_2 := Lib.hid hnew
    clear hnew
    go_enter Try.func17, Try.ntmps17
    obtain ⟨g0_0, g0_1, g0_2⟩ := BX_2.out
    go_wp2_with fail
    clear g0_0 g0_1 g0_2
    generalize ((w.alloc (.cells #[.int .i64 p, (.slice A l.length cap)] 26)).alloc (.cells #[(.slice none 0 0), (.slice none 0 0), (.slice none 0 0)] 31)) = w2 at *
    generalize (w.alloc (.cells #[.int .i64 p, (.slice A l.length cap)] 26)) = w1 at *
    refine (HNW _ HB_2.out.at).mono ?_
    rintro e w3 ⟨AF, cF, AT, cT, AZ, cZ, rfl, ho, hb⟩
    have Z3 := Lib.hid (within_of hb).size
    have W3 := Lib.hid (within_on W2.out (within_of hb) W2.out.size (.inr (Nat.le_refl _)))
    have HB_3 := Lib.hid (HB_2.out.within (within_of hb) (by omega))
    have BX_3 := Lib.hid (BX_2.out.within (within_of hb) (by omega))
    have GR_3 := Lib.hid (GR_2.out.within (within_of hb) (by omega))
    clear hb ho HNW
    have Z4 := Lib.hid (within_alloc w3 (.cells #[(.slice AF (newF p k l).length cF), (.slice AT 0 cT), (.slice AZ 0 cZ)] 31)).size
    have W4 := Lib.hid (within_on W3.out (within_alloc w3 (.cells #[(.slice AF (newF p k l).length cF), (.slice AT 0 cT), (.slice AZ 0 cZ)] 31)) W3.out.size (.inr (Nat.le_refl _)))
    have HB_4 := Lib.hid (HB_3.out.within (within_alloc w3 (.cells #[(.slice AF (newF p k l).length cF), (.slice AT 0 cT), (.slice AZ 0 cZ)] 31)) (by omega))
    have BX_4 := Lib.hid (BX_3.out.within (within_alloc w3 (.cells #[(.slice AF (newF p k l).length cF), (.slice AT 0 cT), (.slice AZ 0 cZ)] 31)) (by omega))
    have GR_4 := Lib.hid (GR_3.out.within (within_alloc w3 (.cells #[(.slice AF (newF p k l).length cF), (.slice AT 0 cT), (.slice AZ 0 cZ)] 31)) (by omega))
    have Y4 := Lib.hid (show (w3.alloc (.cells #[(.slice AF (newF p k l).length cF), (.slice AT 0 cT), (.slice AZ 0 cZ)] 31)).heap.size = w3.heap.size + 1 by simp)
    have hnew := cel3_new w3 (.slice AF (newF p k l).length cF) (.slice AT 0 cT) (.slice AZ 0 cZ) 31
    have BP_4 := Lib.hid hnew
    clear hnew
    obtain ⟨g1_0, g1_1, g1_2⟩ := BX_4.out
    go_wp2_with fail
    clear g1_0 g1_1 g1_2
    generalize (w3.alloc (.cells #[(.slice AF (newF p k l).length cF), (.slice AT 0 cT), (.slice AZ 0 cZ)] 31)) = w4 at *
    refine (specRange k c _).mono ?_
    rintro e w9 ⟨rfl, rfl⟩
    rw [HRG.out]
    obtain ⟨g2_0, g2_1, g2_2, g2_3, g2_4, g2_5⟩ := GR_4.out.cells
    have Z5 := Lib.hid ((ret3 GR_4.out (.slice none 0 0) (.slice none 0 0) (.slice none 0 0)).2).size
    have W5 := Lib.hid (within_on W4.out ((ret3 GR_4.out (.slice none 0 0) (.slice none 0 0) (.slice none 0 0)).2) W4.out.size (by have := Z1.out; have := Z2.out; have := Z3.out; have := Z4.out; have := Z5.out; have := Y1.out; have := Y2.out; have := Y4.out; omega))
    have HB_5 := Lib.hid (HB_4.out.within ((ret3 GR_4.out (.slice none 0 0) (.slice none 0 0) (.slice none 0 0)).2) (by have := Z1.out; have := Z2.out; have := Z3.out; have := Z4.out; have := Z5.out; have := Y1.out; have := Y2.out; have := Y4.out; omega))
    have BX_5 := Lib.hid (BX_4.out.within ((ret3 GR_4.out (.slice none 0 0) (.slice none 0 0) (.slice none 0 0)).2) (by have := Z1.out; have := Z2.out; have := Z3.out; have := Z4.out; have := Z5.out; have := Y1.out; have := Y2.out; have := Y4.out; omega))
    have GR_5 := Lib.hid ((ret3 GR_4.out (.slice none 0 0) (.slice none 0 0) (.slice none 0 0)).1)
    have BP_5 := Lib.hid (BP_4.out.within ((ret3 GR_4.out (.slice none 0 0) (.slice none 0 0) (.slice none 0 0)).2) (by have := Z1.out; have := Z2.out; have := Z3.out; have := Z4.out; have := Z5.out; have := Y1.out; have := Y2.out; have := Y4.out; omega))
    obtain ⟨g3_0, g3_1, g3_2, g3_3, g3_4, g3_5⟩ := GR_5.out.cells
    go_wp2_with fail
    generalize (((w4.setCell ⟨w.heap.size + 1, 0, none⟩ (.slice none 0 0)).setCell ⟨w.heap.size + 1, 1, none⟩ (.slice none 0 0)).setCell ⟨w.heap.size + 1, 2, none⟩ (.slice none 0 0)) = w5 at *
    refine bodyPost_ret (v := .tuple #[pebV none 0 0 none 0 0 none 0 0, .bool false]) ?_ rfl ?_
    · simp [results, Try.results17, go_sem, g3_0, g3_1, g3_2]
    · rw [HR.out.1, HR.out.2]
      exact ⟨none, 0, none, 0, none, 0, rfl, own3_nil _ _ W5.out.size _ _ _ _ _ _, W5.out⟩
  obtain ⟨P, rfl⟩ : ∃ P : Nat, p = (P : Int) := ⟨p.toNat, by have := (newB_is hb1).1.1; omega⟩
  have HP := Lib.hid (And.intro hb1 hb2)
  have HRG := Lib.hid hb2
  have HR := Lib.hid (runV_yes hb1 hb2)
  have hnf : newF (P : Int) k l = (runN P k c l 0).1 := by unfold newF; rw [if_pos hb1, Int.toNat_natCast]; rfl
  have HNW : ∀ W : World, BarsAt W W.heap.size A l → Calls Try.prog 37 #[.agg #[.int .i64 (P : Int), .slice A l.length cap], .int .i64 k] W (PebOB W (runN P k c l 0).1 (runN P k c l 0).2.1 (runN P k c l 0).2.2 true) := fun W h => by have hc := specNewP (P : Int) k l A cap W h hn; rw [hb1, hnf] at hc; exact hc
  clear hb1 hb2 hnf
  have W0 := Lib.hid (Below.refl w.heap.size w)
  have HB_0 := Lib.hid (bars_in hl)
  clear hl
  have Z1 := Lib.hid (within_alloc w (.cells #[.int .i64 (P : Int), (.slice A l.length cap)] 26)).size
  have W1 := Lib.hid (within_on W0.out (within_alloc w (.cells #[.int .i64 (P : Int), (.slice A l.length cap)] 26)) W0.out.size (.inr (Nat.le_refl _)))
  have HB_1 := Lib.hid (HB_0.out.within (within_alloc w (.cells #[.int .i64 (P : Int), (.slice A l.length cap)] 26)) (by omega))
  have Y1 := Lib.hid (show (w.alloc (.cells #[.int .i64 (P : Int), (.slice A l.length cap)] 26)).heap.size = w.heap.size + 1 by simp)
  have hnew := box_new w (P : Int) (.slice A l.length cap) 26
  have BX_1 := Lib.hid hnew
  clear hnew
  have Z2 := Lib.hid (within_alloc (w.alloc (.cells #[.int .i64 (P : Int), (.slice A l.length cap)] 26)) (.cells #[(.slice none 0 0), (.slice none 0 0), (.slice none 0 0)] 31)).size
  have W2 := Lib.hid (within_on W1.out (within_alloc (w.alloc (.cells #[.int .i64 (P : Int), (.slice A l.length cap)] 26)) (.cells #[(.slice none 0 0), (.slice none 0 0), (.slice none 0 0)] 31)) W1.out.size (.inr (Nat.le_refl _)))
  have HB_2 := Lib.hid (HB_1.out.within (within_alloc (w.alloc (.cells #[.int .i64 (P : Int), (.slice A l.length cap)] 26)) (.cells #[(.slice none 0 0), (.slice none 0 0), (.slice none 0 0)] 31)) (by omega))
  have BX_2 := Lib.hid (BX_1.out.within (within_alloc (w.alloc (.cells #[.int .i64 (P : Int), (.slice A l.length cap)] 26)) (.cells #[(.slice none 0 0), (.slice none 0 0), (.slice none 0 0)] 31)) (by omega))
  have Y2 := Lib.hid (show ((w.alloc (.cells #[.int .i64 (P : Int), (.slice A l.length cap)] 26)).alloc (.cells #[(.slice none 0 0), (.slice none 0 0), (.slice none 0 0)] 31)).heap.size = (w.alloc (.cells #[.int .i64 (P : Int), (.slice A l.length cap)] 26)).heap.size + 1 by simp)
  have hnew := cel3_new (w.alloc (.cells #[.int .i64 (P : Int), (.slice A l.length cap)] 26)) (.slice none 0 0) (.slice none 0 0) (.slice none 0 0) 31
  rw [show (w.alloc (.cells #[.int .i64 (P : Int), (.slice A l.length cap)] 26)).heap.size = w.heap.size + 1 by simp] at hnew
  have GR_2 := Lib.hid hnew
  clear hnew
  go_enter Try.func17, Try.ntmps17
  obtain ⟨g0_0, g0_1, g0_2⟩ := BX_2.out
  go_wp2_with fail
  clear g0_0 g0_1 g0_2
  generalize ((w.alloc (.cells #[.int .i64 (P : Int), (.slice A l.length cap)] 26)).alloc (.cells #[(.slice none 0 0), (.slice none 0 0), (.slice none 0 0)] 31)) = w2 at *
  generalize (w.alloc (.cells #[.int .i64 (P : Int), (.slice A l.length cap)] 26)) = w1 at *
  refine (HNW _ HB_2.out.at).mono ?_
  rintro e w3 ⟨AF, cF, AT, cT, AZ, cZ, rfl, ho, hb⟩
  have Z3 := Lib.hid (within_of hb).size
  have W3 := Lib.hid (within_on W2.out (within_of hb) W2.out.size (.inr (Nat.le_refl _)))
  have HB_3 := Lib.hid (HB_2.out.within (within_of hb) (by omega))
  have BX_3 := Lib.hid (BX_2.out.within (within_of hb) (by omega))
  have GR_3 := Lib.hid (GR_2.out.within (within_of hb) (by omega))
  have OP_3 := Lib.hid (ho)
  clear hb HNW
  clear ho
  have Z4 := Lib.hid (within_alloc w3 (.cells #[(.slice AF (runN P k c l 0).1.length cF), (.slice AT (runN P k c l 0).2.1.length cT), (.slice AZ (runN P k c l 0).2.2.length cZ)] 31)).size
  have W4 := Lib.hid (within_on W3.out (within_alloc w3 (.cells #[(.slice AF (runN P k c l 0).1.length cF), (.slice AT (runN P k c l 0).2.1.length cT), (.slice AZ (runN P k c l 0).2.2.length cZ)] 31)) W3.out.size (.inr (Nat.le_refl _)))
  have HB_4 := Lib.hid (HB_3.out.within (within_alloc w3 (.cells #[(.slice AF (runN P k c l 0).1.length cF), (.slice AT (runN P k c l 0).2.1.length cT), (.slice AZ (runN P k c l 0).2.2.length cZ)] 31)) (by omega))
  have BX_4 := Lib.hid (BX_3.out.within (within_alloc w3 (.cells #[(.slice AF (runN P k c l 0).1.length cF), (.slice AT (runN P k c l 0).2.1.length cT), (.slice AZ (runN P k c l 0).2.2.length cZ)] 31)) (by omega))
  have GR_4 := Lib.hid (GR_3.out.within (within_alloc w3 (.cells #[(.slice AF (runN P k c l 0).1.length cF), (.slice AT (runN P k c l 0).2.1.length cT), (.slice AZ (runN P k c l 0).2.2.length cZ)] 31)) (by omega))
  have OP_4 := Lib.hid (OP_3.out.within (within_alloc w3 (.cells #[(.slice AF (runN P k c l 0).1.length cF), (.slice AT (runN P k c l 0).2.1.length cT), (.slice AZ (runN P k c l 0).2.2.length cZ)] 31)) (by omega))
  have Y4 := Lib.hid (show (w3.alloc (.cells #[(.slice AF (runN P k c l 0).1.length cF), (.slice AT (runN P k c l 0).2.1.length cT), (.slice AZ (runN P k c l 0).2.2.length cZ)] 31)).heap.size = w3.heap.size + 1 by simp)
  have hnew := cel3_new w3 (.slice AF (runN P k c l 0).1.length cF) (.slice AT (runN P k c l 0).2.1.length cT) (.slice AZ (runN P k c l 0).2.2.length cZ) 31
  have BP_4 := Lib.hid hnew
  clear hnew
  obtain ⟨g1_0, g1_1, g1_2⟩ := BX_4.out
  go_wp2_with fail
  clear g1_0 g1_1 g1_2
  generalize (w3.alloc (.cells #[(.slice AF (runN P k c l 0).1.length cF), (.slice AT (runN P k c l 0).2.1.length cT), (.slice AZ (runN P k c l 0).2.2.length cZ)] 31)) = w4 at *
  refine (specRange k c _).mono ?_
  rintro e w9 ⟨rfl, rfl⟩
  rw [HRG.out]
  have HN := Lib.hid (show RunS w w4 P A cap l w3.heap.size w2.heap.size w3.heap.size AF AT AZ cF cT cZ (runN P k c l 0) from ⟨BX_4.out, GR_4.out, BP_4.out, OP_4.out, HB_4.out, W4.out, (by have := Z1.out; have := Z2.out; have := Z3.out; have := Z4.out; have := Y1.out; have := Y2.out; have := Y4.out; omega), (by have := Z1.out; have := Z2.out; have := Z3.out; have := Z4.out; have := Y1.out; have := Y2.out; have := Y4.out; omega), .inr (Nat.le_refl _)⟩)
  go_wp2_with fail
  go_loopw [10] (fun i wr => ∃ j : Nat, j ≤ l.length ∧ i = .int .i64 j ∧ ∃ lo hi AF AT AZ cF cT cZ, RunS w wr P A cap l w3.heap.size lo hi AF AT AZ cF cT cZ (runN P k c l j)) (fun i _ => l.length - (intOf i).toNat)
  case atStart => exact ⟨0, Nat.zero_le _, rfl, _, _, _, _, _, _, _, _, HN.out⟩
  case round =>
    obtain ⟨j, hj, rfl, lo, hi, AF, AT, AZ, cF, cT, cZ, hst⟩ := hrel
    have HS := Lib.hid hst
    obtain ⟨_, g1, g2⟩ := hst.gb
    obtain ⟨c0, c1, c2, f0, f1, f2⟩ := hst.st.cells
    clear hst
    by_cases hlt : j < l.length
    · have hji : (j : Int) < (l.length : Int) := by omega
      go_wp2_with (go_at_call 34; refine (specPlaRun HP.out.1 HP.out.2 hlt A cap AF AT AZ cF cT cZ lo hi _ HS.out.bars.at HS.out.own.reads).mono ?_; rintro e w5 ⟨r, BF, dF, BT, dT, BZ, dZ, rfl, ho, hb⟩; have HS2 := Lib.hid (HS.out.put ho hb); obtain ⟨d0, d1, d2, h0, h1, h2⟩ := (HS.out.st.kept hb).cells; clear ho hb)
      go_roundw
      case rel => exact ⟨j + 1, by omega, by go_num, _, _, _, _, _, _, _, _, HS2.out⟩
      case measure => simp [intOf]; omega
    · obtain rfl : j = l.length := by omega
      obtain ⟨r0, r1, r2, q0, q1, q2⟩ := HS.out.rb.cells
      have h3 := ret3 HS.out.rb (.slice AF (runN P k c l l.length).1.length cF) (.slice AT (runN P k c l l.length).2.1.length cT) (.slice AZ (runN P k c l l.length).2.2.length cZ)
      obtain ⟨s0, s1, s2, _⟩ := h3.1.cells
      have HW := Lib.hid h3.2
      clear h3
      go_wp2_with fail
      refine bodyPost_ret (v := .tuple #[pebV AF (runN P k c l l.length).1.length cF AT (runN P k c l l.length).2.1.length cT AZ (runN P k c l l.length).2.2.length cZ, .bool true]) ?_ rfl ?_
      · simp [results, Try.results17, go_sem, s0, s1, s2]
      · have hlo := HS.out.hlo
        have hz := HW.out.size
        have hown := HS.out.own.within HW.out (.inr hlo)
        have hhi := own3_hi HS.out.own
        have hbs := HS.out.bel.size
        rw [HR.out.1, HR.out.2]
        exact ⟨AF, cF, AT, cT, AZ, cZ, rfl, hown.widen (by omega) (Nat.le_trans hhi hz) (Nat.le_refl _), within_on HS.out.bel HW.out hbs (.inl (by omega))⟩
end Go.Proofs.Ytdkpmaahinbhlaa
/- What RankOf answers, as a number. No program. No condition. -/
namespace Go.Proofs.Ytdkpmaahinbhlaa
open Go.RowKit

/-- What RankOf answers. -/
noncomputable def rankV (p k c : Int) (l : List (Int × Int)) : Int := if runB p k c l = true then (((runV p k c l).2.2.length : Nat) : Int) else -1
end Go.Proofs.Ytdkpmaahinbhlaa
/- What spec.RankOf answers. No condition. -/
namespace Go.Proofs.Ytdkpmaahinbhlaa
open Go.RowKit

set_option maxHeartbeats 2000000 in
set_option maxRecDepth 100000 in
theorem specRank (p k c : Int) (l : List (Int × Int)) (A : Option Addr) (cap : Nat) (w : World) (hl : BarsAt w w.heap.size A l) (hn : l.length ≤ 1048576) :
    Calls Try.prog 46 #[.agg #[.int .i64 p, .slice A l.length cap], .int .i64 k, .int .i64 c] w fun e w' => e = .returned (.int .i64 (rankV p k c l)) ∧ Below w.heap.size w w' := by
  obtain ⟨rv, hrv⟩ : ∃ rv, rankV p k c l = rv := ⟨_, rfl⟩
  rw [hrv]
  unfold rankV at hrv
  cases hb : runB p k c l with
  | false =>
    have HRV := Lib.hid (show rv = -1 from by rw [← hrv, hb]; rfl)
    clear hrv
    have HNW : ∀ W : World, BarsAt W W.heap.size A l → Calls Try.prog 17 #[.agg #[.int .i64 p, .slice A l.length cap], .int .i64 k, .int .i64 c] W (PebOB W (runV p k c l).1 (runV p k c l).2.1 (runV p k c l).2.2 false) := fun W h => by have hc := specRunP p k c l A cap W h hn; rw [hb] at hc; exact hc
    clear hb
    have W0 := Lib.hid (Below.refl w.heap.size w)
    have HB_0 := Lib.hid (bars_in hl)
    clear hl
    have Z1 := Lib.hid (within_alloc w (.cells #[.int .i64 p, (.slice A l.length cap)] 26)).size
    have W1 := Lib.hid (within_on W0.out (within_alloc w (.cells #[.int .i64 p, (.slice A l.length cap)] 26)) W0.out.size (.inr (Nat.le_refl _)))
    have HB_1 := Lib.hid (HB_0.out.within (within_alloc w (.cells #[.int .i64 p, (.slice A l.length cap)] 26)) (by omega))
    have Y1 := Lib.hid (show (w.alloc (.cells #[.int .i64 p, (.slice A l.length cap)] 26)).heap.size = w.heap.size + 1 by simp)
    have hnew := box_new w p (.slice A l.length cap) 26
    have BX_1 := Lib.hid hnew
    clear hnew
    go_enter Try.func46, Try.ntmps46
    obtain ⟨g0_0, g0_1, g0_2⟩ := BX_1.out
    go_wp2_with fail
    clear g0_0 g0_1 g0_2
    generalize (w.alloc (.cells #[.int .i64 p, (.slice A l.length cap)] 26)) = w1 at *
    refine (HNW _ HB_1.out.at).mono ?_
    rintro e w2 ⟨AF, cF, AT, cT, AZ, cZ, rfl, ho, hb⟩
    have Z2 := Lib.hid (within_of hb).size
    have W2 := Lib.hid (within_on W1.out (within_of hb) W1.out.size (.inr (Nat.le_refl _)))
    have HB_2 := Lib.hid (HB_1.out.within (within_of hb) (by omega))
    have BX_2 := Lib.hid (BX_1.out.within (within_of hb) (by omega))
    have OP_2 := Lib.hid (ho)
    clear ho hb
    have Z3 := Lib.hid (within_alloc w2 (.cells #[(.slice AF (runV p k c l).1.length cF), (.slice AT (runV p k c l).2.1.length cT), (.slice AZ (runV p k c l).2.2.length cZ)] 31)).size
    have W3 := Lib.hid (within_on W2.out (within_alloc w2 (.cells #[(.slice AF (runV p k c l).1.length cF), (.slice AT (runV p k c l).2.1.length cT), (.slice AZ (runV p k c l).2.2.length cZ)] 31)) W2.out.size (.inr (Nat.le_refl _)))
    have HB_3 := Lib.hid (HB_2.out.within (within_alloc w2 (.cells #[(.slice AF (runV p k c l).1.length cF), (.slice AT (runV p k c l).2.1.length cT), (.slice AZ (runV p k c l).2.2.length cZ)] 31)) (by omega))
    have BX_3 := Lib.hid (BX_2.out.within (within_alloc w2 (.cells #[(.slice AF (runV p k c l).1.length cF), (.slice AT (runV p k c l).2.1.length cT), (.slice AZ (runV p k c l).2.2.length cZ)] 31)) (by omega))
    have OP_3 := Lib.hid (OP_2.out.within (within_alloc w2 (.cells #[(.slice AF (runV p k c l).1.length cF), (.slice AT (runV p k c l).2.1.length cT), (.slice AZ (runV p k c l).2.2.length cZ)] 31)) (by omega))
    have Y3 := Lib.hid (show (w2.alloc (.cells #[(.slice AF (runV p k c l).1.length cF), (.slice AT (runV p k c l).2.1.length cT), (.slice AZ (runV p k c l).2.2.length cZ)] 31)).heap.size = w2.heap.size + 1 by simp)
    have hnew := cel3_new w2 (.slice AF (runV p k c l).1.length cF) (.slice AT (runV p k c l).2.1.length cT) (.slice AZ (runV p k c l).2.2.length cZ) 31
    have BP_3 := Lib.hid hnew
    clear hnew
    obtain ⟨g1_0, g1_1, g1_2, g1_3, g1_4, g1_5⟩ := BP_3.out.cells
    go_wp2_with fail
    clear g1_0 g1_1 g1_2 g1_3 g1_4 g1_5
    generalize (w2.alloc (.cells #[(.slice AF (runV p k c l).1.length cF), (.slice AT (runV p k c l).2.1.length cT), (.slice AZ (runV p k c l).2.2.length cZ)] 31)) = w3 at *
    go_ret
    exact ⟨by rw [HRV.out]; rfl, W3.out⟩
  | true =>
    have HRV := Lib.hid (show rv = (((runV p k c l).2.2.length : Nat) : Int) from by rw [← hrv, hb]; rfl)
    clear hrv
    have HNW : ∀ W : World, BarsAt W W.heap.size A l → Calls Try.prog 17 #[.agg #[.int .i64 p, .slice A l.length cap], .int .i64 k, .int .i64 c] W (PebOB W (runV p k c l).1 (runV p k c l).2.1 (runV p k c l).2.2 true) := fun W h => by have hc := specRunP p k c l A cap W h hn; rw [hb] at hc; exact hc
    clear hb
    have W0 := Lib.hid (Below.refl w.heap.size w)
    have HB_0 := Lib.hid (bars_in hl)
    clear hl
    have Z1 := Lib.hid (within_alloc w (.cells #[.int .i64 p, (.slice A l.length cap)] 26)).size
    have W1 := Lib.hid (within_on W0.out (within_alloc w (.cells #[.int .i64 p, (.slice A l.length cap)] 26)) W0.out.size (.inr (Nat.le_refl _)))
    have HB_1 := Lib.hid (HB_0.out.within (within_alloc w (.cells #[.int .i64 p, (.slice A l.length cap)] 26)) (by omega))
    have Y1 := Lib.hid (show (w.alloc (.cells #[.int .i64 p, (.slice A l.length cap)] 26)).heap.size = w.heap.size + 1 by simp)
    have hnew := box_new w p (.slice A l.length cap) 26
    have BX_1 := Lib.hid hnew
    clear hnew
    go_enter Try.func46, Try.ntmps46
    obtain ⟨g0_0, g0_1, g0_2⟩ := BX_1.out
    go_wp2_with fail
    clear g0_0 g0_1 g0_2
    generalize (w.alloc (.cells #[.int .i64 p, (.slice A l.length cap)] 26)) = w1 at *
    refine (HNW _ HB_1.out.at).mono ?_
    rintro e w2 ⟨AF, cF, AT, cT, AZ, cZ, rfl, ho, hb⟩
    have Z2 := Lib.hid (within_of hb).size
    have W2 := Lib.hid (within_on W1.out (within_of hb) W1.out.size (.inr (Nat.le_refl _)))
    have HB_2 := Lib.hid (HB_1.out.within (within_of hb) (by omega))
    have BX_2 := Lib.hid (BX_1.out.within (within_of hb) (by omega))
    have OP_2 := Lib.hid (ho)
    clear ho hb
    have Z3 := Lib.hid (within_alloc w2 (.cells #[(.slice AF (runV p k c l).1.length cF), (.slice AT (runV p k c l).2.1.length cT), (.slice AZ (runV p k c l).2.2.length cZ)] 31)).size
    have W3 := Lib.hid (within_on W2.out (within_alloc w2 (.cells #[(.slice AF (runV p k c l).1.length cF), (.slice AT (runV p k c l).2.1.length cT), (.slice AZ (runV p k c l).2.2.length cZ)] 31)) W2.out.size (.inr (Nat.le_refl _)))
    have HB_3 := Lib.hid (HB_2.out.within (within_alloc w2 (.cells #[(.slice AF (runV p k c l).1.length cF), (.slice AT (runV p k c l).2.1.length cT), (.slice AZ (runV p k c l).2.2.length cZ)] 31)) (by omega))
    have BX_3 := Lib.hid (BX_2.out.within (within_alloc w2 (.cells #[(.slice AF (runV p k c l).1.length cF), (.slice AT (runV p k c l).2.1.length cT), (.slice AZ (runV p k c l).2.2.length cZ)] 31)) (by omega))
    have OP_3 := Lib.hid (OP_2.out.within (within_alloc w2 (.cells #[(.slice AF (runV p k c l).1.length cF), (.slice AT (runV p k c l).2.1.length cT), (.slice AZ (runV p k c l).2.2.length cZ)] 31)) (by omega))
    have Y3 := Lib.hid (show (w2.alloc (.cells #[(.slice AF (runV p k c l).1.length cF), (.slice AT (runV p k c l).2.1.length cT), (.slice AZ (runV p k c l).2.2.length cZ)] 31)).heap.size = w2.heap.size + 1 by simp)
    have hnew := cel3_new w2 (.slice AF (runV p k c l).1.length cF) (.slice AT (runV p k c l).2.1.length cT) (.slice AZ (runV p k c l).2.2.length cZ) 31
    have BP_3 := Lib.hid hnew
    clear hnew
    obtain ⟨g1_0, g1_1, g1_2, g1_3, g1_4, g1_5⟩ := BP_3.out.cells
    go_wp2_with fail
    clear g1_0 g1_1 g1_2 g1_3 g1_4 g1_5
    generalize (w2.alloc (.cells #[(.slice AF (runV p k c l).1.length cF), (.slice AT (runV p k c l).2.1.length cT), (.slice AZ (runV p k c l).2.2.length cZ)] 31)) = w3 at *
    go_ret
    exact ⟨by rw [HRV.out]; rfl, W3.out⟩
end Go.Proofs.Ytdkpmaahinbhlaa
/- Whether a framework has the rank that the count allows. No condition. -/
namespace Go.Proofs.Ytdkpmaahinbhlaa
open Go.RowKit
noncomputable def genB (p : Int) (l m : List (Int × Int)) : Bool := isFB p l m && (frkV p l m == rankV p 2 3 l)
end Go.Proofs.Ytdkpmaahinbhlaa
/- What spec.IsGenericHere answers. No condition. -/
namespace Go.Proofs.Ytdkpmaahinbhlaa
open Go.RowKit

set_option maxHeartbeats 4000000 in
set_option maxRecDepth 100000 in
theorem specGen (p : Int) (l m : List (Int × Int)) (A : Option Addr) (ca : Nat) (B : Option Addr) (cb : Nat) (lo hi : Nat) (w : World) (hl : FwIn w lo hi A l B m) (hn : l.length + m.length ≤ 1048576) :
    Calls Try.prog 103 #[.agg #[.int .i64 p, .slice A l.length ca, .slice B m.length cb]] w fun e w' => e = .returned (.bool (genB p l m)) ∧ Below w.heap.size w w' := by
  have HC := Lib.hid (fun (W : World) (h : FwIn W lo hi A l B m) => specIsF p l m A ca B cb lo hi W h hn)
  have HK := Lib.hid (fun (W : World) (h : FwIn W lo hi A l B m) => specFrk p l m A ca B cb lo hi W h hn)
  have HQ := Lib.hid (fun (W : World) (h : BarsAt W W.heap.size A l) => specRank p 2 3 l A ca W h (by omega))
  by_cases hg : isFB p l m = true
  · have HV := Lib.hid (show genB p l m = (frkV p l m == rankV p 2 3 l) from by unfold genB; rw [hg]; rfl)
    rw [hg] at HC
    clear hg
    obtain ⟨R, hR⟩ : ∃ R, (frkV p l m == rankV p 2 3 l) = R := ⟨_, rfl⟩
    rw [hR] at HV
    have HRR := Lib.hid hR
    obtain ⟨u, hu⟩ : ∃ u, frkV p l m = u := ⟨_, rfl⟩
    rw [hu] at HK hR
    clear HRR hu
    obtain ⟨v, hv⟩ : ∃ v, rankV p 2 3 l = v := ⟨_, rfl⟩
    rw [hv] at HQ hR
    clear hv
    have HF := Lib.hid (FbI.new (p := p) (ca := ca) (cb := cb) hl 97)
    clear hl
    go_enter Try.func103, Try.ntmps103
    go_wp2_with fail
    generalize (w.alloc (.cells #[.int .i64 p, .slice A l.length ca, .slice B m.length cb] 97)) = w1 at *
    have HR0 := Lib.hid (HF.out.below (show Below w1.heap.size w1 w1.drew from (Below.refl _ _).drew))
    clear HF
    refine wp_region_held_drew (S := (fun W' : World => W'.cell? ⟨w.heap.size, 0, none⟩ = some (.int .i64 p) ∧ W'.cell? ⟨w.heap.size, 1, none⟩ = some (.slice A l.length ca) ∧ W'.cell? ⟨w.heap.size, 2, none⟩ = some (.slice B m.length cb))) (by kernel_rfl) ?_ (fun hHeld => ?_)
    · exact ⟨HR0.out.x.2.1, HR0.out.x.2.2.1, HR0.out.x.2.2.2⟩
    generalize w1.drew = WD at *
    refine wpAnyH_take (i := 0) (v := .agg #[.int .i64 p, .slice A l.length ca, .slice B m.length cb]) rfl (by kernel_rfl) (by kernel_rfl) (by kernel_rfl) (fun _ _ _ h => h) (Or.inl ⟨by kernel_rfl, fun w hSw => by (try dsimp only at hSw); go_simp; all_goals first | omega | exact IntWalk.i64_in _ (by omega)⟩) (by assumption) ?_
    try simp only [Act.put, List.getElem_toArray, List.getElem_cons_zero, List.setIfInBounds_toArray, List.set_cons_zero, List.set_cons_succ]
    refine wpAnyH_ready (rs := [1]) (by kernel_rfl) (by simp) (AllReadyH.cons rfl (fun K hK => ?_) AllReadyH.nil)
    go_simp
    go_at_call 173
    refine (HC.out _ HR0.out.f).mono ?_
    rintro e wz1 ⟨rfl, hb⟩
    have HR1 := Lib.hid (HR0.out.below hb)
    clear hb
    refine hK.out _ _ ⟨HR1.out.x.2.1, HR1.out.x.2.2.1, HR1.out.x.2.2.2⟩ (fun hHeld => ?_)
    clear hK K
    try simp only [Act.put, List.getElem_toArray, List.getElem_cons_zero, List.getElem_cons_succ, List.setIfInBounds_toArray, List.set_cons_zero, List.set_cons_succ]
    refine wpAnyH_take (i := 2) (v := .bool true) rfl (by kernel_rfl) (by kernel_rfl) (by kernel_rfl) (fun _ _ _ h => h) (Or.inl ⟨by kernel_rfl, fun w hSw => by (try dsimp only at hSw); go_simp; all_goals first | omega | exact IntWalk.i64_in _ (by omega)⟩) (by assumption) ?_
    try simp only [Act.put, List.getElem_toArray, List.getElem_cons_zero, List.getElem_cons_succ, List.setIfInBounds_toArray, List.set_cons_zero, List.set_cons_succ]
    refine wpAnyH_take (i := 3) (v := .agg #[.int .i64 p, .slice A l.length ca, .slice B m.length cb]) rfl (by kernel_rfl) (by kernel_rfl) (by kernel_rfl) (fun _ _ _ h => h) (Or.inl ⟨by kernel_rfl, fun w hSw => by (try dsimp only at hSw); go_simp; all_goals first | omega | exact IntWalk.i64_in _ (by omega)⟩) (by assumption) ?_
    try simp only [Act.put, List.getElem_toArray, List.getElem_cons_zero, List.getElem_cons_succ, List.setIfInBounds_toArray, List.set_cons_zero, List.set_cons_succ]
    refine wpAnyH_take (i := 5) (v := .pointer (some ⟨w.heap.size, 0, none⟩)) rfl (by kernel_rfl) (by kernel_rfl) (by kernel_rfl) (fun _ _ _ h => h) (Or.inl ⟨by kernel_rfl, fun w hSw => by (try dsimp only at hSw); go_simp; all_goals first | omega | exact IntWalk.i64_in _ (by omega)⟩) (by assumption) ?_
    try simp only [Act.put, List.getElem_toArray, List.getElem_cons_zero, List.getElem_cons_succ, List.setIfInBounds_toArray, List.set_cons_zero, List.set_cons_succ]
    refine wpAnyH_take (i := 6) (v := .agg #[.int .i64 p, .slice A l.length ca]) rfl (by kernel_rfl) (by kernel_rfl) (by kernel_rfl) (fun _ _ _ h => h) (Or.inl ⟨by kernel_rfl, fun w hSw => by (try dsimp only at hSw); go_simp; all_goals first | omega | exact IntWalk.i64_in _ (by omega)⟩) (by assumption) ?_
    try simp only [Act.put, List.getElem_toArray, List.getElem_cons_zero, List.getElem_cons_succ, List.setIfInBounds_toArray, List.set_cons_zero, List.set_cons_succ]
    refine wpAnyH_ready (rs := [4]) (by kernel_rfl) (by simp) (AllReadyH.cons rfl (fun K hK => ?_) AllReadyH.nil)
    go_simp
    go_at_call 95
    refine (HK.out _ HR1.out.f).mono ?_
    rintro e wz2 ⟨rfl, hb⟩
    have HR2 := Lib.hid (HR1.out.below hb)
    clear hb
    refine hK.out _ _ ⟨HR2.out.x.2.1, HR2.out.x.2.2.1, HR2.out.x.2.2.2⟩ (fun hHeld => ?_)
    clear hK K
    try simp only [Act.put, List.getElem_toArray, List.getElem_cons_zero, List.getElem_cons_succ, List.setIfInBounds_toArray, List.set_cons_zero, List.set_cons_succ]
    refine wpAnyH_ready (rs := [7]) (by kernel_rfl) (by simp) (AllReadyH.cons rfl (fun K hK => ?_) AllReadyH.nil)
    go_simp
    go_at_call 46
    refine (HQ.out _ HR2.out.f.b.at).mono ?_
    rintro e wz3 ⟨rfl, hb⟩
    have HR3 := Lib.hid (HR2.out.below hb)
    clear hb
    refine hK.out _ _ ⟨HR3.out.x.2.1, HR3.out.x.2.2.1, HR3.out.x.2.2.2⟩ (fun hHeld => ?_)
    clear hK K
    try simp only [Act.put, List.getElem_toArray, List.getElem_cons_zero, List.getElem_cons_succ, List.setIfInBounds_toArray, List.set_cons_zero, List.set_cons_succ]
    refine wpAnyH_take (i := 8) (v := .bool R) rfl (by kernel_rfl) (by kernel_rfl) (by kernel_rfl) (fun _ _ _ h => h) (Or.inl ⟨by kernel_rfl, fun w hSw => by (try dsimp only at hSw); go_simp; all_goals first | omega | exact IntWalk.i64_in _ (by omega)⟩) (by assumption) ?_
    try simp only [Act.put, List.getElem_toArray, List.getElem_cons_zero, List.getElem_cons_succ, List.setIfInBounds_toArray, List.set_cons_zero, List.set_cons_succ]
    refine wpAnyH_take (i := 9) (v := .bool R) rfl (by kernel_rfl) (by kernel_rfl) (by kernel_rfl) (fun _ _ _ h => h) (Or.inl ⟨by kernel_rfl, fun w hSw => by (try dsimp only at hSw); go_simp; all_goals first | omega | exact IntWalk.i64_in _ (by omega)⟩) (by assumption) ?_
    try simp only [Act.put, List.getElem_toArray, List.getElem_cons_zero, List.getElem_cons_succ, List.setIfInBounds_toArray, List.set_cons_zero, List.set_cons_succ]
    refine wpAnyH_ready (rs := [10]) (by kernel_rfl) (by simp) (AllReadyH.cons rfl (fun K hK => ?_) AllReadyH.nil)
    go_simp
    refine hK.out _ _ ⟨HR3.out.x.2.1, HR3.out.x.2.2.1, HR3.out.x.2.2.2⟩ (fun hHeld => ?_)
    clear hK K
    try simp only [Act.put, List.getElem_toArray, List.getElem_cons_zero, List.getElem_cons_succ, List.setIfInBounds_toArray, List.set_cons_zero, List.set_cons_succ]
    refine wpAnyH_done (by kernel_rfl) ?_ _
    clear hHeld
    go_wp2_with fail
    go_ret
    exact ⟨by rw [HV.out]; rfl, HR3.out.b⟩
  · have hgf : isFB p l m = false := by simpa using hg
    have HV := Lib.hid (show genB p l m = false from by unfold genB; rw [hgf]; rfl)
    rw [hgf] at HC
    clear hg hgf
    have HF := Lib.hid (FbI.new (p := p) (ca := ca) (cb := cb) hl 97)
    clear hl
    go_enter Try.func103, Try.ntmps103
    go_wp2_with fail
    generalize (w.alloc (.cells #[.int .i64 p, .slice A l.length ca, .slice B m.length cb] 97)) = w1 at *
    have HR0 := Lib.hid (HF.out.below (show Below w1.heap.size w1 w1.drew from (Below.refl _ _).drew))
    clear HF
    refine wp_region_held_drew (S := (fun W' : World => W'.cell? ⟨w.heap.size, 0, none⟩ = some (.int .i64 p) ∧ W'.cell? ⟨w.heap.size, 1, none⟩ = some (.slice A l.length ca) ∧ W'.cell? ⟨w.heap.size, 2, none⟩ = some (.slice B m.length cb))) (by kernel_rfl) ?_ (fun hHeld => ?_)
    · exact ⟨HR0.out.x.2.1, HR0.out.x.2.2.1, HR0.out.x.2.2.2⟩
    generalize w1.drew = WD at *
    refine wpAnyH_take (i := 0) (v := .agg #[.int .i64 p, .slice A l.length ca, .slice B m.length cb]) rfl (by kernel_rfl) (by kernel_rfl) (by kernel_rfl) (fun _ _ _ h => h) (Or.inl ⟨by kernel_rfl, fun w hSw => by (try dsimp only at hSw); go_simp; all_goals first | omega | exact IntWalk.i64_in _ (by omega)⟩) (by assumption) ?_
    try simp only [Act.put, List.getElem_toArray, List.getElem_cons_zero, List.setIfInBounds_toArray, List.set_cons_zero, List.set_cons_succ]
    refine wpAnyH_ready (rs := [1]) (by kernel_rfl) (by simp) (AllReadyH.cons rfl (fun K hK => ?_) AllReadyH.nil)
    go_simp
    go_at_call 173
    refine (HC.out _ HR0.out.f).mono ?_
    rintro e wz1 ⟨rfl, hb⟩
    have HR1 := Lib.hid (HR0.out.below hb)
    clear hb
    refine hK.out _ _ ⟨HR1.out.x.2.1, HR1.out.x.2.2.1, HR1.out.x.2.2.2⟩ (fun hHeld => ?_)
    clear hK K
    try simp only [Act.put, List.getElem_toArray, List.getElem_cons_zero, List.getElem_cons_succ, List.setIfInBounds_toArray, List.set_cons_zero, List.set_cons_succ]
    refine wpAnyH_take (i := 2) (v := .bool false) rfl (by kernel_rfl) (by kernel_rfl) (by kernel_rfl) (fun _ _ _ h => h) (Or.inl ⟨by kernel_rfl, fun w hSw => by (try dsimp only at hSw); go_simp; all_goals first | omega | exact IntWalk.i64_in _ (by omega)⟩) (by assumption) ?_
    try simp only [Act.put, List.getElem_toArray, List.getElem_cons_zero, List.getElem_cons_succ, List.setIfInBounds_toArray, List.set_cons_zero, List.set_cons_succ]
    refine wpAnyH_take (i := 3) (v := undef) rfl (by kernel_rfl) (by kernel_rfl) (by kernel_rfl) (fun _ _ _ h => h) (Or.inr ⟨by kernel_rfl, rfl⟩) (by assumption) ?_
    try simp only [Act.put, List.getElem_toArray, List.getElem_cons_zero, List.getElem_cons_succ, List.setIfInBounds_toArray, List.set_cons_zero, List.set_cons_succ]
    refine wpAnyH_take (i := 4) (v := undef) rfl (by kernel_rfl) (by kernel_rfl) (by kernel_rfl) (fun _ _ _ h => h) (Or.inr ⟨by kernel_rfl, rfl⟩) (by assumption) ?_
    try simp only [Act.put, List.getElem_toArray, List.getElem_cons_zero, List.getElem_cons_succ, List.setIfInBounds_toArray, List.set_cons_zero, List.set_cons_succ]
    refine wpAnyH_take (i := 5) (v := undef) rfl (by kernel_rfl) (by kernel_rfl) (by kernel_rfl) (fun _ _ _ h => h) (Or.inr ⟨by kernel_rfl, rfl⟩) (by assumption) ?_
    try simp only [Act.put, List.getElem_toArray, List.getElem_cons_zero, List.getElem_cons_succ, List.setIfInBounds_toArray, List.set_cons_zero, List.set_cons_succ]
    refine wpAnyH_take (i := 6) (v := undef) rfl (by kernel_rfl) (by kernel_rfl) (by kernel_rfl) (fun _ _ _ h => h) (Or.inr ⟨by kernel_rfl, rfl⟩) (by assumption) ?_
    try simp only [Act.put, List.getElem_toArray, List.getElem_cons_zero, List.getElem_cons_succ, List.setIfInBounds_toArray, List.set_cons_zero, List.set_cons_succ]
    refine wpAnyH_take (i := 7) (v := undef) rfl (by kernel_rfl) (by kernel_rfl) (by kernel_rfl) (fun _ _ _ h => h) (Or.inr ⟨by kernel_rfl, rfl⟩) (by assumption) ?_
    try simp only [Act.put, List.getElem_toArray, List.getElem_cons_zero, List.getElem_cons_succ, List.setIfInBounds_toArray, List.set_cons_zero, List.set_cons_succ]
    refine wpAnyH_take (i := 8) (v := undef) rfl (by kernel_rfl) (by kernel_rfl) (by kernel_rfl) (fun _ _ _ h => h) (Or.inr ⟨by kernel_rfl, rfl⟩) (by assumption) ?_
    try simp only [Act.put, List.getElem_toArray, List.getElem_cons_zero, List.getElem_cons_succ, List.setIfInBounds_toArray, List.set_cons_zero, List.set_cons_succ]
    refine wpAnyH_take (i := 9) (v := .bool false) rfl (by kernel_rfl) (by kernel_rfl) (by kernel_rfl) (fun _ _ _ h => h) (Or.inl ⟨by kernel_rfl, fun w hSw => by (try dsimp only at hSw); go_simp; all_goals first | omega | exact IntWalk.i64_in _ (by omega)⟩) (by assumption) ?_
    try simp only [Act.put, List.getElem_toArray, List.getElem_cons_zero, List.getElem_cons_succ, List.setIfInBounds_toArray, List.set_cons_zero, List.set_cons_succ]
    refine wpAnyH_ready (rs := [10]) (by kernel_rfl) (by simp) (AllReadyH.cons rfl (fun K hK => ?_) AllReadyH.nil)
    go_simp
    refine hK.out _ _ ⟨HR1.out.x.2.1, HR1.out.x.2.2.1, HR1.out.x.2.2.2⟩ (fun hHeld => ?_)
    clear hK K
    try simp only [Act.put, List.getElem_toArray, List.getElem_cons_zero, List.getElem_cons_succ, List.setIfInBounds_toArray, List.set_cons_zero, List.set_cons_succ]
    refine wpAnyH_done (by kernel_rfl) ?_ _
    clear hHeld
    go_wp2_with fail
    go_ret
    exact ⟨by rw [HV.out]; rfl, HR1.out.b⟩
end Go.Proofs.Ytdkpmaahinbhlaa
/- What (*Pebbles).pull does: a search by breadth for a free pebble, and the path turned round. No condition. -/
namespace Go.Proofs.Ytdkpmaahinbhlaa
open Go.RowKit

set_option maxHeartbeats 8000000 in
set_option maxRecDepth 100000 in
theorem pull_c (P : Nat) (k0 : Int) (l : List (Int × Int)) (A : Option Addr) (cap pb : Nat) (f t z : Nat × Nat) (AF AT AZ : Option Addr) (cF cT cZ : Nat) (F T Z : List Int) (a b : Int) (gT : Nat) (w : World) (hS : PebS P k0 (plE l Z) F T) (hP : 1 ≤ P ∧ P ≤ 8) (hk0 : k0 ≤ 3) (hn : l.length ≤ 24) (hz24 : Z.length ≤ 24)
    (hZ : ∀ i, i < Z.length → 0 ≤ Z.getD i 0 ∧ Z.getD i 0 < (l.length : Int)) (ha : 0 ≤ a ∧ a < (P : Int)) (hb : 0 ≤ b ∧ b < (P : Int)) (hl : BarsAt w w.heap.size A l) (hst : Cel3 w pb 31 (.slice AF F.length cF) (.slice AT T.length cT) (.slice AZ Z.length cZ)) (ho : OwnF w f t z AF cF AT cT AZ cZ F T Z) (hgT : 0 < T.length → AT = some ⟨gT, 0, none⟩) (hpf : pb < f.1 ∨ f.2 ≤ pb) (hpt : pb < t.1 ∨ t.2 ≤ pb) :
    Calls Try.prog 192 #[.pointer (some ⟨pb, 0, none⟩), .agg #[.int .i64 (P : Int), .slice A l.length cap], .int .i64 a, .int .i64 b] w (PullP w f t z AF cF AT cT AZ cZ (plE l Z) F T Z a b) := by
  have hFl := hS.flen
  have hTl : T.length = Z.length := by rw [hS.ends.len, plE_len]
  obtain ⟨gF, rfl, _, _⟩ := ho.fst (by omega)
  have hhi := ho.hi
  have HE := Lib.hid (show ∀ i, i < Z.length → (plE l Z).getD i (0, 0) = l.getD (Z.getD i 0).toNat (0, 0) from fun i hi => plE_get l Z i hi)
  have HG := Lib.hid (fun k => bfs_good (T := T) hS.ends ha.1 ha.2 k)
  have HS := Lib.hid hS
  have HZ := Lib.hid hZ
  have HGT := Lib.hid hgT
  have HEL := Lib.hid (plE_len l Z)
  generalize plE l Z = E at *
  have HI := Lib.hid (show PullI w (((w.alloc (.cells #[.int .i64 (P : Int), .slice A l.length cap] 26)).alloc (.cells #[.pointer none, .pointer none, .pointer none, .pointer none, .pointer none, .pointer none, .pointer none, .pointer none] 210)).alloc (.cells #[.int .i64 a] 3)) pb f t z (P : Int) A cap l (some ⟨gF, 0, none⟩) cF AT cT AZ cZ F T Z a gT [(a, 0)] [(a, 0)] (.slice (some ⟨w.heap.size + 1 + 1, 0, none⟩) 1 1) from by
    have b1 := new_below w (.cells #[.int .i64 (P : Int), .slice A l.length cap] 26)
    have b2 := new_below (w.alloc (.cells #[.int .i64 (P : Int), .slice A l.length cap] 26)) (.cells #[.pointer none, .pointer none, .pointer none, .pointer none, .pointer none, .pointer none, .pointer none, .pointer none] 210)
    have b3 := new_below ((w.alloc (.cells #[.int .i64 (P : Int), .slice A l.length cap] 26)).alloc (.cells #[.pointer none, .pointer none, .pointer none, .pointer none, .pointer none, .pointer none, .pointer none, .pointer none] 210)) (.cells #[.int .i64 a] 3)
    have s1 : (w.alloc (.cells #[.int .i64 (P : Int), .slice A l.length cap] 26)).heap.size = w.heap.size + 1 := by simp
    have s2 : ((w.alloc (.cells #[.int .i64 (P : Int), .slice A l.length cap] 26)).alloc (.cells #[.pointer none, .pointer none, .pointer none, .pointer none, .pointer none, .pointer none, .pointer none, .pointer none] 210)).heap.size = w.heap.size + 1 + 1 := by simp
    have hball := below_on (below_on b1 b2 b1.size) b3 (by omega)
    have hr := World.ownsRow_lit (base := w.heap.size + 1 + 1) (e := 3) (size := 1) ((w.alloc (.cells #[.int .i64 (P : Int), .slice A l.length cap] 26)).alloc (.cells #[.pointer none, .pointer none, .pointer none, .pointer none, .pointer none, .pointer none, .pointer none, .pointer none] 210)) #[.int .i64 a] 1 (by omega) (by unfold maxLen; omega) (by simp)
    rw [s2] at hr
    have ha1 := heap_alloc_new (w.alloc (.cells #[.int .i64 (P : Int), .slice A l.length cap] 26)) (.cells #[.pointer none, .pointer none, .pointer none, .pointer none, .pointer none, .pointer none, .pointer none, .pointer none] 210)
    rw [s1] at ha1
    have hae : (arrL gT a [(a, 0)]) = [.pointer none, .pointer none, .pointer none, .pointer none, .pointer none, .pointer none, .pointer none, .pointer none] := by
      have h0 : ∀ v : Int, arrV gT a [(a, 0)] v = .pointer none := fun v => arrV_none (by by_cases e : v = a; exact .inr e; exact .inl (by simpa using e))
      unfold arrL
      simp only [h0]
      rfl
    exact ⟨hst.within (within_of hball) (.inr (Nat.zero_le _)), ho.below hball, ((box_new w (P : Int) (.slice A l.length cap) 26).kept b2).kept b3, (bars_in hl).within (within_of hball) (.inr (Nat.zero_le _)), by rw [hae]; exact (b3.block _ (by omega)).trans ha1, hr, hball, hst.lt, hhi.1, hhi.2.1, hhi.2.2⟩)
  clear hS hZ hgT hst ho hl
  go_enter Try.func192, Try.ntmps192
  go_wp2_with fail
  generalize (((w.alloc (.cells #[.int .i64 (P : Int), .slice A l.length cap] 26)).alloc (.cells #[.pointer none, .pointer none, .pointer none, .pointer none, .pointer none, .pointer none, .pointer none, .pointer none] 210)).alloc (.cells #[.int .i64 a] 3)) = w1 at *
  go_loopw [10, 11] (fun qv i wr => ∃ k : Nat, k ≤ (bfs E T a k).length ∧ i = .int .i64 k ∧ (∀ y ∈ (bfs E T a k).take k, givesB F a b y = false) ∧ PullI w wr pb f t z (P : Int) A cap l (some ⟨gF, 0, none⟩) cF AT cT AZ cZ F T Z a gT (bfs E T a k) (bfs E T a k) qv) (fun _ i _ => 9 - (intOf i).toNat)
  case atStart => exact ⟨0, Nat.zero_le _, rfl, fun y hy => (by simp at hy), HI.out⟩
  case round =>
    clear HI
    obtain ⟨k, hk, rfl, hno, hin⟩ := hrel
    have HIN := Lib.hid hin
    have HNO := Lib.hid hno
    have hshort := (HG.out k).short
    obtain ⟨A', c', rfl⟩ := own_shape hin.row
    clear hno
    by_cases hlt : k < (bfs E T a k).length
    · have hki : (k : Int) < ((bfs E T a k).length : Int) := by omega
      obtain ⟨gq, rfl⟩ : ∃ gq, A' = some ⟨gq, 0, none⟩ := by
        rcases hin.row.2 with ⟨_, e0⟩ | ⟨g, _, _, e, _⟩
        · omega
        · cases e
          exact ⟨g, rfl⟩
      have hq := (hin.row.cellAt k (show k < (bfs E T a k).length * 1 by omega)).trans (intCells_get ((bfs E T a k).map Prod.fst) k (by simpa using hlt))
      rw [map_fst_getD _ k hlt] at hq
      have hrg := (HG.out k).range ha k hlt
      have HFI := Lib.hid (fun hg : givesB F a b ((bfs E T a k).getD k (0, 0)) = true => find_impl k hlt (by omega) HNO.out hg)
      have HNX := Lib.hid (fun hg : givesB F a b ((bfs E T a k).getD k (0, 0)) = false => no_step hlt HNO.out hg)
      have HSC := Lib.hid (show bfs E T a (k + 1) = scanN E T ((bfs E T a k).getD k (0, 0)).1 (bfs E T a k) E.length by rw [bfs_succ, if_pos hlt])
      have HMEM := Lib.hid (getD_mem_fst _ k hlt)
      obtain ⟨gc0, gc1, gc2, _, _, _⟩ := hin.st.cells
      have hgb : givesB F a b ((bfs E T a k).getD k (0, 0)) = (decide (((bfs E T a k).getD k (0, 0)).1 ≠ a) && decide (((bfs E T a k).getD k (0, 0)).1 ≠ b) && decide (0 < F.getD ((bfs E T a k).getD k (0, 0)).1.toNat 0)) := rfl
      obtain ⟨fb, fo, hfb, hfc⟩ := row_at hin.own.reads.f (by omega)
      cases hfb
      obtain ⟨x, hx⟩ : ∃ x, (bfs E T a k).getD k (0, 0) = x := ⟨_, rfl⟩
      rw [hx] at hq hrg HFI HNX HSC HMEM hgb
      obtain ⟨v, i⟩ := x
      simp only at hq hrg hgb
      obtain ⟨n, rfl⟩ : ∃ n : Nat, v = (n : Int) := ⟨v.toNat, by omega⟩
      rw [Int.toNat_natCast] at hgb
      have hnF : (n : Int) < (F.length : Int) := by omega
      have hnP : n < P := by omega
      have hfn := hfc n (by omega)
      rw [Nat.zero_add] at hfn
      have HFC := Lib.hid hfc
      have HX := Lib.hid hx
      clear hfc hx
      by_cases hg : givesB F a b ((n : Int), i) = true
      · rw [hg] at hgb
        have hgb' := hgb.symm
        simp only [Bool.and_eq_true, decide_eq_true_eq] at hgb'
        obtain ⟨⟨g1, g2⟩, g3⟩ := hgb'
        obtain ⟨q1, r, hQ⟩ := HFI.out hg
        have hpk := (HG.out k).path
        have hTpos : 0 < T.length := by
          obtain ⟨_, _, _, _, _, _, hiE, _⟩ := hpk.at HMEM.out g1
          have := HEL.out
          omega
        obtain ⟨d, hd⟩ : ∃ d, d = F.getD n 0 := ⟨_, rfl⟩
        obtain ⟨d2, hd2⟩ : ∃ d2, d2 = F.getD a.toNat 0 := ⟨_, rfl⟩
        rw [← hd] at g3 hfn
        obtain ⟨gF', gT', e1, e2, b1, b3, hst3⟩ := hin.own.open_ (by omega) hTpos
        cases e1
        have e3 := HGT.out hTpos
        rw [e2] at e3
        cases e3
        cases e2
        obtain ⟨_, hf2⟩ := hst3.cellF n (by omega)
        have hst4 := hst3.setF n (d - 1)
        have han : a.toNat ≠ n := by omega
        have haF : a.toNat < F.length := by omega
        obtain ⟨hf3, hf4⟩ := hst4.cellF a.toNat (by rw [List.length_set]; omega)
        rw [set_getD_ne _ _ _ _ _ han, ← hd2] at hf3
        have hst5 := hst4.setF a.toNat (d2 + 1)
        have hw1 := within_set wr gF n (.int .i64 (d - 1))
        have hw2 := within_set (wr.setCell ⟨gF, n, none⟩ (.int .i64 (d - 1))) gF a.toNat (.int .i64 (d2 + 1))
        have hlo := hin.low
        have hc1 := (hin.st.within hw1 (by omega)).cells.1
        have harr := (hw2.block _ (Nat.lt_of_lt_of_le (Array.getElem?_eq_some_iff.1 hin.arr).1 hw1.size) (by omega)).trans ((hw1.block _ (Array.getElem?_eq_some_iff.1 hin.arr).1 (by omega)).trans hin.arr)
        have hrb1 := (Array.getElem?_eq_some_iff.1 harr).1
        have hmove : (F.set n (d - 1)).set a.toNat (d2 + 1) = movF F a (n : Int) := by unfold movF; rw [Int.toNat_natCast, hd, hd2]
        rw [hmove] at hst5
        have HST5 := Lib.hid hst5
        have HARR := Lib.hid harr
        have HWW := Lib.hid (And.intro hw1 hw2)
        have HBB := Lib.hid (show (f.1 ≤ gF ∧ gF < f.2) ∧ (t.1 ≤ gT ∧ gT < t.2) from ⟨b1, b3⟩)
        have HDS := Lib.hid hin.own.2.2
        have HTI := Lib.hid (show TurnI P E T a (bfs E T a k) (turnQ E a (bfsQ E T a).reverse (n : Int) T) (n : Int) T from by
          have e0 : bfs E T a k = ((bfs E T a k).take k ++ [((n : Int), i)]) ++ (bfs E T a k).drop (k + 1) := by rw [← HX.out, ← take_snoc_getD _ _ hlt, List.take_append_drop]
          have hnd := (HG.out (max E.length 8)).path.nodup (show bfs E T a (max E.length 8) = (bfs E T a k).take k ++ ((n : Int), i) :: r from hQ)
          have hp1 : PathQ P E T a ((bfs E T a k).take k ++ [((n : Int), i)]) := PathQ.pre (r := (bfs E T a k).drop (k + 1)) (by rw [← e0]; exact hpk) (by simp)
          have := TurnI.start (r := (bfs E T a k).drop (k + 1)) HS.out.ends hp1 (show (n : Int) ∈ _ by simp)
          rw [← e0] at this
          rw [hQ, turn_prefix (x := ((n : Int), i)) T hnd]
          exact this)
        have HFM := Lib.hid (show findM E a b (F, T) = some (movF F a (n : Int), turnQ E a (bfsQ E T a).reverse (n : Int) T) by
          show Option.map _ ((bfsQ E T a).find? (givesB F a b)) = _
          rw [q1]
          rfl)
        have hfv := HS.out.small (v := (n : Int)) (by omega)
        have hfa := HS.out.small (v := a) ha
        rw [Int.toNat_natCast, ← hd] at hfv
        rw [← hd2] at hfa
        have hai : (a.toNat : Int) = a := by omega
        obtain ⟨an, han2⟩ : ∃ an : Nat, a.toNat = an := ⟨_, rfl⟩
        rw [han2] at hai hf3 hf4 HST5 HARR HWW han haF
        subst hai
        have haF2 : (an : Int) < (F.length : Int) := by omega
        clear hd hd2
        have e4 : ((n : Int) != (an : Int)) = true := by simpa using g1
        have e5 : ((n : Int) != b) = true := by simpa using g2
        have g3d : decide (0 < d) = true := by simpa using g3
        clear g1 g2 hQ q1 hpk hst3 hst4 hst5 harr hw1 hw2 hmove hgb hg hin
        go_wp2_with fail
        have HCE := Lib.hid (show ∀ x ∈ bfs E T (an : Int) k, x.1 ≠ (an : Int) → ((wr.setCell ⟨gF, n, none⟩ (.int .i64 (d - 1))).setCell ⟨gF, an, none⟩ (.int .i64 (d2 + 1))).cell? ⟨w.heap.size + 1, x.1.toNat, none⟩ = some (.pointer (some ⟨gT, x.2, none⟩)) from fun x hx hxa => by
          obtain ⟨_, _, _, _, _, _, _, _, _, h6, h7, _⟩ := (HG.out k).path.at (List.mem_map_of_mem hx) hxa
          have e := arrL_get gT (an : Int) (bfs E T an k) x.1.toNat (by omega)
          rw [show ((x.1.toNat : Nat) : Int) = x.1 by omega, arrV_at (HG.out k).path hx hxa] at e
          exact (cell_of_row _ _ _ _ _ _ HARR.out).trans (by simpa using e))
        refine (turnPath_c P E (movF F an n) T Z _ an n (bfs E T an k) (w.heap.size + 1) 0 gF cF gT cT cZ z.1 z.2 AZ _ HST5.out HTI.out (by omega) HCE.out (by have := HBB.out; have := HIN.out.low; omega) (Array.getElem?_eq_some_iff.1 HARR.out).1).mono ?_
        rintro e6 w6 ⟨rfl, hst6, hw6⟩
        have HST6 := Lib.hid hst6
        have HW6 := Lib.hid hw6
        clear hst6 hw6
        go_wp2_with fail
        go_ret
        have hbl := HIN.out.bel
        have hlow := HIN.out.low
        have hbb := HBB.out
        have hsz1 := HWW.out.1.size
        have hsz2 := HWW.out.2.size
        have hsz6 := HW6.out.size
        have hszb := hbl.size
        obtain ⟨oz, od1, od2, od3⟩ := HDS.out
        unfold Dis at od1 od2 od3
        have oz6 := ((oz.within HWW.out.1 (by omega)).within HWW.out.2 (by omega)).within HW6.out (by omega)
        exact ⟨(((Within2.of (within_of hbl) (.inl (Nat.le_refl 0))).trans (Within2.of HWW.out.1 (by omega))).trans (Within2.of HWW.out.2 (by omega))).trans (Within2.of HW6.out (by omega)), .inr ⟨_, rfl, HFM.out, HST6.out.ownF hbb.1 hbb.2 (by omega) (by omega) oz6 (by unfold Dis; omega) (by unfold Dis; omega) (by unfold Dis; omega)⟩⟩
      · have hgf : givesB F a b ((n : Int), i) = false := by simpa using hg
        have HNX2 := Lib.hid (HNX.out hgf)
        have HGS := Lib.hid (fun j (hj : j ≤ E.length) => (HG.out k).scan HS.out.ends HMEM.out j hj)
        obtain ⟨d, hd⟩ : ∃ d, F.getD n 0 = d := ⟨_, rfl⟩
        rw [hd] at hgb hfn
        have hcase : ((n : Int) != a) = false ∨ (((n : Int) != a) = true ∧ ((n : Int) != b) = false) ∨ (((n : Int) != a) = true ∧ ((n : Int) != b) = true ∧ decide (0 < d) = false) := by
          by_cases k1 : (n : Int) = a
          · exact .inl (by simpa using k1)
          · by_cases k2 : (n : Int) = b
            · exact .inr (.inl ⟨by simpa using k1, by simpa using k2⟩)
            · rw [hgf] at hgb
              exact .inr (.inr ⟨by simpa using k1, by simpa using k2, by simpa [k1, k2] using hgb.symm⟩)
        have hst := HIN.out.st
        obtain ⟨hc0, hc1, hc2, _, _, _⟩ := hst.cells
        clear hgb hg hin hd hst gc0 gc1 gc2
        rcases hcase with c1 | ⟨c1, c2⟩ | ⟨c1, c2, c3⟩
        all_goals (
          go_wp2_with fail
          clear hc0 hc1 hc2
          go_loopw [10, 71] (fun qv jv wr' => ∃ j : Nat, j ≤ Z.length ∧ jv = .int .i64 j ∧ PullI w wr' pb f t z (P : Int) A cap l (some ⟨gF, 0, none⟩) cF AT cT AZ cZ F T Z a gT (scanN E T (n : Int) (bfs E T a k) j) (scanN E T (n : Int) (bfs E T a k) j) qv) (fun _ jv _ => Z.length - (intOf jv).toNat)
          case atStart => exact ⟨0, Nat.zero_le _, rfl, HIN.out⟩
          case round =>
            obtain ⟨j, hj, rfl, hin2⟩ := hrel
            have HIN2 := Lib.hid hin2
            obtain ⟨A2, c2', rfl⟩ := own_shape hin2.row
            obtain ⟨hc0, hc1, hc2, _, _, _⟩ := hin2.st.cells
            by_cases hlt2 : j < Z.length
            · have hji : (j : Int) < (Z.length : Int) := by omega
              have hjt : (j : Int) < (T.length : Int) := by omega
              obtain ⟨gF', gT', e1, e2, _, _, hst3⟩ := hin2.own.open_ (by omega) (by omega)
              cases e1
              have e3 := HGT.out (by omega)
              rw [e2] at e3
              cases e3
              cases e2
              have ht := (hst3.cellT j (by omega)).1
              obtain ⟨zb, zo, rfl, hzc⟩ := row_at hin2.own.reads.z (by omega)
              have hz := hzc j hlt2
              have HSN := Lib.hid (show scanN E T (n : Int) (bfs E T a k) (j + 1) = scan1 E T (n : Int) (scanN E T (n : Int) (bfs E T a k) j) j from rfl)
              obtain ⟨t, htd⟩ : ∃ t, T.getD j 0 = t := ⟨_, rfl⟩
              rw [htd] at ht
              clear hin2 hst3 hzc
              by_cases c5 : t = (n : Int)
              · subst c5
                have d5 : ((n : Int) != (n : Int)) = false := by simp
                obtain ⟨hz0, hz1⟩ := HZ.out j hlt2
                have hEj := HE.out j hlt2
                have hend := HS.out.ends.tail j (by rw [HEL.out]; exact hlt2)
                have hoth := HS.out.ends.oth_in (by rw [HEL.out]; exact hlt2) htd
                obtain ⟨gs, gm⟩ := HGS.out j (by rw [HEL.out]; omega)
                have hsh := gs.short
                rw [htd] at hend
                rw [hEj] at hend hoth
                obtain ⟨m, hm⟩ : ∃ m : Nat, Z.getD j 0 = (m : Int) := ⟨(Z.getD j 0).toNat, by omega⟩
                rw [hm] at hz hz0 hz1 hend hoth hEj
                rw [Int.toNat_natCast] at hend hoth hEj
                obtain ⟨bb, boff, rfl, _, hbc⟩ := HIN2.out.bars.at (by omega)
                have hx1 := (hbc m (by omega)).1
                have hx2 := (hbc m (by omega)).2
                obtain ⟨x, hxd⟩ : ∃ x, l.getD m (0, 0) = x := ⟨_, rfl⟩
                rw [hxd] at hx1 hx2 hend hoth hEj
                obtain ⟨x1, x2⟩ := x
                simp only at hx1 hx2
                obtain ⟨o, ho⟩ : ∃ o : Nat, oth (x1, x2) (n : Int) = (o : Int) := ⟨(oth (x1, x2) (n : Int)).toNat, by omega⟩
                rw [ho] at hoth
                have HO := Lib.hid ho
                have HEN := Lib.hid hend
                have HS1 := Lib.hid (show scan1 E T (n : Int) (scanN E T (n : Int) (bfs E T a k) j) j = if (o : Int) ∉ (scanN E T (n : Int) (bfs E T a k) j).map Prod.fst then (scanN E T (n : Int) (bfs E T a k) j) ++ [((o : Int), j)] else (scanN E T (n : Int) (bfs E T a k) j) by
                  unfold scan1
                  rw [htd, hEj, ho]
                  by_cases h : (o : Int) ∈ (scanN E T (n : Int) (bfs E T a k) j).map Prod.fst
                  · rw [if_neg (fun q => q.2 h), if_neg (fun q => q h)]
                  · rw [if_pos ⟨rfl, h⟩, if_pos h])
                have HGJ := Lib.hid gs
                have ho8 : o < 8 := by omega
                have ho8i : (o : Int) < 8 := by omega
                have hoP := hoth.1
                obtain ⟨_, gx0, gx1⟩ := HIN2.out.box
                have hmi : (m : Int) < (l.length : Int) := hz1
                clear hbc hxd ho hend hEj hm gs gm htd hz0 hoth
                by_cases c6 : (o : Int) = a
                · have d6 : ((o : Int) != a) = false := by simpa using c6
                  have HQ := Lib.hid (show (scanN E T (n : Int) (bfs E T a k) j) = scanN E T (n : Int) (bfs E T a k) (j + 1) by
                    rw [HSN.out, HS1.out, if_neg]
                    obtain ⟨r, e⟩ := HGJ.out.start
                    rw [e, c6]; simp)
                  clear c6
                  go_wp2_with (go_at_call 225; refine (otherEnd_c (x1, x2) (n : Int) _ HEN.out).mono ?_; rintro e w5 ⟨rfl, hb⟩; rw [HO.out]; have HIN5 := Lib.hid (HIN2.out.below hb); obtain ⟨hd0, hd1, hd2, _, _, _⟩ := HIN5.out.st.cells; have hfz := frozen_of_row _ _ o _ _ HIN5.out.arr; clear hb hc0 hc1 hc2)
                  go_roundw
                  case rel => exact ⟨j + 1, by omega, by go_num, by rw [← HQ.out]; exact HIN5.out⟩
                  case measure => simp [intOf]; omega
                · have d6 : ((o : Int) != a) = true := by simpa using c6
                  by_cases c7 : (o : Int) ∈ (scanN E T (n : Int) (bfs E T a k) j).map Prod.fst
                  · have HQ := Lib.hid (show (scanN E T (n : Int) (bfs E T a k) j) = scanN E T (n : Int) (bfs E T a k) (j + 1) by rw [HSN.out, HS1.out, if_neg]; simpa using c7)
                    obtain ⟨g7, j7, hv7⟩ := arrV_some (gT := gT) c7 c6
                    have HV := Lib.hid hv7
                    clear c6 c7 hv7
                    go_wp2_with (go_at_call 225; refine (otherEnd_c (x1, x2) (n : Int) _ HEN.out).mono ?_; rintro e w5 ⟨rfl, hb⟩; rw [HO.out]; have HIN5 := Lib.hid (HIN2.out.below hb); obtain ⟨hd0, hd1, hd2, _, _, _⟩ := HIN5.out.st.cells; have hfz := frozen_of_row _ _ o _ _ HIN5.out.arr; have har := (cell_of_row _ _ o _ _ _ HIN5.out.arr).trans (by simpa using (arrL_get gT a (scanN E T (n : Int) (bfs E T a k) j) o ho8).trans (congrArg some HV.out)); clear hb hc0 hc1 hc2)
                    go_roundw
                    case rel => exact ⟨j + 1, by omega, by go_num, by rw [← HQ.out]; exact HIN5.out⟩
                    case measure => simp [intOf]; omega
                  · have HQ := Lib.hid (show (scanN E T (n : Int) (bfs E T a k) j) ++ [((o : Int), j)] = scanN E T (n : Int) (bfs E T a k) (j + 1) by rw [HSN.out, HS1.out, if_pos c7])
                    have HV := Lib.hid (arrV_none (gT := gT) (a := a) (.inl c7))
                    have HNI := Lib.hid c7
                    have HNA := Lib.hid c6
                    clear c6 c7
                    go_wp2_with (first
                      | (go_at_call 225; refine (otherEnd_c (x1, x2) (n : Int) _ HEN.out).mono ?_; rintro e w5 ⟨rfl, hb⟩; rw [HO.out]; have HIN5 := Lib.hid (HIN2.out.below hb); obtain ⟨hd0, hd1, hd2, _, _, _⟩ := HIN5.out.st.cells; have hfz := frozen_of_row _ _ o _ _ HIN5.out.arr; have har := (cell_of_row _ _ o _ _ _ HIN5.out.arr).trans (by simpa using (arrL_get gT a (scanN E T (n : Int) (bfs E T a k) j) o ho8).trans (congrArg some HV.out)); clear hb hc0 hc1 hc2; have HR3 := Lib.hid (HIN5.out.reach o j ho8 HNI.out HNA.out); have hbs := (Array.getElem?_eq_some_iff.1 HR3.out.arr).1)
                      | (at_builtin; go_loud (refine wpList_at _ rfl _ _ 29 rfl (w.heap.size + 1 + 1) 3 (.int .i64 0) 1 8 Try.underlying29 infoInt rfl (by decide) _ _ _ rfl HR3.out.row #[.int .i64 (o : Int)] 1 rfl (by simp [Value.oneCell']) _ 1 (by simp only [World.size_setCell]; rfl) (by omega) (by unfold maxLen; omega) hbs ?_; intro v' w' ho hg _ _; obtain ⟨A3, c3', rfl⟩ := own_shape ho; have HN := Lib.hid (HR3.out.push ((o : Int), j) ho hg); clear ho hg)))
                    go_roundw
                    case rel => exact ⟨j + 1, by omega, by go_num, by rw [← HQ.out]; exact HN.out⟩
                    case measure => simp [intOf]; omega
              · have d5 : (t != (n : Int)) = true := by simpa using c5
                have HQ := Lib.hid (show (scanN E T (n : Int) (bfs E T a k) j) = scanN E T (n : Int) (bfs E T a k) (j + 1) by rw [HSN.out]; unfold scan1; rw [htd, if_neg]; exact fun h => c5 h.1)
                clear c5 htd
                go_wp2_with fail
                go_roundw
                case rel => exact ⟨j + 1, by omega, by go_num, by rw [← HQ.out]; exact HIN2.out⟩
                case measure => simp [intOf]; omega
            · obtain rfl : j = Z.length := by omega
              have hji : ¬ (Z.length : Int) < (Z.length : Int) := by omega
              clear hin2
              go_wp2_with fail
              go_roundw
              case rel => exact ⟨k + 1, by rw [HSC.out]; obtain ⟨r, e⟩ := scanN_pre E T (n : Int) (bfs E T a k) E.length; rw [e, List.length_append]; omega, by go_num, HNX2.out, by rw [HSC.out, HEL.out]; exact HIN2.out⟩
              case measure => simp [intOf]; omega)
    · have hkl : k = (bfs E T a k).length := by omega
      have HF := Lib.hid (find_no (E := E) (T := T) (F := F) (a := a) (b := b) k (by omega) (by omega) (by rw [← List.take_of_length_le (l := bfs E T a k) (i := k) (by omega)]; exact HNO.out))
      have hki : ¬ (k : Int) < ((bfs E T a k).length : Int) := by omega
      clear hin hkl
      go_wp2_with fail
      go_ret
      exact ⟨Within2.of (within_of HIN.out.bel) (.inl (Nat.le_refl 0)), .inl ⟨rfl, by show Option.map _ ((bfsQ E T a).find? (givesB F a b)) = none; rw [HF.out]; rfl, HIN.out.own⟩⟩
end Go.Proofs.Ytdkpmaahinbhlaa
/- What stands while pebbles are gathered in a state of the call's own. No program's walk. No condition. -/
namespace Go.Proofs.Ytdkpmaahinbhlaa
open Go.RowKit

/-- A row of the call's own is overwritten by a row of the same length. -/
theorem wpList_back {w : World} {ops : Array Oper} {rest : List Oper} {o : Oper} {a : Act} {Q : Exit → Act → World → Prop} (hgd : o.guard = none) (d s : Operand)
    (ho : o.op = .call { callee := .builtin .copy, args := #[d, s], argTypes := #[29, 29] }) (A AS : Option Addr) (zs ys : List Int) (cd cs lo hi lo2 hi2 n : Nat) (hd : a.eval d = .slice A n cd) (hs : a.eval s = .slice AS ys.length cs)
    (hz : OwnR w lo hi A cd zs) (hy : IntsIn w lo2 hi2 AS ys) (hl : ys.length = zs.length) (hnz : n = zs.length)
    (h : ∀ w', OwnR w' lo hi A cd ys → Within lo hi w w' → wpList Try.prog ops Q rest (a.put o.dst (goInt ys.length)) w') : wpList Try.prog ops Q (o :: rest) a w := by
  subst hnz
  have hu := Try.underlying29
  have hsz : (Try.prog.info? 3).map (·.size) = some 1 := by kernel_rfl
  by_cases h0 : ys.length = 0
  · have hy0 : ys = [] := List.eq_nil_of_length_eq_zero h0
    refine wpList_copy_nothing hgd d s _ _ ho 3 hu hsz A AS zs.length cd ys.length cs hd hs (by rw [h0]; simp) ?_
    have hz0 : zs = [] := List.eq_nil_of_length_eq_zero (by rw [← hl]; exact h0)
    have := h w (by rw [hy0]; rw [hz0] at hz; exact hz) (Within.refl _ _ _)
    rw [h0] at this
    exact this
  · rcases hz.2 with ⟨_, _, e⟩ | ⟨g, rfl, g1, g2, hr⟩
    · exact absurd (by rw [hl, e]; rfl) h0
    · obtain ⟨b, off, rfl, _, _, hc⟩ := hy.2 (by omega)
      rcases hr.2 with ⟨e0, _⟩ | ⟨g', cap', cur, e1, hg1, hheap, n1, n2, n3, n4⟩
      · cases e0
      · cases e1
        have hcl : (intCells ys).length = ys.length := intCells_len ys
        refine wpList_copy_own hgd d s _ _ ho 3 hu hsz g 0 zs.length cd ⟨b, off, none⟩ ys.length cs hd hs cur _ hheap (intCells ys) (by rw [hcl, hl]; simp) ?_ (by rw [hcl]; omega) (intCells_one ys) ?_
        · intro j v hj
          have hjl : j < ys.length := by rw [← hcl]; exact (List.getElem?_eq_some_iff.1 hj).1
          have e := (hc j hjl).trans (intCells_get ys j hjl).symm
          rw [hj] at e
          have ha : (⟨b, off, none⟩ : Addr).add j = ⟨b, off + j, none⟩ := by unfold Addr.add; split <;> simp_all
          rw [ha]
          exact e
        · rw [hcl]
          have hset := setRow_heap w g _ ((cur.toList.take 0 ++ (intCells ys ++ cur.toList.drop (0 + ys.length))).toArray) _ _ hheap
          refine h _ ⟨?_, .inr ⟨g, rfl, g1, g2, ⟨by rw [hcl, Nat.mul_one], .inr ⟨g, cd, _, by rw [hl], hg1, hset, by omega, n2, ?_, ?_⟩⟩⟩⟩ ⟨rfl, rfl, rfl, ?_, fun k _ hd => setRow_other w g k _ (by omega)⟩
          · simpa [World.setRow] using hz.1
          · simp [hcl]; omega
          · simp [← hcl]
          · simp [World.setRow]
theorem Box.at {W W' : World} {b : Nat} {q : Int} {v : Value} (h : Box W b q v) {f t : Nat × Nat} (hw : Within2 f t W W') (h1 : b < f.1 ∨ f.2 ≤ b) (h2 : b < t.1 ∨ t.2 ≤ b) : Box W' b q v := by
  have hb := hw.block b h.1 h1 h2
  exact ⟨Nat.lt_of_lt_of_le h.1 hw.size, (World.cell?_of_block (a := ⟨b, 0, none⟩) hb).trans h.2.1, (World.cell?_of_block (a := ⟨b, 1, none⟩) hb).trans h.2.2⟩
/-- What gathering answers, and what it makes of the state. -/
def GathP (w : World) (f t z : Nat × Nat) (AF : Option Addr) (cF : Nat) (AT : Option Addr) (cT : Nat) (AZ : Option Addr) (cZ : Nat) (E : List (Int × Int)) (F T Z : List Int) (a b want : Int) (e : Ending) (w' : World) : Prop :=
  Within2 f t w w' ∧ ((e = .returned (.bool false) ∧ gathR E a b want (F, T) = none ∧ OwnF w' f t z AF cF AT cT AZ cZ F T Z) ∨ ∃ s', e = .returned (.bool true) ∧ gathR E a b want (F, T) = some s' ∧ OwnF w' f t z AF cF AT cT AZ cZ s'.1 s'.2 Z)
/-- Where gathering stands: the state, the graph's box, the copies. -/
structure GatI (w wr : World) (pb : Nat) (f t z : Nat × Nat) (mF nF mT nT : Nat) (p : Int) (A : Option Addr) (cap : Nat) (l : List (Int × Int)) (AF : Option Addr) (cF : Nat) (AT : Option Addr) (cT : Nat) (AZ : Option Addr) (cZ : Nat) (BF BT : Option Addr) (F0 T0 F T Z : List Int) : Prop where
  st : Cel3 wr pb 31 (.slice AF F0.length cF) (.slice AT T0.length cT) (.slice AZ Z.length cZ)
  own : OwnF wr f t z AF cF AT cT AZ cZ F T Z
  box : Box wr w.heap.size p (.slice A l.length cap)
  bars : BarsIn wr 0 w.heap.size A l
  cf : IntsIn wr mF nF BF F0
  ct : IntsIn wr mT nT BT T0
  wit : Within2 f t w wr
  low : pb < w.heap.size ∧ (f.2 ≤ w.heap.size ∧ t.2 ≤ w.heap.size) ∧ w.heap.size ≤ mF ∧ w.heap.size ≤ mT ∧ w.heap.size + 1 ≤ wr.heap.size
  outf : pb < f.1 ∨ f.2 ≤ pb
  outt : pb < t.1 ∨ t.2 ≤ pb
  bar : 0 < l.length → ∀ g off, A = some ⟨g, off, none⟩ → (g < f.1 ∨ f.2 ≤ g) ∧ (g < t.1 ∨ t.2 ≤ g)
/-- The state was written, and nothing else. -/
theorem GatI.next {w wr w' : World} {pb : Nat} {f t z : Nat × Nat} {mF nF mT nT : Nat} {p : Int} {A : Option Addr} {cap : Nat} {l : List (Int × Int)} {AF : Option Addr} {cF : Nat} {AT : Option Addr} {cT : Nat} {AZ : Option Addr} {cZ : Nat} {BF BT : Option Addr} {F0 T0 F T F' T' Z : List Int}
    (h : GatI w wr pb f t z mF nF mT nT p A cap l AF cF AT cT AZ cZ BF BT F0 T0 F T Z) (hw : Within2 f t wr w') (ho : OwnF w' f t z AF cF AT cT AZ cZ F' T' Z) : GatI w w' pb f t z mF nF mT nT p A cap l AF cF AT cT AZ cZ BF BT F0 T0 F' T' Z := by
  obtain ⟨l1, l2, l3, l4, l5⟩ := h.low
  refine ⟨h.st.at hw h.outf h.outt, ho, h.box.at hw (by omega) (by omega), ⟨Nat.le_trans h.bars.1 hw.size, fun hl => ?_⟩, h.cf.at hw (by omega) (by omega), h.ct.at hw (by omega) (by omega), h.wit.trans hw, ⟨l1, l2, l3, l4, Nat.le_trans l5 hw.size⟩, h.outf, h.outt, h.bar⟩
  obtain ⟨b, off, e, h1, h2, hc⟩ := h.bars.2 hl
  refine ⟨b, off, e, h1, h2, fun k hk => ?_⟩
  obtain ⟨q1, q2⟩ := h.bar hl b off e
  have hb := hw.block b (Nat.lt_of_lt_of_le h2 h.bars.1) q1 q2
  have e1 : ∀ o, w'.cell? ⟨b, o, none⟩ = wr.cell? ⟨b, o, none⟩ := fun o => World.cell?_of_block (a := ⟨b, o, none⟩) hb
  rw [e1, e1]
  exact hc k hk
theorem GatI.pull {w wr : World} {P pb : Nat} {f t z : Nat × Nat} {mF nF mT nT : Nat} {k0 : Int} {A : Option Addr} {cap : Nat} {l : List (Int × Int)} {AF : Option Addr} {cF : Nat} {AT : Option Addr} {cT : Nat} {AZ : Option Addr} {cZ : Nat} {BF BT : Option Addr} {F0 T0 F T Z : List Int} {a b : Int} {gT : Nat}
    (h : GatI w wr pb f t z mF nF mT nT (P : Int) A cap l AF cF AT cT AZ cZ BF BT F0 T0 F T Z) (hS0 : PebS P k0 (plE l Z) F0 T0) (hS : PebS P k0 (plE l Z) F T) (hP : 1 ≤ P ∧ P ≤ 8) (hk0 : k0 ≤ 3) (hn : l.length ≤ 24) (hz24 : Z.length ≤ 24)
    (hZ : ∀ i, i < Z.length → 0 ≤ Z.getD i 0 ∧ Z.getD i 0 < (l.length : Int)) (ha : 0 ≤ a ∧ a < (P : Int)) (hb : 0 ≤ b ∧ b < (P : Int)) (hgT : 0 < T0.length → AT = some ⟨gT, 0, none⟩) :
    Calls Try.prog 192 #[.pointer (some ⟨pb, 0, none⟩), .agg #[.int .i64 (P : Int), .slice A l.length cap], .int .i64 a, .int .i64 b] wr (PullP wr f t z AF cF AT cT AZ cZ (plE l Z) F T Z a b) := by
  have e1 : F.length = F0.length := by rw [hS.flen, hS0.flen]
  have e2 : T.length = T0.length := by rw [hS.ends.len, hS0.ends.len]
  have hst := h.st
  rw [← e1, ← e2] at hst
  rw [← e2] at hgT
  exact pull_c P k0 l A cap pb f t z AF AT AZ cF cT cZ F T Z a b gT wr hS hP hk0 hn hz24 hZ ha hb h.bars.at hst h.own hgT h.outf h.outt
theorem GatI.pull_no {w wr : World} {P pb : Nat} {f t z : Nat × Nat} {mF nF mT nT : Nat} {k0 : Int} {A : Option Addr} {cap : Nat} {l : List (Int × Int)} {AF : Option Addr} {cF : Nat} {AT : Option Addr} {cT : Nat} {AZ : Option Addr} {cZ : Nat} {BF BT : Option Addr} {F0 T0 F T Z : List Int} {a b : Int} {gT : Nat}
    (h : GatI w wr pb f t z mF nF mT nT (P : Int) A cap l AF cF AT cT AZ cZ BF BT F0 T0 F T Z) (hS0 : PebS P k0 (plE l Z) F0 T0) (hS : PebS P k0 (plE l Z) F T) (hP : 1 ≤ P ∧ P ≤ 8) (hk0 : k0 ≤ 3) (hn : l.length ≤ 24) (hz24 : Z.length ≤ 24)
    (hZ : ∀ i, i < Z.length → 0 ≤ Z.getD i 0 ∧ Z.getD i 0 < (l.length : Int)) (ha : 0 ≤ a ∧ a < (P : Int)) (hb : 0 ≤ b ∧ b < (P : Int)) (hgT : 0 < T0.length → AT = some ⟨gT, 0, none⟩) (hf : findM (plE l Z) a b (F, T) = none) :
    Calls Try.prog 192 #[.pointer (some ⟨pb, 0, none⟩), .agg #[.int .i64 (P : Int), .slice A l.length cap], .int .i64 a, .int .i64 b] wr (fun e w' => e = .returned (.bool false) ∧ GatI w w' pb f t z mF nF mT nT (P : Int) A cap l AF cF AT cT AZ cZ BF BT F0 T0 F T Z) := by
  refine (h.pull hS0 hS hP hk0 hn hz24 hZ ha hb hgT).mono ?_
  rintro e w' ⟨hw, ⟨rfl, _, ho⟩ | ⟨s', _, hs, _⟩⟩
  · exact ⟨rfl, h.next hw ho⟩
  · rw [hf] at hs; cases hs
theorem GatI.pull_yes {w wr : World} {P pb : Nat} {f t z : Nat × Nat} {mF nF mT nT : Nat} {k0 : Int} {A : Option Addr} {cap : Nat} {l : List (Int × Int)} {AF : Option Addr} {cF : Nat} {AT : Option Addr} {cT : Nat} {AZ : Option Addr} {cZ : Nat} {BF BT : Option Addr} {F0 T0 F T Z : List Int} {a b : Int} {gT : Nat} {s : List Int × List Int}
    (h : GatI w wr pb f t z mF nF mT nT (P : Int) A cap l AF cF AT cT AZ cZ BF BT F0 T0 F T Z) (hS0 : PebS P k0 (plE l Z) F0 T0) (hS : PebS P k0 (plE l Z) F T) (hP : 1 ≤ P ∧ P ≤ 8) (hk0 : k0 ≤ 3) (hn : l.length ≤ 24) (hz24 : Z.length ≤ 24)
    (hZ : ∀ i, i < Z.length → 0 ≤ Z.getD i 0 ∧ Z.getD i 0 < (l.length : Int)) (ha : 0 ≤ a ∧ a < (P : Int)) (hb : 0 ≤ b ∧ b < (P : Int)) (hgT : 0 < T0.length → AT = some ⟨gT, 0, none⟩) (hf : findM (plE l Z) a b (F, T) = some s) :
    Calls Try.prog 192 #[.pointer (some ⟨pb, 0, none⟩), .agg #[.int .i64 (P : Int), .slice A l.length cap], .int .i64 a, .int .i64 b] wr (fun e w' => e = .returned (.bool true) ∧ GatI w w' pb f t z mF nF mT nT (P : Int) A cap l AF cF AT cT AZ cZ BF BT F0 T0 s.1 s.2 Z) := by
  refine (h.pull hS0 hS hP hk0 hn hz24 hZ ha hb hgT).mono ?_
  rintro e w' ⟨hw, ⟨rfl, hs, ho⟩ | ⟨s', rfl, hs, ho⟩⟩
  · rw [hf] at hs; cases hs
  · rw [hf] at hs
    cases hs
    exact ⟨rfl, h.next hw ho⟩
end Go.Proofs.Ytdkpmaahinbhlaa
/- What (*Pebbles).gather does. No condition. -/
namespace Go.Proofs.Ytdkpmaahinbhlaa
open Go.RowKit

set_option maxHeartbeats 8000000 in
set_option maxRecDepth 100000 in
theorem gather_c (P : Nat) (k0 : Int) (l : List (Int × Int)) (A : Option Addr) (cap pb : Nat) (f t z : Nat × Nat) (AF AT AZ : Option Addr) (cF cT cZ : Nat) (F T Z : List Int) (a b : Nat) (want : Int) (w : World) (hS : PebS P k0 (plE l Z) F T) (hP : 1 ≤ P ∧ P ≤ 8) (hk0 : k0 ≤ 3) (hn : l.length ≤ 24) (hz24 : Z.length ≤ 24)
    (hZ : ∀ i, i < Z.length → 0 ≤ Z.getD i 0 ∧ Z.getD i 0 < (l.length : Int)) (ha : a < P) (hb : b < P) (hab : a ≠ b) (hl : BarsAt w w.heap.size A l) (hst : Cel3 w pb 31 (.slice AF F.length cF) (.slice AT T.length cT) (.slice AZ Z.length cZ)) (ho : OwnF w f t z AF cF AT cT AZ cZ F T Z) (hpf : pb < f.1 ∨ f.2 ≤ pb) (hpt : pb < t.1 ∨ t.2 ≤ pb) (hbar : 0 < l.length → ∀ g off, A = some ⟨g, off, none⟩ → (g < f.1 ∨ f.2 ≤ g) ∧ (g < t.1 ∨ t.2 ≤ g)) :
    Calls Try.prog 124 #[.pointer (some ⟨pb, 0, none⟩), .agg #[.int .i64 (P : Int), .slice A l.length cap], .int .i64 (a : Int), .int .i64 (b : Int), .int .i64 want] w (GathP w f t z AF cF AT cT AZ cZ (plE l Z) F T Z a b want) := by
  have hFl := hS.flen
  have hTl : T.length = Z.length := by rw [hS.ends.len, plE_len]
  obtain ⟨gF, rfl, _, _⟩ := ho.fst (by omega)
  have hhi := ho.hi
  obtain ⟨gT, hgT⟩ : ∃ gT, 0 < T.length → AT = some ⟨gT, 0, none⟩ := by
    by_cases h : 0 < T.length
    · obtain ⟨_, gT, _, e, _⟩ := ho.open_ (by omega) h
      exact ⟨gT, fun _ => e⟩
    · exact ⟨0, fun k => absurd k h⟩
  have HGT := Lib.hid hgT
  have HS := Lib.hid hS
  have HZ := Lib.hid hZ
  have HBAR := Lib.hid hbar
  have b1 := new_below w (.cells #[.int .i64 (P : Int), .slice A l.length cap] 26)
  have hbx := box_new w (P : Int) (.slice A l.length cap) 26
  have HBX := Lib.hid hbx
  have HBI := Lib.hid ((bars_in hl).within (within_of b1) (.inr (Nat.zero_le _)))
  have HW1 := Lib.hid b1
  have HST := Lib.hid (hst.within (within_of b1) (.inr (Nat.zero_le _)))
  have HO := Lib.hid (ho.below b1)
  have hs1 : (w.alloc (.cells #[.int .i64 (P : Int), .slice A l.length cap] 26)).heap.size = w.heap.size + 1 := by simp
  have hplt := hst.lt
  have HFL := Lib.hid hFl
  have HTL := Lib.hid hTl
  have hF1 : F.length ≤ 1048576 := by omega
  have hT1 : T.length ≤ 1048576 := by omega
  clear hS hZ hgT hst ho hl hbar b1 hbx hFl hTl
  go_enter Try.func124, Try.ntmps124
  go_wp2_with fail
  generalize (w.alloc (.cells #[.int .i64 (P : Int), .slice A l.length cap] 26)) = w1 at *
  have hdr : Below w1.heap.size w1 w1.drew := (Below.refl _ _).drew
  have HST3 := Lib.hid (HST.out.kept hdr)
  have HO3 := Lib.hid (HO.out.below hdr)
  have HW3 := Lib.hid (below_on HW1.out hdr HW1.out.size)
  have HBX3 := Lib.hid (HBX.out.kept hdr)
  have HBI3 := Lib.hid (HBI.out.within (within_of hdr) (.inr (Nat.zero_le _)))
  have hz0 : w1.drew.heap.size = w1.heap.size := rfl
  have kk1 : (fun W' => W'.cell? ⟨pb, 0, none⟩ = some (.slice (some ⟨gF, 0, none⟩) F.length cF) ∧ W'.cell? ⟨pb, 1, none⟩ = some (.slice AT T.length cT)) w1 := ⟨HST.out.cells.1, HST.out.cells.2.1⟩
  clear hdr
  go_region_held3 (fun W' => W'.cell? ⟨pb, 0, none⟩ = some (.slice (some ⟨gF, 0, none⟩) F.length cF) ∧ W'.cell? ⟨pb, 1, none⟩ = some (.slice AT T.length cT))
    (first | exact kk1 | exact ⟨HST4.out.cells.1, HST4.out.cells.2.1⟩ | exact ⟨HST5.out.cells.1, HST5.out.cells.2.1⟩ | fail)
    (first
      | (go_at_call_of 146 (some (⟨gF, 0, none⟩ : Addr)); refine (slCloneI F (some ⟨gF, 0, none⟩) cF 0 _ _ HO3.out.reads.f hF1).mono ?_; rintro e w4 ⟨BF, bF, rfl, hc, hb4⟩; have HW4 := Lib.hid (below_on HW3.out hb4 HW3.out.size); have HST4 := Lib.hid (HST3.out.kept hb4); have HO4 := Lib.hid (HO3.out.below hb4); have HBX4 := Lib.hid (HBX3.out.kept hb4); have HBI4 := Lib.hid (HBI3.out.within (within_of hb4) (.inr (Nat.zero_le _))); have HCF4 := Lib.hid hc; have hz4 := hb4.size; clear hc hb4)
      | (go_at_call_of 146 AT; refine (slCloneI T AT cT 0 _ _ HO4.out.reads.t hT1).mono ?_; rintro e w5 ⟨BT, bT, rfl, hc, hb5⟩; have HW5 := Lib.hid (below_on HW4.out hb5 HW4.out.size); have HST5 := Lib.hid (HST4.out.kept hb5); have HO5 := Lib.hid (HO4.out.below hb5); have HBX5 := Lib.hid (HBX4.out.kept hb5); have HBI5 := Lib.hid (HBI4.out.within (within_of hb5) (.inr (Nat.zero_le _))); have HCF5 := Lib.hid (HCF4.out.within (within_of hb5) (.inr (Nat.zero_le _))); have HCT5 := Lib.hid hc; have hz5 := hb5.size; clear hc hb5)
      | fail)
  go_wp2_with fail
  have HI := Lib.hid (show GatI w w5 pb f t z w1.drew.heap.size w4.heap.size w4.heap.size w5.heap.size (P : Int) A cap l (some ⟨gF, 0, none⟩) cF AT cT AZ cZ BF BT F T F T Z from
    ⟨HST5.out, HO5.out, HBX5.out, HBI5.out, HCF5.out.reads, HCT5.out.reads, Within2.of (within_of HW5.out) (.inl (Nat.le_refl 0)), ⟨hplt, ⟨hhi.1, hhi.2.1⟩, by omega, by omega, by omega⟩, hpf, hpt, HBAR.out⟩)
  go_loopw [] (fun wr => ∃ F' T' : List Int, PebS P k0 (plE l Z) F' T' ∧ gathR (plE l Z) a b want (F, T) = gathR (plE l Z) a b want (F', T') ∧ GatI w wr pb f t z w1.drew.heap.size w4.heap.size w4.heap.size w5.heap.size (P : Int) A cap l (some ⟨gF, 0, none⟩) cF AT cT AZ cZ BF BT F T F' T' Z) (fun wr => (want - (intOf ((wr.cell? ⟨gF, a, none⟩).getD (.bool false)) + intOf ((wr.cell? ⟨gF, b, none⟩).getD (.bool false)))).toNat)
  case atStart => exact ⟨F, T, HS.out, rfl, HI.out⟩
  case round =>
    obtain ⟨F', T', hS', hg, hin⟩ := hrel
    have HG := Lib.hid hg
    have HS' := Lib.hid hS'
    have hfl := hS'.flen
    obtain ⟨fb, fo, e, hfc⟩ := row_at hin.own.reads.f (by omega)
    cases e
    have ha1 := hfc a (by omega)
    have hb1 := hfc b (by omega)
    rw [Nat.zero_add] at ha1 hb1
    have hsa := hS'.small (v := (a : Int)) (by omega)
    have hsb := hS'.small (v := (b : Int)) (by omega)
    rw [Int.toNat_natCast] at hsa hsb
    have HDN := Lib.hid (fun h : ¬ F'.getD a 0 + F'.getD b 0 < want => gathR_done (E := plE l Z) (a := (a : Int)) (b := (b : Int)) (want := want) (s := (F', T')) (by simpa using h))
    obtain ⟨d1, hd1⟩ : ∃ d1, F'.getD a 0 = d1 := ⟨_, rfl⟩
    obtain ⟨d2, hd2⟩ : ∃ d2, F'.getD b 0 = d2 := ⟨_, rfl⟩
    rw [hd1] at ha1 hsa HDN
    rw [hd2] at hb1 hsb HDN
    have HD := Lib.hid (And.intro hd1 hd2)
    have haF : (a : Int) < (F.length : Int) := by have := HFL.out; omega
    have hbF : (b : Int) < (F.length : Int) := by have := HFL.out; omega
    have HIN := Lib.hid hin
    have hcc := hin.st.cells.1
    clear hg hS' hfl hfc hd1 hd2 hin
    by_cases c1 : d1 + d2 < want
    · have e1 : decide (d1 + d2 < want) = true := by simpa using c1
      go_wp2_with fail
      go_big_quiet (fail)
      have HQ := Lib.hid (HIN.out.next (Within2.of (within_of (below_drewN wr.heap.size wr nq)) (.inl (Nat.le_refl 0))) (HIN.out.own.below (below_drewN wr.heap.size wr nq)))
      have hC1 : F'.getD (a : Int).toNat 0 + F'.getD (b : Int).toNat 0 < want := by rw [Int.toNat_natCast, Int.toNat_natCast, HD.out.1, HD.out.2]; exact c1
      have HC1 := Lib.hid hC1
      obtain ⟨_, gx0, gx1⟩ := HIN.out.box
      obtain ⟨r1, hr1⟩ : ∃ r1, findM (plE l Z) (a : Int) (b : Int) (F', T') = r1 := ⟨_, rfl⟩
      cases r1 with
      | some s' =>
        have HF1 := Lib.hid hr1
        have HK := Lib.hid (show PebS P k0 (plE l Z) s'.1 s'.2 ∧ s'.1.getD a 0 + s'.1.getD b 0 = d1 + d2 + 1 from by
          obtain ⟨k1, k2, k3⟩ := findM_ok HS'.out (a := (a : Int)) (b := (b : Int)) (by omega) (by omega) (by omega) HF1.out
          rw [Int.toNat_natCast] at k2 k3
          refine ⟨k1, ?_⟩
          rw [k2, k3, HD.out.1, HD.out.2]; omega)
        clear hr1 hC1
        go_wp2_with (go_at_call 192; refine (HQ.out.pull_yes (a := (a : Int)) (b := (b : Int)) HS.out HS'.out hP hk0 hn hz24 HZ.out ⟨by omega, by omega⟩ ⟨by omega, by omega⟩ HGT.out HF1.out).mono ?_; rintro e w6 ⟨rfl, h6⟩; obtain ⟨_, gy6, gz6⟩ := h6.box; have H6 := Lib.hid h6; clear h6)
        go_roundw
        case rel => exact ⟨s'.1, s'.2, HK.out.1, HG.out.trans (gathR_one HC1.out HF1.out (by rw [Int.toNat_natCast, Int.toNat_natCast]; show s'.1.getD a 0 + s'.1.getD b 0 = F'.getD a 0 + F'.getD b 0 + 1; rw [HK.out.2, HD.out.1, HD.out.2])), H6.out⟩
        case measure =>
          have hlen : s'.1.length = P := HK.out.1.flen
          obtain ⟨fb, fo, e, hfc⟩ := row_at H6.out.own.reads.f (by omega)
          cases e
          have q1 := hfc a (by omega)
          have q2 := hfc b (by omega)
          rw [Nat.zero_add] at q1 q2
          have q3 := HK.out.2
          rw [q1, q2, ha1, hb1]
          simp only [Option.getD_some, intOf]
          omega

      | none =>
        have HF1 := Lib.hid hr1
        obtain ⟨r2, hr2⟩ : ∃ r2, findM (plE l Z) (b : Int) (a : Int) (F', T') = r2 := ⟨_, rfl⟩
        cases r2 with
        | some s' =>
          have HF2 := Lib.hid hr2
          have HK := Lib.hid (show PebS P k0 (plE l Z) s'.1 s'.2 ∧ s'.1.getD a 0 + s'.1.getD b 0 = d1 + d2 + 1 from by
            obtain ⟨k1, k2, k3⟩ := findM_ok HS'.out (a := (b : Int)) (b := (a : Int)) (by omega) (by omega) (by omega) HF2.out
            rw [Int.toNat_natCast] at k2 k3
            refine ⟨k1, ?_⟩
            rw [k2, k3, HD.out.1, HD.out.2]; omega)
          clear hr1 hr2 hC1
          go_wp2_with (first
            | (go_at_call 192; refine (H6.out.pull_yes (a := (b : Int)) (b := (a : Int)) HS.out HS'.out hP hk0 hn hz24 HZ.out ⟨by omega, by omega⟩ ⟨by omega, by omega⟩ HGT.out HF2.out).mono ?_; rintro e w7 ⟨rfl, h7⟩; obtain ⟨_, gy7, gz7⟩ := h7.box; have H7 := Lib.hid h7; clear h7)
            | (go_at_call 192; refine (HQ.out.pull_no (a := (a : Int)) (b := (b : Int)) HS.out HS'.out hP hk0 hn hz24 HZ.out ⟨by omega, by omega⟩ ⟨by omega, by omega⟩ HGT.out HF1.out).mono ?_; rintro e w6 ⟨rfl, h6⟩; obtain ⟨_, gy6, gz6⟩ := h6.box; have H6 := Lib.hid h6; clear h6))
          go_roundw
          case rel => exact ⟨s'.1, s'.2, HK.out.1, HG.out.trans (gathR_two HC1.out HF1.out HF2.out (by rw [Int.toNat_natCast, Int.toNat_natCast]; show s'.1.getD a 0 + s'.1.getD b 0 = F'.getD a 0 + F'.getD b 0 + 1; rw [HK.out.2, HD.out.1, HD.out.2])), H7.out⟩
          case measure =>
            have hlen : s'.1.length = P := HK.out.1.flen
            obtain ⟨fb, fo, e, hfc⟩ := row_at H7.out.own.reads.f (by omega)
            cases e
            have q1 := hfc a (by omega)
            have q2 := hfc b (by omega)
            rw [Nat.zero_add] at q1 q2
            have q3 := HK.out.2
            rw [q1, q2, ha1, hb1]
            simp only [Option.getD_some, intOf]
            omega

        | none =>
          have HF2 := Lib.hid hr2
          have HLF := Lib.hid (show F'.length = F.length by rw [HS'.out.flen, HFL.out])
          have HLT := Lib.hid (show T'.length = T.length by rw [HS'.out.ends.len, HS.out.ends.len])
          clear hr1 hr2 hC1
          go_wp2_with (first
            | (go_at_call 192; refine (H6.out.pull_no (a := (b : Int)) (b := (a : Int)) HS.out HS'.out hP hk0 hn hz24 HZ.out ⟨by omega, by omega⟩ ⟨by omega, by omega⟩ HGT.out HF2.out).mono ?_; rintro e w7 ⟨rfl, h7⟩; obtain ⟨of7, ot7, oz7, x1, x2, x3⟩ := h7.own; obtain ⟨v0, v1, _, _, _, _⟩ := h7.st.cells; have OF := Lib.hid of7; have OT := Lib.hid ot7; have OZ := Lib.hid oz7; clear of7 ot7 oz7; have H7 := Lib.hid h7; clear h7)
            | (go_at_call 192; refine (HQ.out.pull_no (a := (a : Int)) (b := (b : Int)) HS.out HS'.out hP hk0 hn hz24 HZ.out ⟨by omega, by omega⟩ ⟨by omega, by omega⟩ HGT.out HF1.out).mono ?_; rintro e w6 ⟨rfl, h6⟩; obtain ⟨_, gy6, gz6⟩ := h6.box; have H6 := Lib.hid h6; clear h6)
            | (with_reducible refine wpList_back rfl _ _ rfl AT BT T' T cT bT t.1 t.2 _ _ T.length rfl rfl (OT.out.within HW8.out (by unfold Dis at x1; omega)) (H7.out.ct.within HW8.out (by have := H7.out.low; omega)) HLT.out.symm HLT.out.symm ?_; intro w9 ot9 hw9; have OT9 := Lib.hid ot9; have HW9 := Lib.hid hw9; clear ot9 hw9)
            | (with_reducible refine wpList_back rfl _ _ rfl (some ⟨gF, 0, none⟩) BF F' F cF bF f.1 f.2 _ _ F.length rfl rfl OF.out H7.out.cf HLF.out.symm HLF.out.symm ?_; intro w8 of8 hw8; have OF8 := Lib.hid of8; have HW8 := Lib.hid hw8; have HST8 := Lib.hid (H7.out.st.within hw8 H7.out.outf); obtain ⟨u0, u1, _, _, _, _⟩ := HST8.out.cells; clear of8 hw8))
          go_ret
          refine ⟨(H7.out.wit.trans (Within2.of HW8.out (by omega))).trans (Within2.of HW9.out (by omega)), .inl ⟨rfl, by rw [HG.out]; exact gathR_no HC1.out HF1.out HF2.out, ?_⟩⟩
          unfold Dis at x1 x2 x3
          have k8 := HW8.out.size
          have k9 := HW9.out.size
          exact ⟨OF8.out.within HW9.out (by omega), OT9.out, (OZ.out.within HW8.out (by omega)).within HW9.out (by omega), x1, x2, x3⟩
    · have e1 : decide (d1 + d2 < want) = false := by simpa using c1
      go_wp2_with fail
      go_big_quiet (fail)
      go_wp2_with fail
      go_ret
      have HQ := Lib.hid (HIN.out.next (Within2.of (within_of (below_drewN wr.heap.size wr nq)) (.inl (Nat.le_refl 0))) (HIN.out.own.below (below_drewN wr.heap.size wr nq)))
      exact ⟨HQ.out.wit, .inr ⟨(F', T'), rfl, by rw [HG.out]; exact HDN.out c1, HQ.out.own⟩⟩
end Go.Proofs.Ytdkpmaahinbhlaa
/- What (*Pebbles).place does. No condition. -/
namespace Go.Proofs.Ytdkpmaahinbhlaa
open Go.RowKit

set_option maxHeartbeats 8000000 in
set_option maxRecDepth 100000 in
theorem place_c (P : Nat) (k0 : Int) (l : List (Int × Int)) (A : Option Addr) (cap pb B : Nat) (f t z : Nat × Nat) (AF AT AZ : Option Addr) (cF cT cZ : Nat) (F T Z : List Int) (c : Int) (n : Nat) (w : World) (hI : IsPeb (P : Int) k0 l F T Z) (hc : 0 ≤ c ∧ c ≤ 100) (hn : n < l.length)
    (hl : BarsIn w 0 B A l) (hst : Cel3 w pb 31 (.slice AF F.length cF) (.slice AT T.length cT) (.slice AZ Z.length cZ)) (ho : OwnF w f t z AF cF AT cT AZ cZ F T Z) (hB : B ≤ w.heap.size ∧ B ≤ pb ∧ B ≤ f.1 ∧ B ≤ t.1 ∧ B ≤ z.1) (hpf : pb < f.1 ∨ f.2 ≤ pb) (hpt : pb < t.1 ∨ t.2 ≤ pb) (hpz : pb < z.1 ∨ z.2 ≤ pb) (ht12 : t.1 ≤ w.heap.size) (hz12 : z.1 ≤ w.heap.size) :
    Calls Try.prog 109 #[.pointer (some ⟨pb, 0, none⟩), .agg #[.int .i64 (P : Int), .slice A l.length cap], .int .i64 c, .int .i64 (n : Int)] w (PlaceP w B pb f t z AF cF AT cT AZ cZ l c F T Z (n : Int)) := by
  have hFP : F.length = P := by have := hI.2.2.1; omega
  have hS := hI.state
  rw [hFP] at hS
  have hOB := hI.1.2.2 n hn
  unfold OkBar at hOB
  have hP8 := hI.1.1
  have hl24 := hI.1.2.1
  have hz24 : Z.length ≤ 24 := by have := hI.many; omega
  have hz24t : T.length ≤ 24 := by have := hI.2.2.2.1; omega
  have hk := hI.2.1
  have hbar : 0 < l.length → ∀ g off, A = some ⟨g, off, none⟩ → (g < f.1 ∨ f.2 ≤ g) ∧ (g < t.1 ∨ t.2 ≤ g) := fun h0 g off e => by
    obtain ⟨b, o, e1, _, h2, _⟩ := hl.2 h0
    rw [e] at e1
    cases e1
    omega
  obtain ⟨bb, boff, rfl, _, hbc⟩ := hl.at (by omega)
  have hx1 := (hbc n hn).1
  have hx2 := (hbc n hn).2
  obtain ⟨x, hxd⟩ : ∃ x, l.getD n (0, 0) = x := ⟨_, rfl⟩
  rw [hxd] at hx1 hx2 hOB
  obtain ⟨x1, x2⟩ := x
  simp only at hx1 hx2 hOB
  obtain ⟨a, rfl⟩ : ∃ a : Nat, x1 = (a : Int) := ⟨x1.toNat, by omega⟩
  obtain ⟨b, rfl⟩ : ∃ b : Nat, x2 = (b : Int) := ⟨x2.toNat, by omega⟩
  have HX := Lib.hid hxd
  have HS := Lib.hid hS
  have HZ := Lib.hid (fun i hi => (hI.2.2.2.2.1 i hi).1)
  have HBAR := Lib.hid hbar
  have hni : (n : Int) < (l.length : Int) := by omega
  have b1 := new_below w (.cells #[.int .i64 (P : Int), .slice (some ⟨bb, boff, none⟩) l.length cap] 26)
  have b2 := new_below (w.alloc (.cells #[.int .i64 (P : Int), .slice (some ⟨bb, boff, none⟩) l.length cap] 26)) (.cells #[.int .i64 (a : Int), .int .i64 (b : Int)] 108)
  have hb12 := below_on b1 b2 b1.size
  have HW := Lib.hid hb12
  have HBX := Lib.hid ((box_new w (P : Int) (.slice (some ⟨bb, boff, none⟩) l.length cap) 26).kept b2)
  have HBI := Lib.hid (hl.within (within_of hb12) (.inr (Nat.zero_le _)))
  have hb3 := box_new (w.alloc (.cells #[.int .i64 (P : Int), .slice (some ⟨bb, boff, none⟩) l.length cap] 26)) (a : Int) (.int .i64 (b : Int)) 108
  rw [show (w.alloc (.cells #[.int .i64 (P : Int), .slice (some ⟨bb, boff, none⟩) l.length cap] 26)).heap.size = w.heap.size + 1 by simp] at hb3
  have HB3 := Lib.hid hb3
  clear hb3
  have HST := Lib.hid (hst.kept hb12)
  have HO := Lib.hid (ho.below hb12)
  have hplt := hst.lt
  have hh := ho.hi
  have HTT := Lib.hid hI.2.2.2.1
  have HFP := Lib.hid hFP
  clear hI hS hxd hbc hbar b1 b2 hb12 hl hst ho hFP
  go_enter Try.func109, Try.ntmps109
  go_wp2_with fail
  refine (gather_c P k0 l (some ⟨bb, boff, none⟩) cap pb f t z AF AT AZ cF cT cZ F T Z a b (c + 1) _ HS.out (by omega) (by omega) hl24 hz24 HZ.out (by omega) (by omega) (by omega) HBI.out.at HST.out HO.out hpf hpt HBAR.out).mono ?_
  rintro e w3 ⟨hw, ⟨rfl, hg, ho⟩ | ⟨s', rfl, hg, ho⟩⟩
  · have HW3 := Lib.hid (below_low2 ((Within2.of (within_of HW.out) (.inl (Nat.le_refl 0))).trans hw) hB.2.2.1 hB.2.2.2.1 hB.1)
    have HO3 := Lib.hid ho
    have HG := Lib.hid hg
    have HST3 := Lib.hid (HST.out.at hw hpf hpt)
    clear hw ho hg
    go_wp2_with fail
    go_ret
    exact ⟨HW3.out, .inl ⟨rfl, by unfold plaR; rw [Int.toNat_natCast, HX.out, HG.out]; rfl, HO3.out, HST3.out⟩⟩
  · obtain ⟨hq, _⟩ := gathR_ok (P := P) (by omega) (by omega) (by omega) HS.out hg
    have HL1 := Lib.hid (show s'.1.length = F.length by rw [hq.flen, HFP.out])
    have HL2 := Lib.hid (show s'.2.length = T.length by rw [hq.ends.len, HS.out.ends.len])
    have hst3 := HST.out.at hw hpf hpt
    rw [← HL1.out, ← HL2.out] at hst3
    have HST3 := Lib.hid hst3
    have HB := Lib.hid (HB3.out.at hw (by omega) (by omega))
    have HW3 := Lib.hid (below_low2 ((Within2.of (within_of HW.out) (.inl (Nat.le_refl 0))).trans hw) hB.2.2.1 hB.2.2.2.1 hB.1)
    have hsa := hq.small (v := (a : Int)) (by omega)
    have hsb := hq.small (v := (b : Int)) (by omega)
    rw [Int.toNat_natCast] at hsa hsb
    have hfl := hq.flen
    obtain ⟨F', T'⟩ := s'
    simp only at hsa hsb hfl hst3 ho HST3 HL1 HL2
    obtain ⟨gF, rfl, g1, g2, hF⟩ := ho.1.open_ (by omega)
    have ha1 := (hF.cellAt a (by omega)).trans (intCells_get F' a (by omega))
    have hb1 := (hF.cellAt b (by omega)).trans (intCells_get F' b (by omega))
    have hfa := hF.frozenAt a
    have hfb := hF.frozenAt b
    have HF := Lib.hid hF
    have HO3 := Lib.hid ho
    have HG := Lib.hid hg
    have haF : (a : Int) < (F'.length : Int) := by omega
    have hbF : (b : Int) < (F'.length : Int) := by omega
    obtain ⟨d1, hd1⟩ : ∃ d1, F'.getD a 0 = d1 := ⟨_, rfl⟩
    obtain ⟨d2, hd2⟩ : ∃ d2, F'.getD b 0 = d2 := ⟨_, rfl⟩
    rw [hd1] at ha1 hsa
    rw [hd2] at hb1 hsb
    have HD := Lib.hid (And.intro hd1 hd2)
    have HFL := Lib.hid hfl
    have HTL := Lib.hid (show T'.length ≤ 24 by rw [HL2.out]; exact hz24t)
    have hs3 : w.heap.size ≤ w3.heap.size := HW3.out.size
    obtain ⟨hc0, hc1, hc2, hz0, hz1, hz2⟩ := hst3.cells
    obtain ⟨_, y0, y1⟩ := HB.out
    have hpb1 : w.heap.size ≠ pb := by omega
    have hpb2 : w.heap.size + 1 ≠ pb := by omega
    clear hq hst3 hd1 hd2 hfl hF ho hg hw
    have hgp : gF ≠ pb := by omega
    by_cases c1 : d1 = 0
    · have e1 : (d1 == 0) = true := by simpa using c1
      have hw4 := within_set w3 gF b (.int .i64 (d2 - 1))
      obtain ⟨o1, o2, o3, x1, x2, x3⟩ := HO3.out
      have HXX := Lib.hid (And.intro x1 (And.intro x2 x3))
      unfold Dis at x1 x2 x3
      have HT4 := Lib.hid (o2.within hw4 (by omega))
      have HZ4 := Lib.hid (o3.within hw4 (by omega))
      have HF4 := Lib.hid (show (w3.setCell ⟨gF, b, none⟩ (.int .i64 (d2 - 1))).ownsRow 0 3 1 (.slice (some ⟨gF, 0, none⟩) (F'.set b (d2 - 1)).length cF) (F'.set b (d2 - 1)).length (intCells (F'.set b (d2 - 1))) from by
        have h1 := (HF.out.stored b (.int .i64 (d2 - 1))).1
        rw [intCells_set] at h1
        rw [List.length_set]
        exact h1)
      have HST4 := Lib.hid (HST3.out.within hw4 (by omega))
      have HTW := Lib.hid (show t.1 ≤ (w3.setCell ⟨gF, b, none⟩ (.int .i64 (d2 - 1))).heap.size from Nat.le_trans ht12 (Nat.le_trans hs3 hw4.size))
      have HZV := Lib.hid (show z.1 ≤ (w3.setCell ⟨gF, b, none⟩ (.int .i64 (d2 - 1))).heap.size from Nat.le_trans hz12 (Nat.le_trans hs3 hw4.size))
      have HW4 := Lib.hid hw4
      obtain ⟨m0, m1, m2, m3, m4, m5⟩ := HST4.out.cells
      clear o1 o2 o3 x1 x2 x3 hw4
      go_wp2_with (first
        | (at_builtin; refine wpList_pushR _ rfl _ _ rfl z.1 z.2 AZ cZ Z (n : Int) rfl HZ6.out _ (by first | rfl | (simp only [World.size_setCell]; rfl)) (by omega) HZW.out ?_; intro A7 c7 w7 lo7 hi7 hr7 hor7 hw7; have HR7 := Lib.hid hr7; have HOR7 := Lib.hid hor7; have HW7 := Lib.hid hw7; have HST7 := Lib.hid (HST6.out.within hw7 hpz); obtain ⟨r0, r1, r2, r3, r4, r5⟩ := HST7.out.cells; clear hr7 hor7 hw7)
        | (at_builtin; refine wpList_pushR _ rfl _ _ rfl t.1 t.2 AT cT T' (b : Int) rfl HT4.out _ (by first | rfl | (simp only [World.size_setCell]; rfl)) (by have := HTL.out; omega) HTW.out ?_; intro A5 c5 w5 lo5 hi5 hr5 hor5 hw5; have HR5 := Lib.hid hr5; have HOR5 := Lib.hid hor5; have HW5 := Lib.hid hw5; have HST5 := Lib.hid (HST4.out.within hw5 hpt); have HST6 := Lib.hid (HST5.out.set1 (.slice A5 (T'.length + 1) c5)); have HZ6 := Lib.hid ((HZ4.out.within hw5 (by have := HXX.out.2.2; unfold Dis at this; omega)).within (within_set w5 pb 1 (.slice A5 (T'.length + 1) c5)) (by omega)); have HZW := Lib.hid (show z.1 ≤ (w5.setCell ⟨pb, 1, none⟩ (.slice A5 (T'.length + 1) c5)).heap.size from by rw [World.size_setCell]; exact Nat.le_trans HZV.out hw5.size); obtain ⟨p0, p1, p2, p3, p4, p5⟩ := HST5.out.cells; obtain ⟨u0, u1, u2, u3, u4, u5⟩ := HST6.out.cells; clear hr5 hor5 hw5))
      go_ret
      have hr5 := HR5.out
      have hr7 := HR7.out
      have hor5 := HOR5.out
      have hor7 := HOR7.out
      have w4 := HW4.out
      have w5w := HW5.out
      have w7w := HW7.out
      have xx := HXX.out
      have q5 := within_set w5 pb 1 (.slice A5 (T'.length + 1) c5)
      have q7 := within_set w7 pb 2 (.slice A7 (Z.length + 1) c7)
      have s4 := w4.size
      have s5 := w5w.size
      have s6 := q5.size
      have s7 := w7w.size
      have s8 := q7.size
      unfold Dis at xx
      have hB' := hB
      have e4 : (w3.setCell ⟨gF, b, none⟩ (.int .i64 (d2 - 1))).heap.size = w3.heap.size := by simp
      have e6 : (w5.setCell ⟨pb, 1, none⟩ (.slice A5 (T'.length + 1) c5)).heap.size = w5.heap.size := by simp
      have e8 : (w7.setCell ⟨pb, 2, none⟩ (.slice A7 (Z.length + 1) c7)).heap.size = w7.heap.size := by simp
      have hbel : Below B w (w7.setCell ⟨pb, 2, none⟩ (.slice A7 (Z.length + 1) c7)) := ((((HW3.out.trans (below_low w4 (by omega) (by omega))).trans (below_low w5w (by omega) (by omega))).trans (below_low q5 (by omega) (by omega))).trans (below_low w7w (by omega) (by omega))).trans (below_low q7 (by omega) (by omega))
      have hf8 := own_block (own_block (own_block (own_block HF4.out (w5w.block gF (HF4.out.lt gF rfl).2 (by omega))) (q5.block gF (by have := (HF4.out.lt gF rfl).2; omega) (by omega))) (w7w.block gF (by have := (HF4.out.lt gF rfl).2; omega) (by omega))) (q7.block gF (by have := (HF4.out.lt gF rfl).2; omega) (by omega))
      have ht8 := ((hr5.within q5 (by omega)).within w7w (by omega)).within q7 (by omega)
      have hz8 := hr7.within q7 (by omega)
      have hc8 := HST7.out.set2 (.slice A7 (Z.length + 1) c7)
      refine ⟨hbel, .inr ⟨(F'.set b (d2 - 1), (T' ++ [(b : Int)]), (Z ++ [(n : Int)])), A5, c5, A7, c7, (lo5, hi5), (lo7, hi7), rfl, ?_, ⟨⟨by show f.2 ≤ _; omega, .inr ⟨gF, rfl, g1, g2, own_rebase hf8 g1⟩⟩, ht8, hz8, ?_, ?_, ?_⟩, ?_, ?_, ?_⟩⟩
      · unfold plaR
        rw [Int.toNat_natCast, HX.out, HG.out]
        simp only [Option.map_some, Int.toNat_natCast, HD.out.1, HD.out.2]
        rw [if_pos c1]
      · unfold Dis; show f.2 ≤ lo5 ∨ hi5 ≤ f.1; omega
      · unfold Dis; show f.2 ≤ lo7 ∨ hi7 ≤ f.1; omega
      · unfold Dis; show hi5 ≤ lo7 ∨ hi7 ≤ lo5; omega
      · show Cel3 _ pb _ (.slice _ (F'.set b (d2 - 1)).length _) (.slice _ (T' ++ [(b : Int)]).length _) (.slice _ (Z ++ [(n : Int)]).length _)
        rw [List.length_set, List.length_append, List.length_append]
        exact hc8
      · rcases hor5 with ⟨rfl, rfl⟩ | h
        · exact .inl rfl
        · exact .inr ⟨by show w.heap.size ≤ lo5; omega, by show lo5 ≤ _; omega⟩
      · rcases hor7 with ⟨rfl, rfl⟩ | h
        · exact .inl rfl
        · exact .inr ⟨by show w.heap.size ≤ lo7; omega, by show lo7 ≤ _; omega⟩
    · have e1 : (d1 == 0) = false := by simpa using c1
      have hw4 := within_set w3 gF a (.int .i64 (d1 - 1))
      obtain ⟨o1, o2, o3, x1, x2, x3⟩ := HO3.out
      have HXX := Lib.hid (And.intro x1 (And.intro x2 x3))
      unfold Dis at x1 x2 x3
      have HT4 := Lib.hid (o2.within hw4 (by omega))
      have HZ4 := Lib.hid (o3.within hw4 (by omega))
      have HF4 := Lib.hid (show (w3.setCell ⟨gF, a, none⟩ (.int .i64 (d1 - 1))).ownsRow 0 3 1 (.slice (some ⟨gF, 0, none⟩) (F'.set a (d1 - 1)).length cF) (F'.set a (d1 - 1)).length (intCells (F'.set a (d1 - 1))) from by
        have h1 := (HF.out.stored a (.int .i64 (d1 - 1))).1
        rw [intCells_set] at h1
        rw [List.length_set]
        exact h1)
      have HST4 := Lib.hid (HST3.out.within hw4 (by omega))
      have HTW := Lib.hid (show t.1 ≤ (w3.setCell ⟨gF, a, none⟩ (.int .i64 (d1 - 1))).heap.size from Nat.le_trans ht12 (Nat.le_trans hs3 hw4.size))
      have HZV := Lib.hid (show z.1 ≤ (w3.setCell ⟨gF, a, none⟩ (.int .i64 (d1 - 1))).heap.size from Nat.le_trans hz12 (Nat.le_trans hs3 hw4.size))
      have HW4 := Lib.hid hw4
      obtain ⟨m0, m1, m2, m3, m4, m5⟩ := HST4.out.cells
      clear o1 o2 o3 x1 x2 x3 hw4
      go_wp2_with (first
        | (at_builtin; refine wpList_pushR _ rfl _ _ rfl z.1 z.2 AZ cZ Z (n : Int) rfl HZ6.out _ (by first | rfl | (simp only [World.size_setCell]; rfl)) (by omega) HZW.out ?_; intro A7 c7 w7 lo7 hi7 hr7 hor7 hw7; have HR7 := Lib.hid hr7; have HOR7 := Lib.hid hor7; have HW7 := Lib.hid hw7; have HST7 := Lib.hid (HST6.out.within hw7 hpz); obtain ⟨r0, r1, r2, r3, r4, r5⟩ := HST7.out.cells; clear hr7 hor7 hw7)
        | (at_builtin; refine wpList_pushR _ rfl _ _ rfl t.1 t.2 AT cT T' (a : Int) rfl HT4.out _ (by first | rfl | (simp only [World.size_setCell]; rfl)) (by have := HTL.out; omega) HTW.out ?_; intro A5 c5 w5 lo5 hi5 hr5 hor5 hw5; have HR5 := Lib.hid hr5; have HOR5 := Lib.hid hor5; have HW5 := Lib.hid hw5; have HST5 := Lib.hid (HST4.out.within hw5 hpt); have HST6 := Lib.hid (HST5.out.set1 (.slice A5 (T'.length + 1) c5)); have HZ6 := Lib.hid ((HZ4.out.within hw5 (by have := HXX.out.2.2; unfold Dis at this; omega)).within (within_set w5 pb 1 (.slice A5 (T'.length + 1) c5)) (by omega)); have HZW := Lib.hid (show z.1 ≤ (w5.setCell ⟨pb, 1, none⟩ (.slice A5 (T'.length + 1) c5)).heap.size from by rw [World.size_setCell]; exact Nat.le_trans HZV.out hw5.size); obtain ⟨p0, p1, p2, p3, p4, p5⟩ := HST5.out.cells; obtain ⟨u0, u1, u2, u3, u4, u5⟩ := HST6.out.cells; clear hr5 hor5 hw5))
      go_ret
      have hr5 := HR5.out
      have hr7 := HR7.out
      have hor5 := HOR5.out
      have hor7 := HOR7.out
      have w4 := HW4.out
      have w5w := HW5.out
      have w7w := HW7.out
      have xx := HXX.out
      have q5 := within_set w5 pb 1 (.slice A5 (T'.length + 1) c5)
      have q7 := within_set w7 pb 2 (.slice A7 (Z.length + 1) c7)
      have s4 := w4.size
      have s5 := w5w.size
      have s6 := q5.size
      have s7 := w7w.size
      have s8 := q7.size
      unfold Dis at xx
      have hB' := hB
      have e4 : (w3.setCell ⟨gF, a, none⟩ (.int .i64 (d1 - 1))).heap.size = w3.heap.size := by simp
      have e6 : (w5.setCell ⟨pb, 1, none⟩ (.slice A5 (T'.length + 1) c5)).heap.size = w5.heap.size := by simp
      have e8 : (w7.setCell ⟨pb, 2, none⟩ (.slice A7 (Z.length + 1) c7)).heap.size = w7.heap.size := by simp
      have hbel : Below B w (w7.setCell ⟨pb, 2, none⟩ (.slice A7 (Z.length + 1) c7)) := ((((HW3.out.trans (below_low w4 (by omega) (by omega))).trans (below_low w5w (by omega) (by omega))).trans (below_low q5 (by omega) (by omega))).trans (below_low w7w (by omega) (by omega))).trans (below_low q7 (by omega) (by omega))
      have hf8 := own_block (own_block (own_block (own_block HF4.out (w5w.block gF (HF4.out.lt gF rfl).2 (by omega))) (q5.block gF (by have := (HF4.out.lt gF rfl).2; omega) (by omega))) (w7w.block gF (by have := (HF4.out.lt gF rfl).2; omega) (by omega))) (q7.block gF (by have := (HF4.out.lt gF rfl).2; omega) (by omega))
      have ht8 := ((hr5.within q5 (by omega)).within w7w (by omega)).within q7 (by omega)
      have hz8 := hr7.within q7 (by omega)
      have hc8 := HST7.out.set2 (.slice A7 (Z.length + 1) c7)
      refine ⟨hbel, .inr ⟨(F'.set a (d1 - 1), (T' ++ [(a : Int)]), (Z ++ [(n : Int)])), A5, c5, A7, c7, (lo5, hi5), (lo7, hi7), rfl, ?_, ⟨⟨by show f.2 ≤ _; omega, .inr ⟨gF, rfl, g1, g2, own_rebase hf8 g1⟩⟩, ht8, hz8, ?_, ?_, ?_⟩, ?_, ?_, ?_⟩⟩
      · unfold plaR
        rw [Int.toNat_natCast, HX.out, HG.out]
        simp only [Option.map_some, Int.toNat_natCast, HD.out.1, HD.out.2]
        rw [if_neg c1]
      · unfold Dis; show f.2 ≤ lo5 ∨ hi5 ≤ f.1; omega
      · unfold Dis; show f.2 ≤ lo7 ∨ hi7 ≤ f.1; omega
      · unfold Dis; show hi5 ≤ lo7 ∨ hi7 ≤ lo5; omega
      · show Cel3 _ pb _ (.slice _ (F'.set a (d1 - 1)).length _) (.slice _ (T' ++ [(a : Int)]).length _) (.slice _ (Z ++ [(n : Int)]).length _)
        rw [List.length_set, List.length_append, List.length_append]
        exact hc8
      · rcases hor5 with ⟨rfl, rfl⟩ | h
        · exact .inl rfl
        · exact .inr ⟨by show w.heap.size ≤ lo5; omega, by show lo5 ≤ _; omega⟩
      · rcases hor7 with ⟨rfl, rfl⟩ | h
        · exact .inl rfl
        · exact .inr ⟨by show w.heap.size ≤ lo7; omega, by show lo7 ≤ _; omega⟩
end Go.Proofs.Ytdkpmaahinbhlaa
/- What impl.NewPebbles answers: the two other rows are nil. No condition. -/
namespace Go.Proofs.Ytdkpmaahinbhlaa
open Go.RowKit

/-- A new state and a bool: the free pebbles in a row of the call's own, the other rows nil. -/
def NewOB (w : World) (F : List Int) (r : Bool) (e : Ending) (w' : World) : Prop :=
  ∃ (AF : Option Addr) (cF a b : Nat), e = .returned (.tuple #[pebV AF F.length cF none 0 0 none 0 0, .bool r]) ∧ OwnInts w' a b AF cF F ∧ w.heap.size ≤ a ∧ b ≤ w'.heap.size ∧ Below w.heap.size w w'

set_option maxHeartbeats 2000000 in
set_option maxRecDepth 100000 in
theorem implNewN (p k : Int) (l : List (Int × Int)) (A : Option Addr) (cap : Nat) (w : World) (hl : BarsAt w w.heap.size A l) (hn : l.length ≤ 1048576) :
    Calls Try.prog 36 #[.agg #[.int .i64 p, .slice A l.length cap], .int .i64 k] w (NewOB w (newF p k l) (newB p k l)) := by
  have HISG : ∀ W : World, BarsAt W W.heap.size A l → Calls Try.prog 130 #[.agg #[.int .i64 p, .slice A l.length cap]] W fun e w' => e = .returned (.bool (isGB p l)) ∧ Below W.heap.size W w' := fun W h => implIsGraph p l A cap W h hn
  by_cases hbad : isGB p l = false ∨ k < 1 ∨ 3 < k
  · have HR := Lib.hid (new_no hbad)
    rcases hg : isGB p l with _ | _
    · skip
      rw [hg] at HISG
      clear hbad
      have W0 := Lib.hid (Below.refl w.heap.size w)
      have HB_0 := Lib.hid (bars_in hl)
      clear hl
      have Z1 := Lib.hid (within_alloc w (.cells #[.int .i64 p, (.slice A l.length cap)] 26)).size
      have W1 := Lib.hid (within_on W0.out (within_alloc w (.cells #[.int .i64 p, (.slice A l.length cap)] 26)) W0.out.size (.inr (Nat.le_refl _)))
      have HB_1 := Lib.hid (HB_0.out.within (within_alloc w (.cells #[.int .i64 p, (.slice A l.length cap)] 26)) (by omega))
      have Y1 := Lib.hid (show (w.alloc (.cells #[.int .i64 p, (.slice A l.length cap)] 26)).heap.size = w.heap.size + 1 by simp)
      have hnew := box_new w p (.slice A l.length cap) 26
      have BX_1 := Lib.hid hnew
      clear hnew
      have Z2 := Lib.hid (within_alloc (w.alloc (.cells #[.int .i64 p, (.slice A l.length cap)] 26)) (.cells #[(.slice none 0 0), (.slice none 0 0), (.slice none 0 0)] 31)).size
      have W2 := Lib.hid (within_on W1.out (within_alloc (w.alloc (.cells #[.int .i64 p, (.slice A l.length cap)] 26)) (.cells #[(.slice none 0 0), (.slice none 0 0), (.slice none 0 0)] 31)) W1.out.size (.inr (Nat.le_refl _)))
      have HB_2 := Lib.hid (HB_1.out.within (within_alloc (w.alloc (.cells #[.int .i64 p, (.slice A l.length cap)] 26)) (.cells #[(.slice none 0 0), (.slice none 0 0), (.slice none 0 0)] 31)) (by omega))
      have BX_2 := Lib.hid (BX_1.out.within (within_alloc (w.alloc (.cells #[.int .i64 p, (.slice A l.length cap)] 26)) (.cells #[(.slice none 0 0), (.slice none 0 0), (.slice none 0 0)] 31)) (by omega))
      have Y2 := Lib.hid (show ((w.alloc (.cells #[.int .i64 p, (.slice A l.length cap)] 26)).alloc (.cells #[(.slice none 0 0), (.slice none 0 0), (.slice none 0 0)] 31)).heap.size = (w.alloc (.cells #[.int .i64 p, (.slice A l.length cap)] 26)).heap.size + 1 by simp)
      have hnew := cel3_new (w.alloc (.cells #[.int .i64 p, (.slice A l.length cap)] 26)) (.slice none 0 0) (.slice none 0 0) (.slice none 0 0) 31
      rw [show (w.alloc (.cells #[.int .i64 p, (.slice A l.length cap)] 26)).heap.size = w.heap.size + 1 by simp] at hnew
      have GR_2 := Lib.hid hnew
      clear hnew
      go_enter Try.func36, Try.ntmps36
      obtain ⟨g0_0, g0_1, g0_2⟩ := BX_2.out
      go_wp2_with fail
      clear g0_0 g0_1 g0_2
      generalize ((w.alloc (.cells #[.int .i64 p, (.slice A l.length cap)] 26)).alloc (.cells #[(.slice none 0 0), (.slice none 0 0), (.slice none 0 0)] 31)) = w2 at *
      generalize (w.alloc (.cells #[.int .i64 p, (.slice A l.length cap)] 26)) = w1 at *
      refine (HISG _ HB_2.out.at).mono ?_
      rintro e w3 ⟨rfl, hb⟩
      have Z3 := Lib.hid (within_of hb).size
      have W3 := Lib.hid (within_on W2.out (within_of hb) W2.out.size (.inr (Nat.le_refl _)))
      have HB_3 := Lib.hid (HB_2.out.within (within_of hb) (by omega))
      have BX_3 := Lib.hid (BX_2.out.within (within_of hb) (by omega))
      have GR_3 := Lib.hid (GR_2.out.within (within_of hb) (by omega))
      clear hb HISG
      obtain ⟨g1_0, g1_1, g1_2, g1_3, g1_4, g1_5⟩ := GR_3.out.cells
      have Z4 := Lib.hid ((ret3 GR_3.out (.slice none 0 0) (.slice none 0 0) (.slice none 0 0)).2).size
      have W4 := Lib.hid (within_on W3.out ((ret3 GR_3.out (.slice none 0 0) (.slice none 0 0) (.slice none 0 0)).2) W3.out.size (by have := Z1.out; have := Z2.out; have := Z3.out; have := Z4.out; have := Y1.out; have := Y2.out; omega))
      have HB_4 := Lib.hid (HB_3.out.within ((ret3 GR_3.out (.slice none 0 0) (.slice none 0 0) (.slice none 0 0)).2) (by have := Z1.out; have := Z2.out; have := Z3.out; have := Z4.out; have := Y1.out; have := Y2.out; omega))
      have BX_4 := Lib.hid (BX_3.out.within ((ret3 GR_3.out (.slice none 0 0) (.slice none 0 0) (.slice none 0 0)).2) (by have := Z1.out; have := Z2.out; have := Z3.out; have := Z4.out; have := Y1.out; have := Y2.out; omega))
      have GR_4 := Lib.hid ((ret3 GR_3.out (.slice none 0 0) (.slice none 0 0) (.slice none 0 0)).1)
      obtain ⟨g2_0, g2_1, g2_2, g2_3, g2_4, g2_5⟩ := GR_4.out.cells
      go_wp2_with fail
      generalize (((w3.setCell ⟨w.heap.size + 1, 0, none⟩ (.slice none 0 0)).setCell ⟨w.heap.size + 1, 1, none⟩ (.slice none 0 0)).setCell ⟨w.heap.size + 1, 2, none⟩ (.slice none 0 0)) = w4 at *
      refine bodyPost_ret (v := .tuple #[pebV none 0 0 none 0 0 none 0 0, .bool false]) ?_ rfl ?_
      · simp [results, Try.results36, go_sem, g2_0, g2_1, g2_2]
      · rw [HR.out.1, HR.out.2]
        exact ⟨none, 0, _, _, rfl, ⟨Nat.le_refl _, .inl rfl⟩, W4.out.size, Nat.le_refl _, W4.out⟩
    · skip
      rw [hg] at HISG
      have hk : (k < 1) ∨ (¬ k < 1 ∧ 3 < k) := by simp only [hg] at hbad; simp at hbad; omega
      clear hbad
      have W0 := Lib.hid (Below.refl w.heap.size w)
      have HB_0 := Lib.hid (bars_in hl)
      clear hl
      have Z1 := Lib.hid (within_alloc w (.cells #[.int .i64 p, (.slice A l.length cap)] 26)).size
      have W1 := Lib.hid (within_on W0.out (within_alloc w (.cells #[.int .i64 p, (.slice A l.length cap)] 26)) W0.out.size (.inr (Nat.le_refl _)))
      have HB_1 := Lib.hid (HB_0.out.within (within_alloc w (.cells #[.int .i64 p, (.slice A l.length cap)] 26)) (by omega))
      have Y1 := Lib.hid (show (w.alloc (.cells #[.int .i64 p, (.slice A l.length cap)] 26)).heap.size = w.heap.size + 1 by simp)
      have hnew := box_new w p (.slice A l.length cap) 26
      have BX_1 := Lib.hid hnew
      clear hnew
      have Z2 := Lib.hid (within_alloc (w.alloc (.cells #[.int .i64 p, (.slice A l.length cap)] 26)) (.cells #[(.slice none 0 0), (.slice none 0 0), (.slice none 0 0)] 31)).size
      have W2 := Lib.hid (within_on W1.out (within_alloc (w.alloc (.cells #[.int .i64 p, (.slice A l.length cap)] 26)) (.cells #[(.slice none 0 0), (.slice none 0 0), (.slice none 0 0)] 31)) W1.out.size (.inr (Nat.le_refl _)))
      have HB_2 := Lib.hid (HB_1.out.within (within_alloc (w.alloc (.cells #[.int .i64 p, (.slice A l.length cap)] 26)) (.cells #[(.slice none 0 0), (.slice none 0 0), (.slice none 0 0)] 31)) (by omega))
      have BX_2 := Lib.hid (BX_1.out.within (within_alloc (w.alloc (.cells #[.int .i64 p, (.slice A l.length cap)] 26)) (.cells #[(.slice none 0 0), (.slice none 0 0), (.slice none 0 0)] 31)) (by omega))
      have Y2 := Lib.hid (show ((w.alloc (.cells #[.int .i64 p, (.slice A l.length cap)] 26)).alloc (.cells #[(.slice none 0 0), (.slice none 0 0), (.slice none 0 0)] 31)).heap.size = (w.alloc (.cells #[.int .i64 p, (.slice A l.length cap)] 26)).heap.size + 1 by simp)
      have hnew := cel3_new (w.alloc (.cells #[.int .i64 p, (.slice A l.length cap)] 26)) (.slice none 0 0) (.slice none 0 0) (.slice none 0 0) 31
      rw [show (w.alloc (.cells #[.int .i64 p, (.slice A l.length cap)] 26)).heap.size = w.heap.size + 1 by simp] at hnew
      have GR_2 := Lib.hid hnew
      clear hnew
      go_enter Try.func36, Try.ntmps36
      obtain ⟨g0_0, g0_1, g0_2⟩ := BX_2.out
      go_wp2_with fail
      clear g0_0 g0_1 g0_2
      generalize ((w.alloc (.cells #[.int .i64 p, (.slice A l.length cap)] 26)).alloc (.cells #[(.slice none 0 0), (.slice none 0 0), (.slice none 0 0)] 31)) = w2 at *
      generalize (w.alloc (.cells #[.int .i64 p, (.slice A l.length cap)] 26)) = w1 at *
      refine (HISG _ HB_2.out.at).mono ?_
      rintro e w3 ⟨rfl, hb⟩
      have Z3 := Lib.hid (within_of hb).size
      have W3 := Lib.hid (within_on W2.out (within_of hb) W2.out.size (.inr (Nat.le_refl _)))
      have HB_3 := Lib.hid (HB_2.out.within (within_of hb) (by omega))
      have BX_3 := Lib.hid (BX_2.out.within (within_of hb) (by omega))
      have GR_3 := Lib.hid (GR_2.out.within (within_of hb) (by omega))
      clear hb HISG
      rcases hk with hk | ⟨hk1, hk⟩
      all_goals
        obtain ⟨g1_0, g1_1, g1_2, g1_3, g1_4, g1_5⟩ := GR_3.out.cells
        have Z4 := Lib.hid ((ret3 GR_3.out (.slice none 0 0) (.slice none 0 0) (.slice none 0 0)).2).size
        have W4 := Lib.hid (within_on W3.out ((ret3 GR_3.out (.slice none 0 0) (.slice none 0 0) (.slice none 0 0)).2) W3.out.size (by have := Z1.out; have := Z2.out; have := Z3.out; have := Z4.out; have := Y1.out; have := Y2.out; omega))
        have HB_4 := Lib.hid (HB_3.out.within ((ret3 GR_3.out (.slice none 0 0) (.slice none 0 0) (.slice none 0 0)).2) (by have := Z1.out; have := Z2.out; have := Z3.out; have := Z4.out; have := Y1.out; have := Y2.out; omega))
        have BX_4 := Lib.hid (BX_3.out.within ((ret3 GR_3.out (.slice none 0 0) (.slice none 0 0) (.slice none 0 0)).2) (by have := Z1.out; have := Z2.out; have := Z3.out; have := Z4.out; have := Y1.out; have := Y2.out; omega))
        have GR_4 := Lib.hid ((ret3 GR_3.out (.slice none 0 0) (.slice none 0 0) (.slice none 0 0)).1)
        obtain ⟨g2_0, g2_1, g2_2, g2_3, g2_4, g2_5⟩ := GR_4.out.cells
        go_wp2_with fail
        generalize (((w3.setCell ⟨w.heap.size + 1, 0, none⟩ (.slice none 0 0)).setCell ⟨w.heap.size + 1, 1, none⟩ (.slice none 0 0)).setCell ⟨w.heap.size + 1, 2, none⟩ (.slice none 0 0)) = w4 at *
        refine bodyPost_ret (v := .tuple #[pebV none 0 0 none 0 0 none 0 0, .bool false]) ?_ rfl ?_
        · simp [results, Try.results36, go_sem, g2_0, g2_1, g2_2]
        · rw [HR.out.1, HR.out.2]
          exact ⟨none, 0, _, _, rfl, ⟨Nat.le_refl _, .inl rfl⟩, W4.out.size, Nat.le_refl _, W4.out⟩
  · skip
    have hg : isGB p l = true := by
      cases h : isGB p l with
      | true => rfl
      | false => exact absurd (.inl h) hbad
    have hG : IsG p l := Classical.byContradiction fun g => by rw [isGB_no g] at hg; cases hg
    obtain ⟨P, rfl⟩ : ∃ P : Nat, p = (P : Int) := ⟨p.toNat, by have := hG.1; omega⟩
    have hP : 1 ≤ P ∧ P ≤ 8 := by have := hG.1; omega
    have hk1 : ¬ k < 1 := by omega
    have hk2 : ¬ 3 < k := by omega
    have HR := Lib.hid (new_yes (l := l) hg (by omega : 1 ≤ k) (by omega))
    rw [hg] at HISG
    clear hbad hG hg
    have W0 := Lib.hid (Below.refl w.heap.size w)
    have HB_0 := Lib.hid (bars_in hl)
    clear hl
    have Z1 := Lib.hid (within_alloc w (.cells #[.int .i64 (P : Int), (.slice A l.length cap)] 26)).size
    have W1 := Lib.hid (within_on W0.out (within_alloc w (.cells #[.int .i64 (P : Int), (.slice A l.length cap)] 26)) W0.out.size (.inr (Nat.le_refl _)))
    have HB_1 := Lib.hid (HB_0.out.within (within_alloc w (.cells #[.int .i64 (P : Int), (.slice A l.length cap)] 26)) (by omega))
    have Y1 := Lib.hid (show (w.alloc (.cells #[.int .i64 (P : Int), (.slice A l.length cap)] 26)).heap.size = w.heap.size + 1 by simp)
    have hnew := box_new w (P : Int) (.slice A l.length cap) 26
    have BX_1 := Lib.hid hnew
    clear hnew
    have Z2 := Lib.hid (within_alloc (w.alloc (.cells #[.int .i64 (P : Int), (.slice A l.length cap)] 26)) (.cells #[(.slice none 0 0), (.slice none 0 0), (.slice none 0 0)] 31)).size
    have W2 := Lib.hid (within_on W1.out (within_alloc (w.alloc (.cells #[.int .i64 (P : Int), (.slice A l.length cap)] 26)) (.cells #[(.slice none 0 0), (.slice none 0 0), (.slice none 0 0)] 31)) W1.out.size (.inr (Nat.le_refl _)))
    have HB_2 := Lib.hid (HB_1.out.within (within_alloc (w.alloc (.cells #[.int .i64 (P : Int), (.slice A l.length cap)] 26)) (.cells #[(.slice none 0 0), (.slice none 0 0), (.slice none 0 0)] 31)) (by omega))
    have BX_2 := Lib.hid (BX_1.out.within (within_alloc (w.alloc (.cells #[.int .i64 (P : Int), (.slice A l.length cap)] 26)) (.cells #[(.slice none 0 0), (.slice none 0 0), (.slice none 0 0)] 31)) (by omega))
    have Y2 := Lib.hid (show ((w.alloc (.cells #[.int .i64 (P : Int), (.slice A l.length cap)] 26)).alloc (.cells #[(.slice none 0 0), (.slice none 0 0), (.slice none 0 0)] 31)).heap.size = (w.alloc (.cells #[.int .i64 (P : Int), (.slice A l.length cap)] 26)).heap.size + 1 by simp)
    have hnew := cel3_new (w.alloc (.cells #[.int .i64 (P : Int), (.slice A l.length cap)] 26)) (.slice none 0 0) (.slice none 0 0) (.slice none 0 0) 31
    rw [show (w.alloc (.cells #[.int .i64 (P : Int), (.slice A l.length cap)] 26)).heap.size = w.heap.size + 1 by simp] at hnew
    have GR_2 := Lib.hid hnew
    clear hnew
    go_enter Try.func36, Try.ntmps36
    obtain ⟨g0_0, g0_1, g0_2⟩ := BX_2.out
    go_wp2_with fail
    clear g0_0 g0_1 g0_2
    generalize ((w.alloc (.cells #[.int .i64 (P : Int), (.slice A l.length cap)] 26)).alloc (.cells #[(.slice none 0 0), (.slice none 0 0), (.slice none 0 0)] 31)) = w2 at *
    generalize (w.alloc (.cells #[.int .i64 (P : Int), (.slice A l.length cap)] 26)) = w1 at *
    refine (HISG _ HB_2.out.at).mono ?_
    rintro e w3 ⟨rfl, hb⟩
    have Z3 := Lib.hid (within_of hb).size
    have W3 := Lib.hid (within_on W2.out (within_of hb) W2.out.size (.inr (Nat.le_refl _)))
    have HB_3 := Lib.hid (HB_2.out.within (within_of hb) (by omega))
    have BX_3 := Lib.hid (BX_2.out.within (within_of hb) (by omega))
    have GR_3 := Lib.hid (GR_2.out.within (within_of hb) (by omega))
    clear hb HISG
    have Z4 := Lib.hid (within_alloc w3 (.cells #[.int .i64 k] 3)).size
    have W4 := Lib.hid (within_on W3.out (within_alloc w3 (.cells #[.int .i64 k] 3)) W3.out.size (.inr (Nat.le_refl _)))
    have HB_4 := Lib.hid (HB_3.out.within (within_alloc w3 (.cells #[.int .i64 k] 3)) (by omega))
    have BX_4 := Lib.hid (BX_3.out.within (within_alloc w3 (.cells #[.int .i64 k] 3)) (by omega))
    have GR_4 := Lib.hid (GR_3.out.within (within_alloc w3 (.cells #[.int .i64 k] 3)) (by omega))
    have Y4 := Lib.hid (show (w3.alloc (.cells #[.int .i64 k] 3)).heap.size = w3.heap.size + 1 by simp)
    have hck : (w3.alloc (.cells #[.int .i64 k] 3)).cell? ⟨w3.heap.size, 0, none⟩ = some (.int .i64 k) := by rw [World.cell?_alloc_at _ _ _ _ rfl]; rfl
    have HCK := Lib.hid hck
    clear hck
    obtain ⟨g1_0, g1_1, g1_2⟩ := BX_4.out
    go_wp2_with fail
    clear g1_0 g1_1 g1_2
    generalize (w3.alloc (.cells #[.int .i64 k] 3)) = w4 at *
    refine (slRepeat P k w3.heap.size _ hP.1 hP.2 HCK.out).mono ?_
    rintro e w5 ⟨g, rfl, ho, hb⟩
    have Z5 := Lib.hid (within_of hb).size
    have W5 := Lib.hid (within_on W4.out (within_of hb) W4.out.size (.inr (Nat.le_refl _)))
    have HB_5 := Lib.hid (HB_4.out.within (within_of hb) (by omega))
    have BX_5 := Lib.hid (BX_4.out.within (within_of hb) (by omega))
    have GR_5 := Lib.hid (GR_4.out.within (within_of hb) (by omega))
    have OF_5 := Lib.hid (own_ints' (zs := List.replicate P k) (by rw [List.length_replicate]; exact ho))
    clear ho hb
    obtain ⟨g2_0, g2_1, g2_2, g2_3, g2_4, g2_5⟩ := GR_5.out.cells
    have Z6 := Lib.hid ((ret3 GR_5.out (.slice (some ⟨g, 0, none⟩) P P) (.slice none 0 0) (.slice none 0 0)).2).size
    have W6 := Lib.hid (within_on W5.out ((ret3 GR_5.out (.slice (some ⟨g, 0, none⟩) P P) (.slice none 0 0) (.slice none 0 0)).2) W5.out.size (by have := Z1.out; have := Z2.out; have := Z3.out; have := Z4.out; have := Z5.out; have := Z6.out; have := Y1.out; have := Y2.out; have := Y4.out; omega))
    have HB_6 := Lib.hid (HB_5.out.within ((ret3 GR_5.out (.slice (some ⟨g, 0, none⟩) P P) (.slice none 0 0) (.slice none 0 0)).2) (by have := Z1.out; have := Z2.out; have := Z3.out; have := Z4.out; have := Z5.out; have := Z6.out; have := Y1.out; have := Y2.out; have := Y4.out; omega))
    have BX_6 := Lib.hid (BX_5.out.within ((ret3 GR_5.out (.slice (some ⟨g, 0, none⟩) P P) (.slice none 0 0) (.slice none 0 0)).2) (by have := Z1.out; have := Z2.out; have := Z3.out; have := Z4.out; have := Z5.out; have := Z6.out; have := Y1.out; have := Y2.out; have := Y4.out; omega))
    have GR_6 := Lib.hid ((ret3 GR_5.out (.slice (some ⟨g, 0, none⟩) P P) (.slice none 0 0) (.slice none 0 0)).1)
    have OF_6 := Lib.hid (OF_5.out.within ((ret3 GR_5.out (.slice (some ⟨g, 0, none⟩) P P) (.slice none 0 0) (.slice none 0 0)).2) (by have := Z1.out; have := Z2.out; have := Z3.out; have := Z4.out; have := Z5.out; have := Z6.out; have := Y1.out; have := Y2.out; have := Y4.out; omega))
    obtain ⟨g3_0, g3_1, g3_2, g3_3, g3_4, g3_5⟩ := GR_6.out.cells
    go_wp2_with fail
    generalize (((w5.setCell ⟨w.heap.size + 1, 0, none⟩ (.slice (some ⟨g, 0, none⟩) P P)).setCell ⟨w.heap.size + 1, 1, none⟩ (.slice none 0 0)).setCell ⟨w.heap.size + 1, 2, none⟩ (.slice none 0 0)) = w6 at *
    refine bodyPost_ret (v := .tuple #[pebV (some ⟨g, 0, none⟩) P P none 0 0 none 0 0, .bool true]) ?_ rfl ?_
    · simp [results, Try.results36, go_sem, g3_0, g3_1, g3_2]
    · rw [HR.out.1, HR.out.2]
      exact ⟨some ⟨g, 0, none⟩, P, _, _, by rw [List.length_replicate], OF_6.out, (by have := Z1.out; have := Z2.out; have := Z3.out; have := Z4.out; have := Z5.out; have := Z6.out; have := Y1.out; have := Y2.out; have := Y4.out; omega), (by have := Z1.out; have := Z2.out; have := Z3.out; have := Z4.out; have := Z5.out; have := Z6.out; have := Y1.out; have := Y2.out; have := Y4.out; omega), W6.out⟩

end Go.Proofs.Ytdkpmaahinbhlaa
/- What impl.RunPebbles answers. No condition. -/
namespace Go.Proofs.Ytdkpmaahinbhlaa
open Go.RowKit

/-- What stands in the program's run of the game: the graph's box, the result's box, the state's box with its rows' ranges. -/
structure RunI (w W : World) (P : Nat) (A : Option Addr) (cap : Nat) (l : List (Int × Int)) (pb : Nat) (f t z : Nat × Nat) (AF AT AZ : Option Addr) (cF cT cZ : Nat) (R : List Int × List Int × List Int) : Prop where
  gb : Box W w.heap.size (P : Int) (.slice A l.length cap)
  rb : Cel3 W (w.heap.size + 1) 31 (.slice none 0 0) (.slice none 0 0) (.slice none 0 0)
  st : Cel3 W pb 31 (.slice AF R.1.length cF) (.slice AT R.2.1.length cT) (.slice AZ R.2.2.length cZ)
  own : OwnF W f t z AF cF AT cT AZ cZ R.1 R.2.1 R.2.2
  bars : BarsIn W 0 w.heap.size A l
  bel : Below w.heap.size w W
  lo : w.heap.size + 2 ≤ pb ∧ w.heap.size + 2 ≤ f.1 ∧ w.heap.size + 2 ≤ t.1 ∧ w.heap.size + 2 ≤ z.1
  hp : (pb < f.1 ∨ f.2 ≤ pb) ∧ (pb < t.1 ∨ t.2 ≤ pb) ∧ (pb < z.1 ∨ z.2 ≤ pb)
  hs : t.1 ≤ W.heap.size ∧ z.1 ≤ W.heap.size
theorem RunI.mk0 {w W : World} {P : Nat} {k c : Int} {A : Option Addr} {cap : Nat} {l : List (Int × Int)} {pb a b : Nat} {AF : Option Addr} {cF : Nat} (g : Box W w.heap.size (P : Int) (.slice A l.length cap)) (r : Cel3 W (w.heap.size + 1) 31 (.slice none 0 0) (.slice none 0 0) (.slice none 0 0))
    (h : Cel3 W pb 31 (.slice AF (runN P k c l 0).1.length cF) (.slice none 0 0) (.slice none 0 0)) (ho : OwnR W a b AF cF (runN P k c l 0).1) (hb : BarsIn W 0 w.heap.size A l) (hw : Below w.heap.size w W) (h1 : w.heap.size + 2 ≤ pb) (h2 : w.heap.size + 2 ≤ a) (h3 : b ≤ pb) (h4 : pb < W.heap.size) :
    RunI w W P A cap l pb (a, b) (W.heap.size, W.heap.size) (W.heap.size, W.heap.size) AF none none cF 0 0 (runN P k c l 0) :=
  ⟨g, r, h, ⟨ho, ⟨Nat.le_refl _, .inl ⟨rfl, rfl, rfl⟩⟩, ⟨Nat.le_refl _, .inl ⟨rfl, rfl, rfl⟩⟩, .inl (by show b ≤ W.heap.size; omega), .inl (by show b ≤ W.heap.size; omega), .inl (Nat.le_refl _)⟩, hb, hw,
    ⟨h1, h2, by show _ ≤ W.heap.size; omega, by show _ ≤ W.heap.size; omega⟩, ⟨.inr h3, .inl h4, .inl h4⟩, ⟨Nat.le_refl _, Nat.le_refl _⟩⟩
theorem runN_zero {P : Nat} {k c : Int} {l : List (Int × Int)} (h : newB (P : Int) k l = true) : (runN P k c l 0).1 ≠ [] := by
  have h1 := (newB_is h).1.1
  intro e
  have h2 : (runN P k c l 0).1.length = P := by simp [runN]
  rw [e] at h2
  simp at h2
  omega
theorem own_new {W : World} {a b : Nat} {A : Option Addr} {cap : Nat} {zs : List Int} (h : OwnInts W a b A cap zs) (hz : zs ≠ []) : OwnR W a b A cap zs :=
  ⟨h.1, by
    rcases h.2 with e | r
    · exact absurd e hz
    · exact .inr r⟩
/-- The program's next bar. -/
theorem RunI.call {w W : World} {P : Nat} {k c : Int} {A : Option Addr} {cap : Nat} {l : List (Int × Int)} {pb : Nat} {f t z : Nat × Nat} {AF AT AZ : Option Addr} {cF cT cZ : Nat} {n : Nat} (h : RunI w W P A cap l pb f t z AF AT AZ cF cT cZ (runN P k c l n)) (hk : newB (P : Int) k l = true) (hr : rangeB k c = true) (hn : n < l.length) :
    Calls Try.prog 109 #[.pointer (some ⟨pb, 0, none⟩), .agg #[.int .i64 (P : Int), .slice A l.length cap], .int .i64 c, .int .i64 (n : Int)] W (fun e W' => ∃ (b : Bool) (f' t' z' : Nat × Nat) (BF BT BZ : Option Addr) (dF dT dZ : Nat), e = .returned (.bool b) ∧ RunI w W' P A cap l pb f' t' z' BF BT BZ dF dT dZ (runN P k c l (n + 1))) := by
  obtain ⟨h1, h2, h3, h4, h5, h6, h7, h8, h9⟩ := h
  have hlt := h3.lt
  have hs := runN_step hk hr hn
  have hrr := rangeB_is hr
  have hs0 := h6.size
  refine (place_c P k l A cap pb (w.heap.size + 2) f t z AF AT AZ cF cT cZ _ _ _ c n W (runN_at hk hr (Nat.le_of_lt hn)) (by omega) hn (h5.widen (Nat.le_refl _) (by omega) (by omega)) h3 h4 (by omega) h8.1 h8.2.1 h8.2.2 h9.1 h9.2).mono ?_
  rintro e W' ⟨hb, ⟨rfl, hp, ho, hc⟩ | ⟨s, AT', cT', AZ', cZ', t', z', rfl, hp, ho, hc, ht, hz⟩⟩
  · have hw := within_low hb
    have e1 : runN P k c l (n + 1) = runN P k c l n := by rw [hs.2, hp]; rfl
    have hsz := hb.size
    rw [e1]
    exact ⟨false, f, t, z, AF, AT, AZ, cF, cT, cZ, rfl, h1.within hw (by omega), h2.within hw (by omega), hc, ho, h5.within hw (by omega), within_on h6 hw h6.size (.inl (by omega)), h7, h8, by omega, by omega⟩
  · have hw := within_low hb
    have e1 : runN P k c l (n + 1) = s := by rw [hs.2, hp]; rfl
    have hsz := hb.size
    rw [e1]
    refine ⟨true, f, t', z', AF, AT', AZ', cF, cT', cZ', rfl, h1.within hw (by omega), h2.within hw (by omega), hc, ho, h5.within hw (by omega), within_on h6 hw h6.size (.inl (by omega)), ⟨h7.1, h7.2.1, ?_, ?_⟩, ⟨h8.1, ?_, ?_⟩, ?_, ?_⟩
    · rcases ht with e | e
      · rw [e]; exact h7.2.2.1
      · omega
    · rcases hz with e | e
      · rw [e]; exact h7.2.2.2
      · omega
    · rcases ht with e | e
      · rw [e]; exact h8.2.1
      · omega
    · rcases hz with e | e
      · rw [e]; exact h8.2.2
      · omega
    · rcases ht with e | e
      · rw [e]; omega
      · omega
    · rcases hz with e | e
      · rw [e]; omega
      · omega

set_option maxHeartbeats 4000000 in
set_option maxRecDepth 100000 in
theorem implRunP (p k c : Int) (l : List (Int × Int)) (A : Option Addr) (cap : Nat) (w : World) (hl : BarsAt w w.heap.size A l) (hn : l.length ≤ 1048576) :
    Calls Try.prog 16 #[.agg #[.int .i64 p, .slice A l.length cap], .int .i64 k, .int .i64 c] w (PebOB w (runV p k c l).1 (runV p k c l).2.1 (runV p k c l).2.2 (runB p k c l)) := by
  by_cases hb1 : newB p k l = true
  case neg =>
    have hb1' : newB p k l = false := by simpa using hb1
    have HR := Lib.hid (runV_no (c := c) (.inl hb1'))
    clear hb1
    rename newB p k l = false => hb1
    have HNW : ∀ W : World, BarsAt W W.heap.size A l → Calls Try.prog 36 #[.agg #[.int .i64 p, .slice A l.length cap], .int .i64 k] W (NewOB W (newF p k l) false) := fun W h => by have hc := implNewN p k l A cap W h hn; rw [hb1] at hc; exact hc
    clear hb1
    have W0 := Lib.hid (Below.refl w.heap.size w)
    have HB_0 := Lib.hid (bars_in hl)
    clear hl
    have Z1 := Lib.hid (within_alloc w (.cells #[.int .i64 p, (.slice A l.length cap)] 26)).size
    have W1 := Lib.hid (within_on W0.out (within_alloc w (.cells #[.int .i64 p, (.slice A l.length cap)] 26)) W0.out.size (.inr (Nat.le_refl _)))
    have HB_1 := Lib.hid (HB_0.out.within (within_alloc w (.cells #[.int .i64 p, (.slice A l.length cap)] 26)) (by omega))
    have Y1 := Lib.hid (show (w.alloc (.cells #[.int .i64 p, (.slice A l.length cap)] 26)).heap.size = w.heap.size + 1 by simp)
    have hnew := box_new w p (.slice A l.length cap) 26
    have BX_1 := Lib.hid hnew
    clear hnew
    have Z2 := Lib.hid (within_alloc (w.alloc (.cells #[.int .i64 p, (.slice A l.length cap)] 26)) (.cells #[(.slice none 0 0), (.slice none 0 0), (.slice none 0 0)] 31)).size
    have W2 := Lib.hid (within_on W1.out (within_alloc (w.alloc (.cells #[.int .i64 p, (.slice A l.length cap)] 26)) (.cells #[(.slice none 0 0), (.slice none 0 0), (.slice none 0 0)] 31)) W1.out.size (.inr (Nat.le_refl _)))
    have HB_2 := Lib.hid (HB_1.out.within (within_alloc (w.alloc (.cells #[.int .i64 p, (.slice A l.length cap)] 26)) (.cells #[(.slice none 0 0), (.slice none 0 0), (.slice none 0 0)] 31)) (by omega))
    have BX_2 := Lib.hid (BX_1.out.within (within_alloc (w.alloc (.cells #[.int .i64 p, (.slice A l.length cap)] 26)) (.cells #[(.slice none 0 0), (.slice none 0 0), (.slice none 0 0)] 31)) (by omega))
    have Y2 := Lib.hid (show ((w.alloc (.cells #[.int .i64 p, (.slice A l.length cap)] 26)).alloc (.cells #[(.slice none 0 0), (.slice none 0 0), (.slice none 0 0)] 31)).heap.size = (w.alloc (.cells #[.int .i64 p, (.slice A l.length cap)] 26)).heap.size + 1 by simp)
    have hnew := cel3_new (w.alloc (.cells #[.int .i64 p, (.slice A l.length cap)] 26)) (.slice none 0 0) (.slice none 0 0) (.slice none 0 0) 31
    rw [show (w.alloc (.cells #[.int .i64 p, (.slice A l.length cap)] 26)).heap.size = w.heap.size + 1 by simp] at hnew
    have GR_2 := Lib.hid hnew
    clear hnew
    go_enter Try.func16, Try.ntmps16
    obtain ⟨g0_0, g0_1, g0_2⟩ := BX_2.out
    go_wp2_with fail
    clear g0_0 g0_1 g0_2
    generalize ((w.alloc (.cells #[.int .i64 p, (.slice A l.length cap)] 26)).alloc (.cells #[(.slice none 0 0), (.slice none 0 0), (.slice none 0 0)] 31)) = w2 at *
    generalize (w.alloc (.cells #[.int .i64 p, (.slice A l.length cap)] 26)) = w1 at *
    refine (HNW _ HB_2.out.at).mono ?_
    rintro e w3 ⟨AF, cF, a, b, rfl, ho, ha1, hb1, hb⟩
    have Z3 := Lib.hid (within_of hb).size
    have W3 := Lib.hid (within_on W2.out (within_of hb) W2.out.size (.inr (Nat.le_refl _)))
    have HB_3 := Lib.hid (HB_2.out.within (within_of hb) (by omega))
    have BX_3 := Lib.hid (BX_2.out.within (within_of hb) (by omega))
    have GR_3 := Lib.hid (GR_2.out.within (within_of hb) (by omega))
    clear hb ho HNW ha1 hb1
    have Z4 := Lib.hid (within_alloc w3 (.cells #[(.slice AF (newF p k l).length cF), (.slice none 0 0), (.slice none 0 0)] 31)).size
    have W4 := Lib.hid (within_on W3.out (within_alloc w3 (.cells #[(.slice AF (newF p k l).length cF), (.slice none 0 0), (.slice none 0 0)] 31)) W3.out.size (.inr (Nat.le_refl _)))
    have HB_4 := Lib.hid (HB_3.out.within (within_alloc w3 (.cells #[(.slice AF (newF p k l).length cF), (.slice none 0 0), (.slice none 0 0)] 31)) (by omega))
    have BX_4 := Lib.hid (BX_3.out.within (within_alloc w3 (.cells #[(.slice AF (newF p k l).length cF), (.slice none 0 0), (.slice none 0 0)] 31)) (by omega))
    have GR_4 := Lib.hid (GR_3.out.within (within_alloc w3 (.cells #[(.slice AF (newF p k l).length cF), (.slice none 0 0), (.slice none 0 0)] 31)) (by omega))
    have Y4 := Lib.hid (show (w3.alloc (.cells #[(.slice AF (newF p k l).length cF), (.slice none 0 0), (.slice none 0 0)] 31)).heap.size = w3.heap.size + 1 by simp)
    have hnew := cel3_new w3 (.slice AF (newF p k l).length cF) (.slice none 0 0) (.slice none 0 0) 31
    have BP_4 := Lib.hid hnew
    clear hnew
    obtain ⟨g1_0, g1_1, g1_2, g1_3, g1_4, g1_5⟩ := GR_4.out.cells
    have Z5 := Lib.hid ((ret3 GR_4.out (.slice none 0 0) (.slice none 0 0) (.slice none 0 0)).2).size
    have W5 := Lib.hid (within_on W4.out ((ret3 GR_4.out (.slice none 0 0) (.slice none 0 0) (.slice none 0 0)).2) W4.out.size (by have := Z1.out; have := Z2.out; have := Z3.out; have := Z4.out; have := Z5.out; have := Y1.out; have := Y2.out; have := Y4.out; omega))
    have HB_5 := Lib.hid (HB_4.out.within ((ret3 GR_4.out (.slice none 0 0) (.slice none 0 0) (.slice none 0 0)).2) (by have := Z1.out; have := Z2.out; have := Z3.out; have := Z4.out; have := Z5.out; have := Y1.out; have := Y2.out; have := Y4.out; omega))
    have BX_5 := Lib.hid (BX_4.out.within ((ret3 GR_4.out (.slice none 0 0) (.slice none 0 0) (.slice none 0 0)).2) (by have := Z1.out; have := Z2.out; have := Z3.out; have := Z4.out; have := Z5.out; have := Y1.out; have := Y2.out; have := Y4.out; omega))
    have GR_5 := Lib.hid ((ret3 GR_4.out (.slice none 0 0) (.slice none 0 0) (.slice none 0 0)).1)
    have BP_5 := Lib.hid (BP_4.out.within ((ret3 GR_4.out (.slice none 0 0) (.slice none 0 0) (.slice none 0 0)).2) (by have := Z1.out; have := Z2.out; have := Z3.out; have := Z4.out; have := Z5.out; have := Y1.out; have := Y2.out; have := Y4.out; omega))
    obtain ⟨g2_0, g2_1, g2_2, g2_3, g2_4, g2_5⟩ := GR_5.out.cells
    go_wp2_with fail
    generalize ((((w3.alloc (.cells #[(.slice AF (newF p k l).length cF), (.slice none 0 0), (.slice none 0 0)] 31)).setCell ⟨w.heap.size + 1, 0, none⟩ (.slice none 0 0)).setCell ⟨w.heap.size + 1, 1, none⟩ (.slice none 0 0)).setCell ⟨w.heap.size + 1, 2, none⟩ (.slice none 0 0)) = w5 at *
    generalize (w3.alloc (.cells #[(.slice AF (newF p k l).length cF), (.slice none 0 0), (.slice none 0 0)] 31)) = w4 at *
    refine bodyPost_ret (v := .tuple #[pebV none 0 0 none 0 0 none 0 0, .bool false]) ?_ rfl ?_
    · simp [results, Try.results16, go_sem, g2_0, g2_1, g2_2]
    · rw [HR.out.1, HR.out.2]
      exact ⟨none, 0, none, 0, none, 0, rfl, own3_nil _ _ W5.out.size _ _ _ _ _ _, W5.out⟩
  by_cases hb2 : rangeB k c = true
  case neg =>
    have hb2' : rangeB k c = false := by simpa using hb2
    have HR := Lib.hid (runV_no (p := p) (l := l) (.inr hb2'))
    have HRG := Lib.hid hb2'
    clear hb2 hb2'
    have HNW : ∀ W : World, BarsAt W W.heap.size A l → Calls Try.prog 36 #[.agg #[.int .i64 p, .slice A l.length cap], .int .i64 k] W (NewOB W (newF p k l) true) := fun W h => by have hc := implNewN p k l A cap W h hn; rw [hb1] at hc; exact hc
    clear hb1
    have W0 := Lib.hid (Below.refl w.heap.size w)
    have HB_0 := Lib.hid (bars_in hl)
    clear hl
    have Z1 := Lib.hid (within_alloc w (.cells #[.int .i64 p, (.slice A l.length cap)] 26)).size
    have W1 := Lib.hid (within_on W0.out (within_alloc w (.cells #[.int .i64 p, (.slice A l.length cap)] 26)) W0.out.size (.inr (Nat.le_refl _)))
    have HB_1 := Lib.hid (HB_0.out.within (within_alloc w (.cells #[.int .i64 p, (.slice A l.length cap)] 26)) (by omega))
    have Y1 := Lib.hid (show (w.alloc (.cells #[.int .i64 p, (.slice A l.length cap)] 26)).heap.size = w.heap.size + 1 by simp)
    have hnew := box_new w p (.slice A l.length cap) 26
    have BX_1 := Lib.hid hnew
    clear hnew
    have Z2 := Lib.hid (within_alloc (w.alloc (.cells #[.int .i64 p, (.slice A l.length cap)] 26)) (.cells #[(.slice none 0 0), (.slice none 0 0), (.slice none 0 0)] 31)).size
    have W2 := Lib.hid (within_on W1.out (within_alloc (w.alloc (.cells #[.int .i64 p, (.slice A l.length cap)] 26)) (.cells #[(.slice none 0 0), (.slice none 0 0), (.slice none 0 0)] 31)) W1.out.size (.inr (Nat.le_refl _)))
    have HB_2 := Lib.hid (HB_1.out.within (within_alloc (w.alloc (.cells #[.int .i64 p, (.slice A l.length cap)] 26)) (.cells #[(.slice none 0 0), (.slice none 0 0), (.slice none 0 0)] 31)) (by omega))
    have BX_2 := Lib.hid (BX_1.out.within (within_alloc (w.alloc (.cells #[.int .i64 p, (.slice A l.length cap)] 26)) (.cells #[(.slice none 0 0), (.slice none 0 0), (.slice none 0 0)] 31)) (by omega))
    have Y2 := Lib.hid (show ((w.alloc (.cells #[.int .i64 p, (.slice A l.length cap)] 26)).alloc (.cells #[(.slice none 0 0), (.slice none 0 0), (.slice none 0 0)] 31)).heap.size = (w.alloc (.cells #[.int .i64 p, (.slice A l.length cap)] 26)).heap.size + 1 by simp)
    have hnew := cel3_new (w.alloc (.cells #[.int .i64 p, (.slice A l.length cap)] 26)) (.slice none 0 0) (.slice none 0 0) (.slice none 0 0) 31
    rw [show (w.alloc (.cells #[.int .i64 p, (.slice A l.length cap)] 26)).heap.size = w.heap.size + 1 by simp] at hnew
    have GR_2 := Lib.hid hnew
    clear hnew
    go_enter Try.func16, Try.ntmps16
    obtain ⟨g0_0, g0_1, g0_2⟩ := BX_2.out
    go_wp2_with fail
    clear g0_0 g0_1 g0_2
    generalize ((w.alloc (.cells #[.int .i64 p, (.slice A l.length cap)] 26)).alloc (.cells #[(.slice none 0 0), (.slice none 0 0), (.slice none 0 0)] 31)) = w2 at *
    generalize (w.alloc (.cells #[.int .i64 p, (.slice A l.length cap)] 26)) = w1 at *
    refine (HNW _ HB_2.out.at).mono ?_
    rintro e w3 ⟨AF, cF, a, b, rfl, ho, ha1, hb1, hb⟩
    have Z3 := Lib.hid (within_of hb).size
    have W3 := Lib.hid (within_on W2.out (within_of hb) W2.out.size (.inr (Nat.le_refl _)))
    have HB_3 := Lib.hid (HB_2.out.within (within_of hb) (by omega))
    have BX_3 := Lib.hid (BX_2.out.within (within_of hb) (by omega))
    have GR_3 := Lib.hid (GR_2.out.within (within_of hb) (by omega))
    clear hb ho HNW ha1 hb1
    have Z4 := Lib.hid (within_alloc w3 (.cells #[(.slice AF (newF p k l).length cF), (.slice none 0 0), (.slice none 0 0)] 31)).size
    have W4 := Lib.hid (within_on W3.out (within_alloc w3 (.cells #[(.slice AF (newF p k l).length cF), (.slice none 0 0), (.slice none 0 0)] 31)) W3.out.size (.inr (Nat.le_refl _)))
    have HB_4 := Lib.hid (HB_3.out.within (within_alloc w3 (.cells #[(.slice AF (newF p k l).length cF), (.slice none 0 0), (.slice none 0 0)] 31)) (by omega))
    have BX_4 := Lib.hid (BX_3.out.within (within_alloc w3 (.cells #[(.slice AF (newF p k l).length cF), (.slice none 0 0), (.slice none 0 0)] 31)) (by omega))
    have GR_4 := Lib.hid (GR_3.out.within (within_alloc w3 (.cells #[(.slice AF (newF p k l).length cF), (.slice none 0 0), (.slice none 0 0)] 31)) (by omega))
    have Y4 := Lib.hid (show (w3.alloc (.cells #[(.slice AF (newF p k l).length cF), (.slice none 0 0), (.slice none 0 0)] 31)).heap.size = w3.heap.size + 1 by simp)
    have hnew := cel3_new w3 (.slice AF (newF p k l).length cF) (.slice none 0 0) (.slice none 0 0) 31
    have BP_4 := Lib.hid hnew
    clear hnew
    obtain ⟨g1_0, g1_1, g1_2⟩ := BX_4.out
    go_wp2_with fail
    clear g1_0 g1_1 g1_2
    generalize (w3.alloc (.cells #[(.slice AF (newF p k l).length cF), (.slice none 0 0), (.slice none 0 0)] 31)) = w4 at *
    refine (implRange k c _).mono ?_
    rintro e w9 ⟨rfl, rfl⟩
    rw [HRG.out]
    obtain ⟨g2_0, g2_1, g2_2, g2_3, g2_4, g2_5⟩ := GR_4.out.cells
    have Z5 := Lib.hid ((ret3 GR_4.out (.slice none 0 0) (.slice none 0 0) (.slice none 0 0)).2).size
    have W5 := Lib.hid (within_on W4.out ((ret3 GR_4.out (.slice none 0 0) (.slice none 0 0) (.slice none 0 0)).2) W4.out.size (by have := Z1.out; have := Z2.out; have := Z3.out; have := Z4.out; have := Z5.out; have := Y1.out; have := Y2.out; have := Y4.out; omega))
    have HB_5 := Lib.hid (HB_4.out.within ((ret3 GR_4.out (.slice none 0 0) (.slice none 0 0) (.slice none 0 0)).2) (by have := Z1.out; have := Z2.out; have := Z3.out; have := Z4.out; have := Z5.out; have := Y1.out; have := Y2.out; have := Y4.out; omega))
    have BX_5 := Lib.hid (BX_4.out.within ((ret3 GR_4.out (.slice none 0 0) (.slice none 0 0) (.slice none 0 0)).2) (by have := Z1.out; have := Z2.out; have := Z3.out; have := Z4.out; have := Z5.out; have := Y1.out; have := Y2.out; have := Y4.out; omega))
    have GR_5 := Lib.hid ((ret3 GR_4.out (.slice none 0 0) (.slice none 0 0) (.slice none 0 0)).1)
    have BP_5 := Lib.hid (BP_4.out.within ((ret3 GR_4.out (.slice none 0 0) (.slice none 0 0) (.slice none 0 0)).2) (by have := Z1.out; have := Z2.out; have := Z3.out; have := Z4.out; have := Z5.out; have := Y1.out; have := Y2.out; have := Y4.out; omega))
    obtain ⟨g3_0, g3_1, g3_2, g3_3, g3_4, g3_5⟩ := GR_5.out.cells
    go_wp2_with fail
    generalize (((w4.setCell ⟨w.heap.size + 1, 0, none⟩ (.slice none 0 0)).setCell ⟨w.heap.size + 1, 1, none⟩ (.slice none 0 0)).setCell ⟨w.heap.size + 1, 2, none⟩ (.slice none 0 0)) = w5 at *
    refine bodyPost_ret (v := .tuple #[pebV none 0 0 none 0 0 none 0 0, .bool false]) ?_ rfl ?_
    · simp [results, Try.results16, go_sem, g3_0, g3_1, g3_2]
    · rw [HR.out.1, HR.out.2]
      exact ⟨none, 0, none, 0, none, 0, rfl, own3_nil _ _ W5.out.size _ _ _ _ _ _, W5.out⟩
  obtain ⟨P, rfl⟩ : ∃ P : Nat, p = (P : Int) := ⟨p.toNat, by have := (newB_is hb1).1.1; omega⟩
  have HP := Lib.hid (And.intro hb1 hb2)
  have HRG := Lib.hid hb2
  have HR := Lib.hid (runV_yes hb1 hb2)
  have hnf : newF (P : Int) k l = (runN P k c l 0).1 := by unfold newF; rw [if_pos hb1, Int.toNat_natCast]; rfl
  have HNW : ∀ W : World, BarsAt W W.heap.size A l → Calls Try.prog 36 #[.agg #[.int .i64 (P : Int), .slice A l.length cap], .int .i64 k] W (NewOB W (runN P k c l 0).1 true) := fun W h => by have hc := implNewN (P : Int) k l A cap W h hn; rw [hb1, hnf] at hc; exact hc
  clear hb1 hb2 hnf
  have W0 := Lib.hid (Below.refl w.heap.size w)
  have HB_0 := Lib.hid (bars_in hl)
  clear hl
  have Z1 := Lib.hid (within_alloc w (.cells #[.int .i64 (P : Int), (.slice A l.length cap)] 26)).size
  have W1 := Lib.hid (within_on W0.out (within_alloc w (.cells #[.int .i64 (P : Int), (.slice A l.length cap)] 26)) W0.out.size (.inr (Nat.le_refl _)))
  have HB_1 := Lib.hid (HB_0.out.within (within_alloc w (.cells #[.int .i64 (P : Int), (.slice A l.length cap)] 26)) (by omega))
  have Y1 := Lib.hid (show (w.alloc (.cells #[.int .i64 (P : Int), (.slice A l.length cap)] 26)).heap.size = w.heap.size + 1 by simp)
  have hnew := box_new w (P : Int) (.slice A l.length cap) 26
  have BX_1 := Lib.hid hnew
  clear hnew
  have Z2 := Lib.hid (within_alloc (w.alloc (.cells #[.int .i64 (P : Int), (.slice A l.length cap)] 26)) (.cells #[(.slice none 0 0), (.slice none 0 0), (.slice none 0 0)] 31)).size
  have W2 := Lib.hid (within_on W1.out (within_alloc (w.alloc (.cells #[.int .i64 (P : Int), (.slice A l.length cap)] 26)) (.cells #[(.slice none 0 0), (.slice none 0 0), (.slice none 0 0)] 31)) W1.out.size (.inr (Nat.le_refl _)))
  have HB_2 := Lib.hid (HB_1.out.within (within_alloc (w.alloc (.cells #[.int .i64 (P : Int), (.slice A l.length cap)] 26)) (.cells #[(.slice none 0 0), (.slice none 0 0), (.slice none 0 0)] 31)) (by omega))
  have BX_2 := Lib.hid (BX_1.out.within (within_alloc (w.alloc (.cells #[.int .i64 (P : Int), (.slice A l.length cap)] 26)) (.cells #[(.slice none 0 0), (.slice none 0 0), (.slice none 0 0)] 31)) (by omega))
  have Y2 := Lib.hid (show ((w.alloc (.cells #[.int .i64 (P : Int), (.slice A l.length cap)] 26)).alloc (.cells #[(.slice none 0 0), (.slice none 0 0), (.slice none 0 0)] 31)).heap.size = (w.alloc (.cells #[.int .i64 (P : Int), (.slice A l.length cap)] 26)).heap.size + 1 by simp)
  have hnew := cel3_new (w.alloc (.cells #[.int .i64 (P : Int), (.slice A l.length cap)] 26)) (.slice none 0 0) (.slice none 0 0) (.slice none 0 0) 31
  rw [show (w.alloc (.cells #[.int .i64 (P : Int), (.slice A l.length cap)] 26)).heap.size = w.heap.size + 1 by simp] at hnew
  have GR_2 := Lib.hid hnew
  clear hnew
  go_enter Try.func16, Try.ntmps16
  obtain ⟨g0_0, g0_1, g0_2⟩ := BX_2.out
  go_wp2_with fail
  clear g0_0 g0_1 g0_2
  generalize ((w.alloc (.cells #[.int .i64 (P : Int), (.slice A l.length cap)] 26)).alloc (.cells #[(.slice none 0 0), (.slice none 0 0), (.slice none 0 0)] 31)) = w2 at *
  generalize (w.alloc (.cells #[.int .i64 (P : Int), (.slice A l.length cap)] 26)) = w1 at *
  refine (HNW _ HB_2.out.at).mono ?_
  rintro e w3 ⟨AF, cF, a, b, rfl, ho, ha1, hb1, hb⟩
  have Z3 := Lib.hid (within_of hb).size
  have W3 := Lib.hid (within_on W2.out (within_of hb) W2.out.size (.inr (Nat.le_refl _)))
  have HB_3 := Lib.hid (HB_2.out.within (within_of hb) (by omega))
  have BX_3 := Lib.hid (BX_2.out.within (within_of hb) (by omega))
  have GR_3 := Lib.hid (GR_2.out.within (within_of hb) (by omega))
  have OP_3 := Lib.hid (own_new ho (runN_zero HP.out.1))
  clear hb HNW
  have HAB := Lib.hid (And.intro ha1 hb1)
  clear ho ha1 hb1
  have Z4 := Lib.hid (within_alloc w3 (.cells #[(.slice AF (runN P k c l 0).1.length cF), (.slice none 0 0), (.slice none 0 0)] 31)).size
  have W4 := Lib.hid (within_on W3.out (within_alloc w3 (.cells #[(.slice AF (runN P k c l 0).1.length cF), (.slice none 0 0), (.slice none 0 0)] 31)) W3.out.size (.inr (Nat.le_refl _)))
  have HB_4 := Lib.hid (HB_3.out.within (within_alloc w3 (.cells #[(.slice AF (runN P k c l 0).1.length cF), (.slice none 0 0), (.slice none 0 0)] 31)) (by omega))
  have BX_4 := Lib.hid (BX_3.out.within (within_alloc w3 (.cells #[(.slice AF (runN P k c l 0).1.length cF), (.slice none 0 0), (.slice none 0 0)] 31)) (by omega))
  have GR_4 := Lib.hid (GR_3.out.within (within_alloc w3 (.cells #[(.slice AF (runN P k c l 0).1.length cF), (.slice none 0 0), (.slice none 0 0)] 31)) (by omega))
  have OP_4 := Lib.hid (OP_3.out.within (within_alloc w3 (.cells #[(.slice AF (runN P k c l 0).1.length cF), (.slice none 0 0), (.slice none 0 0)] 31)) (by omega))
  have Y4 := Lib.hid (show (w3.alloc (.cells #[(.slice AF (runN P k c l 0).1.length cF), (.slice none 0 0), (.slice none 0 0)] 31)).heap.size = w3.heap.size + 1 by simp)
  have hnew := cel3_new w3 (.slice AF (runN P k c l 0).1.length cF) (.slice none 0 0) (.slice none 0 0) 31
  have BP_4 := Lib.hid hnew
  clear hnew
  obtain ⟨g1_0, g1_1, g1_2⟩ := BX_4.out
  go_wp2_with fail
  clear g1_0 g1_1 g1_2
  generalize (w3.alloc (.cells #[(.slice AF (runN P k c l 0).1.length cF), (.slice none 0 0), (.slice none 0 0)] 31)) = w4 at *
  refine (implRange k c _).mono ?_
  rintro e w9 ⟨rfl, rfl⟩
  rw [HRG.out]
  have HN := Lib.hid (show RunI w w4 P A cap l w3.heap.size (a, b) (w4.heap.size, w4.heap.size) (w4.heap.size, w4.heap.size) AF none none cF 0 0 (runN P k c l 0) from RunI.mk0 BX_4.out GR_4.out BP_4.out OP_4.out HB_4.out W4.out (by have := HAB.out; have := Z1.out; have := Z2.out; have := Z3.out; have := Z4.out; have := Y1.out; have := Y2.out; have := Y4.out; omega) (by have := HAB.out; have := Z1.out; have := Z2.out; have := Z3.out; have := Z4.out; have := Y1.out; have := Y2.out; have := Y4.out; omega) (by have := HAB.out; have := Z1.out; have := Z2.out; have := Z3.out; have := Z4.out; have := Y1.out; have := Y2.out; have := Y4.out; omega) (by have := HAB.out; have := Z1.out; have := Z2.out; have := Z3.out; have := Z4.out; have := Y1.out; have := Y2.out; have := Y4.out; omega))
  obtain ⟨g2_0, g2_1, g2_2⟩ := BX_4.out
  go_wp2_with fail
  clear g2_0 g2_1 g2_2
  go_loopw [29] (fun i wr => ∃ j : Nat, j ≤ l.length ∧ i = .int .i64 j ∧ ∃ f t z AF AT AZ cF cT cZ, RunI w wr P A cap l w3.heap.size f t z AF AT AZ cF cT cZ (runN P k c l j)) (fun i _ => l.length - (intOf i).toNat)
  case atStart => exact ⟨0, Nat.zero_le _, rfl, _, _, _, _, _, _, _, _, _, HN.out⟩
  case round =>
    obtain ⟨j, hj, rfl, f, t, z, AF, AT, AZ, cF, cT, cZ, hst⟩ := hrel
    have HS := Lib.hid hst
    obtain ⟨_, g1, g2⟩ := hst.gb
    obtain ⟨c0, c1, c2, f0, f1, f2⟩ := hst.st.cells
    clear hst
    by_cases hlt : j < l.length
    · have hji : (j : Int) < (l.length : Int) := by omega
      go_wp2_with (go_at_call 109; refine (HS.out.call HP.out.1 HP.out.2 hlt).mono ?_; rintro e w5 ⟨r, f2, t2, z2, BF, BT, BZ, dF, dT, dZ, rfl, hs5⟩; have HS2 := Lib.hid hs5; clear hs5)
      go_roundw
      case rel => exact ⟨j + 1, by omega, by go_num, _, _, _, _, _, _, _, _, _, HS2.out⟩
      case measure => simp [intOf]; omega
    · obtain rfl : j = l.length := by omega
      obtain ⟨r0, r1, r2, q0, q1, q2⟩ := HS.out.rb.cells
      have h3 := ret3 HS.out.rb (.slice AF (runN P k c l l.length).1.length cF) (.slice AT (runN P k c l l.length).2.1.length cT) (.slice AZ (runN P k c l l.length).2.2.length cZ)
      obtain ⟨s0, s1, s2, _⟩ := h3.1.cells
      have HW := Lib.hid h3.2
      clear h3
      go_wp2_with fail
      refine bodyPost_ret (v := .tuple #[pebV AF (runN P k c l l.length).1.length cF AT (runN P k c l l.length).2.1.length cT AZ (runN P k c l l.length).2.2.length cZ, .bool true]) ?_ rfl ?_
      · simp [results, Try.results16, go_sem, s0, s1, s2]
      · have hlo := HS.out.lo
        have hz := HW.out.size
        have hhi := HS.out.own.hi
        have hbs := HS.out.bel.size
        rw [HR.out.1, HR.out.2]
        have hown := HS.out.own.own3 (lo := w.heap.size + 2) ⟨hlo.2.1, hhi.1⟩ ⟨hlo.2.2.1, hhi.2.1⟩ ⟨hlo.2.2.2, hhi.2.2⟩ (Nat.le_refl _)
        exact ⟨AF, cF, AT, cT, AZ, cZ, rfl, (hown.within HW.out (.inr (Nat.le_refl _))).widen (by omega) hz (Nat.le_refl _), within_on HS.out.bel HW.out hbs (.inl (by omega))⟩
end Go.Proofs.Ytdkpmaahinbhlaa
/- What impl.RankOf answers. No condition. -/
namespace Go.Proofs.Ytdkpmaahinbhlaa
open Go.RowKit

set_option maxHeartbeats 2000000 in
set_option maxRecDepth 100000 in
theorem implRank (p k c : Int) (l : List (Int × Int)) (A : Option Addr) (cap : Nat) (w : World) (hl : BarsAt w w.heap.size A l) (hn : l.length ≤ 1048576) :
    Calls Try.prog 45 #[.agg #[.int .i64 p, .slice A l.length cap], .int .i64 k, .int .i64 c] w fun e w' => e = .returned (.int .i64 (rankV p k c l)) ∧ Below w.heap.size w w' := by
  obtain ⟨rv, hrv⟩ : ∃ rv, rankV p k c l = rv := ⟨_, rfl⟩
  rw [hrv]
  unfold rankV at hrv
  cases hb : runB p k c l with
  | false =>
    have HRV := Lib.hid (show rv = -1 from by rw [← hrv, hb]; rfl)
    clear hrv
    have HNW : ∀ W : World, BarsAt W W.heap.size A l → Calls Try.prog 16 #[.agg #[.int .i64 p, .slice A l.length cap], .int .i64 k, .int .i64 c] W (PebOB W (runV p k c l).1 (runV p k c l).2.1 (runV p k c l).2.2 false) := fun W h => by have hc := implRunP p k c l A cap W h hn; rw [hb] at hc; exact hc
    clear hb
    have W0 := Lib.hid (Below.refl w.heap.size w)
    have HB_0 := Lib.hid (bars_in hl)
    clear hl
    have Z1 := Lib.hid (within_alloc w (.cells #[.int .i64 p, (.slice A l.length cap)] 26)).size
    have W1 := Lib.hid (within_on W0.out (within_alloc w (.cells #[.int .i64 p, (.slice A l.length cap)] 26)) W0.out.size (.inr (Nat.le_refl _)))
    have HB_1 := Lib.hid (HB_0.out.within (within_alloc w (.cells #[.int .i64 p, (.slice A l.length cap)] 26)) (by omega))
    have Y1 := Lib.hid (show (w.alloc (.cells #[.int .i64 p, (.slice A l.length cap)] 26)).heap.size = w.heap.size + 1 by simp)
    have hnew := box_new w p (.slice A l.length cap) 26
    have BX_1 := Lib.hid hnew
    clear hnew
    go_enter Try.func45, Try.ntmps45
    obtain ⟨g0_0, g0_1, g0_2⟩ := BX_1.out
    go_wp2_with fail
    clear g0_0 g0_1 g0_2
    generalize (w.alloc (.cells #[.int .i64 p, (.slice A l.length cap)] 26)) = w1 at *
    refine (HNW _ HB_1.out.at).mono ?_
    rintro e w2 ⟨AF, cF, AT, cT, AZ, cZ, rfl, ho, hb⟩
    have Z2 := Lib.hid (within_of hb).size
    have W2 := Lib.hid (within_on W1.out (within_of hb) W1.out.size (.inr (Nat.le_refl _)))
    have HB_2 := Lib.hid (HB_1.out.within (within_of hb) (by omega))
    have BX_2 := Lib.hid (BX_1.out.within (within_of hb) (by omega))
    have OP_2 := Lib.hid (ho)
    clear ho hb
    have Z3 := Lib.hid (within_alloc w2 (.cells #[(.slice AF (runV p k c l).1.length cF), (.slice AT (runV p k c l).2.1.length cT), (.slice AZ (runV p k c l).2.2.length cZ)] 31)).size
    have W3 := Lib.hid (within_on W2.out (within_alloc w2 (.cells #[(.slice AF (runV p k c l).1.length cF), (.slice AT (runV p k c l).2.1.length cT), (.slice AZ (runV p k c l).2.2.length cZ)] 31)) W2.out.size (.inr (Nat.le_refl _)))
    have HB_3 := Lib.hid (HB_2.out.within (within_alloc w2 (.cells #[(.slice AF (runV p k c l).1.length cF), (.slice AT (runV p k c l).2.1.length cT), (.slice AZ (runV p k c l).2.2.length cZ)] 31)) (by omega))
    have BX_3 := Lib.hid (BX_2.out.within (within_alloc w2 (.cells #[(.slice AF (runV p k c l).1.length cF), (.slice AT (runV p k c l).2.1.length cT), (.slice AZ (runV p k c l).2.2.length cZ)] 31)) (by omega))
    have OP_3 := Lib.hid (OP_2.out.within (within_alloc w2 (.cells #[(.slice AF (runV p k c l).1.length cF), (.slice AT (runV p k c l).2.1.length cT), (.slice AZ (runV p k c l).2.2.length cZ)] 31)) (by omega))
    have Y3 := Lib.hid (show (w2.alloc (.cells #[(.slice AF (runV p k c l).1.length cF), (.slice AT (runV p k c l).2.1.length cT), (.slice AZ (runV p k c l).2.2.length cZ)] 31)).heap.size = w2.heap.size + 1 by simp)
    have hnew := cel3_new w2 (.slice AF (runV p k c l).1.length cF) (.slice AT (runV p k c l).2.1.length cT) (.slice AZ (runV p k c l).2.2.length cZ) 31
    have BP_3 := Lib.hid hnew
    clear hnew
    obtain ⟨g1_0, g1_1, g1_2, g1_3, g1_4, g1_5⟩ := BP_3.out.cells
    go_wp2_with fail
    clear g1_0 g1_1 g1_2 g1_3 g1_4 g1_5
    generalize (w2.alloc (.cells #[(.slice AF (runV p k c l).1.length cF), (.slice AT (runV p k c l).2.1.length cT), (.slice AZ (runV p k c l).2.2.length cZ)] 31)) = w3 at *
    go_ret
    exact ⟨by rw [HRV.out]; rfl, W3.out⟩
  | true =>
    have HRV := Lib.hid (show rv = (((runV p k c l).2.2.length : Nat) : Int) from by rw [← hrv, hb]; rfl)
    clear hrv
    have HNW : ∀ W : World, BarsAt W W.heap.size A l → Calls Try.prog 16 #[.agg #[.int .i64 p, .slice A l.length cap], .int .i64 k, .int .i64 c] W (PebOB W (runV p k c l).1 (runV p k c l).2.1 (runV p k c l).2.2 true) := fun W h => by have hc := implRunP p k c l A cap W h hn; rw [hb] at hc; exact hc
    clear hb
    have W0 := Lib.hid (Below.refl w.heap.size w)
    have HB_0 := Lib.hid (bars_in hl)
    clear hl
    have Z1 := Lib.hid (within_alloc w (.cells #[.int .i64 p, (.slice A l.length cap)] 26)).size
    have W1 := Lib.hid (within_on W0.out (within_alloc w (.cells #[.int .i64 p, (.slice A l.length cap)] 26)) W0.out.size (.inr (Nat.le_refl _)))
    have HB_1 := Lib.hid (HB_0.out.within (within_alloc w (.cells #[.int .i64 p, (.slice A l.length cap)] 26)) (by omega))
    have Y1 := Lib.hid (show (w.alloc (.cells #[.int .i64 p, (.slice A l.length cap)] 26)).heap.size = w.heap.size + 1 by simp)
    have hnew := box_new w p (.slice A l.length cap) 26
    have BX_1 := Lib.hid hnew
    clear hnew
    go_enter Try.func45, Try.ntmps45
    obtain ⟨g0_0, g0_1, g0_2⟩ := BX_1.out
    go_wp2_with fail
    clear g0_0 g0_1 g0_2
    generalize (w.alloc (.cells #[.int .i64 p, (.slice A l.length cap)] 26)) = w1 at *
    refine (HNW _ HB_1.out.at).mono ?_
    rintro e w2 ⟨AF, cF, AT, cT, AZ, cZ, rfl, ho, hb⟩
    have Z2 := Lib.hid (within_of hb).size
    have W2 := Lib.hid (within_on W1.out (within_of hb) W1.out.size (.inr (Nat.le_refl _)))
    have HB_2 := Lib.hid (HB_1.out.within (within_of hb) (by omega))
    have BX_2 := Lib.hid (BX_1.out.within (within_of hb) (by omega))
    have OP_2 := Lib.hid (ho)
    clear ho hb
    have Z3 := Lib.hid (within_alloc w2 (.cells #[(.slice AF (runV p k c l).1.length cF), (.slice AT (runV p k c l).2.1.length cT), (.slice AZ (runV p k c l).2.2.length cZ)] 31)).size
    have W3 := Lib.hid (within_on W2.out (within_alloc w2 (.cells #[(.slice AF (runV p k c l).1.length cF), (.slice AT (runV p k c l).2.1.length cT), (.slice AZ (runV p k c l).2.2.length cZ)] 31)) W2.out.size (.inr (Nat.le_refl _)))
    have HB_3 := Lib.hid (HB_2.out.within (within_alloc w2 (.cells #[(.slice AF (runV p k c l).1.length cF), (.slice AT (runV p k c l).2.1.length cT), (.slice AZ (runV p k c l).2.2.length cZ)] 31)) (by omega))
    have BX_3 := Lib.hid (BX_2.out.within (within_alloc w2 (.cells #[(.slice AF (runV p k c l).1.length cF), (.slice AT (runV p k c l).2.1.length cT), (.slice AZ (runV p k c l).2.2.length cZ)] 31)) (by omega))
    have OP_3 := Lib.hid (OP_2.out.within (within_alloc w2 (.cells #[(.slice AF (runV p k c l).1.length cF), (.slice AT (runV p k c l).2.1.length cT), (.slice AZ (runV p k c l).2.2.length cZ)] 31)) (by omega))
    have Y3 := Lib.hid (show (w2.alloc (.cells #[(.slice AF (runV p k c l).1.length cF), (.slice AT (runV p k c l).2.1.length cT), (.slice AZ (runV p k c l).2.2.length cZ)] 31)).heap.size = w2.heap.size + 1 by simp)
    have hnew := cel3_new w2 (.slice AF (runV p k c l).1.length cF) (.slice AT (runV p k c l).2.1.length cT) (.slice AZ (runV p k c l).2.2.length cZ) 31
    have BP_3 := Lib.hid hnew
    clear hnew
    obtain ⟨g1_0, g1_1, g1_2, g1_3, g1_4, g1_5⟩ := BP_3.out.cells
    go_wp2_with fail
    clear g1_0 g1_1 g1_2 g1_3 g1_4 g1_5
    generalize (w2.alloc (.cells #[(.slice AF (runV p k c l).1.length cF), (.slice AT (runV p k c l).2.1.length cT), (.slice AZ (runV p k c l).2.2.length cZ)] 31)) = w3 at *
    go_ret
    exact ⟨by rw [HRV.out]; rfl, W3.out⟩
end Go.Proofs.Ytdkpmaahinbhlaa
