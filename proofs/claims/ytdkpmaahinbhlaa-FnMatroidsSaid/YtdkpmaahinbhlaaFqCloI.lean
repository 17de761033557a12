/- What impl.ClosureOf answers. No condition. -/
import Derived.Test.YtdkpmaahinbhlaaFqB2
import Derived.Test.YtdkpmaahinbhlaaFqNewSet
import Derived.Test.YtdkpmaahinbhlaaFqWi
import Derived.Test.YtdkpmaahinbhlaaFqCirI
import Derived.Test.YtdkpmaahinbhlaaFqB1
namespace Go.Proofs.Ytdkpmaahinbhlaa
open Go.RowKit

set_option maxHeartbeats 4000000 in
set_option maxRecDepth 100000 in
theorem implClo (p k c : Int) (l : List (Int × Int)) (zs : List Int) (A Z : Option Addr) (cap cz lo hi : Nat) (w : World) (hl : BarsAt w w.heap.size A l) (hz : IntsIn w lo hi Z zs) (hn : l.length ≤ 1048576) (hnz : zs.length ≤ 1048576) :
    Calls Try.prog 41 #[.agg #[.int .i64 p, .slice A l.length cap], .int .i64 k, .int .i64 c, .slice Z zs.length cz] w (IntsO w (cloV p k c l zs)) := by
  by_cases hbad : setB p l zs = false ∨ rangeB k c = false
  · have HR := Lib.hid (cloV_no hbad)
    have HBAD := Lib.hid hbad
    clear hbad
    have hzh := hz.1
    have W0 := Lib.hid (Below.refl w.heap.size w)
    have HB_0 := Lib.hid (bars_in hl)
    have HZ_0 := Lib.hid (hz)
    clear hl hz
    have Z1 := Lib.hid (within_alloc w (.cells #[.int .i64 p, (.slice A l.length cap)] 26)).size
    have W1 := Lib.hid (within_on W0.out (within_alloc w (.cells #[.int .i64 p, (.slice A l.length cap)] 26)) W0.out.size (.inr (Nat.le_refl _)))
    have HB_1 := Lib.hid (HB_0.out.within (within_alloc w (.cells #[.int .i64 p, (.slice A l.length cap)] 26)) (by omega))
    have HZ_1 := Lib.hid (HZ_0.out.within (within_alloc w (.cells #[.int .i64 p, (.slice A l.length cap)] 26)) (by omega))
    have Y1 := Lib.hid (show (w.alloc (.cells #[.int .i64 p, (.slice A l.length cap)] 26)).heap.size = w.heap.size + 1 by simp)
    have hnew := box_new w p (.slice A l.length cap) 26
    have BX_1 := Lib.hid hnew
    clear hnew
    go_enter Try.func41, Try.ntmps41
    obtain ⟨g0_0, g0_1, g0_2⟩ := BX_1.out
    go_wp2_with fail
    clear g0_0 g0_1 g0_2
    generalize (w.alloc (.cells #[.int .i64 p, (.slice A l.length cap)] 26)) = w1 at *
    refine (newSet_no p k c l zs A Z cap cz _ _ _ HB_1.out.at HZ_1.out hn hnz HBAD.out).mono ?_
    rintro e w2 ⟨rfl, hb⟩
    have Z2 := Lib.hid (within_of hb).size
    have W2 := Lib.hid (within_on W1.out (within_of hb) W1.out.size (.inr (Nat.le_refl _)))
    have HB_2 := Lib.hid (HB_1.out.within (within_of hb) (by omega))
    have HZ_2 := Lib.hid (HZ_1.out.within (within_of hb) (by omega))
    have BX_2 := Lib.hid (BX_1.out.within (within_of hb) (by omega))
    clear hb
    have Z3 := Lib.hid (within_alloc w2 (.cells #[(.int .i64 0), (.slice none 0 0), (.int .i64 0), (.int .i64 0), (.map none)] 128)).size
    have W3 := Lib.hid (within_on W2.out (within_alloc w2 (.cells #[(.int .i64 0), (.slice none 0 0), (.int .i64 0), (.int .i64 0), (.map none)] 128)) W2.out.size (.inr (Nat.le_refl _)))
    have HB_3 := Lib.hid (HB_2.out.within (within_alloc w2 (.cells #[(.int .i64 0), (.slice none 0 0), (.int .i64 0), (.int .i64 0), (.map none)] 128)) (by omega))
    have HZ_3 := Lib.hid (HZ_2.out.within (within_alloc w2 (.cells #[(.int .i64 0), (.slice none 0 0), (.int .i64 0), (.int .i64 0), (.map none)] 128)) (by omega))
    have BX_3 := Lib.hid (BX_2.out.within (within_alloc w2 (.cells #[(.int .i64 0), (.slice none 0 0), (.int .i64 0), (.int .i64 0), (.map none)] 128)) (by omega))
    have Y3 := Lib.hid (show (w2.alloc (.cells #[(.int .i64 0), (.slice none 0 0), (.int .i64 0), (.int .i64 0), (.map none)] 128)).heap.size = w2.heap.size + 1 by simp)
    have hnew := cel5_new w2 (.int .i64 0) (.slice none 0 0) (.int .i64 0) (.int .i64 0) (.map none) 128
    have BB_3 := Lib.hid hnew
    clear hnew
    go_wp2_with fail
    generalize (w2.alloc (.cells #[(.int .i64 0), (.slice none 0 0), (.int .i64 0), (.int .i64 0), (.map none)] 128)) = w3 at *
    go_ret
    exact ⟨none, 0, by rw [HR.out]; rfl, by rw [HR.out]; exact ⟨Nat.le_refl _, .inl rfl⟩, W3.out⟩
  · have hs : setB p l zs = true := by simpa using fun h => hbad (.inl h)
    have hr : rangeB k c = true := by simpa using fun h => hbad (.inr h)
    have HSR := Lib.hid (And.intro hs hr)
    have HR := Lib.hid (cloV_yes hs hr)
    have H24 := Lib.hid (show zs.length ≤ l.length ∧ l.length ≤ 24 from ⟨okS_len (setB_is hs).1, (setB_is hs).2.2.1⟩)
    clear hbad hs hr
    have hzh := hz.1
    have W0 := Lib.hid (Below.refl w.heap.size w)
    have HB_0 := Lib.hid (bars_in hl)
    have HZ_0 := Lib.hid (hz)
    clear hl hz
    have Z1 := Lib.hid (within_alloc w (.cells #[.int .i64 p, (.slice A l.length cap)] 26)).size
    have W1 := Lib.hid (within_on W0.out (within_alloc w (.cells #[.int .i64 p, (.slice A l.length cap)] 26)) W0.out.size (.inr (Nat.le_refl _)))
    have HB_1 := Lib.hid (HB_0.out.within (within_alloc w (.cells #[.int .i64 p, (.slice A l.length cap)] 26)) (by omega))
    have HZ_1 := Lib.hid (HZ_0.out.within (within_alloc w (.cells #[.int .i64 p, (.slice A l.length cap)] 26)) (by omega))
    have Y1 := Lib.hid (show (w.alloc (.cells #[.int .i64 p, (.slice A l.length cap)] 26)).heap.size = w.heap.size + 1 by simp)
    have hnew := box_new w p (.slice A l.length cap) 26
    have BX_1 := Lib.hid hnew
    clear hnew
    go_enter Try.func41, Try.ntmps41
    obtain ⟨g0_0, g0_1, g0_2⟩ := BX_1.out
    go_wp2_with fail
    clear g0_0 g0_1 g0_2
    generalize (w.alloc (.cells #[.int .i64 p, (.slice A l.length cap)] 26)) = w1 at *
    refine (newSet_yes p k c l zs A Z cap cz _ _ _ HB_1.out.at HZ_1.out hn hnz HSR.out.1 HSR.out.2).mono ?_
    rintro e w2 ⟨b, rfl, hset, hbge, hb⟩
    have Z2 := Lib.hid (within_of hb).size
    have W2 := Lib.hid (within_on W1.out (within_of hb) W1.out.size (.inr (Nat.le_refl _)))
    have HB_2 := Lib.hid (HB_1.out.within (within_of hb) (by omega))
    have HZ_2 := Lib.hid (HZ_1.out.within (within_of hb) (by omega))
    have BX_2 := Lib.hid (BX_1.out.within (within_of hb) (by omega))
    have SM_2 := Lib.hid (hset)
    clear hset hb
    have HBG := Lib.hid (show w.heap.size ≤ b from by have := Z1.out; omega)
    clear hbge
    have hblt := SM_2.out.lt
    have HBLT := Lib.hid hblt
    clear hblt
    have Z3 := Lib.hid (within_alloc w2 (.cells #[(.int .i64 p), (.slice A l.length cap), (.int .i64 k), (.int .i64 c), (.map (some b))] 128)).size
    have W3 := Lib.hid (within_on W2.out (within_alloc w2 (.cells #[(.int .i64 p), (.slice A l.length cap), (.int .i64 k), (.int .i64 c), (.map (some b))] 128)) W2.out.size (.inr (Nat.le_refl _)))
    have HB_3 := Lib.hid (HB_2.out.within (within_alloc w2 (.cells #[(.int .i64 p), (.slice A l.length cap), (.int .i64 k), (.int .i64 c), (.map (some b))] 128)) (by omega))
    have HZ_3 := Lib.hid (HZ_2.out.within (within_alloc w2 (.cells #[(.int .i64 p), (.slice A l.length cap), (.int .i64 k), (.int .i64 c), (.map (some b))] 128)) (by omega))
    have BX_3 := Lib.hid (BX_2.out.within (within_alloc w2 (.cells #[(.int .i64 p), (.slice A l.length cap), (.int .i64 k), (.int .i64 c), (.map (some b))] 128)) (by omega))
    have SM_3 := Lib.hid (SM_2.out.within (within_alloc w2 (.cells #[(.int .i64 p), (.slice A l.length cap), (.int .i64 k), (.int .i64 c), (.map (some b))] 128)) (by omega))
    have Y3 := Lib.hid (show (w2.alloc (.cells #[(.int .i64 p), (.slice A l.length cap), (.int .i64 k), (.int .i64 c), (.map (some b))] 128)).heap.size = w2.heap.size + 1 by simp)
    have hnew := cel5_new w2 (.int .i64 p) (.slice A l.length cap) (.int .i64 k) (.int .i64 c) (.map (some b)) 128
    have BB_3 := Lib.hid hnew
    clear hnew
    obtain ⟨x0, x1, x2, x3, x4⟩ := BB_3.out.cells
    go_wp2_with fail
    clear x0 x1 x2 x3 x4
    generalize (w2.alloc (.cells #[(.int .i64 p), (.slice A l.length cap), (.int .i64 k), (.int .i64 c), (.map (some b))] 128)) = w3 at *
    refine (mrank p k c l A cap b zs.length zs _ HB_3.out.at SM_3.out hn hnz).mono ?_
    rintro e w4 ⟨rfl, hb⟩
    have Z4 := Lib.hid (within_of hb).size
    have W4 := Lib.hid (within_on W3.out (within_of hb) W3.out.size (.inr (Nat.le_refl _)))
    have HB_4 := Lib.hid (HB_3.out.within (within_of hb) (by omega))
    have HZ_4 := Lib.hid (HZ_3.out.within (within_of hb) (by omega))
    have BX_4 := Lib.hid (BX_3.out.within (within_of hb) (by omega))
    have SM_4 := Lib.hid (SM_3.out.within (within_of hb) (by omega))
    have BB_4 := Lib.hid (BB_3.out.within (within_of hb) (by omega))
    clear hb
    obtain ⟨r, hr⟩ : ∃ r, rankSV p k c l zs = r := ⟨_, rfl⟩
    rw [hr] at HR ⊢
    clear hr
    obtain ⟨g1_0, g1_1, g1_2⟩ := BX_4.out
    go_wp2_with fail
    clear g1_0 g1_1 g1_2
    have HBV := Lib.hid (show b < w4.heap.size from SM_4.out.lt)
    have HG0 := Lib.hid (show GrowQ b w4 w4 (cloK p k c l zs r 0) none 0 w4.heap.size w4.heap.size from ⟨⟨Nat.le_refl _, .inl ⟨rfl, rfl, rfl⟩⟩, Nat.le_refl _, Nat.le_refl _, Within.refl _ _ _⟩)
    go_loopw [12, 13, 29] (fun u _ i wr => ∃ j : Nat, j ≤ l.length ∧ i = .int .i64 j ∧ ∃ Ao co lo2 hi2, u = .slice Ao (cloK p k c l zs r j).length co ∧ SetM wr b (zs.length + j) zs ∧ GrowQ b w4 wr (cloK p k c l zs r j) Ao co lo2 hi2) (fun _ _ i _ => l.length - (intOf i).toNat)
    case atStart => exact ⟨0, Nat.zero_le _, rfl, none, 0, _, _, rfl, SM_4.out, HG0.out⟩
    case round =>
      obtain ⟨j, hj, rfl, Ao, co, lo2, hi2, rfl, hset, hg⟩ := hrel
      have HSM := Lib.hid hset
      have HG := Lib.hid hg
      have HBR := Lib.hid (HB_4.out.within hg.wi (.inl HBG.out))
      obtain ⟨c0, c1, c2, c3, c4⟩ := (BB_4.out.within hg.wi (.inr (by have := HBLT.out; omega))).cells
      have hcl := cloK_len p k c l zs r j
      have HCL := Lib.hid hcl
      clear hset hg hcl
      by_cases hlt : j < l.length
      · have hji : (j : Int) < (l.length : Int) := by omega
        have HNN := Lib.hid (show zs.length + j + 1 ≤ 1048576 from by have := H24.out; omega)
        have HWF := Lib.hid (show (Lit.int .i64 (j : Int)).wf = true from WalkArith.wf_i64 (by omega))
        obtain ⟨r2, hr2⟩ : ∃ r2, rankSV p k c l (zs ++ [(j : Int)]) = r2 := ⟨_, rfl⟩
        have HR2 := Lib.hid hr2
        by_cases c9 : r2 = r
        · have HN := Lib.hid (cloK_in (r := r) (hr2.trans c9))
          have d9 : (r2 == r) = true := by simpa using c9
          clear c9 hr2
          go_wp2_with (first
            | (at_builtin; refine wpList_pushR _ rfl _ _ rfl lo2 hi2 Ao co (cloK p k c l zs r j) (j : Int) rfl HG5.out.row _ (by first | rfl | (simp only [World.size_setCell]; rfl)) (by have := HCL.out; omega) HG5.out.le ?_; intro A6 c6 w16 lo6 hi6 hr6 hor6 hw6; have HSM6 := Lib.hid (HSM5.out.within hw6 (.inl (by have := HG5.out.ge; have := HBV.out; omega))); have HG6 := Lib.hid (HG5.out.push hr6 hor6 hw6); clear hr6 hor6 hw6)
            | (go_at_call 136; refine (rankWi p k c l A cap b (zs.length + j) w.heap.size zs (j : Int) _ HBR.out HBG.out HSM.out hn HNN.out HWF.out).mono ?_; rintro e w5 ⟨rfl, hset, hwi⟩; rw [HR2.out]; have HSM5 := Lib.hid hset; have HG5 := Lib.hid (HG.out.map hwi HBV.out); clear hset hwi))
          go_roundw
          case rel => exact ⟨j + 1, by omega, by go_num, A6, c6, lo6, hi6, by rw [HN.out]; simp, HSM6.out, by rw [HN.out]; exact HG6.out⟩
          case measure => simp [intOf]; omega
        · have HN := Lib.hid (cloK_out (r := r) (fun q => c9 (hr2.symm.trans q)))
          have d9 : (r2 == r) = false := by simpa using c9
          clear c9 hr2
          go_wp2_with (go_at_call 136; refine (rankWi p k c l A cap b (zs.length + j) w.heap.size zs (j : Int) _ HBR.out HBG.out HSM.out hn HNN.out HWF.out).mono ?_; rintro e w5 ⟨rfl, hset, hwi⟩; rw [HR2.out]; have HSM5 := Lib.hid hset; have HG5 := Lib.hid (HG.out.map hwi HBV.out); clear hset hwi)
          go_roundw
          case rel => exact ⟨j + 1, by omega, by go_num, Ao, co, lo2, hi2, by rw [HN.out], HSM5.out, by rw [HN.out]; exact HG5.out⟩
          case measure => simp [intOf]; omega
      · obtain rfl : j = l.length := by omega
        go_wp2_with fail
        go_ret
        have hsz := W4.out.size
        rw [HR.out]
        exact ⟨Ao, co, rfl, HG.out.row.ints.widen (Nat.le_trans hsz HG.out.ge) HG.out.row.1 (Nat.le_refl _), within_on W4.out HG.out.wi hsz (.inl HBG.out)⟩
end Go.Proofs.Ytdkpmaahinbhlaa
