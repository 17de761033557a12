/- What impl.IsCircuit answers. No condition. -/
import Derived.Test.YtdkpmaahinbhlaaFqNewSet
import Derived.Test.YtdkpmaahinbhlaaFqWo
import Derived.Test.YtdkpmaahinbhlaaFqB2
namespace Go.Proofs.Ytdkpmaahinbhlaa
open Go.RowKit

theorem okS_len {m : Nat} {Z : List Int} (h : ∀ j, j < Z.length → OkS m Z j) : Z.length ≤ m := by
  have q : ∀ i, i < Z.length → (i : Int) ≤ Z.getD i 0 := by
    intro i
    induction i with
    | zero => intro hi; exact (h 0 hi).1.1
    | succ i ih =>
      intro hi
      have h1 := ih (by omega)
      have h2 := (h (i + 1) hi).2 (by omega)
      rw [show i + 1 - 1 = i by omega] at h2
      omega
  by_cases h0 : 0 < Z.length
  · have h1 := q (Z.length - 1) (by omega)
    have h2 := (h (Z.length - 1) (by omega)).1.2
    omega
  · omega
theorem step_all {P : Nat → Prop} {j : Nat} (h : ∀ u, u < j → P u) (hj : P j) : ∀ u, u < j + 1 → P u := fun u hu => by
  by_cases e : u = j
  · subst e; exact hj
  · exact h u (by omega)
set_option maxHeartbeats 4000000 in
set_option maxRecDepth 100000 in
theorem implCir (p k c : Int) (l : List (Int × Int)) (zs : List Int) (A Z : Option Addr) (cap cz lo hi : Nat) (w : World) (hl : BarsAt w w.heap.size A l) (hz : IntsIn w lo hi Z zs) (hn : l.length ≤ 1048576) (hnz : zs.length ≤ 1048576) :
    Calls Try.prog 54 #[.agg #[.int .i64 p, .slice A l.length cap], .int .i64 k, .int .i64 c, .slice Z zs.length cz] w fun e w' => e = .returned (.bool (cirB p k c l zs)) ∧ Below w.heap.size w w' := by
  obtain ⟨rv, hrv⟩ : ∃ rv, cirB p k c l zs = rv := ⟨_, rfl⟩
  rw [hrv]
  by_cases hbad : setB p l zs = false ∨ rangeB k c = false
  · have HRV := Lib.hid (show rv = false from by rw [← hrv]; exact cirB_no (hbad.elim .inl fun h => .inr (.inl h)))
    have HBAD := Lib.hid hbad
    clear hrv hbad
    have hzh := hz.1
    have W0 := Lib.hid (Below.refl w.heap.size w)
    have HB_0 := Lib.hid (bars_in hl)
    have HZ_0 := Lib.hid (hz)
    clear hl hz
    have Z1 := Lib.hid (within_alloc w (.cells #[.int .i64 p, (.slice A l.length cap)] 26)).size
    have W1 := Lib.hid (within_on W0.out (within_alloc w (.cells #[.int .i64 p, (.slice A l.length cap)] 26)) W0.out.size (.inr (Nat.le_refl _)))
    have HB_1 := Lib.hid (HB_0.out.within (within_alloc w (.cells #[.int .i64 p, (.slice A l.length cap)] 26)) (by omega))
    have HZ_1 := Lib.hid (HZ_0.out.within (within_alloc w (.cells #[.int .i64 p, (.slice A l.length cap)] 26)) (by omega))
    have Y1 := Lib.hid (show (w.alloc (.cells #[.int .i64 p, (.slice A l.length cap)] 26)).heap.size = w.heap.size + 1 by simp)
    have hnew := box_new w p (.slice A l.length cap) 26
    have BX_1 := Lib.hid hnew
    clear hnew
    go_enter Try.func54, Try.ntmps54
    obtain ⟨g0_0, g0_1, g0_2⟩ := BX_1.out
    go_wp2_with fail
    clear g0_0 g0_1 g0_2
    generalize (w.alloc (.cells #[.int .i64 p, (.slice A l.length cap)] 26)) = w1 at *
    refine (newSet_no p k c l zs A Z cap cz _ _ _ HB_1.out.at HZ_1.out hn hnz HBAD.out).mono ?_
    rintro e w2 ⟨rfl, hb⟩
    have Z2 := Lib.hid (within_of hb).size
    have W2 := Lib.hid (within_on W1.out (within_of hb) W1.out.size (.inr (Nat.le_refl _)))
    have HB_2 := Lib.hid (HB_1.out.within (within_of hb) (by omega))
    have HZ_2 := Lib.hid (HZ_1.out.within (within_of hb) (by omega))
    have BX_2 := Lib.hid (BX_1.out.within (within_of hb) (by omega))
    clear hb
    have Z3 := Lib.hid (within_alloc w2 (.cells #[(.int .i64 0), (.slice none 0 0), (.int .i64 0), (.int .i64 0), (.map none)] 128)).size
    have W3 := Lib.hid (within_on W2.out (within_alloc w2 (.cells #[(.int .i64 0), (.slice none 0 0), (.int .i64 0), (.int .i64 0), (.map none)] 128)) W2.out.size (.inr (Nat.le_refl _)))
    have HB_3 := Lib.hid (HB_2.out.within (within_alloc w2 (.cells #[(.int .i64 0), (.slice none 0 0), (.int .i64 0), (.int .i64 0), (.map none)] 128)) (by omega))
    have HZ_3 := Lib.hid (HZ_2.out.within (within_alloc w2 (.cells #[(.int .i64 0), (.slice none 0 0), (.int .i64 0), (.int .i64 0), (.map none)] 128)) (by omega))
    have BX_3 := Lib.hid (BX_2.out.within (within_alloc w2 (.cells #[(.int .i64 0), (.slice none 0 0), (.int .i64 0), (.int .i64 0), (.map none)] 128)) (by omega))
    have Y3 := Lib.hid (show (w2.alloc (.cells #[(.int .i64 0), (.slice none 0 0), (.int .i64 0), (.int .i64 0), (.map none)] 128)).heap.size = w2.heap.size + 1 by simp)
    have hnew := cel5_new w2 (.int .i64 0) (.slice none 0 0) (.int .i64 0) (.int .i64 0) (.map none) 128
    have BB_3 := Lib.hid hnew
    clear hnew
    go_wp2_with fail
    generalize (w2.alloc (.cells #[(.int .i64 0), (.slice none 0 0), (.int .i64 0), (.int .i64 0), (.map none)] 128)) = w3 at *
    go_ret
    exact ⟨by rw [HRV.out]; rfl, W3.out⟩
  · have hs : setB p l zs = true := by simpa using fun h => hbad (.inl h)
    have hr : rangeB k c = true := by simpa using fun h => hbad (.inr h)
    have hq := indB_yes (c := c) hs hr
    have HSR := Lib.hid (And.intro hs hr)
    have HYES := Lib.hid (fun h3 h => hrv.symm.trans (cirB_yes hs hr h3 h))
    have HBAD := Lib.hid (fun (j : Nat) (hj : j < zs.length) h => hrv.symm.trans (cirB_bad (p := p) (k := k) (c := c) (l := l) hj h))
    have HIND := Lib.hid (fun h => hrv.symm.trans (cirB_no (p := p) (k := k) (c := c) (l := l) (zs := zs) (.inr (.inr h))))
    have HWO := Lib.hid (fun (x : Int) (hx : x ∈ zs) => ind_wo (c := c) hs hr hx)
    have HWF := Lib.hid (show ∀ j, j < zs.length → (Lit.int .i64 (zs.getD j 0)).wf = true from fun j hj => WalkArith.wf_i64 (by have := ((setB_is hs).1 j hj).1; omega))
    have H24 := Lib.hid (show zs.length ≤ l.length ∧ l.length ≤ 24 from ⟨okS_len (setB_is hs).1, (setB_is hs).2.2.1⟩)
    have HQ := Lib.hid hq
    clear hrv hbad hs hr hq
    have hzh := hz.1
    have W0 := Lib.hid (Below.refl w.heap.size w)
    have HB_0 := Lib.hid (bars_in hl)
    have HZ_0 := Lib.hid (hz)
    clear hl hz
    have Z1 := Lib.hid (within_alloc w (.cells #[.int .i64 p, (.slice A l.length cap)] 26)).size
    have W1 := Lib.hid (within_on W0.out (within_alloc w (.cells #[.int .i64 p, (.slice A l.length cap)] 26)) W0.out.size (.inr (Nat.le_refl _)))
    have HB_1 := Lib.hid (HB_0.out.within (within_alloc w (.cells #[.int .i64 p, (.slice A l.length cap)] 26)) (by omega))
    have HZ_1 := Lib.hid (HZ_0.out.within (within_alloc w (.cells #[.int .i64 p, (.slice A l.length cap)] 26)) (by omega))
    have Y1 := Lib.hid (show (w.alloc (.cells #[.int .i64 p, (.slice A l.length cap)] 26)).heap.size = w.heap.size + 1 by simp)
    have hnew := box_new w p (.slice A l.length cap) 26
    have BX_1 := Lib.hid hnew
    clear hnew
    go_enter Try.func54, Try.ntmps54
    obtain ⟨g0_0, g0_1, g0_2⟩ := BX_1.out
    go_wp2_with fail
    clear g0_0 g0_1 g0_2
    generalize (w.alloc (.cells #[.int .i64 p, (.slice A l.length cap)] 26)) = w1 at *
    refine (newSet_yes p k c l zs A Z cap cz _ _ _ HB_1.out.at HZ_1.out hn hnz HSR.out.1 HSR.out.2).mono ?_
    rintro e w2 ⟨b, rfl, hset, hbge, hb⟩
    have Z2 := Lib.hid (within_of hb).size
    have W2 := Lib.hid (within_on W1.out (within_of hb) W1.out.size (.inr (Nat.le_refl _)))
    have HB_2 := Lib.hid (HB_1.out.within (within_of hb) (by omega))
    have HZ_2 := Lib.hid (HZ_1.out.within (within_of hb) (by omega))
    have BX_2 := Lib.hid (BX_1.out.within (within_of hb) (by omega))
    have SM_2 := Lib.hid (hset)
    clear hset hb
    have HBG := Lib.hid (show w.heap.size ≤ b from by have := Z1.out; omega)
    clear hbge
    have hblt := SM_2.out.lt
    have HBLT := Lib.hid hblt
    clear hblt
    have Z3 := Lib.hid (within_alloc w2 (.cells #[(.int .i64 p), (.slice A l.length cap), (.int .i64 k), (.int .i64 c), (.map (some b))] 128)).size
    have W3 := Lib.hid (within_on W2.out (within_alloc w2 (.cells #[(.int .i64 p), (.slice A l.length cap), (.int .i64 k), (.int .i64 c), (.map (some b))] 128)) W2.out.size (.inr (Nat.le_refl _)))
    have HB_3 := Lib.hid (HB_2.out.within (within_alloc w2 (.cells #[(.int .i64 p), (.slice A l.length cap), (.int .i64 k), (.int .i64 c), (.map (some b))] 128)) (by omega))
    have HZ_3 := Lib.hid (HZ_2.out.within (within_alloc w2 (.cells #[(.int .i64 p), (.slice A l.length cap), (.int .i64 k), (.int .i64 c), (.map (some b))] 128)) (by omega))
    have BX_3 := Lib.hid (BX_2.out.within (within_alloc w2 (.cells #[(.int .i64 p), (.slice A l.length cap), (.int .i64 k), (.int .i64 c), (.map (some b))] 128)) (by omega))
    have SM_3 := Lib.hid (SM_2.out.within (within_alloc w2 (.cells #[(.int .i64 p), (.slice A l.length cap), (.int .i64 k), (.int .i64 c), (.map (some b))] 128)) (by omega))
    have Y3 := Lib.hid (show (w2.alloc (.cells #[(.int .i64 p), (.slice A l.length cap), (.int .i64 k), (.int .i64 c), (.map (some b))] 128)).heap.size = w2.heap.size + 1 by simp)
    have hnew := cel5_new w2 (.int .i64 p) (.slice A l.length cap) (.int .i64 k) (.int .i64 c) (.map (some b)) 128
    have BB_3 := Lib.hid hnew
    clear hnew
    obtain ⟨x0, x1, x2, x3, x4⟩ := BB_3.out.cells
    go_wp2_with fail
    clear x0 x1 x2 x3 x4
    generalize (w2.alloc (.cells #[(.int .i64 p), (.slice A l.length cap), (.int .i64 k), (.int .i64 c), (.map (some b))] 128)) = w3 at *
    refine (mrank p k c l A cap b zs.length zs _ HB_3.out.at SM_3.out hn hnz).mono ?_
    rintro e w4 ⟨rfl, hb⟩
    have Z4 := Lib.hid (within_of hb).size
    have W4 := Lib.hid (within_on W3.out (within_of hb) W3.out.size (.inr (Nat.le_refl _)))
    have HB_4 := Lib.hid (HB_3.out.within (within_of hb) (by omega))
    have HZ_4 := Lib.hid (HZ_3.out.within (within_of hb) (by omega))
    have BX_4 := Lib.hid (BX_3.out.within (within_of hb) (by omega))
    have SM_4 := Lib.hid (SM_3.out.within (within_of hb) (by omega))
    have BB_4 := Lib.hid (BB_3.out.within (within_of hb) (by omega))
    clear hb
    obtain ⟨r, hr⟩ : ∃ r, rankSV p k c l zs = r := ⟨_, rfl⟩
    rw [hr] at HQ ⊢
    clear hr
    by_cases he : r = (zs.length : Int)
    · have HE := Lib.hid (HIND.out (HQ.out.trans (decide_eq_true he)))
      have he2 : (r == (zs.length : Int)) = true := by simpa using he
      clear he
      go_wp2_with fail
      go_ret
      exact ⟨by rw [HE.out]; rfl, W4.out⟩
    · have HE := Lib.hid (HYES.out (HQ.out.trans (decide_eq_false he)))
      have he2 : (r == (zs.length : Int)) = false := by simpa using he
      clear he
      go_wp2_with fail
      go_loopw [12, 32] (fun _ i wr => ∃ j : Nat, j ≤ zs.length ∧ i = .int .i64 j ∧ (∀ u, u < j → indB p k c l (woL zs (zs.getD u 0)) = true) ∧ SetM wr b (zs.length + j) zs ∧ Within b (b + 1) w4 wr) (fun _ i _ => zs.length - (intOf i).toNat)
      case atStart => exact ⟨0, Nat.zero_le _, rfl, fun u hu => absurd hu (Nat.not_lt_zero _), SM_4.out, Within.refl _ _ _⟩
      case round =>
        obtain ⟨j, hj, rfl, hok, hset, hwi⟩ := hrel
        have HOK := Lib.hid hok
        have HSM := Lib.hid hset
        have HWI := Lib.hid hwi
        have HBR := Lib.hid (HB_4.out.within hwi (.inl HBG.out))
        obtain ⟨c0, c1, c2, c3, c4⟩ := (BB_4.out.within hwi (.inr (by have := HBLT.out; omega))).cells
        have hzr := HZ_4.out.within hwi (.inl (Nat.le_trans hzh HBG.out))
        clear hok hset hwi
        by_cases hlt : j < zs.length
        · have hji : (j : Int) < (zs.length : Int) := by omega
          obtain ⟨zb, zo, rfl, hzc⟩ := row_at hzr (by omega)
          have hz := hzc j hlt
          have HBADJ := Lib.hid (HBAD.out j hlt)
          have HWFJ := Lib.hid (HWF.out j hlt)
          have hmem : zs.getD j 0 ∈ zs := by simp [List.getD, List.getElem?_eq_getElem hlt]
          have HMEM := Lib.hid hmem
          have HWOJ := Lib.hid (HWO.out _ hmem)
          have HNX := Lib.hid (fun h => step_all (P := fun u => indB p k c l (woL zs (zs.getD u 0)) = true) HOK.out h)
          obtain ⟨z, hzd⟩ : ∃ z, zs.getD j 0 = z := ⟨_, rfl⟩
          rw [hzd] at hz HBADJ HWFJ HMEM HWOJ
          have HNX2 := Lib.hid (fun h => HNX.out (show indB p k c l (woL zs (zs.getD j 0)) = true from by rw [hzd]; exact h))
          clear hzd hzc hmem hzr
          have HNN := Lib.hid (show zs.length + j + 1 ≤ 1048576 from by have := H24.out; omega)
          obtain ⟨r2, hr2⟩ : ∃ r2, rankSV p k c l (woL zs z) = r2 := ⟨_, rfl⟩
          rw [hr2] at HWOJ
          have HR2 := Lib.hid (show rankSV p k c l (zs.filter fun y => !decide (y = z)) = r2 from hr2)
          clear hr2
          by_cases c9 : r2 < (zs.length : Int) - 1
          · have HQ2 := Lib.hid (HBADJ.out (HWOJ.out.trans (by rw [decide_eq_true c9]; rfl)))
            have d9 : decide (r2 < (zs.length : Int) - 1) = true := decide_eq_true c9
            go_wp2_with (go_at_call 142; refine (rankWo p k c l A cap b (zs.length + j) w.heap.size zs z _ HBR.out HBG.out HSM.out hn HNN.out HWFJ.out HMEM.out).mono ?_; rintro e w5 ⟨rfl, hset, hwi⟩; rw [HR2.out]; have HSM5 := Lib.hid hset; have HWI5 := Lib.hid (HWI.out.trans hwi); clear hset hwi)
            go_ret
            have hsz := W4.out.size
            exact ⟨by rw [HQ2.out]; rfl, within_on W4.out HWI5.out hsz (.inl HBG.out)⟩
          · have HQ2 := Lib.hid (HNX2.out (HWOJ.out.trans (by rw [decide_eq_false c9]; rfl)))
            have d9 : decide (r2 < (zs.length : Int) - 1) = false := decide_eq_false c9
            go_wp2_with (go_at_call 142; refine (rankWo p k c l A cap b (zs.length + j) w.heap.size zs z _ HBR.out HBG.out HSM.out hn HNN.out HWFJ.out HMEM.out).mono ?_; rintro e w5 ⟨rfl, hset, hwi⟩; rw [HR2.out]; have HSM5 := Lib.hid hset; have HWI5 := Lib.hid (HWI.out.trans hwi); clear hset hwi)
            go_roundw
            case rel => exact ⟨j + 1, by omega, by go_num, HQ2.out, HSM5.out, HWI5.out⟩
            case measure => simp [intOf]; omega
        · obtain rfl : j = zs.length := by omega
          go_wp2_with fail
          go_ret
          have hsz := W4.out.size
          exact ⟨by rw [HE.out HOK.out]; rfl, within_on W4.out HWI.out hsz (.inl HBG.out)⟩
end Go.Proofs.Ytdkpmaahinbhlaa
