/- What IsTight answers, the specification's and the program's. No condition. -/
import Derived.Test.YtimgkekllanhmaaSparse
namespace Go.Proofs.Ytimgkekllanhmaa
open Go.RowKit

noncomputable def tightB (p k c : Int) (l : List (Int × Int)) : Bool := sparseB p k c l && decide ((l.length : Int) = if k * p - c < 0 then 0 else k * p - c)
theorem sparse_facts {p k c : Int} {l : List (Int × Int)} (h : sparseB p k c l = true) : (1 ≤ p ∧ p ≤ 8) ∧ l.length ≤ 24 ∧ (1 ≤ k ∧ k ≤ 3 ∧ 0 ≤ c ∧ c ≤ 2 * k - 1) ∧ 0 ≤ k * p ∧ k * p ≤ 24 := by
  unfold sparseB at h
  simp only [Bool.and_eq_true] at h
  obtain ⟨⟨hg, hq⟩, _⟩ := h
  have hG : IsG p l := Classical.byContradiction fun g => by rw [isGB_no g] at hg; cases hg
  have hp := hG.1
  have hk : 1 ≤ k ∧ k ≤ 3 ∧ 0 ≤ c ∧ c ≤ 2 * k - 1 := by simpa [rangeB, and_assoc] using hq
  refine ⟨hp, hG.2.1, hk, Int.mul_nonneg (by omega) (by omega), ?_⟩
  calc k * p ≤ 3 * p := Int.mul_le_mul_of_nonneg_right (by omega) (by omega)
    _ ≤ 24 := by omega

set_option maxHeartbeats 2000000 in
set_option maxRecDepth 100000 in
theorem specTight (p k c : Int) (l : List (Int × Int)) (A : Option Addr) (cap : Nat) (w : World) (hl : BarsAt w w.heap.size A l) (hn : l.length ≤ 1048576) :
    Calls Try.prog 22 #[.agg #[.int .i64 p, .slice A l.length cap], .int .i64 k, .int .i64 c] w fun e w' => e = .returned (.bool (tightB p k c l)) ∧ Below w.heap.size w w' := by
  have hA := new_below w (.cells #[.int .i64 p, .slice A l.length cap] 30)
  have HA := Lib.hid hA
  have BX := Lib.hid (box_new w p (.slice A l.length cap) 30)
  have HSP := specSparse p k c l A cap _ (hl.on hA) hn
  clear hl hA
  have ht : tightB p k c l = (sparseB p k c l && decide ((l.length : Int) = if k * p - c < 0 then 0 else k * p - c)) := rfl
  obtain ⟨_, g1, g2⟩ := BX.out
  rcases hs : sparseB p k c l with _ | _
  · rw [hs] at HSP ht
    have HT := Lib.hid (ht.trans (by simp : _ = false))
    clear ht
    go_enter Try.func22, Try.ntmps22
    go_wp2_with (go_at_call 20; refine HSP.mono ?_; rintro e w2 ⟨rfl, hb⟩; have HB := Lib.hid (below_on HA.out hb HA.out.size); obtain ⟨_, g3, g4⟩ := BX.out.kept hb; clear HSP hb g1 g2)
    go_ret
    exact ⟨by rw [HT.out]; rfl, HB.out⟩
  · rw [hs] at HSP ht
    obtain ⟨hp, h24, hk, hkp⟩ := sparse_facts hs
    by_cases h0 : k * p - c < 0
    · rw [if_pos h0] at ht
      by_cases h1 : (l.length : Int) = 0
      all_goals
        have HT := Lib.hid (ht.trans (by simp [h1] : _ = decide ((l.length : Int) = 0)))
        rw [show decide ((l.length : Int) = 0) = _ from by first | exact decide_eq_true h1 | exact decide_eq_false h1] at HT
        clear ht
        go_enter Try.func22, Try.ntmps22
        go_wp2_with (go_at_call 20; refine HSP.mono ?_; rintro e w2 ⟨rfl, hb⟩; have HB := Lib.hid (below_on HA.out hb HA.out.size); obtain ⟨_, g3, g4⟩ := BX.out.kept hb; clear HSP hb g1 g2)
        all_goals
          go_ret
          exact ⟨by rw [HT.out]; first | rfl | exact congrArg (fun b => Ending.returned (Value.bool b)) (beq_false_of_ne (by omega)) | exact congrArg (fun b => Ending.returned (Value.bool b)) (beq_iff_eq.2 (by omega)) | (simp; omega), HB.out⟩
    · rw [if_neg h0] at ht
      by_cases h1 : (l.length : Int) = k * p - c
      all_goals
        have HT := Lib.hid (ht.trans (by simp [h1] : _ = decide ((l.length : Int) = k * p - c)))
        rw [show decide ((l.length : Int) = k * p - c) = _ from by first | exact decide_eq_true h1 | exact decide_eq_false h1] at HT
        clear ht
        go_enter Try.func22, Try.ntmps22
        go_wp2_with (go_at_call 20; refine HSP.mono ?_; rintro e w2 ⟨rfl, hb⟩; have HB := Lib.hid (below_on HA.out hb HA.out.size); obtain ⟨_, g3, g4⟩ := BX.out.kept hb; clear HSP hb g1 g2)
        all_goals
          go_ret
          exact ⟨by rw [HT.out]; first | rfl | exact congrArg (fun b => Ending.returned (Value.bool b)) (beq_false_of_ne (by omega)) | exact congrArg (fun b => Ending.returned (Value.bool b)) (beq_iff_eq.2 (by omega)) | (simp; omega), HB.out⟩

set_option maxHeartbeats 2000000 in
set_option maxRecDepth 100000 in
theorem implTight (p k c : Int) (l : List (Int × Int)) (A : Option Addr) (cap : Nat) (w : World) (hl : BarsAt w w.heap.size A l) (hn : l.length ≤ 1048576) :
    Calls Try.prog 23 #[.agg #[.int .i64 p, .slice A l.length cap], .int .i64 k, .int .i64 c] w fun e w' => e = .returned (.bool (tightB p k c l)) ∧ Below w.heap.size w w' := by
  have hA := new_below w (.cells #[.int .i64 p, .slice A l.length cap] 30)
  have HA := Lib.hid hA
  have BX := Lib.hid (box_new w p (.slice A l.length cap) 30)
  have HSP := implSparse p k c l A cap _ (hl.on hA) hn
  clear hl hA
  have ht : tightB p k c l = (sparseB p k c l && decide ((l.length : Int) = if k * p - c < 0 then 0 else k * p - c)) := rfl
  obtain ⟨_, g1, g2⟩ := BX.out
  rcases hs : sparseB p k c l with _ | _
  · rw [hs] at HSP ht
    have HT := Lib.hid (ht.trans (by simp : _ = false))
    clear ht
    go_enter Try.func23, Try.ntmps23
    go_wp2_with (go_at_call 21; refine HSP.mono ?_; rintro e w2 ⟨rfl, hb⟩; have HB := Lib.hid (below_on HA.out hb HA.out.size); obtain ⟨_, g3, g4⟩ := BX.out.kept hb; clear HSP hb g1 g2)
    go_ret
    exact ⟨by rw [HT.out]; rfl, HB.out⟩
  · rw [hs] at HSP ht
    obtain ⟨hp, h24, hk, hkp⟩ := sparse_facts hs
    by_cases h0 : k * p - c < 0
    · rw [if_pos h0] at ht
      by_cases h1 : (l.length : Int) = 0
      all_goals
        have HT := Lib.hid (ht.trans (by simp [h1] : _ = decide ((l.length : Int) = 0)))
        rw [show decide ((l.length : Int) = 0) = _ from by first | exact decide_eq_true h1 | exact decide_eq_false h1] at HT
        clear ht
        go_enter Try.func23, Try.ntmps23
        go_wp2_with (go_at_call 21; refine HSP.mono ?_; rintro e w2 ⟨rfl, hb⟩; have HB := Lib.hid (below_on HA.out hb HA.out.size); obtain ⟨_, g3, g4⟩ := BX.out.kept hb; clear HSP hb g1 g2)
        all_goals
          go_ret
          exact ⟨by rw [HT.out]; first | rfl | exact congrArg (fun b => Ending.returned (Value.bool b)) (beq_false_of_ne (by omega)) | exact congrArg (fun b => Ending.returned (Value.bool b)) (beq_iff_eq.2 (by omega)) | (simp; omega), HB.out⟩
    · rw [if_neg h0] at ht
      by_cases h1 : (l.length : Int) = k * p - c
      all_goals
        have HT := Lib.hid (ht.trans (by simp [h1] : _ = decide ((l.length : Int) = k * p - c)))
        rw [show decide ((l.length : Int) = k * p - c) = _ from by first | exact decide_eq_true h1 | exact decide_eq_false h1] at HT
        clear ht
        go_enter Try.func23, Try.ntmps23
        go_wp2_with (go_at_call 21; refine HSP.mono ?_; rintro e w2 ⟨rfl, hb⟩; have HB := Lib.hid (below_on HA.out hb HA.out.size); obtain ⟨_, g3, g4⟩ := BX.out.kept hb; clear HSP hb g1 g2)
        all_goals
          go_ret
          exact ⟨by rw [HT.out]; first | rfl | exact congrArg (fun b => Ending.returned (Value.bool b)) (beq_false_of_ne (by omega)) | exact congrArg (fun b => Ending.returned (Value.bool b)) (beq_iff_eq.2 (by omega)) | (simp; omega), HB.out⟩
end Go.Proofs.Ytimgkekllanhmaa
