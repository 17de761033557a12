/- What spec.FreedomOf, spec.IsRigid and spec.IsMinimallyRigid answer. No condition. -/
import Derived.Test.YtdkpmaahinbhlaaFzB1
import Derived.Test.YtdkpmaahinbhlaaFzB3
import Derived.Deep.RegionHeld3
namespace Go.Proofs.Ytdkpmaahinbhlaa
open Go.RowKit

set_option maxHeartbeats 4000000 in
set_option maxRecDepth 100000 in
theorem specFrd (p : Int) (l : List (Int × Int)) (A : Option Addr) (cap : Nat) (w : World) (hl : BarsAt w w.heap.size A l) (hn : l.length ≤ 1048576) :
    Calls Try.prog 237 #[.agg #[.int .i64 p, .slice A l.length cap]] w fun e w' => e = .returned (.int .i64 (frdV p l)) ∧ Below w.heap.size w w' := by
  have HISG : ∀ W : World, BarsAt W W.heap.size A l → Calls Try.prog 118 #[.agg #[.int .i64 p, .slice A l.length cap]] W fun e w' => e = .returned (.bool (isGB p l)) ∧ Below W.heap.size W w' := fun W h => specIsGraph' p l A cap W h hn
  obtain ⟨rv, hrv⟩ : ∃ rv, frdV p l = rv := ⟨_, rfl⟩
  rw [hrv]
  unfold frdV at hrv
  cases hg : isGB p l with
  | false =>
    have HRV := Lib.hid (show rv = -1 from by rw [← hrv, hg]; rfl)
    clear hrv
    rw [hg] at HISG
    clear hg
    have W0 := Lib.hid (Below.refl w.heap.size w)
    have HB_0 := Lib.hid (bars_in hl)
    clear hl
    have Z1 := Lib.hid (within_alloc w (.cells #[.int .i64 p, (.slice A l.length cap)] 26)).size
    have W1 := Lib.hid (within_on W0.out (within_alloc w (.cells #[.int .i64 p, (.slice A l.length cap)] 26)) W0.out.size (.inr (Nat.le_refl _)))
    have HB_1 := Lib.hid (HB_0.out.within (within_alloc w (.cells #[.int .i64 p, (.slice A l.length cap)] 26)) (by omega))
    have Y1 := Lib.hid (show (w.alloc (.cells #[.int .i64 p, (.slice A l.length cap)] 26)).heap.size = w.heap.size + 1 by simp)
    have hnew := box_new w p (.slice A l.length cap) 26
    have BX_1 := Lib.hid hnew
    clear hnew
    go_enter Try.func237, Try.ntmps237
    obtain ⟨g0_0, g0_1, g0_2⟩ := BX_1.out
    go_wp2_with fail
    clear g0_0 g0_1 g0_2
    generalize (w.alloc (.cells #[.int .i64 p, (.slice A l.length cap)] 26)) = w1 at *
    refine (HISG _ HB_1.out.at).mono ?_
    rintro e w2 ⟨rfl, hb⟩
    have Z2 := Lib.hid (within_of hb).size
    have W2 := Lib.hid (within_on W1.out (within_of hb) W1.out.size (.inr (Nat.le_refl _)))
    have HB_2 := Lib.hid (HB_1.out.within (within_of hb) (by omega))
    have BX_2 := Lib.hid (BX_1.out.within (within_of hb) (by omega))
    clear hb
    go_wp2_with fail
    go_ret
    exact ⟨by rw [HRV.out]; rfl, W2.out⟩
  | true =>
    have hp : 1 ≤ p ∧ p ≤ 8 := (show IsG p l from Classical.byContradiction fun g => by rw [isGB_no g] at hg; cases hg).1
    have hri := rankV_in p 2 3 l
    have HRK : ∀ W : World, BarsAt W W.heap.size A l → Calls Try.prog 46 #[.agg #[.int .i64 p, .slice A l.length cap], .int .i64 2, .int .i64 3] W fun e w' => e = .returned (.int .i64 (rankV p 2 3 l)) ∧ Below W.heap.size W w' := fun W h => specRank p 2 3 l A cap W h hn
    have hrv2 : rv = fullV p - rankV p 2 3 l := by rw [← hrv, hg]; rfl
    obtain ⟨r, hr⟩ : ∃ r, rankV p 2 3 l = r := ⟨_, rfl⟩
    rw [hr] at hri HRK hrv2
    have HRK2 := Lib.hid HRK
    rw [hg] at HISG
    clear hrv hg hr HRK
    by_cases hp1 : p = 1
    · have HRV := Lib.hid (show rv = - r from by rw [hrv2]; unfold fullV; rw [if_pos (by omega)]; omega)
      have m1 : 2 * p - 3 ≤ 0 := by omega
      have m2 : 2 * p - 3 < 0 := by omega
      have hwr : IntKind.i64.wrap (-r) = -r := IntWalk.i64_in _ (by omega)
      clear hrv2 hp1
      have W0 := Lib.hid (Below.refl w.heap.size w)
      have HB_0 := Lib.hid (bars_in hl)
      clear hl
      have Z1 := Lib.hid (within_alloc w (.cells #[.int .i64 p, (.slice A l.length cap)] 26)).size
      have W1 := Lib.hid (within_on W0.out (within_alloc w (.cells #[.int .i64 p, (.slice A l.length cap)] 26)) W0.out.size (.inr (Nat.le_refl _)))
      have HB_1 := Lib.hid (HB_0.out.within (within_alloc w (.cells #[.int .i64 p, (.slice A l.length cap)] 26)) (by omega))
      have Y1 := Lib.hid (show (w.alloc (.cells #[.int .i64 p, (.slice A l.length cap)] 26)).heap.size = w.heap.size + 1 by simp)
      have hnew := box_new w p (.slice A l.length cap) 26
      have BX_1 := Lib.hid hnew
      clear hnew
      go_enter Try.func237, Try.ntmps237
      obtain ⟨g0_0, g0_1, g0_2⟩ := BX_1.out
      go_wp2_with fail
      clear g0_0 g0_1 g0_2
      generalize (w.alloc (.cells #[.int .i64 p, (.slice A l.length cap)] 26)) = w1 at *
      refine (HISG _ HB_1.out.at).mono ?_
      rintro e w2 ⟨rfl, hb⟩
      have Z2 := Lib.hid (within_of hb).size
      have W2 := Lib.hid (within_on W1.out (within_of hb) W1.out.size (.inr (Nat.le_refl _)))
      have HB_2 := Lib.hid (HB_1.out.within (within_of hb) (by omega))
      have BX_2 := Lib.hid (BX_1.out.within (within_of hb) (by omega))
      clear hb HISG
      have hdr : Below w2.heap.size w2 w2.drew := (Below.refl _ _).drew
      have HBD := Lib.hid (HB_2.out.within (within_of hdr) (.inr (Nat.zero_le _)))
      have HKK := Lib.hid (BX_2.out.kept hdr)
      have HWD := Lib.hid (below_on W2.out hdr W2.out.size)
      clear hdr
      obtain ⟨_, g1, g2⟩ := BX_2.out
      go_wp2_with fail
      refine wp_region_held_drew (S := (fun W' => W'.cell? ⟨w.heap.size, 0, none⟩ = some (.int .i64 p) ∧ W'.cell? ⟨w.heap.size, 1, none⟩ = some (.slice A l.length cap))) (by kernel_rfl) ?_ (fun hHeld => ?_)
      · exact ⟨HKK.out.2.1, HKK.out.2.2⟩
      refine wpAnyH_take (i := 0) (v := .pointer (some ⟨w.heap.size, 0, none⟩)) rfl (by kernel_rfl) (by kernel_rfl) (by kernel_rfl) (fun _ _ _ h => h) (Or.inl ⟨by kernel_rfl, fun w hSw => by (try dsimp only at hSw); go_simp; all_goals first | omega | exact IntWalk.i64_in _ (by omega)⟩) (by assumption) ?_
      try simp only [Act.put, List.setIfInBounds_toArray]
      refine wpAnyH_take (i := 1) (v := .int .i64 p) rfl (by kernel_rfl) (by kernel_rfl) (by kernel_rfl) (fun _ _ _ h => h) (Or.inl ⟨by kernel_rfl, fun w hSw => by (try dsimp only at hSw); go_simp; all_goals first | omega | exact IntWalk.i64_in _ (by omega)⟩) (by assumption) ?_
      try simp only [Act.put]
      refine wpAnyH_take (i := 2) (v := .int .i64 (2 * p)) rfl (by kernel_rfl) (by kernel_rfl) (by kernel_rfl) (fun _ _ _ h => h) (Or.inl ⟨by kernel_rfl, fun w hSw => by (try dsimp only at hSw); go_simp; all_goals first | omega | exact IntWalk.i64_in _ (by omega)⟩) (by assumption) ?_
      try simp only [Act.put]
      refine wpAnyH_take (i := 3) (v := .int .i64 (2 * p - 3)) rfl (by kernel_rfl) (by kernel_rfl) (by kernel_rfl) (fun _ _ _ h => h) (Or.inl ⟨by kernel_rfl, fun w hSw => by (try dsimp only at hSw); go_simp; all_goals first | omega | exact IntWalk.i64_in _ (by omega)⟩) (by assumption) ?_
      try simp only [Act.put]
      refine wpAnyH_take (i := 4) (v := .int .i64 0) rfl (by kernel_rfl) (by kernel_rfl) (by kernel_rfl) (fun _ _ _ h => h) (Or.inl ⟨by kernel_rfl, fun w hSw => by (try dsimp only at hSw); go_simp; all_goals first | omega | exact IntWalk.i64_in _ (by omega)⟩) (by assumption) ?_
      try simp only [Act.put]
      refine wpAnyH_take (i := 5) (v := .agg #[.int .i64 p, .slice A l.length cap]) rfl (by kernel_rfl) (by kernel_rfl) (by kernel_rfl) (fun _ _ _ h => h) (Or.inl ⟨by kernel_rfl, fun w hSw => by (try dsimp only at hSw); go_simp; all_goals first | omega | exact IntWalk.i64_in _ (by omega)⟩) (by assumption) ?_
      try simp only [Act.put]
      refine wpAnyH_ready (rs := [6]) (by kernel_rfl) (by simp) (AllReadyH.cons rfl (fun K hK => ?_) AllReadyH.nil)
      go_simp
      go_at_call 46
      refine (HRK2.out _ HBD.out.at).mono ?_
      rintro e w5 ⟨rfl, hb⟩
      have HK2 := Lib.hid (HKK.out.kept hb)
      have HWE := Lib.hid (below_on HWD.out hb HWD.out.size)
      clear hb
      refine hK.out _ _ ⟨HK2.out.2.1, HK2.out.2.2⟩ (fun hHeld => ?_)
      clear hK K
      try simp only [Act.put, List.setIfInBounds_toArray, List.set_cons_zero, List.set_cons_succ]
      refine wpAnyH_take (i := 7) (v := .int .i64 (-r)) rfl (by kernel_rfl) (by kernel_rfl) (by kernel_rfl) (fun _ _ _ h => h) (Or.inl ⟨by kernel_rfl, fun w hSw => by (try dsimp only at hSw); go_simp; all_goals first | omega | exact IntWalk.i64_in _ (by omega)⟩) (by assumption) ?_
      try simp only [Act.put, List.setIfInBounds_toArray]
      refine wpAnyH_take (i := 8) (v := .int .i64 (-r)) rfl (by kernel_rfl) (by kernel_rfl) (by kernel_rfl) (fun _ _ _ h => h) (Or.inl ⟨by kernel_rfl, fun w hSw => by (try dsimp only at hSw); go_simp; all_goals first | omega | exact IntWalk.i64_in _ (by omega)⟩) (by assumption) ?_
      try simp only [Act.put]
      refine wpAnyH_done (by kernel_rfl) ?_ _
      go_wp2_with fail
      go_ret
      rename_i e8 x8 y8 e7
      simp at e8 e7
      subst e8 e7
      exact ⟨by rw [HRV.out]; rfl, HWE.out⟩
    · have HRV := Lib.hid (show rv = 2 * p - 3 - r from by rw [hrv2]; unfold fullV; rw [if_neg (by omega)])
      have m1 : ¬ 2 * p - 3 ≤ 0 := by omega
      have m2 : ¬ 2 * p - 3 < 0 := by omega
      clear hrv2 hp1
      have W0 := Lib.hid (Below.refl w.heap.size w)
      have HB_0 := Lib.hid (bars_in hl)
      clear hl
      have Z1 := Lib.hid (within_alloc w (.cells #[.int .i64 p, (.slice A l.length cap)] 26)).size
      have W1 := Lib.hid (within_on W0.out (within_alloc w (.cells #[.int .i64 p, (.slice A l.length cap)] 26)) W0.out.size (.inr (Nat.le_refl _)))
      have HB_1 := Lib.hid (HB_0.out.within (within_alloc w (.cells #[.int .i64 p, (.slice A l.length cap)] 26)) (by omega))
      have Y1 := Lib.hid (show (w.alloc (.cells #[.int .i64 p, (.slice A l.length cap)] 26)).heap.size = w.heap.size + 1 by simp)
      have hnew := box_new w p (.slice A l.length cap) 26
      have BX_1 := Lib.hid hnew
      clear hnew
      go_enter Try.func237, Try.ntmps237
      obtain ⟨g0_0, g0_1, g0_2⟩ := BX_1.out
      go_wp2_with fail
      clear g0_0 g0_1 g0_2
      generalize (w.alloc (.cells #[.int .i64 p, (.slice A l.length cap)] 26)) = w1 at *
      refine (HISG _ HB_1.out.at).mono ?_
      rintro e w2 ⟨rfl, hb⟩
      have Z2 := Lib.hid (within_of hb).size
      have W2 := Lib.hid (within_on W1.out (within_of hb) W1.out.size (.inr (Nat.le_refl _)))
      have HB_2 := Lib.hid (HB_1.out.within (within_of hb) (by omega))
      have BX_2 := Lib.hid (BX_1.out.within (within_of hb) (by omega))
      clear hb HISG
      have hdr : Below w2.heap.size w2 w2.drew := (Below.refl _ _).drew
      have HBD := Lib.hid (HB_2.out.within (within_of hdr) (.inr (Nat.zero_le _)))
      have HKK := Lib.hid (BX_2.out.kept hdr)
      have HWD := Lib.hid (below_on W2.out hdr W2.out.size)
      clear hdr
      obtain ⟨_, g1, g2⟩ := BX_2.out
      go_wp2_with fail
      refine wp_region_held_drew (S := (fun W' => W'.cell? ⟨w.heap.size, 0, none⟩ = some (.int .i64 p) ∧ W'.cell? ⟨w.heap.size, 1, none⟩ = some (.slice A l.length cap))) (by kernel_rfl) ?_ (fun hHeld => ?_)
      · exact ⟨HKK.out.2.1, HKK.out.2.2⟩
      refine wpAnyH_take (i := 0) (v := .pointer (some ⟨w.heap.size, 0, none⟩)) rfl (by kernel_rfl) (by kernel_rfl) (by kernel_rfl) (fun _ _ _ h => h) (Or.inl ⟨by kernel_rfl, fun w hSw => by (try dsimp only at hSw); go_simp; all_goals first | omega | exact IntWalk.i64_in _ (by omega)⟩) (by assumption) ?_
      try simp only [Act.put, List.setIfInBounds_toArray]
      refine wpAnyH_take (i := 1) (v := .int .i64 p) rfl (by kernel_rfl) (by kernel_rfl) (by kernel_rfl) (fun _ _ _ h => h) (Or.inl ⟨by kernel_rfl, fun w hSw => by (try dsimp only at hSw); go_simp; all_goals first | omega | exact IntWalk.i64_in _ (by omega)⟩) (by assumption) ?_
      try simp only [Act.put]
      refine wpAnyH_take (i := 2) (v := .int .i64 (2 * p)) rfl (by kernel_rfl) (by kernel_rfl) (by kernel_rfl) (fun _ _ _ h => h) (Or.inl ⟨by kernel_rfl, fun w hSw => by (try dsimp only at hSw); go_simp; all_goals first | omega | exact IntWalk.i64_in _ (by omega)⟩) (by assumption) ?_
      try simp only [Act.put]
      refine wpAnyH_take (i := 3) (v := .int .i64 (2 * p - 3)) rfl (by kernel_rfl) (by kernel_rfl) (by kernel_rfl) (fun _ _ _ h => h) (Or.inl ⟨by kernel_rfl, fun w hSw => by (try dsimp only at hSw); go_simp; all_goals first | omega | exact IntWalk.i64_in _ (by omega)⟩) (by assumption) ?_
      try simp only [Act.put]
      refine wpAnyH_take (i := 4) (v := .int .i64 (2 * p - 3)) rfl (by kernel_rfl) (by kernel_rfl) (by kernel_rfl) (fun _ _ _ h => h) (Or.inl ⟨by kernel_rfl, fun w hSw => by (try dsimp only at hSw); go_simp; all_goals first | omega | exact IntWalk.i64_in _ (by omega)⟩) (by assumption) ?_
      try simp only [Act.put]
      refine wpAnyH_take (i := 5) (v := .agg #[.int .i64 p, .slice A l.length cap]) rfl (by kernel_rfl) (by kernel_rfl) (by kernel_rfl) (fun _ _ _ h => h) (Or.inl ⟨by kernel_rfl, fun w hSw => by (try dsimp only at hSw); go_simp; all_goals first | omega | exact IntWalk.i64_in _ (by omega)⟩) (by assumption) ?_
      try simp only [Act.put]
      refine wpAnyH_ready (rs := [6]) (by kernel_rfl) (by simp) (AllReadyH.cons rfl (fun K hK => ?_) AllReadyH.nil)
      go_simp
      go_at_call 46
      refine (HRK2.out _ HBD.out.at).mono ?_
      rintro e w5 ⟨rfl, hb⟩
      have HK2 := Lib.hid (HKK.out.kept hb)
      have HWE := Lib.hid (below_on HWD.out hb HWD.out.size)
      clear hb
      refine hK.out _ _ ⟨HK2.out.2.1, HK2.out.2.2⟩ (fun hHeld => ?_)
      clear hK K
      try simp only [Act.put, List.setIfInBounds_toArray, List.set_cons_zero, List.set_cons_succ]
      refine wpAnyH_take (i := 7) (v := .int .i64 ((2 * p - 3 - r))) rfl (by kernel_rfl) (by kernel_rfl) (by kernel_rfl) (fun _ _ _ h => h) (Or.inl ⟨by kernel_rfl, fun w hSw => by (try dsimp only at hSw); go_simp; all_goals first | omega | exact IntWalk.i64_in _ (by omega)⟩) (by assumption) ?_
      try simp only [Act.put, List.setIfInBounds_toArray]
      refine wpAnyH_take (i := 8) (v := .int .i64 ((2 * p - 3 - r))) rfl (by kernel_rfl) (by kernel_rfl) (by kernel_rfl) (fun _ _ _ h => h) (Or.inl ⟨by kernel_rfl, fun w hSw => by (try dsimp only at hSw); go_simp; all_goals first | omega | exact IntWalk.i64_in _ (by omega)⟩) (by assumption) ?_
      try simp only [Act.put]
      refine wpAnyH_done (by kernel_rfl) ?_ _
      go_wp2_with fail
      go_ret
      rename_i e8 x8 y8 e7
      simp at e8 e7
      subst e8 e7
      exact ⟨by rw [HRV.out]; rfl, HWE.out⟩

set_option maxHeartbeats 2000000 in
set_option maxRecDepth 100000 in
theorem specRig (p : Int) (l : List (Int × Int)) (A : Option Addr) (cap : Nat) (w : World) (hl : BarsAt w w.heap.size A l) (hn : l.length ≤ 1048576) :
    Calls Try.prog 203 #[.agg #[.int .i64 p, .slice A l.length cap]] w fun e w' => e = .returned (.bool (rigB p l)) ∧ Below w.heap.size w w' := by
  obtain ⟨rv, hrv⟩ : ∃ rv, rigB p l = rv := ⟨_, rfl⟩
  rw [hrv]
  unfold rigB at hrv
  have HFR : ∀ W : World, BarsAt W W.heap.size A l → Calls Try.prog 237 #[.agg #[.int .i64 p, .slice A l.length cap]] W fun e w' => e = .returned (.int .i64 (frdV p l)) ∧ Below W.heap.size W w' := fun W h => specFrd p l A cap W h hn
  obtain ⟨r, hr⟩ : ∃ r, frdV p l = r := ⟨_, rfl⟩
  rw [hr] at hrv HFR
  have HRV := Lib.hid hrv
  clear hr hrv
  have W0 := Lib.hid (Below.refl w.heap.size w)
  have HB_0 := Lib.hid (bars_in hl)
  clear hl
  have Z1 := Lib.hid (within_alloc w (.cells #[.int .i64 p, (.slice A l.length cap)] 26)).size
  have W1 := Lib.hid (within_on W0.out (within_alloc w (.cells #[.int .i64 p, (.slice A l.length cap)] 26)) W0.out.size (.inr (Nat.le_refl _)))
  have HB_1 := Lib.hid (HB_0.out.within (within_alloc w (.cells #[.int .i64 p, (.slice A l.length cap)] 26)) (by omega))
  have Y1 := Lib.hid (show (w.alloc (.cells #[.int .i64 p, (.slice A l.length cap)] 26)).heap.size = w.heap.size + 1 by simp)
  have hnew := box_new w p (.slice A l.length cap) 26
  have BX_1 := Lib.hid hnew
  clear hnew
  go_enter Try.func203, Try.ntmps203
  obtain ⟨g0_0, g0_1, g0_2⟩ := BX_1.out
  go_wp2_with fail
  clear g0_0 g0_1 g0_2
  generalize (w.alloc (.cells #[.int .i64 p, (.slice A l.length cap)] 26)) = w1 at *
  refine (HFR _ HB_1.out.at).mono ?_
  rintro e w2 ⟨rfl, hb⟩
  have Z2 := Lib.hid (within_of hb).size
  have W2 := Lib.hid (within_on W1.out (within_of hb) W1.out.size (.inr (Nat.le_refl _)))
  have HB_2 := Lib.hid (HB_1.out.within (within_of hb) (by omega))
  have BX_2 := Lib.hid (BX_1.out.within (within_of hb) (by omega))
  clear hb
  go_wp2_with fail
  go_ret
  exact ⟨by rw [← HRV.out]; first | rfl | simp, W2.out⟩

set_option maxHeartbeats 4000000 in
set_option maxRecDepth 100000 in
theorem specMin (p : Int) (l : List (Int × Int)) (A : Option Addr) (cap : Nat) (w : World) (hl : BarsAt w w.heap.size A l) (hn : l.length ≤ 1048576) :
    Calls Try.prog 163 #[.agg #[.int .i64 p, .slice A l.length cap]] w fun e w' => e = .returned (.bool (minB p l)) ∧ Below w.heap.size w w' := by
  obtain ⟨rv, hrv⟩ : ∃ rv, minB p l = rv := ⟨_, rfl⟩
  rw [hrv]
  unfold minB at hrv
  have HRG : ∀ W : World, BarsAt W W.heap.size A l → Calls Try.prog 203 #[.agg #[.int .i64 p, .slice A l.length cap]] W fun e w' => e = .returned (.bool (rigB p l)) ∧ Below W.heap.size W w' := fun W h => specRig p l A cap W h hn
  have HRK : ∀ W : World, BarsAt W W.heap.size A l → Calls Try.prog 46 #[.agg #[.int .i64 p, .slice A l.length cap], .int .i64 2, .int .i64 3] W fun e w' => e = .returned (.int .i64 (rankV p 2 3 l)) ∧ Below W.heap.size W w' := fun W h => specRank p 2 3 l A cap W h hn
  obtain ⟨r, hr⟩ : ∃ r, rankV p 2 3 l = r := ⟨_, rfl⟩
  rw [hr] at hrv HRK
  clear hr
  have HRK2 := Lib.hid HRK
  clear HRK
  cases hg : rigB p l with
  | false =>
    have HRV := Lib.hid (show rv = false from by rw [← hrv, hg]; rfl)
    rw [hg] at HRG
    have HRG2 := Lib.hid HRG
    clear hrv hg HRG
    have W0 := Lib.hid (Below.refl w.heap.size w)
    have HB_0 := Lib.hid (bars_in hl)
    clear hl
    have Z1 := Lib.hid (within_alloc w (.cells #[.int .i64 p, (.slice A l.length cap)] 26)).size
    have W1 := Lib.hid (within_on W0.out (within_alloc w (.cells #[.int .i64 p, (.slice A l.length cap)] 26)) W0.out.size (.inr (Nat.le_refl _)))
    have HB_1 := Lib.hid (HB_0.out.within (within_alloc w (.cells #[.int .i64 p, (.slice A l.length cap)] 26)) (by omega))
    have Y1 := Lib.hid (show (w.alloc (.cells #[.int .i64 p, (.slice A l.length cap)] 26)).heap.size = w.heap.size + 1 by simp)
    have hnew := box_new w p (.slice A l.length cap) 26
    have BX_1 := Lib.hid hnew
    clear hnew
    go_enter Try.func163, Try.ntmps163
    obtain ⟨g0_0, g0_1, g0_2⟩ := BX_1.out
    have hdr : Below (w.alloc (.cells #[.int .i64 p, (.slice A l.length cap)] 26)).heap.size (w.alloc (.cells #[.int .i64 p, (.slice A l.length cap)] 26)) (w.alloc (.cells #[.int .i64 p, (.slice A l.length cap)] 26)).drew := (Below.refl _ _).drew
    have HBD := Lib.hid (HB_1.out.within (within_of hdr) (.inr (Nat.zero_le _)))
    have HKK := Lib.hid (BX_1.out.kept hdr)
    have HWD := Lib.hid (below_on W1.out hdr W1.out.size)
    clear hdr
    go_wp2_with fail
    refine wp_region_held_drew (S := (fun W' => W'.cell? ⟨w.heap.size, 0, none⟩ = some (.int .i64 p) ∧ W'.cell? ⟨w.heap.size, 1, none⟩ = some (.slice A l.length cap))) (by kernel_rfl) ?_ (fun hHeld => ?_)
    · exact ⟨HKK.out.2.1, HKK.out.2.2⟩
    refine wpAnyH_take (i := 0) (v := .agg #[.int .i64 p, .slice A l.length cap]) rfl (by kernel_rfl) (by kernel_rfl) (by kernel_rfl) (fun _ _ _ h => h) (Or.inl ⟨by kernel_rfl, fun w hSw => by (try dsimp only at hSw); go_simp; all_goals first | omega | exact IntWalk.i64_in _ (by omega)⟩) (by assumption) ?_
    try simp only [Act.put, List.setIfInBounds_toArray]
    refine wpAnyH_ready (rs := [1]) (by kernel_rfl) (by simp) (AllReadyH.cons rfl (fun K hK => ?_) AllReadyH.nil)
    go_simp
    go_at_call 203
    refine (HRG2.out _ HBD.out.at).mono ?_
    rintro e w5 ⟨rfl, hb⟩
    have HK2 := Lib.hid (HKK.out.kept hb)
    have HWE := Lib.hid (below_on HWD.out hb HWD.out.size)
    clear hb
    refine hK.out _ _ ⟨HK2.out.2.1, HK2.out.2.2⟩ (fun hHeld => ?_)
    clear hK K
    try simp only [Act.put, List.setIfInBounds_toArray, List.set_cons_zero, List.set_cons_succ]
    refine wpAnyH_take (i := 2) (v := .bool false) rfl (by kernel_rfl) (by kernel_rfl) (by kernel_rfl) (fun _ _ _ h => h) (Or.inl ⟨by kernel_rfl, fun w hSw => by (try dsimp only at hSw); go_simp; all_goals first | omega | exact IntWalk.i64_in _ (by omega)⟩) (by assumption) ?_
    try simp only [Act.put, List.setIfInBounds_toArray]
    refine wpAnyH_take (i := 3) (v := undef) rfl (by kernel_rfl) (by kernel_rfl) (by kernel_rfl) (fun _ _ _ h => h) (Or.inr ⟨by kernel_rfl, rfl⟩) (by assumption) ?_
    try simp only [Act.put]
    refine wpAnyH_take (i := 4) (v := undef) rfl (by kernel_rfl) (by kernel_rfl) (by kernel_rfl) (fun _ _ _ h => h) (Or.inr ⟨by kernel_rfl, rfl⟩) (by assumption) ?_
    try simp only [Act.put]
    refine wpAnyH_take (i := 5) (v := undef) rfl (by kernel_rfl) (by kernel_rfl) (by kernel_rfl) (fun _ _ _ h => h) (Or.inr ⟨by kernel_rfl, rfl⟩) (by assumption) ?_
    try simp only [Act.put]
    refine wpAnyH_take (i := 6) (v := undef) rfl (by kernel_rfl) (by kernel_rfl) (by kernel_rfl) (fun _ _ _ h => h) (Or.inr ⟨by kernel_rfl, rfl⟩) (by assumption) ?_
    try simp only [Act.put]
    refine wpAnyH_take (i := 7) (v := undef) rfl (by kernel_rfl) (by kernel_rfl) (by kernel_rfl) (fun _ _ _ h => h) (Or.inr ⟨by kernel_rfl, rfl⟩) (by assumption) ?_
    try simp only [Act.put]
    refine wpAnyH_take (i := 8) (v := undef) rfl (by kernel_rfl) (by kernel_rfl) (by kernel_rfl) (fun _ _ _ h => h) (Or.inr ⟨by kernel_rfl, rfl⟩) (by assumption) ?_
    try simp only [Act.put]
    refine wpAnyH_take (i := 9) (v := .bool false) rfl (by kernel_rfl) (by kernel_rfl) (by kernel_rfl) (fun _ _ _ h => h) (Or.inl ⟨by kernel_rfl, fun w hSw => by (try dsimp only at hSw); go_simp; all_goals first | omega | exact IntWalk.i64_in _ (by omega)⟩) (by assumption) ?_
    try simp only [Act.put]
    refine wpAnyH_take (i := 10) (v := .bool false) rfl (by kernel_rfl) (by kernel_rfl) (by kernel_rfl) (fun _ _ _ h => h) (Or.inl ⟨by kernel_rfl, fun w hSw => by (try dsimp only at hSw); go_simp; all_goals first | omega | exact IntWalk.i64_in _ (by omega)⟩) (by assumption) ?_
    try simp only [Act.put]
    refine wpAnyH_done (by kernel_rfl) ?_ _
    go_wp2_with fail
    go_ret
    rename_i e8 x8 y8 e7
    simp at e8 e7
    subst e8 e7
    exact ⟨by rw [HRV.out]; rfl, HWE.out⟩
  | true =>
    have hrv2 : rv = decide (r = (l.length : Int)) := by rw [← hrv, hg]; simp
    rw [hg] at HRG
    have HRG2 := Lib.hid HRG
    clear hrv hg HRG
    by_cases he : r = (l.length : Int)
    · have HRV := Lib.hid (show rv = true from by rw [hrv2]; exact decide_eq_true he)
      have e1 : (r == (l.length : Int)) = true := by simpa using he
      have e2 : ((l.length : Int) == r) = true := by simpa using he.symm
      clear hrv2
      have W0 := Lib.hid (Below.refl w.heap.size w)
      have HB_0 := Lib.hid (bars_in hl)
      clear hl
      have Z1 := Lib.hid (within_alloc w (.cells #[.int .i64 p, (.slice A l.length cap)] 26)).size
      have W1 := Lib.hid (within_on W0.out (within_alloc w (.cells #[.int .i64 p, (.slice A l.length cap)] 26)) W0.out.size (.inr (Nat.le_refl _)))
      have HB_1 := Lib.hid (HB_0.out.within (within_alloc w (.cells #[.int .i64 p, (.slice A l.length cap)] 26)) (by omega))
      have Y1 := Lib.hid (show (w.alloc (.cells #[.int .i64 p, (.slice A l.length cap)] 26)).heap.size = w.heap.size + 1 by simp)
      have hnew := box_new w p (.slice A l.length cap) 26
      have BX_1 := Lib.hid hnew
      clear hnew
      go_enter Try.func163, Try.ntmps163
      obtain ⟨g0_0, g0_1, g0_2⟩ := BX_1.out
      have hdr : Below (w.alloc (.cells #[.int .i64 p, (.slice A l.length cap)] 26)).heap.size (w.alloc (.cells #[.int .i64 p, (.slice A l.length cap)] 26)) (w.alloc (.cells #[.int .i64 p, (.slice A l.length cap)] 26)).drew := (Below.refl _ _).drew
      have HBD := Lib.hid (HB_1.out.within (within_of hdr) (.inr (Nat.zero_le _)))
      have HKK := Lib.hid (BX_1.out.kept hdr)
      have HWD := Lib.hid (below_on W1.out hdr W1.out.size)
      clear hdr
      go_wp2_with fail
      go_region_held3 (fun W' => W'.cell? ⟨w.heap.size, 0, none⟩ = some (.int .i64 p) ∧ W'.cell? ⟨w.heap.size, 1, none⟩ = some (.slice A l.length cap))
        (first | exact ⟨HKK.out.2.1, HKK.out.2.2⟩ | exact ⟨HK3.out.2.1, HK3.out.2.2⟩ | exact ⟨HK2.out.2.1, HK2.out.2.2⟩ | fail)
        (first
          | (go_at_call 203; refine (HRG2.out _ HBD.out.at).mono ?_; rintro e w5 ⟨rfl, hb⟩; have HK2 := Lib.hid (HKK.out.kept hb); have HB2 := Lib.hid (HBD.out.within (within_of hb) (.inr (Nat.zero_le _))); have HWE := Lib.hid (below_on HWD.out hb HWD.out.size); clear hb)
          | (go_at_call 46; refine (HRK2.out _ HB2.out.at).mono ?_; rintro e w6 ⟨rfl, hb⟩; have HK3 := Lib.hid (HK2.out.kept hb); have HWF := Lib.hid (below_on HWE.out hb HWE.out.size); clear hb))
      all_goals
        go_wp2_with fail
        go_ret
        exact ⟨by rw [HRV.out]; first | rfl | simp, HWF.out⟩
    · have HRV := Lib.hid (show rv = false from by rw [hrv2]; exact decide_eq_false he)
      have e1 : (r == (l.length : Int)) = false := by simpa using he
      have e2 : ((l.length : Int) == r) = false := by simpa using fun h => he h.symm
      clear hrv2
      have W0 := Lib.hid (Below.refl w.heap.size w)
      have HB_0 := Lib.hid (bars_in hl)
      clear hl
      have Z1 := Lib.hid (within_alloc w (.cells #[.int .i64 p, (.slice A l.length cap)] 26)).size
      have W1 := Lib.hid (within_on W0.out (within_alloc w (.cells #[.int .i64 p, (.slice A l.length cap)] 26)) W0.out.size (.inr (Nat.le_refl _)))
      have HB_1 := Lib.hid (HB_0.out.within (within_alloc w (.cells #[.int .i64 p, (.slice A l.length cap)] 26)) (by omega))
      have Y1 := Lib.hid (show (w.alloc (.cells #[.int .i64 p, (.slice A l.length cap)] 26)).heap.size = w.heap.size + 1 by simp)
      have hnew := box_new w p (.slice A l.length cap) 26
      have BX_1 := Lib.hid hnew
      clear hnew
      go_enter Try.func163, Try.ntmps163
      obtain ⟨g0_0, g0_1, g0_2⟩ := BX_1.out
      have hdr : Below (w.alloc (.cells #[.int .i64 p, (.slice A l.length cap)] 26)).heap.size (w.alloc (.cells #[.int .i64 p, (.slice A l.length cap)] 26)) (w.alloc (.cells #[.int .i64 p, (.slice A l.length cap)] 26)).drew := (Below.refl _ _).drew
      have HBD := Lib.hid (HB_1.out.within (within_of hdr) (.inr (Nat.zero_le _)))
      have HKK := Lib.hid (BX_1.out.kept hdr)
      have HWD := Lib.hid (below_on W1.out hdr W1.out.size)
      clear hdr
      go_wp2_with fail
      go_region_held3 (fun W' => W'.cell? ⟨w.heap.size, 0, none⟩ = some (.int .i64 p) ∧ W'.cell? ⟨w.heap.size, 1, none⟩ = some (.slice A l.length cap))
        (first | exact ⟨HKK.out.2.1, HKK.out.2.2⟩ | exact ⟨HK3.out.2.1, HK3.out.2.2⟩ | exact ⟨HK2.out.2.1, HK2.out.2.2⟩ | fail)
        (first
          | (go_at_call 203; refine (HRG2.out _ HBD.out.at).mono ?_; rintro e w5 ⟨rfl, hb⟩; have HK2 := Lib.hid (HKK.out.kept hb); have HB2 := Lib.hid (HBD.out.within (within_of hb) (.inr (Nat.zero_le _))); have HWE := Lib.hid (below_on HWD.out hb HWD.out.size); clear hb)
          | (go_at_call 46; refine (HRK2.out _ HB2.out.at).mono ?_; rintro e w6 ⟨rfl, hb⟩; have HK3 := Lib.hid (HK2.out.kept hb); have HWF := Lib.hid (below_on HWE.out hb HWE.out.size); clear hb))
      all_goals
        go_wp2_with fail
        go_ret
        exact ⟨by rw [HRV.out]; first | rfl | simp, HWF.out⟩
end Go.Proofs.Ytdkpmaahinbhlaa
