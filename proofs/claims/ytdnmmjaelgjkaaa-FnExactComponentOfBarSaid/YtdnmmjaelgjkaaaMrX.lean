/- Several texts in one, in the order in which they build on each other: what stands on the way to the law; each names its own matter. No condition. -/
import Derived.Test.YtdnmmjaelgjkaaaMrA
import Derived.Test.YtdnmmjaelgjkaaaIsGraphI
import Derived.Deep.RegionHeld3
import Derived.Test.YtdnmmjaelgjkaaaState
import Derived.Test.YtdnmmjaelgjkaaaSetM
import Derived.Test.YtdnmmjaelgjkaaaPebN
import Derived.Test.YtdnmmjaelgjkaaaRowAt
import Derived.Test.YtdnmmjaelgjkaaaGMath
import Derived.Test.YtdnmmjaelgjkaaaInts
import Derived.Deep.AppendLies
import Derived.Deep.RegionLaw
import Derived.Test.YtdnmmjaelgjkaaaRunM
import Derived.Deep.RegionWith
import Derived.Lib.SliceRun
import Derived.StillTailTactics
import Derived.Test.YtdnmmjaelgjkaaaBox
import Derived.Test.YtdnmmjaelgjkaaaIntsO
import Derived.BigQuiet
import Derived.Test.YtdnmmjaelgjkaaaOwnF
/- What impl.FreedomOf, impl.IsRigid and impl.IsMinimallyRigid answer. No condition. -/
namespace Go.Proofs.Ytdnmmjaelgjkaaa
open Go.RowKit

set_option maxHeartbeats 4000000 in
set_option maxRecDepth 100000 in
theorem implFrd (p : Int) (l : List (Int × Int)) (A : Option Addr) (cap : Nat) (w : World) (hl : BarsAt w w.heap.size A l) (hn : l.length ≤ 1048576) :
    Calls Try.prog 34 #[.agg #[.int .i64 p, .slice A l.length cap]] w fun e w' => e = .returned (.int .i64 (frdV p l)) ∧ Below w.heap.size w w' := by
  have HISG : ∀ W : World, BarsAt W W.heap.size A l → Calls Try.prog 88 #[.agg #[.int .i64 p, .slice A l.length cap]] W fun e w' => e = .returned (.bool (isGB p l)) ∧ Below W.heap.size W w' := fun W h => implIsGraph p l A cap W h hn
  obtain ⟨rv, hrv⟩ : ∃ rv, frdV p l = rv := ⟨_, rfl⟩
  rw [hrv]
  unfold frdV at hrv
  cases hg : isGB p l with
  | false =>
    have HRV := Lib.hid (show rv = -1 from by rw [← hrv, hg]; rfl)
    clear hrv
    rw [hg] at HISG
    clear hg
    have W0 := Lib.hid (Below.refl w.heap.size w)
    have HB_0 := Lib.hid (bars_in hl)
    clear hl
    have Z1 := Lib.hid (within_alloc w (.cells #[.int .i64 p, (.slice A l.length cap)] 29)).size
    have W1 := Lib.hid (within_on W0.out (within_alloc w (.cells #[.int .i64 p, (.slice A l.length cap)] 29)) W0.out.size (.inr (Nat.le_refl _)))
    have HB_1 := Lib.hid (HB_0.out.within (within_alloc w (.cells #[.int .i64 p, (.slice A l.length cap)] 29)) (by omega))
    have Y1 := Lib.hid (show (w.alloc (.cells #[.int .i64 p, (.slice A l.length cap)] 29)).heap.size = w.heap.size + 1 by simp)
    have hnew := box_new w p (.slice A l.length cap) 29
    have BX_1 := Lib.hid hnew
    clear hnew
    go_enter Try.func34, Try.ntmps34
    obtain ⟨g0_0, g0_1, g0_2⟩ := BX_1.out
    go_wp2_with fail
    clear g0_0 g0_1 g0_2
    generalize (w.alloc (.cells #[.int .i64 p, (.slice A l.length cap)] 29)) = w1 at *
    refine (HISG _ HB_1.out.at).mono ?_
    rintro e w2 ⟨rfl, hb⟩
    have Z2 := Lib.hid (within_of hb).size
    have W2 := Lib.hid (within_on W1.out (within_of hb) W1.out.size (.inr (Nat.le_refl _)))
    have HB_2 := Lib.hid (HB_1.out.within (within_of hb) (by omega))
    have BX_2 := Lib.hid (BX_1.out.within (within_of hb) (by omega))
    clear hb
    go_wp2_with fail
    go_ret
    exact ⟨by rw [HRV.out]; rfl, W2.out⟩
  | true =>
    have hp : 1 ≤ p ∧ p ≤ 8 := (show IsG p l from Classical.byContradiction fun g => by rw [isGB_no g] at hg; cases hg).1
    have hri := rankV_in p 2 3 l
    have HRK : ∀ W : World, BarsAt W W.heap.size A l → Calls Try.prog 46 #[.agg #[.int .i64 p, .slice A l.length cap], .int .i64 2, .int .i64 3] W fun e w' => e = .returned (.int .i64 (rankV p 2 3 l)) ∧ Below W.heap.size W w' := fun W h => implRank p 2 3 l A cap W h hn
    have hrv2 : rv = fullV p - rankV p 2 3 l := by rw [← hrv, hg]; rfl
    obtain ⟨r, hr⟩ : ∃ r, rankV p 2 3 l = r := ⟨_, rfl⟩
    rw [hr] at hri HRK hrv2
    have HRK2 := Lib.hid HRK
    rw [hg] at HISG
    clear hrv hg hr HRK
    by_cases hp1 : p = 1
    · have HRV := Lib.hid (show rv = - r from by rw [hrv2]; unfold fullV; rw [if_pos (by omega)]; omega)
      have m1 : 2 * p - 3 ≤ 0 := by omega
      have m2 : 2 * p - 3 < 0 := by omega
      have hwr : IntKind.i64.wrap (-r) = -r := IntWalk.i64_in _ (by omega)
      clear hrv2 hp1
      have W0 := Lib.hid (Below.refl w.heap.size w)
      have HB_0 := Lib.hid (bars_in hl)
      clear hl
      have Z1 := Lib.hid (within_alloc w (.cells #[.int .i64 p, (.slice A l.length cap)] 29)).size
      have W1 := Lib.hid (within_on W0.out (within_alloc w (.cells #[.int .i64 p, (.slice A l.length cap)] 29)) W0.out.size (.inr (Nat.le_refl _)))
      have HB_1 := Lib.hid (HB_0.out.within (within_alloc w (.cells #[.int .i64 p, (.slice A l.length cap)] 29)) (by omega))
      have Y1 := Lib.hid (show (w.alloc (.cells #[.int .i64 p, (.slice A l.length cap)] 29)).heap.size = w.heap.size + 1 by simp)
      have hnew := box_new w p (.slice A l.length cap) 29
      have BX_1 := Lib.hid hnew
      clear hnew
      go_enter Try.func34, Try.ntmps34
      obtain ⟨g0_0, g0_1, g0_2⟩ := BX_1.out
      go_wp2_with fail
      clear g0_0 g0_1 g0_2
      generalize (w.alloc (.cells #[.int .i64 p, (.slice A l.length cap)] 29)) = w1 at *
      refine (HISG _ HB_1.out.at).mono ?_
      rintro e w2 ⟨rfl, hb⟩
      have Z2 := Lib.hid (within_of hb).size
      have W2 := Lib.hid (within_on W1.out (within_of hb) W1.out.size (.inr (Nat.le_refl _)))
      have HB_2 := Lib.hid (HB_1.out.within (within_of hb) (by omega))
      have BX_2 := Lib.hid (BX_1.out.within (within_of hb) (by omega))
      clear hb HISG
      have hdr : Below w2.heap.size w2 w2.drew := (Below.refl _ _).drew
      have HBD := Lib.hid (HB_2.out.within (within_of hdr) (.inr (Nat.zero_le _)))
      have HKK := Lib.hid (BX_2.out.kept hdr)
      have HWD := Lib.hid (below_on W2.out hdr W2.out.size)
      clear hdr
      obtain ⟨_, g1, g2⟩ := BX_2.out
      go_wp2_with fail
      refine wp_region_held_drew (S := (fun W' => W'.cell? ⟨w.heap.size, 0, none⟩ = some (.int .i64 p) ∧ W'.cell? ⟨w.heap.size, 1, none⟩ = some (.slice A l.length cap))) (by kernel_rfl) ?_ (fun hHeld => ?_)
      · exact ⟨HKK.out.2.1, HKK.out.2.2⟩
      refine wpAnyH_take (i := 0) (v := .pointer (some ⟨w.heap.size, 0, none⟩)) rfl (by kernel_rfl) (by kernel_rfl) (by kernel_rfl) (fun _ _ _ h => h) (Or.inl ⟨by kernel_rfl, fun w hSw => by (try dsimp only at hSw); go_simp; all_goals first | omega | exact IntWalk.i64_in _ (by omega)⟩) (by assumption) ?_
      try simp only [Act.put, List.setIfInBounds_toArray]
      refine wpAnyH_take (i := 1) (v := .int .i64 p) rfl (by kernel_rfl) (by kernel_rfl) (by kernel_rfl) (fun _ _ _ h => h) (Or.inl ⟨by kernel_rfl, fun w hSw => by (try dsimp only at hSw); go_simp; all_goals first | omega | exact IntWalk.i64_in _ (by omega)⟩) (by assumption) ?_
      try simp only [Act.put]
      refine wpAnyH_take (i := 2) (v := .int .i64 (2 * p)) rfl (by kernel_rfl) (by kernel_rfl) (by kernel_rfl) (fun _ _ _ h => h) (Or.inl ⟨by kernel_rfl, fun w hSw => by (try dsimp only at hSw); go_simp; all_goals first | omega | exact IntWalk.i64_in _ (by omega)⟩) (by assumption) ?_
      try simp only [Act.put]
      refine wpAnyH_take (i := 3) (v := .int .i64 (2 * p - 3)) rfl (by kernel_rfl) (by kernel_rfl) (by kernel_rfl) (fun _ _ _ h => h) (Or.inl ⟨by kernel_rfl, fun w hSw => by (try dsimp only at hSw); go_simp; all_goals first | omega | exact IntWalk.i64_in _ (by omega)⟩) (by assumption) ?_
      try simp only [Act.put]
      refine wpAnyH_take (i := 4) (v := .int .i64 0) rfl (by kernel_rfl) (by kernel_rfl) (by kernel_rfl) (fun _ _ _ h => h) (Or.inl ⟨by kernel_rfl, fun w hSw => by (try dsimp only at hSw); go_simp; all_goals first | omega | exact IntWalk.i64_in _ (by omega)⟩) (by assumption) ?_
      try simp only [Act.put]
      refine wpAnyH_take (i := 5) (v := .agg #[.int .i64 p, .slice A l.length cap]) rfl (by kernel_rfl) (by kernel_rfl) (by kernel_rfl) (fun _ _ _ h => h) (Or.inl ⟨by kernel_rfl, fun w hSw => by (try dsimp only at hSw); go_simp; all_goals first | omega | exact IntWalk.i64_in _ (by omega)⟩) (by assumption) ?_
      try simp only [Act.put]
      refine wpAnyH_ready (rs := [6]) (by kernel_rfl) (by simp) (AllReadyH.cons rfl (fun K hK => ?_) AllReadyH.nil)
      go_simp
      go_at_call 46
      refine (HRK2.out _ HBD.out.at).mono ?_
      rintro e w5 ⟨rfl, hb⟩
      have HK2 := Lib.hid (HKK.out.kept hb)
      have HWE := Lib.hid (below_on HWD.out hb HWD.out.size)
      clear hb
      refine hK.out _ _ ⟨HK2.out.2.1, HK2.out.2.2⟩ (fun hHeld => ?_)
      clear hK K
      try simp only [Act.put, List.setIfInBounds_toArray, List.set_cons_zero, List.set_cons_succ]
      refine wpAnyH_take (i := 7) (v := .int .i64 (-r)) rfl (by kernel_rfl) (by kernel_rfl) (by kernel_rfl) (fun _ _ _ h => h) (Or.inl ⟨by kernel_rfl, fun w hSw => by (try dsimp only at hSw); go_simp; all_goals first | omega | exact IntWalk.i64_in _ (by omega)⟩) (by assumption) ?_
      try simp only [Act.put, List.setIfInBounds_toArray]
      refine wpAnyH_take (i := 8) (v := .int .i64 (-r)) rfl (by kernel_rfl) (by kernel_rfl) (by kernel_rfl) (fun _ _ _ h => h) (Or.inl ⟨by kernel_rfl, fun w hSw => by (try dsimp only at hSw); go_simp; all_goals first | omega | exact IntWalk.i64_in _ (by omega)⟩) (by assumption) ?_
      try simp only [Act.put]
      refine wpAnyH_done (by kernel_rfl) ?_ _
      go_wp2_with fail
      go_ret
      rename_i e8 x8 y8 e7
      simp at e8 e7
      subst e8 e7
      exact ⟨by rw [HRV.out]; rfl, HWE.out⟩
    · have HRV := Lib.hid (show rv = 2 * p - 3 - r from by rw [hrv2]; unfold fullV; rw [if_neg (by omega)])
      have m1 : ¬ 2 * p - 3 ≤ 0 := by omega
      have m2 : ¬ 2 * p - 3 < 0 := by omega
      clear hrv2 hp1
      have W0 := Lib.hid (Below.refl w.heap.size w)
      have HB_0 := Lib.hid (bars_in hl)
      clear hl
      have Z1 := Lib.hid (within_alloc w (.cells #[.int .i64 p, (.slice A l.length cap)] 29)).size
      have W1 := Lib.hid (within_on W0.out (within_alloc w (.cells #[.int .i64 p, (.slice A l.length cap)] 29)) W0.out.size (.inr (Nat.le_refl _)))
      have HB_1 := Lib.hid (HB_0.out.within (within_alloc w (.cells #[.int .i64 p, (.slice A l.length cap)] 29)) (by omega))
      have Y1 := Lib.hid (show (w.alloc (.cells #[.int .i64 p, (.slice A l.length cap)] 29)).heap.size = w.heap.size + 1 by simp)
      have hnew := box_new w p (.slice A l.length cap) 29
      have BX_1 := Lib.hid hnew
      clear hnew
      go_enter Try.func34, Try.ntmps34
      obtain ⟨g0_0, g0_1, g0_2⟩ := BX_1.out
      go_wp2_with fail
      clear g0_0 g0_1 g0_2
      generalize (w.alloc (.cells #[.int .i64 p, (.slice A l.length cap)] 29)) = w1 at *
      refine (HISG _ HB_1.out.at).mono ?_
      rintro e w2 ⟨rfl, hb⟩
      have Z2 := Lib.hid (within_of hb).size
      have W2 := Lib.hid (within_on W1.out (within_of hb) W1.out.size (.inr (Nat.le_refl _)))
      have HB_2 := Lib.hid (HB_1.out.within (within_of hb) (by omega))
      have BX_2 := Lib.hid (BX_1.out.within (within_of hb) (by omega))
      clear hb HISG
      have hdr : Below w2.heap.size w2 w2.drew := (Below.refl _ _).drew
      have HBD := Lib.hid (HB_2.out.within (within_of hdr) (.inr (Nat.zero_le _)))
      have HKK := Lib.hid (BX_2.out.kept hdr)
      have HWD := Lib.hid (below_on W2.out hdr W2.out.size)
      clear hdr
      obtain ⟨_, g1, g2⟩ := BX_2.out
      go_wp2_with fail
      refine wp_region_held_drew (S := (fun W' => W'.cell? ⟨w.heap.size, 0, none⟩ = some (.int .i64 p) ∧ W'.cell? ⟨w.heap.size, 1, none⟩ = some (.slice A l.length cap))) (by kernel_rfl) ?_ (fun hHeld => ?_)
      · exact ⟨HKK.out.2.1, HKK.out.2.2⟩
      refine wpAnyH_take (i := 0) (v := .pointer (some ⟨w.heap.size, 0, none⟩)) rfl (by kernel_rfl) (by kernel_rfl) (by kernel_rfl) (fun _ _ _ h => h) (Or.inl ⟨by kernel_rfl, fun w hSw => by (try dsimp only at hSw); go_simp; all_goals first | omega | exact IntWalk.i64_in _ (by omega)⟩) (by assumption) ?_
      try simp only [Act.put, List.setIfInBounds_toArray]
      refine wpAnyH_take (i := 1) (v := .int .i64 p) rfl (by kernel_rfl) (by kernel_rfl) (by kernel_rfl) (fun _ _ _ h => h) (Or.inl ⟨by kernel_rfl, fun w hSw => by (try dsimp only at hSw); go_simp; all_goals first | omega | exact IntWalk.i64_in _ (by omega)⟩) (by assumption) ?_
      try simp only [Act.put]
      refine wpAnyH_take (i := 2) (v := .int .i64 (2 * p)) rfl (by kernel_rfl) (by kernel_rfl) (by kernel_rfl) (fun _ _ _ h => h) (Or.inl ⟨by kernel_rfl, fun w hSw => by (try dsimp only at hSw); go_simp; all_goals first | omega | exact IntWalk.i64_in _ (by omega)⟩) (by assumption) ?_
      try simp only [Act.put]
      refine wpAnyH_take (i := 3) (v := .int .i64 (2 * p - 3)) rfl (by kernel_rfl) (by kernel_rfl) (by kernel_rfl) (fun _ _ _ h => h) (Or.inl ⟨by kernel_rfl, fun w hSw => by (try dsimp only at hSw); go_simp; all_goals first | omega | exact IntWalk.i64_in _ (by omega)⟩) (by assumption) ?_
      try simp only [Act.put]
      refine wpAnyH_take (i := 4) (v := .int .i64 (2 * p - 3)) rfl (by kernel_rfl) (by kernel_rfl) (by kernel_rfl) (fun _ _ _ h => h) (Or.inl ⟨by kernel_rfl, fun w hSw => by (try dsimp only at hSw); go_simp; all_goals first | omega | exact IntWalk.i64_in _ (by omega)⟩) (by assumption) ?_
      try simp only [Act.put]
      refine wpAnyH_take (i := 5) (v := .agg #[.int .i64 p, .slice A l.length cap]) rfl (by kernel_rfl) (by kernel_rfl) (by kernel_rfl) (fun _ _ _ h => h) (Or.inl ⟨by kernel_rfl, fun w hSw => by (try dsimp only at hSw); go_simp; all_goals first | omega | exact IntWalk.i64_in _ (by omega)⟩) (by assumption) ?_
      try simp only [Act.put]
      refine wpAnyH_ready (rs := [6]) (by kernel_rfl) (by simp) (AllReadyH.cons rfl (fun K hK => ?_) AllReadyH.nil)
      go_simp
      go_at_call 46
      refine (HRK2.out _ HBD.out.at).mono ?_
      rintro e w5 ⟨rfl, hb⟩
      have HK2 := Lib.hid (HKK.out.kept hb)
      have HWE := Lib.hid (below_on HWD.out hb HWD.out.size)
      clear hb
      refine hK.out _ _ ⟨HK2.out.2.1, HK2.out.2.2⟩ (fun hHeld => ?_)
      clear hK K
      try simp only [Act.put, List.setIfInBounds_toArray, List.set_cons_zero, List.set_cons_succ]
      refine wpAnyH_take (i := 7) (v := .int .i64 ((2 * p - 3 - r))) rfl (by kernel_rfl) (by kernel_rfl) (by kernel_rfl) (fun _ _ _ h => h) (Or.inl ⟨by kernel_rfl, fun w hSw => by (try dsimp only at hSw); go_simp; all_goals first | omega | exact IntWalk.i64_in _ (by omega)⟩) (by assumption) ?_
      try simp only [Act.put, List.setIfInBounds_toArray]
      refine wpAnyH_take (i := 8) (v := .int .i64 ((2 * p - 3 - r))) rfl (by kernel_rfl) (by kernel_rfl) (by kernel_rfl) (fun _ _ _ h => h) (Or.inl ⟨by kernel_rfl, fun w hSw => by (try dsimp only at hSw); go_simp; all_goals first | omega | exact IntWalk.i64_in _ (by omega)⟩) (by assumption) ?_
      try simp only [Act.put]
      refine wpAnyH_done (by kernel_rfl) ?_ _
      go_wp2_with fail
      go_ret
      rename_i e8 x8 y8 e7
      simp at e8 e7
      subst e8 e7
      exact ⟨by rw [HRV.out]; rfl, HWE.out⟩

set_option maxHeartbeats 2000000 in
set_option maxRecDepth 100000 in
theorem implRig (p : Int) (l : List (Int × Int)) (A : Option Addr) (cap : Nat) (w : World) (hl : BarsAt w w.heap.size A l) (hn : l.length ≤ 1048576) :
    Calls Try.prog 19 #[.agg #[.int .i64 p, .slice A l.length cap]] w fun e w' => e = .returned (.bool (rigB p l)) ∧ Below w.heap.size w w' := by
  obtain ⟨rv, hrv⟩ : ∃ rv, rigB p l = rv := ⟨_, rfl⟩
  rw [hrv]
  unfold rigB at hrv
  have HFR : ∀ W : World, BarsAt W W.heap.size A l → Calls Try.prog 34 #[.agg #[.int .i64 p, .slice A l.length cap]] W fun e w' => e = .returned (.int .i64 (frdV p l)) ∧ Below W.heap.size W w' := fun W h => implFrd p l A cap W h hn
  obtain ⟨r, hr⟩ : ∃ r, frdV p l = r := ⟨_, rfl⟩
  rw [hr] at hrv HFR
  have HRV := Lib.hid hrv
  clear hr hrv
  have W0 := Lib.hid (Below.refl w.heap.size w)
  have HB_0 := Lib.hid (bars_in hl)
  clear hl
  have Z1 := Lib.hid (within_alloc w (.cells #[.int .i64 p, (.slice A l.length cap)] 29)).size
  have W1 := Lib.hid (within_on W0.out (within_alloc w (.cells #[.int .i64 p, (.slice A l.length cap)] 29)) W0.out.size (.inr (Nat.le_refl _)))
  have HB_1 := Lib.hid (HB_0.out.within (within_alloc w (.cells #[.int .i64 p, (.slice A l.length cap)] 29)) (by omega))
  have Y1 := Lib.hid (show (w.alloc (.cells #[.int .i64 p, (.slice A l.length cap)] 29)).heap.size = w.heap.size + 1 by simp)
  have hnew := box_new w p (.slice A l.length cap) 29
  have BX_1 := Lib.hid hnew
  clear hnew
  go_enter Try.func19, Try.ntmps19
  obtain ⟨g0_0, g0_1, g0_2⟩ := BX_1.out
  go_wp2_with fail
  clear g0_0 g0_1 g0_2
  generalize (w.alloc (.cells #[.int .i64 p, (.slice A l.length cap)] 29)) = w1 at *
  refine (HFR _ HB_1.out.at).mono ?_
  rintro e w2 ⟨rfl, hb⟩
  have Z2 := Lib.hid (within_of hb).size
  have W2 := Lib.hid (within_on W1.out (within_of hb) W1.out.size (.inr (Nat.le_refl _)))
  have HB_2 := Lib.hid (HB_1.out.within (within_of hb) (by omega))
  have BX_2 := Lib.hid (BX_1.out.within (within_of hb) (by omega))
  clear hb
  go_wp2_with fail
  go_ret
  exact ⟨by rw [← HRV.out]; first | rfl | simp, W2.out⟩

set_option maxHeartbeats 4000000 in
set_option maxRecDepth 100000 in
theorem implMin (p : Int) (l : List (Int × Int)) (A : Option Addr) (cap : Nat) (w : World) (hl : BarsAt w w.heap.size A l) (hn : l.length ≤ 1048576) :
    Calls Try.prog 21 #[.agg #[.int .i64 p, .slice A l.length cap]] w fun e w' => e = .returned (.bool (minB p l)) ∧ Below w.heap.size w w' := by
  obtain ⟨rv, hrv⟩ : ∃ rv, minB p l = rv := ⟨_, rfl⟩
  rw [hrv]
  unfold minB at hrv
  have HRG : ∀ W : World, BarsAt W W.heap.size A l → Calls Try.prog 19 #[.agg #[.int .i64 p, .slice A l.length cap]] W fun e w' => e = .returned (.bool (rigB p l)) ∧ Below W.heap.size W w' := fun W h => implRig p l A cap W h hn
  have HRK : ∀ W : World, BarsAt W W.heap.size A l → Calls Try.prog 46 #[.agg #[.int .i64 p, .slice A l.length cap], .int .i64 2, .int .i64 3] W fun e w' => e = .returned (.int .i64 (rankV p 2 3 l)) ∧ Below W.heap.size W w' := fun W h => implRank p 2 3 l A cap W h hn
  obtain ⟨r, hr⟩ : ∃ r, rankV p 2 3 l = r := ⟨_, rfl⟩
  rw [hr] at hrv HRK
  clear hr
  have HRK2 := Lib.hid HRK
  clear HRK
  cases hg : rigB p l with
  | false =>
    have HRV := Lib.hid (show rv = false from by rw [← hrv, hg]; rfl)
    rw [hg] at HRG
    have HRG2 := Lib.hid HRG
    clear hrv hg HRG
    have W0 := Lib.hid (Below.refl w.heap.size w)
    have HB_0 := Lib.hid (bars_in hl)
    clear hl
    have Z1 := Lib.hid (within_alloc w (.cells #[.int .i64 p, (.slice A l.length cap)] 29)).size
    have W1 := Lib.hid (within_on W0.out (within_alloc w (.cells #[.int .i64 p, (.slice A l.length cap)] 29)) W0.out.size (.inr (Nat.le_refl _)))
    have HB_1 := Lib.hid (HB_0.out.within (within_alloc w (.cells #[.int .i64 p, (.slice A l.length cap)] 29)) (by omega))
    have Y1 := Lib.hid (show (w.alloc (.cells #[.int .i64 p, (.slice A l.length cap)] 29)).heap.size = w.heap.size + 1 by simp)
    have hnew := box_new w p (.slice A l.length cap) 29
    have BX_1 := Lib.hid hnew
    clear hnew
    go_enter Try.func21, Try.ntmps21
    obtain ⟨g0_0, g0_1, g0_2⟩ := BX_1.out
    have hdr : Below (w.alloc (.cells #[.int .i64 p, (.slice A l.length cap)] 29)).heap.size (w.alloc (.cells #[.int .i64 p, (.slice A l.length cap)] 29)) (w.alloc (.cells #[.int .i64 p, (.slice A l.length cap)] 29)).drew := (Below.refl _ _).drew
    have HBD := Lib.hid (HB_1.out.within (within_of hdr) (.inr (Nat.zero_le _)))
    have HKK := Lib.hid (BX_1.out.kept hdr)
    have HWD := Lib.hid (below_on W1.out hdr W1.out.size)
    clear hdr
    go_wp2_with fail
    refine wp_region_held_drew (S := (fun W' => W'.cell? ⟨w.heap.size, 0, none⟩ = some (.int .i64 p) ∧ W'.cell? ⟨w.heap.size, 1, none⟩ = some (.slice A l.length cap))) (by kernel_rfl) ?_ (fun hHeld => ?_)
    · exact ⟨HKK.out.2.1, HKK.out.2.2⟩
    refine wpAnyH_take (i := 0) (v := .agg #[.int .i64 p, .slice A l.length cap]) rfl (by kernel_rfl) (by kernel_rfl) (by kernel_rfl) (fun _ _ _ h => h) (Or.inl ⟨by kernel_rfl, fun w hSw => by (try dsimp only at hSw); go_simp; all_goals first | omega | exact IntWalk.i64_in _ (by omega)⟩) (by assumption) ?_
    try simp only [Act.put, List.setIfInBounds_toArray]
    refine wpAnyH_ready (rs := [1]) (by kernel_rfl) (by simp) (AllReadyH.cons rfl (fun K hK => ?_) AllReadyH.nil)
    go_simp
    go_at_call 19
    refine (HRG2.out _ HBD.out.at).mono ?_
    rintro e w5 ⟨rfl, hb⟩
    have HK2 := Lib.hid (HKK.out.kept hb)
    have HWE := Lib.hid (below_on HWD.out hb HWD.out.size)
    clear hb
    refine hK.out _ _ ⟨HK2.out.2.1, HK2.out.2.2⟩ (fun hHeld => ?_)
    clear hK K
    try simp only [Act.put, List.setIfInBounds_toArray, List.set_cons_zero, List.set_cons_succ]
    refine wpAnyH_take (i := 2) (v := .bool false) rfl (by kernel_rfl) (by kernel_rfl) (by kernel_rfl) (fun _ _ _ h => h) (Or.inl ⟨by kernel_rfl, fun w hSw => by (try dsimp only at hSw); go_simp; all_goals first | omega | exact IntWalk.i64_in _ (by omega)⟩) (by assumption) ?_
    try simp only [Act.put, List.setIfInBounds_toArray]
    refine wpAnyH_take (i := 3) (v := undef) rfl (by kernel_rfl) (by kernel_rfl) (by kernel_rfl) (fun _ _ _ h => h) (Or.inr ⟨by kernel_rfl, rfl⟩) (by assumption) ?_
    try simp only [Act.put]
    refine wpAnyH_take (i := 4) (v := undef) rfl (by kernel_rfl) (by kernel_rfl) (by kernel_rfl) (fun _ _ _ h => h) (Or.inr ⟨by kernel_rfl, rfl⟩) (by assumption) ?_
    try simp only [Act.put]
    refine wpAnyH_take (i := 5) (v := undef) rfl (by kernel_rfl) (by kernel_rfl) (by kernel_rfl) (fun _ _ _ h => h) (Or.inr ⟨by kernel_rfl, rfl⟩) (by assumption) ?_
    try simp only [Act.put]
    refine wpAnyH_take (i := 6) (v := undef) rfl (by kernel_rfl) (by kernel_rfl) (by kernel_rfl) (fun _ _ _ h => h) (Or.inr ⟨by kernel_rfl, rfl⟩) (by assumption) ?_
    try simp only [Act.put]
    refine wpAnyH_take (i := 7) (v := undef) rfl (by kernel_rfl) (by kernel_rfl) (by kernel_rfl) (fun _ _ _ h => h) (Or.inr ⟨by kernel_rfl, rfl⟩) (by assumption) ?_
    try simp only [Act.put]
    refine wpAnyH_take (i := 8) (v := undef) rfl (by kernel_rfl) (by kernel_rfl) (by kernel_rfl) (fun _ _ _ h => h) (Or.inr ⟨by kernel_rfl, rfl⟩) (by assumption) ?_
    try simp only [Act.put]
    refine wpAnyH_take (i := 9) (v := .bool false) rfl (by kernel_rfl) (by kernel_rfl) (by kernel_rfl) (fun _ _ _ h => h) (Or.inl ⟨by kernel_rfl, fun w hSw => by (try dsimp only at hSw); go_simp; all_goals first | omega | exact IntWalk.i64_in _ (by omega)⟩) (by assumption) ?_
    try simp only [Act.put]
    refine wpAnyH_take (i := 10) (v := .bool false) rfl (by kernel_rfl) (by kernel_rfl) (by kernel_rfl) (fun _ _ _ h => h) (Or.inl ⟨by kernel_rfl, fun w hSw => by (try dsimp only at hSw); go_simp; all_goals first | omega | exact IntWalk.i64_in _ (by omega)⟩) (by assumption) ?_
    try simp only [Act.put]
    refine wpAnyH_done (by kernel_rfl) ?_ _
    go_wp2_with fail
    go_ret
    rename_i e8 x8 y8 e7
    simp at e8 e7
    subst e8 e7
    exact ⟨by rw [HRV.out]; rfl, HWE.out⟩
  | true =>
    have hrv2 : rv = decide (r = (l.length : Int)) := by rw [← hrv, hg]; simp
    rw [hg] at HRG
    have HRG2 := Lib.hid HRG
    clear hrv hg HRG
    by_cases he : r = (l.length : Int)
    · have HRV := Lib.hid (show rv = true from by rw [hrv2]; exact decide_eq_true he)
      have e1 : (r == (l.length : Int)) = true := by simpa using he
      have e2 : ((l.length : Int) == r) = true := by simpa using he.symm
      clear hrv2
      have W0 := Lib.hid (Below.refl w.heap.size w)
      have HB_0 := Lib.hid (bars_in hl)
      clear hl
      have Z1 := Lib.hid (within_alloc w (.cells #[.int .i64 p, (.slice A l.length cap)] 29)).size
      have W1 := Lib.hid (within_on W0.out (within_alloc w (.cells #[.int .i64 p, (.slice A l.length cap)] 29)) W0.out.size (.inr (Nat.le_refl _)))
      have HB_1 := Lib.hid (HB_0.out.within (within_alloc w (.cells #[.int .i64 p, (.slice A l.length cap)] 29)) (by omega))
      have Y1 := Lib.hid (show (w.alloc (.cells #[.int .i64 p, (.slice A l.length cap)] 29)).heap.size = w.heap.size + 1 by simp)
      have hnew := box_new w p (.slice A l.length cap) 29
      have BX_1 := Lib.hid hnew
      clear hnew
      go_enter Try.func21, Try.ntmps21
      obtain ⟨g0_0, g0_1, g0_2⟩ := BX_1.out
      have hdr : Below (w.alloc (.cells #[.int .i64 p, (.slice A l.length cap)] 29)).heap.size (w.alloc (.cells #[.int .i64 p, (.slice A l.length cap)] 29)) (w.alloc (.cells #[.int .i64 p, (.slice A l.length cap)] 29)).drew := (Below.refl _ _).drew
      have HBD := Lib.hid (HB_1.out.within (within_of hdr) (.inr (Nat.zero_le _)))
      have HKK := Lib.hid (BX_1.out.kept hdr)
      have HWD := Lib.hid (below_on W1.out hdr W1.out.size)
      clear hdr
      go_wp2_with fail
      go_region_held3 (fun W' => W'.cell? ⟨w.heap.size, 0, none⟩ = some (.int .i64 p) ∧ W'.cell? ⟨w.heap.size, 1, none⟩ = some (.slice A l.length cap))
        (first | exact ⟨HKK.out.2.1, HKK.out.2.2⟩ | exact ⟨HK3.out.2.1, HK3.out.2.2⟩ | exact ⟨HK2.out.2.1, HK2.out.2.2⟩ | fail)
        (first
          | (go_at_call 19; refine (HRG2.out _ HBD.out.at).mono ?_; rintro e w5 ⟨rfl, hb⟩; have HK2 := Lib.hid (HKK.out.kept hb); have HB2 := Lib.hid (HBD.out.within (within_of hb) (.inr (Nat.zero_le _))); have HWE := Lib.hid (below_on HWD.out hb HWD.out.size); clear hb)
          | (go_at_call 46; refine (HRK2.out _ HB2.out.at).mono ?_; rintro e w6 ⟨rfl, hb⟩; have HK3 := Lib.hid (HK2.out.kept hb); have HWF := Lib.hid (below_on HWE.out hb HWE.out.size); clear hb))
      all_goals
        go_wp2_with fail
        go_ret
        exact ⟨by rw [HRV.out]; first | rfl | simp, HWF.out⟩
    · have HRV := Lib.hid (show rv = false from by rw [hrv2]; exact decide_eq_false he)
      have e1 : (r == (l.length : Int)) = false := by simpa using he
      have e2 : ((l.length : Int) == r) = false := by simpa using fun h => he h.symm
      clear hrv2
      have W0 := Lib.hid (Below.refl w.heap.size w)
      have HB_0 := Lib.hid (bars_in hl)
      clear hl
      have Z1 := Lib.hid (within_alloc w (.cells #[.int .i64 p, (.slice A l.length cap)] 29)).size
      have W1 := Lib.hid (within_on W0.out (within_alloc w (.cells #[.int .i64 p, (.slice A l.length cap)] 29)) W0.out.size (.inr (Nat.le_refl _)))
      have HB_1 := Lib.hid (HB_0.out.within (within_alloc w (.cells #[.int .i64 p, (.slice A l.length cap)] 29)) (by omega))
      have Y1 := Lib.hid (show (w.alloc (.cells #[.int .i64 p, (.slice A l.length cap)] 29)).heap.size = w.heap.size + 1 by simp)
      have hnew := box_new w p (.slice A l.length cap) 29
      have BX_1 := Lib.hid hnew
      clear hnew
      go_enter Try.func21, Try.ntmps21
      obtain ⟨g0_0, g0_1, g0_2⟩ := BX_1.out
      have hdr : Below (w.alloc (.cells #[.int .i64 p, (.slice A l.length cap)] 29)).heap.size (w.alloc (.cells #[.int .i64 p, (.slice A l.length cap)] 29)) (w.alloc (.cells #[.int .i64 p, (.slice A l.length cap)] 29)).drew := (Below.refl _ _).drew
      have HBD := Lib.hid (HB_1.out.within (within_of hdr) (.inr (Nat.zero_le _)))
      have HKK := Lib.hid (BX_1.out.kept hdr)
      have HWD := Lib.hid (below_on W1.out hdr W1.out.size)
      clear hdr
      go_wp2_with fail
      go_region_held3 (fun W' => W'.cell? ⟨w.heap.size, 0, none⟩ = some (.int .i64 p) ∧ W'.cell? ⟨w.heap.size, 1, none⟩ = some (.slice A l.length cap))
        (first | exact ⟨HKK.out.2.1, HKK.out.2.2⟩ | exact ⟨HK3.out.2.1, HK3.out.2.2⟩ | exact ⟨HK2.out.2.1, HK2.out.2.2⟩ | fail)
        (first
          | (go_at_call 19; refine (HRG2.out _ HBD.out.at).mono ?_; rintro e w5 ⟨rfl, hb⟩; have HK2 := Lib.hid (HKK.out.kept hb); have HB2 := Lib.hid (HBD.out.within (within_of hb) (.inr (Nat.zero_le _))); have HWE := Lib.hid (below_on HWD.out hb HWD.out.size); clear hb)
          | (go_at_call 46; refine (HRK2.out _ HB2.out.at).mono ?_; rintro e w6 ⟨rfl, hb⟩; have HK3 := Lib.hid (HK2.out.kept hb); have HWF := Lib.hid (below_on HWE.out hb HWE.out.size); clear hb))
      all_goals
        go_wp2_with fail
        go_ret
        exact ⟨by rw [HRV.out]; first | rfl | simp, HWF.out⟩
end Go.Proofs.Ytdnmmjaelgjkaaa
/- The law FnExactFreedomOf returns true at every input. No condition. -/
namespace Go.Proofs.Ytdnmmjaelgjkaaa
open Go.RowKit

set_option maxHeartbeats 2000000 in
set_option maxRecDepth 100000 in
theorem lawFreedomOf (q : Int) (A : Option Addr) (cap : Nat) (l : List (Int × Int)) (w : World) (hl : l.length ≤ maxLen) (hb : BarsAt w w.heap.size A l) :
    Calls Try.prog 8 #[.agg #[.int .i64 q, .slice A l.length cap]] w fun e w' => e = .returned (.bool true) ∧ Below w.heap.size w w' := by
  have HB_0 := Lib.hid (bars_in hb)
  clear hb
  by_cases hn : l.length ≤ 1048576
  · have W0 := Lib.hid (Below.refl w.heap.size w)
    have hal := new_below w (.cells #[.int .i64 q, .slice A l.length cap] 24)
    have Z1 := Lib.hid (within_of hal).size
    have W1 := Lib.hid (within_on W0.out (within_of hal) W0.out.size (.inr (Nat.le_refl _)))
    have HB_1 := Lib.hid (HB_0.out.within (within_of hal) (by omega))
    clear hal
    have hsz : (w.alloc (.cells #[.int .i64 q, .slice A l.length cap] 24)).heap.size = w.heap.size + 1 := by simp
    have Y1 := Lib.hid hsz
    clear hsz
    have BX_1 := Lib.hid (box_new w q (.slice A l.length cap) 24)
    go_enter Try.func8, Try.ntmps8
    go_wp2_with fail
    generalize (w.alloc (.cells #[.int .i64 q, .slice A l.length cap] 24)) = w1 at *
    refine (szGraph_c q A l.length cap 1048576 _ (by omega) (by omega)).mono ?_
    rintro e w2 ⟨rfl, hb⟩
    have Z2 := Lib.hid (within_of hb).size
    have W2 := Lib.hid (within_on W1.out (within_of hb) W1.out.size (.inr (Nat.le_refl _)))
    have HB_2 := Lib.hid (HB_1.out.within (within_of hb) (by omega))
    have BX_2 := Lib.hid (BX_1.out.within (within_of hb) (by omega))
    clear hb
    have hnn : ¬ (1048576 : Int) - (l.length : Int) < 0 := by omega
    obtain ⟨g01, g02, g03⟩ := BX_2.out
    go_wp2_with fail
    clear g01 g02 g03
    refine (toGraph_c q l A cap _ HB_2.out.at hn).mono ?_
    rintro e w3 ⟨g0, rfl, ho, hb⟩
    have Z3 := Lib.hid (within_of hb).size
    have W3 := Lib.hid (within_on W2.out (within_of hb) W2.out.size (.inr (Nat.le_refl _)))
    have HB_3 := Lib.hid (HB_2.out.within (within_of hb) (by omega))
    have BX_3 := Lib.hid (BX_2.out.within (within_of hb) (by omega))
    have SG_3 := Lib.hid ((own_in ho).bars)
    clear ho hb
    go_wp2_with fail
    refine (specFrd q l (some ⟨g0, 0, none⟩) l.length _ SG_3.out.at hn).mono ?_
    rintro e w4 ⟨rfl, hb⟩
    have Z4 := Lib.hid (within_of hb).size
    have W4 := Lib.hid (within_on W3.out (within_of hb) W3.out.size (.inr (Nat.le_refl _)))
    have HB_4 := Lib.hid (HB_3.out.within (within_of hb) (by omega))
    have BX_4 := Lib.hid (BX_3.out.within (within_of hb) (by omega))
    have SG_4 := Lib.hid (SG_3.out.within (within_of hb) (by omega))
    clear hb
    obtain ⟨g01, g02, g03⟩ := BX_4.out
    go_wp2_with fail
    clear g01 g02 g03
    refine (toGraph_c q l A cap _ HB_4.out.at hn).mono ?_
    rintro e w5 ⟨x0, rfl, ho, hb⟩
    have Z5 := Lib.hid (within_of hb).size
    have W5 := Lib.hid (within_on W4.out (within_of hb) W4.out.size (.inr (Nat.le_refl _)))
    have HB_5 := Lib.hid (HB_4.out.within (within_of hb) (by omega))
    have BX_5 := Lib.hid (BX_4.out.within (within_of hb) (by omega))
    have SG_5 := Lib.hid (SG_4.out.within (within_of hb) (by omega))
    have SX_5 := Lib.hid (own_in ho)
    clear ho hb
    go_wp2_with fail
    have hal := new_below w5 (.cells #[.int .i64 q, .slice (some ⟨x0, 0, none⟩) l.length l.length] 29)
    have Z6 := Lib.hid (within_of hal).size
    have W6 := Lib.hid (within_on W5.out (within_of hal) W5.out.size (.inr (Nat.le_refl _)))
    have HB_6 := Lib.hid (HB_5.out.within (within_of hal) (by omega))
    have BX_6 := Lib.hid (BX_5.out.within (within_of hal) (by omega))
    have SG_6 := Lib.hid (SG_5.out.within (within_of hal) (by omega))
    have SX_6 := Lib.hid (SX_5.out.within (within_of hal) (by omega))
    clear hal
    have hsz : (w5.alloc (.cells #[.int .i64 q, .slice (some ⟨x0, 0, none⟩) l.length l.length] 29)).heap.size = w5.heap.size + 1 := by simp
    have Y6 := Lib.hid hsz
    clear hsz
    have XX_6 := Lib.hid (box_new w5 q (.slice (some ⟨x0, 0, none⟩) l.length l.length) 29)
    generalize (w5.alloc (.cells #[.int .i64 q, .slice (some ⟨x0, 0, none⟩) l.length l.length] 29)) = w6 at *
    refine (implFrd q l (some ⟨x0, 0, none⟩) l.length _ SX_6.out.bars.at hn).mono ?_
    rintro e w7 ⟨rfl, hb⟩
    have Z7 := Lib.hid (within_of hb).size
    have W7 := Lib.hid (within_on W6.out (within_of hb) W6.out.size (.inr (Nat.le_refl _)))
    have HB_7 := Lib.hid (HB_6.out.within (within_of hb) (by omega))
    have BX_7 := Lib.hid (BX_6.out.within (within_of hb) (by omega))
    have SG_7 := Lib.hid (SG_6.out.within (within_of hb) (by omega))
    have SX_7 := Lib.hid (SX_6.out.within (within_of hb) (by omega))
    have XX_7 := Lib.hid (XX_6.out.within (within_of hb) (by omega))
    clear hb
    have kk0 := box2 BX_7.out XX_7.out
    have kk := box2 BX_7.out XX_7.out
    have hdr : Below w7.heap.size w7 w7.drew := (Below.refl _ _).drew
    have Z8 := Lib.hid (within_of hdr).size
    have W8 := Lib.hid (within_on W7.out (within_of hdr) W7.out.size (.inr (Nat.le_refl _)))
    have HB_8 := Lib.hid (HB_7.out.within (within_of hdr) (by omega))
    have BX_8 := Lib.hid (BX_7.out.within (within_of hdr) (by omega))
    have SG_8 := Lib.hid (SG_7.out.within (within_of hdr) (by omega))
    have SX_8 := Lib.hid (SX_7.out.within (within_of hdr) (by omega))
    have XX_8 := Lib.hid (XX_7.out.within (within_of hdr) (by omega))
    clear hdr
    go_wp2_with fail
    go_region_held3 (fun W' => W'.cell? ⟨w.heap.size, 0, none⟩ = some (.int .i64 q) ∧ W'.cell? ⟨w.heap.size, 1, none⟩ = some ((.slice A l.length cap)) ∧ W'.cell? ⟨w5.heap.size, 0, none⟩ = some (.int .i64 q) ∧ W'.cell? ⟨w5.heap.size, 1, none⟩ = some ((.slice (some ⟨x0, 0, none⟩) l.length l.length)))
      (first | exact kk | exact box2 BX_9.out XX_9.out | exact box2 BX_10.out XX_10.out | fail)
      (first
        | (go_at_call 15; refine (toGraph_c q l A cap _ ?_ hn).mono ?_; (exact HB_8.out.at); rintro e w9 ⟨y0, rfl, ho, hb⟩; have Z9 := Lib.hid (within_of hb).size; have W9 := Lib.hid (within_on W8.out (within_of hb) W8.out.size (.inr (Nat.le_refl _))); have HB_9 := Lib.hid (HB_8.out.within (within_of hb) (by omega)); have BX_9 := Lib.hid (BX_8.out.within (within_of hb) (by omega)); have SG_9 := Lib.hid (SG_8.out.within (within_of hb) (by omega)); have SX_9 := Lib.hid (SX_8.out.within (within_of hb) (by omega)); have XX_9 := Lib.hid (XX_8.out.within (within_of hb) (by omega)); have YY := Lib.hid (own_bars ho); clear ho hb)
        | (go_at_call 17; refine (eqGraph_c q l _ _ l.length l.length _ ?_ ?_ hn).mono ?_; (exact SX_9.out.bars.at); (exact YY.out); rintro e w10 ⟨rfl, hb⟩; have Z10 := Lib.hid (within_of hb).size; have W10 := Lib.hid (within_on W9.out (within_of hb) W9.out.size (.inr (Nat.le_refl _))); have HB_10 := Lib.hid (HB_9.out.within (within_of hb) (by omega)); have BX_10 := Lib.hid (BX_9.out.within (within_of hb) (by omega)); have SG_10 := Lib.hid (SG_9.out.within (within_of hb) (by omega)); have SX_10 := Lib.hid (SX_9.out.within (within_of hb) (by omega)); have XX_10 := Lib.hid (XX_9.out.within (within_of hb) (by omega)); clear hb))
    go_wp2_with fail
    go_ret
    exact ⟨rfl, W10.out⟩
  · have hx : (1048576 : Int) < (l.length : Int) := by omega
    have h63 : l.length ≤ 9223372036854775807 := by unfold maxLen at hl; omega
    have HA := Lib.hid (new_below w (.cells #[.int .i64 q, .slice A l.length cap] 24))
    go_enter Try.func8, Try.ntmps8
    go_wp2_with fail
    refine (szGraph_no q A l.length cap 1048576 _ h63 hx (by omega)).mono ?_
    rintro e w1 ⟨rfl, hb1⟩
    have W1 := Lib.hid (below_on HA.out hb1 HA.out.size)
    clear hb1
    go_wp2_with fail
    go_ret
    exact ⟨rfl, W1.out⟩
end Go.Proofs.Ytdnmmjaelgjkaaa
/- Sets of bars that the counts allow: no such set is greater than one that leaves no other bar free (the exchange of one bar for another, by sets of points that are full). Words on numbers and lists, of no program. No condition. -/
namespace Go.Proofs.Ytdnmmjaelgjkaaa

/-- How many points the set m has below P. -/
def wid (P m : Nat) : Nat := (List.range P).countP fun v => m.testBit v
theorem wid_set (P m : Nat) : (setL P m).length = wid P m := outF_count P _
/-- How many bars of S the set m spans. -/
def cI (n : Nat) (x : Nat → Int × Int) (S : Nat → Bool) (m : Nat) : Nat := (List.range n).countP fun i => S i && bothB m (x i)
def szI (n : Nat) (S : Nat → Bool) : Nat := (List.range n).countP S
theorem cntR_add (p q r s : Nat → Bool) : ∀ n, (∀ i, i < n → (if p i then 1 else 0) + (if q i then 1 else 0) = (if r i then 1 else 0) + if s i then 1 else (0 : Nat)) →
    (List.range n).countP p + (List.range n).countP q = (List.range n).countP r + (List.range n).countP s := by
  intro n
  induction n with
  | zero => intro _; rfl
  | succ n ih =>
    intro h
    have h1 := ih fun i hi => h i (by omega)
    have h2 := h n (by omega)
    simp only [List.range_succ, List.countP_append, List.countP_cons, List.countP_nil]
    omega
theorem cntR_le (p q r s : Nat → Bool) : ∀ n, (∀ i, i < n → (if p i then 1 else 0) + (if q i then 1 else 0) ≤ (if r i then 1 else 0) + if s i then 1 else (0 : Nat)) →
    (List.range n).countP p + (List.range n).countP q ≤ (List.range n).countP r + (List.range n).countP s := by
  intro n
  induction n with
  | zero => intro _; exact Nat.le_refl _
  | succ n ih =>
    intro h
    have h1 := ih fun i hi => h i (by omega)
    have h2 := h n (by omega)
    simp only [List.range_succ, List.countP_append, List.countP_cons, List.countP_nil]
    omega
theorem cntR_one (i : Nat) : ∀ n, (List.range n).countP (fun j => decide (j = i)) = if i < n then 1 else 0 := by
  intro n
  induction n with
  | zero => simp
  | succ n ih =>
    rw [List.range_succ, List.countP_append, ih, List.countP_cons, List.countP_nil]
    by_cases h1 : n = i
    · subst h1; simp
    · by_cases h2 : i < n
      · have h3 : i < n + 1 := by omega
        simp [h1, h2, h3]
      · have h3 : ¬ i < n + 1 := by omega
        simp [h1, h2, h3]
theorem cntR_zero (n : Nat) : (List.range n).countP (fun _ => false) = 0 := by simp
theorem wid_or_and (P m m' : Nat) : wid P (m ||| m') + wid P (m &&& m') = wid P m + wid P m' := by
  unfold wid
  refine cntR_add _ _ _ _ P fun i _ => ?_
  rw [Nat.testBit_or, Nat.testBit_and]
  cases m.testBit i <;> cases m'.testBit i <;> rfl
theorem cI_or_and (n : Nat) (x : Nat → Int × Int) (S : Nat → Bool) (m m' : Nat) : cI n x S m + cI n x S m' ≤ cI n x S (m ||| m') + cI n x S (m &&& m') := by
  unfold cI
  refine cntR_le _ _ _ _ n fun i _ => ?_
  unfold bothB
  simp only [Nat.testBit_or, Nat.testBit_and]
  cases S i <;> cases m.testBit (x i).1.toNat <;> cases m'.testBit (x i).1.toNat <;> cases m.testBit (x i).2.toNat <;> cases m'.testBit (x i).2.toNat <;> decide
/-- Two points at least. -/
theorem wid_two {P m a b : Nat} (ha : a < P) (hb : b < P) (hab : a ≠ b) (h1 : m.testBit a = true) (h2 : m.testBit b = true) : 2 ≤ wid P m := by
  have h := cntR_le (fun j => decide (j = a)) (fun j => decide (j = b)) (fun v => m.testBit v) (fun _ => false) P fun i _ => by
    by_cases c1 : i = a
    · subst c1; simp [h1, hab]
    · by_cases c2 : i = b
      · subst c2; simp [h2, c1]
      · simp [c1, c2]
  rw [cntR_one, cntR_one, if_pos ha, if_pos hb, cntR_zero] at h
  exact h
/-- A set within another that has as many points is the same. -/
theorem wid_and_same {P m M : Nat} (h : wid P M ≤ wid P (m &&& M)) {v : Nat} (hv : v < P) (hm : M.testBit v = true) : m.testBit v = true := by
  cases e : m.testBit v with
  | true => rfl
  | false =>
    have h1 := cntR_le (fun j => decide (j = v)) (fun j => (m &&& M).testBit j) (fun v => M.testBit v) (fun _ => false) P fun i _ => by
      by_cases c1 : i = v
      · subst c1; simp [hm, e]
      · simp only [c1, Nat.testBit_and]
        cases m.testBit i <;> cases M.testBit i <;> decide
    rw [cntR_one, if_pos hv, cntR_zero] at h1
    unfold wid at h
    omega
/-- The bars of the ground. -/
structure Grd (P : Nat) (k c : Int) (n : Nat) (x : Nat → Int × Int) : Prop where
  bar : ∀ i, i < n → 0 ≤ (x i).1 ∧ (x i).1 < (x i).2 ∧ (x i).2 < (P : Int)
  k1 : 1 ≤ k
  c0 : 0 ≤ c
  c2 : c < 2 * k
def IndI (P : Nat) (k c : Int) (n : Nat) (x : Nat → Int × Int) (S : Nat → Bool) : Prop := ∀ m, 0 < cI n x S m → (cI n x S m : Int) ≤ k * (wid P m : Int) - c
def TightI (P : Nat) (k c : Int) (n : Nat) (x : Nat → Int × Int) (S : Nat → Bool) (m : Nat) : Prop := (cI n x S m : Int) = k * (wid P m : Int) - c
theorem kw_pos {k c : Int} {w : Nat} (hk : 1 ≤ k) (hc : c < 2 * k) (h : 2 ≤ w) : 0 < k * (w : Int) - c := by
  have : 2 * k ≤ k * (w : Int) := by
    rw [Int.mul_comm 2 k]
    exact Int.mul_le_mul_of_nonneg_left (by omega) (by omega)
  omega
theorem Grd.two {P : Nat} {k c : Int} {n : Nat} {x : Nat → Int × Int} (g : Grd P k c n x) {i : Nat} (hi : i < n) {m : Nat} (h : bothB m (x i) = true) : 2 ≤ wid P m := by
  have hb := g.bar i hi
  unfold bothB at h
  rw [Bool.and_eq_true] at h
  exact wid_two (a := (x i).1.toNat) (b := (x i).2.toNat) (by omega) (by omega) (by omega) h.1 h.2
theorem both_and {m m' : Nat} {y : Int × Int} (h : bothB m y = true) (h' : bothB m' y = true) : bothB (m &&& m') y = true := by
  unfold bothB at *
  rw [Bool.and_eq_true] at *
  rw [Nat.testBit_and, Nat.testBit_and, h.1, h.2, h'.1, h'.2]
  exact ⟨rfl, rfl⟩
theorem both_or {m m' : Nat} {y : Int × Int} (h : bothB m y = true) : bothB (m ||| m') y = true := by
  unfold bothB at *
  rw [Bool.and_eq_true] at *
  rw [Nat.testBit_or, Nat.testBit_or, h.1, h.2]
  exact ⟨rfl, rfl⟩
theorem both_or' {m m' : Nat} {y : Int × Int} (h : bothB m' y = true) : bothB (m ||| m') y = true := by
  rw [Nat.or_comm]
  exact both_or h
theorem uncross {P : Nat} {k c : Int} {n : Nat} {x : Nat → Int × Int} (g : Grd P k c n x) {S : Nat → Bool} (hS : IndI P k c n x S) {m m' : Nat} (h : TightI P k c n x S m) (h' : TightI P k c n x S m') {i : Nat} (hi : i < n) (b : bothB m (x i) = true) (b' : bothB m' (x i) = true) :
    TightI P k c n x S (m ||| m') ∧ TightI P k c n x S (m &&& m') := by
  have h1 := cI_or_and n x S m m'
  have h2 := wid_or_and P m m'
  have q1 := kw_pos g.k1 g.c2 (g.two hi (both_or b (m' := m')))
  have q2 := kw_pos g.k1 g.c2 (g.two hi (both_and b b'))
  have i1 := hS (m ||| m')
  have i2 := hS (m &&& m')
  unfold TightI at *
  have h3 : k * (wid P (m ||| m') : Int) + k * (wid P (m &&& m') : Int) = k * (wid P m : Int) + k * (wid P m' : Int) := by
    rw [← Int.mul_add, ← Int.mul_add]
    congr 1
    omega
  generalize k * (wid P (m ||| m') : Int) = u1 at *
  generalize k * (wid P (m &&& m') : Int) = u2 at *
  generalize k * (wid P m : Int) = u3 at *
  generalize k * (wid P m' : Int) = u4 at *
  have j1 : (cI n x S (m ||| m') : Int) ≤ u1 - c := by
    by_cases z : 0 < cI n x S (m ||| m')
    · exact i1 z
    · omega
  have j2 : (cI n x S (m &&& m') : Int) ≤ u2 - c := by
    by_cases z : 0 < cI n x S (m &&& m')
    · exact i2 z
    · omega
  omega
/-- A bar that can't be had beside I: it is there, or a tight set holds both its ends. -/
def BlockI (P : Nat) (k c : Int) (n : Nat) (x : Nat → Int × Int) (I : Nat → Bool) (j : Nat) : Prop := I j = true ∨ ∃ m, TightI P k c n x I m ∧ bothB m (x j) = true
theorem least_tight {P : Nat} {k c : Int} {n : Nat} {x : Nat → Int × Int} {I : Nat → Bool} {j : Nat} : ∀ d m, wid P m ≤ d → TightI P k c n x I m → bothB m (x j) = true →
    ∃ M, TightI P k c n x I M ∧ bothB M (x j) = true ∧ ∀ m', TightI P k c n x I m' → bothB m' (x j) = true → wid P M ≤ wid P m' := by
  intro d
  induction d with
  | zero => intro m hd h b; exact ⟨m, h, b, fun m' _ _ => by omega⟩
  | succ d ih =>
    intro m hd h b
    by_cases z : ∃ m', TightI P k c n x I m' ∧ bothB m' (x j) = true ∧ wid P m' ≤ d
    · obtain ⟨m', h', b', w'⟩ := z
      exact ih m' w' h' b'
    · refine ⟨m, h, b, fun m' h' b' => Classical.byContradiction fun e => z ⟨m', h', b', by omega⟩⟩
/-- One bar for another. -/
def swapI (I : Nat → Bool) (y j : Nat) (i : Nat) : Bool := if i = y then false else if i = j then true else I i
theorem cI_swap {n : Nat} {x : Nat → Int × Int} {I : Nat → Bool} {y j : Nat} (hy : y < n) (hj : j < n) (Iy : I y = true) (Ij : I j = false) (m : Nat) :
    cI n x (swapI I y j) m + (if bothB m (x y) then 1 else 0) = cI n x I m + if bothB m (x j) then 1 else 0 := by
  have hyj : y ≠ j := fun e => by rw [e, Ij] at Iy; cases Iy
  have h := cntR_add (fun i => swapI I y j i && bothB m (x i)) (fun i => decide (i = y) && bothB m (x i)) (fun i => I i && bothB m (x i)) (fun i => decide (i = j) && bothB m (x i)) n fun i _ => by
    unfold swapI
    by_cases c1 : i = y
    · subst c1; simp [Iy, hyj]
    · by_cases c2 : i = j
      · subst c2; simp [Ij, c1]
      · simp [c1, c2]
  have one : ∀ u, u < n → (List.range n).countP (fun i => decide (i = u) && bothB m (x i)) = if bothB m (x u) then 1 else 0 := fun u hu => by
    cases e : bothB m (x u) with
    | true =>
      rw [if_pos rfl]
      refine Eq.trans (List.countP_congr fun i _ => ?_) (Eq.trans (cntR_one u n) (if_pos hu))
      by_cases c1 : i = u
      · subst c1; simp [e]
      · simp [c1]
    | false =>
      rw [if_neg (by simp)]
      refine Eq.trans (List.countP_congr fun i _ => ?_) (cntR_zero n)
      by_cases c1 : i = u
      · subst c1; simp [e]
      · simp [c1]
  rw [one y hy, one j hj] at h
  exact h
theorem szI_swap {n : Nat} {I : Nat → Bool} {y j : Nat} (hy : y < n) (hj : j < n) (Iy : I y = true) (Ij : I j = false) : szI n (swapI I y j) = szI n I := by
  have hyj : y ≠ j := fun e => by rw [e, Ij] at Iy; cases Iy
  have h := cntR_add (fun i => swapI I y j i) (fun i => decide (i = y)) (fun i => I i) (fun i => decide (i = j)) n fun i _ => by
    unfold swapI
    by_cases c1 : i = y
    · subst c1; simp [Iy, hyj]
    · by_cases c2 : i = j
      · subst c2; simp [Ij, c1]
      · simp [c1, c2]
  rw [cntR_one, cntR_one, if_pos hy, if_pos hj] at h
  exact Nat.add_right_cancel h
theorem rest_swap {n : Nat} {I J : Nat → Bool} {y j : Nat} (hj : j < n) (Jy : J y = false) (Jj : J j = true) (Ij : I j = false) :
    (List.range n).countP (fun i => J i && !swapI I y j i) + 1 = (List.range n).countP (fun i => J i && !I i) := by
  have h := cntR_add (fun i => J i && !swapI I y j i) (fun i => decide (i = j)) (fun i => J i && !I i) (fun _ => false) n fun i _ => by
    unfold swapI
    by_cases c1 : i = y
    · subst c1
      have : i ≠ j := fun e => by rw [e, Jj] at Jy; cases Jy
      simp [Jy, this]
    · by_cases c2 : i = j
      · subst c2; simp [Ij, Jj, c1]
      · simp [c1, c2]
  rw [cntR_one, if_pos hj, cntR_zero] at h
  exact h
/-- No independent set of bars is greater than one that blocks all its bars. -/
theorem block_le {P : Nat} {k c : Int} {n : Nat} {x : Nat → Int × Int} (g : Grd P k c n x) {J : Nat → Bool} (hJ : IndI P k c n x J) : ∀ d (I : Nat → Bool), (List.range n).countP (fun i => J i && !I i) = d → IndI P k c n x I →
    (∀ j, j < n → J j = true → BlockI P k c n x I j) → szI n J ≤ szI n I := by
  intro d
  induction d with
  | zero =>
    intro I hd _ _
    unfold szI
    refine List.countP_mono_left fun i hi hJi => ?_
    rw [List.countP_eq_zero] at hd
    have := hd i hi
    rw [hJi] at this
    simpa using this
  | succ d ih =>
    intro I hd hI hb
    have hpos : 0 < (List.range n).countP (fun i => J i && !I i) := by omega
    obtain ⟨j, hj, hJI⟩ := List.countP_pos_iff.1 hpos
    have hj := List.mem_range.1 hj
    rw [Bool.and_eq_true] at hJI
    obtain ⟨Jj, Ij⟩ := hJI
    have Ij : I j = false := by simpa using Ij
    have hbj : ∃ m, TightI P k c n x I m ∧ bothB m (x j) = true := by
      rcases hb j hj Jj with h | h
      · rw [Ij] at h; cases h
      · exact h
    obtain ⟨m0, t0, b0⟩ := hbj
    obtain ⟨M, tM, bM, minM⟩ := least_tight (wid P m0) m0 (Nat.le_refl _) t0 b0
    have hy : ∃ y, y < n ∧ I y = true ∧ bothB M (x y) = true ∧ J y = false := by
      refine Classical.byContradiction fun hno => ?_
      have hle := cntR_le (fun i => I i && bothB M (x i)) (fun i => decide (i = j)) (fun i => J i && bothB M (x i)) (fun _ => false) n fun i hi => by
        by_cases c1 : i = j
        · subst c1; simp [Ij, Jj, bM]
        · cases e1 : I i with
          | false => simp [c1]
          | true =>
            cases e2 : bothB M (x i) with
            | false => simp [c1]
            | true =>
              cases e3 : J i with
              | false => exact absurd ⟨i, hi, e1, e2, e3⟩ hno
              | true => simp [c1]
      rw [cntR_one, if_pos hj, cntR_zero] at hle
      have h1 := hJ M
      have hle : cI n x I M + 1 ≤ cI n x J M := hle
      unfold TightI at tM
      have := h1 (by omega)
      omega
    obtain ⟨y, hy, Iy, by', Jy⟩ := hy
    have hc := cI_swap (x := x) hy hj Iy Ij
    have hI' : IndI P k c n x (swapI I y j) := by
      intro m hm
      have e := hc m
      have hi := hI m
      by_cases c1 : bothB m (x j) = true
      · by_cases c2 : bothB m (x y) = true
        · rw [if_pos c1, if_pos c2] at e
          have := hi (by omega)
          omega
        · rw [if_pos c1, if_neg c2] at e
          have hkw := kw_pos g.k1 g.c2 (g.two hj c1)
          have hno : ¬ TightI P k c n x I m := fun t => by
            have hu := (uncross g hI t tM hj c1 bM).2
            have hw := minM _ hu (both_and c1 bM)
            have hby := g.bar y hy
            unfold bothB at by' c2
            rw [Bool.and_eq_true] at by'
            exact c2 (by rw [wid_and_same hw (by omega) by'.1, wid_and_same hw (by omega) by'.2]; rfl)
          unfold TightI at hno
          by_cases z : 0 < cI n x I m
          · have := hi z
            omega
          · omega
      · rw [if_neg c1] at e
        have : cI n x (swapI I y j) m ≤ cI n x I m := by omega
        have := hi (by omega)
        omega
    rw [← szI_swap hy hj Iy Ij]
    have hr := rest_swap hj Jy Jj Ij
    refine ih (swapI I y j) (by omega) hI' fun j' hj' Jj' => ?_
    rcases hb j' hj' Jj' with h | ⟨m, t, b⟩
    · left
      unfold swapI
      rw [if_neg (fun e => by rw [e, Jy] at Jj'; cases Jj')]
      split
      · rfl
      · exact h
    · right
      by_cases c2 : bothB m (x y) = true
      · refine ⟨m ||| M, ?_, both_or b⟩
        have hu := (uncross g hI t tM hy c2 by').1
        have e := hc (m ||| M)
        rw [if_pos (both_or c2), if_pos (both_or' bM)] at e
        unfold TightI at *
        omega
      · refine ⟨m, ?_, b⟩
        have e := hc m
        rw [if_neg c2] at e
        unfold TightI at *
        by_cases c1 : bothB m (x j) = true
        · rw [if_pos c1] at e
          have := hI' m (by omega)
          omega
        · rw [if_neg c1] at e
          omega
end Go.Proofs.Ytdnmmjaelgjkaaa
/- Graphs of fewer bars; sets of points that span too many. Words on lists, of no program. No condition. -/
namespace Go.Proofs.Ytdnmmjaelgjkaaa
theorem isG_ofB {p : Int} {l : List (Int × Int)} (hp : 1 ≤ p ∧ p ≤ 8) (hl : l.length ≤ 24) (hb : ∀ x ∈ l, 0 ≤ x.1 ∧ x.1 < x.2 ∧ x.2 < p) (ho : OrdB l) : IsG p l := by
  refine ⟨hp, hl, fun i hi => ?_⟩
  have hg : l.getD i (0, 0) = l[i] := by simp [List.getD, List.getElem?_eq_getElem hi]
  have hm := hb l[i] (List.getElem_mem hi)
  unfold OkBar
  rw [hg]
  refine ⟨hm.1, hm.2.1, hm.2.2, fun h0 => ?_⟩
  have hi' : i - 1 < l.length := by omega
  have hg' : l.getD (i - 1) (0, 0) = l[i - 1] := by simp [List.getD, List.getElem?_eq_getElem hi']
  rw [hg']
  exact List.pairwise_iff_getElem.1 ho (i - 1) i hi' hi (by omega)
theorem isG_sub {p : Int} {l l' : List (Int × Int)} (h : IsG p l) (hs : l'.Sublist l) : IsG p l' := by
  refine isG_ofB h.1 (Nat.le_trans hs.length_le h.2.1) (fun x hx => ?_) ((isG_ord h).sublist hs)
  obtain ⟨i, hi, rfl⟩ := List.getElem_of_mem (hs.subset hx)
  have := isG_bar h i hi
  simpa [List.getD, List.getElem?_eq_getElem hi] using this
theorem isGB_iff {p : Int} {l : List (Int × Int)} : isGB p l = true ↔ IsG p l := ⟨fun h => Classical.byContradiction fun g => (by rw [isGB_no g] at h; cases h), isGB_yes⟩
theorem bad_sub {l l' : List (Int × Int)} {k c : Int} {P m : Nat} (hs : l'.Sublist l) (h : badS l k c P m = false) : badS l' k c P m = false := by
  have hc : cntS l' m ≤ cntS l m := hs.countP_le
  unfold badS at *
  simp only [Bool.and_eq_false_iff, decide_eq_false_iff_not] at *
  omega
theorem take_drop_sub (l : List (Int × Int)) (i : Nat) : (l.take i ++ l.drop (i + 1)).Sublist l := by
  have h : l.take i ++ l.drop i = l := List.take_append_drop i l
  conv => rhs; rw [← h]
  refine List.Sublist.append (List.Sublist.refl _) ?_
  rw [← List.drop_drop]
  exact List.drop_sublist _ _
end Go.Proofs.Ytdnmmjaelgjkaaa
/- The pebble game's counts: what is placed is sparse, and what is not placed would be too much. No program. No condition. -/
namespace Go.Proofs.Ytdnmmjaelgjkaaa

def sumS (S : Nat → Bool) (f : Nat → Int) : Nat → Int
  | 0 => 0
  | P + 1 => sumS S f P + if S P then f P else 0
theorem sumS_congr (S : Nat → Bool) (f g : Nat → Int) (P : Nat) (h : ∀ v, v < P → S v = true → f v = g v) : sumS S f P = sumS S g P := by
  induction P with
  | zero => rfl
  | succ P ih =>
    unfold sumS
    rw [ih fun v hv => h v (by omega)]
    cases e : S P
    · rfl
    · rw [h P (by omega) e]
theorem sumS_add (S : Nat → Bool) (f g : Nat → Int) (P : Nat) : sumS S (fun v => f v + g v) P = sumS S f P + sumS S g P := by
  induction P with
  | zero => rfl
  | succ P ih =>
    unfold sumS
    rw [ih]
    cases S P <;> simp <;> omega
theorem sumS_one (S : Nat → Bool) (z : Int) (t P : Nat) (h : t < P) : sumS S (fun v => if v = t then z else 0) P = if S t then z else 0 := by
  have zero : ∀ Q, Q ≤ t → sumS S (fun v => if v = t then z else 0) Q = 0 := by
    intro Q
    induction Q with
    | zero => intro _; rfl
    | succ Q ih =>
      intro hq
      unfold sumS
      rw [ih (by omega), if_neg (show ¬ Q = t by omega)]
      simp
  induction P with
  | zero => omega
  | succ P ih =>
    unfold sumS
    by_cases e : P = t
    · subst e
      rw [zero P (Nat.le_refl _), if_pos rfl]
      simp
    · rw [ih (by omega), if_neg e]
      simp
theorem sumS_nonneg (S : Nat → Bool) (f : Nat → Int) (P : Nat) (h : ∀ v, v < P → 0 ≤ f v) : 0 ≤ sumS S f P := by
  induction P with
  | zero => exact Int.le_refl _
  | succ P ih =>
    unfold sumS
    have h1 := ih fun v hv => h v (by omega)
    have h2 := h P (by omega)
    cases S P <;> simp <;> omega
theorem sumS_mul (S : Nat → Bool) (z : Int) (P : Nat) : sumS S (fun _ => z) P = z * ((outF P S).length : Int) := by
  induction P with
  | zero => simp [sumS, outF]
  | succ P ih =>
    unfold sumS
    rw [ih, outF_succ]
    cases S P
    · simp
    · simp [Int.mul_add]
/-- How many tails lie in S. -/
def tinS (S : Nat → Bool) (T : List Int) : Nat := T.countP fun t => S t.toNat
theorem tinS_sum (S : Nat → Bool) (P : Nat) : ∀ T : List Int, (∀ t ∈ T, 0 ≤ t ∧ t < (P : Int)) → sumS S (fun v => (T.count (v : Int) : Int)) P = (tinS S T : Int) := by
  intro T
  induction T with
  | nil =>
    intro _
    have : ∀ Q, sumS S (fun _ => (0 : Int)) Q = 0 := fun Q => by rw [sumS_mul]; simp
    simpa [tinS] using this P
  | cons t T ih =>
    intro h
    have ht := h t (by simp)
    have e : ∀ v : Nat, (((t :: T).count (v : Int) : Nat) : Int) = (T.count (v : Int) : Int) + if v = t.toNat then 1 else 0 := fun v => by
      rw [List.count_cons]
      by_cases c : v = t.toNat
      · subst c
        have : t = ((t.toNat : Nat) : Int) := by omega
        rw [if_pos rfl, if_pos (by rw [← this]; simp)]
        simp
      · rw [if_neg c, if_neg (by simp; omega)]
        simp
    rw [sumS_congr S _ _ P fun v _ _ => e v, sumS_add, ih fun t ht => h t (by simp [ht]), sumS_one S 1 t.toNat P (by omega)]
    unfold tinS
    rw [List.countP_cons]
    cases S t.toNat <;> simp
theorem PebS.tails {P : Nat} {k : Int} {E : List (Int × Int)} {F T : List Int} (h : PebS P k E F T) : ∀ t ∈ T, 0 ≤ t ∧ t < (P : Int) := by
  intro t ht
  obtain ⟨i, hi, rfl⟩ := List.getElem_of_mem ht
  have h1 := h.ends.tail i (by rw [← h.ends.len]; exact hi)
  have h2 := h.ends.bar i (by rw [← h.ends.len]; exact hi)
  have e : T.getD i 0 = T[i] := by simp [List.getD, List.getElem?_eq_getElem hi]
  rw [e] at h1
  unfold isEnd at h1
  omega
/-- Free pebbles and tails in S make k for each of its points. -/
theorem PebS.sum {P : Nat} {k : Int} {E : List (Int × Int)} {F T : List Int} (h : PebS P k E F T) (S : Nat → Bool) : sumS S (fun v => F.getD v 0) P + (tinS S T : Int) = k * ((outF P S).length : Int) := by
  rw [← tinS_sum S P T h.tails, ← sumS_add, ← sumS_mul]
  exact sumS_congr S _ _ P fun v hv _ => (h.free v hv).2
def spanC (S : Nat → Bool) (x : Int × Int) : Bool := S x.1.toNat && S x.2.toNat
theorem span_le (S : Nat → Bool) : ∀ (E : List (Int × Int)) (T : List Int), T.length = E.length → (∀ i, i < E.length → isEnd (E.getD i (0, 0)) (T.getD i 0)) → E.countP (spanC S) ≤ tinS S T := by
  intro E
  induction E with
  | nil => intro T _ _; simp
  | cons x E ih =>
    intro T hl h
    cases T with
    | nil => simp at hl
    | cons t T =>
      have h0 := h 0 (by simp)
      have hr := ih T (by simpa using hl) fun i hi => by have := h (i + 1) (by simpa using hi); simpa [List.getD] using this
      have h0' : isEnd x t := by simpa [List.getD] using h0
      unfold tinS at *
      rw [List.countP_cons, List.countP_cons]
      have : spanC S x = true → S t.toNat = true := fun hs => by
        unfold spanC at hs
        rw [Bool.and_eq_true] at hs
        rcases h0' with rfl | rfl
        · exact hs.1
        · exact hs.2
      cases e : spanC S x
      · simp; omega
      · rw [this e]; simp; omega
theorem span_ge (S : Nat → Bool) : ∀ (E : List (Int × Int)) (T : List Int), T.length = E.length → (∀ i, i < E.length → S (T.getD i 0).toNat = true → spanC S (E.getD i (0, 0)) = true) → tinS S T ≤ E.countP (spanC S) := by
  intro E
  induction E with
  | nil =>
    intro T hl _
    have : T = [] := List.eq_nil_of_length_eq_zero (by simpa using hl)
    subst this
    simp [tinS]
  | cons x E ih =>
    intro T hl h
    cases T with
    | nil => simp at hl
    | cons t T =>
      have h0 := h 0 (by simp)
      have hr := ih T (by simpa using hl) fun i hi => by have := h (i + 1) (by simpa using hi); simpa [List.getD] using this
      have h0' : S t.toNat = true → spanC S x = true := by simpa [List.getD] using h0
      unfold tinS at *
      rw [List.countP_cons, List.countP_cons]
      cases e : S t.toNat
      · simp; omega
      · rw [h0' e]; simp; omega

/-! The search reaches all that it can. -/
theorem scanN_closed (E : List (Int × Int)) (T : List Int) (v : Int) (q : List (Int × Nat)) : ∀ n i, i < n → T.getD i 0 = v → oth (E.getD i (0, 0)) v ∈ (scanN E T v q n).map Prod.fst := by
  intro n
  induction n with
  | zero => intro i hi; omega
  | succ n ih =>
    intro i hi ht
    have e : scanN E T v q (n + 1) = scan1 E T v (scanN E T v q n) n := rfl
    rw [e]
    by_cases c : i = n
    · subst c
      unfold scan1
      by_cases c2 : oth (E.getD i (0, 0)) v ∈ (scanN E T v q i).map Prod.fst
      · rw [if_neg (fun h => h.2 c2)]
        exact c2
      · rw [if_pos ⟨ht, c2⟩]
        simp
    · obtain ⟨r, e2⟩ := scan1_pre E T v (scanN E T v q n) n
      rw [e2, List.map_append]
      exact List.mem_append_left _ (ih i (by omega) ht)
theorem bfs_closed (E : List (Int × Int)) (T : List Int) (a : Int) : ∀ k j, j < k → j < (bfs E T a k).length → ∀ i, i < E.length → T.getD i 0 = ((bfs E T a k).getD j (0, 0)).1 → oth (E.getD i (0, 0)) (T.getD i 0) ∈ (bfs E T a k).map Prod.fst := by
  intro k
  induction k with
  | zero => intro j hj; omega
  | succ k ih =>
    intro j hj hjl i hi ht
    obtain ⟨r, e⟩ := bfs_pre1 E T a k
    by_cases c : k < (bfs E T a k).length
    · have e1 : bfs E T a (k + 1) = scanN E T ((bfs E T a k).getD k (0, 0)).1 (bfs E T a k) E.length := by rw [bfs_succ, if_pos c]
      have e2 : (bfs E T a (k + 1)).getD j (0, 0) = (bfs E T a k).getD j (0, 0) := by
        rw [e]
        simp only [List.getD]
        rw [List.getElem?_append_left (by omega)]
      rw [e2] at ht
      by_cases c2 : j = k
      · subst c2
        rw [e1, ht]
        exact scanN_closed E T _ _ _ i hi ht
      · have := ih j (by omega) (by omega) i hi ht
        rw [e, List.map_append]
        exact List.mem_append_left _ this
    · have e1 : bfs E T a (k + 1) = bfs E T a k := by rw [bfs_succ, if_neg c]
      rw [e1] at hjl ht ⊢
      exact ih j (by omega) hjl i hi ht
theorem bfsQ_closed {P : Nat} {E : List (Int × Int)} {T : List Int} {a : Int} (he : EndsQ P E T) (hP : P ≤ 8) (h0 : 0 ≤ a) (h1 : a < (P : Int)) {i : Nat} (hi : i < E.length) (hm : T.getD i 0 ∈ (bfsQ E T a).map Prod.fst) : oth (E.getD i (0, 0)) (T.getD i 0) ∈ (bfsQ E T a).map Prod.fst := by
  have hg := (bfs_good he h0 h1 (max E.length 8)).short
  obtain ⟨x, hx, e⟩ := List.mem_map.1 hm
  obtain ⟨j, hj, rfl⟩ := List.getElem_of_mem hx
  have e2 : (bfsQ E T a)[j] = (bfsQ E T a).getD j (0, 0) := by simp [List.getD, List.getElem?_eq_getElem hj]
  exact bfs_closed E T a (max E.length 8) j (by unfold bfsQ at hj; omega) hj i hi (by rw [← e, e2]; rfl)
/-- If no pebble can be brought, the points that were reached span all that they can. -/
theorem full_span {P : Nat} {k : Int} {E : List (Int × Int)} {F T : List Int} (h : PebS P k E F T) (hP : P ≤ 8) {a b : Int} (ha : 0 ≤ a ∧ a < (P : Int)) (hb : 0 ≤ b ∧ b < (P : Int)) (hab : a ≠ b) (e1 : findM E a b (F, T) = none) (e2 : findM E b a (F, T) = none) :
    ∃ S : Nat → Bool, S a.toNat = true ∧ S b.toNat = true ∧ k * ((outF P S).length : Int) = F.getD a.toNat 0 + F.getD b.toNat 0 + (E.countP (spanC S) : Int) := by
  refine ⟨fun v => decide ((v : Int) ∈ (bfsQ E T a).map Prod.fst) || decide ((v : Int) ∈ (bfsQ E T b).map Prod.fst), ?_, ?_, ?_⟩
  · obtain ⟨r, e⟩ := (bfs_good h.ends ha.1 ha.2 (max E.length 8)).start
    have : ((a.toNat : Nat) : Int) = a := by omega
    show (decide (((a.toNat : Nat) : Int) ∈ (bfsQ E T a).map Prod.fst) || decide (((a.toNat : Nat) : Int) ∈ (bfsQ E T b).map Prod.fst)) = true
    unfold bfsQ
    rw [this, e]
    simp
  · obtain ⟨r, e⟩ := (bfs_good h.ends hb.1 hb.2 (max E.length 8)).start
    have : ((b.toNat : Nat) : Int) = b := by omega
    show (decide (((b.toNat : Nat) : Int) ∈ (bfsQ E T a).map Prod.fst) || decide (((b.toNat : Nat) : Int) ∈ (bfsQ E T b).map Prod.fst)) = true
    unfold bfsQ
    rw [this, e]
    simp
  · have n1 : ∀ x ∈ bfsQ E T a, givesB F a b x = false := by
      unfold findM at e1
      rw [Option.map_eq_none_iff] at e1
      intro x hx
      have := List.find?_eq_none.1 e1 x hx
      simpa using this
    have n2 : ∀ x ∈ bfsQ E T b, givesB F b a x = false := by
      unfold findM at e2
      rw [Option.map_eq_none_iff] at e2
      intro x hx
      have := List.find?_eq_none.1 e2 x hx
      simpa using this
    have hS : ∀ v : Nat, v < P → (decide ((v : Int) ∈ (bfsQ E T a).map Prod.fst) || decide ((v : Int) ∈ (bfsQ E T b).map Prod.fst)) = true → v ≠ a.toNat → v ≠ b.toNat → F.getD v 0 = 0 := by
      intro v hv hs h1 h2
      have hf := h.free v hv
      rw [Bool.or_eq_true, decide_eq_true_eq, decide_eq_true_eq] at hs
      have go : ∀ x : Int × Nat, x.1 = (v : Int) → (givesB F a b x = false ∨ givesB F b a x = false) → F.getD v 0 = 0 := fun x hx hg => by
        unfold givesB at hg
        rw [hx] at hg
        simp only [Bool.and_eq_false_iff, decide_eq_false_iff_not, Int.toNat_natCast] at hg
        omega
      rcases hs with hs | hs
      · obtain ⟨x, hx, e⟩ := List.mem_map.1 hs
        exact go x e (.inl (n1 x hx))
      · obtain ⟨x, hx, e⟩ := List.mem_map.1 hs
        exact go x e (.inr (n2 x hx))
    have hsa : (decide (((a.toNat : Nat) : Int) ∈ (bfsQ E T a).map Prod.fst) || decide (((a.toNat : Nat) : Int) ∈ (bfsQ E T b).map Prod.fst)) = true := by
      obtain ⟨r, e⟩ := (bfs_good h.ends ha.1 ha.2 (max E.length 8)).start
      have : ((a.toNat : Nat) : Int) = a := by omega
      unfold bfsQ
      rw [this, e]
      simp
    have hsb : (decide (((b.toNat : Nat) : Int) ∈ (bfsQ E T a).map Prod.fst) || decide (((b.toNat : Nat) : Int) ∈ (bfsQ E T b).map Prod.fst)) = true := by
      obtain ⟨r, e⟩ := (bfs_good h.ends hb.1 hb.2 (max E.length 8)).start
      have : ((b.toNat : Nat) : Int) = b := by omega
      unfold bfsQ
      simp only [this, e]
      simp
    have hcl : ∀ i, i < E.length → (decide ((((T.getD i 0).toNat : Nat) : Int) ∈ (bfsQ E T a).map Prod.fst) || decide ((((T.getD i 0).toNat : Nat) : Int) ∈ (bfsQ E T b).map Prod.fst)) = true → spanC (fun v => decide ((v : Int) ∈ (bfsQ E T a).map Prod.fst) || decide ((v : Int) ∈ (bfsQ E T b).map Prod.fst)) (E.getD i (0, 0)) = true := by
      intro i hi hs
      have hbar := h.ends.bar i hi
      have htl := h.ends.tail i hi
      have ht0 : (((T.getD i 0).toNat : Nat) : Int) = T.getD i 0 := by unfold isEnd at htl; omega
      rw [ht0, Bool.or_eq_true, decide_eq_true_eq, decide_eq_true_eq] at hs
      have both : ∀ Q : List Int, T.getD i 0 ∈ Q → oth (E.getD i (0, 0)) (T.getD i 0) ∈ Q → (E.getD i (0, 0)).1 ∈ Q ∧ (E.getD i (0, 0)).2 ∈ Q := fun Q q1 q2 => by
        rcases htl with e | e
        · have : oth (E.getD i (0, 0)) (T.getD i 0) = (E.getD i (0, 0)).2 := by unfold oth; omega
          rw [this] at q2
          rw [e] at q1
          exact ⟨q1, q2⟩
        · have : oth (E.getD i (0, 0)) (T.getD i 0) = (E.getD i (0, 0)).1 := by unfold oth; omega
          rw [this] at q2
          rw [e] at q1
          exact ⟨q2, q1⟩
      have c1 : (((E.getD i (0, 0)).1.toNat : Nat) : Int) = (E.getD i (0, 0)).1 := by omega
      have c2 : (((E.getD i (0, 0)).2.toNat : Nat) : Int) = (E.getD i (0, 0)).2 := by omega
      unfold spanC
      simp only [c1, c2, Bool.and_eq_true, Bool.or_eq_true, decide_eq_true_eq]
      rcases hs with hs | hs
      · have := both _ hs (bfsQ_closed h.ends hP ha.1 ha.2 hi hs)
        exact ⟨.inl this.1, .inl this.2⟩
      · have := both _ hs (bfsQ_closed h.ends hP hb.1 hb.2 hi hs)
        exact ⟨.inr this.1, .inr this.2⟩
    generalize hSS : (fun v : Nat => decide ((v : Int) ∈ (bfsQ E T a).map Prod.fst) || decide ((v : Int) ∈ (bfsQ E T b).map Prod.fst)) = S at *
    have hS' : ∀ v, S v = (decide ((v : Int) ∈ (bfsQ E T a).map Prod.fst) || decide ((v : Int) ∈ (bfsQ E T b).map Prod.fst)) := fun v => by rw [← hSS]
    have hsum := h.sum S
    have hle := span_le S E T h.ends.len h.ends.tail
    have hge := span_ge S E T h.ends.len fun i hi hs => hcl i hi (by rw [← hS']; exact hs)
    have hF : sumS S (fun v => F.getD v 0) P = F.getD a.toNat 0 + F.getD b.toNat 0 := by
      have e : ∀ v, v < P → S v = true → F.getD v 0 = (if v = a.toNat then F.getD a.toNat 0 else 0) + (if v = b.toNat then F.getD b.toNat 0 else 0) := fun v hv hs => by
        by_cases c1 : v = a.toNat
        · subst c1
          rw [if_pos rfl, if_neg (by omega)]
          omega
        · by_cases c2 : v = b.toNat
          · subst c2
            rw [if_neg c1, if_pos rfl]
            omega
          · rw [if_neg c1, if_neg c2, hS v hv (by rw [← hS']; exact hs) c1 c2]
            rfl
      rw [sumS_congr S _ _ P e, sumS_add, sumS_one S _ a.toNat P (by omega), sumS_one S _ b.toNat P (by omega), hS', hS', hsa, hsb]
      rfl
    rw [hF] at hsum
    omega
theorem gath_no {P : Nat} {k : Int} {E : List (Int × Int)} {a b want : Int} (ha : 0 ≤ a ∧ a < (P : Int)) (hb : 0 ≤ b ∧ b < (P : Int)) (hab : a ≠ b) : ∀ f (s : List Int × List Int), PebS P k E s.1 s.2 → (want - (s.1.getD a.toNat 0 + s.1.getD b.toNat 0)).toNat < f → gath E a b want f s = none →
    ∃ s' : List Int × List Int, PebS P k E s'.1 s'.2 ∧ s'.1.getD a.toNat 0 + s'.1.getD b.toNat 0 < want ∧ findM E a b s' = none ∧ findM E b a s' = none := by
  intro f
  induction f with
  | zero => intro s _ hf; omega
  | succ f ih =>
    intro s h hf e
    unfold gath at e
    by_cases c : s.1.getD a.toNat 0 + s.1.getD b.toNat 0 < want
    · rw [if_pos c] at e
      cases e1 : findM E a b s with
      | some s1 =>
        rw [e1] at e
        have h1 := findM_ok h ha hab hb.1 e1
        exact ih s1 h1.1 (by rw [h1.2.1, h1.2.2]; omega) e
      | none =>
        rw [e1] at e
        cases e2 : findM E b a s with
        | some s1 =>
          rw [e2] at e
          have h1 := findM_ok h hb (Ne.symm hab) ha.1 e2
          exact ih s1 h1.1 (by rw [h1.2.1, h1.2.2]; omega) e
        | none => exact ⟨s, h, c, e1, e2⟩
    · rw [if_neg c] at e
      cases e
theorem mask_of (S : Nat → Bool) (P : Nat) : ∃ m, m < 2 ^ P ∧ ∀ v, v < P → m.testBit v = S v := by
  induction P with
  | zero => exact ⟨0, by simp, fun v hv => by omega⟩
  | succ P ih =>
    obtain ⟨m, h1, h2⟩ := ih
    cases e : S P
    · refine ⟨m, by rw [Nat.pow_succ]; omega, fun v hv => ?_⟩
      by_cases c : v = P
      · subst c
        rw [e]
        exact Nat.testBit_lt_two_pow h1
      · exact h2 v (by omega)
    · refine ⟨m ||| 2 ^ P, Nat.or_lt_two_pow (by rw [Nat.pow_succ]; omega) (Nat.pow_lt_pow_right (by decide) (by omega)), fun v hv => ?_⟩
      rw [Nat.testBit_or]
      by_cases c : v = P
      · subst c
        rw [e, Nat.testBit_two_pow_self, Bool.or_true]
      · rw [h2 v (by omega), Nat.testBit_two_pow]
        have : ¬ P = v := fun h => c h.symm
        simp [this]
theorem outF_mask {P : Nat} {S : Nat → Bool} {m : Nat} (h : ∀ v, v < P → m.testBit v = S v) : outF P S = setL P m := outF_agree P _ _ fun v hv => (h v hv).symm
theorem spanC_mask {P : Nat} {S : Nat → Bool} {m : Nat} (h : ∀ v, v < P → m.testBit v = S v) {E : List (Int × Int)} (hE : ∀ x ∈ E, 0 ≤ x.1 ∧ x.1 < x.2 ∧ x.2 < (P : Int)) : E.countP (spanC S) = cntS E m := by
  unfold cntS
  refine List.countP_congr fun x hx => ?_
  have := hE x hx
  unfold spanC bothB
  rw [h _ (by omega), h _ (by omega)]
end Go.Proofs.Ytdnmmjaelgjkaaa
/- A graph that is being built in a box: bars are appended one by one to a row of the call's own, while other blocks stay as they were. No condition. -/
namespace Go.Proofs.Ytdnmmjaelgjkaaa
open Go.RowKit

/-- The graph of p points with the bars l stands in the box bg; the blocks os are as they were in w0. -/
def GBox (B : Nat) (w0 wr : World) (bg : Nat) (os : List Nat) (p : Int) (A : Option Addr) (c : Nat) (l : List (Int × Int)) : Prop :=
  Box wr bg p (.slice A l.length c) ∧ wr.frozen? ⟨bg, 1, none⟩ = false ∧ (∀ a, A = some a → a.block ∉ os ∧ a.block ≠ bg) ∧ wr.ownsRow B 85 2 (.slice A l.length c) l.length (barCells l) ∧ (∀ o ∈ os, o < wr.heap.size ∧ wr.heap[o]? = w0.heap[o]? ∧ o ≠ bg) ∧ Below B w0 wr ∧ B ≤ bg
theorem GBox.cell {B : Nat} {w0 wr : World} {bg : Nat} {os : List Nat} {p : Int} {A : Option Addr} {c : Nat} {l : List (Int × Int)} (h : GBox B w0 wr bg os p A c l) {o k : Nat} (ho : o ∈ os) : wr.cell? ⟨o, k, none⟩ = w0.cell? ⟨o, k, none⟩ :=
  World.cell?_of_block (a := ⟨o, k, none⟩) (h.2.2.2.2.1 o ho).2.1
theorem GBox.frozen {B : Nat} {w0 wr : World} {bg : Nat} {os : List Nat} {p : Int} {A : Option Addr} {c : Nat} {l : List (Int × Int)} (h : GBox B w0 wr bg os p A c l) {o k : Nat} (ho : o ∈ os) : wr.frozen? ⟨o, k, none⟩ = w0.frozen? ⟨o, k, none⟩ :=
  World.frozen?_of_block (a := ⟨o, k, none⟩) (h.2.2.2.2.1 o ho).2.1
theorem GBox.below {B : Nat} {w0 wr w' : World} {bg : Nat} {os : List Nat} {p : Int} {A : Option Addr} {c : Nat} {l : List (Int × Int)} (h : GBox B w0 wr bg os p A c l) (hb : Below wr.heap.size wr w') : GBox B w0 w' bg os p A c l := by
  obtain ⟨h1, h2, h3, h4, h5, h6, h7⟩ := h
  refine ⟨h1.kept hb, (hb.frozen (p := ⟨bg, 1, none⟩) h1.1).trans h2, h3, own_below h4 hb, fun o ho => ?_, below_on h6 hb (Nat.le_of_lt (Nat.lt_of_le_of_lt h7 h1.1)), h7⟩
  obtain ⟨k1, k2, k3⟩ := h5 o ho
  exact ⟨Nat.lt_of_lt_of_le k1 hb.size, (hb.block o k1).trans k2, k3⟩
theorem GBox.push {B : Nat} {w0 wr w' : World} {bg : Nat} {os : List Nat} {p : Int} {A : Option Addr} {c : Nat} {l : List (Int × Int)} {v' : Value} (h : GBox B w0 wr bg os p A c l) (x : Int × Int)
    (ho : w'.ownsRow B 85 2 v' (l.length + 1) (barCells l ++ [.int .i64 x.1, .int .i64 x.2])) (hg : wr.grownBy w' (Value.slice A l.length c).ownBlock)
    (hat : v'.ownBlock = (Value.slice A l.length c).ownBlock ∨ v'.ownBlock = some (wr.heap.size + 1)) :
    w'.cell? ⟨bg, 0, none⟩ = some (.int .i64 p) ∧ w'.cell? ⟨bg, 1, none⟩ = some (.slice A l.length c) ∧ w'.frozen? ⟨bg, 1, none⟩ = false ∧ ∃ A2 c2, v' = .slice A2 (l.length + 1) c2 ∧ GBox B w0 (w'.setCell ⟨bg, 1, none⟩ v') bg os p A2 c2 (l ++ [x]) := by
  obtain ⟨h1, h2, h3, h4, h5, h6, h7⟩ := h
  have hne : ∀ o, o = bg ∨ o ∈ os → some o ≠ (Value.slice A l.length c).ownBlock := fun o hoo e => by
    cases A with
    | none => cases e
    | some a =>
      cases e
      rcases hoo with hoo | hoo
      · exact (h3 a rfl).2 hoo
      · exact (h3 a rfl).1 hoo
  have hblk := hg.block bg h1.1 (hne bg (.inl rfl))
  have c0 := (World.cell?_of_block (a := ⟨bg, 0, none⟩) hblk).trans h1.2.1
  have c1 := (World.cell?_of_block (a := ⟨bg, 1, none⟩) hblk).trans h1.2.2
  have f1 := (World.frozen?_of_block (a := ⟨bg, 1, none⟩) hblk).trans h2
  refine ⟨c0, c1, f1, ?_⟩
  obtain ⟨A2, c2, rfl⟩ := own_shape ho
  refine ⟨A2, c2, rfl, ?_⟩
  have hA2 : ∀ a, A2 = some a → a.block ∉ os ∧ a.block ≠ bg := fun a e => by
    subst e
    rcases hat with hat | hat
    · cases A with
      | none => cases hat
      | some a0 =>
        have : a.block = a0.block := by simpa [Value.ownBlock] using hat
        rw [this]
        exact h3 a0 rfl
    · have : a.block = wr.heap.size + 1 := by simpa [Value.ownBlock] using hat
      rw [this]
      refine ⟨fun hm => ?_, ?_⟩
      · have := (h5 _ hm).1
        omega
      · have := h1.1
        omega
  have hs := grownBy_set w' bg 1 (.slice A2 (l.length + 1) c2)
  have e2 : (l ++ [x]).length = l.length + 1 := by simp
  have e3 : barCells (l ++ [x]) = barCells l ++ [.int .i64 x.1, .int .i64 x.2] := by rw [barCells_append]; rfl
  unfold GBox
  rw [e2, e3]
  refine ⟨⟨?_, ?_, ?_⟩, ?_, hA2, ?_, fun o hoo => ?_, ?_, h7⟩
  · exact Nat.lt_of_lt_of_le (Nat.lt_of_lt_of_le h1.1 hg.size) hs.size
  · rw [World.cell?_setCell_other _ _ _ _ (by intro e; simp at e)]
    exact c0
  · exact World.cell?_setCell_same _ _ _ c1
  · rw [World.frozen?_setCell]
    exact f1
  · refine ho.kept hs ?_
    cases A2 with
    | none => exact .inl rfl
    | some a => exact .inr (by simp [Value.ownBlock]; exact (hA2 a rfl).2)
  · obtain ⟨k1, k2, k3⟩ := h5 o hoo
    exact ⟨Nat.lt_of_lt_of_le (Nat.lt_of_lt_of_le k1 hg.size) hs.size, (hs.block o (Nat.lt_of_lt_of_le k1 hg.size) (by simp; exact k3)).trans ((hg.block o k1 (hne o (.inr hoo))).trans k2), k3⟩
  · refine (h6.grown hg (Nat.le_of_lt (Nat.lt_of_le_of_lt h7 h1.1)) fun g e => (h4.lt g e).1).grown hs ?_ fun g e => by cases e; exact h7
    exact Nat.le_trans (Nat.le_of_lt (Nat.lt_of_le_of_lt h7 h1.1)) hg.size
/-- The same behind an append in a region that draws its order. -/
theorem GBox.push2 {B : Nat} {w0 wr w' : World} {bg : Nat} {os : List Nat} {p : Int} {A : Option Addr} {c : Nat} {l : List (Int × Int)} {gg c2 : Nat} {us : Array Value} {tb : TypeId} (h : GBox B w0 wr bg os p A c l) (x : Int × Int)
    (ho : w'.ownsRow B 85 2 (.slice (some ⟨gg, 0, none⟩) (l.length + 1) c2) (l.length + 1) (barCells l ++ [.int .i64 x.1, .int .i64 x.2])) (hg : ((wr.alloc (.cells us tb)).drew).grownBy w' (Value.slice A l.length c).ownBlock)
    (hat : (Value.slice A l.length c).ownBlock = some gg ∨ gg = wr.heap.size + 1) :
    w'.cell? ⟨bg, 0, none⟩ = some (.int .i64 p) ∧ w'.cell? ⟨bg, 1, none⟩ = some (.slice A l.length c) ∧ w'.frozen? ⟨bg, 1, none⟩ = false ∧ GBox B w0 (w'.setCell ⟨bg, 1, none⟩ (.slice (some ⟨gg, 0, none⟩) (l.length + 1) c2)) bg os p (some ⟨gg, 0, none⟩) c2 (l ++ [x]) := by
  have hg1 : (wr.alloc (.cells us tb)).grownBy ((wr.alloc (.cells us tb)).drew) (Value.slice A l.length c).ownBlock := ⟨rfl, rfl, rfl, Nat.le_refl _, fun _ _ _ => rfl⟩
  obtain ⟨c0, c1, f1, A2, c2', e, hG⟩ := h.push x ho (((World.grownBy_alloc wr (.cells us tb) _).trans_ hg1).trans_ hg) (by
    rcases hat with hat | hat
    · left; rw [hat]; rfl
    · right; rw [hat]; rfl)
  cases e
  exact ⟨c0, c1, f1, hG⟩
theorem GBox.drew {B : Nat} {w0 wr : World} {bg : Nat} {os : List Nat} {p : Int} {A : Option Addr} {c : Nat} {l : List (Int × Int)} (h : GBox B w0 wr bg os p A c l) : GBox B w0 wr.drew bg os p A c l := h.below ((Below.refl _ _).drew)
theorem GBox.ownIn {B : Nat} {w0 wr : World} {bg : Nat} {os : List Nat} {p : Int} {A : Option Addr} {c : Nat} {l : List (Int × Int)} (h : GBox B w0 wr bg os p A c l) : OwnIn wr B wr.heap.size A c l := own_in' h.2.2.2.1
/-- The answer's variable is written: the row is still the call's own. -/
theorem GBox.ret {B : Nat} {w0 wr : World} {bg : Nat} {os : List Nat} {p : Int} {A : Option Addr} {c : Nat} {l : List (Int × Int)} (h : GBox B w0 wr bg os p A c l) {o : Nat} (ho : o ∈ os) (hB : B ≤ o) (u v : Value) :
    OwnIn ((wr.setCell ⟨o, 0, none⟩ u).setCell ⟨o, 1, none⟩ v) B ((wr.setCell ⟨o, 0, none⟩ u).setCell ⟨o, 1, none⟩ v).heap.size A c l ∧ Below B w0 ((wr.setCell ⟨o, 0, none⟩ u).setCell ⟨o, 1, none⟩ v) := by
  obtain ⟨h1, h2, h3, h4, h5, h6, h7⟩ := h
  have hg := (grownBy_set wr o 0 u).trans_ (grownBy_set (wr.setCell ⟨o, 0, none⟩ u) o 1 v)
  refine ⟨own_in' (h4.kept hg ?_), h6.grown hg (Nat.le_of_lt (Nat.lt_of_le_of_lt h7 h1.1)) fun g e => by cases e; exact hB⟩
  cases A with
  | none => exact .inl rfl
  | some a => exact .inr (by simp [Value.ownBlock]; exact fun e => (h3 a rfl).1 (e ▸ ho))
/-- A graph without bars, just laid in a box; the answer's variable lies before it. -/
theorem gbox_new (w : World) (p : Int) : GBox w.heap.size (w.alloc (.cells #[.int .i64 0, .slice none 0 0] 29)) ((w.alloc (.cells #[.int .i64 0, .slice none 0 0] 29)).alloc (.cells #[.int .i64 p, .slice none 0 0] 29)) (w.heap.size + 1) [w.heap.size] p none 0 [] := by
  have hsz : (w.alloc (.cells #[.int .i64 0, .slice none 0 0] 29)).heap.size = w.heap.size + 1 := by simp
  have hb := new_below (w.alloc (.cells #[.int .i64 0, .slice none 0 0] 29)) (.cells #[.int .i64 p, .slice none 0 0] 29)
  have hx := box_new (w.alloc (.cells #[.int .i64 0, .slice none 0 0] 29)) p (.slice none 0 0) 29
  rw [hsz] at hx
  refine ⟨hx, ?_, fun a e => (by cases e), ⟨rfl, .inl ⟨rfl, rfl⟩⟩, fun o ho => ?_, hb.mono (by omega), by omega⟩
  · rw [← hsz]
    exact World.frozen?_alloc_at _ _ _ _ rfl
  · have : o = w.heap.size := by simpa using ho
    subst this
    exact ⟨by simp; omega, hb.block _ (by omega), by omega⟩
/-- A graph without bars, laid in a box; what lies in the blocks os stands. -/
theorem gbox_nil (w : World) (B : Nat) (os : List Nat) (p : Int) (hB : B ≤ w.heap.size) (hos : ∀ o ∈ os, o < w.heap.size) : GBox B w (w.alloc (.cells #[.int .i64 p, .slice none 0 0] 29)) w.heap.size os p none 0 [] := by
  have hb := new_below w (.cells #[.int .i64 p, .slice none 0 0] 29)
  refine ⟨box_new w p (.slice none 0 0) 29, World.frozen?_alloc_at _ _ _ _ rfl, fun a e => (by cases e), ⟨rfl, .inl ⟨rfl, rfl⟩⟩, fun o ho => ?_, hb.mono hB, hB⟩
  have := hos o ho
  exact ⟨by simp; omega, hb.block _ this, by omega⟩
/-- The same with an empty row of its own. -/
theorem gbox_made (w : World) (B : Nat) (os : List Nat) (p : Int) (hB : B ≤ w.heap.size) (hos : ∀ o ∈ os, o < w.heap.size) : GBox B w ((w.alloc (.cells #[] 85)).alloc (.cells #[.int .i64 p, .slice (some ⟨w.heap.size, 0, none⟩) 0 0] 29)) (w.heap.size + 1) os p (some ⟨w.heap.size, 0, none⟩) 0 [] := by
  have hsz : (w.alloc (.cells #[] 85)).heap.size = w.heap.size + 1 := by simp
  have hb1 := new_below w (.cells #[] 85)
  have hb2 := new_below (w.alloc (.cells #[] 85)) (.cells #[.int .i64 p, .slice (some ⟨w.heap.size, 0, none⟩) 0 0] 29)
  have hx := box_new (w.alloc (.cells #[] 85)) p (.slice (some ⟨w.heap.size, 0, none⟩) 0 0) 29
  have hf : ((w.alloc (.cells #[] 85)).alloc (.cells #[.int .i64 p, .slice (some ⟨w.heap.size, 0, none⟩) 0 0] 29)).frozen? ⟨(w.alloc (.cells #[] 85)).heap.size, 1, none⟩ = false := World.frozen?_alloc_at _ _ _ _ rfl
  rw [hsz] at hx hf
  have hb := below_on hb1 hb2 hb1.size
  have ho := World.ownsRow_made (base := B) (e := 85) (size := 2) w #[] 0 hB (by unfold maxLen; omega) (by simp)
  refine ⟨hx, hf, fun a e => ?_, own_below ho hb2, fun o hoo => ?_, hb.mono hB, by omega⟩
  · cases e
    refine ⟨fun hm => ?_, by show w.heap.size ≠ w.heap.size + 1; omega⟩
    have := hos _ hm
    simp at this
  · have := hos o hoo
    exact ⟨by simp; omega, hb.block _ this, by omega⟩
end Go.Proofs.Ytdnmmjaelgjkaaa
/- What spec.l2Has answers. No condition. -/
namespace Go.Proofs.Ytdnmmjaelgjkaaa
open Go.RowKit

set_option maxHeartbeats 1000000 in
set_option maxRecDepth 100000 in
theorem has_c (zs : List Int) (x : Int) (A : Option Addr) (cap lo hi : Nat) (w : World) (hl : IntsIn w lo hi A zs) (hn : zs.length ≤ 1048576) :
    Calls Try.prog 93 #[.slice A zs.length cap, .int .i64 x] w fun e w' => e = .returned (.bool (decide (x ∈ zs))) ∧ w = w' := by
  have HL := Lib.hid hl
  clear hl
  go_enter Try.func93, Try.ntmps93
  go_wp2_with fail
  go_loop [5] (fun i => ∃ k : Nat, k ≤ zs.length ∧ i = .int .i64 k ∧ ∀ j, j < k → zs.getD j 0 ≠ x) (fun i => zs.length - (intOf i).toNat)
  case atStart => exact ⟨0, by omega, rfl, fun j hj => absurd hj (by omega)⟩
  case round =>
    obtain ⟨k, hk, rfl, hall⟩ := hrel
    have HALL := Lib.hid hall
    clear hall
    by_cases hlt : k < zs.length
    · have hi : (k : Int) < (zs.length : Int) := by omega
      obtain ⟨b, off, rfl, _, _, hcell⟩ := HL.out.2 (by omega)
      have hc := hcell k hlt
      clear hcell
      have HM := Lib.hid (show zs.getD k 0 ∈ zs by
        have : zs.getD k 0 = zs[k] := by simp [List.getD, List.getElem?_eq_getElem hlt]
        rw [this]; exact List.getElem_mem hlt)
      obtain ⟨y, hy⟩ : ∃ y, zs.getD k 0 = y := ⟨_, rfl⟩
      rw [hy] at hc HM
      by_cases he : y = x
      · have he' : (y == x) = true := by simpa using he
        have HD := Lib.hid (show decide (x ∈ zs) = true by rw [← he]; exact decide_eq_true HM.out)
        clear he hy
        go_wp2_with fail
        go_ret
        exact ⟨by rw [HD.out]; rfl, rfl⟩
      · have he' : (y == x) = false := by simpa using he
        have HS := Lib.hid (show ∀ j, j < k + 1 → zs.getD j 0 ≠ x from fun j hj => by
          by_cases e : j = k
          · subst e; rw [hy]; exact he
          · exact HALL.out j (by omega))
        clear he hy
        go_wp2_with fail
        go_round
        case rel => exact ⟨k + 1, by omega, by go_num, HS.out⟩
        case measure => simp [intOf]; omega
    · obtain rfl : k = zs.length := by omega
      have HD := Lib.hid (show decide (x ∈ zs) = false by
        refine decide_eq_false fun hm => ?_
        obtain ⟨i, hi, e⟩ := List.getElem_of_mem hm
        refine HALL.out i hi ?_
        simpa [List.getD, List.getElem?_eq_getElem hi] using e)
      go_wp2_with fail
      go_ret
      exact ⟨by rw [HD.out]; rfl, rfl⟩
end Go.Proofs.Ytdnmmjaelgjkaaa
/- What spec.OnlyBars answers, and spec.l2Has. No condition. -/
namespace Go.Proofs.Ytdnmmjaelgjkaaa
open Go.RowKit

/-- The first k bars whose index S takes. -/
def onlyK (l : List (Int × Int)) (S : Nat → Bool) : Nat → List (Int × Int)
  | 0 => []
  | k + 1 => onlyK l S k ++ if S k then [l.getD k (0, 0)] else []
def inS (zs : List Int) (k : Nat) : Bool := decide ((k : Int) ∈ zs)
def onlyL (l : List (Int × Int)) (zs : List Int) : List (Int × Int) := onlyK l (inS zs) l.length
theorem onlyK_len (l : List (Int × Int)) (S : Nat → Bool) : ∀ k, (onlyK l S k).length ≤ k := by
  intro k
  induction k with
  | zero => exact Nat.le_refl _
  | succ k ih =>
    rw [onlyK, List.length_append]
    split <;> simp <;> omega
theorem onlyL_len (l : List (Int × Int)) (zs : List Int) (h : l.length ≤ 1048576) : (onlyL l zs).length ≤ 1048576 := Nat.le_trans (onlyK_len _ _ _) h

set_option maxHeartbeats 4000000 in
set_option maxRecDepth 100000 in
theorem specOnly (p : Int) (l : List (Int × Int)) (zs : List Int) (A Z : Option Addr) (cap cz lo hi : Nat) (w : World) (hl : BarsAt w w.heap.size A l) (hz : IntsIn w lo hi Z zs) (hn : l.length ≤ 1048576) (hnz : zs.length ≤ 1048576) :
    Calls Try.prog 66 #[.agg #[.int .i64 p, .slice A l.length cap], .slice Z zs.length cz] w (GraphR w p (onlyL l zs)) := by
  have hA1 := new_below w (.cells #[.int .i64 p, .slice A l.length cap] 29)
  have hA2 := new_below (w.alloc (.cells #[.int .i64 p, .slice A l.length cap] 29)) (.cells #[.int .i64 0, .slice none 0 0] 29)
  have hsz1 : (w.alloc (.cells #[.int .i64 p, .slice A l.length cap] 29)).heap.size = w.heap.size + 1 := by simp
  have hsz2 : ((w.alloc (.cells #[.int .i64 p, .slice A l.length cap] 29)).alloc (.cells #[.int .i64 0, .slice none 0 0] 29)).heap.size = w.heap.size + 2 := by simp
  have HA := Lib.hid (below_on hA1 hA2 hA1.size)
  have HLW := Lib.hid hl
  have HZW := Lib.hid hz
  have BX := Lib.hid ((box_new w p (.slice A l.length cap) 29).kept hA2)
  have hR := box_new (w.alloc (.cells #[.int .i64 p, .slice A l.length cap] 29)) 0 (.slice none 0 0) 29
  have hF : ((w.alloc (.cells #[.int .i64 p, .slice A l.length cap] 29)).alloc (.cells #[.int .i64 0, .slice none 0 0] 29)).frozen? ⟨(w.alloc (.cells #[.int .i64 p, .slice A l.length cap] 29)).heap.size, 0, none⟩ = false ∧ ((w.alloc (.cells #[.int .i64 p, .slice A l.length cap] 29)).alloc (.cells #[.int .i64 0, .slice none 0 0] 29)).frozen? ⟨(w.alloc (.cells #[.int .i64 p, .slice A l.length cap] 29)).heap.size, 1, none⟩ = false := ⟨World.frozen?_alloc_at _ _ _ _ rfl, World.frozen?_alloc_at _ _ _ _ rfl⟩
  rw [hsz1] at hR hF
  have HR := Lib.hid hR
  have HF := Lib.hid hF
  have hG := gbox_made ((w.alloc (.cells #[.int .i64 p, .slice A l.length cap] 29)).alloc (.cells #[.int .i64 0, .slice none 0 0] 29)) w.heap.size [w.heap.size, w.heap.size + 1] p (by rw [hsz2]; omega) (fun o ho => by rw [hsz2]; simp at ho; omega)
  rw [hsz2] at hG
  have HG := Lib.hid hG
  clear hl hz hA1 hA2 hsz1 hR hF hG
  go_enter Try.func66, Try.ntmps66
  go_wp2_with fail
  have HSZ2 := Lib.hid hsz2
  clear hsz2
  generalize ((((w.alloc (.cells #[.int .i64 p, .slice A l.length cap] 29)).alloc (.cells #[.int .i64 0, .slice none 0 0] 29)).alloc (.cells #[] 85)).alloc (.cells #[.int .i64 p, .slice (some ⟨w.heap.size + 2, 0, none⟩) 0 0] 29)) = w1 at *
  generalize ((w.alloc (.cells #[.int .i64 p, .slice A l.length cap] 29)).alloc (.cells #[.int .i64 0, .slice none 0 0] 29)) = w0 at *
  go_loopw [6] (fun i wr => ∃ k : Nat, k ≤ l.length ∧ i = .int .i64 k ∧ ∃ A' c', GBox w.heap.size w0 wr (w.heap.size + 2 + 1) [w.heap.size, w.heap.size + 1] p A' c' (onlyK l (inS zs) k)) (fun i _ => l.length - (intOf i).toNat)
  case atStart => exact ⟨0, by omega, rfl, _, _, HG.out⟩
  case round =>
    obtain ⟨k, hk, rfl, A', c', hst⟩ := hrel
    have HST := Lib.hid hst
    have HBW := Lib.hid (HA.out.trans hst.2.2.2.2.2.1)
    have hbs : w.heap.size ≤ wr.heap.size := Nat.le_of_lt (Nat.lt_of_le_of_lt hst.2.2.2.2.2.2 hst.1.1)
    have b1 := (hst.cell (o := w.heap.size) (k := 1) (by simp)).trans BX.out.2.2
    clear hst
    by_cases hlt : k < l.length
    · have hik : (k : Int) < (l.length : Int) := by omega
      obtain ⟨b0, off, rfl, hbB, hcell⟩ := HLW.out (by omega)
      have hc1 := (HBW.out.cell (p := ⟨b0, off + k * 2, none⟩) hbB).trans (hcell k hlt).1
      have hc2 := (HBW.out.cell (p := ⟨b0, off + k * 2 + 1, none⟩) hbB).trans (hcell k hlt).2
      clear hcell
      have HZ := Lib.hid (show IntsIn wr lo hi Z zs from ⟨Nat.le_trans HZW.out.1 hbs, fun hl0 => by
        obtain ⟨bz, oz, e, h1, h2, hc⟩ := HZW.out.2 hl0
        exact ⟨bz, oz, e, h1, h2, fun j hj => (HBW.out.cell (p := ⟨bz, oz + j, none⟩) (Nat.lt_of_lt_of_le h2 HZW.out.1)).trans (hc j hj)⟩⟩)
      go_wp2_with fail
      refine (has_c zs (k : Int) Z cz lo hi _ HZ.out hnz).mono ?_
      rintro e w2 ⟨rfl, rfl⟩
      rcases hs : decide ((k : Int) ∈ zs) with _ | _
      · have HE := Lib.hid (show onlyK l (inS zs) (k + 1) = onlyK l (inS zs) k by rw [onlyK, show inS zs k = false from hs]; simp)
        go_wp2_with fail
        go_roundw
        case rel => exact ⟨k + 1, by omega, by go_num, A', c', by rw [HE.out]; exact HST.out⟩
        case measure => simp [intOf]; omega
      · have HE := Lib.hid (show onlyK l (inS zs) (k + 1) = onlyK l (inS zs) k ++ [l.getD k (0, 0)] by rw [onlyK, show inS zs k = true from hs]; simp)
        have hll := onlyK_len l (inS zs) k
        obtain ⟨x, hx⟩ : ∃ x, l.getD k (0, 0) = x := ⟨_, rfl⟩
        rw [hx] at hc1 hc2 HE
        clear hx
        obtain ⟨x1, x2⟩ := x
        simp only at hc1 hc2
        obtain ⟨L, hL⟩ : ∃ L, L = onlyK l (inS zs) k := ⟨_, rfl⟩
        rw [← hL] at HST HE hll
        clear hL
        obtain ⟨i0, hi0, hz0, hz1, hz2⟩ := info_parts infoBar
        obtain ⟨hlt0, g1, g2⟩ := HST.out.1
        have gf := HST.out.2.1
        go_wp2_with fail
        go_region_law (refine step_append_lies _ (by rfl) _ _ _ (by rfl) w.heap.size 85 i0 _ 2 16 Try.underlying27 hi0 hz0 hz1 hz2 rfl (by omega) _ L.length (barCells L) (by rfl) ((HST.out.2.2.2.1.alloc _).drew) ⟨wr.heap.size, 0, none⟩ 1 1 [.int .i64 x1, .int .i64 x2] (by rfl) (by rfl) (World.news_of_block (cs := #[.int .i64 x1, .int .i64 x2]) (t := 85) (fr := (0, 0)) (heap_alloc_new wr _)) (by simp [Value.oneCell']) (by omega) (by unfold maxLen; omega) (by omega) (by simp; omega) (wr.heap.size + 1) (by simp) ?_; intro gg cap2 w1' hown1 hgrow hat hlt; obtain ⟨c0, c1, f1, hG2⟩ := HST.out.push2 (x1, x2) hown1 hgrow hat; have HG2 := Lib.hid hG2; clear hown1 hgrow hat hG2)
        all_goals
          go_wp2_with fail
          go_roundw
          case rel => exact ⟨k + 1, by omega, by go_num, _, cap2, by rw [HE.out]; first | exact HG2.out | exact HG2.out.drew⟩
          case measure => simp [intOf]; omega
    · obtain rfl : k = l.length := by omega
      obtain ⟨_, g1, g2⟩ := HST.out.1
      have r0 := (HST.out.cell (o := w.heap.size + 1) (k := 0) (by simp)).trans HR.out.2.1
      have r1 := (HST.out.cell (o := w.heap.size + 1) (k := 1) (by simp)).trans HR.out.2.2
      have f0 := (HST.out.frozen (o := w.heap.size + 1) (k := 0) (by simp)).trans HF.out.1
      have f1 := (HST.out.frozen (o := w.heap.size + 1) (k := 1) (by simp)).trans HF.out.2
      have hr := HST.out.ret (o := w.heap.size + 1) (by simp) (by omega) (.int .i64 p) (.slice A' (onlyK l (inS zs) l.length).length c')
      have HRT := Lib.hid hr
      have s0 : ((wr.setCell ⟨w.heap.size + 1, 0, none⟩ (.int .i64 p)).setCell ⟨w.heap.size + 1, 1, none⟩ (.slice A' (onlyK l (inS zs) l.length).length c')).cell? ⟨w.heap.size + 1, 0, none⟩ = some (.int .i64 p) := by
        rw [World.cell?_setCell_other _ _ _ _ (by intro e; simp at e)]
        exact World.cell?_setCell_same _ _ _ r0
      have s1 : ((wr.setCell ⟨w.heap.size + 1, 0, none⟩ (.int .i64 p)).setCell ⟨w.heap.size + 1, 1, none⟩ (.slice A' (onlyK l (inS zs) l.length).length c')).cell? ⟨w.heap.size + 1, 1, none⟩ = some (.slice A' (onlyK l (inS zs) l.length).length c') := by
        have r2 : (wr.setCell ⟨w.heap.size + 1, 0, none⟩ (.int .i64 p)).cell? ⟨w.heap.size + 1, 1, none⟩ = some (.slice none 0 0) := by
          rw [World.cell?_setCell_other _ _ _ _ (by intro e; simp at e)]
          exact r1
        exact World.cell?_setCell_same _ _ _ r2
      clear hr
      go_wp2_with fail
      refine bodyPost_ret (v := .agg #[.int .i64 p, .slice A' (onlyK l (inS zs) l.length).length c']) ?_ rfl ⟨A', c', rfl, HRT.out.1.bars.at, HA.out.trans HRT.out.2⟩
      simp [results, Try.results66, go_sem, s0, s1]
end Go.Proofs.Ytdnmmjaelgjkaaa
/- The whole game on lists: what is placed is sparse, and all is placed exactly if the bars are sparse. No program. No condition. -/
namespace Go.Proofs.Ytdnmmjaelgjkaaa

theorem sumS_two (S : Nat → Bool) (f : Nat → Int) (P a b : Nat) (hf : ∀ v, v < P → 0 ≤ f v) (ha : a < P) (hb : b < P) (hab : a ≠ b) (sa : S a = true) (sb : S b = true) : f a + f b ≤ sumS S f P := by
  have e : sumS S f P = sumS S (fun v => (if v = a then f a else 0) + (if v = b then f b else 0)) P + sumS S (fun v => f v - ((if v = a then f a else 0) + (if v = b then f b else 0))) P := by
    rw [← sumS_add]
    exact sumS_congr S _ _ P fun v _ _ => by omega
  have h0 := sumS_nonneg S (fun v => f v - ((if v = a then f a else 0) + (if v = b then f b else 0))) P fun v hv => by
    have h1 := hf v hv
    by_cases c1 : v = a
    · subst c1
      rw [if_pos rfl, if_neg hab]
      omega
    · by_cases c2 : v = b
      · subst c2
        rw [if_neg c1, if_pos rfl]
        omega
      · rw [if_neg c1, if_neg c2]
        omega
  rw [sumS_add, sumS_one S _ a P ha, sumS_one S _ b P hb, sa, sb, if_pos rfl, if_pos rfl] at e
  omega
theorem plE_snoc (l : List (Int × Int)) (Z : List Int) (n : Int) : plE l (Z ++ [n]) = plE l Z ++ [l.getD n.toNat (0, 0)] := by simp [plE]
theorem cntS_snoc (E : List (Int × Int)) (x : Int × Int) (m : Nat) : cntS (E ++ [x]) m = cntS E m + if bothB m x then 1 else 0 := by
  unfold cntS
  rw [List.countP_append, List.countP_cons, List.countP_nil, Nat.zero_add]
theorem plE_bars {P : Nat} {k : Int} {l : List (Int × Int)} {F T Z : List Int} (h : IsPeb (P : Int) k l F T Z) : ∀ x ∈ plE l Z, 0 ≤ x.1 ∧ x.1 < x.2 ∧ x.2 < (P : Int) := by
  intro x hx
  obtain ⟨i, hi, rfl⟩ := List.getElem_of_mem hx
  have h1 := h.state.ends.bar i hi
  have e : (plE l Z).getD i (0, 0) = (plE l Z)[i] := by simp [List.getD, List.getElem?_eq_getElem hi]
  rw [e] at h1
  have := h.2.2.1
  omega
theorem badS_iff {l : List (Int × Int)} {k c : Int} {P m : Nat} : badS l k c P m = true ↔ 0 < cntS l m ∧ k * ((setL P m).length : Int) - c < (cntS l m : Int) := by
  unfold badS
  rw [Bool.and_eq_true, decide_eq_true_eq, decide_eq_true_eq]
theorem badS_not {l : List (Int × Int)} {k c : Int} {P m : Nat} : badS l k c P m = false ↔ ¬ (0 < cntS l m ∧ k * ((setL P m).length : Int) - c < (cntS l m : Int)) := by
  rw [← badS_iff]
  simp
theorem bad_sup {l l' : List (Int × Int)} {k c : Int} {P m : Nat} (hs : l'.Sublist l) (h : badS l' k c P m = true) : badS l k c P m = true := by
  cases e : badS l k c P m with
  | true => rfl
  | false => rw [bad_sub hs e] at h; cases h
/-- A bar that is placed leaves the state sparse. -/
theorem place_sparse {P : Nat} {k c : Int} {l : List (Int × Int)} {F T Z : List Int} (h : IsPeb (P : Int) k l F T Z) {n : Int} (hn : 0 ≤ n ∧ n < (l.length : Int)) {s : List Int × List Int × List Int} (e : plaR l c F T Z n = some s)
    (hsp : ∀ m, badS (plE l Z) k c P m = false) : ∀ m, badS (plE l s.2.2) k c P m = false := by
  unfold plaR at e
  obtain ⟨s1, h1, rfl⟩ := Option.map_eq_some_iff.1 e
  have hb := h.1.2.2 n.toNat (by omega)
  have hp := h.2.2.1
  have hPF : F.length = P := by omega
  unfold OkBar at hb
  obtain ⟨g1, g2⟩ := gathR_ok (P := F.length) (k := k) (by omega) (by omega) (by omega) (by exact h.state) h1
  have ez : (if s1.1.getD (l.getD n.toNat (0, 0)).1.toNat 0 = 0 then (s1.1.set (l.getD n.toNat (0, 0)).2.toNat (s1.1.getD (l.getD n.toNat (0, 0)).2.toNat 0 - 1), s1.2 ++ [(l.getD n.toNat (0, 0)).2], Z ++ [n])
    else (s1.1.set (l.getD n.toNat (0, 0)).1.toNat (s1.1.getD (l.getD n.toNat (0, 0)).1.toNat 0 - 1), s1.2 ++ [(l.getD n.toNat (0, 0)).1], Z ++ [n])).2.2 = Z ++ [n] := by split <;> rfl
  intro m
  rw [ez, plE_snoc]
  rw [hPF] at g1
  generalize l.getD n.toNat (0, 0) = x at *
  have hm := hsp m
  rw [badS_not] at hm ⊢
  rw [cntS_snoc]
  cases hx : bothB m x
  · simpa [hx] using hm
  · have hx' : m.testBit x.1.toNat = true ∧ m.testBit x.2.toNat = true := by
      unfold bothB at hx
      rwa [Bool.and_eq_true] at hx
    have hsum := g1.sum (fun v => m.testBit v)
    have hle := span_le (fun v => m.testBit v) (plE l Z) s1.2 g1.ends.len g1.ends.tail
    have h2 := sumS_two (fun v => m.testBit v) (fun v => s1.1.getD v 0) P x.1.toNat x.2.toNat (fun v hv => (g1.free v hv).1) (by omega) (by omega) (by omega) hx'.1 hx'.2
    have hc : (plE l Z).countP (spanC fun v => m.testBit v) = cntS (plE l Z) m := rfl
    have ho : outF P (fun v => m.testBit v) = setL P m := rfl
    rw [hc] at hle
    rw [ho] at hsum
    simp only [if_true]
    omega
/-- A bar that can't be placed is one too many. -/
theorem place_no {P : Nat} {k c : Int} {l : List (Int × Int)} {F T Z : List Int} (h : IsPeb (P : Int) k l F T Z) {n : Int} (hn : 0 ≤ n ∧ n < (l.length : Int)) (e : plaR l c F T Z n = none) : ∃ m, m < 2 ^ P ∧ badS (plE l Z ++ [l.getD n.toNat (0, 0)]) k c P m = true := by
  unfold plaR at e
  rw [Option.map_eq_none_iff] at e
  have hb := h.1.2.2 n.toNat (by omega)
  have hp := h.2.2.1
  have hPF : F.length = P := by omega
  have hP8 := h.1.1
  have hbars := plE_bars h
  unfold OkBar at hb
  have hst := h.state
  rw [hPF] at hst
  generalize l.getD n.toNat (0, 0) = x at *
  unfold gathR at e
  obtain ⟨s', q1, q2, q3, q4⟩ := gath_no (P := P) (k := k) (E := plE l Z) (a := x.1) (b := x.2) (want := c + 1) (by omega) (by omega) (by omega) _ (F, T) hst (by omega) e
  obtain ⟨S, sa, sb, hk⟩ := full_span (F := s'.1) (T := s'.2) q1 (by omega) (a := x.1) (b := x.2) (by omega) (by omega) (by omega) q3 q4
  obtain ⟨m, hm, hmS⟩ := mask_of S P
  refine ⟨m, hm, badS_iff.2 ?_⟩
  rw [cntS_snoc]
  have hx : bothB m x = true := by
    unfold bothB
    rw [hmS _ (by omega), hmS _ (by omega), sa, sb]
    rfl
  rw [hx, if_pos rfl]
  rw [spanC_mask hmS hbars, outF_mask hmS] at hk
  omega
theorem onlyK_agree (l : List (Int × Int)) (S S' : Nat → Bool) : ∀ k, (∀ i, i < k → S i = S' i) → onlyK l S k = onlyK l S' k := by
  intro k
  induction k with
  | zero => intro _; rfl
  | succ k ih =>
    intro h
    unfold onlyK
    rw [ih fun i hi => h i (by omega), h k (by omega)]
theorem outF_len_agree (k : Nat) (S S' : Nat → Bool) (h : ∀ i, i < k → S i = S' i) : (outF k S).length = (outF k S').length := by rw [outF_agree k S S' h]
/-- All that the law on pebbles asks of the whole game. -/
structure GameR (P : Nat) (k c : Int) (l : List (Int × Int)) (n : Nat) (Z : List Int) : Prop where
  sparse : ∀ m, badS (plE l Z) k c P m = false
  full : Z.length = n ∨ ∃ m, m < 2 ^ P ∧ badS (l.take n) k c P m = true
  sub : (plE l Z).Sublist (l.take n)
  only : onlyK l (inS Z) n = plE l Z
  rest : (outF n (fun i => !inS Z i)).length + Z.length = n
theorem mem_lt {P : Nat} {k : Int} {l : List (Int × Int)} {F T Z : List Int} (h : IsPeb (P : Int) k l F T Z) {n : Nat} (hl : Z ≠ [] → Z.getD (Z.length - 1) 0 < (n : Int)) : ∀ z ∈ Z, z < (n : Int) := by
  intro z hz
  obtain ⟨i, hi, rfl⟩ := List.getElem_of_mem hz
  have h1 := h.last i (Z.length - 1) (by omega) (by omega)
  have h2 := hl (fun e => by rw [e] at hi; simp at hi)
  have e : Z.getD i 0 = Z[i] := by simp [List.getD, List.getElem?_eq_getElem hi]
  rw [e] at h1
  omega
theorem runN_game {P : Nat} {k c : Int} {l : List (Int × Int)} (hG : IsG (P : Int) l) (hk : 1 ≤ k ∧ k ≤ 3) (hc : 0 ≤ c) : ∀ n, n ≤ l.length → GameR P k c l n (runN P k c l n).2.2 := by
  intro n
  induction n with
  | zero =>
    intro _
    exact ⟨fun m => by rw [badS_not]; simp [runN, plE, cntS], .inl rfl, by simp [runN, plE], rfl, rfl⟩
  | succ n ih =>
    intro hn
    have hi := ih (by omega)
    obtain ⟨h1, _, h3⟩ := runN_ok hG hk hc n (by omega)
    have hlt := mem_lt h1 h3
    have ht : l.take (n + 1) = l.take n ++ [l.getD n (0, 0)] := take_getD l (0, 0) n (by omega)
    have htn : ((n : Int)).toNat = n := by omega
    unfold runN
    generalize runN P k c l n = s0 at *
    have hni : inS s0.2.2 n = false := decide_eq_false fun hm => by have := hlt _ hm; omega
    cases e : plaR l c s0.1 s0.2.1 s0.2.2 (n : Int) with
    | none =>
      simp only [Option.getD_none]
      obtain ⟨m, hm, hb⟩ := place_no h1 (n := (n : Int)) (by omega) e
      rw [htn] at hb
      refine ⟨hi.sparse, .inr ⟨m, hm, bad_sup ?_ hb⟩, ?_, ?_, ?_⟩
      · rw [ht]
        exact hi.sub.append (List.Sublist.refl _)
      · rw [ht]
        exact hi.sub.trans (List.sublist_append_left _ _)
      · unfold onlyK
        rw [hni, hi.only]
        simp
      · rw [outF_succ, hni]
        have := hi.rest
        simp
        omega
    | some s =>
      simp only [Option.getD_some]
      have hsp := place_sparse h1 (n := (n : Int)) (by omega) e hi.sparse
      have g2 := (plaR_ok h1 hc (n := (n : Int)) (by omega) h3 e).2
      rw [g2] at hsp ⊢
      have hin : inS (s0.2.2 ++ [(n : Int)]) n = true := decide_eq_true (by simp)
      have hag : ∀ i, i < n → inS (s0.2.2 ++ [(n : Int)]) i = inS s0.2.2 i := fun i hi => by
        unfold inS
        have : ¬ (i : Int) = (n : Int) := by omega
        simp [this]
      refine ⟨hsp, ?_, ?_, ?_, ?_⟩
      · rcases hi.full with hf | ⟨m, hm, hb⟩
        · exact .inl (by simp [hf])
        · exact .inr ⟨m, hm, bad_sup (by rw [ht]; exact List.sublist_append_left _ _) hb⟩
      · rw [ht, plE_snoc, htn]
        exact hi.sub.append (List.Sublist.refl _)
      · unfold onlyK
        rw [hin, if_pos rfl, onlyK_agree l _ _ n hag, hi.only, plE_snoc, htn]
      · rw [outF_succ, hin]
        have := hi.rest
        have e2 := outF_len_agree n (fun i => !inS (s0.2.2 ++ [(n : Int)]) i) (fun i => !inS s0.2.2 i) fun i hi => by simp only [hag i hi]
        simp
        omega
end Go.Proofs.Ytdnmmjaelgjkaaa
/- What a game leaves of a list of bars has the same length whatever their order, and no more if there are fewer bars. Words on lists, of no program. No condition. -/
namespace Go.Proofs.Ytdnmmjaelgjkaaa

/-- No set spans too many. -/
def IndL (P : Nat) (k c : Int) (E : List (Int × Int)) : Prop := ∀ m, badS E k c P m = false
theorem onlyK_cI (l : List (Int × Int)) (S : Nat → Bool) (m : Nat) : ∀ n, cntS (onlyK l S n) m = cI n (fun i => l.getD i (0, 0)) S m := by
  intro n
  induction n with
  | zero => rfl
  | succ n ih =>
    unfold onlyK cI
    rw [List.range_succ, List.countP_append, List.countP_cons, List.countP_nil]
    unfold cI at ih
    rw [← ih]
    cases S n
    · simp
    · simp only [if_true, Bool.true_and]
      rw [cntS_snoc]
      omega
theorem onlyK_size (l : List (Int × Int)) (S : Nat → Bool) : ∀ n, (onlyK l S n).length = szI n S := by
  intro n
  induction n with
  | zero => rfl
  | succ n ih =>
    unfold onlyK szI
    rw [List.range_succ, List.countP_append, List.countP_cons, List.countP_nil, List.length_append, ih]
    unfold szI
    cases S n <;> simp
theorem onlyK_cons (y : Int × Int) (l : List (Int × Int)) (S : Nat → Bool) : ∀ n, onlyK (y :: l) S (n + 1) = (if S 0 then [y] else []) ++ onlyK l (fun i => S (i + 1)) n := by
  intro n
  induction n with
  | zero => simp [onlyK]
  | succ n ih =>
    rw [onlyK, ih, List.append_assoc]
    congr 1
theorem sub_mask {E l : List (Int × Int)} (h : E.Sublist l) : ∃ S, onlyK l S l.length = E := by
  induction h with
  | slnil => exact ⟨fun _ => false, rfl⟩
  | cons y _ ih =>
    obtain ⟨S, hS⟩ := ih
    refine ⟨fun i => match i with | 0 => false | i + 1 => S i, ?_⟩
    rw [List.length_cons, onlyK_cons, hS]
    rfl
  | cons_cons y _ ih =>
    obtain ⟨S, hS⟩ := ih
    refine ⟨fun i => match i with | 0 => true | i + 1 => S i, ?_⟩
    rw [List.length_cons, onlyK_cons, hS]
    rfl
theorem onlyK_sub (l : List (Int × Int)) (S : Nat → Bool) : ∀ n, n ≤ l.length → (onlyK l S n).Sublist (l.take n) := by
  intro n
  induction n with
  | zero => intro _; exact List.nil_sublist _
  | succ n ih =>
    intro hn
    have e : l.take (n + 1) = l.take n ++ [l.getD n (0, 0)] := by
      rw [List.take_succ_eq_append_getElem (by omega)]
      simp [List.getD, List.getElem?_eq_getElem (show n < l.length by omega)]
    rw [onlyK, e]
    refine (ih (by omega)).append ?_
    cases S n
    · exact List.nil_sublist _
    · exact List.Sublist.refl _
theorem indL_I {P : Nat} {k c : Int} {l : List (Int × Int)} {S : Nat → Bool} {n : Nat} : IndL P k c (onlyK l S n) ↔ IndI P k c n (fun i => l.getD i (0, 0)) S := by
  constructor
  · intro h m hm
    have := h m
    rw [badS_not, onlyK_cI, wid_set] at this
    omega
  · intro h m
    rw [badS_not, onlyK_cI, wid_set]
    rintro ⟨h1, h2⟩
    have := h m h1
    omega
/-- What a game leaves: bars that are independent, and each other bar is one too many. -/
structure Greedy (P : Nat) (k c : Int) (l E : List (Int × Int)) (S : Nat → Bool) : Prop where
  only : onlyK l S l.length = E
  ind : IndL P k c E
  rest : ∀ i, i < l.length → S i = false → ∃ m, badS (E ++ [l.getD i (0, 0)]) k c P m = true
structure Bars (P : Nat) (l : List (Int × Int)) : Prop where
  bar : ∀ i, i < l.length → 0 ≤ (l.getD i (0, 0)).1 ∧ (l.getD i (0, 0)).1 < (l.getD i (0, 0)).2 ∧ (l.getD i (0, 0)).2 < (P : Int)
/-- No independent part is greater. -/
theorem Greedy.most {P : Nat} {k c : Int} {l E : List (Int × Int)} {S : Nat → Bool} (h : Greedy P k c l E S) (hb : Bars P l) (hk : 1 ≤ k) (hc : 0 ≤ c) (hc2 : c < 2 * k) {E' : List (Int × Int)} (hs : E'.Sublist l) (hi : IndL P k c E') : E'.length ≤ E.length := by
  obtain ⟨J, rfl⟩ := sub_mask hs
  have g : Grd P k c l.length (fun i => l.getD i (0, 0)) := ⟨hb.bar, hk, hc, hc2⟩
  rw [onlyK_size, ← h.only, onlyK_size]
  have hI : IndI P k c l.length (fun i => l.getD i (0, 0)) S := indL_I.1 (by rw [h.only]; exact h.ind)
  refine block_le g (indL_I.1 hi) _ S rfl hI fun j hj _ => ?_
  cases e : S j with
  | true => exact .inl e
  | false =>
    right
    obtain ⟨m, hm⟩ := h.rest j hj e
    have h0 := h.ind m
    rw [badS_iff, cntS_snoc, wid_set] at hm
    rw [badS_not, wid_set] at h0
    rw [← h.only, onlyK_cI] at hm h0
    cases b : bothB m (l.getD j (0, 0)) with
    | false =>
      rw [b] at hm
      simp only [Bool.false_eq_true, if_false, Nat.add_zero] at hm
      exact absurd hm h0
    | true =>
      refine ⟨m, ?_, b⟩
      rw [b, if_pos rfl] at hm
      have hw := kw_pos g.k1 g.c2 (g.two hj b)
      have hIm := hI m
      unfold TightI
      by_cases z : 0 < cI l.length (fun i => l.getD i (0, 0)) S m
      · have := hIm z
        omega
      · omega
theorem Greedy.sub {P : Nat} {k c : Int} {l E : List (Int × Int)} {S : Nat → Bool} (h : Greedy P k c l E S) : E.Sublist l := by
  have := onlyK_sub l S l.length (Nat.le_refl _)
  rwa [List.take_length, h.only] at this
theorem indL_perm {P : Nat} {k c : Int} {E E' : List (Int × Int)} (p : E.Perm E') (h : IndL P k c E) : IndL P k c E' := by
  intro m
  have := h m
  unfold badS cntS at *
  rwa [← p.countP_eq]
theorem Greedy.mono {P : Nat} {k c : Int} {l l' E E' : List (Int × Int)} {S S' : Nat → Bool} (h : Greedy P k c l E S) (h' : Greedy P k c l' E' S') (hb : Bars P l) (hk : 1 ≤ k) (hc : 0 ≤ c) (hc2 : c < 2 * k) (hs : l'.Sublist l) : E'.length ≤ E.length :=
  h.most hb hk hc hc2 (h'.sub.trans hs) h'.ind
theorem Greedy.perm_le {P : Nat} {k c : Int} {l l' E E' : List (Int × Int)} {S S' : Nat → Bool} (h : Greedy P k c l E S) (h' : Greedy P k c l' E' S') (hb : Bars P l) (hk : 1 ≤ k) (hc : 0 ≤ c) (hc2 : c < 2 * k) (p : l'.Perm l) : E'.length ≤ E.length := by
  obtain ⟨E'', h1, h2⟩ := List.exists_perm_sublist h'.sub p
  rw [← h1.length_eq]
  exact h.most hb hk hc hc2 h2 (indL_perm h1.symm h'.ind)
end Go.Proofs.Ytdnmmjaelgjkaaa
/- The pebble game leaves a greatest part that the counts allow, so its rank asks not for the order of the bars. Words on lists, of no program. No condition. -/
namespace Go.Proofs.Ytdnmmjaelgjkaaa

theorem PebS.push {P : Nat} {k : Int} {E : List (Int × Int)} {F T : List Int} (h : PebS P k E F T) {y : Int × Int} (hy : 0 ≤ y.1 ∧ y.1 < y.2 ∧ y.2 < (P : Int)) {t : Int} (ht : isEnd y t) (hf : 0 < F.getD t.toNat 0) :
    PebS P k (E ++ [y]) (F.set t.toNat (F.getD t.toNat 0 - 1)) (T ++ [t]) := by
  obtain ⟨h1, ⟨h2, h3, h4⟩, h5⟩ := h
  have htr : 0 ≤ t ∧ t < (P : Int) := by unfold isEnd at ht; omega
  have eE : (E ++ [y]).getD E.length (0, 0) = y := by simp [List.getD]
  have eT : (T ++ [t]).getD E.length 0 = t := by rw [← h2]; simp [List.getD]
  have lE : ∀ i, i < E.length → (E ++ [y]).getD i (0, 0) = E.getD i (0, 0) := fun i hi => by simp only [List.getD]; rw [List.getElem?_append_left hi]
  have lT : ∀ i, i < E.length → (T ++ [t]).getD i 0 = T.getD i 0 := fun i hi => by simp only [List.getD]; rw [List.getElem?_append_left (by omega)]
  refine ⟨by rw [List.length_set]; exact h1, ⟨by simp [h2], fun i hi => ?_, fun i hi => ?_⟩, fun v hv => ?_⟩
  · rw [List.length_append, List.length_cons, List.length_nil] at hi
    by_cases e : i = E.length
    · subst e
      rw [eE]
      exact hy
    · rw [lE i (by omega)]
      exact h3 i (by omega)
  · rw [List.length_append, List.length_cons, List.length_nil] at hi
    by_cases e : i = E.length
    · subst e
      rw [eE, eT]
      exact ht
    · rw [lE i (by omega), lT i (by omega)]
      exact h4 i (by omega)
  · have hc := h5 v hv
    rw [List.count_append, List.count_singleton]
    by_cases e : v = t.toNat
    · subst e
      have e1 : ((t.toNat : Nat) : Int) = t := by omega
      rw [set_getD_eq _ _ _ _ (by omega)]
      rw [e1] at hc ⊢
      have e4 : (t == t) = true := by simp
      rw [if_pos e4]
      constructor
      · omega
      · rw [Int.natCast_add]
        omega
    · rw [set_getD_ne _ _ _ _ _ e]
      have e4 : ¬ ((t == (v : Int)) = true) := by simp; omega
      rw [if_neg e4]
      exact hc
/-- The bar y between a and b. -/
def Between (y : Int × Int) (a b : Int) : Prop := (y.1 = a ∧ y.2 = b) ∨ (y.1 = b ∧ y.2 = a)
theorem PebS.barsE {P : Nat} {k : Int} {E : List (Int × Int)} {F T : List Int} (h : PebS P k E F T) : ∀ x ∈ E, 0 ≤ x.1 ∧ x.1 < x.2 ∧ x.2 < (P : Int) := by
  intro x hx
  obtain ⟨i, hi, rfl⟩ := List.getElem_of_mem hx
  have h1 := h.ends.bar i hi
  have e : E.getD i (0, 0) = E[i] := by simp [List.getD, List.getElem?_eq_getElem hi]
  rwa [e] at h1
theorem gathE_no {P : Nat} {k c : Int} {E : List (Int × Int)} {F T : List Int} (h : PebS P k E F T) (hP : P ≤ 8) {a b : Int} {y : Int × Int} (hy : 0 ≤ y.1 ∧ y.1 < y.2 ∧ y.2 < (P : Int)) (hab : Between y a b) (e : gathR E a b (c + 1) (F, T) = none) : ∃ m, badS (E ++ [y]) k c P m = true := by
  have hbars := h.barsE
  unfold Between at hab
  unfold gathR at e
  obtain ⟨s', q1, q2, q3, q4⟩ := gath_no (P := P) (k := k) (E := E) (a := a) (b := b) (want := c + 1) (by omega) (by omega) (by omega) _ (F, T) h (by omega) e
  obtain ⟨S, sa, sb, hk⟩ := full_span (F := s'.1) (T := s'.2) q1 hP (a := a) (b := b) (by omega) (by omega) (by omega) q3 q4
  obtain ⟨m, hm, hmS⟩ := mask_of S P
  refine ⟨m, badS_iff.2 ?_⟩
  rw [cntS_snoc]
  have hx : bothB m y = true := by
    unfold bothB
    rw [hmS _ (by omega), hmS _ (by omega)]
    rcases hab with ⟨u1, u2⟩ | ⟨u1, u2⟩
    · rw [u1, u2, sa, sb]; rfl
    · rw [u1, u2, sa, sb]; rfl
  rw [hx, if_pos rfl]
  rw [spanC_mask hmS hbars, outF_mask hmS] at hk
  omega
theorem gathE_yes {P : Nat} {k c : Int} {E : List (Int × Int)} {F T : List Int} (h : PebS P k E F T) {a b : Int} {y : Int × Int} (hy : 0 ≤ y.1 ∧ y.1 < y.2 ∧ y.2 < (P : Int)) (hab : Between y a b) {s : List Int × List Int} (e : gathR E a b (c + 1) (F, T) = some s)
    (hsp : IndL P k c E) : IndL P k c (E ++ [y]) := by
  unfold Between at hab
  obtain ⟨g1, g2⟩ := gathR_ok (P := P) (k := k) (by omega) (by omega) (by omega) h e
  intro m
  have hm := hsp m
  rw [badS_not] at hm ⊢
  rw [cntS_snoc]
  cases hx : bothB m y
  · simpa [hx] using hm
  · have hx' : m.testBit y.1.toNat = true ∧ m.testBit y.2.toNat = true := by
      unfold bothB at hx
      rwa [Bool.and_eq_true] at hx
    have hsum := g1.sum (fun v => m.testBit v)
    have hle := span_le (fun v => m.testBit v) E s.2 g1.ends.len g1.ends.tail
    have h2 := sumS_two (fun v => m.testBit v) (fun v => s.1.getD v 0) P y.1.toNat y.2.toNat (fun v hv => (g1.free v hv).1) (by omega) (by omega) (by omega) hx'.1 hx'.2
    have hc : E.countP (spanC fun v => m.testBit v) = cntS E m := rfl
    have ho : outF P (fun v => m.testBit v) = setL P m := rfl
    rw [hc] at hle
    rw [ho] at hsum
    have h3 : c + 1 ≤ s.1.getD y.1.toNat 0 + s.1.getD y.2.toNat 0 := by
      rcases hab with ⟨u1, u2⟩ | ⟨u1, u2⟩
      · rw [u1, u2]; exact g2
      · rw [u1, u2]; omega
    simp only [if_true]
    omega
/-- Which end of the bar is asked first makes no difference. -/
theorem gathE_iff {P : Nat} {k c : Int} {E : List (Int × Int)} {F T : List Int} (h : PebS P k E F T) (hP : P ≤ 8) (hi : IndL P k c E) {a b : Int} {y : Int × Int} (hy : 0 ≤ y.1 ∧ y.1 < y.2 ∧ y.2 < (P : Int)) (hab : Between y a b) :
    gathR E a b (c + 1) (F, T) = none ↔ ∃ m, badS (E ++ [y]) k c P m = true := by
  constructor
  · exact gathE_no h hP hy hab
  · rintro ⟨m, hm⟩
    cases e : gathR E a b (c + 1) (F, T) with
    | none => rfl
    | some s =>
      rw [gathE_yes h hy hab e hi m] at hm
      cases hm
/-- The state of a game after n bars, of a list that may be of any length. -/
structure GmI (P : Nat) (k c : Int) (l : List (Int × Int)) (n : Nat) (s : List Int × List Int × List Int) : Prop where
  st : PebS P k (plE l s.2.2) s.1 s.2.1
  zs : ∀ z ∈ s.2.2, 0 ≤ z ∧ z < (n : Int)
  only : onlyK l (inS s.2.2) n = plE l s.2.2
  ind : IndL P k c (plE l s.2.2)
  rest : ∀ i, i < n → inS s.2.2 i = false → ∃ m, badS (plE l s.2.2 ++ [l.getD i (0, 0)]) k c P m = true
theorem bad_more {P : Nat} {k c : Int} {E : List (Int × Int)} {x y : Int × Int} (h : ∃ m, badS (E ++ [x]) k c P m = true) : ∃ m, badS (E ++ [y] ++ [x]) k c P m = true := by
  obtain ⟨m, hm⟩ := h
  exact ⟨m, bad_sup ((List.sublist_append_left E [y]).append (List.Sublist.refl [x])) hm⟩
/-- A bar that is placed. -/
theorem plaE_push {P : Nat} {k c : Int} {l : List (Int × Int)} {F T Z : List Int} (h : PebS P k (plE l Z) F T) (hc : 0 ≤ c) {n : Nat} (hy : 0 ≤ (l.getD n (0, 0)).1 ∧ (l.getD n (0, 0)).1 < (l.getD n (0, 0)).2 ∧ (l.getD n (0, 0)).2 < (P : Int)) {s : List Int × List Int × List Int} (e : plaR l c F T Z (n : Int) = some s) :
    s.2.2 = Z ++ [(n : Int)] ∧ PebS P k (plE l Z ++ [l.getD n (0, 0)]) s.1 s.2.1 ∧ ∃ s1, gathR (plE l Z) (l.getD n (0, 0)).1 (l.getD n (0, 0)).2 (c + 1) (F, T) = some s1 := by
  unfold plaR at e
  rw [Int.toNat_natCast] at e
  obtain ⟨s1, h1, rfl⟩ := Option.map_eq_some_iff.1 e
  obtain ⟨g1, g2⟩ := gathR_ok (P := P) (k := k) (by omega) (by omega) (by omega) h h1
  split
  · exact ⟨rfl, g1.push hy (.inr rfl) (by omega), s1, h1⟩
  · rename_i h0
    have := g1.small (v := (l.getD n (0, 0)).1) (by omega)
    exact ⟨rfl, g1.push hy (.inl rfl) (by omega), s1, h1⟩
theorem runN_gm {P : Nat} {k c : Int} {l : List (Int × Int)} (hb : Bars P l) (hP : 1 ≤ P ∧ P ≤ 8) (hk : 1 ≤ k) (hc : 0 ≤ c) : ∀ n, n ≤ l.length → GmI P k c l n (runN P k c l n) := by
  intro n
  induction n with
  | zero =>
    intro _
    refine ⟨⟨by simp [runN], ⟨rfl, fun i hi => absurd hi (by simp [runN, plE]), fun i hi => absurd hi (by simp [runN, plE])⟩, fun v hv => ?_⟩, fun z hz => absurd hz (by simp [runN]), rfl, fun m => by rw [badS_not]; simp [runN, plE, cntS], fun i hi => by omega⟩
    simp [runN, List.getD, hv]
    omega
  | succ n ih =>
    intro hn
    have hi := ih (by omega)
    have hy := hb.bar n (by omega)
    unfold runN
    generalize runN P k c l n = s0 at *
    have hni : inS s0.2.2 n = false := decide_eq_false fun hm => by have := hi.zs _ hm; omega
    cases e : plaR l c s0.1 s0.2.1 s0.2.2 (n : Int) with
    | none =>
      simp only [Option.getD_none]
      have e2 : gathR (plE l s0.2.2) (l.getD n (0, 0)).1 (l.getD n (0, 0)).2 (c + 1) (s0.1, s0.2.1) = none := by
        unfold plaR at e
        rw [Int.toNat_natCast, Option.map_eq_none_iff] at e
        exact e
      refine ⟨hi.st, fun z hz => by have := hi.zs z hz; omega, ?_, hi.ind, fun i hin hiS => ?_⟩
      · unfold onlyK
        rw [hni, hi.only]
        simp
      · by_cases c1 : i = n
        · subst c1
          exact gathE_no hi.st hP.2 hy (.inl ⟨rfl, rfl⟩) e2
        · exact hi.rest i (by omega) hiS
    | some s =>
      simp only [Option.getD_some]
      obtain ⟨g1, g2, s1, g3⟩ := plaE_push hi.st hc hy e
      have hag : ∀ i, i < n → inS (s0.2.2 ++ [(n : Int)]) i = inS s0.2.2 i := fun i hi => by
        unfold inS
        have : ¬ (i : Int) = (n : Int) := by omega
        simp [this]
      have hin : inS (s0.2.2 ++ [(n : Int)]) n = true := decide_eq_true (by simp)
      have hE : plE l s.2.2 = plE l s0.2.2 ++ [l.getD n (0, 0)] := by rw [g1, plE_snoc, Int.toNat_natCast]
      refine ⟨by rw [hE]; exact g2, fun z hz => ?_, ?_, by rw [hE]; exact gathE_yes hi.st hy (.inl ⟨rfl, rfl⟩) g3 hi.ind, fun i hin' hiS => ?_⟩
      · rw [g1] at hz
        rcases List.mem_append.1 hz with h | h
        · have := hi.zs z h; omega
        · rw [List.mem_singleton] at h; omega
      · rw [hE, g1]
        unfold onlyK
        rw [hin, if_pos rfl, onlyK_agree l _ _ n hag, hi.only]
      · rw [hE]
        rw [g1] at hiS
        by_cases c1 : i = n
        · subst c1
          rw [hin] at hiS
          cases hiS
        · rw [hag i (by omega)] at hiS
          exact bad_more (hi.rest i (by omega) hiS)
/-- The rank of a list of bars. -/
def rk (P : Nat) (k c : Int) (l : List (Int × Int)) : Nat := (runN P k c l l.length).2.2.length
theorem rk_greedy {P : Nat} {k c : Int} {l : List (Int × Int)} (hb : Bars P l) (hP : 1 ≤ P ∧ P ≤ 8) (hk : 1 ≤ k) (hc : 0 ≤ c) : Greedy P k c l (plE l (runN P k c l l.length).2.2) (inS (runN P k c l l.length).2.2) := by
  have h := runN_gm hb hP hk hc l.length (Nat.le_refl _)
  exact ⟨h.only, h.ind, h.rest⟩
/-- Fewer bars, no more rank. -/
theorem rk_mono {P : Nat} {k c : Int} {l l' : List (Int × Int)} (hb : Bars P l) (hb' : Bars P l') (hP : 1 ≤ P ∧ P ≤ 8) (hk : 1 ≤ k) (hc : 0 ≤ c) (hc2 : c < 2 * k) (hs : l'.Sublist l) : rk P k c l' ≤ rk P k c l := by
  have := (rk_greedy hb hP hk hc).mono (rk_greedy hb' hP hk hc) hb hk hc hc2 hs
  rwa [plE_len, plE_len] at this
theorem rk_perm {P : Nat} {k c : Int} {l l' : List (Int × Int)} (hb : Bars P l) (hb' : Bars P l') (hP : 1 ≤ P ∧ P ≤ 8) (hk : 1 ≤ k) (hc : 0 ≤ c) (hc2 : c < 2 * k) (p : l'.Perm l) : rk P k c l' = rk P k c l := by
  have h1 := (rk_greedy hb hP hk hc).perm_le (rk_greedy hb' hP hk hc) hb hk hc hc2 p
  have h2 := (rk_greedy hb' hP hk hc).perm_le (rk_greedy hb hP hk hc) hb' hk hc hc2 p.symm
  rw [plE_len, plE_len] at h1 h2
  exact Nat.le_antisymm h1 h2
theorem plE_app {l : List (Int × Int)} (r : List (Int × Int)) {Z : List Int} (h : ∀ z ∈ Z, 0 ≤ z ∧ z < (l.length : Int)) : plE (l ++ r) Z = plE l Z := by
  unfold plE
  refine List.map_congr_left fun z hz => ?_
  have := h z hz
  simp only [List.getD]
  rw [List.getElem?_append_left (by omega)]
theorem runN_app {P : Nat} {k c : Int} {l : List (Int × Int)} (r : List (Int × Int)) (hb : Bars P l) (hP : 1 ≤ P ∧ P ≤ 8) (hk : 1 ≤ k) (hc : 0 ≤ c) : ∀ n, n ≤ l.length → runN P k c (l ++ r) n = runN P k c l n := by
  intro n
  induction n with
  | zero => intro _; rfl
  | succ n ih =>
    intro hn
    have h := runN_gm hb hP hk hc n (by omega)
    unfold runN
    rw [ih (by omega)]
    generalize runN P k c l n = s0 at *
    have e1 : plE (l ++ r) s0.2.2 = plE l s0.2.2 := plE_app r fun z hz => by have := h.zs z hz; omega
    have e2 : (l ++ r).getD (n : Int).toNat (0, 0) = l.getD (n : Int).toNat (0, 0) := by
      simp only [List.getD]
      rw [List.getElem?_append_left (by omega)]
    unfold plaR
    rw [e1, e2]
theorem bars_snoc {P : Nat} {l : List (Int × Int)} (hb : Bars P l) {y : Int × Int} (hy : 0 ≤ y.1 ∧ y.1 < y.2 ∧ y.2 < (P : Int)) : Bars P (l ++ [y]) := by
  refine ⟨fun i hi => ?_⟩
  rw [List.length_append, List.length_cons, List.length_nil] at hi
  by_cases e : i = l.length
  · subst e
    have : (l ++ [y]).getD l.length (0, 0) = y := by simp [List.getD]
    rw [this]
    exact hy
  · have : (l ++ [y]).getD i (0, 0) = l.getD i (0, 0) := by simp only [List.getD]; rw [List.getElem?_append_left (by omega)]
    rw [this]
    exact hb.bar i (by omega)
theorem bars_perm {P : Nat} {l l' : List (Int × Int)} (hb : Bars P l) (p : l'.Perm l) : Bars P l' := by
  refine ⟨fun i hi => ?_⟩
  have e : l'.getD i (0, 0) = l'[i] := by simp [List.getD, List.getElem?_eq_getElem hi]
  rw [e]
  have hm : l'[i] ∈ l := p.mem_iff.1 (List.getElem_mem hi)
  obtain ⟨j, hj, ej⟩ := List.getElem_of_mem hm
  have h := hb.bar j hj
  have e2 : l.getD j (0, 0) = l[j] := by simp [List.getD, List.getElem?_eq_getElem hj]
  rw [e2, ej] at h
  exact h
/-- One bar more raises the rank exactly if its ends can have a pebble more than c. -/
theorem rk_one {P : Nat} {k c : Int} {l l' : List (Int × Int)} (hb : Bars P l) (hP : 1 ≤ P ∧ P ≤ 8) (hk : 1 ≤ k) (hc : 0 ≤ c) (hc2 : c < 2 * k) {a b : Int} {y : Int × Int} (hy : 0 ≤ y.1 ∧ y.1 < y.2 ∧ y.2 < (P : Int)) (hab : Between y a b) (p : l'.Perm (l ++ [y])) :
    rk P k c l' = rk P k c l ↔ gathR (plE l (runN P k c l l.length).2.2) a b (c + 1) ((runN P k c l l.length).1, (runN P k c l l.length).2.1) = none := by
  have hb1 := bars_snoc hb hy
  rw [rk_perm hb1 (bars_perm hb1 p) hP hk hc hc2 p]
  have h := runN_gm hb hP hk hc l.length (Nat.le_refl _)
  have e0 := runN_app [y] hb hP hk hc l.length (Nat.le_refl _)
  have e2 : (l ++ [y]).getD l.length (0, 0) = y := by simp [List.getD]
  rw [gathE_iff h.st hP.2 h.ind hy hab, ← gathE_iff h.st hP.2 h.ind hy (.inl ⟨rfl, rfl⟩)]
  unfold rk
  rw [List.length_append, List.length_cons, List.length_nil, Nat.zero_add, runN, e0]
  generalize runN P k c l l.length = s0 at *
  have e1 : plE (l ++ [y]) s0.2.2 = plE l s0.2.2 := plE_app [y] h.zs
  unfold plaR
  rw [Int.toNat_natCast, e1, e2]
  cases gathR (plE l s0.2.2) y.1 y.2 (c + 1) (s0.1, s0.2.1) with
  | none => simp
  | some s => simp; split <;> simp
end Go.Proofs.Ytdnmmjaelgjkaaa
/- What IsImplied answers, by ranks and by the game's last state. No program's walk. No condition. -/
namespace Go.Proofs.Ytdnmmjaelgjkaaa
open Go.RowKit

/-- The bar between a and b, its lesser end first. -/
def barOf (a b : Int) : Int × Int := if a ≤ b then (a, b) else (b, a)
theorem insU_perm {x : Int × Int} {l : List (Int × Int)} (h : OrdB l) : (insU x l).Perm (l ++ [x]) := by
  rw [insU_low x l h]
  refine List.perm_middle.trans ?_
  rw [List.take_append_drop]
  exact (List.perm_append_singleton x l).symm
/-- What IsImplied answers. -/
noncomputable def impB (p a b : Int) (l : List (Int × Int)) : Bool := isGB p l && (decide (0 ≤ a ∧ a < p) && (decide (0 ≤ b ∧ b < p) && (decide (a = b) || decide (rk p.toNat 2 3 (insU (barOf a b) l) = rk p.toNat 2 3 l))))
theorem imp_no {p a b : Int} {l : List (Int × Int)} (h : isGB p l = false ∨ ¬ (0 ≤ a ∧ a < p) ∨ ¬ (0 ≤ b ∧ b < p)) : impB p a b l = false := by
  unfold impB
  rcases h with h | h | h
  · rw [h]; rfl
  · rw [decide_eq_false h]; simp
  · rw [decide_eq_false h]; simp
theorem imp_same {p a : Int} {l : List (Int × Int)} (h : isGB p l = true) (ha : 0 ≤ a ∧ a < p) : impB p a a l = true := by
  unfold impB
  rw [h, decide_eq_true ha]
  simp
theorem imp_rk {p a b : Int} {l : List (Int × Int)} (h : isGB p l = true) (ha : 0 ≤ a ∧ a < p) (hb : 0 ≤ b ∧ b < p) (hab : a ≠ b) : impB p a b l = decide (rk p.toNat 2 3 (insU (barOf a b) l) = rk p.toNat 2 3 l) := by
  unfold impB
  rw [h, decide_eq_true ha, decide_eq_true hb, decide_eq_false hab]
  simp
theorem barOf_in {p a b : Int} (ha : 0 ≤ a ∧ a < p) (hb : 0 ≤ b ∧ b < p) (hab : a ≠ b) : (0 ≤ (barOf a b).1 ∧ (barOf a b).1 < (barOf a b).2 ∧ (barOf a b).2 < p) ∧ Between (barOf a b) a b := by
  unfold barOf Between
  split <;> simp <;> omega
theorem bars_ofI {P : Nat} {l : List (Int × Int)} (hG : IsG (P : Int) l) : Bars P l := ⟨fun i hi => by have := hG.2.2 i hi; unfold OkBar at this; exact ⟨this.1, this.2.1, this.2.2.1⟩⟩
theorem run23 {p : Int} {l : List (Int × Int)} (h : isGB p l = true) : newB p 2 l = true ∧ rangeB 2 3 = true := by
  unfold newB
  rw [h]
  exact ⟨rfl, rfl⟩
theorem runB23 {p : Int} {l : List (Int × Int)} (h : isGB p l = true) : runB p 2 3 l = true := by
  unfold runB
  rw [(run23 h).1, (run23 h).2]
  rfl
theorem runB23_no {p : Int} {l : List (Int × Int)} (h : isGB p l = false) : runB p 2 3 l = false := by
  unfold runB newB
  rw [h]
  rfl
/-- The same, asked of the game's last state. -/
theorem imp_gath {P : Nat} {a b : Int} {l : List (Int × Int)} (hG : IsG (P : Int) l) (ha : 0 ≤ a ∧ a < (P : Int)) (hb : 0 ≤ b ∧ b < (P : Int)) (hab : a ≠ b) :
    impB (P : Int) a b l = !(gathR (plE l (runN P 2 3 l l.length).2.2) a b 4 ((runN P 2 3 l l.length).1, (runN P 2 3 l l.length).2.1)).isSome := by
  obtain ⟨h1, h2⟩ := barOf_in ha hb hab
  have h3 := rk_one (k := 2) (c := 3) (bars_ofI hG) (by have := hG.1; omega) (by omega) (by omega) (by omega) h1 h2 (insU_perm (x := barOf a b) (isG_ord hG))
  rw [imp_rk (isGB_yes hG) ha hb hab, Int.toNat_natCast]
  have e : (3 : Int) + 1 = 4 := rfl
  rw [e] at h3
  cases hg : gathR (plE l (runN P 2 3 l l.length).2.2) a b 4 ((runN P 2 3 l l.length).1, (runN P 2 3 l l.length).2.1) with
  | none => rw [decide_eq_true (h3.2 hg)]; rfl
  | some s => rw [decide_eq_false (fun q => by have := h3.1 q; rw [hg] at this; cases this)]; rfl
end Go.Proofs.Ytdnmmjaelgjkaaa
/- Copies of rows of bars: words on rows of the call's own. No condition. -/
namespace Go.Proofs.Ytdnmmjaelgjkaaa
open Go.RowKit

theorem barCells_at {w : World} {b off : Nat} {l : List (Int × Int)} (h : ∀ k, k < l.length → w.cell? ⟨b, off + k * 2, none⟩ = some (.int .i64 (l.getD k (0, 0)).1) ∧ w.cell? ⟨b, off + k * 2 + 1, none⟩ = some (.int .i64 (l.getD k (0, 0)).2)) : ∀ j u, (barCells l)[j]? = some u → w.cell? ⟨b, off + j, none⟩ = some u := by
  intro j u hj
  have hlt : j < l.length * 2 := by
    have := (List.getElem?_eq_some_iff.1 hj).1
    rwa [barCells_len] at this
  have hj2 : j = j / 2 * 2 ∨ j = j / 2 * 2 + 1 := by omega
  have hk : j / 2 < l.length := by omega
  generalize j / 2 = k at *
  have hg := barCells_get l k hk
  have hc := h k hk
  rcases hj2 with rfl | rfl
  · rw [hg.1] at hj
    cases hj
    exact hc.1
  · rw [hg.2] at hj
    cases hj
    exact hc.2
theorem barCells_one (l : List (Int × Int)) : ∀ u ∈ barCells l, u.oneCell' = true := by
  intro u hu
  obtain ⟨x, _, hx⟩ := List.mem_flatMap.1 hu
  simp at hx
  rcases hx with rfl | rfl <;> rfl

/-- A row of bars of the call's own. -/
def RowO (w : World) (l : List (Int × Int)) (e : Ending) (w' : World) : Prop :=
  ∃ A2 c2, e = .returned (.slice A2 l.length c2) ∧ w'.ownsRow w.heap.size 85 2 (.slice A2 l.length c2) l.length (barCells l) ∧ Below w.heap.size w w'

/-- An append onto a row of the call's own, as one step of a region that draws its order. -/
theorem step_own {P : Program} {w : World} {ops : Array Oper} {o : Oper} {a : Act} {K : Act → World → Prop} {Q : Exit → Act → World → Prop} {E : Prop} (hgd : o.guard = none) (s x : Operand) (t : TypeId)
    (ho : o.op = .call { callee := .builtin .append, args := #[s, x], argTypes := #[t, t] })
    (base : Nat) (e : TypeId) (i : TypeInfo) (z : Value) (size bytes : Nat) (ht : P.underlying t = some (.slice e)) (hi : P.info? e = some i) (hz : i.zero = some z)
    (hsize : i.size = size) (hby : i.bytes = bytes) (hzs : z.cells.size = size) (hsz : 0 < size)
    (v : Value) (n : Nat) (xs : List Value) (hs : a.eval s = v) (hown : w.ownsRow base e size v n xs)
    (ad : Addr) (m c : Nat) (news : List Value) (hx : a.eval x = .slice (some ad) m c) (hl : news.length = m * size) (hnews : ∀ j u, news[j]? = some u → w.cell? (ad.add j) = some u) (h1 : ∀ u ∈ news, u.oneCell' = true)
    (h63 : n + m ≤ maxLen) (hbytes : (n + m) * bytes ≤ 140737488355328) (hbase : base ≤ w.heap.size)
    (h : ∀ v' w', w'.ownsRow base e size v' (n + m) (xs ++ news) → w.grownBy w' v.ownBlock → K (a.put o.dst v') w') :
    if Region.wanted o (yielded ops a.tmps) = true then Oper.wp P o a w K Q else E := by
  have hw : Region.wanted o (yielded ops a.tmps) = true := by simp [Region.wanted, hgd]
  rw [if_pos hw]
  exact wp_append_own w s x t ho base e i z size bytes ht hi hz hsize hby hzs hsz v n xs hs hown ad m c news hx hl hnews h1 h63 hbytes hbase fun v' w' h2 h3 _ => h v' w' h2 h3

/-- The answer's variable r is written behind a row of the call's own. -/
theorem row_ret {w w3 : World} {r B' : Nat} {A2 : Option Addr} {c2 : Nat} {l : List (Int × Int)} (ho : w3.ownsRow B' 85 2 (.slice A2 l.length c2) l.length (barCells l)) (hB : Below w.heap.size w w3) (h1 : w.heap.size ≤ r) (h2 : r < B') (u v : Value) :
    OwnIn ((w3.setCell ⟨r, 0, none⟩ u).setCell ⟨r, 1, none⟩ v) w.heap.size ((w3.setCell ⟨r, 0, none⟩ u).setCell ⟨r, 1, none⟩ v).heap.size A2 c2 l ∧ Below w.heap.size w ((w3.setCell ⟨r, 0, none⟩ u).setCell ⟨r, 1, none⟩ v) := by
  have hg := (grownBy_set w3 r 0 u).trans_ (grownBy_set (w3.setCell ⟨r, 0, none⟩ u) r 1 v)
  refine ⟨own_in' ((own_base ho (by omega)).kept hg ?_), hB.grown hg hB.size fun g e => by cases e; exact h1⟩
  cases A2 with
  | none => exact .inl rfl
  | some a =>
    have := (ho.lt a.block rfl).1
    exact .inr (by simp [Value.ownBlock]; omega)
theorem OwnIn.drew {w : World} {lo : Nat} {A : Option Addr} {c : Nat} {l : List (Int × Int)} (h : OwnIn w lo w.heap.size A c l) : OwnIn w.drew lo w.drew.heap.size A c l := h.within (within_of ((Below.refl _ _).drew)) (by omega)
theorem ret_cells {w3 : World} {r : Nat} {p u : Int} {a v : Value} (h0 : w3.cell? ⟨r, 0, none⟩ = some (.int .i64 u)) (h1 : w3.cell? ⟨r, 1, none⟩ = some a) :
    ((w3.setCell ⟨r, 0, none⟩ (.int .i64 p)).setCell ⟨r, 1, none⟩ v).cell? ⟨r, 0, none⟩ = some (.int .i64 p) ∧ ((w3.setCell ⟨r, 0, none⟩ (.int .i64 p)).setCell ⟨r, 1, none⟩ v).cell? ⟨r, 1, none⟩ = some v := by
  constructor
  · rw [World.cell?_setCell_other _ _ _ _ (by intro e; simp at e)]
    exact World.cell?_setCell_same _ _ _ h0
  · have r2 : (w3.setCell ⟨r, 0, none⟩ (.int .i64 p)).cell? ⟨r, 1, none⟩ = some a := by
      rw [World.cell?_setCell_other _ _ _ _ (by intro e; simp at e)]
      exact h1
    exact World.cell?_setCell_same _ _ _ r2

end Go.Proofs.Ytdnmmjaelgjkaaa
/- What spec.l2Copy answers: a copy of the call's own. No condition. -/
namespace Go.Proofs.Ytdnmmjaelgjkaaa
open Go.RowKit

set_option maxHeartbeats 2000000 in
set_option maxRecDepth 100000 in
theorem copy_c (p : Int) (l : List (Int × Int)) (a : Addr) (cap : Nat) (w : World) (hl : BarsAt w w.heap.size (some a) l) (hn : l.length ≤ 1048576) :
    Calls Try.prog 142 #[.agg #[.int .i64 p, .slice (some a) l.length cap]] w (GraphO w p l) := by
  obtain ⟨i0, hi0, hz0, hz1, hz2⟩ := info_parts infoBar
  have hA1 := new_below w (.cells #[.int .i64 p, .slice (some a) l.length cap] 29)
  have hA2 := new_below (w.alloc (.cells #[.int .i64 p, .slice (some a) l.length cap] 29)) (.cells #[.int .i64 0, .slice none 0 0] 29)
  have hA := below_on hA1 hA2 hA1.size
  have hsz1 : (w.alloc (.cells #[.int .i64 p, .slice (some a) l.length cap] 29)).heap.size = w.heap.size + 1 := by simp
  have hsz2 : ((w.alloc (.cells #[.int .i64 p, .slice (some a) l.length cap] 29)).alloc (.cells #[.int .i64 0, .slice none 0 0] 29)).heap.size = w.heap.size + 2 := by simp
  have hX := (box_new w p (.slice (some a) l.length cap) 29).kept hA2
  have hR := box_new (w.alloc (.cells #[.int .i64 p, .slice (some a) l.length cap] 29)) 0 (.slice none 0 0) 29
  have hF : ((w.alloc (.cells #[.int .i64 p, .slice (some a) l.length cap] 29)).alloc (.cells #[.int .i64 0, .slice none 0 0] 29)).frozen? ⟨(w.alloc (.cells #[.int .i64 p, .slice (some a) l.length cap] 29)).heap.size, 0, none⟩ = false ∧ ((w.alloc (.cells #[.int .i64 p, .slice (some a) l.length cap] 29)).alloc (.cells #[.int .i64 0, .slice none 0 0] 29)).frozen? ⟨(w.alloc (.cells #[.int .i64 p, .slice (some a) l.length cap] 29)).heap.size, 1, none⟩ = false := ⟨World.frozen?_alloc_at _ _ _ _ rfl, World.frozen?_alloc_at _ _ _ _ rfl⟩
  rw [hsz1] at hR hF
  have HLA := Lib.hid (hl.on hA)
  go_enter Try.func142, Try.ntmps142
  go_wp2_with fail
  generalize ((w.alloc (.cells #[.int .i64 p, .slice (some a) l.length cap] 29)).alloc (.cells #[.int .i64 0, .slice none 0 0] 29)) = w1 at *
  have hal := new_below w1 (.cells #[] 85)
  have HM := Lib.hid (World.ownsRow_made (base := w1.heap.size) (e := 85) (size := 2) w1 #[] 0 (Nat.le_refl _) (by unfold maxLen; omega) (by simp))
  have HC := Lib.hid (show ∀ j u, (barCells l)[j]? = some u → ((w1.alloc (.cells #[] 85)).drew).cell? (a.add j) = some u from fun j u hj => by
    have hlt : j < l.length * 2 := by
      have := (List.getElem?_eq_some_iff.1 hj).1
      rwa [barCells_len] at this
    obtain ⟨b, off, e, hb, hc⟩ := HLA.out (by omega)
    cases e
    have hadd : (⟨b, off, none⟩ : Addr).add j = ⟨b, off + j, none⟩ := by unfold Addr.add; split <;> simp_all
    rw [hadd]
    exact (hal.cell (p := ⟨b, off + j, none⟩) hb).trans (barCells_at hc j u hj))
  have HAD := Lib.hid (below_on hA hal hA.size)
  have HXD := Lib.hid (hX.kept hal)
  have HRD := Lib.hid (hR.kept hal)
  have HFD := Lib.hid (show (w1.alloc (.cells #[] 85)).frozen? ⟨w.heap.size + 1, 0, none⟩ = false ∧ (w1.alloc (.cells #[] 85)).frozen? ⟨w.heap.size + 1, 1, none⟩ = false from ⟨(hal.frozen (p := ⟨w.heap.size + 1, 0, none⟩) hR.1).trans hF.1, (hal.frozen (p := ⟨w.heap.size + 1, 1, none⟩) hR.1).trans hF.2⟩)
  obtain ⟨_, x0, x1⟩ := hX
  have HSZ := Lib.hid hsz2
  clear hl hA1 hA2 hA hsz1 hsz2 hR hF hal
  go_region_law (refine step_own (by rfl) _ _ _ (by rfl) w1.heap.size 85 i0 _ 2 16 Try.underlying27 hi0 hz0 hz1 hz2 rfl (by omega) _ 0 [] (by rfl) HM.out.drew a l.length cap (barCells l) (by rfl) (barCells_len l) HC.out (barCells_one l) (by unfold maxLen; omega) (by omega) (by simp) ?_; intro v' w3 ho hg; rw [Nat.zero_add, List.nil_append] at ho; obtain ⟨A2, c2, rfl⟩ := own_shape ho; have hb : Below w1.heap.size (w1.alloc (.cells #[] 85)) w3 := ((Below.refl _ _).drew).grown hg (by simp) (fun k hk => by cases hk; exact Nat.le_refl _); have hlt : w.heap.size + 1 < w1.heap.size := (by have := HSZ.out; omega); have y0 := (hb.cell (p := ⟨w.heap.size, 0, none⟩) (show w.heap.size < w1.heap.size by omega)).trans HXD.out.2.1; have z0 := (hb.cell (p := ⟨w.heap.size + 1, 0, none⟩) hlt).trans HRD.out.2.1; have z1 := (hb.cell (p := ⟨w.heap.size + 1, 1, none⟩) hlt).trans HRD.out.2.2; have f0 := (hb.frozen (p := ⟨w.heap.size + 1, 0, none⟩) hlt).trans HFD.out.1; have f1 := (hb.frozen (p := ⟨w.heap.size + 1, 1, none⟩) hlt).trans HFD.out.2; have HO := Lib.hid ho; have HB := Lib.hid (HAD.out.trans (hb.mono (by omega))); have HZ := Lib.hid (And.intro z0 z1); have HLT := Lib.hid hlt; clear ho hb hg hlt)
  all_goals
    go_wp2_with fail
    obtain ⟨s0, s1⟩ := ret_cells (p := p) (v := .slice A2 l.length c2) HZ.out.1 HZ.out.2
    obtain ⟨r1, r2⟩ := row_ret HO.out HB.out (r := w.heap.size + 1) (by omega) HLT.out (.int .i64 p) (.slice A2 l.length c2)
    refine bodyPost_ret (v := .agg #[.int .i64 p, .slice A2 l.length c2]) ?_ rfl ⟨A2, c2, rfl, ?_, ?_⟩
    · simp [results, Try.results142, go_sem, s0, s1]
    · first | exact r1 | exact r1.drew
    · first | exact r2 | exact r2.drew
end Go.Proofs.Ytdnmmjaelgjkaaa
/- What RemoveBar answers, the specification's. No condition. -/
namespace Go.Proofs.Ytdnmmjaelgjkaaa
open Go.RowKit

/-- Can the bar be taken out? -/
noncomputable def remR (p k : Int) (l : List (Int × Int)) : Bool := isGB p l && (decide (0 ≤ k) && decide (k < (l.length : Int)))
noncomputable def remL (p k : Int) (l : List (Int × Int)) : List (Int × Int) := if remR p k l = true then l.take k.toNat ++ l.drop (k.toNat + 1) else l
theorem remL_len (p k : Int) (l : List (Int × Int)) (h : l.length ≤ 1048576) : (remL p k l).length ≤ 1048576 := by
  unfold remL
  split
  · simp; omega
  · exact h
theorem rem_no {p k : Int} {l : List (Int × Int)} (h : isGB p l = false ∨ k < 0 ∨ (l.length : Int) ≤ k) : remR p k l = false ∧ remL p k l = l := by
  have e : remR p k l = false := by
    unfold remR
    rcases h with h | h | h
    · rw [h]; rfl
    · rw [decide_eq_false (by omega : ¬ 0 ≤ k)]; simp
    · rw [decide_eq_false (by omega : ¬ k < (l.length : Int))]; simp
  exact ⟨e, by unfold remL; rw [e]; rfl⟩
theorem rem_yes {p : Int} {k : Nat} {l : List (Int × Int)} (h : isGB p l = true) (hk : k < l.length) : remR p k l = true ∧ remL p k l = l.take k ++ l.drop (k + 1) := by
  have e : remR p k l = true := by
    unfold remR
    rw [h]
    simp
    omega
  refine ⟨e, ?_⟩
  unfold remL
  rw [if_pos e]
  rfl

theorem barCells_take : ∀ (l : List (Int × Int)) (k : Nat), barCells (l.take k) = (barCells l).take (k * 2) := by
  intro l
  induction l with
  | nil => intro k; simp [barCells]
  | cons x l ih =>
    intro k
    rcases k with _ | k
    · simp [barCells]
    · have := ih k
      simp only [barCells] at this ⊢
      rw [List.take_succ_cons, List.flatMap_cons, this, show (k + 1) * 2 = k * 2 + 2 by omega, List.flatMap_cons]
      rfl
theorem barCells_drop : ∀ (l : List (Int × Int)) (k : Nat), barCells (l.drop k) = (barCells l).drop (k * 2) := by
  intro l
  induction l with
  | nil => intro k; simp [barCells]
  | cons x l ih =>
    intro k
    rcases k with _ | k
    · simp [barCells]
    · have := ih k
      simp only [barCells] at this ⊢
      rw [List.drop_succ_cons, this, show (k + 1) * 2 = k * 2 + 2 by omega, List.flatMap_cons]
      rfl
theorem two_other {w4 : World} {s r : Nat} {u v x y : Value} (hne : s ≠ r) (h0 : w4.cell? ⟨s, 0, none⟩ = some x) (h1 : w4.cell? ⟨s, 1, none⟩ = some y) :
    ((w4.setCell ⟨r, 0, none⟩ u).setCell ⟨r, 1, none⟩ v).cell? ⟨s, 0, none⟩ = some x ∧ ((w4.setCell ⟨r, 0, none⟩ u).setCell ⟨r, 1, none⟩ v).cell? ⟨s, 1, none⟩ = some y := by
  constructor
  · rw [World.cell?_setCell_other _ _ _ _ (by intro e; simp only [Addr.mk.injEq] at e; omega), World.cell?_setCell_other _ _ _ _ (by intro e; simp only [Addr.mk.injEq] at e; omega)]
    exact h0
  · rw [World.cell?_setCell_other _ _ _ _ (by intro e; simp only [Addr.mk.injEq] at e; omega), World.cell?_setCell_other _ _ _ _ (by intro e; simp only [Addr.mk.injEq] at e; omega)]
    exact h1
/-- The answer's variable r is written behind what a call returned. -/
theorem ownIn_ret {w w3 : World} {r lo : Nat} {A2 : Option Addr} {c2 : Nat} {l : List (Int × Int)} (ho : OwnIn w3 lo w3.heap.size A2 c2 l) (hB : Below w.heap.size w w3) (h1 : w.heap.size ≤ r) (h2 : r < lo) (u v : Value) :
    OwnIn ((w3.setCell ⟨r, 0, none⟩ u).setCell ⟨r, 1, none⟩ v) w.heap.size ((w3.setCell ⟨r, 0, none⟩ u).setCell ⟨r, 1, none⟩ v).heap.size A2 c2 l ∧ Below w.heap.size w ((w3.setCell ⟨r, 0, none⟩ u).setCell ⟨r, 1, none⟩ v) := by
  have hg := (grownBy_set w3 r 0 u).trans_ (grownBy_set (w3.setCell ⟨r, 0, none⟩ u) r 1 v)
  refine ⟨?_, hB.grown hg hB.size fun g e => by cases e; exact h1⟩
  rcases ho.2 with h | ⟨g, e, k1, k2, hown⟩
  · exact ⟨Nat.le_refl _, .inl h⟩
  · refine ⟨Nat.le_refl _, .inr ⟨g, e, by omega, Nat.lt_of_lt_of_le k2 hg.size, (own_base hown (by omega)).kept hg (.inr (by simp [Value.ownBlock]; omega))⟩⟩

set_option maxHeartbeats 4000000 in
set_option maxRecDepth 100000 in
theorem specRemoveO (p k : Int) (l : List (Int × Int)) (A : Option Addr) (cap : Nat) (w : World) (hl : BarsAt w w.heap.size A l) (hn : l.length ≤ 1048576) (hA : ∃ a, A = some a) (hcap : l.length ≤ cap) :
    Calls Try.prog 101 #[.agg #[.int .i64 p, .slice A l.length cap], .int .i64 k] w (GraphOB w p (remL p k l) (remR p k l)) := by
  obtain ⟨a, rfl⟩ := hA
  obtain ⟨i0, hi0, hz0, hz1, hz2⟩ := info_parts infoBar
  have hA1 := new_below w (.cells #[.int .i64 p, .slice (some a) l.length cap] 29)
  have hA2 := new_below (w.alloc (.cells #[.int .i64 p, .slice (some a) l.length cap] 29)) (.cells #[.int .i64 0, .slice none 0 0] 29)
  have hA := below_on hA1 hA2 hA1.size
  have hsz1 : (w.alloc (.cells #[.int .i64 p, .slice (some a) l.length cap] 29)).heap.size = w.heap.size + 1 := by simp
  have hsz2 : ((w.alloc (.cells #[.int .i64 p, .slice (some a) l.length cap] 29)).alloc (.cells #[.int .i64 0, .slice none 0 0] 29)).heap.size = w.heap.size + 2 := by simp
  have BX := Lib.hid ((box_new w p (.slice (some a) l.length cap) 29).kept hA2)
  have hR := box_new (w.alloc (.cells #[.int .i64 p, .slice (some a) l.length cap] 29)) 0 (.slice none 0 0) 29
  have hF : ((w.alloc (.cells #[.int .i64 p, .slice (some a) l.length cap] 29)).alloc (.cells #[.int .i64 0, .slice none 0 0] 29)).frozen? ⟨(w.alloc (.cells #[.int .i64 p, .slice (some a) l.length cap] 29)).heap.size, 0, none⟩ = false ∧ ((w.alloc (.cells #[.int .i64 p, .slice (some a) l.length cap] 29)).alloc (.cells #[.int .i64 0, .slice none 0 0] 29)).frozen? ⟨(w.alloc (.cells #[.int .i64 p, .slice (some a) l.length cap] 29)).heap.size, 1, none⟩ = false := ⟨World.frozen?_alloc_at _ _ _ _ rfl, World.frozen?_alloc_at _ _ _ _ rfl⟩
  rw [hsz1] at hR hF
  have HR := Lib.hid hR
  have HF := Lib.hid hF
  have HL := Lib.hid (hl.on hA)
  have HA := Lib.hid hA
  have HSZ := Lib.hid hsz2
  clear hl hA1 hA2 hA hsz1 hsz2 hR hF
  by_cases hbad : isGB p l = false ∨ k < 0 ∨ (l.length : Int) ≤ k
  · rw [(rem_no hbad).1, (rem_no hbad).2]
    have hcase : isGB p l = false ∨ (isGB p l = true ∧ k < 0) ∨ (isGB p l = true ∧ ¬ k < 0 ∧ (l.length : Int) ≤ k) := by
      rcases hg : isGB p l with _ | _
      · exact .inl rfl
      · rcases hbad with h | h | h
        · rw [hg] at h; cases h
        · exact .inr (.inl ⟨rfl, h⟩)
        · exact .inr (.inr ⟨rfl, by omega, h⟩)
    clear hbad
    rcases hcase with hg | ⟨hg, h1⟩ | ⟨hg, h1, h2⟩
    all_goals
      go_enter Try.func101, Try.ntmps101
      go_wp2_with fail
      generalize ((w.alloc (.cells #[.int .i64 p, .slice (some a) l.length cap] 29)).alloc (.cells #[.int .i64 0, .slice none 0 0] 29)) = w1 at *
      refine (specIsGraph' p l (some a) cap _ HL.out hn).mono ?_
      rintro e w2 ⟨rfl, hb⟩
      have HB2 := Lib.hid (below_on HA.out hb HA.out.size)
      have BX2 := Lib.hid (BX.out.kept hb)
      have HR2 := Lib.hid (HR.out.kept hb)
      have HF2 := Lib.hid (show w2.frozen? ⟨w.heap.size + 1, 0, none⟩ = false ∧ w2.frozen? ⟨w.heap.size + 1, 1, none⟩ = false from ⟨(hb.frozen (p := ⟨w.heap.size + 1, 0, none⟩) HR.out.1).trans HF.out.1, (hb.frozen (p := ⟨w.heap.size + 1, 1, none⟩) HR.out.1).trans HF.out.2⟩)
      have HL2 := Lib.hid (HL.out.on hb)
      obtain ⟨_, x0, x1⟩ := BX2.out
      clear hb
      go_wp2_with fail
      clear x0 x1
      refine (copy_c p l a cap _ HL2.out hn).mono ?_
      rintro e w3 ⟨A2, c2, rfl, ho, hb⟩
      obtain ⟨_, z0, z1⟩ := HR2.out.kept hb
      have f0 := (hb.frozen (p := ⟨w.heap.size + 1, 0, none⟩) HR2.out.1).trans HF2.out.1
      have f1 := (hb.frozen (p := ⟨w.heap.size + 1, 1, none⟩) HR2.out.1).trans HF2.out.2
      have HB3 := Lib.hid (below_on HB2.out hb HB2.out.size)
      have HO3 := Lib.hid ho
      have HLT := Lib.hid HR2.out.1
      clear hb ho
      obtain ⟨s0, s1⟩ := ret_cells (p := p) (v := .slice A2 l.length c2) z0 z1
      obtain ⟨r1, r2⟩ := ownIn_ret HO3.out HB3.out (r := w.heap.size + 1) (by omega) HLT.out (.int .i64 p) (.slice A2 l.length c2)
      go_wp2_with fail
      refine bodyPost_ret (v := .tuple #[.agg #[.int .i64 p, .slice A2 l.length c2], .bool false]) ?_ rfl ⟨A2, c2, rfl, r1, r2⟩
      simp [results, Try.results101, go_sem, s0, s1]
  · have hg : isGB p l = true := by
      cases h : isGB p l with
      | false => exact absurd (.inl h) hbad
      | true => rfl
    obtain ⟨K, rfl⟩ : ∃ K : Nat, k = (K : Int) := ⟨k.toNat, by omega⟩
    have hk : K < l.length := by omega
    rw [(rem_yes hg hk).1, (rem_yes hg hk).2]
    obtain ⟨L, hL⟩ : ∃ L, L = l.take K ++ l.drop (K + 1) := ⟨_, rfl⟩
    have HLL := Lib.hid (show K + (l.length - (K + 1)) = L.length by rw [hL]; simp; omega)
    have HBL := Lib.hid (show barCells (l.take K) ++ barCells (l.drop (K + 1)) = barCells L by rw [hL, barCells_append])
    rw [← hL]
    clear hL
    have hk0 : ¬ (K : Int) < 0 := by omega
    have hk1 : ¬ (l.length : Int) ≤ (K : Int) := by omega
    obtain ⟨b, off, e, hbB, hcell⟩ := HL.out (by omega)
    cases e
    clear hbad
    go_enter Try.func101, Try.ntmps101
    go_wp2_with fail
    generalize ((w.alloc (.cells #[.int .i64 p, .slice (some ⟨b, off, none⟩) l.length cap] 29)).alloc (.cells #[.int .i64 0, .slice none 0 0] 29)) = w1 at *
    refine (specIsGraph' p l _ cap _ HL.out hn).mono ?_
    rintro e w2 ⟨rfl, hb⟩
    have HB2 := Lib.hid (below_on HA.out hb HA.out.size)
    have BX2 := Lib.hid (BX.out.kept hb)
    have HR2 := Lib.hid (HR.out.kept hb)
    have HF2 := Lib.hid (show w2.frozen? ⟨w.heap.size + 1, 0, none⟩ = false ∧ w2.frozen? ⟨w.heap.size + 1, 1, none⟩ = false from ⟨(hb.frozen (p := ⟨w.heap.size + 1, 0, none⟩) HR.out.1).trans HF.out.1, (hb.frozen (p := ⟨w.heap.size + 1, 1, none⟩) HR.out.1).trans HF.out.2⟩)
    have HC2 := Lib.hid (barCells_at (w := w2) (b := b) (off := off) (l := l) fun j hj => ⟨(hb.cell (p := ⟨b, off + j * 2, none⟩) hbB).trans (hcell j hj).1, (hb.cell (p := ⟨b, off + j * 2 + 1, none⟩) hbB).trans (hcell j hj).2⟩)
    have HBB := Lib.hid (Nat.lt_of_lt_of_le hbB hb.size)
    obtain ⟨hX, x0, x1⟩ := BX2.out
    clear hb hcell hbB
    have hi0' : (0 : Int) ≤ (K : Int) := by omega
    have hi1 : (K : Int) ≤ (cap : Int) := by omega
    have hi2 : (K : Int) + 1 ≤ (l.length : Int) := by omega
    have hi3 : (0 : Int) ≤ (K : Int) + 1 := by omega
    have hw : IntKind.i64.wrap ((K : Int) + 1) = (K : Int) + 1 := IntWalk.i64_in _ (by omega)
    have htn : ((K : Int) + 1).toNat = K + 1 := by omega
    have hal := new_below w2 (.cells #[] 85)
    have HM := Lib.hid (World.ownsRow_made (base := w2.heap.size) (e := 85) (size := 2) w2 #[] 0 (Nat.le_refl _) (by unfold maxLen; omega) (by simp)).drew
    have xa0 : ((w2.alloc (.cells #[] 85)).drew).cell? ⟨w.heap.size, 0, none⟩ = some (.int .i64 p) := (hal.cell (p := ⟨w.heap.size, 0, none⟩) hX).trans x0
    have xa1 : ((w2.alloc (.cells #[] 85)).drew).cell? ⟨w.heap.size, 1, none⟩ = some (.slice (some ⟨b, off, none⟩) l.length cap) := (hal.cell (p := ⟨w.heap.size, 1, none⟩) hX).trans x1
    have N1 := Lib.hid (show ∀ j u, (barCells (l.take K))[j]? = some u → ((w2.alloc (.cells #[] 85)).drew).cell? ((⟨b, off, none⟩ : Addr).add j) = some u from fun j u hj => by
      rw [barCells_take, List.getElem?_take] at hj
      split at hj
      · rw [Addr.add_lit]
        exact (hal.cell (p := ⟨b, off + j, none⟩) HBB.out).trans (HC2.out j u hj)
      · cases hj)
    obtain ⟨ad, hAd, hN2⟩ : ∃ ad : Addr, (if cap = K + 1 then (some ⟨b, off, none⟩ : Option Addr) else some ⟨b, off + (K + 1) * 2, none⟩) = some ad ∧ ∀ W : World, Below w2.heap.size w2 W → ∀ j u, (barCells (l.drop (K + 1)))[j]? = some u → W.cell? (ad.add j) = some u := by
      by_cases h : cap = K + 1
      · refine ⟨⟨b, off, none⟩, by simp [h], fun W hW j u hj => ?_⟩
        rw [List.drop_eq_nil_of_le (by omega)] at hj
        simp [barCells] at hj
      · refine ⟨⟨b, off + (K + 1) * 2, none⟩, by simp [h], fun W hW j u hj => ?_⟩
        rw [barCells_drop, List.getElem?_drop] at hj
        rw [Addr.add_lit, show off + (K + 1) * 2 + j = off + ((K + 1) * 2 + j) by omega]
        exact (hW.cell (p := ⟨b, off + ((K + 1) * 2 + j), none⟩) HBB.out).trans (HC2.out _ u hj)
    have N2 := Lib.hid hN2
    have hl1 : (barCells (l.take K)).length = K * 2 := by rw [barCells_len, List.length_take]; omega
    have hl2 : (barCells (l.drop (K + 1))).length = (l.length - (K + 1)) * 2 := by rw [barCells_len, List.length_drop]
    have H1 := Lib.hid hl1
    have H2 := Lib.hid hl2
    have HAL := Lib.hid hal
    clear hal hN2 hl1 hl2
    go_wp2_with fail
    go_region_held3 (fun W' => W'.cell? ⟨w.heap.size, 0, none⟩ = some (.int .i64 p) ∧ W'.cell? ⟨w.heap.size, 1, none⟩ = some (.slice (some ⟨b, off, none⟩) l.length cap))
      (first | exact ⟨x0, x1⟩ | exact ⟨xa0, xa1⟩ | exact ⟨y0, y1⟩ | exact ⟨u0, u1⟩ | exact ⟨t0, t1⟩ | fail)
      (first
        | (refine step_own (by rfl) _ _ _ (by rfl) w2.heap.size 85 i0 _ 2 16 Try.underlying27 hi0 hz0 hz1 hz2 rfl (by omega) _ 0 [] (by rfl) HM.out ⟨b, off, none⟩ K cap (barCells (l.take K)) (by rfl) H1.out N1.out (barCells_one _) (by unfold maxLen; omega) (by omega) (by simp) ?_; intro v1 w3 ho1 hg1; rw [Nat.zero_add, List.nil_append] at ho1; have hb3 : Below w2.heap.size w2 w3 := ((HAL.out.drew).grown hg1 (by simp) (fun k hk => by cases hk; exact Nat.le_refl _)); have y0 := (hb3.cell (p := ⟨w.heap.size, 0, none⟩) hX).trans x0; have y1 := (hb3.cell (p := ⟨w.heap.size, 1, none⟩) hX).trans x1; have HO1 := Lib.hid ho1; have HB3 := Lib.hid hb3; clear ho1 hg1 hb3)
        | (refine step_own (by rfl) _ _ _ (by rfl) w2.heap.size 85 i0 _ 2 16 Try.underlying27 hi0 hz0 hz1 hz2 rfl (by omega) v1 K (barCells (l.take K)) (by rfl) HO1.out ad (l.length - (K + 1)) (cap - (K + 1)) (barCells (l.drop (K + 1))) (by rfl) H2.out (N2.out _ HB3.out) (barCells_one _) (by unfold maxLen; omega) (by omega) HB3.out.size ?_; intro v2 w4 ho2 hg2; rw [HBL.out, HLL.out] at ho2; have hb4 : Below w2.heap.size w2 w4 := (HB3.out.grown hg2 HB3.out.size (fun g hk => (HO1.out.lt g hk).1)); obtain ⟨A2, c2, rfl⟩ := own_shape ho2; have u0 := (hb4.cell (p := ⟨w.heap.size, 0, none⟩) hX).trans x0; have u1 := (hb4.cell (p := ⟨w.heap.size, 1, none⟩) hX).trans x1; have z0 := (hb4.cell (p := ⟨w.heap.size + 1, 0, none⟩) HR2.out.1).trans HR2.out.2.1; have z1 := (hb4.cell (p := ⟨w.heap.size + 1, 1, none⟩) HR2.out.1).trans HR2.out.2.2; have f0 := (hb4.frozen (p := ⟨w.heap.size + 1, 0, none⟩) HR2.out.1).trans HF2.out.1; have f1 := (hb4.frozen (p := ⟨w.heap.size + 1, 1, none⟩) HR2.out.1).trans HF2.out.2; have HO2 := Lib.hid ho2; have HB4 := Lib.hid (below_on HB2.out hb4 HB2.out.size); have HZ := Lib.hid (And.intro z0 z1); obtain ⟨t0, t1⟩ := two_other (u := .int .i64 p) (v := .slice A2 L.length c2) (r := w.heap.size + 1) (Nat.ne_of_lt (Nat.lt_succ_self w.heap.size)) u0 u1; clear ho2 hg2 hb4))
    go_wp2_with fail
    obtain ⟨s0, s1⟩ := ret_cells (p := p) (v := .slice A2 L.length c2) HZ.out.1 HZ.out.2
    obtain ⟨r1, r2⟩ := row_ret HO2.out HB4.out (r := w.heap.size + 1) (by omega) HR2.out.1 (.int .i64 p) (.slice A2 L.length c2)
    refine bodyPost_ret (v := .tuple #[.agg #[.int .i64 p, .slice A2 L.length c2], .bool true]) ?_ rfl ⟨A2, c2, rfl, ?_, ?_⟩
    · simp [results, Try.results101, go_sem, s0, s1]
    · first | exact r1 | exact r1.drew
    · first | exact r2 | exact r2.drew
theorem specRemove (p k : Int) (l : List (Int × Int)) (A : Option Addr) (cap : Nat) (w : World) (hl : BarsAt w w.heap.size A l) (hn : l.length ≤ 1048576) (hA : ∃ a, A = some a) (hcap : l.length ≤ cap) :
    Calls Try.prog 101 #[.agg #[.int .i64 p, .slice A l.length cap], .int .i64 k] w (GraphRB w p (remL p k l) (remR p k l)) :=
  (specRemoveO p k l A cap w hl hn hA hcap).mono fun _ _ ⟨A2, c2, e, r1, r2⟩ => ⟨A2, c2, e, r1.bars.at, r2⟩
end Go.Proofs.Ytdnmmjaelgjkaaa
/- What spec.l2Put answers: the bar in its place. No condition. -/
namespace Go.Proofs.Ytdnmmjaelgjkaaa
open Go.RowKit

/-- Where the walk stands: is the bar placed? -/
def PutSt (x : Int × Int) (t : List (Int × Int)) (b : Bool) : Prop := (b = false → ∀ y ∈ t, aftB y x = true) ∧ (b = true → ∃ y ∈ t, aftB y x = false)
def putL (x : Int × Int) (t : List (Int × Int)) (b : Bool) : List (Int × Int) := if b = true then insU x t else t
theorem putL_len (x : Int × Int) (t : List (Int × Int)) (b : Bool) : (putL x t b).length ≤ t.length + 1 := by
  unfold putL
  split
  · rw [insU_len]; omega
  · omega
theorem put_yes {x y : Int × Int} {t : List (Int × Int)} (h : PutSt x t false) (hy : aftB y x = true) : PutSt x (t ++ [y]) false ∧ putL x (t ++ [y]) false = putL x t false ++ [y] :=
  ⟨⟨fun _ z hz => by
    rcases List.mem_append.1 hz with hz | hz
    · exact h.1 rfl z hz
    · have : z = y := by simpa using hz
      rw [this]; exact hy, fun e => by cases e⟩, rfl⟩
theorem put_now {x y : Int × Int} {t : List (Int × Int)} (h : PutSt x t false) (hy : aftB y x = false) : PutSt x (t ++ [y]) true ∧ putL x (t ++ [y]) true = (putL x t false ++ [x]) ++ [y] := by
  refine ⟨⟨fun e => (by cases e), fun _ => ⟨y, by simp, hy⟩⟩, ?_⟩
  show insU x (t ++ [y]) = (t ++ [x]) ++ [y]
  rw [insU_all x t [y] (h.1 rfl)]
  simp [insU, hy]
theorem put_past {x y : Int × Int} {t : List (Int × Int)} (h : PutSt x t true) : PutSt x (t ++ [y]) true ∧ putL x (t ++ [y]) true = putL x t true ++ [y] := by
  obtain ⟨z, hz, hzx⟩ := h.2 rfl
  exact ⟨⟨fun e => (by cases e), fun _ => ⟨z, by simp [hz], hzx⟩⟩, insU_some x t [y] ⟨z, hz, hzx⟩⟩
theorem put_end {x : Int × Int} {t : List (Int × Int)} (h : PutSt x t false) : insU x t = putL x t false ++ [x] := by
  have := insU_all x t [] (h.1 rfl)
  rw [List.append_nil] at this
  exact this

set_option maxHeartbeats 4000000 in
set_option maxRecDepth 100000 in
theorem put_c (p : Int) (x : Int × Int) (l : List (Int × Int)) (A : Option Addr) (cap : Nat) (w : World) (hl : BarsAt w w.heap.size A l) (hn : l.length ≤ 1048576) :
    Calls Try.prog 81 #[.agg #[.int .i64 p, .slice A l.length cap], .agg #[.int .i64 x.1, .int .i64 x.2]] w (GraphO w p (insU x l)) := by
  obtain ⟨i0, hi0, hz0, hz1, hz2⟩ := info_parts infoBar
  have hA1 := new_below w (.cells #[.int .i64 p, .slice A l.length cap] 29)
  have hA2 := new_below (w.alloc (.cells #[.int .i64 p, .slice A l.length cap] 29)) (.cells #[.int .i64 x.1, .int .i64 x.2] 85)
  have hA3 := new_below ((w.alloc (.cells #[.int .i64 p, .slice A l.length cap] 29)).alloc (.cells #[.int .i64 x.1, .int .i64 x.2] 85)) (.cells #[.int .i64 0, .slice none 0 0] 29)
  have hA12 := below_on hA1 hA2 hA1.size
  have hA := below_on hA12 hA3 hA12.size
  have hs1 : (w.alloc (.cells #[.int .i64 p, .slice A l.length cap] 29)).heap.size = w.heap.size + 1 := by simp
  have hs2 : ((w.alloc (.cells #[.int .i64 p, .slice A l.length cap] 29)).alloc (.cells #[.int .i64 x.1, .int .i64 x.2] 85)).heap.size = w.heap.size + 2 := by simp
  have hs3 : (((w.alloc (.cells #[.int .i64 p, .slice A l.length cap] 29)).alloc (.cells #[.int .i64 x.1, .int .i64 x.2] 85)).alloc (.cells #[.int .i64 0, .slice none 0 0] 29)).heap.size = w.heap.size + 3 := by simp
  have BX := Lib.hid (((box_new w p (.slice A l.length cap) 29).kept hA2).kept hA3)
  have hX := (box_new (w.alloc (.cells #[.int .i64 p, .slice A l.length cap] 29)) x.1 (.int .i64 x.2) 85).kept hA3
  have hR := box_new ((w.alloc (.cells #[.int .i64 p, .slice A l.length cap] 29)).alloc (.cells #[.int .i64 x.1, .int .i64 x.2] 85)) 0 (.slice none 0 0) 29
  have hF : (((w.alloc (.cells #[.int .i64 p, .slice A l.length cap] 29)).alloc (.cells #[.int .i64 x.1, .int .i64 x.2] 85)).alloc (.cells #[.int .i64 0, .slice none 0 0] 29)).frozen? ⟨((w.alloc (.cells #[.int .i64 p, .slice A l.length cap] 29)).alloc (.cells #[.int .i64 x.1, .int .i64 x.2] 85)).heap.size, 0, none⟩ = false ∧ (((w.alloc (.cells #[.int .i64 p, .slice A l.length cap] 29)).alloc (.cells #[.int .i64 x.1, .int .i64 x.2] 85)).alloc (.cells #[.int .i64 0, .slice none 0 0] 29)).frozen? ⟨((w.alloc (.cells #[.int .i64 p, .slice A l.length cap] 29)).alloc (.cells #[.int .i64 x.1, .int .i64 x.2] 85)).heap.size, 1, none⟩ = false := ⟨World.frozen?_alloc_at _ _ _ _ rfl, World.frozen?_alloc_at _ _ _ _ rfl⟩
  rw [hs1] at hX
  rw [hs2] at hR hF
  have hG := gbox_made (((w.alloc (.cells #[.int .i64 p, .slice A l.length cap] 29)).alloc (.cells #[.int .i64 x.1, .int .i64 x.2] 85)).alloc (.cells #[.int .i64 0, .slice none 0 0] 29)) w.heap.size [w.heap.size, w.heap.size + 1, w.heap.size + 2] p (by rw [hs3]; omega) (fun o ho => by rw [hs3]; simp at ho; omega)
  rw [hs3] at hG
  have HX := Lib.hid hX
  have HR := Lib.hid hR
  have HF := Lib.hid hF
  have HG := Lib.hid hG
  have HA := Lib.hid hA
  have HLW := Lib.hid hl
  clear hl hA1 hA2 hA3 hA12 hA hs1 hs2 hX hR hF hG
  go_enter Try.func81, Try.ntmps81
  go_wp2_with fail
  have HS3 := Lib.hid hs3
  clear hs3
  generalize (((((w.alloc (.cells #[.int .i64 p, .slice A l.length cap] 29)).alloc (.cells #[.int .i64 x.1, .int .i64 x.2] 85)).alloc (.cells #[.int .i64 0, .slice none 0 0] 29)).alloc (.cells #[] 85)).alloc (.cells #[.int .i64 p, .slice (some ⟨w.heap.size + 3, 0, none⟩) 0 0] 29)) = w1 at *
  generalize (((w.alloc (.cells #[.int .i64 p, .slice A l.length cap] 29)).alloc (.cells #[.int .i64 x.1, .int .i64 x.2] 85)).alloc (.cells #[.int .i64 0, .slice none 0 0] 29)) = w0 at *
  obtain ⟨x1, x2⟩ := x
  go_loopw [6, 7] (fun pl i wr => ∃ k : Nat, k ≤ l.length ∧ i = .int .i64 k ∧ ∃ b : Bool, pl = .bool b ∧ PutSt (x1, x2) (l.take k) b ∧ ∃ A' c', GBox w.heap.size w0 wr (w.heap.size + 3 + 1) [w.heap.size, w.heap.size + 1, w.heap.size + 2] p A' c' (putL (x1, x2) (l.take k) b)) (fun _ i _ => l.length - (intOf i).toNat)
  case atStart => exact ⟨0, by omega, rfl, false, rfl, ⟨fun _ y hy => by simp at hy, fun e => by cases e⟩, _, _, HG.out⟩
  case round =>
    obtain ⟨k, hk, rfl, b, rfl, hput, A', c', hst⟩ := hrel
    have HST := Lib.hid hst
    have HPUT := Lib.hid hput
    clear hst hput
    by_cases hlt : k < l.length
    · have hik : (k : Int) < (l.length : Int) := by omega
      obtain ⟨b0, off, rfl, hbB, hcell⟩ := HLW.out (by omega)
      have HCELL := Lib.hid hcell
      clear hcell
      have HT := Lib.hid (take_getD l (0, 0) k hlt)
      have hll := putL_len (x1, x2) (l.take k) b
      have hlk : (l.take k).length = k := by simp; omega
      obtain ⟨hlt0, g1, g2⟩ := HST.out.1
      have gf := HST.out.2.1
      have b1 := (HST.out.cell (o := w.heap.size) (k := 1) (by simp)).trans BX.out.2.2
      have e0 := (HST.out.cell (o := w.heap.size + 1) (k := 0) (by simp)).trans HX.out.2.1
      have e1 := (HST.out.cell (o := w.heap.size + 1) (k := 1) (by simp)).trans HX.out.2.2
      have HBW := Lib.hid (HA.out.trans HST.out.2.2.2.2.2.1)
      have hbs : w.heap.size ≤ wr.heap.size := Nat.le_of_lt (Nat.lt_of_le_of_lt HST.out.2.2.2.2.2.2 HST.out.1.1)
      have hc1 := (HBW.out.cell (p := ⟨b0, off + k * 2, none⟩) hbB).trans (HCELL.out k hlt).1
      have hc2 := (HBW.out.cell (p := ⟨b0, off + k * 2 + 1, none⟩) hbB).trans (HCELL.out k hlt).2
      obtain ⟨y, hy⟩ : ∃ y, l.getD k (0, 0) = y := ⟨_, rfl⟩
      have HY := Lib.hid hy
      have HT' := Lib.hid (show l.take (k + 1) = l.take k ++ [y] by rw [HT.out, hy])
      rw [hy] at hc1 hc2
      clear hy
      obtain ⟨y1, y2⟩ := y
      simp only at hc1 hc2
      obtain ⟨L, hL⟩ : ∃ L, L = putL (x1, x2) (l.take k) b := ⟨_, rfl⟩
      rw [← hL] at HST hll
      rw [← hL] at g2
      have HLD := Lib.hid hL
      clear hL
      cases b with
      | false =>
        rcases ha : aftB (y1, y2) (x1, x2) with _ | _
        · have HN := Lib.hid (put_now HPUT.out ha)
          go_wp2_with fail
          go_still_tail 9, (by kernel_rfl)
          change wpList _ _ _ _ _ wr.drew
          have hdr : Below wr.heap.size wr wr.drew := (Below.refl _ _).drew
          have HSD := Lib.hid (HST.out.below hdr)
          clear hdr g1 g2 gf b1 e0 e1 hc1 hc2
          generalize wr.drew = w2 at *
          go_wp2_with fail
          refine (after_no (y1, y2) (x1, x2) _ ha).mono ?_
          rintro e w3 ⟨rfl, hb3⟩
          have HSE := Lib.hid (HSD.out.below hb3)
          clear hb3
          obtain ⟨hlt0, g1, g2⟩ := HSE.out.1
          have gf := HSE.out.2.1
          have b1 := (HSE.out.cell (o := w.heap.size) (k := 1) (by simp)).trans BX.out.2.2
          have e0 := (HSE.out.cell (o := w.heap.size + 1) (k := 0) (by simp)).trans HX.out.2.1
          have e1 := (HSE.out.cell (o := w.heap.size + 1) (k := 1) (by simp)).trans HX.out.2.2
          have HBW := Lib.hid (HA.out.trans HSE.out.2.2.2.2.2.1)
          have hbs : w.heap.size ≤ w3.heap.size := Nat.le_of_lt (Nat.lt_of_le_of_lt HSE.out.2.2.2.2.2.2 HSE.out.1.1)
          have hc1 := (HBW.out.cell (p := ⟨b0, off + k * 2, none⟩) hbB).trans (HCELL.out k hlt).1
          have hc2 := (HBW.out.cell (p := ⟨b0, off + k * 2 + 1, none⟩) hbB).trans (HCELL.out k hlt).2
          rw [HY.out] at hc1 hc2
          simp only at hc1 hc2
          go_wp2_with (at_builtin; refine wpList_at _ rfl _ _ 27 rfl w.heap.size 85 (.agg #[.int .i64 0, .int .i64 0]) 2 16 Try.underlying27 infoBar rfl (by decide) _ _ _ rfl HSE.out.2.2.2.1 #[.int .i64 x1, .int .i64 x2] 1 rfl (by simp [Value.oneCell']) _ 1 rfl (by omega) (by unfold maxLen; omega) hbs ?_; intro v' w' ho hg hat _; obtain ⟨c0, c1, f1, A2, c2, rfl, hG2⟩ := HSE.out.push (x1, x2) ho hg hat; have HGX := Lib.hid hG2; clear ho hg hat hG2)
          clear hlt0 g1 g2 gf b1 e0 e1 hbs hc1 hc2 c0 c1 f1
          generalize w'.setCell ⟨w.heap.size + 3 + 1, 1, none⟩ (.slice A2 (L.length + 1) c2) = w4 at *
          obtain ⟨L2, hL2⟩ : ∃ L2, L2 = L ++ [(x1, x2)] := ⟨_, rfl⟩
          have hl2 : L.length + 1 = L2.length := by rw [hL2]; simp
          rw [← hL2] at HGX
          rw [hl2]
          have HL2 := Lib.hid hL2
          clear hL2
          obtain ⟨hlt0, g1, g2⟩ := HGX.out.1
          have gf := HGX.out.2.1
          have b1 := (HGX.out.cell (o := w.heap.size) (k := 1) (by simp)).trans BX.out.2.2
          have e0 := (HGX.out.cell (o := w.heap.size + 1) (k := 0) (by simp)).trans HX.out.2.1
          have e1 := (HGX.out.cell (o := w.heap.size + 1) (k := 1) (by simp)).trans HX.out.2.2
          have HBW := Lib.hid (HA.out.trans HGX.out.2.2.2.2.2.1)
          have hbs : w.heap.size ≤ w4.heap.size := Nat.le_of_lt (Nat.lt_of_le_of_lt HGX.out.2.2.2.2.2.2 HGX.out.1.1)
          have hc1 := (HBW.out.cell (p := ⟨b0, off + k * 2, none⟩) hbB).trans (HCELL.out k hlt).1
          have hc2 := (HBW.out.cell (p := ⟨b0, off + k * 2 + 1, none⟩) hbB).trans (HCELL.out k hlt).2
          rw [HY.out] at hc1 hc2
          simp only at hc1 hc2
          go_region_law (refine step_append_lies _ (by rfl) _ _ _ (by rfl) w.heap.size 85 i0 _ 2 16 Try.underlying27 hi0 hz0 hz1 hz2 rfl (by omega) _ L2.length (barCells L2) (by rfl) ((HGX.out.2.2.2.1.alloc _).drew) ⟨w4.heap.size, 0, none⟩ 1 1 [.int .i64 y1, .int .i64 y2] (by rfl) (by rfl) (World.news_of_block (cs := #[.int .i64 y1, .int .i64 y2]) (t := 85) (fr := (0, 0)) (heap_alloc_new w4 _)) (by simp [Value.oneCell']) (by omega) (by unfold maxLen; omega) (by omega) (by simp; omega) (w4.heap.size + 1) (by simp) ?_; intro gg cap2 w1' hown1 hgrow hat hlt; obtain ⟨c0, c1, f1, hG2⟩ := HGX.out.push2 (y1, y2) hown1 hgrow hat; have HG2 := Lib.hid hG2; clear hown1 hgrow hat hG2)
          all_goals
            go_wp2_with fail
            go_roundw
            case rel => exact ⟨k + 1, by omega, by go_num, true, rfl, by rw [HT'.out]; exact HN.out.1, _, cap2, by rw [HT'.out, HN.out.2, ← HLD.out, ← HL2.out]; first | exact HG2.out | exact HG2.out.drew⟩
            case measure => simp [intOf]; omega
        · have HN := Lib.hid (put_yes HPUT.out ha)
          go_wp2_with fail
          go_still_tail 9, (by kernel_rfl)
          change wpList _ _ _ _ _ wr.drew
          have hdr : Below wr.heap.size wr wr.drew := (Below.refl _ _).drew
          have HSD := Lib.hid (HST.out.below hdr)
          clear hdr g1 g2 gf b1 e0 e1 hc1 hc2
          generalize wr.drew = w2 at *
          go_wp2_with fail
          refine (after_yes (y1, y2) (x1, x2) _ ha).mono ?_
          rintro e w3 ⟨rfl, hb3⟩
          have HSE := Lib.hid (HSD.out.below hb3)
          clear hb3
          obtain ⟨hlt0, g1, g2⟩ := HSE.out.1
          have gf := HSE.out.2.1
          have b1 := (HSE.out.cell (o := w.heap.size) (k := 1) (by simp)).trans BX.out.2.2
          have e0 := (HSE.out.cell (o := w.heap.size + 1) (k := 0) (by simp)).trans HX.out.2.1
          have e1 := (HSE.out.cell (o := w.heap.size + 1) (k := 1) (by simp)).trans HX.out.2.2
          have HBW := Lib.hid (HA.out.trans HSE.out.2.2.2.2.2.1)
          have hbs : w.heap.size ≤ w3.heap.size := Nat.le_of_lt (Nat.lt_of_le_of_lt HSE.out.2.2.2.2.2.2 HSE.out.1.1)
          have hc1 := (HBW.out.cell (p := ⟨b0, off + k * 2, none⟩) hbB).trans (HCELL.out k hlt).1
          have hc2 := (HBW.out.cell (p := ⟨b0, off + k * 2 + 1, none⟩) hbB).trans (HCELL.out k hlt).2
          rw [HY.out] at hc1 hc2
          simp only at hc1 hc2
          go_wp2_with fail
          go_region_law (refine step_append_lies _ (by rfl) _ _ _ (by rfl) w.heap.size 85 i0 _ 2 16 Try.underlying27 hi0 hz0 hz1 hz2 rfl (by omega) _ L.length (barCells L) (by rfl) ((HSE.out.2.2.2.1.alloc _).drew) ⟨w3.heap.size, 0, none⟩ 1 1 [.int .i64 y1, .int .i64 y2] (by rfl) (by rfl) (World.news_of_block (cs := #[.int .i64 y1, .int .i64 y2]) (t := 85) (fr := (0, 0)) (heap_alloc_new w3 _)) (by simp [Value.oneCell']) (by omega) (by unfold maxLen; omega) (by omega) (by simp; omega) (w3.heap.size + 1) (by simp) ?_; intro gg cap2 w1' hown1 hgrow hat hlt; obtain ⟨c0, c1, f1, hG2⟩ := HSE.out.push2 (y1, y2) hown1 hgrow hat; have HG2 := Lib.hid hG2; clear hown1 hgrow hat hG2)
          all_goals
            go_wp2_with fail
            go_roundw
            case rel => exact ⟨k + 1, by omega, by go_num, false, rfl, by rw [HT'.out]; exact HN.out.1, _, cap2, by rw [HT'.out, HN.out.2, ← HLD.out]; first | exact HG2.out | exact HG2.out.drew⟩
            case measure => simp [intOf]; omega
      | true =>
        have HN := Lib.hid (put_past (y := (y1, y2)) HPUT.out)
        go_wp2_with fail
        go_quiet (fail)
        have HSE := Lib.hid (HST.out.below (below_drewN wr.heap.size wr nq))
        clear hlt0 g1 g2 gf b1 e0 e1 hbs hc1 hc2
        generalize wr.drewN nq = w3 at *
        obtain ⟨hlt0, g1, g2⟩ := HSE.out.1
        have gf := HSE.out.2.1
        have b1 := (HSE.out.cell (o := w.heap.size) (k := 1) (by simp)).trans BX.out.2.2
        have e0 := (HSE.out.cell (o := w.heap.size + 1) (k := 0) (by simp)).trans HX.out.2.1
        have e1 := (HSE.out.cell (o := w.heap.size + 1) (k := 1) (by simp)).trans HX.out.2.2
        have HBW := Lib.hid (HA.out.trans HSE.out.2.2.2.2.2.1)
        have hbs : w.heap.size ≤ w3.heap.size := Nat.le_of_lt (Nat.lt_of_le_of_lt HSE.out.2.2.2.2.2.2 HSE.out.1.1)
        have hc1 := (HBW.out.cell (p := ⟨b0, off + k * 2, none⟩) hbB).trans (HCELL.out k hlt).1
        have hc2 := (HBW.out.cell (p := ⟨b0, off + k * 2 + 1, none⟩) hbB).trans (HCELL.out k hlt).2
        rw [HY.out] at hc1 hc2
        simp only at hc1 hc2
        go_wp2_with fail
        go_region_law (refine step_append_lies _ (by rfl) _ _ _ (by rfl) w.heap.size 85 i0 _ 2 16 Try.underlying27 hi0 hz0 hz1 hz2 rfl (by omega) _ L.length (barCells L) (by rfl) ((HSE.out.2.2.2.1.alloc _).drew) ⟨w3.heap.size, 0, none⟩ 1 1 [.int .i64 y1, .int .i64 y2] (by rfl) (by rfl) (World.news_of_block (cs := #[.int .i64 y1, .int .i64 y2]) (t := 85) (fr := (0, 0)) (heap_alloc_new w3 _)) (by simp [Value.oneCell']) (by omega) (by unfold maxLen; omega) (by omega) (by simp; omega) (w3.heap.size + 1) (by simp) ?_; intro gg cap2 w1' hown1 hgrow hat hlt; obtain ⟨c0, c1, f1, hG2⟩ := HSE.out.push2 (y1, y2) hown1 hgrow hat; have HG2 := Lib.hid hG2; clear hown1 hgrow hat hG2)
        all_goals
          go_wp2_with fail
          go_roundw
          case rel => exact ⟨k + 1, by omega, by go_num, true, rfl, by rw [HT'.out]; exact HN.out.1, _, cap2, by rw [HT'.out, HN.out.2, ← HLD.out]; first | exact HG2.out | exact HG2.out.drew⟩
          case measure => simp [intOf]; omega
    · obtain rfl : k = l.length := by omega
      have HTL := Lib.hid (List.take_length (l := l))
      have r0 := (HST.out.cell (o := w.heap.size + 2) (k := 0) (by simp)).trans HR.out.2.1
      have r1 := (HST.out.cell (o := w.heap.size + 2) (k := 1) (by simp)).trans HR.out.2.2
      have f0 := (HST.out.frozen (o := w.heap.size + 2) (k := 0) (by simp)).trans HF.out.1
      have f1 := (HST.out.frozen (o := w.heap.size + 2) (k := 1) (by simp)).trans HF.out.2
      have b1 := (HST.out.cell (o := w.heap.size) (k := 1) (by simp)).trans BX.out.2.2
      have e0 := (HST.out.cell (o := w.heap.size + 1) (k := 0) (by simp)).trans HX.out.2.1
      have e1 := (HST.out.cell (o := w.heap.size + 1) (k := 1) (by simp)).trans HX.out.2.2
      obtain ⟨hlt0, g1, g2⟩ := HST.out.1
      have gf := HST.out.2.1
      have hbs : w.heap.size ≤ wr.heap.size := Nat.le_of_lt (Nat.lt_of_le_of_lt HST.out.2.2.2.2.2.2 HST.out.1.1)
      have hll := putL_len (x1, x2) (l.take l.length) b
      have hlk : (l.take l.length).length = l.length := by simp
      obtain ⟨L, hL⟩ : ∃ L, L = putL (x1, x2) (l.take l.length) b := ⟨_, rfl⟩
      rw [← hL] at HST hll g2
      have HLD := Lib.hid hL
      clear hL
      cases b with
      | true =>
        have HE := Lib.hid (show insU (x1, x2) l = L by rw [HLD.out, HTL.out]; rfl)
        obtain ⟨s0, s1⟩ := ret_cells (p := p) (v := .slice A' L.length c') r0 r1
        obtain ⟨q1, q2⟩ := HST.out.ret (o := w.heap.size + 2) (by simp) (by omega) (.int .i64 p) (.slice A' L.length c')
        have HQ1 := Lib.hid q1
        have HQ2 := Lib.hid q2
        clear q1 q2
        go_wp2_with fail
        refine bodyPost_ret (v := .agg #[.int .i64 p, .slice A' L.length c']) ?_ rfl ⟨A', c', by rw [HE.out], by rw [HE.out]; exact HQ1.out, HA.out.trans HQ2.out⟩
        simp [results, Try.results81, go_sem, s0, s1]
      | false =>
        have HE := Lib.hid (show insU (x1, x2) l = L ++ [(x1, x2)] by rw [HLD.out, HTL.out]; have := HPUT.out; rw [HTL.out] at this; exact put_end this)
        go_wp2_with (at_builtin; refine wpList_at _ rfl _ _ 27 rfl w.heap.size 85 (.agg #[.int .i64 0, .int .i64 0]) 2 16 Try.underlying27 infoBar rfl (by decide) _ _ _ rfl HST.out.2.2.2.1 #[.int .i64 x1, .int .i64 x2] 1 rfl (by simp [Value.oneCell']) _ 1 rfl (by omega) (by unfold maxLen; omega) hbs ?_; intro v' w' ho hg hat _; obtain ⟨c0, c1, f1', A2, c2, rfl, hG2⟩ := HST.out.push (x1, x2) ho hg hat; have HGX := Lib.hid hG2; clear ho hg hat; have r0' := (hG2.cell (o := w.heap.size + 2) (k := 0) (by simp)).trans HR.out.2.1; have r1' := (hG2.cell (o := w.heap.size + 2) (k := 1) (by simp)).trans HR.out.2.2; have f0' := (hG2.frozen (o := w.heap.size + 2) (k := 0) (by simp)).trans HF.out.1; have f1'' := (hG2.frozen (o := w.heap.size + 2) (k := 1) (by simp)).trans HF.out.2; obtain ⟨_, g1', g2'⟩ := hG2.1; rw [List.length_append, List.length_singleton] at g2'; clear hG2)
        obtain ⟨s0, s1⟩ := ret_cells (p := p) (v := .slice A2 (L.length + 1) c2) r0' r1'
        obtain ⟨q1, q2⟩ := HGX.out.ret (o := w.heap.size + 2) (by simp) (by omega) (.int .i64 p) (.slice A2 (L.length + 1) c2)
        refine bodyPost_ret (v := .agg #[.int .i64 p, .slice A2 (L.length + 1) c2]) ?_ rfl ⟨A2, c2, by rw [HE.out, List.length_append, List.length_singleton], by rw [HE.out]; exact q1, HA.out.trans q2⟩
        simp [results, Try.results81, go_sem, s0, s1]
end Go.Proofs.Ytdnmmjaelgjkaaa
/- Is v a point of the graph? No condition. -/
namespace Go.Proofs.Ytdnmmjaelgjkaaa
open Go.RowKit

/-- Is v a point of the graph? -/
def ptB (p v : Int) : Bool := decide (0 ≤ v) && decide (v < p)
theorem hasPoint_c (p v : Int) (A : Option Addr) (n cap : Nat) (w : World) :
    Calls Try.prog 84 #[.agg #[.int .i64 p, .slice A n cap], .int .i64 v] w fun e w' => e = .returned (.bool (ptB p v)) ∧ Below w.heap.size w w' := by
  by_cases h0 : 0 ≤ v
  · by_cases h1 : v < p
    · have HP := Lib.hid (show ptB p v = true by simp [ptB, h0, h1])
      go_enter Try.func84, Try.ntmps84
      go_wp2
      go_ret
      exact ⟨by rw [HP.out]; rfl, new_below _ _⟩
    · have HP := Lib.hid (show ptB p v = false by simp [ptB, h1])
      go_enter Try.func84, Try.ntmps84
      go_wp2
      go_ret
      exact ⟨by rw [HP.out]; rfl, new_below _ _⟩
  · have HP := Lib.hid (show ptB p v = false by simp [ptB, h0])
    go_enter Try.func84, Try.ntmps84
    go_wp2
    go_ret
    exact ⟨by rw [HP.out]; rfl, new_below _ _⟩
end Go.Proofs.Ytdnmmjaelgjkaaa
/- What the program's sets of points answer: has and size (the library's bits.OnesCount at numbers below 256). No condition. -/
namespace Go.Proofs.Ytdnmmjaelgjkaaa
open Go.RowKit

theorem has_p (m v : Nat) (w : World) (hm : m < 256) (hv : v < 8) :
    Calls Try.prog 138 #[.int .u64 (m : Int), .int .i64 (v : Int)] w fun e w' => e = .returned (.bool (m.testBit v)) ∧ w = w' := by
  have hb := bit_and .u64 (.inr rfl) m hm v hv
  cases ht : m.testBit v
  all_goals
    rw [ht] at hb
    replace hb := hb.trans (by first | exact if_neg (by decide) | exact if_pos rfl)
    go_enter Try.func138, Try.ntmps138
    go_wp2
    go_ret
    exact ⟨rfl, rfl⟩

theorem set_len8 : ∀ P : Nat, P ≤ 8 → ∀ m : Nat, m < 2 ^ P → (setL 8 m).length = (setL P m).length := by
  intro P hP
  have : P = 0 ∨ P = 1 ∨ P = 2 ∨ P = 3 ∨ P = 4 ∨ P = 5 ∨ P = 6 ∨ P = 7 ∨ P = 8 := by omega
  rcases this with rfl | rfl | rfl | rfl | rfl | rfl | rfl | rfl | rfl <;> decide +kernel
end Go.Proofs.Ytdnmmjaelgjkaaa
/- What spec.l3Set answers. No condition. -/
namespace Go.Proofs.Ytdnmmjaelgjkaaa
open Go.RowKit

/-- A row of ints of the call's own that grows. -/
def GrowI (w wr : World) (zs : List Int) (v : Value) : Prop :=
  wr.ownsRow w.heap.size 3 1 v zs.length (intCells zs) ∧ Below w.heap.size w wr
theorem GrowI.intsO {w wr : World} {zs : List Int} {v : Value} (h : GrowI w wr zs v) : IntsO w zs (.returned v) wr := by
  obtain ⟨A, c, rfl⟩ := own_shape h.1
  exact ⟨A, c, rfl, own_ints' h.1, h.2⟩
theorem GrowI.nil (w wr : World) (h : Below w.heap.size w wr) : GrowI w wr [] (.slice none 0 0) := ⟨World.ownsRow_nil _ _ _ _, h⟩

set_option maxHeartbeats 2000000 in
set_option maxRecDepth 100000 in
theorem specSet (P m : Nat) (w : World) (hP : P ≤ 8) (hm : m < 256) :
    Calls Try.prog 147 #[.int .i64 (P : Int), .int .i64 (m : Int)] w (IntsO w (setL P m)) := by
  have ho := World.ownsRow_made (base := w.heap.size) (e := 3) (size := 1) w #[] 0 (Nat.le_refl _) (by unfold maxLen; omega) (by simp)
  have HG := Lib.hid (show GrowI w (w.alloc (.cells #[] 3)) (outF 0 fun v => m.testBit v) (.slice (some ⟨w.heap.size, 0, none⟩) 0 0) from ⟨ho, new_below w _⟩)
  have HM := Lib.hid hm
  clear ho hm
  go_enter Try.func147, Try.ntmps147
  go_wp2_with fail
  generalize (w.alloc (.cells #[] 3)) = w1 at *
  go_loopw [5, 6] (fun o i wr => ∃ j : Nat, j ≤ P ∧ i = .int .i64 j ∧ GrowI w wr (outF j fun v => m.testBit v) o) (fun _ i _ => P - (intOf i).toNat)
  case atStart => exact ⟨0, by omega, rfl, HG.out⟩
  case round =>
    obtain ⟨j, hj, rfl, hst⟩ := hrel
    have hol := outF_len j (fun v => m.testBit v)
    by_cases hlt : j < P
    · have hij : (j : Int) < (P : Int) := by omega
      have hb := bit_and .i64 (.inl rfl) m HM.out j (by omega)
      obtain ⟨A', c', rfl⟩ := own_shape hst.1
      have HS := Lib.hid hst
      have hbs := hst.2.size
      clear hst
      cases ht : m.testBit j
      · rw [ht] at hb
        replace hb := hb.trans (if_neg (by decide))
        have HE := Lib.hid (show outF (j + 1) (fun v => m.testBit v) = outF j (fun v => m.testBit v) by rw [outF_succ]; simp [ht])
        go_wp2_with fail
        go_roundw
        case rel => exact ⟨j + 1, by omega, by go_num, by rw [HE.out]; exact HS.out⟩
        case measure => simp [intOf]; omega
      · rw [ht] at hb
        replace hb := hb.trans (if_pos rfl)
        have HE := Lib.hid (show outF (j + 1) (fun v => m.testBit v) = outF j (fun v => m.testBit v) ++ [(j : Int)] by rw [outF_succ]; simp [ht])
        go_wp2_with (at_builtin; refine wpList_push _ rfl _ _ 40 rfl w.heap.size 3 (.int .i64 0) 8 Try.underlying40 infoInt rfl _ _ _ rfl HS.out.1 (.int .i64 (j : Int)) rfl _ rfl (by omega) (by unfold maxLen; omega) hbs ?_; intro v' w' ho hb'; obtain ⟨A2, c2, rfl⟩ := own_shape ho; have HO := Lib.hid ho; have HB := Lib.hid hb'; clear ho hb')
        go_roundw
        case rel => exact ⟨j + 1, by omega, by go_num, by rw [HE.out]; exact ⟨by simpa [intCells] using HO.out, HS.out.2.trans HB.out⟩⟩
        case measure => simp [intOf]; omega
    · obtain rfl : j = P := by omega
      obtain ⟨A', c', rfl⟩ := own_shape hst.1
      have HS := Lib.hid hst
      clear hst
      go_wp2_with fail
      go_ret
      exact HS.out.intsO
end Go.Proofs.Ytdnmmjaelgjkaaa
/- What spec.SpannedBars answers. No condition. -/
namespace Go.Proofs.Ytdnmmjaelgjkaaa
open Go.RowKit

theorem spanF_succ (l : List (Int × Int)) (S : Int → Bool) (j : Nat) : outF (j + 1) (spanF l S) = outF j (spanF l S) ++ if S (l.getD j (0, 0)).1 && S (l.getD j (0, 0)).2 then [(j : Int)] else [] := by
  rw [outF_succ]
  rfl
/-- A row of ints of the call's own that grows, beside a box with a graph. -/
def GrowB (w wr : World) (p : Int) (gv : Value) (zs : List Int) (v : Value) : Prop :=
  GrowI w wr zs v ∧ Box wr w.heap.size p gv ∧ v.ownBlock ≠ some w.heap.size
theorem GrowB.drew {w wr : World} {p : Int} {gv : Value} {zs : List Int} {v : Value} (h : GrowB w wr p gv zs v) : GrowB w wr.drew p gv zs v := ⟨⟨h.1.1, h.1.2.drew⟩, h.2.1, h.2.2⟩
theorem GrowB.drewN {w wr : World} {p : Int} {gv : Value} {zs : List Int} {v : Value} (h : GrowB w wr p gv zs v) (n : Nat) : GrowB w (wr.drewN n) p gv zs v :=
  ⟨⟨h.1.1, h.1.2.trans (below_drewN _ _ _)⟩, h.2.1, h.2.2⟩
theorem GrowB.alloc {w wr : World} {p : Int} {gv : Value} {zs : List Int} {v : Value} (h : GrowB w wr p gv zs v) (o : Obj) : GrowB w (wr.alloc o) p gv zs v :=
  ⟨⟨own_below h.1.1 (new_below wr o), h.1.2.trans ((new_below wr o).mono h.1.2.size)⟩, h.2.1.kept (new_below wr o), h.2.2⟩
theorem GrowB.push {w wr w' : World} {p : Int} {gv : Value} {zs : List Int} {v v' : Value} {x : Int} (h : GrowB w wr p gv zs v) (ho : w'.ownsRow w.heap.size 3 1 v' (zs.length + 1) (intCells zs ++ [.int .i64 x])) (hg : wr.grownBy w' v.ownBlock)
    (hat : v'.ownBlock = v.ownBlock ∨ v'.ownBlock = some (wr.heap.size + 1)) : GrowB w w' p gv (zs ++ [x]) v' := by
  obtain ⟨⟨h1, h2⟩, h3, h4⟩ := h
  refine ⟨⟨by simpa [intCells] using ho, h2.grown hg (Nat.le_trans h2.size (Nat.le_refl _)) fun g hgg => (h1.lt g hgg).1⟩, ?_, ?_⟩
  · refine ⟨Nat.lt_of_lt_of_le h3.1 hg.size, ?_, ?_⟩
    · exact (World.cell?_of_block (hg.block w.heap.size h3.1 fun hc => h4 hc.symm)).trans h3.2.1
    · exact (World.cell?_of_block (a := ⟨w.heap.size, 1, none⟩) (hg.block w.heap.size h3.1 fun hc => h4 hc.symm)).trans h3.2.2
  · rcases hat with hat | hat
    · rw [hat]; exact h4
    · rw [hat]
      intro e
      have := h3.1
      have : wr.heap.size + 1 = w.heap.size := by simpa using e
      omega

set_option maxHeartbeats 4000000 in
set_option maxRecDepth 100000 in
theorem specSpan (p : Int) (l : List (Int × Int)) (zs : List Int) (A Z : Option Addr) (cap cz lo hi : Nat) (w : World) (hl : BarsAt w w.heap.size A l) (hz : IntsIn w lo hi Z zs) (hn : l.length ≤ 1048576) (hnz : zs.length ≤ 1048576) :
    Calls Try.prog 148 #[.agg #[.int .i64 p, .slice A l.length cap], .slice Z zs.length cz] w (IntsO w (spanL l (memS zs))) := by
  have hA1 := new_below w (.cells #[.int .i64 p, .slice A l.length cap] 29)
  have hA2 := new_below (w.alloc (.cells #[.int .i64 p, .slice A l.length cap] 29)) (.cells #[] 3)
  have hsz : (w.alloc (.cells #[.int .i64 p, .slice A l.length cap] 29)).heap.size = w.heap.size + 1 := by simp
  have ho := World.ownsRow_made (base := w.heap.size) (e := 3) (size := 1) (w.alloc (.cells #[.int .i64 p, .slice A l.length cap] 29)) #[] 0 (by simp) (by unfold maxLen; omega) (by simp)
  rw [hsz] at ho
  have HG := Lib.hid (show GrowB w ((w.alloc (.cells #[.int .i64 p, .slice A l.length cap] 29)).alloc (.cells #[] 3)) p (.slice A l.length cap) (outF 0 (spanF l (memS zs))) (.slice (some ⟨w.heap.size + 1, 0, none⟩) 0 0) from
    ⟨⟨ho, below_on hA1 hA2 hA1.size⟩, (box_new w p (.slice A l.length cap) 29).kept hA2, by simp [Value.ownBlock]⟩)
  have HLW := Lib.hid hl
  have HZW := Lib.hid hz
  clear hl hz hA1 hA2 hsz ho
  go_enter Try.func148, Try.ntmps148
  go_wp2_with fail
  generalize ((w.alloc (.cells #[.int .i64 p, .slice A l.length cap] 29)).alloc (.cells #[] 3)) = w1 at *
  go_loopw [5, 6] (fun o i wr => ∃ j : Nat, j ≤ l.length ∧ i = .int .i64 j ∧ GrowB w wr p (.slice A l.length cap) (outF j (spanF l (memS zs))) o) (fun _ i _ => l.length - (intOf i).toNat)
  case atStart => exact ⟨0, by omega, rfl, HG.out⟩
  case round =>
    obtain ⟨j, hj, rfl, hst⟩ := hrel
    have hol := outF_len j (spanF l (memS zs))
    obtain ⟨A', c', rfl⟩ := own_shape hst.1.1
    have HS := Lib.hid hst
    have hbs := hst.1.2.size
    obtain ⟨_, g1, g2⟩ := hst.2.1
    clear hst
    by_cases hlt : j < l.length
    · have hij : (j : Int) < (l.length : Int) := by omega
      obtain ⟨b0, off, rfl, hbB, hcell⟩ := HLW.out (by omega)
      have HBW := HS.out.1.2
      have hc1 := (HBW.cell (p := ⟨b0, off + j * 2, none⟩) hbB).trans (hcell j hlt).1
      have hc2 := (HBW.cell (p := ⟨b0, off + j * 2 + 1, none⟩) hbB).trans (hcell j hlt).2
      have HHAS : ∀ (x : Int), Calls Try.prog 93 #[.slice Z zs.length cz, .int .i64 x] wr fun e w' => e = .returned (.bool (memS zs x)) ∧ wr = w' := fun x =>
        has_c zs x Z cz lo hi wr ⟨Nat.le_trans HZW.out.1 hbs, fun hl0 => by
          obtain ⟨b, off, e, h1, h2, hc⟩ := HZW.out.2 hl0
          exact ⟨b, off, e, h1, h2, fun k hk => (HBW.cell (p := ⟨b, off + k, none⟩) (Nat.lt_of_lt_of_le h2 HZW.out.1)).trans (hc k hk)⟩⟩ hnz
      have HE := Lib.hid (spanF_succ l (memS zs) j)
      obtain ⟨x, hx⟩ : ∃ x, l.getD j (0, 0) = x := ⟨_, rfl⟩
      rw [hx] at hc1 hc2 HE
      obtain ⟨x1, x2⟩ := x
      simp only at hc1 hc2
      clear hcell HBW hx
      have H1 := HHAS x1
      have H2 := HHAS x2
      clear HHAS
      rcases h1 : memS zs x1 with _ | _
      · rw [h1] at H1 HE
        have HE2 := Lib.hid (HE.out.trans (by simp : _ = outF j (spanF l (memS zs))))
        go_wp2_with (go_at_call 93; refine H1.mono ?_; rintro e w2 ⟨rfl, rfl⟩; clear H1)
        go_roundw
        case rel => exact ⟨j + 1, by omega, by go_num, by rw [HE2.out]; exact HS.out⟩
        case measure => simp [intOf]; omega
      · rcases h2 : memS zs x2 with _ | _
        · rw [h1] at H1
          rw [h2] at H2
          rw [h1, h2] at HE
          have HE2 := Lib.hid (HE.out.trans (by simp : _ = outF j (spanF l (memS zs))))
          go_wp2_with (first | (go_at_call 93; refine H1.mono ?_; rintro e w2 ⟨rfl, rfl⟩; clear H1) | (go_at_call 93; refine H2.mono ?_; rintro e w2 ⟨rfl, rfl⟩; clear H2))
          go_roundw
          case rel => exact ⟨j + 1, by omega, by go_num, by rw [HE2.out]; exact HS.out⟩
          case measure => simp [intOf]; omega
        · rw [h1] at H1
          rw [h2] at H2
          rw [h1, h2] at HE
          have HE2 := Lib.hid (HE.out.trans (by simp : _ = outF j (spanF l (memS zs)) ++ [(j : Int)]))
          go_wp2_with (first | (go_at_call 93; refine H1.mono ?_; rintro e w2 ⟨rfl, rfl⟩; clear H1) | (go_at_call 93; refine H2.mono ?_; rintro e w2 ⟨rfl, rfl⟩; clear H2) | (at_builtin; refine wpList_at _ rfl _ _ 40 rfl w.heap.size 3 (.int .i64 0) 1 8 Try.underlying40 infoInt rfl (by decide) _ _ _ rfl HS.out.1.1 #[.int .i64 (j : Int)] 1 rfl (by simp [Value.oneCell']) _ _ rfl (by omega) (by unfold maxLen; omega) hbs ?_; intro v' w' ho hg hat _; obtain ⟨A2, c2, rfl⟩ := own_shape ho; have HY := Lib.hid (HS.out.push ho hg hat); clear ho hg hat))
          go_roundw
          case rel => exact ⟨j + 1, by omega, by go_num, by rw [HE2.out]; exact HY.out⟩
          case measure => simp [intOf]; omega
    · obtain rfl : j = l.length := by omega
      go_wp2_with fail
      go_ret
      exact HS.out.1.intsO
end Go.Proofs.Ytdnmmjaelgjkaaa
/- What the program's pointSet.list and isOvercounted answer. No condition. -/
namespace Go.Proofs.Ytdnmmjaelgjkaaa
open Go.RowKit

set_option maxHeartbeats 2000000 in
set_option maxRecDepth 100000 in
theorem implList (P m : Nat) (gv : Value) (w : World) (hP : P ≤ 8) (hm : m < 256) :
    Calls Try.prog 91 #[.int .u64 (m : Int), .agg #[.int .i64 (P : Int), gv]] w (IntsO w (setL P m)) := by
  have HG := Lib.hid (show GrowB w (w.alloc (.cells #[.int .i64 (P : Int), gv] 29)) (P : Int) gv (outF 0 fun v => m.testBit v) (.slice none 0 0) from
    ⟨GrowI.nil w _ (new_below w _), box_new w (P : Int) gv 29, by simp [Value.ownBlock]⟩)
  go_enter Try.func91, Try.ntmps91
  go_wp2_with fail
  generalize (w.alloc (.cells #[.int .i64 (P : Int), gv] 29)) = w1 at *
  go_loopw [5, 9] (fun o i wr => ∃ j : Nat, j ≤ P ∧ i = .int .i64 j ∧ GrowB w wr (P : Int) gv (outF j fun v => m.testBit v) o) (fun _ i _ => P - (intOf i).toNat)
  case atStart => exact ⟨0, by omega, rfl, HG.out⟩
  case round =>
    obtain ⟨j, hj, rfl, hst⟩ := hrel
    have hol := outF_len j (fun v => m.testBit v)
    obtain ⟨A', c', rfl⟩ := own_shape hst.1.1
    have HS := Lib.hid hst
    have hbs := hst.1.2.size
    clear hst
    by_cases hlt : j < P
    · have hij : (j : Int) < (P : Int) := by omega
      have HHAS := has_p m j wr hm (by omega)
      cases ht : m.testBit j
      · rw [ht] at HHAS
        have HE := Lib.hid (show outF (j + 1) (fun v => m.testBit v) = outF j (fun v => m.testBit v) by rw [outF_succ]; simp [ht])
        go_wp2_with (go_at_call 138; refine HHAS.mono ?_; rintro e w2 ⟨rfl, rfl⟩; clear HHAS)
        go_roundw
        case rel => exact ⟨j + 1, by omega, by go_num, by rw [HE.out]; exact HS.out⟩
        case measure => simp [intOf]; omega
      · rw [ht] at HHAS
        have HE := Lib.hid (show outF (j + 1) (fun v => m.testBit v) = outF j (fun v => m.testBit v) ++ [(j : Int)] by rw [outF_succ]; simp [ht])
        go_wp2_with (first | (go_at_call 138; refine HHAS.mono ?_; rintro e w2 ⟨rfl, rfl⟩; clear HHAS) | (at_builtin; refine wpList_at _ rfl _ _ 40 rfl w.heap.size 3 (.int .i64 0) 1 8 Try.underlying40 infoInt rfl (by decide) _ _ _ rfl HS.out.1.1 #[.int .i64 (j : Int)] 1 rfl (by simp [Value.oneCell']) _ 1 (by simp [Act.eval]) (by omega) (by unfold maxLen; omega) hbs ?_; intro v' w' ho hg hat _; obtain ⟨A2, c2, rfl⟩ := own_shape ho; have HY := Lib.hid (HS.out.push ho hg hat); clear ho hg hat))
        go_roundw
        case rel => exact ⟨j + 1, by omega, by go_num, by rw [HE.out]; exact HY.out⟩
        case measure => simp [intOf]; omega
    · obtain rfl : j = P := by omega
      go_wp2_with fail
      go_ret
      exact HS.out.1.intsO

def okE (P : Nat) (l : List (Int × Int)) : Prop := ∀ i, i < l.length → 0 ≤ (l.getD i (0, 0)).1 ∧ (l.getD i (0, 0)).1 < (l.getD i (0, 0)).2 ∧ (l.getD i (0, 0)).2 < (P : Int)

end Go.Proofs.Ytdnmmjaelgjkaaa
/- A row of ints that is collected: its range is the first one, or new; what else was there stands. No program's walk. No condition. -/
namespace Go.Proofs.Ytdnmmjaelgjkaaa
open Go.RowKit

structure GrowP (a b : Nat) (V W : World) (ys : List Int) (A : Option Addr) (cap lo hi : Nat) : Prop where
  row : OwnR W lo hi A cap ys
  rng : (lo = a ∧ hi = b) ∨ V.heap.size ≤ lo
  le : lo ≤ W.heap.size
  wi : Within a b V W
theorem GrowP.push {a b : Nat} {V W W' : World} {ys : List Int} {y : Int} {A A' : Option Addr} {cap lo hi c' lo' hi' : Nat} (h : GrowP a b V W ys A cap lo hi) (hr : OwnR W' lo' hi' A' c' (ys ++ [y])) (hd : (lo' = lo ∧ hi' = hi) ∨ (W.heap.size ≤ lo' ∧ lo' ≤ W'.heap.size ∧ hi' ≤ W'.heap.size)) (hw : Within lo hi W W') : GrowP a b V W' (ys ++ [y]) A' c' lo' hi' := by
  obtain ⟨_, h2, h3, h4⟩ := h
  have s1 := h4.size
  have s2 := hw.size
  refine ⟨hr, ?_, ?_, ⟨hw.os.trans h4.os, hw.tape.trans h4.tape, hw.output.trans h4.output, Nat.le_trans s1 s2, fun i hi hd => (hw.block i (by omega) (by omega)).trans (h4.block i hi hd)⟩⟩
  · rcases hd with ⟨rfl, rfl⟩ | hd
    · exact h2
    · exact .inr (by omega)
  · rcases hd with ⟨rfl, rfl⟩ | hd
    · omega
    · exact hd.2.1
theorem GrowP.out {a b : Nat} {V W : World} {ys : List Int} {A : Option Addr} {cap lo hi : Nat} (h : GrowP a b V W ys A cap lo hi) {B : Nat} (h1 : B ≤ a) (h2 : B ≤ V.heap.size) : OwnInts W B W.heap.size A cap ys :=
  h.row.ints.widen (by have := h.rng; omega) h.row.1 (Nat.le_refl _)
end Go.Proofs.Ytdnmmjaelgjkaaa
