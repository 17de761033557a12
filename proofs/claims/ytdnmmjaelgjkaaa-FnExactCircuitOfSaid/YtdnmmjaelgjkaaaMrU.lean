/- Several texts in one, in the order in which they build on each other: what stands on the way to the law; each names its own matter. No condition. -/
import Derived.Test.YtdnmmjaelgjkaaaMrA
import Derived.Test.YtdnmmjaelgjkaaaIsGraphI
import Derived.Deep.RegionHeld3
import Derived.Test.YtdnmmjaelgjkaaaState
import Derived.Test.YtdnmmjaelgjkaaaIsPebM
import Derived.Deep.QuietTactic
import Derived.BigQuiet
import Derived.Test.YtdnmmjaelgjkaaaRowAt
import Derived.Test.YtdnmmjaelgjkaaaGMath
import Derived.Test.YtdnmmjaelgjkaaaInts
import Derived.Deep.AppendLies
import Derived.Deep.RegionLaw
import Derived.Test.YtdnmmjaelgjkaaaRunM
import Derived.Test.YtdnmmjaelgjkaaaOwnF
import Derived.Test.YtdnmmjaelgjkaaaIntsO
import Derived.Test.YtdnmmjaelgjkaaaPlaM
import Derived.Test.YtdnmmjaelgjkaaaCpR
import Derived.Test.YtdnmmjaelgjkaaaPebCp
import Derived.Maps.OwnSet
import Derived.Maps.Views
import Derived.Maps.RangeWalk
import Derived.Test.YtdnmmjaelgjkaaaRng
/- What impl.FreedomOf, impl.IsRigid and impl.IsMinimallyRigid answer. No condition. -/
namespace Go.Proofs.Ytdnmmjaelgjkaaa
open Go.RowKit

set_option maxHeartbeats 4000000 in
set_option maxRecDepth 100000 in
theorem implFrd (p : Int) (l : List (Int × Int)) (A : Option Addr) (cap : Nat) (w : World) (hl : BarsAt w w.heap.size A l) (hn : l.length ≤ 1048576) :
    Calls Try.prog 34 #[.agg #[.int .i64 p, .slice A l.length cap]] w fun e w' => e = .returned (.int .i64 (frdV p l)) ∧ Below w.heap.size w w' := by
  have HISG : ∀ W : World, BarsAt W W.heap.size A l → Calls Try.prog 88 #[.agg #[.int .i64 p, .slice A l.length cap]] W fun e w' => e = .returned (.bool (isGB p l)) ∧ Below W.heap.size W w' := fun W h => implIsGraph p l A cap W h hn
  obtain ⟨rv, hrv⟩ : ∃ rv, frdV p l = rv := ⟨_, rfl⟩
  rw [hrv]
  unfold frdV at hrv
  cases hg : isGB p l with
  | false =>
    have HRV := Lib.hid (show rv = -1 from by rw [← hrv, hg]; rfl)
    clear hrv
    rw [hg] at HISG
    clear hg
    have W0 := Lib.hid (Below.refl w.heap.size w)
    have HB_0 := Lib.hid (bars_in hl)
    clear hl
    have Z1 := Lib.hid (within_alloc w (.cells #[.int .i64 p, (.slice A l.length cap)] 29)).size
    have W1 := Lib.hid (within_on W0.out (within_alloc w (.cells #[.int .i64 p, (.slice A l.length cap)] 29)) W0.out.size (.inr (Nat.le_refl _)))
    have HB_1 := Lib.hid (HB_0.out.within (within_alloc w (.cells #[.int .i64 p, (.slice A l.length cap)] 29)) (by omega))
    have Y1 := Lib.hid (show (w.alloc (.cells #[.int .i64 p, (.slice A l.length cap)] 29)).heap.size = w.heap.size + 1 by simp)
    have hnew := box_new w p (.slice A l.length cap) 29
    have BX_1 := Lib.hid hnew
    clear hnew
    go_enter Try.func34, Try.ntmps34
    obtain ⟨g0_0, g0_1, g0_2⟩ := BX_1.out
    go_wp2_with fail
    clear g0_0 g0_1 g0_2
    generalize (w.alloc (.cells #[.int .i64 p, (.slice A l.length cap)] 29)) = w1 at *
    refine (HISG _ HB_1.out.at).mono ?_
    rintro e w2 ⟨rfl, hb⟩
    have Z2 := Lib.hid (within_of hb).size
    have W2 := Lib.hid (within_on W1.out (within_of hb) W1.out.size (.inr (Nat.le_refl _)))
    have HB_2 := Lib.hid (HB_1.out.within (within_of hb) (by omega))
    have BX_2 := Lib.hid (BX_1.out.within (within_of hb) (by omega))
    clear hb
    go_wp2_with fail
    go_ret
    exact ⟨by rw [HRV.out]; rfl, W2.out⟩
  | true =>
    have hp : 1 ≤ p ∧ p ≤ 8 := (show IsG p l from Classical.byContradiction fun g => by rw [isGB_no g] at hg; cases hg).1
    have hri := rankV_in p 2 3 l
    have HRK : ∀ W : World, BarsAt W W.heap.size A l → Calls Try.prog 46 #[.agg #[.int .i64 p, .slice A l.length cap], .int .i64 2, .int .i64 3] W fun e w' => e = .returned (.int .i64 (rankV p 2 3 l)) ∧ Below W.heap.size W w' := fun W h => implRank p 2 3 l A cap W h hn
    have hrv2 : rv = fullV p - rankV p 2 3 l := by rw [← hrv, hg]; rfl
    obtain ⟨r, hr⟩ : ∃ r, rankV p 2 3 l = r := ⟨_, rfl⟩
    rw [hr] at hri HRK hrv2
    have HRK2 := Lib.hid HRK
    rw [hg] at HISG
    clear hrv hg hr HRK
    by_cases hp1 : p = 1
    · have HRV := Lib.hid (show rv = - r from by rw [hrv2]; unfold fullV; rw [if_pos (by omega)]; omega)
      have m1 : 2 * p - 3 ≤ 0 := by omega
      have m2 : 2 * p - 3 < 0 := by omega
      have hwr : IntKind.i64.wrap (-r) = -r := IntWalk.i64_in _ (by omega)
      clear hrv2 hp1
      have W0 := Lib.hid (Below.refl w.heap.size w)
      have HB_0 := Lib.hid (bars_in hl)
      clear hl
      have Z1 := Lib.hid (within_alloc w (.cells #[.int .i64 p, (.slice A l.length cap)] 29)).size
      have W1 := Lib.hid (within_on W0.out (within_alloc w (.cells #[.int .i64 p, (.slice A l.length cap)] 29)) W0.out.size (.inr (Nat.le_refl _)))
      have HB_1 := Lib.hid (HB_0.out.within (within_alloc w (.cells #[.int .i64 p, (.slice A l.length cap)] 29)) (by omega))
      have Y1 := Lib.hid (show (w.alloc (.cells #[.int .i64 p, (.slice A l.length cap)] 29)).heap.size = w.heap.size + 1 by simp)
      have hnew := box_new w p (.slice A l.length cap) 29
      have BX_1 := Lib.hid hnew
      clear hnew
      go_enter Try.func34, Try.ntmps34
      obtain ⟨g0_0, g0_1, g0_2⟩ := BX_1.out
      go_wp2_with fail
      clear g0_0 g0_1 g0_2
      generalize (w.alloc (.cells #[.int .i64 p, (.slice A l.length cap)] 29)) = w1 at *
      refine (HISG _ HB_1.out.at).mono ?_
      rintro e w2 ⟨rfl, hb⟩
      have Z2 := Lib.hid (within_of hb).size
      have W2 := Lib.hid (within_on W1.out (within_of hb) W1.out.size (.inr (Nat.le_refl _)))
      have HB_2 := Lib.hid (HB_1.out.within (within_of hb) (by omega))
      have BX_2 := Lib.hid (BX_1.out.within (within_of hb) (by omega))
      clear hb HISG
      have hdr : Below w2.heap.size w2 w2.drew := (Below.refl _ _).drew
      have HBD := Lib.hid (HB_2.out.within (within_of hdr) (.inr (Nat.zero_le _)))
      have HKK := Lib.hid (BX_2.out.kept hdr)
      have HWD := Lib.hid (below_on W2.out hdr W2.out.size)
      clear hdr
      obtain ⟨_, g1, g2⟩ := BX_2.out
      go_wp2_with fail
      refine wp_region_held_drew (S := (fun W' => W'.cell? ⟨w.heap.size, 0, none⟩ = some (.int .i64 p) ∧ W'.cell? ⟨w.heap.size, 1, none⟩ = some (.slice A l.length cap))) (by kernel_rfl) ?_ (fun hHeld => ?_)
      · exact ⟨HKK.out.2.1, HKK.out.2.2⟩
      refine wpAnyH_take (i := 0) (v := .pointer (some ⟨w.heap.size, 0, none⟩)) rfl (by kernel_rfl) (by kernel_rfl) (by kernel_rfl) (fun _ _ _ h => h) (Or.inl ⟨by kernel_rfl, fun w hSw => by (try dsimp only at hSw); go_simp; all_goals first | omega | exact IntWalk.i64_in _ (by omega)⟩) (by assumption) ?_
      try simp only [Act.put, List.setIfInBounds_toArray]
      refine wpAnyH_take (i := 1) (v := .int .i64 p) rfl (by kernel_rfl) (by kernel_rfl) (by kernel_rfl) (fun _ _ _ h => h) (Or.inl ⟨by kernel_rfl, fun w hSw => by (try dsimp only at hSw); go_simp; all_goals first | omega | exact IntWalk.i64_in _ (by omega)⟩) (by assumption) ?_
      try simp only [Act.put]
      refine wpAnyH_take (i := 2) (v := .int .i64 (2 * p)) rfl (by kernel_rfl) (by kernel_rfl) (by kernel_rfl) (fun _ _ _ h => h) (Or.inl ⟨by kernel_rfl, fun w hSw => by (try dsimp only at hSw); go_simp; all_goals first | omega | exact IntWalk.i64_in _ (by omega)⟩) (by assumption) ?_
      try simp only [Act.put]
      refine wpAnyH_take (i := 3) (v := .int .i64 (2 * p - 3)) rfl (by kernel_rfl) (by kernel_rfl) (by kernel_rfl) (fun _ _ _ h => h) (Or.inl ⟨by kernel_rfl, fun w hSw => by (try dsimp only at hSw); go_simp; all_goals first | omega | exact IntWalk.i64_in _ (by omega)⟩) (by assumption) ?_
      try simp only [Act.put]
      refine wpAnyH_take (i := 4) (v := .int .i64 0) rfl (by kernel_rfl) (by kernel_rfl) (by kernel_rfl) (fun _ _ _ h => h) (Or.inl ⟨by kernel_rfl, fun w hSw => by (try dsimp only at hSw); go_simp; all_goals first | omega | exact IntWalk.i64_in _ (by omega)⟩) (by assumption) ?_
      try simp only [Act.put]
      refine wpAnyH_take (i := 5) (v := .agg #[.int .i64 p, .slice A l.length cap]) rfl (by kernel_rfl) (by kernel_rfl) (by kernel_rfl) (fun _ _ _ h => h) (Or.inl ⟨by kernel_rfl, fun w hSw => by (try dsimp only at hSw); go_simp; all_goals first | omega | exact IntWalk.i64_in _ (by omega)⟩) (by assumption) ?_
      try simp only [Act.put]
      refine wpAnyH_ready (rs := [6]) (by kernel_rfl) (by simp) (AllReadyH.cons rfl (fun K hK => ?_) AllReadyH.nil)
      go_simp
      go_at_call 46
      refine (HRK2.out _ HBD.out.at).mono ?_
      rintro e w5 ⟨rfl, hb⟩
      have HK2 := Lib.hid (HKK.out.kept hb)
      have HWE := Lib.hid (below_on HWD.out hb HWD.out.size)
      clear hb
      refine hK.out _ _ ⟨HK2.out.2.1, HK2.out.2.2⟩ (fun hHeld => ?_)
      clear hK K
      try simp only [Act.put, List.setIfInBounds_toArray, List.set_cons_zero, List.set_cons_succ]
      refine wpAnyH_take (i := 7) (v := .int .i64 (-r)) rfl (by kernel_rfl) (by kernel_rfl) (by kernel_rfl) (fun _ _ _ h => h) (Or.inl ⟨by kernel_rfl, fun w hSw => by (try dsimp only at hSw); go_simp; all_goals first | omega | exact IntWalk.i64_in _ (by omega)⟩) (by assumption) ?_
      try simp only [Act.put, List.setIfInBounds_toArray]
      refine wpAnyH_take (i := 8) (v := .int .i64 (-r)) rfl (by kernel_rfl) (by kernel_rfl) (by kernel_rfl) (fun _ _ _ h => h) (Or.inl ⟨by kernel_rfl, fun w hSw => by (try dsimp only at hSw); go_simp; all_goals first | omega | exact IntWalk.i64_in _ (by omega)⟩) (by assumption) ?_
      try simp only [Act.put]
      refine wpAnyH_done (by kernel_rfl) ?_ _
      go_wp2_with fail
      go_ret
      rename_i e8 x8 y8 e7
      simp at e8 e7
      subst e8 e7
      exact ⟨by rw [HRV.out]; rfl, HWE.out⟩
    · have HRV := Lib.hid (show rv = 2 * p - 3 - r from by rw [hrv2]; unfold fullV; rw [if_neg (by omega)])
      have m1 : ¬ 2 * p - 3 ≤ 0 := by omega
      have m2 : ¬ 2 * p - 3 < 0 := by omega
      clear hrv2 hp1
      have W0 := Lib.hid (Below.refl w.heap.size w)
      have HB_0 := Lib.hid (bars_in hl)
      clear hl
      have Z1 := Lib.hid (within_alloc w (.cells #[.int .i64 p, (.slice A l.length cap)] 29)).size
      have W1 := Lib.hid (within_on W0.out (within_alloc w (.cells #[.int .i64 p, (.slice A l.length cap)] 29)) W0.out.size (.inr (Nat.le_refl _)))
      have HB_1 := Lib.hid (HB_0.out.within (within_alloc w (.cells #[.int .i64 p, (.slice A l.length cap)] 29)) (by omega))
      have Y1 := Lib.hid (show (w.alloc (.cells #[.int .i64 p, (.slice A l.length cap)] 29)).heap.size = w.heap.size + 1 by simp)
      have hnew := box_new w p (.slice A l.length cap) 29
      have BX_1 := Lib.hid hnew
      clear hnew
      go_enter Try.func34, Try.ntmps34
      obtain ⟨g0_0, g0_1, g0_2⟩ := BX_1.out
      go_wp2_with fail
      clear g0_0 g0_1 g0_2
      generalize (w.alloc (.cells #[.int .i64 p, (.slice A l.length cap)] 29)) = w1 at *
      refine (HISG _ HB_1.out.at).mono ?_
      rintro e w2 ⟨rfl, hb⟩
      have Z2 := Lib.hid (within_of hb).size
      have W2 := Lib.hid (within_on W1.out (within_of hb) W1.out.size (.inr (Nat.le_refl _)))
      have HB_2 := Lib.hid (HB_1.out.within (within_of hb) (by omega))
      have BX_2 := Lib.hid (BX_1.out.within (within_of hb) (by omega))
      clear hb HISG
      have hdr : Below w2.heap.size w2 w2.drew := (Below.refl _ _).drew
      have HBD := Lib.hid (HB_2.out.within (within_of hdr) (.inr (Nat.zero_le _)))
      have HKK := Lib.hid (BX_2.out.kept hdr)
      have HWD := Lib.hid (below_on W2.out hdr W2.out.size)
      clear hdr
      obtain ⟨_, g1, g2⟩ := BX_2.out
      go_wp2_with fail
      refine wp_region_held_drew (S := (fun W' => W'.cell? ⟨w.heap.size, 0, none⟩ = some (.int .i64 p) ∧ W'.cell? ⟨w.heap.size, 1, none⟩ = some (.slice A l.length cap))) (by kernel_rfl) ?_ (fun hHeld => ?_)
      · exact ⟨HKK.out.2.1, HKK.out.2.2⟩
      refine wpAnyH_take (i := 0) (v := .pointer (some ⟨w.heap.size, 0, none⟩)) rfl (by kernel_rfl) (by kernel_rfl) (by kernel_rfl) (fun _ _ _ h => h) (Or.inl ⟨by kernel_rfl, fun w hSw => by (try dsimp only at hSw); go_simp; all_goals first | omega | exact IntWalk.i64_in _ (by omega)⟩) (by assumption) ?_
      try simp only [Act.put, List.setIfInBounds_toArray]
      refine wpAnyH_take (i := 1) (v := .int .i64 p) rfl (by kernel_rfl) (by kernel_rfl) (by kernel_rfl) (fun _ _ _ h => h) (Or.inl ⟨by kernel_rfl, fun w hSw => by (try dsimp only at hSw); go_simp; all_goals first | omega | exact IntWalk.i64_in _ (by omega)⟩) (by assumption) ?_
      try simp only [Act.put]
      refine wpAnyH_take (i := 2) (v := .int .i64 (2 * p)) rfl (by kernel_rfl) (by kernel_rfl) (by kernel_rfl) (fun _ _ _ h => h) (Or.inl ⟨by kernel_rfl, fun w hSw => by (try dsimp only at hSw); go_simp; all_goals first | omega | exact IntWalk.i64_in _ (by omega)⟩) (by assumption) ?_
      try simp only [Act.put]
      refine wpAnyH_take (i := 3) (v := .int .i64 (2 * p - 3)) rfl (by kernel_rfl) (by kernel_rfl) (by kernel_rfl) (fun _ _ _ h => h) (Or.inl ⟨by kernel_rfl, fun w hSw => by (try dsimp only at hSw); go_simp; all_goals first | omega | exact IntWalk.i64_in _ (by omega)⟩) (by assumption) ?_
      try simp only [Act.put]
      refine wpAnyH_take (i := 4) (v := .int .i64 (2 * p - 3)) rfl (by kernel_rfl) (by kernel_rfl) (by kernel_rfl) (fun _ _ _ h => h) (Or.inl ⟨by kernel_rfl, fun w hSw => by (try dsimp only at hSw); go_simp; all_goals first | omega | exact IntWalk.i64_in _ (by omega)⟩) (by assumption) ?_
      try simp only [Act.put]
      refine wpAnyH_take (i := 5) (v := .agg #[.int .i64 p, .slice A l.length cap]) rfl (by kernel_rfl) (by kernel_rfl) (by kernel_rfl) (fun _ _ _ h => h) (Or.inl ⟨by kernel_rfl, fun w hSw => by (try dsimp only at hSw); go_simp; all_goals first | omega | exact IntWalk.i64_in _ (by omega)⟩) (by assumption) ?_
      try simp only [Act.put]
      refine wpAnyH_ready (rs := [6]) (by kernel_rfl) (by simp) (AllReadyH.cons rfl (fun K hK => ?_) AllReadyH.nil)
      go_simp
      go_at_call 46
      refine (HRK2.out _ HBD.out.at).mono ?_
      rintro e w5 ⟨rfl, hb⟩
      have HK2 := Lib.hid (HKK.out.kept hb)
      have HWE := Lib.hid (below_on HWD.out hb HWD.out.size)
      clear hb
      refine hK.out _ _ ⟨HK2.out.2.1, HK2.out.2.2⟩ (fun hHeld => ?_)
      clear hK K
      try simp only [Act.put, List.setIfInBounds_toArray, List.set_cons_zero, List.set_cons_succ]
      refine wpAnyH_take (i := 7) (v := .int .i64 ((2 * p - 3 - r))) rfl (by kernel_rfl) (by kernel_rfl) (by kernel_rfl) (fun _ _ _ h => h) (Or.inl ⟨by kernel_rfl, fun w hSw => by (try dsimp only at hSw); go_simp; all_goals first | omega | exact IntWalk.i64_in _ (by omega)⟩) (by assumption) ?_
      try simp only [Act.put, List.setIfInBounds_toArray]
      refine wpAnyH_take (i := 8) (v := .int .i64 ((2 * p - 3 - r))) rfl (by kernel_rfl) (by kernel_rfl) (by kernel_rfl) (fun _ _ _ h => h) (Or.inl ⟨by kernel_rfl, fun w hSw => by (try dsimp only at hSw); go_simp; all_goals first | omega | exact IntWalk.i64_in _ (by omega)⟩) (by assumption) ?_
      try simp only [Act.put]
      refine wpAnyH_done (by kernel_rfl) ?_ _
      go_wp2_with fail
      go_ret
      rename_i e8 x8 y8 e7
      simp at e8 e7
      subst e8 e7
      exact ⟨by rw [HRV.out]; rfl, HWE.out⟩

set_option maxHeartbeats 2000000 in
set_option maxRecDepth 100000 in
theorem implRig (p : Int) (l : List (Int × Int)) (A : Option Addr) (cap : Nat) (w : World) (hl : BarsAt w w.heap.size A l) (hn : l.length ≤ 1048576) :
    Calls Try.prog 19 #[.agg #[.int .i64 p, .slice A l.length cap]] w fun e w' => e = .returned (.bool (rigB p l)) ∧ Below w.heap.size w w' := by
  obtain ⟨rv, hrv⟩ : ∃ rv, rigB p l = rv := ⟨_, rfl⟩
  rw [hrv]
  unfold rigB at hrv
  have HFR : ∀ W : World, BarsAt W W.heap.size A l → Calls Try.prog 34 #[.agg #[.int .i64 p, .slice A l.length cap]] W fun e w' => e = .returned (.int .i64 (frdV p l)) ∧ Below W.heap.size W w' := fun W h => implFrd p l A cap W h hn
  obtain ⟨r, hr⟩ : ∃ r, frdV p l = r := ⟨_, rfl⟩
  rw [hr] at hrv HFR
  have HRV := Lib.hid hrv
  clear hr hrv
  have W0 := Lib.hid (Below.refl w.heap.size w)
  have HB_0 := Lib.hid (bars_in hl)
  clear hl
  have Z1 := Lib.hid (within_alloc w (.cells #[.int .i64 p, (.slice A l.length cap)] 29)).size
  have W1 := Lib.hid (within_on W0.out (within_alloc w (.cells #[.int .i64 p, (.slice A l.length cap)] 29)) W0.out.size (.inr (Nat.le_refl _)))
  have HB_1 := Lib.hid (HB_0.out.within (within_alloc w (.cells #[.int .i64 p, (.slice A l.length cap)] 29)) (by omega))
  have Y1 := Lib.hid (show (w.alloc (.cells #[.int .i64 p, (.slice A l.length cap)] 29)).heap.size = w.heap.size + 1 by simp)
  have hnew := box_new w p (.slice A l.length cap) 29
  have BX_1 := Lib.hid hnew
  clear hnew
  go_enter Try.func19, Try.ntmps19
  obtain ⟨g0_0, g0_1, g0_2⟩ := BX_1.out
  go_wp2_with fail
  clear g0_0 g0_1 g0_2
  generalize (w.alloc (.cells #[.int .i64 p, (.slice A l.length cap)] 29)) = w1 at *
  refine (HFR _ HB_1.out.at).mono ?_
  rintro e w2 ⟨rfl, hb⟩
  have Z2 := Lib.hid (within_of hb).size
  have W2 := Lib.hid (within_on W1.out (within_of hb) W1.out.size (.inr (Nat.le_refl _)))
  have HB_2 := Lib.hid (HB_1.out.within (within_of hb) (by omega))
  have BX_2 := Lib.hid (BX_1.out.within (within_of hb) (by omega))
  clear hb
  go_wp2_with fail
  go_ret
  exact ⟨by rw [← HRV.out]; first | rfl | simp, W2.out⟩

set_option maxHeartbeats 4000000 in
set_option maxRecDepth 100000 in
theorem implMin (p : Int) (l : List (Int × Int)) (A : Option Addr) (cap : Nat) (w : World) (hl : BarsAt w w.heap.size A l) (hn : l.length ≤ 1048576) :
    Calls Try.prog 21 #[.agg #[.int .i64 p, .slice A l.length cap]] w fun e w' => e = .returned (.bool (minB p l)) ∧ Below w.heap.size w w' := by
  obtain ⟨rv, hrv⟩ : ∃ rv, minB p l = rv := ⟨_, rfl⟩
  rw [hrv]
  unfold minB at hrv
  have HRG : ∀ W : World, BarsAt W W.heap.size A l → Calls Try.prog 19 #[.agg #[.int .i64 p, .slice A l.length cap]] W fun e w' => e = .returned (.bool (rigB p l)) ∧ Below W.heap.size W w' := fun W h => implRig p l A cap W h hn
  have HRK : ∀ W : World, BarsAt W W.heap.size A l → Calls Try.prog 46 #[.agg #[.int .i64 p, .slice A l.length cap], .int .i64 2, .int .i64 3] W fun e w' => e = .returned (.int .i64 (rankV p 2 3 l)) ∧ Below W.heap.size W w' := fun W h => implRank p 2 3 l A cap W h hn
  obtain ⟨r, hr⟩ : ∃ r, rankV p 2 3 l = r := ⟨_, rfl⟩
  rw [hr] at hrv HRK
  clear hr
  have HRK2 := Lib.hid HRK
  clear HRK
  cases hg : rigB p l with
  | false =>
    have HRV := Lib.hid (show rv = false from by rw [← hrv, hg]; rfl)
    rw [hg] at HRG
    have HRG2 := Lib.hid HRG
    clear hrv hg HRG
    have W0 := Lib.hid (Below.refl w.heap.size w)
    have HB_0 := Lib.hid (bars_in hl)
    clear hl
    have Z1 := Lib.hid (within_alloc w (.cells #[.int .i64 p, (.slice A l.length cap)] 29)).size
    have W1 := Lib.hid (within_on W0.out (within_alloc w (.cells #[.int .i64 p, (.slice A l.length cap)] 29)) W0.out.size (.inr (Nat.le_refl _)))
    have HB_1 := Lib.hid (HB_0.out.within (within_alloc w (.cells #[.int .i64 p, (.slice A l.length cap)] 29)) (by omega))
    have Y1 := Lib.hid (show (w.alloc (.cells #[.int .i64 p, (.slice A l.length cap)] 29)).heap.size = w.heap.size + 1 by simp)
    have hnew := box_new w p (.slice A l.length cap) 29
    have BX_1 := Lib.hid hnew
    clear hnew
    go_enter Try.func21, Try.ntmps21
    obtain ⟨g0_0, g0_1, g0_2⟩ := BX_1.out
    have hdr : Below (w.alloc (.cells #[.int .i64 p, (.slice A l.length cap)] 29)).heap.size (w.alloc (.cells #[.int .i64 p, (.slice A l.length cap)] 29)) (w.alloc (.cells #[.int .i64 p, (.slice A l.length cap)] 29)).drew := (Below.refl _ _).drew
    have HBD := Lib.hid (HB_1.out.within (within_of hdr) (.inr (Nat.zero_le _)))
    have HKK := Lib.hid (BX_1.out.kept hdr)
    have HWD := Lib.hid (below_on W1.out hdr W1.out.size)
    clear hdr
    go_wp2_with fail
    refine wp_region_held_drew (S := (fun W' => W'.cell? ⟨w.heap.size, 0, none⟩ = some (.int .i64 p) ∧ W'.cell? ⟨w.heap.size, 1, none⟩ = some (.slice A l.length cap))) (by kernel_rfl) ?_ (fun hHeld => ?_)
    · exact ⟨HKK.out.2.1, HKK.out.2.2⟩
    refine wpAnyH_take (i := 0) (v := .agg #[.int .i64 p, .slice A l.length cap]) rfl (by kernel_rfl) (by kernel_rfl) (by kernel_rfl) (fun _ _ _ h => h) (Or.inl ⟨by kernel_rfl, fun w hSw => by (try dsimp only at hSw); go_simp; all_goals first | omega | exact IntWalk.i64_in _ (by omega)⟩) (by assumption) ?_
    try simp only [Act.put, List.setIfInBounds_toArray]
    refine wpAnyH_ready (rs := [1]) (by kernel_rfl) (by simp) (AllReadyH.cons rfl (fun K hK => ?_) AllReadyH.nil)
    go_simp
    go_at_call 19
    refine (HRG2.out _ HBD.out.at).mono ?_
    rintro e w5 ⟨rfl, hb⟩
    have HK2 := Lib.hid (HKK.out.kept hb)
    have HWE := Lib.hid (below_on HWD.out hb HWD.out.size)
    clear hb
    refine hK.out _ _ ⟨HK2.out.2.1, HK2.out.2.2⟩ (fun hHeld => ?_)
    clear hK K
    try simp only [Act.put, List.setIfInBounds_toArray, List.set_cons_zero, List.set_cons_succ]
    refine wpAnyH_take (i := 2) (v := .bool false) rfl (by kernel_rfl) (by kernel_rfl) (by kernel_rfl) (fun _ _ _ h => h) (Or.inl ⟨by kernel_rfl, fun w hSw => by (try dsimp only at hSw); go_simp; all_goals first | omega | exact IntWalk.i64_in _ (by omega)⟩) (by assumption) ?_
    try simp only [Act.put, List.setIfInBounds_toArray]
    refine wpAnyH_take (i := 3) (v := undef) rfl (by kernel_rfl) (by kernel_rfl) (by kernel_rfl) (fun _ _ _ h => h) (Or.inr ⟨by kernel_rfl, rfl⟩) (by assumption) ?_
    try simp only [Act.put]
    refine wpAnyH_take (i := 4) (v := undef) rfl (by kernel_rfl) (by kernel_rfl) (by kernel_rfl) (fun _ _ _ h => h) (Or.inr ⟨by kernel_rfl, rfl⟩) (by assumption) ?_
    try simp only [Act.put]
    refine wpAnyH_take (i := 5) (v := undef) rfl (by kernel_rfl) (by kernel_rfl) (by kernel_rfl) (fun _ _ _ h => h) (Or.inr ⟨by kernel_rfl, rfl⟩) (by assumption) ?_
    try simp only [Act.put]
    refine wpAnyH_take (i := 6) (v := undef) rfl (by kernel_rfl) (by kernel_rfl) (by kernel_rfl) (fun _ _ _ h => h) (Or.inr ⟨by kernel_rfl, rfl⟩) (by assumption) ?_
    try simp only [Act.put]
    refine wpAnyH_take (i := 7) (v := undef) rfl (by kernel_rfl) (by kernel_rfl) (by kernel_rfl) (fun _ _ _ h => h) (Or.inr ⟨by kernel_rfl, rfl⟩) (by assumption) ?_
    try simp only [Act.put]
    refine wpAnyH_take (i := 8) (v := undef) rfl (by kernel_rfl) (by kernel_rfl) (by kernel_rfl) (fun _ _ _ h => h) (Or.inr ⟨by kernel_rfl, rfl⟩) (by assumption) ?_
    try simp only [Act.put]
    refine wpAnyH_take (i := 9) (v := .bool false) rfl (by kernel_rfl) (by kernel_rfl) (by kernel_rfl) (fun _ _ _ h => h) (Or.inl ⟨by kernel_rfl, fun w hSw => by (try dsimp only at hSw); go_simp; all_goals first | omega | exact IntWalk.i64_in _ (by omega)⟩) (by assumption) ?_
    try simp only [Act.put]
    refine wpAnyH_take (i := 10) (v := .bool false) rfl (by kernel_rfl) (by kernel_rfl) (by kernel_rfl) (fun _ _ _ h => h) (Or.inl ⟨by kernel_rfl, fun w hSw => by (try dsimp only at hSw); go_simp; all_goals first | omega | exact IntWalk.i64_in _ (by omega)⟩) (by assumption) ?_
    try simp only [Act.put]
    refine wpAnyH_done (by kernel_rfl) ?_ _
    go_wp2_with fail
    go_ret
    rename_i e8 x8 y8 e7
    simp at e8 e7
    subst e8 e7
    exact ⟨by rw [HRV.out]; rfl, HWE.out⟩
  | true =>
    have hrv2 : rv = decide (r = (l.length : Int)) := by rw [← hrv, hg]; simp
    rw [hg] at HRG
    have HRG2 := Lib.hid HRG
    clear hrv hg HRG
    by_cases he : r = (l.length : Int)
    · have HRV := Lib.hid (show rv = true from by rw [hrv2]; exact decide_eq_true he)
      have e1 : (r == (l.length : Int)) = true := by simpa using he
      have e2 : ((l.length : Int) == r) = true := by simpa using he.symm
      clear hrv2
      have W0 := Lib.hid (Below.refl w.heap.size w)
      have HB_0 := Lib.hid (bars_in hl)
      clear hl
      have Z1 := Lib.hid (within_alloc w (.cells #[.int .i64 p, (.slice A l.length cap)] 29)).size
      have W1 := Lib.hid (within_on W0.out (within_alloc w (.cells #[.int .i64 p, (.slice A l.length cap)] 29)) W0.out.size (.inr (Nat.le_refl _)))
      have HB_1 := Lib.hid (HB_0.out.within (within_alloc w (.cells #[.int .i64 p, (.slice A l.length cap)] 29)) (by omega))
      have Y1 := Lib.hid (show (w.alloc (.cells #[.int .i64 p, (.slice A l.length cap)] 29)).heap.size = w.heap.size + 1 by simp)
      have hnew := box_new w p (.slice A l.length cap) 29
      have BX_1 := Lib.hid hnew
      clear hnew
      go_enter Try.func21, Try.ntmps21
      obtain ⟨g0_0, g0_1, g0_2⟩ := BX_1.out
      have hdr : Below (w.alloc (.cells #[.int .i64 p, (.slice A l.length cap)] 29)).heap.size (w.alloc (.cells #[.int .i64 p, (.slice A l.length cap)] 29)) (w.alloc (.cells #[.int .i64 p, (.slice A l.length cap)] 29)).drew := (Below.refl _ _).drew
      have HBD := Lib.hid (HB_1.out.within (within_of hdr) (.inr (Nat.zero_le _)))
      have HKK := Lib.hid (BX_1.out.kept hdr)
      have HWD := Lib.hid (below_on W1.out hdr W1.out.size)
      clear hdr
      go_wp2_with fail
      go_region_held3 (fun W' => W'.cell? ⟨w.heap.size, 0, none⟩ = some (.int .i64 p) ∧ W'.cell? ⟨w.heap.size, 1, none⟩ = some (.slice A l.length cap))
        (first | exact ⟨HKK.out.2.1, HKK.out.2.2⟩ | exact ⟨HK3.out.2.1, HK3.out.2.2⟩ | exact ⟨HK2.out.2.1, HK2.out.2.2⟩ | fail)
        (first
          | (go_at_call 19; refine (HRG2.out _ HBD.out.at).mono ?_; rintro e w5 ⟨rfl, hb⟩; have HK2 := Lib.hid (HKK.out.kept hb); have HB2 := Lib.hid (HBD.out.within (within_of hb) (.inr (Nat.zero_le _))); have HWE := Lib.hid (below_on HWD.out hb HWD.out.size); clear hb)
          | (go_at_call 46; refine (HRK2.out _ HB2.out.at).mono ?_; rintro e w6 ⟨rfl, hb⟩; have HK3 := Lib.hid (HK2.out.kept hb); have HWF := Lib.hid (below_on HWE.out hb HWE.out.size); clear hb))
      all_goals
        go_wp2_with fail
        go_ret
        exact ⟨by rw [HRV.out]; first | rfl | simp, HWF.out⟩
    · have HRV := Lib.hid (show rv = false from by rw [hrv2]; exact decide_eq_false he)
      have e1 : (r == (l.length : Int)) = false := by simpa using he
      have e2 : ((l.length : Int) == r) = false := by simpa using fun h => he h.symm
      clear hrv2
      have W0 := Lib.hid (Below.refl w.heap.size w)
      have HB_0 := Lib.hid (bars_in hl)
      clear hl
      have Z1 := Lib.hid (within_alloc w (.cells #[.int .i64 p, (.slice A l.length cap)] 29)).size
      have W1 := Lib.hid (within_on W0.out (within_alloc w (.cells #[.int .i64 p, (.slice A l.length cap)] 29)) W0.out.size (.inr (Nat.le_refl _)))
      have HB_1 := Lib.hid (HB_0.out.within (within_alloc w (.cells #[.int .i64 p, (.slice A l.length cap)] 29)) (by omega))
      have Y1 := Lib.hid (show (w.alloc (.cells #[.int .i64 p, (.slice A l.length cap)] 29)).heap.size = w.heap.size + 1 by simp)
      have hnew := box_new w p (.slice A l.length cap) 29
      have BX_1 := Lib.hid hnew
      clear hnew
      go_enter Try.func21, Try.ntmps21
      obtain ⟨g0_0, g0_1, g0_2⟩ := BX_1.out
      have hdr : Below (w.alloc (.cells #[.int .i64 p, (.slice A l.length cap)] 29)).heap.size (w.alloc (.cells #[.int .i64 p, (.slice A l.length cap)] 29)) (w.alloc (.cells #[.int .i64 p, (.slice A l.length cap)] 29)).drew := (Below.refl _ _).drew
      have HBD := Lib.hid (HB_1.out.within (within_of hdr) (.inr (Nat.zero_le _)))
      have HKK := Lib.hid (BX_1.out.kept hdr)
      have HWD := Lib.hid (below_on W1.out hdr W1.out.size)
      clear hdr
      go_wp2_with fail
      go_region_held3 (fun W' => W'.cell? ⟨w.heap.size, 0, none⟩ = some (.int .i64 p) ∧ W'.cell? ⟨w.heap.size, 1, none⟩ = some (.slice A l.length cap))
        (first | exact ⟨HKK.out.2.1, HKK.out.2.2⟩ | exact ⟨HK3.out.2.1, HK3.out.2.2⟩ | exact ⟨HK2.out.2.1, HK2.out.2.2⟩ | fail)
        (first
          | (go_at_call 19; refine (HRG2.out _ HBD.out.at).mono ?_; rintro e w5 ⟨rfl, hb⟩; have HK2 := Lib.hid (HKK.out.kept hb); have HB2 := Lib.hid (HBD.out.within (within_of hb) (.inr (Nat.zero_le _))); have HWE := Lib.hid (below_on HWD.out hb HWD.out.size); clear hb)
          | (go_at_call 46; refine (HRK2.out _ HB2.out.at).mono ?_; rintro e w6 ⟨rfl, hb⟩; have HK3 := Lib.hid (HK2.out.kept hb); have HWF := Lib.hid (below_on HWE.out hb HWE.out.size); clear hb))
      all_goals
        go_wp2_with fail
        go_ret
        exact ⟨by rw [HRV.out]; first | rfl | simp, HWF.out⟩
end Go.Proofs.Ytdnmmjaelgjkaaa
/- The law FnExactFreedomOf returns true at every input. No condition. -/
namespace Go.Proofs.Ytdnmmjaelgjkaaa
open Go.RowKit

set_option maxHeartbeats 2000000 in
set_option maxRecDepth 100000 in
theorem lawFreedomOf (q : Int) (A : Option Addr) (cap : Nat) (l : List (Int × Int)) (w : World) (hl : l.length ≤ maxLen) (hb : BarsAt w w.heap.size A l) :
    Calls Try.prog 8 #[.agg #[.int .i64 q, .slice A l.length cap]] w fun e w' => e = .returned (.bool true) ∧ Below w.heap.size w w' := by
  have HB_0 := Lib.hid (bars_in hb)
  clear hb
  by_cases hn : l.length ≤ 1048576
  · have W0 := Lib.hid (Below.refl w.heap.size w)
    have hal := new_below w (.cells #[.int .i64 q, .slice A l.length cap] 24)
    have Z1 := Lib.hid (within_of hal).size
    have W1 := Lib.hid (within_on W0.out (within_of hal) W0.out.size (.inr (Nat.le_refl _)))
    have HB_1 := Lib.hid (HB_0.out.within (within_of hal) (by omega))
    clear hal
    have hsz : (w.alloc (.cells #[.int .i64 q, .slice A l.length cap] 24)).heap.size = w.heap.size + 1 := by simp
    have Y1 := Lib.hid hsz
    clear hsz
    have BX_1 := Lib.hid (box_new w q (.slice A l.length cap) 24)
    go_enter Try.func8, Try.ntmps8
    go_wp2_with fail
    generalize (w.alloc (.cells #[.int .i64 q, .slice A l.length cap] 24)) = w1 at *
    refine (szGraph_c q A l.length cap 1048576 _ (by omega) (by omega)).mono ?_
    rintro e w2 ⟨rfl, hb⟩
    have Z2 := Lib.hid (within_of hb).size
    have W2 := Lib.hid (within_on W1.out (within_of hb) W1.out.size (.inr (Nat.le_refl _)))
    have HB_2 := Lib.hid (HB_1.out.within (within_of hb) (by omega))
    have BX_2 := Lib.hid (BX_1.out.within (within_of hb) (by omega))
    clear hb
    have hnn : ¬ (1048576 : Int) - (l.length : Int) < 0 := by omega
    obtain ⟨g01, g02, g03⟩ := BX_2.out
    go_wp2_with fail
    clear g01 g02 g03
    refine (toGraph_c q l A cap _ HB_2.out.at hn).mono ?_
    rintro e w3 ⟨g0, rfl, ho, hb⟩
    have Z3 := Lib.hid (within_of hb).size
    have W3 := Lib.hid (within_on W2.out (within_of hb) W2.out.size (.inr (Nat.le_refl _)))
    have HB_3 := Lib.hid (HB_2.out.within (within_of hb) (by omega))
    have BX_3 := Lib.hid (BX_2.out.within (within_of hb) (by omega))
    have SG_3 := Lib.hid ((own_in ho).bars)
    clear ho hb
    go_wp2_with fail
    refine (specFrd q l (some ⟨g0, 0, none⟩) l.length _ SG_3.out.at hn).mono ?_
    rintro e w4 ⟨rfl, hb⟩
    have Z4 := Lib.hid (within_of hb).size
    have W4 := Lib.hid (within_on W3.out (within_of hb) W3.out.size (.inr (Nat.le_refl _)))
    have HB_4 := Lib.hid (HB_3.out.within (within_of hb) (by omega))
    have BX_4 := Lib.hid (BX_3.out.within (within_of hb) (by omega))
    have SG_4 := Lib.hid (SG_3.out.within (within_of hb) (by omega))
    clear hb
    obtain ⟨g01, g02, g03⟩ := BX_4.out
    go_wp2_with fail
    clear g01 g02 g03
    refine (toGraph_c q l A cap _ HB_4.out.at hn).mono ?_
    rintro e w5 ⟨x0, rfl, ho, hb⟩
    have Z5 := Lib.hid (within_of hb).size
    have W5 := Lib.hid (within_on W4.out (within_of hb) W4.out.size (.inr (Nat.le_refl _)))
    have HB_5 := Lib.hid (HB_4.out.within (within_of hb) (by omega))
    have BX_5 := Lib.hid (BX_4.out.within (within_of hb) (by omega))
    have SG_5 := Lib.hid (SG_4.out.within (within_of hb) (by omega))
    have SX_5 := Lib.hid (own_in ho)
    clear ho hb
    go_wp2_with fail
    have hal := new_below w5 (.cells #[.int .i64 q, .slice (some ⟨x0, 0, none⟩) l.length l.length] 29)
    have Z6 := Lib.hid (within_of hal).size
    have W6 := Lib.hid (within_on W5.out (within_of hal) W5.out.size (.inr (Nat.le_refl _)))
    have HB_6 := Lib.hid (HB_5.out.within (within_of hal) (by omega))
    have BX_6 := Lib.hid (BX_5.out.within (within_of hal) (by omega))
    have SG_6 := Lib.hid (SG_5.out.within (within_of hal) (by omega))
    have SX_6 := Lib.hid (SX_5.out.within (within_of hal) (by omega))
    clear hal
    have hsz : (w5.alloc (.cells #[.int .i64 q, .slice (some ⟨x0, 0, none⟩) l.length l.length] 29)).heap.size = w5.heap.size + 1 := by simp
    have Y6 := Lib.hid hsz
    clear hsz
    have XX_6 := Lib.hid (box_new w5 q (.slice (some ⟨x0, 0, none⟩) l.length l.length) 29)
    generalize (w5.alloc (.cells #[.int .i64 q, .slice (some ⟨x0, 0, none⟩) l.length l.length] 29)) = w6 at *
    refine (implFrd q l (some ⟨x0, 0, none⟩) l.length _ SX_6.out.bars.at hn).mono ?_
    rintro e w7 ⟨rfl, hb⟩
    have Z7 := Lib.hid (within_of hb).size
    have W7 := Lib.hid (within_on W6.out (within_of hb) W6.out.size (.inr (Nat.le_refl _)))
    have HB_7 := Lib.hid (HB_6.out.within (within_of hb) (by omega))
    have BX_7 := Lib.hid (BX_6.out.within (within_of hb) (by omega))
    have SG_7 := Lib.hid (SG_6.out.within (within_of hb) (by omega))
    have SX_7 := Lib.hid (SX_6.out.within (within_of hb) (by omega))
    have XX_7 := Lib.hid (XX_6.out.within (within_of hb) (by omega))
    clear hb
    have kk0 := box2 BX_7.out XX_7.out
    have kk := box2 BX_7.out XX_7.out
    have hdr : Below w7.heap.size w7 w7.drew := (Below.refl _ _).drew
    have Z8 := Lib.hid (within_of hdr).size
    have W8 := Lib.hid (within_on W7.out (within_of hdr) W7.out.size (.inr (Nat.le_refl _)))
    have HB_8 := Lib.hid (HB_7.out.within (within_of hdr) (by omega))
    have BX_8 := Lib.hid (BX_7.out.within (within_of hdr) (by omega))
    have SG_8 := Lib.hid (SG_7.out.within (within_of hdr) (by omega))
    have SX_8 := Lib.hid (SX_7.out.within (within_of hdr) (by omega))
    have XX_8 := Lib.hid (XX_7.out.within (within_of hdr) (by omega))
    clear hdr
    go_wp2_with fail
    go_region_held3 (fun W' => W'.cell? ⟨w.heap.size, 0, none⟩ = some (.int .i64 q) ∧ W'.cell? ⟨w.heap.size, 1, none⟩ = some ((.slice A l.length cap)) ∧ W'.cell? ⟨w5.heap.size, 0, none⟩ = some (.int .i64 q) ∧ W'.cell? ⟨w5.heap.size, 1, none⟩ = some ((.slice (some ⟨x0, 0, none⟩) l.length l.length)))
      (first | exact kk | exact box2 BX_9.out XX_9.out | exact box2 BX_10.out XX_10.out | fail)
      (first
        | (go_at_call 15; refine (toGraph_c q l A cap _ ?_ hn).mono ?_; (exact HB_8.out.at); rintro e w9 ⟨y0, rfl, ho, hb⟩; have Z9 := Lib.hid (within_of hb).size; have W9 := Lib.hid (within_on W8.out (within_of hb) W8.out.size (.inr (Nat.le_refl _))); have HB_9 := Lib.hid (HB_8.out.within (within_of hb) (by omega)); have BX_9 := Lib.hid (BX_8.out.within (within_of hb) (by omega)); have SG_9 := Lib.hid (SG_8.out.within (within_of hb) (by omega)); have SX_9 := Lib.hid (SX_8.out.within (within_of hb) (by omega)); have XX_9 := Lib.hid (XX_8.out.within (within_of hb) (by omega)); have YY := Lib.hid (own_bars ho); clear ho hb)
        | (go_at_call 17; refine (eqGraph_c q l _ _ l.length l.length _ ?_ ?_ hn).mono ?_; (exact SX_9.out.bars.at); (exact YY.out); rintro e w10 ⟨rfl, hb⟩; have Z10 := Lib.hid (within_of hb).size; have W10 := Lib.hid (within_on W9.out (within_of hb) W9.out.size (.inr (Nat.le_refl _))); have HB_10 := Lib.hid (HB_9.out.within (within_of hb) (by omega)); have BX_10 := Lib.hid (BX_9.out.within (within_of hb) (by omega)); have SG_10 := Lib.hid (SG_9.out.within (within_of hb) (by omega)); have SX_10 := Lib.hid (SX_9.out.within (within_of hb) (by omega)); have XX_10 := Lib.hid (XX_9.out.within (within_of hb) (by omega)); clear hb))
    go_wp2_with fail
    go_ret
    exact ⟨rfl, W10.out⟩
  · have hx : (1048576 : Int) < (l.length : Int) := by omega
    have h63 : l.length ≤ 9223372036854775807 := by unfold maxLen at hl; omega
    have HA := Lib.hid (new_below w (.cells #[.int .i64 q, .slice A l.length cap] 24))
    go_enter Try.func8, Try.ntmps8
    go_wp2_with fail
    refine (szGraph_no q A l.length cap 1048576 _ h63 hx (by omega)).mono ?_
    rintro e w1 ⟨rfl, hb1⟩
    have W1 := Lib.hid (below_on HA.out hb1 HA.out.size)
    clear hb1
    go_wp2_with fail
    go_ret
    exact ⟨rfl, W1.out⟩
end Go.Proofs.Ytdnmmjaelgjkaaa
/- What slices.Equal and slices.Min answer over rows of ints. No condition. -/
namespace Go.Proofs.Ytdnmmjaelgjkaaa
open Go.RowKit

theorem eq_of_getD {xs ys : List Int} (h1 : xs.length = ys.length) (h2 : ∀ j, j < xs.length → xs.getD j 0 = ys.getD j 0) : xs = ys := by
  apply List.ext_getElem h1
  intro j hj hj'
  have := h2 j hj
  simpa [List.getD, List.getElem?_eq_getElem hj, List.getElem?_eq_getElem hj'] using this

set_option maxHeartbeats 1000000 in
set_option maxRecDepth 100000 in
theorem slEqual (xs ys : List Int) (A B : Option Addr) (ca cb lo hi lo' hi' : Nat) (w : World) (hx : IntsIn w lo hi A xs) (hy : IntsIn w lo' hi' B ys) (hn : xs.length ≤ 1048576) :
    Calls Try.prog 121 #[.slice A xs.length ca, .slice B ys.length cb] w fun e w' => e = .returned (.bool (decide (xs = ys))) ∧ Below w.heap.size w w' := by
  have HX := Lib.hid hx
  have HY := Lib.hid hy
  clear hx hy
  by_cases hl : xs.length = ys.length
  · have hne : ((xs.length : Int) != (ys.length : Int)) = false := by rw [bne_eq_false_iff_eq]; omega
    have HL := Lib.hid hl
    clear hl
    go_enter Try.func121, Try.ntmps121
    go_wp2_with fail
    clear hne
    go_loopw [13] (fun i wr => ∃ k : Nat, k ≤ xs.length ∧ i = .int .i64 k ∧ (∀ j, j < k → xs.getD j 0 = ys.getD j 0) ∧ ∃ m, wr = w.drewN m) (fun i _ => xs.length - (intOf i).toNat)
    case atStart => exact ⟨0, Nat.zero_le _, rfl, fun j hj => absurd hj (Nat.not_lt_zero _), 0, rfl⟩
    case round =>
      obtain ⟨k, hk, rfl, hall, m, rfl⟩ := hrel
      have HALL := Lib.hid hall
      clear hall
      by_cases hlt : k < xs.length
      · have hi' : (k : Int) < (xs.length : Int) := by omega
        have hi2 : (k : Int) < (ys.length : Int) := by have := HL.out; omega
        obtain ⟨b, off, rfl, hc⟩ := row_at HX.out (by omega)
        obtain ⟨b', off', rfl, hc'⟩ := row_at HY.out (by have := HL.out; omega)
        have h1 := hc k hlt
        have h2 := hc' k (by omega)
        have HNE := Lib.hid (fun h : xs.getD k 0 ≠ ys.getD k 0 => show decide (xs = ys) = false from decide_eq_false fun e => h (by rw [e]))
        have HNX := Lib.hid (fun h : xs.getD k 0 = ys.getD k 0 => show ∀ j, j < k + 1 → xs.getD j 0 = ys.getD j 0 from fun j hj => by
          by_cases e : j = k
          · subst e; exact h
          · exact HALL.out j (by omega))
        obtain ⟨x, hx⟩ : ∃ x, xs.getD k 0 = x := ⟨_, rfl⟩
        obtain ⟨y, hy⟩ : ∃ y, ys.getD k 0 = y := ⟨_, rfl⟩
        rw [hx] at h1 HNE HNX
        rw [hy] at h2 HNE HNX
        clear hx hy hc hc'
        by_cases c : x = y
        · have e1 : (x != y) = false := by simpa using c
          have HN := Lib.hid (HNX.out c)
          clear c
          go_wp2_with fail
          go_big_quiet (fail)
          go_wp2_with fail
          go_roundw
          case rel => exact ⟨k + 1, by omega, by go_num, HN.out, m + nq, rfl⟩
          case measure => simp [intOf]; omega
        · have e1 : (x != y) = true := by simpa using c
          have HN := Lib.hid (HNE.out c)
          clear c
          go_wp2_with fail
          go_big_quiet (fail)
          go_wp2_with fail
          go_ret
          exact ⟨by rw [HN.out]; rfl, (below_drewN _ _ _).trans (below_drewN _ _ _)⟩
      · obtain rfl : k = xs.length := by omega
        have HE := Lib.hid (show decide (xs = ys) = true from decide_eq_true (eq_of_getD HL.out HALL.out))
        go_wp2_with fail
        go_ret
        exact ⟨by rw [HE.out]; rfl, below_drewN _ _ _⟩
  · have hne : ((xs.length : Int) != (ys.length : Int)) = true := by rw [bne_iff_ne]; omega
    have HE := Lib.hid (show decide (xs = ys) = false from decide_eq_false fun e => hl (by rw [e]))
    clear hl
    go_enter Try.func121, Try.ntmps121
    go_wp2_with fail
    go_ret
    exact ⟨by rw [HE.out]; rfl, Below.refl _ _⟩

set_option maxHeartbeats 1000000 in
set_option maxRecDepth 100000 in
/-- Is the least of a row at least 0? -/
theorem slMin (xs : List Int) (A : Option Addr) (ca lo hi : Nat) (w : World) (hx : IntsIn w lo hi A xs) (hn : xs.length ≤ 1048576) (h0 : 0 < xs.length) :
    Calls Try.prog 122 #[.slice A xs.length ca] w fun e w' => ∃ y : Int, e = .returned (.int .i64 y) ∧ (0 ≤ y ↔ ∀ j, j < xs.length → 0 ≤ xs.getD j 0) ∧ w = w' := by
  have HX := Lib.hid hx
  clear hx
  have h1 : ¬ (xs.length : Int) < 1 := by omega
  obtain ⟨b, off, rfl, hc⟩ := row_at HX.out h0
  have hc0 := hc 0 h0
  rw [Nat.add_zero] at hc0
  have h0i : (0 : Int) < (xs.length : Int) := by omega
  have HC := Lib.hid hc
  clear hc
  obtain ⟨z, hz⟩ : ∃ z, xs.getD 0 0 = z := ⟨_, rfl⟩
  rw [hz] at hc0
  have HZ := Lib.hid hz
  clear hz
  go_enter Try.func122, Try.ntmps122
  go_wp2_with fail
  go_loop [3, 4] (fun m i => ∃ k : Nat, 1 ≤ k ∧ k ≤ xs.length ∧ i = .int .i64 k ∧ ∃ y : Int, m = .int .i64 y ∧ (0 ≤ y ↔ ∀ j, j < k → 0 ≤ xs.getD j 0)) (fun _ i => xs.length - (intOf i).toNat)
  case atStart => exact ⟨1, Nat.le_refl _, h0, rfl, z, rfl, by
    constructor
    · intro h j hj
      obtain rfl : j = 0 := by omega
      rw [HZ.out]; exact h
    · intro h
      rw [← HZ.out]; exact h 0 (by omega)⟩
  case round =>
    obtain ⟨k, hk1, hk, rfl, y, rfl, hy⟩ := hrel
    have HY := Lib.hid hy
    clear hy hc0
    by_cases hlt : k < xs.length
    · have hi' : (k : Int) < (xs.length : Int) := by omega
      have hck := HC.out k hlt
      have HNX := Lib.hid (show ∀ u : Int, (0 ≤ u ↔ 0 ≤ y ∧ 0 ≤ xs.getD k 0) → (0 ≤ u ↔ ∀ j, j < k + 1 → 0 ≤ xs.getD j 0) from fun u hu => by
        rw [hu, HY.out]
        constructor
        · rintro ⟨g1, g2⟩ j hj
          by_cases e : j = k
          · subst e; exact g2
          · exact g1 j (by omega)
        · intro g
          exact ⟨fun j hj => g j (by omega), g k (by omega)⟩)
      obtain ⟨x, hx⟩ : ∃ x, xs.getD k 0 = x := ⟨_, rfl⟩
      rw [hx] at hck HNX
      clear hx
      by_cases c : x < y
      all_goals
        go_wp2_with fail
        go_round
        case rel => exact ⟨k + 1, by omega, by omega, by go_num, _, rfl, HNX.out _ (by omega)⟩
        case measure => simp [intOf]; omega
    · obtain rfl : k = xs.length := by omega
      go_wp2_with fail
      go_ret
      exact ⟨y, rfl, HY.out, rfl⟩
end Go.Proofs.Ytdnmmjaelgjkaaa
/- When a list is one of bars of a valid graph, in order; a state by it. No program. No condition. -/
namespace Go.Proofs.Ytdnmmjaelgjkaaa
open Go.RowKit

/-- The number at place j names a bar, behind the one before. -/
def OkS (m : Nat) (Z : List Int) (j : Nat) : Prop := (0 ≤ Z.getD j 0 ∧ Z.getD j 0 < (m : Int)) ∧ (0 < j → Z.getD (j - 1) 0 < Z.getD j 0)
theorem okS_snoc {m : Nat} {Z : List Int} {k : Nat} (h : ∀ j, j < k → OkS m Z j) (hk : OkS m Z k) : ∀ j, j < k + 1 → OkS m Z j := fun j hj => by
  by_cases e : j = k
  · subst e; exact hk
  · exact h j (by omega)
open Classical in
/-- A set of bars of a valid graph, as a list. -/
noncomputable def setB (p : Int) (l : List (Int × Int)) (Z : List Int) : Bool := if (∀ j, j < Z.length → OkS l.length Z j) ∧ IsG p l then true else false
theorem setB_all {p : Int} {l : List (Int × Int)} {Z : List Int} (h : ∀ j, j < Z.length → OkS l.length Z j) : setB p l Z = isGB p l := by
  unfold setB
  by_cases g : IsG p l
  · rw [if_pos ⟨h, g⟩, isGB_yes g]
  · rw [if_neg (fun q => g q.2), isGB_no g]
theorem setB_bad {p : Int} {l : List (Int × Int)} {Z : List Int} {j : Nat} (hj : j < Z.length) (h : ¬ OkS l.length Z j) : setB p l Z = false := by
  unfold setB
  rw [if_neg (fun q => h (q.1 j hj))]
theorem setB_is {p : Int} {l : List (Int × Int)} {Z : List Int} (h : setB p l Z = true) : (∀ j, j < Z.length → OkS l.length Z j) ∧ IsG p l := by
  unfold setB at h
  by_cases g : (∀ j, j < Z.length → OkS l.length Z j) ∧ IsG p l
  · exact g
  · rw [if_neg g] at h; cases h
theorem setB_not {p : Int} {l : List (Int × Int)} {Z : List Int} (hG : IsG p l) (h : setB p l Z = false) : ∃ j, j < Z.length ∧ ¬ OkS l.length Z j := by
  refine Classical.byContradiction fun q => ?_
  have : ∀ j, j < Z.length → OkS l.length Z j := fun j hj => Classical.byContradiction fun n => q ⟨j, hj, n⟩
  rw [setB_all this, isGB_yes hG] at h
  cases h
/-- The index of the bar before. -/
def lastP (Z : List Int) (j : Nat) : Int := if j = 0 then -1 else Z.getD (j - 1) 0
theorem lastP_s (Z : List Int) (j : Nat) : lastP Z (j + 1) = Z.getD j 0 := by unfold lastP; rw [if_neg (by omega)]; rfl
theorem lastP_ok {m : Nat} {Z : List Int} {j : Nat} (h : ∀ u, u < j → OkS m Z u) : OkS m Z j ↔ lastP Z j < Z.getD j 0 ∧ Z.getD j 0 < (m : Int) := by
  unfold OkS lastP
  by_cases e : j = 0
  · subst e
    rw [if_pos rfl]
    constructor
    · rintro ⟨h1, _⟩; omega
    · rintro ⟨h1, h2⟩; exact ⟨by omega, fun h => absurd h (by omega)⟩
  · rw [if_neg e]
    have h0 := (h (j - 1) (by omega)).1.1
    constructor
    · rintro ⟨h1, h2⟩; have := h2 (by omega); omega
    · rintro ⟨h1, h2⟩; exact ⟨by omega, fun _ => by omega⟩
theorem okP_s {l : List (Int × Int)} {T Z : List Int} {j : Nat} : OkP l T Z j ↔ OkS l.length Z j ∧ isEnd (l.getD (Z.getD j 0).toNat (0, 0)) (T.getD j 0) := by
  unfold OkP OkS
  constructor
  · rintro ⟨h1, h2, h3⟩; exact ⟨⟨h1, h2⟩, h3⟩
  · rintro ⟨⟨h1, h2⟩, h3⟩; exact ⟨h1, h2, h3⟩
end Go.Proofs.Ytdnmmjaelgjkaaa
/- A graph that is being built in a box: bars are appended one by one to a row of the call's own, while other blocks stay as they were. No condition. -/
namespace Go.Proofs.Ytdnmmjaelgjkaaa
open Go.RowKit

/-- The graph of p points with the bars l stands in the box bg; the blocks os are as they were in w0. -/
def GBox (B : Nat) (w0 wr : World) (bg : Nat) (os : List Nat) (p : Int) (A : Option Addr) (c : Nat) (l : List (Int × Int)) : Prop :=
  Box wr bg p (.slice A l.length c) ∧ wr.frozen? ⟨bg, 1, none⟩ = false ∧ (∀ a, A = some a → a.block ∉ os ∧ a.block ≠ bg) ∧ wr.ownsRow B 85 2 (.slice A l.length c) l.length (barCells l) ∧ (∀ o ∈ os, o < wr.heap.size ∧ wr.heap[o]? = w0.heap[o]? ∧ o ≠ bg) ∧ Below B w0 wr ∧ B ≤ bg
theorem GBox.cell {B : Nat} {w0 wr : World} {bg : Nat} {os : List Nat} {p : Int} {A : Option Addr} {c : Nat} {l : List (Int × Int)} (h : GBox B w0 wr bg os p A c l) {o k : Nat} (ho : o ∈ os) : wr.cell? ⟨o, k, none⟩ = w0.cell? ⟨o, k, none⟩ :=
  World.cell?_of_block (a := ⟨o, k, none⟩) (h.2.2.2.2.1 o ho).2.1
theorem GBox.frozen {B : Nat} {w0 wr : World} {bg : Nat} {os : List Nat} {p : Int} {A : Option Addr} {c : Nat} {l : List (Int × Int)} (h : GBox B w0 wr bg os p A c l) {o k : Nat} (ho : o ∈ os) : wr.frozen? ⟨o, k, none⟩ = w0.frozen? ⟨o, k, none⟩ :=
  World.frozen?_of_block (a := ⟨o, k, none⟩) (h.2.2.2.2.1 o ho).2.1
theorem GBox.below {B : Nat} {w0 wr w' : World} {bg : Nat} {os : List Nat} {p : Int} {A : Option Addr} {c : Nat} {l : List (Int × Int)} (h : GBox B w0 wr bg os p A c l) (hb : Below wr.heap.size wr w') : GBox B w0 w' bg os p A c l := by
  obtain ⟨h1, h2, h3, h4, h5, h6, h7⟩ := h
  refine ⟨h1.kept hb, (hb.frozen (p := ⟨bg, 1, none⟩) h1.1).trans h2, h3, own_below h4 hb, fun o ho => ?_, below_on h6 hb (Nat.le_of_lt (Nat.lt_of_le_of_lt h7 h1.1)), h7⟩
  obtain ⟨k1, k2, k3⟩ := h5 o ho
  exact ⟨Nat.lt_of_lt_of_le k1 hb.size, (hb.block o k1).trans k2, k3⟩
theorem GBox.push {B : Nat} {w0 wr w' : World} {bg : Nat} {os : List Nat} {p : Int} {A : Option Addr} {c : Nat} {l : List (Int × Int)} {v' : Value} (h : GBox B w0 wr bg os p A c l) (x : Int × Int)
    (ho : w'.ownsRow B 85 2 v' (l.length + 1) (barCells l ++ [.int .i64 x.1, .int .i64 x.2])) (hg : wr.grownBy w' (Value.slice A l.length c).ownBlock)
    (hat : v'.ownBlock = (Value.slice A l.length c).ownBlock ∨ v'.ownBlock = some (wr.heap.size + 1)) :
    w'.cell? ⟨bg, 0, none⟩ = some (.int .i64 p) ∧ w'.cell? ⟨bg, 1, none⟩ = some (.slice A l.length c) ∧ w'.frozen? ⟨bg, 1, none⟩ = false ∧ ∃ A2 c2, v' = .slice A2 (l.length + 1) c2 ∧ GBox B w0 (w'.setCell ⟨bg, 1, none⟩ v') bg os p A2 c2 (l ++ [x]) := by
  obtain ⟨h1, h2, h3, h4, h5, h6, h7⟩ := h
  have hne : ∀ o, o = bg ∨ o ∈ os → some o ≠ (Value.slice A l.length c).ownBlock := fun o hoo e => by
    cases A with
    | none => cases e
    | some a =>
      cases e
      rcases hoo with hoo | hoo
      · exact (h3 a rfl).2 hoo
      · exact (h3 a rfl).1 hoo
  have hblk := hg.block bg h1.1 (hne bg (.inl rfl))
  have c0 := (World.cell?_of_block (a := ⟨bg, 0, none⟩) hblk).trans h1.2.1
  have c1 := (World.cell?_of_block (a := ⟨bg, 1, none⟩) hblk).trans h1.2.2
  have f1 := (World.frozen?_of_block (a := ⟨bg, 1, none⟩) hblk).trans h2
  refine ⟨c0, c1, f1, ?_⟩
  obtain ⟨A2, c2, rfl⟩ := own_shape ho
  refine ⟨A2, c2, rfl, ?_⟩
  have hA2 : ∀ a, A2 = some a → a.block ∉ os ∧ a.block ≠ bg := fun a e => by
    subst e
    rcases hat with hat | hat
    · cases A with
      | none => cases hat
      | some a0 =>
        have : a.block = a0.block := by simpa [Value.ownBlock] using hat
        rw [this]
        exact h3 a0 rfl
    · have : a.block = wr.heap.size + 1 := by simpa [Value.ownBlock] using hat
      rw [this]
      refine ⟨fun hm => ?_, ?_⟩
      · have := (h5 _ hm).1
        omega
      · have := h1.1
        omega
  have hs := grownBy_set w' bg 1 (.slice A2 (l.length + 1) c2)
  have e2 : (l ++ [x]).length = l.length + 1 := by simp
  have e3 : barCells (l ++ [x]) = barCells l ++ [.int .i64 x.1, .int .i64 x.2] := by rw [barCells_append]; rfl
  unfold GBox
  rw [e2, e3]
  refine ⟨⟨?_, ?_, ?_⟩, ?_, hA2, ?_, fun o hoo => ?_, ?_, h7⟩
  · exact Nat.lt_of_lt_of_le (Nat.lt_of_lt_of_le h1.1 hg.size) hs.size
  · rw [World.cell?_setCell_other _ _ _ _ (by intro e; simp at e)]
    exact c0
  · exact World.cell?_setCell_same _ _ _ c1
  · rw [World.frozen?_setCell]
    exact f1
  · refine ho.kept hs ?_
    cases A2 with
    | none => exact .inl rfl
    | some a => exact .inr (by simp [Value.ownBlock]; exact (hA2 a rfl).2)
  · obtain ⟨k1, k2, k3⟩ := h5 o hoo
    exact ⟨Nat.lt_of_lt_of_le (Nat.lt_of_lt_of_le k1 hg.size) hs.size, (hs.block o (Nat.lt_of_lt_of_le k1 hg.size) (by simp; exact k3)).trans ((hg.block o k1 (hne o (.inr hoo))).trans k2), k3⟩
  · refine (h6.grown hg (Nat.le_of_lt (Nat.lt_of_le_of_lt h7 h1.1)) fun g e => (h4.lt g e).1).grown hs ?_ fun g e => by cases e; exact h7
    exact Nat.le_trans (Nat.le_of_lt (Nat.lt_of_le_of_lt h7 h1.1)) hg.size
/-- The same behind an append in a region that draws its order. -/
theorem GBox.push2 {B : Nat} {w0 wr w' : World} {bg : Nat} {os : List Nat} {p : Int} {A : Option Addr} {c : Nat} {l : List (Int × Int)} {gg c2 : Nat} {us : Array Value} {tb : TypeId} (h : GBox B w0 wr bg os p A c l) (x : Int × Int)
    (ho : w'.ownsRow B 85 2 (.slice (some ⟨gg, 0, none⟩) (l.length + 1) c2) (l.length + 1) (barCells l ++ [.int .i64 x.1, .int .i64 x.2])) (hg : ((wr.alloc (.cells us tb)).drew).grownBy w' (Value.slice A l.length c).ownBlock)
    (hat : (Value.slice A l.length c).ownBlock = some gg ∨ gg = wr.heap.size + 1) :
    w'.cell? ⟨bg, 0, none⟩ = some (.int .i64 p) ∧ w'.cell? ⟨bg, 1, none⟩ = some (.slice A l.length c) ∧ w'.frozen? ⟨bg, 1, none⟩ = false ∧ GBox B w0 (w'.setCell ⟨bg, 1, none⟩ (.slice (some ⟨gg, 0, none⟩) (l.length + 1) c2)) bg os p (some ⟨gg, 0, none⟩) c2 (l ++ [x]) := by
  have hg1 : (wr.alloc (.cells us tb)).grownBy ((wr.alloc (.cells us tb)).drew) (Value.slice A l.length c).ownBlock := ⟨rfl, rfl, rfl, Nat.le_refl _, fun _ _ _ => rfl⟩
  obtain ⟨c0, c1, f1, A2, c2', e, hG⟩ := h.push x ho (((World.grownBy_alloc wr (.cells us tb) _).trans_ hg1).trans_ hg) (by
    rcases hat with hat | hat
    · left; rw [hat]; rfl
    · right; rw [hat]; rfl)
  cases e
  exact ⟨c0, c1, f1, hG⟩
theorem GBox.drew {B : Nat} {w0 wr : World} {bg : Nat} {os : List Nat} {p : Int} {A : Option Addr} {c : Nat} {l : List (Int × Int)} (h : GBox B w0 wr bg os p A c l) : GBox B w0 wr.drew bg os p A c l := h.below ((Below.refl _ _).drew)
theorem GBox.ownIn {B : Nat} {w0 wr : World} {bg : Nat} {os : List Nat} {p : Int} {A : Option Addr} {c : Nat} {l : List (Int × Int)} (h : GBox B w0 wr bg os p A c l) : OwnIn wr B wr.heap.size A c l := own_in' h.2.2.2.1
/-- The answer's variable is written: the row is still the call's own. -/
theorem GBox.ret {B : Nat} {w0 wr : World} {bg : Nat} {os : List Nat} {p : Int} {A : Option Addr} {c : Nat} {l : List (Int × Int)} (h : GBox B w0 wr bg os p A c l) {o : Nat} (ho : o ∈ os) (hB : B ≤ o) (u v : Value) :
    OwnIn ((wr.setCell ⟨o, 0, none⟩ u).setCell ⟨o, 1, none⟩ v) B ((wr.setCell ⟨o, 0, none⟩ u).setCell ⟨o, 1, none⟩ v).heap.size A c l ∧ Below B w0 ((wr.setCell ⟨o, 0, none⟩ u).setCell ⟨o, 1, none⟩ v) := by
  obtain ⟨h1, h2, h3, h4, h5, h6, h7⟩ := h
  have hg := (grownBy_set wr o 0 u).trans_ (grownBy_set (wr.setCell ⟨o, 0, none⟩ u) o 1 v)
  refine ⟨own_in' (h4.kept hg ?_), h6.grown hg (Nat.le_of_lt (Nat.lt_of_le_of_lt h7 h1.1)) fun g e => by cases e; exact hB⟩
  cases A with
  | none => exact .inl rfl
  | some a => exact .inr (by simp [Value.ownBlock]; exact fun e => (h3 a rfl).1 (e ▸ ho))
/-- A graph without bars, just laid in a box; the answer's variable lies before it. -/
theorem gbox_new (w : World) (p : Int) : GBox w.heap.size (w.alloc (.cells #[.int .i64 0, .slice none 0 0] 29)) ((w.alloc (.cells #[.int .i64 0, .slice none 0 0] 29)).alloc (.cells #[.int .i64 p, .slice none 0 0] 29)) (w.heap.size + 1) [w.heap.size] p none 0 [] := by
  have hsz : (w.alloc (.cells #[.int .i64 0, .slice none 0 0] 29)).heap.size = w.heap.size + 1 := by simp
  have hb := new_below (w.alloc (.cells #[.int .i64 0, .slice none 0 0] 29)) (.cells #[.int .i64 p, .slice none 0 0] 29)
  have hx := box_new (w.alloc (.cells #[.int .i64 0, .slice none 0 0] 29)) p (.slice none 0 0) 29
  rw [hsz] at hx
  refine ⟨hx, ?_, fun a e => (by cases e), ⟨rfl, .inl ⟨rfl, rfl⟩⟩, fun o ho => ?_, hb.mono (by omega), by omega⟩
  · rw [← hsz]
    exact World.frozen?_alloc_at _ _ _ _ rfl
  · have : o = w.heap.size := by simpa using ho
    subst this
    exact ⟨by simp; omega, hb.block _ (by omega), by omega⟩
/-- A graph without bars, laid in a box; what lies in the blocks os stands. -/
theorem gbox_nil (w : World) (B : Nat) (os : List Nat) (p : Int) (hB : B ≤ w.heap.size) (hos : ∀ o ∈ os, o < w.heap.size) : GBox B w (w.alloc (.cells #[.int .i64 p, .slice none 0 0] 29)) w.heap.size os p none 0 [] := by
  have hb := new_below w (.cells #[.int .i64 p, .slice none 0 0] 29)
  refine ⟨box_new w p (.slice none 0 0) 29, World.frozen?_alloc_at _ _ _ _ rfl, fun a e => (by cases e), ⟨rfl, .inl ⟨rfl, rfl⟩⟩, fun o ho => ?_, hb.mono hB, hB⟩
  have := hos o ho
  exact ⟨by simp; omega, hb.block _ this, by omega⟩
/-- The same with an empty row of its own. -/
theorem gbox_made (w : World) (B : Nat) (os : List Nat) (p : Int) (hB : B ≤ w.heap.size) (hos : ∀ o ∈ os, o < w.heap.size) : GBox B w ((w.alloc (.cells #[] 85)).alloc (.cells #[.int .i64 p, .slice (some ⟨w.heap.size, 0, none⟩) 0 0] 29)) (w.heap.size + 1) os p (some ⟨w.heap.size, 0, none⟩) 0 [] := by
  have hsz : (w.alloc (.cells #[] 85)).heap.size = w.heap.size + 1 := by simp
  have hb1 := new_below w (.cells #[] 85)
  have hb2 := new_below (w.alloc (.cells #[] 85)) (.cells #[.int .i64 p, .slice (some ⟨w.heap.size, 0, none⟩) 0 0] 29)
  have hx := box_new (w.alloc (.cells #[] 85)) p (.slice (some ⟨w.heap.size, 0, none⟩) 0 0) 29
  have hf : ((w.alloc (.cells #[] 85)).alloc (.cells #[.int .i64 p, .slice (some ⟨w.heap.size, 0, none⟩) 0 0] 29)).frozen? ⟨(w.alloc (.cells #[] 85)).heap.size, 1, none⟩ = false := World.frozen?_alloc_at _ _ _ _ rfl
  rw [hsz] at hx hf
  have hb := below_on hb1 hb2 hb1.size
  have ho := World.ownsRow_made (base := B) (e := 85) (size := 2) w #[] 0 hB (by unfold maxLen; omega) (by simp)
  refine ⟨hx, hf, fun a e => ?_, own_below ho hb2, fun o hoo => ?_, hb.mono hB, by omega⟩
  · cases e
    refine ⟨fun hm => ?_, by show w.heap.size ≠ w.heap.size + 1; omega⟩
    have := hos _ hm
    simp at this
  · have := hos o hoo
    exact ⟨by simp; omega, hb.block _ this, by omega⟩
end Go.Proofs.Ytdnmmjaelgjkaaa
/- What spec.l2Has answers. No condition. -/
namespace Go.Proofs.Ytdnmmjaelgjkaaa
open Go.RowKit

set_option maxHeartbeats 1000000 in
set_option maxRecDepth 100000 in
theorem has_c (zs : List Int) (x : Int) (A : Option Addr) (cap lo hi : Nat) (w : World) (hl : IntsIn w lo hi A zs) (hn : zs.length ≤ 1048576) :
    Calls Try.prog 93 #[.slice A zs.length cap, .int .i64 x] w fun e w' => e = .returned (.bool (decide (x ∈ zs))) ∧ w = w' := by
  have HL := Lib.hid hl
  clear hl
  go_enter Try.func93, Try.ntmps93
  go_wp2_with fail
  go_loop [5] (fun i => ∃ k : Nat, k ≤ zs.length ∧ i = .int .i64 k ∧ ∀ j, j < k → zs.getD j 0 ≠ x) (fun i => zs.length - (intOf i).toNat)
  case atStart => exact ⟨0, by omega, rfl, fun j hj => absurd hj (by omega)⟩
  case round =>
    obtain ⟨k, hk, rfl, hall⟩ := hrel
    have HALL := Lib.hid hall
    clear hall
    by_cases hlt : k < zs.length
    · have hi : (k : Int) < (zs.length : Int) := by omega
      obtain ⟨b, off, rfl, _, _, hcell⟩ := HL.out.2 (by omega)
      have hc := hcell k hlt
      clear hcell
      have HM := Lib.hid (show zs.getD k 0 ∈ zs by
        have : zs.getD k 0 = zs[k] := by simp [List.getD, List.getElem?_eq_getElem hlt]
        rw [this]; exact List.getElem_mem hlt)
      obtain ⟨y, hy⟩ : ∃ y, zs.getD k 0 = y := ⟨_, rfl⟩
      rw [hy] at hc HM
      by_cases he : y = x
      · have he' : (y == x) = true := by simpa using he
        have HD := Lib.hid (show decide (x ∈ zs) = true by rw [← he]; exact decide_eq_true HM.out)
        clear he hy
        go_wp2_with fail
        go_ret
        exact ⟨by rw [HD.out]; rfl, rfl⟩
      · have he' : (y == x) = false := by simpa using he
        have HS := Lib.hid (show ∀ j, j < k + 1 → zs.getD j 0 ≠ x from fun j hj => by
          by_cases e : j = k
          · subst e; rw [hy]; exact he
          · exact HALL.out j (by omega))
        clear he hy
        go_wp2_with fail
        go_round
        case rel => exact ⟨k + 1, by omega, by go_num, HS.out⟩
        case measure => simp [intOf]; omega
    · obtain rfl : k = zs.length := by omega
      have HD := Lib.hid (show decide (x ∈ zs) = false by
        refine decide_eq_false fun hm => ?_
        obtain ⟨i, hi, e⟩ := List.getElem_of_mem hm
        refine HALL.out i hi ?_
        simpa [List.getD, List.getElem?_eq_getElem hi] using e)
      go_wp2_with fail
      go_ret
      exact ⟨by rw [HD.out]; rfl, rfl⟩
end Go.Proofs.Ytdnmmjaelgjkaaa
/- What spec.OnlyBars answers, and spec.l2Has. No condition. -/
namespace Go.Proofs.Ytdnmmjaelgjkaaa
open Go.RowKit

/-- The first k bars whose index S takes. -/
def onlyK (l : List (Int × Int)) (S : Nat → Bool) : Nat → List (Int × Int)
  | 0 => []
  | k + 1 => onlyK l S k ++ if S k then [l.getD k (0, 0)] else []
def inS (zs : List Int) (k : Nat) : Bool := decide ((k : Int) ∈ zs)
def onlyL (l : List (Int × Int)) (zs : List Int) : List (Int × Int) := onlyK l (inS zs) l.length
theorem onlyK_len (l : List (Int × Int)) (S : Nat → Bool) : ∀ k, (onlyK l S k).length ≤ k := by
  intro k
  induction k with
  | zero => exact Nat.le_refl _
  | succ k ih =>
    rw [onlyK, List.length_append]
    split <;> simp <;> omega
theorem onlyL_len (l : List (Int × Int)) (zs : List Int) (h : l.length ≤ 1048576) : (onlyL l zs).length ≤ 1048576 := Nat.le_trans (onlyK_len _ _ _) h

set_option maxHeartbeats 4000000 in
set_option maxRecDepth 100000 in
theorem specOnly (p : Int) (l : List (Int × Int)) (zs : List Int) (A Z : Option Addr) (cap cz lo hi : Nat) (w : World) (hl : BarsAt w w.heap.size A l) (hz : IntsIn w lo hi Z zs) (hn : l.length ≤ 1048576) (hnz : zs.length ≤ 1048576) :
    Calls Try.prog 66 #[.agg #[.int .i64 p, .slice A l.length cap], .slice Z zs.length cz] w (GraphR w p (onlyL l zs)) := by
  have hA1 := new_below w (.cells #[.int .i64 p, .slice A l.length cap] 29)
  have hA2 := new_below (w.alloc (.cells #[.int .i64 p, .slice A l.length cap] 29)) (.cells #[.int .i64 0, .slice none 0 0] 29)
  have hsz1 : (w.alloc (.cells #[.int .i64 p, .slice A l.length cap] 29)).heap.size = w.heap.size + 1 := by simp
  have hsz2 : ((w.alloc (.cells #[.int .i64 p, .slice A l.length cap] 29)).alloc (.cells #[.int .i64 0, .slice none 0 0] 29)).heap.size = w.heap.size + 2 := by simp
  have HA := Lib.hid (below_on hA1 hA2 hA1.size)
  have HLW := Lib.hid hl
  have HZW := Lib.hid hz
  have BX := Lib.hid ((box_new w p (.slice A l.length cap) 29).kept hA2)
  have hR := box_new (w.alloc (.cells #[.int .i64 p, .slice A l.length cap] 29)) 0 (.slice none 0 0) 29
  have hF : ((w.alloc (.cells #[.int .i64 p, .slice A l.length cap] 29)).alloc (.cells #[.int .i64 0, .slice none 0 0] 29)).frozen? ⟨(w.alloc (.cells #[.int .i64 p, .slice A l.length cap] 29)).heap.size, 0, none⟩ = false ∧ ((w.alloc (.cells #[.int .i64 p, .slice A l.length cap] 29)).alloc (.cells #[.int .i64 0, .slice none 0 0] 29)).frozen? ⟨(w.alloc (.cells #[.int .i64 p, .slice A l.length cap] 29)).heap.size, 1, none⟩ = false := ⟨World.frozen?_alloc_at _ _ _ _ rfl, World.frozen?_alloc_at _ _ _ _ rfl⟩
  rw [hsz1] at hR hF
  have HR := Lib.hid hR
  have HF := Lib.hid hF
  have hG := gbox_made ((w.alloc (.cells #[.int .i64 p, .slice A l.length cap] 29)).alloc (.cells #[.int .i64 0, .slice none 0 0] 29)) w.heap.size [w.heap.size, w.heap.size + 1] p (by rw [hsz2]; omega) (fun o ho => by rw [hsz2]; simp at ho; omega)
  rw [hsz2] at hG
  have HG := Lib.hid hG
  clear hl hz hA1 hA2 hsz1 hR hF hG
  go_enter Try.func66, Try.ntmps66
  go_wp2_with fail
  have HSZ2 := Lib.hid hsz2
  clear hsz2
  generalize ((((w.alloc (.cells #[.int .i64 p, .slice A l.length cap] 29)).alloc (.cells #[.int .i64 0, .slice none 0 0] 29)).alloc (.cells #[] 85)).alloc (.cells #[.int .i64 p, .slice (some ⟨w.heap.size + 2, 0, none⟩) 0 0] 29)) = w1 at *
  generalize ((w.alloc (.cells #[.int .i64 p, .slice A l.length cap] 29)).alloc (.cells #[.int .i64 0, .slice none 0 0] 29)) = w0 at *
  go_loopw [6] (fun i wr => ∃ k : Nat, k ≤ l.length ∧ i = .int .i64 k ∧ ∃ A' c', GBox w.heap.size w0 wr (w.heap.size + 2 + 1) [w.heap.size, w.heap.size + 1] p A' c' (onlyK l (inS zs) k)) (fun i _ => l.length - (intOf i).toNat)
  case atStart => exact ⟨0, by omega, rfl, _, _, HG.out⟩
  case round =>
    obtain ⟨k, hk, rfl, A', c', hst⟩ := hrel
    have HST := Lib.hid hst
    have HBW := Lib.hid (HA.out.trans hst.2.2.2.2.2.1)
    have hbs : w.heap.size ≤ wr.heap.size := Nat.le_of_lt (Nat.lt_of_le_of_lt hst.2.2.2.2.2.2 hst.1.1)
    have b1 := (hst.cell (o := w.heap.size) (k := 1) (by simp)).trans BX.out.2.2
    clear hst
    by_cases hlt : k < l.length
    · have hik : (k : Int) < (l.length : Int) := by omega
      obtain ⟨b0, off, rfl, hbB, hcell⟩ := HLW.out (by omega)
      have hc1 := (HBW.out.cell (p := ⟨b0, off + k * 2, none⟩) hbB).trans (hcell k hlt).1
      have hc2 := (HBW.out.cell (p := ⟨b0, off + k * 2 + 1, none⟩) hbB).trans (hcell k hlt).2
      clear hcell
      have HZ := Lib.hid (show IntsIn wr lo hi Z zs from ⟨Nat.le_trans HZW.out.1 hbs, fun hl0 => by
        obtain ⟨bz, oz, e, h1, h2, hc⟩ := HZW.out.2 hl0
        exact ⟨bz, oz, e, h1, h2, fun j hj => (HBW.out.cell (p := ⟨bz, oz + j, none⟩) (Nat.lt_of_lt_of_le h2 HZW.out.1)).trans (hc j hj)⟩⟩)
      go_wp2_with fail
      refine (has_c zs (k : Int) Z cz lo hi _ HZ.out hnz).mono ?_
      rintro e w2 ⟨rfl, rfl⟩
      rcases hs : decide ((k : Int) ∈ zs) with _ | _
      · have HE := Lib.hid (show onlyK l (inS zs) (k + 1) = onlyK l (inS zs) k by rw [onlyK, show inS zs k = false from hs]; simp)
        go_wp2_with fail
        go_roundw
        case rel => exact ⟨k + 1, by omega, by go_num, A', c', by rw [HE.out]; exact HST.out⟩
        case measure => simp [intOf]; omega
      · have HE := Lib.hid (show onlyK l (inS zs) (k + 1) = onlyK l (inS zs) k ++ [l.getD k (0, 0)] by rw [onlyK, show inS zs k = true from hs]; simp)
        have hll := onlyK_len l (inS zs) k
        obtain ⟨x, hx⟩ : ∃ x, l.getD k (0, 0) = x := ⟨_, rfl⟩
        rw [hx] at hc1 hc2 HE
        clear hx
        obtain ⟨x1, x2⟩ := x
        simp only at hc1 hc2
        obtain ⟨L, hL⟩ : ∃ L, L = onlyK l (inS zs) k := ⟨_, rfl⟩
        rw [← hL] at HST HE hll
        clear hL
        obtain ⟨i0, hi0, hz0, hz1, hz2⟩ := info_parts infoBar
        obtain ⟨hlt0, g1, g2⟩ := HST.out.1
        have gf := HST.out.2.1
        go_wp2_with fail
        go_region_law (refine step_append_lies _ (by rfl) _ _ _ (by rfl) w.heap.size 85 i0 _ 2 16 Try.underlying27 hi0 hz0 hz1 hz2 rfl (by omega) _ L.length (barCells L) (by rfl) ((HST.out.2.2.2.1.alloc _).drew) ⟨wr.heap.size, 0, none⟩ 1 1 [.int .i64 x1, .int .i64 x2] (by rfl) (by rfl) (World.news_of_block (cs := #[.int .i64 x1, .int .i64 x2]) (t := 85) (fr := (0, 0)) (heap_alloc_new wr _)) (by simp [Value.oneCell']) (by omega) (by unfold maxLen; omega) (by omega) (by simp; omega) (wr.heap.size + 1) (by simp) ?_; intro gg cap2 w1' hown1 hgrow hat hlt; obtain ⟨c0, c1, f1, hG2⟩ := HST.out.push2 (x1, x2) hown1 hgrow hat; have HG2 := Lib.hid hG2; clear hown1 hgrow hat hG2)
        all_goals
          go_wp2_with fail
          go_roundw
          case rel => exact ⟨k + 1, by omega, by go_num, _, cap2, by rw [HE.out]; first | exact HG2.out | exact HG2.out.drew⟩
          case measure => simp [intOf]; omega
    · obtain rfl : k = l.length := by omega
      obtain ⟨_, g1, g2⟩ := HST.out.1
      have r0 := (HST.out.cell (o := w.heap.size + 1) (k := 0) (by simp)).trans HR.out.2.1
      have r1 := (HST.out.cell (o := w.heap.size + 1) (k := 1) (by simp)).trans HR.out.2.2
      have f0 := (HST.out.frozen (o := w.heap.size + 1) (k := 0) (by simp)).trans HF.out.1
      have f1 := (HST.out.frozen (o := w.heap.size + 1) (k := 1) (by simp)).trans HF.out.2
      have hr := HST.out.ret (o := w.heap.size + 1) (by simp) (by omega) (.int .i64 p) (.slice A' (onlyK l (inS zs) l.length).length c')
      have HRT := Lib.hid hr
      have s0 : ((wr.setCell ⟨w.heap.size + 1, 0, none⟩ (.int .i64 p)).setCell ⟨w.heap.size + 1, 1, none⟩ (.slice A' (onlyK l (inS zs) l.length).length c')).cell? ⟨w.heap.size + 1, 0, none⟩ = some (.int .i64 p) := by
        rw [World.cell?_setCell_other _ _ _ _ (by intro e; simp at e)]
        exact World.cell?_setCell_same _ _ _ r0
      have s1 : ((wr.setCell ⟨w.heap.size + 1, 0, none⟩ (.int .i64 p)).setCell ⟨w.heap.size + 1, 1, none⟩ (.slice A' (onlyK l (inS zs) l.length).length c')).cell? ⟨w.heap.size + 1, 1, none⟩ = some (.slice A' (onlyK l (inS zs) l.length).length c') := by
        have r2 : (wr.setCell ⟨w.heap.size + 1, 0, none⟩ (.int .i64 p)).cell? ⟨w.heap.size + 1, 1, none⟩ = some (.slice none 0 0) := by
          rw [World.cell?_setCell_other _ _ _ _ (by intro e; simp at e)]
          exact r1
        exact World.cell?_setCell_same _ _ _ r2
      clear hr
      go_wp2_with fail
      refine bodyPost_ret (v := .agg #[.int .i64 p, .slice A' (onlyK l (inS zs) l.length).length c']) ?_ rfl ⟨A', c', rfl, HRT.out.1.bars.at, HA.out.trans HRT.out.2⟩
      simp [results, Try.results66, go_sem, s0, s1]
end Go.Proofs.Ytdnmmjaelgjkaaa
/- What RankOfSet answers, as a number. No program's walk. No condition. -/
namespace Go.Proofs.Ytdnmmjaelgjkaaa
open Go.RowKit

/-- What RankOfSet answers. -/
noncomputable def rankSV (p k c : Int) (l : List (Int × Int)) (zs : List Int) : Int := if isGB p l = true then rankV p k c (onlyL l zs) else -1
end Go.Proofs.Ytdnmmjaelgjkaaa
/- What IsIndependent answers; that the bars kept do not depend on a list's order. No program. No condition. -/
namespace Go.Proofs.Ytdnmmjaelgjkaaa
open Go.RowKit

/-- What IsIndependent answers. -/
noncomputable def indB (p k c : Int) (l : List (Int × Int)) (zs : List Int) : Bool := setB p l zs && rangeB k c && decide (rankSV p k c l zs = (zs.length : Int))
theorem indB_set {p k c : Int} {l : List (Int × Int)} {zs : List Int} (h : setB p l zs = false) : indB p k c l zs = false := by unfold indB; rw [h]; rfl
theorem indB_rng {p k c : Int} {l : List (Int × Int)} {zs : List Int} (h : rangeB k c = false) : indB p k c l zs = false := by unfold indB; rw [h]; simp
theorem indB_yes {p k c : Int} {l : List (Int × Int)} {zs : List Int} (h : setB p l zs = true) (h2 : rangeB k c = true) : indB p k c l zs = decide (rankSV p k c l zs = (zs.length : Int)) := by unfold indB; rw [h, h2]; simp
theorem onlyK_same (l : List (Int × Int)) (S T : Nat → Bool) : ∀ n, (∀ j, j < n → S j = T j) → onlyK l S n = onlyK l T n := by
  intro n
  induction n with
  | zero => intro _; rfl
  | succ n ih =>
    intro h
    unfold onlyK
    rw [ih (fun j hj => h j (by omega)), h n (by omega)]
theorem onlyL_same {l : List (Int × Int)} {zs ys : List Int} (h : ∀ j : Nat, j < l.length → ((j : Int) ∈ zs ↔ (j : Int) ∈ ys)) : onlyL l zs = onlyL l ys :=
  onlyK_same l _ _ _ fun j hj => by unfold inS; exact decide_eq_decide.2 (h j hj)
theorem rankSV_same {p k c : Int} {l : List (Int × Int)} {zs ys : List Int} (h : ∀ j : Nat, j < l.length → ((j : Int) ∈ zs ↔ (j : Int) ∈ ys)) : rankSV p k c l zs = rankSV p k c l ys := by
  unfold rankSV
  rw [onlyL_same h]
end Go.Proofs.Ytdnmmjaelgjkaaa
/- A circuit: what is needed of ranks, sizes and sets. No program. No condition. -/
namespace Go.Proofs.Ytdnmmjaelgjkaaa
open Go.RowKit

/-- A list without a number. -/
def woL (zs : List Int) (x : Int) : List Int := zs.filter fun y => !decide (y = x)
theorem okS_pair {m : Nat} {Z : List Int} (h : ∀ j, j < Z.length → OkS m Z j) : (∀ x, x ∈ Z → 0 ≤ x ∧ x < (m : Int)) ∧ Z.Pairwise (· < ·) := by
  constructor
  · intro x hx
    obtain ⟨i, hi, rfl⟩ := List.getElem_of_mem hx
    have := (h i hi).1
    simpa [List.getD, List.getElem?_eq_getElem hi] using this
  · rw [List.pairwise_iff_getElem]
    intro i j hi hj hij
    have q : ∀ d, i + d + 1 < Z.length → Z.getD i 0 < Z.getD (i + d + 1) 0 := by
      intro d
      induction d with
      | zero => intro hd; have := (h (i + 1) hd).2 (by omega); simpa using this
      | succ d ih =>
        intro hd
        have h1 := ih (by omega)
        have h2 := (h (i + (d + 1) + 1) hd).2 (by omega)
        rw [show i + (d + 1) + 1 - 1 = i + d + 1 by omega] at h2
        omega
    have := q (j - i - 1) (by omega)
    rw [show i + (j - i - 1) + 1 = j by omega] at this
    simpa [List.getD, List.getElem?_eq_getElem hi, List.getElem?_eq_getElem hj] using this
theorem okS_of {m : Nat} {Z : List Int} (h1 : ∀ x, x ∈ Z → 0 ≤ x ∧ x < (m : Int)) (h2 : Z.Pairwise (· < ·)) : ∀ j, j < Z.length → OkS m Z j := by
  intro j hj
  rw [List.pairwise_iff_getElem] at h2
  refine ⟨?_, fun h0 => ?_⟩
  · have := h1 Z[j] (List.getElem_mem hj)
    simpa [List.getD, List.getElem?_eq_getElem hj] using this
  · have := h2 (j - 1) j (by omega) hj (by omega)
    simpa [List.getD, List.getElem?_eq_getElem hj, List.getElem?_eq_getElem (show j - 1 < Z.length by omega)] using this
theorem setB_wo {p : Int} {l : List (Int × Int)} {zs : List Int} (h : setB p l zs = true) (x : Int) : setB p l (woL zs x) = true := by
  obtain ⟨h1, h2⟩ := setB_is h
  obtain ⟨h3, h4⟩ := okS_pair h1
  rw [setB_all (okS_of (Z := woL zs x) (m := l.length) (fun y hy => h3 y (List.mem_filter.1 hy).1) (h4.filter _)), isGB_yes h2]
theorem wo_len : ∀ zs : List Int, zs.Pairwise (· < ·) → ∀ x, x ∈ zs → (woL zs x).length + 1 = zs.length := by
  intro zs
  induction zs with
  | nil => intro _ x hx; cases hx
  | cons a t ih =>
    intro hp x hx
    obtain ⟨h1, h2⟩ := List.pairwise_cons.1 hp
    unfold woL
    by_cases e : a = x
    · subst e
      have : t.filter (fun y => !decide (y = a)) = t := List.filter_eq_self.2 fun y hy => by
        have := h1 y hy
        simp
        omega
      simp [this]
    · have hxt : x ∈ t := by
        rcases List.mem_cons.1 hx with h | h
        · exact absurd h.symm e
        · exact h
      have := ih h2 x hxt
      unfold woL at this
      simp [e]
      omega
theorem setB_len {p : Int} {l : List (Int × Int)} {zs : List Int} (h : setB p l zs = true) {x : Int} (hx : x ∈ zs) : (woL zs x).length + 1 = zs.length := wo_len zs (okS_pair (setB_is h).1).2 x hx
theorem cnt_le (n : Nat) : ∀ ys : List Int, ys.countP (fun y => decide (y < (n : Int))) + (if (n : Int) ∈ ys then 1 else 0) ≤ ys.countP (fun y => decide (y < ((n + 1 : Nat) : Int))) := by
  intro ys
  induction ys with
  | nil => simp
  | cons a t ih =>
    rw [List.countP_cons, List.countP_cons]
    by_cases e : (n : Int) = a
    · subst e
      rw [if_pos List.mem_cons_self]
      have h1 : decide ((n : Int) < (n : Int)) = false := by simp
      have h2 : decide ((n : Int) < ((n + 1 : Nat) : Int)) = true := by simp; omega
      rw [h1, h2]
      have : t.countP (fun y => decide (y < (n : Int))) ≤ t.countP (fun y => decide (y < ((n + 1 : Nat) : Int))) := by
        split at ih <;> omega
      rw [if_neg (by decide), if_pos rfl]
      omega
    · have hm : (if (n : Int) ∈ a :: t then 1 else 0) = (if (n : Int) ∈ t then (1 : Nat) else 0) := by simp [e]
      rw [hm]
      have : (if decide (a < (n : Int)) = true then 1 else 0) ≤ (if decide (a < ((n + 1 : Nat) : Int)) = true then 1 else 0) := by
        by_cases h : a < (n : Int)
        · rw [if_pos (by simpa using h), if_pos (by simp; omega)]; exact Nat.le_refl _
        · rw [if_neg (by simpa using h)]; omega
      omega
theorem onlyK_cnt (l : List (Int × Int)) (ys : List Int) : ∀ n, (onlyK l (inS ys) n).length ≤ ys.countP (fun y => decide (y < (n : Int))) := by
  intro n
  induction n with
  | zero => unfold onlyK; simp
  | succ n ih =>
    have h := cnt_le n ys
    unfold onlyK
    by_cases e : (n : Int) ∈ ys
    · have : inS ys n = true := by unfold inS; simpa using e
      rw [if_pos e] at h
      rw [if_pos this, List.length_append, List.length_singleton]
      omega
    · have : inS ys n = false := by unfold inS; simpa using e
      rw [if_neg e] at h
      rw [if_neg (by rw [this]; decide), List.append_nil]
      omega
theorem rankV_le (p k c : Int) (l : List (Int × Int)) : rankV p k c l ≤ (l.length : Int) := by
  unfold rankV
  by_cases h : newB p k l = true
  · by_cases h2 : rangeB k c = true
    · have hG := (newB_is h).1
      obtain ⟨P, rfl⟩ : ∃ P : Nat, p = (P : Int) := ⟨p.toNat, by have := hG.1; omega⟩
      rw [(runV_yes h h2).1, (runV_yes h h2).2, if_pos rfl]
      have := (runN_ok (newB_is h).1 (newB_is h).2 (rangeB_is h2).2.1 l.length (Nat.le_refl _)).2.1
      omega
    · rw [(runV_no (.inr (by simpa using h2))).1]; simp
  · rw [(runV_no (.inl (by simpa using h))).1]; simp
theorem rankSV_le (p k c : Int) (l : List (Int × Int)) (ys : List Int) : rankSV p k c l ys ≤ (ys.length : Int) := by
  unfold rankSV
  split
  · have h1 := rankV_le p k c (onlyL l ys)
    have h2 : (onlyL l ys).length ≤ ys.length := Nat.le_trans (onlyK_cnt l ys l.length) List.countP_le_length
    omega
  · omega
/-- A set without one of its bars is independent just if its rank is not less than one less than the set's size. -/
theorem ind_wo {p k c : Int} {l : List (Int × Int)} {zs : List Int} (h : setB p l zs = true) (hr : rangeB k c = true) {x : Int} (hx : x ∈ zs) : indB p k c l (woL zs x) = !decide (rankSV p k c l (woL zs x) < (zs.length : Int) - 1) := by
  rw [indB_yes (setB_wo h x) hr]
  have h1 := setB_len h hx
  have h2 := rankSV_le p k c l (woL zs x)
  generalize rankSV p k c l (woL zs x) = r at *
  by_cases e : r = ((woL zs x).length : Int)
  · rw [decide_eq_true e, decide_eq_false (by omega)]; rfl
  · rw [decide_eq_false e, decide_eq_true (by omega)]; rfl
open Classical in
/-- What IsCircuit answers. -/
noncomputable def cirB (p k c : Int) (l : List (Int × Int)) (zs : List Int) : Bool :=
  if setB p l zs = true ∧ rangeB k c = true ∧ indB p k c l zs = false ∧ ∀ j, j < zs.length → indB p k c l (woL zs (zs.getD j 0)) = true then true else false
theorem cirB_no {p k c : Int} {l : List (Int × Int)} {zs : List Int} (h : setB p l zs = false ∨ rangeB k c = false ∨ indB p k c l zs = true) : cirB p k c l zs = false := by
  unfold cirB
  refine if_neg fun q => ?_
  rcases h with h | h | h
  · rw [q.1] at h; cases h
  · rw [q.2.1] at h; cases h
  · rw [q.2.2.1] at h; cases h
theorem cirB_bad {p k c : Int} {l : List (Int × Int)} {zs : List Int} {j : Nat} (hj : j < zs.length) (h : indB p k c l (woL zs (zs.getD j 0)) = false) : cirB p k c l zs = false := by
  unfold cirB
  refine if_neg fun q => ?_
  rw [q.2.2.2 j hj] at h
  cases h
theorem cirB_yes {p k c : Int} {l : List (Int × Int)} {zs : List Int} (h1 : setB p l zs = true) (h2 : rangeB k c = true) (h3 : indB p k c l zs = false) (h4 : ∀ j, j < zs.length → indB p k c l (woL zs (zs.getD j 0)) = true) : cirB p k c l zs = true := by
  unfold cirB
  exact if_pos ⟨h1, h2, h3, h4⟩
theorem wo_step (zs : List Int) (x : Int) (j : Nat) (h : j < zs.length) : woL (zs.take (j + 1)) x = if zs.getD j 0 = x then woL (zs.take j) x else woL (zs.take j) x ++ [zs.getD j 0] := by
  unfold woL
  rw [List.take_add_one, List.filter_append]
  simp only [List.getD, List.getElem?_eq_getElem h, Option.getD_some, Option.toList_some]
  by_cases e : zs[j] = x
  · simp [e]
  · simp [e]
end Go.Proofs.Ytdnmmjaelgjkaaa
/- A list with a number put in its place. No program. No condition. -/
namespace Go.Proofs.Ytdnmmjaelgjkaaa
open Go.RowKit

/-- What is collected of the first j, and whether the number is in it. -/
def wiS (zs : List Int) (x : Int) : Nat → List Int × Bool
  | 0 => ([], false)
  | j + 1 => if zs.getD j 0 = x then ((wiS zs x j).1 ++ [zs.getD j 0], true) else if x < zs.getD j 0 ∧ (wiS zs x j).2 = false then ((wiS zs x j).1 ++ [x] ++ [zs.getD j 0], true) else ((wiS zs x j).1 ++ [zs.getD j 0], (wiS zs x j).2)
def wiL (zs : List Int) (x : Int) : List Int := if (wiS zs x zs.length).2 = true then (wiS zs x zs.length).1 else (wiS zs x zs.length).1 ++ [x]
theorem wiS_eq {zs : List Int} {x : Int} {j : Nat} (h : zs.getD j 0 = x) : wiS zs x (j + 1) = ((wiS zs x j).1 ++ [zs.getD j 0], true) := by rw [wiS, if_pos h]
theorem wiS_put {zs : List Int} {x : Int} {j : Nat} (h : ¬ zs.getD j 0 = x) (h2 : x < zs.getD j 0) (h3 : (wiS zs x j).2 = false) : wiS zs x (j + 1) = ((wiS zs x j).1 ++ [x] ++ [zs.getD j 0], true) := by rw [wiS, if_neg h, if_pos ⟨h2, h3⟩]
theorem wiS_on {zs : List Int} {x : Int} {j : Nat} (h : ¬ zs.getD j 0 = x) (h2 : ¬ (x < zs.getD j 0 ∧ (wiS zs x j).2 = false)) : wiS zs x (j + 1) = ((wiS zs x j).1 ++ [zs.getD j 0], (wiS zs x j).2) := by rw [wiS, if_neg h, if_neg h2]
theorem wiS_len (zs : List Int) (x : Int) : ∀ j, (wiS zs x j).1.length ≤ j + (if (wiS zs x j).2 = true then 1 else 0) := by
  intro j
  induction j with
  | zero => simp [wiS]
  | succ j ih =>
    by_cases c1 : zs.getD j 0 = x
    · rw [wiS_eq c1]
      simp
      split at ih <;> omega
    · by_cases c2 : x < zs.getD j 0 ∧ (wiS zs x j).2 = false
      · rw [wiS_put c1 c2.1 c2.2]
        rw [c2.2] at ih
        simp at ih ⊢
        omega
      · rw [wiS_on c1 c2]
        simp
        split at ih <;> (try split) <;> omega
theorem wiL_len (zs : List Int) (x : Int) : (wiL zs x).length ≤ zs.length + 1 := by
  have h := wiS_len zs x zs.length
  unfold wiL
  split
  · rename_i e; rw [if_pos e] at h; exact h
  · rename_i e; rw [if_neg e] at h; simp; omega
theorem wiS_mem (zs : List Int) (x y : Int) : ∀ j, j ≤ zs.length → (y ∈ (wiS zs x j).1 ↔ y ∈ zs.take j ∨ ((wiS zs x j).2 = true ∧ y = x)) := by
  intro j
  induction j with
  | zero => intro _; simp [wiS]
  | succ j ih =>
    intro hj
    have h := ih (by omega)
    have ht : (y ∈ zs.take (j + 1)) ↔ (y ∈ zs.take j ∨ y = zs.getD j 0) := by
      have e : zs.take (j + 1) = zs.take j ++ [zs.getD j 0] := by
        have hl : j < zs.length := by omega
        rw [List.take_add_one, List.getElem?_eq_getElem hl, List.getD, List.getElem?_eq_getElem hl]
        rfl
      rw [e, List.mem_append, List.mem_singleton]
    rw [ht]
    by_cases c1 : zs.getD j 0 = x
    · rw [wiS_eq c1, List.mem_append, h]
      simp only [List.mem_singleton, c1]
      constructor
      · rintro ((h | h) | h)
        · exact .inl (.inl h)
        · exact .inr ⟨trivial, h.2⟩
        · exact .inl (.inr h)
      · rintro ((h | h) | h)
        · exact .inl (.inl h)
        · exact .inr h
        · exact .inr h.2
    · by_cases c2 : x < zs.getD j 0 ∧ (wiS zs x j).2 = false
      · rw [wiS_put c1 c2.1 c2.2, List.mem_append, List.mem_append, h, c2.2]
        simp only [List.mem_singleton]
        constructor
        · rintro (((h | h) | h) | h)
          · exact .inl (.inl h)
          · exact absurd h.1 (by decide)
          · exact .inr ⟨trivial, h⟩
          · exact .inl (.inr h)
        · rintro ((h | h) | h)
          · exact .inl (.inl (.inl h))
          · exact .inr h
          · exact .inl (.inr h.2)
      · rw [wiS_on c1 c2, List.mem_append, h]
        simp only [List.mem_singleton]
        constructor
        · rintro ((h | h) | h)
          · exact .inl (.inl h)
          · exact .inr h
          · exact .inl (.inr h)
        · rintro ((h | h) | h)
          · exact .inl (.inl h)
          · exact .inr h
          · exact .inl (.inr h)
theorem wiL_mem (zs : List Int) (x y : Int) : y ∈ wiL zs x ↔ y ∈ zs ++ [x] := by
  have h := wiS_mem zs x y zs.length (Nat.le_refl _)
  rw [List.take_length] at h
  rw [List.mem_append, List.mem_singleton]
  unfold wiL
  split
  · rename_i e
    rw [h, e]
    exact ⟨fun q => q.elim .inl fun q => .inr q.2, fun q => q.elim .inl fun q => .inr ⟨rfl, q⟩⟩
  · rename_i e
    rw [List.mem_append, List.mem_singleton, h]
    exact ⟨fun q => q.elim (fun q => q.elim .inl fun q => absurd q.1 e) .inr, fun q => q.elim (fun q => .inl (.inl q)) .inr⟩
theorem rank_wi (p k c : Int) (l : List (Int × Int)) (zs : List Int) (x : Int) : rankSV p k c l (wiL zs x) = rankSV p k c l (zs ++ [x]) := rankSV_same fun _ _ => wiL_mem zs x _
end Go.Proofs.Ytdnmmjaelgjkaaa
/- Where slices.BinarySearch finds an int in a row of ints in their order. No condition. -/
namespace Go.Proofs.Ytdnmmjaelgjkaaa
open Go.RowKit

/-- How many stand before a number. -/
def posL (zs : List Int) (x : Int) : Nat := (zs.filter fun y => decide (y < x)).length
theorem posL_le (zs : List Int) (x : Int) : posL zs x ≤ zs.length := List.length_filter_le _ _
theorem posL_at : ∀ zs : List Int, zs.Pairwise (· < ·) → ∀ (x : Int) (m : Nat), m < zs.length → (zs.getD m 0 < x ↔ m < posL zs x) := by
  intro zs
  induction zs with
  | nil => intro _ x m hm; exact absurd hm (by simp)
  | cons a t ih =>
    intro hp x m hm
    obtain ⟨h1, h2⟩ := List.pairwise_cons.1 hp
    by_cases c : a < x
    · have e : posL (a :: t) x = posL t x + 1 := by unfold posL; simp [c]
      rw [e]
      cases m with
      | zero => simp [c]
      | succ m =>
        have := ih h2 x m (by simpa using hm)
        simp only [List.getD_cons_succ]
        omega
    · have e : posL (a :: t) x = 0 := by
        unfold posL
        rw [List.length_eq_zero_iff, List.filter_eq_nil_iff]
        intro y hy
        rcases List.mem_cons.1 hy with h | h
        · simp; omega
        · have := h1 y h; simp; omega
      rw [e]
      cases m with
      | zero => simp; omega
      | succ m =>
        have hm2 : m < t.length := by simpa using hm
        have hmem : t.getD m 0 ∈ t := by simp [List.getD, List.getElem?_eq_getElem hm2]
        have := h1 _ hmem
        simp only [List.getD_cons_succ]
        omega
set_option maxHeartbeats 2000000 in
set_option maxRecDepth 100000 in
theorem slNaN (x : Int) (w : World) :
    Calls Try.prog 141 #[.int .i64 x] w fun e w' => e = .returned (.bool false) ∧ w = w' := by
  go_enter Try.func141, Try.ntmps141
  have h : (x != x) = false := by simp
  go_wp2_with fail
  go_ret
  exact ⟨by first | rfl | simp, rfl⟩
set_option maxHeartbeats 2000000 in
set_option maxRecDepth 100000 in
theorem cmpNaN (x : Int) (w : World) :
    Calls Try.prog 156 #[.int .i64 x] w fun e w' => e = .returned (.bool false) ∧ w = w' := by
  go_enter Try.func156, Try.ntmps156
  have h : (x != x) = false := by simp
  go_wp2_with fail
  go_ret
  exact ⟨by first | rfl | simp, rfl⟩
set_option maxHeartbeats 2000000 in
set_option maxRecDepth 100000 in
theorem cmpLess (x y : Int) (w : World) :
    Calls Try.prog 140 #[.int .i64 x, .int .i64 y] w fun e w' => e = .returned (.bool (decide (x < y))) ∧ w = w' := by
  obtain ⟨b, hb⟩ : ∃ b, decide (x < y) = b := ⟨_, rfl⟩
  go_enter Try.func140, Try.ntmps140
  go_wp2_with (go_at_call 156; refine (cmpNaN _ _).mono ?_; rintro e w1 ⟨rfl, rfl⟩)
  go_ret
  exact ⟨by first | rfl | (rw [hb]; rfl) | simp [hb], rfl⟩
set_option maxHeartbeats 4000000 in
set_option maxRecDepth 100000 in
theorem binSearch (zs : List Int) (x : Int) (A : Option Addr) (cap lo hi : Nat) (w : World) (hl : IntsIn w lo hi A zs) (hn : zs.length ≤ 1048576) (hp : zs.Pairwise (· < ·)) :
    Calls Try.prog 97 #[.slice A zs.length cap, .int .i64 x] w fun e w' => (∃ r : Bool, e = .returned (.tuple #[.int .i64 (posL zs x : Int), .bool r])) ∧ Below w.heap.size w w' := by
  have HL := Lib.hid hl
  have HAT := Lib.hid (posL_at zs hp x)
  have hle := posL_le zs x
  obtain ⟨q, hq⟩ : ∃ q, posL zs x = q := ⟨_, rfl⟩
  rw [hq] at HAT hle ⊢
  clear hl hp hq
  go_enter Try.func97, Try.ntmps97
  go_wp2_with fail
  go_loopw [7, 8, 9] (fun i j _ wr => ∃ a b : Nat, i = .int .i64 a ∧ j = .int .i64 b ∧ a ≤ q ∧ q ≤ b ∧ b ≤ zs.length ∧ Below w.heap.size w wr) (fun i j _ _ => (intOf j).toNat - (intOf i).toNat)
  case atStart => exact ⟨0, zs.length, rfl, rfl, Nat.zero_le _, hle, Nat.le_refl _, Below.refl _ _⟩
  case round =>
    obtain ⟨a, b, rfl, rfl, ha, hb, hbl, hbw⟩ := hrel
    have HB := Lib.hid hbw
    have hbs := hbw.size
    by_cases hlt : a < b
    · have hab : (a : Int) < (b : Int) := by omega
      have ham : a ≤ (a + b) / 2 := by omega
      have hmb : (a + b) / 2 < b := by omega
      obtain ⟨zb, zo, rfl, hzc⟩ := row_at (HL.out.within (within_of hbw) (.inr (Nat.zero_le _))) (by omega)
      have hz := hzc ((a + b) / 2) (by omega)
      have HATM := Lib.hid (HAT.out ((a + b) / 2) (by omega))
      clear hzc hbw
      have hw1 : IntKind.i64.wrap ((a : Int) + (b : Int)) = (a : Int) + (b : Int) := IntWalk.i64_in _ (by omega)
      have hm0 : ((a : Int) + (b : Int)) / 2 < (zs.length : Int) := by omega
      have HM := Lib.hid (show ((a : Int) + (b : Int)) / 2 = (((a + b) / 2 : Nat) : Int) by omega)
      have HMB := Lib.hid (And.intro ham hmb)
      clear ham hmb
      obtain ⟨z, hzd⟩ : ∃ z, zs.getD ((a + b) / 2) 0 = z := ⟨_, rfl⟩
      rw [hzd] at hz HATM
      clear hzd
      have hw2 : IntKind.i64.wrap (((a : Int) + (b : Int)) / 2 + 1) = ((a : Int) + (b : Int)) / 2 + 1 := IntWalk.i64_in _ (by omega)
      by_cases hc : z < x
      · have HQ := Lib.hid (HATM.out.1 hc)
        have HD := Lib.hid (decide_eq_true hc)
        clear hc
        go_wp2_with (go_at_call 140; refine (cmpLess _ _ _).mono ?_; rintro e w1 ⟨rfl, rfl⟩; rw [HD.out])
        go_roundw
        case rel => exact ⟨(a + b) / 2 + 1, b, by rw [show (((a + b) / 2 + 1 : Nat) : Int) = ((a : Int) + (b : Int)) / 2 + 1 by omega], rfl, HQ.out, hb, hbl, HB.out⟩
        case measure => simp [intOf]; have := HMB.out; omega
      · have HQ := Lib.hid (show q ≤ (a + b) / 2 from Nat.le_of_not_lt fun h => hc (HATM.out.2 h))
        have HD := Lib.hid (decide_eq_false hc)
        clear hc
        go_wp2_with (go_at_call 140; refine (cmpLess _ _ _).mono ?_; rintro e w1 ⟨rfl, rfl⟩; rw [HD.out])
        go_roundw
        case rel => exact ⟨a, (a + b) / 2, rfl, by rw [show (((a + b) / 2 : Nat) : Int) = ((a : Int) + (b : Int)) / 2 by omega], ha, HQ.out, by have := HMB.out; omega, HB.out⟩
        case measure => simp [intOf]; have := HMB.out; omega
    · obtain rfl : a = b := by omega
      obtain rfl : a = q := by omega
      by_cases hq2 : a < zs.length
      · have hqi : (a : Int) < (zs.length : Int) := by omega
        obtain ⟨zb, zo, rfl, hzc⟩ := row_at (HL.out.within (within_of hbw) (.inr (Nat.zero_le _))) (by omega)
        have hz := hzc a hq2
        clear hzc hbw
        obtain ⟨z, hzd⟩ : ∃ z, zs.getD a 0 = z := ⟨_, rfl⟩
        rw [hzd] at hz
        clear hzd
        by_cases hc : z = x
        · have d1 : (z == x) = true := by simpa using hc
          clear hc
          go_wp2_with (go_at_call 141; refine (slNaN _ _).mono ?_; rintro e w1 ⟨rfl, rfl⟩)
          go_ret2
          exact ⟨by first | exact ⟨_, rfl⟩ | rfl | exact ⟨false, by simp⟩ | simp, HB.out⟩
        · have d1 : (z == x) = false := by simpa using hc
          clear hc
          go_wp2_with (go_at_call 141; refine (slNaN _ _).mono ?_; rintro e w1 ⟨rfl, rfl⟩)
          go_ret2
          exact ⟨by first | exact ⟨_, rfl⟩ | rfl | exact ⟨false, by simp⟩ | simp, HB.out⟩
      · have hqi : ¬ (a : Int) < (zs.length : Int) := by omega
        clear hbw
        go_wp2_with fail
        go_ret2
        exact ⟨by first | exact ⟨_, rfl⟩ | rfl | exact ⟨false, by simp⟩ | simp, HB.out⟩
end Go.Proofs.Ytdnmmjaelgjkaaa
/- What RejectedBars answers, and what stands while it is collected. No program's walk. No condition. -/
namespace Go.Proofs.Ytdnmmjaelgjkaaa
open Go.RowKit

/-- The bars below n that Z has not. -/
def rejK (Z : List Int) : Nat → List Int
  | 0 => []
  | n + 1 => if (n : Int) ∈ Z then rejK Z n else rejK Z n ++ [(n : Int)]
theorem rejK_len (Z : List Int) : ∀ n, (rejK Z n).length ≤ n := by
  intro n
  induction n with
  | zero => exact Nat.le_refl _
  | succ n ih =>
    unfold rejK
    split
    · omega
    · simp; omega
theorem rejK_in {Z : List Int} {n : Nat} (h : (n : Int) ∈ Z) : rejK Z (n + 1) = rejK Z n := by rw [rejK, if_pos h]
theorem rejK_out {Z : List Int} {n : Nat} (h : ¬ (n : Int) ∈ Z) : rejK Z (n + 1) = rejK Z n ++ [(n : Int)] := by rw [rejK, if_neg h]
/-- What RejectedBars answers. -/
noncomputable def rejV (p k c : Int) (l : List (Int × Int)) : List Int := if runB p k c l = true then rejK (runV p k c l).2.2 l.length else []
theorem rejV_len (p k c : Int) (l : List (Int × Int)) : (rejV p k c l).length ≤ l.length := by
  unfold rejV
  split
  · exact rejK_len _ _
  · simp
theorem rejV_no {p k c : Int} {l : List (Int × Int)} (h : runB p k c l = false) : rejV p k c l = [] := by unfold rejV; rw [h]; rfl
theorem rejV_yes {p k c : Int} {l : List (Int × Int)} (h : runB p k c l = true) : rejV p k c l = rejK (runV p k c l).2.2 l.length := by unfold rejV; rw [if_pos h]
/-- What is collected so far: the row's range is the first one, or new; what else was there stands. -/
structure RejP (a b : Nat) (V W : World) (Z : List Int) (n : Nat) (A : Option Addr) (cap lo hi : Nat) : Prop where
  row : OwnR W lo hi A cap (rejK Z n)
  rng : (lo = a ∧ hi = b) ∨ V.heap.size ≤ lo
  le : lo ≤ W.heap.size
  wi : Within a b V W
theorem IntsIn.hi {W : World} {lo hi : Nat} {A : Option Addr} {zs : List Int} (h : IntsIn W lo hi A zs) : hi ≤ W.heap.size := h.1
theorem RejP.same {a b : Nat} {V W : World} {Z : List Int} {n : Nat} {A : Option Addr} {cap lo hi : Nat} (h : RejP a b V W Z n A cap lo hi) (hz : (n : Int) ∈ Z) : RejP a b V W Z (n + 1) A cap lo hi :=
  ⟨by rw [rejK_in hz]; exact h.row, h.rng, h.le, h.wi⟩
theorem RejP.push {a b : Nat} {V W W' : World} {Z : List Int} {n : Nat} {A A' : Option Addr} {cap lo hi c' lo' hi' : Nat} (h : RejP a b V W Z n A cap lo hi) (hz : ¬ (n : Int) ∈ Z) (hr : OwnR W' lo' hi' A' c' (rejK Z n ++ [(n : Int)])) (hd : (lo' = lo ∧ hi' = hi) ∨ (W.heap.size ≤ lo' ∧ lo' ≤ W'.heap.size ∧ hi' ≤ W'.heap.size)) (hw : Within lo hi W W') : RejP a b V W' Z (n + 1) A' c' lo' hi' := by
  obtain ⟨_, h2, h3, h4⟩ := h
  have s1 := h4.size
  have s2 := hw.size
  refine ⟨by rw [rejK_out hz]; exact hr, ?_, ?_, ⟨hw.os.trans h4.os, hw.tape.trans h4.tape, hw.output.trans h4.output, Nat.le_trans s1 s2, fun i hi hd => (hw.block i (by omega) (by omega)).trans (h4.block i hi hd)⟩⟩
  · rcases hd with ⟨rfl, rfl⟩ | hd
    · exact h2
    · exact .inr (by omega)
  · rcases hd with ⟨rfl, rfl⟩ | hd
    · omega
    · exact hd.2.1
theorem RejP.out {a b : Nat} {V W : World} {Z : List Int} {n : Nat} {A : Option Addr} {cap lo hi : Nat} (h : RejP a b V W Z n A cap lo hi) {B : Nat} (h1 : B ≤ a) (h2 : B ≤ V.heap.size) : OwnInts W B W.heap.size A cap (rejK Z n) :=
  h.row.ints.widen (by have := h.rng; omega) h.row.1 (Nat.le_refl _)
end Go.Proofs.Ytdnmmjaelgjkaaa
/- What CircuitOf answers. No program's walk. No condition. -/
namespace Go.Proofs.Ytdnmmjaelgjkaaa
open Go.RowKit

/-- The numbers of a list that are below x. -/
def befL (Z : List Int) (x : Int) : List Int := Z.filter fun y => decide (y < x)
theorem bef_take : ∀ Z : List Int, Z.Pairwise (· < ·) → ∀ x, Z.take (posL Z x) = befL Z x := by
  intro Z
  induction Z with
  | nil => intro _ x; rfl
  | cons a t ih =>
    intro hp x
    obtain ⟨h1, h2⟩ := List.pairwise_cons.1 hp
    have h3 := ih h2 x
    unfold posL befL at *
    by_cases e : a < x
    · rw [List.filter_cons_of_pos (by simpa using e), List.length_cons, List.take_succ_cons, h3]
    · have : (a :: t).filter (fun y => decide (y < x)) = [] := List.filter_eq_nil_iff.2 fun y hy => by
        rcases List.mem_cons.1 hy with rfl | h
        · simpa using e
        · have := h1 y h
          simp
          omega
      rw [this]
      rfl
theorem wiS_low (ys r : List Int) (x : Int) (h : ∀ y ∈ ys, y < x) : ∀ j, j ≤ ys.length → wiS (ys ++ r) x j = (ys.take j, false) := by
  intro j
  induction j with
  | zero => intro _; rfl
  | succ j ih =>
    intro hj
    have e1 : (ys ++ r).getD j 0 = ys[j] := by simp [List.getD, List.getElem?_append_left (show j < ys.length by omega), List.getElem?_eq_getElem (show j < ys.length by omega)]
    have h1 := h ys[j] (List.getElem_mem (by omega))
    rw [wiS_on (by rw [e1]; omega) (by rw [e1]; omega), ih (by omega), e1]
    rw [List.take_succ_eq_append_getElem (by omega)]
theorem wiL_end {ys : List Int} {x : Int} (h : ∀ y ∈ ys, y < x) : wiL ys x = ys ++ [x] := by
  have h1 := wiS_low ys [] x h ys.length (Nat.le_refl _)
  rw [List.append_nil, List.take_length] at h1
  unfold wiL
  rw [h1]
  rfl
theorem wiL_mid {ys : List Int} {x b : Int} (h : ∀ y ∈ ys, y < x) (hb : x < b) : wiL (ys ++ [b]) x = ys ++ [x] ++ [b] := by
  have h1 := wiS_low ys [b] x h ys.length (Nat.le_refl _)
  rw [List.take_length] at h1
  have e1 : (ys ++ [b]).getD ys.length 0 = b := by simp [List.getD]
  have h2 := wiS_put (zs := ys ++ [b]) (x := x) (j := ys.length) (by rw [e1]; omega) (by rw [e1]; omega) (by rw [h1])
  rw [h1, e1] at h2
  unfold wiL
  have e2 : (ys ++ [b]).length = ys.length + 1 := by simp
  rw [e2, h2]
  rfl
theorem rejK_mem {Z : List Int} {x : Int} : ∀ n, x ∈ rejK Z n → ∃ j : Nat, j < n ∧ x = (j : Int) := by
  intro n
  induction n with
  | zero => intro h; cases h
  | succ n ih =>
    intro h
    unfold rejK at h
    split at h
    · obtain ⟨j, h1, h2⟩ := ih h
      exact ⟨j, by omega, h2⟩
    · rcases List.mem_append.1 h with h | h
      · obtain ⟨j, h1, h2⟩ := ih h
        exact ⟨j, by omega, h2⟩
      · exact ⟨n, by omega, List.mem_singleton.1 h⟩
/-- The accepted bars before x. -/
noncomputable def befV (p k c : Int) (l : List (Int × Int)) (x : Int) : List Int := befL (runV p k c l).2.2 x
/-- Those of the first j of them that belong to the circuit. -/
noncomputable def ciK (p k c : Int) (l : List (Int × Int)) (x : Int) (j : Nat) : List Int := ((befV p k c l x).take j).filter fun y => indB p k c l (woL (befV p k c l x ++ [x]) y)
open Classical in
/-- What CircuitOf answers. -/
noncomputable def ciB (p k c : Int) (l : List (Int × Int)) (x : Int) : Bool := decide (x ∈ rejV p k c l)
noncomputable def ciV (p k c : Int) (l : List (Int × Int)) (x : Int) : List Int := if ciB p k c l x = true then ciK p k c l x (befV p k c l x).length ++ [x] else []
theorem ciK_len (p k c : Int) (l : List (Int × Int)) (x : Int) (j : Nat) : (ciK p k c l x j).length ≤ j := by
  unfold ciK
  exact Nat.le_trans (List.length_filter_le _ _) (by rw [List.length_take]; omega)
theorem befV_len (p k c : Int) (l : List (Int × Int)) (x : Int) : (befV p k c l x).length ≤ 24 := by
  unfold befV befL
  exact Nat.le_trans (List.length_filter_le _ _) (runV_len p k c l).2.2
theorem ciV_len (p k c : Int) (l : List (Int × Int)) (x : Int) : (ciV p k c l x).length ≤ 1048576 := by
  unfold ciV
  split
  · have h1 := ciK_len p k c l x (befV p k c l x).length
    have h2 := befV_len p k c l x
    simp
    omega
  · simp
theorem ciK_in {p k c : Int} {l : List (Int × Int)} {x : Int} {j : Nat} (hj : j < (befV p k c l x).length) (h : indB p k c l (woL (befV p k c l x ++ [x]) ((befV p k c l x).getD j 0)) = true) : ciK p k c l x (j + 1) = ciK p k c l x j ++ [(befV p k c l x).getD j 0] := by
  have e : (befV p k c l x).getD j 0 = (befV p k c l x)[j] := by simp [List.getD, List.getElem?_eq_getElem hj]
  rw [e] at h ⊢
  unfold ciK
  rw [List.take_succ_eq_append_getElem hj, List.filter_append]
  simp [h]
theorem ciK_out {p k c : Int} {l : List (Int × Int)} {x : Int} {j : Nat} (hj : j < (befV p k c l x).length) (h : indB p k c l (woL (befV p k c l x ++ [x]) ((befV p k c l x).getD j 0)) = false) : ciK p k c l x (j + 1) = ciK p k c l x j := by
  have e : (befV p k c l x).getD j 0 = (befV p k c l x)[j] := by simp [List.getD, List.getElem?_eq_getElem hj]
  rw [e] at h
  unfold ciK
  rw [List.take_succ_eq_append_getElem hj, List.filter_append]
  simp [h]
/-- What is known where x was rejected. -/
structure CiF (p k c : Int) (l : List (Int × Int)) (x : Int) : Prop where
  val : ciV p k c l x = ciK p k c l x (befV p k c l x).length ++ [x]
  set : setB p l (befV p k c l x ++ [x]) = true
  rng : rangeB k c = true
  asc : (runV p k c l).2.2.Pairwise (· < ·)
  low : ∀ y ∈ befV p k c l x, y < x
  inr : 0 ≤ x ∧ x < (l.length : Int)
  l24 : l.length ≤ 24
  ind : ∀ y ∈ befV p k c l x, indB p k c l (woL (befV p k c l x ++ [x]) y) = decide (rankSV p k c l (woL (befV p k c l x ++ [x]) y) = ((befV p k c l x).length : Int))
  mid : ∀ j, j < (befV p k c l x).length → wiL (ciK p k c l x j ++ [x]) ((befV p k c l x).getD j 0) = ciK p k c l x j ++ [(befV p k c l x).getD j 0] ++ [x]
theorem pebZ {p k : Int} {l : List (Int × Int)} {F T Z : List Int} (h : IsPeb p k l F T Z) : ∀ j, j < Z.length → OkS l.length Z j := fun j hj => ⟨(h.2.2.2.2.1 j hj).1, (h.2.2.2.2.1 j hj).2.1⟩
theorem asc_get {ys : List Int} (h : ys.Pairwise (· < ·)) {i j : Nat} (hi : i < j) (hj : j < ys.length) : ys[i] < ys[j] := (List.pairwise_iff_getElem.1 h) i j (by omega) hj hi
theorem ciF {p k c : Int} {l : List (Int × Int)} {x : Int} (h : ciB p k c l x = true) : CiF p k c l x := by
  have hx : x ∈ rejV p k c l := by unfold ciB at h; exact of_decide_eq_true h
  have hrun : runB p k c l = true := by
    cases e : runB p k c l with
    | true => rfl
    | false => rw [rejV_no e] at hx; cases hx
  have hnew : newB p k l = true := by
    cases e : newB p k l with
    | true => rfl
    | false => unfold runB at hrun; rw [e] at hrun; cases hrun
  have hrng : rangeB k c = true := by
    cases e : rangeB k c with
    | true => rfl
    | false => unfold runB at hrun; rw [e] at hrun; simp at hrun
  have hG := (newB_is hnew).1
  rw [rejV_yes hrun] at hx
  obtain ⟨n, hn, rfl⟩ := rejK_mem _ hx
  obtain ⟨P, rfl⟩ : ∃ P : Nat, p = (P : Int) := ⟨p.toNat, by have := hG.1; omega⟩
  have hpeb := runN_at hnew hrng (Nat.le_refl l.length)
  have hv := (runV_yes hnew hrng).2
  obtain ⟨hin, hasc⟩ := okS_pair (pebZ hpeb)
  rw [← hv] at hin hasc
  have hlow : ∀ y ∈ befV (P : Int) k c l (n : Int), y < (n : Int) := fun y hy => by
    unfold befV befL at hy
    exact of_decide_eq_true (List.mem_filter.1 hy).2
  have hbasc : (befV (P : Int) k c l (n : Int)).Pairwise (· < ·) := by unfold befV befL; exact hasc.filter _
  have hset : setB (P : Int) l (befV (P : Int) k c l (n : Int) ++ [(n : Int)]) = true := by
    refine (setB_all (okS_of (fun y hy => ?_) ?_)).trans (isGB_yes hG)
    · rcases List.mem_append.1 hy with hy | hy
      · unfold befV befL at hy
        exact hin y (List.mem_filter.1 hy).1
      · rw [List.mem_singleton.1 hy]; omega
    · refine List.pairwise_append.2 ⟨hbasc, by simp, fun a ha b hb => ?_⟩
      rw [List.mem_singleton.1 hb]
      exact hlow a ha
  refine ⟨by unfold ciV; rw [if_pos h], hset, hrng, hasc, hlow, by omega, hG.2.1, fun y hy => ?_, fun j hj => ?_⟩
  · rw [indB_yes (setB_wo hset y) hrng]
    have := setB_len hset (x := y) (List.mem_append_left _ hy)
    rw [List.length_append, List.length_singleton] at this
    rw [show (woL (befV (P : Int) k c l (n : Int) ++ [(n : Int)]) y).length = (befV (P : Int) k c l (n : Int)).length by omega]
  · have e : (befV (P : Int) k c l (n : Int)).getD j 0 = (befV (P : Int) k c l (n : Int))[j] := by simp [List.getD, List.getElem?_eq_getElem hj]
    rw [e]
    refine wiL_mid (fun y hy => ?_) (hlow _ (List.getElem_mem hj))
    unfold ciK at hy
    have hy := (List.mem_filter.1 hy).1
    obtain ⟨i, hi, rfl⟩ := List.getElem_of_mem hy
    rw [List.length_take] at hi
    rw [List.getElem_take]
    exact asc_get hbasc (by omega) hj
theorem ciV_no {p k c : Int} {l : List (Int × Int)} {x : Int} (h : ciB p k c l x = false) : ciV p k c l x = [] := by unfold ciV; rw [h]; rfl
end Go.Proofs.Ytdnmmjaelgjkaaa
/- What a function returns: a row of ints of its own, and a Boolean. No program's walk. No condition. -/
namespace Go.Proofs.Ytdnmmjaelgjkaaa
open Go.RowKit

def IntsOB (w : World) (zs : List Int) (r : Bool) (e : Ending) (w' : World) : Prop :=
  ∃ A cap, e = .returned (.tuple #[.slice A zs.length cap, .bool r]) ∧ OwnInts w' w.heap.size w'.heap.size A cap zs ∧ Below w.heap.size w w'
end Go.Proofs.Ytdnmmjaelgjkaaa
/- A row of ints that is collected: its range is the first one, or new; what else was there stands. No program's walk. No condition. -/
namespace Go.Proofs.Ytdnmmjaelgjkaaa
open Go.RowKit

structure GrowP (a b : Nat) (V W : World) (ys : List Int) (A : Option Addr) (cap lo hi : Nat) : Prop where
  row : OwnR W lo hi A cap ys
  rng : (lo = a ∧ hi = b) ∨ V.heap.size ≤ lo
  le : lo ≤ W.heap.size
  wi : Within a b V W
theorem GrowP.push {a b : Nat} {V W W' : World} {ys : List Int} {y : Int} {A A' : Option Addr} {cap lo hi c' lo' hi' : Nat} (h : GrowP a b V W ys A cap lo hi) (hr : OwnR W' lo' hi' A' c' (ys ++ [y])) (hd : (lo' = lo ∧ hi' = hi) ∨ (W.heap.size ≤ lo' ∧ lo' ≤ W'.heap.size ∧ hi' ≤ W'.heap.size)) (hw : Within lo hi W W') : GrowP a b V W' (ys ++ [y]) A' c' lo' hi' := by
  obtain ⟨_, h2, h3, h4⟩ := h
  have s1 := h4.size
  have s2 := hw.size
  refine ⟨hr, ?_, ?_, ⟨hw.os.trans h4.os, hw.tape.trans h4.tape, hw.output.trans h4.output, Nat.le_trans s1 s2, fun i hi hd => (hw.block i (by omega) (by omega)).trans (h4.block i hi hd)⟩⟩
  · rcases hd with ⟨rfl, rfl⟩ | hd
    · exact h2
    · exact .inr (by omega)
  · rcases hd with ⟨rfl, rfl⟩ | hd
    · omega
    · exact hd.2.1
theorem GrowP.out {a b : Nat} {V W : World} {ys : List Int} {A : Option Addr} {cap lo hi : Nat} (h : GrowP a b V W ys A cap lo hi) {B : Nat} (h1 : B ≤ a) (h2 : B ≤ V.heap.size) : OwnInts W B W.heap.size A cap ys :=
  h.row.ints.widen (by have := h.rng; omega) h.row.1 (Nat.le_refl _)
end Go.Proofs.Ytdnmmjaelgjkaaa
/- What spec.l5Without answers. No condition. -/
namespace Go.Proofs.Ytdnmmjaelgjkaaa
open Go.RowKit

set_option maxHeartbeats 4000000 in
set_option maxRecDepth 100000 in
theorem wo_c (zs : List Int) (x : Int) (Z : Option Addr) (cz lo hi : Nat) (w : World) (hz : IntsIn w lo hi Z zs) (hnz : zs.length ≤ 1048576) :
    Calls Try.prog 95 #[.slice Z zs.length cz, .int .i64 x] w (IntsO w (woL zs x)) := by
  have hA := new_below w (.cells #[] 3)
  have hzh := hz.1
  have HA := Lib.hid hA
  have HZ := Lib.hid (hz.within (within_of hA) (.inr (Nat.zero_le _)))
  have HOE := Lib.hid (ownR_empty w)
  have HSZ := Lib.hid (show (w.alloc (.cells #[] 3)).heap.size = w.heap.size + 1 by simp)
  clear hz hA
  go_enter Try.func95, Try.ntmps95
  go_wp2_with fail
  generalize (w.alloc (.cells #[] 3)) = w1 at *
  go_loopw [5, 6] (fun u i wr => ∃ j : Nat, j ≤ zs.length ∧ i = .int .i64 j ∧ ∃ Ao co lo2 hi2, u = .slice Ao (woL (zs.take j) x).length co ∧ GrowP w.heap.size (w.heap.size + 1) w1 wr (woL (zs.take j) x) Ao co lo2 hi2) (fun _ i _ => zs.length - (intOf i).toNat)
  case atStart => exact ⟨0, Nat.zero_le _, rfl, some ⟨w.heap.size, 0, none⟩, 0, w.heap.size, w.heap.size + 1, rfl, ⟨HOE.out, .inl ⟨rfl, rfl⟩, by have := HSZ.out; omega, Within.refl _ _ _⟩⟩
  case round =>
    obtain ⟨j, hj, rfl, Ao, co, lo2, hi2, rfl, hst⟩ := hrel
    have HS := Lib.hid hst
    have hzr := HZ.out.within hst.wi (.inl hzh)
    clear hst
    by_cases hlt : j < zs.length
    · have hji : (j : Int) < (zs.length : Int) := by omega
      obtain ⟨zb, zo, rfl, hzc⟩ := row_at hzr (by omega)
      have hz := hzc j hlt
      have HST := Lib.hid (wo_step zs x j hlt)
      have hwl : (woL (zs.take j) x).length ≤ 1048576 := by unfold woL; exact Nat.le_trans (List.length_filter_le _ _) (by rw [List.length_take]; omega)
      have HWL := Lib.hid hwl
      clear hzc hzr hwl
      obtain ⟨z, hzd⟩ : ∃ z, zs.getD j 0 = z := ⟨_, rfl⟩
      rw [hzd] at hz HST
      clear hzd
      by_cases c1 : z = x
      · have HN := Lib.hid (HST.out.trans (if_pos c1))
        have d1 : (z != x) = false := by simpa using c1
        clear c1
        go_wp2_with fail
        go_roundw
        case rel => exact ⟨j + 1, by omega, by go_num, Ao, co, lo2, hi2, by rw [HN.out], by rw [HN.out]; exact HS.out⟩
        case measure => simp [intOf]; omega
      · have HN := Lib.hid (HST.out.trans (if_neg c1))
        have HK := Lib.hid (show (woL (zs.take (j + 1)) x).length = (woL (zs.take j) x).length + 1 by rw [HN.out]; simp)
        have d1 : (z != x) = true := by simpa using c1
        clear c1
        go_wp2_with (at_builtin; refine wpList_pushR _ rfl _ _ rfl lo2 hi2 Ao co (woL (zs.take j) x) z rfl HS.out.row _ (by first | rfl | (simp only [World.size_setCell]; rfl)) HWL.out HS.out.le ?_; intro A5 c5 w15 lo5 hi5 hr5 hor5 hw5; have HG := Lib.hid (HS.out.push hr5 hor5 hw5); clear hr5 hor5 hw5)
        go_roundw
        case rel => exact ⟨j + 1, by omega, by go_num, A5, c5, lo5, hi5, by rw [HK.out], by rw [HN.out]; exact HG.out⟩
        case measure => simp [intOf]; omega
    · obtain rfl : j = zs.length := by omega
      rw [List.take_length] at HS ⊢
      go_wp2_with fail
      go_ret
      have hs1 := HA.out.size
      exact ⟨Ao, co, rfl, HS.out.out (Nat.le_refl _) hs1, within_on HA.out HS.out.wi hs1 (.inl (Nat.le_refl _))⟩
end Go.Proofs.Ytdnmmjaelgjkaaa
/- What spec.l5With answers. No condition. -/
namespace Go.Proofs.Ytdnmmjaelgjkaaa
open Go.RowKit

set_option maxHeartbeats 4000000 in
set_option maxRecDepth 100000 in
theorem wi_c (zs : List Int) (x : Int) (Z : Option Addr) (cz lo hi : Nat) (w : World) (hz : IntsIn w lo hi Z zs) (hnz : zs.length ≤ 1048570) :
    Calls Try.prog 94 #[.slice Z zs.length cz, .int .i64 x] w (IntsO w (wiL zs x)) := by
  have hA := new_below w (.cells #[] 3)
  have hzh := hz.1
  have HA := Lib.hid hA
  have HZ := Lib.hid (hz.within (within_of hA) (.inr (Nat.zero_le _)))
  have HOE := Lib.hid (ownR_empty w)
  have HSZ := Lib.hid (show (w.alloc (.cells #[] 3)).heap.size = w.heap.size + 1 by simp)
  clear hz hA
  go_enter Try.func94, Try.ntmps94
  go_wp2_with fail
  generalize (w.alloc (.cells #[] 3)) = w1 at *
  go_loopw [5, 6, 7] (fun u v i wr => ∃ j : Nat, j ≤ zs.length ∧ i = .int .i64 j ∧ v = .bool (wiS zs x j).2 ∧ ∃ Ao co lo2 hi2, u = .slice Ao (wiS zs x j).1.length co ∧ GrowP w.heap.size (w.heap.size + 1) w1 wr (wiS zs x j).1 Ao co lo2 hi2) (fun _ _ i _ => zs.length - (intOf i).toNat)
  case atStart => exact ⟨0, Nat.zero_le _, rfl, rfl, some ⟨w.heap.size, 0, none⟩, 0, w.heap.size, w.heap.size + 1, rfl, ⟨HOE.out, .inl ⟨rfl, rfl⟩, by have := HSZ.out; omega, Within.refl _ _ _⟩⟩
  case round =>
    obtain ⟨j, hj, rfl, rfl, Ao, co, lo2, hi2, rfl, hst⟩ := hrel
    have HS0 := Lib.hid hst
    have hzr := HZ.out.within hst.wi (.inl hzh)
    have hwl := wiS_len zs x j
    have HWL := Lib.hid (show (wiS zs x j).1.length ≤ 1048574 from by split at hwl <;> omega)
    clear hst hwl
    by_cases hlt : j < zs.length
    · have hji : (j : Int) < (zs.length : Int) := by omega
      obtain ⟨zb, zo, rfl, hzc⟩ := row_at hzr (by omega)
      have hz := hzc j hlt
      have HE1 := Lib.hid (fun h => wiS_eq (zs := zs) (x := x) (j := j) h)
      have HE2 := Lib.hid (fun h h2 h3 => wiS_put (zs := zs) (x := x) (j := j) h h2 h3)
      have HE3 := Lib.hid (fun h h2 => wiS_on (zs := zs) (x := x) (j := j) h h2)
      have hcz : ∀ W' : World, Within w.heap.size (w.heap.size + 1) w1 W' → W'.cell? ⟨zb, zo + j, none⟩ = some (.int .i64 (zs.getD j 0)) := fun W' hw => by
        have hr := HZ.out.within hw (.inl hzh)
        obtain ⟨b1, o1, e1, _, _, hc1⟩ := hr.2 (by omega)
        cases e1
        exact hc1 j hlt
      clear hzc hzr
      obtain ⟨z, hzd⟩ : ∃ z, zs.getD j 0 = z := ⟨_, rfl⟩
      rw [hzd] at hz HE1 HE2 HE3 hcz
      have HCZ := Lib.hid hcz
      clear hcz
      clear hzd
      obtain ⟨s, hs⟩ : ∃ s, wiS zs x j = s := ⟨_, rfl⟩
      rw [hs] at HE1 HE2 HE3 HS0 HWL ⊢
      clear hs
      obtain ⟨ys, pl⟩ := s
      have HS := Lib.hid (show GrowP w.heap.size (w.heap.size + 1) w1 wr ys Ao co lo2 hi2 from HS0.out)
      have HWM := Lib.hid (show ys.length ≤ 1048574 from HWL.out)
      clear HS0 HWL
      by_cases c1 : z = x
      · have HN := Lib.hid (HE1.out c1)
        subst c1
        clear HE1 HE2 HE3
        go_wp2_with (at_builtin; refine wpList_pushR _ rfl _ _ rfl lo2 hi2 Ao co (ys) z rfl HS.out.row _ (by first | rfl | (simp only [World.size_setCell]; rfl)) (by have := HWM.out; first | omega | (simp; omega)) HS.out.le ?_; intro A5 c5 w15 lo5 hi5 hr hor hw; have HG5 := Lib.hid (HS.out.push hr hor hw); clear hr hor hw)
        go_roundw
        case rel => exact ⟨j + 1, by omega, by go_num, by rw [HN.out], A5, c5, lo5, hi5, by rw [HN.out]; simp, by rw [HN.out]; exact HG5.out⟩
        case measure => simp [intOf]; omega
      · have d1 : (z == x) = false := by simpa using c1
        by_cases c2 : x < z
        · cases pl with
          | false =>
            have HN := Lib.hid (HE2.out c1 c2 rfl)
            have d2 : decide (x < z) = true := by simpa using c2
            clear c1 HE1 HE2 HE3
            go_wp2_with (first
              | (at_builtin; refine wpList_pushR _ rfl _ _ rfl lo5 hi5 A5 c5 (ys ++ [x]) z (by rw [List.length_append, List.length_singleton]; rfl) HG5.out.row _ (by first | rfl | (simp only [World.size_setCell]; rfl)) (by have := HWM.out; first | omega | (simp; omega)) HG5.out.le ?_; intro A6 c6 w16 lo6 hi6 hr hor hw; have HG6 := Lib.hid (HG5.out.push hr hor hw); clear hr hor hw)
              | (at_builtin; refine wpList_pushR _ rfl _ _ rfl lo2 hi2 Ao co (ys) x rfl HS.out.row _ (by first | rfl | (simp only [World.size_setCell]; rfl)) (by have := HWM.out; first | omega | (simp; omega)) HS.out.le ?_; intro A5 c5 w15 lo5 hi5 hr hor hw; have HG5 := Lib.hid (HS.out.push hr hor hw); clear hr hor hw; have hz5 := HCZ.out _ HG5.out.wi))
            go_roundw
            case rel => exact ⟨j + 1, by omega, by go_num, by rw [HN.out], A6, c6, lo6, hi6, by rw [HN.out]; simp, by rw [HN.out]; exact HG6.out⟩
            case measure => simp [intOf]; omega
          | true =>
            have HN := Lib.hid (HE3.out c1 (fun q => by cases q.2))
            have d2 : decide (x < z) = true := by simpa using c2
            clear c1 HE1 HE2 HE3
            go_wp2_with (at_builtin; refine wpList_pushR _ rfl _ _ rfl lo2 hi2 Ao co (ys) z rfl HS.out.row _ (by first | rfl | (simp only [World.size_setCell]; rfl)) (by have := HWM.out; first | omega | (simp; omega)) HS.out.le ?_; intro A5 c5 w15 lo5 hi5 hr hor hw; have HG5 := Lib.hid (HS.out.push hr hor hw); clear hr hor hw)
            go_roundw
            case rel => exact ⟨j + 1, by omega, by go_num, by rw [HN.out], A5, c5, lo5, hi5, by rw [HN.out]; simp, by rw [HN.out]; exact HG5.out⟩
            case measure => simp [intOf]; omega
        · have HN := Lib.hid (HE3.out c1 (fun q => c2 q.1))
          have d2 : decide (x < z) = false := by simpa using c2
          clear c1 HE1 HE2 HE3
          go_wp2_with (at_builtin; refine wpList_pushR _ rfl _ _ rfl lo2 hi2 Ao co (ys) z rfl HS.out.row _ (by first | rfl | (simp only [World.size_setCell]; rfl)) (by have := HWM.out; first | omega | (simp; omega)) HS.out.le ?_; intro A5 c5 w15 lo5 hi5 hr hor hw; have HG5 := Lib.hid (HS.out.push hr hor hw); clear hr hor hw)
          go_roundw
          case rel => exact ⟨j + 1, by omega, by go_num, by rw [HN.out], A5, c5, lo5, hi5, by rw [HN.out]; simp, by rw [HN.out]; exact HG5.out⟩
          case measure => simp [intOf]; omega
    · obtain rfl : j = zs.length := by omega
      have hs1 := HA.out.size
      have HRV := Lib.hid (show wiL zs x = if (wiS zs x zs.length).2 = true then (wiS zs x zs.length).1 else (wiS zs x zs.length).1 ++ [x] from rfl)
      obtain ⟨s, hs⟩ : ∃ s, wiS zs x zs.length = s := ⟨_, rfl⟩
      rw [hs] at HRV HS0 HWL ⊢
      clear hs hzr
      obtain ⟨ys, pl⟩ := s
      have HS := Lib.hid (show GrowP w.heap.size (w.heap.size + 1) w1 wr ys Ao co lo2 hi2 from HS0.out)
      have HWM := Lib.hid (show ys.length ≤ 1048574 from HWL.out)
      clear HS0 HWL
      cases pl with
      | true =>
        have HRW := Lib.hid (show wiL zs x = ys from HRV.out.trans (if_pos rfl))
        clear HRV
        go_wp2_with fail
        go_ret
        rw [HRW.out]
        exact ⟨Ao, co, rfl, HS.out.out (Nat.le_refl _) hs1, within_on HA.out HS.out.wi hs1 (.inl (Nat.le_refl _))⟩
      | false =>
        have HRW := Lib.hid (show wiL zs x = ys ++ [x] from HRV.out.trans (if_neg (fun h => by cases h)))
        clear HRV
        go_wp2_with (at_builtin; refine wpList_pushR _ rfl _ _ rfl lo2 hi2 Ao co (ys) x rfl HS.out.row _ (by first | rfl | (simp only [World.size_setCell]; rfl)) (by have := HWM.out; first | omega | (simp; omega)) HS.out.le ?_; intro A5 c5 w15 lo5 hi5 hr hor hw; have HG5 := Lib.hid (HS.out.push hr hor hw); clear hr hor hw)
        go_ret
        rw [HRW.out]
        exact ⟨A5, c5, by simp, HG5.out.out (Nat.le_refl _) hs1, within_on HA.out HG5.out.wi hs1 (.inl (Nat.le_refl _))⟩
end Go.Proofs.Ytdnmmjaelgjkaaa
/- What spec.l5Set answers. No condition. -/
namespace Go.Proofs.Ytdnmmjaelgjkaaa
open Go.RowKit

set_option maxHeartbeats 4000000 in
set_option maxRecDepth 100000 in
theorem l5Set_c (p : Int) (l : List (Int × Int)) (A AZ : Option Addr) (cap cZ lo hi : Nat) (Z : List Int) (w : World) (hl : BarsAt w w.heap.size A l) (hz : IntsIn w lo hi AZ Z) (hn : l.length ≤ 1048576) (hZ : Z.length ≤ 1048576) :
    Calls Try.prog 108 #[.agg #[.int .i64 p, .slice A l.length cap], .slice AZ Z.length cZ] w fun e w' => e = .returned (.bool (setB p l Z)) ∧ Below w.heap.size w w' := by
  have hA := new_below w (.cells #[.int .i64 p, .slice A l.length cap] 29)
  have HA := Lib.hid hA
  have HL := Lib.hid ((bars_in hl).within (within_of hA) (.inr (Nat.zero_le _)))
  have HZ := Lib.hid (hz.within (within_of hA) (.inr (Nat.zero_le _)))
  have BX := Lib.hid (box_new w p (.slice A l.length cap) 29)
  clear hl hz hA
  go_enter Try.func108, Try.ntmps108
  go_wp2_with fail
  generalize (w.alloc (.cells #[.int .i64 p, .slice A l.length cap] 29)) = w1 at *
  go_loopw [5] (fun i wr => ∃ j : Nat, j ≤ Z.length ∧ i = .int .i64 j ∧ (∀ u, u < j → OkS l.length Z u) ∧ Below w1.heap.size w1 wr) (fun i _ => Z.length - (intOf i).toNat)
  case atStart => exact ⟨0, Nat.zero_le _, rfl, fun u hu => absurd hu (Nat.not_lt_zero _), Below.refl _ _⟩
  case round =>
    obtain ⟨j, hj, rfl, hok, hb⟩ := hrel
    have HB := Lib.hid hb
    have HOK := Lib.hid hok
    have BX1 := Lib.hid (BX.out.kept hb)
    obtain ⟨_, g0, g1⟩ := BX1.out
    by_cases hlt : j < Z.length
    · have hji : (j : Int) < (Z.length : Int) := by omega
      obtain ⟨b, off, rfl, hzc⟩ := row_at (HZ.out.within (within_of hb) (.inr (Nat.zero_le _))) (by omega)
      have hz := hzc j hlt
      have HPREV := Lib.hid (fun h0 : 0 < j => hzc (j - 1) (by omega))
      have HDEF := Lib.hid (show OkS l.length Z j = ((0 ≤ Z.getD j 0 ∧ Z.getD j 0 < (l.length : Int)) ∧ (0 < j → Z.getD (j - 1) 0 < Z.getD j 0)) from rfl)
      have HBAD := Lib.hid (fun h : ¬ OkS l.length Z j => setB_bad (p := p) hlt h)
      clear hb hok hzc
      obtain ⟨z, hzd⟩ : ∃ z, Z.getD j 0 = z := ⟨_, rfl⟩
      obtain ⟨y, hyd⟩ : ∃ y, Z.getD (j - 1) 0 = y := ⟨_, rfl⟩
      rw [hzd] at hz HDEF
      rw [hyd] at HPREV HDEF
      clear hzd hyd
      by_cases c1 : z < 0
      · skip
        have Q := Lib.hid (HBAD.out fun h => by rw [HDEF.out] at h; omega)
        go_wp2_with fail
        go_big_quiet (fail)
        go_wp2_with fail
        go_ret
        exact ⟨by rw [Q.out]; rfl, below_on HA.out (HB.out.trans (below_drewN _ _ _)) HA.out.size⟩
      have d1 : decide (z < 0) = false := by simpa using c1
      obtain ⟨n, rfl⟩ : ∃ n : Nat, z = (n : Int) := ⟨z.toNat, by omega⟩
      have d1n : decide ((n : Int) < 0) = false := d1
      by_cases c2 : l.length ≤ n
      · skip
        have c2i : (l.length : Int) ≤ (n : Int) := by omega
        have Q := Lib.hid (HBAD.out fun h => by rw [HDEF.out] at h; omega)
        go_wp2_with fail
        go_big_quiet (fail)
        go_wp2_with fail
        go_ret
        exact ⟨by rw [Q.out]; rfl, below_on HA.out (HB.out.trans (below_drewN _ _ _)) HA.out.size⟩
      have c2i : ¬ (l.length : Int) ≤ (n : Int) := by omega
      have d2 : decide ((l.length : Int) ≤ (n : Int)) = false := by simpa using c2i
      have d2n : decide (l.length ≤ n) = false := by simpa using c2
      by_cases hj0 : j = 0
      · skip
        have d3 : decide ((0 : Int) < (j : Int)) = false := by simp; omega
        have d3n : decide (0 < j) = false := by simp; omega
        have HJ0 := Lib.hid hj0
        clear hj0
        have HN := Lib.hid (okS_snoc HOK.out (by rw [HDEF.out]; exact ⟨by omega, fun h => absurd h (by have := HJ0.out; omega)⟩))
        go_wp2_with fail
        go_big_quiet (fail)
        go_wp2_with fail
        go_roundw
        case rel => exact ⟨j + 1, by omega, by go_num, HN.out, HB.out.trans (below_drewN _ _ _)⟩
        case measure => simp [intOf]; omega
      · skip
        have d3 : decide ((0 : Int) < (j : Int)) = true := by simp; omega
        have d3n : decide (0 < j) = true := by simp; omega
        have hy := HPREV.out (by omega)
        have hjm : (j : Int) - 1 = ((j - 1 : Nat) : Int) := by omega
        have hjw : IntKind.i64.wrap ((j - 1 : Nat) : Int) = ((j - 1 : Nat) : Int) := IntWalk.i64_in _ (by omega)
        have hjl : ((j - 1 : Nat) : Int) < (Z.length : Int) := by omega
        have hjl2 : j - 1 < Z.length := by omega
        have HJ0 := Lib.hid hj0
        clear hj0
        by_cases c3 : (n : Int) ≤ y
        · skip
          have Q := Lib.hid (HBAD.out fun h => by rw [HDEF.out] at h; have := h.2 (by have := HJ0.out; omega); omega)
          go_wp2_with fail
          go_big_quiet (fail)
          go_wp2_with fail
          go_ret
          exact ⟨by rw [Q.out]; rfl, below_on HA.out (HB.out.trans (below_drewN _ _ _)) HA.out.size⟩
        have d4 : decide ((n : Int) ≤ y) = false := by simpa using c3
        have HN := Lib.hid (okS_snoc HOK.out (by rw [HDEF.out]; exact ⟨by omega, fun _ => by omega⟩))
        go_wp2_with fail
        go_big_quiet (fail)
        go_wp2_with fail
        go_roundw
        case rel => exact ⟨j + 1, by omega, by go_num, HN.out, HB.out.trans (below_drewN _ _ _)⟩
        case measure => simp [intOf]; omega
    · obtain rfl : j = Z.length := by omega
      have HL1 := Lib.hid (HL.out.within (within_of hb) (.inr (Nat.zero_le _)))
      have HQ := Lib.hid (setB_all (p := p) HOK.out)
      clear hb hok
      go_wp2_with fail
      refine (specIsGraph' p l A cap _ HL1.out.at hn).mono ?_
      rintro e w2 ⟨rfl, hb⟩
      have HB2 := Lib.hid (below_on (below_on HA.out HB.out HA.out.size) hb (by have := HA.out.size; have := HB.out.size; omega))
      clear hb
      go_wp2_with fail
      go_ret
      exact ⟨by rw [HQ.out]; rfl, HB2.out⟩
end Go.Proofs.Ytdnmmjaelgjkaaa
/- What spec.RankOfSet answers. No condition. -/
namespace Go.Proofs.Ytdnmmjaelgjkaaa
open Go.RowKit

set_option maxHeartbeats 2000000 in
set_option maxRecDepth 100000 in
theorem specRankSet (p k c : Int) (l : List (Int × Int)) (zs : List Int) (A Z : Option Addr) (cap cz lo hi : Nat) (w : World) (hl : BarsAt w w.heap.size A l) (hz : IntsIn w lo hi Z zs) (hn : l.length ≤ 1048576) (hnz : zs.length ≤ 1048576) :
    Calls Try.prog 45 #[.agg #[.int .i64 p, .slice A l.length cap], .int .i64 k, .int .i64 c, .slice Z zs.length cz] w fun e w' => e = .returned (.int .i64 (rankSV p k c l zs)) ∧ Below w.heap.size w w' := by
  have HISG : ∀ W : World, BarsAt W W.heap.size A l → Calls Try.prog 80 #[.agg #[.int .i64 p, .slice A l.length cap]] W fun e w' => e = .returned (.bool (isGB p l)) ∧ Below W.heap.size W w' := fun W h => specIsGraph' p l A cap W h hn
  obtain ⟨rv, hrv⟩ : ∃ rv, rankSV p k c l zs = rv := ⟨_, rfl⟩
  rw [hrv]
  unfold rankSV at hrv
  cases hg : isGB p l with
  | false =>
    have HRV := Lib.hid (show rv = -1 from by rw [← hrv, hg]; rfl)
    clear hrv
    rw [hg] at HISG
    clear hg
    have W0 := Lib.hid (Below.refl w.heap.size w)
    have HB_0 := Lib.hid (bars_in hl)
    have HZ_0 := Lib.hid (hz)
    clear hl hz
    have Z1 := Lib.hid (within_alloc w (.cells #[.int .i64 p, (.slice A l.length cap)] 29)).size
    have W1 := Lib.hid (within_on W0.out (within_alloc w (.cells #[.int .i64 p, (.slice A l.length cap)] 29)) W0.out.size (.inr (Nat.le_refl _)))
    have HB_1 := Lib.hid (HB_0.out.within (within_alloc w (.cells #[.int .i64 p, (.slice A l.length cap)] 29)) (by omega))
    have HZ_1 := Lib.hid (HZ_0.out.within (within_alloc w (.cells #[.int .i64 p, (.slice A l.length cap)] 29)) (by omega))
    have Y1 := Lib.hid (show (w.alloc (.cells #[.int .i64 p, (.slice A l.length cap)] 29)).heap.size = w.heap.size + 1 by simp)
    have hnew := box_new w p (.slice A l.length cap) 29
    have BX_1 := Lib.hid hnew
    clear hnew
    go_enter Try.func45, Try.ntmps45
    obtain ⟨g0_0, g0_1, g0_2⟩ := BX_1.out
    go_wp2_with fail
    clear g0_0 g0_1 g0_2
    generalize (w.alloc (.cells #[.int .i64 p, (.slice A l.length cap)] 29)) = w1 at *
    refine (HISG _ HB_1.out.at).mono ?_
    rintro e w2 ⟨rfl, hb⟩
    have Z2 := Lib.hid (within_of hb).size
    have W2 := Lib.hid (within_on W1.out (within_of hb) W1.out.size (.inr (Nat.le_refl _)))
    have HB_2 := Lib.hid (HB_1.out.within (within_of hb) (by omega))
    have HZ_2 := Lib.hid (HZ_1.out.within (within_of hb) (by omega))
    have BX_2 := Lib.hid (BX_1.out.within (within_of hb) (by omega))
    clear hb
    go_wp2_with fail
    go_ret
    exact ⟨by rw [HRV.out]; rfl, W2.out⟩
  | true =>
    have HRV := Lib.hid (show rv = rankV p k c (onlyL l zs) from by rw [← hrv, hg]; rfl)
    clear hrv
    rw [hg] at HISG
    clear hg
    have W0 := Lib.hid (Below.refl w.heap.size w)
    have HB_0 := Lib.hid (bars_in hl)
    have HZ_0 := Lib.hid (hz)
    clear hl hz
    have Z1 := Lib.hid (within_alloc w (.cells #[.int .i64 p, (.slice A l.length cap)] 29)).size
    have W1 := Lib.hid (within_on W0.out (within_alloc w (.cells #[.int .i64 p, (.slice A l.length cap)] 29)) W0.out.size (.inr (Nat.le_refl _)))
    have HB_1 := Lib.hid (HB_0.out.within (within_alloc w (.cells #[.int .i64 p, (.slice A l.length cap)] 29)) (by omega))
    have HZ_1 := Lib.hid (HZ_0.out.within (within_alloc w (.cells #[.int .i64 p, (.slice A l.length cap)] 29)) (by omega))
    have Y1 := Lib.hid (show (w.alloc (.cells #[.int .i64 p, (.slice A l.length cap)] 29)).heap.size = w.heap.size + 1 by simp)
    have hnew := box_new w p (.slice A l.length cap) 29
    have BX_1 := Lib.hid hnew
    clear hnew
    go_enter Try.func45, Try.ntmps45
    obtain ⟨g0_0, g0_1, g0_2⟩ := BX_1.out
    go_wp2_with fail
    clear g0_0 g0_1 g0_2
    generalize (w.alloc (.cells #[.int .i64 p, (.slice A l.length cap)] 29)) = w1 at *
    refine (HISG _ HB_1.out.at).mono ?_
    rintro e w2 ⟨rfl, hb⟩
    have Z2 := Lib.hid (within_of hb).size
    have W2 := Lib.hid (within_on W1.out (within_of hb) W1.out.size (.inr (Nat.le_refl _)))
    have HB_2 := Lib.hid (HB_1.out.within (within_of hb) (by omega))
    have HZ_2 := Lib.hid (HZ_1.out.within (within_of hb) (by omega))
    have BX_2 := Lib.hid (BX_1.out.within (within_of hb) (by omega))
    clear hb
    obtain ⟨g1_0, g1_1, g1_2⟩ := BX_2.out
    go_wp2_with fail
    clear g1_0 g1_1 g1_2
    refine (specOnly p l zs A Z cap cz _ _ _ HB_2.out.at HZ_2.out hn hnz).mono ?_
    rintro e w3 ⟨AO, cO, rfl, ho, hb⟩
    have Z3 := Lib.hid (within_of hb).size
    have W3 := Lib.hid (within_on W2.out (within_of hb) W2.out.size (.inr (Nat.le_refl _)))
    have HB_3 := Lib.hid (HB_2.out.within (within_of hb) (by omega))
    have HZ_3 := Lib.hid (HZ_2.out.within (within_of hb) (by omega))
    have BX_3 := Lib.hid (BX_2.out.within (within_of hb) (by omega))
    have OB_3 := Lib.hid (bars_in ho)
    clear ho hb
    go_wp2_with fail
    refine (specRank p k c (onlyL l zs) AO cO _ OB_3.out.at (onlyL_len l zs hn)).mono ?_
    rintro e w4 ⟨rfl, hb⟩
    have Z4 := Lib.hid (within_of hb).size
    have W4 := Lib.hid (within_on W3.out (within_of hb) W3.out.size (.inr (Nat.le_refl _)))
    have HB_4 := Lib.hid (HB_3.out.within (within_of hb) (by omega))
    have HZ_4 := Lib.hid (HZ_3.out.within (within_of hb) (by omega))
    have BX_4 := Lib.hid (BX_3.out.within (within_of hb) (by omega))
    have OB_4 := Lib.hid (OB_3.out.within (within_of hb) (by omega))
    clear hb
    go_wp2_with fail
    go_ret
    exact ⟨by rw [HRV.out]; rfl, W4.out⟩
end Go.Proofs.Ytdnmmjaelgjkaaa
/- What spec.IsIndependent answers. No condition. -/
namespace Go.Proofs.Ytdnmmjaelgjkaaa
open Go.RowKit

set_option maxHeartbeats 4000000 in
set_option maxRecDepth 100000 in
theorem specInd (p k c : Int) (l : List (Int × Int)) (zs : List Int) (A Z : Option Addr) (cap cz lo hi : Nat) (w : World) (hl : BarsAt w w.heap.size A l) (hz : IntsIn w lo hi Z zs) (hn : l.length ≤ 1048576) (hnz : zs.length ≤ 1048576) :
    Calls Try.prog 49 #[.agg #[.int .i64 p, .slice A l.length cap], .int .i64 k, .int .i64 c, .slice Z zs.length cz] w fun e w' => e = .returned (.bool (indB p k c l zs)) ∧ Below w.heap.size w w' := by
  obtain ⟨rv, hrv⟩ : ∃ rv, indB p k c l zs = rv := ⟨_, rfl⟩
  rw [hrv]
  have HSET : ∀ W : World, BarsAt W W.heap.size A l → ∀ lo hi, IntsIn W lo hi Z zs → Calls Try.prog 108 #[.agg #[.int .i64 p, .slice A l.length cap], .slice Z zs.length cz] W fun e w' => e = .returned (.bool (setB p l zs)) ∧ Below W.heap.size W w' := fun W h lo hi h2 => l5Set_c p l A Z cap cz lo hi zs W h h2 hn hnz
  cases hs : setB p l zs with
  | false =>
    have HRV := Lib.hid (show rv = false from by rw [← hrv]; exact indB_set hs)
    clear hrv
    rw [hs] at HSET
    clear hs
    have W0 := Lib.hid (Below.refl w.heap.size w)
    have HB_0 := Lib.hid (bars_in hl)
    have HZ_0 := Lib.hid (hz)
    clear hl hz
    have Z1 := Lib.hid (within_alloc w (.cells #[.int .i64 p, (.slice A l.length cap)] 29)).size
    have W1 := Lib.hid (within_on W0.out (within_alloc w (.cells #[.int .i64 p, (.slice A l.length cap)] 29)) W0.out.size (.inr (Nat.le_refl _)))
    have HB_1 := Lib.hid (HB_0.out.within (within_alloc w (.cells #[.int .i64 p, (.slice A l.length cap)] 29)) (by omega))
    have HZ_1 := Lib.hid (HZ_0.out.within (within_alloc w (.cells #[.int .i64 p, (.slice A l.length cap)] 29)) (by omega))
    have Y1 := Lib.hid (show (w.alloc (.cells #[.int .i64 p, (.slice A l.length cap)] 29)).heap.size = w.heap.size + 1 by simp)
    have hnew := box_new w p (.slice A l.length cap) 29
    have BX_1 := Lib.hid hnew
    clear hnew
    go_enter Try.func49, Try.ntmps49
    obtain ⟨g0_0, g0_1, g0_2⟩ := BX_1.out
    go_wp2_with fail
    clear g0_0 g0_1 g0_2
    generalize (w.alloc (.cells #[.int .i64 p, (.slice A l.length cap)] 29)) = w1 at *
    refine (HSET _ HB_1.out.at _ _ HZ_1.out).mono ?_
    rintro e w2 ⟨rfl, hb⟩
    have Z2 := Lib.hid (within_of hb).size
    have W2 := Lib.hid (within_on W1.out (within_of hb) W1.out.size (.inr (Nat.le_refl _)))
    have HB_2 := Lib.hid (HB_1.out.within (within_of hb) (by omega))
    have HZ_2 := Lib.hid (HZ_1.out.within (within_of hb) (by omega))
    have BX_2 := Lib.hid (BX_1.out.within (within_of hb) (by omega))
    clear hb HSET
    go_wp2_with fail
    go_ret
    exact ⟨by rw [HRV.out]; rfl, W2.out⟩
  | true =>
    cases hr : rangeB k c with
    | false =>
      have HRV := Lib.hid (show rv = false from by rw [← hrv]; exact indB_rng hr)
      have HRG := Lib.hid hr
      clear hrv hr
      rw [hs] at HSET
      clear hs
      have W0 := Lib.hid (Below.refl w.heap.size w)
      have HB_0 := Lib.hid (bars_in hl)
      have HZ_0 := Lib.hid (hz)
      clear hl hz
      have Z1 := Lib.hid (within_alloc w (.cells #[.int .i64 p, (.slice A l.length cap)] 29)).size
      have W1 := Lib.hid (within_on W0.out (within_alloc w (.cells #[.int .i64 p, (.slice A l.length cap)] 29)) W0.out.size (.inr (Nat.le_refl _)))
      have HB_1 := Lib.hid (HB_0.out.within (within_alloc w (.cells #[.int .i64 p, (.slice A l.length cap)] 29)) (by omega))
      have HZ_1 := Lib.hid (HZ_0.out.within (within_alloc w (.cells #[.int .i64 p, (.slice A l.length cap)] 29)) (by omega))
      have Y1 := Lib.hid (show (w.alloc (.cells #[.int .i64 p, (.slice A l.length cap)] 29)).heap.size = w.heap.size + 1 by simp)
      have hnew := box_new w p (.slice A l.length cap) 29
      have BX_1 := Lib.hid hnew
      clear hnew
      go_enter Try.func49, Try.ntmps49
      obtain ⟨g0_0, g0_1, g0_2⟩ := BX_1.out
      go_wp2_with fail
      clear g0_0 g0_1 g0_2
      generalize (w.alloc (.cells #[.int .i64 p, (.slice A l.length cap)] 29)) = w1 at *
      refine (HSET _ HB_1.out.at _ _ HZ_1.out).mono ?_
      rintro e w2 ⟨rfl, hb⟩
      have Z2 := Lib.hid (within_of hb).size
      have W2 := Lib.hid (within_on W1.out (within_of hb) W1.out.size (.inr (Nat.le_refl _)))
      have HB_2 := Lib.hid (HB_1.out.within (within_of hb) (by omega))
      have HZ_2 := Lib.hid (HZ_1.out.within (within_of hb) (by omega))
      have BX_2 := Lib.hid (BX_1.out.within (within_of hb) (by omega))
      clear hb HSET
      go_wp2_with fail
      refine (specRange k c _).mono ?_
      rintro e w9 ⟨rfl, rfl⟩
      rw [HRG.out]
      go_wp2_with fail
      go_ret
      exact ⟨by rw [HRV.out]; rfl, W2.out⟩
    | true =>
      have HRG := Lib.hid hr
      have hq := indB_yes (c := c) hs hr
      rw [hrv] at hq
      have HRV := Lib.hid hq
      clear hrv hr hq
      rw [hs] at HSET
      clear hs
      have W0 := Lib.hid (Below.refl w.heap.size w)
      have HB_0 := Lib.hid (bars_in hl)
      have HZ_0 := Lib.hid (hz)
      clear hl hz
      have Z1 := Lib.hid (within_alloc w (.cells #[.int .i64 p, (.slice A l.length cap)] 29)).size
      have W1 := Lib.hid (within_on W0.out (within_alloc w (.cells #[.int .i64 p, (.slice A l.length cap)] 29)) W0.out.size (.inr (Nat.le_refl _)))
      have HB_1 := Lib.hid (HB_0.out.within (within_alloc w (.cells #[.int .i64 p, (.slice A l.length cap)] 29)) (by omega))
      have HZ_1 := Lib.hid (HZ_0.out.within (within_alloc w (.cells #[.int .i64 p, (.slice A l.length cap)] 29)) (by omega))
      have Y1 := Lib.hid (show (w.alloc (.cells #[.int .i64 p, (.slice A l.length cap)] 29)).heap.size = w.heap.size + 1 by simp)
      have hnew := box_new w p (.slice A l.length cap) 29
      have BX_1 := Lib.hid hnew
      clear hnew
      go_enter Try.func49, Try.ntmps49
      obtain ⟨g0_0, g0_1, g0_2⟩ := BX_1.out
      go_wp2_with fail
      clear g0_0 g0_1 g0_2
      generalize (w.alloc (.cells #[.int .i64 p, (.slice A l.length cap)] 29)) = w1 at *
      refine (HSET _ HB_1.out.at _ _ HZ_1.out).mono ?_
      rintro e w2 ⟨rfl, hb⟩
      have Z2 := Lib.hid (within_of hb).size
      have W2 := Lib.hid (within_on W1.out (within_of hb) W1.out.size (.inr (Nat.le_refl _)))
      have HB_2 := Lib.hid (HB_1.out.within (within_of hb) (by omega))
      have HZ_2 := Lib.hid (HZ_1.out.within (within_of hb) (by omega))
      have BX_2 := Lib.hid (BX_1.out.within (within_of hb) (by omega))
      clear hb HSET
      go_wp2_with fail
      refine (specRange k c _).mono ?_
      rintro e w9 ⟨rfl, rfl⟩
      rw [HRG.out]
      obtain ⟨g1_0, g1_1, g1_2⟩ := BX_2.out
      go_wp2_with fail
      clear g1_0 g1_1 g1_2
      refine (specRankSet p k c l zs A Z cap cz _ _ _ HB_2.out.at HZ_2.out hn hnz).mono ?_
      rintro e w3 ⟨rfl, hb⟩
      have Z3 := Lib.hid (within_of hb).size
      have W3 := Lib.hid (within_on W2.out (within_of hb) W2.out.size (.inr (Nat.le_refl _)))
      have HB_3 := Lib.hid (HB_2.out.within (within_of hb) (by omega))
      have HZ_3 := Lib.hid (HZ_2.out.within (within_of hb) (by omega))
      have BX_3 := Lib.hid (BX_2.out.within (within_of hb) (by omega))
      clear hb
      obtain ⟨r, hr⟩ : ∃ r, rankSV p k c l zs = r := ⟨_, rfl⟩
      rw [hr] at HRV ⊢
      clear hr
      go_wp2_with fail
      go_ret
      exact ⟨by rw [HRV.out]; first | rfl | simp, W3.out⟩
end Go.Proofs.Ytdnmmjaelgjkaaa
/- What spec.RejectedBars answers. No condition. -/
namespace Go.Proofs.Ytdnmmjaelgjkaaa
open Go.RowKit

set_option maxHeartbeats 4000000 in
set_option maxRecDepth 100000 in
theorem specRej (p k c : Int) (l : List (Int × Int)) (A : Option Addr) (cap : Nat) (w : World) (hl : BarsAt w w.heap.size A l) (hn : l.length ≤ 1048576) :
    Calls Try.prog 62 #[.agg #[.int .i64 p, .slice A l.length cap], .int .i64 k, .int .i64 c] w (IntsO w (rejV p k c l)) := by
  cases hb : runB p k c l with
  | false =>
    have HR := Lib.hid (rejV_no hb)
    have HNW : ∀ W : World, BarsAt W W.heap.size A l → Calls Try.prog 57 #[.agg #[.int .i64 p, .slice A l.length cap], .int .i64 k, .int .i64 c] W (PebOB W (runV p k c l).1 (runV p k c l).2.1 (runV p k c l).2.2 false) := fun W h => by have hc := specRunP p k c l A cap W h hn; rw [hb] at hc; exact hc
    clear hb
    have W0 := Lib.hid (Below.refl w.heap.size w)
    have HB_0 := Lib.hid (bars_in hl)
    clear hl
    have Z1 := Lib.hid (within_alloc w (.cells #[.int .i64 p, (.slice A l.length cap)] 29)).size
    have W1 := Lib.hid (within_on W0.out (within_alloc w (.cells #[.int .i64 p, (.slice A l.length cap)] 29)) W0.out.size (.inr (Nat.le_refl _)))
    have HB_1 := Lib.hid (HB_0.out.within (within_alloc w (.cells #[.int .i64 p, (.slice A l.length cap)] 29)) (by omega))
    have Y1 := Lib.hid (show (w.alloc (.cells #[.int .i64 p, (.slice A l.length cap)] 29)).heap.size = w.heap.size + 1 by simp)
    have hnew := box_new w p (.slice A l.length cap) 29
    have BX_1 := Lib.hid hnew
    clear hnew
    have Z2 := Lib.hid (within_alloc (w.alloc (.cells #[.int .i64 p, (.slice A l.length cap)] 29)) (.cells #[] 3)).size
    have W2 := Lib.hid (within_on W1.out (within_alloc (w.alloc (.cells #[.int .i64 p, (.slice A l.length cap)] 29)) (.cells #[] 3)) W1.out.size (.inr (Nat.le_refl _)))
    have HB_2 := Lib.hid (HB_1.out.within (within_alloc (w.alloc (.cells #[.int .i64 p, (.slice A l.length cap)] 29)) (.cells #[] 3)) (by omega))
    have BX_2 := Lib.hid (BX_1.out.within (within_alloc (w.alloc (.cells #[.int .i64 p, (.slice A l.length cap)] 29)) (.cells #[] 3)) (by omega))
    have Y2 := Lib.hid (show ((w.alloc (.cells #[.int .i64 p, (.slice A l.length cap)] 29)).alloc (.cells #[] 3)).heap.size = (w.alloc (.cells #[.int .i64 p, (.slice A l.length cap)] 29)).heap.size + 1 by simp)
    have hown := ownR_empty (w.alloc (.cells #[.int .i64 p, (.slice A l.length cap)] 29))
    rw [show (w.alloc (.cells #[.int .i64 p, (.slice A l.length cap)] 29)).heap.size = w.heap.size + 1 by simp] at hown
    have OE_2 := Lib.hid hown
    clear hown
    go_enter Try.func62, Try.ntmps62
    obtain ⟨g0_0, g0_1, g0_2⟩ := BX_2.out
    go_wp2_with fail
    clear g0_0 g0_1 g0_2
    generalize ((w.alloc (.cells #[.int .i64 p, (.slice A l.length cap)] 29)).alloc (.cells #[] 3)) = w2 at *
    generalize (w.alloc (.cells #[.int .i64 p, (.slice A l.length cap)] 29)) = w1 at *
    refine (HNW _ HB_2.out.at).mono ?_
    rintro e w3 ⟨AF, cF, AT, cT, AZ, cZ, rfl, ho, hb⟩
    have Z3 := Lib.hid (within_of hb).size
    have W3 := Lib.hid (within_on W2.out (within_of hb) W2.out.size (.inr (Nat.le_refl _)))
    have HB_3 := Lib.hid (HB_2.out.within (within_of hb) (by omega))
    have BX_3 := Lib.hid (BX_2.out.within (within_of hb) (by omega))
    have OE_3 := Lib.hid (OE_2.out.within (within_of hb) (by omega))
    have OP_3 := Lib.hid (ho)
    clear ho hb
    have Z4 := Lib.hid (within_alloc w3 (.cells #[(.slice AF (runV p k c l).1.length cF), (.slice AT (runV p k c l).2.1.length cT), (.slice AZ (runV p k c l).2.2.length cZ)] 64)).size
    have W4 := Lib.hid (within_on W3.out (within_alloc w3 (.cells #[(.slice AF (runV p k c l).1.length cF), (.slice AT (runV p k c l).2.1.length cT), (.slice AZ (runV p k c l).2.2.length cZ)] 64)) W3.out.size (.inr (Nat.le_refl _)))
    have HB_4 := Lib.hid (HB_3.out.within (within_alloc w3 (.cells #[(.slice AF (runV p k c l).1.length cF), (.slice AT (runV p k c l).2.1.length cT), (.slice AZ (runV p k c l).2.2.length cZ)] 64)) (by omega))
    have BX_4 := Lib.hid (BX_3.out.within (within_alloc w3 (.cells #[(.slice AF (runV p k c l).1.length cF), (.slice AT (runV p k c l).2.1.length cT), (.slice AZ (runV p k c l).2.2.length cZ)] 64)) (by omega))
    have OE_4 := Lib.hid (OE_3.out.within (within_alloc w3 (.cells #[(.slice AF (runV p k c l).1.length cF), (.slice AT (runV p k c l).2.1.length cT), (.slice AZ (runV p k c l).2.2.length cZ)] 64)) (by omega))
    have OP_4 := Lib.hid (OP_3.out.within (within_alloc w3 (.cells #[(.slice AF (runV p k c l).1.length cF), (.slice AT (runV p k c l).2.1.length cT), (.slice AZ (runV p k c l).2.2.length cZ)] 64)) (by omega))
    have Y4 := Lib.hid (show (w3.alloc (.cells #[(.slice AF (runV p k c l).1.length cF), (.slice AT (runV p k c l).2.1.length cT), (.slice AZ (runV p k c l).2.2.length cZ)] 64)).heap.size = w3.heap.size + 1 by simp)
    have hnew := cel3_new w3 (.slice AF (runV p k c l).1.length cF) (.slice AT (runV p k c l).2.1.length cT) (.slice AZ (runV p k c l).2.2.length cZ) 64
    have BP_4 := Lib.hid hnew
    clear hnew
    go_wp2_with fail
    generalize (w3.alloc (.cells #[(.slice AF (runV p k c l).1.length cF), (.slice AT (runV p k c l).2.1.length cT), (.slice AZ (runV p k c l).2.2.length cZ)] 64)) = w4 at *
    go_loopw [7, 10] (fun u i wr => u = .slice (some ⟨w.heap.size + 1, 0, none⟩) 0 0 ∧ i = .int .i64 0 ∧ wr = w4) (fun _ _ _ => 0)
    case atStart => exact ⟨rfl, rfl, rfl⟩
    case round =>
      obtain ⟨rfl, rfl, rfl⟩ := hrel
      obtain ⟨_, g1, g2⟩ := BX_4.out
      by_cases hlt : 0 < l.length
      · have hji : (0 : Int) < (l.length : Int) := by omega
        go_wp2_with fail
        go_ret
        exact ⟨some ⟨w.heap.size + 1, 0, none⟩, 0, by rw [HR.out]; rfl, by rw [HR.out]; exact ⟨Nat.le_refl _, .inl rfl⟩, W4.out⟩
      · have hji : ¬ (0 : Int) < (l.length : Int) := by omega
        go_wp2_with fail
        go_ret
        exact ⟨some ⟨w.heap.size + 1, 0, none⟩, 0, by rw [HR.out]; rfl, by rw [HR.out]; exact ⟨Nat.le_refl _, .inl rfl⟩, W4.out⟩
  | true =>
    have HR := Lib.hid (rejV_yes hb)
    have HNW : ∀ W : World, BarsAt W W.heap.size A l → Calls Try.prog 57 #[.agg #[.int .i64 p, .slice A l.length cap], .int .i64 k, .int .i64 c] W (PebOB W (runV p k c l).1 (runV p k c l).2.1 (runV p k c l).2.2 true) := fun W h => by have hc := specRunP p k c l A cap W h hn; rw [hb] at hc; exact hc
    clear hb
    have W0 := Lib.hid (Below.refl w.heap.size w)
    have HB_0 := Lib.hid (bars_in hl)
    clear hl
    have Z1 := Lib.hid (within_alloc w (.cells #[.int .i64 p, (.slice A l.length cap)] 29)).size
    have W1 := Lib.hid (within_on W0.out (within_alloc w (.cells #[.int .i64 p, (.slice A l.length cap)] 29)) W0.out.size (.inr (Nat.le_refl _)))
    have HB_1 := Lib.hid (HB_0.out.within (within_alloc w (.cells #[.int .i64 p, (.slice A l.length cap)] 29)) (by omega))
    have Y1 := Lib.hid (show (w.alloc (.cells #[.int .i64 p, (.slice A l.length cap)] 29)).heap.size = w.heap.size + 1 by simp)
    have hnew := box_new w p (.slice A l.length cap) 29
    have BX_1 := Lib.hid hnew
    clear hnew
    have Z2 := Lib.hid (within_alloc (w.alloc (.cells #[.int .i64 p, (.slice A l.length cap)] 29)) (.cells #[] 3)).size
    have W2 := Lib.hid (within_on W1.out (within_alloc (w.alloc (.cells #[.int .i64 p, (.slice A l.length cap)] 29)) (.cells #[] 3)) W1.out.size (.inr (Nat.le_refl _)))
    have HB_2 := Lib.hid (HB_1.out.within (within_alloc (w.alloc (.cells #[.int .i64 p, (.slice A l.length cap)] 29)) (.cells #[] 3)) (by omega))
    have BX_2 := Lib.hid (BX_1.out.within (within_alloc (w.alloc (.cells #[.int .i64 p, (.slice A l.length cap)] 29)) (.cells #[] 3)) (by omega))
    have Y2 := Lib.hid (show ((w.alloc (.cells #[.int .i64 p, (.slice A l.length cap)] 29)).alloc (.cells #[] 3)).heap.size = (w.alloc (.cells #[.int .i64 p, (.slice A l.length cap)] 29)).heap.size + 1 by simp)
    have hown := ownR_empty (w.alloc (.cells #[.int .i64 p, (.slice A l.length cap)] 29))
    rw [show (w.alloc (.cells #[.int .i64 p, (.slice A l.length cap)] 29)).heap.size = w.heap.size + 1 by simp] at hown
    have OE_2 := Lib.hid hown
    clear hown
    go_enter Try.func62, Try.ntmps62
    obtain ⟨g0_0, g0_1, g0_2⟩ := BX_2.out
    go_wp2_with fail
    clear g0_0 g0_1 g0_2
    generalize ((w.alloc (.cells #[.int .i64 p, (.slice A l.length cap)] 29)).alloc (.cells #[] 3)) = w2 at *
    generalize (w.alloc (.cells #[.int .i64 p, (.slice A l.length cap)] 29)) = w1 at *
    refine (HNW _ HB_2.out.at).mono ?_
    rintro e w3 ⟨AF, cF, AT, cT, AZ, cZ, rfl, ho, hb⟩
    have Z3 := Lib.hid (within_of hb).size
    have W3 := Lib.hid (within_on W2.out (within_of hb) W2.out.size (.inr (Nat.le_refl _)))
    have HB_3 := Lib.hid (HB_2.out.within (within_of hb) (by omega))
    have BX_3 := Lib.hid (BX_2.out.within (within_of hb) (by omega))
    have OE_3 := Lib.hid (OE_2.out.within (within_of hb) (by omega))
    have OP_3 := Lib.hid (ho)
    clear ho hb
    have Z4 := Lib.hid (within_alloc w3 (.cells #[(.slice AF (runV p k c l).1.length cF), (.slice AT (runV p k c l).2.1.length cT), (.slice AZ (runV p k c l).2.2.length cZ)] 64)).size
    have W4 := Lib.hid (within_on W3.out (within_alloc w3 (.cells #[(.slice AF (runV p k c l).1.length cF), (.slice AT (runV p k c l).2.1.length cT), (.slice AZ (runV p k c l).2.2.length cZ)] 64)) W3.out.size (.inr (Nat.le_refl _)))
    have HB_4 := Lib.hid (HB_3.out.within (within_alloc w3 (.cells #[(.slice AF (runV p k c l).1.length cF), (.slice AT (runV p k c l).2.1.length cT), (.slice AZ (runV p k c l).2.2.length cZ)] 64)) (by omega))
    have BX_4 := Lib.hid (BX_3.out.within (within_alloc w3 (.cells #[(.slice AF (runV p k c l).1.length cF), (.slice AT (runV p k c l).2.1.length cT), (.slice AZ (runV p k c l).2.2.length cZ)] 64)) (by omega))
    have OE_4 := Lib.hid (OE_3.out.within (within_alloc w3 (.cells #[(.slice AF (runV p k c l).1.length cF), (.slice AT (runV p k c l).2.1.length cT), (.slice AZ (runV p k c l).2.2.length cZ)] 64)) (by omega))
    have OP_4 := Lib.hid (OP_3.out.within (within_alloc w3 (.cells #[(.slice AF (runV p k c l).1.length cF), (.slice AT (runV p k c l).2.1.length cT), (.slice AZ (runV p k c l).2.2.length cZ)] 64)) (by omega))
    have Y4 := Lib.hid (show (w3.alloc (.cells #[(.slice AF (runV p k c l).1.length cF), (.slice AT (runV p k c l).2.1.length cT), (.slice AZ (runV p k c l).2.2.length cZ)] 64)).heap.size = w3.heap.size + 1 by simp)
    have hnew := cel3_new w3 (.slice AF (runV p k c l).1.length cF) (.slice AT (runV p k c l).2.1.length cT) (.slice AZ (runV p k c l).2.2.length cZ) 64
    have BP_4 := Lib.hid hnew
    clear hnew
    go_wp2_with fail
    generalize (w3.alloc (.cells #[(.slice AF (runV p k c l).1.length cF), (.slice AT (runV p k c l).2.1.length cT), (.slice AZ (runV p k c l).2.2.length cZ)] 64)) = w4 at *
    have hlen := (runV_len p k c l).2.2
    have HLEN := Lib.hid hlen
    clear hlen
    have hzr := OP_4.out.reads.z
    have HZ := Lib.hid hzr
    clear hzr
    have HPB := Lib.hid (show w.heap.size + 1 + 1 ≤ w3.heap.size from (by have := Z1.out; have := Z2.out; have := Z3.out; have := Z4.out; have := Y1.out; have := Y2.out; have := Y4.out; omega))
    have HP0 := Lib.hid (show RejP (w.heap.size + 1) (w.heap.size + 1 + 1) w4 w4 (runV p k c l).2.2 0 (some ⟨w.heap.size + 1, 0, none⟩) 0 (w.heap.size + 1) (w.heap.size + 1 + 1) from ⟨OE_4.out, .inl ⟨rfl, rfl⟩, (by have := Z1.out; have := Z2.out; have := Z3.out; have := Z4.out; have := Y1.out; have := Y2.out; have := Y4.out; omega), Within.refl _ _ w4⟩)
    go_loopw [7, 10] (fun u i wr => ∃ j : Nat, j ≤ l.length ∧ i = .int .i64 j ∧ ∃ Ao co lo hi, u = .slice Ao (rejK (runV p k c l).2.2 j).length co ∧ RejP (w.heap.size + 1) (w.heap.size + 1 + 1) w4 wr (runV p k c l).2.2 j Ao co lo hi) (fun _ i _ => l.length - (intOf i).toNat)
    case atStart => exact ⟨0, Nat.zero_le _, rfl, _, 0, _, _, rfl, HP0.out⟩
    case round =>
      obtain ⟨j, hj, rfl, Ao, co, lo, hi, rfl, hst⟩ := hrel
      have HS := Lib.hid hst
      obtain ⟨_, g1, g2⟩ := BX_4.out.within hst.wi (.inl (Nat.lt_succ_self _))
      obtain ⟨c0, c1, c2, _, _, _⟩ := (BP_4.out.within hst.wi (.inr HPB.out)).cells
      have HZ2 := Lib.hid (HZ.out.within hst.wi (.inr (by have := Z1.out; have := Z2.out; have := Z3.out; have := Z4.out; have := Y1.out; have := Y2.out; have := Y4.out; omega)))
      clear hst
      by_cases hlt : j < l.length
      · have hji : (j : Int) < (l.length : Int) := by omega
        have hjr := rejK_len (runV p k c l).2.2 j
        by_cases hm : (j : Int) ∈ (runV p k c l).2.2
        · have HM := Lib.hid (decide_eq_true hm)
          have HN := Lib.hid (HS.out.same hm)
          have HK := Lib.hid (rejK_in hm)
          clear hm
          go_wp2_with (go_at_call 93; refine (has_c (runV p k c l).2.2 (j : Int) AZ cZ _ _ _ HZ2.out (by have := HLEN.out; omega)).mono ?_; rintro e w9 ⟨rfl, rfl⟩; rw [HM.out])
          go_roundw
          case rel => exact ⟨j + 1, by omega, by go_num, Ao, co, lo, hi, by rw [HK.out], HN.out⟩
          case measure => simp [intOf]; omega
        · have HM := Lib.hid (decide_eq_false hm)
          have HNM := Lib.hid hm
          have HK := Lib.hid (show (rejK (runV p k c l).2.2 (j + 1)).length = (rejK (runV p k c l).2.2 j).length + 1 by rw [rejK_out hm]; simp)
          clear hm
          go_wp2_with (first
            | (at_builtin; refine wpList_pushR _ rfl _ _ rfl lo hi Ao co (rejK (runV p k c l).2.2 j) (j : Int) rfl HS.out.row _ (by first | rfl | (simp only [World.size_setCell]; rfl)) (by omega) HS.out.le ?_; intro A5 c5 w15 lo5 hi5 hr5 hor5 hw5; have HN := Lib.hid (HS.out.push HNM.out hr5 hor5 hw5); clear hr5 hor5 hw5)
            | (go_at_call 93; refine (has_c (runV p k c l).2.2 (j : Int) AZ cZ _ _ _ HZ2.out (by have := HLEN.out; omega)).mono ?_; rintro e w9 ⟨rfl, rfl⟩; rw [HM.out]))
          go_roundw
          case rel => exact ⟨j + 1, by omega, by go_num, A5, c5, lo5, hi5, by rw [HK.out], HN.out⟩
          case measure => simp [intOf]; omega
      · obtain rfl : j = l.length := by omega
        go_wp2_with fail
        go_ret
        rw [HR.out]
        have hbs := W4.out.size
        exact ⟨Ao, co, rfl, HS.out.out (by omega) hbs, within_on W4.out HS.out.wi hbs (.inl (by omega))⟩
end Go.Proofs.Ytdnmmjaelgjkaaa
/- What spec.AcceptedBars answers. No condition. -/
namespace Go.Proofs.Ytdnmmjaelgjkaaa
open Go.RowKit

theorem wpList_copyI {w : World} {ops : Array Oper} {rest : List Oper} {o : Oper} {a : Act} {Q : Exit → Act → World → Prop} (hgd : o.guard = none) (s x : Operand) (ho : o.op = .call { callee := .builtin .append, args := #[s, x], argTypes := #[40, 40] })
    (g : Nat) (A : Option Addr) (zs : List Int) (cap lo hi : Nat) (hs : a.eval s = .slice (some ⟨g, 0, none⟩) 0 0) (hx : a.eval x = .slice A zs.length cap) (hz : IntsIn w lo hi A zs) (hn : zs.length ≤ 1048576)
    (h : ∀ A' c' w', OwnInts w' w.heap.size w'.heap.size A' c' zs → Below w.heap.size w w' → wpList Try.prog ops Q rest (a.put o.dst (.slice A' zs.length c')) w') : wpList Try.prog ops Q (o :: rest) a w :=
  wpList_plain hgd fun _ hK => wp_copyI s x ho g A zs cap lo hi hs hx hz hn fun A' c' w' h1 h2 => hK _ _ (h A' c' w' h1 h2)
set_option maxHeartbeats 2000000 in
set_option maxRecDepth 100000 in
theorem specAcc (p k c : Int) (l : List (Int × Int)) (A : Option Addr) (cap : Nat) (w : World) (hl : BarsAt w w.heap.size A l) (hn : l.length ≤ 1048576) :
    Calls Try.prog 61 #[.agg #[.int .i64 p, .slice A l.length cap], .int .i64 k, .int .i64 c] w (IntsO w (runV p k c l).2.2) := by
  have W0 := Lib.hid (Below.refl w.heap.size w)
  have HB_0 := Lib.hid (bars_in hl)
  clear hl
  have Z1 := Lib.hid (within_alloc w (.cells #[.int .i64 p, (.slice A l.length cap)] 29)).size
  have W1 := Lib.hid (within_on W0.out (within_alloc w (.cells #[.int .i64 p, (.slice A l.length cap)] 29)) W0.out.size (.inr (Nat.le_refl _)))
  have HB_1 := Lib.hid (HB_0.out.within (within_alloc w (.cells #[.int .i64 p, (.slice A l.length cap)] 29)) (by omega))
  have Y1 := Lib.hid (show (w.alloc (.cells #[.int .i64 p, (.slice A l.length cap)] 29)).heap.size = w.heap.size + 1 by simp)
  have hnew := box_new w p (.slice A l.length cap) 29
  have BX_1 := Lib.hid hnew
  clear hnew
  go_enter Try.func61, Try.ntmps61
  obtain ⟨g0_0, g0_1, g0_2⟩ := BX_1.out
  go_wp2_with fail
  clear g0_0 g0_1 g0_2
  generalize (w.alloc (.cells #[.int .i64 p, (.slice A l.length cap)] 29)) = w1 at *
  refine (specRunP p k c l A cap _ HB_1.out.at hn).mono ?_
  rintro e w2 ⟨AF, cF, AT, cT, AZ, cZ, rfl, ho, hb⟩
  have Z2 := Lib.hid (within_of hb).size
  have W2 := Lib.hid (within_on W1.out (within_of hb) W1.out.size (.inr (Nat.le_refl _)))
  have HB_2 := Lib.hid (HB_1.out.within (within_of hb) (by omega))
  have BX_2 := Lib.hid (BX_1.out.within (within_of hb) (by omega))
  have OP_2 := Lib.hid (ho)
  clear ho hb
  have Z3 := Lib.hid (within_alloc w2 (.cells #[(.slice AF (runV p k c l).1.length cF), (.slice AT (runV p k c l).2.1.length cT), (.slice AZ (runV p k c l).2.2.length cZ)] 64)).size
  have W3 := Lib.hid (within_on W2.out (within_alloc w2 (.cells #[(.slice AF (runV p k c l).1.length cF), (.slice AT (runV p k c l).2.1.length cT), (.slice AZ (runV p k c l).2.2.length cZ)] 64)) W2.out.size (.inr (Nat.le_refl _)))
  have HB_3 := Lib.hid (HB_2.out.within (within_alloc w2 (.cells #[(.slice AF (runV p k c l).1.length cF), (.slice AT (runV p k c l).2.1.length cT), (.slice AZ (runV p k c l).2.2.length cZ)] 64)) (by omega))
  have BX_3 := Lib.hid (BX_2.out.within (within_alloc w2 (.cells #[(.slice AF (runV p k c l).1.length cF), (.slice AT (runV p k c l).2.1.length cT), (.slice AZ (runV p k c l).2.2.length cZ)] 64)) (by omega))
  have OP_3 := Lib.hid (OP_2.out.within (within_alloc w2 (.cells #[(.slice AF (runV p k c l).1.length cF), (.slice AT (runV p k c l).2.1.length cT), (.slice AZ (runV p k c l).2.2.length cZ)] 64)) (by omega))
  have Y3 := Lib.hid (show (w2.alloc (.cells #[(.slice AF (runV p k c l).1.length cF), (.slice AT (runV p k c l).2.1.length cT), (.slice AZ (runV p k c l).2.2.length cZ)] 64)).heap.size = w2.heap.size + 1 by simp)
  have hnew := cel3_new w2 (.slice AF (runV p k c l).1.length cF) (.slice AT (runV p k c l).2.1.length cT) (.slice AZ (runV p k c l).2.2.length cZ) 64
  have BP_3 := Lib.hid hnew
  clear hnew
  have hlen := (runV_len p k c l).2.2
  have hal := new_below (w2.alloc (.cells #[(.slice AF (runV p k c l).1.length cF), (.slice AT (runV p k c l).2.1.length cT), (.slice AZ (runV p k c l).2.2.length cZ)] 64)) (.cells #[] 3)
  have HAL := Lib.hid hal
  have hrd := OP_3.out.reads.z.within (within_of hal) (.inr (Nat.zero_le _))
  have HRD := Lib.hid hrd
  clear hal hrd
  obtain ⟨g1_0, g1_1, g1_2, g1_3, g1_4, g1_5⟩ := BP_3.out.cells
  go_wp2_with (at_builtin; refine wpList_copyI rfl _ _ rfl _ AZ (runV p k c l).2.2 cZ _ _ rfl rfl HRD.out (by omega) ?_; intro A2 c2 w9 ho hb; have HO := Lib.hid ho; have HB9 := Lib.hid hb; clear ho hb)
  go_ret
  have h1 := HAL.out.size
  have h2 := HB9.out.size
  have h3 := W3.out.size
  exact ⟨A2, c2, rfl, HO.out.widen (by omega) (Nat.le_refl _) (Nat.le_refl _), below_on (below_on W3.out HAL.out W3.out.size) HB9.out (by omega)⟩
end Go.Proofs.Ytdnmmjaelgjkaaa
/- A set of numbers in a map of the call's own; a box of five cells. No program's walk. No condition. -/
namespace Go.Proofs.Ytdnmmjaelgjkaaa
open Go.RowKit

open Go.Maps

theorem lawI : Keyed Try.prog 3 := int_keyed Try.underlying3
abbrev OMap (W : World) (b n : Nat) (D : DataW Unit) : Prop := W.ownsMap Try.prog 3 (plainElem Try.prog 4) b n D
abbrev ORng (W : World) (b r n : Nat) (D : DataW Unit) (left : Lit → Bool) (cnt : Nat) : Prop := W.ranges Try.prog 3 (plainElem Try.prog 4) b r n D left cnt
/-- What a map says: the numbers of a list, all with 'true'. -/
def SaysS (D : DataW Unit) (zs : List Int) : Prop := ∀ x : Int, Maps.has D (.int .i64 x) = decide (x ∈ zs) ∧ D.atKey (.int .i64 x) (.lit (.bool false)) = .lit (.bool (decide (x ∈ zs)))
def SetM (W : World) (b n : Nat) (zs : List Int) : Prop := ∃ D : DataW Unit, OMap W b n D ∧ SaysS D zs
theorem SetM.lt {W : World} {b n : Nat} {zs : List Int} (h : SetM W b n zs) : b < W.heap.size := by
  obtain ⟨D, h1, _⟩ := h
  exact h1.lt
theorem omap_block {W W' : World} {b n : Nat} {D : DataW Unit} (h : OMap W b n D) (e : W'.heap[b]? = W.heap[b]?) : OMap W' b n D := by
  obtain ⟨es, clock, h1, h2⟩ := h
  exact ⟨es, clock, e.trans h1, h2⟩
theorem SetM.within {W W' : World} {b n lo hi : Nat} {zs : List Int} (h : SetM W b n zs) (hw : Within lo hi W W') (hd : b < lo ∨ hi ≤ b) : SetM W' b n zs := by
  have hl := h.lt
  obtain ⟨D, h1, h2⟩ := h
  exact ⟨D, omap_block h1 (hw.block b hl hd), h2⟩
theorem saysS_nil : SaysS (.map []) [] := fun x => ⟨by simp [Maps.has], by simp [DataW.atKey]⟩
theorem SaysS.put {D : DataW Unit} {zs : List Int} (h : SaysS D zs) (hD : IsMap D) (z : Int) : SaysS (D.put (.int .i64 z) (.lit (.bool true))) (zs ++ [z]) := fun x => by
  by_cases e : x = z
  · subst e
    rw [has_put_same (k := .int .i64 x) hD trivial, atKey_put_same (k := .int .i64 x) hD trivial]
    simp
  · have hne : (Lit.int .i64 x) ≠ .int .i64 z := fun q => e (by cases q; rfl)
    rw [has_put_other hne, atKey_put_other hne, (h x).1, (h x).2]
    simp [e]
theorem SaysS.congr {D : DataW Unit} {zs ys : List Int} (h : SaysS D zs) (e : ∀ x, x ∈ zs ↔ x ∈ ys) : SaysS D ys := fun x => by
  rw [(h x).1, (h x).2, decide_eq_decide.2 (e x)]
  exact ⟨rfl, rfl⟩
theorem SaysS.del {D : DataW Unit} {zs : List Int} (h : SaysS D zs) (z : Int) : SaysS (D.del (.int .i64 z)) (zs.filter fun x => !decide (x = z)) := fun x => by
  by_cases e : x = z
  · subst e
    rw [has_del_same, atKey_del_same]
    simp
  · have hne : (Lit.int .i64 x) ≠ .int .i64 z := fun q => e (by cases q; rfl)
    rw [has_del_other hne, atKey_del_other hne, (h x).1, (h x).2]
    simp [e]
theorem within_grown {W W' : World} {g : Nat} (hg : W.grownBy W' (some g)) : Within g (g + 1) W W' := ⟨hg.os, hg.tape, hg.output, hg.size, fun j hj hd => hg.block j hj (by simp; omega)⟩
theorem within_none {W W' : World} (hg : W.grownBy W' none) : Within 0 0 W W' := ⟨hg.os, hg.tape, hg.output, hg.size, fun j hj _ => hg.block j hj (by simp)⟩
theorem orng_block {W W' : World} {b r n : Nat} {D : DataW Unit} {left : Lit → Bool} {cnt : Nat} (h : ORng W b r n D left cnt) (e1 : W'.heap[b]? = W.heap[b]?) (e2 : W'.heap[r]? = W.heap[r]?) : ORng W' b r n D left cnt := by
  obtain ⟨es, clock, since, seen, c0, hb, F, hs, hD, hr, rest⟩ := h
  exact ⟨es, clock, since, seen, c0, e1.trans hb, F, hs, hD, e2.trans hr, rest⟩
theorem bool_inv {P : Program} {e : TypeId} (he : P.underlying e = some .bool) {v : Value} {y : DataW Unit × List MemPlace} (h : plainElem P e v = some y) : ∃ c, v = .bool c := by
  unfold plainElem at h
  rw [he] at h
  cases v <;> simp at h
  exact ⟨_, rfl⟩
/-- What has been collected: the keys that are no longer to come. -/
def CollS (D : DataW Unit) (left : Lit → Bool) (ks : List Int) : Prop := ∀ x : Int, x ∈ ks ↔ ((Lit.int .i64 x).wf = true ∧ Maps.has D (.int .i64 x) = true ∧ left (.int .i64 x) = false)
theorem CollS.start (D : DataW Unit) : CollS D (Maps.has D) [] := fun x => by cases Maps.has D (.int .i64 x) <;> simp
theorem CollS.step {D : DataW Unit} {left : Lit → Bool} {ks : List Int} (h : CollS D left ks) {x : Int} {y : DataW Unit} (hw : (Lit.int .i64 x).wf = true) (hat : ∀ zd, D.atKey (.int .i64 x) zd = y) : CollS D (fun z => left z && !z.sameKey (.int .i64 x)) (ks ++ [x]) := by
  have hhas : Maps.has D (.int .i64 x) = true := has_true_of_atKey hat
  intro z
  by_cases e : z = x
  · subst e; simp [hhas, hw, Lit.sameKey]
  · simp [h z, e, Lit.sameKey]
theorem CollS.done {D : DataW Unit} {left : Lit → Bool} {ks zs : List Int} (h : CollS D left ks) (hs : SaysS D zs) (hl : ∀ kl, left kl = false) (n : Nat) (hn : n ≤ 1048576) (j : Nat) (hj : j < n) : (j : Int) ∈ ks ↔ (j : Int) ∈ zs := by
  rw [h (j : Int), (hs (j : Int)).1, hl]
  have hw : (Lit.int .i64 (j : Int)).wf = true := WalkArith.wf_i64 (by omega)
  simp [hw]
/-- Five values in a block. -/
def Cel5 (W : World) (b : Nat) (T : TypeId) (v0 v1 v2 v3 v4 : Value) : Prop := W.heap[b]? = some (.cells #[v0, v1, v2, v3, v4] T (0, 0))
section
variable {W W' : World} {b lo hi : Nat} {T : TypeId} {v0 v1 v2 v3 v4 : Value}
theorem Cel5.lt (h : Cel5 W b T v0 v1 v2 v3 v4) : b < W.heap.size := (Array.getElem?_eq_some_iff.1 h).1
theorem Cel5.cells (h : Cel5 W b T v0 v1 v2 v3 v4) : W.cell? ⟨b, 0, none⟩ = some v0 ∧ W.cell? ⟨b, 1, none⟩ = some v1 ∧ W.cell? ⟨b, 2, none⟩ = some v2 ∧ W.cell? ⟨b, 3, none⟩ = some v3 ∧ W.cell? ⟨b, 4, none⟩ = some v4 := by
  refine ⟨?_, ?_, ?_, ?_, ?_⟩
  · rw [cell_of_row W b 0 _ T (0, 0) h]; rfl
  · rw [cell_of_row W b 1 _ T (0, 0) h]; rfl
  · rw [cell_of_row W b 2 _ T (0, 0) h]; rfl
  · rw [cell_of_row W b 3 _ T (0, 0) h]; rfl
  · rw [cell_of_row W b 4 _ T (0, 0) h]; rfl
theorem Cel5.frozen (h : Cel5 W b T v0 v1 v2 v3 v4) : W.frozen? ⟨b, 0, none⟩ = false ∧ W.frozen? ⟨b, 1, none⟩ = false ∧ W.frozen? ⟨b, 2, none⟩ = false ∧ W.frozen? ⟨b, 3, none⟩ = false ∧ W.frozen? ⟨b, 4, none⟩ = false :=
  ⟨frozen_of_row W b 0 _ T h, frozen_of_row W b 1 _ T h, frozen_of_row W b 2 _ T h, frozen_of_row W b 3 _ T h, frozen_of_row W b 4 _ T h⟩
theorem Cel5.within (h : Cel5 W b T v0 v1 v2 v3 v4) (hw : Within lo hi W W') (hd : b < lo ∨ hi ≤ b) : Cel5 W' b T v0 v1 v2 v3 v4 := (hw.block b h.lt hd).trans h
theorem cel5_new (w : World) (v0 v1 v2 v3 v4 : Value) (T : TypeId) : Cel5 (w.alloc (.cells #[v0, v1, v2, v3, v4] T)) w.heap.size T v0 v1 v2 v3 v4 := heap_alloc_new w _
theorem ret5 (h : Cel5 W b T v0 v1 v2 v3 v4) (u0 u1 u2 u3 u4 : Value) : Cel5 (((((W.setCell ⟨b, 0, none⟩ u0).setCell ⟨b, 1, none⟩ u1).setCell ⟨b, 2, none⟩ u2).setCell ⟨b, 3, none⟩ u3).setCell ⟨b, 4, none⟩ u4) b T u0 u1 u2 u3 u4 ∧ Within b (b + 1) W (((((W.setCell ⟨b, 0, none⟩ u0).setCell ⟨b, 1, none⟩ u1).setCell ⟨b, 2, none⟩ u2).setCell ⟨b, 3, none⟩ u3).setCell ⟨b, 4, none⟩ u4) := by
  have h0 : Cel5 _ b T u0 v1 v2 v3 v4 := heap_setCell_same W b 0 _ T u0 h
  have h1 : Cel5 _ b T u0 u1 v2 v3 v4 := heap_setCell_same _ b 1 _ T u1 h0
  have h2 : Cel5 _ b T u0 u1 u2 v3 v4 := heap_setCell_same _ b 2 _ T u2 h1
  have h3 : Cel5 _ b T u0 u1 u2 u3 v4 := heap_setCell_same _ b 3 _ T u3 h2
  have h4 : Cel5 _ b T u0 u1 u2 u3 u4 := heap_setCell_same _ b 4 _ T u4 h3
  exact ⟨h4, ((((within_set W b 0 u0).trans (within_set _ b 1 u1)).trans (within_set _ b 2 u2)).trans (within_set _ b 3 u3)).trans (within_set _ b 4 u4)⟩
end
abbrev bsV (p : Int) (A : Option Addr) (n cap : Nat) (k c : Int) (b : Nat) : Value := .agg #[.int .i64 p, .slice A n cap, .int .i64 k, .int .i64 c, .map (some b)]
end Go.Proofs.Ytdnmmjaelgjkaaa
/- What ClosureOf answers, and what stands while it is collected. No program's walk. No condition. -/
namespace Go.Proofs.Ytdnmmjaelgjkaaa
open Go.RowKit

/-- The bars below n that leave the rank r as it is. -/
noncomputable def cloK (p k c : Int) (l : List (Int × Int)) (zs : List Int) (r : Int) : Nat → List Int
  | 0 => []
  | n + 1 => if rankSV p k c l (zs ++ [(n : Int)]) = r then cloK p k c l zs r n ++ [(n : Int)] else cloK p k c l zs r n
theorem cloK_len (p k c : Int) (l : List (Int × Int)) (zs : List Int) (r : Int) : ∀ n, (cloK p k c l zs r n).length ≤ n := by
  intro n
  induction n with
  | zero => exact Nat.le_refl _
  | succ n ih =>
    unfold cloK
    split
    · simp; omega
    · omega
theorem cloK_in {p k c : Int} {l : List (Int × Int)} {zs : List Int} {r : Int} {n : Nat} (h : rankSV p k c l (zs ++ [(n : Int)]) = r) : cloK p k c l zs r (n + 1) = cloK p k c l zs r n ++ [(n : Int)] := by rw [cloK, if_pos h]
theorem cloK_out {p k c : Int} {l : List (Int × Int)} {zs : List Int} {r : Int} {n : Nat} (h : ¬ rankSV p k c l (zs ++ [(n : Int)]) = r) : cloK p k c l zs r (n + 1) = cloK p k c l zs r n := by rw [cloK, if_neg h]
/-- What ClosureOf answers. -/
noncomputable def cloV (p k c : Int) (l : List (Int × Int)) (zs : List Int) : List Int := if (setB p l zs && rangeB k c) = true then cloK p k c l zs (rankSV p k c l zs) l.length else []
theorem cloV_len (p k c : Int) (l : List (Int × Int)) (zs : List Int) : (cloV p k c l zs).length ≤ l.length := by
  unfold cloV
  split
  · exact cloK_len _ _ _ _ _ _ _
  · simp
theorem cloV_no {p k c : Int} {l : List (Int × Int)} {zs : List Int} (h : setB p l zs = false ∨ rangeB k c = false) : cloV p k c l zs = [] := by
  unfold cloV
  rcases h with h | h <;> rw [h] <;> simp
theorem cloV_yes {p k c : Int} {l : List (Int × Int)} {zs : List Int} (h : setB p l zs = true) (h2 : rangeB k c = true) : cloV p k c l zs = cloK p k c l zs (rankSV p k c l zs) l.length := by unfold cloV; rw [h, h2]; rfl
theorem GrowP.below {a b : Nat} {V W W' : World} {ys : List Int} {A : Option Addr} {cap lo hi : Nat} (h : GrowP a b V W ys A cap lo hi) (hb : Below W.heap.size W W') : GrowP a b V W' ys A cap lo hi :=
  ⟨h.row.within (within_of hb) (.inr (Nat.zero_le _)), h.rng, Nat.le_trans h.le hb.size, ⟨hb.os.trans h.wi.os, hb.tape.trans h.wi.tape, hb.output.trans h.wi.output, Nat.le_trans h.wi.size hb.size, fun i hi hd => (hb.block i (Nat.lt_of_lt_of_le hi h.wi.size)).trans (h.wi.block i hi hd)⟩⟩
/-- A row that is collected beside a block b that is written. -/
structure GrowQ (b : Nat) (V W : World) (ys : List Int) (A : Option Addr) (cap lo hi : Nat) : Prop where
  row : OwnR W lo hi A cap ys
  ge : V.heap.size ≤ lo
  le : lo ≤ W.heap.size
  wi : Within b (b + 1) V W
theorem GrowQ.map {b : Nat} {V W W' : World} {ys : List Int} {A : Option Addr} {cap lo hi : Nat} (h : GrowQ b V W ys A cap lo hi) (hw : Within b (b + 1) W W') (hb : b < V.heap.size) : GrowQ b V W' ys A cap lo hi :=
  ⟨h.row.within hw (.inr (by have := h.ge; omega)), h.ge, Nat.le_trans h.le hw.size, h.wi.trans hw⟩
theorem GrowQ.push {b : Nat} {V W W' : World} {ys : List Int} {y : Int} {A A' : Option Addr} {cap lo hi c' lo' hi' : Nat} (h : GrowQ b V W ys A cap lo hi) (hr : OwnR W' lo' hi' A' c' (ys ++ [y])) (hd : (lo' = lo ∧ hi' = hi) ∨ (W.heap.size ≤ lo' ∧ lo' ≤ W'.heap.size ∧ hi' ≤ W'.heap.size)) (hw : Within lo hi W W') : GrowQ b V W' (ys ++ [y]) A' c' lo' hi' := by
  obtain ⟨_, h2, h3, h4⟩ := h
  have s1 := h4.size
  have s2 := hw.size
  refine ⟨hr, ?_, ?_, ⟨hw.os.trans h4.os, hw.tape.trans h4.tape, hw.output.trans h4.output, Nat.le_trans s1 s2, fun i hi hd => (hw.block i (by omega) (by omega)).trans (h4.block i hi hd)⟩⟩
  · rcases hd with ⟨rfl, rfl⟩ | hd
    · exact h2
    · omega
  · rcases hd with ⟨rfl, rfl⟩ | hd
    · omega
    · exact hd.2.1
end Go.Proofs.Ytdnmmjaelgjkaaa
/- What spec.CircuitOf answers. No condition. -/
namespace Go.Proofs.Ytdnmmjaelgjkaaa
open Go.RowKit

theorem own_one (W : World) (x : Int) (lo : Nat) (h : lo ≤ W.heap.size) : OwnInts (W.alloc (.cells #[.int .i64 x] 3)) lo (W.alloc (.cells #[.int .i64 x] 3)).heap.size (some ⟨W.heap.size, 0, none⟩) 1 [x] := by
  exact ⟨Nat.le_refl _, .inr ⟨W.heap.size, rfl, h, by simp, heap_own (xs := [.int .i64 x]) (heap_alloc_new W _) rfl h (by simp [maxLen])⟩⟩
/-- The circuit's first bars, and x. -/
noncomputable def ciX (p k c : Int) (l : List (Int × Int)) (x : Int) (j : Nat) : List Int := ciK p k c l x j ++ [x]
theorem ciX_len (p k c : Int) (l : List (Int × Int)) (x : Int) (j : Nat) : (ciX p k c l x j).length ≤ j + 1 := by
  have := ciK_len p k c l x j
  unfold ciX
  simp
  omega
theorem ciX_zero (p k c : Int) (l : List (Int × Int)) (x : Int) : ciX p k c l x 0 = [x] := by simp [ciX, ciK]
theorem cell_ltB {W : World} {a : Addr} {v : Value} (h : W.cell? a = some v) : a.block < W.heap.size := by
  by_cases e : a.block < W.heap.size
  · exact e
  · exfalso
    unfold World.cell? at h
    rw [Array.getElem?_eq_none (by omega)] at h
    simp at h
theorem befL_step (Z : List Int) (x : Int) (j : Nat) (hj : j < Z.length) : befL (Z.take (j + 1)) x = if Z.getD j 0 < x then befL (Z.take j) x ++ [Z.getD j 0] else befL (Z.take j) x := by
  unfold befL
  rw [List.take_succ_eq_append_getElem hj, List.filter_append]
  have e : Z.getD j 0 = Z[j] := by simp [List.getD, List.getElem?_eq_getElem hj]
  rw [e]
  by_cases h : Z[j] < x
  · rw [if_pos h]; simp [h]
  · rw [if_neg h]; simp [h]
theorem OwnInts.grow {W W' : World} {lo : Nat} {A : Option Addr} {cap : Nat} {zs : List Int} (h : OwnInts W lo W.heap.size A cap zs) (hb : Below W.heap.size W W') : OwnInts W' lo W'.heap.size A cap zs :=
  (h.within (within_of hb) (.inr (Nat.zero_le _))).widen (Nat.le_refl _) hb.size (Nat.le_refl _)
set_option maxHeartbeats 6000000 in
set_option maxRecDepth 100000 in
theorem specCi (p k c x : Int) (l : List (Int × Int)) (A : Option Addr) (cap : Nat) (w : World) (hl : BarsAt w w.heap.size A l) (hn : l.length ≤ 1048576) :
    Calls Try.prog 35 #[.agg #[.int .i64 p, .slice A l.length cap], .int .i64 k, .int .i64 c, .int .i64 x] w (IntsOB w (ciV p k c l x) (ciB p k c l x)) := by
  have HREJ : ∀ W : World, BarsAt W W.heap.size A l → Calls Try.prog 62 #[.agg #[.int .i64 p, .slice A l.length cap], .int .i64 k, .int .i64 c] W (IntsO W (rejV p k c l)) := fun W h => specRej p k c l A cap W h hn
  have hrl : (rejV p k c l).length ≤ 1048576 := Nat.le_trans (rejV_len p k c l) hn
  cases hq : ciB p k c l x with
  | false =>
    have HV := Lib.hid (ciV_no hq)
    have HD := Lib.hid (show decide (x ∈ rejV p k c l) = false from hq)
    clear hq
    have W0 := Lib.hid (Below.refl w.heap.size w)
    have HB_0 := Lib.hid (bars_in hl)
    clear hl
    have Z1 := Lib.hid (within_alloc w (.cells #[.int .i64 p, (.slice A l.length cap)] 29)).size
    have W1 := Lib.hid (within_on W0.out (within_alloc w (.cells #[.int .i64 p, (.slice A l.length cap)] 29)) W0.out.size (.inr (Nat.le_refl _)))
    have HB_1 := Lib.hid (HB_0.out.within (within_alloc w (.cells #[.int .i64 p, (.slice A l.length cap)] 29)) (by omega))
    have Y1 := Lib.hid (show (w.alloc (.cells #[.int .i64 p, (.slice A l.length cap)] 29)).heap.size = w.heap.size + 1 by simp)
    have hnew := box_new w p (.slice A l.length cap) 29
    have BX_1 := Lib.hid hnew
    clear hnew
    go_enter Try.func35, Try.ntmps35
    obtain ⟨g0_0, g0_1, g0_2⟩ := BX_1.out
    go_wp2_with fail
    clear g0_0 g0_1 g0_2
    generalize (w.alloc (.cells #[.int .i64 p, (.slice A l.length cap)] 29)) = w1 at *
    refine (HREJ _ HB_1.out.at).mono ?_
    rintro e w2 ⟨AR, cR, rfl, ho, hb⟩
    have Z2 := Lib.hid (within_of hb).size
    have W2 := Lib.hid (within_on W1.out (within_of hb) W1.out.size (.inr (Nat.le_refl _)))
    have HB_2 := Lib.hid (HB_1.out.within (within_of hb) (by omega))
    have BX_2 := Lib.hid (BX_1.out.within (within_of hb) (by omega))
    have RJ_2 := Lib.hid (ho.reads)
    clear ho hb HREJ
    go_wp2_with fail
    refine (has_c (rejV p k c l) x AR cR _ _ _ RJ_2.out hrl).mono ?_
    rintro e w9 ⟨rfl, rfl⟩
    rw [HD.out]
    have Z3 := Lib.hid (within_alloc w2 (.cells #[] 3)).size
    have W3 := Lib.hid (within_on W2.out (within_alloc w2 (.cells #[] 3)) W2.out.size (.inr (Nat.le_refl _)))
    have HB_3 := Lib.hid (HB_2.out.within (within_alloc w2 (.cells #[] 3)) (by omega))
    have BX_3 := Lib.hid (BX_2.out.within (within_alloc w2 (.cells #[] 3)) (by omega))
    have RJ_3 := Lib.hid (RJ_2.out.within (within_alloc w2 (.cells #[] 3)) (by omega))
    have Y3 := Lib.hid (show (w2.alloc (.cells #[] 3)).heap.size = w2.heap.size + 1 by simp)
    have hcs := trivial
    go_wp2_with fail
    generalize (w2.alloc (.cells #[] 3)) = w3 at *
    go_ret2
    exact ⟨some ⟨w2.heap.size, 0, none⟩, 0, by rw [HV.out]; rfl, by rw [HV.out]; exact ⟨Nat.le_refl _, .inl rfl⟩, W3.out⟩
  | true =>
    have HF := Lib.hid (ciF hq)
    have HD := Lib.hid (show decide (x ∈ rejV p k c l) = true from hq)
    have HACC : ∀ W : World, BarsAt W W.heap.size A l → Calls Try.prog 61 #[.agg #[.int .i64 p, .slice A l.length cap], .int .i64 k, .int .i64 c] W (IntsO W (runV p k c l).2.2) := fun W h => specAcc p k c l A cap W h hn
    have hz24 := (runV_len p k c l).2.2
    have HB24 := Lib.hid (befV_len p k c l x)
    clear hq
    have W0 := Lib.hid (Below.refl w.heap.size w)
    have HB_0 := Lib.hid (bars_in hl)
    clear hl
    have Z1 := Lib.hid (within_alloc w (.cells #[.int .i64 p, (.slice A l.length cap)] 29)).size
    have W1 := Lib.hid (within_on W0.out (within_alloc w (.cells #[.int .i64 p, (.slice A l.length cap)] 29)) W0.out.size (.inr (Nat.le_refl _)))
    have HB_1 := Lib.hid (HB_0.out.within (within_alloc w (.cells #[.int .i64 p, (.slice A l.length cap)] 29)) (by omega))
    have Y1 := Lib.hid (show (w.alloc (.cells #[.int .i64 p, (.slice A l.length cap)] 29)).heap.size = w.heap.size + 1 by simp)
    have hnew := box_new w p (.slice A l.length cap) 29
    have BX_1 := Lib.hid hnew
    clear hnew
    go_enter Try.func35, Try.ntmps35
    obtain ⟨g0_0, g0_1, g0_2⟩ := BX_1.out
    go_wp2_with fail
    clear g0_0 g0_1 g0_2
    generalize (w.alloc (.cells #[.int .i64 p, (.slice A l.length cap)] 29)) = w1 at *
    refine (HREJ _ HB_1.out.at).mono ?_
    rintro e w2 ⟨AR, cR, rfl, ho, hb⟩
    have Z2 := Lib.hid (within_of hb).size
    have W2 := Lib.hid (within_on W1.out (within_of hb) W1.out.size (.inr (Nat.le_refl _)))
    have HB_2 := Lib.hid (HB_1.out.within (within_of hb) (by omega))
    have BX_2 := Lib.hid (BX_1.out.within (within_of hb) (by omega))
    have RJ_2 := Lib.hid (ho.reads)
    clear ho hb HREJ
    go_wp2_with fail
    refine (has_c (rejV p k c l) x AR cR _ _ _ RJ_2.out hrl).mono ?_
    rintro e w9 ⟨rfl, rfl⟩
    rw [HD.out]
    have Z3 := Lib.hid (within_alloc w2 (.cells #[] 3)).size
    have W3 := Lib.hid (within_on W2.out (within_alloc w2 (.cells #[] 3)) W2.out.size (.inr (Nat.le_refl _)))
    have HB_3 := Lib.hid (HB_2.out.within (within_alloc w2 (.cells #[] 3)) (by omega))
    have BX_3 := Lib.hid (BX_2.out.within (within_alloc w2 (.cells #[] 3)) (by omega))
    have RJ_3 := Lib.hid (RJ_2.out.within (within_alloc w2 (.cells #[] 3)) (by omega))
    have Y3 := Lib.hid (show (w2.alloc (.cells #[] 3)).heap.size = w2.heap.size + 1 by simp)
    have hown := ownR_empty w2
    have OE_3 := Lib.hid hown
    clear hown
    obtain ⟨g1_0, g1_1, g1_2⟩ := BX_3.out
    go_wp2_with fail
    clear g1_0 g1_1 g1_2
    generalize (w2.alloc (.cells #[] 3)) = w3 at *
    refine (HACC _ HB_3.out.at).mono ?_
    rintro e w4 ⟨AZ, cZ, rfl, ho, hb⟩
    have Z4 := Lib.hid (within_of hb).size
    have W4 := Lib.hid (within_on W3.out (within_of hb) W3.out.size (.inr (Nat.le_refl _)))
    have HB_4 := Lib.hid (HB_3.out.within (within_of hb) (by omega))
    have BX_4 := Lib.hid (BX_3.out.within (within_of hb) (by omega))
    have RJ_4 := Lib.hid (RJ_3.out.within (within_of hb) (by omega))
    have OE_4 := Lib.hid (OE_3.out.within (within_of hb) (by omega))
    have ZR_4 := Lib.hid (ho.reads)
    clear ho hb HACC
    obtain ⟨Z, hZ⟩ : ∃ Z, (runV p k c l).2.2 = Z := ⟨_, rfl⟩
    have HBV := Lib.hid (show befV p k c l x = befL Z x from by unfold befV; rw [hZ])
    rw [hZ] at ZR_4 hz24 ⊢
    clear hZ
    go_wp2_with fail
    have hws : w.heap.size < w2.heap.size := by have := BX_1.out.1; have := Z1.out; have := Z2.out; have := Z3.out; have := Z4.out; omega
    have HWS := Lib.hid hws
    clear hws
    have HG0 := Lib.hid (show GrowP w2.heap.size (w2.heap.size + 1) w4 w4 (befL (Z.take 0) x) (some ⟨w2.heap.size, 0, none⟩) 0 w2.heap.size (w2.heap.size + 1) from ⟨OE_4.out, .inl ⟨rfl, rfl⟩, (by have := Z1.out; have := Z2.out; have := Z3.out; have := Z4.out; have := Y1.out; have := Y3.out; omega), Within.refl _ _ _⟩)
    go_loopw [10, 12] (fun u i wr => ∃ j : Nat, j ≤ Z.length ∧ i = .int .i64 j ∧ ∃ Ao co lo2 hi2, u = .slice Ao (befL (Z.take j) x).length co ∧ GrowP w2.heap.size (w2.heap.size + 1) w4 wr (befL (Z.take j) x) Ao co lo2 hi2) (fun _ i _ => Z.length - (intOf i).toNat)
    case atStart => exact ⟨0, Nat.zero_le _, rfl, _, 0, _, _, rfl, HG0.out⟩
    case round =>
      obtain ⟨j, hj, rfl, Ao, co, lo2, hi2, rfl, hg⟩ := hrel
      have HG := Lib.hid hg
      have hcl : (befL (Z.take j) x).length ≤ 24 := Nat.le_trans (List.length_filter_le _ _) (by rw [List.length_take]; omega)
      have HCL := Lib.hid hcl
      clear hcl
      by_cases hlt : j < Z.length
      · have hji : (j : Int) < (Z.length : Int) := by omega
        obtain ⟨zb, zo, rfl, hzc⟩ := row_at (ZR_4.out.within hg.wi (by have := Z1.out; have := Z2.out; have := Z3.out; have := Z4.out; have := Y1.out; have := Y3.out; omega)) (by omega)
        have hz := hzc j hlt
        have HST := Lib.hid (befL_step Z x j hlt)
        obtain ⟨y, hy⟩ : ∃ y, Z.getD j 0 = y := ⟨_, rfl⟩
        rw [hy] at hz HST
        clear hzc hg hy
        by_cases c9 : y < x
        · have HN := Lib.hid (HST.out.trans (if_pos c9))
          go_wp2_with (at_builtin; refine wpList_pushR _ rfl _ _ rfl lo2 hi2 Ao co (befL (Z.take j) x) y rfl HG.out.row _ (by first | rfl | (simp only [World.size_setCell]; rfl)) (by have := HCL.out; omega) HG.out.le ?_; intro A6 c6 w16 lo6 hi6 hr6 hor6 hw6; have HG6 := Lib.hid (HG.out.push hr6 hor6 hw6); clear hr6 hor6 hw6)
          go_roundw
          case rel => exact ⟨j + 1, by omega, by go_num, A6, c6, lo6, hi6, by rw [HN.out]; simp, by rw [HN.out]; exact HG6.out⟩
          case measure => simp [intOf]; omega
        · have HN := Lib.hid (HST.out.trans (if_neg c9))
          go_wp2_with fail
          go_roundw
          case rel => exact ⟨j + 1, by omega, by go_num, Ao, co, lo2, hi2, by rw [HN.out], by rw [HN.out]; exact HG.out⟩
          case measure => simp [intOf]; omega
      · obtain rfl : j = Z.length := by omega
        have hbv : befL (Z.take Z.length) x = befV p k c l x := by rw [List.take_length, HBV.out]
        rw [hbv] at HG ⊢
        obtain ⟨B, hB⟩ : ∃ B, befV p k c l x = B := ⟨_, rfl⟩
        have HF2 := HF.out
        have hb24 := HB24.out
        rw [hB] at HG hb24 ⊢
        have HLOW := Lib.hid (show ∀ y ∈ B, y < x from by rw [← hB]; exact HF2.low)
        have HSET := Lib.hid (show setB p l (B ++ [x]) = true from by rw [← hB]; exact HF2.set)
        obtain ⟨F, hF⟩ : ∃ F, B ++ [x] = F := ⟨_, rfl⟩
        have HFF := Lib.hid hF
        have HMID := Lib.hid (fun (j : Nat) (hj : j < B.length) (h : indB p k c l (woL F (B.getD j 0)) = true) => (show wiL (ciX p k c l x j) (B.getD j 0) = ciX p k c l x (j + 1) from by subst hF; subst hB; unfold ciX; rw [HF2.mid j hj, ciK_in hj h]))
        have HOUT := Lib.hid (fun (j : Nat) (hj : j < B.length) (h : indB p k c l (woL F (B.getD j 0)) = false) => (show ciX p k c l x (j + 1) = ciX p k c l x j from by subst hF; subst hB; unfold ciX; rw [ciK_out hj h]))
        have HVAL := Lib.hid (show ciV p k c l x = ciX p k c l x B.length from by rw [← hB]; exact HF2.val)
        clear hB hbv HF2 hF
        have hgw := HG.out.wi
        have hbel : Below w.heap.size w wr := within_on W4.out hgw W4.out.size (.inl (Nat.le_of_lt HWS.out))
        have HBEL := Lib.hid hbel
        have HBW := Lib.hid (HB_4.out.within hgw (.inl (Nat.le_of_lt HWS.out)))
        have HBXW := Lib.hid (BX_4.out.within hgw (.inl HWS.out))
        have HBI := Lib.hid (HG.out.row.ints.reads)
        have HRH := Lib.hid (show hi2 ≤ wr.heap.size from HG.out.row.1)
        clear hgw hbel
        have hal := new_below wr (.cells #[.int .i64 x] 3)
        have HAL := Lib.hid hal
        have ho1 : OwnInts (wr.alloc (.cells #[.int .i64 x] 3)) w.heap.size (wr.alloc (.cells #[.int .i64 x] 3)).heap.size (some ⟨wr.heap.size, 0, none⟩) 1 [x] := own_one wr x w.heap.size HBEL.out.size
        have HO1 := Lib.hid ho1
        clear hal ho1
        have HBIA := Lib.hid (HBI.out.within (within_of HAL.out) (.inr (Nat.zero_le _)))
        go_wp2_with fail
        generalize (wr.alloc (.cells #[.int .i64 x] 3)) = wa at *
        refine (wi_c B x Ao co lo2 hi2 _ HBIA.out (by omega)).mono ?_
        rintro e wb ⟨AF, cF, rfl, hof, hb⟩
        rw [wiL_end HLOW.out, HFF.out] at hof ⊢
        have HFU := Lib.hid hof.reads
        have hbB := below_on (below_on HBEL.out HAL.out HBEL.out.size) hb (Nat.le_trans HBEL.out.size HAL.out.size)
        have HBB := Lib.hid hbB
        have HO2 := Lib.hid (HO1.out.grow hb)
        have HBJ := Lib.hid ((HBIA.out.within (within_of hb) (.inr (Nat.zero_le _))))
        have HBX2 := Lib.hid ((HBXW.out.kept HAL.out).kept hb)
        have HBR := Lib.hid ((HBW.out.within (within_of HAL.out) (.inr (Nat.zero_le _))).within (within_of hb) (.inr (Nat.zero_le _)))
        clear hof hb hbB
        go_wp2_with fail
        go_loopw [13, 15] (fun u i wr => ∃ j : Nat, j ≤ B.length ∧ i = .int .i64 j ∧ ∃ Aq cq, u = .slice Aq (ciX p k c l x j).length cq ∧ OwnInts wr w.heap.size wr.heap.size Aq cq (ciX p k c l x j) ∧ Below wb.heap.size wb wr) (fun _ i _ => B.length - (intOf i).toNat)
        case atStart => exact ⟨0, Nat.zero_le _, rfl, _, 1, by rw [ciX_zero]; rfl, by rw [ciX_zero]; exact HO2.out, Below.refl _ _⟩
        case round =>
          obtain ⟨j, hj, rfl, Aq, cq, rfl, hoq, hbq⟩ := hrel
          have HOQ := Lib.hid hoq
          have HBQ := Lib.hid hbq
          have hkl := ciX_len p k c l x j
          have HKL := Lib.hid (show (ciX p k c l x j).length ≤ 25 from by omega)
          clear hoq hkl
          by_cases hlt : j < B.length
          · have hji : (j : Int) < (B.length : Int) := by omega
            have hbi := HBJ.out.within (within_of hbq) (.inr (Nat.zero_le _))
            obtain ⟨zb, zo, rfl, hzc⟩ := row_at hbi (by omega)
            have hz := hzc j hlt
            have hzlt := cell_ltB hz
            have hbx3 := HBX2.out.kept hbq
            obtain ⟨hxlt, g1, g2⟩ := hbx3
            have hdr : Below wr.heap.size wr wr.drew := (Below.refl _ _).drew
            have HDR := Lib.hid hdr
            have HB8 := Lib.hid ((HBR.out.within (within_of hbq) (.inr (Nat.zero_le _))).within (within_of hdr) (.inr (Nat.zero_le _)))
            have HFU8 := Lib.hid ((HFU.out.within (within_of hbq) (.inr (Nat.zero_le _))).within (within_of hdr) (.inr (Nat.zero_le _)))
            have HOUTJ := Lib.hid (HOUT.out j hlt)
            have HMJ := Lib.hid (HMID.out j hlt)
            obtain ⟨z, hzd⟩ : ∃ z, B.getD j 0 = z := ⟨_, rfl⟩
            rw [hzd] at hz HOUTJ HMJ
            have HKK := Lib.hid (show (fun W' => (W'.cell? ⟨w.heap.size, 0, none⟩ = some (.int .i64 p) ∧ W'.cell? ⟨w.heap.size, 1, none⟩ = some (.slice A l.length cap)) ∧ W'.cell? ⟨zb, zo + j, none⟩ = some (.int .i64 z)) wr from ⟨⟨g1, g2⟩, hz⟩)
            have HKB := Lib.hid (fun (W' : World) (h : Below wr.heap.size wr W') => show (fun W' => (W'.cell? ⟨w.heap.size, 0, none⟩ = some (.int .i64 p) ∧ W'.cell? ⟨w.heap.size, 1, none⟩ = some (.slice A l.length cap)) ∧ W'.cell? ⟨zb, zo + j, none⟩ = some (.int .i64 z)) W' from ⟨⟨(h.cell (p := ⟨w.heap.size, 0, none⟩) hxlt).trans g1, (h.cell (p := ⟨w.heap.size, 1, none⟩) hxlt).trans g2⟩, (h.cell (p := ⟨zb, zo + j, none⟩) hzlt).trans hz⟩)
            have HWL := Lib.hid (show (woL F z).length ≤ 1048576 from by unfold woL; exact Nat.le_trans (List.length_filter_le _ _) (by rw [← HFF.out]; simp; omega))
            have hfl : F.length ≤ 1048576 := by rw [← HFF.out]; simp; omega
            clear hzd hzc hbi hdr hxlt hzlt hbq
            cases hi8 : indB p k c l (woL F z) with
            | false =>
              have HI := Lib.hid hi8
              have HN := Lib.hid (HOUTJ.out hi8)
              clear hi8
              go_wp2_with fail
              go_region_held3 (fun W' => (W'.cell? ⟨w.heap.size, 0, none⟩ = some (.int .i64 p) ∧ W'.cell? ⟨w.heap.size, 1, none⟩ = some (.slice A l.length cap)) ∧ W'.cell? ⟨zb, zo + j, none⟩ = some (.int .i64 z))
                (first | exact HKK.out | exact HKB.out _ HDR.out | exact HKB.out _ HB5.out | exact HKB.out _ HB6.out | fail)
                (first
                  | (go_at_call 49; refine (specInd p k c l (woL F z) A A2 cap c2 _ _ _ ?_ HO5.out hn HWL.out).mono ?_; (exact HB9.out.at); rintro e w6 ⟨rfl, hb⟩; rw [HI.out]; have HB6 := Lib.hid (below_on HB5.out hb HB5.out.size); clear hb)
                  | (go_at_call 95; refine (wo_c F z AF cF _ _ _ HFU8.out hfl).mono ?_; rintro e w5 ⟨A2, c2, rfl, ho, hb⟩; have HB5 := Lib.hid (below_on HDR.out hb HDR.out.size); have HB9 := Lib.hid (HB8.out.within (within_of hb) (.inr (Nat.zero_le _))); have HO5 := Lib.hid ho.reads; clear ho hb))
              go_wp2_with fail
              go_roundw
              case rel => exact ⟨j + 1, by omega, by go_num, Aq, cq, by rw [HN.out], by rw [HN.out]; exact HOQ.out.grow HB6.out, below_on HBQ.out HB6.out HBQ.out.size⟩
              case measure => simp [intOf]; omega
            | true =>
              have HI := Lib.hid hi8
              have HMK := Lib.hid (HMJ.out hi8)
              clear hi8
              go_wp2_with fail
              go_region_held3 (fun W' => (W'.cell? ⟨w.heap.size, 0, none⟩ = some (.int .i64 p) ∧ W'.cell? ⟨w.heap.size, 1, none⟩ = some (.slice A l.length cap)) ∧ W'.cell? ⟨zb, zo + j, none⟩ = some (.int .i64 z))
                (first | exact HKK.out | exact HKB.out _ HDR.out | exact HKB.out _ HB5.out | exact HKB.out _ HB6.out | fail)
                (first
                  | (go_at_call 49; refine (specInd p k c l (woL F z) A A2 cap c2 _ _ _ ?_ HO5.out hn HWL.out).mono ?_; (exact HB9.out.at); rintro e w6 ⟨rfl, hb⟩; rw [HI.out]; have HB6 := Lib.hid (below_on HB5.out hb HB5.out.size); clear hb)
                  | (go_at_call 95; refine (wo_c F z AF cF _ _ _ HFU8.out hfl).mono ?_; rintro e w5 ⟨A2, c2, rfl, ho, hb⟩; have HB5 := Lib.hid (below_on HDR.out hb HDR.out.size); have HB9 := Lib.hid (HB8.out.within (within_of hb) (.inr (Nat.zero_le _))); have HO5 := Lib.hid ho.reads; clear ho hb))
              have hk6 := HKB.out _ HB6.out
              have hz6 := hk6.2
              have HO6 := Lib.hid (HOQ.out.grow HB6.out)
              clear hk6
              go_wp2_with fail
              refine (wi_c (ciX p k c l x j) z Aq cq _ _ _ HO6.out.reads (by have := HKL.out; omega)).mono ?_
              rintro e w7 ⟨A7, c7, rfl, ho7, hb7⟩
              rw [HMK.out] at ho7 ⊢
              have HO7 := Lib.hid (ho7.widen (Nat.le_trans HBB.out.size (Nat.le_trans HBQ.out.size HB6.out.size)) (Nat.le_refl _) (Nat.le_refl _))
              have HB7 := Lib.hid (below_on (below_on HBQ.out HB6.out HBQ.out.size) hb7 (Nat.le_trans HBQ.out.size HB6.out.size))
              clear ho7 hb7 hz6
              go_wp2_with fail
              go_roundw
              case rel => exact ⟨j + 1, by omega, by go_num, A7, c7, rfl, HO7.out, HB7.out⟩
              case measure => simp [intOf]; omega
          · obtain rfl : j = B.length := by omega
            go_wp2_with fail
            go_ret2
            rw [HVAL.out]
            exact ⟨Aq, cq, rfl, HOQ.out, below_on HBB.out HBQ.out HBB.out.size⟩
end Go.Proofs.Ytdnmmjaelgjkaaa
/- What isBarSet answers. No condition. -/
namespace Go.Proofs.Ytdnmmjaelgjkaaa
open Go.RowKit

set_option maxHeartbeats 2000000 in
set_option maxRecDepth 100000 in
theorem isBarSet_c (p : Int) (l : List (Int × Int)) (A AZ : Option Addr) (cap cZ lo hi : Nat) (Z : List Int) (w : World) (hl : BarsAt w w.heap.size A l) (hz : IntsIn w lo hi AZ Z) (hn : l.length ≤ 1048576) (hZ : Z.length ≤ 1048576) :
    Calls Try.prog 119 #[.agg #[.int .i64 p, .slice A l.length cap], .slice AZ Z.length cZ] w fun e w' => e = .returned (.bool (setB p l Z)) ∧ Below w.heap.size w w' := by
  have hA := new_below w (.cells #[.int .i64 p, .slice A l.length cap] 29)
  have HA := Lib.hid hA
  have HL := Lib.hid ((bars_in hl).within (within_of hA) (.inr (Nat.zero_le _)))
  have HZ := Lib.hid (hz.within (within_of hA) (.inr (Nat.zero_le _)))
  have BX := Lib.hid (box_new w p (.slice A l.length cap) 29)
  clear hl hz hA
  go_enter Try.func119, Try.ntmps119
  go_wp2_with fail
  generalize (w.alloc (.cells #[.int .i64 p, .slice A l.length cap] 29)) = w1 at *
  go_loopw [5, 10] (fun la i wr => ∃ j : Nat, j ≤ Z.length ∧ i = .int .i64 j ∧ la = .int .i64 (lastP Z j) ∧ (∀ u, u < j → OkS l.length Z u) ∧ Below w1.heap.size w1 wr) (fun _ i _ => Z.length - (intOf i).toNat)
  case atStart => exact ⟨0, Nat.zero_le _, rfl, rfl, fun u hu => absurd hu (Nat.not_lt_zero _), Below.refl _ _⟩
  case round =>
    obtain ⟨j, hj, rfl, rfl, hok, hb⟩ := hrel
    have HB := Lib.hid hb
    have HOK := Lib.hid hok
    have BX1 := Lib.hid (BX.out.kept hb)
    obtain ⟨_, g0, g1⟩ := BX1.out
    by_cases hlt : j < Z.length
    · have hji : (j : Int) < (Z.length : Int) := by omega
      obtain ⟨b, off, rfl, hzc⟩ := row_at (HZ.out.within (within_of hb) (.inr (Nat.zero_le _))) (by omega)
      have hz := hzc j hlt
      have HLO := Lib.hid (lastP_ok hok)
      have HBAD := Lib.hid (fun h : ¬ OkS l.length Z j => setB_bad (p := p) hlt h)
      have HLN := Lib.hid (lastP_s Z j)
      clear hb hok hzc
      obtain ⟨y, hyd⟩ : ∃ y, Z.getD j 0 = y := ⟨_, rfl⟩
      obtain ⟨la, hla⟩ : ∃ la, lastP Z j = la := ⟨_, rfl⟩
      rw [hyd] at hz HLO HLN
      rw [hla] at HLO ⊢
      clear hyd hla
      by_cases c1 : y ≤ la
      · have Q := Lib.hid (HBAD.out fun h => by have := HLO.out.1 h; omega)
        have d1 : decide (y ≤ la) = true := by simpa using c1
        go_wp2_with fail
        go_ret
        exact ⟨by rw [Q.out]; rfl, below_on HA.out HB.out HA.out.size⟩
      · have d1 : decide (y ≤ la) = false := by simpa using c1
        by_cases c2 : (l.length : Int) ≤ y
        · have Q := Lib.hid (HBAD.out fun h => by have := HLO.out.1 h; omega)
          go_wp2_with fail
          go_ret
          exact ⟨by rw [Q.out]; rfl, below_on HA.out HB.out HA.out.size⟩
        · have HN := Lib.hid (okS_snoc HOK.out (HLO.out.2 ⟨by omega, by omega⟩))
          go_wp2_with fail
          go_roundw
          case rel => exact ⟨j + 1, by omega, by go_num, by rw [HLN.out], HN.out, HB.out⟩
          case measure => simp [intOf]; omega
    · obtain rfl : j = Z.length := by omega
      have HL1 := Lib.hid (HL.out.within (within_of hb) (.inr (Nat.zero_le _)))
      have HQ := Lib.hid (setB_all (p := p) HOK.out)
      clear hb hok
      go_wp2_with fail
      refine (implIsGraph p l A cap _ HL1.out.at hn).mono ?_
      rintro e w2 ⟨rfl, hb⟩
      have HB2 := Lib.hid (below_on (below_on HA.out HB.out HA.out.size) hb (by have := HA.out.size; have := HB.out.size; omega))
      clear hb
      go_wp2_with fail
      go_ret
      exact ⟨by rw [HQ.out]; rfl, HB2.out⟩
end Go.Proofs.Ytdnmmjaelgjkaaa
/- What impl.newBarSet answers. No condition. -/
namespace Go.Proofs.Ytdnmmjaelgjkaaa
open Go.RowKit

open Go.Maps

theorem IntsIn.at_on {w W V : World} {lo hi g h : Nat} {A : Option Addr} {zs : List Int} (hz : IntsIn w lo hi A zs) (hb : Below w.heap.size w W) (hw : Within g h W V) (hg : w.heap.size ≤ g) : IntsIn V lo hi A zs :=
  (hz.within (show Within w.heap.size W.heap.size w W from ⟨hb.os, hb.tape, hb.output, hb.size, fun k hk _ => hb.block k hk⟩) (.inl hz.1)).within hw (.inl (Nat.le_trans hz.1 hg))
set_option maxHeartbeats 4000000 in
set_option maxRecDepth 100000 in
theorem newSet_no (p k c : Int) (l : List (Int × Int)) (zs : List Int) (A Z : Option Addr) (cap cz lo hi : Nat) (w : World) (hl : BarsAt w w.heap.size A l) (hz : IntsIn w lo hi Z zs) (hn : l.length ≤ 1048576) (hnz : zs.length ≤ 1048576) (hbad : setB p l zs = false ∨ rangeB k c = false) :
    Calls Try.prog 98 #[.agg #[.int .i64 p, .slice A l.length cap], .int .i64 k, .int .i64 c, .slice Z zs.length cz] w fun e w' => e = .returned (.tuple #[.agg #[.int .i64 0, .slice none 0 0, .int .i64 0, .int .i64 0, .map none], .bool false]) ∧ Below w.heap.size w w' := by
  have HSET : ∀ W : World, BarsAt W W.heap.size A l → ∀ lo hi, IntsIn W lo hi Z zs → Calls Try.prog 119 #[.agg #[.int .i64 p, .slice A l.length cap], .slice Z zs.length cz] W fun e w' => e = .returned (.bool (setB p l zs)) ∧ Below W.heap.size W w' := fun W h lo hi h2 => isBarSet_c p l A Z cap cz lo hi zs W h h2 hn hnz
  rcases hs : setB p l zs with _ | _
  · rw [hs] at HSET
    clear hbad hs
    have hzh := hz.1
    have W0 := Lib.hid (Below.refl w.heap.size w)
    have HB_0 := Lib.hid (bars_in hl)
    have HZ_0 := Lib.hid (hz)
    clear hl hz
    have Z1 := Lib.hid (within_alloc w (.cells #[.int .i64 p, (.slice A l.length cap)] 29)).size
    have W1 := Lib.hid (within_on W0.out (within_alloc w (.cells #[.int .i64 p, (.slice A l.length cap)] 29)) W0.out.size (.inr (Nat.le_refl _)))
    have HB_1 := Lib.hid (HB_0.out.within (within_alloc w (.cells #[.int .i64 p, (.slice A l.length cap)] 29)) (by omega))
    have HZ_1 := Lib.hid (HZ_0.out.within (within_alloc w (.cells #[.int .i64 p, (.slice A l.length cap)] 29)) (by omega))
    have Y1 := Lib.hid (show (w.alloc (.cells #[.int .i64 p, (.slice A l.length cap)] 29)).heap.size = w.heap.size + 1 by simp)
    have hnew := box_new w p (.slice A l.length cap) 29
    have BX_1 := Lib.hid hnew
    clear hnew
    have Z2 := Lib.hid (within_alloc (w.alloc (.cells #[.int .i64 p, (.slice A l.length cap)] 29)) (.cells #[(.int .i64 0), (.slice none 0 0), (.int .i64 0), (.int .i64 0), (.map none)] 104)).size
    have W2 := Lib.hid (within_on W1.out (within_alloc (w.alloc (.cells #[.int .i64 p, (.slice A l.length cap)] 29)) (.cells #[(.int .i64 0), (.slice none 0 0), (.int .i64 0), (.int .i64 0), (.map none)] 104)) W1.out.size (.inr (Nat.le_refl _)))
    have HB_2 := Lib.hid (HB_1.out.within (within_alloc (w.alloc (.cells #[.int .i64 p, (.slice A l.length cap)] 29)) (.cells #[(.int .i64 0), (.slice none 0 0), (.int .i64 0), (.int .i64 0), (.map none)] 104)) (by omega))
    have HZ_2 := Lib.hid (HZ_1.out.within (within_alloc (w.alloc (.cells #[.int .i64 p, (.slice A l.length cap)] 29)) (.cells #[(.int .i64 0), (.slice none 0 0), (.int .i64 0), (.int .i64 0), (.map none)] 104)) (by omega))
    have BX_2 := Lib.hid (BX_1.out.within (within_alloc (w.alloc (.cells #[.int .i64 p, (.slice A l.length cap)] 29)) (.cells #[(.int .i64 0), (.slice none 0 0), (.int .i64 0), (.int .i64 0), (.map none)] 104)) (by omega))
    have Y2 := Lib.hid (show ((w.alloc (.cells #[.int .i64 p, (.slice A l.length cap)] 29)).alloc (.cells #[(.int .i64 0), (.slice none 0 0), (.int .i64 0), (.int .i64 0), (.map none)] 104)).heap.size = (w.alloc (.cells #[.int .i64 p, (.slice A l.length cap)] 29)).heap.size + 1 by simp)
    have hnew := cel5_new (w.alloc (.cells #[.int .i64 p, (.slice A l.length cap)] 29)) (.int .i64 0) (.slice none 0 0) (.int .i64 0) (.int .i64 0) (.map none) 104
    rw [show (w.alloc (.cells #[.int .i64 p, (.slice A l.length cap)] 29)).heap.size = w.heap.size + 1 by simp] at hnew
    have GR_2 := Lib.hid hnew
    clear hnew
    go_enter Try.func98, Try.ntmps98
    obtain ⟨g0_0, g0_1, g0_2⟩ := BX_2.out
    go_wp2_with fail
    clear g0_0 g0_1 g0_2
    generalize ((w.alloc (.cells #[.int .i64 p, (.slice A l.length cap)] 29)).alloc (.cells #[(.int .i64 0), (.slice none 0 0), (.int .i64 0), (.int .i64 0), (.map none)] 104)) = w2 at *
    generalize (w.alloc (.cells #[.int .i64 p, (.slice A l.length cap)] 29)) = w1 at *
    refine (HSET _ HB_2.out.at _ _ HZ_2.out).mono ?_
    rintro e w3 ⟨rfl, hb⟩
    have Z3 := Lib.hid (within_of hb).size
    have W3 := Lib.hid (within_on W2.out (within_of hb) W2.out.size (.inr (Nat.le_refl _)))
    have HB_3 := Lib.hid (HB_2.out.within (within_of hb) (by omega))
    have HZ_3 := Lib.hid (HZ_2.out.within (within_of hb) (by omega))
    have BX_3 := Lib.hid (BX_2.out.within (within_of hb) (by omega))
    have GR_3 := Lib.hid (GR_2.out.within (within_of hb) (by omega))
    clear hb HSET
    obtain ⟨g1_0, g1_1, g1_2, g1_3, g1_4⟩ := GR_3.out.cells
    obtain ⟨g2_0, g2_1, g2_2, g2_3, g2_4⟩ := GR_3.out.frozen
    have Z4 := Lib.hid ((ret5 GR_3.out (.int .i64 0) (.slice none 0 0) (.int .i64 0) (.int .i64 0) (.map none)).2).size
    have W4 := Lib.hid (within_on W3.out ((ret5 GR_3.out (.int .i64 0) (.slice none 0 0) (.int .i64 0) (.int .i64 0) (.map none)).2) W3.out.size (by have := Z1.out; have := Z2.out; have := Z3.out; have := Z4.out; have := Y1.out; have := Y2.out; omega))
    have HB_4 := Lib.hid (HB_3.out.within ((ret5 GR_3.out (.int .i64 0) (.slice none 0 0) (.int .i64 0) (.int .i64 0) (.map none)).2) (by have := Z1.out; have := Z2.out; have := Z3.out; have := Z4.out; have := Y1.out; have := Y2.out; omega))
    have HZ_4 := Lib.hid (HZ_3.out.within ((ret5 GR_3.out (.int .i64 0) (.slice none 0 0) (.int .i64 0) (.int .i64 0) (.map none)).2) (by have := Z1.out; have := Z2.out; have := Z3.out; have := Z4.out; have := Y1.out; have := Y2.out; omega))
    have BX_4 := Lib.hid (BX_3.out.within ((ret5 GR_3.out (.int .i64 0) (.slice none 0 0) (.int .i64 0) (.int .i64 0) (.map none)).2) (by have := Z1.out; have := Z2.out; have := Z3.out; have := Z4.out; have := Y1.out; have := Y2.out; omega))
    have GR_4 := Lib.hid ((ret5 GR_3.out (.int .i64 0) (.slice none 0 0) (.int .i64 0) (.int .i64 0) (.map none)).1)
    obtain ⟨g3_0, g3_1, g3_2, g3_3, g3_4⟩ := GR_4.out.cells
    obtain ⟨g4_0, g4_1, g4_2, g4_3, g4_4⟩ := GR_4.out.frozen
    go_wp2_with fail
    generalize (((((w3.setCell ⟨w.heap.size + 1, 0, none⟩ (.int .i64 0)).setCell ⟨w.heap.size + 1, 1, none⟩ (.slice none 0 0)).setCell ⟨w.heap.size + 1, 2, none⟩ (.int .i64 0)).setCell ⟨w.heap.size + 1, 3, none⟩ (.int .i64 0)).setCell ⟨w.heap.size + 1, 4, none⟩ (.map none)) = w4 at *
    refine bodyPost_ret (v := .tuple #[.agg #[.int .i64 0, .slice none 0 0, .int .i64 0, .int .i64 0, .map none], .bool false]) ?_ rfl ?_
    · simp [results, Try.results98, go_sem, g3_0, g3_1, g3_2, g3_3, g3_4]
    · exact ⟨rfl, W4.out⟩
  · have hr : rangeB k c = false := by
      rcases hbad with h | h
      · rw [hs] at h; cases h
      · exact h
    have HRG := Lib.hid hr
    rw [hs] at HSET
    clear hbad hs hr
    have hzh := hz.1
    have W0 := Lib.hid (Below.refl w.heap.size w)
    have HB_0 := Lib.hid (bars_in hl)
    have HZ_0 := Lib.hid (hz)
    clear hl hz
    have Z1 := Lib.hid (within_alloc w (.cells #[.int .i64 p, (.slice A l.length cap)] 29)).size
    have W1 := Lib.hid (within_on W0.out (within_alloc w (.cells #[.int .i64 p, (.slice A l.length cap)] 29)) W0.out.size (.inr (Nat.le_refl _)))
    have HB_1 := Lib.hid (HB_0.out.within (within_alloc w (.cells #[.int .i64 p, (.slice A l.length cap)] 29)) (by omega))
    have HZ_1 := Lib.hid (HZ_0.out.within (within_alloc w (.cells #[.int .i64 p, (.slice A l.length cap)] 29)) (by omega))
    have Y1 := Lib.hid (show (w.alloc (.cells #[.int .i64 p, (.slice A l.length cap)] 29)).heap.size = w.heap.size + 1 by simp)
    have hnew := box_new w p (.slice A l.length cap) 29
    have BX_1 := Lib.hid hnew
    clear hnew
    have Z2 := Lib.hid (within_alloc (w.alloc (.cells #[.int .i64 p, (.slice A l.length cap)] 29)) (.cells #[(.int .i64 0), (.slice none 0 0), (.int .i64 0), (.int .i64 0), (.map none)] 104)).size
    have W2 := Lib.hid (within_on W1.out (within_alloc (w.alloc (.cells #[.int .i64 p, (.slice A l.length cap)] 29)) (.cells #[(.int .i64 0), (.slice none 0 0), (.int .i64 0), (.int .i64 0), (.map none)] 104)) W1.out.size (.inr (Nat.le_refl _)))
    have HB_2 := Lib.hid (HB_1.out.within (within_alloc (w.alloc (.cells #[.int .i64 p, (.slice A l.length cap)] 29)) (.cells #[(.int .i64 0), (.slice none 0 0), (.int .i64 0), (.int .i64 0), (.map none)] 104)) (by omega))
    have HZ_2 := Lib.hid (HZ_1.out.within (within_alloc (w.alloc (.cells #[.int .i64 p, (.slice A l.length cap)] 29)) (.cells #[(.int .i64 0), (.slice none 0 0), (.int .i64 0), (.int .i64 0), (.map none)] 104)) (by omega))
    have BX_2 := Lib.hid (BX_1.out.within (within_alloc (w.alloc (.cells #[.int .i64 p, (.slice A l.length cap)] 29)) (.cells #[(.int .i64 0), (.slice none 0 0), (.int .i64 0), (.int .i64 0), (.map none)] 104)) (by omega))
    have Y2 := Lib.hid (show ((w.alloc (.cells #[.int .i64 p, (.slice A l.length cap)] 29)).alloc (.cells #[(.int .i64 0), (.slice none 0 0), (.int .i64 0), (.int .i64 0), (.map none)] 104)).heap.size = (w.alloc (.cells #[.int .i64 p, (.slice A l.length cap)] 29)).heap.size + 1 by simp)
    have hnew := cel5_new (w.alloc (.cells #[.int .i64 p, (.slice A l.length cap)] 29)) (.int .i64 0) (.slice none 0 0) (.int .i64 0) (.int .i64 0) (.map none) 104
    rw [show (w.alloc (.cells #[.int .i64 p, (.slice A l.length cap)] 29)).heap.size = w.heap.size + 1 by simp] at hnew
    have GR_2 := Lib.hid hnew
    clear hnew
    go_enter Try.func98, Try.ntmps98
    obtain ⟨g0_0, g0_1, g0_2⟩ := BX_2.out
    go_wp2_with fail
    clear g0_0 g0_1 g0_2
    generalize ((w.alloc (.cells #[.int .i64 p, (.slice A l.length cap)] 29)).alloc (.cells #[(.int .i64 0), (.slice none 0 0), (.int .i64 0), (.int .i64 0), (.map none)] 104)) = w2 at *
    generalize (w.alloc (.cells #[.int .i64 p, (.slice A l.length cap)] 29)) = w1 at *
    refine (HSET _ HB_2.out.at _ _ HZ_2.out).mono ?_
    rintro e w3 ⟨rfl, hb⟩
    have Z3 := Lib.hid (within_of hb).size
    have W3 := Lib.hid (within_on W2.out (within_of hb) W2.out.size (.inr (Nat.le_refl _)))
    have HB_3 := Lib.hid (HB_2.out.within (within_of hb) (by omega))
    have HZ_3 := Lib.hid (HZ_2.out.within (within_of hb) (by omega))
    have BX_3 := Lib.hid (BX_2.out.within (within_of hb) (by omega))
    have GR_3 := Lib.hid (GR_2.out.within (within_of hb) (by omega))
    clear hb HSET
    go_wp2_with fail
    refine (implRange k c _).mono ?_
    rintro e w9 ⟨rfl, rfl⟩
    rw [HRG.out]
    obtain ⟨g1_0, g1_1, g1_2, g1_3, g1_4⟩ := GR_3.out.cells
    obtain ⟨g2_0, g2_1, g2_2, g2_3, g2_4⟩ := GR_3.out.frozen
    have Z4 := Lib.hid ((ret5 GR_3.out (.int .i64 0) (.slice none 0 0) (.int .i64 0) (.int .i64 0) (.map none)).2).size
    have W4 := Lib.hid (within_on W3.out ((ret5 GR_3.out (.int .i64 0) (.slice none 0 0) (.int .i64 0) (.int .i64 0) (.map none)).2) W3.out.size (by have := Z1.out; have := Z2.out; have := Z3.out; have := Z4.out; have := Y1.out; have := Y2.out; omega))
    have HB_4 := Lib.hid (HB_3.out.within ((ret5 GR_3.out (.int .i64 0) (.slice none 0 0) (.int .i64 0) (.int .i64 0) (.map none)).2) (by have := Z1.out; have := Z2.out; have := Z3.out; have := Z4.out; have := Y1.out; have := Y2.out; omega))
    have HZ_4 := Lib.hid (HZ_3.out.within ((ret5 GR_3.out (.int .i64 0) (.slice none 0 0) (.int .i64 0) (.int .i64 0) (.map none)).2) (by have := Z1.out; have := Z2.out; have := Z3.out; have := Z4.out; have := Y1.out; have := Y2.out; omega))
    have BX_4 := Lib.hid (BX_3.out.within ((ret5 GR_3.out (.int .i64 0) (.slice none 0 0) (.int .i64 0) (.int .i64 0) (.map none)).2) (by have := Z1.out; have := Z2.out; have := Z3.out; have := Z4.out; have := Y1.out; have := Y2.out; omega))
    have GR_4 := Lib.hid ((ret5 GR_3.out (.int .i64 0) (.slice none 0 0) (.int .i64 0) (.int .i64 0) (.map none)).1)
    obtain ⟨g3_0, g3_1, g3_2, g3_3, g3_4⟩ := GR_4.out.cells
    obtain ⟨g4_0, g4_1, g4_2, g4_3, g4_4⟩ := GR_4.out.frozen
    go_wp2_with fail
    generalize (((((w3.setCell ⟨w.heap.size + 1, 0, none⟩ (.int .i64 0)).setCell ⟨w.heap.size + 1, 1, none⟩ (.slice none 0 0)).setCell ⟨w.heap.size + 1, 2, none⟩ (.int .i64 0)).setCell ⟨w.heap.size + 1, 3, none⟩ (.int .i64 0)).setCell ⟨w.heap.size + 1, 4, none⟩ (.map none)) = w4 at *
    refine bodyPost_ret (v := .tuple #[.agg #[.int .i64 0, .slice none 0 0, .int .i64 0, .int .i64 0, .map none], .bool false]) ?_ rfl ?_
    · simp [results, Try.results98, go_sem, g3_0, g3_1, g3_2, g3_3, g3_4]
    · exact ⟨rfl, W4.out⟩
/-- A set in a map of the call's own. -/
def NewSetP (w : World) (p : Int) (A : Option Addr) (n cap : Nat) (k c : Int) (zs : List Int) (e : Ending) (w' : World) : Prop :=
  ∃ b, e = .returned (.tuple #[bsV p A n cap k c b, .bool true]) ∧ SetM w' b zs.length zs ∧ w.heap.size ≤ b ∧ Below w.heap.size w w'
theorem setM_step {W W' : World} {b : Nat} {zs : List Int} {j : Nat} (hj : j < zs.length) {D : DataW Unit} (h : OMap W b j D) (hs : SaysS D (zs.take j)) (h' : OMap W' b (j + 1) (D.put (.int .i64 (zs.getD j 0)) (.lit (.bool true)))) : SetM W' b (j + 1) (zs.take (j + 1)) :=
  ⟨_, h', by
    have := hs.put h.isMap (zs.getD j 0)
    rwa [show zs.take j ++ [zs.getD j 0] = zs.take (j + 1) by rw [List.take_add_one]; simp [List.getD, List.getElem?_eq_getElem hj]] at this⟩

set_option maxHeartbeats 4000000 in
set_option maxRecDepth 100000 in
theorem newSet_yes (p k c : Int) (l : List (Int × Int)) (zs : List Int) (A Z : Option Addr) (cap cz lo hi : Nat) (w : World) (hl : BarsAt w w.heap.size A l) (hz : IntsIn w lo hi Z zs) (hn : l.length ≤ 1048576) (hnz : zs.length ≤ 1048576) (hs : setB p l zs = true) (hr : rangeB k c = true) :
    Calls Try.prog 98 #[.agg #[.int .i64 p, .slice A l.length cap], .int .i64 k, .int .i64 c, .slice Z zs.length cz] w (NewSetP w p A l.length cap k c zs) := by
  have HSET : ∀ W : World, BarsAt W W.heap.size A l → ∀ lo hi, IntsIn W lo hi Z zs → Calls Try.prog 119 #[.agg #[.int .i64 p, .slice A l.length cap], .slice Z zs.length cz] W fun e w' => e = .returned (.bool (setB p l zs)) ∧ Below W.heap.size W w' := fun W h lo hi h2 => isBarSet_c p l A Z cap cz lo hi zs W h h2 hn hnz
  have HRG := Lib.hid hr
  have HW := Lib.hid (show ∀ j, j < zs.length → (Lit.int .i64 (zs.getD j 0)).wf = true from fun j hj => WalkArith.wf_i64 (by have := ((setB_is hs).1 j hj).1; omega))
  rw [hs] at HSET
  clear hs hr
  have hzh := hz.1
  have W0 := Lib.hid (Below.refl w.heap.size w)
  have HB_0 := Lib.hid (bars_in hl)
  have HZ_0 := Lib.hid (hz)
  clear hl hz
  have Z1 := Lib.hid (within_alloc w (.cells #[.int .i64 p, (.slice A l.length cap)] 29)).size
  have W1 := Lib.hid (within_on W0.out (within_alloc w (.cells #[.int .i64 p, (.slice A l.length cap)] 29)) W0.out.size (.inr (Nat.le_refl _)))
  have HB_1 := Lib.hid (HB_0.out.within (within_alloc w (.cells #[.int .i64 p, (.slice A l.length cap)] 29)) (by omega))
  have HZ_1 := Lib.hid (HZ_0.out.within (within_alloc w (.cells #[.int .i64 p, (.slice A l.length cap)] 29)) (by omega))
  have Y1 := Lib.hid (show (w.alloc (.cells #[.int .i64 p, (.slice A l.length cap)] 29)).heap.size = w.heap.size + 1 by simp)
  have hnew := box_new w p (.slice A l.length cap) 29
  have BX_1 := Lib.hid hnew
  clear hnew
  have Z2 := Lib.hid (within_alloc (w.alloc (.cells #[.int .i64 p, (.slice A l.length cap)] 29)) (.cells #[(.int .i64 0), (.slice none 0 0), (.int .i64 0), (.int .i64 0), (.map none)] 104)).size
  have W2 := Lib.hid (within_on W1.out (within_alloc (w.alloc (.cells #[.int .i64 p, (.slice A l.length cap)] 29)) (.cells #[(.int .i64 0), (.slice none 0 0), (.int .i64 0), (.int .i64 0), (.map none)] 104)) W1.out.size (.inr (Nat.le_refl _)))
  have HB_2 := Lib.hid (HB_1.out.within (within_alloc (w.alloc (.cells #[.int .i64 p, (.slice A l.length cap)] 29)) (.cells #[(.int .i64 0), (.slice none 0 0), (.int .i64 0), (.int .i64 0), (.map none)] 104)) (by omega))
  have HZ_2 := Lib.hid (HZ_1.out.within (within_alloc (w.alloc (.cells #[.int .i64 p, (.slice A l.length cap)] 29)) (.cells #[(.int .i64 0), (.slice none 0 0), (.int .i64 0), (.int .i64 0), (.map none)] 104)) (by omega))
  have BX_2 := Lib.hid (BX_1.out.within (within_alloc (w.alloc (.cells #[.int .i64 p, (.slice A l.length cap)] 29)) (.cells #[(.int .i64 0), (.slice none 0 0), (.int .i64 0), (.int .i64 0), (.map none)] 104)) (by omega))
  have Y2 := Lib.hid (show ((w.alloc (.cells #[.int .i64 p, (.slice A l.length cap)] 29)).alloc (.cells #[(.int .i64 0), (.slice none 0 0), (.int .i64 0), (.int .i64 0), (.map none)] 104)).heap.size = (w.alloc (.cells #[.int .i64 p, (.slice A l.length cap)] 29)).heap.size + 1 by simp)
  have hnew := cel5_new (w.alloc (.cells #[.int .i64 p, (.slice A l.length cap)] 29)) (.int .i64 0) (.slice none 0 0) (.int .i64 0) (.int .i64 0) (.map none) 104
  rw [show (w.alloc (.cells #[.int .i64 p, (.slice A l.length cap)] 29)).heap.size = w.heap.size + 1 by simp] at hnew
  have GR_2 := Lib.hid hnew
  clear hnew
  go_enter Try.func98, Try.ntmps98
  obtain ⟨g0_0, g0_1, g0_2⟩ := BX_2.out
  go_wp2_with fail
  clear g0_0 g0_1 g0_2
  generalize ((w.alloc (.cells #[.int .i64 p, (.slice A l.length cap)] 29)).alloc (.cells #[(.int .i64 0), (.slice none 0 0), (.int .i64 0), (.int .i64 0), (.map none)] 104)) = w2 at *
  generalize (w.alloc (.cells #[.int .i64 p, (.slice A l.length cap)] 29)) = w1 at *
  refine (HSET _ HB_2.out.at _ _ HZ_2.out).mono ?_
  rintro e w3 ⟨rfl, hb⟩
  have Z3 := Lib.hid (within_of hb).size
  have W3 := Lib.hid (within_on W2.out (within_of hb) W2.out.size (.inr (Nat.le_refl _)))
  have HB_3 := Lib.hid (HB_2.out.within (within_of hb) (by omega))
  have HZ_3 := Lib.hid (HZ_2.out.within (within_of hb) (by omega))
  have BX_3 := Lib.hid (BX_2.out.within (within_of hb) (by omega))
  have GR_3 := Lib.hid (GR_2.out.within (within_of hb) (by omega))
  clear hb HSET
  go_wp2_with fail
  refine (implRange k c _).mono ?_
  rintro e w9 ⟨rfl, rfl⟩
  rw [HRG.out]
  have hmm := @run_makeMap Try.prog
  obtain ⟨g1_0, g1_1, g1_2⟩ := BX_3.out
  have Z4 := Lib.hid (within_alloc w3 (.map #[] 0)).size
  have W4 := Lib.hid (within_on W3.out (within_alloc w3 (.map #[] 0)) W3.out.size (.inr (Nat.le_refl _)))
  have HB_4 := Lib.hid (HB_3.out.within (within_alloc w3 (.map #[] 0)) (by omega))
  have HZ_4 := Lib.hid (HZ_3.out.within (within_alloc w3 (.map #[] 0)) (by omega))
  have BX_4 := Lib.hid (BX_3.out.within (within_alloc w3 (.map #[] 0)) (by omega))
  have GR_4 := Lib.hid (GR_3.out.within (within_alloc w3 (.map #[] 0)) (by omega))
  have Y4 := Lib.hid (show (w3.alloc (.map #[] 0)).heap.size = w3.heap.size + 1 by simp)
  have hom := World.ownsMap_made (H := Unit) w3 Try.prog 3 (plainElem Try.prog 4)
  have MP_4 := Lib.hid (show SetM (w3.alloc (.map #[] 0)) w3.heap.size 0 (zs.take 0) from ⟨_, hom, saysS_nil⟩)
  clear hom
  have Z5 := Lib.hid (within_alloc (w3.alloc (.map #[] 0)) (.cells #[(.int .i64 p), (.slice A l.length cap), (.int .i64 k), (.int .i64 c), (.map (some w3.heap.size))] 104)).size
  have W5 := Lib.hid (within_on W4.out (within_alloc (w3.alloc (.map #[] 0)) (.cells #[(.int .i64 p), (.slice A l.length cap), (.int .i64 k), (.int .i64 c), (.map (some w3.heap.size))] 104)) W4.out.size (.inr (Nat.le_refl _)))
  have HB_5 := Lib.hid (HB_4.out.within (within_alloc (w3.alloc (.map #[] 0)) (.cells #[(.int .i64 p), (.slice A l.length cap), (.int .i64 k), (.int .i64 c), (.map (some w3.heap.size))] 104)) (by omega))
  have HZ_5 := Lib.hid (HZ_4.out.within (within_alloc (w3.alloc (.map #[] 0)) (.cells #[(.int .i64 p), (.slice A l.length cap), (.int .i64 k), (.int .i64 c), (.map (some w3.heap.size))] 104)) (by omega))
  have BX_5 := Lib.hid (BX_4.out.within (within_alloc (w3.alloc (.map #[] 0)) (.cells #[(.int .i64 p), (.slice A l.length cap), (.int .i64 k), (.int .i64 c), (.map (some w3.heap.size))] 104)) (by omega))
  have GR_5 := Lib.hid (GR_4.out.within (within_alloc (w3.alloc (.map #[] 0)) (.cells #[(.int .i64 p), (.slice A l.length cap), (.int .i64 k), (.int .i64 c), (.map (some w3.heap.size))] 104)) (by omega))
  have MP_5 := Lib.hid (MP_4.out.within (within_alloc (w3.alloc (.map #[] 0)) (.cells #[(.int .i64 p), (.slice A l.length cap), (.int .i64 k), (.int .i64 c), (.map (some w3.heap.size))] 104)) (by omega))
  have Y5 := Lib.hid (show ((w3.alloc (.map #[] 0)).alloc (.cells #[(.int .i64 p), (.slice A l.length cap), (.int .i64 k), (.int .i64 c), (.map (some w3.heap.size))] 104)).heap.size = (w3.alloc (.map #[] 0)).heap.size + 1 by simp)
  have hnew := cel5_new (w3.alloc (.map #[] 0)) (.int .i64 p) (.slice A l.length cap) (.int .i64 k) (.int .i64 c) (.map (some w3.heap.size)) 104
  rw [show (w3.alloc (.map #[] 0)).heap.size = w3.heap.size + 1 by simp] at hnew
  have BB_5 := Lib.hid hnew
  clear hnew
  go_wp2_with fail
  clear g1_0 g1_1 g1_2
  generalize ((w3.alloc (.map #[] 0)).alloc (.cells #[(.int .i64 p), (.slice A l.length cap), (.int .i64 k), (.int .i64 c), (.map (some w3.heap.size))] 104)) = w5 at *
  generalize (w3.alloc (.map #[] 0)) = w4 at *
  have HMB := Lib.hid (show w.heap.size + 2 ≤ w3.heap.size from (by have := Z1.out; have := Z2.out; have := Z3.out; have := Z4.out; have := Z5.out; have := Y1.out; have := Y2.out; have := Y4.out; have := Y5.out; omega))
  have HMP := Lib.hid MP_5.out
  go_loopw [12, 31] (fun _ i wr => ∃ j : Nat, j ≤ zs.length ∧ i = .int .i64 j ∧ SetM wr w3.heap.size j (zs.take j) ∧ Within w3.heap.size (w3.heap.size + 1) w5 wr) (fun _ i _ => zs.length - (intOf i).toNat)
  case atStart => exact ⟨0, Nat.zero_le _, rfl, HMP.out, Within.refl _ _ _⟩
  case round =>
    obtain ⟨j, hj, rfl, hset, hwi⟩ := hrel
    have HWI := Lib.hid hwi
    have HB5 := Lib.hid (BB_5.out.within hwi (.inr (Nat.le_refl _)))
    obtain ⟨c0, c1, c2, c3, c4⟩ := HB5.out.cells
    have hzr := HZ_0.out.at_on W5.out hwi (by have := HMB.out; omega)
    by_cases hlt : j < zs.length
    · have hji : (j : Int) < (zs.length : Int) := by omega
      obtain ⟨zb, zo, rfl, hzc⟩ := row_at hzr (by omega)
      have hz := hzc j hlt
      obtain ⟨D, hom, hsay⟩ := hset
      have HOM := Lib.hid hom
      have HSAY := Lib.hid hsay
      have HWF := Lib.hid (HW.out j hlt)
      have HSTEP := Lib.hid (fun (W' : World) h' => setM_step (W' := W') hlt hom hsay h')
      clear hom hsay hzc hzr hwi
      obtain ⟨z, hzd⟩ : ∃ z, zs.getD j 0 = z := ⟨_, rfl⟩
      rw [hzd] at hz HWF HSTEP
      clear hzd
      go_wp2_with (first
        | (at_mapUpdate; refine wpList_mapUpdate_own _ rfl _ _ _ 102 rfl 3 4 lawI Try.underlying102 _ w3.heap.size j D rfl HOM.out (by unfold maxLen; omega) _ _ (.int .i64 z) rfl rfl (keyOf_int_mk Try.underlying3 HWF.out) _ [] (plainElem_bool Try.underlying4 true) ?_; intro w8 hown8 hg8; have HN := Lib.hid (HSTEP.out w8 hown8); have HWN := Lib.hid (HWI.out.trans (within_grown hg8)); clear hown8 hg8)
        | go_in)
      go_roundw
      case rel => exact ⟨j + 1, by omega, by go_num, HN.out, HWN.out⟩
      case measure => simp [intOf]; omega
    · obtain rfl : j = zs.length := by omega
      rw [List.take_length] at hset
      have HSET2 := Lib.hid hset
      clear hset hzr hwi
      have hgr := GR_5.out.within HWI.out (.inl (by have := HMB.out; omega))
      have h5 := ret5 hgr (.int .i64 p) (.slice A l.length cap) (.int .i64 k) (.int .i64 c) (.map (some w3.heap.size))
      obtain ⟨e0, e1, e2, e3, e4⟩ := hgr.cells
      obtain ⟨f0, f1, f2, f3, f4⟩ := hgr.frozen
      obtain ⟨s0, s1, s2, s3, s4⟩ := h5.1.cells
      have HW5 := Lib.hid h5.2
      clear h5 hgr
      go_wp2_with fail
      refine bodyPost_ret (v := .tuple #[bsV p A l.length cap k c w3.heap.size, .bool true]) ?_ rfl ?_
      · simp [results, Try.results98, go_sem, s0, s1, s2, s3, s4]
      · have hmb := HMB.out
        have hb0 := W5.out.size
        have hb1 := HWI.out.size
        exact ⟨_, rfl, HSET2.out.within HW5.out (.inr (by omega)), by omega, within_on (within_on W5.out HWI.out hb0 (.inl (by omega))) HW5.out (by omega) (.inl (by omega))⟩
end Go.Proofs.Ytdnmmjaelgjkaaa
/- What ReachOf answers, and what stands while it is sought; rows of bools. No program's walk. No condition. -/
namespace Go.Proofs.Ytdnmmjaelgjkaaa
open Go.RowKit

def startF (V : Nat) : Nat → Bool := fun u => decide (u = V)
/-- The points that are reached from v. -/
noncomputable def reachL (p : Int) (l : List (Int × Int)) (v : Int) : List Int := if (isGB p l && (decide (0 ≤ v) && decide (v < p))) = true then outF p.toNat (iterF l p.toNat (startF v.toNat)) else []
theorem reachL_no {p v : Int} {l : List (Int × Int)} (h : isGB p l = false ∨ v < 0 ∨ p ≤ v) : reachL p l v = [] := by
  unfold reachL
  rw [if_neg]
  intro k
  simp only [Bool.and_eq_true, decide_eq_true_eq] at k
  rcases h with h | h | h
  · rw [h] at k; cases k.1
  · omega
  · omega
theorem reachL_yes {P V : Nat} {l : List (Int × Int)} (h : isGB (P : Int) l = true) (hv : V < P) : reachL P l V = outF P (iterF l P (startF V)) := by
  unfold reachL
  rw [if_pos]
  · rfl
  · rw [h]; simp; omega
theorem reachL_len (p v : Int) (l : List (Int × Int)) : (reachL p l v).length ≤ 8 := by
  unfold reachL
  split
  · rename_i h
    simp only [Bool.and_eq_true] at h
    have : IsG p l := by
      refine Classical.byContradiction fun g => ?_
      rw [isGB_no g] at h
      cases h.1
    exact Nat.le_trans (outF_len _ _) (by have := this.1; omega)
  · simp
theorem infoBool : (Try.prog.info? 4).map (fun i => (i.zero, i.size, i.bytes)) = some (some (.bool false), 1, 1) := by kernel_rfl
def boolCells (n : Nat) (S : Nat → Bool) : List Value := (rowB n S).map Value.bool
theorem boolCells_none (n : Nat) : List.replicate n (Value.bool false) = boolCells n (fun _ => false) := by
  apply List.ext_getElem?
  intro i
  by_cases hi : i < n
  · simp [boolCells, rowB, hi]
  · rw [List.getElem?_eq_none (by simp; omega), List.getElem?_eq_none (by simp [boolCells, rowB]; omega)]
theorem boolCells_start (n V : Nat) : (boolCells n (fun _ => false)).set V (.bool true) = boolCells n (startF V) := by
  unfold boolCells
  rw [← List.map_set]
  congr 1
  apply List.ext_getElem?
  intro i
  by_cases hi : i < n
  · rw [rowB_get _ _ _ hi, List.getElem?_set, rowB_get _ _ _ hi]
    simp only [rowB_len, startF]
    by_cases h : V = i
    · subst h; simp [hi]
    · have h' : ¬ i = V := fun e => h e.symm
      simp [h, h']
  · rw [List.getElem?_eq_none (by simp [rowB_len]; omega), List.getElem?_eq_none (by simp [rowB_len]; omega)]
theorem boolCells_get (n : Nat) (S : Nat → Bool) (v : Nat) (h : v < n) : (boolCells n S)[v]? = some (.bool (S v)) := by
  unfold boolCells
  rw [List.getElem?_map, rowB_get n S v h]
  rfl
theorem boolCells_set (n : Nat) (S : Nat → Bool) (x : Int × Int) (c : Bool) (h : (S x.1.toNat || S x.2.toNat) = c) :
    ((boolCells n S).set x.1.toNat (.bool c)).set x.2.toNat (.bool c) = boolCells n (relaxF S x) := by
  unfold boolCells
  rw [← List.map_set, ← List.map_set, ← h, rowB_set]
theorem fold_step (l : List (Int × Int)) (S : Nat → Bool) (j : Nat) (h : j < l.length) : (l.take (j + 1)).foldl relaxF S = relaxF ((l.take j).foldl relaxF S) (l.getD j (0, 0)) := by
  rw [take_getD l (0, 0) j h, List.foldl_append]
  rfl

/-- Where the walk of spec.ReachOf stands: the row of what is reached, the empty row of answers, the graph in its box. -/
def ReachSt (w wr : World) (P : Nat) (n : Nat) (A : Option Addr) (cap gs : Nat) (S : Nat → Bool) : Prop :=
  wr.ownsRow w.heap.size 4 1 (.slice (some ⟨gs, 0, none⟩) P P) P (boolCells P S) ∧ Box wr w.heap.size (P : Int) (.slice A n cap) ∧ wr.ownsRow w.heap.size 3 1 (.slice (some ⟨w.heap.size + 1, 0, none⟩) 0 0) 0 [] ∧ Below w.heap.size w wr ∧ w.heap.size + 1 < gs
theorem ReachSt.set {w wr : World} {P n : Nat} {A : Option Addr} {cap gs : Nat} {S S' : Nat → Bool} (h : ReachSt w wr P n A cap gs S) (a b : Nat) (u u' : Value) (hs : ((boolCells P S).set a u).set b u' = boolCells P S') : ReachSt w ((wr.setCell ⟨gs, a, none⟩ u).setCell ⟨gs, b, none⟩ u') P n A cap gs S' := by
  obtain ⟨h1, h2, h3, h4, h5⟩ := h
  have s1 := h1.stored a u
  have s2 := s1.1.stored b u'
  have hg := s1.2.trans_ s2.2
  rw [hs] at s2
  have hlt := h1.lt gs rfl
  exact ⟨s2.1, h2.grown hg (by omega), h3.kept hg (.inr (by simp [Value.ownBlock]; omega)), h4.grown hg (Nat.le_trans h4.size (Nat.le_refl _)) (fun k hk => by cases hk; exact hlt.1), h5⟩

theorem ReachSt.set1 {w wr : World} {P n : Nat} {A : Option Addr} {cap gs : Nat} {S S' : Nat → Bool} (h : ReachSt w wr P n A cap gs S) (a : Nat) (u : Value) (hs : (boolCells P S).set a u = boolCells P S') : ReachSt w (wr.setCell ⟨gs, a, none⟩ u) P n A cap gs S' := by
  obtain ⟨h1, h2, h3, h4, h5⟩ := h
  have s1 := h1.stored a u
  rw [hs] at s1
  have hlt := h1.lt gs rfl
  exact ⟨s1.1, h2.grown s1.2 (by omega), h3.kept s1.2 (.inr (by simp [Value.ownBlock]; omega)), h4.grown s1.2 (Nat.le_trans h4.size (Nat.le_refl _)) (fun k hk => by cases hk; exact hlt.1), h5⟩
theorem ReachSt.start {w w2 w3 : World} {P n : Nat} {A : Option Addr} {cap : Nat} (hb : Below w.heap.size w w2) (hx : Box w2 w.heap.size (P : Int) (.slice A n cap)) (ho : w2.ownsRow w.heap.size 3 1 (.slice (some ⟨w.heap.size + 1, 0, none⟩) 0 0) 0 []) (hs : w.heap.size + 1 < w2.heap.size)
    (hown3 : w3.ownsRow w2.heap.size 4 1 (.slice (some ⟨w2.heap.size, 0, none⟩) P P) P (List.replicate P (.bool false))) (hb3 : Below w2.heap.size w2 w3) : ReachSt w w3 P n A cap w2.heap.size (fun _ => false) := by
  rw [boolCells_none] at hown3
  exact ⟨own_base hown3 hb.size, hx.kept hb3, own_below ho hb3, below_on hb hb3 hb.size, hs⟩

/-- Where the walk stands that collects the answers. -/
def OutSt (w wr : World) (P n : Nat) (A : Option Addr) (cap gs : Nat) (S : Nat → Bool) (k : Nat) (A' : Option Addr) (c' : Nat) : Prop :=
  wr.ownsRow w.heap.size 3 1 (.slice A' (outF k S).length c') (outF k S).length (intCells (outF k S)) ∧ (∀ a, A' = some a → a.block ≠ gs ∧ a.block ≠ w.heap.size) ∧ wr.ownsRow w.heap.size 4 1 (.slice (some ⟨gs, 0, none⟩) P P) P (boolCells P S) ∧ Box wr w.heap.size (P : Int) (.slice A n cap) ∧ Below w.heap.size w wr
theorem ReachSt.out {w wr : World} {P n : Nat} {A : Option Addr} {cap gs : Nat} {S : Nat → Bool} (h : ReachSt w wr P n A cap gs S) : OutSt w wr P n A cap gs S 0 (some ⟨w.heap.size + 1, 0, none⟩) 0 :=
  ⟨h.2.2.1, fun a e => by cases e; exact ⟨by have := h.2.2.2.2; show w.heap.size + 1 ≠ gs; omega, by show w.heap.size + 1 ≠ w.heap.size; omega⟩, h.1, h.2.1, h.2.2.2.1⟩
theorem OutSt.no {w wr : World} {P n : Nat} {A : Option Addr} {cap gs : Nat} {S : Nat → Bool} {k : Nat} {A' : Option Addr} {c' : Nat} (h : OutSt w wr P n A cap gs S k A' c') (hs : S k = false) : OutSt w wr P n A cap gs S (k + 1) A' c' := by
  have e : outF (k + 1) S = outF k S := by rw [outF_succ, hs]; simp
  unfold OutSt at *
  rw [e]
  exact h
theorem OutSt.yes {w wr w' : World} {P n : Nat} {A : Option Addr} {cap gs : Nat} {S : Nat → Bool} {k : Nat} {A' A2 : Option Addr} {c' c2 : Nat} (h : OutSt w wr P n A cap gs S k A' c') (hs : S k = true)
    (ho : w'.ownsRow w.heap.size 3 1 (.slice A2 ((outF k S).length + 1) c2) ((outF k S).length + 1) (intCells (outF k S) ++ [.int .i64 k])) (hg : wr.grownBy w' (Value.slice A' (outF k S).length c').ownBlock)
    (hat : (Value.slice A2 ((outF k S).length + 1) c2).ownBlock = (Value.slice A' (outF k S).length c').ownBlock ∨ (Value.slice A2 ((outF k S).length + 1) c2).ownBlock = some (wr.heap.size + 1)) : OutSt w w' P n A cap gs S (k + 1) A2 c2 := by
  have e : outF (k + 1) S = outF k S ++ [(k : Int)] := by rw [outF_succ, hs]; simp
  have e2 : (outF (k + 1) S).length = (outF k S).length + 1 := by rw [e]; simp
  obtain ⟨h1, h2, h3, h4, h5⟩ := h
  have hgs := h3.lt gs rfl
  have hob : ∀ g, (Value.slice A' (outF k S).length c').ownBlock = some g → g ≠ gs ∧ g ≠ w.heap.size := fun g hgg => by
    cases A' with
    | none => cases hgg
    | some a => cases hgg; exact h2 a rfl
  unfold OutSt
  rw [e2, e]
  refine ⟨by rw [show intCells (outF k S ++ [(k : Int)]) = intCells (outF k S) ++ [.int .i64 k] by simp [intCells]]; exact ho, fun a ea => ?_, h3.kept hg ?_, ?_, h5.grown hg (Nat.le_trans h5.size (Nat.le_refl _)) fun g hgg => (h1.lt g hgg).1⟩
  · subst ea
    rcases hat with hat | hat
    · exact hob a.block hat.symm
    · have hat' : a.block = wr.heap.size + 1 := by simpa [Value.ownBlock] using hat
      have := h4.1
      exact ⟨by omega, by omega⟩
  · refine .inr fun hc => ?_
    exact (hob gs hc.symm).1 rfl
  · refine ⟨Nat.lt_of_lt_of_le h4.1 hg.size, ?_, ?_⟩
    · exact (World.cell?_of_block (hg.block w.heap.size h4.1 fun hc => (hob _ hc.symm).2 rfl)).trans h4.2.1
    · exact (World.cell?_of_block (a := ⟨w.heap.size, 1, none⟩) (hg.block w.heap.size h4.1 fun hc => (hob _ hc.symm).2 rfl)).trans h4.2.2
end Go.Proofs.Ytdnmmjaelgjkaaa
/- What the program's OnlyBars answers: the same as the specification's. No condition. -/
namespace Go.Proofs.Ytdnmmjaelgjkaaa
open Go.RowKit

theorem inS_step (zs : List Int) (j : Nat) (h : j < zs.length) (u : Nat) : inS (zs.take (j + 1)) u = (inS (zs.take j) u || decide ((u : Int) = zs.getD j 0)) := by
  unfold inS
  rw [take_getD zs 0 j h]
  simp [List.mem_append]
theorem boolCells_same (n : Nat) (S T : Nat → Bool) (h : ∀ u, u < n → S u = T u) : boolCells n S = boolCells n T := by
  unfold boolCells rowB
  congr 1
  exact List.map_congr_left fun u hu => h u (List.mem_range.1 hu)
theorem boolCells_one (n : Nat) (S : Nat → Bool) (a : Nat) : (boolCells n S).set a (.bool true) = boolCells n (fun u => S u || decide (u = a)) := by
  unfold boolCells
  rw [← List.map_set]
  congr 1
  apply List.ext_getElem?
  intro i
  by_cases hi : i < n
  · rw [rowB_get _ _ _ hi, List.getElem?_set, rowB_get _ _ _ hi]
    simp only [rowB_len]
    by_cases h : a = i
    · subst h; simp [hi]
    · have h' : ¬ i = a := fun e => h e.symm
      simp [h, h']
  · rw [List.getElem?_eq_none (by simp [rowB_len]; omega), List.getElem?_eq_none (by simp [rowB_len]; omega)]

set_option maxHeartbeats 4000000 in
set_option maxRecDepth 100000 in
theorem implOnly (p : Int) (l : List (Int × Int)) (zs : List Int) (A Z : Option Addr) (cap cz lo hi : Nat) (w : World) (hl : BarsAt w w.heap.size A l) (hz : IntsIn w lo hi Z zs) (hn : l.length ≤ 1048576) (hnz : zs.length ≤ 1048576) :
    Calls Try.prog 107 #[.agg #[.int .i64 p, .slice A l.length cap], .slice Z zs.length cz] w (GraphO w p (onlyL l zs)) := by
  have hA1 := new_below w (.cells #[.int .i64 p, .slice A l.length cap] 29)
  have hA2 := new_below (w.alloc (.cells #[.int .i64 p, .slice A l.length cap] 29)) (.cells #[.int .i64 0, .slice none 0 0] 29)
  have hsz1 : (w.alloc (.cells #[.int .i64 p, .slice A l.length cap] 29)).heap.size = w.heap.size + 1 := by simp
  have hsz2 : ((w.alloc (.cells #[.int .i64 p, .slice A l.length cap] 29)).alloc (.cells #[.int .i64 0, .slice none 0 0] 29)).heap.size = w.heap.size + 2 := by simp
  have HA := Lib.hid (below_on hA1 hA2 hA1.size)
  have HLW := Lib.hid hl
  have HZW := Lib.hid hz
  have hB := (box_new w p (.slice A l.length cap) 29).kept hA2
  have BX := Lib.hid hB
  have hR := box_new (w.alloc (.cells #[.int .i64 p, .slice A l.length cap] 29)) 0 (.slice none 0 0) 29
  have hF : ((w.alloc (.cells #[.int .i64 p, .slice A l.length cap] 29)).alloc (.cells #[.int .i64 0, .slice none 0 0] 29)).frozen? ⟨(w.alloc (.cells #[.int .i64 p, .slice A l.length cap] 29)).heap.size, 0, none⟩ = false ∧ ((w.alloc (.cells #[.int .i64 p, .slice A l.length cap] 29)).alloc (.cells #[.int .i64 0, .slice none 0 0] 29)).frozen? ⟨(w.alloc (.cells #[.int .i64 p, .slice A l.length cap] 29)).heap.size, 1, none⟩ = false := ⟨World.frozen?_alloc_at _ _ _ _ rfl, World.frozen?_alloc_at _ _ _ _ rfl⟩
  rw [hsz1] at hR hF
  have HR := Lib.hid hR
  have HF := Lib.hid hF
  have HSZ := Lib.hid hsz2
  clear hl hz hA1 hA2 hsz1 hR hF hsz2
  go_enter Try.func107, Try.ntmps107
  obtain ⟨_, g1, g2⟩ := hB
  go_wp2_with (at_make; generalize ((w.alloc (.cells #[.int .i64 p, .slice A l.length cap] 29)).alloc (.cells #[.int .i64 0, .slice none 0 0] 29)) = w1 at *; refine wpList_mkn _ rfl _ _ 142 rfl w1.heap.size 4 (.bool false) 1 Try.underlying142 infoBool rfl _ _ _ _ l.length rfl rfl rfl rfl (by omega) (by unfold maxLen; omega) (Nat.le_refl _) ?_; intro w2 hown2 hb2; have HO2 := Lib.hid hown2; have HB2 := Lib.hid hb2; clear hown2 hb2)
  clear g1 g2
  go_loopw [17] (fun i wr => ∃ j : Nat, j ≤ zs.length ∧ i = .int .i64 j ∧ wr.ownsRow w1.heap.size 4 1 (.slice (some ⟨w1.heap.size, 0, none⟩) l.length l.length) l.length (boolCells l.length (inS (zs.take j))) ∧ Below w1.heap.size w1 wr) (fun i _ => zs.length - (intOf i).toNat)
  case atStart => exact ⟨0, by omega, rfl, by have := HO2.out; rw [boolCells_none] at this; rw [boolCells_same _ _ (fun _ => false) (fun u _ => by simp [inS])]; exact this, HB2.out⟩
  case round =>
    obtain ⟨j, hj, rfl, hown, hb⟩ := hrel
    have HB := Lib.hid hb
    have HO := Lib.hid hown
    have hbs := hb.size
    clear hb
    by_cases hlt : j < zs.length
    · have hij : (j : Int) < (zs.length : Int) := by omega
      obtain ⟨bz, oz, rfl, hz1, hz2, hcell⟩ := HZW.out.2 (by omega)
      have hbz : bz < w.heap.size := Nat.lt_of_lt_of_le hz2 HZW.out.1
      have hc := ((below_on HA.out HB.out HA.out.size).cell (p := ⟨bz, oz + j, none⟩) hbz).trans (hcell j hlt)
      clear hcell
      have HS := Lib.hid (inS_step zs j hlt)
      obtain ⟨z, hz⟩ : ∃ z, zs.getD j 0 = z := ⟨_, rfl⟩
      rw [hz] at hc HS
      clear hz
      by_cases h0 : 0 ≤ z
      · by_cases h1 : z < (l.length : Int)
        · obtain ⟨a, rfl⟩ : ∃ a : Nat, z = (a : Int) := ⟨z.toNat, by omega⟩
          have han : a < l.length := by omega
          have hca := (hown.cellAt a (by omega)).trans (boolCells_get l.length _ a han)
          have hfa := hown.frozenAt a
          have hst := hown.stored a (.bool true)
          have HB3 := Lib.hid (HB.out.grown hst.2 hbs fun g e => by cases e; exact Nat.le_refl _)
          have ho3 := hst.1
          rw [boolCells_one _ _ a] at ho3
          have HO3 := Lib.hid ho3
          have HE := Lib.hid (boolCells_same l.length (inS (zs.take (j + 1))) (fun u => inS (zs.take j) u || decide (u = a)) fun u _ => by rw [HS.out u]; congr 1; simp; omega)
          clear hown hst ho3
          go_wp2_with fail
          go_roundw
          case rel => exact ⟨j + 1, by omega, by go_num, by rw [HE.out]; exact HO3.out, HB3.out⟩
          case measure => simp [intOf]; omega
        · have HE := Lib.hid (boolCells_same l.length (inS (zs.take (j + 1))) (inS (zs.take j)) fun u hu => by rw [HS.out u, decide_eq_false (by omega), Bool.or_false])
          clear hown
          go_wp2_with fail
          go_roundw
          case rel => exact ⟨j + 1, by omega, by go_num, by rw [HE.out]; exact HO.out, HB.out⟩
          case measure => simp [intOf]; omega
      · have HE := Lib.hid (boolCells_same l.length (inS (zs.take (j + 1))) (inS (zs.take j)) fun u hu => by rw [HS.out u, decide_eq_false (by omega), Bool.or_false])
        clear hown
        go_wp2_with fail
        go_roundw
        case rel => exact ⟨j + 1, by omega, by go_num, by rw [HE.out]; exact HO.out, HB.out⟩
        case measure => simp [intOf]; omega
    · obtain rfl : j = zs.length := by omega
      obtain ⟨wq, rfl⟩ : ∃ x, x = wr := ⟨wr, rfl⟩
      have hown' := HO.out
      rw [List.take_length] at hown'
      have HOK := Lib.hid hown'
      have hlt1 : w1.heap.size < wq.heap.size := (hown'.lt _ rfl).2
      have HG := Lib.hid (gbox_nil wq w.heap.size [w.heap.size, w.heap.size + 1, w1.heap.size] p (Nat.le_trans HA.out.size hbs) (fun o ho => by have := HSZ.out; simp at ho; omega))
      have BXR := Lib.hid (BX.out.kept HB.out)
      have HRR := Lib.hid (HR.out.kept HB.out)
      have HFR := Lib.hid (show wq.frozen? ⟨w.heap.size + 1, 0, none⟩ = false ∧ wq.frozen? ⟨w.heap.size + 1, 1, none⟩ = false from ⟨(HB.out.frozen (p := ⟨w.heap.size + 1, 0, none⟩) HR.out.1).trans HF.out.1, (HB.out.frozen (p := ⟨w.heap.size + 1, 1, none⟩) HR.out.1).trans HF.out.2⟩)
      have HAW := Lib.hid (below_on HA.out HB.out HA.out.size)
      obtain ⟨_, g1, g2⟩ := BXR.out
      clear hown hown' hlt
      go_wp2_with fail
      clear g1 g2
      go_loopw [39] (fun i wr => ∃ k : Nat, k ≤ l.length ∧ i = .int .i64 k ∧ ∃ A' c', GBox w.heap.size wq wr wq.heap.size [w.heap.size, w.heap.size + 1, w1.heap.size] p A' c' (onlyK l (inS zs) k)) (fun i _ => l.length - (intOf i).toNat)
      case atStart => exact ⟨0, by omega, rfl, _, _, HG.out⟩
      case round =>
        obtain ⟨k, hk, rfl, A', c', hst⟩ := hrel
        have HST := Lib.hid hst
        have HBW := Lib.hid (HAW.out.trans hst.2.2.2.2.2.1)
        have hbs' : w.heap.size ≤ wr.heap.size := Nat.le_of_lt (Nat.lt_of_le_of_lt hst.2.2.2.2.2.2 hst.1.1)
        clear hst
        by_cases hlt : k < l.length
        · have hik : (k : Int) < (l.length : Int) := by omega
          obtain ⟨b0, off, rfl, hbB, hcell⟩ := HLW.out (by omega)
          have hc1 := (HBW.out.cell (p := ⟨b0, off + k * 2, none⟩) hbB).trans (hcell k hlt).1
          have hc2 := (HBW.out.cell (p := ⟨b0, off + k * 2 + 1, none⟩) hbB).trans (hcell k hlt).2
          obtain ⟨x, hx⟩ : ∃ x, l.getD k (0, 0) = x := ⟨_, rfl⟩
          rw [hx] at hc1 hc2
          obtain ⟨x1, x2⟩ := x
          simp only at hc1 hc2
          clear hcell
          have hal := new_below wr (.cells #[.int .i64 x1, .int .i64 x2] 85)
          have HSA := Lib.hid (HST.out.below hal)
          have hsk := (HSA.out.cell (o := w1.heap.size) (k := k) (by simp)).trans ((HOK.out.cellAt k (by omega)).trans (boolCells_get l.length (inS zs) k hlt))
          clear hal
          rcases hs : inS zs k with _ | _
          · have HE := Lib.hid (show onlyK l (inS zs) (k + 1) = onlyK l (inS zs) k by rw [onlyK, hs]; simp)
            rw [hs] at hsk
            go_wp2_with fail
            go_roundw
            case rel => exact ⟨k + 1, by omega, by go_num, A', c', by rw [HE.out]; exact HSA.out⟩
            case measure => simp [intOf]; omega
          · have HE := Lib.hid (show onlyK l (inS zs) (k + 1) = onlyK l (inS zs) k ++ [(x1, x2)] by rw [onlyK, hs, hx]; simp)
            rw [hs] at hsk
            have hll := onlyK_len l (inS zs) k
            obtain ⟨L, hL⟩ : ∃ L, L = onlyK l (inS zs) k := ⟨_, rfl⟩
            rw [← hL] at HSA HE hll
            clear hL hx
            obtain ⟨hlt0, g1, g2⟩ := HSA.out.1
            have gf := HSA.out.2.1
            have hbs2 : w.heap.size ≤ (wr.alloc (.cells #[.int .i64 x1, .int .i64 x2] 85)).heap.size := by simp; omega
            go_wp2_with (at_builtin; refine wpList_at _ rfl _ _ 27 rfl w.heap.size 85 (.agg #[.int .i64 0, .int .i64 0]) 2 16 Try.underlying27 infoBar rfl (by decide) _ _ _ rfl HSA.out.2.2.2.1 #[.int .i64 x1, .int .i64 x2] 1 rfl (by simp [Value.oneCell']) _ 1 (by simp [Act.eval]) (by omega) (by unfold maxLen; omega) hbs2 ?_; intro v' w' ho hg hat _; obtain ⟨c0, c1, f1, A2, c2, rfl, hG2⟩ := HSA.out.push (x1, x2) ho hg hat; have HG2 := Lib.hid hG2; clear ho hg hat hG2)
            go_roundw
            case rel => exact ⟨k + 1, by omega, by go_num, A2, c2, by rw [HE.out]; exact HG2.out⟩
            case measure => simp [intOf]; omega
        · obtain rfl : k = l.length := by omega
          obtain ⟨_, g1, g2⟩ := HST.out.1
          have r0 := (HST.out.cell (o := w.heap.size + 1) (k := 0) (by simp)).trans HRR.out.2.1
          have r1 := (HST.out.cell (o := w.heap.size + 1) (k := 1) (by simp)).trans HRR.out.2.2
          have f0 := (HST.out.frozen (o := w.heap.size + 1) (k := 0) (by simp)).trans HFR.out.1
          have f1 := (HST.out.frozen (o := w.heap.size + 1) (k := 1) (by simp)).trans HFR.out.2
          have hr := HST.out.ret (o := w.heap.size + 1) (by simp) (by omega) (.int .i64 p) (.slice A' (onlyK l (inS zs) l.length).length c')
          have HRT := Lib.hid hr
          have s0 : ((wr.setCell ⟨w.heap.size + 1, 0, none⟩ (.int .i64 p)).setCell ⟨w.heap.size + 1, 1, none⟩ (.slice A' (onlyK l (inS zs) l.length).length c')).cell? ⟨w.heap.size + 1, 0, none⟩ = some (.int .i64 p) := by
            rw [World.cell?_setCell_other _ _ _ _ (by intro e; simp at e)]
            exact World.cell?_setCell_same _ _ _ r0
          have s1 : ((wr.setCell ⟨w.heap.size + 1, 0, none⟩ (.int .i64 p)).setCell ⟨w.heap.size + 1, 1, none⟩ (.slice A' (onlyK l (inS zs) l.length).length c')).cell? ⟨w.heap.size + 1, 1, none⟩ = some (.slice A' (onlyK l (inS zs) l.length).length c') := by
            have r2 : (wr.setCell ⟨w.heap.size + 1, 0, none⟩ (.int .i64 p)).cell? ⟨w.heap.size + 1, 1, none⟩ = some (.slice none 0 0) := by
              rw [World.cell?_setCell_other _ _ _ _ (by intro e; simp at e)]
              exact r1
            exact World.cell?_setCell_same _ _ _ r2
          clear hr
          go_wp2_with fail
          refine bodyPost_ret (v := .agg #[.int .i64 p, .slice A' (onlyK l (inS zs) l.length).length c']) ?_ rfl ⟨A', c', rfl, HRT.out.1, HAW.out.trans HRT.out.2⟩
          simp [results, Try.results107, go_sem, s0, s1]
end Go.Proofs.Ytdnmmjaelgjkaaa
/- What impl.RankOfSet answers. No condition. -/
namespace Go.Proofs.Ytdnmmjaelgjkaaa
open Go.RowKit

set_option maxHeartbeats 2000000 in
set_option maxRecDepth 100000 in
theorem implRankSet (p k c : Int) (l : List (Int × Int)) (zs : List Int) (A Z : Option Addr) (cap cz lo hi : Nat) (w : World) (hl : BarsAt w w.heap.size A l) (hz : IntsIn w lo hi Z zs) (hn : l.length ≤ 1048576) (hnz : zs.length ≤ 1048576) :
    Calls Try.prog 42 #[.agg #[.int .i64 p, .slice A l.length cap], .int .i64 k, .int .i64 c, .slice Z zs.length cz] w fun e w' => e = .returned (.int .i64 (rankSV p k c l zs)) ∧ Below w.heap.size w w' := by
  have HISG : ∀ W : World, BarsAt W W.heap.size A l → Calls Try.prog 88 #[.agg #[.int .i64 p, .slice A l.length cap]] W fun e w' => e = .returned (.bool (isGB p l)) ∧ Below W.heap.size W w' := fun W h => implIsGraph p l A cap W h hn
  obtain ⟨rv, hrv⟩ : ∃ rv, rankSV p k c l zs = rv := ⟨_, rfl⟩
  rw [hrv]
  unfold rankSV at hrv
  cases hg : isGB p l with
  | false =>
    have HRV := Lib.hid (show rv = -1 from by rw [← hrv, hg]; rfl)
    clear hrv
    rw [hg] at HISG
    clear hg
    have W0 := Lib.hid (Below.refl w.heap.size w)
    have HB_0 := Lib.hid (bars_in hl)
    have HZ_0 := Lib.hid (hz)
    clear hl hz
    have Z1 := Lib.hid (within_alloc w (.cells #[.int .i64 p, (.slice A l.length cap)] 29)).size
    have W1 := Lib.hid (within_on W0.out (within_alloc w (.cells #[.int .i64 p, (.slice A l.length cap)] 29)) W0.out.size (.inr (Nat.le_refl _)))
    have HB_1 := Lib.hid (HB_0.out.within (within_alloc w (.cells #[.int .i64 p, (.slice A l.length cap)] 29)) (by omega))
    have HZ_1 := Lib.hid (HZ_0.out.within (within_alloc w (.cells #[.int .i64 p, (.slice A l.length cap)] 29)) (by omega))
    have Y1 := Lib.hid (show (w.alloc (.cells #[.int .i64 p, (.slice A l.length cap)] 29)).heap.size = w.heap.size + 1 by simp)
    have hnew := box_new w p (.slice A l.length cap) 29
    have BX_1 := Lib.hid hnew
    clear hnew
    go_enter Try.func42, Try.ntmps42
    obtain ⟨g0_0, g0_1, g0_2⟩ := BX_1.out
    go_wp2_with fail
    clear g0_0 g0_1 g0_2
    generalize (w.alloc (.cells #[.int .i64 p, (.slice A l.length cap)] 29)) = w1 at *
    refine (HISG _ HB_1.out.at).mono ?_
    rintro e w2 ⟨rfl, hb⟩
    have Z2 := Lib.hid (within_of hb).size
    have W2 := Lib.hid (within_on W1.out (within_of hb) W1.out.size (.inr (Nat.le_refl _)))
    have HB_2 := Lib.hid (HB_1.out.within (within_of hb) (by omega))
    have HZ_2 := Lib.hid (HZ_1.out.within (within_of hb) (by omega))
    have BX_2 := Lib.hid (BX_1.out.within (within_of hb) (by omega))
    clear hb
    go_wp2_with fail
    go_ret
    exact ⟨by rw [HRV.out]; rfl, W2.out⟩
  | true =>
    have HRV := Lib.hid (show rv = rankV p k c (onlyL l zs) from by rw [← hrv, hg]; rfl)
    clear hrv
    rw [hg] at HISG
    clear hg
    have W0 := Lib.hid (Below.refl w.heap.size w)
    have HB_0 := Lib.hid (bars_in hl)
    have HZ_0 := Lib.hid (hz)
    clear hl hz
    have Z1 := Lib.hid (within_alloc w (.cells #[.int .i64 p, (.slice A l.length cap)] 29)).size
    have W1 := Lib.hid (within_on W0.out (within_alloc w (.cells #[.int .i64 p, (.slice A l.length cap)] 29)) W0.out.size (.inr (Nat.le_refl _)))
    have HB_1 := Lib.hid (HB_0.out.within (within_alloc w (.cells #[.int .i64 p, (.slice A l.length cap)] 29)) (by omega))
    have HZ_1 := Lib.hid (HZ_0.out.within (within_alloc w (.cells #[.int .i64 p, (.slice A l.length cap)] 29)) (by omega))
    have Y1 := Lib.hid (show (w.alloc (.cells #[.int .i64 p, (.slice A l.length cap)] 29)).heap.size = w.heap.size + 1 by simp)
    have hnew := box_new w p (.slice A l.length cap) 29
    have BX_1 := Lib.hid hnew
    clear hnew
    go_enter Try.func42, Try.ntmps42
    obtain ⟨g0_0, g0_1, g0_2⟩ := BX_1.out
    go_wp2_with fail
    clear g0_0 g0_1 g0_2
    generalize (w.alloc (.cells #[.int .i64 p, (.slice A l.length cap)] 29)) = w1 at *
    refine (HISG _ HB_1.out.at).mono ?_
    rintro e w2 ⟨rfl, hb⟩
    have Z2 := Lib.hid (within_of hb).size
    have W2 := Lib.hid (within_on W1.out (within_of hb) W1.out.size (.inr (Nat.le_refl _)))
    have HB_2 := Lib.hid (HB_1.out.within (within_of hb) (by omega))
    have HZ_2 := Lib.hid (HZ_1.out.within (within_of hb) (by omega))
    have BX_2 := Lib.hid (BX_1.out.within (within_of hb) (by omega))
    clear hb
    obtain ⟨g1_0, g1_1, g1_2⟩ := BX_2.out
    go_wp2_with fail
    clear g1_0 g1_1 g1_2
    refine (implOnly p l zs A Z cap cz _ _ _ HB_2.out.at HZ_2.out hn hnz).mono ?_
    rintro e w3 ⟨AO, cO, rfl, ho, hb⟩
    have Z3 := Lib.hid (within_of hb).size
    have W3 := Lib.hid (within_on W2.out (within_of hb) W2.out.size (.inr (Nat.le_refl _)))
    have HB_3 := Lib.hid (HB_2.out.within (within_of hb) (by omega))
    have HZ_3 := Lib.hid (HZ_2.out.within (within_of hb) (by omega))
    have BX_3 := Lib.hid (BX_2.out.within (within_of hb) (by omega))
    have OB_3 := Lib.hid (ho.bars)
    clear ho hb
    go_wp2_with fail
    refine (implRank p k c (onlyL l zs) AO cO _ OB_3.out.at (onlyL_len l zs hn)).mono ?_
    rintro e w4 ⟨rfl, hb⟩
    have Z4 := Lib.hid (within_of hb).size
    have W4 := Lib.hid (within_on W3.out (within_of hb) W3.out.size (.inr (Nat.le_refl _)))
    have HB_4 := Lib.hid (HB_3.out.within (within_of hb) (by omega))
    have HZ_4 := Lib.hid (HZ_3.out.within (within_of hb) (by omega))
    have BX_4 := Lib.hid (BX_3.out.within (within_of hb) (by omega))
    have OB_4 := Lib.hid (OB_3.out.within (within_of hb) (by omega))
    clear hb
    go_wp2_with fail
    go_ret
    exact ⟨by rw [HRV.out]; rfl, W4.out⟩
end Go.Proofs.Ytdnmmjaelgjkaaa
/- What (barSet).rank answers: whatever the order in which the map is ranged over. No condition. -/
namespace Go.Proofs.Ytdnmmjaelgjkaaa
open Go.RowKit

open Go.Maps

/-- What stands while the map's keys are collected. -/
structure RkP (w W : World) (b n : Nat) (D : DataW Unit) (v0 v1 v2 v3 v4 : Value) (A : Option Addr) (l : List (Int × Int)) (left : Lit → Bool) (cnt : Nat) (ks : List Int) (Ao : Option Addr) (co lo hi : Nat) : Prop where
  rg : ORng W b (w.heap.size + 1) n D left cnt
  row : OwnR W lo hi Ao co ks
  lo : w.heap.size + 2 ≤ lo ∧ lo ≤ W.heap.size
  num : ks.length + cnt ≤ n
  col : CollS D left ks
  bx : Cel5 W w.heap.size 104 v0 v1 v2 v3 v4
  bars : BarsIn W 0 w.heap.size A l
  bel : Below w.heap.size w W
section
variable {w W W1 W2 : World} {b n : Nat} {D : DataW Unit} {v0 v1 v2 v3 v4 : Value} {A : Option Addr} {l : List (Int × Int)} {left : Lit → Bool} {cnt cnt1 : Nat} {ks : List Int} {Ao A2 : Option Addr} {co lo hi c2 lo2 hi2 : Nat} {x : Int}
theorem RkP.row1 (h : RkP w W b n D v0 v1 v2 v3 v4 A l left cnt ks Ao co lo hi) (hg : W.grownBy W1 (some (w.heap.size + 1))) : OwnR W1 lo hi Ao co ks ∧ lo ≤ W1.heap.size :=
  ⟨h.row.within (within_grown hg) (.inr (by have := h.lo; omega)), Nat.le_trans h.lo.2 hg.size⟩
theorem RkP.step (h : RkP w W b n D v0 v1 v2 v3 v4 A l left cnt ks Ao co lo hi) (hb : b < w.heap.size) {left' : Lit → Bool} (hr : ORng W1 b (w.heap.size + 1) n D left' cnt1) (hlt : cnt1 < cnt) (hg : W.grownBy W1 (some (w.heap.size + 1))) (hc : CollS D left' (ks ++ [x]))
    (ho : OwnR W2 lo2 hi2 A2 c2 (ks ++ [x])) (hd : (lo2 = lo ∧ hi2 = hi) ∨ (W1.heap.size ≤ lo2 ∧ lo2 ≤ W2.heap.size ∧ hi2 ≤ W2.heap.size)) (hw : Within lo hi W1 W2) :
    RkP w W2 b n D v0 v1 v2 v3 v4 A l left' cnt1 (ks ++ [x]) A2 c2 lo2 hi2 := by
  obtain ⟨h1, h2, h3, h4, h5, h6, h7, h8⟩ := h
  have w1 := within_grown hg
  have s0 := h8.size
  have s1 := w1.size
  have s2 := hw.size
  have hr1 := hr.lt
  have hb1 : b < W1.heap.size := by omega
  refine ⟨orng_block hr (hw.block b hb1 (.inl (by omega))) (hw.block _ hr1 (.inl (by omega))), ho, ?_, by simp; omega, hc, (h6.within w1 (.inl (by omega))).within hw (.inl (by omega)), (h7.within w1 (.inl (by omega))).within hw (.inl (by omega)), within_on (within_on h8 w1 s0 (.inl (by omega))) hw (by omega) (.inl (by omega))⟩
  rcases hd with ⟨rfl, rfl⟩ | hd
  · omega
  · omega
end

set_option maxHeartbeats 4000000 in
set_option maxRecDepth 100000 in
theorem mrank (p k c : Int) (l : List (Int × Int)) (A : Option Addr) (cap b n : Nat) (zs : List Int) (w : World) (hl : BarsAt w w.heap.size A l) (hs : SetM w b n zs) (hn : l.length ≤ 1048576) (hn2 : n ≤ 1048576) :
    Calls Try.prog 102 #[bsV p A l.length cap k c b] w fun e w' => e = .returned (.int .i64 (rankSV p k c l zs)) ∧ Below w.heap.size w w' := by
  obtain ⟨rv, hrv⟩ : ∃ rv, rankSV p k c l zs = rv := ⟨_, rfl⟩
  rw [hrv]
  have HRV := Lib.hid hrv
  clear hrv
  have hbl := hs.lt
  obtain ⟨D, hown, hsay⟩ := hs
  have HSAY := Lib.hid hsay
  have hA := new_below w (.cells #[.int .i64 p, .slice A l.length cap, .int .i64 k, .int .i64 c, .map (some b)] 104)
  have hsz : (w.alloc (.cells #[.int .i64 p, .slice A l.length cap, .int .i64 k, .int .i64 c, .map (some b)] 104)).heap.size = w.heap.size + 1 := by simp
  have HA := Lib.hid hA
  have HBX := Lib.hid (cel5_new w (.int .i64 p) (.slice A l.length cap) (.int .i64 k) (.int .i64 c) (.map (some b)) 104)
  have HOM := Lib.hid (omap_block hown (hA.block b hbl))
  have HBR := Lib.hid ((bars_in hl).within (within_of hA) (.inr (Nat.zero_le _)))
  have HSZ := Lib.hid hsz
  have HBL := Lib.hid hbl
  clear hl hown hsay hA hsz hbl
  go_enter Try.func102, Try.ntmps102
  obtain ⟨x0, x1, x2, x3, x4⟩ := HBX.out.cells
  go_wp2_with (first
    | (at_range; refine wpList_range_own _ rfl _ 102 rfl 3 4 lawI Try.underlying102 _ b n D rfl HOM.out ?_; intro w2 hrg0 hg0 hs0)
    | go_in)
  try go_frame
  clear x0 x1 x2 x3 x4
  have HST := Lib.hid (show RkP w w2 b n D (.int .i64 p) (.slice A l.length cap) (.int .i64 k) (.int .i64 c) (.map (some b)) A l (Maps.has D) (Maps.size D) [] none 0 w2.heap.size w2.heap.size from by
    have hw := within_none hg0
    have hsz := HSZ.out
    rw [hsz] at hrg0 hs0
    have hsl := HOM.out.size_le
    exact ⟨hrg0, ⟨Nat.le_refl _, .inl ⟨rfl, rfl, rfl⟩⟩, by omega, by simpa using hsl, CollS.start D, HBX.out.within hw (.inr (Nat.zero_le _)), HBR.out.within hw (.inr (Nat.zero_le _)), within_on HA.out hw (by omega) (.inr (Nat.zero_le _))⟩)
  clear hrg0 hg0 hs0
  rw [HSZ.out]
  go_loopw [3, 4] (fun u _ wr => ∃ (left : Lit → Bool) (cnt : Nat) (ks : List Int) (Ao : Option Addr) (co lo hi : Nat), u = .slice Ao ks.length co ∧ RkP w wr b n D (.int .i64 p) (.slice A l.length cap) (.int .i64 k) (.int .i64 c) (.map (some b)) A l left cnt ks Ao co lo hi) (fun _ _ wr => wr.rangeLeft b (w.heap.size + 1))
  case atStart => exact ⟨_, _, [], none, 0, _, _, rfl, HST.out⟩
  case round =>
    obtain ⟨left, cnt, ks, Ao, co, lo, hi, rfl, hst⟩ := hrel
    have HS := Lib.hid hst
    obtain ⟨x0, x1, x2, x3, x4⟩ := hst.bx.cells
    have hrg := hst.rg
    clear hst
    go_wp2_with (first
      | (at_next; refine wpList_next_ranges _ rfl _ rfl 3 lawI (plainElem (H := Unit) Try.prog 4) (Value.int .i64) Value.bool (fun key kl hk => by obtain ⟨x, hx, _⟩ := Maps.keyOf_int_inv Try.underlying3 hk; exact ⟨x, hx⟩) (fun v y hv => bool_inv Try.underlying4 hv) b (w.heap.size + 1) n D left cnt rfl hrg ?_ ?_)
      | go_in)
    · intro hc0 hl0
      have HE := Lib.hid ((rankSV_same (p := p) (k := k) (c := c) (l := l) fun j hj => HS.out.col.done HSAY.out hl0 l.length hn j hj).trans HRV.out)
      have hks : ks.length ≤ 1048576 := by have := HS.out.num; omega
      have HKS := Lib.hid hks
      clear hc0 hl0 hrg hks
      go_wp2_with (go_at_call 42; refine (implRankSet p k c l ks A Ao cap co lo hi _ HS.out.bars.at HS.out.row.ints.reads hn HKS.out).mono ?_; rintro e w9 ⟨rfl, hb⟩; rw [HE.out]; have HB9 := Lib.hid hb; clear hb)
      go_ret
      exact ⟨rfl, below_on HS.out.bel HB9.out HS.out.bel.size⟩
    · intro x
      constructor
      all_goals
        intro kl yd yp w3 cnt1 hkey hlk hv hat hrg1 hlt hg1 hs1 hen
        obtain ⟨x', ex, rfl, hwx⟩ := Maps.keyOf_int_inv Try.underlying3 hkey
        cases ex
        have HR1 := Lib.hid (HS.out.row1 hg1)
        have HC := Lib.hid (HS.out.col.step hwx hat)
        have HRG1 := Lib.hid hrg1
        have HG1 := Lib.hid hg1
        have HLT := Lib.hid hlt
        have HRG := Lib.hid hrg
        have hks : ks.length ≤ 1048576 := by have := HS.out.num; omega
        have HKS := Lib.hid hks
        clear hs1 hrg1 hg1 hrg hat hlk hv hkey hlt hks
        go_wp2_with (first
          | (at_builtin; refine wpList_pushR _ rfl _ _ rfl lo hi Ao co ks x rfl HR1.out.1 _ (by first | rfl | (simp only [World.size_setCell]; rfl)) HKS.out HR1.out.2 ?_; intro A5 c5 w15 lo5 hi5 hr5 hor5 hw5; have HN := Lib.hid (HS.out.step HBL.out HRG1.out HLT.out HG1.out HC.out hr5 hor5 hw5); clear hr5 hor5 hw5; go_frame)
          | go_in)
        go_roundw
        case rel => exact ⟨_, cnt1, ks ++ [x], A5, c5, lo5, hi5, by simp, HN.out⟩
        case measure => rw [HN.out.rg.left_eq, HRG.out.left_eq]; exact HLT.out
end Go.Proofs.Ytdnmmjaelgjkaaa
/- What (barSet).rankWithout answers. No condition. -/
namespace Go.Proofs.Ytdnmmjaelgjkaaa
open Go.RowKit

open Go.Maps

set_option maxHeartbeats 4000000 in
set_option maxRecDepth 100000 in
theorem rankWo (p k c : Int) (l : List (Int × Int)) (A : Option Addr) (cap b n B : Nat) (zs : List Int) (x : Int) (w : World) (hl : BarsIn w 0 B A l) (hB : B ≤ b) (hs : SetM w b n zs) (hn : l.length ≤ 1048576) (hn2 : n + 1 ≤ 1048576) (hw : (Lit.int .i64 x).wf = true) (hx : x ∈ zs) :
    Calls Try.prog 100 #[bsV p A l.length cap k c b, .int .i64 x] w fun e w' => e = .returned (.int .i64 (rankSV p k c l (zs.filter fun y => !decide (y = x)))) ∧ SetM w' b (n + 1) zs ∧ Within b (b + 1) w w' := by
  have hbl := hs.lt
  obtain ⟨D, hown, hsay⟩ := hs
  have HSAY := Lib.hid hsay
  have hA := new_below w (.cells #[.int .i64 p, .slice A l.length cap, .int .i64 k, .int .i64 c, .map (some b)] 104)
  have HA := Lib.hid (show Within b (b + 1) w (w.alloc (.cells #[.int .i64 p, .slice A l.length cap, .int .i64 k, .int .i64 c, .map (some b)] 104)) from (within_of hA).widen (.inl (Nat.le_refl _)))
  have HBX := Lib.hid (cel5_new w (.int .i64 p) (.slice A l.length cap) (.int .i64 k) (.int .i64 c) (.map (some b)) 104)
  have HOM := Lib.hid (omap_block hown (hA.block b hbl))
  have HBR := Lib.hid (hl.within (within_of hA) (.inr (Nat.zero_le _)))
  have HBL := Lib.hid hbl
  have HWF := Lib.hid hw
  have HN2 := Lib.hid hn2
  have HBB := Lib.hid hB
  have HSW := Lib.hid hA.size
  clear hl hown hsay hA hbl hw hn2 hB
  have HX := Lib.hid hx
  obtain ⟨rv, hrv⟩ : ∃ rv, rankSV p k c l (zs.filter fun y => !decide (y = x)) = rv := ⟨_, rfl⟩
  rw [hrv]
  have HRV := Lib.hid hrv
  clear hrv hx
  go_enter Try.func100, Try.ntmps100
  obtain ⟨x0, x1, x2, x3, x4⟩ := HBX.out.cells
  go_wp2_with (first
    | (at_mapUpdate; refine wpList_mapUpdate_own _ rfl _ _ _ 102 rfl 3 4 lawI Try.underlying102 _ b n _ rfl HOM3.out (by have := HN2.out; unfold maxLen; omega) _ _ (.int .i64 x) rfl rfl (keyOf_int_mk Try.underlying3 HWF.out) _ [] (plainElem_bool Try.underlying4 true) ?_; intro w4 hown hg; have HF := Lib.hid (show SetM w4 b (n + 1) zs from ⟨_, hown, (HSAY3.out.put HOM3.out.isMap x).congr fun y => by simp; exact ⟨fun h => h.elim (fun h => h.1) (fun h => h ▸ HX.out), fun h => by by_cases e : y = x; exact .inr e; exact .inl ⟨h, e⟩⟩⟩); have HWF4 := Lib.hid (HW3.out.trans (within_grown hg)); clear hown hg)
    | (go_at_call 102; refine (mrank p k c l A cap b n _ _ HBR2.out.at ⟨_, HOM2.out, HSAY2.out⟩ hn (by have := HN2.out; omega)).mono ?_; rintro e w3 ⟨rfl, hb⟩; rw [HRV.out]; have HW3 := Lib.hid (HW2.out.trans ((within_of hb).widen (.inl (Nat.le_refl _)))); have HOM3 := Lib.hid (omap_block HOM2.out (hb.block b (by have := HOM2.out.lt; omega))); have HSAY3 := HSAY2; obtain ⟨z0, z1, z2, z3, z4⟩ := (HBX2.out.within (within_of hb) (.inr (Nat.zero_le _))).cells; clear hb y0 y1 y2 y3 y4)
    | (at_delete; refine wpList_delete_own _ rfl _ _ 102 3 rfl 4 lawI Try.underlying102 _ b n _ rfl HOM.out _ _ rfl (keyOf_int_mk Try.underlying3 HWF.out) ?_; intro w2 hown  hturn; have HOM2 := Lib.hid hown; have HSAY2 := Lib.hid (HSAY.out.del x); have hgg := within_grown hturn.grown; have HW2 := Lib.hid (HA.out.trans hgg); have HBX2 := Lib.hid (HBX.out.within hgg (.inr (by have := HBL.out; omega))); have HBR2 := Lib.hid (HBR.out.within hgg (.inl HBB.out)); obtain ⟨y0, y1, y2, y3, y4⟩ := HBX2.out.cells; clear hown hturn hgg x0 x1 x2 x3 x4)
    | go_in)
  go_ret
  exact ⟨rfl, HF.out, HWF4.out⟩
end Go.Proofs.Ytdnmmjaelgjkaaa
/- What slices.Contains answers on a row of ints. No condition. -/
namespace Go.Proofs.Ytdnmmjaelgjkaaa
open Go.RowKit

set_option maxHeartbeats 2000000 in
set_option maxRecDepth 100000 in
theorem slIndex (zs : List Int) (x : Int) (A : Option Addr) (cap lo hi : Nat) (w : World) (hl : IntsIn w lo hi A zs) (hn : zs.length ≤ 1048576) :
    Calls Try.prog 139 #[.slice A zs.length cap, .int .i64 x] w fun e w' => (∃ r : Int, e = .returned (.int .i64 r) ∧ (0 ≤ r ↔ x ∈ zs)) ∧ w = w' := by
  have HL := Lib.hid hl
  clear hl
  go_enter Try.func139, Try.ntmps139
  go_wp2_with fail
  go_loop [8] (fun i => ∃ k : Nat, k ≤ zs.length ∧ i = .int .i64 k ∧ ∀ j, j < k → zs.getD j 0 ≠ x) (fun i => zs.length - (intOf i).toNat)
  case atStart => exact ⟨0, by omega, rfl, fun j hj => absurd hj (by omega)⟩
  case round =>
    obtain ⟨k, hk, rfl, hall⟩ := hrel
    have HALL := Lib.hid hall
    clear hall
    by_cases hlt : k < zs.length
    · have hi : (k : Int) < (zs.length : Int) := by omega
      obtain ⟨b, off, rfl, _, _, hcell⟩ := HL.out.2 (by omega)
      have hc := hcell k hlt
      clear hcell
      have HM := Lib.hid (show zs.getD k 0 ∈ zs by
        have : zs.getD k 0 = zs[k] := by simp [List.getD, List.getElem?_eq_getElem hlt]
        rw [this]; exact List.getElem_mem hlt)
      obtain ⟨y, hy⟩ : ∃ y, zs.getD k 0 = y := ⟨_, rfl⟩
      rw [hy] at hc HM
      by_cases he : y = x
      · have he' : (x == y) = true := by simpa using he.symm
        have HD := Lib.hid (show (0 : Int) ≤ (k : Int) ↔ x ∈ zs from ⟨fun _ => by rw [← he]; exact HM.out, fun _ => by omega⟩)
        clear he hy
        go_wp2_with fail
        go_ret
        exact ⟨⟨_, rfl, HD.out⟩, rfl⟩
      · have he' : (x == y) = false := by simpa using fun e => he e.symm
        have HS := Lib.hid (show ∀ j, j < k + 1 → zs.getD j 0 ≠ x from fun j hj => by
          by_cases e : j = k
          · subst e; rw [hy]; exact he
          · exact HALL.out j (by omega))
        clear he hy
        go_wp2_with fail
        go_round
        case rel => exact ⟨k + 1, by omega, by go_num, HS.out⟩
        case measure => simp [intOf]; omega
    · obtain rfl : k = zs.length := by omega
      have HD := Lib.hid (show (0 : Int) ≤ -1 ↔ x ∈ zs by
        refine ⟨fun h => absurd h (by omega), fun hm => False.elim ?_⟩
        obtain ⟨i, hi, e⟩ := List.getElem_of_mem hm
        refine HALL.out i hi ?_
        simpa [List.getD, List.getElem?_eq_getElem hi] using e)
      go_wp2_with fail
      go_ret
      exact ⟨⟨_, rfl, HD.out⟩, rfl⟩

set_option maxHeartbeats 2000000 in
set_option maxRecDepth 100000 in
theorem slContains (zs : List Int) (x : Int) (A : Option Addr) (cap lo hi : Nat) (w : World) (hl : IntsIn w lo hi A zs) (hn : zs.length ≤ 1048576) :
    Calls Try.prog 96 #[.slice A zs.length cap, .int .i64 x] w fun e w' => e = .returned (.bool (decide (x ∈ zs))) ∧ w = w' := by
  have HL := Lib.hid hl
  clear hl
  by_cases hm : x ∈ zs
  · rw [decide_eq_true hm]
    have HM := Lib.hid hm
    clear hm
    go_enter Try.func96, Try.ntmps96
    go_wp2_with fail
    refine (slIndex zs x A cap lo hi _ HL.out hn).mono ?_
    rintro e w1 ⟨⟨r, rfl, hr⟩, rfl⟩
    have hr0 : 0 ≤ r := hr.2 HM.out
    clear hr
    go_wp2_with fail
    go_ret
    exact ⟨by first | rfl | simp [hr0], rfl⟩
  · rw [decide_eq_false hm]
    have HM := Lib.hid hm
    clear hm
    go_enter Try.func96, Try.ntmps96
    go_wp2_with fail
    refine (slIndex zs x A cap lo hi _ HL.out hn).mono ?_
    rintro e w1 ⟨⟨r, rfl, hr⟩, rfl⟩
    have hr0 : ¬ 0 ≤ r := fun h => HM.out (hr.1 h)
    have hr1 : r < 0 := by omega
    clear hr
    go_wp2_with fail
    go_ret
    exact ⟨by first | rfl | simp [hr0] | simp [hr1], rfl⟩
end Go.Proofs.Ytdnmmjaelgjkaaa
/- What impl.RejectedBars answers. No condition. -/
namespace Go.Proofs.Ytdnmmjaelgjkaaa
open Go.RowKit

set_option maxHeartbeats 4000000 in
set_option maxRecDepth 100000 in
theorem implRej (p k c : Int) (l : List (Int × Int)) (A : Option Addr) (cap : Nat) (w : World) (hl : BarsAt w w.heap.size A l) (hn : l.length ≤ 1048576) :
    Calls Try.prog 59 #[.agg #[.int .i64 p, .slice A l.length cap], .int .i64 k, .int .i64 c] w (IntsO w (rejV p k c l)) := by
  cases hb : runB p k c l with
  | false =>
    have HR := Lib.hid (rejV_no hb)
    have HNW : ∀ W : World, BarsAt W W.heap.size A l → Calls Try.prog 56 #[.agg #[.int .i64 p, .slice A l.length cap], .int .i64 k, .int .i64 c] W (PebOB W (runV p k c l).1 (runV p k c l).2.1 (runV p k c l).2.2 false) := fun W h => by have hc := implRunP p k c l A cap W h hn; rw [hb] at hc; exact hc
    clear hb
    have W0 := Lib.hid (Below.refl w.heap.size w)
    have HB_0 := Lib.hid (bars_in hl)
    clear hl
    have Z1 := Lib.hid (within_alloc w (.cells #[.int .i64 p, (.slice A l.length cap)] 29)).size
    have W1 := Lib.hid (within_on W0.out (within_alloc w (.cells #[.int .i64 p, (.slice A l.length cap)] 29)) W0.out.size (.inr (Nat.le_refl _)))
    have HB_1 := Lib.hid (HB_0.out.within (within_alloc w (.cells #[.int .i64 p, (.slice A l.length cap)] 29)) (by omega))
    have Y1 := Lib.hid (show (w.alloc (.cells #[.int .i64 p, (.slice A l.length cap)] 29)).heap.size = w.heap.size + 1 by simp)
    have hnew := box_new w p (.slice A l.length cap) 29
    have BX_1 := Lib.hid hnew
    clear hnew
    go_enter Try.func59, Try.ntmps59
    obtain ⟨g0_0, g0_1, g0_2⟩ := BX_1.out
    go_wp2_with fail
    clear g0_0 g0_1 g0_2
    generalize (w.alloc (.cells #[.int .i64 p, (.slice A l.length cap)] 29)) = w1 at *
    refine (HNW _ HB_1.out.at).mono ?_
    rintro e w2 ⟨AF, cF, AT, cT, AZ, cZ, rfl, ho, hb⟩
    have Z2 := Lib.hid (within_of hb).size
    have W2 := Lib.hid (within_on W1.out (within_of hb) W1.out.size (.inr (Nat.le_refl _)))
    have HB_2 := Lib.hid (HB_1.out.within (within_of hb) (by omega))
    have BX_2 := Lib.hid (BX_1.out.within (within_of hb) (by omega))
    have OP_2 := Lib.hid (ho)
    clear ho hb
    have Z3 := Lib.hid (within_alloc w2 (.cells #[(.slice AF (runV p k c l).1.length cF), (.slice AT (runV p k c l).2.1.length cT), (.slice AZ (runV p k c l).2.2.length cZ)] 64)).size
    have W3 := Lib.hid (within_on W2.out (within_alloc w2 (.cells #[(.slice AF (runV p k c l).1.length cF), (.slice AT (runV p k c l).2.1.length cT), (.slice AZ (runV p k c l).2.2.length cZ)] 64)) W2.out.size (.inr (Nat.le_refl _)))
    have HB_3 := Lib.hid (HB_2.out.within (within_alloc w2 (.cells #[(.slice AF (runV p k c l).1.length cF), (.slice AT (runV p k c l).2.1.length cT), (.slice AZ (runV p k c l).2.2.length cZ)] 64)) (by omega))
    have BX_3 := Lib.hid (BX_2.out.within (within_alloc w2 (.cells #[(.slice AF (runV p k c l).1.length cF), (.slice AT (runV p k c l).2.1.length cT), (.slice AZ (runV p k c l).2.2.length cZ)] 64)) (by omega))
    have OP_3 := Lib.hid (OP_2.out.within (within_alloc w2 (.cells #[(.slice AF (runV p k c l).1.length cF), (.slice AT (runV p k c l).2.1.length cT), (.slice AZ (runV p k c l).2.2.length cZ)] 64)) (by omega))
    have Y3 := Lib.hid (show (w2.alloc (.cells #[(.slice AF (runV p k c l).1.length cF), (.slice AT (runV p k c l).2.1.length cT), (.slice AZ (runV p k c l).2.2.length cZ)] 64)).heap.size = w2.heap.size + 1 by simp)
    have hnew := cel3_new w2 (.slice AF (runV p k c l).1.length cF) (.slice AT (runV p k c l).2.1.length cT) (.slice AZ (runV p k c l).2.2.length cZ) 64
    have BP_3 := Lib.hid hnew
    clear hnew
    go_wp2_with fail
    generalize (w2.alloc (.cells #[(.slice AF (runV p k c l).1.length cF), (.slice AT (runV p k c l).2.1.length cT), (.slice AZ (runV p k c l).2.2.length cZ)] 64)) = w3 at *
    go_ret
    exact ⟨none, 0, by rw [HR.out]; rfl, by rw [HR.out]; exact ⟨Nat.le_refl _, .inl rfl⟩, W3.out⟩
  | true =>
    have HR := Lib.hid (rejV_yes hb)
    have HNW : ∀ W : World, BarsAt W W.heap.size A l → Calls Try.prog 56 #[.agg #[.int .i64 p, .slice A l.length cap], .int .i64 k, .int .i64 c] W (PebOB W (runV p k c l).1 (runV p k c l).2.1 (runV p k c l).2.2 true) := fun W h => by have hc := implRunP p k c l A cap W h hn; rw [hb] at hc; exact hc
    clear hb
    have W0 := Lib.hid (Below.refl w.heap.size w)
    have HB_0 := Lib.hid (bars_in hl)
    clear hl
    have Z1 := Lib.hid (within_alloc w (.cells #[.int .i64 p, (.slice A l.length cap)] 29)).size
    have W1 := Lib.hid (within_on W0.out (within_alloc w (.cells #[.int .i64 p, (.slice A l.length cap)] 29)) W0.out.size (.inr (Nat.le_refl _)))
    have HB_1 := Lib.hid (HB_0.out.within (within_alloc w (.cells #[.int .i64 p, (.slice A l.length cap)] 29)) (by omega))
    have Y1 := Lib.hid (show (w.alloc (.cells #[.int .i64 p, (.slice A l.length cap)] 29)).heap.size = w.heap.size + 1 by simp)
    have hnew := box_new w p (.slice A l.length cap) 29
    have BX_1 := Lib.hid hnew
    clear hnew
    go_enter Try.func59, Try.ntmps59
    obtain ⟨g0_0, g0_1, g0_2⟩ := BX_1.out
    go_wp2_with fail
    clear g0_0 g0_1 g0_2
    generalize (w.alloc (.cells #[.int .i64 p, (.slice A l.length cap)] 29)) = w1 at *
    refine (HNW _ HB_1.out.at).mono ?_
    rintro e w2 ⟨AF, cF, AT, cT, AZ, cZ, rfl, ho, hb⟩
    have Z2 := Lib.hid (within_of hb).size
    have W2 := Lib.hid (within_on W1.out (within_of hb) W1.out.size (.inr (Nat.le_refl _)))
    have HB_2 := Lib.hid (HB_1.out.within (within_of hb) (by omega))
    have BX_2 := Lib.hid (BX_1.out.within (within_of hb) (by omega))
    have OP_2 := Lib.hid (ho)
    clear ho hb
    have Z3 := Lib.hid (within_alloc w2 (.cells #[(.slice AF (runV p k c l).1.length cF), (.slice AT (runV p k c l).2.1.length cT), (.slice AZ (runV p k c l).2.2.length cZ)] 64)).size
    have W3 := Lib.hid (within_on W2.out (within_alloc w2 (.cells #[(.slice AF (runV p k c l).1.length cF), (.slice AT (runV p k c l).2.1.length cT), (.slice AZ (runV p k c l).2.2.length cZ)] 64)) W2.out.size (.inr (Nat.le_refl _)))
    have HB_3 := Lib.hid (HB_2.out.within (within_alloc w2 (.cells #[(.slice AF (runV p k c l).1.length cF), (.slice AT (runV p k c l).2.1.length cT), (.slice AZ (runV p k c l).2.2.length cZ)] 64)) (by omega))
    have BX_3 := Lib.hid (BX_2.out.within (within_alloc w2 (.cells #[(.slice AF (runV p k c l).1.length cF), (.slice AT (runV p k c l).2.1.length cT), (.slice AZ (runV p k c l).2.2.length cZ)] 64)) (by omega))
    have OP_3 := Lib.hid (OP_2.out.within (within_alloc w2 (.cells #[(.slice AF (runV p k c l).1.length cF), (.slice AT (runV p k c l).2.1.length cT), (.slice AZ (runV p k c l).2.2.length cZ)] 64)) (by omega))
    have Y3 := Lib.hid (show (w2.alloc (.cells #[(.slice AF (runV p k c l).1.length cF), (.slice AT (runV p k c l).2.1.length cT), (.slice AZ (runV p k c l).2.2.length cZ)] 64)).heap.size = w2.heap.size + 1 by simp)
    have hnew := cel3_new w2 (.slice AF (runV p k c l).1.length cF) (.slice AT (runV p k c l).2.1.length cT) (.slice AZ (runV p k c l).2.2.length cZ) 64
    have BP_3 := Lib.hid hnew
    clear hnew
    obtain ⟨g1_0, g1_1, g1_2⟩ := BX_3.out
    go_wp2_with fail
    clear g1_0 g1_1 g1_2
    generalize (w2.alloc (.cells #[(.slice AF (runV p k c l).1.length cF), (.slice AT (runV p k c l).2.1.length cT), (.slice AZ (runV p k c l).2.2.length cZ)] 64)) = w3 at *
    have hlen := (runV_len p k c l).2.2
    have HLEN := Lib.hid hlen
    clear hlen
    have hzr := OP_3.out.reads.z
    have HZ := Lib.hid hzr
    clear hzr
    have hpbl : w2.heap.size < w3.heap.size := BP_3.out.lt
    have HP0 := Lib.hid (show RejP w3.heap.size w3.heap.size w3 w3 (runV p k c l).2.2 0 none 0 w3.heap.size w3.heap.size from ⟨⟨Nat.le_refl _, .inl ⟨rfl, rfl, rfl⟩⟩, .inr (Nat.le_refl _), Nat.le_refl _, Within.refl _ _ w3⟩)
    have HPB := Lib.hid hpbl
    clear hpbl
    go_loopw [9, 23] (fun u i wr => ∃ j : Nat, j ≤ l.length ∧ i = .int .i64 j ∧ ∃ Ao co lo hi, u = .slice Ao (rejK (runV p k c l).2.2 j).length co ∧ RejP w3.heap.size w3.heap.size w3 wr (runV p k c l).2.2 j Ao co lo hi) (fun _ i _ => l.length - (intOf i).toNat)
    case atStart => exact ⟨0, Nat.zero_le _, rfl, none, 0, _, _, rfl, HP0.out⟩
    case round =>
      obtain ⟨j, hj, rfl, Ao, co, lo, hi, rfl, hst⟩ := hrel
      have HS := Lib.hid hst
      obtain ⟨c0, c1, c2, _, _, _⟩ := (BP_3.out.within hst.wi (.inl HPB.out)).cells
      have HZ2 := Lib.hid (HZ.out.within hst.wi (.inl (IntsIn.hi HZ.out)))
      clear hst
      by_cases hlt : j < l.length
      · have hji : (j : Int) < (l.length : Int) := by omega
        have hjr := rejK_len (runV p k c l).2.2 j
        by_cases hm : (j : Int) ∈ (runV p k c l).2.2
        · have HM := Lib.hid (decide_eq_true hm)
          have HN := Lib.hid (HS.out.same hm)
          have HK := Lib.hid (rejK_in hm)
          clear hm
          go_wp2_with (go_at_call 96; refine (slContains (runV p k c l).2.2 (j : Int) AZ cZ _ _ _ HZ2.out (by have := HLEN.out; omega)).mono ?_; rintro e w9 ⟨rfl, rfl⟩; rw [HM.out])
          go_roundw
          case rel => exact ⟨j + 1, by omega, by go_num, Ao, co, lo, hi, by rw [HK.out], HN.out⟩
          case measure => simp [intOf]; omega
        · have HM := Lib.hid (decide_eq_false hm)
          have HNM := Lib.hid hm
          have HK := Lib.hid (show (rejK (runV p k c l).2.2 (j + 1)).length = (rejK (runV p k c l).2.2 j).length + 1 by rw [rejK_out hm]; simp)
          clear hm
          go_wp2_with (first
            | (at_builtin; refine wpList_pushR _ rfl _ _ rfl lo hi Ao co (rejK (runV p k c l).2.2 j) (j : Int) rfl HS.out.row _ (by first | rfl | (simp only [World.size_setCell]; rfl)) (by omega) HS.out.le ?_; intro A5 c5 w15 lo5 hi5 hr5 hor5 hw5; have HN := Lib.hid (HS.out.push HNM.out hr5 hor5 hw5); clear hr5 hor5 hw5)
            | (go_at_call 96; refine (slContains (runV p k c l).2.2 (j : Int) AZ cZ _ _ _ HZ2.out (by have := HLEN.out; omega)).mono ?_; rintro e w9 ⟨rfl, rfl⟩; rw [HM.out]))
          go_roundw
          case rel => exact ⟨j + 1, by omega, by go_num, A5, c5, lo5, hi5, by rw [HK.out], HN.out⟩
          case measure => simp [intOf]; omega
      · obtain rfl : j = l.length := by omega
        go_wp2_with fail
        go_ret
        rw [HR.out]
        have hbs := W3.out.size
        exact ⟨Ao, co, rfl, HS.out.out hbs hbs, within_on W3.out HS.out.wi hbs (.inl hbs)⟩
end Go.Proofs.Ytdnmmjaelgjkaaa
/- What impl.AcceptedBars answers. No condition. -/
namespace Go.Proofs.Ytdnmmjaelgjkaaa
open Go.RowKit

set_option maxHeartbeats 2000000 in
set_option maxRecDepth 100000 in
theorem implAcc (p k c : Int) (l : List (Int × Int)) (A : Option Addr) (cap : Nat) (w : World) (hl : BarsAt w w.heap.size A l) (hn : l.length ≤ 1048576) :
    Calls Try.prog 58 #[.agg #[.int .i64 p, .slice A l.length cap], .int .i64 k, .int .i64 c] w (IntsO w (runV p k c l).2.2) := by
  have W0 := Lib.hid (Below.refl w.heap.size w)
  have HB_0 := Lib.hid (bars_in hl)
  clear hl
  have Z1 := Lib.hid (within_alloc w (.cells #[.int .i64 p, (.slice A l.length cap)] 29)).size
  have W1 := Lib.hid (within_on W0.out (within_alloc w (.cells #[.int .i64 p, (.slice A l.length cap)] 29)) W0.out.size (.inr (Nat.le_refl _)))
  have HB_1 := Lib.hid (HB_0.out.within (within_alloc w (.cells #[.int .i64 p, (.slice A l.length cap)] 29)) (by omega))
  have Y1 := Lib.hid (show (w.alloc (.cells #[.int .i64 p, (.slice A l.length cap)] 29)).heap.size = w.heap.size + 1 by simp)
  have hnew := box_new w p (.slice A l.length cap) 29
  have BX_1 := Lib.hid hnew
  clear hnew
  go_enter Try.func58, Try.ntmps58
  obtain ⟨g0_0, g0_1, g0_2⟩ := BX_1.out
  go_wp2_with fail
  clear g0_0 g0_1 g0_2
  generalize (w.alloc (.cells #[.int .i64 p, (.slice A l.length cap)] 29)) = w1 at *
  refine (implRunP p k c l A cap _ HB_1.out.at hn).mono ?_
  rintro e w2 ⟨AF, cF, AT, cT, AZ, cZ, rfl, ho, hb⟩
  have Z2 := Lib.hid (within_of hb).size
  have W2 := Lib.hid (within_on W1.out (within_of hb) W1.out.size (.inr (Nat.le_refl _)))
  have HB_2 := Lib.hid (HB_1.out.within (within_of hb) (by omega))
  have BX_2 := Lib.hid (BX_1.out.within (within_of hb) (by omega))
  have OP_2 := Lib.hid (ho)
  clear ho hb
  have Z3 := Lib.hid (within_alloc w2 (.cells #[(.slice AF (runV p k c l).1.length cF), (.slice AT (runV p k c l).2.1.length cT), (.slice AZ (runV p k c l).2.2.length cZ)] 64)).size
  have W3 := Lib.hid (within_on W2.out (within_alloc w2 (.cells #[(.slice AF (runV p k c l).1.length cF), (.slice AT (runV p k c l).2.1.length cT), (.slice AZ (runV p k c l).2.2.length cZ)] 64)) W2.out.size (.inr (Nat.le_refl _)))
  have HB_3 := Lib.hid (HB_2.out.within (within_alloc w2 (.cells #[(.slice AF (runV p k c l).1.length cF), (.slice AT (runV p k c l).2.1.length cT), (.slice AZ (runV p k c l).2.2.length cZ)] 64)) (by omega))
  have BX_3 := Lib.hid (BX_2.out.within (within_alloc w2 (.cells #[(.slice AF (runV p k c l).1.length cF), (.slice AT (runV p k c l).2.1.length cT), (.slice AZ (runV p k c l).2.2.length cZ)] 64)) (by omega))
  have OP_3 := Lib.hid (OP_2.out.within (within_alloc w2 (.cells #[(.slice AF (runV p k c l).1.length cF), (.slice AT (runV p k c l).2.1.length cT), (.slice AZ (runV p k c l).2.2.length cZ)] 64)) (by omega))
  have Y3 := Lib.hid (show (w2.alloc (.cells #[(.slice AF (runV p k c l).1.length cF), (.slice AT (runV p k c l).2.1.length cT), (.slice AZ (runV p k c l).2.2.length cZ)] 64)).heap.size = w2.heap.size + 1 by simp)
  have hnew := cel3_new w2 (.slice AF (runV p k c l).1.length cF) (.slice AT (runV p k c l).2.1.length cT) (.slice AZ (runV p k c l).2.2.length cZ) 64
  have BP_3 := Lib.hid hnew
  clear hnew
  obtain ⟨g1_0, g1_1, g1_2, g1_3, g1_4, g1_5⟩ := BP_3.out.cells
  go_wp2_with fail
  clear g1_0 g1_1 g1_2 g1_3 g1_4 g1_5
  generalize (w2.alloc (.cells #[(.slice AF (runV p k c l).1.length cF), (.slice AT (runV p k c l).2.1.length cT), (.slice AZ (runV p k c l).2.2.length cZ)] 64)) = w3 at *
  go_ret
  obtain ⟨f, t, z, _, _, oz, _, _, _, _, _, lz, hz⟩ := OP_3.out
  exact ⟨AZ, cZ, rfl, oz.widen (by have := Z1.out; have := Z2.out; have := Z3.out; have := Y1.out; have := Y3.out; omega) (by have := Z3.out; omega) (Nat.le_refl _), W3.out⟩
end Go.Proofs.Ytdnmmjaelgjkaaa
