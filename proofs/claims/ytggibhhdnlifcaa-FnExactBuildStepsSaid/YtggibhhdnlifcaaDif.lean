/- What a step asks of its points, the specification's and the program's (spec.l7Points, impl.hasDifferent). No condition. -/
import Derived.Test.YtggibhhdnlifcaaStepM
import Derived.Test.YtggibhhdnlifcaaHas
import Derived.Test.YtggibhhdnlifcaaCont
import Derived.Test.YtggibhhdnlifcaaHasPt
import Derived.OrdersHeld
import Derived.Deep.RegionHeld3
namespace Go.Proofs.Ytggibhhdnlifcaa
open Go.RowKit

theorem IntsIn.take {W : World} {lo hi : Nat} {A : Option Addr} {zs : List Int} (h : IntsIn W lo hi A zs) (k : Nat) : IntsIn W lo hi A (zs.take k) :=
  ⟨h.1, fun hl => by
    have hl' : 0 < zs.length := by rw [List.length_take] at hl; omega
    obtain ⟨b, off, e, h1, h2, hc⟩ := h.2 hl'
    refine ⟨b, off, e, h1, h2, fun j hj => ?_⟩
    rw [List.length_take] at hj
    rw [hc j (by omega)]
    simp [List.getD, show j < k by omega]⟩
theorem difB_next {p : Int} {zs : List Int} {n : Nat} (h : difB p zs n = true) (h1 : ptB p (zs.getD n 0) = true) (h2 : decide (zs.getD n 0 ∈ zs.take n) = false) : difB p zs (n + 1) = true := by rw [difB, h, h1, h2]; rfl
theorem difB_pt {p : Int} {zs : List Int} {n m : Nat} (h1 : ptB p (zs.getD n 0) = false) (hm : n < m) : difB p zs m = false :=
  difB_later (by rw [difB, h1]; simp) m hm
theorem difB_dup {p : Int} {zs : List Int} {n m : Nat} (h2 : decide (zs.getD n 0 ∈ zs.take n) = true) (hm : n < m) : difB p zs m = false :=
  difB_later (by rw [difB, h2]; simp) m hm

set_option maxHeartbeats 2000000 in
set_option maxRecDepth 100000 in
theorem hasDif_c (p : Int) (AG : Option Addr) (n capG : Nat) (zs : List Int) (zb lo hi : Nat) (w : World) (hz : IntsIn w lo hi (some ⟨zb, 0, none⟩) zs) (hn : zs.length ≤ 1000) :
    Calls Try.prog 161 #[.agg #[.int .i64 p, .slice AG n capG], .slice (some ⟨zb, 0, none⟩) zs.length zs.length] w fun e w' => e = .returned (.bool (difB p zs zs.length)) ∧ Below w.heap.size w w' := by
  have hA := new_below w (.cells #[.int .i64 p, .slice AG n capG] 30)
  have HA := Lib.hid hA
  have HBX := Lib.hid (box_new w p (.slice AG n capG) 30)
  have HZ := Lib.hid (hz.within (within_of hA) (.inr (Nat.zero_le _)))
  clear hz hA
  go_enter Try.func161, Try.ntmps161
  go_wp2_with fail
  generalize (w.alloc (.cells #[.int .i64 p, .slice AG n capG] 30)) = w1 at *
  go_loopw [9] (fun i wr => ∃ k : Nat, k ≤ zs.length ∧ i = .int .i64 k ∧ difB p zs k = true ∧ Below w1.heap.size w1 wr) (fun i _ => zs.length - (intOf i).toNat)
  case atStart => exact ⟨0, by omega, rfl, rfl, Below.refl _ _⟩
  case round =>
    obtain ⟨k, hk, rfl, hd, hb⟩ := hrel
    have HB := Lib.hid hb
    have BXR := Lib.hid (HBX.out.kept hb)
    have HZR := Lib.hid (HZ.out.within (within_of hb) (.inr (Nat.zero_le _)))
    have HDF := Lib.hid hd
    clear hb hd
    obtain ⟨g0, g1, g2⟩ := BXR.out
    by_cases hlt : k < zs.length
    · have hi0 : (k : Int) < (zs.length : Int) := by omega
      obtain ⟨b, off, e, _, _, hcell⟩ := HZR.out.2 (by omega)
      cases e
      have hc := hcell k hlt
      rw [Nat.zero_add] at hc
      have HTL := Lib.hid (show (zs.take k).length = k by rw [List.length_take]; omega)
      have HNX := Lib.hid (@difB_next p zs k HDF.out)
      have HPT := Lib.hid (@difB_pt p zs k zs.length)
      have HDP := Lib.hid (@difB_dup p zs k zs.length)
      obtain ⟨x, hx⟩ : ∃ x, zs.getD k 0 = x := ⟨_, rfl⟩
      rw [hx] at hc HNX HPT HDP
      clear hcell hx
      go_wp2_with fail
      refine (hasPoint_c p x AG n capG _).mono ?_
      rintro e w3 ⟨rfl, hb3⟩
      have HB3 := Lib.hid (below_on HB.out hb3 HB.out.size)
      have HZ3 := Lib.hid (HZR.out.within (within_of hb3) (.inr (Nat.zero_le _)))
      clear hb3 g0 g1 g2 hc
      cases hp : ptB p x with
      | false =>
        have HE := Lib.hid (HPT.out hp hlt)
        clear hp
        go_wp2_with fail
        go_ret
        exact ⟨by rw [HE.out]; rfl, below_on HA.out HB3.out HA.out.size⟩
      | true =>
        have HP1 := Lib.hid hp
        have HC := Lib.hid (slContains (zs.take k) x (some ⟨zb, 0, none⟩) zs.length _ _ w3 (HZ3.out.take k) (by have := HTL.out; omega))
        clear hp
        go_wp2_with fail
        have hc2 := HC.out
        rw [HTL.out] at hc2
        refine hc2.mono ?_
        rintro e w4 ⟨rfl, rfl⟩
        clear hc2
        cases hm : decide (x ∈ zs.take k) with
        | true =>
          have HE := Lib.hid (HDP.out hm hlt)
          clear hm
          go_wp2_with fail
          go_ret
          exact ⟨by rw [HE.out]; rfl, below_on HA.out HB3.out HA.out.size⟩
        | false =>
          have HE := Lib.hid (HNX.out HP1.out hm)
          clear hm
          go_wp2_with fail
          go_roundw
          case rel => exact ⟨k + 1, by omega, by go_num, HE.out, HB3.out⟩
          case measure => simp [intOf]; omega
    · obtain rfl : k = zs.length := by omega
      go_wp2_with fail
      go_ret
      exact ⟨by rw [HDF.out]; rfl, below_on HA.out HB.out HA.out.size⟩

set_option maxHeartbeats 4000000 in
set_option maxRecDepth 100000 in
theorem points_c (p : Int) (AG : Option Addr) (n capG : Nat) (zs : List Int) (zb lo hi : Nat) (w : World) (hz : IntsIn w lo hi (some ⟨zb, 0, none⟩) zs) (hn : zs.length ≤ 1000) :
    Calls Try.prog 96 #[.agg #[.int .i64 p, .slice AG n capG], .slice (some ⟨zb, 0, none⟩) zs.length zs.length] w fun e w' => e = .returned (.bool (difB p zs zs.length)) ∧ Below w.heap.size w w' := by
  have hA := new_below w (.cells #[.int .i64 p, .slice AG n capG] 30)
  have HA := Lib.hid hA
  have HBX := Lib.hid (box_new w p (.slice AG n capG) 30)
  have HZ := Lib.hid (hz.within (within_of hA) (.inr (Nat.zero_le _)))
  clear hz hA
  go_enter Try.func96, Try.ntmps96
  go_wp2_with fail
  generalize (w.alloc (.cells #[.int .i64 p, .slice AG n capG] 30)) = w1 at *
  go_loopw [5] (fun i wr => ∃ k : Nat, k ≤ zs.length ∧ i = .int .i64 k ∧ difB p zs k = true ∧ Below w1.heap.size w1 wr) (fun i _ => zs.length - (intOf i).toNat)
  case atStart => exact ⟨0, by omega, rfl, rfl, Below.refl _ _⟩
  case round =>
    obtain ⟨k, hk, rfl, hd, hb⟩ := hrel
    have HB := Lib.hid hb
    have BXR := Lib.hid (HBX.out.kept hb)
    have HZR := Lib.hid (HZ.out.within (within_of hb) (.inr (Nat.zero_le _)))
    have HDF := Lib.hid hd
    clear hb hd
    by_cases hlt : k < zs.length
    · have hi0 : (k : Int) < (zs.length : Int) := by omega
      obtain ⟨b, off, e, _, hbh, hcell⟩ := HZR.out.2 (by omega)
      cases e
      have hc := hcell k hlt
      rw [Nat.zero_add] at hc
      have HTL := Lib.hid (show (zs.take k).length = k by rw [List.length_take]; omega)
      have HNX := Lib.hid (@difB_next p zs k HDF.out)
      have HPT := Lib.hid (@difB_pt p zs k zs.length)
      have HDP := Lib.hid (@difB_dup p zs k zs.length)
      obtain ⟨x, hx⟩ : ∃ x, zs.getD k 0 = x := ⟨_, rfl⟩
      rw [hx] at hc HNX HPT HDP
      have KK := Lib.hid (show ∀ W : World, Below wr.heap.size wr W → W.cell? ⟨w.heap.size, 0, none⟩ = some (.int .i64 p) ∧ W.cell? ⟨zb, k, none⟩ = some (.int .i64 x) from
        fun W h => ⟨(BXR.out.kept h).2.1, (h.cell (p := ⟨zb, k, none⟩) (Nat.lt_of_lt_of_le hbh HZR.out.1)).trans hc⟩)
      have HD := Lib.hid ((Below.refl wr.heap.size wr).drew)
      clear hcell hx hbh
      by_cases h0 : x < 0
      · have HE := Lib.hid (HPT.out (show ptB p x = false by simp [ptB]; omega) hlt)
        have h0' : decide (x < 0) = true := decide_eq_true h0
        obtain ⟨g0, g1, g2⟩ := BXR.out
        go_wp2_with fail
        go_quiet (fail)
        go_wp2_with fail
        go_ret
        exact ⟨by rw [HE.out]; rfl, below_on HA.out (HB.out.trans (below_drewN _ _ _)) HA.out.size⟩
      · by_cases h1 : p ≤ x
        · have HE := Lib.hid (HPT.out (show ptB p x = false by simp [ptB]; omega) hlt)
          have h0' : decide (x < 0) = false := decide_eq_false h0
          have h1' : decide (p ≤ x) = true := decide_eq_true h1
          obtain ⟨g0, g1, g2⟩ := BXR.out
          go_wp2_with fail
          go_quiet (fail)
          go_wp2_with fail
          go_ret
          exact ⟨by rw [HE.out]; rfl, below_on HA.out (HB.out.trans (below_drewN _ _ _)) HA.out.size⟩
        · have HP1 := Lib.hid (show ptB p x = true by simp [ptB]; omega)
          cases hm : decide (x ∈ zs.take k) with
          | true =>
            have HM := Lib.hid hm
            have HE := Lib.hid (HDP.out hm hlt)
            clear hm
            obtain ⟨g0, g1, g2⟩ := BXR.out
            go_wp2_with fail
            refine wp_region_held_drew (S := (fun W' : World => W'.cell? ⟨w.heap.size, 0, none⟩ = some (.int .i64 p) ∧ W'.cell? ⟨zb, k, none⟩ = some (.int .i64 x))) (by kernel_rfl) ?_ (fun hHeld => ?_)
            · exact KK.out _ HD.out
            generalize wr.drew = WD at *
            refine wpAnyH_take (i := 0) (v := .slice (some ⟨zb, 0, none⟩) zs.length zs.length) rfl (by kernel_rfl) (by kernel_rfl) (by kernel_rfl) (fun _ _ _ h => h) (Or.inl ⟨by kernel_rfl, fun w hSw => by (try dsimp only at hSw); go_simp; all_goals first | omega | exact IntWalk.i64_in _ (by omega)⟩) (by assumption) ?_
            refine wpAnyH_take (i := 1) (v := .int .i64 (k : Int)) rfl (by kernel_rfl) (by kernel_rfl) (by kernel_rfl) (fun _ _ _ h => h) (Or.inl ⟨by kernel_rfl, fun w hSw => by (try dsimp only at hSw); go_simp; all_goals first | omega | exact IntWalk.i64_in _ (by omega)⟩) (by assumption) ?_
            refine wpAnyH_take (i := 2) (v := .pointer (some ⟨zb, k, none⟩)) rfl (by kernel_rfl) (by kernel_rfl) (by kernel_rfl) (fun _ _ _ h => h) (Or.inl ⟨by kernel_rfl, fun w hSw => by (try dsimp only at hSw); go_simp; all_goals first | omega | exact IntWalk.i64_in _ (by omega)⟩) (by assumption) ?_
            refine wpAnyH_take (i := 3) (v := .int .i64 x) rfl (by kernel_rfl) (by kernel_rfl) (by kernel_rfl) (fun _ _ _ h => h) (Or.inl ⟨by kernel_rfl, fun w hSw => by (try dsimp only at hSw); go_simp; all_goals first | omega | exact IntWalk.i64_in _ (by omega)⟩) (by assumption) ?_
            refine wpAnyH_take (i := 4) (v := .bool false) rfl (by kernel_rfl) (by kernel_rfl) (by kernel_rfl) (fun _ _ _ h => h) (Or.inl ⟨by kernel_rfl, fun w hSw => by (try dsimp only at hSw); go_simp; all_goals first | omega | exact IntWalk.i64_in _ (by omega)⟩) (by assumption) ?_
            refine wpAnyH_take (i := 5) (v := .bool false) rfl (by kernel_rfl) (by kernel_rfl) (by kernel_rfl) (fun _ _ _ h => h) (Or.inl ⟨by kernel_rfl, fun w hSw => by (try dsimp only at hSw); go_simp; all_goals first | omega | exact IntWalk.i64_in _ (by omega)⟩) (by assumption) ?_
            refine wpAnyH_take (i := 6) (v := .slice (some ⟨zb, 0, none⟩) zs.length zs.length) rfl (by kernel_rfl) (by kernel_rfl) (by kernel_rfl) (fun _ _ _ h => h) (Or.inl ⟨by kernel_rfl, fun w hSw => by (try dsimp only at hSw); go_simp; all_goals first | omega | exact IntWalk.i64_in _ (by omega)⟩) (by assumption) ?_
            refine wpAnyH_take (i := 7) (v := .int .i64 (k : Int)) rfl (by kernel_rfl) (by kernel_rfl) (by kernel_rfl) (fun _ _ _ h => h) (Or.inl ⟨by kernel_rfl, fun w hSw => by (try dsimp only at hSw); go_simp; all_goals first | omega | exact IntWalk.i64_in _ (by omega)⟩) (by assumption) ?_
            refine wpAnyH_take (i := 8) (v := .pointer (some ⟨zb, k, none⟩)) rfl (by kernel_rfl) (by kernel_rfl) (by kernel_rfl) (fun _ _ _ h => h) (Or.inl ⟨by kernel_rfl, fun w hSw => by (try dsimp only at hSw); go_simp; all_goals first | omega | exact IntWalk.i64_in _ (by omega)⟩) (by assumption) ?_
            refine wpAnyH_take (i := 9) (v := .int .i64 x) rfl (by kernel_rfl) (by kernel_rfl) (by kernel_rfl) (fun _ _ _ h => h) (Or.inl ⟨by kernel_rfl, fun w hSw => by (try dsimp only at hSw); go_simp; all_goals first | omega | exact IntWalk.i64_in _ (by omega)⟩) (by assumption) ?_
            refine wpAnyH_take (i := 10) (v := .pointer (some ⟨w.heap.size, 0, none⟩)) rfl (by kernel_rfl) (by kernel_rfl) (by kernel_rfl) (fun _ _ _ h => h) (Or.inl ⟨by kernel_rfl, fun w hSw => by (try dsimp only at hSw); go_simp; all_goals first | omega | exact IntWalk.i64_in _ (by omega)⟩) (by assumption) ?_
            refine wpAnyH_take (i := 11) (v := .int .i64 p) rfl (by kernel_rfl) (by kernel_rfl) (by kernel_rfl) (fun _ _ _ h => h) (Or.inl ⟨by kernel_rfl, fun w hSw => by (try dsimp only at hSw); go_simp; all_goals first | omega | exact IntWalk.i64_in _ (by omega)⟩) (by assumption) ?_
            refine wpAnyH_take (i := 12) (v := .bool false) rfl (by kernel_rfl) (by kernel_rfl) (by kernel_rfl) (fun _ _ _ h => h) (Or.inl ⟨by kernel_rfl, fun w hSw => by (try dsimp only at hSw); go_simp; all_goals first | omega | exact IntWalk.i64_in _ (by omega)⟩) (by assumption) ?_
            refine wpAnyH_take (i := 13) (v := .bool false) rfl (by kernel_rfl) (by kernel_rfl) (by kernel_rfl) (fun _ _ _ h => h) (Or.inl ⟨by kernel_rfl, fun w hSw => by (try dsimp only at hSw); go_simp; all_goals first | omega | exact IntWalk.i64_in _ (by omega)⟩) (by assumption) ?_
            refine wpAnyH_take (i := 14) (v := .bool false) rfl (by kernel_rfl) (by kernel_rfl) (by kernel_rfl) (fun _ _ _ h => h) (Or.inl ⟨by kernel_rfl, fun w hSw => by (try dsimp only at hSw); go_simp; all_goals first | omega | exact IntWalk.i64_in _ (by omega)⟩) (by assumption) ?_
            refine wpAnyH_take (i := 15) (v := .slice (some ⟨zb, 0, none⟩) zs.length zs.length) rfl (by kernel_rfl) (by kernel_rfl) (by kernel_rfl) (fun _ _ _ h => h) (Or.inl ⟨by kernel_rfl, fun w hSw => by (try dsimp only at hSw); go_simp; all_goals first | omega | exact IntWalk.i64_in _ (by omega)⟩) (by assumption) ?_
            refine wpAnyH_take (i := 16) (v := .int .i64 (k : Int)) rfl (by kernel_rfl) (by kernel_rfl) (by kernel_rfl) (fun _ _ _ h => h) (Or.inl ⟨by kernel_rfl, fun w hSw => by (try dsimp only at hSw); go_simp; all_goals first | omega | exact IntWalk.i64_in _ (by omega)⟩) (by assumption) ?_
            refine wpAnyH_take (i := 17) (v := .slice (some ⟨zb, 0, none⟩) k zs.length) rfl (by kernel_rfl) (by kernel_rfl) (by kernel_rfl) (fun _ _ _ h => h) (Or.inl ⟨by kernel_rfl, fun w hSw => by (try dsimp only at hSw); go_simp; all_goals first | omega | exact IntWalk.i64_in _ (by omega)⟩) (by assumption) ?_
            refine wpAnyH_take (i := 18) (v := .slice (some ⟨zb, 0, none⟩) zs.length zs.length) rfl (by kernel_rfl) (by kernel_rfl) (by kernel_rfl) (fun _ _ _ h => h) (Or.inl ⟨by kernel_rfl, fun w hSw => by (try dsimp only at hSw); go_simp; all_goals first | omega | exact IntWalk.i64_in _ (by omega)⟩) (by assumption) ?_
            refine wpAnyH_take (i := 19) (v := .int .i64 (k : Int)) rfl (by kernel_rfl) (by kernel_rfl) (by kernel_rfl) (fun _ _ _ h => h) (Or.inl ⟨by kernel_rfl, fun w hSw => by (try dsimp only at hSw); go_simp; all_goals first | omega | exact IntWalk.i64_in _ (by omega)⟩) (by assumption) ?_
            refine wpAnyH_take (i := 20) (v := .pointer (some ⟨zb, k, none⟩)) rfl (by kernel_rfl) (by kernel_rfl) (by kernel_rfl) (fun _ _ _ h => h) (Or.inl ⟨by kernel_rfl, fun w hSw => by (try dsimp only at hSw); go_simp; all_goals first | omega | exact IntWalk.i64_in _ (by omega)⟩) (by assumption) ?_
            refine wpAnyH_take (i := 21) (v := .int .i64 x) rfl (by kernel_rfl) (by kernel_rfl) (by kernel_rfl) (fun _ _ _ h => h) (Or.inl ⟨by kernel_rfl, fun w hSw => by (try dsimp only at hSw); go_simp; all_goals first | omega | exact IntWalk.i64_in _ (by omega)⟩) (by assumption) ?_
            refine wpAnyH_ready (rs := [22]) (by kernel_rfl) (by simp) (AllReadyH.cons rfl (fun K hK => ?_) AllReadyH.nil)
            go_simp
            go_at_call 117
            have hc2 := has_c (zs.take k) x (some ⟨zb, 0, none⟩) zs.length _ _ _ ((HZR.out.within (within_of HD.out) (.inr (Nat.zero_le _))).take k) (by have := HTL.out; omega)
            rw [HTL.out] at hc2
            refine hc2.mono ?_
            rintro e w9 ⟨rfl, rfl⟩
            rw [HM.out]
            clear hc2
            refine hK.out _ _ (KK.out _ HD.out) (fun hHeld => ?_)
            clear hK K
            refine wpAnyH_take (i := 23) (v := .bool true) rfl (by kernel_rfl) (by kernel_rfl) (by kernel_rfl) (fun _ _ _ h => h) (Or.inl ⟨by kernel_rfl, fun w hSw => by (try dsimp only at hSw); go_simp; all_goals first | omega | exact IntWalk.i64_in _ (by omega)⟩) (by assumption) ?_
            refine wpAnyH_done (by kernel_rfl) ?_ _
            go_wp2_with fail
            go_ret
            exact ⟨by rw [HE.out]; rfl, below_on HA.out (below_on HB.out HD.out HB.out.size) HA.out.size⟩
          | false =>
            have HM := Lib.hid hm
            have HE := Lib.hid (HNX.out HP1.out hm)
            clear hm
            obtain ⟨g0, g1, g2⟩ := BXR.out
            go_wp2_with fail
            refine wp_region_held_drew (S := (fun W' : World => W'.cell? ⟨w.heap.size, 0, none⟩ = some (.int .i64 p) ∧ W'.cell? ⟨zb, k, none⟩ = some (.int .i64 x))) (by kernel_rfl) ?_ (fun hHeld => ?_)
            · exact KK.out _ HD.out
            generalize wr.drew = WD at *
            refine wpAnyH_take (i := 0) (v := .slice (some ⟨zb, 0, none⟩) zs.length zs.length) rfl (by kernel_rfl) (by kernel_rfl) (by kernel_rfl) (fun _ _ _ h => h) (Or.inl ⟨by kernel_rfl, fun w hSw => by (try dsimp only at hSw); go_simp; all_goals first | omega | exact IntWalk.i64_in _ (by omega)⟩) (by assumption) ?_
            refine wpAnyH_take (i := 1) (v := .int .i64 (k : Int)) rfl (by kernel_rfl) (by kernel_rfl) (by kernel_rfl) (fun _ _ _ h => h) (Or.inl ⟨by kernel_rfl, fun w hSw => by (try dsimp only at hSw); go_simp; all_goals first | omega | exact IntWalk.i64_in _ (by omega)⟩) (by assumption) ?_
            refine wpAnyH_take (i := 2) (v := .pointer (some ⟨zb, k, none⟩)) rfl (by kernel_rfl) (by kernel_rfl) (by kernel_rfl) (fun _ _ _ h => h) (Or.inl ⟨by kernel_rfl, fun w hSw => by (try dsimp only at hSw); go_simp; all_goals first | omega | exact IntWalk.i64_in _ (by omega)⟩) (by assumption) ?_
            refine wpAnyH_take (i := 3) (v := .int .i64 x) rfl (by kernel_rfl) (by kernel_rfl) (by kernel_rfl) (fun _ _ _ h => h) (Or.inl ⟨by kernel_rfl, fun w hSw => by (try dsimp only at hSw); go_simp; all_goals first | omega | exact IntWalk.i64_in _ (by omega)⟩) (by assumption) ?_
            refine wpAnyH_take (i := 4) (v := .bool false) rfl (by kernel_rfl) (by kernel_rfl) (by kernel_rfl) (fun _ _ _ h => h) (Or.inl ⟨by kernel_rfl, fun w hSw => by (try dsimp only at hSw); go_simp; all_goals first | omega | exact IntWalk.i64_in _ (by omega)⟩) (by assumption) ?_
            refine wpAnyH_take (i := 5) (v := .bool false) rfl (by kernel_rfl) (by kernel_rfl) (by kernel_rfl) (fun _ _ _ h => h) (Or.inl ⟨by kernel_rfl, fun w hSw => by (try dsimp only at hSw); go_simp; all_goals first | omega | exact IntWalk.i64_in _ (by omega)⟩) (by assumption) ?_
            refine wpAnyH_take (i := 6) (v := .slice (some ⟨zb, 0, none⟩) zs.length zs.length) rfl (by kernel_rfl) (by kernel_rfl) (by kernel_rfl) (fun _ _ _ h => h) (Or.inl ⟨by kernel_rfl, fun w hSw => by (try dsimp only at hSw); go_simp; all_goals first | omega | exact IntWalk.i64_in _ (by omega)⟩) (by assumption) ?_
            refine wpAnyH_take (i := 7) (v := .int .i64 (k : Int)) rfl (by kernel_rfl) (by kernel_rfl) (by kernel_rfl) (fun _ _ _ h => h) (Or.inl ⟨by kernel_rfl, fun w hSw => by (try dsimp only at hSw); go_simp; all_goals first | omega | exact IntWalk.i64_in _ (by omega)⟩) (by assumption) ?_
            refine wpAnyH_take (i := 8) (v := .pointer (some ⟨zb, k, none⟩)) rfl (by kernel_rfl) (by kernel_rfl) (by kernel_rfl) (fun _ _ _ h => h) (Or.inl ⟨by kernel_rfl, fun w hSw => by (try dsimp only at hSw); go_simp; all_goals first | omega | exact IntWalk.i64_in _ (by omega)⟩) (by assumption) ?_
            refine wpAnyH_take (i := 9) (v := .int .i64 x) rfl (by kernel_rfl) (by kernel_rfl) (by kernel_rfl) (fun _ _ _ h => h) (Or.inl ⟨by kernel_rfl, fun w hSw => by (try dsimp only at hSw); go_simp; all_goals first | omega | exact IntWalk.i64_in _ (by omega)⟩) (by assumption) ?_
            refine wpAnyH_take (i := 10) (v := .pointer (some ⟨w.heap.size, 0, none⟩)) rfl (by kernel_rfl) (by kernel_rfl) (by kernel_rfl) (fun _ _ _ h => h) (Or.inl ⟨by kernel_rfl, fun w hSw => by (try dsimp only at hSw); go_simp; all_goals first | omega | exact IntWalk.i64_in _ (by omega)⟩) (by assumption) ?_
            refine wpAnyH_take (i := 11) (v := .int .i64 p) rfl (by kernel_rfl) (by kernel_rfl) (by kernel_rfl) (fun _ _ _ h => h) (Or.inl ⟨by kernel_rfl, fun w hSw => by (try dsimp only at hSw); go_simp; all_goals first | omega | exact IntWalk.i64_in _ (by omega)⟩) (by assumption) ?_
            refine wpAnyH_take (i := 12) (v := .bool false) rfl (by kernel_rfl) (by kernel_rfl) (by kernel_rfl) (fun _ _ _ h => h) (Or.inl ⟨by kernel_rfl, fun w hSw => by (try dsimp only at hSw); go_simp; all_goals first | omega | exact IntWalk.i64_in _ (by omega)⟩) (by assumption) ?_
            refine wpAnyH_take (i := 13) (v := .bool false) rfl (by kernel_rfl) (by kernel_rfl) (by kernel_rfl) (fun _ _ _ h => h) (Or.inl ⟨by kernel_rfl, fun w hSw => by (try dsimp only at hSw); go_simp; all_goals first | omega | exact IntWalk.i64_in _ (by omega)⟩) (by assumption) ?_
            refine wpAnyH_take (i := 14) (v := .bool false) rfl (by kernel_rfl) (by kernel_rfl) (by kernel_rfl) (fun _ _ _ h => h) (Or.inl ⟨by kernel_rfl, fun w hSw => by (try dsimp only at hSw); go_simp; all_goals first | omega | exact IntWalk.i64_in _ (by omega)⟩) (by assumption) ?_
            refine wpAnyH_take (i := 15) (v := .slice (some ⟨zb, 0, none⟩) zs.length zs.length) rfl (by kernel_rfl) (by kernel_rfl) (by kernel_rfl) (fun _ _ _ h => h) (Or.inl ⟨by kernel_rfl, fun w hSw => by (try dsimp only at hSw); go_simp; all_goals first | omega | exact IntWalk.i64_in _ (by omega)⟩) (by assumption) ?_
            refine wpAnyH_take (i := 16) (v := .int .i64 (k : Int)) rfl (by kernel_rfl) (by kernel_rfl) (by kernel_rfl) (fun _ _ _ h => h) (Or.inl ⟨by kernel_rfl, fun w hSw => by (try dsimp only at hSw); go_simp; all_goals first | omega | exact IntWalk.i64_in _ (by omega)⟩) (by assumption) ?_
            refine wpAnyH_take (i := 17) (v := .slice (some ⟨zb, 0, none⟩) k zs.length) rfl (by kernel_rfl) (by kernel_rfl) (by kernel_rfl) (fun _ _ _ h => h) (Or.inl ⟨by kernel_rfl, fun w hSw => by (try dsimp only at hSw); go_simp; all_goals first | omega | exact IntWalk.i64_in _ (by omega)⟩) (by assumption) ?_
            refine wpAnyH_take (i := 18) (v := .slice (some ⟨zb, 0, none⟩) zs.length zs.length) rfl (by kernel_rfl) (by kernel_rfl) (by kernel_rfl) (fun _ _ _ h => h) (Or.inl ⟨by kernel_rfl, fun w hSw => by (try dsimp only at hSw); go_simp; all_goals first | omega | exact IntWalk.i64_in _ (by omega)⟩) (by assumption) ?_
            refine wpAnyH_take (i := 19) (v := .int .i64 (k : Int)) rfl (by kernel_rfl) (by kernel_rfl) (by kernel_rfl) (fun _ _ _ h => h) (Or.inl ⟨by kernel_rfl, fun w hSw => by (try dsimp only at hSw); go_simp; all_goals first | omega | exact IntWalk.i64_in _ (by omega)⟩) (by assumption) ?_
            refine wpAnyH_take (i := 20) (v := .pointer (some ⟨zb, k, none⟩)) rfl (by kernel_rfl) (by kernel_rfl) (by kernel_rfl) (fun _ _ _ h => h) (Or.inl ⟨by kernel_rfl, fun w hSw => by (try dsimp only at hSw); go_simp; all_goals first | omega | exact IntWalk.i64_in _ (by omega)⟩) (by assumption) ?_
            refine wpAnyH_take (i := 21) (v := .int .i64 x) rfl (by kernel_rfl) (by kernel_rfl) (by kernel_rfl) (fun _ _ _ h => h) (Or.inl ⟨by kernel_rfl, fun w hSw => by (try dsimp only at hSw); go_simp; all_goals first | omega | exact IntWalk.i64_in _ (by omega)⟩) (by assumption) ?_
            refine wpAnyH_ready (rs := [22]) (by kernel_rfl) (by simp) (AllReadyH.cons rfl (fun K hK => ?_) AllReadyH.nil)
            go_simp
            go_at_call 117
            have hc2 := has_c (zs.take k) x (some ⟨zb, 0, none⟩) zs.length _ _ _ ((HZR.out.within (within_of HD.out) (.inr (Nat.zero_le _))).take k) (by have := HTL.out; omega)
            rw [HTL.out] at hc2
            refine hc2.mono ?_
            rintro e w9 ⟨rfl, rfl⟩
            rw [HM.out]
            clear hc2
            refine hK.out _ _ (KK.out _ HD.out) (fun hHeld => ?_)
            clear hK K
            refine wpAnyH_take (i := 23) (v := .bool false) rfl (by kernel_rfl) (by kernel_rfl) (by kernel_rfl) (fun _ _ _ h => h) (Or.inl ⟨by kernel_rfl, fun w hSw => by (try dsimp only at hSw); go_simp; all_goals first | omega | exact IntWalk.i64_in _ (by omega)⟩) (by assumption) ?_
            refine wpAnyH_done (by kernel_rfl) ?_ _
            go_wp2_with fail
            go_roundw
            case rel => exact ⟨k + 1, by omega, by go_num, HE.out, below_on HB.out HD.out HB.out.size⟩
            case measure => simp [intOf]; omega
    · obtain rfl : k = zs.length := by omega
      go_wp2_with fail
      go_ret
      exact ⟨by rw [HDF.out]; rfl, below_on HA.out HB.out HA.out.size⟩
end Go.Proofs.Ytggibhhdnlifcaa
