/- What AreSameLengths answers, the specification's and the program's. No condition. -/
import Derived.Test.YtehendofgcebcaaEqF
import Derived.Test.YtehendofgcebcaaSqS
import Derived.Test.YtehendofgcebcaaSqI
import Derived.Test.YtehendofgcebcaaSame6
import Derived.Test.YtehendofgcebcaaEqI
import Derived.OrdersHeld
import Derived.Deep.RegionHeld3
namespace Go.Proofs.Ytehendofgcebcaa
open Go.RowKit

set_option maxHeartbeats 8000000 in
set_option maxRecDepth 100000 in
theorem specSam (p : Int) (l m : List (Int × Int)) (r : Int) (x y : List (Int × Int)) (A : Option Addr) (ca : Nat) (B : Option Addr) (cb : Nat) (C : Option Addr) (cc : Nat) (D : Option Addr) (cd : Nat) (lo hi lo' hi' : Nat) (w : World) (hl : FwIn w lo hi A l B m) (hk : FwIn w lo' hi' C x D y) (hn : l.length + m.length ≤ 1048576) (hm : x.length + y.length ≤ 1048576) :
    Calls Try.prog 54 #[.agg #[.int .i64 p, .slice A l.length ca, .slice B m.length cb], .agg #[.int .i64 r, .slice C x.length cc, .slice D y.length cd]] w fun e w' => e = .returned (.bool (sameF p l m r x y)) ∧ Below w.heap.size w w' := by
  have HF := Lib.hid (F2I.new (p := p) (r := r) (ca := ca) (cb := cb) (cc := cc) (cd := cd) hl hk 63)
  clear hl hk
  have HIA := Lib.hid fun (W : World) (h : FwIn W lo hi A l B m) => specIsF p l m A ca B cb lo hi W h hn
  have HIB := Lib.hid fun (W : World) (h : FwIn W lo' hi' C x D y) => specIsF r x y C cc D cd lo' hi' W h hm
  have HEG := Lib.hid fun (W : World) (h : BarsAt W W.heap.size A l) (k : BarsAt W W.heap.size C x) => specEqual p r l x A C ca cc W h k (by omega)
  have HSA := Lib.hid fun (W : World) (h : FwIn W lo hi A l B m) => specSq p l m A ca B cb lo hi W h hn
  have HSB := Lib.hid fun (W : World) (h : FwIn W lo' hi' C x D y) => specSq r x y C cc D cd lo' hi' W h hm
  have hq := sqL_len p l m
  obtain ⟨zs, hzs⟩ : ∃ zs, sqL p l m = zs := ⟨_, rfl⟩
  obtain ⟨ys, hys⟩ : ∃ ys, sqL r x y = ys := ⟨_, rfl⟩
  rw [hzs] at HSA hq
  rw [hys] at HSB
  obtain ⟨R0, hR0⟩ : ∃ R0, sameF p l m r x y = R0 := ⟨_, rfl⟩
  rw [hR0]
  unfold sameF at hR0
  rw [hzs, hys] at hR0
  clear hzs hys
  have HSM := Lib.hid fun (A A' : Option Addr) (cap cap' : Nat) (lo hi lo' hi' : Nat) (W : World) (h : IntsIn W lo hi A zs) (h' : IntsIn W lo' hi' A' ys) => same6_c zs ys A A' cap cap' lo hi lo' hi' W h h' (by omega)
  by_cases h1 : isFB p l m = true
  · rw [h1] at HIA hR0
    by_cases h2 : isFB r x y = true
    · rw [h2] at HIB hR0
      by_cases h3 : eqG p r l x = true
      · rw [h3] at HEG
        rw [show decide (p = r ∧ l = x) = true from h3] at hR0
        simp only [Bool.true_and] at hR0
        subst hR0
        obtain ⟨R, hR⟩ : ∃ R, decide (zs = ys) = R := ⟨_, rfl⟩
        rw [hR] at HSM ⊢
        clear h1 h2 h3 hR
        go_enter Try.func54, Try.ntmps54
        go_wp2_with fail
        generalize ((w.alloc (.cells #[.int .i64 p, .slice A l.length ca, .slice B m.length cb] 63)).alloc (.cells #[.int .i64 r, .slice C x.length cc, .slice D y.length cd] 63)) = w1 at *
        have HBD := Lib.hid (HF.out.below (show Below w1.heap.size w1 w1.drew from (Below.refl _ _).drew))
        clear HF
        refine wp_region_held_drew (S := (fun W' : World => W'.cell? ⟨w.heap.size, 0, none⟩ = some (.int .i64 p) ∧ W'.cell? ⟨w.heap.size, 1, none⟩ = some (.slice A l.length ca) ∧ W'.cell? ⟨w.heap.size, 2, none⟩ = some (.slice B m.length cb) ∧ W'.cell? ⟨w.heap.size + 1, 0, none⟩ = some (.int .i64 r) ∧ W'.cell? ⟨w.heap.size + 1, 1, none⟩ = some (.slice C x.length cc) ∧ W'.cell? ⟨w.heap.size + 1, 2, none⟩ = some (.slice D y.length cd))) (by kernel_rfl) ?_ (fun hHeld => ?_)
        · exact ⟨HBD.out.bxa.2.1, HBD.out.bxa.2.2.1, HBD.out.bxa.2.2.2, HBD.out.bxb.2.1, HBD.out.bxb.2.2.1, HBD.out.bxb.2.2.2⟩
        generalize w1.drew = WD at *
        refine wpAnyH_take (i := 0) (v := .agg #[.int .i64 p, .slice A l.length ca, .slice B m.length cb]) rfl (by kernel_rfl) (by kernel_rfl) (by kernel_rfl) (fun _ _ _ h => h) (Or.inl ⟨by kernel_rfl, fun w hSw => by (try dsimp only at hSw); go_simp; all_goals first | omega | exact IntWalk.i64_in _ (by omega)⟩) (by assumption) ?_
        try simp only [Act.put, List.getElem_toArray, List.getElem_cons_zero, List.setIfInBounds_toArray, List.set_cons_zero, List.set_cons_succ]
        refine wpAnyH_ready (rs := [1]) (by kernel_rfl) (by simp) (AllReadyH.cons rfl (fun K hK => ?_) AllReadyH.nil)
        go_simp
        go_at_call 44
        refine (HIA.out _ HBD.out.fa).mono ?_
        rintro e wc1 ⟨rfl, hb⟩
        have HB1 := Lib.hid (HBD.out.below hb)
        clear hb
        refine hK.out _ _ ⟨HB1.out.bxa.2.1, HB1.out.bxa.2.2.1, HB1.out.bxa.2.2.2, HB1.out.bxb.2.1, HB1.out.bxb.2.2.1, HB1.out.bxb.2.2.2⟩ (fun hHeld => ?_)
        clear hK K
        try simp only [Act.put, List.getElem_toArray, List.getElem_cons_zero, List.getElem_cons_succ, List.setIfInBounds_toArray, List.set_cons_zero, List.set_cons_succ]
        refine wpAnyH_take (i := 2) (v := .bool true) rfl (by kernel_rfl) (by kernel_rfl) (by kernel_rfl) (fun _ _ _ h => h) (Or.inl ⟨by kernel_rfl, fun w hSw => by (try dsimp only at hSw); go_simp; all_goals first | omega | exact IntWalk.i64_in _ (by omega)⟩) (by assumption) ?_
        try simp only [Act.put, List.getElem_toArray, List.getElem_cons_zero, List.getElem_cons_succ, List.setIfInBounds_toArray, List.set_cons_zero, List.set_cons_succ]
        refine wpAnyH_take (i := 3) (v := .agg #[.int .i64 r, .slice C x.length cc, .slice D y.length cd]) rfl (by kernel_rfl) (by kernel_rfl) (by kernel_rfl) (fun _ _ _ h => h) (Or.inl ⟨by kernel_rfl, fun w hSw => by (try dsimp only at hSw); go_simp; all_goals first | omega | exact IntWalk.i64_in _ (by omega)⟩) (by assumption) ?_
        try simp only [Act.put, List.getElem_toArray, List.getElem_cons_zero, List.getElem_cons_succ, List.setIfInBounds_toArray, List.set_cons_zero, List.set_cons_succ]
        refine wpAnyH_ready (rs := [4]) (by kernel_rfl) (by simp) (AllReadyH.cons rfl (fun K hK => ?_) AllReadyH.nil)
        go_simp
        go_at_call 44
        refine (HIB.out _ HB1.out.fb).mono ?_
        rintro e wc2 ⟨rfl, hb⟩
        have HB2 := Lib.hid (HB1.out.below hb)
        clear hb
        refine hK.out _ _ ⟨HB2.out.bxa.2.1, HB2.out.bxa.2.2.1, HB2.out.bxa.2.2.2, HB2.out.bxb.2.1, HB2.out.bxb.2.2.1, HB2.out.bxb.2.2.2⟩ (fun hHeld => ?_)
        clear hK K
        try simp only [Act.put, List.getElem_toArray, List.getElem_cons_zero, List.getElem_cons_succ, List.setIfInBounds_toArray, List.set_cons_zero, List.set_cons_succ]
        refine wpAnyH_take (i := 5) (v := .bool true) rfl (by kernel_rfl) (by kernel_rfl) (by kernel_rfl) (fun _ _ _ h => h) (Or.inl ⟨by kernel_rfl, fun w hSw => by (try dsimp only at hSw); go_simp; all_goals first | omega | exact IntWalk.i64_in _ (by omega)⟩) (by assumption) ?_
        try simp only [Act.put, List.getElem_toArray, List.getElem_cons_zero, List.getElem_cons_succ, List.setIfInBounds_toArray, List.set_cons_zero, List.set_cons_succ]
        refine wpAnyH_take (i := 6) (v := .bool true) rfl (by kernel_rfl) (by kernel_rfl) (by kernel_rfl) (fun _ _ _ h => h) (Or.inl ⟨by kernel_rfl, fun w hSw => by (try dsimp only at hSw); go_simp; all_goals first | omega | exact IntWalk.i64_in _ (by omega)⟩) (by assumption) ?_
        try simp only [Act.put, List.getElem_toArray, List.getElem_cons_zero, List.getElem_cons_succ, List.setIfInBounds_toArray, List.set_cons_zero, List.set_cons_succ]
        refine wpAnyH_take (i := 7) (v := .pointer (some ⟨w.heap.size, 0, none⟩)) rfl (by kernel_rfl) (by kernel_rfl) (by kernel_rfl) (fun _ _ _ h => h) (Or.inl ⟨by kernel_rfl, fun w hSw => by (try dsimp only at hSw); go_simp; all_goals first | omega | exact IntWalk.i64_in _ (by omega)⟩) (by assumption) ?_
        try simp only [Act.put, List.getElem_toArray, List.getElem_cons_zero, List.getElem_cons_succ, List.setIfInBounds_toArray, List.set_cons_zero, List.set_cons_succ]
        refine wpAnyH_take (i := 8) (v := .agg #[.int .i64 p, .slice A l.length ca]) rfl (by kernel_rfl) (by kernel_rfl) (by kernel_rfl) (fun _ _ _ h => h) (Or.inl ⟨by kernel_rfl, fun w hSw => by (try dsimp only at hSw); go_simp; all_goals first | omega | exact IntWalk.i64_in _ (by omega)⟩) (by assumption) ?_
        try simp only [Act.put, List.getElem_toArray, List.getElem_cons_zero, List.getElem_cons_succ, List.setIfInBounds_toArray, List.set_cons_zero, List.set_cons_succ]
        refine wpAnyH_take (i := 9) (v := .pointer (some ⟨w.heap.size + 1, 0, none⟩)) rfl (by kernel_rfl) (by kernel_rfl) (by kernel_rfl) (fun _ _ _ h => h) (Or.inl ⟨by kernel_rfl, fun w hSw => by (try dsimp only at hSw); go_simp; all_goals first | omega | exact IntWalk.i64_in _ (by omega)⟩) (by assumption) ?_
        try simp only [Act.put, List.getElem_toArray, List.getElem_cons_zero, List.getElem_cons_succ, List.setIfInBounds_toArray, List.set_cons_zero, List.set_cons_succ]
        refine wpAnyH_take (i := 10) (v := .agg #[.int .i64 r, .slice C x.length cc]) rfl (by kernel_rfl) (by kernel_rfl) (by kernel_rfl) (fun _ _ _ h => h) (Or.inl ⟨by kernel_rfl, fun w hSw => by (try dsimp only at hSw); go_simp; all_goals first | omega | exact IntWalk.i64_in _ (by omega)⟩) (by assumption) ?_
        try simp only [Act.put, List.getElem_toArray, List.getElem_cons_zero, List.getElem_cons_succ, List.setIfInBounds_toArray, List.set_cons_zero, List.set_cons_succ]
        refine wpAnyH_ready (rs := [11]) (by kernel_rfl) (by simp) (AllReadyH.cons rfl (fun K hK => ?_) AllReadyH.nil)
        go_simp
        go_at_call 107
        refine (HEG.out _ HB2.out.fa.b.at HB2.out.fb.b.at).mono ?_
        rintro e wc3 ⟨rfl, hb⟩
        have HB3 := Lib.hid (HB2.out.below hb)
        clear hb
        refine hK.out _ _ ⟨HB3.out.bxa.2.1, HB3.out.bxa.2.2.1, HB3.out.bxa.2.2.2, HB3.out.bxb.2.1, HB3.out.bxb.2.2.1, HB3.out.bxb.2.2.2⟩ (fun hHeld => ?_)
        clear hK K
        try simp only [Act.put, List.getElem_toArray, List.getElem_cons_zero, List.getElem_cons_succ, List.setIfInBounds_toArray, List.set_cons_zero, List.set_cons_succ]
        refine wpAnyH_take (i := 12) (v := .bool true) rfl (by kernel_rfl) (by kernel_rfl) (by kernel_rfl) (fun _ _ _ h => h) (Or.inl ⟨by kernel_rfl, fun w hSw => by (try dsimp only at hSw); go_simp; all_goals first | omega | exact IntWalk.i64_in _ (by omega)⟩) (by assumption) ?_
        try simp only [Act.put, List.getElem_toArray, List.getElem_cons_zero, List.getElem_cons_succ, List.setIfInBounds_toArray, List.set_cons_zero, List.set_cons_succ]
        refine wpAnyH_take (i := 13) (v := .bool true) rfl (by kernel_rfl) (by kernel_rfl) (by kernel_rfl) (fun _ _ _ h => h) (Or.inl ⟨by kernel_rfl, fun w hSw => by (try dsimp only at hSw); go_simp; all_goals first | omega | exact IntWalk.i64_in _ (by omega)⟩) (by assumption) ?_
        try simp only [Act.put, List.getElem_toArray, List.getElem_cons_zero, List.getElem_cons_succ, List.setIfInBounds_toArray, List.set_cons_zero, List.set_cons_succ]
        refine wpAnyH_take (i := 14) (v := .agg #[.int .i64 p, .slice A l.length ca, .slice B m.length cb]) rfl (by kernel_rfl) (by kernel_rfl) (by kernel_rfl) (fun _ _ _ h => h) (Or.inl ⟨by kernel_rfl, fun w hSw => by (try dsimp only at hSw); go_simp; all_goals first | omega | exact IntWalk.i64_in _ (by omega)⟩) (by assumption) ?_
        try simp only [Act.put, List.getElem_toArray, List.getElem_cons_zero, List.getElem_cons_succ, List.setIfInBounds_toArray, List.set_cons_zero, List.set_cons_succ]
        refine wpAnyH_take (i := 16) (v := .agg #[.int .i64 r, .slice C x.length cc, .slice D y.length cd]) rfl (by kernel_rfl) (by kernel_rfl) (by kernel_rfl) (fun _ _ _ h => h) (Or.inl ⟨by kernel_rfl, fun w hSw => by (try dsimp only at hSw); go_simp; all_goals first | omega | exact IntWalk.i64_in _ (by omega)⟩) (by assumption) ?_
        try simp only [Act.put, List.getElem_toArray, List.getElem_cons_zero, List.getElem_cons_succ, List.setIfInBounds_toArray, List.set_cons_zero, List.set_cons_succ]
        refine wpAnyH_ready (rs := [15]) (by kernel_rfl) (by simp) (AllReadyH.cons rfl (fun K hK => ?_) AllReadyH.nil)
        go_simp
        go_at_call 48
        refine (HSA.out _ HB3.out.fa).mono ?_
        rintro e wc4 ⟨A1, c1, rfl, ho, hb⟩
        have HB4 := Lib.hid (HB3.out.below hb)
        have HR1 := Lib.hid ho.reads
        clear ho hb
        refine hK.out _ _ ⟨HB4.out.bxa.2.1, HB4.out.bxa.2.2.1, HB4.out.bxa.2.2.2, HB4.out.bxb.2.1, HB4.out.bxb.2.2.1, HB4.out.bxb.2.2.2⟩ (fun hHeld => ?_)
        clear hK K
        try simp only [Act.put, List.getElem_toArray, List.getElem_cons_zero, List.getElem_cons_succ, List.setIfInBounds_toArray, List.set_cons_zero, List.set_cons_succ]
        refine wpAnyH_ready (rs := [17]) (by kernel_rfl) (by simp) (AllReadyH.cons rfl (fun K hK => ?_) AllReadyH.nil)
        go_simp
        go_at_call 48
        refine (HSB.out _ HB4.out.fb).mono ?_
        rintro e wc5 ⟨A2, c2, rfl, ho, hb⟩
        have HB5 := Lib.hid (HB4.out.below hb)
        have HR1 := Lib.hid (HR1.out.within (within_of hb) (.inr (Nat.zero_le _)))
        have HR2 := Lib.hid ho.reads
        clear ho hb
        refine hK.out _ _ ⟨HB5.out.bxa.2.1, HB5.out.bxa.2.2.1, HB5.out.bxa.2.2.2, HB5.out.bxb.2.1, HB5.out.bxb.2.2.1, HB5.out.bxb.2.2.2⟩ (fun hHeld => ?_)
        clear hK K
        try simp only [Act.put, List.getElem_toArray, List.getElem_cons_zero, List.getElem_cons_succ, List.setIfInBounds_toArray, List.set_cons_zero, List.set_cons_succ]
        refine wpAnyH_ready (rs := [18]) (by kernel_rfl) (by simp) (AllReadyH.cons rfl (fun K hK => ?_) AllReadyH.nil)
        go_simp
        go_at_call 108
        refine (HSM.out _ _ _ _ _ _ _ _ _ HR1.out HR2.out).mono ?_
        rintro e wc6 ⟨rfl, hb⟩
        have HB6 := Lib.hid (HB5.out.below hb)
        clear hb
        refine hK.out _ _ ⟨HB6.out.bxa.2.1, HB6.out.bxa.2.2.1, HB6.out.bxa.2.2.2, HB6.out.bxb.2.1, HB6.out.bxb.2.2.1, HB6.out.bxb.2.2.2⟩ (fun hHeld => ?_)
        clear hK K
        try simp only [Act.put, List.getElem_toArray, List.getElem_cons_zero, List.getElem_cons_succ, List.setIfInBounds_toArray, List.set_cons_zero, List.set_cons_succ]
        refine wpAnyH_take (i := 19) (v := .bool R) rfl (by kernel_rfl) (by kernel_rfl) (by kernel_rfl) (fun _ _ _ h => h) (Or.inl ⟨by kernel_rfl, fun w hSw => by (try dsimp only at hSw); go_simp; all_goals first | omega | exact IntWalk.i64_in _ (by omega)⟩) (by assumption) ?_
        try simp only [Act.put, List.getElem_toArray, List.getElem_cons_zero, List.getElem_cons_succ, List.setIfInBounds_toArray, List.set_cons_zero, List.set_cons_succ]
        refine wpAnyH_ready (rs := [20]) (by kernel_rfl) (by simp) (AllReadyH.cons rfl (fun K hK => ?_) AllReadyH.nil)
        go_simp
        refine hK.out _ _ ⟨HB6.out.bxa.2.1, HB6.out.bxa.2.2.1, HB6.out.bxa.2.2.2, HB6.out.bxb.2.1, HB6.out.bxb.2.2.1, HB6.out.bxb.2.2.2⟩ (fun hHeld => ?_)
        clear hK K
        try simp only [Act.put, List.getElem_toArray, List.getElem_cons_zero, List.getElem_cons_succ, List.setIfInBounds_toArray, List.set_cons_zero, List.set_cons_succ]
        refine wpAnyH_done (by kernel_rfl) ?_ _
        clear hHeld
        go_wp2_with fail
        go_ret
        exact ⟨rfl, HB6.out.bel⟩
      · have h3' : eqG p r l x = false := by simpa using h3
        rw [h3'] at HEG
        rw [show decide (p = r ∧ l = x) = false from h3'] at hR0
        simp only [Bool.true_and, Bool.false_and] at hR0
        subst hR0
        clear h1 h2 h3 h3'
        go_enter Try.func54, Try.ntmps54
        go_wp2_with fail
        generalize ((w.alloc (.cells #[.int .i64 p, .slice A l.length ca, .slice B m.length cb] 63)).alloc (.cells #[.int .i64 r, .slice C x.length cc, .slice D y.length cd] 63)) = w1 at *
        have HBD := Lib.hid (HF.out.below (show Below w1.heap.size w1 w1.drew from (Below.refl _ _).drew))
        clear HF
        refine wp_region_held_drew (S := (fun W' : World => W'.cell? ⟨w.heap.size, 0, none⟩ = some (.int .i64 p) ∧ W'.cell? ⟨w.heap.size, 1, none⟩ = some (.slice A l.length ca) ∧ W'.cell? ⟨w.heap.size, 2, none⟩ = some (.slice B m.length cb) ∧ W'.cell? ⟨w.heap.size + 1, 0, none⟩ = some (.int .i64 r) ∧ W'.cell? ⟨w.heap.size + 1, 1, none⟩ = some (.slice C x.length cc) ∧ W'.cell? ⟨w.heap.size + 1, 2, none⟩ = some (.slice D y.length cd))) (by kernel_rfl) ?_ (fun hHeld => ?_)
        · exact ⟨HBD.out.bxa.2.1, HBD.out.bxa.2.2.1, HBD.out.bxa.2.2.2, HBD.out.bxb.2.1, HBD.out.bxb.2.2.1, HBD.out.bxb.2.2.2⟩
        generalize w1.drew = WD at *
        refine wpAnyH_take (i := 0) (v := .agg #[.int .i64 p, .slice A l.length ca, .slice B m.length cb]) rfl (by kernel_rfl) (by kernel_rfl) (by kernel_rfl) (fun _ _ _ h => h) (Or.inl ⟨by kernel_rfl, fun w hSw => by (try dsimp only at hSw); go_simp; all_goals first | omega | exact IntWalk.i64_in _ (by omega)⟩) (by assumption) ?_
        try simp only [Act.put, List.getElem_toArray, List.getElem_cons_zero, List.setIfInBounds_toArray, List.set_cons_zero, List.set_cons_succ]
        refine wpAnyH_ready (rs := [1]) (by kernel_rfl) (by simp) (AllReadyH.cons rfl (fun K hK => ?_) AllReadyH.nil)
        go_simp
        go_at_call 44
        refine (HIA.out _ HBD.out.fa).mono ?_
        rintro e wc1 ⟨rfl, hb⟩
        have HB1 := Lib.hid (HBD.out.below hb)
        clear hb
        refine hK.out _ _ ⟨HB1.out.bxa.2.1, HB1.out.bxa.2.2.1, HB1.out.bxa.2.2.2, HB1.out.bxb.2.1, HB1.out.bxb.2.2.1, HB1.out.bxb.2.2.2⟩ (fun hHeld => ?_)
        clear hK K
        try simp only [Act.put, List.getElem_toArray, List.getElem_cons_zero, List.getElem_cons_succ, List.setIfInBounds_toArray, List.set_cons_zero, List.set_cons_succ]
        refine wpAnyH_take (i := 2) (v := .bool true) rfl (by kernel_rfl) (by kernel_rfl) (by kernel_rfl) (fun _ _ _ h => h) (Or.inl ⟨by kernel_rfl, fun w hSw => by (try dsimp only at hSw); go_simp; all_goals first | omega | exact IntWalk.i64_in _ (by omega)⟩) (by assumption) ?_
        try simp only [Act.put, List.getElem_toArray, List.getElem_cons_zero, List.getElem_cons_succ, List.setIfInBounds_toArray, List.set_cons_zero, List.set_cons_succ]
        refine wpAnyH_take (i := 3) (v := .agg #[.int .i64 r, .slice C x.length cc, .slice D y.length cd]) rfl (by kernel_rfl) (by kernel_rfl) (by kernel_rfl) (fun _ _ _ h => h) (Or.inl ⟨by kernel_rfl, fun w hSw => by (try dsimp only at hSw); go_simp; all_goals first | omega | exact IntWalk.i64_in _ (by omega)⟩) (by assumption) ?_
        try simp only [Act.put, List.getElem_toArray, List.getElem_cons_zero, List.getElem_cons_succ, List.setIfInBounds_toArray, List.set_cons_zero, List.set_cons_succ]
        refine wpAnyH_ready (rs := [4]) (by kernel_rfl) (by simp) (AllReadyH.cons rfl (fun K hK => ?_) AllReadyH.nil)
        go_simp
        go_at_call 44
        refine (HIB.out _ HB1.out.fb).mono ?_
        rintro e wc2 ⟨rfl, hb⟩
        have HB2 := Lib.hid (HB1.out.below hb)
        clear hb
        refine hK.out _ _ ⟨HB2.out.bxa.2.1, HB2.out.bxa.2.2.1, HB2.out.bxa.2.2.2, HB2.out.bxb.2.1, HB2.out.bxb.2.2.1, HB2.out.bxb.2.2.2⟩ (fun hHeld => ?_)
        clear hK K
        try simp only [Act.put, List.getElem_toArray, List.getElem_cons_zero, List.getElem_cons_succ, List.setIfInBounds_toArray, List.set_cons_zero, List.set_cons_succ]
        refine wpAnyH_take (i := 5) (v := .bool true) rfl (by kernel_rfl) (by kernel_rfl) (by kernel_rfl) (fun _ _ _ h => h) (Or.inl ⟨by kernel_rfl, fun w hSw => by (try dsimp only at hSw); go_simp; all_goals first | omega | exact IntWalk.i64_in _ (by omega)⟩) (by assumption) ?_
        try simp only [Act.put, List.getElem_toArray, List.getElem_cons_zero, List.getElem_cons_succ, List.setIfInBounds_toArray, List.set_cons_zero, List.set_cons_succ]
        refine wpAnyH_take (i := 6) (v := .bool true) rfl (by kernel_rfl) (by kernel_rfl) (by kernel_rfl) (fun _ _ _ h => h) (Or.inl ⟨by kernel_rfl, fun w hSw => by (try dsimp only at hSw); go_simp; all_goals first | omega | exact IntWalk.i64_in _ (by omega)⟩) (by assumption) ?_
        try simp only [Act.put, List.getElem_toArray, List.getElem_cons_zero, List.getElem_cons_succ, List.setIfInBounds_toArray, List.set_cons_zero, List.set_cons_succ]
        refine wpAnyH_take (i := 7) (v := .pointer (some ⟨w.heap.size, 0, none⟩)) rfl (by kernel_rfl) (by kernel_rfl) (by kernel_rfl) (fun _ _ _ h => h) (Or.inl ⟨by kernel_rfl, fun w hSw => by (try dsimp only at hSw); go_simp; all_goals first | omega | exact IntWalk.i64_in _ (by omega)⟩) (by assumption) ?_
        try simp only [Act.put, List.getElem_toArray, List.getElem_cons_zero, List.getElem_cons_succ, List.setIfInBounds_toArray, List.set_cons_zero, List.set_cons_succ]
        refine wpAnyH_take (i := 8) (v := .agg #[.int .i64 p, .slice A l.length ca]) rfl (by kernel_rfl) (by kernel_rfl) (by kernel_rfl) (fun _ _ _ h => h) (Or.inl ⟨by kernel_rfl, fun w hSw => by (try dsimp only at hSw); go_simp; all_goals first | omega | exact IntWalk.i64_in _ (by omega)⟩) (by assumption) ?_
        try simp only [Act.put, List.getElem_toArray, List.getElem_cons_zero, List.getElem_cons_succ, List.setIfInBounds_toArray, List.set_cons_zero, List.set_cons_succ]
        refine wpAnyH_take (i := 9) (v := .pointer (some ⟨w.heap.size + 1, 0, none⟩)) rfl (by kernel_rfl) (by kernel_rfl) (by kernel_rfl) (fun _ _ _ h => h) (Or.inl ⟨by kernel_rfl, fun w hSw => by (try dsimp only at hSw); go_simp; all_goals first | omega | exact IntWalk.i64_in _ (by omega)⟩) (by assumption) ?_
        try simp only [Act.put, List.getElem_toArray, List.getElem_cons_zero, List.getElem_cons_succ, List.setIfInBounds_toArray, List.set_cons_zero, List.set_cons_succ]
        refine wpAnyH_take (i := 10) (v := .agg #[.int .i64 r, .slice C x.length cc]) rfl (by kernel_rfl) (by kernel_rfl) (by kernel_rfl) (fun _ _ _ h => h) (Or.inl ⟨by kernel_rfl, fun w hSw => by (try dsimp only at hSw); go_simp; all_goals first | omega | exact IntWalk.i64_in _ (by omega)⟩) (by assumption) ?_
        try simp only [Act.put, List.getElem_toArray, List.getElem_cons_zero, List.getElem_cons_succ, List.setIfInBounds_toArray, List.set_cons_zero, List.set_cons_succ]
        refine wpAnyH_ready (rs := [11]) (by kernel_rfl) (by simp) (AllReadyH.cons rfl (fun K hK => ?_) AllReadyH.nil)
        go_simp
        go_at_call 107
        refine (HEG.out _ HB2.out.fa.b.at HB2.out.fb.b.at).mono ?_
        rintro e wc3 ⟨rfl, hb⟩
        have HB3 := Lib.hid (HB2.out.below hb)
        clear hb
        refine hK.out _ _ ⟨HB3.out.bxa.2.1, HB3.out.bxa.2.2.1, HB3.out.bxa.2.2.2, HB3.out.bxb.2.1, HB3.out.bxb.2.2.1, HB3.out.bxb.2.2.2⟩ (fun hHeld => ?_)
        clear hK K
        try simp only [Act.put, List.getElem_toArray, List.getElem_cons_zero, List.getElem_cons_succ, List.setIfInBounds_toArray, List.set_cons_zero, List.set_cons_succ]
        refine wpAnyH_take (i := 12) (v := .bool false) rfl (by kernel_rfl) (by kernel_rfl) (by kernel_rfl) (fun _ _ _ h => h) (Or.inl ⟨by kernel_rfl, fun w hSw => by (try dsimp only at hSw); go_simp; all_goals first | omega | exact IntWalk.i64_in _ (by omega)⟩) (by assumption) ?_
        try simp only [Act.put, List.getElem_toArray, List.getElem_cons_zero, List.getElem_cons_succ, List.setIfInBounds_toArray, List.set_cons_zero, List.set_cons_succ]
        refine wpAnyH_take (i := 13) (v := .bool false) rfl (by kernel_rfl) (by kernel_rfl) (by kernel_rfl) (fun _ _ _ h => h) (Or.inl ⟨by kernel_rfl, fun w hSw => by (try dsimp only at hSw); go_simp; all_goals first | omega | exact IntWalk.i64_in _ (by omega)⟩) (by assumption) ?_
        try simp only [Act.put, List.getElem_toArray, List.getElem_cons_zero, List.getElem_cons_succ, List.setIfInBounds_toArray, List.set_cons_zero, List.set_cons_succ]
        refine wpAnyH_take (i := 14) (v := undef) rfl (by kernel_rfl) (by kernel_rfl) (by kernel_rfl) (fun _ _ _ h => h) (Or.inr ⟨by kernel_rfl, rfl⟩) (by assumption) ?_
        try simp only [Act.put, List.getElem_toArray, List.getElem_cons_zero, List.getElem_cons_succ, List.setIfInBounds_toArray, List.set_cons_zero, List.set_cons_succ]
        refine wpAnyH_take (i := 15) (v := undef) rfl (by kernel_rfl) (by kernel_rfl) (by kernel_rfl) (fun _ _ _ h => h) (Or.inr ⟨by kernel_rfl, rfl⟩) (by assumption) ?_
        try simp only [Act.put, List.getElem_toArray, List.getElem_cons_zero, List.getElem_cons_succ, List.setIfInBounds_toArray, List.set_cons_zero, List.set_cons_succ]
        refine wpAnyH_take (i := 16) (v := undef) rfl (by kernel_rfl) (by kernel_rfl) (by kernel_rfl) (fun _ _ _ h => h) (Or.inr ⟨by kernel_rfl, rfl⟩) (by assumption) ?_
        try simp only [Act.put, List.getElem_toArray, List.getElem_cons_zero, List.getElem_cons_succ, List.setIfInBounds_toArray, List.set_cons_zero, List.set_cons_succ]
        refine wpAnyH_take (i := 17) (v := undef) rfl (by kernel_rfl) (by kernel_rfl) (by kernel_rfl) (fun _ _ _ h => h) (Or.inr ⟨by kernel_rfl, rfl⟩) (by assumption) ?_
        try simp only [Act.put, List.getElem_toArray, List.getElem_cons_zero, List.getElem_cons_succ, List.setIfInBounds_toArray, List.set_cons_zero, List.set_cons_succ]
        refine wpAnyH_take (i := 18) (v := undef) rfl (by kernel_rfl) (by kernel_rfl) (by kernel_rfl) (fun _ _ _ h => h) (Or.inr ⟨by kernel_rfl, rfl⟩) (by assumption) ?_
        try simp only [Act.put, List.getElem_toArray, List.getElem_cons_zero, List.getElem_cons_succ, List.setIfInBounds_toArray, List.set_cons_zero, List.set_cons_succ]
        refine wpAnyH_take (i := 19) (v := .bool false) rfl (by kernel_rfl) (by kernel_rfl) (by kernel_rfl) (fun _ _ _ h => h) (Or.inl ⟨by kernel_rfl, fun w hSw => by (try dsimp only at hSw); go_simp; all_goals first | omega | exact IntWalk.i64_in _ (by omega)⟩) (by assumption) ?_
        try simp only [Act.put, List.getElem_toArray, List.getElem_cons_zero, List.getElem_cons_succ, List.setIfInBounds_toArray, List.set_cons_zero, List.set_cons_succ]
        refine wpAnyH_ready (rs := [20]) (by kernel_rfl) (by simp) (AllReadyH.cons rfl (fun K hK => ?_) AllReadyH.nil)
        go_simp
        refine hK.out _ _ ⟨HB3.out.bxa.2.1, HB3.out.bxa.2.2.1, HB3.out.bxa.2.2.2, HB3.out.bxb.2.1, HB3.out.bxb.2.2.1, HB3.out.bxb.2.2.2⟩ (fun hHeld => ?_)
        clear hK K
        try simp only [Act.put, List.getElem_toArray, List.getElem_cons_zero, List.getElem_cons_succ, List.setIfInBounds_toArray, List.set_cons_zero, List.set_cons_succ]
        refine wpAnyH_done (by kernel_rfl) ?_ _
        clear hHeld
        go_wp2_with fail
        go_ret
        exact ⟨rfl, HB3.out.bel⟩
    · have h2' : isFB r x y = false := by simpa using h2
      rw [h2'] at HIB hR0
      simp only [Bool.true_and, Bool.false_and] at hR0
      subst hR0
      clear h1 h2 h2'
      go_enter Try.func54, Try.ntmps54
      go_wp2_with fail
      generalize ((w.alloc (.cells #[.int .i64 p, .slice A l.length ca, .slice B m.length cb] 63)).alloc (.cells #[.int .i64 r, .slice C x.length cc, .slice D y.length cd] 63)) = w1 at *
      have HBD := Lib.hid (HF.out.below (show Below w1.heap.size w1 w1.drew from (Below.refl _ _).drew))
      clear HF
      refine wp_region_held_drew (S := (fun W' : World => W'.cell? ⟨w.heap.size, 0, none⟩ = some (.int .i64 p) ∧ W'.cell? ⟨w.heap.size, 1, none⟩ = some (.slice A l.length ca) ∧ W'.cell? ⟨w.heap.size, 2, none⟩ = some (.slice B m.length cb) ∧ W'.cell? ⟨w.heap.size + 1, 0, none⟩ = some (.int .i64 r) ∧ W'.cell? ⟨w.heap.size + 1, 1, none⟩ = some (.slice C x.length cc) ∧ W'.cell? ⟨w.heap.size + 1, 2, none⟩ = some (.slice D y.length cd))) (by kernel_rfl) ?_ (fun hHeld => ?_)
      · exact ⟨HBD.out.bxa.2.1, HBD.out.bxa.2.2.1, HBD.out.bxa.2.2.2, HBD.out.bxb.2.1, HBD.out.bxb.2.2.1, HBD.out.bxb.2.2.2⟩
      generalize w1.drew = WD at *
      refine wpAnyH_take (i := 0) (v := .agg #[.int .i64 p, .slice A l.length ca, .slice B m.length cb]) rfl (by kernel_rfl) (by kernel_rfl) (by kernel_rfl) (fun _ _ _ h => h) (Or.inl ⟨by kernel_rfl, fun w hSw => by (try dsimp only at hSw); go_simp; all_goals first | omega | exact IntWalk.i64_in _ (by omega)⟩) (by assumption) ?_
      try simp only [Act.put, List.getElem_toArray, List.getElem_cons_zero, List.setIfInBounds_toArray, List.set_cons_zero, List.set_cons_succ]
      refine wpAnyH_ready (rs := [1]) (by kernel_rfl) (by simp) (AllReadyH.cons rfl (fun K hK => ?_) AllReadyH.nil)
      go_simp
      go_at_call 44
      refine (HIA.out _ HBD.out.fa).mono ?_
      rintro e wc1 ⟨rfl, hb⟩
      have HB1 := Lib.hid (HBD.out.below hb)
      clear hb
      refine hK.out _ _ ⟨HB1.out.bxa.2.1, HB1.out.bxa.2.2.1, HB1.out.bxa.2.2.2, HB1.out.bxb.2.1, HB1.out.bxb.2.2.1, HB1.out.bxb.2.2.2⟩ (fun hHeld => ?_)
      clear hK K
      try simp only [Act.put, List.getElem_toArray, List.getElem_cons_zero, List.getElem_cons_succ, List.setIfInBounds_toArray, List.set_cons_zero, List.set_cons_succ]
      refine wpAnyH_take (i := 2) (v := .bool true) rfl (by kernel_rfl) (by kernel_rfl) (by kernel_rfl) (fun _ _ _ h => h) (Or.inl ⟨by kernel_rfl, fun w hSw => by (try dsimp only at hSw); go_simp; all_goals first | omega | exact IntWalk.i64_in _ (by omega)⟩) (by assumption) ?_
      try simp only [Act.put, List.getElem_toArray, List.getElem_cons_zero, List.getElem_cons_succ, List.setIfInBounds_toArray, List.set_cons_zero, List.set_cons_succ]
      refine wpAnyH_take (i := 3) (v := .agg #[.int .i64 r, .slice C x.length cc, .slice D y.length cd]) rfl (by kernel_rfl) (by kernel_rfl) (by kernel_rfl) (fun _ _ _ h => h) (Or.inl ⟨by kernel_rfl, fun w hSw => by (try dsimp only at hSw); go_simp; all_goals first | omega | exact IntWalk.i64_in _ (by omega)⟩) (by assumption) ?_
      try simp only [Act.put, List.getElem_toArray, List.getElem_cons_zero, List.getElem_cons_succ, List.setIfInBounds_toArray, List.set_cons_zero, List.set_cons_succ]
      refine wpAnyH_ready (rs := [4]) (by kernel_rfl) (by simp) (AllReadyH.cons rfl (fun K hK => ?_) AllReadyH.nil)
      go_simp
      go_at_call 44
      refine (HIB.out _ HB1.out.fb).mono ?_
      rintro e wc2 ⟨rfl, hb⟩
      have HB2 := Lib.hid (HB1.out.below hb)
      clear hb
      refine hK.out _ _ ⟨HB2.out.bxa.2.1, HB2.out.bxa.2.2.1, HB2.out.bxa.2.2.2, HB2.out.bxb.2.1, HB2.out.bxb.2.2.1, HB2.out.bxb.2.2.2⟩ (fun hHeld => ?_)
      clear hK K
      try simp only [Act.put, List.getElem_toArray, List.getElem_cons_zero, List.getElem_cons_succ, List.setIfInBounds_toArray, List.set_cons_zero, List.set_cons_succ]
      refine wpAnyH_take (i := 5) (v := .bool false) rfl (by kernel_rfl) (by kernel_rfl) (by kernel_rfl) (fun _ _ _ h => h) (Or.inl ⟨by kernel_rfl, fun w hSw => by (try dsimp only at hSw); go_simp; all_goals first | omega | exact IntWalk.i64_in _ (by omega)⟩) (by assumption) ?_
      try simp only [Act.put, List.getElem_toArray, List.getElem_cons_zero, List.getElem_cons_succ, List.setIfInBounds_toArray, List.set_cons_zero, List.set_cons_succ]
      refine wpAnyH_take (i := 6) (v := .bool false) rfl (by kernel_rfl) (by kernel_rfl) (by kernel_rfl) (fun _ _ _ h => h) (Or.inl ⟨by kernel_rfl, fun w hSw => by (try dsimp only at hSw); go_simp; all_goals first | omega | exact IntWalk.i64_in _ (by omega)⟩) (by assumption) ?_
      try simp only [Act.put, List.getElem_toArray, List.getElem_cons_zero, List.getElem_cons_succ, List.setIfInBounds_toArray, List.set_cons_zero, List.set_cons_succ]
      refine wpAnyH_take (i := 7) (v := undef) rfl (by kernel_rfl) (by kernel_rfl) (by kernel_rfl) (fun _ _ _ h => h) (Or.inr ⟨by kernel_rfl, rfl⟩) (by assumption) ?_
      try simp only [Act.put, List.getElem_toArray, List.getElem_cons_zero, List.getElem_cons_succ, List.setIfInBounds_toArray, List.set_cons_zero, List.set_cons_succ]
      refine wpAnyH_take (i := 8) (v := undef) rfl (by kernel_rfl) (by kernel_rfl) (by kernel_rfl) (fun _ _ _ h => h) (Or.inr ⟨by kernel_rfl, rfl⟩) (by assumption) ?_
      try simp only [Act.put, List.getElem_toArray, List.getElem_cons_zero, List.getElem_cons_succ, List.setIfInBounds_toArray, List.set_cons_zero, List.set_cons_succ]
      refine wpAnyH_take (i := 9) (v := undef) rfl (by kernel_rfl) (by kernel_rfl) (by kernel_rfl) (fun _ _ _ h => h) (Or.inr ⟨by kernel_rfl, rfl⟩) (by assumption) ?_
      try simp only [Act.put, List.getElem_toArray, List.getElem_cons_zero, List.getElem_cons_succ, List.setIfInBounds_toArray, List.set_cons_zero, List.set_cons_succ]
      refine wpAnyH_take (i := 10) (v := undef) rfl (by kernel_rfl) (by kernel_rfl) (by kernel_rfl) (fun _ _ _ h => h) (Or.inr ⟨by kernel_rfl, rfl⟩) (by assumption) ?_
      try simp only [Act.put, List.getElem_toArray, List.getElem_cons_zero, List.getElem_cons_succ, List.setIfInBounds_toArray, List.set_cons_zero, List.set_cons_succ]
      refine wpAnyH_take (i := 11) (v := undef) rfl (by kernel_rfl) (by kernel_rfl) (by kernel_rfl) (fun _ _ _ h => h) (Or.inr ⟨by kernel_rfl, rfl⟩) (by assumption) ?_
      try simp only [Act.put, List.getElem_toArray, List.getElem_cons_zero, List.getElem_cons_succ, List.setIfInBounds_toArray, List.set_cons_zero, List.set_cons_succ]
      refine wpAnyH_take (i := 12) (v := .bool false) rfl (by kernel_rfl) (by kernel_rfl) (by kernel_rfl) (fun _ _ _ h => h) (Or.inl ⟨by kernel_rfl, fun w hSw => by (try dsimp only at hSw); go_simp; all_goals first | omega | exact IntWalk.i64_in _ (by omega)⟩) (by assumption) ?_
      try simp only [Act.put, List.getElem_toArray, List.getElem_cons_zero, List.getElem_cons_succ, List.setIfInBounds_toArray, List.set_cons_zero, List.set_cons_succ]
      refine wpAnyH_take (i := 13) (v := .bool false) rfl (by kernel_rfl) (by kernel_rfl) (by kernel_rfl) (fun _ _ _ h => h) (Or.inl ⟨by kernel_rfl, fun w hSw => by (try dsimp only at hSw); go_simp; all_goals first | omega | exact IntWalk.i64_in _ (by omega)⟩) (by assumption) ?_
      try simp only [Act.put, List.getElem_toArray, List.getElem_cons_zero, List.getElem_cons_succ, List.setIfInBounds_toArray, List.set_cons_zero, List.set_cons_succ]
      refine wpAnyH_take (i := 14) (v := undef) rfl (by kernel_rfl) (by kernel_rfl) (by kernel_rfl) (fun _ _ _ h => h) (Or.inr ⟨by kernel_rfl, rfl⟩) (by assumption) ?_
      try simp only [Act.put, List.getElem_toArray, List.getElem_cons_zero, List.getElem_cons_succ, List.setIfInBounds_toArray, List.set_cons_zero, List.set_cons_succ]
      refine wpAnyH_take (i := 15) (v := undef) rfl (by kernel_rfl) (by kernel_rfl) (by kernel_rfl) (fun _ _ _ h => h) (Or.inr ⟨by kernel_rfl, rfl⟩) (by assumption) ?_
      try simp only [Act.put, List.getElem_toArray, List.getElem_cons_zero, List.getElem_cons_succ, List.setIfInBounds_toArray, List.set_cons_zero, List.set_cons_succ]
      refine wpAnyH_take (i := 16) (v := undef) rfl (by kernel_rfl) (by kernel_rfl) (by kernel_rfl) (fun _ _ _ h => h) (Or.inr ⟨by kernel_rfl, rfl⟩) (by assumption) ?_
      try simp only [Act.put, List.getElem_toArray, List.getElem_cons_zero, List.getElem_cons_succ, List.setIfInBounds_toArray, List.set_cons_zero, List.set_cons_succ]
      refine wpAnyH_take (i := 17) (v := undef) rfl (by kernel_rfl) (by kernel_rfl) (by kernel_rfl) (fun _ _ _ h => h) (Or.inr ⟨by kernel_rfl, rfl⟩) (by assumption) ?_
      try simp only [Act.put, List.getElem_toArray, List.getElem_cons_zero, List.getElem_cons_succ, List.setIfInBounds_toArray, List.set_cons_zero, List.set_cons_succ]
      refine wpAnyH_take (i := 18) (v := undef) rfl (by kernel_rfl) (by kernel_rfl) (by kernel_rfl) (fun _ _ _ h => h) (Or.inr ⟨by kernel_rfl, rfl⟩) (by assumption) ?_
      try simp only [Act.put, List.getElem_toArray, List.getElem_cons_zero, List.getElem_cons_succ, List.setIfInBounds_toArray, List.set_cons_zero, List.set_cons_succ]
      refine wpAnyH_take (i := 19) (v := .bool false) rfl (by kernel_rfl) (by kernel_rfl) (by kernel_rfl) (fun _ _ _ h => h) (Or.inl ⟨by kernel_rfl, fun w hSw => by (try dsimp only at hSw); go_simp; all_goals first | omega | exact IntWalk.i64_in _ (by omega)⟩) (by assumption) ?_
      try simp only [Act.put, List.getElem_toArray, List.getElem_cons_zero, List.getElem_cons_succ, List.setIfInBounds_toArray, List.set_cons_zero, List.set_cons_succ]
      refine wpAnyH_ready (rs := [20]) (by kernel_rfl) (by simp) (AllReadyH.cons rfl (fun K hK => ?_) AllReadyH.nil)
      go_simp
      refine hK.out _ _ ⟨HB2.out.bxa.2.1, HB2.out.bxa.2.2.1, HB2.out.bxa.2.2.2, HB2.out.bxb.2.1, HB2.out.bxb.2.2.1, HB2.out.bxb.2.2.2⟩ (fun hHeld => ?_)
      clear hK K
      try simp only [Act.put, List.getElem_toArray, List.getElem_cons_zero, List.getElem_cons_succ, List.setIfInBounds_toArray, List.set_cons_zero, List.set_cons_succ]
      refine wpAnyH_done (by kernel_rfl) ?_ _
      clear hHeld
      go_wp2_with fail
      go_ret
      exact ⟨rfl, HB2.out.bel⟩
  · have h1' : isFB p l m = false := by simpa using h1
    rw [h1'] at HIA hR0
    simp only [Bool.false_and] at hR0
    subst hR0
    clear h1 h1'
    go_enter Try.func54, Try.ntmps54
    go_wp2_with fail
    generalize ((w.alloc (.cells #[.int .i64 p, .slice A l.length ca, .slice B m.length cb] 63)).alloc (.cells #[.int .i64 r, .slice C x.length cc, .slice D y.length cd] 63)) = w1 at *
    have HBD := Lib.hid (HF.out.below (show Below w1.heap.size w1 w1.drew from (Below.refl _ _).drew))
    clear HF
    refine wp_region_held_drew (S := (fun W' : World => W'.cell? ⟨w.heap.size, 0, none⟩ = some (.int .i64 p) ∧ W'.cell? ⟨w.heap.size, 1, none⟩ = some (.slice A l.length ca) ∧ W'.cell? ⟨w.heap.size, 2, none⟩ = some (.slice B m.length cb) ∧ W'.cell? ⟨w.heap.size + 1, 0, none⟩ = some (.int .i64 r) ∧ W'.cell? ⟨w.heap.size + 1, 1, none⟩ = some (.slice C x.length cc) ∧ W'.cell? ⟨w.heap.size + 1, 2, none⟩ = some (.slice D y.length cd))) (by kernel_rfl) ?_ (fun hHeld => ?_)
    · exact ⟨HBD.out.bxa.2.1, HBD.out.bxa.2.2.1, HBD.out.bxa.2.2.2, HBD.out.bxb.2.1, HBD.out.bxb.2.2.1, HBD.out.bxb.2.2.2⟩
    generalize w1.drew = WD at *
    refine wpAnyH_take (i := 0) (v := .agg #[.int .i64 p, .slice A l.length ca, .slice B m.length cb]) rfl (by kernel_rfl) (by kernel_rfl) (by kernel_rfl) (fun _ _ _ h => h) (Or.inl ⟨by kernel_rfl, fun w hSw => by (try dsimp only at hSw); go_simp; all_goals first | omega | exact IntWalk.i64_in _ (by omega)⟩) (by assumption) ?_
    try simp only [Act.put, List.getElem_toArray, List.getElem_cons_zero, List.setIfInBounds_toArray, List.set_cons_zero, List.set_cons_succ]
    refine wpAnyH_ready (rs := [1]) (by kernel_rfl) (by simp) (AllReadyH.cons rfl (fun K hK => ?_) AllReadyH.nil)
    go_simp
    go_at_call 44
    refine (HIA.out _ HBD.out.fa).mono ?_
    rintro e wc1 ⟨rfl, hb⟩
    have HB1 := Lib.hid (HBD.out.below hb)
    clear hb
    refine hK.out _ _ ⟨HB1.out.bxa.2.1, HB1.out.bxa.2.2.1, HB1.out.bxa.2.2.2, HB1.out.bxb.2.1, HB1.out.bxb.2.2.1, HB1.out.bxb.2.2.2⟩ (fun hHeld => ?_)
    clear hK K
    try simp only [Act.put, List.getElem_toArray, List.getElem_cons_zero, List.getElem_cons_succ, List.setIfInBounds_toArray, List.set_cons_zero, List.set_cons_succ]
    refine wpAnyH_take (i := 2) (v := .bool false) rfl (by kernel_rfl) (by kernel_rfl) (by kernel_rfl) (fun _ _ _ h => h) (Or.inl ⟨by kernel_rfl, fun w hSw => by (try dsimp only at hSw); go_simp; all_goals first | omega | exact IntWalk.i64_in _ (by omega)⟩) (by assumption) ?_
    try simp only [Act.put, List.getElem_toArray, List.getElem_cons_zero, List.getElem_cons_succ, List.setIfInBounds_toArray, List.set_cons_zero, List.set_cons_succ]
    refine wpAnyH_take (i := 3) (v := undef) rfl (by kernel_rfl) (by kernel_rfl) (by kernel_rfl) (fun _ _ _ h => h) (Or.inr ⟨by kernel_rfl, rfl⟩) (by assumption) ?_
    try simp only [Act.put, List.getElem_toArray, List.getElem_cons_zero, List.getElem_cons_succ, List.setIfInBounds_toArray, List.set_cons_zero, List.set_cons_succ]
    refine wpAnyH_take (i := 4) (v := undef) rfl (by kernel_rfl) (by kernel_rfl) (by kernel_rfl) (fun _ _ _ h => h) (Or.inr ⟨by kernel_rfl, rfl⟩) (by assumption) ?_
    try simp only [Act.put, List.getElem_toArray, List.getElem_cons_zero, List.getElem_cons_succ, List.setIfInBounds_toArray, List.set_cons_zero, List.set_cons_succ]
    refine wpAnyH_take (i := 5) (v := .bool false) rfl (by kernel_rfl) (by kernel_rfl) (by kernel_rfl) (fun _ _ _ h => h) (Or.inl ⟨by kernel_rfl, fun w hSw => by (try dsimp only at hSw); go_simp; all_goals first | omega | exact IntWalk.i64_in _ (by omega)⟩) (by assumption) ?_
    try simp only [Act.put, List.getElem_toArray, List.getElem_cons_zero, List.getElem_cons_succ, List.setIfInBounds_toArray, List.set_cons_zero, List.set_cons_succ]
    refine wpAnyH_take (i := 6) (v := .bool false) rfl (by kernel_rfl) (by kernel_rfl) (by kernel_rfl) (fun _ _ _ h => h) (Or.inl ⟨by kernel_rfl, fun w hSw => by (try dsimp only at hSw); go_simp; all_goals first | omega | exact IntWalk.i64_in _ (by omega)⟩) (by assumption) ?_
    try simp only [Act.put, List.getElem_toArray, List.getElem_cons_zero, List.getElem_cons_succ, List.setIfInBounds_toArray, List.set_cons_zero, List.set_cons_succ]
    refine wpAnyH_take (i := 7) (v := undef) rfl (by kernel_rfl) (by kernel_rfl) (by kernel_rfl) (fun _ _ _ h => h) (Or.inr ⟨by kernel_rfl, rfl⟩) (by assumption) ?_
    try simp only [Act.put, List.getElem_toArray, List.getElem_cons_zero, List.getElem_cons_succ, List.setIfInBounds_toArray, List.set_cons_zero, List.set_cons_succ]
    refine wpAnyH_take (i := 8) (v := undef) rfl (by kernel_rfl) (by kernel_rfl) (by kernel_rfl) (fun _ _ _ h => h) (Or.inr ⟨by kernel_rfl, rfl⟩) (by assumption) ?_
    try simp only [Act.put, List.getElem_toArray, List.getElem_cons_zero, List.getElem_cons_succ, List.setIfInBounds_toArray, List.set_cons_zero, List.set_cons_succ]
    refine wpAnyH_take (i := 9) (v := undef) rfl (by kernel_rfl) (by kernel_rfl) (by kernel_rfl) (fun _ _ _ h => h) (Or.inr ⟨by kernel_rfl, rfl⟩) (by assumption) ?_
    try simp only [Act.put, List.getElem_toArray, List.getElem_cons_zero, List.getElem_cons_succ, List.setIfInBounds_toArray, List.set_cons_zero, List.set_cons_succ]
    refine wpAnyH_take (i := 10) (v := undef) rfl (by kernel_rfl) (by kernel_rfl) (by kernel_rfl) (fun _ _ _ h => h) (Or.inr ⟨by kernel_rfl, rfl⟩) (by assumption) ?_
    try simp only [Act.put, List.getElem_toArray, List.getElem_cons_zero, List.getElem_cons_succ, List.setIfInBounds_toArray, List.set_cons_zero, List.set_cons_succ]
    refine wpAnyH_take (i := 11) (v := undef) rfl (by kernel_rfl) (by kernel_rfl) (by kernel_rfl) (fun _ _ _ h => h) (Or.inr ⟨by kernel_rfl, rfl⟩) (by assumption) ?_
    try simp only [Act.put, List.getElem_toArray, List.getElem_cons_zero, List.getElem_cons_succ, List.setIfInBounds_toArray, List.set_cons_zero, List.set_cons_succ]
    refine wpAnyH_take (i := 12) (v := .bool false) rfl (by kernel_rfl) (by kernel_rfl) (by kernel_rfl) (fun _ _ _ h => h) (Or.inl ⟨by kernel_rfl, fun w hSw => by (try dsimp only at hSw); go_simp; all_goals first | omega | exact IntWalk.i64_in _ (by omega)⟩) (by assumption) ?_
    try simp only [Act.put, List.getElem_toArray, List.getElem_cons_zero, List.getElem_cons_succ, List.setIfInBounds_toArray, List.set_cons_zero, List.set_cons_succ]
    refine wpAnyH_take (i := 13) (v := .bool false) rfl (by kernel_rfl) (by kernel_rfl) (by kernel_rfl) (fun _ _ _ h => h) (Or.inl ⟨by kernel_rfl, fun w hSw => by (try dsimp only at hSw); go_simp; all_goals first | omega | exact IntWalk.i64_in _ (by omega)⟩) (by assumption) ?_
    try simp only [Act.put, List.getElem_toArray, List.getElem_cons_zero, List.getElem_cons_succ, List.setIfInBounds_toArray, List.set_cons_zero, List.set_cons_succ]
    refine wpAnyH_take (i := 14) (v := undef) rfl (by kernel_rfl) (by kernel_rfl) (by kernel_rfl) (fun _ _ _ h => h) (Or.inr ⟨by kernel_rfl, rfl⟩) (by assumption) ?_
    try simp only [Act.put, List.getElem_toArray, List.getElem_cons_zero, List.getElem_cons_succ, List.setIfInBounds_toArray, List.set_cons_zero, List.set_cons_succ]
    refine wpAnyH_take (i := 15) (v := undef) rfl (by kernel_rfl) (by kernel_rfl) (by kernel_rfl) (fun _ _ _ h => h) (Or.inr ⟨by kernel_rfl, rfl⟩) (by assumption) ?_
    try simp only [Act.put, List.getElem_toArray, List.getElem_cons_zero, List.getElem_cons_succ, List.setIfInBounds_toArray, List.set_cons_zero, List.set_cons_succ]
    refine wpAnyH_take (i := 16) (v := undef) rfl (by kernel_rfl) (by kernel_rfl) (by kernel_rfl) (fun _ _ _ h => h) (Or.inr ⟨by kernel_rfl, rfl⟩) (by assumption) ?_
    try simp only [Act.put, List.getElem_toArray, List.getElem_cons_zero, List.getElem_cons_succ, List.setIfInBounds_toArray, List.set_cons_zero, List.set_cons_succ]
    refine wpAnyH_take (i := 17) (v := undef) rfl (by kernel_rfl) (by kernel_rfl) (by kernel_rfl) (fun _ _ _ h => h) (Or.inr ⟨by kernel_rfl, rfl⟩) (by assumption) ?_
    try simp only [Act.put, List.getElem_toArray, List.getElem_cons_zero, List.getElem_cons_succ, List.setIfInBounds_toArray, List.set_cons_zero, List.set_cons_succ]
    refine wpAnyH_take (i := 18) (v := undef) rfl (by kernel_rfl) (by kernel_rfl) (by kernel_rfl) (fun _ _ _ h => h) (Or.inr ⟨by kernel_rfl, rfl⟩) (by assumption) ?_
    try simp only [Act.put, List.getElem_toArray, List.getElem_cons_zero, List.getElem_cons_succ, List.setIfInBounds_toArray, List.set_cons_zero, List.set_cons_succ]
    refine wpAnyH_take (i := 19) (v := .bool false) rfl (by kernel_rfl) (by kernel_rfl) (by kernel_rfl) (fun _ _ _ h => h) (Or.inl ⟨by kernel_rfl, fun w hSw => by (try dsimp only at hSw); go_simp; all_goals first | omega | exact IntWalk.i64_in _ (by omega)⟩) (by assumption) ?_
    try simp only [Act.put, List.getElem_toArray, List.getElem_cons_zero, List.getElem_cons_succ, List.setIfInBounds_toArray, List.set_cons_zero, List.set_cons_succ]
    refine wpAnyH_ready (rs := [20]) (by kernel_rfl) (by simp) (AllReadyH.cons rfl (fun K hK => ?_) AllReadyH.nil)
    go_simp
    refine hK.out _ _ ⟨HB1.out.bxa.2.1, HB1.out.bxa.2.2.1, HB1.out.bxa.2.2.2, HB1.out.bxb.2.1, HB1.out.bxb.2.2.1, HB1.out.bxb.2.2.2⟩ (fun hHeld => ?_)
    clear hK K
    try simp only [Act.put, List.getElem_toArray, List.getElem_cons_zero, List.getElem_cons_succ, List.setIfInBounds_toArray, List.set_cons_zero, List.set_cons_succ]
    refine wpAnyH_done (by kernel_rfl) ?_ _
    clear hHeld
    go_wp2_with fail
    go_ret
    exact ⟨rfl, HB1.out.bel⟩

set_option maxHeartbeats 8000000 in
set_option maxRecDepth 100000 in
theorem implSam (p : Int) (l m : List (Int × Int)) (r : Int) (x y : List (Int × Int)) (A : Option Addr) (ca : Nat) (B : Option Addr) (cb : Nat) (C : Option Addr) (cc : Nat) (D : Option Addr) (cd : Nat) (lo hi lo' hi' : Nat) (w : World) (hl : FwIn w lo hi A l B m) (hk : FwIn w lo' hi' C x D y) (hn : l.length + m.length ≤ 1048576) (hm : x.length + y.length ≤ 1048576) :
    Calls Try.prog 55 #[.agg #[.int .i64 p, .slice A l.length ca, .slice B m.length cb], .agg #[.int .i64 r, .slice C x.length cc, .slice D y.length cd]] w fun e w' => e = .returned (.bool (sameF p l m r x y)) ∧ Below w.heap.size w w' := by
  have HF := Lib.hid (F2I.new (p := p) (r := r) (ca := ca) (cb := cb) (cc := cc) (cd := cd) hl hk 63)
  clear hl hk
  have HIA := Lib.hid fun (W : World) (h : FwIn W lo hi A l B m) => implIsF p l m A ca B cb lo hi W h hn
  have HIB := Lib.hid fun (W : World) (h : FwIn W lo' hi' C x D y) => implIsF r x y C cc D cd lo' hi' W h hm
  have HEG := Lib.hid fun (W : World) (h : BarsAt W W.heap.size A l) (k : BarsAt W W.heap.size C x) => implEqual p r l x A C ca cc W h k (by omega)
  have HSA := Lib.hid fun (W : World) (h : FwIn W lo hi A l B m) => implSq p l m A ca B cb lo hi W h hn
  have HSB := Lib.hid fun (W : World) (h : FwIn W lo' hi' C x D y) => implSq r x y C cc D cd lo' hi' W h hm
  have hq := sqL_len p l m
  obtain ⟨zs, hzs⟩ : ∃ zs, sqL p l m = zs := ⟨_, rfl⟩
  obtain ⟨ys, hys⟩ : ∃ ys, sqL r x y = ys := ⟨_, rfl⟩
  rw [hzs] at HSA hq
  rw [hys] at HSB
  obtain ⟨R0, hR0⟩ : ∃ R0, sameF p l m r x y = R0 := ⟨_, rfl⟩
  rw [hR0]
  unfold sameF at hR0
  rw [hzs, hys] at hR0
  clear hzs hys
  have HSM := Lib.hid fun (A A' : Option Addr) (cap cap' : Nat) (lo hi lo' hi' : Nat) (W : World) (h : IntsIn W lo hi A zs) (h' : IntsIn W lo' hi' A' ys) => slEqualI zs ys A A' cap cap' lo hi lo' hi' W h h' (by omega)
  by_cases h1 : isFB p l m = true
  · rw [h1] at HIA hR0
    by_cases h2 : isFB r x y = true
    · rw [h2] at HIB hR0
      by_cases h3 : eqG p r l x = true
      · rw [h3] at HEG
        rw [show decide (p = r ∧ l = x) = true from h3] at hR0
        simp only [Bool.true_and] at hR0
        subst hR0
        obtain ⟨R, hR⟩ : ∃ R, decide (zs = ys) = R := ⟨_, rfl⟩
        rw [hR] at HSM ⊢
        clear h1 h2 h3 hR
        go_enter Try.func55, Try.ntmps55
        go_wp2_with fail
        generalize ((w.alloc (.cells #[.int .i64 p, .slice A l.length ca, .slice B m.length cb] 63)).alloc (.cells #[.int .i64 r, .slice C x.length cc, .slice D y.length cd] 63)) = w1 at *
        refine (HIA.out _ HF.out.fa).mono ?_
        rintro e v0 ⟨rfl, hb⟩
        have HT0 := Lib.hid (HF.out.below hb)
        clear hb HF
        obtain ⟨_, g0, g1, g2⟩ := HT0.out.bxa
        obtain ⟨_, k0, k1, k2⟩ := HT0.out.bxb
        go_wp2_with fail
        clear g0 g1 g2 k0 k1 k2
        refine (HIB.out _ HT0.out.fb).mono ?_
        rintro e v1 ⟨rfl, hb⟩
        have HT1 := Lib.hid (HT0.out.below hb)
        clear hb HT0
        obtain ⟨_, g0, g1, g2⟩ := HT1.out.bxa
        obtain ⟨_, k0, k1, k2⟩ := HT1.out.bxb
        go_wp2_with fail
        clear g0 g1 g2 k0 k1 k2
        refine (HEG.out _ HT1.out.fa.b.at HT1.out.fb.b.at).mono ?_
        rintro e v2 ⟨rfl, hb⟩
        have HT2 := Lib.hid (HT1.out.below hb)
        clear hb HT1
        obtain ⟨_, g0, g1, g2⟩ := HT2.out.bxa
        obtain ⟨_, k0, k1, k2⟩ := HT2.out.bxb
        go_wp2_with fail
        clear g0 g1 g2 k0 k1 k2
        have HBD := Lib.hid (HT2.out.below (show Below v2.heap.size v2 v2.drew from (Below.refl _ _).drew))
        go_region_held3 (fun W' => W'.cell? ⟨w.heap.size, 0, none⟩ = some (.int .i64 p) ∧ W'.cell? ⟨w.heap.size, 1, none⟩ = some (.slice A l.length ca) ∧ W'.cell? ⟨w.heap.size, 2, none⟩ = some (.slice B m.length cb) ∧ W'.cell? ⟨w.heap.size + 1, 0, none⟩ = some (.int .i64 r) ∧ W'.cell? ⟨w.heap.size + 1, 1, none⟩ = some (.slice C x.length cc) ∧ W'.cell? ⟨w.heap.size + 1, 2, none⟩ = some (.slice D y.length cd))
          (first | exact ⟨HBD.out.bxa.2.1, HBD.out.bxa.2.2.1, HBD.out.bxa.2.2.2, HBD.out.bxb.2.1, HBD.out.bxb.2.2.1, HBD.out.bxb.2.2.2⟩ | exact ⟨HE1.out.bxa.2.1, HE1.out.bxa.2.2.1, HE1.out.bxa.2.2.2, HE1.out.bxb.2.1, HE1.out.bxb.2.2.1, HE1.out.bxb.2.2.2⟩ | exact ⟨HE2.out.bxa.2.1, HE2.out.bxa.2.2.1, HE2.out.bxa.2.2.2, HE2.out.bxb.2.1, HE2.out.bxb.2.2.1, HE2.out.bxb.2.2.2⟩ | exact ⟨HE3.out.bxa.2.1, HE3.out.bxa.2.2.1, HE3.out.bxa.2.2.2, HE3.out.bxb.2.1, HE3.out.bxb.2.2.1, HE3.out.bxb.2.2.2⟩ | fail)
          (first
            | (go_at_call_of 49 l; refine (HSA.out _ HBD.out.fa).mono ?_; rintro e u1 ⟨A1, c1, rfl, ho, hb⟩; have HE1 := Lib.hid (HBD.out.below hb); have HR1 := Lib.hid ho.reads; clear ho hb)
            | (go_at_call_of 49 x; refine (HSB.out _ HE1.out.fb).mono ?_; rintro e u2 ⟨A2, c2, rfl, ho, hb⟩; have HE2 := Lib.hid (HE1.out.below hb); have HS1 := Lib.hid (HR1.out.within (within_of hb) (.inr (Nat.zero_le _))); have HR2 := Lib.hid ho.reads; clear ho hb)
            | (go_at_call 110; refine (HSM.out _ _ _ _ _ _ _ _ _ HS1.out HR2.out).mono ?_; rintro e u3 ⟨rfl, hb⟩; have HE3 := Lib.hid (HE2.out.below hb); clear hb))
        go_wp2_with fail
        go_ret
        exact ⟨rfl, HE3.out.bel⟩
      · have h3' : eqG p r l x = false := by simpa using h3
        rw [h3'] at HEG
        rw [show decide (p = r ∧ l = x) = false from h3'] at hR0
        simp only [Bool.true_and, Bool.false_and] at hR0
        subst hR0
        clear h1 h2 h3 h3'
        go_enter Try.func55, Try.ntmps55
        go_wp2_with fail
        generalize ((w.alloc (.cells #[.int .i64 p, .slice A l.length ca, .slice B m.length cb] 63)).alloc (.cells #[.int .i64 r, .slice C x.length cc, .slice D y.length cd] 63)) = w1 at *
        refine (HIA.out _ HF.out.fa).mono ?_
        rintro e v0 ⟨rfl, hb⟩
        have HT0 := Lib.hid (HF.out.below hb)
        clear hb HF
        obtain ⟨_, g0, g1, g2⟩ := HT0.out.bxa
        obtain ⟨_, k0, k1, k2⟩ := HT0.out.bxb
        go_wp2_with fail
        clear g0 g1 g2 k0 k1 k2
        refine (HIB.out _ HT0.out.fb).mono ?_
        rintro e v1 ⟨rfl, hb⟩
        have HT1 := Lib.hid (HT0.out.below hb)
        clear hb HT0
        obtain ⟨_, g0, g1, g2⟩ := HT1.out.bxa
        obtain ⟨_, k0, k1, k2⟩ := HT1.out.bxb
        go_wp2_with fail
        clear g0 g1 g2 k0 k1 k2
        refine (HEG.out _ HT1.out.fa.b.at HT1.out.fb.b.at).mono ?_
        rintro e v2 ⟨rfl, hb⟩
        have HT2 := Lib.hid (HT1.out.below hb)
        clear hb HT1
        obtain ⟨_, g0, g1, g2⟩ := HT2.out.bxa
        obtain ⟨_, k0, k1, k2⟩ := HT2.out.bxb
        go_wp2_with fail
        clear g0 g1 g2 k0 k1 k2
        go_ret
        exact ⟨rfl, HT2.out.bel⟩
    · have h2' : isFB r x y = false := by simpa using h2
      rw [h2'] at HIB hR0
      simp only [Bool.true_and, Bool.false_and] at hR0
      subst hR0
      clear h1 h2 h2'
      go_enter Try.func55, Try.ntmps55
      go_wp2_with fail
      generalize ((w.alloc (.cells #[.int .i64 p, .slice A l.length ca, .slice B m.length cb] 63)).alloc (.cells #[.int .i64 r, .slice C x.length cc, .slice D y.length cd] 63)) = w1 at *
      refine (HIA.out _ HF.out.fa).mono ?_
      rintro e v0 ⟨rfl, hb⟩
      have HT0 := Lib.hid (HF.out.below hb)
      clear hb HF
      obtain ⟨_, g0, g1, g2⟩ := HT0.out.bxa
      obtain ⟨_, k0, k1, k2⟩ := HT0.out.bxb
      go_wp2_with fail
      clear g0 g1 g2 k0 k1 k2
      refine (HIB.out _ HT0.out.fb).mono ?_
      rintro e v1 ⟨rfl, hb⟩
      have HT1 := Lib.hid (HT0.out.below hb)
      clear hb HT0
      obtain ⟨_, g0, g1, g2⟩ := HT1.out.bxa
      obtain ⟨_, k0, k1, k2⟩ := HT1.out.bxb
      go_wp2_with fail
      clear g0 g1 g2 k0 k1 k2
      go_ret
      exact ⟨rfl, HT1.out.bel⟩
  · have h1' : isFB p l m = false := by simpa using h1
    rw [h1'] at HIA hR0
    simp only [Bool.false_and] at hR0
    subst hR0
    clear h1 h1'
    go_enter Try.func55, Try.ntmps55
    go_wp2_with fail
    generalize ((w.alloc (.cells #[.int .i64 p, .slice A l.length ca, .slice B m.length cb] 63)).alloc (.cells #[.int .i64 r, .slice C x.length cc, .slice D y.length cd] 63)) = w1 at *
    refine (HIA.out _ HF.out.fa).mono ?_
    rintro e v0 ⟨rfl, hb⟩
    have HT0 := Lib.hid (HF.out.below hb)
    clear hb HF
    obtain ⟨_, g0, g1, g2⟩ := HT0.out.bxa
    obtain ⟨_, k0, k1, k2⟩ := HT0.out.bxb
    go_wp2_with fail
    clear g0 g1 g2 k0 k1 k2
    go_ret
    exact ⟨rfl, HT0.out.bel⟩
end Go.Proofs.Ytehendofgcebcaa
