/- What spec.FindSteps answers. No condition. -/
import Derived.Test.YtdkpmaahinbhlaaFzFndW
import Derived.Test.YtdkpmaahinbhlaaFzUndS
import Derived.Test.YtdkpmaahinbhlaaFzFrdS
import Derived.Test.YtdkpmaahinbhlaaFzCopyC
import Derived.Deep.RegionHeld3
import Derived.Deep.DeepCutAuto
namespace Go.Proofs.Ytdkpmaahinbhlaa
open Go.RowKit

set_option maxHeartbeats 4000000 in
set_option maxRecDepth 100000 in
theorem specFind (p : Int) (l : List (Int × Int)) (a : Addr) (cap : Nat) (w : World) (hl : BarsAt w w.heap.size (some a) l) (hn : l.length ≤ 1048576) :
    Calls Try.prog 78 #[.agg #[.int .i64 p, .slice (some a) l.length cap]] w (FindR w (findV p l) (findB p l)) := by
  obtain ⟨i0, hi0, iz0, iz1, iz2⟩ := info_parts infoStep
  have hA1 := new_below w (.cells #[.int .i64 p, .slice (some a) l.length cap] 26)
  have hs1 : (w.alloc (.cells #[.int .i64 p, .slice (some a) l.length cap] 26)).heap.size = w.heap.size + 1 := by simp
  have hA2 := new_below (w.alloc (.cells #[.int .i64 p, .slice (some a) l.length cap] 26)) (.cells #[] 155)
  have hs2 : ((w.alloc (.cells #[.int .i64 p, .slice (some a) l.length cap] 26)).alloc (.cells #[] 155)).heap.size = w.heap.size + 2 := by simp
  have hrow := World.ownsRow_made (base := w.heap.size) (e := 155) (size := 5) (w.alloc (.cells #[.int .i64 p, .slice (some a) l.length cap] 26)) #[] 0 (by omega) (by unfold maxLen; omega) (by simp)
  rw [hs1] at hrow
  have HX2 := Lib.hid ((cel2_new w (.int .i64 p) (.slice (some a) l.length cap) 26).kept hA2)
  have HL2 := Lib.hid ((hl.on hA1).on hA2)
  have HB2 := Lib.hid (below_on hA1 hA2 hA1.size)
  have HR2 := Lib.hid hrow
  have HS2 := Lib.hid hs2
  have HMN := Lib.hid (fun (W : World) (h : BarsAt W W.heap.size (some a) l) => specMin p l (some a) cap W h hn)
  have HCP := Lib.hid (fun (W : World) (h : BarsAt W W.heap.size (some a) l) => copy_c p l a cap W h hn)
  clear hA1 hA2 hs1 hs2 hrow hl
  obtain ⟨V, hV⟩ : ∃ V, findV p l = V := ⟨_, rfl⟩
  obtain ⟨R, hR⟩ : ∃ R, findB p l = R := ⟨_, rfl⟩
  rw [hV, hR]
  go_enter Try.func78, Try.ntmps78
  go_wp2_with fail
  generalize ((w.alloc (.cells #[.int .i64 p, .slice (some a) l.length cap] 26)).alloc (.cells #[] 155)) = w2 at *
  by_cases hm : minB p l = true
  · rw [hm] at HMN
    refine (HMN.out _ HL2.out).mono ?_
    rintro e w3 ⟨rfl, hb⟩
    have HX3 := Lib.hid (HX2.out.kept hb)
    have HL3 := Lib.hid (HL2.out.on hb)
    have HB3 := Lib.hid (below_on HB2.out hb HB2.out.size)
    have HR3 := Lib.hid (own_below HR2.out hb)
    have HS3 := Lib.hid (show w.heap.size + 2 ≤ w3.heap.size by have := hb.size; have := HS2.out; omega)
    clear hb
    obtain ⟨x0, x1, _, _⟩ := HX3.out.cells
    by_cases h0 : 0 < l.length
    · have h0' : ((l.length : Int) == 0) = false := beq_eq_false_iff_ne.2 (by omega)
      have h0'' : ¬ l = [] := fun e => by rw [e] at h0; exact absurd h0 (by simp)
      obtain ⟨P, hP, hh0, hg0, hP2, hP8⟩ := min_pos hm h0
      obtain ⟨hv1, hv2⟩ := findV_yes hm h0
      rw [hV] at hv1
      rw [hR] at hv2
      have hPn : p.toNat = P := by omega
      rw [hPn, hP] at hv1
      have HV := Lib.hid hv1
      have HH0 := Lib.hid hh0
      have HG0 := Lib.hid hg0
      subst hv2
      subst hP
      clear hv1 hh0 hg0 hPn
      go_wp2_with fail
      clear x0 x1
      refine (HCP.out _ HL3.out).mono ?_
      rintro e w4 ⟨A, c, rfl, ho, hb⟩
      have HB4 := Lib.hid (below_on HB3.out hb HB3.out.size)
      have HR4 := Lib.hid (own_below HR3.out hb)
      have HS4 := Lib.hid (show w.heap.size + 2 ≤ w4.heap.size by have := hb.size; have := HS3.out; omega)
      have HL4 := Lib.hid ho.bars.at
      clear ho hb
      have hb := new_below w4 (.cells #[.int .i64 (P : Int), .slice A l.length c] 26)
      have HI5 := Lib.hid (show FndI w (w4.alloc (.cells #[.int .i64 (P : Int), .slice A l.length c] 26)) w4.heap.size (P : Int) A c l (w.heap.size + 1) 0 [] from
        ⟨cel2_new w4 _ _ _, HL4.out.on hb, SRow.below ⟨by have := HS4.out; omega, by have := HS4.out; omega, HR4.out⟩ hb, below_on HB4.out hb HB4.out.size, HB4.out.size⟩)
      clear hb
      go_wp2_with fail
      generalize (w4.alloc (.cells #[.int .i64 (P : Int), .slice A l.length c] 26)) = w5 at *
      go_loopw [4, 6, 7, 8] (fun v4 _ _ _ wr => ∃ (n : Nat) (acc : List Stp) (A : Option Addr) (c : Nat) (m : List (Int × Int)) (g k : Nat), HenS P (n + 1) m ∧ IsG (P : Int) m ∧ 1 ≤ n ∧ acc.length + n ≤ 8 ∧ findN (P : Int) n m acc = V ∧ v4 = .slice (some ⟨g, 0, none⟩) acc.length k ∧ FndI w wr w4.heap.size (P : Int) A c m g k acc) (fun v4 _ _ _ _ => 9 - slN v4)
      case atStart => exact ⟨P - 1, [], A, c, l, w.heap.size + 1, 0, by rw [show P - 1 + 1 = P by omega]; exact HH0.out, HG0.out, by omega, by simp; omega, HV.out.symm, rfl, HI5.out⟩
      case round =>
        obtain ⟨n, acc, A, c, m, g, k, hh, hg, hn1, hn8, hf, rfl, hi⟩ := hrel
        have HI := Lib.hid hi
        have HF := Lib.hid hf
        have HG := Lib.hid hg
        have hone := hh.one
        have HH := Lib.hid hh
        clear hi hf hg hh
        obtain ⟨x0, x1, f0, f1⟩ := HI.out.x.cells
        by_cases h1 : n = 1
        · subst h1
          have hm1 : m.length = 1 := by omega
          obtain ⟨_, hend⟩ := findN_end acc HH.out
          rw [HF.out] at hend
          obtain ⟨B, off, rfl, hB1, hB2, hB3⟩ := bars_off HI.out.x HI.out.bars (by omega)
          obtain ⟨c0, c1⟩ := hB3 0 (by omega)
          have hmi : ¬ (1 : Int) < (m.length : Int) := by omega
          have hm0 : (0 : Int) < (m.length : Int) := by omega
          obtain ⟨y0, hy0⟩ : ∃ y, (m.getD 0 (0, 0)).1 = y := ⟨_, rfl⟩
          obtain ⟨y1, hy1⟩ : ∃ y, (m.getD 0 (0, 0)).2 = y := ⟨_, rfl⟩
          rw [hy0] at c0 hend
          rw [hy1] at c1 hend
          have HE := Lib.hid hend
          clear hend
          rw [Nat.zero_mul, Nat.add_zero] at c0 c1
          have KK := Lib.hid (show ∀ W : World, Below wr.heap.size wr W → W.cell? ⟨w4.heap.size, 0, none⟩ = some (.int .i64 (P : Int)) ∧ W.cell? ⟨w4.heap.size, 1, none⟩ = some (.slice (some ⟨B, off, none⟩) m.length c) ∧ W.cell? ⟨B, off, none⟩ = some (.int .i64 y0) ∧ W.cell? ⟨B, off + 1, none⟩ = some (.int .i64 y1) from
            fun W h => ⟨(h.cell (p := ⟨w4.heap.size, 0, none⟩) HI.out.x.lt).trans x0, (h.cell (p := ⟨w4.heap.size, 1, none⟩) HI.out.x.lt).trans x1, (h.cell (p := ⟨B, off, none⟩) hB1).trans c0, (h.cell (p := ⟨B, off + 1, none⟩) hB1).trans c1⟩)
          have HD := Lib.hid ((Below.refl wr.heap.size wr).drew)
          have hna := new_below wr (.cells #[.int .i64 0, .int .i64 0, .int .i64 y0, .int .i64 y1, .int .i64 0] 155)
          have hnd : Below (wr.alloc (.cells #[.int .i64 0, .int .i64 0, .int .i64 y0, .int .i64 y1, .int .i64 0] 155)).heap.size (wr.alloc (.cells #[.int .i64 0, .int .i64 0, .int .i64 y0, .int .i64 y1, .int .i64 0] 155)) (wr.alloc (.cells #[.int .i64 0, .int .i64 0, .int .i64 y0, .int .i64 y1, .int .i64 0] 155)).drew := (Below.refl _ _).drew
          have HDA := Lib.hid (below_on hna hnd hna.size)
          have HBS := Lib.hid (show w.heap.size ≤ ((wr.alloc (.cells #[.int .i64 0, .int .i64 0, .int .i64 y0, .int .i64 y1, .int .i64 0] 155)).drew).heap.size from Nat.le_trans HI.out.bel.size HDA.out.size)
          have HONE := Lib.hid (own_below (row_one wr ((0, 0, y0, y1, 0) : Stp) w.heap.size HI.out.bel.size) hnd)
          have HNEWS := Lib.hid ((HI.out.row.below HDA.out).2.2.cells (g := g) rfl)
          have HS9 := Lib.hid (show ((wr.alloc (.cells #[.int .i64 0, .int .i64 0, .int .i64 y0, .int .i64 y1, .int .i64 0] 155)).drew).heap.size = wr.heap.size + 1 from (show (wr.alloc (.cells #[.int .i64 0, .int .i64 0, .int .i64 y0, .int .i64 y1, .int .i64 0] 155)).heap.size = wr.heap.size + 1 by simp))
          clear hna hnd
          go_wp2_with fail
          refine wp_region_held_drew (S := (fun W' => W'.cell? ⟨w4.heap.size, 0, none⟩ = some (.int .i64 (P : Int)) ∧ W'.cell? ⟨w4.heap.size, 1, none⟩ = some (.slice (some ⟨B, off, none⟩) m.length c) ∧ W'.cell? ⟨B, off, none⟩ = some (.int .i64 y0) ∧ W'.cell? ⟨B, off + 1, none⟩ = some (.int .i64 y1))) (by kernel_rfl) ?_ (fun hHeld => ?_)
          · exact KK.out _ HD.out
          refine wpAnyH_take (i := 0) (v := .pointer (some ⟨w4.heap.size, 1, none⟩)) rfl (by kernel_rfl) (by kernel_rfl) (by kernel_rfl) (fun _ _ _ h => h) (Or.inl ⟨by kernel_rfl, fun w hSw => by (try dsimp only at hSw); go_simp; all_goals first | omega | exact IntWalk.i64_in _ (by omega)⟩) (by assumption) ?_
          try simp only [Act.put, List.setIfInBounds_toArray]
          refine wpAnyH_take (i := 1) (v := .slice (some ⟨B, off, none⟩) m.length c) rfl (by kernel_rfl) (by kernel_rfl) (by kernel_rfl) (fun _ _ _ h => h) (Or.inl ⟨by kernel_rfl, fun w hSw => by (try dsimp only at hSw); go_simp; all_goals first | omega | exact IntWalk.i64_in _ (by omega)⟩) (by assumption) ?_
          try simp only [Act.put]
          refine wpAnyH_take (i := 2) (v := .pointer (some ⟨B, off, none⟩)) rfl (by kernel_rfl) (by kernel_rfl) (by kernel_rfl) (fun _ _ _ h => h) (Or.inl ⟨by kernel_rfl, fun w hSw => by (try dsimp only at hSw); go_simp; all_goals first | omega | exact IntWalk.i64_in _ (by omega)⟩) (by assumption) ?_
          try simp only [Act.put]
          refine wpAnyH_take (i := 3) (v := .pointer (some ⟨B, off, none⟩)) rfl (by kernel_rfl) (by kernel_rfl) (by kernel_rfl) (fun _ _ _ h => h) (Or.inl ⟨by kernel_rfl, fun w hSw => by (try dsimp only at hSw); go_simp; all_goals first | omega | exact IntWalk.i64_in _ (by omega)⟩) (by assumption) ?_
          try simp only [Act.put]
          refine wpAnyH_take (i := 4) (v := .int .i64 y0) rfl (by kernel_rfl) (by kernel_rfl) (by kernel_rfl) (fun _ _ _ h => h) (Or.inl ⟨by kernel_rfl, fun w hSw => by (try dsimp only at hSw); go_simp; all_goals first | omega | exact IntWalk.i64_in _ (by omega)⟩) (by assumption) ?_
          try simp only [Act.put]
          refine wpAnyH_take (i := 5) (v := .pointer (some ⟨w4.heap.size, 1, none⟩)) rfl (by kernel_rfl) (by kernel_rfl) (by kernel_rfl) (fun _ _ _ h => h) (Or.inl ⟨by kernel_rfl, fun w hSw => by (try dsimp only at hSw); go_simp; all_goals first | omega | exact IntWalk.i64_in _ (by omega)⟩) (by assumption) ?_
          try simp only [Act.put]
          refine wpAnyH_take (i := 6) (v := .slice (some ⟨B, off, none⟩) m.length c) rfl (by kernel_rfl) (by kernel_rfl) (by kernel_rfl) (fun _ _ _ h => h) (Or.inl ⟨by kernel_rfl, fun w hSw => by (try dsimp only at hSw); go_simp; all_goals first | omega | exact IntWalk.i64_in _ (by omega)⟩) (by assumption) ?_
          try simp only [Act.put]
          refine wpAnyH_take (i := 7) (v := .pointer (some ⟨B, off, none⟩)) rfl (by kernel_rfl) (by kernel_rfl) (by kernel_rfl) (fun _ _ _ h => h) (Or.inl ⟨by kernel_rfl, fun w hSw => by (try dsimp only at hSw); go_simp; all_goals first | omega | exact IntWalk.i64_in _ (by omega)⟩) (by assumption) ?_
          try simp only [Act.put]
          refine wpAnyH_take (i := 8) (v := .pointer (some ⟨B, off + 1, none⟩)) rfl (by kernel_rfl) (by kernel_rfl) (by kernel_rfl) (fun _ _ _ h => h) (Or.inl ⟨by kernel_rfl, fun w hSw => by (try dsimp only at hSw); go_simp; all_goals first | omega | exact IntWalk.i64_in _ (by omega)⟩) (by assumption) ?_
          try simp only [Act.put]
          refine wpAnyH_take (i := 9) (v := .int .i64 y1) rfl (by kernel_rfl) (by kernel_rfl) (by kernel_rfl) (fun _ _ _ h => h) (Or.inl ⟨by kernel_rfl, fun w hSw => by (try dsimp only at hSw); go_simp; all_goals first | omega | exact IntWalk.i64_in _ (by omega)⟩) (by assumption) ?_
          try simp only [Act.put]
          refine wpAnyH_take (i := 10) (v := .agg #[.int .i64 0, .int .i64 0, .int .i64 y0, .int .i64 y1, .int .i64 0]) rfl (by kernel_rfl) (by kernel_rfl) (by kernel_rfl) (fun _ _ _ h => h) (Or.inl ⟨by kernel_rfl, fun w hSw => by (try dsimp only at hSw); go_simp; all_goals first | omega | exact IntWalk.i64_in _ (by omega)⟩) (by assumption) ?_
          try simp only [Act.put]
          refine wpAnyH_take (i := 12) (v := .slice (some ⟨g, 0, none⟩) acc.length k) rfl (by kernel_rfl) (by kernel_rfl) (by kernel_rfl) (fun _ _ _ h => h) (Or.inl ⟨by kernel_rfl, fun w hSw => by (try dsimp only at hSw); go_simp; all_goals first | omega | exact IntWalk.i64_in _ (by omega)⟩) (by assumption) ?_
          try simp only [Act.put]
          refine wpAnyH_ready (rs := [11]) (by kernel_rfl) (by simp) (AllReadyH.cons rfl (fun K hK => ?_) AllReadyH.nil)
          go_simp
          refine hK.out _ _ (KK.out _ HDA.out) (fun hHeld => ?_)
          clear hK K
          try simp only [Act.put, List.setIfInBounds_toArray, List.set_cons_zero, List.set_cons_succ]
          refine wpAnyH_ready (rs := [13]) (by kernel_rfl) (by simp) (AllReadyH.cons rfl (fun K hK => ?_) AllReadyH.nil)
          refine step_own2 (by rfl) _ _ _ (by rfl) w.heap.size 155 i0 _ 5 40 Try.underlying81 hi0 iz0 iz1 iz2 rfl (by omega) _ 1 (stpVals (0, 0, y0, y1, 0)) (by rfl) HONE.out ⟨g, 0, none⟩ acc.length k (stepCells acc) (by rfl) (stepCells_len acc) HNEWS.out (stepCells_one acc) (by unfold maxLen; omega) (by omega) HBS.out ?_
          intro v' w' ho hg hat
          have hat2 : v'.ownBlock = some wr.heap.size ∨ v'.ownBlock = some (wr.heap.size + 1) := hat.imp id (fun e => e.trans (congrArg some HS9.out))
          have hb10 := HDA.out.grown hg HDA.out.size (fun k e => by cases e; exact Nat.le_refl _)
          obtain ⟨g2, k2, rfl, hr⟩ := row_cons (w9 := wr) HI.out.row HI.out.x.lt ho hat2
          have HR10 := Lib.hid hr
          have HB10 := Lib.hid hb10
          clear ho hg hat hat2 hr hb10
          refine hK.out _ _ (KK.out _ HB10.out) (fun hHeld => ?_)
          clear hK K
          try simp only [Act.put, List.setIfInBounds_toArray]
          refine wpAnyH_take (i := 14) (v := .slice (some ⟨g2, 0, none⟩) (acc.length + 1) k2) rfl (by kernel_rfl) (by kernel_rfl) (by kernel_rfl) (fun _ _ _ h => h) (Or.inl ⟨by kernel_rfl, fun w hSw => by (try dsimp only at hSw); go_simp; all_goals first | omega | exact IntWalk.i64_in _ (by omega)⟩) (by assumption) ?_
          try simp only [Act.put]
          refine wpAnyH_take (i := 15) (v := .bool true) rfl (by kernel_rfl) (by kernel_rfl) (by kernel_rfl) (fun _ _ _ h => h) (Or.inl ⟨by kernel_rfl, fun w hSw => by (try dsimp only at hSw); go_simp; all_goals first | omega | exact IntWalk.i64_in _ (by omega)⟩) (by assumption) ?_
          try simp only [Act.put]
          refine wpAnyH_done (by kernel_rfl) ?_ _
          try simp only [List.getElem_toArray, List.getElem_cons_zero, List.getElem_cons_succ, List.setIfInBounds_toArray, List.set_cons_zero, List.set_cons_succ]
          go_wp2_with fail
          refine bodyPost_ret (v := .tuple #[.slice (some ⟨g2, 0, none⟩) (acc.length + 1) k2, .bool true]) ?_ rfl ⟨_, _, by rw [HE.out]; rfl, by rw [HE.out]; exact own_steps HR10.out.2.2, below_on HI.out.bel HB10.out HI.out.bel.size⟩
          simp [results, Try.results78, go_sem]
        · obtain ⟨n', rfl⟩ : ∃ n', n = n' + 1 := ⟨n - 1, by omega⟩
          have hmi : (1 : Int) < (m.length : Int) := by omega
          obtain ⟨⟨⟨s0, s1, s2, s3, s4⟩, m2⟩, hu, hh2, hg2, hf2⟩ := findN_round acc HG.out HH.out (by omega)
          simp only at hh2 hg2 hf2
          have HH2 := Lib.hid hh2
          have HG2 := Lib.hid hg2
          have HF2 := Lib.hid (hf2.symm.trans HF.out)
          have hone2 := hh2.one
          have HUC := Lib.hid (undo_c (P : Int) m A c wr HI.out.bars HG.out _ hu)
          clear hh2 hg2 hf2 hu
          go_wp2_with fail
          clear x0 x1 f0 f1
          refine HUC.out.mono ?_
          rintro e w6 ⟨A2, c2, rfl, hb2, hb⟩
          simp only
          have HI6 := Lib.hid (HI.out.below hb)
          have HL6 := Lib.hid hb2
          clear hb hb2 HUC
          have hb7 := new_below w6 (.cells #[.int .i64 (P : Int), .slice A2 m2.length c2] 26)
          have hb8 := new_below (w6.alloc (.cells #[.int .i64 (P : Int), .slice A2 m2.length c2] 26)) (.cells #[.int .i64 s0, .int .i64 s1, .int .i64 s2, .int .i64 s3, .int .i64 s4] 155)
          have hs7 : (w6.alloc (.cells #[.int .i64 (P : Int), .slice A2 m2.length c2] 26)).heap.size = w6.heap.size + 1 := by simp
          have hs8 : ((w6.alloc (.cells #[.int .i64 (P : Int), .slice A2 m2.length c2] 26)).alloc (.cells #[.int .i64 s0, .int .i64 s1, .int .i64 s2, .int .i64 s3, .int .i64 s4] 155)).heap.size = w6.heap.size + 2 := by simp
          have HC6 := Lib.hid ((cel2_new w6 (.int .i64 (P : Int)) (.slice A2 m2.length c2) 26).kept hb8)
          have hc7 := cel5_new (w6.alloc (.cells #[.int .i64 (P : Int), .slice A2 m2.length c2] 26)) (.int .i64 s0) (.int .i64 s1) (.int .i64 s2) (.int .i64 s3) (.int .i64 s4) 155
          rw [hs7] at hc7
          have HC7 := Lib.hid hc7
          have HI8 := Lib.hid ((HI6.out.below hb7).below hb8)
          have HL8 := Lib.hid ((HL6.out.on hb7).on hb8)
          have HS8 := Lib.hid hs8
          clear hb7 hb8 hs7 hs8 hc7
          go_upto_region 7 with fail
          generalize ((w6.alloc (.cells #[.int .i64 (P : Int), .slice A2 m2.length c2] 26)).alloc (.cells #[.int .i64 s0, .int .i64 s1, .int .i64 s2, .int .i64 s3, .int .i64 s4] 155)) = w8 at *
          obtain ⟨t0, t1, t2, t3, t4⟩ := HC7.out.cells
          have hb9 := new_below w8 (.cells #[.int .i64 s0, .int .i64 s1, .int .i64 s2, .int .i64 s3, .int .i64 s4] 155)
          have HBS := Lib.hid (show w.heap.size ≤ (w8.alloc (.cells #[.int .i64 s0, .int .i64 s1, .int .i64 s2, .int .i64 s3, .int .i64 s4] 155)).heap.size from Nat.le_trans HI8.out.bel.size hb9.size)
          have HONE := Lib.hid (row_one w8 ((s0, s1, s2, s3, s4) : Stp) w.heap.size HI8.out.bel.size)
          have HNEWS := Lib.hid ((HI8.out.row.below hb9).2.2.cells (g := g) rfl)
          have HB9 := Lib.hid hb9
          have hs9 : (w8.alloc (.cells #[.int .i64 s0, .int .i64 s1, .int .i64 s2, .int .i64 s3, .int .i64 s4] 155)).heap.size = w8.heap.size + 1 := by simp
          have HS9 := Lib.hid hs9
          clear hb9 hs9
          go_wp2_with (at_builtin; refine wpList_append_own_at _ rfl _ _ 81 rfl w.heap.size 155 i0 _ 5 40 Try.underlying81 hi0 iz0 iz1 iz2 rfl (by omega) _ 1 (stpVals (s0, s1, s2, s3, s4)) rfl HONE.out ⟨g, 0, none⟩ acc.length k (stepCells acc) rfl (stepCells_len acc) HNEWS.out (stepCells_one acc) (by unfold maxLen; omega) (by omega) HBS.out ?_; intro v' w' ho hg _ hat; rw [HS9.out] at hat; have hb10 := HB9.out.grown hg (by rw [HS9.out]; omega) (fun k e => by cases e; exact Nat.le_refl _); obtain ⟨g2, k2, rfl, hr⟩ := row_cons HI8.out.row HI8.out.x.lt ho hat; have HR10 := Lib.hid hr; have HI10 := Lib.hid (HI8.out.below hb10); have HL10 := Lib.hid (HL8.out.on hb10); obtain ⟨y0, y1, _, _⟩ := (HC6.out.kept hb10).cells; obtain ⟨z0, z1, z2, z3⟩ := HI10.out.x.cells; clear ho hg hat hr hb10)
          exact ⟨⟨n', (s0, s1, s2, s3, s4) :: acc, A2, c2, m2, g2, k2, HH2.out, HG2.out, by omega, by simp; omega, HF2.out, rfl, HI10.out.put HL10.out (by omega) HR10.out⟩, by simp [slN]; omega⟩
    · have h0' : ((l.length : Int) == 0) = true := beq_iff_eq.2 (by omega)
      have h0'' : l = [] := List.eq_nil_of_length_eq_zero (by omega)
      obtain ⟨hv1, hv2⟩ := findV_no (p := p) (l := l) (fun h => h0 h.2)
      rw [hV] at hv1
      rw [hR] at hv2
      subst hv1
      subst hv2
      go_wp2_with fail
      refine bodyPost_ret (v := .tuple #[.slice (some ⟨w.heap.size + 1, 0, none⟩) 0 0, .bool false]) ?_ rfl ⟨_, _, rfl, StepsAt.nil _ _ _, HB3.out⟩
      simp [results, Try.results78, go_sem]
  · have hm' : minB p l = false := by simpa using hm
    rw [hm'] at HMN
    obtain ⟨hv1, hv2⟩ := findV_no (p := p) (l := l) (fun h => hm h.1)
    rw [hV] at hv1
    rw [hR] at hv2
    subst hv1
    subst hv2
    refine (HMN.out _ HL2.out).mono ?_
    rintro e w3 ⟨rfl, hb⟩
    have HB3 := Lib.hid (below_on HB2.out hb HB2.out.size)
    clear hb
    go_wp2_with fail
    refine bodyPost_ret (v := .tuple #[.slice (some ⟨w.heap.size + 1, 0, none⟩) 0 0, .bool false]) ?_ rfl ⟨_, _, rfl, StepsAt.nil _ _ _, HB3.out⟩
    simp [results, Try.results78, go_sem]
end Go.Proofs.Ytdkpmaahinbhlaa
