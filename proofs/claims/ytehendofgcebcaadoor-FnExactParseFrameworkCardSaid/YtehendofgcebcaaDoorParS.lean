/- What spec.ParseGraph answers. -/
import Derived.Test.YtehendofgcebcaaDoorParE
import Derived.Deep.RegionHeld3
import Derived.Deep.AppendLies
namespace Go.Proofs.YtehendofgcebcaaDoor
open Go.RowKit

set_option maxHeartbeats 4000000 in
set_option maxRecDepth 100000 in
theorem specParse (s : ByteArray) (w : World) (hs : s.size ≤ 1048576) :
    Calls Tryd.prog 30 #[.string s] w (ParseO w s) := by
  obtain ⟨i0, hi0, iz0, iz1, iz2⟩ := info_parts infoBar
  have hA := new_below w (.cells #[.int .i64 0, .slice none 0 0] 32)
  have HA := Lib.hid hA
  have HBX := Lib.hid (box_new w 0 (.slice none 0 0) 32)
  have HFR := Lib.hid (show (w.alloc (.cells #[.int .i64 0, .slice none 0 0] 32)).frozen? ⟨w.heap.size, 0, none⟩ = false ∧ (w.alloc (.cells #[.int .i64 0, .slice none 0 0] 32)).frozen? ⟨w.heap.size, 1, none⟩ = false from ⟨World.frozen?_alloc_at _ _ _ _ rfl, World.frozen?_alloc_at _ _ _ _ rfl⟩)
  clear hA
  go_enter Tryd.func30, Tryd.ntmps30
  go_wp2_with fail
  generalize (w.alloc (.cells #[.int .i64 0, .slice none 0 0] 32)) = w1 at *
  refine (cut_c s 32 w1 hs).mono ?_
  rintro e w2 ⟨AW, cw, rfl, ho, hb⟩
  obtain ⟨g, rfl, hg1, hg2⟩ := words_block ho (cutB_pos s 32)
  have HW := Lib.hid ho
  have HB := Lib.hid hb
  have BX2 := Lib.hid (HBX.out.kept hb)
  have F2 := Lib.hid (show w2.frozen? ⟨w.heap.size, 0, none⟩ = false ∧ w2.frozen? ⟨w.heap.size, 1, none⟩ = false from ⟨(hb.frozen (p := ⟨w.heap.size, 0, none⟩) HBX.out.1).trans HFR.out.1, (hb.frozen (p := ⟨w.heap.size, 1, none⟩) HBX.out.1).trans HFR.out.2⟩)
  have hw1 := HBX.out.1
  have hw2 := hb.size
  have hgw : g ≠ w.heap.size := by omega
  have G3 := Lib.hid (gbox_made w2 w.heap.size [w.heap.size, g] 0 (by omega) (by intro o ho; simp at ho; rcases ho with rfl | rfl <;> omega))
  have hwl := cutB_len s 32
  have F3 := Lib.hid (show ((w2.alloc (.cells #[] 80)).alloc (.cells #[.int .i64 0, .slice (some ⟨w2.heap.size, 0, none⟩) 0 0] 32)).frozen? ⟨w2.heap.size + 1, 0, none⟩ = false by
    have h : ((w2.alloc (.cells #[] 80)).alloc (.cells #[.int .i64 0, .slice (some ⟨w2.heap.size, 0, none⟩) 0 0] 32)).frozen? ⟨(w2.alloc (.cells #[] 80)).heap.size, 0, none⟩ = false := World.frozen?_alloc_at _ _ _ _ rfl
    rwa [show (w2.alloc (.cells #[] 80)).heap.size = w2.heap.size + 1 by simp] at h)
  have hne0 : ¬ cutB s 32 = [] := fun e => by have := cutB_pos s 32; rw [e] at this; simp at this
  clear ho hb
  go_upto_region 3 with fail
  generalize ((w2.alloc (.cells #[] 80)).alloc (.cells #[.int .i64 0, .slice (some ⟨w2.heap.size, 0, none⟩) 0 0] 32)) = w3 at *
  have hw0 : (0 : Int) < ((cutB s 32).length : Int) := by have := cutB_pos s 32; omega
  have hc0 := (G3.out.cell (o := g) (k := 0) (by simp)).trans (words_cell HW.out 0 (cutB_pos s 32))
  have hz0 := cutB_get s 32 0 (cutB_pos s 32)
  have PNH := Lib.hid (pg_no_head (s := s))
  obtain ⟨h0, hh0⟩ : ∃ x, (cutB s 32).getD 0 ⟨#[]⟩ = x := ⟨_, rfl⟩
  rw [hh0] at hc0 hz0 PNH
  have HH0 := Lib.hid hh0
  clear hh0
  by_cases h2 : h0.size < 2
  · have h2' : (h0.size : Int) < 2 := by omega
    have r0 := (G3.out.cell (o := w.heap.size) (k := 0) (by simp)).trans BX2.out.2.1
    have r1 := (G3.out.cell (o := w.heap.size) (k := 1) (by simp)).trans BX2.out.2.2
    have f0 := (G3.out.frozen (o := w.heap.size) (k := 0) (by simp)).trans F2.out.1
    have f1 := (G3.out.frozen (o := w.heap.size) (k := 1) (by simp)).trans F2.out.2
    obtain ⟨s0, s1⟩ := ret_two (p := 0) (v := .slice none 0 0) r0 r1
    have HR := Lib.hid (G3.out.ret (o := w.heap.size) (by simp) (Nat.le_refl _) (.int .i64 0) (.slice none 0 0))
    go_wp2_with fail
    refine bodyPost_ret (v := .tuple #[.agg #[.int .i64 0, .slice none 0 0], .bool false]) ?_ rfl ⟨0, [], false, PNH.out h2, none, 0, rfl, ⟨Nat.le_refl _, .inl rfl⟩, HA.out.trans ((HB.out.mono (by omega)).trans HR.out.2)⟩
    simp [results, Tryd.results30, go_sem, s0, s1]
  · have h2' : ¬ (h0.size : Int) < 2 := by omega
    go_wp2_with fail
    clear hc0
    have hx0 : (h0.extract 0 (h0.size - 1)).size ≤ maxLen := by
      have hm : (1048576 : Nat) ≤ maxLen := by decide
      simp
      omega
    have hsl : ∀ W : World, (Instr.slice 9 (.string h0) none (some (.int .i64 ((h0.size : Int) - 1))) none).run Tryd.prog W = .ok (.string (h0.extract 0 (h0.size - 1))) W := fun W => by
      have h := run_slice_string_h W 9 h0 Tryd.underlying9 .i64 ((h0.size : Int) - 1) (by omega) (by omega)
      rw [show ((h0.size : Int) - 1).toNat = h0.size - 1 by omega] at h
      exact h
    have hwr : IntKind.i64.wrap ((h0.size : Int) - 1) = (h0.size : Int) - 1 := by rw [IntKind.wrap_i64]; omega
    have HC := Lib.hid (show ∀ W p, GBox w.heap.size w2 W (w2.heap.size + 1) [w.heap.size, g] p (some ⟨w2.heap.size, 0, none⟩) 0 [] → W.cell? ⟨g, 0, none⟩ = some (.string h0) from fun W p h => by
      rw [← HH0.out]
      exact (h.cell (o := g) (k := 0) (by simp)).trans (words_cell HW.out 0 (cutB_pos s 32)))
    clear hw0
    have hw0 : (0 : Int) < ((cutB s 32).length : Int) := by have := cutB_pos s 32; omega
    refine wp_region_held_drew (S := (fun W' : World => W'.cell? ⟨g, 0, none⟩ = some (.string h0))) (by kernel_rfl) ?_ (fun hHeld => ?_)
    · exact HC.out _ _ G3.out.drew
    refine wpAnyH_take (i := 0) (v := .slice (some ⟨g, 0, none⟩) (cutB s 32).length cw) rfl (by kernel_rfl) (by kernel_rfl) (by kernel_rfl) (fun _ _ _ h => h) (Or.inl ⟨by kernel_rfl, fun w hSw => by (try dsimp only at hSw); go_simp; all_goals first | omega | rfl | (intro hx; exact absurd hx hne0)⟩) (by assumption) ?_
    try simp only [Act.put, List.setIfInBounds_toArray]
    refine wpAnyH_take (i := 1) (v := .pointer (some ⟨g, 0, none⟩)) rfl (by kernel_rfl) (by kernel_rfl) (by kernel_rfl) (fun _ _ _ h => h) (Or.inl ⟨by kernel_rfl, fun w hSw => by (try dsimp only at hSw); go_simp; all_goals first | omega | rfl | (intro hx; exact absurd hx hne0)⟩) (by assumption) ?_
    try simp only [Act.put]
    refine wpAnyH_take (i := 2) (v := .string h0) rfl (by kernel_rfl) (by kernel_rfl) (by kernel_rfl) (fun _ _ _ h => h) (Or.inl ⟨by kernel_rfl, fun w hSw => by (try dsimp only at hSw); go_simp; all_goals first | omega | rfl | (intro hx; exact absurd hx hne0)⟩) (by assumption) ?_
    try simp only [Act.put]
    refine wpAnyH_take (i := 3) (v := .slice (some ⟨g, 0, none⟩) (cutB s 32).length cw) rfl (by kernel_rfl) (by kernel_rfl) (by kernel_rfl) (fun _ _ _ h => h) (Or.inl ⟨by kernel_rfl, fun w hSw => by (try dsimp only at hSw); go_simp; all_goals first | omega | rfl | (intro hx; exact absurd hx hne0)⟩) (by assumption) ?_
    try simp only [Act.put]
    refine wpAnyH_take (i := 4) (v := .pointer (some ⟨g, 0, none⟩)) rfl (by kernel_rfl) (by kernel_rfl) (by kernel_rfl) (fun _ _ _ h => h) (Or.inl ⟨by kernel_rfl, fun w hSw => by (try dsimp only at hSw); go_simp; all_goals first | omega | rfl | (intro hx; exact absurd hx hne0)⟩) (by assumption) ?_
    try simp only [Act.put]
    refine wpAnyH_take (i := 5) (v := .string h0) rfl (by kernel_rfl) (by kernel_rfl) (by kernel_rfl) (fun _ _ _ h => h) (Or.inl ⟨by kernel_rfl, fun w hSw => by (try dsimp only at hSw); go_simp; all_goals first | omega | rfl | (intro hx; exact absurd hx hne0)⟩) (by assumption) ?_
    try simp only [Act.put]
    refine wpAnyH_take (i := 6) (v := .int .i64 (h0.size : Int)) rfl (by kernel_rfl) (by kernel_rfl) (by kernel_rfl) (fun _ _ _ h => h) (Or.inl ⟨by kernel_rfl, fun w hSw => by (try dsimp only at hSw); go_simp; all_goals first | omega | rfl | (intro hx; exact absurd hx hne0)⟩) (by assumption) ?_
    try simp only [Act.put]
    refine wpAnyH_take (i := 7) (v := .int .i64 ((h0.size : Int) - 1)) rfl (by kernel_rfl) (by kernel_rfl) (by kernel_rfl) (fun _ _ _ h => h) (Or.inl ⟨by kernel_rfl, fun w hSw => by (try dsimp only at hSw); go_simp; all_goals first | omega | rfl | (intro hx; exact absurd hx hne0)⟩) (by assumption) ?_
    try simp only [Act.put]
    refine wpAnyH_take (i := 8) (v := .string (h0.extract 0 (h0.size - 1))) rfl (by kernel_rfl) (by kernel_rfl) (by kernel_rfl) (fun _ _ _ h => h) (Or.inl ⟨by kernel_rfl, fun w hSw => by (try dsimp only at hSw); go_simp; all_goals first | omega | rfl | (intro hx; exact absurd hx hne0)⟩) (by assumption) ?_
    try simp only [Act.put]
    refine wpAnyH_ready (rs := [9]) (by kernel_rfl) (by simp) (AllReadyH.cons rfl (fun K hK => ?_) AllReadyH.nil)
    go_simp
    go_at_call 31
    refine (num_c _ _ hx0).mono ?_
    rintro e w4 ⟨rfl, hb⟩
    have G4 := Lib.hid (G3.out.drew.below hb)
    have F4 := Lib.hid ((hb.frozen (p := ⟨w2.heap.size + 1, 0, none⟩) G3.out.drew.1.1).trans F3.out)
    have k4 := HC.out _ _ G4.out
    clear hb
    refine hK.out _ _ k4 (fun hHeld => ?_)
    clear hK K
    try simp only [Act.put, List.setIfInBounds_toArray, List.set_cons_zero, List.set_cons_succ]
    refine wpAnyH_take (i := 10) (v := .pointer (some ⟨w2.heap.size + 1, 0, none⟩)) rfl (by kernel_rfl) (by kernel_rfl) (by kernel_rfl) (fun _ _ _ h => h) (Or.inl ⟨by kernel_rfl, fun w hSw => by (try dsimp only at hSw); go_simp; all_goals first | omega | rfl | (intro hx; exact absurd hx hne0)⟩) (by assumption) ?_
    try simp only [Act.put, List.setIfInBounds_toArray]
    refine wpAnyH_ready (rs := [11]) (by kernel_rfl) (by simp) (AllReadyH.cons rfl (fun K hK => ?_) AllReadyH.nil)
    have G5 := Lib.hid (G4.out.points (numS (h0.extract 0 (h0.size - 1))))
    have q0 := G4.out.1.2.1
    have qf := F4.out
    go_simp
    refine hK.out _ _ (HC.out _ _ G5.out) (fun hHeld => ?_)
    clear hK K q0 qf
    try simp only [Act.put, List.setIfInBounds_toArray, List.set_cons_zero, List.set_cons_succ]
    refine wpAnyH_done (by kernel_rfl) ?_ _
    generalize (w4.setCell ⟨w2.heap.size + 1, 0, none⟩ (.int .i64 (numS (h0.extract 0 (h0.size - 1))))) = w5 at *
    clear hw0 hwr hsl hx0
    obtain ⟨q, hq⟩ : ∃ x, numS (h0.extract 0 (h0.size - 1)) = x := ⟨_, rfl⟩
    rw [hq] at G5
    have HQ := Lib.hid (show headP h0 = q from hq)
    clear hq
    go_wp2_with fail
    go_loopw [6, 7] (fun i _ wr => ∃ k : Nat, 1 ≤ k ∧ k ≤ (cutB s 32).length ∧ i = .int .i64 k ∧ ∃ A c m, m = parseB (((cutB s 32).drop 1).take (k - 1)) ∧ GBox w.heap.size w2 wr (w2.heap.size + 1) [w.heap.size, g] q A c m) (fun i _ _ => (cutB s 32).length - (intOf i).toNat)
    case atStart => exact ⟨1, by omega, cutB_pos s 32, rfl, _, _, _, by simp [parseB], G5.out⟩
    case round =>
      obtain ⟨k, hk1, hk, rfl, A, c, m, hm, hg⟩ := hrel
      have HG := Lib.hid hg
      have HM := Lib.hid hm
      have hml : m.length ≤ 1048576 := by
        have h1 : m.length ≤ (cutB s 32).length - 1 := by rw [hm]; simp [parseB]; omega
        omega
      clear hg hm
      obtain ⟨g1a, g1, g2⟩ := HG.out.1
      by_cases hlt : k < (cutB s 32).length
      · have hik : (k : Int) < ((cutB s 32).length : Int) := by omega
        have hck := (HG.out.cell (o := g) (k := k) (by simp)).trans (words_cell HW.out k hlt)
        have hzk := cutB_get s 32 k hlt
        have HPS := Lib.hid (parse_step (cutB s 32) k hk1 hlt)
        have HNO := Lib.hid (pg_no_word hk1 hlt)
        obtain ⟨h, hh⟩ : ∃ x, (cutB s 32).getD k ⟨#[]⟩ = x := ⟨_, rfl⟩
        rw [hh] at hck hzk HPS HNO
        clear hh
        go_wp2_with fail
        clear hck g1 g2
        refine (cut_c h 45 wr (by omega)).mono ?_
        rintro e w6 ⟨AP, cp, rfl, ho6, hb6⟩
        obtain ⟨gp, rfl, hgp1, hgp2⟩ := words_block ho6 (cutB_pos h 45)
        have G6 := Lib.hid (HG.out.below hb6)
        have HP := Lib.hid ho6
        clear ho6 hb6
        by_cases hl2 : (cutB h 45).length = 2
        · have hb0 := cutB_get h 45 0 (by omega)
          have hb1 := cutB_get h 45 1 (by omega)
          have hA0 := words_cell HP.out 0 (by omega)
          have hA1 := words_cell HP.out 1 (by omega)
          have hmx : (2000000 : Nat) ≤ maxLen := by decide
          obtain ⟨a0, ha0⟩ : ∃ x, (cutB h 45).getD 0 ⟨#[]⟩ = x := ⟨_, rfl⟩
          obtain ⟨a1, ha1⟩ : ∃ x, (cutB h 45).getD 1 ⟨#[]⟩ = x := ⟨_, rfl⟩
          rw [ha0] at hA0 hb0 HPS
          rw [ha1] at hA1 hb1 HPS
          have HN0 := fun W => num_c a0 W (by omega)
          have HN1 := fun W => num_c a1 W (by omega)
          generalize numS a0 = n0 at *
          generalize numS a1 = n1 at *
          have HN0 := Lib.hid HN0
          have HN1 := Lib.hid HN1
          have hgb : gp ≠ w2.heap.size + 1 := by have := HG.out.1.1; omega
          have HOG := Lib.hid (show ∀ b, (Value.slice A m.length c).ownBlock = some b → b ≠ gp from fun b e => by have := (HG.out.2.2.2.1.lt b e).2; omega)
          have C6 := Lib.hid (show w6.drew.cell? ⟨gp, 0, none⟩ = some (.string a0) ∧ w6.drew.cell? ⟨gp, 1, none⟩ = some (.string a1) from ⟨hA0, hA1⟩)
          have Z6 := Lib.hid (show gp < w6.drew.heap.size from hgp2)
          have G6d := Lib.hid G6.out.drew
          rw [hl2]
          clear hb0 hb1 hA0 hA1 ha0 ha1 hl2
          go_wp2_with fail
          refine wp_region_held_drew (S := (fun W' : World => W'.cell? ⟨gp, 0, none⟩ = some (.string a0) ∧ W'.cell? ⟨gp, 1, none⟩ = some (.string a1))) (by kernel_rfl) ?_ (fun hHeld => ?_)
          · exact C6.out
          refine wpAnyH_take (i := 0) (v := .pointer (some ⟨w2.heap.size + 1, 1, none⟩)) rfl (by kernel_rfl) (by kernel_rfl) (by kernel_rfl) (fun _ _ _ h => h) (Or.inl ⟨by kernel_rfl, fun w hSw => by (try dsimp only at hSw); go_simp; all_goals omega⟩) (by assumption) ?_
          try simp only [Act.put, List.setIfInBounds_toArray]
          refine wpAnyH_take (i := 2) (v := .slice (some ⟨gp, 0, none⟩) 2 cp) rfl (by kernel_rfl) (by kernel_rfl) (by kernel_rfl) (fun _ _ _ h => h) (Or.inl ⟨by kernel_rfl, fun w hSw => by (try dsimp only at hSw); go_simp; all_goals omega⟩) (by assumption) ?_
          try simp only [Act.put]
          refine wpAnyH_take (i := 3) (v := .pointer (some ⟨gp, 0, none⟩)) rfl (by kernel_rfl) (by kernel_rfl) (by kernel_rfl) (fun _ _ _ h => h) (Or.inl ⟨by kernel_rfl, fun w hSw => by (try dsimp only at hSw); go_simp; all_goals omega⟩) (by assumption) ?_
          try simp only [Act.put]
          refine wpAnyH_take (i := 4) (v := .string a0) rfl (by kernel_rfl) (by kernel_rfl) (by kernel_rfl) (fun _ _ _ h => h) (Or.inl ⟨by kernel_rfl, fun w hSw => by (try dsimp only at hSw); go_simp; all_goals omega⟩) (by assumption) ?_
          try simp only [Act.put]
          refine wpAnyH_take (i := 6) (v := .slice (some ⟨gp, 0, none⟩) 2 cp) rfl (by kernel_rfl) (by kernel_rfl) (by kernel_rfl) (fun _ _ _ h => h) (Or.inl ⟨by kernel_rfl, fun w hSw => by (try dsimp only at hSw); go_simp; all_goals omega⟩) (by assumption) ?_
          try simp only [Act.put]
          refine wpAnyH_take (i := 7) (v := .pointer (some ⟨gp, 1, none⟩)) rfl (by kernel_rfl) (by kernel_rfl) (by kernel_rfl) (fun _ _ _ h => h) (Or.inl ⟨by kernel_rfl, fun w hSw => by (try dsimp only at hSw); go_simp; all_goals omega⟩) (by assumption) ?_
          try simp only [Act.put]
          refine wpAnyH_take (i := 8) (v := .string a1) rfl (by kernel_rfl) (by kernel_rfl) (by kernel_rfl) (fun _ _ _ h => h) (Or.inl ⟨by kernel_rfl, fun w hSw => by (try dsimp only at hSw); go_simp; all_goals omega⟩) (by assumption) ?_
          try simp only [Act.put]
          refine wpAnyH_ready (rs := [1, 5]) (by kernel_rfl) (by simp) (AllReadyH.cons rfl (fun K hK => ?_) (AllReadyH.cons rfl (fun K hK => ?_) AllReadyH.nil))
          · have q1 := G6d.out.1.2.2
            go_simp
            clear q1
            refine hK.out _ _ C6.out (fun hHeld => ?_)
            clear hK K
            try simp only [Act.put, List.setIfInBounds_toArray, List.set_cons_zero, List.set_cons_succ]
            refine wpAnyH_ready (rs := [5]) (by kernel_rfl) (by simp) (AllReadyH.cons rfl (fun K hK => ?_) AllReadyH.nil)
            go_simp
            go_at_call 31
            refine (HN0.out _).mono ?_
            rintro e w7 ⟨rfl, hb⟩
            have G7 := Lib.hid (G6d.out.below hb)
            have C7 := Lib.hid (show w7.cell? ⟨gp, 0, none⟩ = some (.string a0) ∧ w7.cell? ⟨gp, 1, none⟩ = some (.string a1) from ⟨(hb.cell (p := ⟨gp, 0, none⟩) Z6.out).trans C6.out.1, (hb.cell (p := ⟨gp, 1, none⟩) Z6.out).trans C6.out.2⟩)
            have Z7 := Lib.hid (Nat.lt_of_lt_of_le Z6.out hb.size)
            clear hb
            refine hK.out _ _ C7.out (fun hHeld => ?_)
            clear hK K
            try simp only [Act.put, List.setIfInBounds_toArray, List.set_cons_zero, List.set_cons_succ]
            refine wpAnyH_ready (rs := [9]) (by kernel_rfl) (by simp) (AllReadyH.cons rfl (fun K hK => ?_) AllReadyH.nil)
            go_simp
            go_at_call 31
            refine (HN1.out _).mono ?_
            rintro e w8 ⟨rfl, hb⟩
            have G8 := Lib.hid (G7.out.below hb)
            have C8 := Lib.hid (show w8.cell? ⟨gp, 0, none⟩ = some (.string a0) ∧ w8.cell? ⟨gp, 1, none⟩ = some (.string a1) from ⟨(hb.cell (p := ⟨gp, 0, none⟩) Z7.out).trans C7.out.1, (hb.cell (p := ⟨gp, 1, none⟩) Z7.out).trans C7.out.2⟩)
            have Z8 := Lib.hid (Nat.lt_of_lt_of_le Z7.out hb.size)
            clear hb
            refine hK.out _ _ C8.out (fun hHeld => ?_)
            clear hK K
            try simp only [Act.put, List.setIfInBounds_toArray, List.set_cons_zero, List.set_cons_succ]
            refine wpAnyH_take (i := 10) (v := .agg #[.int .i64 n0, .int .i64 n1]) rfl (by kernel_rfl) (by kernel_rfl) (by kernel_rfl) (fun _ _ _ h => h) (Or.inl ⟨by kernel_rfl, fun w hSw => by (try dsimp only at hSw); go_simp; all_goals omega⟩) (by assumption) ?_
            try simp only [Act.put, List.setIfInBounds_toArray]
            refine wpAnyH_ready (rs := [11]) (by kernel_rfl) (by simp) (AllReadyH.cons rfl (fun K hK => ?_) AllReadyH.nil)
            have hb := new_below w8 (.cells #[.int .i64 n0, .int .i64 n1] 80)
            have G9 := Lib.hid (G8.out.below hb)
            have C9 := Lib.hid (show (w8.alloc (.cells #[.int .i64 n0, .int .i64 n1] 80)).cell? ⟨gp, 0, none⟩ = some (.string a0) ∧ (w8.alloc (.cells #[.int .i64 n0, .int .i64 n1] 80)).cell? ⟨gp, 1, none⟩ = some (.string a1) from ⟨(hb.cell (p := ⟨gp, 0, none⟩) Z8.out).trans C8.out.1, (hb.cell (p := ⟨gp, 1, none⟩) Z8.out).trans C8.out.2⟩)
            have Z9 := Lib.hid (Nat.lt_of_lt_of_le Z8.out hb.size)
            have GA := Lib.hid (World.grownBy_alloc w8 (.cells #[.int .i64 n0, .int .i64 n1] 80) (Value.slice A m.length c).ownBlock)
            have HN9 := Lib.hid (heap_alloc_new w8 (.cells #[.int .i64 n0, .int .i64 n1] 80))
            have hs9 : (w8.alloc (.cells #[.int .i64 n0, .int .i64 n1] 80)).heap.size = w8.heap.size + 1 := by simp
            have S9 := Lib.hid hs9
            clear hb hs9
            go_simp
            generalize (w8.alloc (.cells #[.int .i64 n0, .int .i64 n1] 80)) = w9 at *
            refine hK.out _ _ C9.out (fun hHeld => ?_)
            clear hK K
            try simp only [Act.put, List.setIfInBounds_toArray, List.set_cons_zero, List.set_cons_succ]
            refine wpAnyH_ready (rs := [12]) (by kernel_rfl) (by simp) (AllReadyH.cons rfl (fun K hK => ?_) AllReadyH.nil)
            refine step_append_lies _ (by rfl) _ _ _ (by rfl) w.heap.size 80 i0 _ 2 16 Tryd.underlying30 hi0 iz0 iz1 iz2 rfl (by omega) _ m.length (barCells m) (by rfl) G9.out.2.2.2.1 ⟨w8.heap.size, 0, none⟩ 1 1 [.int .i64 n0, .int .i64 n1] (by rfl) (by rfl) (World.news_of_block (cs := #[.int .i64 n0, .int .i64 n1]) (t := 80) (fr := (0, 0)) HN9.out) (by simp [Value.oneCell']) (by omega) (by omega) (by omega) (Nat.le_of_lt (Nat.lt_of_le_of_lt G9.out.2.2.2.2.2.2 G9.out.1.1)) (w8.heap.size + 1) S9.out ?_
            intro gg cap2 w10 hown1 hgrow hat hlt1
            have hkp := hgrow.block gp Z9.out (fun e => HOG.out gp e.symm rfl)
            obtain ⟨c0, c1, f1, A2, c2, e2, hG2⟩ := G8.out.push (n0, n1) hown1 (GA.out.trans_ hgrow) (by rcases hat with hat | hat; exact .inl hat.symm; exact .inr (by rw [hat]; rfl))
            cases e2
            have HG2 := Lib.hid hG2
            have Q10 := Lib.hid (And.intro c1 f1)
            have C10 := Lib.hid (show w10.cell? ⟨gp, 0, none⟩ = some (.string a0) ∧ w10.cell? ⟨gp, 1, none⟩ = some (.string a1) from ⟨(World.cell?_of_block (a := ⟨gp, 0, none⟩) hkp).trans C9.out.1, (World.cell?_of_block (a := ⟨gp, 1, none⟩) hkp).trans C9.out.2⟩)
            clear c0 c1 f1 hG2 hkp hown1 hgrow hat hlt1
            refine hK.out _ _ C10.out (fun hHeld => ?_)
            clear hK K
            try simp only [Act.put, List.setIfInBounds_toArray]
            refine wpAnyH_take (i := 13) (v := .pointer (some ⟨w2.heap.size + 1, 1, none⟩)) rfl (by kernel_rfl) (by kernel_rfl) (by kernel_rfl) (fun _ _ _ h => h) (Or.inl ⟨by kernel_rfl, fun w hSw => by (try dsimp only at hSw); go_simp; all_goals omega⟩) (by assumption) ?_
            try simp only [Act.put]
            refine wpAnyH_ready (rs := [14]) (by kernel_rfl) (by simp) (AllReadyH.cons rfl (fun K hK => ?_) AllReadyH.nil)
            obtain ⟨q1, q2⟩ := Q10.out
            have C11 := Lib.hid (show (w10.setCell ⟨w2.heap.size + 1, 1, none⟩ (.slice (some ⟨gg, 0, none⟩) (m.length + 1) cap2)).cell? ⟨gp, 0, none⟩ = some (.string a0) ∧ (w10.setCell ⟨w2.heap.size + 1, 1, none⟩ (.slice (some ⟨gg, 0, none⟩) (m.length + 1) cap2)).cell? ⟨gp, 1, none⟩ = some (.string a1) from ⟨(World.cell?_setCell_other _ _ _ _ (by intro e; simp at e)).trans C10.out.1, (World.cell?_setCell_other _ _ _ _ (by intro e; simp at e)).trans C10.out.2⟩)
            go_simp
            clear q1 q2
            refine hK.out _ _ C11.out (fun hHeld => ?_)
            clear hK K
            try simp only [Act.put, List.setIfInBounds_toArray, List.set_cons_zero, List.set_cons_succ]
            refine wpAnyH_done (by kernel_rfl) ?_ _
            generalize (w10.setCell ⟨w2.heap.size + 1, 1, none⟩ (.slice (some ⟨gg, 0, none⟩) (m.length + 1) cap2)) = w11 at *
            go_wp2_with fail
            go_roundw
            case rel => exact ⟨k + 1, by omega, by omega, by go_num, _, _, m ++ [(n0, n1)], by rw [show k + 1 - 1 = k by omega, HPS.out, ← HM.out], HG2.out⟩
            case measure => simp [intOf]; omega
          · go_simp
            go_at_call 31
            refine (HN0.out _).mono ?_
            rintro e w7 ⟨rfl, hb⟩
            have G7 := Lib.hid (G6d.out.below hb)
            have C7 := Lib.hid (show w7.cell? ⟨gp, 0, none⟩ = some (.string a0) ∧ w7.cell? ⟨gp, 1, none⟩ = some (.string a1) from ⟨(hb.cell (p := ⟨gp, 0, none⟩) Z6.out).trans C6.out.1, (hb.cell (p := ⟨gp, 1, none⟩) Z6.out).trans C6.out.2⟩)
            have Z7 := Lib.hid (Nat.lt_of_lt_of_le Z6.out hb.size)
            clear hb
            refine hK.out _ _ C7.out (fun hHeld => ?_)
            clear hK K
            try simp only [Act.put, List.setIfInBounds_toArray, List.set_cons_zero, List.set_cons_succ]
            refine wpAnyH_ready (rs := [1, 9]) (by kernel_rfl) (by simp) (AllReadyH.cons rfl (fun K hK => ?_) (AllReadyH.cons rfl (fun K hK => ?_) AllReadyH.nil))
            · have q1 := G7.out.1.2.2
              go_simp
              clear q1
              refine hK.out _ _ C7.out (fun hHeld => ?_)
              clear hK K
              try simp only [Act.put, List.setIfInBounds_toArray, List.set_cons_zero, List.set_cons_succ]
              refine wpAnyH_ready (rs := [9]) (by kernel_rfl) (by simp) (AllReadyH.cons rfl (fun K hK => ?_) AllReadyH.nil)
              go_simp
              go_at_call 31
              refine (HN1.out _).mono ?_
              rintro e w8 ⟨rfl, hb⟩
              have G8 := Lib.hid (G7.out.below hb)
              have C8 := Lib.hid (show w8.cell? ⟨gp, 0, none⟩ = some (.string a0) ∧ w8.cell? ⟨gp, 1, none⟩ = some (.string a1) from ⟨(hb.cell (p := ⟨gp, 0, none⟩) Z7.out).trans C7.out.1, (hb.cell (p := ⟨gp, 1, none⟩) Z7.out).trans C7.out.2⟩)
              have Z8 := Lib.hid (Nat.lt_of_lt_of_le Z7.out hb.size)
              clear hb
              refine hK.out _ _ C8.out (fun hHeld => ?_)
              clear hK K
              try simp only [Act.put, List.setIfInBounds_toArray, List.set_cons_zero, List.set_cons_succ]
              refine wpAnyH_take (i := 10) (v := .agg #[.int .i64 n0, .int .i64 n1]) rfl (by kernel_rfl) (by kernel_rfl) (by kernel_rfl) (fun _ _ _ h => h) (Or.inl ⟨by kernel_rfl, fun w hSw => by (try dsimp only at hSw); go_simp; all_goals omega⟩) (by assumption) ?_
              try simp only [Act.put, List.setIfInBounds_toArray]
              refine wpAnyH_ready (rs := [11]) (by kernel_rfl) (by simp) (AllReadyH.cons rfl (fun K hK => ?_) AllReadyH.nil)
              have hb := new_below w8 (.cells #[.int .i64 n0, .int .i64 n1] 80)
              have G9 := Lib.hid (G8.out.below hb)
              have C9 := Lib.hid (show (w8.alloc (.cells #[.int .i64 n0, .int .i64 n1] 80)).cell? ⟨gp, 0, none⟩ = some (.string a0) ∧ (w8.alloc (.cells #[.int .i64 n0, .int .i64 n1] 80)).cell? ⟨gp, 1, none⟩ = some (.string a1) from ⟨(hb.cell (p := ⟨gp, 0, none⟩) Z8.out).trans C8.out.1, (hb.cell (p := ⟨gp, 1, none⟩) Z8.out).trans C8.out.2⟩)
              have Z9 := Lib.hid (Nat.lt_of_lt_of_le Z8.out hb.size)
              have GA := Lib.hid (World.grownBy_alloc w8 (.cells #[.int .i64 n0, .int .i64 n1] 80) (Value.slice A m.length c).ownBlock)
              have HN9 := Lib.hid (heap_alloc_new w8 (.cells #[.int .i64 n0, .int .i64 n1] 80))
              have hs9 : (w8.alloc (.cells #[.int .i64 n0, .int .i64 n1] 80)).heap.size = w8.heap.size + 1 := by simp
              have S9 := Lib.hid hs9
              clear hb hs9
              go_simp
              generalize (w8.alloc (.cells #[.int .i64 n0, .int .i64 n1] 80)) = w9 at *
              refine hK.out _ _ C9.out (fun hHeld => ?_)
              clear hK K
              try simp only [Act.put, List.setIfInBounds_toArray, List.set_cons_zero, List.set_cons_succ]
              refine wpAnyH_ready (rs := [12]) (by kernel_rfl) (by simp) (AllReadyH.cons rfl (fun K hK => ?_) AllReadyH.nil)
              refine step_append_lies _ (by rfl) _ _ _ (by rfl) w.heap.size 80 i0 _ 2 16 Tryd.underlying30 hi0 iz0 iz1 iz2 rfl (by omega) _ m.length (barCells m) (by rfl) G9.out.2.2.2.1 ⟨w8.heap.size, 0, none⟩ 1 1 [.int .i64 n0, .int .i64 n1] (by rfl) (by rfl) (World.news_of_block (cs := #[.int .i64 n0, .int .i64 n1]) (t := 80) (fr := (0, 0)) HN9.out) (by simp [Value.oneCell']) (by omega) (by omega) (by omega) (Nat.le_of_lt (Nat.lt_of_le_of_lt G9.out.2.2.2.2.2.2 G9.out.1.1)) (w8.heap.size + 1) S9.out ?_
              intro gg cap2 w10 hown1 hgrow hat hlt1
              have hkp := hgrow.block gp Z9.out (fun e => HOG.out gp e.symm rfl)
              obtain ⟨c0, c1, f1, A2, c2, e2, hG2⟩ := G8.out.push (n0, n1) hown1 (GA.out.trans_ hgrow) (by rcases hat with hat | hat; exact .inl hat.symm; exact .inr (by rw [hat]; rfl))
              cases e2
              have HG2 := Lib.hid hG2
              have Q10 := Lib.hid (And.intro c1 f1)
              have C10 := Lib.hid (show w10.cell? ⟨gp, 0, none⟩ = some (.string a0) ∧ w10.cell? ⟨gp, 1, none⟩ = some (.string a1) from ⟨(World.cell?_of_block (a := ⟨gp, 0, none⟩) hkp).trans C9.out.1, (World.cell?_of_block (a := ⟨gp, 1, none⟩) hkp).trans C9.out.2⟩)
              clear c0 c1 f1 hG2 hkp hown1 hgrow hat hlt1
              refine hK.out _ _ C10.out (fun hHeld => ?_)
              clear hK K
              try simp only [Act.put, List.setIfInBounds_toArray]
              refine wpAnyH_take (i := 13) (v := .pointer (some ⟨w2.heap.size + 1, 1, none⟩)) rfl (by kernel_rfl) (by kernel_rfl) (by kernel_rfl) (fun _ _ _ h => h) (Or.inl ⟨by kernel_rfl, fun w hSw => by (try dsimp only at hSw); go_simp; all_goals omega⟩) (by assumption) ?_
              try simp only [Act.put]
              refine wpAnyH_ready (rs := [14]) (by kernel_rfl) (by simp) (AllReadyH.cons rfl (fun K hK => ?_) AllReadyH.nil)
              obtain ⟨q1, q2⟩ := Q10.out
              have C11 := Lib.hid (show (w10.setCell ⟨w2.heap.size + 1, 1, none⟩ (.slice (some ⟨gg, 0, none⟩) (m.length + 1) cap2)).cell? ⟨gp, 0, none⟩ = some (.string a0) ∧ (w10.setCell ⟨w2.heap.size + 1, 1, none⟩ (.slice (some ⟨gg, 0, none⟩) (m.length + 1) cap2)).cell? ⟨gp, 1, none⟩ = some (.string a1) from ⟨(World.cell?_setCell_other _ _ _ _ (by intro e; simp at e)).trans C10.out.1, (World.cell?_setCell_other _ _ _ _ (by intro e; simp at e)).trans C10.out.2⟩)
              go_simp
              clear q1 q2
              refine hK.out _ _ C11.out (fun hHeld => ?_)
              clear hK K
              try simp only [Act.put, List.setIfInBounds_toArray, List.set_cons_zero, List.set_cons_succ]
              refine wpAnyH_done (by kernel_rfl) ?_ _
              generalize (w10.setCell ⟨w2.heap.size + 1, 1, none⟩ (.slice (some ⟨gg, 0, none⟩) (m.length + 1) cap2)) = w11 at *
              go_wp2_with fail
              go_roundw
              case rel => exact ⟨k + 1, by omega, by omega, by go_num, _, _, m ++ [(n0, n1)], by rw [show k + 1 - 1 = k by omega, HPS.out, ← HM.out], HG2.out⟩
              case measure => simp [intOf]; omega
            · go_simp
              go_at_call 31
              refine (HN1.out _).mono ?_
              rintro e w8 ⟨rfl, hb⟩
              have G8 := Lib.hid (G7.out.below hb)
              have C8 := Lib.hid (show w8.cell? ⟨gp, 0, none⟩ = some (.string a0) ∧ w8.cell? ⟨gp, 1, none⟩ = some (.string a1) from ⟨(hb.cell (p := ⟨gp, 0, none⟩) Z7.out).trans C7.out.1, (hb.cell (p := ⟨gp, 1, none⟩) Z7.out).trans C7.out.2⟩)
              have Z8 := Lib.hid (Nat.lt_of_lt_of_le Z7.out hb.size)
              clear hb
              refine hK.out _ _ C8.out (fun hHeld => ?_)
              clear hK K
              try simp only [Act.put, List.setIfInBounds_toArray, List.set_cons_zero, List.set_cons_succ]
              refine wpAnyH_take (i := 10) (v := .agg #[.int .i64 n0, .int .i64 n1]) rfl (by kernel_rfl) (by kernel_rfl) (by kernel_rfl) (fun _ _ _ h => h) (Or.inl ⟨by kernel_rfl, fun w hSw => by (try dsimp only at hSw); go_simp; all_goals omega⟩) (by assumption) ?_
              try simp only [Act.put, List.setIfInBounds_toArray]
              refine wpAnyH_ready (rs := [1, 11]) (by kernel_rfl) (by simp) (AllReadyH.cons rfl (fun K hK => ?_) (AllReadyH.cons rfl (fun K hK => ?_) AllReadyH.nil))
              · have q1 := G8.out.1.2.2
                go_simp
                clear q1
                refine hK.out _ _ C8.out (fun hHeld => ?_)
                clear hK K
                try simp only [Act.put, List.setIfInBounds_toArray, List.set_cons_zero, List.set_cons_succ]
                refine wpAnyH_ready (rs := [11]) (by kernel_rfl) (by simp) (AllReadyH.cons rfl (fun K hK => ?_) AllReadyH.nil)
                have hb := new_below w8 (.cells #[.int .i64 n0, .int .i64 n1] 80)
                have G9 := Lib.hid (G8.out.below hb)
                have C9 := Lib.hid (show (w8.alloc (.cells #[.int .i64 n0, .int .i64 n1] 80)).cell? ⟨gp, 0, none⟩ = some (.string a0) ∧ (w8.alloc (.cells #[.int .i64 n0, .int .i64 n1] 80)).cell? ⟨gp, 1, none⟩ = some (.string a1) from ⟨(hb.cell (p := ⟨gp, 0, none⟩) Z8.out).trans C8.out.1, (hb.cell (p := ⟨gp, 1, none⟩) Z8.out).trans C8.out.2⟩)
                have Z9 := Lib.hid (Nat.lt_of_lt_of_le Z8.out hb.size)
                have GA := Lib.hid (World.grownBy_alloc w8 (.cells #[.int .i64 n0, .int .i64 n1] 80) (Value.slice A m.length c).ownBlock)
                have HN9 := Lib.hid (heap_alloc_new w8 (.cells #[.int .i64 n0, .int .i64 n1] 80))
                have hs9 : (w8.alloc (.cells #[.int .i64 n0, .int .i64 n1] 80)).heap.size = w8.heap.size + 1 := by simp
                have S9 := Lib.hid hs9
                clear hb hs9
                go_simp
                generalize (w8.alloc (.cells #[.int .i64 n0, .int .i64 n1] 80)) = w9 at *
                refine hK.out _ _ C9.out (fun hHeld => ?_)
                clear hK K
                try simp only [Act.put, List.setIfInBounds_toArray, List.set_cons_zero, List.set_cons_succ]
                refine wpAnyH_ready (rs := [12]) (by kernel_rfl) (by simp) (AllReadyH.cons rfl (fun K hK => ?_) AllReadyH.nil)
                refine step_append_lies _ (by rfl) _ _ _ (by rfl) w.heap.size 80 i0 _ 2 16 Tryd.underlying30 hi0 iz0 iz1 iz2 rfl (by omega) _ m.length (barCells m) (by rfl) G9.out.2.2.2.1 ⟨w8.heap.size, 0, none⟩ 1 1 [.int .i64 n0, .int .i64 n1] (by rfl) (by rfl) (World.news_of_block (cs := #[.int .i64 n0, .int .i64 n1]) (t := 80) (fr := (0, 0)) HN9.out) (by simp [Value.oneCell']) (by omega) (by omega) (by omega) (Nat.le_of_lt (Nat.lt_of_le_of_lt G9.out.2.2.2.2.2.2 G9.out.1.1)) (w8.heap.size + 1) S9.out ?_
                intro gg cap2 w10 hown1 hgrow hat hlt1
                have hkp := hgrow.block gp Z9.out (fun e => HOG.out gp e.symm rfl)
                obtain ⟨c0, c1, f1, A2, c2, e2, hG2⟩ := G8.out.push (n0, n1) hown1 (GA.out.trans_ hgrow) (by rcases hat with hat | hat; exact .inl hat.symm; exact .inr (by rw [hat]; rfl))
                cases e2
                have HG2 := Lib.hid hG2
                have Q10 := Lib.hid (And.intro c1 f1)
                have C10 := Lib.hid (show w10.cell? ⟨gp, 0, none⟩ = some (.string a0) ∧ w10.cell? ⟨gp, 1, none⟩ = some (.string a1) from ⟨(World.cell?_of_block (a := ⟨gp, 0, none⟩) hkp).trans C9.out.1, (World.cell?_of_block (a := ⟨gp, 1, none⟩) hkp).trans C9.out.2⟩)
                clear c0 c1 f1 hG2 hkp hown1 hgrow hat hlt1
                refine hK.out _ _ C10.out (fun hHeld => ?_)
                clear hK K
                try simp only [Act.put, List.setIfInBounds_toArray]
                refine wpAnyH_take (i := 13) (v := .pointer (some ⟨w2.heap.size + 1, 1, none⟩)) rfl (by kernel_rfl) (by kernel_rfl) (by kernel_rfl) (fun _ _ _ h => h) (Or.inl ⟨by kernel_rfl, fun w hSw => by (try dsimp only at hSw); go_simp; all_goals omega⟩) (by assumption) ?_
                try simp only [Act.put]
                refine wpAnyH_ready (rs := [14]) (by kernel_rfl) (by simp) (AllReadyH.cons rfl (fun K hK => ?_) AllReadyH.nil)
                obtain ⟨q1, q2⟩ := Q10.out
                have C11 := Lib.hid (show (w10.setCell ⟨w2.heap.size + 1, 1, none⟩ (.slice (some ⟨gg, 0, none⟩) (m.length + 1) cap2)).cell? ⟨gp, 0, none⟩ = some (.string a0) ∧ (w10.setCell ⟨w2.heap.size + 1, 1, none⟩ (.slice (some ⟨gg, 0, none⟩) (m.length + 1) cap2)).cell? ⟨gp, 1, none⟩ = some (.string a1) from ⟨(World.cell?_setCell_other _ _ _ _ (by intro e; simp at e)).trans C10.out.1, (World.cell?_setCell_other _ _ _ _ (by intro e; simp at e)).trans C10.out.2⟩)
                go_simp
                clear q1 q2
                refine hK.out _ _ C11.out (fun hHeld => ?_)
                clear hK K
                try simp only [Act.put, List.setIfInBounds_toArray, List.set_cons_zero, List.set_cons_succ]
                refine wpAnyH_done (by kernel_rfl) ?_ _
                generalize (w10.setCell ⟨w2.heap.size + 1, 1, none⟩ (.slice (some ⟨gg, 0, none⟩) (m.length + 1) cap2)) = w11 at *
                go_wp2_with fail
                go_roundw
                case rel => exact ⟨k + 1, by omega, by omega, by go_num, _, _, m ++ [(n0, n1)], by rw [show k + 1 - 1 = k by omega, HPS.out, ← HM.out], HG2.out⟩
                case measure => simp [intOf]; omega
              · have hb := new_below w8 (.cells #[.int .i64 n0, .int .i64 n1] 80)
                have G9 := Lib.hid (G8.out.below hb)
                have C9 := Lib.hid (show (w8.alloc (.cells #[.int .i64 n0, .int .i64 n1] 80)).cell? ⟨gp, 0, none⟩ = some (.string a0) ∧ (w8.alloc (.cells #[.int .i64 n0, .int .i64 n1] 80)).cell? ⟨gp, 1, none⟩ = some (.string a1) from ⟨(hb.cell (p := ⟨gp, 0, none⟩) Z8.out).trans C8.out.1, (hb.cell (p := ⟨gp, 1, none⟩) Z8.out).trans C8.out.2⟩)
                have Z9 := Lib.hid (Nat.lt_of_lt_of_le Z8.out hb.size)
                have GA := Lib.hid (World.grownBy_alloc w8 (.cells #[.int .i64 n0, .int .i64 n1] 80) (Value.slice A m.length c).ownBlock)
                have HN9 := Lib.hid (heap_alloc_new w8 (.cells #[.int .i64 n0, .int .i64 n1] 80))
                have hs9 : (w8.alloc (.cells #[.int .i64 n0, .int .i64 n1] 80)).heap.size = w8.heap.size + 1 := by simp
                have S9 := Lib.hid hs9
                clear hb hs9
                go_simp
                generalize (w8.alloc (.cells #[.int .i64 n0, .int .i64 n1] 80)) = w9 at *
                refine hK.out _ _ C9.out (fun hHeld => ?_)
                clear hK K
                try simp only [Act.put, List.setIfInBounds_toArray, List.set_cons_zero, List.set_cons_succ]
                refine wpAnyH_ready (rs := [1]) (by kernel_rfl) (by simp) (AllReadyH.cons rfl (fun K hK => ?_) AllReadyH.nil)
                have q1 := G9.out.1.2.2
                go_simp
                clear q1
                refine hK.out _ _ C9.out (fun hHeld => ?_)
                clear hK K
                try simp only [Act.put, List.setIfInBounds_toArray, List.set_cons_zero, List.set_cons_succ]
                refine wpAnyH_ready (rs := [12]) (by kernel_rfl) (by simp) (AllReadyH.cons rfl (fun K hK => ?_) AllReadyH.nil)
                refine step_append_lies _ (by rfl) _ _ _ (by rfl) w.heap.size 80 i0 _ 2 16 Tryd.underlying30 hi0 iz0 iz1 iz2 rfl (by omega) _ m.length (barCells m) (by rfl) G9.out.2.2.2.1 ⟨w8.heap.size, 0, none⟩ 1 1 [.int .i64 n0, .int .i64 n1] (by rfl) (by rfl) (World.news_of_block (cs := #[.int .i64 n0, .int .i64 n1]) (t := 80) (fr := (0, 0)) HN9.out) (by simp [Value.oneCell']) (by omega) (by omega) (by omega) (Nat.le_of_lt (Nat.lt_of_le_of_lt G9.out.2.2.2.2.2.2 G9.out.1.1)) (w8.heap.size + 1) S9.out ?_
                intro gg cap2 w10 hown1 hgrow hat hlt1
                have hkp := hgrow.block gp Z9.out (fun e => HOG.out gp e.symm rfl)
                obtain ⟨c0, c1, f1, A2, c2, e2, hG2⟩ := G8.out.push (n0, n1) hown1 (GA.out.trans_ hgrow) (by rcases hat with hat | hat; exact .inl hat.symm; exact .inr (by rw [hat]; rfl))
                cases e2
                have HG2 := Lib.hid hG2
                have Q10 := Lib.hid (And.intro c1 f1)
                have C10 := Lib.hid (show w10.cell? ⟨gp, 0, none⟩ = some (.string a0) ∧ w10.cell? ⟨gp, 1, none⟩ = some (.string a1) from ⟨(World.cell?_of_block (a := ⟨gp, 0, none⟩) hkp).trans C9.out.1, (World.cell?_of_block (a := ⟨gp, 1, none⟩) hkp).trans C9.out.2⟩)
                clear c0 c1 f1 hG2 hkp hown1 hgrow hat hlt1
                refine hK.out _ _ C10.out (fun hHeld => ?_)
                clear hK K
                try simp only [Act.put, List.setIfInBounds_toArray]
                refine wpAnyH_take (i := 13) (v := .pointer (some ⟨w2.heap.size + 1, 1, none⟩)) rfl (by kernel_rfl) (by kernel_rfl) (by kernel_rfl) (fun _ _ _ h => h) (Or.inl ⟨by kernel_rfl, fun w hSw => by (try dsimp only at hSw); go_simp; all_goals omega⟩) (by assumption) ?_
                try simp only [Act.put]
                refine wpAnyH_ready (rs := [14]) (by kernel_rfl) (by simp) (AllReadyH.cons rfl (fun K hK => ?_) AllReadyH.nil)
                obtain ⟨q1, q2⟩ := Q10.out
                have C11 := Lib.hid (show (w10.setCell ⟨w2.heap.size + 1, 1, none⟩ (.slice (some ⟨gg, 0, none⟩) (m.length + 1) cap2)).cell? ⟨gp, 0, none⟩ = some (.string a0) ∧ (w10.setCell ⟨w2.heap.size + 1, 1, none⟩ (.slice (some ⟨gg, 0, none⟩) (m.length + 1) cap2)).cell? ⟨gp, 1, none⟩ = some (.string a1) from ⟨(World.cell?_setCell_other _ _ _ _ (by intro e; simp at e)).trans C10.out.1, (World.cell?_setCell_other _ _ _ _ (by intro e; simp at e)).trans C10.out.2⟩)
                go_simp
                clear q1 q2
                refine hK.out _ _ C11.out (fun hHeld => ?_)
                clear hK K
                try simp only [Act.put, List.setIfInBounds_toArray, List.set_cons_zero, List.set_cons_succ]
                refine wpAnyH_done (by kernel_rfl) ?_ _
                generalize (w10.setCell ⟨w2.heap.size + 1, 1, none⟩ (.slice (some ⟨gg, 0, none⟩) (m.length + 1) cap2)) = w11 at *
                go_wp2_with fail
                go_roundw
                case rel => exact ⟨k + 1, by omega, by omega, by go_num, _, _, m ++ [(n0, n1)], by rw [show k + 1 - 1 = k by omega, HPS.out, ← HM.out], HG2.out⟩
                case measure => simp [intOf]; omega
        · have hl2' : (((cutB h 45).length : Int) != 2) = true := by simp; omega
          have r0 := (G6.out.cell (o := w.heap.size) (k := 0) (by simp)).trans BX2.out.2.1
          have r1 := (G6.out.cell (o := w.heap.size) (k := 1) (by simp)).trans BX2.out.2.2
          have f0 := (G6.out.frozen (o := w.heap.size) (k := 0) (by simp)).trans F2.out.1
          have f1 := (G6.out.frozen (o := w.heap.size) (k := 1) (by simp)).trans F2.out.2
          obtain ⟨s0, s1⟩ := ret_two (p := 0) (v := .slice none 0 0) r0 r1
          have HR := Lib.hid (G6.out.ret (o := w.heap.size) (by simp) (Nat.le_refl _) (.int .i64 0) (.slice none 0 0))
          go_wp2_with fail
          refine bodyPost_ret (v := .tuple #[.agg #[.int .i64 0, .slice none 0 0], .bool false]) ?_ rfl ⟨0, [], false, HNO.out hl2, none, 0, rfl, ⟨Nat.le_refl _, .inl rfl⟩, HA.out.trans ((HB.out.mono (by omega)).trans HR.out.2)⟩
          simp [results, Tryd.results30, go_sem, s0, s1]
      · obtain rfl : k = (cutB s 32).length := by omega
        have HMF := Lib.hid (show m = parseB ((cutB s 32).drop 1) by rw [HM.out, List.take_of_length_le (by simp)])
        have HEND := Lib.hid (pg_end (s := s) (q := q) (m := m) (by rw [HH0.out]; exact HQ.out.symm) HMF.out (by rw [HH0.out]; exact h2))
        have hob := HG.out.ownIn.bars.at
        go_wp2_with fail
        clear g1 g2
        refine (specFormat q m A c wr hob hml).mono ?_
        rintro e w6 ⟨rfl, hb6⟩
        have G6 := Lib.hid (HG.out.below hb6)
        clear hb6 hob
        generalize fmtG q m = tx at *
        have r0 := (G6.out.cell (o := w.heap.size) (k := 0) (by simp)).trans BX2.out.2.1
        have r1 := (G6.out.cell (o := w.heap.size) (k := 1) (by simp)).trans BX2.out.2.2
        have f0 := (G6.out.frozen (o := w.heap.size) (k := 0) (by simp)).trans F2.out.1
        have f1 := (G6.out.frozen (o := w.heap.size) (k := 1) (by simp)).trans F2.out.2
        obtain ⟨_, g1, g2⟩ := G6.out.1
        by_cases hts : tx = s
        · have hct := cmp_true hts
          obtain ⟨s0, s1⟩ := ret_two (p := q) (v := .slice A m.length c) r0 r1
          have HR := Lib.hid (G6.out.ret (o := w.heap.size) (by simp) (Nat.le_refl _) (.int .i64 q) (.slice A m.length c))
          go_wp2_with fail
          refine bodyPost_ret (v := .tuple #[.agg #[.int .i64 q, .slice A m.length c], .bool true]) ?_ rfl ⟨q, m, true, HEND.out.1 hts, A, c, rfl, HR.out.1, HA.out.trans ((HB.out.mono (by omega)).trans HR.out.2)⟩
          simp [results, Tryd.results30, go_sem, s0, s1]
        · have hct := cmp_false hts
          obtain ⟨s0, s1⟩ := ret_two (p := 0) (v := .slice none 0 0) r0 r1
          have HR := Lib.hid (G6.out.ret (o := w.heap.size) (by simp) (Nat.le_refl _) (.int .i64 0) (.slice none 0 0))
          go_wp2_with fail
          refine bodyPost_ret (v := .tuple #[.agg #[.int .i64 0, .slice none 0 0], .bool false]) ?_ rfl ⟨0, [], false, HEND.out.2 hts, none, 0, rfl, ⟨Nat.le_refl _, .inl rfl⟩, HA.out.trans ((HB.out.mono (by omega)).trans HR.out.2)⟩
          simp [results, Tryd.results30, go_sem, s0, s1]
end Go.Proofs.YtehendofgcebcaaDoor
