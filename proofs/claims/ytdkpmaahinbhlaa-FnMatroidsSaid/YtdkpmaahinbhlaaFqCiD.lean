/- What chapter 5's draws answer (DrawCircuitOf). No condition. -/
import Derived.Test.YtdkpmaahinbhlaaFqL5D
import Derived.Test.YtdkpmaahinbhlaaFqRejS
import Derived.Test.YtdkpmaahinbhlaaFqB2
namespace Go.Proofs.Ytdkpmaahinbhlaa
open Go.RowKit

theorem rejV_in (p k c : Int) (l : List (Int × Int)) (hl : l.length ≤ 25) (m : Nat) (hm : m < (rejV p k c l).length) : InI64 ((rejV p k c l).getD m 0) := by
  have hx : (rejV p k c l).getD m 0 ∈ rejV p k c l := by
    rw [List.getD_eq_getElem?_getD, List.getElem?_eq_getElem hm, Option.getD_some]; exact List.getElem_mem hm
  have hr : runB p k c l = true := by
    cases e : runB p k c l with
    | true => rfl
    | false => rw [rejV_no e] at hm; exact absurd hm (Nat.not_lt_zero _)
  rw [rejV_yes hr] at hx ⊢
  obtain ⟨j, hj, e⟩ := rejK_mem _ hx
  rw [e]
  unfold InI64
  omega

set_option maxHeartbeats 4000000 in
set_option maxRecDepth 100000 in
theorem drawCi_c (w : World) (A : Option Addr) (len cap : Nat) (zs : Nat → Int) (hc : CodeIs w w.heap.size A len zs) (hlen : len ≤ 140737488351232) :
    Calls Try.prog 51 #[.slice A len cap] w (Draw5x w) := by
  have hb1 := new_below w (.cells #[.int .i64 0, .slice none 0 0] 26)
  have HC1 := Lib.hid (hc.more hb1)
  have HB1 := Lib.hid hb1
  have HZ1 := Lib.hid (retz_new w)
  have hs1 : (w.alloc (.cells #[.int .i64 0, .slice none 0 0] 26)).heap.size = w.heap.size + 1 := by simp
  clear hc hb1
  go_enter Try.func51, Try.ntmps51
  go_wp2_with fail
  generalize (w.alloc (.cells #[.int .i64 0, .slice none 0 0] 26)) = w1 at *
  refine (new_c w1 A len cap zs HC1.out hlen).mono ?_
  rintro e w2 ⟨g, rfl, hu2, hb2⟩
  have hg1 := hu2.1
  have hs2 := hb2.size
  have hgl := hu2.lt
  have HC2 := Lib.hid (HC1.out.kept hb2)
  have HU2 := Lib.hid hu2
  have HB2 := Lib.hid (HB1.out.trans (hb2.mono (by omega)))
  have HZ2 := Lib.hid (HZ1.out.block (hb2.block w.heap.size (by omega)))
  clear hu2 hb2
  go_wp2_with fail
  refine (any_c w2 w1.heap.size g A len cap zs HC2.out HU2.out hlen hs2).mono ?_
  rintro e w3 ⟨p, a, c, l, hP, rfl, ho, hu3, hg3⟩
  have hal := (ho.lt a rfl).1
  have hs3 := hg3.size
  have HP := Lib.hid hP
  have HB3 := Lib.hid (HB2.out.grown hg3 (by omega) (fun k e => by cases e; omega))
  have HC3 := Lib.hid (HC2.out.kept (grown_cur hg1 hs2 hg3))
  have HZ3 := Lib.hid (HZ2.out.block (hg3.block w.heap.size (by omega) (by simp; omega)))
  have hb4 := new_below w3 (.cells #[.int .i64 p, .slice (some ⟨a, 0, none⟩) l.length c] 26)
  have HU4 := Lib.hid (hu3.below hb4 hu3.lt)
  have HO4 := Lib.hid (own_below ho hb4)
  have HB4 := Lib.hid (HB3.out.trans (hb4.mono (by omega)))
  have HC4 := Lib.hid (HC3.out.kept (hb4.mono (by omega)))
  have HZ4 := Lib.hid (HZ3.out.block (hb4.block w.heap.size (by omega)))
  have HX4 := Lib.hid (box_new w3 p (.slice (some ⟨a, 0, none⟩) l.length c) 26)
  have hs4 : (w3.alloc (.cells #[.int .i64 p, .slice (some ⟨a, 0, none⟩) l.length c] 26)).heap.size = w3.heap.size + 1 := by simp
  have hgl3 := hu3.lt
  clear hP ho hu3 hg3 hb4
  go_wp2_with fail
  generalize (w3.alloc (.cells #[.int .i64 p, .slice (some ⟨a, 0, none⟩) l.length c] 26)) = w4 at *
  obtain ⟨bg, hbg⟩ : ∃ b, w3.heap.size = b := ⟨_, rfl⟩
  rw [hbg] at HX4 hs4 hs3 hgl3 ⊢
  refine (range_c w4 w1.heap.size g A len cap zs HC4.out HU4.out hlen (by omega)).mono ?_
  rintro e w5 ⟨x, y, hxy, rfl, hu5, hg5⟩
  have HXY := Lib.hid hxy
  have hs5 := hg5.size
  have HO5 := Lib.hid (HO4.out.kept hg5 (.inr (by simp [Value.ownBlock]; omega)))
  have HB5 := Lib.hid (HB4.out.grown hg5 (by omega) (fun k e => by cases e; omega))
  have HC5 := Lib.hid (HC4.out.kept (grown_cur hg1 (by omega) hg5))
  have HU5 := Lib.hid hu5
  have HZ5 := Lib.hid (HZ4.out.block (hg5.block w.heap.size (by omega) (by simp; omega)))
  have hbx := hg5.block bg (by omega) (by simp; omega)
  have kk5 := And.intro ((World.cell?_of_block (a := ⟨bg, 0, none⟩) hbx).trans HX4.out.2.1) ((World.cell?_of_block (a := ⟨bg, 1, none⟩) hbx).trans HX4.out.2.2)
  have HK5 := Lib.hid kk5
  clear hxy hu5 hg5 hbx HX4 HZ4 HC4 HB4 HO4 HU4
  obtain ⟨k50, k51⟩ := HK5.out
  go_wp2_with fail
  have hp25 := HP.out.1
  refine (specRej p x y l (some ⟨a, 0, none⟩) c w5 (own_bars HO5.out) (by omega)).mono ?_
  rintro e w6 ⟨A6, c6, rfl, hr6, hb6⟩
  have HRI := Lib.hid (rejV_in p x y l hp25)
  have hrl := rejV_len p x y l
  obtain ⟨R, hR⟩ : ∃ R, rejV p x y l = R := ⟨_, rfl⟩
  rw [hR] at HRI hr6 hrl ⊢
  clear hR k50 k51 kk5
  have hs6 := hb6.size
  have HO6 := Lib.hid (own_below HO5.out hb6)
  have HB6 := Lib.hid (HB5.out.trans (hb6.mono (by omega)))
  have HC6 := Lib.hid (HC5.out.kept (hb6.mono (by omega)))
  have HU6 := Lib.hid (HU5.out.below hb6 HU5.out.lt)
  have HZ6 := Lib.hid (HZ5.out.block (hb6.block w.heap.size (by omega)))
  have kk6 : w6.cell? ⟨bg, 0, none⟩ = some (.int .i64 p) ∧ w6.cell? ⟨bg, 1, none⟩ = some (.slice (some ⟨a, 0, none⟩) l.length c) := ⟨(hb6.cell (p := ⟨bg, 0, none⟩) (by show bg < _; omega)).trans HK5.out.1, (hb6.cell (p := ⟨bg, 1, none⟩) (by show bg < _; omega)).trans HK5.out.2⟩
  have HK6 := Lib.hid kk6
  clear kk6
  by_cases h0 : 0 < R.length
  · have h0i : (0 : Int) < (R.length : Int) := by omega
    obtain ⟨b, off, e6, hb61, hb62, hcc⟩ := hr6.reads.2 h0
    have HCL6 := Lib.hid hcc
    have hslot : (Value.slice A6 R.length c6) = .slice (some ⟨b, off, none⟩) R.length c6 := by rw [e6]
    rw [hslot]
    clear hslot e6 hcc hr6 hb6
    go_wp2_with fail
    refine (once_d 5 w6 w1.heap.size g A len cap zs HC6.out HU6.out hlen (by omega) (by omega)).mono ?_
    rintro e w7 ⟨⟨bo, rfl⟩, hu7, hg7⟩
    have hs7 := hg7.size
    have HO7 := Lib.hid (HO6.out.kept hg7 (.inr (by simp [Value.ownBlock]; omega)))
    have HB7 := Lib.hid (HB6.out.grown hg7 (by omega) (fun k e => by cases e; omega))
    have HC7 := Lib.hid (HC6.out.kept (grown_cur hg1 (by omega) hg7))
    have HU7 := Lib.hid hu7
    have HZ7 := Lib.hid (HZ6.out.block (hg7.block w.heap.size (by omega) (by simp; omega)))
    have hbx7 := hg7.block bg (by omega) (by simp; omega)
    have kk7 := And.intro ((World.cell?_of_block (a := ⟨bg, 0, none⟩) hbx7).trans HK6.out.1) ((World.cell?_of_block (a := ⟨bg, 1, none⟩) hbx7).trans HK6.out.2)
    have HK7 := Lib.hid kk7
    clear kk7 hbx7
    have HCL7 := Lib.hid (fun (k : Nat) (hk : k < R.length) => (World.cell?_of_block (a := ⟨b, off + k, none⟩) (hg7.block b (by omega) (by simp; omega))).trans (HCL6.out k hk))
    clear hu7 hg7 HCL6
    cases bo with
    | true =>
      go_wp2_with fail
      have hdr : Below w7.heap.size w7 w7.drew := (Below.refl _ _).drew
      have hsd : w7.drew.heap.size = w7.heap.size := rfl
      have HOD := Lib.hid (own_below HO7.out hdr)
      have HBD := Lib.hid (HB7.out.trans (hdr.mono (by omega)))
      have HCD := Lib.hid (HC7.out.kept (hdr.mono (by omega)))
      have HUD := Lib.hid (HU7.out.below hdr HU7.out.lt)
      have HZD := Lib.hid (HZ7.out.block (hdr.block w.heap.size (by omega)))
      have kkD : w7.drew.cell? ⟨bg, 0, none⟩ = some (.int .i64 p) ∧ w7.drew.cell? ⟨bg, 1, none⟩ = some (.slice (some ⟨a, 0, none⟩) l.length c) := ⟨(hdr.cell (p := ⟨bg, 0, none⟩) (by show bg < _; omega)).trans HK7.out.1, (hdr.cell (p := ⟨bg, 1, none⟩) (by show bg < _; omega)).trans HK7.out.2⟩
      clear hdr HO7 HB7 HC7 HU7 HZ7 HK7
      refine wp_region_held_drew (S := (fun W' : World => W'.cell? ⟨bg, 0, none⟩ = some (.int .i64 p) ∧ W'.cell? ⟨bg, 1, none⟩ = some (.slice (some ⟨a, 0, none⟩) l.length c))) (by kernel_rfl) ?_ (fun hHeld => ?_)
      · exact kkD
      generalize w7.drew = WD at *
      refine wpAnyH_take (i := 0) (v := .agg #[.int .i64 p, .slice (some ⟨a, 0, none⟩) l.length c]) rfl (by kernel_rfl) (by kernel_rfl) (by kernel_rfl) (fun _ _ _ h => h) (Or.inl ⟨by kernel_rfl, fun w hSw => by (try dsimp only at hSw); go_simp; all_goals first | omega | exact IntWalk.i64_in _ (by omega)⟩) (by assumption) ?_
      refine wpAnyH_take (i := 1) (v := .int .i64 x) rfl (by kernel_rfl) (by kernel_rfl) (by kernel_rfl) (fun _ _ _ h => h) (Or.inl ⟨by kernel_rfl, fun w hSw => by (try dsimp only at hSw); go_simp; all_goals first | omega | exact IntWalk.i64_in _ (by omega)⟩) (by assumption) ?_
      refine wpAnyH_take (i := 2) (v := .int .i64 y) rfl (by kernel_rfl) (by kernel_rfl) (by kernel_rfl) (fun _ _ _ h => h) (Or.inl ⟨by kernel_rfl, fun w hSw => by (try dsimp only at hSw); go_simp; all_goals first | omega | exact IntWalk.i64_in _ (by omega)⟩) (by assumption) ?_
      refine wpAnyH_take (i := 3) (v := .pointer (some ⟨g, 0, none⟩)) rfl (by kernel_rfl) (by kernel_rfl) (by kernel_rfl) (fun _ _ _ h => h) (Or.inl ⟨by kernel_rfl, fun w hSw => by (try dsimp only at hSw); go_simp; all_goals first | omega | exact IntWalk.i64_in _ (by omega)⟩) (by assumption) ?_
      refine wpAnyH_ready (rs := [4]) (by kernel_rfl) (by simp) (AllReadyH.cons rfl (fun K hK => ?_) AllReadyH.nil)
      go_simp
      go_at_call 121
      refine (below_c 10 WD w1.heap.size g A len cap zs HCD.out HUD.out hlen (by omega) (by omega)).mono ?_
      rintro e w8 ⟨z, hz, rfl, hu8, hg8⟩
      have hs8 := hg8.size
      have HO8 := Lib.hid (HOD.out.kept hg8 (.inr (by simp [Value.ownBlock]; omega)))
      have HB8 := Lib.hid (HBD.out.grown hg8 (by omega) (fun k e => by cases e; omega))
      have hz8 := HZD.out.block (hg8.block w.heap.size (by omega) (by simp; omega))
      obtain ⟨⟨r0, r1⟩, f0, f1⟩ := hz8
      have hbx8 := hg8.block bg (by omega) (by simp; omega)
      have kk8 := And.intro ((World.cell?_of_block (a := ⟨bg, 0, none⟩) hbx8).trans kkD.1) ((World.cell?_of_block (a := ⟨bg, 1, none⟩) hbx8).trans kkD.2)
      have hne : bg ≠ w.heap.size := by omega
      clear hu8 hg8 hbx8
      refine hK.out _ _ kk8 (fun hHeld => ?_)
      clear hK K
      refine wpAnyH_take (i := 5) (v := .int .i64 (z - 1)) rfl (by kernel_rfl) (by kernel_rfl) (by kernel_rfl) (fun _ _ _ h => h) (Or.inl ⟨by kernel_rfl, fun w hSw => by (try dsimp only at hSw); go_simp; all_goals first | omega | exact IntWalk.i64_in _ (by omega)⟩) (by assumption) ?_
      refine wpAnyH_ready (rs := [6]) (by kernel_rfl) (by simp) (AllReadyH.cons rfl (fun K hK => ?_) AllReadyH.nil)
      go_simp
      refine hK.out _ _ (two_other hne kk8.1 kk8.2) (fun hHeld => ?_)
      clear hK K
      refine wpAnyH_take (i := 7) (v := .int .i64 x) rfl (by kernel_rfl) (by kernel_rfl) (by kernel_rfl) (fun _ _ _ h => h) (Or.inl ⟨by kernel_rfl, fun w hSw => by (try dsimp only at hSw); go_simp; all_goals first | omega | exact IntWalk.i64_in _ (by omega)⟩) (by assumption) ?_
      refine wpAnyH_take (i := 8) (v := .int .i64 y) rfl (by kernel_rfl) (by kernel_rfl) (by kernel_rfl) (fun _ _ _ h => h) (Or.inl ⟨by kernel_rfl, fun w hSw => by (try dsimp only at hSw); go_simp; all_goals first | omega | exact IntWalk.i64_in _ (by omega)⟩) (by assumption) ?_
      refine wpAnyH_take (i := 9) (v := .int .i64 (z - 1)) rfl (by kernel_rfl) (by kernel_rfl) (by kernel_rfl) (fun _ _ _ h => h) (Or.inl ⟨by kernel_rfl, fun w hSw => by (try dsimp only at hSw); go_simp; all_goals first | omega | exact IntWalk.i64_in _ (by omega)⟩) (by assumption) ?_
      refine wpAnyH_done (by kernel_rfl) ?_ _
      clear hHeld
      obtain ⟨s0, s1⟩ := ret_cells (p := p) (v := .slice (some ⟨a, 0, none⟩) l.length c) r0 r1
      obtain ⟨q1, q2⟩ := row_retW HO8.out HB8.out (Nat.le_refl _) (by omega) (.int .i64 p) (.slice (some ⟨a, 0, none⟩) l.length c)
      have HQ1 := Lib.hid q1
      have HQ2 := Lib.hid q2
      clear q1 q2
      clear kk8 kkD
      go_wp2_with fail
      refine bodyPost_ret ?_ rfl ⟨p, a, c, l, x, y, z - 1, HP.out, HXY.out, by unfold InI64; omega, rfl, HQ1.out, HQ2.out⟩
      simp [results, Try.results51, go_sem, s0, s1]
    | false =>
      go_wp2_with fail
      have hdr : Below w7.heap.size w7 w7.drew := (Below.refl _ _).drew
      have hsd : w7.drew.heap.size = w7.heap.size := rfl
      have HOD := Lib.hid (own_below HO7.out hdr)
      have HBD := Lib.hid (HB7.out.trans (hdr.mono (by omega)))
      have HCD := Lib.hid (HC7.out.kept (hdr.mono (by omega)))
      have HUD := Lib.hid (HU7.out.below hdr HU7.out.lt)
      have HZD := Lib.hid (HZ7.out.block (hdr.block w.heap.size (by omega)))
      have kkD : w7.drew.cell? ⟨bg, 0, none⟩ = some (.int .i64 p) ∧ w7.drew.cell? ⟨bg, 1, none⟩ = some (.slice (some ⟨a, 0, none⟩) l.length c) := ⟨(hdr.cell (p := ⟨bg, 0, none⟩) (by show bg < _; omega)).trans HK7.out.1, (hdr.cell (p := ⟨bg, 1, none⟩) (by show bg < _; omega)).trans HK7.out.2⟩
      have HCLD := Lib.hid (fun (k : Nat) (hk : k < R.length) => (hdr.cell (p := ⟨b, off + k, none⟩) (by show b < _; omega)).trans (HCL7.out k hk))
      clear hdr HO7 HB7 HC7 HU7 HZ7 HK7
      refine wp_region_held_drew (S := (fun W' : World => W'.cell? ⟨bg, 0, none⟩ = some (.int .i64 p) ∧ W'.cell? ⟨bg, 1, none⟩ = some (.slice (some ⟨a, 0, none⟩) l.length c))) (by kernel_rfl) ?_ (fun hHeld => ?_)
      · exact kkD
      generalize w7.drew = WD at *
      refine wpAnyH_take (i := 0) (v := .agg #[.int .i64 p, .slice (some ⟨a, 0, none⟩) l.length c]) rfl (by kernel_rfl) (by kernel_rfl) (by kernel_rfl) (fun _ _ _ h => h) (Or.inl ⟨by kernel_rfl, fun w hSw => by (try dsimp only at hSw); go_simp; all_goals first | omega | exact IntWalk.i64_in _ (by omega)⟩) (by assumption) ?_
      refine wpAnyH_take (i := 1) (v := .int .i64 x) rfl (by kernel_rfl) (by kernel_rfl) (by kernel_rfl) (fun _ _ _ h => h) (Or.inl ⟨by kernel_rfl, fun w hSw => by (try dsimp only at hSw); go_simp; all_goals first | omega | exact IntWalk.i64_in _ (by omega)⟩) (by assumption) ?_
      refine wpAnyH_take (i := 2) (v := .int .i64 y) rfl (by kernel_rfl) (by kernel_rfl) (by kernel_rfl) (fun _ _ _ h => h) (Or.inl ⟨by kernel_rfl, fun w hSw => by (try dsimp only at hSw); go_simp; all_goals first | omega | exact IntWalk.i64_in _ (by omega)⟩) (by assumption) ?_
      refine wpAnyH_take (i := 3) (v := .slice (some ⟨b, off, none⟩) R.length c6) rfl (by kernel_rfl) (by kernel_rfl) (by kernel_rfl) (fun _ _ _ h => h) (Or.inl ⟨by kernel_rfl, fun w hSw => by (try dsimp only at hSw); go_simp; all_goals first | omega | exact IntWalk.i64_in _ (by omega)⟩) (by assumption) ?_
      refine wpAnyH_take (i := 4) (v := .pointer (some ⟨g, 0, none⟩)) rfl (by kernel_rfl) (by kernel_rfl) (by kernel_rfl) (fun _ _ _ h => h) (Or.inl ⟨by kernel_rfl, fun w hSw => by (try dsimp only at hSw); go_simp; all_goals first | omega | exact IntWalk.i64_in _ (by omega)⟩) (by assumption) ?_
      refine wpAnyH_take (i := 5) (v := .slice (some ⟨b, off, none⟩) R.length c6) rfl (by kernel_rfl) (by kernel_rfl) (by kernel_rfl) (fun _ _ _ h => h) (Or.inl ⟨by kernel_rfl, fun w hSw => by (try dsimp only at hSw); go_simp; all_goals first | omega | exact IntWalk.i64_in _ (by omega)⟩) (by assumption) ?_
      refine wpAnyH_take (i := 6) (v := .int .i64 (R.length : Int)) rfl (by kernel_rfl) (by kernel_rfl) (by kernel_rfl) (fun _ _ _ h => h) (Or.inl ⟨by kernel_rfl, fun w hSw => by (try dsimp only at hSw); go_simp; all_goals first | omega | exact IntWalk.i64_in _ (by omega)⟩) (by assumption) ?_
      refine wpAnyH_ready (rs := [7]) (by kernel_rfl) (by simp) (AllReadyH.cons rfl (fun K hK => ?_) AllReadyH.nil)
      go_simp
      go_at_call 121
      refine (below_c (R.length : Int) WD w1.heap.size g A len cap zs HCD.out HUD.out hlen (by omega) (by omega)).mono ?_
      rintro e w8 ⟨z, hz, rfl, hu8, hg8⟩
      obtain ⟨m, rfl⟩ := Int.eq_ofNat_of_zero_le hz.1
      have hm : m < R.length := by omega
      have HCL8 := Lib.hid ((World.cell?_of_block (a := ⟨b, off + m, none⟩) (hg8.block b (by omega) (by simp; omega))).trans (HCLD.out m hm))
      have hb8 : b < w8.heap.size := by have := hg8.size; omega
      have hs8 := hg8.size
      have HO8 := Lib.hid (HOD.out.kept hg8 (.inr (by simp [Value.ownBlock]; omega)))
      have HB8 := Lib.hid (HBD.out.grown hg8 (by omega) (fun k e => by cases e; omega))
      have hz8 := HZD.out.block (hg8.block w.heap.size (by omega) (by simp; omega))
      obtain ⟨⟨r0, r1⟩, f0, f1⟩ := hz8
      have hbx8 := hg8.block bg (by omega) (by simp; omega)
      have kk8 := And.intro ((World.cell?_of_block (a := ⟨bg, 0, none⟩) hbx8).trans kkD.1) ((World.cell?_of_block (a := ⟨bg, 1, none⟩) hbx8).trans kkD.2)
      have hne : bg ≠ w.heap.size := by omega
      clear hu8 hg8 hbx8
      refine hK.out _ _ kk8 (fun hHeld => ?_)
      clear hK K
      refine wpAnyH_take (i := 8) (v := .pointer (some ⟨b, off + m, none⟩)) rfl (by kernel_rfl) (by kernel_rfl) (by kernel_rfl) (fun _ _ _ h => h) (Or.inl ⟨by kernel_rfl, fun w hSw => by (try dsimp only at hSw); go_simp; all_goals first | omega | exact IntWalk.i64_in _ (by omega)⟩) (by assumption) ?_
      refine wpAnyH_ready (rs := [9, 10]) (by kernel_rfl) (by simp) (AllReadyH.cons rfl (fun K hK => ?_) (AllReadyH.cons rfl (fun K hK => ?_) AllReadyH.nil))
      · have hcl := HCL8.out
        go_simp
        clear hcl
        refine hK.out _ _ kk8 (fun hHeld => ?_)
        clear hK K
        refine wpAnyH_ready (rs := [10]) (by kernel_rfl) (by simp) (AllReadyH.cons rfl (fun K hK => ?_) AllReadyH.nil)
        go_simp
        refine hK.out _ _ (two_other hne kk8.1 kk8.2) (fun hHeld => ?_)
        clear hK K
        refine wpAnyH_take (i := 11) (v := .int .i64 x) rfl (by kernel_rfl) (by kernel_rfl) (by kernel_rfl) (fun _ _ _ h => h) (Or.inl ⟨by kernel_rfl, fun w hSw => by (try dsimp only at hSw); go_simp; all_goals first | omega | exact IntWalk.i64_in _ (by omega)⟩) (by assumption) ?_
        refine wpAnyH_take (i := 12) (v := .int .i64 y) rfl (by kernel_rfl) (by kernel_rfl) (by kernel_rfl) (fun _ _ _ h => h) (Or.inl ⟨by kernel_rfl, fun w hSw => by (try dsimp only at hSw); go_simp; all_goals first | omega | exact IntWalk.i64_in _ (by omega)⟩) (by assumption) ?_
        refine wpAnyH_take (i := 13) (v := .int .i64 (R.getD m 0)) rfl (by kernel_rfl) (by kernel_rfl) (by kernel_rfl) (fun _ _ _ h => h) (Or.inl ⟨by kernel_rfl, fun w hSw => by (try dsimp only at hSw); go_simp; all_goals first | omega | exact IntWalk.i64_in _ (by omega)⟩) (by assumption) ?_
        refine wpAnyH_done (by kernel_rfl) ?_ _
        clear hHeld
        obtain ⟨s0, s1⟩ := ret_cells (p := p) (v := .slice (some ⟨a, 0, none⟩) l.length c) r0 r1
        obtain ⟨q1, q2⟩ := row_retW HO8.out HB8.out (Nat.le_refl _) (by omega) (.int .i64 p) (.slice (some ⟨a, 0, none⟩) l.length c)
        have HQ1 := Lib.hid q1
        have HQ2 := Lib.hid q2
        clear q1 q2
        clear kk8 kkD
        go_wp2_with fail
        refine bodyPost_ret ?_ rfl ⟨p, a, c, l, x, y, R.getD m 0, HP.out, HXY.out, HRI.out m hm, rfl, HQ1.out, HQ2.out⟩
        simp [results, Try.results51, go_sem, s0, s1]
      · go_simp
        refine hK.out _ _ (two_other hne kk8.1 kk8.2) (fun hHeld => ?_)
        clear hK K
        refine wpAnyH_take (i := 11) (v := .int .i64 x) rfl (by kernel_rfl) (by kernel_rfl) (by kernel_rfl) (fun _ _ _ h => h) (Or.inl ⟨by kernel_rfl, fun w hSw => by (try dsimp only at hSw); go_simp; all_goals first | omega | exact IntWalk.i64_in _ (by omega)⟩) (by assumption) ?_
        refine wpAnyH_take (i := 12) (v := .int .i64 y) rfl (by kernel_rfl) (by kernel_rfl) (by kernel_rfl) (fun _ _ _ h => h) (Or.inl ⟨by kernel_rfl, fun w hSw => by (try dsimp only at hSw); go_simp; all_goals first | omega | exact IntWalk.i64_in _ (by omega)⟩) (by assumption) ?_
        refine wpAnyH_ready (rs := [9]) (by kernel_rfl) (by simp) (AllReadyH.cons rfl (fun K hK => ?_) AllReadyH.nil)
        have hcl := (World.cell?_of_block (a := ⟨b, off + m, none⟩) ((set2_within w8 w.heap.size (.int .i64 p) (.slice (some ⟨a, 0, none⟩) l.length c)).block b hb8 (.inr (by omega)))).trans HCL8.out
        go_simp
        clear hcl
        refine hK.out _ _ (two_other hne kk8.1 kk8.2) (fun hHeld => ?_)
        clear hK K
        refine wpAnyH_take (i := 13) (v := .int .i64 (R.getD m 0)) rfl (by kernel_rfl) (by kernel_rfl) (by kernel_rfl) (fun _ _ _ h => h) (Or.inl ⟨by kernel_rfl, fun w hSw => by (try dsimp only at hSw); go_simp; all_goals first | omega | exact IntWalk.i64_in _ (by omega)⟩) (by assumption) ?_
        refine wpAnyH_done (by kernel_rfl) ?_ _
        clear hHeld
        obtain ⟨s0, s1⟩ := ret_cells (p := p) (v := .slice (some ⟨a, 0, none⟩) l.length c) r0 r1
        obtain ⟨q1, q2⟩ := row_retW HO8.out HB8.out (Nat.le_refl _) (by omega) (.int .i64 p) (.slice (some ⟨a, 0, none⟩) l.length c)
        have HQ1 := Lib.hid q1
        have HQ2 := Lib.hid q2
        clear q1 q2
        clear kk8 kkD
        go_wp2_with fail
        refine bodyPost_ret ?_ rfl ⟨p, a, c, l, x, y, R.getD m 0, HP.out, HXY.out, HRI.out m hm, rfl, HQ1.out, HQ2.out⟩
        simp [results, Try.results51, go_sem, s0, s1]
  · have h0i : ¬ ((0 : Int) < (R.length : Int)) := by omega
    clear hr6 hb6
    go_wp2_with fail
    have hdr : Below w6.heap.size w6 w6.drew := (Below.refl _ _).drew
    have hsd : w6.drew.heap.size = w6.heap.size := rfl
    have HOD := Lib.hid (own_below HO6.out hdr)
    have HBD := Lib.hid (HB6.out.trans (hdr.mono (by omega)))
    have HCD := Lib.hid (HC6.out.kept (hdr.mono (by omega)))
    have HUD := Lib.hid (HU6.out.below hdr HU6.out.lt)
    have HZD := Lib.hid (HZ6.out.block (hdr.block w.heap.size (by omega)))
    have kkD : w6.drew.cell? ⟨bg, 0, none⟩ = some (.int .i64 p) ∧ w6.drew.cell? ⟨bg, 1, none⟩ = some (.slice (some ⟨a, 0, none⟩) l.length c) := ⟨(hdr.cell (p := ⟨bg, 0, none⟩) (by show bg < _; omega)).trans HK6.out.1, (hdr.cell (p := ⟨bg, 1, none⟩) (by show bg < _; omega)).trans HK6.out.2⟩
    clear hdr HO6 HB6 HC6 HU6 HZ6 HK6
    refine wp_region_held_drew (S := (fun W' : World => W'.cell? ⟨bg, 0, none⟩ = some (.int .i64 p) ∧ W'.cell? ⟨bg, 1, none⟩ = some (.slice (some ⟨a, 0, none⟩) l.length c))) (by kernel_rfl) ?_ (fun hHeld => ?_)
    · exact kkD
    generalize w6.drew = WD at *
    refine wpAnyH_take (i := 0) (v := .agg #[.int .i64 p, .slice (some ⟨a, 0, none⟩) l.length c]) rfl (by kernel_rfl) (by kernel_rfl) (by kernel_rfl) (fun _ _ _ h => h) (Or.inl ⟨by kernel_rfl, fun w hSw => by (try dsimp only at hSw); go_simp; all_goals first | omega | exact IntWalk.i64_in _ (by omega)⟩) (by assumption) ?_
    refine wpAnyH_take (i := 1) (v := .int .i64 x) rfl (by kernel_rfl) (by kernel_rfl) (by kernel_rfl) (fun _ _ _ h => h) (Or.inl ⟨by kernel_rfl, fun w hSw => by (try dsimp only at hSw); go_simp; all_goals first | omega | exact IntWalk.i64_in _ (by omega)⟩) (by assumption) ?_
    refine wpAnyH_take (i := 2) (v := .int .i64 y) rfl (by kernel_rfl) (by kernel_rfl) (by kernel_rfl) (fun _ _ _ h => h) (Or.inl ⟨by kernel_rfl, fun w hSw => by (try dsimp only at hSw); go_simp; all_goals first | omega | exact IntWalk.i64_in _ (by omega)⟩) (by assumption) ?_
    refine wpAnyH_take (i := 3) (v := .pointer (some ⟨g, 0, none⟩)) rfl (by kernel_rfl) (by kernel_rfl) (by kernel_rfl) (fun _ _ _ h => h) (Or.inl ⟨by kernel_rfl, fun w hSw => by (try dsimp only at hSw); go_simp; all_goals first | omega | exact IntWalk.i64_in _ (by omega)⟩) (by assumption) ?_
    refine wpAnyH_ready (rs := [4]) (by kernel_rfl) (by simp) (AllReadyH.cons rfl (fun K hK => ?_) AllReadyH.nil)
    go_simp
    go_at_call 121
    refine (below_c 10 WD w1.heap.size g A len cap zs HCD.out HUD.out hlen (by omega) (by omega)).mono ?_
    rintro e w8 ⟨z, hz, rfl, hu8, hg8⟩
    have hs8 := hg8.size
    have HO8 := Lib.hid (HOD.out.kept hg8 (.inr (by simp [Value.ownBlock]; omega)))
    have HB8 := Lib.hid (HBD.out.grown hg8 (by omega) (fun k e => by cases e; omega))
    have hz8 := HZD.out.block (hg8.block w.heap.size (by omega) (by simp; omega))
    obtain ⟨⟨r0, r1⟩, f0, f1⟩ := hz8
    have hbx8 := hg8.block bg (by omega) (by simp; omega)
    have kk8 := And.intro ((World.cell?_of_block (a := ⟨bg, 0, none⟩) hbx8).trans kkD.1) ((World.cell?_of_block (a := ⟨bg, 1, none⟩) hbx8).trans kkD.2)
    have hne : bg ≠ w.heap.size := by omega
    clear hu8 hg8 hbx8
    refine hK.out _ _ kk8 (fun hHeld => ?_)
    clear hK K
    refine wpAnyH_take (i := 5) (v := .int .i64 (z - 1)) rfl (by kernel_rfl) (by kernel_rfl) (by kernel_rfl) (fun _ _ _ h => h) (Or.inl ⟨by kernel_rfl, fun w hSw => by (try dsimp only at hSw); go_simp; all_goals first | omega | exact IntWalk.i64_in _ (by omega)⟩) (by assumption) ?_
    refine wpAnyH_ready (rs := [6]) (by kernel_rfl) (by simp) (AllReadyH.cons rfl (fun K hK => ?_) AllReadyH.nil)
    go_simp
    refine hK.out _ _ (two_other hne kk8.1 kk8.2) (fun hHeld => ?_)
    clear hK K
    refine wpAnyH_take (i := 7) (v := .int .i64 x) rfl (by kernel_rfl) (by kernel_rfl) (by kernel_rfl) (fun _ _ _ h => h) (Or.inl ⟨by kernel_rfl, fun w hSw => by (try dsimp only at hSw); go_simp; all_goals first | omega | exact IntWalk.i64_in _ (by omega)⟩) (by assumption) ?_
    refine wpAnyH_take (i := 8) (v := .int .i64 y) rfl (by kernel_rfl) (by kernel_rfl) (by kernel_rfl) (fun _ _ _ h => h) (Or.inl ⟨by kernel_rfl, fun w hSw => by (try dsimp only at hSw); go_simp; all_goals first | omega | exact IntWalk.i64_in _ (by omega)⟩) (by assumption) ?_
    refine wpAnyH_take (i := 9) (v := .int .i64 (z - 1)) rfl (by kernel_rfl) (by kernel_rfl) (by kernel_rfl) (fun _ _ _ h => h) (Or.inl ⟨by kernel_rfl, fun w hSw => by (try dsimp only at hSw); go_simp; all_goals first | omega | exact IntWalk.i64_in _ (by omega)⟩) (by assumption) ?_
    refine wpAnyH_done (by kernel_rfl) ?_ _
    clear hHeld
    obtain ⟨s0, s1⟩ := ret_cells (p := p) (v := .slice (some ⟨a, 0, none⟩) l.length c) r0 r1
    obtain ⟨q1, q2⟩ := row_retW HO8.out HB8.out (Nat.le_refl _) (by omega) (.int .i64 p) (.slice (some ⟨a, 0, none⟩) l.length c)
    have HQ1 := Lib.hid q1
    have HQ2 := Lib.hid q2
    clear q1 q2
    clear kk8 kkD
    go_wp2_with fail
    refine bodyPost_ret ?_ rfl ⟨p, a, c, l, x, y, z - 1, HP.out, HXY.out, by unfold InI64; omega, rfl, HQ1.out, HQ2.out⟩
    simp [results, Try.results51, go_sem, s0, s1]
end Go.Proofs.Ytdkpmaahinbhlaa
