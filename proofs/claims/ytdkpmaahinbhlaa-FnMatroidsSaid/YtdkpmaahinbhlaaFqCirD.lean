/- What chapter 5's draws answer (DrawIsCircuit). No condition. -/
import Derived.Test.YtdkpmaahinbhlaaFqCiD
import Derived.Test.YtdkpmaahinbhlaaFqCiS
namespace Go.Proofs.Ytdkpmaahinbhlaa
open Go.RowKit

theorem ciV_25 (p k c : Int) (l : List (Int × Int)) (x : Int) : (ciV p k c l x).length ≤ 25 := by
  have h1 := ciK_len p k c l x (befV p k c l x).length
  have h2 := befV_len p k c l x
  unfold ciV
  split
  · rw [List.length_append, List.length_singleton]; omega
  · simp

set_option maxHeartbeats 4000000 in
set_option maxRecDepth 100000 in
theorem drawCir_c (w : World) (A : Option Addr) (len cap : Nat) (zs : Nat → Int) (hc : CodeIs w w.heap.size A len zs) (hlen : len ≤ 140737488351232) :
    Calls Try.prog 56 #[.slice A len cap] w (Draw5 w) := by
  have hb1 := new_below w (.cells #[.int .i64 0, .slice none 0 0] 26)
  have HC1 := Lib.hid (hc.more hb1)
  have HB1 := Lib.hid hb1
  have HZ1 := Lib.hid (retz_new w)
  have hs1 : (w.alloc (.cells #[.int .i64 0, .slice none 0 0] 26)).heap.size = w.heap.size + 1 := by simp
  clear hc hb1
  go_enter Try.func56, Try.ntmps56
  go_wp2_with fail
  generalize (w.alloc (.cells #[.int .i64 0, .slice none 0 0] 26)) = w1 at *
  refine (new_c w1 A len cap zs HC1.out hlen).mono ?_
  rintro e w2 ⟨g, rfl, hu2, hb2⟩
  have hg1 := hu2.1
  have hs2 := hb2.size
  have hgl := hu2.lt
  have HC2 := Lib.hid (HC1.out.kept hb2)
  have HM2 := Lib.hid (HC1.out.more hb2)
  have HU2 := Lib.hid hu2
  have HB2 := Lib.hid (HB1.out.trans (hb2.mono (by omega)))
  have HZ2 := Lib.hid (HZ1.out.block (hb2.block w.heap.size (by omega)))
  clear hu2 hb2
  go_wp2_with fail
  refine (drawCi_c w2 A len cap zs HM2.out hlen).mono ?_
  rintro e w3 ⟨p, a, c, l, x, y, z, hP, hxy, hz, rfl, ho, hb3⟩
  have hal := (ho.lt a rfl).1
  have hs3 := hb3.size
  have HP := Lib.hid hP
  have hp25 := hP.1
  have HXY := Lib.hid hxy
  have HB3 := Lib.hid (HB2.out.trans (hb3.mono (by omega)))
  have HC3 := Lib.hid (HC2.out.kept (hb3.mono (by omega)))
  have HU3 := Lib.hid (HU2.out.below hb3 (by omega))
  have HZ3 := Lib.hid (HZ2.out.block (hb3.block w.heap.size (by omega)))
  have hb4 := new_below w3 (.cells #[.int .i64 p, .slice (some ⟨a, 0, none⟩) l.length c] 26)
  have HU4 := Lib.hid (HU3.out.below hb4 HU3.out.lt)
  have HO4 := Lib.hid (own_below ho hb4)
  have HB4 := Lib.hid (HB3.out.trans (hb4.mono (by omega)))
  have HC4 := Lib.hid (HC3.out.kept (hb4.mono (by omega)))
  have HZ4 := Lib.hid (HZ3.out.block (hb4.block w.heap.size (by omega)))
  have hx4 := box_new w3 p (.slice (some ⟨a, 0, none⟩) l.length c) 26
  have kk4 := And.intro hx4.2.1 hx4.2.2
  have hs4 : (w3.alloc (.cells #[.int .i64 p, .slice (some ⟨a, 0, none⟩) l.length c] 26)).heap.size = w3.heap.size + 1 := by simp
  clear hP hxy ho hb3 hb4 hx4 HU3 HC3 HZ3 HB3 HM2
  go_wp2_with fail
  generalize (w3.alloc (.cells #[.int .i64 p, .slice (some ⟨a, 0, none⟩) l.length c] 26)) = w4 at *
  obtain ⟨bg, hbg⟩ : ∃ b, w3.heap.size = b := ⟨_, rfl⟩
  rw [hbg] at kk4 hs4 hs3 ⊢
  have HK4 := Lib.hid kk4
  refine (specCi p x y z l (some ⟨a, 0, none⟩) c w4 (own_bars HO4.out) (by omega)).mono ?_
  rintro e w5 ⟨A6, c6, rfl, hr5, hb5⟩
  have hrl := ciV_25 p x y l z
  obtain ⟨R, hR⟩ : ∃ R, ciV p x y l z = R := ⟨_, rfl⟩
  rw [hR] at hr5 hrl ⊢
  obtain ⟨q, hq⟩ : ∃ q, ciB p x y l z = q := ⟨_, rfl⟩
  rw [hq]
  clear hR hq kk4
  have hs5 := hb5.size
  have HO5 := Lib.hid (own_below HO4.out hb5)
  have HB5 := Lib.hid (HB4.out.trans (hb5.mono (by omega)))
  have HC5 := Lib.hid (HC4.out.kept (hb5.mono (by omega)))
  have HU5 := Lib.hid (HU4.out.below hb5 HU4.out.lt)
  have HZ5 := Lib.hid (HZ4.out.block (hb5.block w.heap.size (by omega)))
  have kk5 : w5.cell? ⟨bg, 0, none⟩ = some (.int .i64 p) ∧ w5.cell? ⟨bg, 1, none⟩ = some (.slice (some ⟨a, 0, none⟩) l.length c) := ⟨(hb5.cell (p := ⟨bg, 0, none⟩) (by show bg < _; omega)).trans HK4.out.1, (hb5.cell (p := ⟨bg, 1, none⟩) (by show bg < _; omega)).trans HK4.out.2⟩
  have HK5 := Lib.hid kk5
  clear kk5
  have HI5 := Lib.hid hr5
  clear hr5 hb5
  cases q with
  | false =>
    go_wp2_with fail
    have hdr : Below w5.heap.size w5 w5.drew := (Below.refl _ _).drew
    have hsd : w5.drew.heap.size = w5.heap.size := rfl
    have HOD := Lib.hid (own_below HO5.out hdr)
    have HBD := Lib.hid (HB5.out.trans (hdr.mono (by omega)))
    have HCD := Lib.hid (HC5.out.kept (hdr.mono (by omega)))
    have HUD := Lib.hid (HU5.out.below hdr HU5.out.lt)
    have HZD := Lib.hid (HZ5.out.block (hdr.block w.heap.size (by omega)))
    have kkD : w5.drew.cell? ⟨bg, 0, none⟩ = some (.int .i64 p) ∧ w5.drew.cell? ⟨bg, 1, none⟩ = some (.slice (some ⟨a, 0, none⟩) l.length c) := ⟨(hdr.cell (p := ⟨bg, 0, none⟩) (by show bg < _; omega)).trans HK5.out.1, (hdr.cell (p := ⟨bg, 1, none⟩) (by show bg < _; omega)).trans HK5.out.2⟩
    clear hdr HO5 HB5 HC5 HU5 HZ5 HK5
    refine wp_region_held_drew (S := (fun W' : World => W'.cell? ⟨bg, 0, none⟩ = some (.int .i64 p) ∧ W'.cell? ⟨bg, 1, none⟩ = some (.slice (some ⟨a, 0, none⟩) l.length c))) (by kernel_rfl) ?_ (fun hHeld => ?_)
    · exact kkD
    generalize w5.drew = WD at *
    refine wpAnyH_take (i := 0) (v := .agg #[.int .i64 p, .slice (some ⟨a, 0, none⟩) l.length c]) rfl (by kernel_rfl) (by kernel_rfl) (by kernel_rfl) (fun _ _ _ h => h) (Or.inl ⟨by kernel_rfl, fun w hSw => by (try dsimp only at hSw); go_simp; all_goals first | omega | exact IntWalk.i64_in _ (by omega)⟩) (by assumption) ?_
    refine wpAnyH_take (i := 1) (v := .int .i64 x) rfl (by kernel_rfl) (by kernel_rfl) (by kernel_rfl) (fun _ _ _ h => h) (Or.inl ⟨by kernel_rfl, fun w hSw => by (try dsimp only at hSw); go_simp; all_goals first | omega | exact IntWalk.i64_in _ (by omega)⟩) (by assumption) ?_
    refine wpAnyH_take (i := 2) (v := .int .i64 y) rfl (by kernel_rfl) (by kernel_rfl) (by kernel_rfl) (fun _ _ _ h => h) (Or.inl ⟨by kernel_rfl, fun w hSw => by (try dsimp only at hSw); go_simp; all_goals first | omega | exact IntWalk.i64_in _ (by omega)⟩) (by assumption) ?_
    refine wpAnyH_take (i := 3) (v := .pointer (some ⟨g, 0, none⟩)) rfl (by kernel_rfl) (by kernel_rfl) (by kernel_rfl) (fun _ _ _ h => h) (Or.inl ⟨by kernel_rfl, fun w hSw => by (try dsimp only at hSw); go_simp; all_goals first | omega | exact IntWalk.i64_in _ (by omega)⟩) (by assumption) ?_
    refine wpAnyH_take (i := 4) (v := .agg #[.int .i64 p, .slice (some ⟨a, 0, none⟩) l.length c]) rfl (by kernel_rfl) (by kernel_rfl) (by kernel_rfl) (fun _ _ _ h => h) (Or.inl ⟨by kernel_rfl, fun w hSw => by (try dsimp only at hSw); go_simp; all_goals first | omega | exact IntWalk.i64_in _ (by omega)⟩) (by assumption) ?_
    refine wpAnyH_ready (rs := [5]) (by kernel_rfl) (by simp) (AllReadyH.cons rfl (fun K hK => ?_) AllReadyH.nil)
    go_simp
    go_at_call 148
    refine (some_c p l.length (some ⟨a, 0, none⟩) c WD w1.heap.size g A len cap zs HCD.out HUD.out hlen (by omega) (by have := HP.out.1; omega)).mono ?_
    rintro e w8 ⟨A', c', v, lo, hi, rfl, hvl, ho8, hlo8, hu8, hg8⟩
    have HI8 := Lib.hid ho8.ints
    clear ho8
    have hs8 := hg8.size
    have HO8 := Lib.hid (HOD.out.kept hg8 (.inr (by simp [Value.ownBlock]; omega)))
    have HB8 := Lib.hid (HBD.out.grown hg8 (by omega) (fun k e => by cases e; omega))
    have hz8 := HZD.out.block (hg8.block w.heap.size (by omega) (by simp; omega))
    obtain ⟨⟨r0, r1⟩, f0, f1⟩ := hz8
    have hbx8 := hg8.block bg (by omega) (by simp; omega)
    have kk8 := And.intro ((World.cell?_of_block (a := ⟨bg, 0, none⟩) hbx8).trans kkD.1) ((World.cell?_of_block (a := ⟨bg, 1, none⟩) hbx8).trans kkD.2)
    have hne : bg ≠ w.heap.size := by omega
    clear hu8 hg8 hbx8
    refine hK.out _ _ kk8 (fun hHeld => ?_)
    clear hK K
    refine wpAnyH_ready (rs := [6]) (by kernel_rfl) (by simp) (AllReadyH.cons rfl (fun K hK => ?_) AllReadyH.nil)
    go_simp
    refine hK.out _ _ (two_other hne kk8.1 kk8.2) (fun hHeld => ?_)
    clear hK K
    refine wpAnyH_take (i := 7) (v := .int .i64 x) rfl (by kernel_rfl) (by kernel_rfl) (by kernel_rfl) (fun _ _ _ h => h) (Or.inl ⟨by kernel_rfl, fun w hSw => by (try dsimp only at hSw); go_simp; all_goals first | omega | exact IntWalk.i64_in _ (by omega)⟩) (by assumption) ?_
    refine wpAnyH_take (i := 8) (v := .int .i64 y) rfl (by kernel_rfl) (by kernel_rfl) (by kernel_rfl) (fun _ _ _ h => h) (Or.inl ⟨by kernel_rfl, fun w hSw => by (try dsimp only at hSw); go_simp; all_goals first | omega | exact IntWalk.i64_in _ (by omega)⟩) (by assumption) ?_
    refine wpAnyH_take (i := 9) (v := .slice A' v.length c') rfl (by kernel_rfl) (by kernel_rfl) (by kernel_rfl) (fun _ _ _ h => h) (Or.inl ⟨by kernel_rfl, fun w hSw => by (try dsimp only at hSw); go_simp; all_goals first | omega | exact IntWalk.i64_in _ (by omega)⟩) (by assumption) ?_
    refine wpAnyH_done (by kernel_rfl) ?_ _
    clear hHeld
    obtain ⟨s0, s1⟩ := ret_cells (p := p) (v := .slice (some ⟨a, 0, none⟩) l.length c) r0 r1
    obtain ⟨q1, q2⟩ := row_retW HO8.out HB8.out (Nat.le_refl _) (by omega) (.int .i64 p) (.slice (some ⟨a, 0, none⟩) l.length c)
    have HQ1 := Lib.hid q1
    have HQ2 := Lib.hid q2
    clear q1 q2
    have hi9 := HI8.out.within (set2_within w8 w.heap.size (.int .i64 p) (.slice (some ⟨a, 0, none⟩) l.length c)) (.inr (by omega))
    have HI9 := Lib.hid hi9
    clear hi9
    clear kk8 kkD
    go_wp2_with fail
    refine bodyPost_ret ?_ rfl ⟨p, a, c, l, x, y, A', c', v, lo, hi, HP.out, HXY.out, by omega, rfl, HQ1.out, HI9.out, by omega, HQ2.out⟩
    simp [results, Try.results56, go_sem, s0, s1]
  | true =>
    go_wp2_with fail
    refine (once_d 4 w5 w1.heap.size g A len cap zs HC5.out HU5.out hlen (by omega) (by omega)).mono ?_
    rintro e w6 ⟨⟨bo, rfl⟩, hu6, hg6⟩
    have hs6 := hg6.size
    have HO6 := Lib.hid (HO5.out.kept hg6 (.inr (by simp [Value.ownBlock]; omega)))
    have HB6 := Lib.hid (HB5.out.grown hg6 (by omega) (fun k e => by cases e; omega))
    have HC6 := Lib.hid (HC5.out.kept (grown_cur hg1 (by omega) hg6))
    have HU6 := Lib.hid hu6
    have HZ6 := Lib.hid (HZ5.out.block (hg6.block w.heap.size (by omega) (by simp; omega)))
    have hbx6 := hg6.block bg (by omega) (by simp; omega)
    have kk6 := And.intro ((World.cell?_of_block (a := ⟨bg, 0, none⟩) hbx6).trans HK5.out.1) ((World.cell?_of_block (a := ⟨bg, 1, none⟩) hbx6).trans HK5.out.2)
    have HK6 := Lib.hid kk6
    clear kk6 hbx6
    have HI6 := Lib.hid (HI5.out.within (wi_gb hg6) (.inr (by omega)))
    clear hu6 hg6
    cases bo with
    | true =>
      go_wp2_with fail
      have hdr : Below w6.heap.size w6 w6.drew := (Below.refl _ _).drew
      have hsd : w6.drew.heap.size = w6.heap.size := rfl
      have HOD := Lib.hid (own_below HO6.out hdr)
      have HBD := Lib.hid (HB6.out.trans (hdr.mono (by omega)))
      have HCD := Lib.hid (HC6.out.kept (hdr.mono (by omega)))
      have HUD := Lib.hid (HU6.out.below hdr HU6.out.lt)
      have HZD := Lib.hid (HZ6.out.block (hdr.block w.heap.size (by omega)))
      have kkD : w6.drew.cell? ⟨bg, 0, none⟩ = some (.int .i64 p) ∧ w6.drew.cell? ⟨bg, 1, none⟩ = some (.slice (some ⟨a, 0, none⟩) l.length c) := ⟨(hdr.cell (p := ⟨bg, 0, none⟩) (by show bg < _; omega)).trans HK6.out.1, (hdr.cell (p := ⟨bg, 1, none⟩) (by show bg < _; omega)).trans HK6.out.2⟩
      clear hdr HO6 HB6 HC6 HU6 HZ6 HK6
      refine wp_region_held_drew (S := (fun W' : World => W'.cell? ⟨bg, 0, none⟩ = some (.int .i64 p) ∧ W'.cell? ⟨bg, 1, none⟩ = some (.slice (some ⟨a, 0, none⟩) l.length c))) (by kernel_rfl) ?_ (fun hHeld => ?_)
      · exact kkD
      generalize w6.drew = WD at *
      refine wpAnyH_take (i := 0) (v := .agg #[.int .i64 p, .slice (some ⟨a, 0, none⟩) l.length c]) rfl (by kernel_rfl) (by kernel_rfl) (by kernel_rfl) (fun _ _ _ h => h) (Or.inl ⟨by kernel_rfl, fun w hSw => by (try dsimp only at hSw); go_simp; all_goals first | omega | exact IntWalk.i64_in _ (by omega)⟩) (by assumption) ?_
      refine wpAnyH_take (i := 1) (v := .int .i64 x) rfl (by kernel_rfl) (by kernel_rfl) (by kernel_rfl) (fun _ _ _ h => h) (Or.inl ⟨by kernel_rfl, fun w hSw => by (try dsimp only at hSw); go_simp; all_goals first | omega | exact IntWalk.i64_in _ (by omega)⟩) (by assumption) ?_
      refine wpAnyH_take (i := 2) (v := .int .i64 y) rfl (by kernel_rfl) (by kernel_rfl) (by kernel_rfl) (fun _ _ _ h => h) (Or.inl ⟨by kernel_rfl, fun w hSw => by (try dsimp only at hSw); go_simp; all_goals first | omega | exact IntWalk.i64_in _ (by omega)⟩) (by assumption) ?_
      refine wpAnyH_take (i := 3) (v := .pointer (some ⟨g, 0, none⟩)) rfl (by kernel_rfl) (by kernel_rfl) (by kernel_rfl) (fun _ _ _ h => h) (Or.inl ⟨by kernel_rfl, fun w hSw => by (try dsimp only at hSw); go_simp; all_goals first | omega | exact IntWalk.i64_in _ (by omega)⟩) (by assumption) ?_
      refine wpAnyH_take (i := 4) (v := .agg #[.int .i64 p, .slice (some ⟨a, 0, none⟩) l.length c]) rfl (by kernel_rfl) (by kernel_rfl) (by kernel_rfl) (fun _ _ _ h => h) (Or.inl ⟨by kernel_rfl, fun w hSw => by (try dsimp only at hSw); go_simp; all_goals first | omega | exact IntWalk.i64_in _ (by omega)⟩) (by assumption) ?_
      refine wpAnyH_ready (rs := [5]) (by kernel_rfl) (by simp) (AllReadyH.cons rfl (fun K hK => ?_) AllReadyH.nil)
      go_simp
      go_at_call 148
      refine (some_c p l.length (some ⟨a, 0, none⟩) c WD w1.heap.size g A len cap zs HCD.out HUD.out hlen (by omega) (by have := HP.out.1; omega)).mono ?_
      rintro e w8 ⟨A', c', v, lo, hi, rfl, hvl, ho8, hlo8, hu8, hg8⟩
      have HI8 := Lib.hid ho8.ints
      clear ho8
      have hs8 := hg8.size
      have HO8 := Lib.hid (HOD.out.kept hg8 (.inr (by simp [Value.ownBlock]; omega)))
      have HB8 := Lib.hid (HBD.out.grown hg8 (by omega) (fun k e => by cases e; omega))
      have hz8 := HZD.out.block (hg8.block w.heap.size (by omega) (by simp; omega))
      obtain ⟨⟨r0, r1⟩, f0, f1⟩ := hz8
      have hbx8 := hg8.block bg (by omega) (by simp; omega)
      have kk8 := And.intro ((World.cell?_of_block (a := ⟨bg, 0, none⟩) hbx8).trans kkD.1) ((World.cell?_of_block (a := ⟨bg, 1, none⟩) hbx8).trans kkD.2)
      have hne : bg ≠ w.heap.size := by omega
      clear hu8 hg8 hbx8
      refine hK.out _ _ kk8 (fun hHeld => ?_)
      clear hK K
      refine wpAnyH_ready (rs := [6]) (by kernel_rfl) (by simp) (AllReadyH.cons rfl (fun K hK => ?_) AllReadyH.nil)
      go_simp
      refine hK.out _ _ (two_other hne kk8.1 kk8.2) (fun hHeld => ?_)
      clear hK K
      refine wpAnyH_take (i := 7) (v := .int .i64 x) rfl (by kernel_rfl) (by kernel_rfl) (by kernel_rfl) (fun _ _ _ h => h) (Or.inl ⟨by kernel_rfl, fun w hSw => by (try dsimp only at hSw); go_simp; all_goals first | omega | exact IntWalk.i64_in _ (by omega)⟩) (by assumption) ?_
      refine wpAnyH_take (i := 8) (v := .int .i64 y) rfl (by kernel_rfl) (by kernel_rfl) (by kernel_rfl) (fun _ _ _ h => h) (Or.inl ⟨by kernel_rfl, fun w hSw => by (try dsimp only at hSw); go_simp; all_goals first | omega | exact IntWalk.i64_in _ (by omega)⟩) (by assumption) ?_
      refine wpAnyH_take (i := 9) (v := .slice A' v.length c') rfl (by kernel_rfl) (by kernel_rfl) (by kernel_rfl) (fun _ _ _ h => h) (Or.inl ⟨by kernel_rfl, fun w hSw => by (try dsimp only at hSw); go_simp; all_goals first | omega | exact IntWalk.i64_in _ (by omega)⟩) (by assumption) ?_
      refine wpAnyH_done (by kernel_rfl) ?_ _
      clear hHeld
      obtain ⟨s0, s1⟩ := ret_cells (p := p) (v := .slice (some ⟨a, 0, none⟩) l.length c) r0 r1
      obtain ⟨q1, q2⟩ := row_retW HO8.out HB8.out (Nat.le_refl _) (by omega) (.int .i64 p) (.slice (some ⟨a, 0, none⟩) l.length c)
      have HQ1 := Lib.hid q1
      have HQ2 := Lib.hid q2
      clear q1 q2
      have hi9 := HI8.out.within (set2_within w8 w.heap.size (.int .i64 p) (.slice (some ⟨a, 0, none⟩) l.length c)) (.inr (by omega))
      have HI9 := Lib.hid hi9
      clear hi9
      clear kk8 kkD
      go_wp2_with fail
      refine bodyPost_ret ?_ rfl ⟨p, a, c, l, x, y, A', c', v, lo, hi, HP.out, HXY.out, by omega, rfl, HQ1.out, HI9.out, by omega, HQ2.out⟩
      simp [results, Try.results56, go_sem, s0, s1]
    | false =>
      obtain ⟨k0, k1⟩ := HK6.out
      obtain ⟨⟨r0, r1⟩, f0, f1⟩ := HZ6.out
      have hne : bg ≠ w.heap.size := by omega
      obtain ⟨s0, s1⟩ := ret_cells (p := p) (v := .slice (some ⟨a, 0, none⟩) l.length c) r0 r1
      obtain ⟨q1, q2⟩ := row_retW HO6.out HB6.out (Nat.le_refl _) (by omega) (.int .i64 p) (.slice (some ⟨a, 0, none⟩) l.length c)
      have HQ1 := Lib.hid q1
      have HQ2 := Lib.hid q2
      have HI9 := Lib.hid (HI6.out.within (set2_within w6 w.heap.size (.int .i64 p) (.slice (some ⟨a, 0, none⟩) l.length c)) (.inr (by omega)))
      clear q1 q2
      go_wp2_with fail
      refine bodyPost_ret ?_ rfl ⟨p, a, c, l, x, y, A6, c6, R, w4.heap.size, w5.heap.size, HP.out, HXY.out, by omega, rfl, HQ1.out, HI9.out, by omega, HQ2.out⟩
      simp [results, Try.results56, go_sem, s0, s1]
end Go.Proofs.Ytdkpmaahinbhlaa
