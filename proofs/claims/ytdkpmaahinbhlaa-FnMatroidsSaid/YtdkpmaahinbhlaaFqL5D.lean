/- What chapter 5's draws answer (l5Draw, DrawClosureOf). No condition. -/
import Derived.Test.YtdkpmaahinbhlaaFqB2
import Derived.Test.YtdkpmaahinbhlaaFqDraw3
import Derived.Deep.RegionHeld3
namespace Go.Proofs.Ytdkpmaahinbhlaa
open Go.RowKit

/-- A graph, two small numbers and a row of few numbers are drawn. -/
def Draw5 (w : World) (e : Ending) (w' : World) : Prop :=
  ∃ p a c l x y A' c' v lo hi, AnyP p l ∧ (Small x ∧ Small y) ∧ v.length ≤ 26 ∧ e = .returned (.tuple #[.agg #[.int .i64 p, .slice (some ⟨a, 0, none⟩) l.length c], .int .i64 x, .int .i64 y, .slice A' v.length c']) ∧ w'.ownsRow w.heap.size 108 2 (.slice (some ⟨a, 0, none⟩) l.length c) l.length (barCells l) ∧ OwnInts w' lo hi A' c' v ∧ w.heap.size < lo ∧ Below w.heap.size w w'
/-- A graph, two small numbers and a number are drawn. -/
def Draw5x (w : World) (e : Ending) (w' : World) : Prop :=
  ∃ p a c l x y z, AnyP p l ∧ (Small x ∧ Small y) ∧ InI64 z ∧ e = .returned (.tuple #[.agg #[.int .i64 p, .slice (some ⟨a, 0, none⟩) l.length c], .int .i64 x, .int .i64 y, .int .i64 z]) ∧ w'.ownsRow w.heap.size 108 2 (.slice (some ⟨a, 0, none⟩) l.length c) l.length (barCells l) ∧ Below w.heap.size w w'
theorem set2_within (W : World) (r : Nat) (u v : Value) : Within r (r + 1) W ((W.setCell ⟨r, 0, none⟩ u).setCell ⟨r, 1, none⟩ v) :=
  wi_gb ((grownBy_set W r 0 u).trans_ (grownBy_set (W.setCell ⟨r, 0, none⟩ u) r 1 v))

set_option maxHeartbeats 4000000 in
set_option maxRecDepth 100000 in
theorem draw5_c (w : World) (A : Option Addr) (len cap : Nat) (zs : Nat → Int) (hc : CodeIs w w.heap.size A len zs) (hlen : len ≤ 140737488351232) :
    Calls Try.prog 133 #[.slice A len cap] w (Draw5 w) := by
  have hb1 := new_below w (.cells #[.int .i64 0, .slice none 0 0] 26)
  have HC1 := Lib.hid (hc.more hb1)
  have HB1 := Lib.hid hb1
  have HZ1 := Lib.hid (retz_new w)
  have hs1 : (w.alloc (.cells #[.int .i64 0, .slice none 0 0] 26)).heap.size = w.heap.size + 1 := by simp
  clear hc hb1
  go_enter Try.func133, Try.ntmps133
  go_wp2_with fail
  generalize (w.alloc (.cells #[.int .i64 0, .slice none 0 0] 26)) = w1 at *
  refine (new_c w1 A len cap zs HC1.out hlen).mono ?_
  rintro e w2 ⟨g, rfl, hu2, hb2⟩
  have hg1 := hu2.1
  have hs2 := hb2.size
  have hgl := hu2.lt
  have HC2 := Lib.hid (HC1.out.kept hb2)
  have HU2 := Lib.hid hu2
  have HB2 := Lib.hid (HB1.out.trans (hb2.mono (by omega)))
  have HZ2 := Lib.hid (HZ1.out.block (hb2.block w.heap.size (by omega)))
  clear hu2 hb2
  go_wp2_with fail
  refine (any_c w2 w1.heap.size g A len cap zs HC2.out HU2.out hlen hs2).mono ?_
  rintro e w3 ⟨p, a, c, l, hP, rfl, ho, hu3, hg3⟩
  have hal := (ho.lt a rfl).1
  have hs3 := hg3.size
  have HP := Lib.hid hP
  have HB3 := Lib.hid (HB2.out.grown hg3 (by omega) (fun k e => by cases e; omega))
  have HC3 := Lib.hid (HC2.out.kept (grown_cur hg1 hs2 hg3))
  have HZ3 := Lib.hid (HZ2.out.block (hg3.block w.heap.size (by omega) (by simp; omega)))
  have hb4 := new_below w3 (.cells #[.int .i64 p, .slice (some ⟨a, 0, none⟩) l.length c] 26)
  have HU4 := Lib.hid (hu3.below hb4 hu3.lt)
  have HO4 := Lib.hid (own_below ho hb4)
  have HB4 := Lib.hid (HB3.out.trans (hb4.mono (by omega)))
  have HC4 := Lib.hid (HC3.out.kept (hb4.mono (by omega)))
  have HZ4 := Lib.hid (HZ3.out.block (hb4.block w.heap.size (by omega)))
  have HX4 := Lib.hid (box_new w3 p (.slice (some ⟨a, 0, none⟩) l.length c) 26)
  have hs4 : (w3.alloc (.cells #[.int .i64 p, .slice (some ⟨a, 0, none⟩) l.length c] 26)).heap.size = w3.heap.size + 1 := by simp
  have hgl3 := hu3.lt
  clear hP ho hu3 hg3 hb4
  go_wp2_with fail
  generalize (w3.alloc (.cells #[.int .i64 p, .slice (some ⟨a, 0, none⟩) l.length c] 26)) = w4 at *
  obtain ⟨bg, hbg⟩ : ∃ b, w3.heap.size = b := ⟨_, rfl⟩
  rw [hbg] at HX4 hs4 hs3 hgl3 ⊢
  refine (range_c w4 w1.heap.size g A len cap zs HC4.out HU4.out hlen (by omega)).mono ?_
  rintro e w5 ⟨x, y, hxy, rfl, hu5, hg5⟩
  have HXY := Lib.hid hxy
  have hs5 := hg5.size
  have HO5 := Lib.hid (HO4.out.kept hg5 (.inr (by simp [Value.ownBlock]; omega)))
  have HB5 := Lib.hid (HB4.out.grown hg5 (by omega) (fun k e => by cases e; omega))
  have HC5 := Lib.hid (HC4.out.kept (grown_cur hg1 (by omega) hg5))
  have HU5 := Lib.hid hu5
  have HZ5 := Lib.hid (HZ4.out.block (hg5.block w.heap.size (by omega) (by simp; omega)))
  have hbx := hg5.block bg (by omega) (by simp; omega)
  have kk5 := And.intro ((World.cell?_of_block (a := ⟨bg, 0, none⟩) hbx).trans HX4.out.2.1) ((World.cell?_of_block (a := ⟨bg, 1, none⟩) hbx).trans HX4.out.2.2)
  have HK5 := Lib.hid kk5
  clear hxy hu5 hg5 hbx HX4 HZ4 HC4 HB4 HO4 HU4
  go_wp2_with fail
  have hdr : Below w5.heap.size w5 w5.drew := (Below.refl _ _).drew
  have hsd : w5.drew.heap.size = w5.heap.size := rfl
  have HOD := Lib.hid (own_below HO5.out hdr)
  have HBD := Lib.hid (HB5.out.trans (hdr.mono (by omega)))
  have HCD := Lib.hid (HC5.out.kept (hdr.mono (by omega)))
  have HUD := Lib.hid (HU5.out.below hdr HU5.out.lt)
  have HZD := Lib.hid (HZ5.out.block (hdr.block w.heap.size (by omega)))
  have kkD : w5.drew.cell? ⟨bg, 0, none⟩ = some (.int .i64 p) ∧ w5.drew.cell? ⟨bg, 1, none⟩ = some (.slice (some ⟨a, 0, none⟩) l.length c) := ⟨(hdr.cell (p := ⟨bg, 0, none⟩) (by show bg < _; omega)).trans HK5.out.1, (hdr.cell (p := ⟨bg, 1, none⟩) (by show bg < _; omega)).trans HK5.out.2⟩
  clear hdr HO5 HB5 HC5 HU5 HZ5 HK5
  refine wp_region_held_drew (S := (fun W' : World => W'.cell? ⟨bg, 0, none⟩ = some (.int .i64 p) ∧ W'.cell? ⟨bg, 1, none⟩ = some (.slice (some ⟨a, 0, none⟩) l.length c))) (by kernel_rfl) ?_ (fun hHeld => ?_)
  · exact kkD
  generalize w5.drew = WD at *
  refine wpAnyH_take (i := 0) (v := .agg #[.int .i64 p, .slice (some ⟨a, 0, none⟩) l.length c]) rfl (by kernel_rfl) (by kernel_rfl) (by kernel_rfl) (fun _ _ _ h => h) (Or.inl ⟨by kernel_rfl, fun w hSw => by (try dsimp only at hSw); go_simp; all_goals first | omega | exact IntWalk.i64_in _ (by omega)⟩) (by assumption) ?_
  refine wpAnyH_take (i := 1) (v := .int .i64 x) rfl (by kernel_rfl) (by kernel_rfl) (by kernel_rfl) (fun _ _ _ h => h) (Or.inl ⟨by kernel_rfl, fun w hSw => by (try dsimp only at hSw); go_simp; all_goals first | omega | exact IntWalk.i64_in _ (by omega)⟩) (by assumption) ?_
  refine wpAnyH_take (i := 2) (v := .int .i64 y) rfl (by kernel_rfl) (by kernel_rfl) (by kernel_rfl) (fun _ _ _ h => h) (Or.inl ⟨by kernel_rfl, fun w hSw => by (try dsimp only at hSw); go_simp; all_goals first | omega | exact IntWalk.i64_in _ (by omega)⟩) (by assumption) ?_
  refine wpAnyH_take (i := 3) (v := .pointer (some ⟨g, 0, none⟩)) rfl (by kernel_rfl) (by kernel_rfl) (by kernel_rfl) (fun _ _ _ h => h) (Or.inl ⟨by kernel_rfl, fun w hSw => by (try dsimp only at hSw); go_simp; all_goals first | omega | exact IntWalk.i64_in _ (by omega)⟩) (by assumption) ?_
  refine wpAnyH_take (i := 4) (v := .agg #[.int .i64 p, .slice (some ⟨a, 0, none⟩) l.length c]) rfl (by kernel_rfl) (by kernel_rfl) (by kernel_rfl) (fun _ _ _ h => h) (Or.inl ⟨by kernel_rfl, fun w hSw => by (try dsimp only at hSw); go_simp; all_goals first | omega | exact IntWalk.i64_in _ (by omega)⟩) (by assumption) ?_
  refine wpAnyH_ready (rs := [5]) (by kernel_rfl) (by simp) (AllReadyH.cons rfl (fun K hK => ?_) AllReadyH.nil)
  go_simp
  go_at_call 148
  refine (some_c p l.length (some ⟨a, 0, none⟩) c WD w1.heap.size g A len cap zs HCD.out HUD.out hlen (by omega) (by have := HP.out.1; omega)).mono ?_
  rintro e w8 ⟨A', c', v, lo, hi, rfl, hvl, ho8, hlo8, hu8, hg8⟩
  have HI8 := Lib.hid ho8.ints
  clear ho8
  have hs8 := hg8.size
  have HO8 := Lib.hid (HOD.out.kept hg8 (.inr (by simp [Value.ownBlock]; omega)))
  have HB8 := Lib.hid (HBD.out.grown hg8 (by omega) (fun k e => by cases e; omega))
  have hz8 := HZD.out.block (hg8.block w.heap.size (by omega) (by simp; omega))
  obtain ⟨⟨r0, r1⟩, f0, f1⟩ := hz8
  have hbx8 := hg8.block bg (by omega) (by simp; omega)
  have kk8 := And.intro ((World.cell?_of_block (a := ⟨bg, 0, none⟩) hbx8).trans kkD.1) ((World.cell?_of_block (a := ⟨bg, 1, none⟩) hbx8).trans kkD.2)
  have hne : bg ≠ w.heap.size := by omega
  clear hu8 hg8 hbx8
  refine hK.out _ _ kk8 (fun hHeld => ?_)
  clear hK K
  refine wpAnyH_ready (rs := [6]) (by kernel_rfl) (by simp) (AllReadyH.cons rfl (fun K hK => ?_) AllReadyH.nil)
  go_simp
  refine hK.out _ _ (two_other hne kk8.1 kk8.2) (fun hHeld => ?_)
  clear hK K
  refine wpAnyH_take (i := 7) (v := .int .i64 x) rfl (by kernel_rfl) (by kernel_rfl) (by kernel_rfl) (fun _ _ _ h => h) (Or.inl ⟨by kernel_rfl, fun w hSw => by (try dsimp only at hSw); go_simp; all_goals first | omega | exact IntWalk.i64_in _ (by omega)⟩) (by assumption) ?_
  refine wpAnyH_take (i := 8) (v := .int .i64 y) rfl (by kernel_rfl) (by kernel_rfl) (by kernel_rfl) (fun _ _ _ h => h) (Or.inl ⟨by kernel_rfl, fun w hSw => by (try dsimp only at hSw); go_simp; all_goals first | omega | exact IntWalk.i64_in _ (by omega)⟩) (by assumption) ?_
  refine wpAnyH_take (i := 9) (v := .slice A' v.length c') rfl (by kernel_rfl) (by kernel_rfl) (by kernel_rfl) (fun _ _ _ h => h) (Or.inl ⟨by kernel_rfl, fun w hSw => by (try dsimp only at hSw); go_simp; all_goals first | omega | exact IntWalk.i64_in _ (by omega)⟩) (by assumption) ?_
  refine wpAnyH_done (by kernel_rfl) ?_ _
  clear hHeld
  obtain ⟨s0, s1⟩ := ret_cells (p := p) (v := .slice (some ⟨a, 0, none⟩) l.length c) r0 r1
  obtain ⟨q1, q2⟩ := row_retW HO8.out HB8.out (Nat.le_refl _) (by omega) (.int .i64 p) (.slice (some ⟨a, 0, none⟩) l.length c)
  have HQ1 := Lib.hid q1
  have HQ2 := Lib.hid q2
  clear q1 q2
  have hi9 := HI8.out.within (set2_within w8 w.heap.size (.int .i64 p) (.slice (some ⟨a, 0, none⟩) l.length c)) (.inr (by omega))
  have HI9 := Lib.hid hi9
  clear hi9
  clear kk8 kkD
  go_wp2_with fail
  refine bodyPost_ret ?_ rfl ⟨p, a, c, l, x, y, A', c', v, lo, hi, HP.out, HXY.out, by have := HP.out.1; omega, rfl, HQ1.out, HI9.out, by omega, HQ2.out⟩
  simp [results, Try.results133, go_sem, s0, s1]

set_option maxHeartbeats 4000000 in
set_option maxRecDepth 100000 in
theorem drawClo_c (w : World) (A : Option Addr) (len cap : Nat) (zs : Nat → Int) (hc : CodeIs w w.heap.size A len zs) (hlen : len ≤ 140737488351232) :
    Calls Try.prog 40 #[.slice A len cap] w (Draw5 w) := by
  have hb1 := new_below w (.cells #[.int .i64 0, .slice none 0 0] 26)
  have HC1 := Lib.hid (hc.more hb1)
  have HB1 := Lib.hid hb1
  have HZ1 := Lib.hid (retz_new w)
  have hs1 : (w.alloc (.cells #[.int .i64 0, .slice none 0 0] 26)).heap.size = w.heap.size + 1 := by simp
  clear hc hb1
  go_enter Try.func40, Try.ntmps40
  go_wp2_with fail
  generalize (w.alloc (.cells #[.int .i64 0, .slice none 0 0] 26)) = w1 at *
  refine (draw5_c w1 A len cap zs HC1.out hlen).mono ?_
  rintro e w2 ⟨p, a, c, l, x, y, A', c', v, lo, hi, hP, hxy, hv, rfl, ho, hi5, hlo, hb⟩
  have hal := (ho.lt a rfl).1
  have hs2 := hb.size
  have HP := Lib.hid hP
  have HXY := Lib.hid hxy
  have hb3 := new_below w2 (.cells #[.int .i64 p, .slice (some ⟨a, 0, none⟩) l.length c] 26)
  have HB2 := Lib.hid (HB1.out.trans (hb.mono (by omega)))
  have HO3 := Lib.hid (own_below ho hb3)
  have HI3 := Lib.hid (hi5.within (within_of hb3) (.inr (Nat.zero_le _)))
  have HB3 := Lib.hid (HB2.out.trans (hb3.mono (by omega)))
  obtain ⟨⟨r0, r1⟩, f0, f1⟩ := (HZ1.out.block (hb.block w.heap.size (by omega))).block (hb3.block w.heap.size (by omega))
  obtain ⟨s0, s1⟩ := ret_cells (p := p) (v := .slice (some ⟨a, 0, none⟩) l.length c) r0 r1
  obtain ⟨q1, q2⟩ := row_retW HO3.out HB3.out (Nat.le_refl _) (by omega) (.int .i64 p) (.slice (some ⟨a, 0, none⟩) l.length c)
  have HI9 := Lib.hid (HI3.out.within (set2_within _ w.heap.size (.int .i64 p) (.slice (some ⟨a, 0, none⟩) l.length c)) (.inr (by omega)))
  have HQ1 := Lib.hid q1
  have HQ2 := Lib.hid q2
  clear hP hxy ho hb hb3 q1 q2 hi5
  go_wp2_with fail
  refine bodyPost_ret ?_ rfl ⟨p, a, c, l, x, y, A', c', v, lo, hi, HP.out, HXY.out, hv, rfl, HQ1.out, HI9.out, by omega, HQ2.out⟩
  simp [results, Try.results40, go_sem, s0, s1]
end Go.Proofs.Ytdkpmaahinbhlaa
