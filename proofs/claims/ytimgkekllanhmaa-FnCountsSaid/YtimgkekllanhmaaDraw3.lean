/- What the draws of chapter 3 draw (spec.l3Range, l3Draw, DrawIsSparse, DrawSpannedBars, DrawIsRange). No condition. -/
import Derived.Test.YtimgkekllanhmaaDrawAny
import Derived.Test.YtimgkekllanhmaaSetS
import Derived.Deep.RegionHeld3
namespace Go.Proofs.Ytimgkekllanhmaa
open Go.RowKit

def Small (x : Int) : Prop := -1 ≤ x ∧ x ≤ 8
/-- Two small numbers are drawn. -/
def Draw2 (w : World) (B g : Nat) (A : Option Addr) (len cap : Nat) (e : Ending) (w' : World) : Prop :=
  ∃ x y, (Small x ∧ Small y) ∧ e = .returned (.tuple #[.int .i64 x, .int .i64 y]) ∧ CurIs w' B g A len cap ∧ w.grownBy w' (some g)

set_option maxHeartbeats 1000000 in
set_option maxRecDepth 100000 in
theorem range_c (w : World) (B g : Nat) (A : Option Addr) (len cap : Nat) (zs : Nat → Int) (hc : CodeIs w B A len zs) (hu : CurIs w B g A len cap) (hlen : len ≤ 140737488351232) (hBw : B ≤ w.heap.size) :
    Calls Try.prog 62 #[.pointer (some ⟨g, 0, none⟩)] w (Draw2 w B g A len cap) := by
  have HC := Lib.hid hc
  have HU := Lib.hid hu
  have hBg := hu.1
  clear hc hu
  go_enter Try.func62, Try.ntmps62
  go_wp2_with fail
  refine (below_c 6 w B g A len cap zs HC.out HU.out hlen (by omega) (by omega)).mono ?_
  rintro e w1 ⟨u, hu, rfl, hu1, hg1⟩
  have HU1 := Lib.hid hu1
  have HG1 := Lib.hid hg1
  have HC1 := Lib.hid (HC.out.kept (grown_cur hBg hBw hg1))
  clear hu1 hg1
  rcases (show u = 0 ∨ u = 1 ∨ u = 2 ∨ u = 3 ∨ u = 4 ∨ u = 5 by omega) with rfl | rfl | rfl | rfl | rfl | rfl
  · go_wp2_with fail
    go_ret2
    exact ⟨2, 3, by unfold Small; omega, rfl, HU1.out, HG1.out⟩
  · go_wp2_with fail
    go_ret2
    exact ⟨2, 3, by unfold Small; omega, rfl, HU1.out, HG1.out⟩
  · go_wp2_with fail
    go_ret2
    exact ⟨2, 3, by unfold Small; omega, rfl, HU1.out, HG1.out⟩
  · go_wp2_with fail
    go_ret2
    exact ⟨1, 1, by unfold Small; omega, rfl, HU1.out, HG1.out⟩
  · go_wp2_with fail
    go_ret2
    exact ⟨2, 2, by unfold Small; omega, rfl, HU1.out, HG1.out⟩
  · go_wp2_with fail
    refine (below_c 5 w1 B g A len cap zs HC1.out HU1.out hlen (by omega) (by omega)).mono ?_
    rintro e w2 ⟨x, hx, rfl, hu2, hg2⟩
    have HU2 := Lib.hid hu2
    have HG2 := Lib.hid (HG1.out.trans_ hg2)
    have HC2 := Lib.hid (HC.out.kept (grown_cur hBg hBw HG2.out))
    clear hu2 hg2
    go_wp2_with fail
    refine (below_c 7 w2 B g A len cap zs HC2.out HU2.out hlen (by omega) (by omega)).mono ?_
    rintro e w3 ⟨y, hy, rfl, hu3, hg3⟩
    have HU3 := Lib.hid hu3
    have HG3 := Lib.hid (HG2.out.trans_ hg3)
    clear hu3 hg3
    go_wp2_with fail
    go_ret2
    exact ⟨x, y - 1, by unfold Small; omega, rfl, HU3.out, HG3.out⟩

/-- A graph and two small numbers are drawn. -/
def Draw3 (w : World) (e : Ending) (w' : World) : Prop :=
  ∃ p a c l x y, AnyP p l ∧ (Small x ∧ Small y) ∧ e = .returned (.tuple #[.agg #[.int .i64 p, .slice (some ⟨a, 0, none⟩) l.length c], .int .i64 x, .int .i64 y]) ∧ w'.ownsRow w.heap.size 58 2 (.slice (some ⟨a, 0, none⟩) l.length c) l.length (barCells l) ∧ Below w.heap.size w w'
theorem CodeIs.more {w w' : World} {A : Option Addr} {len : Nat} {zs : Nat → Int} (h : CodeIs w w.heap.size A len zs) (hb : Below w.heap.size w w') : CodeIs w' w'.heap.size A len zs :=
  ⟨h.1, fun hl => by
    obtain ⟨b, off, e, hlt, hc⟩ := (h.kept hb).2 hl
    exact ⟨b, off, e, Nat.lt_of_lt_of_le hlt hb.size, hc⟩⟩

set_option maxHeartbeats 2000000 in
set_option maxRecDepth 100000 in
theorem draw3_c (w : World) (A : Option Addr) (len cap : Nat) (zs : Nat → Int) (hc : CodeIs w w.heap.size A len zs) (hlen : len ≤ 140737488351232) :
    Calls Try.prog 49 #[.slice A len cap] w (Draw3 w) := by
  have hb1 := new_below w (.cells #[.int .i64 0, .slice none 0 0] 30)
  have HC1 := Lib.hid (hc.more hb1)
  have HB1 := Lib.hid hb1
  have HZ1 := Lib.hid (retz_new w)
  have hs1 : (w.alloc (.cells #[.int .i64 0, .slice none 0 0] 30)).heap.size = w.heap.size + 1 := by simp
  clear hc hb1
  go_enter Try.func49, Try.ntmps49
  go_wp2_with fail
  generalize (w.alloc (.cells #[.int .i64 0, .slice none 0 0] 30)) = w1 at *
  refine (new_c w1 A len cap zs HC1.out hlen).mono ?_
  rintro e w2 ⟨g, rfl, hu2, hb2⟩
  have hg1 := hu2.1
  have hs2 := hb2.size
  have hgl := hu2.lt
  have HC2 := Lib.hid (HC1.out.kept hb2)
  have HU2 := Lib.hid hu2
  have HB2 := Lib.hid (HB1.out.trans (hb2.mono (by omega)))
  have HZ2 := Lib.hid (HZ1.out.block (hb2.block w.heap.size (by omega)))
  clear hu2 hb2
  go_wp2_with fail
  refine (any_c w2 w1.heap.size g A len cap zs HC2.out HU2.out hlen hs2).mono ?_
  rintro e w3 ⟨p, a, c, l, hP, rfl, ho, hu3, hg3⟩
  have hal := (ho.lt a rfl).1
  have hs3 := hg3.size
  have HP := Lib.hid hP
  have HB3 := Lib.hid (HB2.out.grown hg3 (by omega) (fun k e => by cases e; omega))
  have HC3 := Lib.hid (HC2.out.kept (grown_cur hg1 hs2 hg3))
  have HZ3 := Lib.hid (HZ2.out.block (hg3.block w.heap.size (by omega) (by simp; omega)))
  have hb4 := new_below w3 (.cells #[.int .i64 p, .slice (some ⟨a, 0, none⟩) l.length c] 30)
  have HU4 := Lib.hid (hu3.below hb4 hu3.lt)
  have HO4 := Lib.hid (own_below ho hb4)
  have HB4 := Lib.hid (HB3.out.trans (hb4.mono (by omega)))
  have HC4 := Lib.hid (HC3.out.kept (hb4.mono (by omega)))
  have HZ4 := Lib.hid (HZ3.out.block (hb4.block w.heap.size (by omega)))
  have HX4 := Lib.hid (box_new w3 p (.slice (some ⟨a, 0, none⟩) l.length c) 30)
  have hs4 : (w3.alloc (.cells #[.int .i64 p, .slice (some ⟨a, 0, none⟩) l.length c] 30)).heap.size = w3.heap.size + 1 := by simp
  have hgl3 := hu3.lt
  clear hP ho hu3 hg3 hb4
  go_wp2_with fail
  generalize (w3.alloc (.cells #[.int .i64 p, .slice (some ⟨a, 0, none⟩) l.length c] 30)) = w4 at *
  refine (range_c w4 w1.heap.size g A len cap zs HC4.out HU4.out hlen (by omega)).mono ?_
  rintro e w5 ⟨x, y, hxy, rfl, hu5, hg5⟩
  have HXY := Lib.hid hxy
  have hs5 := hg5.size
  have HO5 := Lib.hid (HO4.out.kept hg5 (.inr (by simp [Value.ownBlock]; omega)))
  have HB5 := Lib.hid (HB4.out.grown hg5 (by omega) (fun k e => by cases e; omega))
  obtain ⟨⟨r0, r1⟩, f0, f1⟩ := HZ4.out.block (hg5.block w.heap.size (by omega) (by simp; omega))
  have hbx := hg5.block w3.heap.size (by omega) (by simp; omega)
  have g1 := (World.cell?_of_block (a := ⟨w3.heap.size, 0, none⟩) hbx).trans HX4.out.2.1
  have g2 := (World.cell?_of_block (a := ⟨w3.heap.size, 1, none⟩) hbx).trans HX4.out.2.2
  clear hxy hu5 hg5 hbx
  obtain ⟨s0, s1⟩ := ret_cells (p := p) (v := .slice (some ⟨a, 0, none⟩) l.length c) r0 r1
  obtain ⟨q1, q2⟩ := row_retW HO5.out HB5.out (Nat.le_refl _) (by omega) (.int .i64 p) (.slice (some ⟨a, 0, none⟩) l.length c)
  have HQ1 := Lib.hid q1
  have HQ2 := Lib.hid q2
  clear q1 q2
  go_wp2_with fail
  refine bodyPost_ret ?_ rfl ⟨p, a, c, l, x, y, HP.out, HXY.out, rfl, HQ1.out, HQ2.out⟩
  simp [results, Try.results49, go_sem, s0, s1]

set_option maxHeartbeats 2000000 in
set_option maxRecDepth 100000 in
theorem drawSparse_c (w : World) (A : Option Addr) (len cap : Nat) (zs : Nat → Int) (hc : CodeIs w w.heap.size A len zs) (hlen : len ≤ 140737488351232) :
    Calls Try.prog 31 #[.slice A len cap] w (Draw3 w) := by
  have hb1 := new_below w (.cells #[.int .i64 0, .slice none 0 0] 30)
  have HC1 := Lib.hid (hc.more hb1)
  have HB1 := Lib.hid hb1
  have HZ1 := Lib.hid (retz_new w)
  have hs1 : (w.alloc (.cells #[.int .i64 0, .slice none 0 0] 30)).heap.size = w.heap.size + 1 := by simp
  clear hc hb1
  go_enter Try.func31, Try.ntmps31
  go_wp2_with fail
  generalize (w.alloc (.cells #[.int .i64 0, .slice none 0 0] 30)) = w1 at *
  refine (draw3_c w1 A len cap zs HC1.out hlen).mono ?_
  rintro e w2 ⟨p, a, c, l, x, y, hP, hxy, rfl, ho, hb⟩
  have hal := (ho.lt a rfl).1
  have hs2 := hb.size
  have HP := Lib.hid hP
  have HXY := Lib.hid hxy
  have hb3 := new_below w2 (.cells #[.int .i64 p, .slice (some ⟨a, 0, none⟩) l.length c] 30)
  have HB2 := Lib.hid (HB1.out.trans (hb.mono (by omega)))
  have HO3 := Lib.hid (own_below ho hb3)
  have HB3 := Lib.hid (HB2.out.trans (hb3.mono (by omega)))
  obtain ⟨⟨r0, r1⟩, f0, f1⟩ := (HZ1.out.block (hb.block w.heap.size (by omega))).block (hb3.block w.heap.size (by omega))
  obtain ⟨s0, s1⟩ := ret_cells (p := p) (v := .slice (some ⟨a, 0, none⟩) l.length c) r0 r1
  obtain ⟨q1, q2⟩ := row_retW HO3.out HB3.out (Nat.le_refl _) (by omega) (.int .i64 p) (.slice (some ⟨a, 0, none⟩) l.length c)
  have HQ1 := Lib.hid q1
  have HQ2 := Lib.hid q2
  clear hP hxy ho hb hb3 q1 q2
  go_wp2_with fail
  refine bodyPost_ret ?_ rfl ⟨p, a, c, l, x, y, HP.out, HXY.out, rfl, HQ1.out, HQ2.out⟩
  simp [results, Try.results31, go_sem, s0, s1]

set_option maxHeartbeats 2000000 in
set_option maxRecDepth 100000 in
theorem drawRange_c (w : World) (A : Option Addr) (len cap : Nat) (zs : Nat → Int) (hc : CodeIs w w.heap.size A len zs) (hlen : len ≤ 140737488351232) :
    Calls Try.prog 36 #[.slice A len cap] w fun e w' => ∃ x y, (Small x ∧ Small y) ∧ e = .returned (.tuple #[.int .i64 x, .int .i64 y]) ∧ Below w.heap.size w w' := by
  have HC := Lib.hid hc
  clear hc
  go_enter Try.func36, Try.ntmps36
  go_wp2_with fail
  refine (new_c w A len cap zs HC.out hlen).mono ?_
  rintro e w2 ⟨g, rfl, hu2, hb2⟩
  have hg1 := hu2.1
  have hs2 := hb2.size
  have HC2 := Lib.hid (HC.out.kept hb2)
  have HU2 := Lib.hid hu2
  have HB2 := Lib.hid hb2
  clear hu2 hb2
  go_wp2_with fail
  refine (below_c 6 w2 w.heap.size g A len cap zs HC2.out HU2.out hlen (by omega) (by omega)).mono ?_
  rintro e w3 ⟨x, hx, rfl, hu3, hg3⟩
  have HU3 := Lib.hid hu3
  have HB3 := Lib.hid (HB2.out.grown hg3 (by omega) (fun k e => by cases e; omega))
  have HC3 := Lib.hid (HC.out.kept HB3.out)
  have hs3 := hg3.size
  clear hu3 hg3
  go_wp2_with fail
  refine (below_c 8 w3 w.heap.size g A len cap zs HC3.out HU3.out hlen (by omega) (by omega)).mono ?_
  rintro e w4 ⟨y, hy, rfl, hu4, hg4⟩
  have HB4 := Lib.hid (HB3.out.grown hg4 (by omega) (fun k e => by cases e; omega))
  clear hu4 hg4
  go_wp2_with fail
  go_ret2
  exact ⟨x - 1, y - 1, by unfold Small; omega, rfl, HB4.out⟩

/-- The answer's variable r is written: a row of ints behind it reads as it did. -/
theorem OwnInts.put2 {W : World} {lo hi : Nat} {A : Option Addr} {cap : Nat} {zs : List Int} (h : OwnInts W lo hi A cap zs) (r : Nat) (hr : r < lo) (u v : Value) : IntsIn ((W.setCell ⟨r, 0, none⟩ u).setCell ⟨r, 1, none⟩ v) 0 ((W.setCell ⟨r, 0, none⟩ u).setCell ⟨r, 1, none⟩ v).heap.size A zs := by
  refine ⟨Nat.le_refl _, fun hl => ?_⟩
  obtain ⟨b, off, e, h1, h2, hc⟩ := h.reads.2 hl
  have hg := (grownBy_set W r 0 u).trans_ (grownBy_set (W.setCell ⟨r, 0, none⟩ u) r 1 v)
  have hb := hg.block b (Nat.lt_of_lt_of_le h2 h.1) (by simp; omega)
  exact ⟨b, off, e, Nat.zero_le _, Nat.lt_of_lt_of_le (Nat.lt_of_lt_of_le h2 h.1) hg.size, fun k hk => (World.cell?_of_block (a := ⟨b, off + k, none⟩) hb).trans (hc k hk)⟩
/-- A graph and a row of small numbers are drawn. -/
def DrawS2 (w : World) (e : Ending) (w' : World) : Prop :=
  ∃ p a c l A' c' Q m, AnyP p l ∧ (Q ≤ 8 ∧ m < 256) ∧ e = .returned (.tuple #[.agg #[.int .i64 p, .slice (some ⟨a, 0, none⟩) l.length c], .slice A' (setL Q m).length c']) ∧ w'.ownsRow w.heap.size 58 2 (.slice (some ⟨a, 0, none⟩) l.length c) l.length (barCells l) ∧ IntsIn w' 0 w'.heap.size A' (setL Q m) ∧ Below w.heap.size w w'

set_option maxHeartbeats 4000000 in
set_option maxRecDepth 100000 in
theorem drawSpan_c (w : World) (A : Option Addr) (len cap : Nat) (zs : Nat → Int) (hc : CodeIs w w.heap.size A len zs) (hlen : len ≤ 140737488351232) :
    Calls Try.prog 35 #[.slice A len cap] w (DrawS2 w) := by
  have hb1 := new_below w (.cells #[.int .i64 0, .slice none 0 0] 30)
  have HC1 := Lib.hid (hc.more hb1)
  have HB1 := Lib.hid hb1
  have HZ1 := Lib.hid (retz_new w)
  have hs1 : (w.alloc (.cells #[.int .i64 0, .slice none 0 0] 30)).heap.size = w.heap.size + 1 := by simp
  clear hc hb1
  go_enter Try.func35, Try.ntmps35
  go_wp2_with fail
  generalize (w.alloc (.cells #[.int .i64 0, .slice none 0 0] 30)) = w1 at *
  refine (new_c w1 A len cap zs HC1.out hlen).mono ?_
  rintro e w2 ⟨g, rfl, hu2, hb2⟩
  have hg1 := hu2.1
  have hs2 := hb2.size
  have hgl := hu2.lt
  have HC2 := Lib.hid (HC1.out.kept hb2)
  have HU2 := Lib.hid hu2
  have HB2 := Lib.hid (HB1.out.trans (hb2.mono (by omega)))
  have HZ2 := Lib.hid (HZ1.out.block (hb2.block w.heap.size (by omega)))
  clear hu2 hb2
  go_wp2_with fail
  refine (any_c w2 w1.heap.size g A len cap zs HC2.out HU2.out hlen hs2).mono ?_
  rintro e w3 ⟨p, a, c, l, hP, rfl, ho, hu3, hg3⟩
  have hal := ho.lt a rfl
  have hs3 := hg3.size
  have HP := Lib.hid hP
  have HB3 := Lib.hid (HB2.out.grown hg3 (by omega) (fun k e => by cases e; omega))
  have HC3 := Lib.hid (HC2.out.kept (grown_cur hg1 hs2 hg3))
  have HZ3 := Lib.hid (HZ2.out.block (hg3.block w.heap.size (by omega) (by simp; omega)))
  have hb4 := (new_below w3 (.cells #[.int .i64 p, .slice (some ⟨a, 0, none⟩) l.length c] 30)).drew
  have HU4 := Lib.hid (hu3.below hb4 hu3.lt)
  have HO4 := Lib.hid (own_below ho hb4)
  have HB4 := Lib.hid (HB3.out.trans (hb4.mono (by omega)))
  have HC4 := Lib.hid (HC3.out.kept (hb4.mono (by omega)))
  have HZ4 := Lib.hid (HZ3.out.block (hb4.block w.heap.size (by omega)))
  have hx4 := box_new w3 p (.slice (some ⟨a, 0, none⟩) l.length c) 30
  have HX4 := Lib.hid hx4
  have hs4 : (w3.alloc (.cells #[.int .i64 p, .slice (some ⟨a, 0, none⟩) l.length c] 30)).heap.size = w3.heap.size + 1 := by simp
  have hgl3 := hu3.lt
  clear hP ho hu3 hg3 hb4
  have hcases : p < 0 ∨ p = 0 ∨ (0 < p ∧ p < 8) ∨ p = 8 ∨ 8 < p := by omega
  rcases hcases with h0 | rfl | ⟨h0, h8⟩ | rfl | h8
  · have h8 : p < 8 := by omega
    have hset : ∀ (m : Nat), m < 256 → ∀ W : World, Calls Try.prog 44 #[.int .i64 0, .int .i64 (m : Int)] W (IntsO W (setL 0 m)) := fun m hm W => specSet 0 m W (by omega) hm
    go_wp2_with fail
    have kk := And.intro hx4.2.1 hx4.2.2
    clear hx4
    have hsd : ((w3.alloc (.cells #[.int .i64 p, .slice (some ⟨a, 0, none⟩) l.length c] 30)).drew).heap.size = w3.heap.size + 1 := hs4
    generalize (w3.alloc (.cells #[.int .i64 p, .slice (some ⟨a, 0, none⟩) l.length c] 30)) = w4 at *
    refine wp_region_noPanic ?_
    refine wp_region_held_drew (S := (fun W' : World => W'.cell? ⟨w3.heap.size, 0, none⟩ = some (.int .i64 p) ∧ W'.cell? ⟨w3.heap.size, 1, none⟩ = some (.slice (some ⟨a, 0, none⟩) l.length c))) (by kernel_rfl) ?_ (fun hHeld => ?_)
    · exact kk
    refine wpAnyH_take (i := 0) (v := .agg #[.int .i64 p, .slice (some ⟨a, 0, none⟩) l.length c]) rfl (by kernel_rfl) (by kernel_rfl) (by kernel_rfl) (fun _ _ _ h => h) (Or.inl ⟨by rfl, fun w hSw => by (try dsimp only at hSw); go_simp; all_goals omega⟩) (by assumption) ?_
    refine wpAnyH_take (i := 1) (v := .pointer (some ⟨w3.heap.size, 0, none⟩)) rfl (by kernel_rfl) (by kernel_rfl) (by kernel_rfl) (fun _ _ _ h => h) (Or.inl ⟨by rfl, fun w hSw => by (try dsimp only at hSw); go_simp; all_goals omega⟩) (by assumption) ?_
    refine wpAnyH_take (i := 2) (v := .int .i64 p) rfl (by kernel_rfl) (by kernel_rfl) (by kernel_rfl) (fun _ _ _ h => h) (Or.inl ⟨by rfl, fun w hSw => by (try dsimp only at hSw); go_simp; all_goals omega⟩) (by assumption) ?_
    refine wpAnyH_take (i := 3) (v := .int .i64 p) rfl (by kernel_rfl) (by kernel_rfl) (by kernel_rfl) (fun _ _ _ h => h) (Or.inl ⟨by rfl, fun w hSw => by (try dsimp only at hSw); go_simp; all_goals omega⟩) (by assumption) ?_
    refine wpAnyH_take (i := 4) (v := .int .i64 0) rfl (by kernel_rfl) (by kernel_rfl) (by kernel_rfl) (fun _ _ _ h => h) (Or.inl ⟨by rfl, fun w hSw => by (try dsimp only at hSw); go_simp; all_goals omega⟩) (by assumption) ?_
    refine wpAnyH_take (i := 5) (v := .pointer (some ⟨g, 0, none⟩)) rfl (by kernel_rfl) (by kernel_rfl) (by kernel_rfl) (fun _ _ _ h => h) (Or.inl ⟨by rfl, fun w hSw => by (try dsimp only at hSw); go_simp; all_goals omega⟩) (by assumption) ?_
    refine wpAnyH_ready (rs := [6]) (by kernel_rfl) (by simp) (AllReadyH.cons rfl (fun K hK => ?_) AllReadyH.nil)
    go_simp
    go_at_call 53
    refine (below_c 256 _ w1.heap.size g A len cap zs HC4.out HU4.out hlen (by omega) (by omega)).mono ?_
    rintro e w5 ⟨x, hx, rfl, hu5, hg5⟩
    have hs5 := hg5.size
    rw [hsd] at hs5
    have hbx := hg5.block w3.heap.size (by rw [hsd]; omega) (by simp; omega)
    have kk5 := (And.intro ((World.cell?_of_block (a := ⟨w3.heap.size, 0, none⟩) hbx).trans kk.1) ((World.cell?_of_block (a := ⟨w3.heap.size, 1, none⟩) hbx).trans kk.2))
    obtain ⟨m, rfl⟩ : ∃ m : Nat, x = (m : Int) := ⟨x.toNat, by omega⟩
    have HO5 := Lib.hid (HO4.out.kept hg5 (.inr (by simp [Value.ownBlock]; omega)))
    have HB5 := Lib.hid (HB4.out.grown hg5 (by rw [hsd]; omega) (fun k e => by cases e; omega))
    have HZ5 := Lib.hid (HZ4.out.block (hg5.block w.heap.size (by rw [hsd]; omega) (by simp; omega)))
    clear hu5 hg5 hbx
    refine hK.out _ _ kk5 (fun hHeld => ?_)
    clear hK K
    refine wpAnyH_ready (rs := [7]) (by kernel_rfl) (by simp) (AllReadyH.cons rfl (fun K hK => ?_) AllReadyH.nil)
    go_simp
    go_at_call 44
    refine (hset m (by omega) _).mono ?_
    rintro e w6 ⟨A', c', rfl, hi6, hb6⟩
    have hs6 := hb6.size
    have kk6 := (And.intro ((hb6.cell (p := ⟨w3.heap.size, 0, none⟩) (show w3.heap.size < w5.heap.size by omega)).trans kk5.1) ((hb6.cell (p := ⟨w3.heap.size, 1, none⟩) (show w3.heap.size < w5.heap.size by omega)).trans kk5.2))
    have HO6 := Lib.hid (own_below HO5.out hb6)
    have HB6 := Lib.hid (HB5.out.trans (hb6.mono HB5.out.size))
    have HI6 := Lib.hid hi6
    have hz6 := HZ5.out.block (hb6.block w.heap.size (by omega))
    obtain ⟨⟨r0, r1⟩, f0, f1⟩ := hz6
    have hne : w3.heap.size ≠ w.heap.size := by omega
    clear hi6 hb6
    refine hK.out _ _ kk6 (fun hHeld => ?_)
    clear hK K
    refine wpAnyH_ready (rs := [8]) (by kernel_rfl) (by simp) (AllReadyH.cons rfl (fun K hK => ?_) AllReadyH.nil)
    go_simp
    refine hK.out _ _ (two_other hne kk6.1 kk6.2) (fun hHeld => ?_)
    clear hK K
    refine wpAnyH_take (i := 9) (v := .slice A' (setL 0 m).length c') rfl (by kernel_rfl) (by kernel_rfl) (by kernel_rfl) (fun _ _ _ h => h) (Or.inl ⟨by rfl, fun w hSw => by (try dsimp only at hSw); go_simp; all_goals omega⟩) (by assumption) ?_
    refine wpAnyH_done (by kernel_rfl) ?_ _
    refine NoPanic.normal ?_
    obtain ⟨s0, s1⟩ := ret_cells (p := p) (v := .slice (some ⟨a, 0, none⟩) l.length c) r0 r1
    obtain ⟨q1, q2⟩ := row_retW HO6.out HB6.out (Nat.le_refl _) (by omega) (.int .i64 p) (.slice (some ⟨a, 0, none⟩) l.length c)
    have hi7 := HI6.out.put2 w.heap.size (by omega) (.int .i64 p) (.slice (some ⟨a, 0, none⟩) l.length c)
    have HQ1 := Lib.hid q1
    have HQ2 := Lib.hid q2
    have HI7 := Lib.hid hi7
    clear q1 q2 hi7 kk kk5 kk6 hset
    go_wp2_with fail
    refine bodyPost_ret ?_ rfl ⟨p, a, c, l, A', c', 0, m, HP.out, ⟨by omega, by omega⟩, rfl, HQ1.out, HI7.out, HQ2.out⟩
    simp [results, Try.results35, go_sem, s0, s1]
  · have hset : ∀ (m : Nat), m < 256 → ∀ W : World, Calls Try.prog 44 #[.int .i64 0, .int .i64 (m : Int)] W (IntsO W (setL 0 m)) := fun m hm W => specSet 0 m W (by omega) hm
    go_wp2_with fail
    have kk := And.intro hx4.2.1 hx4.2.2
    clear hx4
    have hsd : ((w3.alloc (.cells #[.int .i64 0, .slice (some ⟨a, 0, none⟩) l.length c] 30)).drew).heap.size = w3.heap.size + 1 := hs4
    generalize (w3.alloc (.cells #[.int .i64 0, .slice (some ⟨a, 0, none⟩) l.length c] 30)) = w4 at *
    refine wp_region_noPanic ?_
    refine wp_region_held_drew (S := (fun W' : World => W'.cell? ⟨w3.heap.size, 0, none⟩ = some (.int .i64 0) ∧ W'.cell? ⟨w3.heap.size, 1, none⟩ = some (.slice (some ⟨a, 0, none⟩) l.length c))) (by kernel_rfl) ?_ (fun hHeld => ?_)
    · exact kk
    refine wpAnyH_take (i := 0) (v := .agg #[.int .i64 0, .slice (some ⟨a, 0, none⟩) l.length c]) rfl (by kernel_rfl) (by kernel_rfl) (by kernel_rfl) (fun _ _ _ h => h) (Or.inl ⟨by rfl, fun w hSw => by (try dsimp only at hSw); go_simp; all_goals omega⟩) (by assumption) ?_
    refine wpAnyH_take (i := 1) (v := .pointer (some ⟨w3.heap.size, 0, none⟩)) rfl (by kernel_rfl) (by kernel_rfl) (by kernel_rfl) (fun _ _ _ h => h) (Or.inl ⟨by rfl, fun w hSw => by (try dsimp only at hSw); go_simp; all_goals omega⟩) (by assumption) ?_
    refine wpAnyH_take (i := 2) (v := .int .i64 0) rfl (by kernel_rfl) (by kernel_rfl) (by kernel_rfl) (fun _ _ _ h => h) (Or.inl ⟨by rfl, fun w hSw => by (try dsimp only at hSw); go_simp; all_goals omega⟩) (by assumption) ?_
    refine wpAnyH_take (i := 3) (v := .int .i64 0) rfl (by kernel_rfl) (by kernel_rfl) (by kernel_rfl) (fun _ _ _ h => h) (Or.inl ⟨by rfl, fun w hSw => by (try dsimp only at hSw); go_simp; all_goals omega⟩) (by assumption) ?_
    refine wpAnyH_take (i := 4) (v := .int .i64 0) rfl (by kernel_rfl) (by kernel_rfl) (by kernel_rfl) (fun _ _ _ h => h) (Or.inl ⟨by rfl, fun w hSw => by (try dsimp only at hSw); go_simp; all_goals omega⟩) (by assumption) ?_
    refine wpAnyH_take (i := 5) (v := .pointer (some ⟨g, 0, none⟩)) rfl (by kernel_rfl) (by kernel_rfl) (by kernel_rfl) (fun _ _ _ h => h) (Or.inl ⟨by rfl, fun w hSw => by (try dsimp only at hSw); go_simp; all_goals omega⟩) (by assumption) ?_
    refine wpAnyH_ready (rs := [6]) (by kernel_rfl) (by simp) (AllReadyH.cons rfl (fun K hK => ?_) AllReadyH.nil)
    go_simp
    go_at_call 53
    refine (below_c 256 _ w1.heap.size g A len cap zs HC4.out HU4.out hlen (by omega) (by omega)).mono ?_
    rintro e w5 ⟨x, hx, rfl, hu5, hg5⟩
    have hs5 := hg5.size
    rw [hsd] at hs5
    have hbx := hg5.block w3.heap.size (by rw [hsd]; omega) (by simp; omega)
    have kk5 := (And.intro ((World.cell?_of_block (a := ⟨w3.heap.size, 0, none⟩) hbx).trans kk.1) ((World.cell?_of_block (a := ⟨w3.heap.size, 1, none⟩) hbx).trans kk.2))
    obtain ⟨m, rfl⟩ : ∃ m : Nat, x = (m : Int) := ⟨x.toNat, by omega⟩
    have HO5 := Lib.hid (HO4.out.kept hg5 (.inr (by simp [Value.ownBlock]; omega)))
    have HB5 := Lib.hid (HB4.out.grown hg5 (by rw [hsd]; omega) (fun k e => by cases e; omega))
    have HZ5 := Lib.hid (HZ4.out.block (hg5.block w.heap.size (by rw [hsd]; omega) (by simp; omega)))
    clear hu5 hg5 hbx
    refine hK.out _ _ kk5 (fun hHeld => ?_)
    clear hK K
    refine wpAnyH_ready (rs := [7]) (by kernel_rfl) (by simp) (AllReadyH.cons rfl (fun K hK => ?_) AllReadyH.nil)
    go_simp
    go_at_call 44
    refine (hset m (by omega) _).mono ?_
    rintro e w6 ⟨A', c', rfl, hi6, hb6⟩
    have hs6 := hb6.size
    have kk6 := (And.intro ((hb6.cell (p := ⟨w3.heap.size, 0, none⟩) (show w3.heap.size < w5.heap.size by omega)).trans kk5.1) ((hb6.cell (p := ⟨w3.heap.size, 1, none⟩) (show w3.heap.size < w5.heap.size by omega)).trans kk5.2))
    have HO6 := Lib.hid (own_below HO5.out hb6)
    have HB6 := Lib.hid (HB5.out.trans (hb6.mono HB5.out.size))
    have HI6 := Lib.hid hi6
    have hz6 := HZ5.out.block (hb6.block w.heap.size (by omega))
    obtain ⟨⟨r0, r1⟩, f0, f1⟩ := hz6
    have hne : w3.heap.size ≠ w.heap.size := by omega
    clear hi6 hb6
    refine hK.out _ _ kk6 (fun hHeld => ?_)
    clear hK K
    refine wpAnyH_ready (rs := [8]) (by kernel_rfl) (by simp) (AllReadyH.cons rfl (fun K hK => ?_) AllReadyH.nil)
    go_simp
    refine hK.out _ _ (two_other hne kk6.1 kk6.2) (fun hHeld => ?_)
    clear hK K
    refine wpAnyH_take (i := 9) (v := .slice A' (setL 0 m).length c') rfl (by kernel_rfl) (by kernel_rfl) (by kernel_rfl) (fun _ _ _ h => h) (Or.inl ⟨by rfl, fun w hSw => by (try dsimp only at hSw); go_simp; all_goals omega⟩) (by assumption) ?_
    refine wpAnyH_done (by kernel_rfl) ?_ _
    refine NoPanic.normal ?_
    obtain ⟨s0, s1⟩ := ret_cells (p := 0) (v := .slice (some ⟨a, 0, none⟩) l.length c) r0 r1
    obtain ⟨q1, q2⟩ := row_retW HO6.out HB6.out (Nat.le_refl _) (by omega) (.int .i64 0) (.slice (some ⟨a, 0, none⟩) l.length c)
    have hi7 := HI6.out.put2 w.heap.size (by omega) (.int .i64 0) (.slice (some ⟨a, 0, none⟩) l.length c)
    have HQ1 := Lib.hid q1
    have HQ2 := Lib.hid q2
    have HI7 := Lib.hid hi7
    clear q1 q2 hi7 kk kk5 kk6 hset
    go_wp2_with fail
    refine bodyPost_ret ?_ rfl ⟨0, a, c, l, A', c', 0, m, HP.out, ⟨by omega, by omega⟩, rfl, HQ1.out, HI7.out, HQ2.out⟩
    simp [results, Try.results35, go_sem, s0, s1]
  · obtain ⟨Q, rfl⟩ : ∃ Q : Nat, p = (Q : Int) := ⟨p.toNat, by omega⟩
    have hset : ∀ (m : Nat), m < 256 → ∀ W : World, Calls Try.prog 44 #[.int .i64 (Q : Int), .int .i64 (m : Int)] W (IntsO W (setL Q m)) := fun m hm W => specSet Q m W (by omega) hm
    go_wp2_with fail
    have kk := And.intro hx4.2.1 hx4.2.2
    clear hx4
    have hsd : ((w3.alloc (.cells #[.int .i64 (Q : Int), .slice (some ⟨a, 0, none⟩) l.length c] 30)).drew).heap.size = w3.heap.size + 1 := hs4
    generalize (w3.alloc (.cells #[.int .i64 (Q : Int), .slice (some ⟨a, 0, none⟩) l.length c] 30)) = w4 at *
    refine wp_region_noPanic ?_
    refine wp_region_held_drew (S := (fun W' : World => W'.cell? ⟨w3.heap.size, 0, none⟩ = some (.int .i64 (Q : Int)) ∧ W'.cell? ⟨w3.heap.size, 1, none⟩ = some (.slice (some ⟨a, 0, none⟩) l.length c))) (by kernel_rfl) ?_ (fun hHeld => ?_)
    · exact kk
    refine wpAnyH_take (i := 0) (v := .agg #[.int .i64 (Q : Int), .slice (some ⟨a, 0, none⟩) l.length c]) rfl (by kernel_rfl) (by kernel_rfl) (by kernel_rfl) (fun _ _ _ h => h) (Or.inl ⟨by rfl, fun w hSw => by (try dsimp only at hSw); go_simp; all_goals omega⟩) (by assumption) ?_
    refine wpAnyH_take (i := 1) (v := .pointer (some ⟨w3.heap.size, 0, none⟩)) rfl (by kernel_rfl) (by kernel_rfl) (by kernel_rfl) (fun _ _ _ h => h) (Or.inl ⟨by rfl, fun w hSw => by (try dsimp only at hSw); go_simp; all_goals omega⟩) (by assumption) ?_
    refine wpAnyH_take (i := 2) (v := .int .i64 (Q : Int)) rfl (by kernel_rfl) (by kernel_rfl) (by kernel_rfl) (fun _ _ _ h => h) (Or.inl ⟨by rfl, fun w hSw => by (try dsimp only at hSw); go_simp; all_goals omega⟩) (by assumption) ?_
    refine wpAnyH_take (i := 3) (v := .int .i64 (Q : Int)) rfl (by kernel_rfl) (by kernel_rfl) (by kernel_rfl) (fun _ _ _ h => h) (Or.inl ⟨by rfl, fun w hSw => by (try dsimp only at hSw); go_simp; all_goals omega⟩) (by assumption) ?_
    refine wpAnyH_take (i := 4) (v := .int .i64 (Q : Int)) rfl (by kernel_rfl) (by kernel_rfl) (by kernel_rfl) (fun _ _ _ h => h) (Or.inl ⟨by rfl, fun w hSw => by (try dsimp only at hSw); go_simp; all_goals omega⟩) (by assumption) ?_
    refine wpAnyH_take (i := 5) (v := .pointer (some ⟨g, 0, none⟩)) rfl (by kernel_rfl) (by kernel_rfl) (by kernel_rfl) (fun _ _ _ h => h) (Or.inl ⟨by rfl, fun w hSw => by (try dsimp only at hSw); go_simp; all_goals omega⟩) (by assumption) ?_
    refine wpAnyH_ready (rs := [6]) (by kernel_rfl) (by simp) (AllReadyH.cons rfl (fun K hK => ?_) AllReadyH.nil)
    go_simp
    go_at_call 53
    refine (below_c 256 _ w1.heap.size g A len cap zs HC4.out HU4.out hlen (by omega) (by omega)).mono ?_
    rintro e w5 ⟨x, hx, rfl, hu5, hg5⟩
    have hs5 := hg5.size
    rw [hsd] at hs5
    have hbx := hg5.block w3.heap.size (by rw [hsd]; omega) (by simp; omega)
    have kk5 := (And.intro ((World.cell?_of_block (a := ⟨w3.heap.size, 0, none⟩) hbx).trans kk.1) ((World.cell?_of_block (a := ⟨w3.heap.size, 1, none⟩) hbx).trans kk.2))
    obtain ⟨m, rfl⟩ : ∃ m : Nat, x = (m : Int) := ⟨x.toNat, by omega⟩
    have HO5 := Lib.hid (HO4.out.kept hg5 (.inr (by simp [Value.ownBlock]; omega)))
    have HB5 := Lib.hid (HB4.out.grown hg5 (by rw [hsd]; omega) (fun k e => by cases e; omega))
    have HZ5 := Lib.hid (HZ4.out.block (hg5.block w.heap.size (by rw [hsd]; omega) (by simp; omega)))
    clear hu5 hg5 hbx
    refine hK.out _ _ kk5 (fun hHeld => ?_)
    clear hK K
    refine wpAnyH_ready (rs := [7]) (by kernel_rfl) (by simp) (AllReadyH.cons rfl (fun K hK => ?_) AllReadyH.nil)
    go_simp
    go_at_call 44
    refine (hset m (by omega) _).mono ?_
    rintro e w6 ⟨A', c', rfl, hi6, hb6⟩
    have hs6 := hb6.size
    have kk6 := (And.intro ((hb6.cell (p := ⟨w3.heap.size, 0, none⟩) (show w3.heap.size < w5.heap.size by omega)).trans kk5.1) ((hb6.cell (p := ⟨w3.heap.size, 1, none⟩) (show w3.heap.size < w5.heap.size by omega)).trans kk5.2))
    have HO6 := Lib.hid (own_below HO5.out hb6)
    have HB6 := Lib.hid (HB5.out.trans (hb6.mono HB5.out.size))
    have HI6 := Lib.hid hi6
    have hz6 := HZ5.out.block (hb6.block w.heap.size (by omega))
    obtain ⟨⟨r0, r1⟩, f0, f1⟩ := hz6
    have hne : w3.heap.size ≠ w.heap.size := by omega
    clear hi6 hb6
    refine hK.out _ _ kk6 (fun hHeld => ?_)
    clear hK K
    refine wpAnyH_ready (rs := [8]) (by kernel_rfl) (by simp) (AllReadyH.cons rfl (fun K hK => ?_) AllReadyH.nil)
    go_simp
    refine hK.out _ _ (two_other hne kk6.1 kk6.2) (fun hHeld => ?_)
    clear hK K
    refine wpAnyH_take (i := 9) (v := .slice A' (setL Q m).length c') rfl (by kernel_rfl) (by kernel_rfl) (by kernel_rfl) (fun _ _ _ h => h) (Or.inl ⟨by rfl, fun w hSw => by (try dsimp only at hSw); go_simp; all_goals omega⟩) (by assumption) ?_
    refine wpAnyH_done (by kernel_rfl) ?_ _
    refine NoPanic.normal ?_
    obtain ⟨s0, s1⟩ := ret_cells (p := (Q : Int)) (v := .slice (some ⟨a, 0, none⟩) l.length c) r0 r1
    obtain ⟨q1, q2⟩ := row_retW HO6.out HB6.out (Nat.le_refl _) (by omega) (.int .i64 (Q : Int)) (.slice (some ⟨a, 0, none⟩) l.length c)
    have hi7 := HI6.out.put2 w.heap.size (by omega) (.int .i64 (Q : Int)) (.slice (some ⟨a, 0, none⟩) l.length c)
    have HQ1 := Lib.hid q1
    have HQ2 := Lib.hid q2
    have HI7 := Lib.hid hi7
    clear q1 q2 hi7 kk kk5 kk6 hset
    go_wp2_with fail
    refine bodyPost_ret ?_ rfl ⟨(Q : Int), a, c, l, A', c', Q, m, HP.out, ⟨by omega, by omega⟩, rfl, HQ1.out, HI7.out, HQ2.out⟩
    simp [results, Try.results35, go_sem, s0, s1]
  · have hset : ∀ (m : Nat), m < 256 → ∀ W : World, Calls Try.prog 44 #[.int .i64 8, .int .i64 (m : Int)] W (IntsO W (setL 8 m)) := fun m hm W => specSet 8 m W (by omega) hm
    go_wp2_with fail
    have kk := And.intro hx4.2.1 hx4.2.2
    clear hx4
    have hsd : ((w3.alloc (.cells #[.int .i64 8, .slice (some ⟨a, 0, none⟩) l.length c] 30)).drew).heap.size = w3.heap.size + 1 := hs4
    generalize (w3.alloc (.cells #[.int .i64 8, .slice (some ⟨a, 0, none⟩) l.length c] 30)) = w4 at *
    refine wp_region_noPanic ?_
    refine wp_region_held_drew (S := (fun W' : World => W'.cell? ⟨w3.heap.size, 0, none⟩ = some (.int .i64 8) ∧ W'.cell? ⟨w3.heap.size, 1, none⟩ = some (.slice (some ⟨a, 0, none⟩) l.length c))) (by kernel_rfl) ?_ (fun hHeld => ?_)
    · exact kk
    refine wpAnyH_take (i := 0) (v := .agg #[.int .i64 8, .slice (some ⟨a, 0, none⟩) l.length c]) rfl (by kernel_rfl) (by kernel_rfl) (by kernel_rfl) (fun _ _ _ h => h) (Or.inl ⟨by rfl, fun w hSw => by (try dsimp only at hSw); go_simp; all_goals omega⟩) (by assumption) ?_
    refine wpAnyH_take (i := 1) (v := .pointer (some ⟨w3.heap.size, 0, none⟩)) rfl (by kernel_rfl) (by kernel_rfl) (by kernel_rfl) (fun _ _ _ h => h) (Or.inl ⟨by rfl, fun w hSw => by (try dsimp only at hSw); go_simp; all_goals omega⟩) (by assumption) ?_
    refine wpAnyH_take (i := 2) (v := .int .i64 8) rfl (by kernel_rfl) (by kernel_rfl) (by kernel_rfl) (fun _ _ _ h => h) (Or.inl ⟨by rfl, fun w hSw => by (try dsimp only at hSw); go_simp; all_goals omega⟩) (by assumption) ?_
    refine wpAnyH_take (i := 3) (v := .int .i64 8) rfl (by kernel_rfl) (by kernel_rfl) (by kernel_rfl) (fun _ _ _ h => h) (Or.inl ⟨by rfl, fun w hSw => by (try dsimp only at hSw); go_simp; all_goals omega⟩) (by assumption) ?_
    refine wpAnyH_take (i := 4) (v := .int .i64 8) rfl (by kernel_rfl) (by kernel_rfl) (by kernel_rfl) (fun _ _ _ h => h) (Or.inl ⟨by rfl, fun w hSw => by (try dsimp only at hSw); go_simp; all_goals omega⟩) (by assumption) ?_
    refine wpAnyH_take (i := 5) (v := .pointer (some ⟨g, 0, none⟩)) rfl (by kernel_rfl) (by kernel_rfl) (by kernel_rfl) (fun _ _ _ h => h) (Or.inl ⟨by rfl, fun w hSw => by (try dsimp only at hSw); go_simp; all_goals omega⟩) (by assumption) ?_
    refine wpAnyH_ready (rs := [6]) (by kernel_rfl) (by simp) (AllReadyH.cons rfl (fun K hK => ?_) AllReadyH.nil)
    go_simp
    go_at_call 53
    refine (below_c 256 _ w1.heap.size g A len cap zs HC4.out HU4.out hlen (by omega) (by omega)).mono ?_
    rintro e w5 ⟨x, hx, rfl, hu5, hg5⟩
    have hs5 := hg5.size
    rw [hsd] at hs5
    have hbx := hg5.block w3.heap.size (by rw [hsd]; omega) (by simp; omega)
    have kk5 := (And.intro ((World.cell?_of_block (a := ⟨w3.heap.size, 0, none⟩) hbx).trans kk.1) ((World.cell?_of_block (a := ⟨w3.heap.size, 1, none⟩) hbx).trans kk.2))
    obtain ⟨m, rfl⟩ : ∃ m : Nat, x = (m : Int) := ⟨x.toNat, by omega⟩
    have HO5 := Lib.hid (HO4.out.kept hg5 (.inr (by simp [Value.ownBlock]; omega)))
    have HB5 := Lib.hid (HB4.out.grown hg5 (by rw [hsd]; omega) (fun k e => by cases e; omega))
    have HZ5 := Lib.hid (HZ4.out.block (hg5.block w.heap.size (by rw [hsd]; omega) (by simp; omega)))
    clear hu5 hg5 hbx
    refine hK.out _ _ kk5 (fun hHeld => ?_)
    clear hK K
    refine wpAnyH_ready (rs := [7]) (by kernel_rfl) (by simp) (AllReadyH.cons rfl (fun K hK => ?_) AllReadyH.nil)
    go_simp
    go_at_call 44
    refine (hset m (by omega) _).mono ?_
    rintro e w6 ⟨A', c', rfl, hi6, hb6⟩
    have hs6 := hb6.size
    have kk6 := (And.intro ((hb6.cell (p := ⟨w3.heap.size, 0, none⟩) (show w3.heap.size < w5.heap.size by omega)).trans kk5.1) ((hb6.cell (p := ⟨w3.heap.size, 1, none⟩) (show w3.heap.size < w5.heap.size by omega)).trans kk5.2))
    have HO6 := Lib.hid (own_below HO5.out hb6)
    have HB6 := Lib.hid (HB5.out.trans (hb6.mono HB5.out.size))
    have HI6 := Lib.hid hi6
    have hz6 := HZ5.out.block (hb6.block w.heap.size (by omega))
    obtain ⟨⟨r0, r1⟩, f0, f1⟩ := hz6
    have hne : w3.heap.size ≠ w.heap.size := by omega
    clear hi6 hb6
    refine hK.out _ _ kk6 (fun hHeld => ?_)
    clear hK K
    refine wpAnyH_ready (rs := [8]) (by kernel_rfl) (by simp) (AllReadyH.cons rfl (fun K hK => ?_) AllReadyH.nil)
    go_simp
    refine hK.out _ _ (two_other hne kk6.1 kk6.2) (fun hHeld => ?_)
    clear hK K
    refine wpAnyH_take (i := 9) (v := .slice A' (setL 8 m).length c') rfl (by kernel_rfl) (by kernel_rfl) (by kernel_rfl) (fun _ _ _ h => h) (Or.inl ⟨by rfl, fun w hSw => by (try dsimp only at hSw); go_simp; all_goals omega⟩) (by assumption) ?_
    refine wpAnyH_done (by kernel_rfl) ?_ _
    refine NoPanic.normal ?_
    obtain ⟨s0, s1⟩ := ret_cells (p := 8) (v := .slice (some ⟨a, 0, none⟩) l.length c) r0 r1
    obtain ⟨q1, q2⟩ := row_retW HO6.out HB6.out (Nat.le_refl _) (by omega) (.int .i64 8) (.slice (some ⟨a, 0, none⟩) l.length c)
    have hi7 := HI6.out.put2 w.heap.size (by omega) (.int .i64 8) (.slice (some ⟨a, 0, none⟩) l.length c)
    have HQ1 := Lib.hid q1
    have HQ2 := Lib.hid q2
    have HI7 := Lib.hid hi7
    clear q1 q2 hi7 kk kk5 kk6 hset
    go_wp2_with fail
    refine bodyPost_ret ?_ rfl ⟨8, a, c, l, A', c', 8, m, HP.out, ⟨by omega, by omega⟩, rfl, HQ1.out, HI7.out, HQ2.out⟩
    simp [results, Try.results35, go_sem, s0, s1]
  · have h0 : 0 < p := by omega
    have hset : ∀ (m : Nat), m < 256 → ∀ W : World, Calls Try.prog 44 #[.int .i64 8, .int .i64 (m : Int)] W (IntsO W (setL 8 m)) := fun m hm W => specSet 8 m W (by omega) hm
    go_wp2_with fail
    have kk := And.intro hx4.2.1 hx4.2.2
    clear hx4
    have hsd : ((w3.alloc (.cells #[.int .i64 p, .slice (some ⟨a, 0, none⟩) l.length c] 30)).drew).heap.size = w3.heap.size + 1 := hs4
    generalize (w3.alloc (.cells #[.int .i64 p, .slice (some ⟨a, 0, none⟩) l.length c] 30)) = w4 at *
    refine wp_region_noPanic ?_
    refine wp_region_held_drew (S := (fun W' : World => W'.cell? ⟨w3.heap.size, 0, none⟩ = some (.int .i64 p) ∧ W'.cell? ⟨w3.heap.size, 1, none⟩ = some (.slice (some ⟨a, 0, none⟩) l.length c))) (by kernel_rfl) ?_ (fun hHeld => ?_)
    · exact kk
    refine wpAnyH_take (i := 0) (v := .agg #[.int .i64 p, .slice (some ⟨a, 0, none⟩) l.length c]) rfl (by kernel_rfl) (by kernel_rfl) (by kernel_rfl) (fun _ _ _ h => h) (Or.inl ⟨by rfl, fun w hSw => by (try dsimp only at hSw); go_simp; all_goals omega⟩) (by assumption) ?_
    refine wpAnyH_take (i := 1) (v := .pointer (some ⟨w3.heap.size, 0, none⟩)) rfl (by kernel_rfl) (by kernel_rfl) (by kernel_rfl) (fun _ _ _ h => h) (Or.inl ⟨by rfl, fun w hSw => by (try dsimp only at hSw); go_simp; all_goals omega⟩) (by assumption) ?_
    refine wpAnyH_take (i := 2) (v := .int .i64 p) rfl (by kernel_rfl) (by kernel_rfl) (by kernel_rfl) (fun _ _ _ h => h) (Or.inl ⟨by rfl, fun w hSw => by (try dsimp only at hSw); go_simp; all_goals omega⟩) (by assumption) ?_
    refine wpAnyH_take (i := 3) (v := .int .i64 8) rfl (by kernel_rfl) (by kernel_rfl) (by kernel_rfl) (fun _ _ _ h => h) (Or.inl ⟨by rfl, fun w hSw => by (try dsimp only at hSw); go_simp; all_goals omega⟩) (by assumption) ?_
    refine wpAnyH_take (i := 4) (v := .int .i64 8) rfl (by kernel_rfl) (by kernel_rfl) (by kernel_rfl) (fun _ _ _ h => h) (Or.inl ⟨by rfl, fun w hSw => by (try dsimp only at hSw); go_simp; all_goals omega⟩) (by assumption) ?_
    refine wpAnyH_take (i := 5) (v := .pointer (some ⟨g, 0, none⟩)) rfl (by kernel_rfl) (by kernel_rfl) (by kernel_rfl) (fun _ _ _ h => h) (Or.inl ⟨by rfl, fun w hSw => by (try dsimp only at hSw); go_simp; all_goals omega⟩) (by assumption) ?_
    refine wpAnyH_ready (rs := [6]) (by kernel_rfl) (by simp) (AllReadyH.cons rfl (fun K hK => ?_) AllReadyH.nil)
    go_simp
    go_at_call 53
    refine (below_c 256 _ w1.heap.size g A len cap zs HC4.out HU4.out hlen (by omega) (by omega)).mono ?_
    rintro e w5 ⟨x, hx, rfl, hu5, hg5⟩
    have hs5 := hg5.size
    rw [hsd] at hs5
    have hbx := hg5.block w3.heap.size (by rw [hsd]; omega) (by simp; omega)
    have kk5 := (And.intro ((World.cell?_of_block (a := ⟨w3.heap.size, 0, none⟩) hbx).trans kk.1) ((World.cell?_of_block (a := ⟨w3.heap.size, 1, none⟩) hbx).trans kk.2))
    obtain ⟨m, rfl⟩ : ∃ m : Nat, x = (m : Int) := ⟨x.toNat, by omega⟩
    have HO5 := Lib.hid (HO4.out.kept hg5 (.inr (by simp [Value.ownBlock]; omega)))
    have HB5 := Lib.hid (HB4.out.grown hg5 (by rw [hsd]; omega) (fun k e => by cases e; omega))
    have HZ5 := Lib.hid (HZ4.out.block (hg5.block w.heap.size (by rw [hsd]; omega) (by simp; omega)))
    clear hu5 hg5 hbx
    refine hK.out _ _ kk5 (fun hHeld => ?_)
    clear hK K
    refine wpAnyH_ready (rs := [7]) (by kernel_rfl) (by simp) (AllReadyH.cons rfl (fun K hK => ?_) AllReadyH.nil)
    go_simp
    go_at_call 44
    refine (hset m (by omega) _).mono ?_
    rintro e w6 ⟨A', c', rfl, hi6, hb6⟩
    have hs6 := hb6.size
    have kk6 := (And.intro ((hb6.cell (p := ⟨w3.heap.size, 0, none⟩) (show w3.heap.size < w5.heap.size by omega)).trans kk5.1) ((hb6.cell (p := ⟨w3.heap.size, 1, none⟩) (show w3.heap.size < w5.heap.size by omega)).trans kk5.2))
    have HO6 := Lib.hid (own_below HO5.out hb6)
    have HB6 := Lib.hid (HB5.out.trans (hb6.mono HB5.out.size))
    have HI6 := Lib.hid hi6
    have hz6 := HZ5.out.block (hb6.block w.heap.size (by omega))
    obtain ⟨⟨r0, r1⟩, f0, f1⟩ := hz6
    have hne : w3.heap.size ≠ w.heap.size := by omega
    clear hi6 hb6
    refine hK.out _ _ kk6 (fun hHeld => ?_)
    clear hK K
    refine wpAnyH_ready (rs := [8]) (by kernel_rfl) (by simp) (AllReadyH.cons rfl (fun K hK => ?_) AllReadyH.nil)
    go_simp
    refine hK.out _ _ (two_other hne kk6.1 kk6.2) (fun hHeld => ?_)
    clear hK K
    refine wpAnyH_take (i := 9) (v := .slice A' (setL 8 m).length c') rfl (by kernel_rfl) (by kernel_rfl) (by kernel_rfl) (fun _ _ _ h => h) (Or.inl ⟨by rfl, fun w hSw => by (try dsimp only at hSw); go_simp; all_goals omega⟩) (by assumption) ?_
    refine wpAnyH_done (by kernel_rfl) ?_ _
    refine NoPanic.normal ?_
    obtain ⟨s0, s1⟩ := ret_cells (p := p) (v := .slice (some ⟨a, 0, none⟩) l.length c) r0 r1
    obtain ⟨q1, q2⟩ := row_retW HO6.out HB6.out (Nat.le_refl _) (by omega) (.int .i64 p) (.slice (some ⟨a, 0, none⟩) l.length c)
    have hi7 := HI6.out.put2 w.heap.size (by omega) (.int .i64 p) (.slice (some ⟨a, 0, none⟩) l.length c)
    have HQ1 := Lib.hid q1
    have HQ2 := Lib.hid q2
    have HI7 := Lib.hid hi7
    clear q1 q2 hi7 kk kk5 kk6 hset
    go_wp2_with fail
    refine bodyPost_ret ?_ rfl ⟨p, a, c, l, A', c', 8, m, HP.out, ⟨by omega, by omega⟩, rfl, HQ1.out, HI7.out, HQ2.out⟩
    simp [results, Try.results35, go_sem, s0, s1]
end Go.Proofs.Ytimgkekllanhmaa
