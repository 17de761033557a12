/- What the draws of chapter 3 draw (spec.l3Range, l3Draw, DrawIsSparse, DrawSpannedBars, DrawIsRange). No condition. -/
import Derived.Test.YtdkpmaahinbhlaaFqDrawAny
import Derived.Test.YtdkpmaahinbhlaaFqB1
import Derived.Deep.RegionHeld3
namespace Go.Proofs.Ytdkpmaahinbhlaa
open Go.RowKit

def Small (x : Int) : Prop := -1 ≤ x ∧ x ≤ 8
/-- Two small numbers are drawn. -/
def Draw2 (w : World) (B g : Nat) (A : Option Addr) (len cap : Nat) (e : Ending) (w' : World) : Prop :=
  ∃ x y, (Small x ∧ Small y) ∧ e = .returned (.tuple #[.int .i64 x, .int .i64 y]) ∧ CurIs w' B g A len cap ∧ w.grownBy w' (some g)

set_option maxHeartbeats 1000000 in
set_option maxRecDepth 100000 in
theorem range_c (w : World) (B g : Nat) (A : Option Addr) (len cap : Nat) (zs : Nat → Int) (hc : CodeIs w B A len zs) (hu : CurIs w B g A len cap) (hlen : len ≤ 140737488351232) (hBw : B ≤ w.heap.size) :
    Calls Try.prog 144 #[.pointer (some ⟨g, 0, none⟩)] w (Draw2 w B g A len cap) := by
  have HC := Lib.hid hc
  have HU := Lib.hid hu
  have hBg := hu.1
  clear hc hu
  go_enter Try.func144, Try.ntmps144
  go_wp2_with fail
  refine (below_c 6 w B g A len cap zs HC.out HU.out hlen (by omega) (by omega)).mono ?_
  rintro e w1 ⟨u, hu, rfl, hu1, hg1⟩
  have HU1 := Lib.hid hu1
  have HG1 := Lib.hid hg1
  have HC1 := Lib.hid (HC.out.kept (grown_cur hBg hBw hg1))
  clear hu1 hg1
  rcases (show u = 0 ∨ u = 1 ∨ u = 2 ∨ u = 3 ∨ u = 4 ∨ u = 5 by omega) with rfl | rfl | rfl | rfl | rfl | rfl
  · go_wp2_with fail
    go_ret2
    exact ⟨2, 3, by unfold Small; omega, rfl, HU1.out, HG1.out⟩
  · go_wp2_with fail
    go_ret2
    exact ⟨2, 3, by unfold Small; omega, rfl, HU1.out, HG1.out⟩
  · go_wp2_with fail
    go_ret2
    exact ⟨2, 3, by unfold Small; omega, rfl, HU1.out, HG1.out⟩
  · go_wp2_with fail
    go_ret2
    exact ⟨1, 1, by unfold Small; omega, rfl, HU1.out, HG1.out⟩
  · go_wp2_with fail
    go_ret2
    exact ⟨2, 2, by unfold Small; omega, rfl, HU1.out, HG1.out⟩
  · go_wp2_with fail
    refine (below_c 5 w1 B g A len cap zs HC1.out HU1.out hlen (by omega) (by omega)).mono ?_
    rintro e w2 ⟨x, hx, rfl, hu2, hg2⟩
    have HU2 := Lib.hid hu2
    have HG2 := Lib.hid (HG1.out.trans_ hg2)
    have HC2 := Lib.hid (HC.out.kept (grown_cur hBg hBw HG2.out))
    clear hu2 hg2
    go_wp2_with fail
    refine (below_c 7 w2 B g A len cap zs HC2.out HU2.out hlen (by omega) (by omega)).mono ?_
    rintro e w3 ⟨y, hy, rfl, hu3, hg3⟩
    have HU3 := Lib.hid hu3
    have HG3 := Lib.hid (HG2.out.trans_ hg3)
    clear hu3 hg3
    go_wp2_with fail
    go_ret2
    exact ⟨x, y - 1, by unfold Small; omega, rfl, HU3.out, HG3.out⟩

theorem CodeIs.more {w w' : World} {A : Option Addr} {len : Nat} {zs : Nat → Int} (h : CodeIs w w.heap.size A len zs) (hb : Below w.heap.size w w') : CodeIs w' w'.heap.size A len zs :=
  ⟨h.1, fun hl => by
    obtain ⟨b, off, e, hlt, hc⟩ := (h.kept hb).2 hl
    exact ⟨b, off, e, Nat.lt_of_lt_of_le hlt hb.size, hc⟩⟩

end Go.Proofs.Ytdkpmaahinbhlaa
