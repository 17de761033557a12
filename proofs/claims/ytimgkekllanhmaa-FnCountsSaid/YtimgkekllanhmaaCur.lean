/- What the cursor over a code's bytes answers (spec.l1New, l1Byte, l1Below): some number in its bounds, and only the cursor's own block is written. No condition. -/
import Derived.Test.YtimgkekllanhmaaWords
import Derived.Deep.QuietTactic
import Derived.BigQuiet
import Derived.Laws.OwnMore
namespace Go.Proofs.Ytimgkekllanhmaa
open Go.RowKit

/-- The code's bytes are zs, and lie below block B. -/
def CodeIs (w : World) (B : Nat) (A : Option Addr) (len : Nat) (zs : Nat → Int) : Prop :=
  (∀ k, 0 ≤ zs k ∧ zs k ≤ 255) ∧ (0 < len → ∃ b off, A = some ⟨b, off, none⟩ ∧ b < B ∧ ∀ k, k < len → w.cell? ⟨b, off + k, none⟩ = some (.int .u8 (zs k)))
/-- Block g, from B on, is a cursor over that code. -/
def CurIs (w : World) (B g : Nat) (A : Option Addr) (len cap : Nat) : Prop :=
  B ≤ g ∧ ∃ (i : Nat) (h : Int), w.heap[g]? = some (.cells #[.slice A len cap, .int .i64 i, .int .i64 h] 89 (0, 0)) ∧ i ≤ len
/-- A number with P is drawn; the cursor is one still; no other block is written. -/
def DrawP (w : World) (B g : Nat) (A : Option Addr) (len cap : Nat) (P : Int → Prop) (e : Ending) (w' : World) : Prop :=
  ∃ x, P x ∧ e = .returned (.int .i64 x) ∧ CurIs w' B g A len cap ∧ w.grownBy w' (some g)

theorem CodeIs.kept {w w' : World} {B : Nat} {A : Option Addr} {len : Nat} {zs : Nat → Int} (h : CodeIs w B A len zs) (hb : Below B w w') : CodeIs w' B A len zs :=
  ⟨h.1, fun hl => by
    obtain ⟨b, off, e, hlt, hc⟩ := h.2 hl
    exact ⟨b, off, e, hlt, fun k hk => (hb.cell (p := ⟨b, off + k, none⟩) hlt).trans (hc k hk)⟩⟩
theorem grown_cur {w w' : World} {B g : Nat} (hB : B ≤ g) (hw : B ≤ w.heap.size) (h : w.grownBy w' (some g)) : Below B w w' := (Below.refl B w).grown h hw fun k hk => by
  injection hk with hk
  subst hk
  exact hB
theorem CurIs.lt {w : World} {B g : Nat} {A : Option Addr} {len cap : Nat} (h : CurIs w B g A len cap) : g < w.heap.size := by
  obtain ⟨_, i, hh, hg, _⟩ := h
  exact (Array.getElem?_eq_some_iff.1 hg).1
theorem CurIs.grown {w w' : World} {B g : Nat} {A : Option Addr} {len cap : Nat} (h : CurIs w B g A len cap) {r : Option Nat} (hw : w.grownBy w' r) (hr : r ≠ some g) : CurIs w' B g A len cap := by
  have hlt := h.lt
  obtain ⟨hB, i, hh, hg, h1⟩ := h
  exact ⟨hB, i, hh, (hw.block g hlt (fun e => hr e.symm)).trans hg, h1⟩
theorem DrawP.mono {w : World} {B g : Nat} {A : Option Addr} {len cap : Nat} {P Q : Int → Prop} {e : Ending} {w' : World} (h : DrawP w B g A len cap P e w') (hq : ∀ x, P x → Q x) : DrawP w B g A len cap Q e w' := by
  obtain ⟨x, hp, r⟩ := h
  exact ⟨x, hq x hp, r⟩

theorem and255 (X : Int) : 0 ≤ bits .and .i64 X 255 ∧ bits .and .i64 X 255 ≤ 255 := by
  have h : ((BitVec.ofInt 64 X) &&& (BitVec.ofInt 64 255)).toNat ≤ 255 := by
    rw [BitVec.toNat_and]
    exact Nat.le_trans Nat.and_le_right (by decide)
  have e : bits .and .i64 X 255 = IntKind.i64.wrap (((BitVec.ofInt 64 X) &&& (BitVec.ofInt 64 255)).toNat : Int) := rfl
  rw [e, IntWalk.i64_in _ (by omega)]
  omega

theorem cur_cells {w : World} {g : Nat} {a b c : Value} {T : TypeId} (h : w.heap[g]? = some (.cells #[a, b, c] T (0, 0))) :
    w.cell? ⟨g, 0, none⟩ = some a ∧ w.cell? ⟨g, 1, none⟩ = some b ∧ w.cell? ⟨g, 2, none⟩ = some c ∧ (∀ j, w.frozen? ⟨g, j, none⟩ = false) := by
  refine ⟨?_, ?_, ?_, fun j => frozen_of_row w g j _ T h⟩
  · rw [cell_of_row w g 0 _ T (0, 0) h]; rfl
  · rw [cell_of_row w g 1 _ T (0, 0) h]; rfl
  · rw [cell_of_row w g 2 _ T (0, 0) h]; rfl

set_option maxHeartbeats 800000 in
set_option maxRecDepth 100000 in
theorem byte_c (w : World) (B g : Nat) (A : Option Addr) (len cap : Nat) (zs : Nat → Int) (hc : CodeIs w B A len zs) (hu : CurIs w B g A len cap) (hlen : len ≤ 140737488351232) :
    Calls Try.prog 65 #[.pointer (some ⟨g, 0, none⟩)] w (DrawP w B g A len cap fun x => 0 ≤ x ∧ x ≤ 255) := by
  have hlw := hu.lt
  obtain ⟨hB, i, h, hg, hi1⟩ := hu
  obtain ⟨c0, c1, c2, cf⟩ := cur_cells hg
  have f2 := cf 2
  have HG := Lib.hid hg
  have HC := Lib.hid hc
  clear hg hc cf
  go_enter Try.func65, Try.ntmps65
  go_wp2_with fail
  generalize wrap64 (wrap64 (h * 6364136223846793005) + 1442695040888963407) = h2
  have hg2 := heap_setCell_same w g 2 _ _ (.int .i64 h2) HG.out
  have hg2' : (w.setCell ⟨g, 2, none⟩ (.int .i64 h2)).heap[g]? = some (.cells #[.slice A len cap, .int .i64 i, .int .i64 h2] 89 (0, 0)) := hg2
  have hgr := grownBy_set w g 2 (.int .i64 h2)
  have hc2 := HC.out.kept (grown_cur hB (by omega) hgr)
  clear hg2 HG c0 c1 c2 f2
  generalize w.setCell ⟨g, 2, none⟩ (.int .i64 h2) = w2 at *
  obtain ⟨c0, c1, c2, cf⟩ := cur_cells hg2'
  have f1 := cf 1
  have HG := Lib.hid hg2'
  have HGR := Lib.hid hgr
  clear hg2' cf hgr HC
  by_cases hlt : i < len
  · have hi : (i : Int) < (len : Int) := by omega
    obtain ⟨b, off, rfl, hbB, hcell⟩ := hc2.2 (by omega)
    have hz := hc2.1 i
    have hci := hcell i hlt
    clear hcell hc2
    go_quiet (fail)
    go_wp2_with fail
    go_quiet (fail)
    go_wp2_with fail
    go_quiet (fail)
    go_wp2_with fail
    go_ret
    exact ⟨_, and255 _, rfl, ⟨hB, i + 1, h2, heap_setCell_same w2 g 1 _ _ _ HG.out, by omega⟩, (HGR.out.trans_ (grownBy_set w2 g 1 _)).trans_ (grownBy_drewN _ _ _)⟩
  · have hi : (len : Int) ≤ (i : Int) := by omega
    go_quiet (fail)
    go_wp2_with fail
    go_quiet (fail)
    go_wp2_with fail
    go_ret
    exact ⟨_, and255 _, rfl, ⟨hB, i, h2, HG.out, hi1⟩, (HGR.out.trans_ (grownBy_drewN _ _ _)).trans_ (grownBy_drewN _ _ _)⟩

set_option maxHeartbeats 400000 in
set_option maxRecDepth 100000 in
theorem below_c (n : Int) (w : World) (B g : Nat) (A : Option Addr) (len cap : Nat) (zs : Nat → Int) (hc : CodeIs w B A len zs) (hu : CurIs w B g A len cap) (hlen : len ≤ 140737488351232) (h0 : 0 < n) (h1 : n ≤ 256) :
    Calls Try.prog 53 #[.pointer (some ⟨g, 0, none⟩), .int .i64 n] w (DrawP w B g A len cap fun x => 0 ≤ x ∧ x < n) := by
  have HC := Lib.hid hc
  have HU := Lib.hid hu
  clear hc hu
  go_enter Try.func53, Try.ntmps53
  go_wp2_with fail
  refine (byte_c w B g A len cap zs HC.out HU.out hlen).mono ?_
  rintro e w1 ⟨x, hx, rfl, hu1, hg1⟩
  have HU1 := Lib.hid hu1
  have HG1 := Lib.hid hg1
  clear hu1 hg1
  have hn : (n == 0) = false := by simp; omega
  go_wp2_with fail
  go_ret
  exact ⟨_, ⟨Int.emod_nonneg _ (by omega), Int.emod_lt_of_pos _ h0⟩, rfl, HU1.out, HG1.out⟩

set_option maxHeartbeats 800000 in
set_option maxRecDepth 100000 in
theorem below_big (n : Int) (w : World) (B g : Nat) (A : Option Addr) (len cap : Nat) (zs : Nat → Int) (hc : CodeIs w B A len zs) (hu : CurIs w B g A len cap) (hlen : len ≤ 140737488351232) (hBw : B ≤ w.heap.size) (h0 : 256 < n) :
    Calls Try.prog 53 #[.pointer (some ⟨g, 0, none⟩), .int .i64 n] w (DrawP w B g A len cap fun x => 0 ≤ x ∧ x < n) := by
  have HC := Lib.hid hc
  have HU := Lib.hid hu
  clear hc hu
  have hB := HU.out.1
  go_enter Try.func53, Try.ntmps53
  go_wp2_with fail
  refine (byte_c w B g A len cap zs HC.out HU.out hlen).mono ?_
  rintro e w1 ⟨x, hx, rfl, hu1, hg1⟩
  have HU1 := Lib.hid hu1
  have HG1 := Lib.hid hg1
  have HC1 := Lib.hid (HC.out.kept (grown_cur hB hBw hg1))
  have hs1 := hg1.size
  clear hu1 hg1
  go_wp2_with fail
  refine (byte_c w1 B g A len cap zs HC1.out HU1.out hlen).mono ?_
  rintro e w2 ⟨y, hy, rfl, hu2, hg2⟩
  have HU2 := Lib.hid hu2
  have HG2 := Lib.hid hg2
  have HC2 := Lib.hid (HC1.out.kept (grown_cur hB (by omega) hg2))
  have hs2 := hg2.size
  clear hu2 hg2
  go_wp2_with fail
  refine (byte_c w2 B g A len cap zs HC2.out HU2.out hlen).mono ?_
  rintro e w3 ⟨z, hz, rfl, hu3, hg3⟩
  have HU3 := Lib.hid hu3
  have HG3 := Lib.hid hg3
  have HC3 := Lib.hid (HC2.out.kept (grown_cur hB (by omega) hg3))
  have hs3 := hg3.size
  clear hu3 hg3
  go_wp2_with fail
  refine (byte_c w3 B g A len cap zs HC3.out HU3.out hlen).mono ?_
  rintro e w4 ⟨v, hv, rfl, hu4, hg4⟩
  have HU4 := Lib.hid hu4
  have HG4 := Lib.hid hg4
  clear hu4 hg4
  have hn : (n == 0) = false := by simp; omega
  go_wp2_with fail
  go_ret
  exact ⟨_, ⟨Int.emod_nonneg _ (by omega), Int.emod_lt_of_pos _ (by omega)⟩, rfl, HU4.out, ((HG1.out.trans_ HG2.out).trans_ HG3.out).trans_ HG4.out⟩

/-- spec.l1Below at a bound that is positive. -/
theorem below_any (n : Int) (w : World) (B g : Nat) (A : Option Addr) (len cap : Nat) (zs : Nat → Int) (hc : CodeIs w B A len zs) (hu : CurIs w B g A len cap) (hlen : len ≤ 140737488351232) (hBw : B ≤ w.heap.size) (h0 : 0 < n) :
    Calls Try.prog 53 #[.pointer (some ⟨g, 0, none⟩), .int .i64 n] w (DrawP w B g A len cap fun x => 0 ≤ x ∧ x < n) := by
  by_cases h : n ≤ 256
  · exact below_c n w B g A len cap zs hc hu hlen h0 h
  · exact below_big n w B g A len cap zs hc hu hlen hBw (by omega)

/-- spec.l1New: a cursor of its own. -/
def NewCur (w : World) (A : Option Addr) (len cap : Nat) (e : Ending) (w' : World) : Prop :=
  ∃ g, e = .returned (.pointer (some ⟨g, 0, none⟩)) ∧ CurIs w' w.heap.size g A len cap ∧ Below w.heap.size w w'

set_option maxHeartbeats 800000 in
set_option maxRecDepth 100000 in
theorem new_c (w : World) (A : Option Addr) (len cap : Nat) (zs : Nat → Int) (hc : CodeIs w w.heap.size A len zs) (hlen : len ≤ 140737488351232) :
    Calls Try.prog 51 #[.slice A len cap] w (NewCur w A len cap) := by
  have HC := Lib.hid hc
  clear hc
  go_enter Try.func51, Try.ntmps51
  go_wp2_with fail
  go_loop [3, 4] (fun h i => ∃ (k : Nat) (x : Int), k ≤ len ∧ k ≤ 4000 ∧ i = .int .i64 k ∧ h = .int .i64 x) (fun _ i => 4000 - (intOf i).toNat)
  case atStart => exact ⟨0, _, by omega, by omega, rfl, rfl⟩
  case round =>
    obtain ⟨k, x, hk, hk4, rfl, rfl⟩ := hrel
    by_cases hlt : k < len ∧ k < 4000
    · obtain ⟨hl, h4⟩ := hlt
      obtain ⟨b, off, rfl, _, hcell⟩ := HC.out.2 (by omega)
      have hz := HC.out.1 k
      have hci := hcell k hl
      have hi : (k : Int) < (len : Int) := by omega
      have hi4 : (k : Int) < 4000 := by omega
      clear hcell
      go_wp2_with fail
      go_round
      case rel => exact ⟨k + 1, _, by omega, by omega, by go_num, rfl⟩
      case measure => simp [intOf]; omega
    · by_cases hl : (k : Int) < (len : Int)
      · have h4 : ¬ (k : Int) < 4000 := by omega
        clear hlt
        go_wp2_with fail
        go_ret
        exact ⟨w.heap.size, rfl, ⟨Nat.le_refl _, 0, x, heap_alloc_new w _, by omega⟩, (Below.refl _ _).alloc (Nat.le_refl _) _⟩
      · clear hlt
        go_wp2_with fail
        go_ret
        exact ⟨w.heap.size, rfl, ⟨Nat.le_refl _, 0, x, heap_alloc_new w _, by omega⟩, (Below.refl _ _).alloc (Nat.le_refl _) _⟩
end Go.Proofs.Ytimgkekllanhmaa
