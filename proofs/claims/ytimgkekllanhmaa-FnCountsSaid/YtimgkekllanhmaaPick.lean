/- What spec.l1PickInt answers over a cursor; words on cursors. No condition. -/
import Derived.Test.YtimgkekllanhmaaCur
namespace Go.Proofs.Ytimgkekllanhmaa
open Go.RowKit

def InI64 (x : Int) : Prop := -9223372036854775808 ≤ x ∧ x ≤ 9223372036854775807
theorem wrap64_in (x : Int) : InI64 (wrap64 x) := by unfold InI64 wrap64; omega

theorem CurIs.below {w w' : World} {B g B' : Nat} {A : Option Addr} {len cap : Nat} (h : CurIs w B g A len cap) (hb : Below B' w w') (hg : g < B') : CurIs w' B g A len cap := by
  obtain ⟨hB, i, hh, hc, h1⟩ := h
  exact ⟨hB, i, hh, (hb.block g hg).trans hc, h1⟩
theorem grown_then_below {w w2 w3 : World} {r : Option Nat} (h : w.grownBy w2 r) (hb : Below w.heap.size w2 w3) : w.grownBy w3 r :=
  ⟨hb.os.trans h.os, hb.tape.trans h.tape, hb.output.trans h.output, Nat.le_trans h.size hb.size, fun k hk hr => (hb.block k hk).trans (h.block k hk hr)⟩
theorem own_far {w : World} {base g : Nat} {e : TypeId} {v : Value} {n : Nat} {xs : List Value} (h : w.ownsRow base e 1 v n xs) (hg : g < base) : v.ownBlock = none ∨ v.ownBlock ≠ some g := by
  right
  intro he
  have := (h.lt g he).1
  omega

set_option maxHeartbeats 800000 in
set_option maxRecDepth 100000 in
theorem pickInt_c (ns : List Int) (gl : Nat) (w : World) (B g : Nat) (A : Option Addr) (len cap : Nat) (zs : Nat → Int) (hc : CodeIs w B A len zs) (hu : CurIs w B g A len cap) (hlen : len ≤ 140737488351232) (hBw : B ≤ w.heap.size)
    (hn : 0 < ns.length) (hl : w.heap[gl]? = some (.cells (ns.map (Value.int .i64)).toArray 3 (0, 0))) (hne : gl ≠ g) (hsm : ns.length ≤ 1000) (hin : ∀ x ∈ ns, InI64 x) :
    Calls Try.prog 64 #[.pointer (some ⟨g, 0, none⟩), .slice (some ⟨gl, 0, none⟩) ns.length ns.length] w (DrawP w B g A len cap InI64) := by
  have HC := Lib.hid hc
  have HU := Lib.hid hu
  have HL := Lib.hid hl
  have HI := Lib.hid hin
  have hlw : gl < w.heap.size := (Array.getElem?_eq_some_iff.1 hl).1
  clear hc hu hl hin
  go_enter Try.func64, Try.ntmps64
  go_wp2_with fail
  refine (below_any (ns.length : Int) w B g A len cap zs HC.out HU.out hlen hBw (by omega)).mono ?_
  rintro e w1 ⟨x, ⟨hx0, hx1⟩, rfl, hu1, hg1⟩
  obtain ⟨k, rfl⟩ := Int.eq_ofNat_of_zero_le hx0
  have hk : k < ns.length := by omega
  have hcell : w1.cell? ⟨gl, k, none⟩ = some (.int .i64 ns[k]) := by
    rw [cell_of_row w1 gl k _ 3 (0, 0) ((hg1.block gl hlw (fun e => hne (by injection e))).trans HL.out)]
    simp [hk]
  have HU1 := Lib.hid hu1
  have HG1 := Lib.hid hg1
  have HX := Lib.hid (HI.out _ (List.getElem_mem hk))
  clear hu1 hg1
  go_wp2_with fail
  go_ret
  exact ⟨_, HX.out, rfl, HU1.out, HG1.out⟩
end Go.Proofs.Ytimgkekllanhmaa
