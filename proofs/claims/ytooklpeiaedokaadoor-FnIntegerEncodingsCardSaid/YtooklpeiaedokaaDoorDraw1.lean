/- What the drawing functions over a cursor answer (spec.l1PickInt, l1Num, l1Text and the three draws of chapter 1 that the law on encodings takes): a number, a short text. No condition. -/
import Derived.Test.YtooklpeiaedokaaDoorCur
import Derived.Test.YtooklpeiaedokaaDoorEncVar
namespace Go.Proofs.YtooklpeiaedokaaDoor
open Go.RowKit

def InI64 (x : Int) : Prop := -9223372036854775808 ≤ x ∧ x ≤ 9223372036854775807
theorem wrap64_in (x : Int) : InI64 (wrap64 x) := by unfold InI64 wrap64; omega

theorem CurIs.below {w w' : World} {B g B' : Nat} {A : Option Addr} {len cap : Nat} (h : CurIs w B g A len cap) (hb : Below B' w w') (hg : g < B') : CurIs w' B g A len cap := by
  obtain ⟨hB, i, hh, hc, h1⟩ := h
  exact ⟨hB, i, hh, (hb.block g hg).trans hc, h1⟩
theorem grown_then_below {w w2 w3 : World} {r : Option Nat} (h : w.grownBy w2 r) (hb : Below w.heap.size w2 w3) : w.grownBy w3 r :=
  ⟨hb.os.trans h.os, hb.tape.trans h.tape, hb.output.trans h.output, Nat.le_trans h.size hb.size, fun k hk hr => (hb.block k hk).trans (h.block k hk hr)⟩
theorem own_far {w : World} {base g : Nat} {e : TypeId} {v : Value} {n : Nat} {xs : List Value} (h : w.ownsRow base e 1 v n xs) (hg : g < base) : v.ownBlock = none ∨ v.ownBlock ≠ some g := by
  right
  intro he
  have := (h.lt g he).1
  omega

set_option maxHeartbeats 800000 in
set_option maxRecDepth 100000 in
theorem pickInt_c (ns : List Int) (gl : Nat) (w : World) (B g : Nat) (A : Option Addr) (len cap : Nat) (zs : Nat → Int) (hc : CodeIs w B A len zs) (hu : CurIs w B g A len cap) (hlen : len ≤ 140737488351232) (hBw : B ≤ w.heap.size)
    (hn : 0 < ns.length) (hl : w.heap[gl]? = some (.cells (ns.map (Value.int .i64)).toArray 3 (0, 0))) (hne : gl ≠ g) (hsm : ns.length ≤ 1000) (hin : ∀ x ∈ ns, InI64 x) :
    Calls Tryd.prog 31 #[.pointer (some ⟨g, 0, none⟩), .slice (some ⟨gl, 0, none⟩) ns.length ns.length] w (DrawP w B g A len cap InI64) := by
  have HC := Lib.hid hc
  have HU := Lib.hid hu
  have HL := Lib.hid hl
  have HI := Lib.hid hin
  have hlw : gl < w.heap.size := (Array.getElem?_eq_some_iff.1 hl).1
  clear hc hu hl hin
  go_enter Tryd.func31, Tryd.ntmps31
  go_wp2_with fail
  refine (below_any (ns.length : Int) w B g A len cap zs HC.out HU.out hlen hBw (by omega)).mono ?_
  rintro e w1 ⟨x, ⟨hx0, hx1⟩, rfl, hu1, hg1⟩
  obtain ⟨k, rfl⟩ := Int.eq_ofNat_of_zero_le hx0
  have hk : k < ns.length := by omega
  have hcell : w1.cell? ⟨gl, k, none⟩ = some (.int .i64 ns[k]) := by
    rw [cell_of_row w1 gl k _ 3 (0, 0) ((hg1.block gl hlw (fun e => hne (by injection e))).trans HL.out)]
    simp [hk]
  have HU1 := Lib.hid hu1
  have HG1 := Lib.hid hg1
  have HX := Lib.hid (HI.out _ (List.getElem_mem hk))
  clear hu1 hg1
  go_wp2_with fail
  go_ret
  exact ⟨_, HX.out, rfl, HU1.out, HG1.out⟩

set_option maxHeartbeats 800000 in
set_option maxRecDepth 100000 in
theorem num_c (w : World) (B g : Nat) (A : Option Addr) (len cap : Nat) (zs : Nat → Int) (hc : CodeIs w B A len zs) (hu : CurIs w B g A len cap) (hlen : len ≤ 140737488351232) (hBw : B ≤ w.heap.size) :
    Calls Tryd.prog 22 #[.pointer (some ⟨g, 0, none⟩)] w (DrawP w B g A len cap InI64) := by
  have HC := Lib.hid hc
  have HU := Lib.hid hu
  have hB := HU.out.1
  clear hc hu
  go_enter Tryd.func22, Tryd.ntmps22
  go_wp2_with fail
  refine (below_any 8 w B g A len cap zs HC.out HU.out hlen hBw (by omega)).mono ?_
  rintro e w1 ⟨x, ⟨hx0, hx1⟩, rfl, hu1, hg1⟩
  have HU1 := Lib.hid hu1
  have HG1 := Lib.hid hg1
  have HC1 := Lib.hid (HC.out.kept (grown_cur hB hBw hg1))
  have hs1 := hg1.size
  clear hu1 hg1
  by_cases e0 : x = 0
  · subst e0
    go_wp2_with fail
    have HCA := Lib.hid (HC1.out.kept ((Below.refl B w1).alloc (by omega) (.cells ([-1, 0, 127, 128, 255, 256, 16383, 16384, 65535, 65536, 562949953421311, 562949953421312, 999999999, 1000000000, -999999999, 9223372036854775807, -9223372036854775808].map (Value.int .i64)).toArray 3)))
    have HUA := Lib.hid (HU1.out.grown (World.grownBy_alloc w1 (.cells ([-1, 0, 127, 128, 255, 256, 16383, 16384, 65535, 65536, 562949953421311, 562949953421312, 999999999, 1000000000, -999999999, 9223372036854775807, -9223372036854775808].map (Value.int .i64)).toArray 3) none) (by simp))
    have hne : w1.heap.size ≠ g := by have := HU1.out.lt; omega
    refine (pickInt_c [-1, 0, 127, 128, 255, 256, 16383, 16384, 65535, 65536, 562949953421311, 562949953421312, 999999999, 1000000000, -999999999, 9223372036854775807, -9223372036854775808] w1.heap.size _ B g A len cap zs HCA.out HUA.out hlen (by simp; omega) (by decide) (heap_alloc_new w1 _) hne (by decide) (by unfold InI64; decide)).mono ?_
    rintro e w2 ⟨y, hy, rfl, hu2, hg2⟩
    have HU2 := Lib.hid hu2
    have HG2 := Lib.hid ((HG1.out.trans_ (World.grownBy_alloc w1 _ _)).trans_ hg2)
    clear hu2 hg2
    go_wp2_with fail
    go_ret
    exact ⟨_, hy, rfl, HU2.out, HG2.out⟩
  · have f0 : (x == 0) = false := by simpa using e0
    by_cases e1 : x = 1
    · subst e1
      go_wp2_with fail
      refine (below_any 1000000000 w1 B g A len cap zs HC1.out HU1.out hlen (by omega) (by omega)).mono ?_
      rintro e w2 ⟨y, ⟨hy0, hy1⟩, rfl, hu2, hg2⟩
      have HU2 := Lib.hid hu2
      have HG2 := Lib.hid hg2
      have HC2 := Lib.hid (HC1.out.kept (grown_cur hB (by omega) hg2))
      have hs2 := hg2.size
      clear hu2 hg2
      go_wp2_with fail
      refine (below_any 1000000000 w2 B g A len cap zs HC2.out HU2.out hlen (by omega) (by omega)).mono ?_
      rintro e w3 ⟨z, ⟨hz0, hz1⟩, rfl, hu3, hg3⟩
      have HU3 := Lib.hid hu3
      have HG3 := Lib.hid hg3
      clear hu3 hg3
      go_wp2_with fail
      go_ret
      exact ⟨_, wrap64_in _, rfl, HU3.out, (HG1.out.trans_ HG2.out).trans_ HG3.out⟩
    · have f1 : (x == 1) = false := by simpa using e1
      by_cases e2 : x = 2
      · subst e2
        go_wp2_with fail
        refine (below_any 100000 w1 B g A len cap zs HC1.out HU1.out hlen (by omega) (by omega)).mono ?_
        rintro e w2 ⟨y, ⟨hy0, hy1⟩, rfl, hu2, hg2⟩
        have HU2 := Lib.hid hu2
        have HG2 := Lib.hid hg2
        clear hu2 hg2
        go_wp2_with fail
        go_ret
        exact ⟨_, (show InI64 _ by unfold InI64; omega), rfl, HU2.out, HG1.out.trans_ HG2.out⟩
      · have f2 : (x == 2) = false := by simpa using e2
        go_wp2_with fail
        refine (below_any 70000 w1 B g A len cap zs HC1.out HU1.out hlen (by omega) (by omega)).mono ?_
        rintro e w2 ⟨y, ⟨hy0, hy1⟩, rfl, hu2, hg2⟩
        have HU2 := Lib.hid hu2
        have HG2 := Lib.hid hg2
        clear hu2 hg2
        go_wp2_with fail
        go_ret
        exact ⟨_, (show InI64 _ by unfold InI64; omega), rfl, HU2.out, HG1.out.trans_ HG2.out⟩

/-- Cells that are bytes. -/
def IsBytes (xs : List Value) : Prop := ∃ ns : List Int, xs = ns.map (Value.int .u8)
theorem IsBytes.snoc {xs : List Value} (h : IsBytes xs) (b : Int) : IsBytes (xs ++ [.int .u8 b]) := by
  obtain ⟨ns, rfl⟩ := h
  exact ⟨ns ++ [b], by simp⟩

/-- A text of at most 'most' bytes is drawn. -/
def TextP (w : World) (B g : Nat) (A : Option Addr) (len cap : Nat) (most : Int) (e : Ending) (w' : World) : Prop :=
  ∃ s : ByteArray, (s.size : Int) ≤ most ∧ e = .returned (.string s) ∧ CurIs w' B g A len cap ∧ w.grownBy w' (some g)

set_option maxHeartbeats 1000000 in
set_option maxRecDepth 100000 in
theorem text_c (most : Int) (w : World) (B g : Nat) (A : Option Addr) (len cap : Nat) (zs : Nat → Int) (hc : CodeIs w B A len zs) (hu : CurIs w B g A len cap) (hlen : len ≤ 140737488351232) (hBw : B ≤ w.heap.size) (hm0 : 0 ≤ most) (hm1 : most ≤ 1000) :
    Calls Tryd.prog 23 #[.pointer (some ⟨g, 0, none⟩), .int .i64 most] w (TextP w B g A len cap most) := by
  have hgw := hu.lt
  have hB := hu.1
  have hcA := Lib.hid (hc.kept ((Below.refl B w).alloc hBw (.cells #[] 5)))
  have huA := Lib.hid (hu.grown (World.grownBy_alloc w (.cells #[] 5) none) (by simp))
  have HGA := Lib.hid (World.grownBy_alloc w (.cells #[] 5) (some g))
  have HOWN := Lib.hid (World.ownsRow_lit (e := 5) (size := 1) w #[] 0 (Nat.le_refl _) (by simp) rfl)
  have HC0 := Lib.hid hc
  have hsA : (w.alloc (.cells #[] 5)).heap.size = w.heap.size + 1 := by simp
  clear hc hu
  go_enter Tryd.func23, Tryd.ntmps23
  go_wp2_with fail
  generalize w.alloc (.cells #[] 5) = wa at *
  refine (below_any 4 wa B g A len cap zs hcA.out huA.out hlen (by omega) (by omega)).mono ?_
  rintro e w1 ⟨x, ⟨hx0, hx1⟩, rfl, hu1, hg1⟩
  have HU1 := Lib.hid hu1
  have HG1 := Lib.hid (HGA.out.trans_ hg1)
  have HC1 := Lib.hid (hcA.out.kept (grown_cur hB (by omega) hg1))
  have HO1 := Lib.hid (HOWN.out.kept hg1 (own_far HOWN.out hgw))
  have hs1 := hg1.size
  clear hu1 hg1
  go_wp2_with fail
  refine (below_any (most + 1) w1 B g A len cap zs HC1.out HU1.out hlen (by omega) (by omega)).mono ?_
  rintro e w2 ⟨y, ⟨hy0, hy1⟩, rfl, hu2, hg2⟩
  have HU2 := Lib.hid hu2
  have HG2 := Lib.hid (HG1.out.trans_ hg2)
  have HC2 := Lib.hid (HC1.out.kept (grown_cur hB (by omega) hg2))
  have HO2 := Lib.hid (HO1.out.kept hg2 (own_far HO1.out hgw))
  have hs2 := hg2.size
  clear hu2 hg2
  obtain ⟨y, rfl⟩ := Int.eq_ofNat_of_zero_le hy0
  go_wp2_with fail
  go_loopw [5, 7, 8] (fun v n _ wr => ∃ (xs : List Value) (j : Nat), n = .int .i64 j ∧ IsBytes xs ∧ (xs.length : Int) + j ≤ most ∧ wr.ownsRow w.heap.size 5 1 v xs.length xs ∧ CurIs wr B g A len cap ∧ w.grownBy wr (some g)) (fun _ n _ _ => (intOf n).toNat)
  case atStart => exact ⟨[], y, rfl, ⟨[], rfl⟩, by simp; omega, HO2.out, HU2.out, HG2.out⟩
  case round =>
    obtain ⟨xs, j, rfl, hxb, hlen2, hown, hu, hg⟩ := hrel
    have HXB := Lib.hid hxb
    have HU := Lib.hid hu
    have HG := Lib.hid hg
    have HCw := Lib.hid (HC0.out.kept (grown_cur hB hBw hg))
    have hsw := hg.size
    have hnn := hown.1
    clear hxb hu hg
    rcases j with _ | j
    · obtain ⟨ns, rfl⟩ := HXB.out
      have hst := own_string (P := Tryd.prog) (dst := 9) (ns := ns) Tryd.underlying22 Tryd.underlying5 Tryd.underlying9 hown
      go_wp2_with fail
      go_ret
      exact ⟨_, by rw [strOfNums_size]; simp at hlen2; omega, rfl, HU.out, HG.out⟩
    · go_wp2_with fail
      refine (byte_c wr B g A len cap zs HCw.out HU.out hlen).mono ?_
      rintro e w3 ⟨z, ⟨hz0, hz1⟩, rfl, hu3, hg3⟩
      have HU3 := Lib.hid hu3
      have HG3 := Lib.hid (HG.out.trans_ hg3)
      have hown3 := hown.kept hg3 (own_far hown hgw)
      have hs3 := hg3.size
      have hxl : (xs.length : Int) + 1 ≤ 1000 := by omega
      clear hu3 hg3 hown
      have hx : (x = 1) ∨ (x = 2) ∨ ((x == 1) = false ∧ (x == 2) = false) := by
        by_cases h1 : x = 1
        · exact .inl h1
        · by_cases h2 : x = 2
          · exact .inr (.inl h2)
          · exact .inr (.inr ⟨by simpa using h1, by simpa using h2⟩)
      rcases hx with rfl | rfl | ⟨f1, f2⟩
      all_goals
        go_wp2_with (at_builtin; refine wpList_push _ rfl _ _ 22 rfl w.heap.size 5 (.int .u8 0) 1 Tryd.underlying22 infoU8 rfl _ _ _ rfl hown3 _ (by rfl) _ rfl (by omega) (by unfold maxLen; omega) (by omega) ?_; intro v4 w4 hown4 hb4)
        go_roundw
        case rel => exact ⟨_, j, by go_num, HXB.out.snoc _, by simp; omega, by simpa using hown4, HU3.out.below hb4 hgw, grown_then_below HG3.out hb4⟩
        case measure => simp [intOf]

/-- A number is drawn from a code. -/
def DrawI (w : World) (P : Int → Prop) (e : Ending) (w' : World) : Prop := ∃ x, P x ∧ e = .returned (.int .i64 x) ∧ Below w.heap.size w w'
/-- A text is drawn from a code. -/
def DrawS (w : World) (most : Int) (e : Ending) (w' : World) : Prop := ∃ s : ByteArray, (s.size : Int) ≤ most ∧ e = .returned (.string s) ∧ Below w.heap.size w w'
/-- Two numbers are drawn from a code. -/
def DrawII (w : World) (P Q : Int → Prop) (e : Ending) (w' : World) : Prop := ∃ x y, P x ∧ Q y ∧ e = .returned (.tuple #[.int .i64 x, .int .i64 y]) ∧ Below w.heap.size w w'

set_option maxHeartbeats 400000 in
theorem drawEncVar (w : World) (A : Option Addr) (len cap : Nat) (zs : Nat → Int) (hc : CodeIs w w.heap.size A len zs) (hlen : len ≤ 140737488351232) :
    Calls Tryd.prog 7 #[.slice A len cap] w (DrawI w InI64) := by
  have HC := Lib.hid hc
  clear hc
  go_enter Tryd.func7, Tryd.ntmps7
  go_wp2_with fail
  refine (new_c w A len cap zs HC.out hlen).mono ?_
  rintro e w1 ⟨g, rfl, hu1, hb1⟩
  have HU1 := Lib.hid hu1
  have HB1 := Lib.hid hb1
  have hB := hu1.1
  have HC1 := Lib.hid (HC.out.kept hb1)
  have hs1 := hb1.size
  clear hu1 hb1
  go_wp2_with fail
  refine (num_c w1 w.heap.size g A len cap zs HC1.out HU1.out hlen hs1).mono ?_
  rintro e w2 ⟨x, hx, rfl, _, hg2⟩
  have HG2 := Lib.hid (grown_cur hB hs1 hg2)
  have HX := Lib.hid hx
  clear hg2 hx
  go_wp2_with fail
  go_ret
  exact ⟨_, HX.out, rfl, HB1.out.trans HG2.out⟩

set_option maxHeartbeats 400000 in
theorem drawEncHex (w : World) (A : Option Addr) (len cap : Nat) (zs : Nat → Int) (hc : CodeIs w w.heap.size A len zs) (hlen : len ≤ 140737488351232) :
    Calls Tryd.prog 8 #[.slice A len cap] w (DrawS w 40) := by
  have HC := Lib.hid hc
  clear hc
  go_enter Tryd.func8, Tryd.ntmps8
  go_wp2_with fail
  refine (new_c w A len cap zs HC.out hlen).mono ?_
  rintro e w1 ⟨g, rfl, hu1, hb1⟩
  have HU1 := Lib.hid hu1
  have HB1 := Lib.hid hb1
  have hB := hu1.1
  have HC1 := Lib.hid (HC.out.kept hb1)
  have hs1 := hb1.size
  clear hu1 hb1
  go_wp2_with fail
  refine (text_c 40 w1 w.heap.size g A len cap zs HC1.out HU1.out hlen hs1 (by omega) (by omega)).mono ?_
  rintro e w2 ⟨s, hs, rfl, _, hg2⟩
  have HG2 := Lib.hid (grown_cur hB hs1 hg2)
  have HS := Lib.hid hs
  clear hg2 hs
  go_wp2_with fail
  go_ret
  exact ⟨_, HS.out, rfl, HB1.out.trans HG2.out⟩

set_option maxHeartbeats 400000 in
theorem drawEncFixed (w : World) (A : Option Addr) (len cap : Nat) (zs : Nat → Int) (hc : CodeIs w w.heap.size A len zs) (hlen : len ≤ 140737488351232) :
    Calls Tryd.prog 11 #[.slice A len cap] w (DrawII w InI64 fun y => -1 ≤ y ∧ y ≤ 8) := by
  have HC := Lib.hid hc
  clear hc
  go_enter Tryd.func11, Tryd.ntmps11
  go_wp2_with fail
  refine (new_c w A len cap zs HC.out hlen).mono ?_
  rintro e w1 ⟨g, rfl, hu1, hb1⟩
  have HU1 := Lib.hid hu1
  have HB1 := Lib.hid hb1
  have hB := hu1.1
  have HC1 := Lib.hid (HC.out.kept hb1)
  have hs1 := hb1.size
  clear hu1 hb1
  go_wp2_with fail
  refine (num_c w1 w.heap.size g A len cap zs HC1.out HU1.out hlen hs1).mono ?_
  rintro e w2 ⟨x, hx, rfl, hu2, hg2⟩
  have HU2 := Lib.hid hu2
  have HG2 := Lib.hid (grown_cur hB hs1 hg2)
  have HC2 := Lib.hid (HC1.out.kept (grown_cur hB hs1 hg2))
  have hs2 := hg2.size
  have HX := Lib.hid hx
  clear hg2 hx hu2
  go_wp2_with fail
  refine (below_any 10 w2 w.heap.size g A len cap zs HC2.out HU2.out hlen (by omega) (by omega)).mono ?_
  rintro e w3 ⟨y, ⟨hy0, hy1⟩, rfl, _, hg3⟩
  have HG3 := Lib.hid (grown_cur hB (by omega) hg3)
  clear hg3
  go_wp2_with fail
  go_ret2
  exact ⟨_, _, HX.out, ⟨by omega, by omega⟩, rfl, (HB1.out.trans HG2.out).trans HG3.out⟩
end Go.Proofs.YtooklpeiaedokaaDoor
