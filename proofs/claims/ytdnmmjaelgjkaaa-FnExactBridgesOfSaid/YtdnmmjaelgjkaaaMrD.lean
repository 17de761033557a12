/- Several texts in one, in the order in which they build on each other: what stands on the way to the law; each names its own matter. No condition. -/
import Derived.Test.YtdnmmjaelgjkaaaMrAB
import Derived.Test.YtdnmmjaelgjkaaaIsPebM
import Derived.Deep.QuietTactic
import Derived.BigQuiet
import Derived.Test.YtdnmmjaelgjkaaaRowAt
import Derived.Test.YtdnmmjaelgjkaaaGMath
import Derived.Test.YtdnmmjaelgjkaaaInts
import Derived.Deep.AppendLies
import Derived.Deep.RegionLaw
import Derived.Test.YtdnmmjaelgjkaaaSetM
import Derived.Test.YtdnmmjaelgjkaaaPebN
import Derived.Test.YtdnmmjaelgjkaaaIsGraphI
import Derived.Deep.RegionHeld3
import Derived.Deep.RegionWith
import Derived.Lib.SliceRun
import Derived.Test.YtdnmmjaelgjkaaaOwnF
import Derived.Maps.OwnSet
import Derived.Maps.Views
import Derived.Maps.RangeWalk
import Derived.Test.YtdnmmjaelgjkaaaPlaM
import Derived.Test.YtdnmmjaelgjkaaaCpR
import Derived.Test.YtdnmmjaelgjkaaaIntsO
import Derived.Test.YtdnmmjaelgjkaaaPebSt
import Derived.Test.YtdnmmjaelgjkaaaRng
import Derived.Test.YtdnmmjaelgjkaaaIntArg
import Derived.Test.YtdnmmjaelgjkaaaState
/- What slices.Equal and slices.Min answer over rows of ints. No condition. -/
namespace Go.Proofs.Ytdnmmjaelgjkaaa
open Go.RowKit

theorem eq_of_getD {xs ys : List Int} (h1 : xs.length = ys.length) (h2 : ∀ j, j < xs.length → xs.getD j 0 = ys.getD j 0) : xs = ys := by
  apply List.ext_getElem h1
  intro j hj hj'
  have := h2 j hj
  simpa [List.getD, List.getElem?_eq_getElem hj, List.getElem?_eq_getElem hj'] using this

set_option maxHeartbeats 1000000 in
set_option maxRecDepth 100000 in
theorem slEqual (xs ys : List Int) (A B : Option Addr) (ca cb lo hi lo' hi' : Nat) (w : World) (hx : IntsIn w lo hi A xs) (hy : IntsIn w lo' hi' B ys) (hn : xs.length ≤ 1048576) :
    Calls Try.prog 121 #[.slice A xs.length ca, .slice B ys.length cb] w fun e w' => e = .returned (.bool (decide (xs = ys))) ∧ Below w.heap.size w w' := by
  have HX := Lib.hid hx
  have HY := Lib.hid hy
  clear hx hy
  by_cases hl : xs.length = ys.length
  · have hne : ((xs.length : Int) != (ys.length : Int)) = false := by rw [bne_eq_false_iff_eq]; omega
    have HL := Lib.hid hl
    clear hl
    go_enter Try.func121, Try.ntmps121
    go_wp2_with fail
    clear hne
    go_loopw [13] (fun i wr => ∃ k : Nat, k ≤ xs.length ∧ i = .int .i64 k ∧ (∀ j, j < k → xs.getD j 0 = ys.getD j 0) ∧ ∃ m, wr = w.drewN m) (fun i _ => xs.length - (intOf i).toNat)
    case atStart => exact ⟨0, Nat.zero_le _, rfl, fun j hj => absurd hj (Nat.not_lt_zero _), 0, rfl⟩
    case round =>
      obtain ⟨k, hk, rfl, hall, m, rfl⟩ := hrel
      have HALL := Lib.hid hall
      clear hall
      by_cases hlt : k < xs.length
      · have hi' : (k : Int) < (xs.length : Int) := by omega
        have hi2 : (k : Int) < (ys.length : Int) := by have := HL.out; omega
        obtain ⟨b, off, rfl, hc⟩ := row_at HX.out (by omega)
        obtain ⟨b', off', rfl, hc'⟩ := row_at HY.out (by have := HL.out; omega)
        have h1 := hc k hlt
        have h2 := hc' k (by omega)
        have HNE := Lib.hid (fun h : xs.getD k 0 ≠ ys.getD k 0 => show decide (xs = ys) = false from decide_eq_false fun e => h (by rw [e]))
        have HNX := Lib.hid (fun h : xs.getD k 0 = ys.getD k 0 => show ∀ j, j < k + 1 → xs.getD j 0 = ys.getD j 0 from fun j hj => by
          by_cases e : j = k
          · subst e; exact h
          · exact HALL.out j (by omega))
        obtain ⟨x, hx⟩ : ∃ x, xs.getD k 0 = x := ⟨_, rfl⟩
        obtain ⟨y, hy⟩ : ∃ y, ys.getD k 0 = y := ⟨_, rfl⟩
        rw [hx] at h1 HNE HNX
        rw [hy] at h2 HNE HNX
        clear hx hy hc hc'
        by_cases c : x = y
        · have e1 : (x != y) = false := by simpa using c
          have HN := Lib.hid (HNX.out c)
          clear c
          go_wp2_with fail
          go_big_quiet (fail)
          go_wp2_with fail
          go_roundw
          case rel => exact ⟨k + 1, by omega, by go_num, HN.out, m + nq, rfl⟩
          case measure => simp [intOf]; omega
        · have e1 : (x != y) = true := by simpa using c
          have HN := Lib.hid (HNE.out c)
          clear c
          go_wp2_with fail
          go_big_quiet (fail)
          go_wp2_with fail
          go_ret
          exact ⟨by rw [HN.out]; rfl, (below_drewN _ _ _).trans (below_drewN _ _ _)⟩
      · obtain rfl : k = xs.length := by omega
        have HE := Lib.hid (show decide (xs = ys) = true from decide_eq_true (eq_of_getD HL.out HALL.out))
        go_wp2_with fail
        go_ret
        exact ⟨by rw [HE.out]; rfl, below_drewN _ _ _⟩
  · have hne : ((xs.length : Int) != (ys.length : Int)) = true := by rw [bne_iff_ne]; omega
    have HE := Lib.hid (show decide (xs = ys) = false from decide_eq_false fun e => hl (by rw [e]))
    clear hl
    go_enter Try.func121, Try.ntmps121
    go_wp2_with fail
    go_ret
    exact ⟨by rw [HE.out]; rfl, Below.refl _ _⟩

set_option maxHeartbeats 1000000 in
set_option maxRecDepth 100000 in
/-- Is the least of a row at least 0? -/
theorem slMin (xs : List Int) (A : Option Addr) (ca lo hi : Nat) (w : World) (hx : IntsIn w lo hi A xs) (hn : xs.length ≤ 1048576) (h0 : 0 < xs.length) :
    Calls Try.prog 122 #[.slice A xs.length ca] w fun e w' => ∃ y : Int, e = .returned (.int .i64 y) ∧ (0 ≤ y ↔ ∀ j, j < xs.length → 0 ≤ xs.getD j 0) ∧ w = w' := by
  have HX := Lib.hid hx
  clear hx
  have h1 : ¬ (xs.length : Int) < 1 := by omega
  obtain ⟨b, off, rfl, hc⟩ := row_at HX.out h0
  have hc0 := hc 0 h0
  rw [Nat.add_zero] at hc0
  have h0i : (0 : Int) < (xs.length : Int) := by omega
  have HC := Lib.hid hc
  clear hc
  obtain ⟨z, hz⟩ : ∃ z, xs.getD 0 0 = z := ⟨_, rfl⟩
  rw [hz] at hc0
  have HZ := Lib.hid hz
  clear hz
  go_enter Try.func122, Try.ntmps122
  go_wp2_with fail
  go_loop [3, 4] (fun m i => ∃ k : Nat, 1 ≤ k ∧ k ≤ xs.length ∧ i = .int .i64 k ∧ ∃ y : Int, m = .int .i64 y ∧ (0 ≤ y ↔ ∀ j, j < k → 0 ≤ xs.getD j 0)) (fun _ i => xs.length - (intOf i).toNat)
  case atStart => exact ⟨1, Nat.le_refl _, h0, rfl, z, rfl, by
    constructor
    · intro h j hj
      obtain rfl : j = 0 := by omega
      rw [HZ.out]; exact h
    · intro h
      rw [← HZ.out]; exact h 0 (by omega)⟩
  case round =>
    obtain ⟨k, hk1, hk, rfl, y, rfl, hy⟩ := hrel
    have HY := Lib.hid hy
    clear hy hc0
    by_cases hlt : k < xs.length
    · have hi' : (k : Int) < (xs.length : Int) := by omega
      have hck := HC.out k hlt
      have HNX := Lib.hid (show ∀ u : Int, (0 ≤ u ↔ 0 ≤ y ∧ 0 ≤ xs.getD k 0) → (0 ≤ u ↔ ∀ j, j < k + 1 → 0 ≤ xs.getD j 0) from fun u hu => by
        rw [hu, HY.out]
        constructor
        · rintro ⟨g1, g2⟩ j hj
          by_cases e : j = k
          · subst e; exact g2
          · exact g1 j (by omega)
        · intro g
          exact ⟨fun j hj => g j (by omega), g k (by omega)⟩)
      obtain ⟨x, hx⟩ : ∃ x, xs.getD k 0 = x := ⟨_, rfl⟩
      rw [hx] at hck HNX
      clear hx
      by_cases c : x < y
      all_goals
        go_wp2_with fail
        go_round
        case rel => exact ⟨k + 1, by omega, by omega, by go_num, _, rfl, HNX.out _ (by omega)⟩
        case measure => simp [intOf]; omega
    · obtain rfl : k = xs.length := by omega
      go_wp2_with fail
      go_ret
      exact ⟨y, rfl, HY.out, rfl⟩
end Go.Proofs.Ytdnmmjaelgjkaaa
/- When a list is one of bars of a valid graph, in order; a state by it. No program. No condition. -/
namespace Go.Proofs.Ytdnmmjaelgjkaaa
open Go.RowKit

/-- The number at place j names a bar, behind the one before. -/
def OkS (m : Nat) (Z : List Int) (j : Nat) : Prop := (0 ≤ Z.getD j 0 ∧ Z.getD j 0 < (m : Int)) ∧ (0 < j → Z.getD (j - 1) 0 < Z.getD j 0)
theorem okS_snoc {m : Nat} {Z : List Int} {k : Nat} (h : ∀ j, j < k → OkS m Z j) (hk : OkS m Z k) : ∀ j, j < k + 1 → OkS m Z j := fun j hj => by
  by_cases e : j = k
  · subst e; exact hk
  · exact h j (by omega)
open Classical in
/-- A set of bars of a valid graph, as a list. -/
noncomputable def setB (p : Int) (l : List (Int × Int)) (Z : List Int) : Bool := if (∀ j, j < Z.length → OkS l.length Z j) ∧ IsG p l then true else false
theorem setB_all {p : Int} {l : List (Int × Int)} {Z : List Int} (h : ∀ j, j < Z.length → OkS l.length Z j) : setB p l Z = isGB p l := by
  unfold setB
  by_cases g : IsG p l
  · rw [if_pos ⟨h, g⟩, isGB_yes g]
  · rw [if_neg (fun q => g q.2), isGB_no g]
theorem setB_bad {p : Int} {l : List (Int × Int)} {Z : List Int} {j : Nat} (hj : j < Z.length) (h : ¬ OkS l.length Z j) : setB p l Z = false := by
  unfold setB
  rw [if_neg (fun q => h (q.1 j hj))]
theorem setB_is {p : Int} {l : List (Int × Int)} {Z : List Int} (h : setB p l Z = true) : (∀ j, j < Z.length → OkS l.length Z j) ∧ IsG p l := by
  unfold setB at h
  by_cases g : (∀ j, j < Z.length → OkS l.length Z j) ∧ IsG p l
  · exact g
  · rw [if_neg g] at h; cases h
theorem setB_not {p : Int} {l : List (Int × Int)} {Z : List Int} (hG : IsG p l) (h : setB p l Z = false) : ∃ j, j < Z.length ∧ ¬ OkS l.length Z j := by
  refine Classical.byContradiction fun q => ?_
  have : ∀ j, j < Z.length → OkS l.length Z j := fun j hj => Classical.byContradiction fun n => q ⟨j, hj, n⟩
  rw [setB_all this, isGB_yes hG] at h
  cases h
/-- The index of the bar before. -/
def lastP (Z : List Int) (j : Nat) : Int := if j = 0 then -1 else Z.getD (j - 1) 0
theorem lastP_s (Z : List Int) (j : Nat) : lastP Z (j + 1) = Z.getD j 0 := by unfold lastP; rw [if_neg (by omega)]; rfl
theorem lastP_ok {m : Nat} {Z : List Int} {j : Nat} (h : ∀ u, u < j → OkS m Z u) : OkS m Z j ↔ lastP Z j < Z.getD j 0 ∧ Z.getD j 0 < (m : Int) := by
  unfold OkS lastP
  by_cases e : j = 0
  · subst e
    rw [if_pos rfl]
    constructor
    · rintro ⟨h1, _⟩; omega
    · rintro ⟨h1, h2⟩; exact ⟨by omega, fun h => absurd h (by omega)⟩
  · rw [if_neg e]
    have h0 := (h (j - 1) (by omega)).1.1
    constructor
    · rintro ⟨h1, h2⟩; have := h2 (by omega); omega
    · rintro ⟨h1, h2⟩; exact ⟨by omega, fun _ => by omega⟩
theorem okP_s {l : List (Int × Int)} {T Z : List Int} {j : Nat} : OkP l T Z j ↔ OkS l.length Z j ∧ isEnd (l.getD (Z.getD j 0).toNat (0, 0)) (T.getD j 0) := by
  unfold OkP OkS
  constructor
  · rintro ⟨h1, h2, h3⟩; exact ⟨⟨h1, h2⟩, h3⟩
  · rintro ⟨⟨h1, h2⟩, h3⟩; exact ⟨h1, h2, h3⟩
end Go.Proofs.Ytdnmmjaelgjkaaa
/- A graph that is being built in a box: bars are appended one by one to a row of the call's own, while other blocks stay as they were. No condition. -/
namespace Go.Proofs.Ytdnmmjaelgjkaaa
open Go.RowKit

/-- The graph of p points with the bars l stands in the box bg; the blocks os are as they were in w0. -/
def GBox (B : Nat) (w0 wr : World) (bg : Nat) (os : List Nat) (p : Int) (A : Option Addr) (c : Nat) (l : List (Int × Int)) : Prop :=
  Box wr bg p (.slice A l.length c) ∧ wr.frozen? ⟨bg, 1, none⟩ = false ∧ (∀ a, A = some a → a.block ∉ os ∧ a.block ≠ bg) ∧ wr.ownsRow B 85 2 (.slice A l.length c) l.length (barCells l) ∧ (∀ o ∈ os, o < wr.heap.size ∧ wr.heap[o]? = w0.heap[o]? ∧ o ≠ bg) ∧ Below B w0 wr ∧ B ≤ bg
theorem GBox.cell {B : Nat} {w0 wr : World} {bg : Nat} {os : List Nat} {p : Int} {A : Option Addr} {c : Nat} {l : List (Int × Int)} (h : GBox B w0 wr bg os p A c l) {o k : Nat} (ho : o ∈ os) : wr.cell? ⟨o, k, none⟩ = w0.cell? ⟨o, k, none⟩ :=
  World.cell?_of_block (a := ⟨o, k, none⟩) (h.2.2.2.2.1 o ho).2.1
theorem GBox.frozen {B : Nat} {w0 wr : World} {bg : Nat} {os : List Nat} {p : Int} {A : Option Addr} {c : Nat} {l : List (Int × Int)} (h : GBox B w0 wr bg os p A c l) {o k : Nat} (ho : o ∈ os) : wr.frozen? ⟨o, k, none⟩ = w0.frozen? ⟨o, k, none⟩ :=
  World.frozen?_of_block (a := ⟨o, k, none⟩) (h.2.2.2.2.1 o ho).2.1
theorem GBox.below {B : Nat} {w0 wr w' : World} {bg : Nat} {os : List Nat} {p : Int} {A : Option Addr} {c : Nat} {l : List (Int × Int)} (h : GBox B w0 wr bg os p A c l) (hb : Below wr.heap.size wr w') : GBox B w0 w' bg os p A c l := by
  obtain ⟨h1, h2, h3, h4, h5, h6, h7⟩ := h
  refine ⟨h1.kept hb, (hb.frozen (p := ⟨bg, 1, none⟩) h1.1).trans h2, h3, own_below h4 hb, fun o ho => ?_, below_on h6 hb (Nat.le_of_lt (Nat.lt_of_le_of_lt h7 h1.1)), h7⟩
  obtain ⟨k1, k2, k3⟩ := h5 o ho
  exact ⟨Nat.lt_of_lt_of_le k1 hb.size, (hb.block o k1).trans k2, k3⟩
theorem GBox.push {B : Nat} {w0 wr w' : World} {bg : Nat} {os : List Nat} {p : Int} {A : Option Addr} {c : Nat} {l : List (Int × Int)} {v' : Value} (h : GBox B w0 wr bg os p A c l) (x : Int × Int)
    (ho : w'.ownsRow B 85 2 v' (l.length + 1) (barCells l ++ [.int .i64 x.1, .int .i64 x.2])) (hg : wr.grownBy w' (Value.slice A l.length c).ownBlock)
    (hat : v'.ownBlock = (Value.slice A l.length c).ownBlock ∨ v'.ownBlock = some (wr.heap.size + 1)) :
    w'.cell? ⟨bg, 0, none⟩ = some (.int .i64 p) ∧ w'.cell? ⟨bg, 1, none⟩ = some (.slice A l.length c) ∧ w'.frozen? ⟨bg, 1, none⟩ = false ∧ ∃ A2 c2, v' = .slice A2 (l.length + 1) c2 ∧ GBox B w0 (w'.setCell ⟨bg, 1, none⟩ v') bg os p A2 c2 (l ++ [x]) := by
  obtain ⟨h1, h2, h3, h4, h5, h6, h7⟩ := h
  have hne : ∀ o, o = bg ∨ o ∈ os → some o ≠ (Value.slice A l.length c).ownBlock := fun o hoo e => by
    cases A with
    | none => cases e
    | some a =>
      cases e
      rcases hoo with hoo | hoo
      · exact (h3 a rfl).2 hoo
      · exact (h3 a rfl).1 hoo
  have hblk := hg.block bg h1.1 (hne bg (.inl rfl))
  have c0 := (World.cell?_of_block (a := ⟨bg, 0, none⟩) hblk).trans h1.2.1
  have c1 := (World.cell?_of_block (a := ⟨bg, 1, none⟩) hblk).trans h1.2.2
  have f1 := (World.frozen?_of_block (a := ⟨bg, 1, none⟩) hblk).trans h2
  refine ⟨c0, c1, f1, ?_⟩
  obtain ⟨A2, c2, rfl⟩ := own_shape ho
  refine ⟨A2, c2, rfl, ?_⟩
  have hA2 : ∀ a, A2 = some a → a.block ∉ os ∧ a.block ≠ bg := fun a e => by
    subst e
    rcases hat with hat | hat
    · cases A with
      | none => cases hat
      | some a0 =>
        have : a.block = a0.block := by simpa [Value.ownBlock] using hat
        rw [this]
        exact h3 a0 rfl
    · have : a.block = wr.heap.size + 1 := by simpa [Value.ownBlock] using hat
      rw [this]
      refine ⟨fun hm => ?_, ?_⟩
      · have := (h5 _ hm).1
        omega
      · have := h1.1
        omega
  have hs := grownBy_set w' bg 1 (.slice A2 (l.length + 1) c2)
  have e2 : (l ++ [x]).length = l.length + 1 := by simp
  have e3 : barCells (l ++ [x]) = barCells l ++ [.int .i64 x.1, .int .i64 x.2] := by rw [barCells_append]; rfl
  unfold GBox
  rw [e2, e3]
  refine ⟨⟨?_, ?_, ?_⟩, ?_, hA2, ?_, fun o hoo => ?_, ?_, h7⟩
  · exact Nat.lt_of_lt_of_le (Nat.lt_of_lt_of_le h1.1 hg.size) hs.size
  · rw [World.cell?_setCell_other _ _ _ _ (by intro e; simp at e)]
    exact c0
  · exact World.cell?_setCell_same _ _ _ c1
  · rw [World.frozen?_setCell]
    exact f1
  · refine ho.kept hs ?_
    cases A2 with
    | none => exact .inl rfl
    | some a => exact .inr (by simp [Value.ownBlock]; exact (hA2 a rfl).2)
  · obtain ⟨k1, k2, k3⟩ := h5 o hoo
    exact ⟨Nat.lt_of_lt_of_le (Nat.lt_of_lt_of_le k1 hg.size) hs.size, (hs.block o (Nat.lt_of_lt_of_le k1 hg.size) (by simp; exact k3)).trans ((hg.block o k1 (hne o (.inr hoo))).trans k2), k3⟩
  · refine (h6.grown hg (Nat.le_of_lt (Nat.lt_of_le_of_lt h7 h1.1)) fun g e => (h4.lt g e).1).grown hs ?_ fun g e => by cases e; exact h7
    exact Nat.le_trans (Nat.le_of_lt (Nat.lt_of_le_of_lt h7 h1.1)) hg.size
/-- The same behind an append in a region that draws its order. -/
theorem GBox.push2 {B : Nat} {w0 wr w' : World} {bg : Nat} {os : List Nat} {p : Int} {A : Option Addr} {c : Nat} {l : List (Int × Int)} {gg c2 : Nat} {us : Array Value} {tb : TypeId} (h : GBox B w0 wr bg os p A c l) (x : Int × Int)
    (ho : w'.ownsRow B 85 2 (.slice (some ⟨gg, 0, none⟩) (l.length + 1) c2) (l.length + 1) (barCells l ++ [.int .i64 x.1, .int .i64 x.2])) (hg : ((wr.alloc (.cells us tb)).drew).grownBy w' (Value.slice A l.length c).ownBlock)
    (hat : (Value.slice A l.length c).ownBlock = some gg ∨ gg = wr.heap.size + 1) :
    w'.cell? ⟨bg, 0, none⟩ = some (.int .i64 p) ∧ w'.cell? ⟨bg, 1, none⟩ = some (.slice A l.length c) ∧ w'.frozen? ⟨bg, 1, none⟩ = false ∧ GBox B w0 (w'.setCell ⟨bg, 1, none⟩ (.slice (some ⟨gg, 0, none⟩) (l.length + 1) c2)) bg os p (some ⟨gg, 0, none⟩) c2 (l ++ [x]) := by
  have hg1 : (wr.alloc (.cells us tb)).grownBy ((wr.alloc (.cells us tb)).drew) (Value.slice A l.length c).ownBlock := ⟨rfl, rfl, rfl, Nat.le_refl _, fun _ _ _ => rfl⟩
  obtain ⟨c0, c1, f1, A2, c2', e, hG⟩ := h.push x ho (((World.grownBy_alloc wr (.cells us tb) _).trans_ hg1).trans_ hg) (by
    rcases hat with hat | hat
    · left; rw [hat]; rfl
    · right; rw [hat]; rfl)
  cases e
  exact ⟨c0, c1, f1, hG⟩
theorem GBox.drew {B : Nat} {w0 wr : World} {bg : Nat} {os : List Nat} {p : Int} {A : Option Addr} {c : Nat} {l : List (Int × Int)} (h : GBox B w0 wr bg os p A c l) : GBox B w0 wr.drew bg os p A c l := h.below ((Below.refl _ _).drew)
theorem GBox.ownIn {B : Nat} {w0 wr : World} {bg : Nat} {os : List Nat} {p : Int} {A : Option Addr} {c : Nat} {l : List (Int × Int)} (h : GBox B w0 wr bg os p A c l) : OwnIn wr B wr.heap.size A c l := own_in' h.2.2.2.1
/-- The answer's variable is written: the row is still the call's own. -/
theorem GBox.ret {B : Nat} {w0 wr : World} {bg : Nat} {os : List Nat} {p : Int} {A : Option Addr} {c : Nat} {l : List (Int × Int)} (h : GBox B w0 wr bg os p A c l) {o : Nat} (ho : o ∈ os) (hB : B ≤ o) (u v : Value) :
    OwnIn ((wr.setCell ⟨o, 0, none⟩ u).setCell ⟨o, 1, none⟩ v) B ((wr.setCell ⟨o, 0, none⟩ u).setCell ⟨o, 1, none⟩ v).heap.size A c l ∧ Below B w0 ((wr.setCell ⟨o, 0, none⟩ u).setCell ⟨o, 1, none⟩ v) := by
  obtain ⟨h1, h2, h3, h4, h5, h6, h7⟩ := h
  have hg := (grownBy_set wr o 0 u).trans_ (grownBy_set (wr.setCell ⟨o, 0, none⟩ u) o 1 v)
  refine ⟨own_in' (h4.kept hg ?_), h6.grown hg (Nat.le_of_lt (Nat.lt_of_le_of_lt h7 h1.1)) fun g e => by cases e; exact hB⟩
  cases A with
  | none => exact .inl rfl
  | some a => exact .inr (by simp [Value.ownBlock]; exact fun e => (h3 a rfl).1 (e ▸ ho))
/-- A graph without bars, just laid in a box; the answer's variable lies before it. -/
theorem gbox_new (w : World) (p : Int) : GBox w.heap.size (w.alloc (.cells #[.int .i64 0, .slice none 0 0] 29)) ((w.alloc (.cells #[.int .i64 0, .slice none 0 0] 29)).alloc (.cells #[.int .i64 p, .slice none 0 0] 29)) (w.heap.size + 1) [w.heap.size] p none 0 [] := by
  have hsz : (w.alloc (.cells #[.int .i64 0, .slice none 0 0] 29)).heap.size = w.heap.size + 1 := by simp
  have hb := new_below (w.alloc (.cells #[.int .i64 0, .slice none 0 0] 29)) (.cells #[.int .i64 p, .slice none 0 0] 29)
  have hx := box_new (w.alloc (.cells #[.int .i64 0, .slice none 0 0] 29)) p (.slice none 0 0) 29
  rw [hsz] at hx
  refine ⟨hx, ?_, fun a e => (by cases e), ⟨rfl, .inl ⟨rfl, rfl⟩⟩, fun o ho => ?_, hb.mono (by omega), by omega⟩
  · rw [← hsz]
    exact World.frozen?_alloc_at _ _ _ _ rfl
  · have : o = w.heap.size := by simpa using ho
    subst this
    exact ⟨by simp; omega, hb.block _ (by omega), by omega⟩
/-- A graph without bars, laid in a box; what lies in the blocks os stands. -/
theorem gbox_nil (w : World) (B : Nat) (os : List Nat) (p : Int) (hB : B ≤ w.heap.size) (hos : ∀ o ∈ os, o < w.heap.size) : GBox B w (w.alloc (.cells #[.int .i64 p, .slice none 0 0] 29)) w.heap.size os p none 0 [] := by
  have hb := new_below w (.cells #[.int .i64 p, .slice none 0 0] 29)
  refine ⟨box_new w p (.slice none 0 0) 29, World.frozen?_alloc_at _ _ _ _ rfl, fun a e => (by cases e), ⟨rfl, .inl ⟨rfl, rfl⟩⟩, fun o ho => ?_, hb.mono hB, hB⟩
  have := hos o ho
  exact ⟨by simp; omega, hb.block _ this, by omega⟩
/-- The same with an empty row of its own. -/
theorem gbox_made (w : World) (B : Nat) (os : List Nat) (p : Int) (hB : B ≤ w.heap.size) (hos : ∀ o ∈ os, o < w.heap.size) : GBox B w ((w.alloc (.cells #[] 85)).alloc (.cells #[.int .i64 p, .slice (some ⟨w.heap.size, 0, none⟩) 0 0] 29)) (w.heap.size + 1) os p (some ⟨w.heap.size, 0, none⟩) 0 [] := by
  have hsz : (w.alloc (.cells #[] 85)).heap.size = w.heap.size + 1 := by simp
  have hb1 := new_below w (.cells #[] 85)
  have hb2 := new_below (w.alloc (.cells #[] 85)) (.cells #[.int .i64 p, .slice (some ⟨w.heap.size, 0, none⟩) 0 0] 29)
  have hx := box_new (w.alloc (.cells #[] 85)) p (.slice (some ⟨w.heap.size, 0, none⟩) 0 0) 29
  have hf : ((w.alloc (.cells #[] 85)).alloc (.cells #[.int .i64 p, .slice (some ⟨w.heap.size, 0, none⟩) 0 0] 29)).frozen? ⟨(w.alloc (.cells #[] 85)).heap.size, 1, none⟩ = false := World.frozen?_alloc_at _ _ _ _ rfl
  rw [hsz] at hx hf
  have hb := below_on hb1 hb2 hb1.size
  have ho := World.ownsRow_made (base := B) (e := 85) (size := 2) w #[] 0 hB (by unfold maxLen; omega) (by simp)
  refine ⟨hx, hf, fun a e => ?_, own_below ho hb2, fun o hoo => ?_, hb.mono hB, by omega⟩
  · cases e
    refine ⟨fun hm => ?_, by show w.heap.size ≠ w.heap.size + 1; omega⟩
    have := hos _ hm
    simp at this
  · have := hos o hoo
    exact ⟨by simp; omega, hb.block _ this, by omega⟩
end Go.Proofs.Ytdnmmjaelgjkaaa
/- What spec.l2Has answers. No condition. -/
namespace Go.Proofs.Ytdnmmjaelgjkaaa
open Go.RowKit

set_option maxHeartbeats 1000000 in
set_option maxRecDepth 100000 in
theorem has_c (zs : List Int) (x : Int) (A : Option Addr) (cap lo hi : Nat) (w : World) (hl : IntsIn w lo hi A zs) (hn : zs.length ≤ 1048576) :
    Calls Try.prog 93 #[.slice A zs.length cap, .int .i64 x] w fun e w' => e = .returned (.bool (decide (x ∈ zs))) ∧ w = w' := by
  have HL := Lib.hid hl
  clear hl
  go_enter Try.func93, Try.ntmps93
  go_wp2_with fail
  go_loop [5] (fun i => ∃ k : Nat, k ≤ zs.length ∧ i = .int .i64 k ∧ ∀ j, j < k → zs.getD j 0 ≠ x) (fun i => zs.length - (intOf i).toNat)
  case atStart => exact ⟨0, by omega, rfl, fun j hj => absurd hj (by omega)⟩
  case round =>
    obtain ⟨k, hk, rfl, hall⟩ := hrel
    have HALL := Lib.hid hall
    clear hall
    by_cases hlt : k < zs.length
    · have hi : (k : Int) < (zs.length : Int) := by omega
      obtain ⟨b, off, rfl, _, _, hcell⟩ := HL.out.2 (by omega)
      have hc := hcell k hlt
      clear hcell
      have HM := Lib.hid (show zs.getD k 0 ∈ zs by
        have : zs.getD k 0 = zs[k] := by simp [List.getD, List.getElem?_eq_getElem hlt]
        rw [this]; exact List.getElem_mem hlt)
      obtain ⟨y, hy⟩ : ∃ y, zs.getD k 0 = y := ⟨_, rfl⟩
      rw [hy] at hc HM
      by_cases he : y = x
      · have he' : (y == x) = true := by simpa using he
        have HD := Lib.hid (show decide (x ∈ zs) = true by rw [← he]; exact decide_eq_true HM.out)
        clear he hy
        go_wp2_with fail
        go_ret
        exact ⟨by rw [HD.out]; rfl, rfl⟩
      · have he' : (y == x) = false := by simpa using he
        have HS := Lib.hid (show ∀ j, j < k + 1 → zs.getD j 0 ≠ x from fun j hj => by
          by_cases e : j = k
          · subst e; rw [hy]; exact he
          · exact HALL.out j (by omega))
        clear he hy
        go_wp2_with fail
        go_round
        case rel => exact ⟨k + 1, by omega, by go_num, HS.out⟩
        case measure => simp [intOf]; omega
    · obtain rfl : k = zs.length := by omega
      have HD := Lib.hid (show decide (x ∈ zs) = false by
        refine decide_eq_false fun hm => ?_
        obtain ⟨i, hi, e⟩ := List.getElem_of_mem hm
        refine HALL.out i hi ?_
        simpa [List.getD, List.getElem?_eq_getElem hi] using e)
      go_wp2_with fail
      go_ret
      exact ⟨by rw [HD.out]; rfl, rfl⟩
end Go.Proofs.Ytdnmmjaelgjkaaa
/- What spec.OnlyBars answers, and spec.l2Has. No condition. -/
namespace Go.Proofs.Ytdnmmjaelgjkaaa
open Go.RowKit

/-- The first k bars whose index S takes. -/
def onlyK (l : List (Int × Int)) (S : Nat → Bool) : Nat → List (Int × Int)
  | 0 => []
  | k + 1 => onlyK l S k ++ if S k then [l.getD k (0, 0)] else []
def inS (zs : List Int) (k : Nat) : Bool := decide ((k : Int) ∈ zs)
def onlyL (l : List (Int × Int)) (zs : List Int) : List (Int × Int) := onlyK l (inS zs) l.length
theorem onlyK_len (l : List (Int × Int)) (S : Nat → Bool) : ∀ k, (onlyK l S k).length ≤ k := by
  intro k
  induction k with
  | zero => exact Nat.le_refl _
  | succ k ih =>
    rw [onlyK, List.length_append]
    split <;> simp <;> omega
theorem onlyL_len (l : List (Int × Int)) (zs : List Int) (h : l.length ≤ 1048576) : (onlyL l zs).length ≤ 1048576 := Nat.le_trans (onlyK_len _ _ _) h

set_option maxHeartbeats 4000000 in
set_option maxRecDepth 100000 in
theorem specOnly (p : Int) (l : List (Int × Int)) (zs : List Int) (A Z : Option Addr) (cap cz lo hi : Nat) (w : World) (hl : BarsAt w w.heap.size A l) (hz : IntsIn w lo hi Z zs) (hn : l.length ≤ 1048576) (hnz : zs.length ≤ 1048576) :
    Calls Try.prog 66 #[.agg #[.int .i64 p, .slice A l.length cap], .slice Z zs.length cz] w (GraphR w p (onlyL l zs)) := by
  have hA1 := new_below w (.cells #[.int .i64 p, .slice A l.length cap] 29)
  have hA2 := new_below (w.alloc (.cells #[.int .i64 p, .slice A l.length cap] 29)) (.cells #[.int .i64 0, .slice none 0 0] 29)
  have hsz1 : (w.alloc (.cells #[.int .i64 p, .slice A l.length cap] 29)).heap.size = w.heap.size + 1 := by simp
  have hsz2 : ((w.alloc (.cells #[.int .i64 p, .slice A l.length cap] 29)).alloc (.cells #[.int .i64 0, .slice none 0 0] 29)).heap.size = w.heap.size + 2 := by simp
  have HA := Lib.hid (below_on hA1 hA2 hA1.size)
  have HLW := Lib.hid hl
  have HZW := Lib.hid hz
  have BX := Lib.hid ((box_new w p (.slice A l.length cap) 29).kept hA2)
  have hR := box_new (w.alloc (.cells #[.int .i64 p, .slice A l.length cap] 29)) 0 (.slice none 0 0) 29
  have hF : ((w.alloc (.cells #[.int .i64 p, .slice A l.length cap] 29)).alloc (.cells #[.int .i64 0, .slice none 0 0] 29)).frozen? ⟨(w.alloc (.cells #[.int .i64 p, .slice A l.length cap] 29)).heap.size, 0, none⟩ = false ∧ ((w.alloc (.cells #[.int .i64 p, .slice A l.length cap] 29)).alloc (.cells #[.int .i64 0, .slice none 0 0] 29)).frozen? ⟨(w.alloc (.cells #[.int .i64 p, .slice A l.length cap] 29)).heap.size, 1, none⟩ = false := ⟨World.frozen?_alloc_at _ _ _ _ rfl, World.frozen?_alloc_at _ _ _ _ rfl⟩
  rw [hsz1] at hR hF
  have HR := Lib.hid hR
  have HF := Lib.hid hF
  have hG := gbox_made ((w.alloc (.cells #[.int .i64 p, .slice A l.length cap] 29)).alloc (.cells #[.int .i64 0, .slice none 0 0] 29)) w.heap.size [w.heap.size, w.heap.size + 1] p (by rw [hsz2]; omega) (fun o ho => by rw [hsz2]; simp at ho; omega)
  rw [hsz2] at hG
  have HG := Lib.hid hG
  clear hl hz hA1 hA2 hsz1 hR hF hG
  go_enter Try.func66, Try.ntmps66
  go_wp2_with fail
  have HSZ2 := Lib.hid hsz2
  clear hsz2
  generalize ((((w.alloc (.cells #[.int .i64 p, .slice A l.length cap] 29)).alloc (.cells #[.int .i64 0, .slice none 0 0] 29)).alloc (.cells #[] 85)).alloc (.cells #[.int .i64 p, .slice (some ⟨w.heap.size + 2, 0, none⟩) 0 0] 29)) = w1 at *
  generalize ((w.alloc (.cells #[.int .i64 p, .slice A l.length cap] 29)).alloc (.cells #[.int .i64 0, .slice none 0 0] 29)) = w0 at *
  go_loopw [6] (fun i wr => ∃ k : Nat, k ≤ l.length ∧ i = .int .i64 k ∧ ∃ A' c', GBox w.heap.size w0 wr (w.heap.size + 2 + 1) [w.heap.size, w.heap.size + 1] p A' c' (onlyK l (inS zs) k)) (fun i _ => l.length - (intOf i).toNat)
  case atStart => exact ⟨0, by omega, rfl, _, _, HG.out⟩
  case round =>
    obtain ⟨k, hk, rfl, A', c', hst⟩ := hrel
    have HST := Lib.hid hst
    have HBW := Lib.hid (HA.out.trans hst.2.2.2.2.2.1)
    have hbs : w.heap.size ≤ wr.heap.size := Nat.le_of_lt (Nat.lt_of_le_of_lt hst.2.2.2.2.2.2 hst.1.1)
    have b1 := (hst.cell (o := w.heap.size) (k := 1) (by simp)).trans BX.out.2.2
    clear hst
    by_cases hlt : k < l.length
    · have hik : (k : Int) < (l.length : Int) := by omega
      obtain ⟨b0, off, rfl, hbB, hcell⟩ := HLW.out (by omega)
      have hc1 := (HBW.out.cell (p := ⟨b0, off + k * 2, none⟩) hbB).trans (hcell k hlt).1
      have hc2 := (HBW.out.cell (p := ⟨b0, off + k * 2 + 1, none⟩) hbB).trans (hcell k hlt).2
      clear hcell
      have HZ := Lib.hid (show IntsIn wr lo hi Z zs from ⟨Nat.le_trans HZW.out.1 hbs, fun hl0 => by
        obtain ⟨bz, oz, e, h1, h2, hc⟩ := HZW.out.2 hl0
        exact ⟨bz, oz, e, h1, h2, fun j hj => (HBW.out.cell (p := ⟨bz, oz + j, none⟩) (Nat.lt_of_lt_of_le h2 HZW.out.1)).trans (hc j hj)⟩⟩)
      go_wp2_with fail
      refine (has_c zs (k : Int) Z cz lo hi _ HZ.out hnz).mono ?_
      rintro e w2 ⟨rfl, rfl⟩
      rcases hs : decide ((k : Int) ∈ zs) with _ | _
      · have HE := Lib.hid (show onlyK l (inS zs) (k + 1) = onlyK l (inS zs) k by rw [onlyK, show inS zs k = false from hs]; simp)
        go_wp2_with fail
        go_roundw
        case rel => exact ⟨k + 1, by omega, by go_num, A', c', by rw [HE.out]; exact HST.out⟩
        case measure => simp [intOf]; omega
      · have HE := Lib.hid (show onlyK l (inS zs) (k + 1) = onlyK l (inS zs) k ++ [l.getD k (0, 0)] by rw [onlyK, show inS zs k = true from hs]; simp)
        have hll := onlyK_len l (inS zs) k
        obtain ⟨x, hx⟩ : ∃ x, l.getD k (0, 0) = x := ⟨_, rfl⟩
        rw [hx] at hc1 hc2 HE
        clear hx
        obtain ⟨x1, x2⟩ := x
        simp only at hc1 hc2
        obtain ⟨L, hL⟩ : ∃ L, L = onlyK l (inS zs) k := ⟨_, rfl⟩
        rw [← hL] at HST HE hll
        clear hL
        obtain ⟨i0, hi0, hz0, hz1, hz2⟩ := info_parts infoBar
        obtain ⟨hlt0, g1, g2⟩ := HST.out.1
        have gf := HST.out.2.1
        go_wp2_with fail
        go_region_law (refine step_append_lies _ (by rfl) _ _ _ (by rfl) w.heap.size 85 i0 _ 2 16 Try.underlying27 hi0 hz0 hz1 hz2 rfl (by omega) _ L.length (barCells L) (by rfl) ((HST.out.2.2.2.1.alloc _).drew) ⟨wr.heap.size, 0, none⟩ 1 1 [.int .i64 x1, .int .i64 x2] (by rfl) (by rfl) (World.news_of_block (cs := #[.int .i64 x1, .int .i64 x2]) (t := 85) (fr := (0, 0)) (heap_alloc_new wr _)) (by simp [Value.oneCell']) (by omega) (by unfold maxLen; omega) (by omega) (by simp; omega) (wr.heap.size + 1) (by simp) ?_; intro gg cap2 w1' hown1 hgrow hat hlt; obtain ⟨c0, c1, f1, hG2⟩ := HST.out.push2 (x1, x2) hown1 hgrow hat; have HG2 := Lib.hid hG2; clear hown1 hgrow hat hG2)
        all_goals
          go_wp2_with fail
          go_roundw
          case rel => exact ⟨k + 1, by omega, by go_num, _, cap2, by rw [HE.out]; first | exact HG2.out | exact HG2.out.drew⟩
          case measure => simp [intOf]; omega
    · obtain rfl : k = l.length := by omega
      obtain ⟨_, g1, g2⟩ := HST.out.1
      have r0 := (HST.out.cell (o := w.heap.size + 1) (k := 0) (by simp)).trans HR.out.2.1
      have r1 := (HST.out.cell (o := w.heap.size + 1) (k := 1) (by simp)).trans HR.out.2.2
      have f0 := (HST.out.frozen (o := w.heap.size + 1) (k := 0) (by simp)).trans HF.out.1
      have f1 := (HST.out.frozen (o := w.heap.size + 1) (k := 1) (by simp)).trans HF.out.2
      have hr := HST.out.ret (o := w.heap.size + 1) (by simp) (by omega) (.int .i64 p) (.slice A' (onlyK l (inS zs) l.length).length c')
      have HRT := Lib.hid hr
      have s0 : ((wr.setCell ⟨w.heap.size + 1, 0, none⟩ (.int .i64 p)).setCell ⟨w.heap.size + 1, 1, none⟩ (.slice A' (onlyK l (inS zs) l.length).length c')).cell? ⟨w.heap.size + 1, 0, none⟩ = some (.int .i64 p) := by
        rw [World.cell?_setCell_other _ _ _ _ (by intro e; simp at e)]
        exact World.cell?_setCell_same _ _ _ r0
      have s1 : ((wr.setCell ⟨w.heap.size + 1, 0, none⟩ (.int .i64 p)).setCell ⟨w.heap.size + 1, 1, none⟩ (.slice A' (onlyK l (inS zs) l.length).length c')).cell? ⟨w.heap.size + 1, 1, none⟩ = some (.slice A' (onlyK l (inS zs) l.length).length c') := by
        have r2 : (wr.setCell ⟨w.heap.size + 1, 0, none⟩ (.int .i64 p)).cell? ⟨w.heap.size + 1, 1, none⟩ = some (.slice none 0 0) := by
          rw [World.cell?_setCell_other _ _ _ _ (by intro e; simp at e)]
          exact r1
        exact World.cell?_setCell_same _ _ _ r2
      clear hr
      go_wp2_with fail
      refine bodyPost_ret (v := .agg #[.int .i64 p, .slice A' (onlyK l (inS zs) l.length).length c']) ?_ rfl ⟨A', c', rfl, HRT.out.1.bars.at, HA.out.trans HRT.out.2⟩
      simp [results, Try.results66, go_sem, s0, s1]
end Go.Proofs.Ytdnmmjaelgjkaaa
/- What RankOfSet answers, as a number. No program's walk. No condition. -/
namespace Go.Proofs.Ytdnmmjaelgjkaaa
open Go.RowKit

/-- What RankOfSet answers. -/
noncomputable def rankSV (p k c : Int) (l : List (Int × Int)) (zs : List Int) : Int := if isGB p l = true then rankV p k c (onlyL l zs) else -1
end Go.Proofs.Ytdnmmjaelgjkaaa
/- What IsIndependent answers; that the bars kept do not depend on a list's order. No program. No condition. -/
namespace Go.Proofs.Ytdnmmjaelgjkaaa
open Go.RowKit

/-- What IsIndependent answers. -/
noncomputable def indB (p k c : Int) (l : List (Int × Int)) (zs : List Int) : Bool := setB p l zs && rangeB k c && decide (rankSV p k c l zs = (zs.length : Int))
theorem indB_set {p k c : Int} {l : List (Int × Int)} {zs : List Int} (h : setB p l zs = false) : indB p k c l zs = false := by unfold indB; rw [h]; rfl
theorem indB_rng {p k c : Int} {l : List (Int × Int)} {zs : List Int} (h : rangeB k c = false) : indB p k c l zs = false := by unfold indB; rw [h]; simp
theorem indB_yes {p k c : Int} {l : List (Int × Int)} {zs : List Int} (h : setB p l zs = true) (h2 : rangeB k c = true) : indB p k c l zs = decide (rankSV p k c l zs = (zs.length : Int)) := by unfold indB; rw [h, h2]; simp
theorem onlyK_same (l : List (Int × Int)) (S T : Nat → Bool) : ∀ n, (∀ j, j < n → S j = T j) → onlyK l S n = onlyK l T n := by
  intro n
  induction n with
  | zero => intro _; rfl
  | succ n ih =>
    intro h
    unfold onlyK
    rw [ih (fun j hj => h j (by omega)), h n (by omega)]
theorem onlyL_same {l : List (Int × Int)} {zs ys : List Int} (h : ∀ j : Nat, j < l.length → ((j : Int) ∈ zs ↔ (j : Int) ∈ ys)) : onlyL l zs = onlyL l ys :=
  onlyK_same l _ _ _ fun j hj => by unfold inS; exact decide_eq_decide.2 (h j hj)
theorem rankSV_same {p k c : Int} {l : List (Int × Int)} {zs ys : List Int} (h : ∀ j : Nat, j < l.length → ((j : Int) ∈ zs ↔ (j : Int) ∈ ys)) : rankSV p k c l zs = rankSV p k c l ys := by
  unfold rankSV
  rw [onlyL_same h]
end Go.Proofs.Ytdnmmjaelgjkaaa
/- Sets of bars that the counts allow: no such set is greater than one that leaves no other bar free (the exchange of one bar for another, by sets of points that are full). Words on numbers and lists, of no program. No condition. -/
namespace Go.Proofs.Ytdnmmjaelgjkaaa

/-- How many points the set m has below P. -/
def wid (P m : Nat) : Nat := (List.range P).countP fun v => m.testBit v
theorem wid_set (P m : Nat) : (setL P m).length = wid P m := outF_count P _
/-- How many bars of S the set m spans. -/
def cI (n : Nat) (x : Nat → Int × Int) (S : Nat → Bool) (m : Nat) : Nat := (List.range n).countP fun i => S i && bothB m (x i)
def szI (n : Nat) (S : Nat → Bool) : Nat := (List.range n).countP S
theorem cntR_add (p q r s : Nat → Bool) : ∀ n, (∀ i, i < n → (if p i then 1 else 0) + (if q i then 1 else 0) = (if r i then 1 else 0) + if s i then 1 else (0 : Nat)) →
    (List.range n).countP p + (List.range n).countP q = (List.range n).countP r + (List.range n).countP s := by
  intro n
  induction n with
  | zero => intro _; rfl
  | succ n ih =>
    intro h
    have h1 := ih fun i hi => h i (by omega)
    have h2 := h n (by omega)
    simp only [List.range_succ, List.countP_append, List.countP_cons, List.countP_nil]
    omega
theorem cntR_le (p q r s : Nat → Bool) : ∀ n, (∀ i, i < n → (if p i then 1 else 0) + (if q i then 1 else 0) ≤ (if r i then 1 else 0) + if s i then 1 else (0 : Nat)) →
    (List.range n).countP p + (List.range n).countP q ≤ (List.range n).countP r + (List.range n).countP s := by
  intro n
  induction n with
  | zero => intro _; exact Nat.le_refl _
  | succ n ih =>
    intro h
    have h1 := ih fun i hi => h i (by omega)
    have h2 := h n (by omega)
    simp only [List.range_succ, List.countP_append, List.countP_cons, List.countP_nil]
    omega
theorem cntR_one (i : Nat) : ∀ n, (List.range n).countP (fun j => decide (j = i)) = if i < n then 1 else 0 := by
  intro n
  induction n with
  | zero => simp
  | succ n ih =>
    rw [List.range_succ, List.countP_append, ih, List.countP_cons, List.countP_nil]
    by_cases h1 : n = i
    · subst h1; simp
    · by_cases h2 : i < n
      · have h3 : i < n + 1 := by omega
        simp [h1, h2, h3]
      · have h3 : ¬ i < n + 1 := by omega
        simp [h1, h2, h3]
theorem cntR_zero (n : Nat) : (List.range n).countP (fun _ => false) = 0 := by simp
theorem wid_or_and (P m m' : Nat) : wid P (m ||| m') + wid P (m &&& m') = wid P m + wid P m' := by
  unfold wid
  refine cntR_add _ _ _ _ P fun i _ => ?_
  rw [Nat.testBit_or, Nat.testBit_and]
  cases m.testBit i <;> cases m'.testBit i <;> rfl
theorem cI_or_and (n : Nat) (x : Nat → Int × Int) (S : Nat → Bool) (m m' : Nat) : cI n x S m + cI n x S m' ≤ cI n x S (m ||| m') + cI n x S (m &&& m') := by
  unfold cI
  refine cntR_le _ _ _ _ n fun i _ => ?_
  unfold bothB
  simp only [Nat.testBit_or, Nat.testBit_and]
  cases S i <;> cases m.testBit (x i).1.toNat <;> cases m'.testBit (x i).1.toNat <;> cases m.testBit (x i).2.toNat <;> cases m'.testBit (x i).2.toNat <;> decide
/-- Two points at least. -/
theorem wid_two {P m a b : Nat} (ha : a < P) (hb : b < P) (hab : a ≠ b) (h1 : m.testBit a = true) (h2 : m.testBit b = true) : 2 ≤ wid P m := by
  have h := cntR_le (fun j => decide (j = a)) (fun j => decide (j = b)) (fun v => m.testBit v) (fun _ => false) P fun i _ => by
    by_cases c1 : i = a
    · subst c1; simp [h1, hab]
    · by_cases c2 : i = b
      · subst c2; simp [h2, c1]
      · simp [c1, c2]
  rw [cntR_one, cntR_one, if_pos ha, if_pos hb, cntR_zero] at h
  exact h
/-- A set within another that has as many points is the same. -/
theorem wid_and_same {P m M : Nat} (h : wid P M ≤ wid P (m &&& M)) {v : Nat} (hv : v < P) (hm : M.testBit v = true) : m.testBit v = true := by
  cases e : m.testBit v with
  | true => rfl
  | false =>
    have h1 := cntR_le (fun j => decide (j = v)) (fun j => (m &&& M).testBit j) (fun v => M.testBit v) (fun _ => false) P fun i _ => by
      by_cases c1 : i = v
      · subst c1; simp [hm, e]
      · simp only [c1, Nat.testBit_and]
        cases m.testBit i <;> cases M.testBit i <;> decide
    rw [cntR_one, if_pos hv, cntR_zero] at h1
    unfold wid at h
    omega
/-- The bars of the ground. -/
structure Grd (P : Nat) (k c : Int) (n : Nat) (x : Nat → Int × Int) : Prop where
  bar : ∀ i, i < n → 0 ≤ (x i).1 ∧ (x i).1 < (x i).2 ∧ (x i).2 < (P : Int)
  k1 : 1 ≤ k
  c0 : 0 ≤ c
  c2 : c < 2 * k
def IndI (P : Nat) (k c : Int) (n : Nat) (x : Nat → Int × Int) (S : Nat → Bool) : Prop := ∀ m, 0 < cI n x S m → (cI n x S m : Int) ≤ k * (wid P m : Int) - c
def TightI (P : Nat) (k c : Int) (n : Nat) (x : Nat → Int × Int) (S : Nat → Bool) (m : Nat) : Prop := (cI n x S m : Int) = k * (wid P m : Int) - c
theorem kw_pos {k c : Int} {w : Nat} (hk : 1 ≤ k) (hc : c < 2 * k) (h : 2 ≤ w) : 0 < k * (w : Int) - c := by
  have : 2 * k ≤ k * (w : Int) := by
    rw [Int.mul_comm 2 k]
    exact Int.mul_le_mul_of_nonneg_left (by omega) (by omega)
  omega
theorem Grd.two {P : Nat} {k c : Int} {n : Nat} {x : Nat → Int × Int} (g : Grd P k c n x) {i : Nat} (hi : i < n) {m : Nat} (h : bothB m (x i) = true) : 2 ≤ wid P m := by
  have hb := g.bar i hi
  unfold bothB at h
  rw [Bool.and_eq_true] at h
  exact wid_two (a := (x i).1.toNat) (b := (x i).2.toNat) (by omega) (by omega) (by omega) h.1 h.2
theorem both_and {m m' : Nat} {y : Int × Int} (h : bothB m y = true) (h' : bothB m' y = true) : bothB (m &&& m') y = true := by
  unfold bothB at *
  rw [Bool.and_eq_true] at *
  rw [Nat.testBit_and, Nat.testBit_and, h.1, h.2, h'.1, h'.2]
  exact ⟨rfl, rfl⟩
theorem both_or {m m' : Nat} {y : Int × Int} (h : bothB m y = true) : bothB (m ||| m') y = true := by
  unfold bothB at *
  rw [Bool.and_eq_true] at *
  rw [Nat.testBit_or, Nat.testBit_or, h.1, h.2]
  exact ⟨rfl, rfl⟩
theorem both_or' {m m' : Nat} {y : Int × Int} (h : bothB m' y = true) : bothB (m ||| m') y = true := by
  rw [Nat.or_comm]
  exact both_or h
theorem uncross {P : Nat} {k c : Int} {n : Nat} {x : Nat → Int × Int} (g : Grd P k c n x) {S : Nat → Bool} (hS : IndI P k c n x S) {m m' : Nat} (h : TightI P k c n x S m) (h' : TightI P k c n x S m') {i : Nat} (hi : i < n) (b : bothB m (x i) = true) (b' : bothB m' (x i) = true) :
    TightI P k c n x S (m ||| m') ∧ TightI P k c n x S (m &&& m') := by
  have h1 := cI_or_and n x S m m'
  have h2 := wid_or_and P m m'
  have q1 := kw_pos g.k1 g.c2 (g.two hi (both_or b (m' := m')))
  have q2 := kw_pos g.k1 g.c2 (g.two hi (both_and b b'))
  have i1 := hS (m ||| m')
  have i2 := hS (m &&& m')
  unfold TightI at *
  have h3 : k * (wid P (m ||| m') : Int) + k * (wid P (m &&& m') : Int) = k * (wid P m : Int) + k * (wid P m' : Int) := by
    rw [← Int.mul_add, ← Int.mul_add]
    congr 1
    omega
  generalize k * (wid P (m ||| m') : Int) = u1 at *
  generalize k * (wid P (m &&& m') : Int) = u2 at *
  generalize k * (wid P m : Int) = u3 at *
  generalize k * (wid P m' : Int) = u4 at *
  have j1 : (cI n x S (m ||| m') : Int) ≤ u1 - c := by
    by_cases z : 0 < cI n x S (m ||| m')
    · exact i1 z
    · omega
  have j2 : (cI n x S (m &&& m') : Int) ≤ u2 - c := by
    by_cases z : 0 < cI n x S (m &&& m')
    · exact i2 z
    · omega
  omega
/-- A bar that can't be had beside I: it is there, or a tight set holds both its ends. -/
def BlockI (P : Nat) (k c : Int) (n : Nat) (x : Nat → Int × Int) (I : Nat → Bool) (j : Nat) : Prop := I j = true ∨ ∃ m, TightI P k c n x I m ∧ bothB m (x j) = true
theorem least_tight {P : Nat} {k c : Int} {n : Nat} {x : Nat → Int × Int} {I : Nat → Bool} {j : Nat} : ∀ d m, wid P m ≤ d → TightI P k c n x I m → bothB m (x j) = true →
    ∃ M, TightI P k c n x I M ∧ bothB M (x j) = true ∧ ∀ m', TightI P k c n x I m' → bothB m' (x j) = true → wid P M ≤ wid P m' := by
  intro d
  induction d with
  | zero => intro m hd h b; exact ⟨m, h, b, fun m' _ _ => by omega⟩
  | succ d ih =>
    intro m hd h b
    by_cases z : ∃ m', TightI P k c n x I m' ∧ bothB m' (x j) = true ∧ wid P m' ≤ d
    · obtain ⟨m', h', b', w'⟩ := z
      exact ih m' w' h' b'
    · refine ⟨m, h, b, fun m' h' b' => Classical.byContradiction fun e => z ⟨m', h', b', by omega⟩⟩
/-- One bar for another. -/
def swapI (I : Nat → Bool) (y j : Nat) (i : Nat) : Bool := if i = y then false else if i = j then true else I i
theorem cI_swap {n : Nat} {x : Nat → Int × Int} {I : Nat → Bool} {y j : Nat} (hy : y < n) (hj : j < n) (Iy : I y = true) (Ij : I j = false) (m : Nat) :
    cI n x (swapI I y j) m + (if bothB m (x y) then 1 else 0) = cI n x I m + if bothB m (x j) then 1 else 0 := by
  have hyj : y ≠ j := fun e => by rw [e, Ij] at Iy; cases Iy
  have h := cntR_add (fun i => swapI I y j i && bothB m (x i)) (fun i => decide (i = y) && bothB m (x i)) (fun i => I i && bothB m (x i)) (fun i => decide (i = j) && bothB m (x i)) n fun i _ => by
    unfold swapI
    by_cases c1 : i = y
    · subst c1; simp [Iy, hyj]
    · by_cases c2 : i = j
      · subst c2; simp [Ij, c1]
      · simp [c1, c2]
  have one : ∀ u, u < n → (List.range n).countP (fun i => decide (i = u) && bothB m (x i)) = if bothB m (x u) then 1 else 0 := fun u hu => by
    cases e : bothB m (x u) with
    | true =>
      rw [if_pos rfl]
      refine Eq.trans (List.countP_congr fun i _ => ?_) (Eq.trans (cntR_one u n) (if_pos hu))
      by_cases c1 : i = u
      · subst c1; simp [e]
      · simp [c1]
    | false =>
      rw [if_neg (by simp)]
      refine Eq.trans (List.countP_congr fun i _ => ?_) (cntR_zero n)
      by_cases c1 : i = u
      · subst c1; simp [e]
      · simp [c1]
  rw [one y hy, one j hj] at h
  exact h
theorem szI_swap {n : Nat} {I : Nat → Bool} {y j : Nat} (hy : y < n) (hj : j < n) (Iy : I y = true) (Ij : I j = false) : szI n (swapI I y j) = szI n I := by
  have hyj : y ≠ j := fun e => by rw [e, Ij] at Iy; cases Iy
  have h := cntR_add (fun i => swapI I y j i) (fun i => decide (i = y)) (fun i => I i) (fun i => decide (i = j)) n fun i _ => by
    unfold swapI
    by_cases c1 : i = y
    · subst c1; simp [Iy, hyj]
    · by_cases c2 : i = j
      · subst c2; simp [Ij, c1]
      · simp [c1, c2]
  rw [cntR_one, cntR_one, if_pos hy, if_pos hj] at h
  exact Nat.add_right_cancel h
theorem rest_swap {n : Nat} {I J : Nat → Bool} {y j : Nat} (hj : j < n) (Jy : J y = false) (Jj : J j = true) (Ij : I j = false) :
    (List.range n).countP (fun i => J i && !swapI I y j i) + 1 = (List.range n).countP (fun i => J i && !I i) := by
  have h := cntR_add (fun i => J i && !swapI I y j i) (fun i => decide (i = j)) (fun i => J i && !I i) (fun _ => false) n fun i _ => by
    unfold swapI
    by_cases c1 : i = y
    · subst c1
      have : i ≠ j := fun e => by rw [e, Jj] at Jy; cases Jy
      simp [Jy, this]
    · by_cases c2 : i = j
      · subst c2; simp [Ij, Jj, c1]
      · simp [c1, c2]
  rw [cntR_one, if_pos hj, cntR_zero] at h
  exact h
/-- No independent set of bars is greater than one that blocks all its bars. -/
theorem block_le {P : Nat} {k c : Int} {n : Nat} {x : Nat → Int × Int} (g : Grd P k c n x) {J : Nat → Bool} (hJ : IndI P k c n x J) : ∀ d (I : Nat → Bool), (List.range n).countP (fun i => J i && !I i) = d → IndI P k c n x I →
    (∀ j, j < n → J j = true → BlockI P k c n x I j) → szI n J ≤ szI n I := by
  intro d
  induction d with
  | zero =>
    intro I hd _ _
    unfold szI
    refine List.countP_mono_left fun i hi hJi => ?_
    rw [List.countP_eq_zero] at hd
    have := hd i hi
    rw [hJi] at this
    simpa using this
  | succ d ih =>
    intro I hd hI hb
    have hpos : 0 < (List.range n).countP (fun i => J i && !I i) := by omega
    obtain ⟨j, hj, hJI⟩ := List.countP_pos_iff.1 hpos
    have hj := List.mem_range.1 hj
    rw [Bool.and_eq_true] at hJI
    obtain ⟨Jj, Ij⟩ := hJI
    have Ij : I j = false := by simpa using Ij
    have hbj : ∃ m, TightI P k c n x I m ∧ bothB m (x j) = true := by
      rcases hb j hj Jj with h | h
      · rw [Ij] at h; cases h
      · exact h
    obtain ⟨m0, t0, b0⟩ := hbj
    obtain ⟨M, tM, bM, minM⟩ := least_tight (wid P m0) m0 (Nat.le_refl _) t0 b0
    have hy : ∃ y, y < n ∧ I y = true ∧ bothB M (x y) = true ∧ J y = false := by
      refine Classical.byContradiction fun hno => ?_
      have hle := cntR_le (fun i => I i && bothB M (x i)) (fun i => decide (i = j)) (fun i => J i && bothB M (x i)) (fun _ => false) n fun i hi => by
        by_cases c1 : i = j
        · subst c1; simp [Ij, Jj, bM]
        · cases e1 : I i with
          | false => simp [c1]
          | true =>
            cases e2 : bothB M (x i) with
            | false => simp [c1]
            | true =>
              cases e3 : J i with
              | false => exact absurd ⟨i, hi, e1, e2, e3⟩ hno
              | true => simp [c1]
      rw [cntR_one, if_pos hj, cntR_zero] at hle
      have h1 := hJ M
      have hle : cI n x I M + 1 ≤ cI n x J M := hle
      unfold TightI at tM
      have := h1 (by omega)
      omega
    obtain ⟨y, hy, Iy, by', Jy⟩ := hy
    have hc := cI_swap (x := x) hy hj Iy Ij
    have hI' : IndI P k c n x (swapI I y j) := by
      intro m hm
      have e := hc m
      have hi := hI m
      by_cases c1 : bothB m (x j) = true
      · by_cases c2 : bothB m (x y) = true
        · rw [if_pos c1, if_pos c2] at e
          have := hi (by omega)
          omega
        · rw [if_pos c1, if_neg c2] at e
          have hkw := kw_pos g.k1 g.c2 (g.two hj c1)
          have hno : ¬ TightI P k c n x I m := fun t => by
            have hu := (uncross g hI t tM hj c1 bM).2
            have hw := minM _ hu (both_and c1 bM)
            have hby := g.bar y hy
            unfold bothB at by' c2
            rw [Bool.and_eq_true] at by'
            exact c2 (by rw [wid_and_same hw (by omega) by'.1, wid_and_same hw (by omega) by'.2]; rfl)
          unfold TightI at hno
          by_cases z : 0 < cI n x I m
          · have := hi z
            omega
          · omega
      · rw [if_neg c1] at e
        have : cI n x (swapI I y j) m ≤ cI n x I m := by omega
        have := hi (by omega)
        omega
    rw [← szI_swap hy hj Iy Ij]
    have hr := rest_swap hj Jy Jj Ij
    refine ih (swapI I y j) (by omega) hI' fun j' hj' Jj' => ?_
    rcases hb j' hj' Jj' with h | ⟨m, t, b⟩
    · left
      unfold swapI
      rw [if_neg (fun e => by rw [e, Jy] at Jj'; cases Jj')]
      split
      · rfl
      · exact h
    · right
      by_cases c2 : bothB m (x y) = true
      · refine ⟨m ||| M, ?_, both_or b⟩
        have hu := (uncross g hI t tM hy c2 by').1
        have e := hc (m ||| M)
        rw [if_pos (both_or c2), if_pos (both_or' bM)] at e
        unfold TightI at *
        omega
      · refine ⟨m, ?_, b⟩
        have e := hc m
        rw [if_neg c2] at e
        unfold TightI at *
        by_cases c1 : bothB m (x j) = true
        · rw [if_pos c1] at e
          have := hI' m (by omega)
          omega
        · rw [if_neg c1] at e
          omega
end Go.Proofs.Ytdnmmjaelgjkaaa
/- Graphs of fewer bars; sets of points that span too many. Words on lists, of no program. No condition. -/
namespace Go.Proofs.Ytdnmmjaelgjkaaa
theorem isG_ofB {p : Int} {l : List (Int × Int)} (hp : 1 ≤ p ∧ p ≤ 8) (hl : l.length ≤ 24) (hb : ∀ x ∈ l, 0 ≤ x.1 ∧ x.1 < x.2 ∧ x.2 < p) (ho : OrdB l) : IsG p l := by
  refine ⟨hp, hl, fun i hi => ?_⟩
  have hg : l.getD i (0, 0) = l[i] := by simp [List.getD, List.getElem?_eq_getElem hi]
  have hm := hb l[i] (List.getElem_mem hi)
  unfold OkBar
  rw [hg]
  refine ⟨hm.1, hm.2.1, hm.2.2, fun h0 => ?_⟩
  have hi' : i - 1 < l.length := by omega
  have hg' : l.getD (i - 1) (0, 0) = l[i - 1] := by simp [List.getD, List.getElem?_eq_getElem hi']
  rw [hg']
  exact List.pairwise_iff_getElem.1 ho (i - 1) i hi' hi (by omega)
theorem isG_sub {p : Int} {l l' : List (Int × Int)} (h : IsG p l) (hs : l'.Sublist l) : IsG p l' := by
  refine isG_ofB h.1 (Nat.le_trans hs.length_le h.2.1) (fun x hx => ?_) ((isG_ord h).sublist hs)
  obtain ⟨i, hi, rfl⟩ := List.getElem_of_mem (hs.subset hx)
  have := isG_bar h i hi
  simpa [List.getD, List.getElem?_eq_getElem hi] using this
theorem isGB_iff {p : Int} {l : List (Int × Int)} : isGB p l = true ↔ IsG p l := ⟨fun h => Classical.byContradiction fun g => (by rw [isGB_no g] at h; cases h), isGB_yes⟩
theorem bad_sub {l l' : List (Int × Int)} {k c : Int} {P m : Nat} (hs : l'.Sublist l) (h : badS l k c P m = false) : badS l' k c P m = false := by
  have hc : cntS l' m ≤ cntS l m := hs.countP_le
  unfold badS at *
  simp only [Bool.and_eq_false_iff, decide_eq_false_iff_not] at *
  omega
theorem take_drop_sub (l : List (Int × Int)) (i : Nat) : (l.take i ++ l.drop (i + 1)).Sublist l := by
  have h : l.take i ++ l.drop i = l := List.take_append_drop i l
  conv => rhs; rw [← h]
  refine List.Sublist.append (List.Sublist.refl _) ?_
  rw [← List.drop_drop]
  exact List.drop_sublist _ _
end Go.Proofs.Ytdnmmjaelgjkaaa
/- The pebble game's counts: what is placed is sparse, and what is not placed would be too much. No program. No condition. -/
namespace Go.Proofs.Ytdnmmjaelgjkaaa

def sumS (S : Nat → Bool) (f : Nat → Int) : Nat → Int
  | 0 => 0
  | P + 1 => sumS S f P + if S P then f P else 0
theorem sumS_congr (S : Nat → Bool) (f g : Nat → Int) (P : Nat) (h : ∀ v, v < P → S v = true → f v = g v) : sumS S f P = sumS S g P := by
  induction P with
  | zero => rfl
  | succ P ih =>
    unfold sumS
    rw [ih fun v hv => h v (by omega)]
    cases e : S P
    · rfl
    · rw [h P (by omega) e]
theorem sumS_add (S : Nat → Bool) (f g : Nat → Int) (P : Nat) : sumS S (fun v => f v + g v) P = sumS S f P + sumS S g P := by
  induction P with
  | zero => rfl
  | succ P ih =>
    unfold sumS
    rw [ih]
    cases S P <;> simp <;> omega
theorem sumS_one (S : Nat → Bool) (z : Int) (t P : Nat) (h : t < P) : sumS S (fun v => if v = t then z else 0) P = if S t then z else 0 := by
  have zero : ∀ Q, Q ≤ t → sumS S (fun v => if v = t then z else 0) Q = 0 := by
    intro Q
    induction Q with
    | zero => intro _; rfl
    | succ Q ih =>
      intro hq
      unfold sumS
      rw [ih (by omega), if_neg (show ¬ Q = t by omega)]
      simp
  induction P with
  | zero => omega
  | succ P ih =>
    unfold sumS
    by_cases e : P = t
    · subst e
      rw [zero P (Nat.le_refl _), if_pos rfl]
      simp
    · rw [ih (by omega), if_neg e]
      simp
theorem sumS_nonneg (S : Nat → Bool) (f : Nat → Int) (P : Nat) (h : ∀ v, v < P → 0 ≤ f v) : 0 ≤ sumS S f P := by
  induction P with
  | zero => exact Int.le_refl _
  | succ P ih =>
    unfold sumS
    have h1 := ih fun v hv => h v (by omega)
    have h2 := h P (by omega)
    cases S P <;> simp <;> omega
theorem sumS_mul (S : Nat → Bool) (z : Int) (P : Nat) : sumS S (fun _ => z) P = z * ((outF P S).length : Int) := by
  induction P with
  | zero => simp [sumS, outF]
  | succ P ih =>
    unfold sumS
    rw [ih, outF_succ]
    cases S P
    · simp
    · simp [Int.mul_add]
/-- How many tails lie in S. -/
def tinS (S : Nat → Bool) (T : List Int) : Nat := T.countP fun t => S t.toNat
theorem tinS_sum (S : Nat → Bool) (P : Nat) : ∀ T : List Int, (∀ t ∈ T, 0 ≤ t ∧ t < (P : Int)) → sumS S (fun v => (T.count (v : Int) : Int)) P = (tinS S T : Int) := by
  intro T
  induction T with
  | nil =>
    intro _
    have : ∀ Q, sumS S (fun _ => (0 : Int)) Q = 0 := fun Q => by rw [sumS_mul]; simp
    simpa [tinS] using this P
  | cons t T ih =>
    intro h
    have ht := h t (by simp)
    have e : ∀ v : Nat, (((t :: T).count (v : Int) : Nat) : Int) = (T.count (v : Int) : Int) + if v = t.toNat then 1 else 0 := fun v => by
      rw [List.count_cons]
      by_cases c : v = t.toNat
      · subst c
        have : t = ((t.toNat : Nat) : Int) := by omega
        rw [if_pos rfl, if_pos (by rw [← this]; simp)]
        simp
      · rw [if_neg c, if_neg (by simp; omega)]
        simp
    rw [sumS_congr S _ _ P fun v _ _ => e v, sumS_add, ih fun t ht => h t (by simp [ht]), sumS_one S 1 t.toNat P (by omega)]
    unfold tinS
    rw [List.countP_cons]
    cases S t.toNat <;> simp
theorem PebS.tails {P : Nat} {k : Int} {E : List (Int × Int)} {F T : List Int} (h : PebS P k E F T) : ∀ t ∈ T, 0 ≤ t ∧ t < (P : Int) := by
  intro t ht
  obtain ⟨i, hi, rfl⟩ := List.getElem_of_mem ht
  have h1 := h.ends.tail i (by rw [← h.ends.len]; exact hi)
  have h2 := h.ends.bar i (by rw [← h.ends.len]; exact hi)
  have e : T.getD i 0 = T[i] := by simp [List.getD, List.getElem?_eq_getElem hi]
  rw [e] at h1
  unfold isEnd at h1
  omega
/-- Free pebbles and tails in S make k for each of its points. -/
theorem PebS.sum {P : Nat} {k : Int} {E : List (Int × Int)} {F T : List Int} (h : PebS P k E F T) (S : Nat → Bool) : sumS S (fun v => F.getD v 0) P + (tinS S T : Int) = k * ((outF P S).length : Int) := by
  rw [← tinS_sum S P T h.tails, ← sumS_add, ← sumS_mul]
  exact sumS_congr S _ _ P fun v hv _ => (h.free v hv).2
def spanC (S : Nat → Bool) (x : Int × Int) : Bool := S x.1.toNat && S x.2.toNat
theorem span_le (S : Nat → Bool) : ∀ (E : List (Int × Int)) (T : List Int), T.length = E.length → (∀ i, i < E.length → isEnd (E.getD i (0, 0)) (T.getD i 0)) → E.countP (spanC S) ≤ tinS S T := by
  intro E
  induction E with
  | nil => intro T _ _; simp
  | cons x E ih =>
    intro T hl h
    cases T with
    | nil => simp at hl
    | cons t T =>
      have h0 := h 0 (by simp)
      have hr := ih T (by simpa using hl) fun i hi => by have := h (i + 1) (by simpa using hi); simpa [List.getD] using this
      have h0' : isEnd x t := by simpa [List.getD] using h0
      unfold tinS at *
      rw [List.countP_cons, List.countP_cons]
      have : spanC S x = true → S t.toNat = true := fun hs => by
        unfold spanC at hs
        rw [Bool.and_eq_true] at hs
        rcases h0' with rfl | rfl
        · exact hs.1
        · exact hs.2
      cases e : spanC S x
      · simp; omega
      · rw [this e]; simp; omega
theorem span_ge (S : Nat → Bool) : ∀ (E : List (Int × Int)) (T : List Int), T.length = E.length → (∀ i, i < E.length → S (T.getD i 0).toNat = true → spanC S (E.getD i (0, 0)) = true) → tinS S T ≤ E.countP (spanC S) := by
  intro E
  induction E with
  | nil =>
    intro T hl _
    have : T = [] := List.eq_nil_of_length_eq_zero (by simpa using hl)
    subst this
    simp [tinS]
  | cons x E ih =>
    intro T hl h
    cases T with
    | nil => simp at hl
    | cons t T =>
      have h0 := h 0 (by simp)
      have hr := ih T (by simpa using hl) fun i hi => by have := h (i + 1) (by simpa using hi); simpa [List.getD] using this
      have h0' : S t.toNat = true → spanC S x = true := by simpa [List.getD] using h0
      unfold tinS at *
      rw [List.countP_cons, List.countP_cons]
      cases e : S t.toNat
      · simp; omega
      · rw [h0' e]; simp; omega

/-! The search reaches all that it can. -/
theorem scanN_closed (E : List (Int × Int)) (T : List Int) (v : Int) (q : List (Int × Nat)) : ∀ n i, i < n → T.getD i 0 = v → oth (E.getD i (0, 0)) v ∈ (scanN E T v q n).map Prod.fst := by
  intro n
  induction n with
  | zero => intro i hi; omega
  | succ n ih =>
    intro i hi ht
    have e : scanN E T v q (n + 1) = scan1 E T v (scanN E T v q n) n := rfl
    rw [e]
    by_cases c : i = n
    · subst c
      unfold scan1
      by_cases c2 : oth (E.getD i (0, 0)) v ∈ (scanN E T v q i).map Prod.fst
      · rw [if_neg (fun h => h.2 c2)]
        exact c2
      · rw [if_pos ⟨ht, c2⟩]
        simp
    · obtain ⟨r, e2⟩ := scan1_pre E T v (scanN E T v q n) n
      rw [e2, List.map_append]
      exact List.mem_append_left _ (ih i (by omega) ht)
theorem bfs_closed (E : List (Int × Int)) (T : List Int) (a : Int) : ∀ k j, j < k → j < (bfs E T a k).length → ∀ i, i < E.length → T.getD i 0 = ((bfs E T a k).getD j (0, 0)).1 → oth (E.getD i (0, 0)) (T.getD i 0) ∈ (bfs E T a k).map Prod.fst := by
  intro k
  induction k with
  | zero => intro j hj; omega
  | succ k ih =>
    intro j hj hjl i hi ht
    obtain ⟨r, e⟩ := bfs_pre1 E T a k
    by_cases c : k < (bfs E T a k).length
    · have e1 : bfs E T a (k + 1) = scanN E T ((bfs E T a k).getD k (0, 0)).1 (bfs E T a k) E.length := by rw [bfs_succ, if_pos c]
      have e2 : (bfs E T a (k + 1)).getD j (0, 0) = (bfs E T a k).getD j (0, 0) := by
        rw [e]
        simp only [List.getD]
        rw [List.getElem?_append_left (by omega)]
      rw [e2] at ht
      by_cases c2 : j = k
      · subst c2
        rw [e1, ht]
        exact scanN_closed E T _ _ _ i hi ht
      · have := ih j (by omega) (by omega) i hi ht
        rw [e, List.map_append]
        exact List.mem_append_left _ this
    · have e1 : bfs E T a (k + 1) = bfs E T a k := by rw [bfs_succ, if_neg c]
      rw [e1] at hjl ht ⊢
      exact ih j (by omega) hjl i hi ht
theorem bfsQ_closed {P : Nat} {E : List (Int × Int)} {T : List Int} {a : Int} (he : EndsQ P E T) (hP : P ≤ 8) (h0 : 0 ≤ a) (h1 : a < (P : Int)) {i : Nat} (hi : i < E.length) (hm : T.getD i 0 ∈ (bfsQ E T a).map Prod.fst) : oth (E.getD i (0, 0)) (T.getD i 0) ∈ (bfsQ E T a).map Prod.fst := by
  have hg := (bfs_good he h0 h1 (max E.length 8)).short
  obtain ⟨x, hx, e⟩ := List.mem_map.1 hm
  obtain ⟨j, hj, rfl⟩ := List.getElem_of_mem hx
  have e2 : (bfsQ E T a)[j] = (bfsQ E T a).getD j (0, 0) := by simp [List.getD, List.getElem?_eq_getElem hj]
  exact bfs_closed E T a (max E.length 8) j (by unfold bfsQ at hj; omega) hj i hi (by rw [← e, e2]; rfl)
/-- If no pebble can be brought, the points that were reached span all that they can. -/
theorem full_span {P : Nat} {k : Int} {E : List (Int × Int)} {F T : List Int} (h : PebS P k E F T) (hP : P ≤ 8) {a b : Int} (ha : 0 ≤ a ∧ a < (P : Int)) (hb : 0 ≤ b ∧ b < (P : Int)) (hab : a ≠ b) (e1 : findM E a b (F, T) = none) (e2 : findM E b a (F, T) = none) :
    ∃ S : Nat → Bool, S a.toNat = true ∧ S b.toNat = true ∧ k * ((outF P S).length : Int) = F.getD a.toNat 0 + F.getD b.toNat 0 + (E.countP (spanC S) : Int) := by
  refine ⟨fun v => decide ((v : Int) ∈ (bfsQ E T a).map Prod.fst) || decide ((v : Int) ∈ (bfsQ E T b).map Prod.fst), ?_, ?_, ?_⟩
  · obtain ⟨r, e⟩ := (bfs_good h.ends ha.1 ha.2 (max E.length 8)).start
    have : ((a.toNat : Nat) : Int) = a := by omega
    show (decide (((a.toNat : Nat) : Int) ∈ (bfsQ E T a).map Prod.fst) || decide (((a.toNat : Nat) : Int) ∈ (bfsQ E T b).map Prod.fst)) = true
    unfold bfsQ
    rw [this, e]
    simp
  · obtain ⟨r, e⟩ := (bfs_good h.ends hb.1 hb.2 (max E.length 8)).start
    have : ((b.toNat : Nat) : Int) = b := by omega
    show (decide (((b.toNat : Nat) : Int) ∈ (bfsQ E T a).map Prod.fst) || decide (((b.toNat : Nat) : Int) ∈ (bfsQ E T b).map Prod.fst)) = true
    unfold bfsQ
    rw [this, e]
    simp
  · have n1 : ∀ x ∈ bfsQ E T a, givesB F a b x = false := by
      unfold findM at e1
      rw [Option.map_eq_none_iff] at e1
      intro x hx
      have := List.find?_eq_none.1 e1 x hx
      simpa using this
    have n2 : ∀ x ∈ bfsQ E T b, givesB F b a x = false := by
      unfold findM at e2
      rw [Option.map_eq_none_iff] at e2
      intro x hx
      have := List.find?_eq_none.1 e2 x hx
      simpa using this
    have hS : ∀ v : Nat, v < P → (decide ((v : Int) ∈ (bfsQ E T a).map Prod.fst) || decide ((v : Int) ∈ (bfsQ E T b).map Prod.fst)) = true → v ≠ a.toNat → v ≠ b.toNat → F.getD v 0 = 0 := by
      intro v hv hs h1 h2
      have hf := h.free v hv
      rw [Bool.or_eq_true, decide_eq_true_eq, decide_eq_true_eq] at hs
      have go : ∀ x : Int × Nat, x.1 = (v : Int) → (givesB F a b x = false ∨ givesB F b a x = false) → F.getD v 0 = 0 := fun x hx hg => by
        unfold givesB at hg
        rw [hx] at hg
        simp only [Bool.and_eq_false_iff, decide_eq_false_iff_not, Int.toNat_natCast] at hg
        omega
      rcases hs with hs | hs
      · obtain ⟨x, hx, e⟩ := List.mem_map.1 hs
        exact go x e (.inl (n1 x hx))
      · obtain ⟨x, hx, e⟩ := List.mem_map.1 hs
        exact go x e (.inr (n2 x hx))
    have hsa : (decide (((a.toNat : Nat) : Int) ∈ (bfsQ E T a).map Prod.fst) || decide (((a.toNat : Nat) : Int) ∈ (bfsQ E T b).map Prod.fst)) = true := by
      obtain ⟨r, e⟩ := (bfs_good h.ends ha.1 ha.2 (max E.length 8)).start
      have : ((a.toNat : Nat) : Int) = a := by omega
      unfold bfsQ
      rw [this, e]
      simp
    have hsb : (decide (((b.toNat : Nat) : Int) ∈ (bfsQ E T a).map Prod.fst) || decide (((b.toNat : Nat) : Int) ∈ (bfsQ E T b).map Prod.fst)) = true := by
      obtain ⟨r, e⟩ := (bfs_good h.ends hb.1 hb.2 (max E.length 8)).start
      have : ((b.toNat : Nat) : Int) = b := by omega
      unfold bfsQ
      simp only [this, e]
      simp
    have hcl : ∀ i, i < E.length → (decide ((((T.getD i 0).toNat : Nat) : Int) ∈ (bfsQ E T a).map Prod.fst) || decide ((((T.getD i 0).toNat : Nat) : Int) ∈ (bfsQ E T b).map Prod.fst)) = true → spanC (fun v => decide ((v : Int) ∈ (bfsQ E T a).map Prod.fst) || decide ((v : Int) ∈ (bfsQ E T b).map Prod.fst)) (E.getD i (0, 0)) = true := by
      intro i hi hs
      have hbar := h.ends.bar i hi
      have htl := h.ends.tail i hi
      have ht0 : (((T.getD i 0).toNat : Nat) : Int) = T.getD i 0 := by unfold isEnd at htl; omega
      rw [ht0, Bool.or_eq_true, decide_eq_true_eq, decide_eq_true_eq] at hs
      have both : ∀ Q : List Int, T.getD i 0 ∈ Q → oth (E.getD i (0, 0)) (T.getD i 0) ∈ Q → (E.getD i (0, 0)).1 ∈ Q ∧ (E.getD i (0, 0)).2 ∈ Q := fun Q q1 q2 => by
        rcases htl with e | e
        · have : oth (E.getD i (0, 0)) (T.getD i 0) = (E.getD i (0, 0)).2 := by unfold oth; omega
          rw [this] at q2
          rw [e] at q1
          exact ⟨q1, q2⟩
        · have : oth (E.getD i (0, 0)) (T.getD i 0) = (E.getD i (0, 0)).1 := by unfold oth; omega
          rw [this] at q2
          rw [e] at q1
          exact ⟨q2, q1⟩
      have c1 : (((E.getD i (0, 0)).1.toNat : Nat) : Int) = (E.getD i (0, 0)).1 := by omega
      have c2 : (((E.getD i (0, 0)).2.toNat : Nat) : Int) = (E.getD i (0, 0)).2 := by omega
      unfold spanC
      simp only [c1, c2, Bool.and_eq_true, Bool.or_eq_true, decide_eq_true_eq]
      rcases hs with hs | hs
      · have := both _ hs (bfsQ_closed h.ends hP ha.1 ha.2 hi hs)
        exact ⟨.inl this.1, .inl this.2⟩
      · have := both _ hs (bfsQ_closed h.ends hP hb.1 hb.2 hi hs)
        exact ⟨.inr this.1, .inr this.2⟩
    generalize hSS : (fun v : Nat => decide ((v : Int) ∈ (bfsQ E T a).map Prod.fst) || decide ((v : Int) ∈ (bfsQ E T b).map Prod.fst)) = S at *
    have hS' : ∀ v, S v = (decide ((v : Int) ∈ (bfsQ E T a).map Prod.fst) || decide ((v : Int) ∈ (bfsQ E T b).map Prod.fst)) := fun v => by rw [← hSS]
    have hsum := h.sum S
    have hle := span_le S E T h.ends.len h.ends.tail
    have hge := span_ge S E T h.ends.len fun i hi hs => hcl i hi (by rw [← hS']; exact hs)
    have hF : sumS S (fun v => F.getD v 0) P = F.getD a.toNat 0 + F.getD b.toNat 0 := by
      have e : ∀ v, v < P → S v = true → F.getD v 0 = (if v = a.toNat then F.getD a.toNat 0 else 0) + (if v = b.toNat then F.getD b.toNat 0 else 0) := fun v hv hs => by
        by_cases c1 : v = a.toNat
        · subst c1
          rw [if_pos rfl, if_neg (by omega)]
          omega
        · by_cases c2 : v = b.toNat
          · subst c2
            rw [if_neg c1, if_pos rfl]
            omega
          · rw [if_neg c1, if_neg c2, hS v hv (by rw [← hS']; exact hs) c1 c2]
            rfl
      rw [sumS_congr S _ _ P e, sumS_add, sumS_one S _ a.toNat P (by omega), sumS_one S _ b.toNat P (by omega), hS', hS', hsa, hsb]
      rfl
    rw [hF] at hsum
    omega
theorem gath_no {P : Nat} {k : Int} {E : List (Int × Int)} {a b want : Int} (ha : 0 ≤ a ∧ a < (P : Int)) (hb : 0 ≤ b ∧ b < (P : Int)) (hab : a ≠ b) : ∀ f (s : List Int × List Int), PebS P k E s.1 s.2 → (want - (s.1.getD a.toNat 0 + s.1.getD b.toNat 0)).toNat < f → gath E a b want f s = none →
    ∃ s' : List Int × List Int, PebS P k E s'.1 s'.2 ∧ s'.1.getD a.toNat 0 + s'.1.getD b.toNat 0 < want ∧ findM E a b s' = none ∧ findM E b a s' = none := by
  intro f
  induction f with
  | zero => intro s _ hf; omega
  | succ f ih =>
    intro s h hf e
    unfold gath at e
    by_cases c : s.1.getD a.toNat 0 + s.1.getD b.toNat 0 < want
    · rw [if_pos c] at e
      cases e1 : findM E a b s with
      | some s1 =>
        rw [e1] at e
        have h1 := findM_ok h ha hab hb.1 e1
        exact ih s1 h1.1 (by rw [h1.2.1, h1.2.2]; omega) e
      | none =>
        rw [e1] at e
        cases e2 : findM E b a s with
        | some s1 =>
          rw [e2] at e
          have h1 := findM_ok h hb (Ne.symm hab) ha.1 e2
          exact ih s1 h1.1 (by rw [h1.2.1, h1.2.2]; omega) e
        | none => exact ⟨s, h, c, e1, e2⟩
    · rw [if_neg c] at e
      cases e
theorem mask_of (S : Nat → Bool) (P : Nat) : ∃ m, m < 2 ^ P ∧ ∀ v, v < P → m.testBit v = S v := by
  induction P with
  | zero => exact ⟨0, by simp, fun v hv => by omega⟩
  | succ P ih =>
    obtain ⟨m, h1, h2⟩ := ih
    cases e : S P
    · refine ⟨m, by rw [Nat.pow_succ]; omega, fun v hv => ?_⟩
      by_cases c : v = P
      · subst c
        rw [e]
        exact Nat.testBit_lt_two_pow h1
      · exact h2 v (by omega)
    · refine ⟨m ||| 2 ^ P, Nat.or_lt_two_pow (by rw [Nat.pow_succ]; omega) (Nat.pow_lt_pow_right (by decide) (by omega)), fun v hv => ?_⟩
      rw [Nat.testBit_or]
      by_cases c : v = P
      · subst c
        rw [e, Nat.testBit_two_pow_self, Bool.or_true]
      · rw [h2 v (by omega), Nat.testBit_two_pow]
        have : ¬ P = v := fun h => c h.symm
        simp [this]
theorem outF_mask {P : Nat} {S : Nat → Bool} {m : Nat} (h : ∀ v, v < P → m.testBit v = S v) : outF P S = setL P m := outF_agree P _ _ fun v hv => (h v hv).symm
theorem spanC_mask {P : Nat} {S : Nat → Bool} {m : Nat} (h : ∀ v, v < P → m.testBit v = S v) {E : List (Int × Int)} (hE : ∀ x ∈ E, 0 ≤ x.1 ∧ x.1 < x.2 ∧ x.2 < (P : Int)) : E.countP (spanC S) = cntS E m := by
  unfold cntS
  refine List.countP_congr fun x hx => ?_
  have := hE x hx
  unfold spanC bothB
  rw [h _ (by omega), h _ (by omega)]
end Go.Proofs.Ytdnmmjaelgjkaaa
/- The whole game on lists: what is placed is sparse, and all is placed exactly if the bars are sparse. No program. No condition. -/
namespace Go.Proofs.Ytdnmmjaelgjkaaa

theorem sumS_two (S : Nat → Bool) (f : Nat → Int) (P a b : Nat) (hf : ∀ v, v < P → 0 ≤ f v) (ha : a < P) (hb : b < P) (hab : a ≠ b) (sa : S a = true) (sb : S b = true) : f a + f b ≤ sumS S f P := by
  have e : sumS S f P = sumS S (fun v => (if v = a then f a else 0) + (if v = b then f b else 0)) P + sumS S (fun v => f v - ((if v = a then f a else 0) + (if v = b then f b else 0))) P := by
    rw [← sumS_add]
    exact sumS_congr S _ _ P fun v _ _ => by omega
  have h0 := sumS_nonneg S (fun v => f v - ((if v = a then f a else 0) + (if v = b then f b else 0))) P fun v hv => by
    have h1 := hf v hv
    by_cases c1 : v = a
    · subst c1
      rw [if_pos rfl, if_neg hab]
      omega
    · by_cases c2 : v = b
      · subst c2
        rw [if_neg c1, if_pos rfl]
        omega
      · rw [if_neg c1, if_neg c2]
        omega
  rw [sumS_add, sumS_one S _ a P ha, sumS_one S _ b P hb, sa, sb, if_pos rfl, if_pos rfl] at e
  omega
theorem plE_snoc (l : List (Int × Int)) (Z : List Int) (n : Int) : plE l (Z ++ [n]) = plE l Z ++ [l.getD n.toNat (0, 0)] := by simp [plE]
theorem cntS_snoc (E : List (Int × Int)) (x : Int × Int) (m : Nat) : cntS (E ++ [x]) m = cntS E m + if bothB m x then 1 else 0 := by
  unfold cntS
  rw [List.countP_append, List.countP_cons, List.countP_nil, Nat.zero_add]
theorem plE_bars {P : Nat} {k : Int} {l : List (Int × Int)} {F T Z : List Int} (h : IsPeb (P : Int) k l F T Z) : ∀ x ∈ plE l Z, 0 ≤ x.1 ∧ x.1 < x.2 ∧ x.2 < (P : Int) := by
  intro x hx
  obtain ⟨i, hi, rfl⟩ := List.getElem_of_mem hx
  have h1 := h.state.ends.bar i hi
  have e : (plE l Z).getD i (0, 0) = (plE l Z)[i] := by simp [List.getD, List.getElem?_eq_getElem hi]
  rw [e] at h1
  have := h.2.2.1
  omega
theorem badS_iff {l : List (Int × Int)} {k c : Int} {P m : Nat} : badS l k c P m = true ↔ 0 < cntS l m ∧ k * ((setL P m).length : Int) - c < (cntS l m : Int) := by
  unfold badS
  rw [Bool.and_eq_true, decide_eq_true_eq, decide_eq_true_eq]
theorem badS_not {l : List (Int × Int)} {k c : Int} {P m : Nat} : badS l k c P m = false ↔ ¬ (0 < cntS l m ∧ k * ((setL P m).length : Int) - c < (cntS l m : Int)) := by
  rw [← badS_iff]
  simp
theorem bad_sup {l l' : List (Int × Int)} {k c : Int} {P m : Nat} (hs : l'.Sublist l) (h : badS l' k c P m = true) : badS l k c P m = true := by
  cases e : badS l k c P m with
  | true => rfl
  | false => rw [bad_sub hs e] at h; cases h
/-- A bar that is placed leaves the state sparse. -/
theorem place_sparse {P : Nat} {k c : Int} {l : List (Int × Int)} {F T Z : List Int} (h : IsPeb (P : Int) k l F T Z) {n : Int} (hn : 0 ≤ n ∧ n < (l.length : Int)) {s : List Int × List Int × List Int} (e : plaR l c F T Z n = some s)
    (hsp : ∀ m, badS (plE l Z) k c P m = false) : ∀ m, badS (plE l s.2.2) k c P m = false := by
  unfold plaR at e
  obtain ⟨s1, h1, rfl⟩ := Option.map_eq_some_iff.1 e
  have hb := h.1.2.2 n.toNat (by omega)
  have hp := h.2.2.1
  have hPF : F.length = P := by omega
  unfold OkBar at hb
  obtain ⟨g1, g2⟩ := gathR_ok (P := F.length) (k := k) (by omega) (by omega) (by omega) (by exact h.state) h1
  have ez : (if s1.1.getD (l.getD n.toNat (0, 0)).1.toNat 0 = 0 then (s1.1.set (l.getD n.toNat (0, 0)).2.toNat (s1.1.getD (l.getD n.toNat (0, 0)).2.toNat 0 - 1), s1.2 ++ [(l.getD n.toNat (0, 0)).2], Z ++ [n])
    else (s1.1.set (l.getD n.toNat (0, 0)).1.toNat (s1.1.getD (l.getD n.toNat (0, 0)).1.toNat 0 - 1), s1.2 ++ [(l.getD n.toNat (0, 0)).1], Z ++ [n])).2.2 = Z ++ [n] := by split <;> rfl
  intro m
  rw [ez, plE_snoc]
  rw [hPF] at g1
  generalize l.getD n.toNat (0, 0) = x at *
  have hm := hsp m
  rw [badS_not] at hm ⊢
  rw [cntS_snoc]
  cases hx : bothB m x
  · simpa [hx] using hm
  · have hx' : m.testBit x.1.toNat = true ∧ m.testBit x.2.toNat = true := by
      unfold bothB at hx
      rwa [Bool.and_eq_true] at hx
    have hsum := g1.sum (fun v => m.testBit v)
    have hle := span_le (fun v => m.testBit v) (plE l Z) s1.2 g1.ends.len g1.ends.tail
    have h2 := sumS_two (fun v => m.testBit v) (fun v => s1.1.getD v 0) P x.1.toNat x.2.toNat (fun v hv => (g1.free v hv).1) (by omega) (by omega) (by omega) hx'.1 hx'.2
    have hc : (plE l Z).countP (spanC fun v => m.testBit v) = cntS (plE l Z) m := rfl
    have ho : outF P (fun v => m.testBit v) = setL P m := rfl
    rw [hc] at hle
    rw [ho] at hsum
    simp only [if_true]
    omega
/-- A bar that can't be placed is one too many. -/
theorem place_no {P : Nat} {k c : Int} {l : List (Int × Int)} {F T Z : List Int} (h : IsPeb (P : Int) k l F T Z) {n : Int} (hn : 0 ≤ n ∧ n < (l.length : Int)) (e : plaR l c F T Z n = none) : ∃ m, m < 2 ^ P ∧ badS (plE l Z ++ [l.getD n.toNat (0, 0)]) k c P m = true := by
  unfold plaR at e
  rw [Option.map_eq_none_iff] at e
  have hb := h.1.2.2 n.toNat (by omega)
  have hp := h.2.2.1
  have hPF : F.length = P := by omega
  have hP8 := h.1.1
  have hbars := plE_bars h
  unfold OkBar at hb
  have hst := h.state
  rw [hPF] at hst
  generalize l.getD n.toNat (0, 0) = x at *
  unfold gathR at e
  obtain ⟨s', q1, q2, q3, q4⟩ := gath_no (P := P) (k := k) (E := plE l Z) (a := x.1) (b := x.2) (want := c + 1) (by omega) (by omega) (by omega) _ (F, T) hst (by omega) e
  obtain ⟨S, sa, sb, hk⟩ := full_span (F := s'.1) (T := s'.2) q1 (by omega) (a := x.1) (b := x.2) (by omega) (by omega) (by omega) q3 q4
  obtain ⟨m, hm, hmS⟩ := mask_of S P
  refine ⟨m, hm, badS_iff.2 ?_⟩
  rw [cntS_snoc]
  have hx : bothB m x = true := by
    unfold bothB
    rw [hmS _ (by omega), hmS _ (by omega), sa, sb]
    rfl
  rw [hx, if_pos rfl]
  rw [spanC_mask hmS hbars, outF_mask hmS] at hk
  omega
theorem onlyK_agree (l : List (Int × Int)) (S S' : Nat → Bool) : ∀ k, (∀ i, i < k → S i = S' i) → onlyK l S k = onlyK l S' k := by
  intro k
  induction k with
  | zero => intro _; rfl
  | succ k ih =>
    intro h
    unfold onlyK
    rw [ih fun i hi => h i (by omega), h k (by omega)]
theorem outF_len_agree (k : Nat) (S S' : Nat → Bool) (h : ∀ i, i < k → S i = S' i) : (outF k S).length = (outF k S').length := by rw [outF_agree k S S' h]
/-- All that the law on pebbles asks of the whole game. -/
structure GameR (P : Nat) (k c : Int) (l : List (Int × Int)) (n : Nat) (Z : List Int) : Prop where
  sparse : ∀ m, badS (plE l Z) k c P m = false
  full : Z.length = n ∨ ∃ m, m < 2 ^ P ∧ badS (l.take n) k c P m = true
  sub : (plE l Z).Sublist (l.take n)
  only : onlyK l (inS Z) n = plE l Z
  rest : (outF n (fun i => !inS Z i)).length + Z.length = n
theorem mem_lt {P : Nat} {k : Int} {l : List (Int × Int)} {F T Z : List Int} (h : IsPeb (P : Int) k l F T Z) {n : Nat} (hl : Z ≠ [] → Z.getD (Z.length - 1) 0 < (n : Int)) : ∀ z ∈ Z, z < (n : Int) := by
  intro z hz
  obtain ⟨i, hi, rfl⟩ := List.getElem_of_mem hz
  have h1 := h.last i (Z.length - 1) (by omega) (by omega)
  have h2 := hl (fun e => by rw [e] at hi; simp at hi)
  have e : Z.getD i 0 = Z[i] := by simp [List.getD, List.getElem?_eq_getElem hi]
  rw [e] at h1
  omega
theorem runN_game {P : Nat} {k c : Int} {l : List (Int × Int)} (hG : IsG (P : Int) l) (hk : 1 ≤ k ∧ k ≤ 3) (hc : 0 ≤ c) : ∀ n, n ≤ l.length → GameR P k c l n (runN P k c l n).2.2 := by
  intro n
  induction n with
  | zero =>
    intro _
    exact ⟨fun m => by rw [badS_not]; simp [runN, plE, cntS], .inl rfl, by simp [runN, plE], rfl, rfl⟩
  | succ n ih =>
    intro hn
    have hi := ih (by omega)
    obtain ⟨h1, _, h3⟩ := runN_ok hG hk hc n (by omega)
    have hlt := mem_lt h1 h3
    have ht : l.take (n + 1) = l.take n ++ [l.getD n (0, 0)] := take_getD l (0, 0) n (by omega)
    have htn : ((n : Int)).toNat = n := by omega
    unfold runN
    generalize runN P k c l n = s0 at *
    have hni : inS s0.2.2 n = false := decide_eq_false fun hm => by have := hlt _ hm; omega
    cases e : plaR l c s0.1 s0.2.1 s0.2.2 (n : Int) with
    | none =>
      simp only [Option.getD_none]
      obtain ⟨m, hm, hb⟩ := place_no h1 (n := (n : Int)) (by omega) e
      rw [htn] at hb
      refine ⟨hi.sparse, .inr ⟨m, hm, bad_sup ?_ hb⟩, ?_, ?_, ?_⟩
      · rw [ht]
        exact hi.sub.append (List.Sublist.refl _)
      · rw [ht]
        exact hi.sub.trans (List.sublist_append_left _ _)
      · unfold onlyK
        rw [hni, hi.only]
        simp
      · rw [outF_succ, hni]
        have := hi.rest
        simp
        omega
    | some s =>
      simp only [Option.getD_some]
      have hsp := place_sparse h1 (n := (n : Int)) (by omega) e hi.sparse
      have g2 := (plaR_ok h1 hc (n := (n : Int)) (by omega) h3 e).2
      rw [g2] at hsp ⊢
      have hin : inS (s0.2.2 ++ [(n : Int)]) n = true := decide_eq_true (by simp)
      have hag : ∀ i, i < n → inS (s0.2.2 ++ [(n : Int)]) i = inS s0.2.2 i := fun i hi => by
        unfold inS
        have : ¬ (i : Int) = (n : Int) := by omega
        simp [this]
      refine ⟨hsp, ?_, ?_, ?_, ?_⟩
      · rcases hi.full with hf | ⟨m, hm, hb⟩
        · exact .inl (by simp [hf])
        · exact .inr ⟨m, hm, bad_sup (by rw [ht]; exact List.sublist_append_left _ _) hb⟩
      · rw [ht, plE_snoc, htn]
        exact hi.sub.append (List.Sublist.refl _)
      · unfold onlyK
        rw [hin, if_pos rfl, onlyK_agree l _ _ n hag, hi.only, plE_snoc, htn]
      · rw [outF_succ, hin]
        have := hi.rest
        have e2 := outF_len_agree n (fun i => !inS (s0.2.2 ++ [(n : Int)]) i) (fun i => !inS s0.2.2 i) fun i hi => by simp only [hag i hi]
        simp
        omega
end Go.Proofs.Ytdnmmjaelgjkaaa
/- What a game leaves of a list of bars has the same length whatever their order, and no more if there are fewer bars. Words on lists, of no program. No condition. -/
namespace Go.Proofs.Ytdnmmjaelgjkaaa

/-- No set spans too many. -/
def IndL (P : Nat) (k c : Int) (E : List (Int × Int)) : Prop := ∀ m, badS E k c P m = false
theorem onlyK_cI (l : List (Int × Int)) (S : Nat → Bool) (m : Nat) : ∀ n, cntS (onlyK l S n) m = cI n (fun i => l.getD i (0, 0)) S m := by
  intro n
  induction n with
  | zero => rfl
  | succ n ih =>
    unfold onlyK cI
    rw [List.range_succ, List.countP_append, List.countP_cons, List.countP_nil]
    unfold cI at ih
    rw [← ih]
    cases S n
    · simp
    · simp only [if_true, Bool.true_and]
      rw [cntS_snoc]
      omega
theorem onlyK_size (l : List (Int × Int)) (S : Nat → Bool) : ∀ n, (onlyK l S n).length = szI n S := by
  intro n
  induction n with
  | zero => rfl
  | succ n ih =>
    unfold onlyK szI
    rw [List.range_succ, List.countP_append, List.countP_cons, List.countP_nil, List.length_append, ih]
    unfold szI
    cases S n <;> simp
theorem onlyK_cons (y : Int × Int) (l : List (Int × Int)) (S : Nat → Bool) : ∀ n, onlyK (y :: l) S (n + 1) = (if S 0 then [y] else []) ++ onlyK l (fun i => S (i + 1)) n := by
  intro n
  induction n with
  | zero => simp [onlyK]
  | succ n ih =>
    rw [onlyK, ih, List.append_assoc]
    congr 1
theorem sub_mask {E l : List (Int × Int)} (h : E.Sublist l) : ∃ S, onlyK l S l.length = E := by
  induction h with
  | slnil => exact ⟨fun _ => false, rfl⟩
  | cons y _ ih =>
    obtain ⟨S, hS⟩ := ih
    refine ⟨fun i => match i with | 0 => false | i + 1 => S i, ?_⟩
    rw [List.length_cons, onlyK_cons, hS]
    rfl
  | cons_cons y _ ih =>
    obtain ⟨S, hS⟩ := ih
    refine ⟨fun i => match i with | 0 => true | i + 1 => S i, ?_⟩
    rw [List.length_cons, onlyK_cons, hS]
    rfl
theorem onlyK_sub (l : List (Int × Int)) (S : Nat → Bool) : ∀ n, n ≤ l.length → (onlyK l S n).Sublist (l.take n) := by
  intro n
  induction n with
  | zero => intro _; exact List.nil_sublist _
  | succ n ih =>
    intro hn
    have e : l.take (n + 1) = l.take n ++ [l.getD n (0, 0)] := by
      rw [List.take_succ_eq_append_getElem (by omega)]
      simp [List.getD, List.getElem?_eq_getElem (show n < l.length by omega)]
    rw [onlyK, e]
    refine (ih (by omega)).append ?_
    cases S n
    · exact List.nil_sublist _
    · exact List.Sublist.refl _
theorem indL_I {P : Nat} {k c : Int} {l : List (Int × Int)} {S : Nat → Bool} {n : Nat} : IndL P k c (onlyK l S n) ↔ IndI P k c n (fun i => l.getD i (0, 0)) S := by
  constructor
  · intro h m hm
    have := h m
    rw [badS_not, onlyK_cI, wid_set] at this
    omega
  · intro h m
    rw [badS_not, onlyK_cI, wid_set]
    rintro ⟨h1, h2⟩
    have := h m h1
    omega
/-- What a game leaves: bars that are independent, and each other bar is one too many. -/
structure Greedy (P : Nat) (k c : Int) (l E : List (Int × Int)) (S : Nat → Bool) : Prop where
  only : onlyK l S l.length = E
  ind : IndL P k c E
  rest : ∀ i, i < l.length → S i = false → ∃ m, badS (E ++ [l.getD i (0, 0)]) k c P m = true
structure Bars (P : Nat) (l : List (Int × Int)) : Prop where
  bar : ∀ i, i < l.length → 0 ≤ (l.getD i (0, 0)).1 ∧ (l.getD i (0, 0)).1 < (l.getD i (0, 0)).2 ∧ (l.getD i (0, 0)).2 < (P : Int)
/-- No independent part is greater. -/
theorem Greedy.most {P : Nat} {k c : Int} {l E : List (Int × Int)} {S : Nat → Bool} (h : Greedy P k c l E S) (hb : Bars P l) (hk : 1 ≤ k) (hc : 0 ≤ c) (hc2 : c < 2 * k) {E' : List (Int × Int)} (hs : E'.Sublist l) (hi : IndL P k c E') : E'.length ≤ E.length := by
  obtain ⟨J, rfl⟩ := sub_mask hs
  have g : Grd P k c l.length (fun i => l.getD i (0, 0)) := ⟨hb.bar, hk, hc, hc2⟩
  rw [onlyK_size, ← h.only, onlyK_size]
  have hI : IndI P k c l.length (fun i => l.getD i (0, 0)) S := indL_I.1 (by rw [h.only]; exact h.ind)
  refine block_le g (indL_I.1 hi) _ S rfl hI fun j hj _ => ?_
  cases e : S j with
  | true => exact .inl e
  | false =>
    right
    obtain ⟨m, hm⟩ := h.rest j hj e
    have h0 := h.ind m
    rw [badS_iff, cntS_snoc, wid_set] at hm
    rw [badS_not, wid_set] at h0
    rw [← h.only, onlyK_cI] at hm h0
    cases b : bothB m (l.getD j (0, 0)) with
    | false =>
      rw [b] at hm
      simp only [Bool.false_eq_true, if_false, Nat.add_zero] at hm
      exact absurd hm h0
    | true =>
      refine ⟨m, ?_, b⟩
      rw [b, if_pos rfl] at hm
      have hw := kw_pos g.k1 g.c2 (g.two hj b)
      have hIm := hI m
      unfold TightI
      by_cases z : 0 < cI l.length (fun i => l.getD i (0, 0)) S m
      · have := hIm z
        omega
      · omega
theorem Greedy.sub {P : Nat} {k c : Int} {l E : List (Int × Int)} {S : Nat → Bool} (h : Greedy P k c l E S) : E.Sublist l := by
  have := onlyK_sub l S l.length (Nat.le_refl _)
  rwa [List.take_length, h.only] at this
theorem indL_perm {P : Nat} {k c : Int} {E E' : List (Int × Int)} (p : E.Perm E') (h : IndL P k c E) : IndL P k c E' := by
  intro m
  have := h m
  unfold badS cntS at *
  rwa [← p.countP_eq]
theorem Greedy.mono {P : Nat} {k c : Int} {l l' E E' : List (Int × Int)} {S S' : Nat → Bool} (h : Greedy P k c l E S) (h' : Greedy P k c l' E' S') (hb : Bars P l) (hk : 1 ≤ k) (hc : 0 ≤ c) (hc2 : c < 2 * k) (hs : l'.Sublist l) : E'.length ≤ E.length :=
  h.most hb hk hc hc2 (h'.sub.trans hs) h'.ind
theorem Greedy.perm_le {P : Nat} {k c : Int} {l l' E E' : List (Int × Int)} {S S' : Nat → Bool} (h : Greedy P k c l E S) (h' : Greedy P k c l' E' S') (hb : Bars P l) (hk : 1 ≤ k) (hc : 0 ≤ c) (hc2 : c < 2 * k) (p : l'.Perm l) : E'.length ≤ E.length := by
  obtain ⟨E'', h1, h2⟩ := List.exists_perm_sublist h'.sub p
  rw [← h1.length_eq]
  exact h.most hb hk hc hc2 h2 (indL_perm h1.symm h'.ind)
end Go.Proofs.Ytdnmmjaelgjkaaa
/- The pebble game leaves a greatest part that the counts allow, so its rank asks not for the order of the bars. Words on lists, of no program. No condition. -/
namespace Go.Proofs.Ytdnmmjaelgjkaaa

theorem PebS.push {P : Nat} {k : Int} {E : List (Int × Int)} {F T : List Int} (h : PebS P k E F T) {y : Int × Int} (hy : 0 ≤ y.1 ∧ y.1 < y.2 ∧ y.2 < (P : Int)) {t : Int} (ht : isEnd y t) (hf : 0 < F.getD t.toNat 0) :
    PebS P k (E ++ [y]) (F.set t.toNat (F.getD t.toNat 0 - 1)) (T ++ [t]) := by
  obtain ⟨h1, ⟨h2, h3, h4⟩, h5⟩ := h
  have htr : 0 ≤ t ∧ t < (P : Int) := by unfold isEnd at ht; omega
  have eE : (E ++ [y]).getD E.length (0, 0) = y := by simp [List.getD]
  have eT : (T ++ [t]).getD E.length 0 = t := by rw [← h2]; simp [List.getD]
  have lE : ∀ i, i < E.length → (E ++ [y]).getD i (0, 0) = E.getD i (0, 0) := fun i hi => by simp only [List.getD]; rw [List.getElem?_append_left hi]
  have lT : ∀ i, i < E.length → (T ++ [t]).getD i 0 = T.getD i 0 := fun i hi => by simp only [List.getD]; rw [List.getElem?_append_left (by omega)]
  refine ⟨by rw [List.length_set]; exact h1, ⟨by simp [h2], fun i hi => ?_, fun i hi => ?_⟩, fun v hv => ?_⟩
  · rw [List.length_append, List.length_cons, List.length_nil] at hi
    by_cases e : i = E.length
    · subst e
      rw [eE]
      exact hy
    · rw [lE i (by omega)]
      exact h3 i (by omega)
  · rw [List.length_append, List.length_cons, List.length_nil] at hi
    by_cases e : i = E.length
    · subst e
      rw [eE, eT]
      exact ht
    · rw [lE i (by omega), lT i (by omega)]
      exact h4 i (by omega)
  · have hc := h5 v hv
    rw [List.count_append, List.count_singleton]
    by_cases e : v = t.toNat
    · subst e
      have e1 : ((t.toNat : Nat) : Int) = t := by omega
      rw [set_getD_eq _ _ _ _ (by omega)]
      rw [e1] at hc ⊢
      have e4 : (t == t) = true := by simp
      rw [if_pos e4]
      constructor
      · omega
      · rw [Int.natCast_add]
        omega
    · rw [set_getD_ne _ _ _ _ _ e]
      have e4 : ¬ ((t == (v : Int)) = true) := by simp; omega
      rw [if_neg e4]
      exact hc
/-- The bar y between a and b. -/
def Between (y : Int × Int) (a b : Int) : Prop := (y.1 = a ∧ y.2 = b) ∨ (y.1 = b ∧ y.2 = a)
theorem PebS.barsE {P : Nat} {k : Int} {E : List (Int × Int)} {F T : List Int} (h : PebS P k E F T) : ∀ x ∈ E, 0 ≤ x.1 ∧ x.1 < x.2 ∧ x.2 < (P : Int) := by
  intro x hx
  obtain ⟨i, hi, rfl⟩ := List.getElem_of_mem hx
  have h1 := h.ends.bar i hi
  have e : E.getD i (0, 0) = E[i] := by simp [List.getD, List.getElem?_eq_getElem hi]
  rwa [e] at h1
theorem gathE_no {P : Nat} {k c : Int} {E : List (Int × Int)} {F T : List Int} (h : PebS P k E F T) (hP : P ≤ 8) {a b : Int} {y : Int × Int} (hy : 0 ≤ y.1 ∧ y.1 < y.2 ∧ y.2 < (P : Int)) (hab : Between y a b) (e : gathR E a b (c + 1) (F, T) = none) : ∃ m, badS (E ++ [y]) k c P m = true := by
  have hbars := h.barsE
  unfold Between at hab
  unfold gathR at e
  obtain ⟨s', q1, q2, q3, q4⟩ := gath_no (P := P) (k := k) (E := E) (a := a) (b := b) (want := c + 1) (by omega) (by omega) (by omega) _ (F, T) h (by omega) e
  obtain ⟨S, sa, sb, hk⟩ := full_span (F := s'.1) (T := s'.2) q1 hP (a := a) (b := b) (by omega) (by omega) (by omega) q3 q4
  obtain ⟨m, hm, hmS⟩ := mask_of S P
  refine ⟨m, badS_iff.2 ?_⟩
  rw [cntS_snoc]
  have hx : bothB m y = true := by
    unfold bothB
    rw [hmS _ (by omega), hmS _ (by omega)]
    rcases hab with ⟨u1, u2⟩ | ⟨u1, u2⟩
    · rw [u1, u2, sa, sb]; rfl
    · rw [u1, u2, sa, sb]; rfl
  rw [hx, if_pos rfl]
  rw [spanC_mask hmS hbars, outF_mask hmS] at hk
  omega
theorem gathE_yes {P : Nat} {k c : Int} {E : List (Int × Int)} {F T : List Int} (h : PebS P k E F T) {a b : Int} {y : Int × Int} (hy : 0 ≤ y.1 ∧ y.1 < y.2 ∧ y.2 < (P : Int)) (hab : Between y a b) {s : List Int × List Int} (e : gathR E a b (c + 1) (F, T) = some s)
    (hsp : IndL P k c E) : IndL P k c (E ++ [y]) := by
  unfold Between at hab
  obtain ⟨g1, g2⟩ := gathR_ok (P := P) (k := k) (by omega) (by omega) (by omega) h e
  intro m
  have hm := hsp m
  rw [badS_not] at hm ⊢
  rw [cntS_snoc]
  cases hx : bothB m y
  · simpa [hx] using hm
  · have hx' : m.testBit y.1.toNat = true ∧ m.testBit y.2.toNat = true := by
      unfold bothB at hx
      rwa [Bool.and_eq_true] at hx
    have hsum := g1.sum (fun v => m.testBit v)
    have hle := span_le (fun v => m.testBit v) E s.2 g1.ends.len g1.ends.tail
    have h2 := sumS_two (fun v => m.testBit v) (fun v => s.1.getD v 0) P y.1.toNat y.2.toNat (fun v hv => (g1.free v hv).1) (by omega) (by omega) (by omega) hx'.1 hx'.2
    have hc : E.countP (spanC fun v => m.testBit v) = cntS E m := rfl
    have ho : outF P (fun v => m.testBit v) = setL P m := rfl
    rw [hc] at hle
    rw [ho] at hsum
    have h3 : c + 1 ≤ s.1.getD y.1.toNat 0 + s.1.getD y.2.toNat 0 := by
      rcases hab with ⟨u1, u2⟩ | ⟨u1, u2⟩
      · rw [u1, u2]; exact g2
      · rw [u1, u2]; omega
    simp only [if_true]
    omega
/-- Which end of the bar is asked first makes no difference. -/
theorem gathE_iff {P : Nat} {k c : Int} {E : List (Int × Int)} {F T : List Int} (h : PebS P k E F T) (hP : P ≤ 8) (hi : IndL P k c E) {a b : Int} {y : Int × Int} (hy : 0 ≤ y.1 ∧ y.1 < y.2 ∧ y.2 < (P : Int)) (hab : Between y a b) :
    gathR E a b (c + 1) (F, T) = none ↔ ∃ m, badS (E ++ [y]) k c P m = true := by
  constructor
  · exact gathE_no h hP hy hab
  · rintro ⟨m, hm⟩
    cases e : gathR E a b (c + 1) (F, T) with
    | none => rfl
    | some s =>
      rw [gathE_yes h hy hab e hi m] at hm
      cases hm
/-- The state of a game after n bars, of a list that may be of any length. -/
structure GmI (P : Nat) (k c : Int) (l : List (Int × Int)) (n : Nat) (s : List Int × List Int × List Int) : Prop where
  st : PebS P k (plE l s.2.2) s.1 s.2.1
  zs : ∀ z ∈ s.2.2, 0 ≤ z ∧ z < (n : Int)
  only : onlyK l (inS s.2.2) n = plE l s.2.2
  ind : IndL P k c (plE l s.2.2)
  rest : ∀ i, i < n → inS s.2.2 i = false → ∃ m, badS (plE l s.2.2 ++ [l.getD i (0, 0)]) k c P m = true
theorem bad_more {P : Nat} {k c : Int} {E : List (Int × Int)} {x y : Int × Int} (h : ∃ m, badS (E ++ [x]) k c P m = true) : ∃ m, badS (E ++ [y] ++ [x]) k c P m = true := by
  obtain ⟨m, hm⟩ := h
  exact ⟨m, bad_sup ((List.sublist_append_left E [y]).append (List.Sublist.refl [x])) hm⟩
/-- A bar that is placed. -/
theorem plaE_push {P : Nat} {k c : Int} {l : List (Int × Int)} {F T Z : List Int} (h : PebS P k (plE l Z) F T) (hc : 0 ≤ c) {n : Nat} (hy : 0 ≤ (l.getD n (0, 0)).1 ∧ (l.getD n (0, 0)).1 < (l.getD n (0, 0)).2 ∧ (l.getD n (0, 0)).2 < (P : Int)) {s : List Int × List Int × List Int} (e : plaR l c F T Z (n : Int) = some s) :
    s.2.2 = Z ++ [(n : Int)] ∧ PebS P k (plE l Z ++ [l.getD n (0, 0)]) s.1 s.2.1 ∧ ∃ s1, gathR (plE l Z) (l.getD n (0, 0)).1 (l.getD n (0, 0)).2 (c + 1) (F, T) = some s1 := by
  unfold plaR at e
  rw [Int.toNat_natCast] at e
  obtain ⟨s1, h1, rfl⟩ := Option.map_eq_some_iff.1 e
  obtain ⟨g1, g2⟩ := gathR_ok (P := P) (k := k) (by omega) (by omega) (by omega) h h1
  split
  · exact ⟨rfl, g1.push hy (.inr rfl) (by omega), s1, h1⟩
  · rename_i h0
    have := g1.small (v := (l.getD n (0, 0)).1) (by omega)
    exact ⟨rfl, g1.push hy (.inl rfl) (by omega), s1, h1⟩
theorem runN_gm {P : Nat} {k c : Int} {l : List (Int × Int)} (hb : Bars P l) (hP : 1 ≤ P ∧ P ≤ 8) (hk : 1 ≤ k) (hc : 0 ≤ c) : ∀ n, n ≤ l.length → GmI P k c l n (runN P k c l n) := by
  intro n
  induction n with
  | zero =>
    intro _
    refine ⟨⟨by simp [runN], ⟨rfl, fun i hi => absurd hi (by simp [runN, plE]), fun i hi => absurd hi (by simp [runN, plE])⟩, fun v hv => ?_⟩, fun z hz => absurd hz (by simp [runN]), rfl, fun m => by rw [badS_not]; simp [runN, plE, cntS], fun i hi => by omega⟩
    simp [runN, List.getD, hv]
    omega
  | succ n ih =>
    intro hn
    have hi := ih (by omega)
    have hy := hb.bar n (by omega)
    unfold runN
    generalize runN P k c l n = s0 at *
    have hni : inS s0.2.2 n = false := decide_eq_false fun hm => by have := hi.zs _ hm; omega
    cases e : plaR l c s0.1 s0.2.1 s0.2.2 (n : Int) with
    | none =>
      simp only [Option.getD_none]
      have e2 : gathR (plE l s0.2.2) (l.getD n (0, 0)).1 (l.getD n (0, 0)).2 (c + 1) (s0.1, s0.2.1) = none := by
        unfold plaR at e
        rw [Int.toNat_natCast, Option.map_eq_none_iff] at e
        exact e
      refine ⟨hi.st, fun z hz => by have := hi.zs z hz; omega, ?_, hi.ind, fun i hin hiS => ?_⟩
      · unfold onlyK
        rw [hni, hi.only]
        simp
      · by_cases c1 : i = n
        · subst c1
          exact gathE_no hi.st hP.2 hy (.inl ⟨rfl, rfl⟩) e2
        · exact hi.rest i (by omega) hiS
    | some s =>
      simp only [Option.getD_some]
      obtain ⟨g1, g2, s1, g3⟩ := plaE_push hi.st hc hy e
      have hag : ∀ i, i < n → inS (s0.2.2 ++ [(n : Int)]) i = inS s0.2.2 i := fun i hi => by
        unfold inS
        have : ¬ (i : Int) = (n : Int) := by omega
        simp [this]
      have hin : inS (s0.2.2 ++ [(n : Int)]) n = true := decide_eq_true (by simp)
      have hE : plE l s.2.2 = plE l s0.2.2 ++ [l.getD n (0, 0)] := by rw [g1, plE_snoc, Int.toNat_natCast]
      refine ⟨by rw [hE]; exact g2, fun z hz => ?_, ?_, by rw [hE]; exact gathE_yes hi.st hy (.inl ⟨rfl, rfl⟩) g3 hi.ind, fun i hin' hiS => ?_⟩
      · rw [g1] at hz
        rcases List.mem_append.1 hz with h | h
        · have := hi.zs z h; omega
        · rw [List.mem_singleton] at h; omega
      · rw [hE, g1]
        unfold onlyK
        rw [hin, if_pos rfl, onlyK_agree l _ _ n hag, hi.only]
      · rw [hE]
        rw [g1] at hiS
        by_cases c1 : i = n
        · subst c1
          rw [hin] at hiS
          cases hiS
        · rw [hag i (by omega)] at hiS
          exact bad_more (hi.rest i (by omega) hiS)
/-- The rank of a list of bars. -/
def rk (P : Nat) (k c : Int) (l : List (Int × Int)) : Nat := (runN P k c l l.length).2.2.length
theorem rk_greedy {P : Nat} {k c : Int} {l : List (Int × Int)} (hb : Bars P l) (hP : 1 ≤ P ∧ P ≤ 8) (hk : 1 ≤ k) (hc : 0 ≤ c) : Greedy P k c l (plE l (runN P k c l l.length).2.2) (inS (runN P k c l l.length).2.2) := by
  have h := runN_gm hb hP hk hc l.length (Nat.le_refl _)
  exact ⟨h.only, h.ind, h.rest⟩
/-- Fewer bars, no more rank. -/
theorem rk_mono {P : Nat} {k c : Int} {l l' : List (Int × Int)} (hb : Bars P l) (hb' : Bars P l') (hP : 1 ≤ P ∧ P ≤ 8) (hk : 1 ≤ k) (hc : 0 ≤ c) (hc2 : c < 2 * k) (hs : l'.Sublist l) : rk P k c l' ≤ rk P k c l := by
  have := (rk_greedy hb hP hk hc).mono (rk_greedy hb' hP hk hc) hb hk hc hc2 hs
  rwa [plE_len, plE_len] at this
theorem rk_perm {P : Nat} {k c : Int} {l l' : List (Int × Int)} (hb : Bars P l) (hb' : Bars P l') (hP : 1 ≤ P ∧ P ≤ 8) (hk : 1 ≤ k) (hc : 0 ≤ c) (hc2 : c < 2 * k) (p : l'.Perm l) : rk P k c l' = rk P k c l := by
  have h1 := (rk_greedy hb hP hk hc).perm_le (rk_greedy hb' hP hk hc) hb hk hc hc2 p
  have h2 := (rk_greedy hb' hP hk hc).perm_le (rk_greedy hb hP hk hc) hb' hk hc hc2 p.symm
  rw [plE_len, plE_len] at h1 h2
  exact Nat.le_antisymm h1 h2
theorem plE_app {l : List (Int × Int)} (r : List (Int × Int)) {Z : List Int} (h : ∀ z ∈ Z, 0 ≤ z ∧ z < (l.length : Int)) : plE (l ++ r) Z = plE l Z := by
  unfold plE
  refine List.map_congr_left fun z hz => ?_
  have := h z hz
  simp only [List.getD]
  rw [List.getElem?_append_left (by omega)]
theorem runN_app {P : Nat} {k c : Int} {l : List (Int × Int)} (r : List (Int × Int)) (hb : Bars P l) (hP : 1 ≤ P ∧ P ≤ 8) (hk : 1 ≤ k) (hc : 0 ≤ c) : ∀ n, n ≤ l.length → runN P k c (l ++ r) n = runN P k c l n := by
  intro n
  induction n with
  | zero => intro _; rfl
  | succ n ih =>
    intro hn
    have h := runN_gm hb hP hk hc n (by omega)
    unfold runN
    rw [ih (by omega)]
    generalize runN P k c l n = s0 at *
    have e1 : plE (l ++ r) s0.2.2 = plE l s0.2.2 := plE_app r fun z hz => by have := h.zs z hz; omega
    have e2 : (l ++ r).getD (n : Int).toNat (0, 0) = l.getD (n : Int).toNat (0, 0) := by
      simp only [List.getD]
      rw [List.getElem?_append_left (by omega)]
    unfold plaR
    rw [e1, e2]
theorem bars_snoc {P : Nat} {l : List (Int × Int)} (hb : Bars P l) {y : Int × Int} (hy : 0 ≤ y.1 ∧ y.1 < y.2 ∧ y.2 < (P : Int)) : Bars P (l ++ [y]) := by
  refine ⟨fun i hi => ?_⟩
  rw [List.length_append, List.length_cons, List.length_nil] at hi
  by_cases e : i = l.length
  · subst e
    have : (l ++ [y]).getD l.length (0, 0) = y := by simp [List.getD]
    rw [this]
    exact hy
  · have : (l ++ [y]).getD i (0, 0) = l.getD i (0, 0) := by simp only [List.getD]; rw [List.getElem?_append_left (by omega)]
    rw [this]
    exact hb.bar i (by omega)
theorem bars_perm {P : Nat} {l l' : List (Int × Int)} (hb : Bars P l) (p : l'.Perm l) : Bars P l' := by
  refine ⟨fun i hi => ?_⟩
  have e : l'.getD i (0, 0) = l'[i] := by simp [List.getD, List.getElem?_eq_getElem hi]
  rw [e]
  have hm : l'[i] ∈ l := p.mem_iff.1 (List.getElem_mem hi)
  obtain ⟨j, hj, ej⟩ := List.getElem_of_mem hm
  have h := hb.bar j hj
  have e2 : l.getD j (0, 0) = l[j] := by simp [List.getD, List.getElem?_eq_getElem hj]
  rw [e2, ej] at h
  exact h
/-- One bar more raises the rank exactly if its ends can have a pebble more than c. -/
theorem rk_one {P : Nat} {k c : Int} {l l' : List (Int × Int)} (hb : Bars P l) (hP : 1 ≤ P ∧ P ≤ 8) (hk : 1 ≤ k) (hc : 0 ≤ c) (hc2 : c < 2 * k) {a b : Int} {y : Int × Int} (hy : 0 ≤ y.1 ∧ y.1 < y.2 ∧ y.2 < (P : Int)) (hab : Between y a b) (p : l'.Perm (l ++ [y])) :
    rk P k c l' = rk P k c l ↔ gathR (plE l (runN P k c l l.length).2.2) a b (c + 1) ((runN P k c l l.length).1, (runN P k c l l.length).2.1) = none := by
  have hb1 := bars_snoc hb hy
  rw [rk_perm hb1 (bars_perm hb1 p) hP hk hc hc2 p]
  have h := runN_gm hb hP hk hc l.length (Nat.le_refl _)
  have e0 := runN_app [y] hb hP hk hc l.length (Nat.le_refl _)
  have e2 : (l ++ [y]).getD l.length (0, 0) = y := by simp [List.getD]
  rw [gathE_iff h.st hP.2 h.ind hy hab, ← gathE_iff h.st hP.2 h.ind hy (.inl ⟨rfl, rfl⟩)]
  unfold rk
  rw [List.length_append, List.length_cons, List.length_nil, Nat.zero_add, runN, e0]
  generalize runN P k c l l.length = s0 at *
  have e1 : plE (l ++ [y]) s0.2.2 = plE l s0.2.2 := plE_app [y] h.zs
  unfold plaR
  rw [Int.toNat_natCast, e1, e2]
  cases gathR (plE l s0.2.2) y.1 y.2 (c + 1) (s0.1, s0.2.1) with
  | none => simp
  | some s => simp; split <;> simp
end Go.Proofs.Ytdnmmjaelgjkaaa
/- Copies of rows of bars: words on rows of the call's own. No condition. -/
namespace Go.Proofs.Ytdnmmjaelgjkaaa
open Go.RowKit

theorem barCells_at {w : World} {b off : Nat} {l : List (Int × Int)} (h : ∀ k, k < l.length → w.cell? ⟨b, off + k * 2, none⟩ = some (.int .i64 (l.getD k (0, 0)).1) ∧ w.cell? ⟨b, off + k * 2 + 1, none⟩ = some (.int .i64 (l.getD k (0, 0)).2)) : ∀ j u, (barCells l)[j]? = some u → w.cell? ⟨b, off + j, none⟩ = some u := by
  intro j u hj
  have hlt : j < l.length * 2 := by
    have := (List.getElem?_eq_some_iff.1 hj).1
    rwa [barCells_len] at this
  have hj2 : j = j / 2 * 2 ∨ j = j / 2 * 2 + 1 := by omega
  have hk : j / 2 < l.length := by omega
  generalize j / 2 = k at *
  have hg := barCells_get l k hk
  have hc := h k hk
  rcases hj2 with rfl | rfl
  · rw [hg.1] at hj
    cases hj
    exact hc.1
  · rw [hg.2] at hj
    cases hj
    exact hc.2
theorem barCells_one (l : List (Int × Int)) : ∀ u ∈ barCells l, u.oneCell' = true := by
  intro u hu
  obtain ⟨x, _, hx⟩ := List.mem_flatMap.1 hu
  simp at hx
  rcases hx with rfl | rfl <;> rfl

/-- A row of bars of the call's own. -/
def RowO (w : World) (l : List (Int × Int)) (e : Ending) (w' : World) : Prop :=
  ∃ A2 c2, e = .returned (.slice A2 l.length c2) ∧ w'.ownsRow w.heap.size 85 2 (.slice A2 l.length c2) l.length (barCells l) ∧ Below w.heap.size w w'

/-- An append onto a row of the call's own, as one step of a region that draws its order. -/
theorem step_own {P : Program} {w : World} {ops : Array Oper} {o : Oper} {a : Act} {K : Act → World → Prop} {Q : Exit → Act → World → Prop} {E : Prop} (hgd : o.guard = none) (s x : Operand) (t : TypeId)
    (ho : o.op = .call { callee := .builtin .append, args := #[s, x], argTypes := #[t, t] })
    (base : Nat) (e : TypeId) (i : TypeInfo) (z : Value) (size bytes : Nat) (ht : P.underlying t = some (.slice e)) (hi : P.info? e = some i) (hz : i.zero = some z)
    (hsize : i.size = size) (hby : i.bytes = bytes) (hzs : z.cells.size = size) (hsz : 0 < size)
    (v : Value) (n : Nat) (xs : List Value) (hs : a.eval s = v) (hown : w.ownsRow base e size v n xs)
    (ad : Addr) (m c : Nat) (news : List Value) (hx : a.eval x = .slice (some ad) m c) (hl : news.length = m * size) (hnews : ∀ j u, news[j]? = some u → w.cell? (ad.add j) = some u) (h1 : ∀ u ∈ news, u.oneCell' = true)
    (h63 : n + m ≤ maxLen) (hbytes : (n + m) * bytes ≤ 140737488355328) (hbase : base ≤ w.heap.size)
    (h : ∀ v' w', w'.ownsRow base e size v' (n + m) (xs ++ news) → w.grownBy w' v.ownBlock → K (a.put o.dst v') w') :
    if Region.wanted o (yielded ops a.tmps) = true then Oper.wp P o a w K Q else E := by
  have hw : Region.wanted o (yielded ops a.tmps) = true := by simp [Region.wanted, hgd]
  rw [if_pos hw]
  exact wp_append_own w s x t ho base e i z size bytes ht hi hz hsize hby hzs hsz v n xs hs hown ad m c news hx hl hnews h1 h63 hbytes hbase fun v' w' h2 h3 _ => h v' w' h2 h3

/-- The answer's variable r is written behind a row of the call's own. -/
theorem row_ret {w w3 : World} {r B' : Nat} {A2 : Option Addr} {c2 : Nat} {l : List (Int × Int)} (ho : w3.ownsRow B' 85 2 (.slice A2 l.length c2) l.length (barCells l)) (hB : Below w.heap.size w w3) (h1 : w.heap.size ≤ r) (h2 : r < B') (u v : Value) :
    OwnIn ((w3.setCell ⟨r, 0, none⟩ u).setCell ⟨r, 1, none⟩ v) w.heap.size ((w3.setCell ⟨r, 0, none⟩ u).setCell ⟨r, 1, none⟩ v).heap.size A2 c2 l ∧ Below w.heap.size w ((w3.setCell ⟨r, 0, none⟩ u).setCell ⟨r, 1, none⟩ v) := by
  have hg := (grownBy_set w3 r 0 u).trans_ (grownBy_set (w3.setCell ⟨r, 0, none⟩ u) r 1 v)
  refine ⟨own_in' ((own_base ho (by omega)).kept hg ?_), hB.grown hg hB.size fun g e => by cases e; exact h1⟩
  cases A2 with
  | none => exact .inl rfl
  | some a =>
    have := (ho.lt a.block rfl).1
    exact .inr (by simp [Value.ownBlock]; omega)
theorem OwnIn.drew {w : World} {lo : Nat} {A : Option Addr} {c : Nat} {l : List (Int × Int)} (h : OwnIn w lo w.heap.size A c l) : OwnIn w.drew lo w.drew.heap.size A c l := h.within (within_of ((Below.refl _ _).drew)) (by omega)
theorem ret_cells {w3 : World} {r : Nat} {p u : Int} {a v : Value} (h0 : w3.cell? ⟨r, 0, none⟩ = some (.int .i64 u)) (h1 : w3.cell? ⟨r, 1, none⟩ = some a) :
    ((w3.setCell ⟨r, 0, none⟩ (.int .i64 p)).setCell ⟨r, 1, none⟩ v).cell? ⟨r, 0, none⟩ = some (.int .i64 p) ∧ ((w3.setCell ⟨r, 0, none⟩ (.int .i64 p)).setCell ⟨r, 1, none⟩ v).cell? ⟨r, 1, none⟩ = some v := by
  constructor
  · rw [World.cell?_setCell_other _ _ _ _ (by intro e; simp at e)]
    exact World.cell?_setCell_same _ _ _ h0
  · have r2 : (w3.setCell ⟨r, 0, none⟩ (.int .i64 p)).cell? ⟨r, 1, none⟩ = some a := by
      rw [World.cell?_setCell_other _ _ _ _ (by intro e; simp at e)]
      exact h1
    exact World.cell?_setCell_same _ _ _ r2

end Go.Proofs.Ytdnmmjaelgjkaaa
/- What spec.l2Copy answers: a copy of the call's own. No condition. -/
namespace Go.Proofs.Ytdnmmjaelgjkaaa
open Go.RowKit

set_option maxHeartbeats 2000000 in
set_option maxRecDepth 100000 in
theorem copy_c (p : Int) (l : List (Int × Int)) (a : Addr) (cap : Nat) (w : World) (hl : BarsAt w w.heap.size (some a) l) (hn : l.length ≤ 1048576) :
    Calls Try.prog 142 #[.agg #[.int .i64 p, .slice (some a) l.length cap]] w (GraphO w p l) := by
  obtain ⟨i0, hi0, hz0, hz1, hz2⟩ := info_parts infoBar
  have hA1 := new_below w (.cells #[.int .i64 p, .slice (some a) l.length cap] 29)
  have hA2 := new_below (w.alloc (.cells #[.int .i64 p, .slice (some a) l.length cap] 29)) (.cells #[.int .i64 0, .slice none 0 0] 29)
  have hA := below_on hA1 hA2 hA1.size
  have hsz1 : (w.alloc (.cells #[.int .i64 p, .slice (some a) l.length cap] 29)).heap.size = w.heap.size + 1 := by simp
  have hsz2 : ((w.alloc (.cells #[.int .i64 p, .slice (some a) l.length cap] 29)).alloc (.cells #[.int .i64 0, .slice none 0 0] 29)).heap.size = w.heap.size + 2 := by simp
  have hX := (box_new w p (.slice (some a) l.length cap) 29).kept hA2
  have hR := box_new (w.alloc (.cells #[.int .i64 p, .slice (some a) l.length cap] 29)) 0 (.slice none 0 0) 29
  have hF : ((w.alloc (.cells #[.int .i64 p, .slice (some a) l.length cap] 29)).alloc (.cells #[.int .i64 0, .slice none 0 0] 29)).frozen? ⟨(w.alloc (.cells #[.int .i64 p, .slice (some a) l.length cap] 29)).heap.size, 0, none⟩ = false ∧ ((w.alloc (.cells #[.int .i64 p, .slice (some a) l.length cap] 29)).alloc (.cells #[.int .i64 0, .slice none 0 0] 29)).frozen? ⟨(w.alloc (.cells #[.int .i64 p, .slice (some a) l.length cap] 29)).heap.size, 1, none⟩ = false := ⟨World.frozen?_alloc_at _ _ _ _ rfl, World.frozen?_alloc_at _ _ _ _ rfl⟩
  rw [hsz1] at hR hF
  have HLA := Lib.hid (hl.on hA)
  go_enter Try.func142, Try.ntmps142
  go_wp2_with fail
  generalize ((w.alloc (.cells #[.int .i64 p, .slice (some a) l.length cap] 29)).alloc (.cells #[.int .i64 0, .slice none 0 0] 29)) = w1 at *
  have hal := new_below w1 (.cells #[] 85)
  have HM := Lib.hid (World.ownsRow_made (base := w1.heap.size) (e := 85) (size := 2) w1 #[] 0 (Nat.le_refl _) (by unfold maxLen; omega) (by simp))
  have HC := Lib.hid (show ∀ j u, (barCells l)[j]? = some u → ((w1.alloc (.cells #[] 85)).drew).cell? (a.add j) = some u from fun j u hj => by
    have hlt : j < l.length * 2 := by
      have := (List.getElem?_eq_some_iff.1 hj).1
      rwa [barCells_len] at this
    obtain ⟨b, off, e, hb, hc⟩ := HLA.out (by omega)
    cases e
    have hadd : (⟨b, off, none⟩ : Addr).add j = ⟨b, off + j, none⟩ := by unfold Addr.add; split <;> simp_all
    rw [hadd]
    exact (hal.cell (p := ⟨b, off + j, none⟩) hb).trans (barCells_at hc j u hj))
  have HAD := Lib.hid (below_on hA hal hA.size)
  have HXD := Lib.hid (hX.kept hal)
  have HRD := Lib.hid (hR.kept hal)
  have HFD := Lib.hid (show (w1.alloc (.cells #[] 85)).frozen? ⟨w.heap.size + 1, 0, none⟩ = false ∧ (w1.alloc (.cells #[] 85)).frozen? ⟨w.heap.size + 1, 1, none⟩ = false from ⟨(hal.frozen (p := ⟨w.heap.size + 1, 0, none⟩) hR.1).trans hF.1, (hal.frozen (p := ⟨w.heap.size + 1, 1, none⟩) hR.1).trans hF.2⟩)
  obtain ⟨_, x0, x1⟩ := hX
  have HSZ := Lib.hid hsz2
  clear hl hA1 hA2 hA hsz1 hsz2 hR hF hal
  go_region_law (refine step_own (by rfl) _ _ _ (by rfl) w1.heap.size 85 i0 _ 2 16 Try.underlying27 hi0 hz0 hz1 hz2 rfl (by omega) _ 0 [] (by rfl) HM.out.drew a l.length cap (barCells l) (by rfl) (barCells_len l) HC.out (barCells_one l) (by unfold maxLen; omega) (by omega) (by simp) ?_; intro v' w3 ho hg; rw [Nat.zero_add, List.nil_append] at ho; obtain ⟨A2, c2, rfl⟩ := own_shape ho; have hb : Below w1.heap.size (w1.alloc (.cells #[] 85)) w3 := ((Below.refl _ _).drew).grown hg (by simp) (fun k hk => by cases hk; exact Nat.le_refl _); have hlt : w.heap.size + 1 < w1.heap.size := (by have := HSZ.out; omega); have y0 := (hb.cell (p := ⟨w.heap.size, 0, none⟩) (show w.heap.size < w1.heap.size by omega)).trans HXD.out.2.1; have z0 := (hb.cell (p := ⟨w.heap.size + 1, 0, none⟩) hlt).trans HRD.out.2.1; have z1 := (hb.cell (p := ⟨w.heap.size + 1, 1, none⟩) hlt).trans HRD.out.2.2; have f0 := (hb.frozen (p := ⟨w.heap.size + 1, 0, none⟩) hlt).trans HFD.out.1; have f1 := (hb.frozen (p := ⟨w.heap.size + 1, 1, none⟩) hlt).trans HFD.out.2; have HO := Lib.hid ho; have HB := Lib.hid (HAD.out.trans (hb.mono (by omega))); have HZ := Lib.hid (And.intro z0 z1); have HLT := Lib.hid hlt; clear ho hb hg hlt)
  all_goals
    go_wp2_with fail
    obtain ⟨s0, s1⟩ := ret_cells (p := p) (v := .slice A2 l.length c2) HZ.out.1 HZ.out.2
    obtain ⟨r1, r2⟩ := row_ret HO.out HB.out (r := w.heap.size + 1) (by omega) HLT.out (.int .i64 p) (.slice A2 l.length c2)
    refine bodyPost_ret (v := .agg #[.int .i64 p, .slice A2 l.length c2]) ?_ rfl ⟨A2, c2, rfl, ?_, ?_⟩
    · simp [results, Try.results142, go_sem, s0, s1]
    · first | exact r1 | exact r1.drew
    · first | exact r2 | exact r2.drew
end Go.Proofs.Ytdnmmjaelgjkaaa
/- What RemoveBar answers, the specification's. No condition. -/
namespace Go.Proofs.Ytdnmmjaelgjkaaa
open Go.RowKit

/-- Can the bar be taken out? -/
noncomputable def remR (p k : Int) (l : List (Int × Int)) : Bool := isGB p l && (decide (0 ≤ k) && decide (k < (l.length : Int)))
noncomputable def remL (p k : Int) (l : List (Int × Int)) : List (Int × Int) := if remR p k l = true then l.take k.toNat ++ l.drop (k.toNat + 1) else l
theorem remL_len (p k : Int) (l : List (Int × Int)) (h : l.length ≤ 1048576) : (remL p k l).length ≤ 1048576 := by
  unfold remL
  split
  · simp; omega
  · exact h
theorem rem_no {p k : Int} {l : List (Int × Int)} (h : isGB p l = false ∨ k < 0 ∨ (l.length : Int) ≤ k) : remR p k l = false ∧ remL p k l = l := by
  have e : remR p k l = false := by
    unfold remR
    rcases h with h | h | h
    · rw [h]; rfl
    · rw [decide_eq_false (by omega : ¬ 0 ≤ k)]; simp
    · rw [decide_eq_false (by omega : ¬ k < (l.length : Int))]; simp
  exact ⟨e, by unfold remL; rw [e]; rfl⟩
theorem rem_yes {p : Int} {k : Nat} {l : List (Int × Int)} (h : isGB p l = true) (hk : k < l.length) : remR p k l = true ∧ remL p k l = l.take k ++ l.drop (k + 1) := by
  have e : remR p k l = true := by
    unfold remR
    rw [h]
    simp
    omega
  refine ⟨e, ?_⟩
  unfold remL
  rw [if_pos e]
  rfl

theorem barCells_take : ∀ (l : List (Int × Int)) (k : Nat), barCells (l.take k) = (barCells l).take (k * 2) := by
  intro l
  induction l with
  | nil => intro k; simp [barCells]
  | cons x l ih =>
    intro k
    rcases k with _ | k
    · simp [barCells]
    · have := ih k
      simp only [barCells] at this ⊢
      rw [List.take_succ_cons, List.flatMap_cons, this, show (k + 1) * 2 = k * 2 + 2 by omega, List.flatMap_cons]
      rfl
theorem barCells_drop : ∀ (l : List (Int × Int)) (k : Nat), barCells (l.drop k) = (barCells l).drop (k * 2) := by
  intro l
  induction l with
  | nil => intro k; simp [barCells]
  | cons x l ih =>
    intro k
    rcases k with _ | k
    · simp [barCells]
    · have := ih k
      simp only [barCells] at this ⊢
      rw [List.drop_succ_cons, this, show (k + 1) * 2 = k * 2 + 2 by omega, List.flatMap_cons]
      rfl
theorem two_other {w4 : World} {s r : Nat} {u v x y : Value} (hne : s ≠ r) (h0 : w4.cell? ⟨s, 0, none⟩ = some x) (h1 : w4.cell? ⟨s, 1, none⟩ = some y) :
    ((w4.setCell ⟨r, 0, none⟩ u).setCell ⟨r, 1, none⟩ v).cell? ⟨s, 0, none⟩ = some x ∧ ((w4.setCell ⟨r, 0, none⟩ u).setCell ⟨r, 1, none⟩ v).cell? ⟨s, 1, none⟩ = some y := by
  constructor
  · rw [World.cell?_setCell_other _ _ _ _ (by intro e; simp only [Addr.mk.injEq] at e; omega), World.cell?_setCell_other _ _ _ _ (by intro e; simp only [Addr.mk.injEq] at e; omega)]
    exact h0
  · rw [World.cell?_setCell_other _ _ _ _ (by intro e; simp only [Addr.mk.injEq] at e; omega), World.cell?_setCell_other _ _ _ _ (by intro e; simp only [Addr.mk.injEq] at e; omega)]
    exact h1
/-- The answer's variable r is written behind what a call returned. -/
theorem ownIn_ret {w w3 : World} {r lo : Nat} {A2 : Option Addr} {c2 : Nat} {l : List (Int × Int)} (ho : OwnIn w3 lo w3.heap.size A2 c2 l) (hB : Below w.heap.size w w3) (h1 : w.heap.size ≤ r) (h2 : r < lo) (u v : Value) :
    OwnIn ((w3.setCell ⟨r, 0, none⟩ u).setCell ⟨r, 1, none⟩ v) w.heap.size ((w3.setCell ⟨r, 0, none⟩ u).setCell ⟨r, 1, none⟩ v).heap.size A2 c2 l ∧ Below w.heap.size w ((w3.setCell ⟨r, 0, none⟩ u).setCell ⟨r, 1, none⟩ v) := by
  have hg := (grownBy_set w3 r 0 u).trans_ (grownBy_set (w3.setCell ⟨r, 0, none⟩ u) r 1 v)
  refine ⟨?_, hB.grown hg hB.size fun g e => by cases e; exact h1⟩
  rcases ho.2 with h | ⟨g, e, k1, k2, hown⟩
  · exact ⟨Nat.le_refl _, .inl h⟩
  · refine ⟨Nat.le_refl _, .inr ⟨g, e, by omega, Nat.lt_of_lt_of_le k2 hg.size, (own_base hown (by omega)).kept hg (.inr (by simp [Value.ownBlock]; omega))⟩⟩

set_option maxHeartbeats 4000000 in
set_option maxRecDepth 100000 in
theorem specRemoveO (p k : Int) (l : List (Int × Int)) (A : Option Addr) (cap : Nat) (w : World) (hl : BarsAt w w.heap.size A l) (hn : l.length ≤ 1048576) (hA : ∃ a, A = some a) (hcap : l.length ≤ cap) :
    Calls Try.prog 101 #[.agg #[.int .i64 p, .slice A l.length cap], .int .i64 k] w (GraphOB w p (remL p k l) (remR p k l)) := by
  obtain ⟨a, rfl⟩ := hA
  obtain ⟨i0, hi0, hz0, hz1, hz2⟩ := info_parts infoBar
  have hA1 := new_below w (.cells #[.int .i64 p, .slice (some a) l.length cap] 29)
  have hA2 := new_below (w.alloc (.cells #[.int .i64 p, .slice (some a) l.length cap] 29)) (.cells #[.int .i64 0, .slice none 0 0] 29)
  have hA := below_on hA1 hA2 hA1.size
  have hsz1 : (w.alloc (.cells #[.int .i64 p, .slice (some a) l.length cap] 29)).heap.size = w.heap.size + 1 := by simp
  have hsz2 : ((w.alloc (.cells #[.int .i64 p, .slice (some a) l.length cap] 29)).alloc (.cells #[.int .i64 0, .slice none 0 0] 29)).heap.size = w.heap.size + 2 := by simp
  have BX := Lib.hid ((box_new w p (.slice (some a) l.length cap) 29).kept hA2)
  have hR := box_new (w.alloc (.cells #[.int .i64 p, .slice (some a) l.length cap] 29)) 0 (.slice none 0 0) 29
  have hF : ((w.alloc (.cells #[.int .i64 p, .slice (some a) l.length cap] 29)).alloc (.cells #[.int .i64 0, .slice none 0 0] 29)).frozen? ⟨(w.alloc (.cells #[.int .i64 p, .slice (some a) l.length cap] 29)).heap.size, 0, none⟩ = false ∧ ((w.alloc (.cells #[.int .i64 p, .slice (some a) l.length cap] 29)).alloc (.cells #[.int .i64 0, .slice none 0 0] 29)).frozen? ⟨(w.alloc (.cells #[.int .i64 p, .slice (some a) l.length cap] 29)).heap.size, 1, none⟩ = false := ⟨World.frozen?_alloc_at _ _ _ _ rfl, World.frozen?_alloc_at _ _ _ _ rfl⟩
  rw [hsz1] at hR hF
  have HR := Lib.hid hR
  have HF := Lib.hid hF
  have HL := Lib.hid (hl.on hA)
  have HA := Lib.hid hA
  have HSZ := Lib.hid hsz2
  clear hl hA1 hA2 hA hsz1 hsz2 hR hF
  by_cases hbad : isGB p l = false ∨ k < 0 ∨ (l.length : Int) ≤ k
  · rw [(rem_no hbad).1, (rem_no hbad).2]
    have hcase : isGB p l = false ∨ (isGB p l = true ∧ k < 0) ∨ (isGB p l = true ∧ ¬ k < 0 ∧ (l.length : Int) ≤ k) := by
      rcases hg : isGB p l with _ | _
      · exact .inl rfl
      · rcases hbad with h | h | h
        · rw [hg] at h; cases h
        · exact .inr (.inl ⟨rfl, h⟩)
        · exact .inr (.inr ⟨rfl, by omega, h⟩)
    clear hbad
    rcases hcase with hg | ⟨hg, h1⟩ | ⟨hg, h1, h2⟩
    all_goals
      go_enter Try.func101, Try.ntmps101
      go_wp2_with fail
      generalize ((w.alloc (.cells #[.int .i64 p, .slice (some a) l.length cap] 29)).alloc (.cells #[.int .i64 0, .slice none 0 0] 29)) = w1 at *
      refine (specIsGraph' p l (some a) cap _ HL.out hn).mono ?_
      rintro e w2 ⟨rfl, hb⟩
      have HB2 := Lib.hid (below_on HA.out hb HA.out.size)
      have BX2 := Lib.hid (BX.out.kept hb)
      have HR2 := Lib.hid (HR.out.kept hb)
      have HF2 := Lib.hid (show w2.frozen? ⟨w.heap.size + 1, 0, none⟩ = false ∧ w2.frozen? ⟨w.heap.size + 1, 1, none⟩ = false from ⟨(hb.frozen (p := ⟨w.heap.size + 1, 0, none⟩) HR.out.1).trans HF.out.1, (hb.frozen (p := ⟨w.heap.size + 1, 1, none⟩) HR.out.1).trans HF.out.2⟩)
      have HL2 := Lib.hid (HL.out.on hb)
      obtain ⟨_, x0, x1⟩ := BX2.out
      clear hb
      go_wp2_with fail
      clear x0 x1
      refine (copy_c p l a cap _ HL2.out hn).mono ?_
      rintro e w3 ⟨A2, c2, rfl, ho, hb⟩
      obtain ⟨_, z0, z1⟩ := HR2.out.kept hb
      have f0 := (hb.frozen (p := ⟨w.heap.size + 1, 0, none⟩) HR2.out.1).trans HF2.out.1
      have f1 := (hb.frozen (p := ⟨w.heap.size + 1, 1, none⟩) HR2.out.1).trans HF2.out.2
      have HB3 := Lib.hid (below_on HB2.out hb HB2.out.size)
      have HO3 := Lib.hid ho
      have HLT := Lib.hid HR2.out.1
      clear hb ho
      obtain ⟨s0, s1⟩ := ret_cells (p := p) (v := .slice A2 l.length c2) z0 z1
      obtain ⟨r1, r2⟩ := ownIn_ret HO3.out HB3.out (r := w.heap.size + 1) (by omega) HLT.out (.int .i64 p) (.slice A2 l.length c2)
      go_wp2_with fail
      refine bodyPost_ret (v := .tuple #[.agg #[.int .i64 p, .slice A2 l.length c2], .bool false]) ?_ rfl ⟨A2, c2, rfl, r1, r2⟩
      simp [results, Try.results101, go_sem, s0, s1]
  · have hg : isGB p l = true := by
      cases h : isGB p l with
      | false => exact absurd (.inl h) hbad
      | true => rfl
    obtain ⟨K, rfl⟩ : ∃ K : Nat, k = (K : Int) := ⟨k.toNat, by omega⟩
    have hk : K < l.length := by omega
    rw [(rem_yes hg hk).1, (rem_yes hg hk).2]
    obtain ⟨L, hL⟩ : ∃ L, L = l.take K ++ l.drop (K + 1) := ⟨_, rfl⟩
    have HLL := Lib.hid (show K + (l.length - (K + 1)) = L.length by rw [hL]; simp; omega)
    have HBL := Lib.hid (show barCells (l.take K) ++ barCells (l.drop (K + 1)) = barCells L by rw [hL, barCells_append])
    rw [← hL]
    clear hL
    have hk0 : ¬ (K : Int) < 0 := by omega
    have hk1 : ¬ (l.length : Int) ≤ (K : Int) := by omega
    obtain ⟨b, off, e, hbB, hcell⟩ := HL.out (by omega)
    cases e
    clear hbad
    go_enter Try.func101, Try.ntmps101
    go_wp2_with fail
    generalize ((w.alloc (.cells #[.int .i64 p, .slice (some ⟨b, off, none⟩) l.length cap] 29)).alloc (.cells #[.int .i64 0, .slice none 0 0] 29)) = w1 at *
    refine (specIsGraph' p l _ cap _ HL.out hn).mono ?_
    rintro e w2 ⟨rfl, hb⟩
    have HB2 := Lib.hid (below_on HA.out hb HA.out.size)
    have BX2 := Lib.hid (BX.out.kept hb)
    have HR2 := Lib.hid (HR.out.kept hb)
    have HF2 := Lib.hid (show w2.frozen? ⟨w.heap.size + 1, 0, none⟩ = false ∧ w2.frozen? ⟨w.heap.size + 1, 1, none⟩ = false from ⟨(hb.frozen (p := ⟨w.heap.size + 1, 0, none⟩) HR.out.1).trans HF.out.1, (hb.frozen (p := ⟨w.heap.size + 1, 1, none⟩) HR.out.1).trans HF.out.2⟩)
    have HC2 := Lib.hid (barCells_at (w := w2) (b := b) (off := off) (l := l) fun j hj => ⟨(hb.cell (p := ⟨b, off + j * 2, none⟩) hbB).trans (hcell j hj).1, (hb.cell (p := ⟨b, off + j * 2 + 1, none⟩) hbB).trans (hcell j hj).2⟩)
    have HBB := Lib.hid (Nat.lt_of_lt_of_le hbB hb.size)
    obtain ⟨hX, x0, x1⟩ := BX2.out
    clear hb hcell hbB
    have hi0' : (0 : Int) ≤ (K : Int) := by omega
    have hi1 : (K : Int) ≤ (cap : Int) := by omega
    have hi2 : (K : Int) + 1 ≤ (l.length : Int) := by omega
    have hi3 : (0 : Int) ≤ (K : Int) + 1 := by omega
    have hw : IntKind.i64.wrap ((K : Int) + 1) = (K : Int) + 1 := IntWalk.i64_in _ (by omega)
    have htn : ((K : Int) + 1).toNat = K + 1 := by omega
    have hal := new_below w2 (.cells #[] 85)
    have HM := Lib.hid (World.ownsRow_made (base := w2.heap.size) (e := 85) (size := 2) w2 #[] 0 (Nat.le_refl _) (by unfold maxLen; omega) (by simp)).drew
    have xa0 : ((w2.alloc (.cells #[] 85)).drew).cell? ⟨w.heap.size, 0, none⟩ = some (.int .i64 p) := (hal.cell (p := ⟨w.heap.size, 0, none⟩) hX).trans x0
    have xa1 : ((w2.alloc (.cells #[] 85)).drew).cell? ⟨w.heap.size, 1, none⟩ = some (.slice (some ⟨b, off, none⟩) l.length cap) := (hal.cell (p := ⟨w.heap.size, 1, none⟩) hX).trans x1
    have N1 := Lib.hid (show ∀ j u, (barCells (l.take K))[j]? = some u → ((w2.alloc (.cells #[] 85)).drew).cell? ((⟨b, off, none⟩ : Addr).add j) = some u from fun j u hj => by
      rw [barCells_take, List.getElem?_take] at hj
      split at hj
      · rw [Addr.add_lit]
        exact (hal.cell (p := ⟨b, off + j, none⟩) HBB.out).trans (HC2.out j u hj)
      · cases hj)
    obtain ⟨ad, hAd, hN2⟩ : ∃ ad : Addr, (if cap = K + 1 then (some ⟨b, off, none⟩ : Option Addr) else some ⟨b, off + (K + 1) * 2, none⟩) = some ad ∧ ∀ W : World, Below w2.heap.size w2 W → ∀ j u, (barCells (l.drop (K + 1)))[j]? = some u → W.cell? (ad.add j) = some u := by
      by_cases h : cap = K + 1
      · refine ⟨⟨b, off, none⟩, by simp [h], fun W hW j u hj => ?_⟩
        rw [List.drop_eq_nil_of_le (by omega)] at hj
        simp [barCells] at hj
      · refine ⟨⟨b, off + (K + 1) * 2, none⟩, by simp [h], fun W hW j u hj => ?_⟩
        rw [barCells_drop, List.getElem?_drop] at hj
        rw [Addr.add_lit, show off + (K + 1) * 2 + j = off + ((K + 1) * 2 + j) by omega]
        exact (hW.cell (p := ⟨b, off + ((K + 1) * 2 + j), none⟩) HBB.out).trans (HC2.out _ u hj)
    have N2 := Lib.hid hN2
    have hl1 : (barCells (l.take K)).length = K * 2 := by rw [barCells_len, List.length_take]; omega
    have hl2 : (barCells (l.drop (K + 1))).length = (l.length - (K + 1)) * 2 := by rw [barCells_len, List.length_drop]
    have H1 := Lib.hid hl1
    have H2 := Lib.hid hl2
    have HAL := Lib.hid hal
    clear hal hN2 hl1 hl2
    go_wp2_with fail
    go_region_held3 (fun W' => W'.cell? ⟨w.heap.size, 0, none⟩ = some (.int .i64 p) ∧ W'.cell? ⟨w.heap.size, 1, none⟩ = some (.slice (some ⟨b, off, none⟩) l.length cap))
      (first | exact ⟨x0, x1⟩ | exact ⟨xa0, xa1⟩ | exact ⟨y0, y1⟩ | exact ⟨u0, u1⟩ | exact ⟨t0, t1⟩ | fail)
      (first
        | (refine step_own (by rfl) _ _ _ (by rfl) w2.heap.size 85 i0 _ 2 16 Try.underlying27 hi0 hz0 hz1 hz2 rfl (by omega) _ 0 [] (by rfl) HM.out ⟨b, off, none⟩ K cap (barCells (l.take K)) (by rfl) H1.out N1.out (barCells_one _) (by unfold maxLen; omega) (by omega) (by simp) ?_; intro v1 w3 ho1 hg1; rw [Nat.zero_add, List.nil_append] at ho1; have hb3 : Below w2.heap.size w2 w3 := ((HAL.out.drew).grown hg1 (by simp) (fun k hk => by cases hk; exact Nat.le_refl _)); have y0 := (hb3.cell (p := ⟨w.heap.size, 0, none⟩) hX).trans x0; have y1 := (hb3.cell (p := ⟨w.heap.size, 1, none⟩) hX).trans x1; have HO1 := Lib.hid ho1; have HB3 := Lib.hid hb3; clear ho1 hg1 hb3)
        | (refine step_own (by rfl) _ _ _ (by rfl) w2.heap.size 85 i0 _ 2 16 Try.underlying27 hi0 hz0 hz1 hz2 rfl (by omega) v1 K (barCells (l.take K)) (by rfl) HO1.out ad (l.length - (K + 1)) (cap - (K + 1)) (barCells (l.drop (K + 1))) (by rfl) H2.out (N2.out _ HB3.out) (barCells_one _) (by unfold maxLen; omega) (by omega) HB3.out.size ?_; intro v2 w4 ho2 hg2; rw [HBL.out, HLL.out] at ho2; have hb4 : Below w2.heap.size w2 w4 := (HB3.out.grown hg2 HB3.out.size (fun g hk => (HO1.out.lt g hk).1)); obtain ⟨A2, c2, rfl⟩ := own_shape ho2; have u0 := (hb4.cell (p := ⟨w.heap.size, 0, none⟩) hX).trans x0; have u1 := (hb4.cell (p := ⟨w.heap.size, 1, none⟩) hX).trans x1; have z0 := (hb4.cell (p := ⟨w.heap.size + 1, 0, none⟩) HR2.out.1).trans HR2.out.2.1; have z1 := (hb4.cell (p := ⟨w.heap.size + 1, 1, none⟩) HR2.out.1).trans HR2.out.2.2; have f0 := (hb4.frozen (p := ⟨w.heap.size + 1, 0, none⟩) HR2.out.1).trans HF2.out.1; have f1 := (hb4.frozen (p := ⟨w.heap.size + 1, 1, none⟩) HR2.out.1).trans HF2.out.2; have HO2 := Lib.hid ho2; have HB4 := Lib.hid (below_on HB2.out hb4 HB2.out.size); have HZ := Lib.hid (And.intro z0 z1); obtain ⟨t0, t1⟩ := two_other (u := .int .i64 p) (v := .slice A2 L.length c2) (r := w.heap.size + 1) (Nat.ne_of_lt (Nat.lt_succ_self w.heap.size)) u0 u1; clear ho2 hg2 hb4))
    go_wp2_with fail
    obtain ⟨s0, s1⟩ := ret_cells (p := p) (v := .slice A2 L.length c2) HZ.out.1 HZ.out.2
    obtain ⟨r1, r2⟩ := row_ret HO2.out HB4.out (r := w.heap.size + 1) (by omega) HR2.out.1 (.int .i64 p) (.slice A2 L.length c2)
    refine bodyPost_ret (v := .tuple #[.agg #[.int .i64 p, .slice A2 L.length c2], .bool true]) ?_ rfl ⟨A2, c2, rfl, ?_, ?_⟩
    · simp [results, Try.results101, go_sem, s0, s1]
    · first | exact r1 | exact r1.drew
    · first | exact r2 | exact r2.drew
theorem specRemove (p k : Int) (l : List (Int × Int)) (A : Option Addr) (cap : Nat) (w : World) (hl : BarsAt w w.heap.size A l) (hn : l.length ≤ 1048576) (hA : ∃ a, A = some a) (hcap : l.length ≤ cap) :
    Calls Try.prog 101 #[.agg #[.int .i64 p, .slice A l.length cap], .int .i64 k] w (GraphRB w p (remL p k l) (remR p k l)) :=
  (specRemoveO p k l A cap w hl hn hA hcap).mono fun _ _ ⟨A2, c2, e, r1, r2⟩ => ⟨A2, c2, e, r1.bars.at, r2⟩
end Go.Proofs.Ytdnmmjaelgjkaaa
/- A circuit: what is needed of ranks, sizes and sets. No program. No condition. -/
namespace Go.Proofs.Ytdnmmjaelgjkaaa
open Go.RowKit

/-- A list without a number. -/
def woL (zs : List Int) (x : Int) : List Int := zs.filter fun y => !decide (y = x)
theorem okS_pair {m : Nat} {Z : List Int} (h : ∀ j, j < Z.length → OkS m Z j) : (∀ x, x ∈ Z → 0 ≤ x ∧ x < (m : Int)) ∧ Z.Pairwise (· < ·) := by
  constructor
  · intro x hx
    obtain ⟨i, hi, rfl⟩ := List.getElem_of_mem hx
    have := (h i hi).1
    simpa [List.getD, List.getElem?_eq_getElem hi] using this
  · rw [List.pairwise_iff_getElem]
    intro i j hi hj hij
    have q : ∀ d, i + d + 1 < Z.length → Z.getD i 0 < Z.getD (i + d + 1) 0 := by
      intro d
      induction d with
      | zero => intro hd; have := (h (i + 1) hd).2 (by omega); simpa using this
      | succ d ih =>
        intro hd
        have h1 := ih (by omega)
        have h2 := (h (i + (d + 1) + 1) hd).2 (by omega)
        rw [show i + (d + 1) + 1 - 1 = i + d + 1 by omega] at h2
        omega
    have := q (j - i - 1) (by omega)
    rw [show i + (j - i - 1) + 1 = j by omega] at this
    simpa [List.getD, List.getElem?_eq_getElem hi, List.getElem?_eq_getElem hj] using this
theorem okS_of {m : Nat} {Z : List Int} (h1 : ∀ x, x ∈ Z → 0 ≤ x ∧ x < (m : Int)) (h2 : Z.Pairwise (· < ·)) : ∀ j, j < Z.length → OkS m Z j := by
  intro j hj
  rw [List.pairwise_iff_getElem] at h2
  refine ⟨?_, fun h0 => ?_⟩
  · have := h1 Z[j] (List.getElem_mem hj)
    simpa [List.getD, List.getElem?_eq_getElem hj] using this
  · have := h2 (j - 1) j (by omega) hj (by omega)
    simpa [List.getD, List.getElem?_eq_getElem hj, List.getElem?_eq_getElem (show j - 1 < Z.length by omega)] using this
theorem setB_wo {p : Int} {l : List (Int × Int)} {zs : List Int} (h : setB p l zs = true) (x : Int) : setB p l (woL zs x) = true := by
  obtain ⟨h1, h2⟩ := setB_is h
  obtain ⟨h3, h4⟩ := okS_pair h1
  rw [setB_all (okS_of (Z := woL zs x) (m := l.length) (fun y hy => h3 y (List.mem_filter.1 hy).1) (h4.filter _)), isGB_yes h2]
theorem wo_len : ∀ zs : List Int, zs.Pairwise (· < ·) → ∀ x, x ∈ zs → (woL zs x).length + 1 = zs.length := by
  intro zs
  induction zs with
  | nil => intro _ x hx; cases hx
  | cons a t ih =>
    intro hp x hx
    obtain ⟨h1, h2⟩ := List.pairwise_cons.1 hp
    unfold woL
    by_cases e : a = x
    · subst e
      have : t.filter (fun y => !decide (y = a)) = t := List.filter_eq_self.2 fun y hy => by
        have := h1 y hy
        simp
        omega
      simp [this]
    · have hxt : x ∈ t := by
        rcases List.mem_cons.1 hx with h | h
        · exact absurd h.symm e
        · exact h
      have := ih h2 x hxt
      unfold woL at this
      simp [e]
      omega
theorem setB_len {p : Int} {l : List (Int × Int)} {zs : List Int} (h : setB p l zs = true) {x : Int} (hx : x ∈ zs) : (woL zs x).length + 1 = zs.length := wo_len zs (okS_pair (setB_is h).1).2 x hx
theorem cnt_le (n : Nat) : ∀ ys : List Int, ys.countP (fun y => decide (y < (n : Int))) + (if (n : Int) ∈ ys then 1 else 0) ≤ ys.countP (fun y => decide (y < ((n + 1 : Nat) : Int))) := by
  intro ys
  induction ys with
  | nil => simp
  | cons a t ih =>
    rw [List.countP_cons, List.countP_cons]
    by_cases e : (n : Int) = a
    · subst e
      rw [if_pos List.mem_cons_self]
      have h1 : decide ((n : Int) < (n : Int)) = false := by simp
      have h2 : decide ((n : Int) < ((n + 1 : Nat) : Int)) = true := by simp; omega
      rw [h1, h2]
      have : t.countP (fun y => decide (y < (n : Int))) ≤ t.countP (fun y => decide (y < ((n + 1 : Nat) : Int))) := by
        split at ih <;> omega
      rw [if_neg (by decide), if_pos rfl]
      omega
    · have hm : (if (n : Int) ∈ a :: t then 1 else 0) = (if (n : Int) ∈ t then (1 : Nat) else 0) := by simp [e]
      rw [hm]
      have : (if decide (a < (n : Int)) = true then 1 else 0) ≤ (if decide (a < ((n + 1 : Nat) : Int)) = true then 1 else 0) := by
        by_cases h : a < (n : Int)
        · rw [if_pos (by simpa using h), if_pos (by simp; omega)]; exact Nat.le_refl _
        · rw [if_neg (by simpa using h)]; omega
      omega
theorem onlyK_cnt (l : List (Int × Int)) (ys : List Int) : ∀ n, (onlyK l (inS ys) n).length ≤ ys.countP (fun y => decide (y < (n : Int))) := by
  intro n
  induction n with
  | zero => unfold onlyK; simp
  | succ n ih =>
    have h := cnt_le n ys
    unfold onlyK
    by_cases e : (n : Int) ∈ ys
    · have : inS ys n = true := by unfold inS; simpa using e
      rw [if_pos e] at h
      rw [if_pos this, List.length_append, List.length_singleton]
      omega
    · have : inS ys n = false := by unfold inS; simpa using e
      rw [if_neg e] at h
      rw [if_neg (by rw [this]; decide), List.append_nil]
      omega
theorem rankV_le (p k c : Int) (l : List (Int × Int)) : rankV p k c l ≤ (l.length : Int) := by
  unfold rankV
  by_cases h : newB p k l = true
  · by_cases h2 : rangeB k c = true
    · have hG := (newB_is h).1
      obtain ⟨P, rfl⟩ : ∃ P : Nat, p = (P : Int) := ⟨p.toNat, by have := hG.1; omega⟩
      rw [(runV_yes h h2).1, (runV_yes h h2).2, if_pos rfl]
      have := (runN_ok (newB_is h).1 (newB_is h).2 (rangeB_is h2).2.1 l.length (Nat.le_refl _)).2.1
      omega
    · rw [(runV_no (.inr (by simpa using h2))).1]; simp
  · rw [(runV_no (.inl (by simpa using h))).1]; simp
theorem rankSV_le (p k c : Int) (l : List (Int × Int)) (ys : List Int) : rankSV p k c l ys ≤ (ys.length : Int) := by
  unfold rankSV
  split
  · have h1 := rankV_le p k c (onlyL l ys)
    have h2 : (onlyL l ys).length ≤ ys.length := Nat.le_trans (onlyK_cnt l ys l.length) List.countP_le_length
    omega
  · omega
/-- A set without one of its bars is independent just if its rank is not less than one less than the set's size. -/
theorem ind_wo {p k c : Int} {l : List (Int × Int)} {zs : List Int} (h : setB p l zs = true) (hr : rangeB k c = true) {x : Int} (hx : x ∈ zs) : indB p k c l (woL zs x) = !decide (rankSV p k c l (woL zs x) < (zs.length : Int) - 1) := by
  rw [indB_yes (setB_wo h x) hr]
  have h1 := setB_len h hx
  have h2 := rankSV_le p k c l (woL zs x)
  generalize rankSV p k c l (woL zs x) = r at *
  by_cases e : r = ((woL zs x).length : Int)
  · rw [decide_eq_true e, decide_eq_false (by omega)]; rfl
  · rw [decide_eq_false e, decide_eq_true (by omega)]; rfl
open Classical in
/-- What IsCircuit answers. -/
noncomputable def cirB (p k c : Int) (l : List (Int × Int)) (zs : List Int) : Bool :=
  if setB p l zs = true ∧ rangeB k c = true ∧ indB p k c l zs = false ∧ ∀ j, j < zs.length → indB p k c l (woL zs (zs.getD j 0)) = true then true else false
theorem cirB_no {p k c : Int} {l : List (Int × Int)} {zs : List Int} (h : setB p l zs = false ∨ rangeB k c = false ∨ indB p k c l zs = true) : cirB p k c l zs = false := by
  unfold cirB
  refine if_neg fun q => ?_
  rcases h with h | h | h
  · rw [q.1] at h; cases h
  · rw [q.2.1] at h; cases h
  · rw [q.2.2.1] at h; cases h
theorem cirB_bad {p k c : Int} {l : List (Int × Int)} {zs : List Int} {j : Nat} (hj : j < zs.length) (h : indB p k c l (woL zs (zs.getD j 0)) = false) : cirB p k c l zs = false := by
  unfold cirB
  refine if_neg fun q => ?_
  rw [q.2.2.2 j hj] at h
  cases h
theorem cirB_yes {p k c : Int} {l : List (Int × Int)} {zs : List Int} (h1 : setB p l zs = true) (h2 : rangeB k c = true) (h3 : indB p k c l zs = false) (h4 : ∀ j, j < zs.length → indB p k c l (woL zs (zs.getD j 0)) = true) : cirB p k c l zs = true := by
  unfold cirB
  exact if_pos ⟨h1, h2, h3, h4⟩
theorem wo_step (zs : List Int) (x : Int) (j : Nat) (h : j < zs.length) : woL (zs.take (j + 1)) x = if zs.getD j 0 = x then woL (zs.take j) x else woL (zs.take j) x ++ [zs.getD j 0] := by
  unfold woL
  rw [List.take_add_one, List.filter_append]
  simp only [List.getD, List.getElem?_eq_getElem h, Option.getD_some, Option.toList_some]
  by_cases e : zs[j] = x
  · simp [e]
  · simp [e]
end Go.Proofs.Ytdnmmjaelgjkaaa
/- What BridgesOf answers: the bars without which the rank is less; that the rank is never more without a bar. No program's walk. No condition. -/
namespace Go.Proofs.Ytdnmmjaelgjkaaa
open Go.RowKit

/-- The first n numbers. -/
def allN (n : Nat) : List Int := (List.range n).map fun (i : Nat) => (i : Int)
theorem allN_succ (n : Nat) : allN (n + 1) = allN n ++ [(n : Int)] := by simp [allN, List.range_succ]
theorem allN_len (n : Nat) : (allN n).length = n := by simp [allN]
theorem allN_mem (n : Nat) (x : Int) : x ∈ allN n ↔ 0 ≤ x ∧ x < (n : Int) := by
  unfold allN
  simp only [List.mem_map, List.mem_range]
  constructor
  · rintro ⟨j, h, rfl⟩; omega
  · intro h; exact ⟨x.toNat, by omega, by omega⟩
theorem allN_get (n j : Nat) (h : j < n) : (allN n).getD j 0 = (j : Int) := by
  simp [allN, List.getD, h]
theorem take_snoc (l : List (Int × Int)) (n : Nat) (h : n < l.length) : l.take (n + 1) = l.take n ++ [l.getD n (0, 0)] := by
  rw [List.take_succ_eq_append_getElem h]
  simp [List.getD, List.getElem?_eq_getElem h]
theorem onlyK_all (l : List (Int × Int)) (S : Nat → Bool) : ∀ n, n ≤ l.length → (∀ i, i < n → S i = true) → onlyK l S n = l.take n := by
  intro n
  induction n with
  | zero => intro _ _; rfl
  | succ n ih =>
    intro hn h
    unfold onlyK
    rw [ih (by omega) (fun i hi => h i (by omega)), h n (by omega), take_snoc l n (by omega)]
    rfl
theorem onlyK_but (l : List (Int × Int)) (S : Nat → Bool) (i : Nat) (hi : i < l.length) (h0 : S i = false) : ∀ n, i + 1 ≤ n → n ≤ l.length → (∀ j, j < n → j ≠ i → S j = true) → onlyK l S n = l.take i ++ (l.drop (i + 1)).take (n - (i + 1)) := by
  intro n
  induction n with
  | zero => intro h; omega
  | succ n ih =>
    intro h1 h2 h
    unfold onlyK
    by_cases e : n = i
    · subst e
      rw [onlyK_all l S n (by omega) (fun j hj => h j (by omega) (by omega)), h0]
      simp
    · rw [ih (by omega) (by omega) (fun j hj hj2 => h j (by omega) hj2), h n (by omega) e, List.append_assoc, if_pos rfl]
      congr 1
      rw [show n + 1 - (i + 1) = (n - (i + 1)) + 1 by omega, take_snoc _ _ (by rw [List.length_drop]; omega)]
      congr 2
      simp only [List.getD, List.getElem?_drop]
      rw [show i + 1 + (n - (i + 1)) = n by omega]
/-- The bars without bar number i. -/
def dropB (l : List (Int × Int)) (i : Nat) : List (Int × Int) := l.take i ++ l.drop (i + 1)
theorem dropB_sub (l : List (Int × Int)) (i : Nat) : (dropB l i).Sublist l := by
  unfold dropB
  have h : (l.take i ++ l.drop (i + 1)).Sublist (l.take i ++ l.drop i) := (List.Sublist.refl _).append (List.drop_sublist_drop_left l (by omega))
  rwa [List.take_append_drop] at h
theorem only_all (l : List (Int × Int)) : onlyL l (allN l.length) = l := by
  unfold onlyL
  rw [onlyK_all l (inS (allN l.length)) l.length (Nat.le_refl _) (fun i hi => decide_eq_true ((allN_mem _ _).2 ⟨by omega, by omega⟩)), List.take_length]
theorem only_but (l : List (Int × Int)) (i : Nat) (hi : i < l.length) : onlyL l ((allN l.length).filter fun y => !decide (y = (i : Int))) = dropB l i := by
  unfold onlyL dropB
  rw [onlyK_but l (inS ((allN l.length).filter fun y => !decide (y = (i : Int)))) i hi (decide_eq_false (by simp)) l.length (by omega) (Nat.le_refl _) (fun j hj hji => decide_eq_true (by
    rw [List.mem_filter]
    exact ⟨(allN_mem _ _).2 ⟨by omega, by omega⟩, by simp; omega⟩))]
  congr 1
  rw [List.take_of_length_le (by rw [List.length_drop]; omega)]
theorem rem_drop {p : Int} {l : List (Int × Int)} {i : Nat} (hg : isGB p l = true) (hi : i < l.length) : remL p (i : Int) l = dropB l i := by
  unfold remL
  have : remR p (i : Int) l = true := by
    unfold remR
    rw [hg, decide_eq_true (show (0 : Int) ≤ (i : Int) by omega), decide_eq_true (show (i : Int) < (l.length : Int) by omega)]
    rfl
  rw [if_pos this, Int.toNat_natCast]
  rfl
theorem bars_of {P : Nat} {l : List (Int × Int)} (hG : IsG (P : Int) l) : Bars P l := ⟨fun i hi => by have := hG.2.2 i hi; unfold OkBar at this; exact ⟨this.1, this.2.1, this.2.2.1⟩⟩
theorem bars_sub {P : Nat} {l l' : List (Int × Int)} (hb : Bars P l) (hs : l'.Sublist l) : Bars P l' := by
  refine ⟨fun i hi => ?_⟩
  have e : l'.getD i (0, 0) = l'[i] := by simp [List.getD, List.getElem?_eq_getElem hi]
  rw [e]
  obtain ⟨j, hj, ej⟩ := List.getElem_of_mem (hs.subset (List.getElem_mem hi))
  have h := hb.bar j hj
  have e2 : l.getD j (0, 0) = l[j] := by simp [List.getD, List.getElem?_eq_getElem hj]
  rw [e2, ej] at h
  exact h
theorem runB_is {p k c : Int} {l : List (Int × Int)} (h : runB p k c l = true) : newB p k l = true ∧ rangeB k c = true := by
  unfold runB at h
  rwa [Bool.and_eq_true] at h
theorem rankV_rk {P : Nat} {k c : Int} {l : List (Int × Int)} (h : runB (P : Int) k c l = true) : rankV (P : Int) k c l = (rk P k c l : Int) := by
  unfold rankV rk
  rw [if_pos h, (runV_yes (runB_is h).1 (runB_is h).2).2]
theorem isG_drop {p : Int} {l : List (Int × Int)} (h : IsG p l) (i : Nat) : IsG p (dropB l i) := by
  have hs := dropB_sub l i
  refine isG_ofB h.1 (Nat.le_trans hs.length_le h.2.1) (fun x hx => ?_) ((isG_ord h).sublist hs)
  obtain ⟨j, hj, rfl⟩ := List.getElem_of_mem (hs.subset hx)
  have hb := h.2.2 j hj
  have e : l.getD j (0, 0) = l[j] := by simp [List.getD, List.getElem?_eq_getElem hj]
  unfold OkBar at hb
  rw [e] at hb
  exact ⟨hb.1, hb.2.1, hb.2.2.1⟩
theorem runB_drop {p k c : Int} {l : List (Int × Int)} (h : runB p k c l = true) (i : Nat) : runB p k c (dropB l i) = true := by
  obtain ⟨h1, h2⟩ := runB_is h
  obtain ⟨h3, h4⟩ := newB_is h1
  unfold runB newB
  rw [isGB_yes (isG_drop h3 i), h2, decide_eq_true h4.1, decide_eq_true h4.2]
  rfl
/-- Without a bar the rank is no more. -/
theorem rank_drop {p k c : Int} {l : List (Int × Int)} (h : runB p k c l = true) (i : Nat) : rankV p k c (dropB l i) ≤ rankV p k c l := by
  have hd := runB_drop h i
  obtain ⟨h1, h2⟩ := runB_is h
  have hG := (newB_is h1).1
  obtain ⟨P, rfl⟩ : ∃ P : Nat, p = (P : Int) := ⟨p.toNat, by have := hG.1; omega⟩
  have hr := rangeB_is h2
  rw [rankV_rk h, rankV_rk hd]
  have := rk_mono (bars_of hG) (bars_sub (bars_of hG) (dropB_sub l i)) (by have := hG.1; omega) hr.1.1 hr.2.1 hr.2.2 (dropB_sub l i)
  omega
/-- Does the rank without bar y stay? -/
noncomputable def stayB (p k c : Int) (l : List (Int × Int)) (y : Int) : Bool := decide (rankSV p k c l ((allN l.length).filter fun z => !decide (z = y)) = rankV p k c l)
noncomputable def briK (p k c : Int) (l : List (Int × Int)) (n : Nat) : List Int := (allN n).filter fun y => !stayB p k c l y
/-- What BridgesOf answers. -/
noncomputable def briV (p k c : Int) (l : List (Int × Int)) : List Int := if runB p k c l = true then briK p k c l l.length else []
theorem briK_len (p k c : Int) (l : List (Int × Int)) (n : Nat) : (briK p k c l n).length ≤ n := Nat.le_trans (List.length_filter_le _ _) (Nat.le_of_eq (allN_len n))
theorem briV_len (p k c : Int) (l : List (Int × Int)) : (briV p k c l).length ≤ l.length := by
  unfold briV
  split
  · exact briK_len _ _ _ _ _
  · simp
theorem briV_no {p k c : Int} {l : List (Int × Int)} (h : runB p k c l = false) : briV p k c l = [] := by unfold briV; rw [h]; rfl
theorem briV_yes {p k c : Int} {l : List (Int × Int)} (h : runB p k c l = true) : briV p k c l = briK p k c l l.length := by unfold briV; rw [if_pos h]
theorem briK_in {p k c : Int} {l : List (Int × Int)} {n : Nat} (h : stayB p k c l (n : Int) = false) : briK p k c l (n + 1) = briK p k c l n ++ [(n : Int)] := by
  unfold briK
  rw [allN_succ, List.filter_append]
  simp [h]
theorem briK_out {p k c : Int} {l : List (Int × Int)} {n : Nat} (h : stayB p k c l (n : Int) = true) : briK p k c l (n + 1) = briK p k c l n := by
  unfold briK
  rw [allN_succ, List.filter_append]
  simp [h]
structure BriF (p k c : Int) (l : List (Int × Int)) : Prop where
  val : briV p k c l = briK p k c l l.length
  set : setB p l (allN l.length) = true
  rng : rangeB k c = true
  l24 : l.length ≤ 24
  rank : rankSV p k c l (allN l.length) = rankV p k c l
  pos : 0 ≤ rankV p k c l
  drop : ∀ i, i < l.length → remR p (i : Int) l = true ∧ decide (rankV p k c (remL p (i : Int) l) < rankV p k c l) = !stayB p k c l (i : Int)
theorem briF {p k c : Int} {l : List (Int × Int)} (h : runB p k c l = true) : BriF p k c l := by
  obtain ⟨h1, h2⟩ := runB_is h
  have hG := (newB_is h1).1
  have hset : setB p l (allN l.length) = true := by
    refine (setB_all (okS_of (fun y hy => (allN_mem _ _).1 hy) ?_)).trans (isGB_yes hG)
    unfold allN
    rw [List.pairwise_map]
    exact (List.pairwise_lt_range).imp fun {a b} hab => by omega
  refine ⟨briV_yes h, hset, h2, hG.2.1, ?_, ?_, fun i hi => ⟨(rem_yes (isGB_yes hG) hi).1, ?_⟩⟩
  · unfold rankSV
    rw [isGB_yes hG, if_pos rfl, only_all]
  · unfold rankV
    rw [if_pos h]
    omega
  · rw [rem_drop (isGB_yes hG) hi]
    have hle := rank_drop h i
    unfold stayB rankSV
    rw [isGB_yes hG, if_pos rfl, only_but l i hi]
    by_cases e : rankV p k c (dropB l i) = rankV p k c l
    · rw [decide_eq_true e, decide_eq_false (by omega)]; rfl
    · rw [decide_eq_false e, decide_eq_true (by omega)]; rfl
end Go.Proofs.Ytdnmmjaelgjkaaa
/- A row of ints that is collected: its range is the first one, or new; what else was there stands. No program's walk. No condition. -/
namespace Go.Proofs.Ytdnmmjaelgjkaaa
open Go.RowKit

structure GrowP (a b : Nat) (V W : World) (ys : List Int) (A : Option Addr) (cap lo hi : Nat) : Prop where
  row : OwnR W lo hi A cap ys
  rng : (lo = a ∧ hi = b) ∨ V.heap.size ≤ lo
  le : lo ≤ W.heap.size
  wi : Within a b V W
theorem GrowP.push {a b : Nat} {V W W' : World} {ys : List Int} {y : Int} {A A' : Option Addr} {cap lo hi c' lo' hi' : Nat} (h : GrowP a b V W ys A cap lo hi) (hr : OwnR W' lo' hi' A' c' (ys ++ [y])) (hd : (lo' = lo ∧ hi' = hi) ∨ (W.heap.size ≤ lo' ∧ lo' ≤ W'.heap.size ∧ hi' ≤ W'.heap.size)) (hw : Within lo hi W W') : GrowP a b V W' (ys ++ [y]) A' c' lo' hi' := by
  obtain ⟨_, h2, h3, h4⟩ := h
  have s1 := h4.size
  have s2 := hw.size
  refine ⟨hr, ?_, ?_, ⟨hw.os.trans h4.os, hw.tape.trans h4.tape, hw.output.trans h4.output, Nat.le_trans s1 s2, fun i hi hd => (hw.block i (by omega) (by omega)).trans (h4.block i hi hd)⟩⟩
  · rcases hd with ⟨rfl, rfl⟩ | hd
    · exact h2
    · exact .inr (by omega)
  · rcases hd with ⟨rfl, rfl⟩ | hd
    · omega
    · exact hd.2.1
theorem GrowP.out {a b : Nat} {V W : World} {ys : List Int} {A : Option Addr} {cap lo hi : Nat} (h : GrowP a b V W ys A cap lo hi) {B : Nat} (h1 : B ≤ a) (h2 : B ≤ V.heap.size) : OwnInts W B W.heap.size A cap ys :=
  h.row.ints.widen (by have := h.rng; omega) h.row.1 (Nat.le_refl _)
end Go.Proofs.Ytdnmmjaelgjkaaa
/- A set of numbers in a map of the call's own; a box of five cells. No program's walk. No condition. -/
namespace Go.Proofs.Ytdnmmjaelgjkaaa
open Go.RowKit

open Go.Maps

theorem lawI : Keyed Try.prog 3 := int_keyed Try.underlying3
abbrev OMap (W : World) (b n : Nat) (D : DataW Unit) : Prop := W.ownsMap Try.prog 3 (plainElem Try.prog 4) b n D
abbrev ORng (W : World) (b r n : Nat) (D : DataW Unit) (left : Lit → Bool) (cnt : Nat) : Prop := W.ranges Try.prog 3 (plainElem Try.prog 4) b r n D left cnt
/-- What a map says: the numbers of a list, all with 'true'. -/
def SaysS (D : DataW Unit) (zs : List Int) : Prop := ∀ x : Int, Maps.has D (.int .i64 x) = decide (x ∈ zs) ∧ D.atKey (.int .i64 x) (.lit (.bool false)) = .lit (.bool (decide (x ∈ zs)))
def SetM (W : World) (b n : Nat) (zs : List Int) : Prop := ∃ D : DataW Unit, OMap W b n D ∧ SaysS D zs
theorem SetM.lt {W : World} {b n : Nat} {zs : List Int} (h : SetM W b n zs) : b < W.heap.size := by
  obtain ⟨D, h1, _⟩ := h
  exact h1.lt
theorem omap_block {W W' : World} {b n : Nat} {D : DataW Unit} (h : OMap W b n D) (e : W'.heap[b]? = W.heap[b]?) : OMap W' b n D := by
  obtain ⟨es, clock, h1, h2⟩ := h
  exact ⟨es, clock, e.trans h1, h2⟩
theorem SetM.within {W W' : World} {b n lo hi : Nat} {zs : List Int} (h : SetM W b n zs) (hw : Within lo hi W W') (hd : b < lo ∨ hi ≤ b) : SetM W' b n zs := by
  have hl := h.lt
  obtain ⟨D, h1, h2⟩ := h
  exact ⟨D, omap_block h1 (hw.block b hl hd), h2⟩
theorem saysS_nil : SaysS (.map []) [] := fun x => ⟨by simp [Maps.has], by simp [DataW.atKey]⟩
theorem SaysS.put {D : DataW Unit} {zs : List Int} (h : SaysS D zs) (hD : IsMap D) (z : Int) : SaysS (D.put (.int .i64 z) (.lit (.bool true))) (zs ++ [z]) := fun x => by
  by_cases e : x = z
  · subst e
    rw [has_put_same (k := .int .i64 x) hD trivial, atKey_put_same (k := .int .i64 x) hD trivial]
    simp
  · have hne : (Lit.int .i64 x) ≠ .int .i64 z := fun q => e (by cases q; rfl)
    rw [has_put_other hne, atKey_put_other hne, (h x).1, (h x).2]
    simp [e]
theorem SaysS.congr {D : DataW Unit} {zs ys : List Int} (h : SaysS D zs) (e : ∀ x, x ∈ zs ↔ x ∈ ys) : SaysS D ys := fun x => by
  rw [(h x).1, (h x).2, decide_eq_decide.2 (e x)]
  exact ⟨rfl, rfl⟩
theorem SaysS.del {D : DataW Unit} {zs : List Int} (h : SaysS D zs) (z : Int) : SaysS (D.del (.int .i64 z)) (zs.filter fun x => !decide (x = z)) := fun x => by
  by_cases e : x = z
  · subst e
    rw [has_del_same, atKey_del_same]
    simp
  · have hne : (Lit.int .i64 x) ≠ .int .i64 z := fun q => e (by cases q; rfl)
    rw [has_del_other hne, atKey_del_other hne, (h x).1, (h x).2]
    simp [e]
theorem within_grown {W W' : World} {g : Nat} (hg : W.grownBy W' (some g)) : Within g (g + 1) W W' := ⟨hg.os, hg.tape, hg.output, hg.size, fun j hj hd => hg.block j hj (by simp; omega)⟩
theorem within_none {W W' : World} (hg : W.grownBy W' none) : Within 0 0 W W' := ⟨hg.os, hg.tape, hg.output, hg.size, fun j hj _ => hg.block j hj (by simp)⟩
theorem orng_block {W W' : World} {b r n : Nat} {D : DataW Unit} {left : Lit → Bool} {cnt : Nat} (h : ORng W b r n D left cnt) (e1 : W'.heap[b]? = W.heap[b]?) (e2 : W'.heap[r]? = W.heap[r]?) : ORng W' b r n D left cnt := by
  obtain ⟨es, clock, since, seen, c0, hb, F, hs, hD, hr, rest⟩ := h
  exact ⟨es, clock, since, seen, c0, e1.trans hb, F, hs, hD, e2.trans hr, rest⟩
theorem bool_inv {P : Program} {e : TypeId} (he : P.underlying e = some .bool) {v : Value} {y : DataW Unit × List MemPlace} (h : plainElem P e v = some y) : ∃ c, v = .bool c := by
  unfold plainElem at h
  rw [he] at h
  cases v <;> simp at h
  exact ⟨_, rfl⟩
/-- What has been collected: the keys that are no longer to come. -/
def CollS (D : DataW Unit) (left : Lit → Bool) (ks : List Int) : Prop := ∀ x : Int, x ∈ ks ↔ ((Lit.int .i64 x).wf = true ∧ Maps.has D (.int .i64 x) = true ∧ left (.int .i64 x) = false)
theorem CollS.start (D : DataW Unit) : CollS D (Maps.has D) [] := fun x => by cases Maps.has D (.int .i64 x) <;> simp
theorem CollS.step {D : DataW Unit} {left : Lit → Bool} {ks : List Int} (h : CollS D left ks) {x : Int} {y : DataW Unit} (hw : (Lit.int .i64 x).wf = true) (hat : ∀ zd, D.atKey (.int .i64 x) zd = y) : CollS D (fun z => left z && !z.sameKey (.int .i64 x)) (ks ++ [x]) := by
  have hhas : Maps.has D (.int .i64 x) = true := has_true_of_atKey hat
  intro z
  by_cases e : z = x
  · subst e; simp [hhas, hw, Lit.sameKey]
  · simp [h z, e, Lit.sameKey]
theorem CollS.done {D : DataW Unit} {left : Lit → Bool} {ks zs : List Int} (h : CollS D left ks) (hs : SaysS D zs) (hl : ∀ kl, left kl = false) (n : Nat) (hn : n ≤ 1048576) (j : Nat) (hj : j < n) : (j : Int) ∈ ks ↔ (j : Int) ∈ zs := by
  rw [h (j : Int), (hs (j : Int)).1, hl]
  have hw : (Lit.int .i64 (j : Int)).wf = true := WalkArith.wf_i64 (by omega)
  simp [hw]
/-- Five values in a block. -/
def Cel5 (W : World) (b : Nat) (T : TypeId) (v0 v1 v2 v3 v4 : Value) : Prop := W.heap[b]? = some (.cells #[v0, v1, v2, v3, v4] T (0, 0))
section
variable {W W' : World} {b lo hi : Nat} {T : TypeId} {v0 v1 v2 v3 v4 : Value}
theorem Cel5.lt (h : Cel5 W b T v0 v1 v2 v3 v4) : b < W.heap.size := (Array.getElem?_eq_some_iff.1 h).1
theorem Cel5.cells (h : Cel5 W b T v0 v1 v2 v3 v4) : W.cell? ⟨b, 0, none⟩ = some v0 ∧ W.cell? ⟨b, 1, none⟩ = some v1 ∧ W.cell? ⟨b, 2, none⟩ = some v2 ∧ W.cell? ⟨b, 3, none⟩ = some v3 ∧ W.cell? ⟨b, 4, none⟩ = some v4 := by
  refine ⟨?_, ?_, ?_, ?_, ?_⟩
  · rw [cell_of_row W b 0 _ T (0, 0) h]; rfl
  · rw [cell_of_row W b 1 _ T (0, 0) h]; rfl
  · rw [cell_of_row W b 2 _ T (0, 0) h]; rfl
  · rw [cell_of_row W b 3 _ T (0, 0) h]; rfl
  · rw [cell_of_row W b 4 _ T (0, 0) h]; rfl
theorem Cel5.frozen (h : Cel5 W b T v0 v1 v2 v3 v4) : W.frozen? ⟨b, 0, none⟩ = false ∧ W.frozen? ⟨b, 1, none⟩ = false ∧ W.frozen? ⟨b, 2, none⟩ = false ∧ W.frozen? ⟨b, 3, none⟩ = false ∧ W.frozen? ⟨b, 4, none⟩ = false :=
  ⟨frozen_of_row W b 0 _ T h, frozen_of_row W b 1 _ T h, frozen_of_row W b 2 _ T h, frozen_of_row W b 3 _ T h, frozen_of_row W b 4 _ T h⟩
theorem Cel5.within (h : Cel5 W b T v0 v1 v2 v3 v4) (hw : Within lo hi W W') (hd : b < lo ∨ hi ≤ b) : Cel5 W' b T v0 v1 v2 v3 v4 := (hw.block b h.lt hd).trans h
theorem cel5_new (w : World) (v0 v1 v2 v3 v4 : Value) (T : TypeId) : Cel5 (w.alloc (.cells #[v0, v1, v2, v3, v4] T)) w.heap.size T v0 v1 v2 v3 v4 := heap_alloc_new w _
theorem ret5 (h : Cel5 W b T v0 v1 v2 v3 v4) (u0 u1 u2 u3 u4 : Value) : Cel5 (((((W.setCell ⟨b, 0, none⟩ u0).setCell ⟨b, 1, none⟩ u1).setCell ⟨b, 2, none⟩ u2).setCell ⟨b, 3, none⟩ u3).setCell ⟨b, 4, none⟩ u4) b T u0 u1 u2 u3 u4 ∧ Within b (b + 1) W (((((W.setCell ⟨b, 0, none⟩ u0).setCell ⟨b, 1, none⟩ u1).setCell ⟨b, 2, none⟩ u2).setCell ⟨b, 3, none⟩ u3).setCell ⟨b, 4, none⟩ u4) := by
  have h0 : Cel5 _ b T u0 v1 v2 v3 v4 := heap_setCell_same W b 0 _ T u0 h
  have h1 : Cel5 _ b T u0 u1 v2 v3 v4 := heap_setCell_same _ b 1 _ T u1 h0
  have h2 : Cel5 _ b T u0 u1 u2 v3 v4 := heap_setCell_same _ b 2 _ T u2 h1
  have h3 : Cel5 _ b T u0 u1 u2 u3 v4 := heap_setCell_same _ b 3 _ T u3 h2
  have h4 : Cel5 _ b T u0 u1 u2 u3 u4 := heap_setCell_same _ b 4 _ T u4 h3
  exact ⟨h4, ((((within_set W b 0 u0).trans (within_set _ b 1 u1)).trans (within_set _ b 2 u2)).trans (within_set _ b 3 u3)).trans (within_set _ b 4 u4)⟩
end
abbrev bsV (p : Int) (A : Option Addr) (n cap : Nat) (k c : Int) (b : Nat) : Value := .agg #[.int .i64 p, .slice A n cap, .int .i64 k, .int .i64 c, .map (some b)]
end Go.Proofs.Ytdnmmjaelgjkaaa
/- What ClosureOf answers, and what stands while it is collected. No program's walk. No condition. -/
namespace Go.Proofs.Ytdnmmjaelgjkaaa
open Go.RowKit

/-- The bars below n that leave the rank r as it is. -/
noncomputable def cloK (p k c : Int) (l : List (Int × Int)) (zs : List Int) (r : Int) : Nat → List Int
  | 0 => []
  | n + 1 => if rankSV p k c l (zs ++ [(n : Int)]) = r then cloK p k c l zs r n ++ [(n : Int)] else cloK p k c l zs r n
theorem cloK_len (p k c : Int) (l : List (Int × Int)) (zs : List Int) (r : Int) : ∀ n, (cloK p k c l zs r n).length ≤ n := by
  intro n
  induction n with
  | zero => exact Nat.le_refl _
  | succ n ih =>
    unfold cloK
    split
    · simp; omega
    · omega
theorem cloK_in {p k c : Int} {l : List (Int × Int)} {zs : List Int} {r : Int} {n : Nat} (h : rankSV p k c l (zs ++ [(n : Int)]) = r) : cloK p k c l zs r (n + 1) = cloK p k c l zs r n ++ [(n : Int)] := by rw [cloK, if_pos h]
theorem cloK_out {p k c : Int} {l : List (Int × Int)} {zs : List Int} {r : Int} {n : Nat} (h : ¬ rankSV p k c l (zs ++ [(n : Int)]) = r) : cloK p k c l zs r (n + 1) = cloK p k c l zs r n := by rw [cloK, if_neg h]
/-- What ClosureOf answers. -/
noncomputable def cloV (p k c : Int) (l : List (Int × Int)) (zs : List Int) : List Int := if (setB p l zs && rangeB k c) = true then cloK p k c l zs (rankSV p k c l zs) l.length else []
theorem cloV_len (p k c : Int) (l : List (Int × Int)) (zs : List Int) : (cloV p k c l zs).length ≤ l.length := by
  unfold cloV
  split
  · exact cloK_len _ _ _ _ _ _ _
  · simp
theorem cloV_no {p k c : Int} {l : List (Int × Int)} {zs : List Int} (h : setB p l zs = false ∨ rangeB k c = false) : cloV p k c l zs = [] := by
  unfold cloV
  rcases h with h | h <;> rw [h] <;> simp
theorem cloV_yes {p k c : Int} {l : List (Int × Int)} {zs : List Int} (h : setB p l zs = true) (h2 : rangeB k c = true) : cloV p k c l zs = cloK p k c l zs (rankSV p k c l zs) l.length := by unfold cloV; rw [h, h2]; rfl
theorem GrowP.below {a b : Nat} {V W W' : World} {ys : List Int} {A : Option Addr} {cap lo hi : Nat} (h : GrowP a b V W ys A cap lo hi) (hb : Below W.heap.size W W') : GrowP a b V W' ys A cap lo hi :=
  ⟨h.row.within (within_of hb) (.inr (Nat.zero_le _)), h.rng, Nat.le_trans h.le hb.size, ⟨hb.os.trans h.wi.os, hb.tape.trans h.wi.tape, hb.output.trans h.wi.output, Nat.le_trans h.wi.size hb.size, fun i hi hd => (hb.block i (Nat.lt_of_lt_of_le hi h.wi.size)).trans (h.wi.block i hi hd)⟩⟩
/-- A row that is collected beside a block b that is written. -/
structure GrowQ (b : Nat) (V W : World) (ys : List Int) (A : Option Addr) (cap lo hi : Nat) : Prop where
  row : OwnR W lo hi A cap ys
  ge : V.heap.size ≤ lo
  le : lo ≤ W.heap.size
  wi : Within b (b + 1) V W
theorem GrowQ.map {b : Nat} {V W W' : World} {ys : List Int} {A : Option Addr} {cap lo hi : Nat} (h : GrowQ b V W ys A cap lo hi) (hw : Within b (b + 1) W W') (hb : b < V.heap.size) : GrowQ b V W' ys A cap lo hi :=
  ⟨h.row.within hw (.inr (by have := h.ge; omega)), h.ge, Nat.le_trans h.le hw.size, h.wi.trans hw⟩
theorem GrowQ.push {b : Nat} {V W W' : World} {ys : List Int} {y : Int} {A A' : Option Addr} {cap lo hi c' lo' hi' : Nat} (h : GrowQ b V W ys A cap lo hi) (hr : OwnR W' lo' hi' A' c' (ys ++ [y])) (hd : (lo' = lo ∧ hi' = hi) ∨ (W.heap.size ≤ lo' ∧ lo' ≤ W'.heap.size ∧ hi' ≤ W'.heap.size)) (hw : Within lo hi W W') : GrowQ b V W' (ys ++ [y]) A' c' lo' hi' := by
  obtain ⟨_, h2, h3, h4⟩ := h
  have s1 := h4.size
  have s2 := hw.size
  refine ⟨hr, ?_, ?_, ⟨hw.os.trans h4.os, hw.tape.trans h4.tape, hw.output.trans h4.output, Nat.le_trans s1 s2, fun i hi hd => (hw.block i (by omega) (by omega)).trans (h4.block i hi hd)⟩⟩
  · rcases hd with ⟨rfl, rfl⟩ | hd
    · exact h2
    · omega
  · rcases hd with ⟨rfl, rfl⟩ | hd
    · omega
    · exact hd.2.1
end Go.Proofs.Ytdnmmjaelgjkaaa
/- What spec.BridgesOf answers. No condition. -/
namespace Go.Proofs.Ytdnmmjaelgjkaaa
open Go.RowKit

set_option maxHeartbeats 4000000 in
set_option maxRecDepth 100000 in
theorem specBri (p k c : Int) (l : List (Int × Int)) (A : Option Addr) (cap : Nat) (w : World) (hl : BarsAt w w.heap.size A l) (hn : l.length ≤ 1048576) (hA : ∃ a, A = some a) (hcap : l.length ≤ cap) :
    Calls Try.prog 37 #[.agg #[.int .i64 p, .slice A l.length cap], .int .i64 k, .int .i64 c] w (IntsO w (briV p k c l)) := by
  have HRK : ∀ W : World, BarsAt W W.heap.size A l → Calls Try.prog 47 #[.agg #[.int .i64 p, .slice A l.length cap], .int .i64 k, .int .i64 c] W fun e w' => e = .returned (.int .i64 (rankV p k c l)) ∧ Below W.heap.size W w' := fun W h => specRank p k c l A cap W h hn
  have HA := Lib.hid hA
  clear hA
  cases hb : runB p k c l with
  | false =>
    have HR := Lib.hid (briV_no hb)
    have hr : rankV p k c l = -1 := by unfold rankV; rw [hb]; rfl
    rw [hr] at HRK
    clear hb hr
    have W0 := Lib.hid (Below.refl w.heap.size w)
    have HB_0 := Lib.hid (bars_in hl)
    clear hl
    have Z1 := Lib.hid (within_alloc w (.cells #[.int .i64 p, (.slice A l.length cap)] 29)).size
    have W1 := Lib.hid (within_on W0.out (within_alloc w (.cells #[.int .i64 p, (.slice A l.length cap)] 29)) W0.out.size (.inr (Nat.le_refl _)))
    have HB_1 := Lib.hid (HB_0.out.within (within_alloc w (.cells #[.int .i64 p, (.slice A l.length cap)] 29)) (by omega))
    have Y1 := Lib.hid (show (w.alloc (.cells #[.int .i64 p, (.slice A l.length cap)] 29)).heap.size = w.heap.size + 1 by simp)
    have hnew := box_new w p (.slice A l.length cap) 29
    have BX_1 := Lib.hid hnew
    clear hnew
    have Z2 := Lib.hid (within_alloc (w.alloc (.cells #[.int .i64 p, (.slice A l.length cap)] 29)) (.cells #[] 3)).size
    have W2 := Lib.hid (within_on W1.out (within_alloc (w.alloc (.cells #[.int .i64 p, (.slice A l.length cap)] 29)) (.cells #[] 3)) W1.out.size (.inr (Nat.le_refl _)))
    have HB_2 := Lib.hid (HB_1.out.within (within_alloc (w.alloc (.cells #[.int .i64 p, (.slice A l.length cap)] 29)) (.cells #[] 3)) (by omega))
    have BX_2 := Lib.hid (BX_1.out.within (within_alloc (w.alloc (.cells #[.int .i64 p, (.slice A l.length cap)] 29)) (.cells #[] 3)) (by omega))
    have Y2 := Lib.hid (show ((w.alloc (.cells #[.int .i64 p, (.slice A l.length cap)] 29)).alloc (.cells #[] 3)).heap.size = (w.alloc (.cells #[.int .i64 p, (.slice A l.length cap)] 29)).heap.size + 1 by simp)
    have hown := ownR_empty (w.alloc (.cells #[.int .i64 p, (.slice A l.length cap)] 29))
    rw [show (w.alloc (.cells #[.int .i64 p, (.slice A l.length cap)] 29)).heap.size = w.heap.size + 1 by simp] at hown
    have OE_2 := Lib.hid hown
    clear hown
    go_enter Try.func37, Try.ntmps37
    obtain ⟨g0_0, g0_1, g0_2⟩ := BX_2.out
    go_wp2_with fail
    clear g0_0 g0_1 g0_2
    generalize ((w.alloc (.cells #[.int .i64 p, (.slice A l.length cap)] 29)).alloc (.cells #[] 3)) = w2 at *
    generalize (w.alloc (.cells #[.int .i64 p, (.slice A l.length cap)] 29)) = w1 at *
    refine (HRK _ HB_2.out.at).mono ?_
    rintro e w3 ⟨rfl, hb⟩
    have Z3 := Lib.hid (within_of hb).size
    have W3 := Lib.hid (within_on W2.out (within_of hb) W2.out.size (.inr (Nat.le_refl _)))
    have HB_3 := Lib.hid (HB_2.out.within (within_of hb) (by omega))
    have BX_3 := Lib.hid (BX_2.out.within (within_of hb) (by omega))
    have OE_3 := Lib.hid (OE_2.out.within (within_of hb) (by omega))
    clear hb HRK
    go_wp2_with fail
    go_loopw [7, 9] (fun u i wr => u = .slice (some ⟨w.heap.size + 1, 0, none⟩) 0 0 ∧ i = .int .i64 0 ∧ wr = w3) (fun _ _ _ => 0)
    case atStart => exact ⟨rfl, rfl, rfl⟩
    case round =>
      obtain ⟨rfl, rfl, rfl⟩ := hrel
      obtain ⟨_, g1, g2⟩ := BX_3.out
      by_cases h0 : 0 < l.length
      · have h0i : (0 : Int) < (l.length : Int) := by omega
        go_wp2_with fail
        go_ret
        exact ⟨some ⟨w.heap.size + 1, 0, none⟩, 0, by rw [HR.out]; rfl, by rw [HR.out]; exact ⟨Nat.le_refl _, .inl rfl⟩, W3.out⟩
      · have h0i : ¬ (0 : Int) < (l.length : Int) := by omega
        go_wp2_with fail
        go_ret
        exact ⟨some ⟨w.heap.size + 1, 0, none⟩, 0, by rw [HR.out]; rfl, by rw [HR.out]; exact ⟨Nat.le_refl _, .inl rfl⟩, W3.out⟩
  | true =>
    have HF := Lib.hid (briF hb)
    have hpos := HF.out.pos
    obtain ⟨r, hr⟩ : ∃ r, rankV p k c l = r := ⟨_, rfl⟩
    rw [hr] at HRK hpos
    have HR := Lib.hid hr
    clear hb hr
    have W0 := Lib.hid (Below.refl w.heap.size w)
    have HB_0 := Lib.hid (bars_in hl)
    clear hl
    have Z1 := Lib.hid (within_alloc w (.cells #[.int .i64 p, (.slice A l.length cap)] 29)).size
    have W1 := Lib.hid (within_on W0.out (within_alloc w (.cells #[.int .i64 p, (.slice A l.length cap)] 29)) W0.out.size (.inr (Nat.le_refl _)))
    have HB_1 := Lib.hid (HB_0.out.within (within_alloc w (.cells #[.int .i64 p, (.slice A l.length cap)] 29)) (by omega))
    have Y1 := Lib.hid (show (w.alloc (.cells #[.int .i64 p, (.slice A l.length cap)] 29)).heap.size = w.heap.size + 1 by simp)
    have hnew := box_new w p (.slice A l.length cap) 29
    have BX_1 := Lib.hid hnew
    clear hnew
    have Z2 := Lib.hid (within_alloc (w.alloc (.cells #[.int .i64 p, (.slice A l.length cap)] 29)) (.cells #[] 3)).size
    have W2 := Lib.hid (within_on W1.out (within_alloc (w.alloc (.cells #[.int .i64 p, (.slice A l.length cap)] 29)) (.cells #[] 3)) W1.out.size (.inr (Nat.le_refl _)))
    have HB_2 := Lib.hid (HB_1.out.within (within_alloc (w.alloc (.cells #[.int .i64 p, (.slice A l.length cap)] 29)) (.cells #[] 3)) (by omega))
    have BX_2 := Lib.hid (BX_1.out.within (within_alloc (w.alloc (.cells #[.int .i64 p, (.slice A l.length cap)] 29)) (.cells #[] 3)) (by omega))
    have Y2 := Lib.hid (show ((w.alloc (.cells #[.int .i64 p, (.slice A l.length cap)] 29)).alloc (.cells #[] 3)).heap.size = (w.alloc (.cells #[.int .i64 p, (.slice A l.length cap)] 29)).heap.size + 1 by simp)
    have hown := ownR_empty (w.alloc (.cells #[.int .i64 p, (.slice A l.length cap)] 29))
    rw [show (w.alloc (.cells #[.int .i64 p, (.slice A l.length cap)] 29)).heap.size = w.heap.size + 1 by simp] at hown
    have OE_2 := Lib.hid hown
    clear hown
    go_enter Try.func37, Try.ntmps37
    obtain ⟨g0_0, g0_1, g0_2⟩ := BX_2.out
    go_wp2_with fail
    clear g0_0 g0_1 g0_2
    generalize ((w.alloc (.cells #[.int .i64 p, (.slice A l.length cap)] 29)).alloc (.cells #[] 3)) = w2 at *
    generalize (w.alloc (.cells #[.int .i64 p, (.slice A l.length cap)] 29)) = w1 at *
    refine (HRK _ HB_2.out.at).mono ?_
    rintro e w3 ⟨rfl, hb⟩
    have Z3 := Lib.hid (within_of hb).size
    have W3 := Lib.hid (within_on W2.out (within_of hb) W2.out.size (.inr (Nat.le_refl _)))
    have HB_3 := Lib.hid (HB_2.out.within (within_of hb) (by omega))
    have BX_3 := Lib.hid (BX_2.out.within (within_of hb) (by omega))
    have OE_3 := Lib.hid (OE_2.out.within (within_of hb) (by omega))
    clear hb HRK
    go_wp2_with fail
    have HG0 := Lib.hid (show GrowP (w.heap.size + 1) (w.heap.size + 1 + 1) w3 w3 (briK p k c l 0) (some ⟨w.heap.size + 1, 0, none⟩) 0 (w.heap.size + 1) (w.heap.size + 1 + 1) from ⟨OE_3.out, .inl ⟨rfl, rfl⟩, (by have := Z1.out; have := Z2.out; have := Z3.out; have := Y1.out; have := Y2.out; omega), Within.refl _ _ _⟩)
    have hd0 : decide ((0 : Int) ≤ r) = true := decide_eq_true hpos
    go_loopw [7, 9] (fun u i wr => ∃ j : Nat, j ≤ l.length ∧ i = .int .i64 j ∧ ∃ Ao co lo2 hi2, u = .slice Ao (briK p k c l j).length co ∧ GrowP (w.heap.size + 1) (w.heap.size + 1 + 1) w3 wr (briK p k c l j) Ao co lo2 hi2) (fun _ i _ => l.length - (intOf i).toNat)
    case atStart => exact ⟨0, Nat.zero_le _, rfl, _, 0, _, _, rfl, HG0.out⟩
    case round =>
      obtain ⟨j, hj, rfl, Ao, co, lo2, hi2, rfl, hg⟩ := hrel
      have HG := Lib.hid hg
      have HBX2 := Lib.hid (BX_3.out.within hg.wi (.inl (Nat.lt_succ_self _)))
      obtain ⟨_, g1, g2⟩ := HBX2.out
      have HB8 := Lib.hid (HB_3.out.within hg.wi (.inl (Nat.le_succ _)))
      have hcl := briK_len p k c l j
      have HCL := Lib.hid hcl
      clear hg hcl
      by_cases hlt : j < l.length
      · have hji : (j : Int) < (l.length : Int) := by omega
        have HDJ := Lib.hid (HF.out.drop j hlt).2
        rw [HR.out] at HDJ
        obtain ⟨r2, hr2⟩ : ∃ r2, rankV p k c (remL p (j : Int) l) = r2 := ⟨_, rfl⟩
        rw [hr2] at HDJ
        have HR2 := Lib.hid hr2
        clear hr2
        by_cases c9 : r2 < r
        · have HN := Lib.hid (briK_in (p := p) (k := k) (c := c) (l := l) (n := j) (by have := HDJ.out; rw [decide_eq_true c9] at this; simpa using this.symm))
          go_wp2_with (first
            | (at_builtin; refine wpList_pushR _ rfl _ _ rfl lo2 hi2 Ao co (briK p k c l j) (j : Int) rfl HGF.out.row _ (by first | rfl | (simp only [World.size_setCell]; rfl)) (by have := HCL.out; omega) HGF.out.le ?_; intro A6 c6 w16 lo6 hi6 hr6 hor6 hw6; have HG6 := Lib.hid (HGF.out.push hr6 hor6 hw6); clear hr6 hor6 hw6)
            | (go_at_call 47; refine (specRank p k c (remL p (j : Int) l) A5 c5 _ HS6.out.at (remL_len p (j : Int) l hn)).mono ?_; rintro e w7 ⟨rfl, hb⟩; rw [HR2.out]; have HGF := Lib.hid (HG.out.below (below_on HB6.out hb HB6.out.size)); clear hb)
            | (go_at_call 101; refine (specRemove p (j : Int) l A cap _ HB8.out.at hn HA.out hcap).mono ?_; rintro e w5 ⟨A5, c5, rfl, hs, hb⟩; have HS5 := Lib.hid (bars_in hs); have HB5 := Lib.hid hb; have hal := new_below w5 (.cells #[.int .i64 p, .slice A5 (remL p (j : Int) l).length c5] 29); have HAL := Lib.hid hal; have HBX6 := Lib.hid (box_new w5 p (.slice A5 (remL p (j : Int) l).length c5) 29); have HS6 := Lib.hid (HS5.out.within (within_of hal) (.inr (Nat.zero_le _))); have HB6 := Lib.hid (below_on hb hal hb.size); obtain ⟨_, q1, q2⟩ := HBX6.out; clear hs hb hal))
          go_roundw
          case rel => exact ⟨j + 1, by omega, by go_num, A6, c6, lo6, hi6, by rw [HN.out]; simp, by rw [HN.out]; exact HG6.out⟩
          case measure => simp [intOf]; omega
        · have HN := Lib.hid (briK_out (p := p) (k := k) (c := c) (l := l) (n := j) (by have := HDJ.out; rw [decide_eq_false c9] at this; simpa using this.symm))
          go_wp2_with (first
            | (go_at_call 47; refine (specRank p k c (remL p (j : Int) l) A5 c5 _ HS6.out.at (remL_len p (j : Int) l hn)).mono ?_; rintro e w7 ⟨rfl, hb⟩; rw [HR2.out]; have HGF := Lib.hid (HG.out.below (below_on HB6.out hb HB6.out.size)); clear hb)
            | (go_at_call 101; refine (specRemove p (j : Int) l A cap _ HB8.out.at hn HA.out hcap).mono ?_; rintro e w5 ⟨A5, c5, rfl, hs, hb⟩; have HS5 := Lib.hid (bars_in hs); have HB5 := Lib.hid hb; have hal := new_below w5 (.cells #[.int .i64 p, .slice A5 (remL p (j : Int) l).length c5] 29); have HAL := Lib.hid hal; have HBX6 := Lib.hid (box_new w5 p (.slice A5 (remL p (j : Int) l).length c5) 29); have HS6 := Lib.hid (HS5.out.within (within_of hal) (.inr (Nat.zero_le _))); have HB6 := Lib.hid (below_on hb hal hb.size); obtain ⟨_, q1, q2⟩ := HBX6.out; clear hs hb hal))
          go_roundw
          case rel => exact ⟨j + 1, by omega, by go_num, Ao, co, lo2, hi2, by rw [HN.out], by rw [HN.out]; exact HGF.out⟩
          case measure => simp [intOf]; omega
      · obtain rfl : j = l.length := by omega
        go_wp2_with fail
        go_ret
        rw [HF.out.val]
        have hbs := W3.out.size
        exact ⟨Ao, co, rfl, HG.out.out (Nat.le_succ _) hbs, within_on W3.out HG.out.wi hbs (.inl (Nat.le_succ _))⟩
end Go.Proofs.Ytdnmmjaelgjkaaa
/- What ReachOf answers, and what stands while it is sought; rows of bools. No program's walk. No condition. -/
namespace Go.Proofs.Ytdnmmjaelgjkaaa
open Go.RowKit

def startF (V : Nat) : Nat → Bool := fun u => decide (u = V)
/-- The points that are reached from v. -/
noncomputable def reachL (p : Int) (l : List (Int × Int)) (v : Int) : List Int := if (isGB p l && (decide (0 ≤ v) && decide (v < p))) = true then outF p.toNat (iterF l p.toNat (startF v.toNat)) else []
theorem reachL_no {p v : Int} {l : List (Int × Int)} (h : isGB p l = false ∨ v < 0 ∨ p ≤ v) : reachL p l v = [] := by
  unfold reachL
  rw [if_neg]
  intro k
  simp only [Bool.and_eq_true, decide_eq_true_eq] at k
  rcases h with h | h | h
  · rw [h] at k; cases k.1
  · omega
  · omega
theorem reachL_yes {P V : Nat} {l : List (Int × Int)} (h : isGB (P : Int) l = true) (hv : V < P) : reachL P l V = outF P (iterF l P (startF V)) := by
  unfold reachL
  rw [if_pos]
  · rfl
  · rw [h]; simp; omega
theorem reachL_len (p v : Int) (l : List (Int × Int)) : (reachL p l v).length ≤ 8 := by
  unfold reachL
  split
  · rename_i h
    simp only [Bool.and_eq_true] at h
    have : IsG p l := by
      refine Classical.byContradiction fun g => ?_
      rw [isGB_no g] at h
      cases h.1
    exact Nat.le_trans (outF_len _ _) (by have := this.1; omega)
  · simp
theorem infoBool : (Try.prog.info? 4).map (fun i => (i.zero, i.size, i.bytes)) = some (some (.bool false), 1, 1) := by kernel_rfl
def boolCells (n : Nat) (S : Nat → Bool) : List Value := (rowB n S).map Value.bool
theorem boolCells_none (n : Nat) : List.replicate n (Value.bool false) = boolCells n (fun _ => false) := by
  apply List.ext_getElem?
  intro i
  by_cases hi : i < n
  · simp [boolCells, rowB, hi]
  · rw [List.getElem?_eq_none (by simp; omega), List.getElem?_eq_none (by simp [boolCells, rowB]; omega)]
theorem boolCells_start (n V : Nat) : (boolCells n (fun _ => false)).set V (.bool true) = boolCells n (startF V) := by
  unfold boolCells
  rw [← List.map_set]
  congr 1
  apply List.ext_getElem?
  intro i
  by_cases hi : i < n
  · rw [rowB_get _ _ _ hi, List.getElem?_set, rowB_get _ _ _ hi]
    simp only [rowB_len, startF]
    by_cases h : V = i
    · subst h; simp [hi]
    · have h' : ¬ i = V := fun e => h e.symm
      simp [h, h']
  · rw [List.getElem?_eq_none (by simp [rowB_len]; omega), List.getElem?_eq_none (by simp [rowB_len]; omega)]
theorem boolCells_get (n : Nat) (S : Nat → Bool) (v : Nat) (h : v < n) : (boolCells n S)[v]? = some (.bool (S v)) := by
  unfold boolCells
  rw [List.getElem?_map, rowB_get n S v h]
  rfl
theorem boolCells_set (n : Nat) (S : Nat → Bool) (x : Int × Int) (c : Bool) (h : (S x.1.toNat || S x.2.toNat) = c) :
    ((boolCells n S).set x.1.toNat (.bool c)).set x.2.toNat (.bool c) = boolCells n (relaxF S x) := by
  unfold boolCells
  rw [← List.map_set, ← List.map_set, ← h, rowB_set]
theorem fold_step (l : List (Int × Int)) (S : Nat → Bool) (j : Nat) (h : j < l.length) : (l.take (j + 1)).foldl relaxF S = relaxF ((l.take j).foldl relaxF S) (l.getD j (0, 0)) := by
  rw [take_getD l (0, 0) j h, List.foldl_append]
  rfl

/-- Where the walk of spec.ReachOf stands: the row of what is reached, the empty row of answers, the graph in its box. -/
def ReachSt (w wr : World) (P : Nat) (n : Nat) (A : Option Addr) (cap gs : Nat) (S : Nat → Bool) : Prop :=
  wr.ownsRow w.heap.size 4 1 (.slice (some ⟨gs, 0, none⟩) P P) P (boolCells P S) ∧ Box wr w.heap.size (P : Int) (.slice A n cap) ∧ wr.ownsRow w.heap.size 3 1 (.slice (some ⟨w.heap.size + 1, 0, none⟩) 0 0) 0 [] ∧ Below w.heap.size w wr ∧ w.heap.size + 1 < gs
theorem ReachSt.set {w wr : World} {P n : Nat} {A : Option Addr} {cap gs : Nat} {S S' : Nat → Bool} (h : ReachSt w wr P n A cap gs S) (a b : Nat) (u u' : Value) (hs : ((boolCells P S).set a u).set b u' = boolCells P S') : ReachSt w ((wr.setCell ⟨gs, a, none⟩ u).setCell ⟨gs, b, none⟩ u') P n A cap gs S' := by
  obtain ⟨h1, h2, h3, h4, h5⟩ := h
  have s1 := h1.stored a u
  have s2 := s1.1.stored b u'
  have hg := s1.2.trans_ s2.2
  rw [hs] at s2
  have hlt := h1.lt gs rfl
  exact ⟨s2.1, h2.grown hg (by omega), h3.kept hg (.inr (by simp [Value.ownBlock]; omega)), h4.grown hg (Nat.le_trans h4.size (Nat.le_refl _)) (fun k hk => by cases hk; exact hlt.1), h5⟩

theorem ReachSt.set1 {w wr : World} {P n : Nat} {A : Option Addr} {cap gs : Nat} {S S' : Nat → Bool} (h : ReachSt w wr P n A cap gs S) (a : Nat) (u : Value) (hs : (boolCells P S).set a u = boolCells P S') : ReachSt w (wr.setCell ⟨gs, a, none⟩ u) P n A cap gs S' := by
  obtain ⟨h1, h2, h3, h4, h5⟩ := h
  have s1 := h1.stored a u
  rw [hs] at s1
  have hlt := h1.lt gs rfl
  exact ⟨s1.1, h2.grown s1.2 (by omega), h3.kept s1.2 (.inr (by simp [Value.ownBlock]; omega)), h4.grown s1.2 (Nat.le_trans h4.size (Nat.le_refl _)) (fun k hk => by cases hk; exact hlt.1), h5⟩
theorem ReachSt.start {w w2 w3 : World} {P n : Nat} {A : Option Addr} {cap : Nat} (hb : Below w.heap.size w w2) (hx : Box w2 w.heap.size (P : Int) (.slice A n cap)) (ho : w2.ownsRow w.heap.size 3 1 (.slice (some ⟨w.heap.size + 1, 0, none⟩) 0 0) 0 []) (hs : w.heap.size + 1 < w2.heap.size)
    (hown3 : w3.ownsRow w2.heap.size 4 1 (.slice (some ⟨w2.heap.size, 0, none⟩) P P) P (List.replicate P (.bool false))) (hb3 : Below w2.heap.size w2 w3) : ReachSt w w3 P n A cap w2.heap.size (fun _ => false) := by
  rw [boolCells_none] at hown3
  exact ⟨own_base hown3 hb.size, hx.kept hb3, own_below ho hb3, below_on hb hb3 hb.size, hs⟩

/-- Where the walk stands that collects the answers. -/
def OutSt (w wr : World) (P n : Nat) (A : Option Addr) (cap gs : Nat) (S : Nat → Bool) (k : Nat) (A' : Option Addr) (c' : Nat) : Prop :=
  wr.ownsRow w.heap.size 3 1 (.slice A' (outF k S).length c') (outF k S).length (intCells (outF k S)) ∧ (∀ a, A' = some a → a.block ≠ gs ∧ a.block ≠ w.heap.size) ∧ wr.ownsRow w.heap.size 4 1 (.slice (some ⟨gs, 0, none⟩) P P) P (boolCells P S) ∧ Box wr w.heap.size (P : Int) (.slice A n cap) ∧ Below w.heap.size w wr
theorem ReachSt.out {w wr : World} {P n : Nat} {A : Option Addr} {cap gs : Nat} {S : Nat → Bool} (h : ReachSt w wr P n A cap gs S) : OutSt w wr P n A cap gs S 0 (some ⟨w.heap.size + 1, 0, none⟩) 0 :=
  ⟨h.2.2.1, fun a e => by cases e; exact ⟨by have := h.2.2.2.2; show w.heap.size + 1 ≠ gs; omega, by show w.heap.size + 1 ≠ w.heap.size; omega⟩, h.1, h.2.1, h.2.2.2.1⟩
theorem OutSt.no {w wr : World} {P n : Nat} {A : Option Addr} {cap gs : Nat} {S : Nat → Bool} {k : Nat} {A' : Option Addr} {c' : Nat} (h : OutSt w wr P n A cap gs S k A' c') (hs : S k = false) : OutSt w wr P n A cap gs S (k + 1) A' c' := by
  have e : outF (k + 1) S = outF k S := by rw [outF_succ, hs]; simp
  unfold OutSt at *
  rw [e]
  exact h
theorem OutSt.yes {w wr w' : World} {P n : Nat} {A : Option Addr} {cap gs : Nat} {S : Nat → Bool} {k : Nat} {A' A2 : Option Addr} {c' c2 : Nat} (h : OutSt w wr P n A cap gs S k A' c') (hs : S k = true)
    (ho : w'.ownsRow w.heap.size 3 1 (.slice A2 ((outF k S).length + 1) c2) ((outF k S).length + 1) (intCells (outF k S) ++ [.int .i64 k])) (hg : wr.grownBy w' (Value.slice A' (outF k S).length c').ownBlock)
    (hat : (Value.slice A2 ((outF k S).length + 1) c2).ownBlock = (Value.slice A' (outF k S).length c').ownBlock ∨ (Value.slice A2 ((outF k S).length + 1) c2).ownBlock = some (wr.heap.size + 1)) : OutSt w w' P n A cap gs S (k + 1) A2 c2 := by
  have e : outF (k + 1) S = outF k S ++ [(k : Int)] := by rw [outF_succ, hs]; simp
  have e2 : (outF (k + 1) S).length = (outF k S).length + 1 := by rw [e]; simp
  obtain ⟨h1, h2, h3, h4, h5⟩ := h
  have hgs := h3.lt gs rfl
  have hob : ∀ g, (Value.slice A' (outF k S).length c').ownBlock = some g → g ≠ gs ∧ g ≠ w.heap.size := fun g hgg => by
    cases A' with
    | none => cases hgg
    | some a => cases hgg; exact h2 a rfl
  unfold OutSt
  rw [e2, e]
  refine ⟨by rw [show intCells (outF k S ++ [(k : Int)]) = intCells (outF k S) ++ [.int .i64 k] by simp [intCells]]; exact ho, fun a ea => ?_, h3.kept hg ?_, ?_, h5.grown hg (Nat.le_trans h5.size (Nat.le_refl _)) fun g hgg => (h1.lt g hgg).1⟩
  · subst ea
    rcases hat with hat | hat
    · exact hob a.block hat.symm
    · have hat' : a.block = wr.heap.size + 1 := by simpa [Value.ownBlock] using hat
      have := h4.1
      exact ⟨by omega, by omega⟩
  · refine .inr fun hc => ?_
    exact (hob gs hc.symm).1 rfl
  · refine ⟨Nat.lt_of_lt_of_le h4.1 hg.size, ?_, ?_⟩
    · exact (World.cell?_of_block (hg.block w.heap.size h4.1 fun hc => (hob _ hc.symm).2 rfl)).trans h4.2.1
    · exact (World.cell?_of_block (a := ⟨w.heap.size, 1, none⟩) (hg.block w.heap.size h4.1 fun hc => (hob _ hc.symm).2 rfl)).trans h4.2.2
end Go.Proofs.Ytdnmmjaelgjkaaa
/- What the program's OnlyBars answers: the same as the specification's. No condition. -/
namespace Go.Proofs.Ytdnmmjaelgjkaaa
open Go.RowKit

theorem inS_step (zs : List Int) (j : Nat) (h : j < zs.length) (u : Nat) : inS (zs.take (j + 1)) u = (inS (zs.take j) u || decide ((u : Int) = zs.getD j 0)) := by
  unfold inS
  rw [take_getD zs 0 j h]
  simp [List.mem_append]
theorem boolCells_same (n : Nat) (S T : Nat → Bool) (h : ∀ u, u < n → S u = T u) : boolCells n S = boolCells n T := by
  unfold boolCells rowB
  congr 1
  exact List.map_congr_left fun u hu => h u (List.mem_range.1 hu)
theorem boolCells_one (n : Nat) (S : Nat → Bool) (a : Nat) : (boolCells n S).set a (.bool true) = boolCells n (fun u => S u || decide (u = a)) := by
  unfold boolCells
  rw [← List.map_set]
  congr 1
  apply List.ext_getElem?
  intro i
  by_cases hi : i < n
  · rw [rowB_get _ _ _ hi, List.getElem?_set, rowB_get _ _ _ hi]
    simp only [rowB_len]
    by_cases h : a = i
    · subst h; simp [hi]
    · have h' : ¬ i = a := fun e => h e.symm
      simp [h, h']
  · rw [List.getElem?_eq_none (by simp [rowB_len]; omega), List.getElem?_eq_none (by simp [rowB_len]; omega)]

set_option maxHeartbeats 4000000 in
set_option maxRecDepth 100000 in
theorem implOnly (p : Int) (l : List (Int × Int)) (zs : List Int) (A Z : Option Addr) (cap cz lo hi : Nat) (w : World) (hl : BarsAt w w.heap.size A l) (hz : IntsIn w lo hi Z zs) (hn : l.length ≤ 1048576) (hnz : zs.length ≤ 1048576) :
    Calls Try.prog 107 #[.agg #[.int .i64 p, .slice A l.length cap], .slice Z zs.length cz] w (GraphO w p (onlyL l zs)) := by
  have hA1 := new_below w (.cells #[.int .i64 p, .slice A l.length cap] 29)
  have hA2 := new_below (w.alloc (.cells #[.int .i64 p, .slice A l.length cap] 29)) (.cells #[.int .i64 0, .slice none 0 0] 29)
  have hsz1 : (w.alloc (.cells #[.int .i64 p, .slice A l.length cap] 29)).heap.size = w.heap.size + 1 := by simp
  have hsz2 : ((w.alloc (.cells #[.int .i64 p, .slice A l.length cap] 29)).alloc (.cells #[.int .i64 0, .slice none 0 0] 29)).heap.size = w.heap.size + 2 := by simp
  have HA := Lib.hid (below_on hA1 hA2 hA1.size)
  have HLW := Lib.hid hl
  have HZW := Lib.hid hz
  have hB := (box_new w p (.slice A l.length cap) 29).kept hA2
  have BX := Lib.hid hB
  have hR := box_new (w.alloc (.cells #[.int .i64 p, .slice A l.length cap] 29)) 0 (.slice none 0 0) 29
  have hF : ((w.alloc (.cells #[.int .i64 p, .slice A l.length cap] 29)).alloc (.cells #[.int .i64 0, .slice none 0 0] 29)).frozen? ⟨(w.alloc (.cells #[.int .i64 p, .slice A l.length cap] 29)).heap.size, 0, none⟩ = false ∧ ((w.alloc (.cells #[.int .i64 p, .slice A l.length cap] 29)).alloc (.cells #[.int .i64 0, .slice none 0 0] 29)).frozen? ⟨(w.alloc (.cells #[.int .i64 p, .slice A l.length cap] 29)).heap.size, 1, none⟩ = false := ⟨World.frozen?_alloc_at _ _ _ _ rfl, World.frozen?_alloc_at _ _ _ _ rfl⟩
  rw [hsz1] at hR hF
  have HR := Lib.hid hR
  have HF := Lib.hid hF
  have HSZ := Lib.hid hsz2
  clear hl hz hA1 hA2 hsz1 hR hF hsz2
  go_enter Try.func107, Try.ntmps107
  obtain ⟨_, g1, g2⟩ := hB
  go_wp2_with (at_make; generalize ((w.alloc (.cells #[.int .i64 p, .slice A l.length cap] 29)).alloc (.cells #[.int .i64 0, .slice none 0 0] 29)) = w1 at *; refine wpList_mkn _ rfl _ _ 142 rfl w1.heap.size 4 (.bool false) 1 Try.underlying142 infoBool rfl _ _ _ _ l.length rfl rfl rfl rfl (by omega) (by unfold maxLen; omega) (Nat.le_refl _) ?_; intro w2 hown2 hb2; have HO2 := Lib.hid hown2; have HB2 := Lib.hid hb2; clear hown2 hb2)
  clear g1 g2
  go_loopw [17] (fun i wr => ∃ j : Nat, j ≤ zs.length ∧ i = .int .i64 j ∧ wr.ownsRow w1.heap.size 4 1 (.slice (some ⟨w1.heap.size, 0, none⟩) l.length l.length) l.length (boolCells l.length (inS (zs.take j))) ∧ Below w1.heap.size w1 wr) (fun i _ => zs.length - (intOf i).toNat)
  case atStart => exact ⟨0, by omega, rfl, by have := HO2.out; rw [boolCells_none] at this; rw [boolCells_same _ _ (fun _ => false) (fun u _ => by simp [inS])]; exact this, HB2.out⟩
  case round =>
    obtain ⟨j, hj, rfl, hown, hb⟩ := hrel
    have HB := Lib.hid hb
    have HO := Lib.hid hown
    have hbs := hb.size
    clear hb
    by_cases hlt : j < zs.length
    · have hij : (j : Int) < (zs.length : Int) := by omega
      obtain ⟨bz, oz, rfl, hz1, hz2, hcell⟩ := HZW.out.2 (by omega)
      have hbz : bz < w.heap.size := Nat.lt_of_lt_of_le hz2 HZW.out.1
      have hc := ((below_on HA.out HB.out HA.out.size).cell (p := ⟨bz, oz + j, none⟩) hbz).trans (hcell j hlt)
      clear hcell
      have HS := Lib.hid (inS_step zs j hlt)
      obtain ⟨z, hz⟩ : ∃ z, zs.getD j 0 = z := ⟨_, rfl⟩
      rw [hz] at hc HS
      clear hz
      by_cases h0 : 0 ≤ z
      · by_cases h1 : z < (l.length : Int)
        · obtain ⟨a, rfl⟩ : ∃ a : Nat, z = (a : Int) := ⟨z.toNat, by omega⟩
          have han : a < l.length := by omega
          have hca := (hown.cellAt a (by omega)).trans (boolCells_get l.length _ a han)
          have hfa := hown.frozenAt a
          have hst := hown.stored a (.bool true)
          have HB3 := Lib.hid (HB.out.grown hst.2 hbs fun g e => by cases e; exact Nat.le_refl _)
          have ho3 := hst.1
          rw [boolCells_one _ _ a] at ho3
          have HO3 := Lib.hid ho3
          have HE := Lib.hid (boolCells_same l.length (inS (zs.take (j + 1))) (fun u => inS (zs.take j) u || decide (u = a)) fun u _ => by rw [HS.out u]; congr 1; simp; omega)
          clear hown hst ho3
          go_wp2_with fail
          go_roundw
          case rel => exact ⟨j + 1, by omega, by go_num, by rw [HE.out]; exact HO3.out, HB3.out⟩
          case measure => simp [intOf]; omega
        · have HE := Lib.hid (boolCells_same l.length (inS (zs.take (j + 1))) (inS (zs.take j)) fun u hu => by rw [HS.out u, decide_eq_false (by omega), Bool.or_false])
          clear hown
          go_wp2_with fail
          go_roundw
          case rel => exact ⟨j + 1, by omega, by go_num, by rw [HE.out]; exact HO.out, HB.out⟩
          case measure => simp [intOf]; omega
      · have HE := Lib.hid (boolCells_same l.length (inS (zs.take (j + 1))) (inS (zs.take j)) fun u hu => by rw [HS.out u, decide_eq_false (by omega), Bool.or_false])
        clear hown
        go_wp2_with fail
        go_roundw
        case rel => exact ⟨j + 1, by omega, by go_num, by rw [HE.out]; exact HO.out, HB.out⟩
        case measure => simp [intOf]; omega
    · obtain rfl : j = zs.length := by omega
      obtain ⟨wq, rfl⟩ : ∃ x, x = wr := ⟨wr, rfl⟩
      have hown' := HO.out
      rw [List.take_length] at hown'
      have HOK := Lib.hid hown'
      have hlt1 : w1.heap.size < wq.heap.size := (hown'.lt _ rfl).2
      have HG := Lib.hid (gbox_nil wq w.heap.size [w.heap.size, w.heap.size + 1, w1.heap.size] p (Nat.le_trans HA.out.size hbs) (fun o ho => by have := HSZ.out; simp at ho; omega))
      have BXR := Lib.hid (BX.out.kept HB.out)
      have HRR := Lib.hid (HR.out.kept HB.out)
      have HFR := Lib.hid (show wq.frozen? ⟨w.heap.size + 1, 0, none⟩ = false ∧ wq.frozen? ⟨w.heap.size + 1, 1, none⟩ = false from ⟨(HB.out.frozen (p := ⟨w.heap.size + 1, 0, none⟩) HR.out.1).trans HF.out.1, (HB.out.frozen (p := ⟨w.heap.size + 1, 1, none⟩) HR.out.1).trans HF.out.2⟩)
      have HAW := Lib.hid (below_on HA.out HB.out HA.out.size)
      obtain ⟨_, g1, g2⟩ := BXR.out
      clear hown hown' hlt
      go_wp2_with fail
      clear g1 g2
      go_loopw [39] (fun i wr => ∃ k : Nat, k ≤ l.length ∧ i = .int .i64 k ∧ ∃ A' c', GBox w.heap.size wq wr wq.heap.size [w.heap.size, w.heap.size + 1, w1.heap.size] p A' c' (onlyK l (inS zs) k)) (fun i _ => l.length - (intOf i).toNat)
      case atStart => exact ⟨0, by omega, rfl, _, _, HG.out⟩
      case round =>
        obtain ⟨k, hk, rfl, A', c', hst⟩ := hrel
        have HST := Lib.hid hst
        have HBW := Lib.hid (HAW.out.trans hst.2.2.2.2.2.1)
        have hbs' : w.heap.size ≤ wr.heap.size := Nat.le_of_lt (Nat.lt_of_le_of_lt hst.2.2.2.2.2.2 hst.1.1)
        clear hst
        by_cases hlt : k < l.length
        · have hik : (k : Int) < (l.length : Int) := by omega
          obtain ⟨b0, off, rfl, hbB, hcell⟩ := HLW.out (by omega)
          have hc1 := (HBW.out.cell (p := ⟨b0, off + k * 2, none⟩) hbB).trans (hcell k hlt).1
          have hc2 := (HBW.out.cell (p := ⟨b0, off + k * 2 + 1, none⟩) hbB).trans (hcell k hlt).2
          obtain ⟨x, hx⟩ : ∃ x, l.getD k (0, 0) = x := ⟨_, rfl⟩
          rw [hx] at hc1 hc2
          obtain ⟨x1, x2⟩ := x
          simp only at hc1 hc2
          clear hcell
          have hal := new_below wr (.cells #[.int .i64 x1, .int .i64 x2] 85)
          have HSA := Lib.hid (HST.out.below hal)
          have hsk := (HSA.out.cell (o := w1.heap.size) (k := k) (by simp)).trans ((HOK.out.cellAt k (by omega)).trans (boolCells_get l.length (inS zs) k hlt))
          clear hal
          rcases hs : inS zs k with _ | _
          · have HE := Lib.hid (show onlyK l (inS zs) (k + 1) = onlyK l (inS zs) k by rw [onlyK, hs]; simp)
            rw [hs] at hsk
            go_wp2_with fail
            go_roundw
            case rel => exact ⟨k + 1, by omega, by go_num, A', c', by rw [HE.out]; exact HSA.out⟩
            case measure => simp [intOf]; omega
          · have HE := Lib.hid (show onlyK l (inS zs) (k + 1) = onlyK l (inS zs) k ++ [(x1, x2)] by rw [onlyK, hs, hx]; simp)
            rw [hs] at hsk
            have hll := onlyK_len l (inS zs) k
            obtain ⟨L, hL⟩ : ∃ L, L = onlyK l (inS zs) k := ⟨_, rfl⟩
            rw [← hL] at HSA HE hll
            clear hL hx
            obtain ⟨hlt0, g1, g2⟩ := HSA.out.1
            have gf := HSA.out.2.1
            have hbs2 : w.heap.size ≤ (wr.alloc (.cells #[.int .i64 x1, .int .i64 x2] 85)).heap.size := by simp; omega
            go_wp2_with (at_builtin; refine wpList_at _ rfl _ _ 27 rfl w.heap.size 85 (.agg #[.int .i64 0, .int .i64 0]) 2 16 Try.underlying27 infoBar rfl (by decide) _ _ _ rfl HSA.out.2.2.2.1 #[.int .i64 x1, .int .i64 x2] 1 rfl (by simp [Value.oneCell']) _ 1 (by simp [Act.eval]) (by omega) (by unfold maxLen; omega) hbs2 ?_; intro v' w' ho hg hat _; obtain ⟨c0, c1, f1, A2, c2, rfl, hG2⟩ := HSA.out.push (x1, x2) ho hg hat; have HG2 := Lib.hid hG2; clear ho hg hat hG2)
            go_roundw
            case rel => exact ⟨k + 1, by omega, by go_num, A2, c2, by rw [HE.out]; exact HG2.out⟩
            case measure => simp [intOf]; omega
        · obtain rfl : k = l.length := by omega
          obtain ⟨_, g1, g2⟩ := HST.out.1
          have r0 := (HST.out.cell (o := w.heap.size + 1) (k := 0) (by simp)).trans HRR.out.2.1
          have r1 := (HST.out.cell (o := w.heap.size + 1) (k := 1) (by simp)).trans HRR.out.2.2
          have f0 := (HST.out.frozen (o := w.heap.size + 1) (k := 0) (by simp)).trans HFR.out.1
          have f1 := (HST.out.frozen (o := w.heap.size + 1) (k := 1) (by simp)).trans HFR.out.2
          have hr := HST.out.ret (o := w.heap.size + 1) (by simp) (by omega) (.int .i64 p) (.slice A' (onlyK l (inS zs) l.length).length c')
          have HRT := Lib.hid hr
          have s0 : ((wr.setCell ⟨w.heap.size + 1, 0, none⟩ (.int .i64 p)).setCell ⟨w.heap.size + 1, 1, none⟩ (.slice A' (onlyK l (inS zs) l.length).length c')).cell? ⟨w.heap.size + 1, 0, none⟩ = some (.int .i64 p) := by
            rw [World.cell?_setCell_other _ _ _ _ (by intro e; simp at e)]
            exact World.cell?_setCell_same _ _ _ r0
          have s1 : ((wr.setCell ⟨w.heap.size + 1, 0, none⟩ (.int .i64 p)).setCell ⟨w.heap.size + 1, 1, none⟩ (.slice A' (onlyK l (inS zs) l.length).length c')).cell? ⟨w.heap.size + 1, 1, none⟩ = some (.slice A' (onlyK l (inS zs) l.length).length c') := by
            have r2 : (wr.setCell ⟨w.heap.size + 1, 0, none⟩ (.int .i64 p)).cell? ⟨w.heap.size + 1, 1, none⟩ = some (.slice none 0 0) := by
              rw [World.cell?_setCell_other _ _ _ _ (by intro e; simp at e)]
              exact r1
            exact World.cell?_setCell_same _ _ _ r2
          clear hr
          go_wp2_with fail
          refine bodyPost_ret (v := .agg #[.int .i64 p, .slice A' (onlyK l (inS zs) l.length).length c']) ?_ rfl ⟨A', c', rfl, HRT.out.1, HAW.out.trans HRT.out.2⟩
          simp [results, Try.results107, go_sem, s0, s1]
end Go.Proofs.Ytdnmmjaelgjkaaa
/- What impl.RankOfSet answers. No condition. -/
namespace Go.Proofs.Ytdnmmjaelgjkaaa
open Go.RowKit

set_option maxHeartbeats 2000000 in
set_option maxRecDepth 100000 in
theorem implRankSet (p k c : Int) (l : List (Int × Int)) (zs : List Int) (A Z : Option Addr) (cap cz lo hi : Nat) (w : World) (hl : BarsAt w w.heap.size A l) (hz : IntsIn w lo hi Z zs) (hn : l.length ≤ 1048576) (hnz : zs.length ≤ 1048576) :
    Calls Try.prog 42 #[.agg #[.int .i64 p, .slice A l.length cap], .int .i64 k, .int .i64 c, .slice Z zs.length cz] w fun e w' => e = .returned (.int .i64 (rankSV p k c l zs)) ∧ Below w.heap.size w w' := by
  have HISG : ∀ W : World, BarsAt W W.heap.size A l → Calls Try.prog 88 #[.agg #[.int .i64 p, .slice A l.length cap]] W fun e w' => e = .returned (.bool (isGB p l)) ∧ Below W.heap.size W w' := fun W h => implIsGraph p l A cap W h hn
  obtain ⟨rv, hrv⟩ : ∃ rv, rankSV p k c l zs = rv := ⟨_, rfl⟩
  rw [hrv]
  unfold rankSV at hrv
  cases hg : isGB p l with
  | false =>
    have HRV := Lib.hid (show rv = -1 from by rw [← hrv, hg]; rfl)
    clear hrv
    rw [hg] at HISG
    clear hg
    have W0 := Lib.hid (Below.refl w.heap.size w)
    have HB_0 := Lib.hid (bars_in hl)
    have HZ_0 := Lib.hid (hz)
    clear hl hz
    have Z1 := Lib.hid (within_alloc w (.cells #[.int .i64 p, (.slice A l.length cap)] 29)).size
    have W1 := Lib.hid (within_on W0.out (within_alloc w (.cells #[.int .i64 p, (.slice A l.length cap)] 29)) W0.out.size (.inr (Nat.le_refl _)))
    have HB_1 := Lib.hid (HB_0.out.within (within_alloc w (.cells #[.int .i64 p, (.slice A l.length cap)] 29)) (by omega))
    have HZ_1 := Lib.hid (HZ_0.out.within (within_alloc w (.cells #[.int .i64 p, (.slice A l.length cap)] 29)) (by omega))
    have Y1 := Lib.hid (show (w.alloc (.cells #[.int .i64 p, (.slice A l.length cap)] 29)).heap.size = w.heap.size + 1 by simp)
    have hnew := box_new w p (.slice A l.length cap) 29
    have BX_1 := Lib.hid hnew
    clear hnew
    go_enter Try.func42, Try.ntmps42
    obtain ⟨g0_0, g0_1, g0_2⟩ := BX_1.out
    go_wp2_with fail
    clear g0_0 g0_1 g0_2
    generalize (w.alloc (.cells #[.int .i64 p, (.slice A l.length cap)] 29)) = w1 at *
    refine (HISG _ HB_1.out.at).mono ?_
    rintro e w2 ⟨rfl, hb⟩
    have Z2 := Lib.hid (within_of hb).size
    have W2 := Lib.hid (within_on W1.out (within_of hb) W1.out.size (.inr (Nat.le_refl _)))
    have HB_2 := Lib.hid (HB_1.out.within (within_of hb) (by omega))
    have HZ_2 := Lib.hid (HZ_1.out.within (within_of hb) (by omega))
    have BX_2 := Lib.hid (BX_1.out.within (within_of hb) (by omega))
    clear hb
    go_wp2_with fail
    go_ret
    exact ⟨by rw [HRV.out]; rfl, W2.out⟩
  | true =>
    have HRV := Lib.hid (show rv = rankV p k c (onlyL l zs) from by rw [← hrv, hg]; rfl)
    clear hrv
    rw [hg] at HISG
    clear hg
    have W0 := Lib.hid (Below.refl w.heap.size w)
    have HB_0 := Lib.hid (bars_in hl)
    have HZ_0 := Lib.hid (hz)
    clear hl hz
    have Z1 := Lib.hid (within_alloc w (.cells #[.int .i64 p, (.slice A l.length cap)] 29)).size
    have W1 := Lib.hid (within_on W0.out (within_alloc w (.cells #[.int .i64 p, (.slice A l.length cap)] 29)) W0.out.size (.inr (Nat.le_refl _)))
    have HB_1 := Lib.hid (HB_0.out.within (within_alloc w (.cells #[.int .i64 p, (.slice A l.length cap)] 29)) (by omega))
    have HZ_1 := Lib.hid (HZ_0.out.within (within_alloc w (.cells #[.int .i64 p, (.slice A l.length cap)] 29)) (by omega))
    have Y1 := Lib.hid (show (w.alloc (.cells #[.int .i64 p, (.slice A l.length cap)] 29)).heap.size = w.heap.size + 1 by simp)
    have hnew := box_new w p (.slice A l.length cap) 29
    have BX_1 := Lib.hid hnew
    clear hnew
    go_enter Try.func42, Try.ntmps42
    obtain ⟨g0_0, g0_1, g0_2⟩ := BX_1.out
    go_wp2_with fail
    clear g0_0 g0_1 g0_2
    generalize (w.alloc (.cells #[.int .i64 p, (.slice A l.length cap)] 29)) = w1 at *
    refine (HISG _ HB_1.out.at).mono ?_
    rintro e w2 ⟨rfl, hb⟩
    have Z2 := Lib.hid (within_of hb).size
    have W2 := Lib.hid (within_on W1.out (within_of hb) W1.out.size (.inr (Nat.le_refl _)))
    have HB_2 := Lib.hid (HB_1.out.within (within_of hb) (by omega))
    have HZ_2 := Lib.hid (HZ_1.out.within (within_of hb) (by omega))
    have BX_2 := Lib.hid (BX_1.out.within (within_of hb) (by omega))
    clear hb
    obtain ⟨g1_0, g1_1, g1_2⟩ := BX_2.out
    go_wp2_with fail
    clear g1_0 g1_1 g1_2
    refine (implOnly p l zs A Z cap cz _ _ _ HB_2.out.at HZ_2.out hn hnz).mono ?_
    rintro e w3 ⟨AO, cO, rfl, ho, hb⟩
    have Z3 := Lib.hid (within_of hb).size
    have W3 := Lib.hid (within_on W2.out (within_of hb) W2.out.size (.inr (Nat.le_refl _)))
    have HB_3 := Lib.hid (HB_2.out.within (within_of hb) (by omega))
    have HZ_3 := Lib.hid (HZ_2.out.within (within_of hb) (by omega))
    have BX_3 := Lib.hid (BX_2.out.within (within_of hb) (by omega))
    have OB_3 := Lib.hid (ho.bars)
    clear ho hb
    go_wp2_with fail
    refine (implRank p k c (onlyL l zs) AO cO _ OB_3.out.at (onlyL_len l zs hn)).mono ?_
    rintro e w4 ⟨rfl, hb⟩
    have Z4 := Lib.hid (within_of hb).size
    have W4 := Lib.hid (within_on W3.out (within_of hb) W3.out.size (.inr (Nat.le_refl _)))
    have HB_4 := Lib.hid (HB_3.out.within (within_of hb) (by omega))
    have HZ_4 := Lib.hid (HZ_3.out.within (within_of hb) (by omega))
    have BX_4 := Lib.hid (BX_3.out.within (within_of hb) (by omega))
    have OB_4 := Lib.hid (OB_3.out.within (within_of hb) (by omega))
    clear hb
    go_wp2_with fail
    go_ret
    exact ⟨by rw [HRV.out]; rfl, W4.out⟩
end Go.Proofs.Ytdnmmjaelgjkaaa
/- What (barSet).rank answers: whatever the order in which the map is ranged over. No condition. -/
namespace Go.Proofs.Ytdnmmjaelgjkaaa
open Go.RowKit

open Go.Maps

/-- What stands while the map's keys are collected. -/
structure RkP (w W : World) (b n : Nat) (D : DataW Unit) (v0 v1 v2 v3 v4 : Value) (A : Option Addr) (l : List (Int × Int)) (left : Lit → Bool) (cnt : Nat) (ks : List Int) (Ao : Option Addr) (co lo hi : Nat) : Prop where
  rg : ORng W b (w.heap.size + 1) n D left cnt
  row : OwnR W lo hi Ao co ks
  lo : w.heap.size + 2 ≤ lo ∧ lo ≤ W.heap.size
  num : ks.length + cnt ≤ n
  col : CollS D left ks
  bx : Cel5 W w.heap.size 104 v0 v1 v2 v3 v4
  bars : BarsIn W 0 w.heap.size A l
  bel : Below w.heap.size w W
section
variable {w W W1 W2 : World} {b n : Nat} {D : DataW Unit} {v0 v1 v2 v3 v4 : Value} {A : Option Addr} {l : List (Int × Int)} {left : Lit → Bool} {cnt cnt1 : Nat} {ks : List Int} {Ao A2 : Option Addr} {co lo hi c2 lo2 hi2 : Nat} {x : Int}
theorem RkP.row1 (h : RkP w W b n D v0 v1 v2 v3 v4 A l left cnt ks Ao co lo hi) (hg : W.grownBy W1 (some (w.heap.size + 1))) : OwnR W1 lo hi Ao co ks ∧ lo ≤ W1.heap.size :=
  ⟨h.row.within (within_grown hg) (.inr (by have := h.lo; omega)), Nat.le_trans h.lo.2 hg.size⟩
theorem RkP.step (h : RkP w W b n D v0 v1 v2 v3 v4 A l left cnt ks Ao co lo hi) (hb : b < w.heap.size) {left' : Lit → Bool} (hr : ORng W1 b (w.heap.size + 1) n D left' cnt1) (hlt : cnt1 < cnt) (hg : W.grownBy W1 (some (w.heap.size + 1))) (hc : CollS D left' (ks ++ [x]))
    (ho : OwnR W2 lo2 hi2 A2 c2 (ks ++ [x])) (hd : (lo2 = lo ∧ hi2 = hi) ∨ (W1.heap.size ≤ lo2 ∧ lo2 ≤ W2.heap.size ∧ hi2 ≤ W2.heap.size)) (hw : Within lo hi W1 W2) :
    RkP w W2 b n D v0 v1 v2 v3 v4 A l left' cnt1 (ks ++ [x]) A2 c2 lo2 hi2 := by
  obtain ⟨h1, h2, h3, h4, h5, h6, h7, h8⟩ := h
  have w1 := within_grown hg
  have s0 := h8.size
  have s1 := w1.size
  have s2 := hw.size
  have hr1 := hr.lt
  have hb1 : b < W1.heap.size := by omega
  refine ⟨orng_block hr (hw.block b hb1 (.inl (by omega))) (hw.block _ hr1 (.inl (by omega))), ho, ?_, by simp; omega, hc, (h6.within w1 (.inl (by omega))).within hw (.inl (by omega)), (h7.within w1 (.inl (by omega))).within hw (.inl (by omega)), within_on (within_on h8 w1 s0 (.inl (by omega))) hw (by omega) (.inl (by omega))⟩
  rcases hd with ⟨rfl, rfl⟩ | hd
  · omega
  · omega
end

set_option maxHeartbeats 4000000 in
set_option maxRecDepth 100000 in
theorem mrank (p k c : Int) (l : List (Int × Int)) (A : Option Addr) (cap b n : Nat) (zs : List Int) (w : World) (hl : BarsAt w w.heap.size A l) (hs : SetM w b n zs) (hn : l.length ≤ 1048576) (hn2 : n ≤ 1048576) :
    Calls Try.prog 102 #[bsV p A l.length cap k c b] w fun e w' => e = .returned (.int .i64 (rankSV p k c l zs)) ∧ Below w.heap.size w w' := by
  obtain ⟨rv, hrv⟩ : ∃ rv, rankSV p k c l zs = rv := ⟨_, rfl⟩
  rw [hrv]
  have HRV := Lib.hid hrv
  clear hrv
  have hbl := hs.lt
  obtain ⟨D, hown, hsay⟩ := hs
  have HSAY := Lib.hid hsay
  have hA := new_below w (.cells #[.int .i64 p, .slice A l.length cap, .int .i64 k, .int .i64 c, .map (some b)] 104)
  have hsz : (w.alloc (.cells #[.int .i64 p, .slice A l.length cap, .int .i64 k, .int .i64 c, .map (some b)] 104)).heap.size = w.heap.size + 1 := by simp
  have HA := Lib.hid hA
  have HBX := Lib.hid (cel5_new w (.int .i64 p) (.slice A l.length cap) (.int .i64 k) (.int .i64 c) (.map (some b)) 104)
  have HOM := Lib.hid (omap_block hown (hA.block b hbl))
  have HBR := Lib.hid ((bars_in hl).within (within_of hA) (.inr (Nat.zero_le _)))
  have HSZ := Lib.hid hsz
  have HBL := Lib.hid hbl
  clear hl hown hsay hA hsz hbl
  go_enter Try.func102, Try.ntmps102
  obtain ⟨x0, x1, x2, x3, x4⟩ := HBX.out.cells
  go_wp2_with (first
    | (at_range; refine wpList_range_own _ rfl _ 102 rfl 3 4 lawI Try.underlying102 _ b n D rfl HOM.out ?_; intro w2 hrg0 hg0 hs0)
    | go_in)
  try go_frame
  clear x0 x1 x2 x3 x4
  have HST := Lib.hid (show RkP w w2 b n D (.int .i64 p) (.slice A l.length cap) (.int .i64 k) (.int .i64 c) (.map (some b)) A l (Maps.has D) (Maps.size D) [] none 0 w2.heap.size w2.heap.size from by
    have hw := within_none hg0
    have hsz := HSZ.out
    rw [hsz] at hrg0 hs0
    have hsl := HOM.out.size_le
    exact ⟨hrg0, ⟨Nat.le_refl _, .inl ⟨rfl, rfl, rfl⟩⟩, by omega, by simpa using hsl, CollS.start D, HBX.out.within hw (.inr (Nat.zero_le _)), HBR.out.within hw (.inr (Nat.zero_le _)), within_on HA.out hw (by omega) (.inr (Nat.zero_le _))⟩)
  clear hrg0 hg0 hs0
  rw [HSZ.out]
  go_loopw [3, 4] (fun u _ wr => ∃ (left : Lit → Bool) (cnt : Nat) (ks : List Int) (Ao : Option Addr) (co lo hi : Nat), u = .slice Ao ks.length co ∧ RkP w wr b n D (.int .i64 p) (.slice A l.length cap) (.int .i64 k) (.int .i64 c) (.map (some b)) A l left cnt ks Ao co lo hi) (fun _ _ wr => wr.rangeLeft b (w.heap.size + 1))
  case atStart => exact ⟨_, _, [], none, 0, _, _, rfl, HST.out⟩
  case round =>
    obtain ⟨left, cnt, ks, Ao, co, lo, hi, rfl, hst⟩ := hrel
    have HS := Lib.hid hst
    obtain ⟨x0, x1, x2, x3, x4⟩ := hst.bx.cells
    have hrg := hst.rg
    clear hst
    go_wp2_with (first
      | (at_next; refine wpList_next_ranges _ rfl _ rfl 3 lawI (plainElem (H := Unit) Try.prog 4) (Value.int .i64) Value.bool (fun key kl hk => by obtain ⟨x, hx, _⟩ := Maps.keyOf_int_inv Try.underlying3 hk; exact ⟨x, hx⟩) (fun v y hv => bool_inv Try.underlying4 hv) b (w.heap.size + 1) n D left cnt rfl hrg ?_ ?_)
      | go_in)
    · intro hc0 hl0
      have HE := Lib.hid ((rankSV_same (p := p) (k := k) (c := c) (l := l) fun j hj => HS.out.col.done HSAY.out hl0 l.length hn j hj).trans HRV.out)
      have hks : ks.length ≤ 1048576 := by have := HS.out.num; omega
      have HKS := Lib.hid hks
      clear hc0 hl0 hrg hks
      go_wp2_with (go_at_call 42; refine (implRankSet p k c l ks A Ao cap co lo hi _ HS.out.bars.at HS.out.row.ints.reads hn HKS.out).mono ?_; rintro e w9 ⟨rfl, hb⟩; rw [HE.out]; have HB9 := Lib.hid hb; clear hb)
      go_ret
      exact ⟨rfl, below_on HS.out.bel HB9.out HS.out.bel.size⟩
    · intro x
      constructor
      all_goals
        intro kl yd yp w3 cnt1 hkey hlk hv hat hrg1 hlt hg1 hs1 hen
        obtain ⟨x', ex, rfl, hwx⟩ := Maps.keyOf_int_inv Try.underlying3 hkey
        cases ex
        have HR1 := Lib.hid (HS.out.row1 hg1)
        have HC := Lib.hid (HS.out.col.step hwx hat)
        have HRG1 := Lib.hid hrg1
        have HG1 := Lib.hid hg1
        have HLT := Lib.hid hlt
        have HRG := Lib.hid hrg
        have hks : ks.length ≤ 1048576 := by have := HS.out.num; omega
        have HKS := Lib.hid hks
        clear hs1 hrg1 hg1 hrg hat hlk hv hkey hlt hks
        go_wp2_with (first
          | (at_builtin; refine wpList_pushR _ rfl _ _ rfl lo hi Ao co ks x rfl HR1.out.1 _ (by first | rfl | (simp only [World.size_setCell]; rfl)) HKS.out HR1.out.2 ?_; intro A5 c5 w15 lo5 hi5 hr5 hor5 hw5; have HN := Lib.hid (HS.out.step HBL.out HRG1.out HLT.out HG1.out HC.out hr5 hor5 hw5); clear hr5 hor5 hw5; go_frame)
          | go_in)
        go_roundw
        case rel => exact ⟨_, cnt1, ks ++ [x], A5, c5, lo5, hi5, by simp, HN.out⟩
        case measure => rw [HN.out.rg.left_eq, HRG.out.left_eq]; exact HLT.out
end Go.Proofs.Ytdnmmjaelgjkaaa
/- What (barSet).rankWithout answers. No condition. -/
namespace Go.Proofs.Ytdnmmjaelgjkaaa
open Go.RowKit

open Go.Maps

set_option maxHeartbeats 4000000 in
set_option maxRecDepth 100000 in
theorem rankWo (p k c : Int) (l : List (Int × Int)) (A : Option Addr) (cap b n B : Nat) (zs : List Int) (x : Int) (w : World) (hl : BarsIn w 0 B A l) (hB : B ≤ b) (hs : SetM w b n zs) (hn : l.length ≤ 1048576) (hn2 : n + 1 ≤ 1048576) (hw : (Lit.int .i64 x).wf = true) (hx : x ∈ zs) :
    Calls Try.prog 100 #[bsV p A l.length cap k c b, .int .i64 x] w fun e w' => e = .returned (.int .i64 (rankSV p k c l (zs.filter fun y => !decide (y = x)))) ∧ SetM w' b (n + 1) zs ∧ Within b (b + 1) w w' := by
  have hbl := hs.lt
  obtain ⟨D, hown, hsay⟩ := hs
  have HSAY := Lib.hid hsay
  have hA := new_below w (.cells #[.int .i64 p, .slice A l.length cap, .int .i64 k, .int .i64 c, .map (some b)] 104)
  have HA := Lib.hid (show Within b (b + 1) w (w.alloc (.cells #[.int .i64 p, .slice A l.length cap, .int .i64 k, .int .i64 c, .map (some b)] 104)) from (within_of hA).widen (.inl (Nat.le_refl _)))
  have HBX := Lib.hid (cel5_new w (.int .i64 p) (.slice A l.length cap) (.int .i64 k) (.int .i64 c) (.map (some b)) 104)
  have HOM := Lib.hid (omap_block hown (hA.block b hbl))
  have HBR := Lib.hid (hl.within (within_of hA) (.inr (Nat.zero_le _)))
  have HBL := Lib.hid hbl
  have HWF := Lib.hid hw
  have HN2 := Lib.hid hn2
  have HBB := Lib.hid hB
  have HSW := Lib.hid hA.size
  clear hl hown hsay hA hbl hw hn2 hB
  have HX := Lib.hid hx
  obtain ⟨rv, hrv⟩ : ∃ rv, rankSV p k c l (zs.filter fun y => !decide (y = x)) = rv := ⟨_, rfl⟩
  rw [hrv]
  have HRV := Lib.hid hrv
  clear hrv hx
  go_enter Try.func100, Try.ntmps100
  obtain ⟨x0, x1, x2, x3, x4⟩ := HBX.out.cells
  go_wp2_with (first
    | (at_mapUpdate; refine wpList_mapUpdate_own _ rfl _ _ _ 102 rfl 3 4 lawI Try.underlying102 _ b n _ rfl HOM3.out (by have := HN2.out; unfold maxLen; omega) _ _ (.int .i64 x) rfl rfl (keyOf_int_mk Try.underlying3 HWF.out) _ [] (plainElem_bool Try.underlying4 true) ?_; intro w4 hown hg; have HF := Lib.hid (show SetM w4 b (n + 1) zs from ⟨_, hown, (HSAY3.out.put HOM3.out.isMap x).congr fun y => by simp; exact ⟨fun h => h.elim (fun h => h.1) (fun h => h ▸ HX.out), fun h => by by_cases e : y = x; exact .inr e; exact .inl ⟨h, e⟩⟩⟩); have HWF4 := Lib.hid (HW3.out.trans (within_grown hg)); clear hown hg)
    | (go_at_call 102; refine (mrank p k c l A cap b n _ _ HBR2.out.at ⟨_, HOM2.out, HSAY2.out⟩ hn (by have := HN2.out; omega)).mono ?_; rintro e w3 ⟨rfl, hb⟩; rw [HRV.out]; have HW3 := Lib.hid (HW2.out.trans ((within_of hb).widen (.inl (Nat.le_refl _)))); have HOM3 := Lib.hid (omap_block HOM2.out (hb.block b (by have := HOM2.out.lt; omega))); have HSAY3 := HSAY2; obtain ⟨z0, z1, z2, z3, z4⟩ := (HBX2.out.within (within_of hb) (.inr (Nat.zero_le _))).cells; clear hb y0 y1 y2 y3 y4)
    | (at_delete; refine wpList_delete_own _ rfl _ _ 102 3 rfl 4 lawI Try.underlying102 _ b n _ rfl HOM.out _ _ rfl (keyOf_int_mk Try.underlying3 HWF.out) ?_; intro w2 hown  hturn; have HOM2 := Lib.hid hown; have HSAY2 := Lib.hid (HSAY.out.del x); have hgg := within_grown hturn.grown; have HW2 := Lib.hid (HA.out.trans hgg); have HBX2 := Lib.hid (HBX.out.within hgg (.inr (by have := HBL.out; omega))); have HBR2 := Lib.hid (HBR.out.within hgg (.inl HBB.out)); obtain ⟨y0, y1, y2, y3, y4⟩ := HBX2.out.cells; clear hown hturn hgg x0 x1 x2 x3 x4)
    | go_in)
  go_ret
  exact ⟨rfl, HF.out, HWF4.out⟩
end Go.Proofs.Ytdnmmjaelgjkaaa
/- The function value of impl.BridgesOf, and slices.IndexFunc with it. No condition. -/
namespace Go.Proofs.Ytdnmmjaelgjkaaa
open Go.RowKit

theorem step_allB {P : Nat → Prop} {j : Nat} (h : ∀ u, u < j → P u) (hj : P j) : ∀ u, u < j + 1 → P u := fun u hu => by
  by_cases e : u = j
  · subst e; exact hj
  · exact h u (by omega)
/-- What stands while the function value is called: the set, the graph, the two boxes that it holds. -/
structure BrW (p k c : Int) (l : List (Int × Int)) (A : Option Addr) (cap b sbx rb B : Nat) (W : World) (m : Nat) : Prop where
  set : SetM W b m (allN l.length)
  bars : BarsIn W 0 B A l
  sbox : Cel5 W sbx 104 (.int .i64 p) (.slice A l.length cap) (.int .i64 k) (.int .i64 c) (.map (some b))
  rbox : W.heap[rb]? = some (.cells #[.int .i64 (rankV p k c l)] 3 (0, 0))
section
variable {p k c : Int} {l : List (Int × Int)} {A : Option Addr} {cap b sbx rb B m lo hi : Nat} {W W' : World}
theorem BrW.rlt (h : BrW p k c l A cap b sbx rb B W m) : rb < W.heap.size := (Array.getElem?_eq_some_iff.1 h.rbox).1
theorem BrW.within (h : BrW p k c l A cap b sbx rb B W m) (hw : Within lo hi W W') (h1 : b < lo ∨ hi ≤ b) (h2 : B ≤ lo) (h3 : sbx < lo ∨ hi ≤ sbx) (h4 : rb < lo ∨ hi ≤ rb) : BrW p k c l A cap b sbx rb B W' m :=
  ⟨h.set.within hw h1, h.bars.within hw (.inl h2), h.sbox.within hw h3, (hw.block rb h.rlt h4).trans h.rbox⟩
theorem BrW.map (h : BrW p k c l A cap b sbx rb B W m) {m' : Nat} (hw : Within b (b + 1) W W') (hs : SetM W' b m' (allN l.length)) (h2 : B ≤ b) (h3 : sbx ≠ b) (h4 : rb ≠ b) : BrW p k c l A cap b sbx rb B W' m' :=
  ⟨hs, h.bars.within hw (.inl h2), h.sbox.within hw (by omega), (hw.block rb h.rlt (by omega)).trans h.rbox⟩
theorem BrW.cell (h : BrW p k c l A cap b sbx rb B W m) : W.cell? ⟨rb, 0, none⟩ = some (.int .i64 (rankV p k c l)) := by
  rw [cell_of_row W rb 0 _ _ _ h.rbox]
  rfl
end
set_option maxHeartbeats 4000000 in
set_option maxRecDepth 100000 in
theorem stay_c (p k c : Int) (l : List (Int × Int)) (A : Option Addr) (cap b sbx rb B m : Nat) (j : Nat) (w : World) (hW : BrW p k c l A cap b sbx rb B w m) (hn : l.length ≤ 24) (hB : B ≤ b) (hs : sbx ≠ b) (hr : rb ≠ b) (hj : j < l.length) (hm : m + 1 ≤ 1048576) :
    Calls Try.prog 104 #[.int .i64 (j : Int), .pointer (some ⟨sbx, 0, none⟩), .pointer (some ⟨rb, 0, none⟩)] w fun e w' => e = .returned (.bool (stayB p k c l (j : Int))) ∧ BrW p k c l A cap b sbx rb B w' (m + 1) ∧ Within b (b + 1) w w' := by
  obtain ⟨rv, hrv⟩ : ∃ rv, stayB p k c l (j : Int) = rv := ⟨_, rfl⟩
  rw [hrv]
  unfold stayB at hrv
  have hbw := hW
  have hce := hW.cell
  obtain ⟨x0, x1, x2, x3, x4⟩ := hW.sbox.cells
  have hdr : Below w.heap.size w w.drew := (Below.refl _ _).drew
  have hwd : Within b (b + 1) w w.drew := (within_of hdr).widen (.inl (Nat.le_refl _))
  have HWD := Lib.hid (hW.map hwd (hW.set.within (within_of hdr) (.inr (Nat.zero_le _))) hB hs hr)
  have HDR := Lib.hid hwd
  have HMEM := Lib.hid (show (j : Int) ∈ allN l.length from (allN_mem _ _).2 ⟨by omega, by omega⟩)
  have HWF := Lib.hid (show (Lit.int .i64 (j : Int)).wf = true from WalkArith.wf_i64 (by omega))
  obtain ⟨r, hr1⟩ : ∃ r, rankV p k c l = r := ⟨_, rfl⟩
  obtain ⟨r2, hr2⟩ : ∃ r2, rankSV p k c l ((allN l.length).filter fun z => !decide (z = (j : Int))) = r2 := ⟨_, rfl⟩
  rw [hr1] at hce hrv
  rw [hr2] at hrv
  have HR1 := Lib.hid hr1
  have HR2 := Lib.hid hr2
  have HB := Lib.hid (And.intro hB (And.intro hs hr))
  have HN := Lib.hid (show l.length ≤ 1048576 from by omega)
  have HKK := Lib.hid (show (fun W' => W'.cell? ⟨sbx, 0, none⟩ = some (.int .i64 p) ∧ W'.cell? ⟨sbx, 1, none⟩ = some (.slice A l.length cap) ∧ W'.cell? ⟨sbx, 2, none⟩ = some (.int .i64 k) ∧ W'.cell? ⟨sbx, 3, none⟩ = some (.int .i64 c) ∧ W'.cell? ⟨sbx, 4, none⟩ = some (.map (some b)) ∧ W'.cell? ⟨rb, 0, none⟩ = some (.int .i64 r)) w.drew from ⟨HWD.out.sbox.cells.1, HWD.out.sbox.cells.2.1, HWD.out.sbox.cells.2.2.1, HWD.out.sbox.cells.2.2.2.1, HWD.out.sbox.cells.2.2.2.2, by rw [← hr1]; exact HWD.out.cell⟩)
  have HKF := Lib.hid (fun (W' : World) (m' : Nat) (h : BrW p k c l A cap b sbx rb B W' m') => show (fun W' => W'.cell? ⟨sbx, 0, none⟩ = some (.int .i64 p) ∧ W'.cell? ⟨sbx, 1, none⟩ = some (.slice A l.length cap) ∧ W'.cell? ⟨sbx, 2, none⟩ = some (.int .i64 k) ∧ W'.cell? ⟨sbx, 3, none⟩ = some (.int .i64 c) ∧ W'.cell? ⟨sbx, 4, none⟩ = some (.map (some b)) ∧ W'.cell? ⟨rb, 0, none⟩ = some (.int .i64 r)) W' from ⟨h.sbox.cells.1, h.sbox.cells.2.1, h.sbox.cells.2.2.1, h.sbox.cells.2.2.2.1, h.sbox.cells.2.2.2.2, by rw [← HR1.out]; exact h.cell⟩)
  clear hbw hW hdr hwd hr1 hr2 hB hs hr
  by_cases c9 : r2 = r
  · have HRV := Lib.hid (show rv = true from by rw [← hrv]; exact decide_eq_true c9)
    have d9 : (r2 == r) = true := by simpa using c9
    clear hrv
    go_enter Try.func104, Try.ntmps104
    go_wp2_with fail
    go_region_held3 (fun W' => W'.cell? ⟨sbx, 0, none⟩ = some (.int .i64 p) ∧ W'.cell? ⟨sbx, 1, none⟩ = some (.slice A l.length cap) ∧ W'.cell? ⟨sbx, 2, none⟩ = some (.int .i64 k) ∧ W'.cell? ⟨sbx, 3, none⟩ = some (.int .i64 c) ∧ W'.cell? ⟨sbx, 4, none⟩ = some (.map (some b)) ∧ W'.cell? ⟨rb, 0, none⟩ = some (.int .i64 r))
      (first | exact HKK.out | exact HKF.out _ _ HW5.out | fail)
      (first | (go_at_call 100; refine (rankWo p k c l A cap b m B (allN l.length) (j : Int) _ HWD.out.bars HB.out.1 HWD.out.set HN.out hm HWF.out HMEM.out).mono ?_; rintro e w5 ⟨rfl, hset, hwi⟩; rw [HR2.out]; have HW5 := Lib.hid (HWD.out.map hwi hset HB.out.1 HB.out.2.1 HB.out.2.2); have HWI := Lib.hid (HDR.out.trans hwi); clear hset hwi))
    go_wp2_with fail
    go_ret
    exact ⟨by rw [HRV.out]; rfl, HW5.out, HWI.out⟩
  · have HRV := Lib.hid (show rv = false from by rw [← hrv]; exact decide_eq_false c9)
    have d9 : (r2 == r) = false := by simpa using c9
    clear hrv
    go_enter Try.func104, Try.ntmps104
    go_wp2_with fail
    go_region_held3 (fun W' => W'.cell? ⟨sbx, 0, none⟩ = some (.int .i64 p) ∧ W'.cell? ⟨sbx, 1, none⟩ = some (.slice A l.length cap) ∧ W'.cell? ⟨sbx, 2, none⟩ = some (.int .i64 k) ∧ W'.cell? ⟨sbx, 3, none⟩ = some (.int .i64 c) ∧ W'.cell? ⟨sbx, 4, none⟩ = some (.map (some b)) ∧ W'.cell? ⟨rb, 0, none⟩ = some (.int .i64 r))
      (first | exact HKK.out | exact HKF.out _ _ HW5.out | fail)
      (first | (go_at_call 100; refine (rankWo p k c l A cap b m B (allN l.length) (j : Int) _ HWD.out.bars HB.out.1 HWD.out.set HN.out hm HWF.out HMEM.out).mono ?_; rintro e w5 ⟨rfl, hset, hwi⟩; rw [HR2.out]; have HW5 := Lib.hid (HWD.out.map hwi hset HB.out.1 HB.out.2.1 HB.out.2.2); have HWI := Lib.hid (HDR.out.trans hwi); clear hset hwi))
    go_wp2_with fail
    go_ret
    exact ⟨by rw [HRV.out]; rfl, HW5.out, HWI.out⟩

set_option maxHeartbeats 4000000 in
set_option maxRecDepth 100000 in
theorem idxF_c (p k c : Int) (l : List (Int × Int)) (A : Option Addr) (cap b sbx rb B m : Nat) (Z : Option Addr) (cz lo hi : Nat) (w : World) (hW : BrW p k c l A cap b sbx rb B w m) (hn : l.length ≤ 24) (hB : B ≤ b) (hs : sbx ≠ b) (hr : rb ≠ b) (hz : IntsIn w lo hi Z (allN l.length)) (hzb : hi ≤ b ∨ b < lo) (hm : m + 24 ≤ 1048576) :
    Calls Try.prog 143 #[.slice Z l.length cz, .func (.func 104) #[] #[.pointer (some ⟨sbx, 0, none⟩), .pointer (some ⟨rb, 0, none⟩)]] w fun e w' => ∃ m', BrW p k c l A cap b sbx rb B w' m' ∧ m' ≤ m + l.length ∧ Within b (b + 1) w w' ∧ ((e = .returned (.int .i64 (-1)) ∧ ∀ j : Nat, j < l.length → stayB p k c l (j : Int) = false) ∨ ∃ i : Nat, i < l.length ∧ e = .returned (.int .i64 (i : Int)) ∧ stayB p k c l (i : Int) = true ∧ m' ≤ m + i + 1 ∧ ∀ j : Nat, j < i → stayB p k c l (j : Int) = false) := by
  have HW0 := Lib.hid hW
  have HZ := Lib.hid hz
  have HB := Lib.hid (And.intro hB (And.intro hs hr))
  have HZL := Lib.hid (allN_len l.length)
  clear hW hz hB hs hr
  go_enter Try.func143, Try.ntmps143
  go_wp2_with fail
  go_loopw [8] (fun i wr => ∃ j : Nat, j ≤ l.length ∧ i = .int .i64 j ∧ (∀ u : Nat, u < j → stayB p k c l (u : Int) = false) ∧ BrW p k c l A cap b sbx rb B wr (m + j) ∧ Within b (b + 1) w wr) (fun i _ => l.length - (intOf i).toNat)
  case atStart => exact ⟨0, Nat.zero_le _, rfl, fun u hu => absurd hu (Nat.not_lt_zero _), HW0.out, Within.refl _ _ _⟩
  case round =>
    obtain ⟨j, hj, rfl, hall, hw, hwi⟩ := hrel
    have HALL := Lib.hid hall
    have HW := Lib.hid hw
    have HWI := Lib.hid hwi
    clear hall hw
    by_cases hlt : j < l.length
    · have hji : (j : Int) < (l.length : Int) := by omega
      obtain ⟨zb, zo, rfl, hzc⟩ := row_at (HZ.out.within hwi hzb) (by rw [allN_len]; omega)
      have hz := hzc j (by rw [allN_len]; omega)
      rw [allN_get _ _ hlt] at hz
      clear hzc hwi
      cases hst : stayB p k c l (j : Int) with
      | true =>
        have HST := Lib.hid hst
        go_wp2_with (go_at_call 104; refine (stay_c p k c l A cap b sbx rb B (m + j) j _ HW.out hn HB.out.1 HB.out.2.1 HB.out.2.2 hlt (by omega)).mono ?_; rintro e w5 ⟨rfl, hw5, hwi5⟩; rw [HST.out]; have HW5 := Lib.hid hw5; have HWI5 := Lib.hid (HWI.out.trans hwi5); clear hw5 hwi5)
        go_ret
        exact ⟨_, HW5.out, by omega, HWI5.out, .inr ⟨j, hlt, rfl, HST.out, by omega, HALL.out⟩⟩
      | false =>
        have HST := Lib.hid hst
        have HNX := Lib.hid (step_allB (P := fun u => stayB p k c l (u : Int) = false) HALL.out hst)
        go_wp2_with (go_at_call 104; refine (stay_c p k c l A cap b sbx rb B (m + j) j _ HW.out hn HB.out.1 HB.out.2.1 HB.out.2.2 hlt (by omega)).mono ?_; rintro e w5 ⟨rfl, hw5, hwi5⟩; rw [HST.out]; have HW5 := Lib.hid hw5; have HWI5 := Lib.hid (HWI.out.trans hwi5); clear hw5 hwi5)
        go_roundw
        case rel => exact ⟨j + 1, by omega, by go_num, HNX.out, HW5.out, HWI5.out⟩
        case measure => simp [intOf]; omega
    · obtain rfl : j = l.length := by omega
      go_wp2_with fail
      go_ret
      exact ⟨_, HW.out, Nat.le_refl _, HWI.out, .inl ⟨rfl, HALL.out⟩⟩
end Go.Proofs.Ytdnmmjaelgjkaaa
/- Rows of the call's own: many cells stored, a row shrunk, the rest cleared (ints). No condition. -/
namespace Go.Proofs.Ytdnmmjaelgjkaaa
open Go.RowKit

theorem own_setCellsI {base : Nat} {e : TypeId} {size g n cap : Nat} : ∀ (vs : List Value) (o : Nat) (w : World) (xs : List Value), w.ownsRow base e size (.slice (some ⟨g, 0, none⟩) n cap) n xs →
    ∃ ys, (w.setCells g o vs).ownsRow base e size (.slice (some ⟨g, 0, none⟩) n cap) n ys ∧ w.grownBy (w.setCells g o vs) (some g) ∧ ys.length = xs.length ∧ ∀ j, j < xs.length → ys[j]? = if o ≤ j ∧ j < o + vs.length then vs[j - o]? else xs[j]? := by
  intro vs
  induction vs with
  | nil =>
    intro o w xs h
    refine ⟨xs, h, World.grownBy.refl _ _, rfl, fun j _ => ?_⟩
    rw [if_neg (by simp; try omega)]
  | cons v vs ih =>
    intro o w xs h
    have s := h.stored o v
    obtain ⟨ys, h1, h2, h3, h4⟩ := ih (o + 1) _ _ s.1
    refine ⟨ys, h1, s.2.trans_ h2, by simpa using h3, fun j hj => ?_⟩
    rw [h4 j (by simpa using hj)]
    by_cases c1 : o + 1 ≤ j ∧ j < o + 1 + vs.length
    · rw [if_pos c1, if_pos (by simp; omega)]
      rw [show j - o = (j - (o + 1)) + 1 by omega, List.getElem?_cons_succ]
    · rw [if_neg c1]
      by_cases c2 : j = o
      · subst c2
        rw [if_pos (by simp), List.getElem?_set, if_pos rfl, if_pos hj, Nat.sub_self]
        rfl
      · rw [if_neg (by simp; omega), List.getElem?_set_ne (by omega)]
theorem own_shrinkI {w : World} {base : Nat} {e : TypeId} {size g n cap m : Nat} {xs : List Value} (h : w.ownsRow base e size (.slice (some ⟨g, 0, none⟩) n cap) n xs) (hm : m ≤ n) : w.ownsRow base e size (.slice (some ⟨g, 0, none⟩) m cap) m (xs.take (m * size)) := by
  have hms : m * size ≤ n * size := Nat.mul_le_mul_right _ hm
  refine ⟨by rw [List.length_take, h.1]; omega, ?_⟩
  rcases h.2 with ⟨h', _⟩ | ⟨g', cap', cur, h', hb, hg, hnc, hcm, hcs, htake⟩
  · cases h'
  · cases h'
    refine .inr ⟨g, cap, cur, rfl, hb, hg, by omega, hcm, hcs, ?_⟩
    rw [← htake, List.take_take, Nat.min_eq_left hms]
theorem zeroC (n : Nat) : (Builtin.zeroCells (Value.int .i64 0).cells n).toList = List.replicate n (.int .i64 0) := by
  unfold Builtin.zeroCells
  apply List.ext_getElem?
  intro j
  simp only [Value.cells]
  by_cases h : j < n
  · simp [h, Nat.mod_one]
  · simp [h]
theorem clearN (w : World) (ty : TypeId) (b o n c : Nat) (hn : 0 < n) (hc : ∀ j, j < n → (w.cell? ⟨b, o + j, none⟩).isSome = true) (hf : ∀ j, j < n → w.frozen? ⟨b, o + j, none⟩ = false) :
    (Builtin.clear_ #[40] ty #[.slice (some ⟨b, o, none⟩) n c]).run Try.prog w = .ok (.tuple #[]) (w.setCells b o (List.replicate n (.int .i64 0))) := by
  obtain ⟨n, rfl⟩ : ∃ u, n = u + 1 := ⟨n - 1, by omega⟩
  have hv := Try.zeroValue3
  have hst := run_storeCells_cells (P := Try.prog) b o (List.replicate (n + 1) (.int .i64 0)) 0 w (fun j hj => by rw [List.length_replicate] at hj; rw [Nat.add_zero]; exact hc j hj) (fun j hj => by rw [List.length_replicate] at hj; rw [Nat.add_zero]; exact hf j hj) (by intro v hv'; rw [List.eq_of_mem_replicate hv']; rfl)
  simp only [Nat.add_zero] at hst
  simp [Builtin.clear_, run_underlying Try.underlying40, hv, zeroC, hst]
end Go.Proofs.Ytdnmmjaelgjkaaa
/- slices.DeleteFunc with impl.BridgesOf's function value. No condition. -/
namespace Go.Proofs.Ytdnmmjaelgjkaaa
open Go.RowKit

theorem below_of {B lo hi : Nat} {W W' : World} (h : Within lo hi W W') (hB : B ≤ lo) (hs : B ≤ W.heap.size) : Below B W W' :=
  ⟨h.os, h.tape, h.output, h.size, fun k hk => h.block k (by omega) (.inl (by omega))⟩
theorem below_tr {B : Nat} {W W' W'' : World} (h : Below B W W') (h' : Below B W' W'') : Below B W W'' := h.trans h'
theorem allN_all {p k c : Int} {l : List (Int × Int)} : ∀ n, (∀ j : Nat, j < n → stayB p k c l (j : Int) = false) → briK p k c l n = allN n := by
  intro n
  induction n with
  | zero => intro _; rfl
  | succ n ih =>
    intro h
    rw [briK_in (h n (by omega)), ih (fun j hj => h j (by omega)), allN_succ]
theorem take_set_snoc (X : List Int) (i : Nat) (v : Int) (h : i < X.length) : (X.set i v).take (i + 1) = X.take i ++ [v] := by
  have e : (X.set i v).take i = X.take i := by
    apply List.ext_getElem?
    intro t
    rw [List.getElem?_take, List.getElem?_take]
    by_cases ht : t < i
    · rw [if_pos ht, if_pos ht, List.getElem?_set_ne (by omega)]
    · rw [if_neg ht, if_neg ht]
  rw [List.take_succ_eq_append_getElem (by simpa using h), e]
  simp
theorem allN_take (n i : Nat) (h : i ≤ n) : (allN n).take i = allN i := by
  unfold allN
  rw [← List.map_take, List.take_range, Nat.min_eq_left h]
set_option maxHeartbeats 8000000 in
set_option maxRecDepth 100000 in
theorem delF_c (p k c : Int) (l : List (Int × Int)) (A : Option Addr) (cap b sbx rb B m : Nat) (g : Nat) (w : World) (hW : BrW p k c l A cap b sbx rb B w m) (hn : l.length ≤ 24) (hB : B ≤ b ∧ B ≤ g ∧ B ≤ w.heap.size) (hs : sbx ≠ b ∧ sbx ≠ g) (hr : rb ≠ b ∧ rb ≠ g) (hgb : g ≠ b) (hrow : w.ownsRow 0 3 1 (.slice (some ⟨g, 0, none⟩) l.length l.length) l.length (intCells (allN l.length))) (hm : m + 60 ≤ 1048576) :
    Calls Try.prog 103 #[.slice (some ⟨g, 0, none⟩) l.length l.length, .func (.func 104) #[] #[.pointer (some ⟨sbx, 0, none⟩), .pointer (some ⟨rb, 0, none⟩)]] w fun e w' => e = .returned (.slice (some ⟨g, 0, none⟩) (briK p k c l l.length).length l.length) ∧ w'.ownsRow 0 3 1 (.slice (some ⟨g, 0, none⟩) (briK p k c l l.length).length l.length) (briK p k c l l.length).length (intCells (briK p k c l l.length)) ∧ Below B w w' := by
  have hglt := (hrow.lt g rfl).2
  have HW0 := Lib.hid hW
  have HROW := Lib.hid hrow
  have HD := Lib.hid (And.intro hB (And.intro hs (And.intro hr hgb)))
  have HZ := Lib.hid (show IntsIn w g (g + 1) (some ⟨g, 0, none⟩) (allN l.length) from by
    refine ⟨hglt, fun h0 => ⟨g, 0, rfl, Nat.le_refl _, Nat.lt_succ_self _, fun j hj => ?_⟩⟩
    rw [Nat.zero_add]
    exact (hrow.cellAt j (by have := allN_len l.length; omega)).trans (intCells_get _ j hj))
  clear hW hrow hB hs hr hgb
  go_enter Try.func103, Try.ntmps103
  go_wp2_with fail
  refine (idxF_c p k c l A cap b sbx rb B m (some ⟨g, 0, none⟩) l.length g (g + 1) _ HW0.out hn HD.out.1.1 HD.out.2.1.1 HD.out.2.2.1.1 HZ.out (by have := HD.out.2.2.2; omega) (by omega)).mono ?_
  rintro e w2 ⟨m2, hw2, hm2, hwi, ⟨rfl, hall⟩ | ⟨i, hi, rfl, hst, hm3, hall⟩⟩
  · have HV := Lib.hid (allN_all l.length hall)
    have HR2 := Lib.hid (own_block HROW.out (hwi.block g hglt (by have := HD.out.2.2.2; omega)))
    have HBE := Lib.hid (below_of hwi HD.out.1.1 HD.out.1.2.2)
    clear hw2 hwi hall
    go_wp2_with fail
    go_ret
    rw [HV.out, allN_len]
    exact ⟨rfl, HR2.out, HBE.out⟩
  · have HW2 := Lib.hid hw2
    have HR2 := Lib.hid (own_block HROW.out (hwi.block g hglt (by have := HD.out.2.2.2; omega)))
    have HBE := Lib.hid (below_of hwi HD.out.1.1 HD.out.1.2.2)
    have hk0 : briK p k c l (i + 1) = allN i := by rw [briK_out hst, allN_all i hall]
    have HK0 := Lib.hid hk0
    have hii : ((i : Int) == -1) = false := by first | (simp; done) | (simp; omega)
    clear hw2 hwi hall hk0 hst
    go_wp2_with fail
    go_loopw [5, 6] (fun s5 s6 wr => ∃ (j i' m' : Nat) (X : List Int), j ≤ l.length ∧ s5 = .int .i64 i' ∧ s6 = .int .i64 j ∧ i' = (briK p k c l j).length ∧ i' < j ∧ X.length = l.length ∧ X.take i' = (briK p k c l j) ∧ (∀ u, j ≤ u → u < l.length → X.getD u 0 = (u : Int)) ∧ BrW p k c l A cap b sbx rb B wr m' ∧ m' ≤ m + 24 + j ∧ Below B w wr ∧ wr.ownsRow 0 3 1 (.slice (some ⟨g, 0, none⟩) l.length l.length) l.length (intCells X)) (fun _ s6 _ => l.length - (intOf s6).toNat)
    case atStart => exact ⟨i + 1, i, m2, allN l.length, by omega, rfl, by go_num, by rw [HK0.out, allN_len], by omega, allN_len _, by rw [HK0.out]; exact allN_take _ _ (by omega), fun u h1 h2 => allN_get _ _ h2, HW2.out, by omega, HBE.out, HR2.out⟩
    case round =>
      obtain ⟨j, i', m', X, hj, rfl, rfl, hil, hij, hXl, hXt, hXr, hw, hm', hbe, hrx⟩ := hrel
      have hgl := (hrx.lt g rfl).2
      have HWr := Lib.hid hw
      have HBr := Lib.hid hbe
      have HXX := Lib.hid (And.intro hil (And.intro hXl (And.intro hXt hXr)))
      have HRX := Lib.hid hrx
      have HBS := Lib.hid (show B ≤ wr.heap.size from Nat.le_trans HD.out.1.2.2 hbe.size)
      by_cases hlt : j < l.length
      · have hji : (j : Int) < (l.length : Int) := by omega
        have hcj := (hrx.cellAt j (by omega)).trans (intCells_get X j (by omega))
        rw [hXr j (Nat.le_refl _) hlt] at hcj
        clear hw hbe hil hXl hXt hXr hrx
        have HGB := Lib.hid hgl
        cases hst : stayB p k c l (j : Int) with
        | true =>
          have HST := Lib.hid hst
          have HN := Lib.hid (briK_out hst)
          clear hst
          go_wp2_with (go_at_call 104; refine (stay_c p k c l A cap b sbx rb B m' j _ HWr.out hn HD.out.1.1 HD.out.2.1.1 HD.out.2.2.1.1 hlt (by omega)).mono ?_; rintro e w5 ⟨rfl, hw5, hwi5⟩; rw [HST.out]; have HW5 := Lib.hid hw5; have HBE5 := Lib.hid (below_tr HBr.out (below_of hwi5 HD.out.1.1 HBS.out)); have HR5 := Lib.hid (own_block HRX.out (hwi5.block g HGB.out (by have := HD.out.2.2.2; omega))); clear hw5 hwi5)
          go_roundw
          case rel => exact ⟨j + 1, i', m' + 1, X, by omega, rfl, by go_num, by rw [HN.out]; exact HXX.out.1, by omega, HXX.out.2.1, by rw [HN.out]; exact HXX.out.2.2.1, fun u h1 h2 => HXX.out.2.2.2 u (by omega) h2, HW5.out, by omega, HBE5.out, HR5.out⟩
          case measure => simp [intOf]; omega
        | false =>
          have HST := Lib.hid hst
          have HN := Lib.hid (briK_in hst)
          clear hst
          have hil2 : (i' : Int) < (l.length : Int) := by omega
          go_wp2_with (go_at_call 104; refine (stay_c p k c l A cap b sbx rb B m' j _ HWr.out hn HD.out.1.1 HD.out.2.1.1 HD.out.2.2.1.1 hlt (by omega)).mono ?_; rintro e w5 ⟨rfl, hw5, hwi5⟩; rw [HST.out]; have HW5 := Lib.hid hw5; have HBE5 := Lib.hid (below_tr HBr.out (below_of hwi5 HD.out.1.1 HBS.out)); have hr5 := own_block HRX.out (hwi5.block g HGB.out (by have := HD.out.2.2.2; omega)); have hc5 := (hr5.cellAt i' (by have := HXX.out.2.1; omega)).trans (intCells_get X i' (by have := HXX.out.2.1; omega)); have hf5 := hr5.frozenAt i'; have hst5 := (hr5.stored i' (.int .i64 (j : Int))).1; rw [intCells_set] at hst5; have HR5 := Lib.hid hst5; have hsz5 := hwi5.size; have HS5 := Lib.hid hsz5; clear hw5 hwi5 hr5 hst5 hsz5)
          have hws := within_set w5 g i' (.int .i64 (j : Int))
          go_roundw
          case rel => exact ⟨j + 1, i' + 1, m' + 1, X.set i' (j : Int), by omega, by go_num, by go_num, by rw [HN.out, List.length_append, ← HXX.out.1]; rfl, by omega, by rw [List.length_set]; exact HXX.out.2.1, by rw [HN.out, take_set_snoc _ _ _ (by have := HXX.out.2.1; omega), HXX.out.2.2.1], fun u h1 h2 => by rw [set_getD_ne _ _ _ _ _ (by omega)]; exact HXX.out.2.2.2 u (by omega) h2, HW5.out.within hws (by have := HD.out.2.2.2; omega) HD.out.1.2.1 (by have := HD.out.2.1.2; omega) (by have := HD.out.2.2.1.2; omega), by omega, below_tr HBE5.out (below_of hws HD.out.1.2.1 (Nat.le_trans HBS.out HS5.out)), HR5.out⟩
          case measure => simp [intOf]; omega
      · obtain rfl : j = l.length := by omega
        have hiN : i' < l.length := hij
        have hcl : ∀ ty cc, (Builtin.clear_ #[40] ty #[.slice (some ⟨g, i', none⟩) (l.length - i') cc]).run Try.prog wr = .ok (.tuple #[]) (wr.setCells g i' (List.replicate (l.length - i') (.int .i64 0))) := fun ty cc => clearN wr ty g i' (l.length - i') cc (by omega) (fun j hj => by rw [hrx.cellAt _ (by omega), intCells_get X _ (by omega)]; rfl) (fun j _ => hrx.frozenAt _)
        obtain ⟨ys, hy1, hy2, hy3, hy4⟩ := own_setCellsI (List.replicate (l.length - i') (.int .i64 0)) i' wr (intCells X) hrx
        have hsh := own_shrinkI hy1 (m := i') (by omega)
        have hys : ys.take (i' * 1) = intCells (briK p k c l l.length) := by
          rw [Nat.mul_one, ← hXt]
          have hlx : (intCells X).length = l.length := by simp [intCells, hXl]
          apply List.ext_getElem?
          intro t
          rw [List.getElem?_take]
          by_cases ht : t < i'
          · rw [if_pos ht, hy4 t (by omega), if_neg (by omega)]
            unfold intCells
            rw [List.getElem?_map, List.getElem?_map, List.getElem?_take, if_pos ht]
          · rw [if_neg ht, List.getElem?_eq_none (by simp [intCells]; omega)]
        rw [hys] at hsh
        have hgw : Within g (g + 1) wr (wr.setCells g i' (List.replicate (l.length - i') (.int .i64 0))) := within_grown hy2
        have HSH := Lib.hid hsh
        have HBF := Lib.hid (below_tr hbe (below_of hgw HD.out.1.2.1 HBS.out))
        have e9 : l.length ≠ i' := by omega
        have e8 : ¬ (i' : Int) = (l.length : Int) := by omega
        have e7 : (i' : Int) ≤ (l.length : Int) := by omega
        have HIL := Lib.hid hil
        clear hw hbe hrx hil hXl hXt hXr hy1 hy2 hy3 hy4 hsh hys hgw
        go_wp2_with fail
        go_ret
        rw [← HIL.out]
        exact ⟨rfl, HSH.out, HBF.out⟩
end Go.Proofs.Ytdnmmjaelgjkaaa
/- What isBarSet answers. No condition. -/
namespace Go.Proofs.Ytdnmmjaelgjkaaa
open Go.RowKit

set_option maxHeartbeats 2000000 in
set_option maxRecDepth 100000 in
theorem isBarSet_c (p : Int) (l : List (Int × Int)) (A AZ : Option Addr) (cap cZ lo hi : Nat) (Z : List Int) (w : World) (hl : BarsAt w w.heap.size A l) (hz : IntsIn w lo hi AZ Z) (hn : l.length ≤ 1048576) (hZ : Z.length ≤ 1048576) :
    Calls Try.prog 119 #[.agg #[.int .i64 p, .slice A l.length cap], .slice AZ Z.length cZ] w fun e w' => e = .returned (.bool (setB p l Z)) ∧ Below w.heap.size w w' := by
  have hA := new_below w (.cells #[.int .i64 p, .slice A l.length cap] 29)
  have HA := Lib.hid hA
  have HL := Lib.hid ((bars_in hl).within (within_of hA) (.inr (Nat.zero_le _)))
  have HZ := Lib.hid (hz.within (within_of hA) (.inr (Nat.zero_le _)))
  have BX := Lib.hid (box_new w p (.slice A l.length cap) 29)
  clear hl hz hA
  go_enter Try.func119, Try.ntmps119
  go_wp2_with fail
  generalize (w.alloc (.cells #[.int .i64 p, .slice A l.length cap] 29)) = w1 at *
  go_loopw [5, 10] (fun la i wr => ∃ j : Nat, j ≤ Z.length ∧ i = .int .i64 j ∧ la = .int .i64 (lastP Z j) ∧ (∀ u, u < j → OkS l.length Z u) ∧ Below w1.heap.size w1 wr) (fun _ i _ => Z.length - (intOf i).toNat)
  case atStart => exact ⟨0, Nat.zero_le _, rfl, rfl, fun u hu => absurd hu (Nat.not_lt_zero _), Below.refl _ _⟩
  case round =>
    obtain ⟨j, hj, rfl, rfl, hok, hb⟩ := hrel
    have HB := Lib.hid hb
    have HOK := Lib.hid hok
    have BX1 := Lib.hid (BX.out.kept hb)
    obtain ⟨_, g0, g1⟩ := BX1.out
    by_cases hlt : j < Z.length
    · have hji : (j : Int) < (Z.length : Int) := by omega
      obtain ⟨b, off, rfl, hzc⟩ := row_at (HZ.out.within (within_of hb) (.inr (Nat.zero_le _))) (by omega)
      have hz := hzc j hlt
      have HLO := Lib.hid (lastP_ok hok)
      have HBAD := Lib.hid (fun h : ¬ OkS l.length Z j => setB_bad (p := p) hlt h)
      have HLN := Lib.hid (lastP_s Z j)
      clear hb hok hzc
      obtain ⟨y, hyd⟩ : ∃ y, Z.getD j 0 = y := ⟨_, rfl⟩
      obtain ⟨la, hla⟩ : ∃ la, lastP Z j = la := ⟨_, rfl⟩
      rw [hyd] at hz HLO HLN
      rw [hla] at HLO ⊢
      clear hyd hla
      by_cases c1 : y ≤ la
      · have Q := Lib.hid (HBAD.out fun h => by have := HLO.out.1 h; omega)
        have d1 : decide (y ≤ la) = true := by simpa using c1
        go_wp2_with fail
        go_ret
        exact ⟨by rw [Q.out]; rfl, below_on HA.out HB.out HA.out.size⟩
      · have d1 : decide (y ≤ la) = false := by simpa using c1
        by_cases c2 : (l.length : Int) ≤ y
        · have Q := Lib.hid (HBAD.out fun h => by have := HLO.out.1 h; omega)
          go_wp2_with fail
          go_ret
          exact ⟨by rw [Q.out]; rfl, below_on HA.out HB.out HA.out.size⟩
        · have HN := Lib.hid (okS_snoc HOK.out (HLO.out.2 ⟨by omega, by omega⟩))
          go_wp2_with fail
          go_roundw
          case rel => exact ⟨j + 1, by omega, by go_num, by rw [HLN.out], HN.out, HB.out⟩
          case measure => simp [intOf]; omega
    · obtain rfl : j = Z.length := by omega
      have HL1 := Lib.hid (HL.out.within (within_of hb) (.inr (Nat.zero_le _)))
      have HQ := Lib.hid (setB_all (p := p) HOK.out)
      clear hb hok
      go_wp2_with fail
      refine (implIsGraph p l A cap _ HL1.out.at hn).mono ?_
      rintro e w2 ⟨rfl, hb⟩
      have HB2 := Lib.hid (below_on (below_on HA.out HB.out HA.out.size) hb (by have := HA.out.size; have := HB.out.size; omega))
      clear hb
      go_wp2_with fail
      go_ret
      exact ⟨by rw [HQ.out]; rfl, HB2.out⟩
end Go.Proofs.Ytdnmmjaelgjkaaa
/- What impl.newBarSet answers. No condition. -/
namespace Go.Proofs.Ytdnmmjaelgjkaaa
open Go.RowKit

open Go.Maps

theorem IntsIn.at_on {w W V : World} {lo hi g h : Nat} {A : Option Addr} {zs : List Int} (hz : IntsIn w lo hi A zs) (hb : Below w.heap.size w W) (hw : Within g h W V) (hg : w.heap.size ≤ g) : IntsIn V lo hi A zs :=
  (hz.within (show Within w.heap.size W.heap.size w W from ⟨hb.os, hb.tape, hb.output, hb.size, fun k hk _ => hb.block k hk⟩) (.inl hz.1)).within hw (.inl (Nat.le_trans hz.1 hg))
set_option maxHeartbeats 4000000 in
set_option maxRecDepth 100000 in
theorem newSet_no (p k c : Int) (l : List (Int × Int)) (zs : List Int) (A Z : Option Addr) (cap cz lo hi : Nat) (w : World) (hl : BarsAt w w.heap.size A l) (hz : IntsIn w lo hi Z zs) (hn : l.length ≤ 1048576) (hnz : zs.length ≤ 1048576) (hbad : setB p l zs = false ∨ rangeB k c = false) :
    Calls Try.prog 98 #[.agg #[.int .i64 p, .slice A l.length cap], .int .i64 k, .int .i64 c, .slice Z zs.length cz] w fun e w' => e = .returned (.tuple #[.agg #[.int .i64 0, .slice none 0 0, .int .i64 0, .int .i64 0, .map none], .bool false]) ∧ Below w.heap.size w w' := by
  have HSET : ∀ W : World, BarsAt W W.heap.size A l → ∀ lo hi, IntsIn W lo hi Z zs → Calls Try.prog 119 #[.agg #[.int .i64 p, .slice A l.length cap], .slice Z zs.length cz] W fun e w' => e = .returned (.bool (setB p l zs)) ∧ Below W.heap.size W w' := fun W h lo hi h2 => isBarSet_c p l A Z cap cz lo hi zs W h h2 hn hnz
  rcases hs : setB p l zs with _ | _
  · rw [hs] at HSET
    clear hbad hs
    have hzh := hz.1
    have W0 := Lib.hid (Below.refl w.heap.size w)
    have HB_0 := Lib.hid (bars_in hl)
    have HZ_0 := Lib.hid (hz)
    clear hl hz
    have Z1 := Lib.hid (within_alloc w (.cells #[.int .i64 p, (.slice A l.length cap)] 29)).size
    have W1 := Lib.hid (within_on W0.out (within_alloc w (.cells #[.int .i64 p, (.slice A l.length cap)] 29)) W0.out.size (.inr (Nat.le_refl _)))
    have HB_1 := Lib.hid (HB_0.out.within (within_alloc w (.cells #[.int .i64 p, (.slice A l.length cap)] 29)) (by omega))
    have HZ_1 := Lib.hid (HZ_0.out.within (within_alloc w (.cells #[.int .i64 p, (.slice A l.length cap)] 29)) (by omega))
    have Y1 := Lib.hid (show (w.alloc (.cells #[.int .i64 p, (.slice A l.length cap)] 29)).heap.size = w.heap.size + 1 by simp)
    have hnew := box_new w p (.slice A l.length cap) 29
    have BX_1 := Lib.hid hnew
    clear hnew
    have Z2 := Lib.hid (within_alloc (w.alloc (.cells #[.int .i64 p, (.slice A l.length cap)] 29)) (.cells #[(.int .i64 0), (.slice none 0 0), (.int .i64 0), (.int .i64 0), (.map none)] 104)).size
    have W2 := Lib.hid (within_on W1.out (within_alloc (w.alloc (.cells #[.int .i64 p, (.slice A l.length cap)] 29)) (.cells #[(.int .i64 0), (.slice none 0 0), (.int .i64 0), (.int .i64 0), (.map none)] 104)) W1.out.size (.inr (Nat.le_refl _)))
    have HB_2 := Lib.hid (HB_1.out.within (within_alloc (w.alloc (.cells #[.int .i64 p, (.slice A l.length cap)] 29)) (.cells #[(.int .i64 0), (.slice none 0 0), (.int .i64 0), (.int .i64 0), (.map none)] 104)) (by omega))
    have HZ_2 := Lib.hid (HZ_1.out.within (within_alloc (w.alloc (.cells #[.int .i64 p, (.slice A l.length cap)] 29)) (.cells #[(.int .i64 0), (.slice none 0 0), (.int .i64 0), (.int .i64 0), (.map none)] 104)) (by omega))
    have BX_2 := Lib.hid (BX_1.out.within (within_alloc (w.alloc (.cells #[.int .i64 p, (.slice A l.length cap)] 29)) (.cells #[(.int .i64 0), (.slice none 0 0), (.int .i64 0), (.int .i64 0), (.map none)] 104)) (by omega))
    have Y2 := Lib.hid (show ((w.alloc (.cells #[.int .i64 p, (.slice A l.length cap)] 29)).alloc (.cells #[(.int .i64 0), (.slice none 0 0), (.int .i64 0), (.int .i64 0), (.map none)] 104)).heap.size = (w.alloc (.cells #[.int .i64 p, (.slice A l.length cap)] 29)).heap.size + 1 by simp)
    have hnew := cel5_new (w.alloc (.cells #[.int .i64 p, (.slice A l.length cap)] 29)) (.int .i64 0) (.slice none 0 0) (.int .i64 0) (.int .i64 0) (.map none) 104
    rw [show (w.alloc (.cells #[.int .i64 p, (.slice A l.length cap)] 29)).heap.size = w.heap.size + 1 by simp] at hnew
    have GR_2 := Lib.hid hnew
    clear hnew
    go_enter Try.func98, Try.ntmps98
    obtain ⟨g0_0, g0_1, g0_2⟩ := BX_2.out
    go_wp2_with fail
    clear g0_0 g0_1 g0_2
    generalize ((w.alloc (.cells #[.int .i64 p, (.slice A l.length cap)] 29)).alloc (.cells #[(.int .i64 0), (.slice none 0 0), (.int .i64 0), (.int .i64 0), (.map none)] 104)) = w2 at *
    generalize (w.alloc (.cells #[.int .i64 p, (.slice A l.length cap)] 29)) = w1 at *
    refine (HSET _ HB_2.out.at _ _ HZ_2.out).mono ?_
    rintro e w3 ⟨rfl, hb⟩
    have Z3 := Lib.hid (within_of hb).size
    have W3 := Lib.hid (within_on W2.out (within_of hb) W2.out.size (.inr (Nat.le_refl _)))
    have HB_3 := Lib.hid (HB_2.out.within (within_of hb) (by omega))
    have HZ_3 := Lib.hid (HZ_2.out.within (within_of hb) (by omega))
    have BX_3 := Lib.hid (BX_2.out.within (within_of hb) (by omega))
    have GR_3 := Lib.hid (GR_2.out.within (within_of hb) (by omega))
    clear hb HSET
    obtain ⟨g1_0, g1_1, g1_2, g1_3, g1_4⟩ := GR_3.out.cells
    obtain ⟨g2_0, g2_1, g2_2, g2_3, g2_4⟩ := GR_3.out.frozen
    have Z4 := Lib.hid ((ret5 GR_3.out (.int .i64 0) (.slice none 0 0) (.int .i64 0) (.int .i64 0) (.map none)).2).size
    have W4 := Lib.hid (within_on W3.out ((ret5 GR_3.out (.int .i64 0) (.slice none 0 0) (.int .i64 0) (.int .i64 0) (.map none)).2) W3.out.size (by have := Z1.out; have := Z2.out; have := Z3.out; have := Z4.out; have := Y1.out; have := Y2.out; omega))
    have HB_4 := Lib.hid (HB_3.out.within ((ret5 GR_3.out (.int .i64 0) (.slice none 0 0) (.int .i64 0) (.int .i64 0) (.map none)).2) (by have := Z1.out; have := Z2.out; have := Z3.out; have := Z4.out; have := Y1.out; have := Y2.out; omega))
    have HZ_4 := Lib.hid (HZ_3.out.within ((ret5 GR_3.out (.int .i64 0) (.slice none 0 0) (.int .i64 0) (.int .i64 0) (.map none)).2) (by have := Z1.out; have := Z2.out; have := Z3.out; have := Z4.out; have := Y1.out; have := Y2.out; omega))
    have BX_4 := Lib.hid (BX_3.out.within ((ret5 GR_3.out (.int .i64 0) (.slice none 0 0) (.int .i64 0) (.int .i64 0) (.map none)).2) (by have := Z1.out; have := Z2.out; have := Z3.out; have := Z4.out; have := Y1.out; have := Y2.out; omega))
    have GR_4 := Lib.hid ((ret5 GR_3.out (.int .i64 0) (.slice none 0 0) (.int .i64 0) (.int .i64 0) (.map none)).1)
    obtain ⟨g3_0, g3_1, g3_2, g3_3, g3_4⟩ := GR_4.out.cells
    obtain ⟨g4_0, g4_1, g4_2, g4_3, g4_4⟩ := GR_4.out.frozen
    go_wp2_with fail
    generalize (((((w3.setCell ⟨w.heap.size + 1, 0, none⟩ (.int .i64 0)).setCell ⟨w.heap.size + 1, 1, none⟩ (.slice none 0 0)).setCell ⟨w.heap.size + 1, 2, none⟩ (.int .i64 0)).setCell ⟨w.heap.size + 1, 3, none⟩ (.int .i64 0)).setCell ⟨w.heap.size + 1, 4, none⟩ (.map none)) = w4 at *
    refine bodyPost_ret (v := .tuple #[.agg #[.int .i64 0, .slice none 0 0, .int .i64 0, .int .i64 0, .map none], .bool false]) ?_ rfl ?_
    · simp [results, Try.results98, go_sem, g3_0, g3_1, g3_2, g3_3, g3_4]
    · exact ⟨rfl, W4.out⟩
  · have hr : rangeB k c = false := by
      rcases hbad with h | h
      · rw [hs] at h; cases h
      · exact h
    have HRG := Lib.hid hr
    rw [hs] at HSET
    clear hbad hs hr
    have hzh := hz.1
    have W0 := Lib.hid (Below.refl w.heap.size w)
    have HB_0 := Lib.hid (bars_in hl)
    have HZ_0 := Lib.hid (hz)
    clear hl hz
    have Z1 := Lib.hid (within_alloc w (.cells #[.int .i64 p, (.slice A l.length cap)] 29)).size
    have W1 := Lib.hid (within_on W0.out (within_alloc w (.cells #[.int .i64 p, (.slice A l.length cap)] 29)) W0.out.size (.inr (Nat.le_refl _)))
    have HB_1 := Lib.hid (HB_0.out.within (within_alloc w (.cells #[.int .i64 p, (.slice A l.length cap)] 29)) (by omega))
    have HZ_1 := Lib.hid (HZ_0.out.within (within_alloc w (.cells #[.int .i64 p, (.slice A l.length cap)] 29)) (by omega))
    have Y1 := Lib.hid (show (w.alloc (.cells #[.int .i64 p, (.slice A l.length cap)] 29)).heap.size = w.heap.size + 1 by simp)
    have hnew := box_new w p (.slice A l.length cap) 29
    have BX_1 := Lib.hid hnew
    clear hnew
    have Z2 := Lib.hid (within_alloc (w.alloc (.cells #[.int .i64 p, (.slice A l.length cap)] 29)) (.cells #[(.int .i64 0), (.slice none 0 0), (.int .i64 0), (.int .i64 0), (.map none)] 104)).size
    have W2 := Lib.hid (within_on W1.out (within_alloc (w.alloc (.cells #[.int .i64 p, (.slice A l.length cap)] 29)) (.cells #[(.int .i64 0), (.slice none 0 0), (.int .i64 0), (.int .i64 0), (.map none)] 104)) W1.out.size (.inr (Nat.le_refl _)))
    have HB_2 := Lib.hid (HB_1.out.within (within_alloc (w.alloc (.cells #[.int .i64 p, (.slice A l.length cap)] 29)) (.cells #[(.int .i64 0), (.slice none 0 0), (.int .i64 0), (.int .i64 0), (.map none)] 104)) (by omega))
    have HZ_2 := Lib.hid (HZ_1.out.within (within_alloc (w.alloc (.cells #[.int .i64 p, (.slice A l.length cap)] 29)) (.cells #[(.int .i64 0), (.slice none 0 0), (.int .i64 0), (.int .i64 0), (.map none)] 104)) (by omega))
    have BX_2 := Lib.hid (BX_1.out.within (within_alloc (w.alloc (.cells #[.int .i64 p, (.slice A l.length cap)] 29)) (.cells #[(.int .i64 0), (.slice none 0 0), (.int .i64 0), (.int .i64 0), (.map none)] 104)) (by omega))
    have Y2 := Lib.hid (show ((w.alloc (.cells #[.int .i64 p, (.slice A l.length cap)] 29)).alloc (.cells #[(.int .i64 0), (.slice none 0 0), (.int .i64 0), (.int .i64 0), (.map none)] 104)).heap.size = (w.alloc (.cells #[.int .i64 p, (.slice A l.length cap)] 29)).heap.size + 1 by simp)
    have hnew := cel5_new (w.alloc (.cells #[.int .i64 p, (.slice A l.length cap)] 29)) (.int .i64 0) (.slice none 0 0) (.int .i64 0) (.int .i64 0) (.map none) 104
    rw [show (w.alloc (.cells #[.int .i64 p, (.slice A l.length cap)] 29)).heap.size = w.heap.size + 1 by simp] at hnew
    have GR_2 := Lib.hid hnew
    clear hnew
    go_enter Try.func98, Try.ntmps98
    obtain ⟨g0_0, g0_1, g0_2⟩ := BX_2.out
    go_wp2_with fail
    clear g0_0 g0_1 g0_2
    generalize ((w.alloc (.cells #[.int .i64 p, (.slice A l.length cap)] 29)).alloc (.cells #[(.int .i64 0), (.slice none 0 0), (.int .i64 0), (.int .i64 0), (.map none)] 104)) = w2 at *
    generalize (w.alloc (.cells #[.int .i64 p, (.slice A l.length cap)] 29)) = w1 at *
    refine (HSET _ HB_2.out.at _ _ HZ_2.out).mono ?_
    rintro e w3 ⟨rfl, hb⟩
    have Z3 := Lib.hid (within_of hb).size
    have W3 := Lib.hid (within_on W2.out (within_of hb) W2.out.size (.inr (Nat.le_refl _)))
    have HB_3 := Lib.hid (HB_2.out.within (within_of hb) (by omega))
    have HZ_3 := Lib.hid (HZ_2.out.within (within_of hb) (by omega))
    have BX_3 := Lib.hid (BX_2.out.within (within_of hb) (by omega))
    have GR_3 := Lib.hid (GR_2.out.within (within_of hb) (by omega))
    clear hb HSET
    go_wp2_with fail
    refine (implRange k c _).mono ?_
    rintro e w9 ⟨rfl, rfl⟩
    rw [HRG.out]
    obtain ⟨g1_0, g1_1, g1_2, g1_3, g1_4⟩ := GR_3.out.cells
    obtain ⟨g2_0, g2_1, g2_2, g2_3, g2_4⟩ := GR_3.out.frozen
    have Z4 := Lib.hid ((ret5 GR_3.out (.int .i64 0) (.slice none 0 0) (.int .i64 0) (.int .i64 0) (.map none)).2).size
    have W4 := Lib.hid (within_on W3.out ((ret5 GR_3.out (.int .i64 0) (.slice none 0 0) (.int .i64 0) (.int .i64 0) (.map none)).2) W3.out.size (by have := Z1.out; have := Z2.out; have := Z3.out; have := Z4.out; have := Y1.out; have := Y2.out; omega))
    have HB_4 := Lib.hid (HB_3.out.within ((ret5 GR_3.out (.int .i64 0) (.slice none 0 0) (.int .i64 0) (.int .i64 0) (.map none)).2) (by have := Z1.out; have := Z2.out; have := Z3.out; have := Z4.out; have := Y1.out; have := Y2.out; omega))
    have HZ_4 := Lib.hid (HZ_3.out.within ((ret5 GR_3.out (.int .i64 0) (.slice none 0 0) (.int .i64 0) (.int .i64 0) (.map none)).2) (by have := Z1.out; have := Z2.out; have := Z3.out; have := Z4.out; have := Y1.out; have := Y2.out; omega))
    have BX_4 := Lib.hid (BX_3.out.within ((ret5 GR_3.out (.int .i64 0) (.slice none 0 0) (.int .i64 0) (.int .i64 0) (.map none)).2) (by have := Z1.out; have := Z2.out; have := Z3.out; have := Z4.out; have := Y1.out; have := Y2.out; omega))
    have GR_4 := Lib.hid ((ret5 GR_3.out (.int .i64 0) (.slice none 0 0) (.int .i64 0) (.int .i64 0) (.map none)).1)
    obtain ⟨g3_0, g3_1, g3_2, g3_3, g3_4⟩ := GR_4.out.cells
    obtain ⟨g4_0, g4_1, g4_2, g4_3, g4_4⟩ := GR_4.out.frozen
    go_wp2_with fail
    generalize (((((w3.setCell ⟨w.heap.size + 1, 0, none⟩ (.int .i64 0)).setCell ⟨w.heap.size + 1, 1, none⟩ (.slice none 0 0)).setCell ⟨w.heap.size + 1, 2, none⟩ (.int .i64 0)).setCell ⟨w.heap.size + 1, 3, none⟩ (.int .i64 0)).setCell ⟨w.heap.size + 1, 4, none⟩ (.map none)) = w4 at *
    refine bodyPost_ret (v := .tuple #[.agg #[.int .i64 0, .slice none 0 0, .int .i64 0, .int .i64 0, .map none], .bool false]) ?_ rfl ?_
    · simp [results, Try.results98, go_sem, g3_0, g3_1, g3_2, g3_3, g3_4]
    · exact ⟨rfl, W4.out⟩
/-- A set in a map of the call's own. -/
def NewSetP (w : World) (p : Int) (A : Option Addr) (n cap : Nat) (k c : Int) (zs : List Int) (e : Ending) (w' : World) : Prop :=
  ∃ b, e = .returned (.tuple #[bsV p A n cap k c b, .bool true]) ∧ SetM w' b zs.length zs ∧ w.heap.size ≤ b ∧ Below w.heap.size w w'
theorem setM_step {W W' : World} {b : Nat} {zs : List Int} {j : Nat} (hj : j < zs.length) {D : DataW Unit} (h : OMap W b j D) (hs : SaysS D (zs.take j)) (h' : OMap W' b (j + 1) (D.put (.int .i64 (zs.getD j 0)) (.lit (.bool true)))) : SetM W' b (j + 1) (zs.take (j + 1)) :=
  ⟨_, h', by
    have := hs.put h.isMap (zs.getD j 0)
    rwa [show zs.take j ++ [zs.getD j 0] = zs.take (j + 1) by rw [List.take_add_one]; simp [List.getD, List.getElem?_eq_getElem hj]] at this⟩

set_option maxHeartbeats 4000000 in
set_option maxRecDepth 100000 in
theorem newSet_yes (p k c : Int) (l : List (Int × Int)) (zs : List Int) (A Z : Option Addr) (cap cz lo hi : Nat) (w : World) (hl : BarsAt w w.heap.size A l) (hz : IntsIn w lo hi Z zs) (hn : l.length ≤ 1048576) (hnz : zs.length ≤ 1048576) (hs : setB p l zs = true) (hr : rangeB k c = true) :
    Calls Try.prog 98 #[.agg #[.int .i64 p, .slice A l.length cap], .int .i64 k, .int .i64 c, .slice Z zs.length cz] w (NewSetP w p A l.length cap k c zs) := by
  have HSET : ∀ W : World, BarsAt W W.heap.size A l → ∀ lo hi, IntsIn W lo hi Z zs → Calls Try.prog 119 #[.agg #[.int .i64 p, .slice A l.length cap], .slice Z zs.length cz] W fun e w' => e = .returned (.bool (setB p l zs)) ∧ Below W.heap.size W w' := fun W h lo hi h2 => isBarSet_c p l A Z cap cz lo hi zs W h h2 hn hnz
  have HRG := Lib.hid hr
  have HW := Lib.hid (show ∀ j, j < zs.length → (Lit.int .i64 (zs.getD j 0)).wf = true from fun j hj => WalkArith.wf_i64 (by have := ((setB_is hs).1 j hj).1; omega))
  rw [hs] at HSET
  clear hs hr
  have hzh := hz.1
  have W0 := Lib.hid (Below.refl w.heap.size w)
  have HB_0 := Lib.hid (bars_in hl)
  have HZ_0 := Lib.hid (hz)
  clear hl hz
  have Z1 := Lib.hid (within_alloc w (.cells #[.int .i64 p, (.slice A l.length cap)] 29)).size
  have W1 := Lib.hid (within_on W0.out (within_alloc w (.cells #[.int .i64 p, (.slice A l.length cap)] 29)) W0.out.size (.inr (Nat.le_refl _)))
  have HB_1 := Lib.hid (HB_0.out.within (within_alloc w (.cells #[.int .i64 p, (.slice A l.length cap)] 29)) (by omega))
  have HZ_1 := Lib.hid (HZ_0.out.within (within_alloc w (.cells #[.int .i64 p, (.slice A l.length cap)] 29)) (by omega))
  have Y1 := Lib.hid (show (w.alloc (.cells #[.int .i64 p, (.slice A l.length cap)] 29)).heap.size = w.heap.size + 1 by simp)
  have hnew := box_new w p (.slice A l.length cap) 29
  have BX_1 := Lib.hid hnew
  clear hnew
  have Z2 := Lib.hid (within_alloc (w.alloc (.cells #[.int .i64 p, (.slice A l.length cap)] 29)) (.cells #[(.int .i64 0), (.slice none 0 0), (.int .i64 0), (.int .i64 0), (.map none)] 104)).size
  have W2 := Lib.hid (within_on W1.out (within_alloc (w.alloc (.cells #[.int .i64 p, (.slice A l.length cap)] 29)) (.cells #[(.int .i64 0), (.slice none 0 0), (.int .i64 0), (.int .i64 0), (.map none)] 104)) W1.out.size (.inr (Nat.le_refl _)))
  have HB_2 := Lib.hid (HB_1.out.within (within_alloc (w.alloc (.cells #[.int .i64 p, (.slice A l.length cap)] 29)) (.cells #[(.int .i64 0), (.slice none 0 0), (.int .i64 0), (.int .i64 0), (.map none)] 104)) (by omega))
  have HZ_2 := Lib.hid (HZ_1.out.within (within_alloc (w.alloc (.cells #[.int .i64 p, (.slice A l.length cap)] 29)) (.cells #[(.int .i64 0), (.slice none 0 0), (.int .i64 0), (.int .i64 0), (.map none)] 104)) (by omega))
  have BX_2 := Lib.hid (BX_1.out.within (within_alloc (w.alloc (.cells #[.int .i64 p, (.slice A l.length cap)] 29)) (.cells #[(.int .i64 0), (.slice none 0 0), (.int .i64 0), (.int .i64 0), (.map none)] 104)) (by omega))
  have Y2 := Lib.hid (show ((w.alloc (.cells #[.int .i64 p, (.slice A l.length cap)] 29)).alloc (.cells #[(.int .i64 0), (.slice none 0 0), (.int .i64 0), (.int .i64 0), (.map none)] 104)).heap.size = (w.alloc (.cells #[.int .i64 p, (.slice A l.length cap)] 29)).heap.size + 1 by simp)
  have hnew := cel5_new (w.alloc (.cells #[.int .i64 p, (.slice A l.length cap)] 29)) (.int .i64 0) (.slice none 0 0) (.int .i64 0) (.int .i64 0) (.map none) 104
  rw [show (w.alloc (.cells #[.int .i64 p, (.slice A l.length cap)] 29)).heap.size = w.heap.size + 1 by simp] at hnew
  have GR_2 := Lib.hid hnew
  clear hnew
  go_enter Try.func98, Try.ntmps98
  obtain ⟨g0_0, g0_1, g0_2⟩ := BX_2.out
  go_wp2_with fail
  clear g0_0 g0_1 g0_2
  generalize ((w.alloc (.cells #[.int .i64 p, (.slice A l.length cap)] 29)).alloc (.cells #[(.int .i64 0), (.slice none 0 0), (.int .i64 0), (.int .i64 0), (.map none)] 104)) = w2 at *
  generalize (w.alloc (.cells #[.int .i64 p, (.slice A l.length cap)] 29)) = w1 at *
  refine (HSET _ HB_2.out.at _ _ HZ_2.out).mono ?_
  rintro e w3 ⟨rfl, hb⟩
  have Z3 := Lib.hid (within_of hb).size
  have W3 := Lib.hid (within_on W2.out (within_of hb) W2.out.size (.inr (Nat.le_refl _)))
  have HB_3 := Lib.hid (HB_2.out.within (within_of hb) (by omega))
  have HZ_3 := Lib.hid (HZ_2.out.within (within_of hb) (by omega))
  have BX_3 := Lib.hid (BX_2.out.within (within_of hb) (by omega))
  have GR_3 := Lib.hid (GR_2.out.within (within_of hb) (by omega))
  clear hb HSET
  go_wp2_with fail
  refine (implRange k c _).mono ?_
  rintro e w9 ⟨rfl, rfl⟩
  rw [HRG.out]
  have hmm := @run_makeMap Try.prog
  obtain ⟨g1_0, g1_1, g1_2⟩ := BX_3.out
  have Z4 := Lib.hid (within_alloc w3 (.map #[] 0)).size
  have W4 := Lib.hid (within_on W3.out (within_alloc w3 (.map #[] 0)) W3.out.size (.inr (Nat.le_refl _)))
  have HB_4 := Lib.hid (HB_3.out.within (within_alloc w3 (.map #[] 0)) (by omega))
  have HZ_4 := Lib.hid (HZ_3.out.within (within_alloc w3 (.map #[] 0)) (by omega))
  have BX_4 := Lib.hid (BX_3.out.within (within_alloc w3 (.map #[] 0)) (by omega))
  have GR_4 := Lib.hid (GR_3.out.within (within_alloc w3 (.map #[] 0)) (by omega))
  have Y4 := Lib.hid (show (w3.alloc (.map #[] 0)).heap.size = w3.heap.size + 1 by simp)
  have hom := World.ownsMap_made (H := Unit) w3 Try.prog 3 (plainElem Try.prog 4)
  have MP_4 := Lib.hid (show SetM (w3.alloc (.map #[] 0)) w3.heap.size 0 (zs.take 0) from ⟨_, hom, saysS_nil⟩)
  clear hom
  have Z5 := Lib.hid (within_alloc (w3.alloc (.map #[] 0)) (.cells #[(.int .i64 p), (.slice A l.length cap), (.int .i64 k), (.int .i64 c), (.map (some w3.heap.size))] 104)).size
  have W5 := Lib.hid (within_on W4.out (within_alloc (w3.alloc (.map #[] 0)) (.cells #[(.int .i64 p), (.slice A l.length cap), (.int .i64 k), (.int .i64 c), (.map (some w3.heap.size))] 104)) W4.out.size (.inr (Nat.le_refl _)))
  have HB_5 := Lib.hid (HB_4.out.within (within_alloc (w3.alloc (.map #[] 0)) (.cells #[(.int .i64 p), (.slice A l.length cap), (.int .i64 k), (.int .i64 c), (.map (some w3.heap.size))] 104)) (by omega))
  have HZ_5 := Lib.hid (HZ_4.out.within (within_alloc (w3.alloc (.map #[] 0)) (.cells #[(.int .i64 p), (.slice A l.length cap), (.int .i64 k), (.int .i64 c), (.map (some w3.heap.size))] 104)) (by omega))
  have BX_5 := Lib.hid (BX_4.out.within (within_alloc (w3.alloc (.map #[] 0)) (.cells #[(.int .i64 p), (.slice A l.length cap), (.int .i64 k), (.int .i64 c), (.map (some w3.heap.size))] 104)) (by omega))
  have GR_5 := Lib.hid (GR_4.out.within (within_alloc (w3.alloc (.map #[] 0)) (.cells #[(.int .i64 p), (.slice A l.length cap), (.int .i64 k), (.int .i64 c), (.map (some w3.heap.size))] 104)) (by omega))
  have MP_5 := Lib.hid (MP_4.out.within (within_alloc (w3.alloc (.map #[] 0)) (.cells #[(.int .i64 p), (.slice A l.length cap), (.int .i64 k), (.int .i64 c), (.map (some w3.heap.size))] 104)) (by omega))
  have Y5 := Lib.hid (show ((w3.alloc (.map #[] 0)).alloc (.cells #[(.int .i64 p), (.slice A l.length cap), (.int .i64 k), (.int .i64 c), (.map (some w3.heap.size))] 104)).heap.size = (w3.alloc (.map #[] 0)).heap.size + 1 by simp)
  have hnew := cel5_new (w3.alloc (.map #[] 0)) (.int .i64 p) (.slice A l.length cap) (.int .i64 k) (.int .i64 c) (.map (some w3.heap.size)) 104
  rw [show (w3.alloc (.map #[] 0)).heap.size = w3.heap.size + 1 by simp] at hnew
  have BB_5 := Lib.hid hnew
  clear hnew
  go_wp2_with fail
  clear g1_0 g1_1 g1_2
  generalize ((w3.alloc (.map #[] 0)).alloc (.cells #[(.int .i64 p), (.slice A l.length cap), (.int .i64 k), (.int .i64 c), (.map (some w3.heap.size))] 104)) = w5 at *
  generalize (w3.alloc (.map #[] 0)) = w4 at *
  have HMB := Lib.hid (show w.heap.size + 2 ≤ w3.heap.size from (by have := Z1.out; have := Z2.out; have := Z3.out; have := Z4.out; have := Z5.out; have := Y1.out; have := Y2.out; have := Y4.out; have := Y5.out; omega))
  have HMP := Lib.hid MP_5.out
  go_loopw [12, 31] (fun _ i wr => ∃ j : Nat, j ≤ zs.length ∧ i = .int .i64 j ∧ SetM wr w3.heap.size j (zs.take j) ∧ Within w3.heap.size (w3.heap.size + 1) w5 wr) (fun _ i _ => zs.length - (intOf i).toNat)
  case atStart => exact ⟨0, Nat.zero_le _, rfl, HMP.out, Within.refl _ _ _⟩
  case round =>
    obtain ⟨j, hj, rfl, hset, hwi⟩ := hrel
    have HWI := Lib.hid hwi
    have HB5 := Lib.hid (BB_5.out.within hwi (.inr (Nat.le_refl _)))
    obtain ⟨c0, c1, c2, c3, c4⟩ := HB5.out.cells
    have hzr := HZ_0.out.at_on W5.out hwi (by have := HMB.out; omega)
    by_cases hlt : j < zs.length
    · have hji : (j : Int) < (zs.length : Int) := by omega
      obtain ⟨zb, zo, rfl, hzc⟩ := row_at hzr (by omega)
      have hz := hzc j hlt
      obtain ⟨D, hom, hsay⟩ := hset
      have HOM := Lib.hid hom
      have HSAY := Lib.hid hsay
      have HWF := Lib.hid (HW.out j hlt)
      have HSTEP := Lib.hid (fun (W' : World) h' => setM_step (W' := W') hlt hom hsay h')
      clear hom hsay hzc hzr hwi
      obtain ⟨z, hzd⟩ : ∃ z, zs.getD j 0 = z := ⟨_, rfl⟩
      rw [hzd] at hz HWF HSTEP
      clear hzd
      go_wp2_with (first
        | (at_mapUpdate; refine wpList_mapUpdate_own _ rfl _ _ _ 102 rfl 3 4 lawI Try.underlying102 _ w3.heap.size j D rfl HOM.out (by unfold maxLen; omega) _ _ (.int .i64 z) rfl rfl (keyOf_int_mk Try.underlying3 HWF.out) _ [] (plainElem_bool Try.underlying4 true) ?_; intro w8 hown8 hg8; have HN := Lib.hid (HSTEP.out w8 hown8); have HWN := Lib.hid (HWI.out.trans (within_grown hg8)); clear hown8 hg8)
        | go_in)
      go_roundw
      case rel => exact ⟨j + 1, by omega, by go_num, HN.out, HWN.out⟩
      case measure => simp [intOf]; omega
    · obtain rfl : j = zs.length := by omega
      rw [List.take_length] at hset
      have HSET2 := Lib.hid hset
      clear hset hzr hwi
      have hgr := GR_5.out.within HWI.out (.inl (by have := HMB.out; omega))
      have h5 := ret5 hgr (.int .i64 p) (.slice A l.length cap) (.int .i64 k) (.int .i64 c) (.map (some w3.heap.size))
      obtain ⟨e0, e1, e2, e3, e4⟩ := hgr.cells
      obtain ⟨f0, f1, f2, f3, f4⟩ := hgr.frozen
      obtain ⟨s0, s1, s2, s3, s4⟩ := h5.1.cells
      have HW5 := Lib.hid h5.2
      clear h5 hgr
      go_wp2_with fail
      refine bodyPost_ret (v := .tuple #[bsV p A l.length cap k c w3.heap.size, .bool true]) ?_ rfl ?_
      · simp [results, Try.results98, go_sem, s0, s1, s2, s3, s4]
      · have hmb := HMB.out
        have hb0 := W5.out.size
        have hb1 := HWI.out.size
        exact ⟨_, rfl, HSET2.out.within HW5.out (.inr (by omega)), by omega, within_on (within_on W5.out HWI.out hb0 (.inl (by omega))) HW5.out (by omega) (.inl (by omega))⟩
end Go.Proofs.Ytdnmmjaelgjkaaa
/- What impl.BridgesOf answers. No condition. -/
namespace Go.Proofs.Ytdnmmjaelgjkaaa
open Go.RowKit

theorem bri_step (n k : Nat) (h : k < n) : (intCells ((allN n).take k ++ List.replicate (n - k) 0)).set k (.int .i64 (k : Int)) = intCells ((allN n).take (k + 1) ++ List.replicate (n - (k + 1)) 0) := by
  have := ints_step (allN n) k (by rw [allN_len]; exact h)
  rw [allN_get _ _ h, allN_len] at this
  exact this
theorem bri_full (n : Nat) : (allN n).take n ++ List.replicate (n - n) 0 = allN n := by
  rw [Nat.sub_self, List.replicate_zero, List.append_nil]
  exact List.take_of_length_le (by rw [allN_len]; exact Nat.le_refl _)
theorem row_ints {W : World} {g n c base : Nat} {X : List Int} (h : W.ownsRow base 3 1 (.slice (some ⟨g, 0, none⟩) n c) n (intCells X)) (hX : X.length = n) : IntsIn W g (g + 1) (some ⟨g, 0, none⟩) X := by
  refine ⟨(h.lt g rfl).2, fun h0 => ⟨g, 0, rfl, Nat.le_refl _, Nat.lt_succ_self _, fun j hj => ?_⟩⟩
  rw [Nat.zero_add]
  exact (h.cellAt j (by omega)).trans (intCells_get X j hj)
def RowG (W : World) (g n : Nat) (X : List Int) : Prop := W.ownsRow g 3 1 (.slice (some ⟨g, 0, none⟩) n n) n (intCells X)
theorem RowG.within {W W' : World} {g n lo hi : Nat} {X : List Int} (h : RowG W g n X) (hw : Within lo hi W W') (hd : g < lo ∨ hi ≤ g) : RowG W' g n X := own_block h (hw.block g (World.ownsRow.lt h g rfl).2 hd)
theorem runB_no {p k c : Int} {l : List (Int × Int)} (h : runB p k c l = false) : setB p l (allN l.length) = false ∨ rangeB k c = false := by
  cases hs : setB p l (allN l.length) with
  | false => exact .inl rfl
  | true =>
    cases hr : rangeB k c with
    | false => exact .inr rfl
    | true =>
      have hG := (setB_is hs).2
      have hk := rangeB_is hr
      unfold runB newB at h
      rw [isGB_yes hG, hr, decide_eq_true hk.1.1, decide_eq_true hk.1.2] at h
      cases h
set_option maxHeartbeats 8000000 in
set_option maxRecDepth 100000 in
theorem implBri (p k c : Int) (l : List (Int × Int)) (A : Option Addr) (cap : Nat) (w : World) (hl : BarsAt w w.heap.size A l) (hn : l.length ≤ 1048576) :
    Calls Try.prog 38 #[.agg #[.int .i64 p, .slice A l.length cap], .int .i64 k, .int .i64 c] w (IntsO w (briV p k c l)) := by
  have hmf : ∀ (fn : Fn) (first cap : Array Value) (w : World), (Instr.makeFunc fn first cap).run Try.prog w = .ok (.func fn first cap) w := fun _ _ _ _ => rfl
  have HLEN := Lib.hid (allN_len l.length)
  have W0 := Lib.hid (Below.refl w.heap.size w)
  have HB_0 := Lib.hid (bars_in hl)
  clear hl
  have Z1 := Lib.hid (within_alloc w (.cells #[.int .i64 p, (.slice A l.length cap)] 29)).size
  have W1 := Lib.hid (within_on W0.out (within_alloc w (.cells #[.int .i64 p, (.slice A l.length cap)] 29)) W0.out.size (.inr (Nat.le_refl _)))
  have HB_1 := Lib.hid (HB_0.out.within (within_alloc w (.cells #[.int .i64 p, (.slice A l.length cap)] 29)) (by omega))
  have Y1 := Lib.hid (show (w.alloc (.cells #[.int .i64 p, (.slice A l.length cap)] 29)).heap.size = w.heap.size + 1 by simp)
  have hnew := box_new w p (.slice A l.length cap) 29
  have BX_1 := Lib.hid hnew
  clear hnew
  have hw1s := W1.out.size
  go_enter Try.func38, Try.ntmps38
  obtain ⟨g0_0, g0_1, g0_2⟩ := BX_1.out
  go_wp2_with (at_make; generalize (w.alloc (.cells #[.int .i64 p, (.slice A l.length cap)] 29)) = w1 at *; refine wpList_mkn _ rfl _ _ 40 rfl w1.heap.size 3 (.int .i64 0) 8 Try.underlying40 infoInt rfl _ _ _ _ l.length rfl rfl rfl rfl (by omega) (by unfold maxLen; omega) (Nat.le_refl _) ?_; intro w0 hown0 hb0)
  rw [intsOf_zero] at hown0
  obtain ⟨g, hg⟩ : ∃ g, w1.heap.size = g := ⟨_, rfl⟩
  have hgw : w.heap.size < g := by rw [← hg]; exact BX_1.out.1
  have HG := Lib.hid hg
  have HGW := Lib.hid hgw
  rw [hg] at hown0 ⊢
  have HB0 := Lib.hid hb0
  have HOWN := Lib.hid hown0
  clear g0_0 g0_1 g0_2 hg hgw hb0 hown0 hw1s
  go_loopw [8, 18] (fun _ i wr => ∃ j : Nat, j ≤ l.length ∧ i = .int .i64 j ∧ wr.ownsRow g 3 1 (.slice (some ⟨g, 0, none⟩) l.length l.length) l.length (intCells ((allN l.length).take j ++ List.replicate (l.length - j) 0)) ∧ Below w1.heap.size w1 wr) (fun _ i _ => l.length - (intOf i).toNat)
  case atStart => exact ⟨0, Nat.zero_le _, rfl, by rw [List.take_zero, List.nil_append, Nat.sub_zero]; exact HOWN.out, HB0.out⟩
  case round =>
    obtain ⟨j, hj, rfl, hrow, hb⟩ := hrel
    have HBR := Lib.hid hb
    have HR := Lib.hid hrow
    have hlx : ((allN l.length).take j ++ List.replicate (l.length - j) 0).length = l.length := by have := HLEN.out; simp; omega
    by_cases hlt : j < l.length
    · have hji : (j : Int) < (l.length : Int) := by omega
      have hcj := (hrow.cellAt j (by omega)).trans (intCells_get _ j (by omega))
      have hfj := hrow.frozenAt j
      have hst := hrow.stored j (.int .i64 (j : Int))
      rw [bri_step _ _ hlt] at hst
      have HST := Lib.hid hst.1
      have HB2 := Lib.hid (hb.grown hst.2 hb.size fun g' e => by cases e; exact Nat.le_of_eq HG.out)
      clear hst hrow hb hlx
      obtain ⟨y, hy⟩ : ∃ y, ((allN l.length).take j ++ List.replicate (l.length - j) 0).getD j 0 = y := ⟨_, rfl⟩
      rw [hy] at hcj
      clear hy
      go_wp2_with fail
      go_roundw
      case rel => exact ⟨j + 1, by omega, by go_num, HST.out, HB2.out⟩
      case measure => simp [intOf]; omega
    · obtain rfl : j = l.length := by omega
      have hrw : ((allN l.length).take l.length ++ List.replicate (l.length - l.length) 0) = allN l.length := bri_full _
      rw [hrw] at hrow
      have HZ := Lib.hid (row_ints hrow HLEN.out)
      have hgn := (hrow.lt g rfl).2
      have HGN := Lib.hid hgn
      have HRW := Lib.hid (show RowG wr g l.length (allN l.length) from hrow)
      clear HR hlx hrow hrw hgn
      have Z2 := Lib.hid (within_of hb).size
      have W2 := Lib.hid (within_on W1.out (within_of hb) W1.out.size (.inr (Nat.le_refl _)))
      have HB_2 := Lib.hid (HB_1.out.within (within_of hb) (by omega))
      have BX_2 := Lib.hid (BX_1.out.within (within_of hb) (by omega))
      have HZ_2 := HZ
      have HRW_2 := HRW
      clear HBR hb HZ HRW
      obtain ⟨g1_0, g1_1, g1_2⟩ := BX_2.out
      cases hb : runB p k c l with
      | false =>
        have HV := Lib.hid (briV_no hb)
        have HBAD := Lib.hid (runB_no hb)
        clear hb
        go_wp2_with fail
        clear g1_0 g1_1 g1_2
        have hnz : (allN l.length).length ≤ 1048576 := by have := HLEN.out; omega
        have HNO := Lib.hid (newSet_no p k c l (allN l.length) A (some ⟨g, 0, none⟩) cap l.length g (g + 1) wr HB_2.out.at HZ_2.out hn hnz HBAD.out)
        rw [HLEN.out] at HNO
        refine (HNO.out).mono ?_
        rintro e w3 ⟨rfl, hb⟩
        have Z3 := Lib.hid (within_of hb).size
        have W3 := Lib.hid (within_on W2.out (within_of hb) W2.out.size (.inr (Nat.le_refl _)))
        have HB_3 := Lib.hid (HB_2.out.within (within_of hb) (by omega))
        have BX_3 := Lib.hid (BX_2.out.within (within_of hb) (by omega))
        have HZ_3 := Lib.hid (HZ_2.out.within (within_of hb) (by omega))
        have HRW_3 := Lib.hid (HRW_2.out.within (within_of hb) (by omega))
        clear hb
        have Z4 := Lib.hid (within_alloc w3 (.cells #[(.int .i64 0), (.slice none 0 0), (.int .i64 0), (.int .i64 0), (.map none)] 104)).size
        have W4 := Lib.hid (within_on W3.out (within_alloc w3 (.cells #[(.int .i64 0), (.slice none 0 0), (.int .i64 0), (.int .i64 0), (.map none)] 104)) W3.out.size (.inr (Nat.le_refl _)))
        have HB_4 := Lib.hid (HB_3.out.within (within_alloc w3 (.cells #[(.int .i64 0), (.slice none 0 0), (.int .i64 0), (.int .i64 0), (.map none)] 104)) (by omega))
        have BX_4 := Lib.hid (BX_3.out.within (within_alloc w3 (.cells #[(.int .i64 0), (.slice none 0 0), (.int .i64 0), (.int .i64 0), (.map none)] 104)) (by omega))
        have HZ_4 := Lib.hid (HZ_3.out.within (within_alloc w3 (.cells #[(.int .i64 0), (.slice none 0 0), (.int .i64 0), (.int .i64 0), (.map none)] 104)) (by omega))
        have HRW_4 := Lib.hid (HRW_3.out.within (within_alloc w3 (.cells #[(.int .i64 0), (.slice none 0 0), (.int .i64 0), (.int .i64 0), (.map none)] 104)) (by omega))
        have Y4 := Lib.hid (show (w3.alloc (.cells #[(.int .i64 0), (.slice none 0 0), (.int .i64 0), (.int .i64 0), (.map none)] 104)).heap.size = w3.heap.size + 1 by simp)
        have hnew := cel5_new w3 (.int .i64 0) (.slice none 0 0) (.int .i64 0) (.int .i64 0) (.map none) 104
        have BB_4 := Lib.hid hnew
        clear hnew
        go_wp2_with fail
        generalize (w3.alloc (.cells #[(.int .i64 0), (.slice none 0 0), (.int .i64 0), (.int .i64 0), (.map none)] 104)) = w4 at *
        go_ret
        exact ⟨none, 0, by rw [HV.out]; rfl, by rw [HV.out]; exact ⟨Nat.le_refl _, .inl rfl⟩, W4.out⟩
      | true =>
        have HF := Lib.hid (briF hb)
        clear hb
        have hnz : (allN l.length).length ≤ 1048576 := by have := HLEN.out; omega
        go_wp2_with fail
        clear g1_0 g1_1 g1_2
        have hyes := newSet_yes p k c l (allN l.length) A (some ⟨g, 0, none⟩) cap l.length g (g + 1) wr HB_2.out.at HZ_2.out hn hnz HF.out.set HF.out.rng
        rw [HLEN.out] at hyes
        refine (hyes).mono ?_
        rintro e w3 ⟨b, rfl, hset, hbge, hb⟩
        have Z3 := Lib.hid (within_of hb).size
        have W3 := Lib.hid (within_on W2.out (within_of hb) W2.out.size (.inr (Nat.le_refl _)))
        have HB_3 := Lib.hid (HB_2.out.within (within_of hb) (by omega))
        have BX_3 := Lib.hid (BX_2.out.within (within_of hb) (by omega))
        have HZ_3 := Lib.hid (HZ_2.out.within (within_of hb) (by omega))
        have HRW_3 := Lib.hid (HRW_2.out.within (within_of hb) (by omega))
        have SM_3 := Lib.hid (hset)
        clear hset hb hyes
        have HBG := Lib.hid hbge
        clear hbge
        have hblt := SM_3.out.lt
        have HBLT := Lib.hid hblt
        clear hblt
        have Z4 := Lib.hid (within_alloc w3 (.cells #[(.int .i64 p), (.slice A l.length cap), (.int .i64 k), (.int .i64 c), (.map (some b))] 104)).size
        have W4 := Lib.hid (within_on W3.out (within_alloc w3 (.cells #[(.int .i64 p), (.slice A l.length cap), (.int .i64 k), (.int .i64 c), (.map (some b))] 104)) W3.out.size (.inr (Nat.le_refl _)))
        have HB_4 := Lib.hid (HB_3.out.within (within_alloc w3 (.cells #[(.int .i64 p), (.slice A l.length cap), (.int .i64 k), (.int .i64 c), (.map (some b))] 104)) (by omega))
        have BX_4 := Lib.hid (BX_3.out.within (within_alloc w3 (.cells #[(.int .i64 p), (.slice A l.length cap), (.int .i64 k), (.int .i64 c), (.map (some b))] 104)) (by omega))
        have HZ_4 := Lib.hid (HZ_3.out.within (within_alloc w3 (.cells #[(.int .i64 p), (.slice A l.length cap), (.int .i64 k), (.int .i64 c), (.map (some b))] 104)) (by omega))
        have HRW_4 := Lib.hid (HRW_3.out.within (within_alloc w3 (.cells #[(.int .i64 p), (.slice A l.length cap), (.int .i64 k), (.int .i64 c), (.map (some b))] 104)) (by omega))
        have SM_4 := Lib.hid (SM_3.out.within (within_alloc w3 (.cells #[(.int .i64 p), (.slice A l.length cap), (.int .i64 k), (.int .i64 c), (.map (some b))] 104)) (by omega))
        have Y4 := Lib.hid (show (w3.alloc (.cells #[(.int .i64 p), (.slice A l.length cap), (.int .i64 k), (.int .i64 c), (.map (some b))] 104)).heap.size = w3.heap.size + 1 by simp)
        have hnew := cel5_new w3 (.int .i64 p) (.slice A l.length cap) (.int .i64 k) (.int .i64 c) (.map (some b)) 104
        have BB_4 := Lib.hid hnew
        clear hnew
        obtain ⟨x0, x1, x2, x3, x4⟩ := BB_4.out.cells
        go_wp2_with fail
        clear x0 x1 x2 x3 x4
        generalize (w3.alloc (.cells #[(.int .i64 p), (.slice A l.length cap), (.int .i64 k), (.int .i64 c), (.map (some b))] 104)) = w4 at *
        refine (mrank p k c l A cap b _ (allN l.length) _ HB_4.out.at SM_4.out hn hnz).mono ?_
        rintro e w5 ⟨rfl, hb⟩
        have Z5 := Lib.hid (within_of hb).size
        have W5 := Lib.hid (within_on W4.out (within_of hb) W4.out.size (.inr (Nat.le_refl _)))
        have HB_5 := Lib.hid (HB_4.out.within (within_of hb) (by omega))
        have BX_5 := Lib.hid (BX_4.out.within (within_of hb) (by omega))
        have HZ_5 := Lib.hid (HZ_4.out.within (within_of hb) (by omega))
        have HRW_5 := Lib.hid (HRW_4.out.within (within_of hb) (by omega))
        have SM_5 := Lib.hid (SM_4.out.within (within_of hb) (by omega))
        have BB_5 := Lib.hid (BB_4.out.within (within_of hb) (by omega))
        clear hb
        rw [HF.out.rank]
        have Z6 := Lib.hid (within_alloc w5 (.cells #[.int .i64 (rankV p k c l)] 3)).size
        have W6 := Lib.hid (within_on W5.out (within_alloc w5 (.cells #[.int .i64 (rankV p k c l)] 3)) W5.out.size (.inr (Nat.le_refl _)))
        have HB_6 := Lib.hid (HB_5.out.within (within_alloc w5 (.cells #[.int .i64 (rankV p k c l)] 3)) (by omega))
        have BX_6 := Lib.hid (BX_5.out.within (within_alloc w5 (.cells #[.int .i64 (rankV p k c l)] 3)) (by omega))
        have HZ_6 := Lib.hid (HZ_5.out.within (within_alloc w5 (.cells #[.int .i64 (rankV p k c l)] 3)) (by omega))
        have HRW_6 := Lib.hid (HRW_5.out.within (within_alloc w5 (.cells #[.int .i64 (rankV p k c l)] 3)) (by omega))
        have SM_6 := Lib.hid (SM_5.out.within (within_alloc w5 (.cells #[.int .i64 (rankV p k c l)] 3)) (by omega))
        have BB_6 := Lib.hid (BB_5.out.within (within_alloc w5 (.cells #[.int .i64 (rankV p k c l)] 3)) (by omega))
        have Y6 := Lib.hid (show (w5.alloc (.cells #[.int .i64 (rankV p k c l)] 3)).heap.size = w5.heap.size + 1 by simp)
        have hnw := heap_alloc_new w5 (.cells #[.int .i64 (rankV p k c l)] 3)
        have RB := Lib.hid hnw
        clear hnw
        go_wp2_with fail
        generalize (w5.alloc (.cells #[.int .i64 (rankV p k c l)] 3)) = w6 at *
        obtain ⟨rb, hrb⟩ : ∃ rb, w5.heap.size = rb := ⟨_, rfl⟩
        obtain ⟨sbx, hsb⟩ : ∃ sbx, w3.heap.size = sbx := ⟨_, rfl⟩
        rw [hrb] at RB ⊢
        have BBF := Lib.hid (show Cel5 w6 sbx 104 (.int .i64 p) (.slice A l.length cap) (.int .i64 k) (.int .i64 c) (.map (some b)) from by rw [← hsb]; exact BB_6.out)
        rw [hsb]
        have hsz : wr.heap.size ≤ b ∧ b < sbx ∧ sbx < rb := by
          have := HBG.out
          have := HBLT.out
          rw [← hsb, ← hrb]
          have := Z1.out
          have := Z2.out
          have := Z3.out
          have := Z4.out
          have := Z5.out
          have := Z6.out
          have := Y1.out
          have := Y4.out
          have := Y6.out
          refine ⟨by omega, by omega, by omega⟩
        have HSZ := Lib.hid hsz
        have HM := Lib.hid (show BrW p k c l A cap b sbx rb w.heap.size w6 (allN l.length).length from ⟨SM_6.out, HB_6.out, BBF.out, RB.out⟩)
        have hgn := HGN.out
        have hgw := HGW.out
        have h24 := HF.out.l24
        have hwle : w.heap.size ≤ w6.heap.size := W6.out.size
        refine (delF_c p k c l A cap b sbx rb w.heap.size _ g _ HM.out h24 ⟨by omega, by omega, hwle⟩ ⟨by omega, by omega⟩ ⟨by omega, by omega⟩ (by omega) (own_rebase (show World.ownsRow _ g _ _ _ _ _ from HRW_6.out) (Nat.zero_le _)) (by have := HLEN.out; omega)).mono ?_
        rintro e w99 ⟨rfl, hrow, hbel⟩
        have HRE := Lib.hid hrow
        have HBE := Lib.hid (W6.out.trans hbel)
        clear hrow hbel
        go_wp2_with fail
        go_ret
        rw [HF.out.val]
        exact ⟨some ⟨g, 0, none⟩, l.length, rfl, ⟨Nat.le_refl _, .inr ⟨g, rfl, by omega, (HRE.out.lt g rfl).2, own_rebase HRE.out (by omega)⟩⟩, HBE.out⟩
end Go.Proofs.Ytdnmmjaelgjkaaa
/- The law FnExactBridgesOf returns true at every input. No condition. -/
namespace Go.Proofs.Ytdnmmjaelgjkaaa
open Go.RowKit

set_option maxHeartbeats 2000000 in
set_option maxRecDepth 100000 in
theorem lawBridgesOf (q : Int) (A : Option Addr) (cap : Nat) (l : List (Int × Int)) (a1 : Int) (a2 : Int) (w : World) (hl : l.length ≤ maxLen) (hb : BarsAt w w.heap.size A l) (_w1 : (Lit.int .i64 a1).wf = true) (_w2 : (Lit.int .i64 a2).wf = true) :
    Calls Try.prog 10 #[.agg #[.int .i64 q, .slice A l.length cap], .int .i64 a1, .int .i64 a2] w fun e w' => e = .returned (.bool true) ∧ Below w.heap.size w w' := by
  have HB_0 := Lib.hid (bars_in hb)
  clear hb
  by_cases hn : l.length ≤ 1048576
  · have W0 := Lib.hid (Below.refl w.heap.size w)
    have hz : (briV q a1 a2 l).length ≤ 1048576 := (Nat.le_trans (briV_len q a1 a2 l) hn)
    have hal := new_below w (.cells #[.int .i64 q, .slice A l.length cap] 24)
    have Z1 := Lib.hid (within_of hal).size
    have W1 := Lib.hid (within_on W0.out (within_of hal) W0.out.size (.inr (Nat.le_refl _)))
    have HB_1 := Lib.hid (HB_0.out.within (within_of hal) (by omega))
    clear hal
    have hsz : (w.alloc (.cells #[.int .i64 q, .slice A l.length cap] 24)).heap.size = w.heap.size + 1 := by simp
    have Y1 := Lib.hid hsz
    clear hsz
    have BX_1 := Lib.hid (box_new w q (.slice A l.length cap) 24)
    go_enter Try.func10, Try.ntmps10
    go_wp2_with fail
    generalize (w.alloc (.cells #[.int .i64 q, .slice A l.length cap] 24)) = w1 at *
    refine (szGraph_c q A l.length cap 1048576 _ (by omega) (by omega)).mono ?_
    rintro e w2 ⟨rfl, hb⟩
    have Z2 := Lib.hid (within_of hb).size
    have W2 := Lib.hid (within_on W1.out (within_of hb) W1.out.size (.inr (Nat.le_refl _)))
    have HB_2 := Lib.hid (HB_1.out.within (within_of hb) (by omega))
    have BX_2 := Lib.hid (BX_1.out.within (within_of hb) (by omega))
    clear hb
    have hnn : ¬ (1048576 : Int) - (l.length : Int) < 0 := by omega
    obtain ⟨g01, g02, g03⟩ := BX_2.out
    go_wp2_with fail
    clear g01 g02 g03
    refine (toGraph_c q l A cap _ HB_2.out.at hn).mono ?_
    rintro e w3 ⟨g0, rfl, ho, hb⟩
    have Z3 := Lib.hid (within_of hb).size
    have W3 := Lib.hid (within_on W2.out (within_of hb) W2.out.size (.inr (Nat.le_refl _)))
    have HB_3 := Lib.hid (HB_2.out.within (within_of hb) (by omega))
    have BX_3 := Lib.hid (BX_2.out.within (within_of hb) (by omega))
    have SG_3 := Lib.hid ((own_in ho).bars)
    clear ho hb
    go_wp2_with fail
    refine (specBri q a1 a2 l (some ⟨g0, 0, none⟩) l.length _ SG_3.out.at hn ⟨_, rfl⟩ (Nat.le_refl _)).mono ?_
    rintro e w4 ⟨AS, cs, rfl, hs, hb⟩
    have Z4 := Lib.hid (within_of hb).size
    have W4 := Lib.hid (within_on W3.out (within_of hb) W3.out.size (.inr (Nat.le_refl _)))
    have HB_4 := Lib.hid (HB_3.out.within (within_of hb) (by omega))
    have BX_4 := Lib.hid (BX_3.out.within (within_of hb) (by omega))
    have SG_4 := Lib.hid (SG_3.out.within (within_of hb) (by omega))
    have SR_4 := Lib.hid (hs.reads)
    clear hs hb
    obtain ⟨g01, g02, g03⟩ := BX_4.out
    go_wp2_with fail
    clear g01 g02 g03
    refine (toGraph_c q l A cap _ HB_4.out.at hn).mono ?_
    rintro e w5 ⟨x0, rfl, ho, hb⟩
    have Z5 := Lib.hid (within_of hb).size
    have W5 := Lib.hid (within_on W4.out (within_of hb) W4.out.size (.inr (Nat.le_refl _)))
    have HB_5 := Lib.hid (HB_4.out.within (within_of hb) (by omega))
    have BX_5 := Lib.hid (BX_4.out.within (within_of hb) (by omega))
    have SG_5 := Lib.hid (SG_4.out.within (within_of hb) (by omega))
    have SR_5 := Lib.hid (SR_4.out.within (within_of hb) (by omega))
    have SX_5 := Lib.hid (own_in ho)
    clear ho hb
    go_wp2_with fail
    have hal := new_below w5 (.cells #[.int .i64 q, .slice (some ⟨x0, 0, none⟩) l.length l.length] 29)
    have Z6 := Lib.hid (within_of hal).size
    have W6 := Lib.hid (within_on W5.out (within_of hal) W5.out.size (.inr (Nat.le_refl _)))
    have HB_6 := Lib.hid (HB_5.out.within (within_of hal) (by omega))
    have BX_6 := Lib.hid (BX_5.out.within (within_of hal) (by omega))
    have SG_6 := Lib.hid (SG_5.out.within (within_of hal) (by omega))
    have SR_6 := Lib.hid (SR_5.out.within (within_of hal) (by omega))
    have SX_6 := Lib.hid (SX_5.out.within (within_of hal) (by omega))
    clear hal
    have hsz : (w5.alloc (.cells #[.int .i64 q, .slice (some ⟨x0, 0, none⟩) l.length l.length] 29)).heap.size = w5.heap.size + 1 := by simp
    have Y6 := Lib.hid hsz
    clear hsz
    have XX_6 := Lib.hid (box_new w5 q (.slice (some ⟨x0, 0, none⟩) l.length l.length) 29)
    generalize (w5.alloc (.cells #[.int .i64 q, .slice (some ⟨x0, 0, none⟩) l.length l.length] 29)) = w6 at *
    refine (implBri q a1 a2 l (some ⟨x0, 0, none⟩) l.length _ SX_6.out.bars.at hn).mono ?_
    rintro e w7 ⟨AG, cg, rfl, ho, hb⟩
    have Z7 := Lib.hid (within_of hb).size
    have W7 := Lib.hid (within_on W6.out (within_of hb) W6.out.size (.inr (Nat.le_refl _)))
    have HB_7 := Lib.hid (HB_6.out.within (within_of hb) (by omega))
    have BX_7 := Lib.hid (BX_6.out.within (within_of hb) (by omega))
    have SG_7 := Lib.hid (SG_6.out.within (within_of hb) (by omega))
    have SR_7 := Lib.hid (SR_6.out.within (within_of hb) (by omega))
    have SX_7 := Lib.hid (SX_6.out.within (within_of hb) (by omega))
    have XX_7 := Lib.hid (XX_6.out.within (within_of hb) (by omega))
    have SO_7 := Lib.hid (ho)
    clear ho hb
    go_wp2_with fail
    refine (eqInts_c (briV q a1 a2 l) AG AS cg cs _ _ _ _ _ SO_7.out.reads SR_7.out hz).mono ?_
    rintro e w8 ⟨rfl, hb⟩
    have Z8 := Lib.hid (within_of hb).size
    have W8 := Lib.hid (within_on W7.out (within_of hb) W7.out.size (.inr (Nat.le_refl _)))
    have HB_8 := Lib.hid (HB_7.out.within (within_of hb) (by omega))
    have BX_8 := Lib.hid (BX_7.out.within (within_of hb) (by omega))
    have SG_8 := Lib.hid (SG_7.out.within (within_of hb) (by omega))
    have SR_8 := Lib.hid (SR_7.out.within (within_of hb) (by omega))
    have SX_8 := Lib.hid (SX_7.out.within (within_of hb) (by omega))
    have XX_8 := Lib.hid (XX_7.out.within (within_of hb) (by omega))
    have SO_8 := Lib.hid (SO_7.out.within (within_of hb) (by omega))
    clear hb
    have kk0 := box2 BX_8.out XX_8.out
    have kk := box2 BX_8.out XX_8.out
    have hdr : Below w8.heap.size w8 w8.drew := (Below.refl _ _).drew
    have Z9 := Lib.hid (within_of hdr).size
    have W9 := Lib.hid (within_on W8.out (within_of hdr) W8.out.size (.inr (Nat.le_refl _)))
    have HB_9 := Lib.hid (HB_8.out.within (within_of hdr) (by omega))
    have BX_9 := Lib.hid (BX_8.out.within (within_of hdr) (by omega))
    have SG_9 := Lib.hid (SG_8.out.within (within_of hdr) (by omega))
    have SR_9 := Lib.hid (SR_8.out.within (within_of hdr) (by omega))
    have SX_9 := Lib.hid (SX_8.out.within (within_of hdr) (by omega))
    have XX_9 := Lib.hid (XX_8.out.within (within_of hdr) (by omega))
    have SO_9 := Lib.hid (SO_8.out.within (within_of hdr) (by omega))
    clear hdr
    go_wp2_with fail
    go_region_held3 (fun W' => W'.cell? ⟨w.heap.size, 0, none⟩ = some (.int .i64 q) ∧ W'.cell? ⟨w.heap.size, 1, none⟩ = some ((.slice A l.length cap)) ∧ W'.cell? ⟨w5.heap.size, 0, none⟩ = some (.int .i64 q) ∧ W'.cell? ⟨w5.heap.size, 1, none⟩ = some ((.slice (some ⟨x0, 0, none⟩) l.length l.length)))
      (first | exact kk | exact box2 BX_10.out XX_10.out | exact box2 BX_11.out XX_11.out | fail)
      (first
        | (go_at_call 15; refine (toGraph_c q l A cap _ ?_ hn).mono ?_; (exact HB_9.out.at); rintro e w10 ⟨y0, rfl, ho, hb⟩; have Z10 := Lib.hid (within_of hb).size; have W10 := Lib.hid (within_on W9.out (within_of hb) W9.out.size (.inr (Nat.le_refl _))); have HB_10 := Lib.hid (HB_9.out.within (within_of hb) (by omega)); have BX_10 := Lib.hid (BX_9.out.within (within_of hb) (by omega)); have SG_10 := Lib.hid (SG_9.out.within (within_of hb) (by omega)); have SR_10 := Lib.hid (SR_9.out.within (within_of hb) (by omega)); have SX_10 := Lib.hid (SX_9.out.within (within_of hb) (by omega)); have XX_10 := Lib.hid (XX_9.out.within (within_of hb) (by omega)); have SO_10 := Lib.hid (SO_9.out.within (within_of hb) (by omega)); have YY := Lib.hid (own_bars ho); clear ho hb)
        | (go_at_call 17; refine (eqGraph_c q l _ _ l.length l.length _ ?_ ?_ hn).mono ?_; (exact SX_10.out.bars.at); (exact YY.out); rintro e w11 ⟨rfl, hb⟩; have Z11 := Lib.hid (within_of hb).size; have W11 := Lib.hid (within_on W10.out (within_of hb) W10.out.size (.inr (Nat.le_refl _))); have HB_11 := Lib.hid (HB_10.out.within (within_of hb) (by omega)); have BX_11 := Lib.hid (BX_10.out.within (within_of hb) (by omega)); have SG_11 := Lib.hid (SG_10.out.within (within_of hb) (by omega)); have SR_11 := Lib.hid (SR_10.out.within (within_of hb) (by omega)); have SX_11 := Lib.hid (SX_10.out.within (within_of hb) (by omega)); have XX_11 := Lib.hid (XX_10.out.within (within_of hb) (by omega)); have SO_11 := Lib.hid (SO_10.out.within (within_of hb) (by omega)); clear hb))
    obtain ⟨g01, g02, g03⟩ := XX_11.out
    go_wp2_with fail
    clear g01 g02 g03
    refine (markGraph_o q (some ⟨x0, 0, none⟩) l.length l 1 w4.heap.size w5.heap.size _ SX_11.out hn (by omega) (by omega)).mono ?_
    rintro e w12 ⟨rfl, hin, hox⟩
    have Z12 := Lib.hid (hin).size
    have W12 := Lib.hid (within_on W11.out (hin) W11.out.size (by have := W11.out.size; have := Z1.out; have := Z2.out; have := Z3.out; have := Z4.out; have := Z5.out; have := Z6.out; have := Z7.out; have := Z8.out; have := Z9.out; have := Z10.out; have := Z11.out; have := Z12.out; have := Y1.out; have := Y6.out; omega))
    have HB_12 := Lib.hid (HB_11.out.within (hin) (by have := Z1.out; have := Z2.out; have := Z3.out; have := Z4.out; have := Z5.out; have := Z6.out; have := Z7.out; have := Z8.out; have := Z9.out; have := Z10.out; have := Z11.out; have := Z12.out; have := Y1.out; have := Y6.out; omega))
    have BX_12 := Lib.hid (BX_11.out.within (hin) (by have := Z1.out; have := Z2.out; have := Z3.out; have := Z4.out; have := Z5.out; have := Z6.out; have := Z7.out; have := Z8.out; have := Z9.out; have := Z10.out; have := Z11.out; have := Z12.out; have := Y1.out; have := Y6.out; omega))
    have SG_12 := Lib.hid (SG_11.out.within (hin) (by have := Z1.out; have := Z2.out; have := Z3.out; have := Z4.out; have := Z5.out; have := Z6.out; have := Z7.out; have := Z8.out; have := Z9.out; have := Z10.out; have := Z11.out; have := Z12.out; have := Y1.out; have := Y6.out; omega))
    have SR_12 := Lib.hid (SR_11.out.within (hin) (by have := Z1.out; have := Z2.out; have := Z3.out; have := Z4.out; have := Z5.out; have := Z6.out; have := Z7.out; have := Z8.out; have := Z9.out; have := Z10.out; have := Z11.out; have := Z12.out; have := Y1.out; have := Y6.out; omega))
    have XX_12 := Lib.hid (XX_11.out.within (hin) (by have := Z1.out; have := Z2.out; have := Z3.out; have := Z4.out; have := Z5.out; have := Z6.out; have := Z7.out; have := Z8.out; have := Z9.out; have := Z10.out; have := Z11.out; have := Z12.out; have := Y1.out; have := Y6.out; omega))
    have SO_12 := Lib.hid (SO_11.out.within (hin) (by have := Z1.out; have := Z2.out; have := Z3.out; have := Z4.out; have := Z5.out; have := Z6.out; have := Z7.out; have := Z8.out; have := Z9.out; have := Z10.out; have := Z11.out; have := Z12.out; have := Y1.out; have := Y6.out; omega))
    clear hox hin
    have hk1 : ¬ (1 : Int) + 2 * (l.length : Int) < 0 := by omega
    go_wp2_with fail
    refine (eqInts_c (briV q a1 a2 l) AG AS cg cs _ _ _ _ _ SO_12.out.reads SR_12.out hz).mono ?_
    rintro e w13 ⟨rfl, hb⟩
    have Z13 := Lib.hid (within_of hb).size
    have W13 := Lib.hid (within_on W12.out (within_of hb) W12.out.size (.inr (Nat.le_refl _)))
    have HB_13 := Lib.hid (HB_12.out.within (within_of hb) (by omega))
    have BX_13 := Lib.hid (BX_12.out.within (within_of hb) (by omega))
    have SG_13 := Lib.hid (SG_12.out.within (within_of hb) (by omega))
    have SR_13 := Lib.hid (SR_12.out.within (within_of hb) (by omega))
    have XX_13 := Lib.hid (XX_12.out.within (within_of hb) (by omega))
    have SO_13 := Lib.hid (SO_12.out.within (within_of hb) (by omega))
    clear hb
    go_wp2_with fail
    refine (markInts_o AG cg (briV q a1 a2 l) 1 w6.heap.size w7.heap.size _ SO_13.out hz (by omega) (by omega)).mono ?_
    rintro e w14 ⟨rfl, hin, hog⟩
    have Z14 := Lib.hid (hin).size
    have W14 := Lib.hid (within_on W13.out (hin) W13.out.size (by have := W13.out.size; have := Z1.out; have := Z2.out; have := Z3.out; have := Z4.out; have := Z5.out; have := Z6.out; have := Z7.out; have := Z8.out; have := Z9.out; have := Z10.out; have := Z11.out; have := Z12.out; have := Z13.out; have := Z14.out; have := Y1.out; have := Y6.out; omega))
    have HB_14 := Lib.hid (HB_13.out.within (hin) (by have := Z1.out; have := Z2.out; have := Z3.out; have := Z4.out; have := Z5.out; have := Z6.out; have := Z7.out; have := Z8.out; have := Z9.out; have := Z10.out; have := Z11.out; have := Z12.out; have := Z13.out; have := Z14.out; have := Y1.out; have := Y6.out; omega))
    have BX_14 := Lib.hid (BX_13.out.within (hin) (by have := Z1.out; have := Z2.out; have := Z3.out; have := Z4.out; have := Z5.out; have := Z6.out; have := Z7.out; have := Z8.out; have := Z9.out; have := Z10.out; have := Z11.out; have := Z12.out; have := Z13.out; have := Z14.out; have := Y1.out; have := Y6.out; omega))
    have SG_14 := Lib.hid (SG_13.out.within (hin) (by have := Z1.out; have := Z2.out; have := Z3.out; have := Z4.out; have := Z5.out; have := Z6.out; have := Z7.out; have := Z8.out; have := Z9.out; have := Z10.out; have := Z11.out; have := Z12.out; have := Z13.out; have := Z14.out; have := Y1.out; have := Y6.out; omega))
    have SR_14 := Lib.hid (SR_13.out.within (hin) (by have := Z1.out; have := Z2.out; have := Z3.out; have := Z4.out; have := Z5.out; have := Z6.out; have := Z7.out; have := Z8.out; have := Z9.out; have := Z10.out; have := Z11.out; have := Z12.out; have := Z13.out; have := Z14.out; have := Y1.out; have := Y6.out; omega))
    have XX_14 := Lib.hid (XX_13.out.within (hin) (by have := Z1.out; have := Z2.out; have := Z3.out; have := Z4.out; have := Z5.out; have := Z6.out; have := Z7.out; have := Z8.out; have := Z9.out; have := Z10.out; have := Z11.out; have := Z12.out; have := Z13.out; have := Z14.out; have := Y1.out; have := Y6.out; omega))
    have SM_14 := Lib.hid (hog)
    clear hog hin
    have hk2 : ¬ (1 : Int) + ((briV q a1 a2 l).length : Int) < 0 := by omega
    go_wp2_with fail
    refine (heldInts_c (briV q a1 a2 l).length AG cg 1 _ _ _ SM_14.out.reads hz (by omega) (by omega)).mono ?_
    rintro e w15 ⟨rfl, hb⟩
    have Z15 := Lib.hid (within_of hb).size
    have W15 := Lib.hid (within_on W14.out (within_of hb) W14.out.size (.inr (Nat.le_refl _)))
    have HB_15 := Lib.hid (HB_14.out.within (within_of hb) (by omega))
    have BX_15 := Lib.hid (BX_14.out.within (within_of hb) (by omega))
    have SG_15 := Lib.hid (SG_14.out.within (within_of hb) (by omega))
    have SR_15 := Lib.hid (SR_14.out.within (within_of hb) (by omega))
    have XX_15 := Lib.hid (XX_14.out.within (within_of hb) (by omega))
    have SM_15 := Lib.hid (SM_14.out.within (within_of hb) (by omega))
    clear hb
    obtain ⟨g01, g02, g03⟩ := BX_15.out
    go_wp2_with fail
    clear g01 g02 g03
    refine (toGraph_c q l A cap _ HB_15.out.at hn).mono ?_
    rintro e w16 ⟨z0, rfl, ho, hb⟩
    have Z16 := Lib.hid (within_of hb).size
    have W16 := Lib.hid (within_on W15.out (within_of hb) W15.out.size (.inr (Nat.le_refl _)))
    have HB_16 := Lib.hid (HB_15.out.within (within_of hb) (by omega))
    have BX_16 := Lib.hid (BX_15.out.within (within_of hb) (by omega))
    have SG_16 := Lib.hid (SG_15.out.within (within_of hb) (by omega))
    have SR_16 := Lib.hid (SR_15.out.within (within_of hb) (by omega))
    have XX_16 := Lib.hid (XX_15.out.within (within_of hb) (by omega))
    have SM_16 := Lib.hid (SM_15.out.within (within_of hb) (by omega))
    have ST_16 := Lib.hid ((own_in ho).bars)
    clear ho hb
    go_wp2_with fail
    refine (implBri q a1 a2 l (some ⟨z0, 0, none⟩) l.length _ ST_16.out.at hn).mono ?_
    rintro e w17 ⟨AH, ch, rfl, ho, hb⟩
    have Z17 := Lib.hid (within_of hb).size
    have W17 := Lib.hid (within_on W16.out (within_of hb) W16.out.size (.inr (Nat.le_refl _)))
    have HB_17 := Lib.hid (HB_16.out.within (within_of hb) (by omega))
    have BX_17 := Lib.hid (BX_16.out.within (within_of hb) (by omega))
    have SG_17 := Lib.hid (SG_16.out.within (within_of hb) (by omega))
    have SR_17 := Lib.hid (SR_16.out.within (within_of hb) (by omega))
    have XX_17 := Lib.hid (XX_16.out.within (within_of hb) (by omega))
    have SM_17 := Lib.hid (SM_16.out.within (within_of hb) (by omega))
    have ST_17 := Lib.hid (ST_16.out.within (within_of hb) (by omega))
    have SH_17 := Lib.hid (ho.reads)
    clear ho hb
    go_wp2_with fail
    refine (eqInts_c (briV q a1 a2 l) AH AS ch cs _ _ _ _ _ SH_17.out SR_17.out hz).mono ?_
    rintro e w18 ⟨rfl, hb⟩
    have Z18 := Lib.hid (within_of hb).size
    have W18 := Lib.hid (within_on W17.out (within_of hb) W17.out.size (.inr (Nat.le_refl _)))
    have HB_18 := Lib.hid (HB_17.out.within (within_of hb) (by omega))
    have BX_18 := Lib.hid (BX_17.out.within (within_of hb) (by omega))
    have SG_18 := Lib.hid (SG_17.out.within (within_of hb) (by omega))
    have SR_18 := Lib.hid (SR_17.out.within (within_of hb) (by omega))
    have XX_18 := Lib.hid (XX_17.out.within (within_of hb) (by omega))
    have SM_18 := Lib.hid (SM_17.out.within (within_of hb) (by omega))
    have ST_18 := Lib.hid (ST_17.out.within (within_of hb) (by omega))
    have SH_18 := Lib.hid (SH_17.out.within (within_of hb) (by omega))
    clear hb
    go_wp2_with fail
    refine (heldInts_c (briV q a1 a2 l).length AG cg 1 _ _ _ SM_18.out.reads hz (by omega) (by omega)).mono ?_
    rintro e w19 ⟨rfl, hb⟩
    have Z19 := Lib.hid (within_of hb).size
    have W19 := Lib.hid (within_on W18.out (within_of hb) W18.out.size (.inr (Nat.le_refl _)))
    have HB_19 := Lib.hid (HB_18.out.within (within_of hb) (by omega))
    have BX_19 := Lib.hid (BX_18.out.within (within_of hb) (by omega))
    have SG_19 := Lib.hid (SG_18.out.within (within_of hb) (by omega))
    have SR_19 := Lib.hid (SR_18.out.within (within_of hb) (by omega))
    have XX_19 := Lib.hid (XX_18.out.within (within_of hb) (by omega))
    have SM_19 := Lib.hid (SM_18.out.within (within_of hb) (by omega))
    have ST_19 := Lib.hid (ST_18.out.within (within_of hb) (by omega))
    have SH_19 := Lib.hid (SH_18.out.within (within_of hb) (by omega))
    clear hb
    go_wp2_with fail
    go_ret
    exact ⟨rfl, W19.out⟩
  · have hx : (1048576 : Int) < (l.length : Int) := by omega
    have h63 : l.length ≤ 9223372036854775807 := by unfold maxLen at hl; omega
    have HA := Lib.hid (new_below w (.cells #[.int .i64 q, .slice A l.length cap] 24))
    go_enter Try.func10, Try.ntmps10
    go_wp2_with fail
    refine (szGraph_no q A l.length cap 1048576 _ h63 hx (by omega)).mono ?_
    rintro e w1 ⟨rfl, hb1⟩
    have W1 := Lib.hid (below_on HA.out hb1 HA.out.size)
    clear hb1
    go_wp2_with fail
    go_ret
    exact ⟨rfl, W1.out⟩
end Go.Proofs.Ytdnmmjaelgjkaaa
