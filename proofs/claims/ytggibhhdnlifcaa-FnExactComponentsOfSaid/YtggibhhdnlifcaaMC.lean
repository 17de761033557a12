/- Several texts in one, in the order in which they build on each other: what stands on the way to the law; each names its own matter. No condition. -/
import Derived.Test.YtggibhhdnlifcaaSetM
import Derived.Test.YtggibhhdnlifcaaRowAt
import Derived.Test.YtggibhhdnlifcaaGMath
import Derived.Test.YtggibhhdnlifcaaHas
import Derived.Deep.AppendLies
import Derived.Deep.RegionLaw
import Derived.Test.YtggibhhdnlifcaaPebT
import Derived.Test.YtggibhhdnlifcaaPebN
import Derived.Test.YtggibhhdnlifcaaRng
import Derived.Test.YtggibhhdnlifcaaNewPI
import Derived.Test.YtggibhhdnlifcaaOwnF
import Derived.Test.YtggibhhdnlifcaaPlaM
import Derived.Test.YtggibhhdnlifcaaGathS
import Derived.Maps.AppendAt
import Derived.Test.YtggibhhdnlifcaaGath5
import Derived.Test.YtggibhhdnlifcaaNewPS
import Derived.StillTailTactics
import Derived.OrdersHeld
import Derived.Deep.RegionHeld3
import Derived.Test.YtggibhhdnlifcaaIsGraphI
import Derived.Deep.RegionWith
import Derived.Lib.SliceRun
import Derived.Test.YtggibhhdnlifcaaCpR
import Derived.Test.YtggibhhdnlifcaaIntsO
import Derived.Test.YtggibhhdnlifcaaInts
import Derived.Test.YtggibhhdnlifcaaBox
/- Sets of bars that the counts allow: no such set is greater than one that leaves no other bar free (the exchange of one bar for another, by sets of points that are full). Words on numbers and lists, of no program. No condition. -/
namespace Go.Proofs.Ytggibhhdnlifcaa

/-- How many points the set m has below P. -/
def wid (P m : Nat) : Nat := (List.range P).countP fun v => m.testBit v
theorem wid_set (P m : Nat) : (setL P m).length = wid P m := outF_count P _
/-- How many bars of S the set m spans. -/
def cI (n : Nat) (x : Nat → Int × Int) (S : Nat → Bool) (m : Nat) : Nat := (List.range n).countP fun i => S i && bothB m (x i)
def szI (n : Nat) (S : Nat → Bool) : Nat := (List.range n).countP S
theorem cntR_add (p q r s : Nat → Bool) : ∀ n, (∀ i, i < n → (if p i then 1 else 0) + (if q i then 1 else 0) = (if r i then 1 else 0) + if s i then 1 else (0 : Nat)) →
    (List.range n).countP p + (List.range n).countP q = (List.range n).countP r + (List.range n).countP s := by
  intro n
  induction n with
  | zero => intro _; rfl
  | succ n ih =>
    intro h
    have h1 := ih fun i hi => h i (by omega)
    have h2 := h n (by omega)
    simp only [List.range_succ, List.countP_append, List.countP_cons, List.countP_nil]
    omega
theorem cntR_le (p q r s : Nat → Bool) : ∀ n, (∀ i, i < n → (if p i then 1 else 0) + (if q i then 1 else 0) ≤ (if r i then 1 else 0) + if s i then 1 else (0 : Nat)) →
    (List.range n).countP p + (List.range n).countP q ≤ (List.range n).countP r + (List.range n).countP s := by
  intro n
  induction n with
  | zero => intro _; exact Nat.le_refl _
  | succ n ih =>
    intro h
    have h1 := ih fun i hi => h i (by omega)
    have h2 := h n (by omega)
    simp only [List.range_succ, List.countP_append, List.countP_cons, List.countP_nil]
    omega
theorem cntR_one (i : Nat) : ∀ n, (List.range n).countP (fun j => decide (j = i)) = if i < n then 1 else 0 := by
  intro n
  induction n with
  | zero => simp
  | succ n ih =>
    rw [List.range_succ, List.countP_append, ih, List.countP_cons, List.countP_nil]
    by_cases h1 : n = i
    · subst h1; simp
    · by_cases h2 : i < n
      · have h3 : i < n + 1 := by omega
        simp [h1, h2, h3]
      · have h3 : ¬ i < n + 1 := by omega
        simp [h1, h2, h3]
theorem cntR_zero (n : Nat) : (List.range n).countP (fun _ => false) = 0 := by simp
theorem wid_or_and (P m m' : Nat) : wid P (m ||| m') + wid P (m &&& m') = wid P m + wid P m' := by
  unfold wid
  refine cntR_add _ _ _ _ P fun i _ => ?_
  rw [Nat.testBit_or, Nat.testBit_and]
  cases m.testBit i <;> cases m'.testBit i <;> rfl
theorem cI_or_and (n : Nat) (x : Nat → Int × Int) (S : Nat → Bool) (m m' : Nat) : cI n x S m + cI n x S m' ≤ cI n x S (m ||| m') + cI n x S (m &&& m') := by
  unfold cI
  refine cntR_le _ _ _ _ n fun i _ => ?_
  unfold bothB
  simp only [Nat.testBit_or, Nat.testBit_and]
  cases S i <;> cases m.testBit (x i).1.toNat <;> cases m'.testBit (x i).1.toNat <;> cases m.testBit (x i).2.toNat <;> cases m'.testBit (x i).2.toNat <;> decide
/-- Two points at least. -/
theorem wid_two {P m a b : Nat} (ha : a < P) (hb : b < P) (hab : a ≠ b) (h1 : m.testBit a = true) (h2 : m.testBit b = true) : 2 ≤ wid P m := by
  have h := cntR_le (fun j => decide (j = a)) (fun j => decide (j = b)) (fun v => m.testBit v) (fun _ => false) P fun i _ => by
    by_cases c1 : i = a
    · subst c1; simp [h1, hab]
    · by_cases c2 : i = b
      · subst c2; simp [h2, c1]
      · simp [c1, c2]
  rw [cntR_one, cntR_one, if_pos ha, if_pos hb, cntR_zero] at h
  exact h
/-- A set within another that has as many points is the same. -/
theorem wid_and_same {P m M : Nat} (h : wid P M ≤ wid P (m &&& M)) {v : Nat} (hv : v < P) (hm : M.testBit v = true) : m.testBit v = true := by
  cases e : m.testBit v with
  | true => rfl
  | false =>
    have h1 := cntR_le (fun j => decide (j = v)) (fun j => (m &&& M).testBit j) (fun v => M.testBit v) (fun _ => false) P fun i _ => by
      by_cases c1 : i = v
      · subst c1; simp [hm, e]
      · simp only [c1, Nat.testBit_and]
        cases m.testBit i <;> cases M.testBit i <;> decide
    rw [cntR_one, if_pos hv, cntR_zero] at h1
    unfold wid at h
    omega
/-- The bars of the ground. -/
structure Grd (P : Nat) (k c : Int) (n : Nat) (x : Nat → Int × Int) : Prop where
  bar : ∀ i, i < n → 0 ≤ (x i).1 ∧ (x i).1 < (x i).2 ∧ (x i).2 < (P : Int)
  k1 : 1 ≤ k
  c0 : 0 ≤ c
  c2 : c < 2 * k
def IndI (P : Nat) (k c : Int) (n : Nat) (x : Nat → Int × Int) (S : Nat → Bool) : Prop := ∀ m, 0 < cI n x S m → (cI n x S m : Int) ≤ k * (wid P m : Int) - c
def TightI (P : Nat) (k c : Int) (n : Nat) (x : Nat → Int × Int) (S : Nat → Bool) (m : Nat) : Prop := (cI n x S m : Int) = k * (wid P m : Int) - c
theorem kw_pos {k c : Int} {w : Nat} (hk : 1 ≤ k) (hc : c < 2 * k) (h : 2 ≤ w) : 0 < k * (w : Int) - c := by
  have : 2 * k ≤ k * (w : Int) := by
    rw [Int.mul_comm 2 k]
    exact Int.mul_le_mul_of_nonneg_left (by omega) (by omega)
  omega
theorem Grd.two {P : Nat} {k c : Int} {n : Nat} {x : Nat → Int × Int} (g : Grd P k c n x) {i : Nat} (hi : i < n) {m : Nat} (h : bothB m (x i) = true) : 2 ≤ wid P m := by
  have hb := g.bar i hi
  unfold bothB at h
  rw [Bool.and_eq_true] at h
  exact wid_two (a := (x i).1.toNat) (b := (x i).2.toNat) (by omega) (by omega) (by omega) h.1 h.2
theorem both_and {m m' : Nat} {y : Int × Int} (h : bothB m y = true) (h' : bothB m' y = true) : bothB (m &&& m') y = true := by
  unfold bothB at *
  rw [Bool.and_eq_true] at *
  rw [Nat.testBit_and, Nat.testBit_and, h.1, h.2, h'.1, h'.2]
  exact ⟨rfl, rfl⟩
theorem both_or {m m' : Nat} {y : Int × Int} (h : bothB m y = true) : bothB (m ||| m') y = true := by
  unfold bothB at *
  rw [Bool.and_eq_true] at *
  rw [Nat.testBit_or, Nat.testBit_or, h.1, h.2]
  exact ⟨rfl, rfl⟩
theorem both_or' {m m' : Nat} {y : Int × Int} (h : bothB m' y = true) : bothB (m ||| m') y = true := by
  rw [Nat.or_comm]
  exact both_or h
theorem uncross {P : Nat} {k c : Int} {n : Nat} {x : Nat → Int × Int} (g : Grd P k c n x) {S : Nat → Bool} (hS : IndI P k c n x S) {m m' : Nat} (h : TightI P k c n x S m) (h' : TightI P k c n x S m') {i : Nat} (hi : i < n) (b : bothB m (x i) = true) (b' : bothB m' (x i) = true) :
    TightI P k c n x S (m ||| m') ∧ TightI P k c n x S (m &&& m') := by
  have h1 := cI_or_and n x S m m'
  have h2 := wid_or_and P m m'
  have q1 := kw_pos g.k1 g.c2 (g.two hi (both_or b (m' := m')))
  have q2 := kw_pos g.k1 g.c2 (g.two hi (both_and b b'))
  have i1 := hS (m ||| m')
  have i2 := hS (m &&& m')
  unfold TightI at *
  have h3 : k * (wid P (m ||| m') : Int) + k * (wid P (m &&& m') : Int) = k * (wid P m : Int) + k * (wid P m' : Int) := by
    rw [← Int.mul_add, ← Int.mul_add]
    congr 1
    omega
  generalize k * (wid P (m ||| m') : Int) = u1 at *
  generalize k * (wid P (m &&& m') : Int) = u2 at *
  generalize k * (wid P m : Int) = u3 at *
  generalize k * (wid P m' : Int) = u4 at *
  have j1 : (cI n x S (m ||| m') : Int) ≤ u1 - c := by
    by_cases z : 0 < cI n x S (m ||| m')
    · exact i1 z
    · omega
  have j2 : (cI n x S (m &&& m') : Int) ≤ u2 - c := by
    by_cases z : 0 < cI n x S (m &&& m')
    · exact i2 z
    · omega
  omega
/-- A bar that can't be had beside I: it is there, or a tight set holds both its ends. -/
def BlockI (P : Nat) (k c : Int) (n : Nat) (x : Nat → Int × Int) (I : Nat → Bool) (j : Nat) : Prop := I j = true ∨ ∃ m, TightI P k c n x I m ∧ bothB m (x j) = true
theorem least_tight {P : Nat} {k c : Int} {n : Nat} {x : Nat → Int × Int} {I : Nat → Bool} {j : Nat} : ∀ d m, wid P m ≤ d → TightI P k c n x I m → bothB m (x j) = true →
    ∃ M, TightI P k c n x I M ∧ bothB M (x j) = true ∧ ∀ m', TightI P k c n x I m' → bothB m' (x j) = true → wid P M ≤ wid P m' := by
  intro d
  induction d with
  | zero => intro m hd h b; exact ⟨m, h, b, fun m' _ _ => by omega⟩
  | succ d ih =>
    intro m hd h b
    by_cases z : ∃ m', TightI P k c n x I m' ∧ bothB m' (x j) = true ∧ wid P m' ≤ d
    · obtain ⟨m', h', b', w'⟩ := z
      exact ih m' w' h' b'
    · refine ⟨m, h, b, fun m' h' b' => Classical.byContradiction fun e => z ⟨m', h', b', by omega⟩⟩
/-- One bar for another. -/
def swapI (I : Nat → Bool) (y j : Nat) (i : Nat) : Bool := if i = y then false else if i = j then true else I i
theorem cI_swap {n : Nat} {x : Nat → Int × Int} {I : Nat → Bool} {y j : Nat} (hy : y < n) (hj : j < n) (Iy : I y = true) (Ij : I j = false) (m : Nat) :
    cI n x (swapI I y j) m + (if bothB m (x y) then 1 else 0) = cI n x I m + if bothB m (x j) then 1 else 0 := by
  have hyj : y ≠ j := fun e => by rw [e, Ij] at Iy; cases Iy
  have h := cntR_add (fun i => swapI I y j i && bothB m (x i)) (fun i => decide (i = y) && bothB m (x i)) (fun i => I i && bothB m (x i)) (fun i => decide (i = j) && bothB m (x i)) n fun i _ => by
    unfold swapI
    by_cases c1 : i = y
    · subst c1; simp [Iy, hyj]
    · by_cases c2 : i = j
      · subst c2; simp [Ij, c1]
      · simp [c1, c2]
  have one : ∀ u, u < n → (List.range n).countP (fun i => decide (i = u) && bothB m (x i)) = if bothB m (x u) then 1 else 0 := fun u hu => by
    cases e : bothB m (x u) with
    | true =>
      rw [if_pos rfl]
      refine Eq.trans (List.countP_congr fun i _ => ?_) (Eq.trans (cntR_one u n) (if_pos hu))
      by_cases c1 : i = u
      · subst c1; simp [e]
      · simp [c1]
    | false =>
      rw [if_neg (by simp)]
      refine Eq.trans (List.countP_congr fun i _ => ?_) (cntR_zero n)
      by_cases c1 : i = u
      · subst c1; simp [e]
      · simp [c1]
  rw [one y hy, one j hj] at h
  exact h
theorem szI_swap {n : Nat} {I : Nat → Bool} {y j : Nat} (hy : y < n) (hj : j < n) (Iy : I y = true) (Ij : I j = false) : szI n (swapI I y j) = szI n I := by
  have hyj : y ≠ j := fun e => by rw [e, Ij] at Iy; cases Iy
  have h := cntR_add (fun i => swapI I y j i) (fun i => decide (i = y)) (fun i => I i) (fun i => decide (i = j)) n fun i _ => by
    unfold swapI
    by_cases c1 : i = y
    · subst c1; simp [Iy, hyj]
    · by_cases c2 : i = j
      · subst c2; simp [Ij, c1]
      · simp [c1, c2]
  rw [cntR_one, cntR_one, if_pos hy, if_pos hj] at h
  exact Nat.add_right_cancel h
theorem rest_swap {n : Nat} {I J : Nat → Bool} {y j : Nat} (hj : j < n) (Jy : J y = false) (Jj : J j = true) (Ij : I j = false) :
    (List.range n).countP (fun i => J i && !swapI I y j i) + 1 = (List.range n).countP (fun i => J i && !I i) := by
  have h := cntR_add (fun i => J i && !swapI I y j i) (fun i => decide (i = j)) (fun i => J i && !I i) (fun _ => false) n fun i _ => by
    unfold swapI
    by_cases c1 : i = y
    · subst c1
      have : i ≠ j := fun e => by rw [e, Jj] at Jy; cases Jy
      simp [Jy, this]
    · by_cases c2 : i = j
      · subst c2; simp [Ij, Jj, c1]
      · simp [c1, c2]
  rw [cntR_one, if_pos hj, cntR_zero] at h
  exact h
/-- No independent set of bars is greater than one that blocks all its bars. -/
theorem block_le {P : Nat} {k c : Int} {n : Nat} {x : Nat → Int × Int} (g : Grd P k c n x) {J : Nat → Bool} (hJ : IndI P k c n x J) : ∀ d (I : Nat → Bool), (List.range n).countP (fun i => J i && !I i) = d → IndI P k c n x I →
    (∀ j, j < n → J j = true → BlockI P k c n x I j) → szI n J ≤ szI n I := by
  intro d
  induction d with
  | zero =>
    intro I hd _ _
    unfold szI
    refine List.countP_mono_left fun i hi hJi => ?_
    rw [List.countP_eq_zero] at hd
    have := hd i hi
    rw [hJi] at this
    simpa using this
  | succ d ih =>
    intro I hd hI hb
    have hpos : 0 < (List.range n).countP (fun i => J i && !I i) := by omega
    obtain ⟨j, hj, hJI⟩ := List.countP_pos_iff.1 hpos
    have hj := List.mem_range.1 hj
    rw [Bool.and_eq_true] at hJI
    obtain ⟨Jj, Ij⟩ := hJI
    have Ij : I j = false := by simpa using Ij
    have hbj : ∃ m, TightI P k c n x I m ∧ bothB m (x j) = true := by
      rcases hb j hj Jj with h | h
      · rw [Ij] at h; cases h
      · exact h
    obtain ⟨m0, t0, b0⟩ := hbj
    obtain ⟨M, tM, bM, minM⟩ := least_tight (wid P m0) m0 (Nat.le_refl _) t0 b0
    have hy : ∃ y, y < n ∧ I y = true ∧ bothB M (x y) = true ∧ J y = false := by
      refine Classical.byContradiction fun hno => ?_
      have hle := cntR_le (fun i => I i && bothB M (x i)) (fun i => decide (i = j)) (fun i => J i && bothB M (x i)) (fun _ => false) n fun i hi => by
        by_cases c1 : i = j
        · subst c1; simp [Ij, Jj, bM]
        · cases e1 : I i with
          | false => simp [c1]
          | true =>
            cases e2 : bothB M (x i) with
            | false => simp [c1]
            | true =>
              cases e3 : J i with
              | false => exact absurd ⟨i, hi, e1, e2, e3⟩ hno
              | true => simp [c1]
      rw [cntR_one, if_pos hj, cntR_zero] at hle
      have h1 := hJ M
      have hle : cI n x I M + 1 ≤ cI n x J M := hle
      unfold TightI at tM
      have := h1 (by omega)
      omega
    obtain ⟨y, hy, Iy, by', Jy⟩ := hy
    have hc := cI_swap (x := x) hy hj Iy Ij
    have hI' : IndI P k c n x (swapI I y j) := by
      intro m hm
      have e := hc m
      have hi := hI m
      by_cases c1 : bothB m (x j) = true
      · by_cases c2 : bothB m (x y) = true
        · rw [if_pos c1, if_pos c2] at e
          have := hi (by omega)
          omega
        · rw [if_pos c1, if_neg c2] at e
          have hkw := kw_pos g.k1 g.c2 (g.two hj c1)
          have hno : ¬ TightI P k c n x I m := fun t => by
            have hu := (uncross g hI t tM hj c1 bM).2
            have hw := minM _ hu (both_and c1 bM)
            have hby := g.bar y hy
            unfold bothB at by' c2
            rw [Bool.and_eq_true] at by'
            exact c2 (by rw [wid_and_same hw (by omega) by'.1, wid_and_same hw (by omega) by'.2]; rfl)
          unfold TightI at hno
          by_cases z : 0 < cI n x I m
          · have := hi z
            omega
          · omega
      · rw [if_neg c1] at e
        have : cI n x (swapI I y j) m ≤ cI n x I m := by omega
        have := hi (by omega)
        omega
    rw [← szI_swap hy hj Iy Ij]
    have hr := rest_swap hj Jy Jj Ij
    refine ih (swapI I y j) (by omega) hI' fun j' hj' Jj' => ?_
    rcases hb j' hj' Jj' with h | ⟨m, t, b⟩
    · left
      unfold swapI
      rw [if_neg (fun e => by rw [e, Jy] at Jj'; cases Jj')]
      split
      · rfl
      · exact h
    · right
      by_cases c2 : bothB m (x y) = true
      · refine ⟨m ||| M, ?_, both_or b⟩
        have hu := (uncross g hI t tM hy c2 by').1
        have e := hc (m ||| M)
        rw [if_pos (both_or c2), if_pos (both_or' bM)] at e
        unfold TightI at *
        omega
      · refine ⟨m, ?_, b⟩
        have e := hc m
        rw [if_neg c2] at e
        unfold TightI at *
        by_cases c1 : bothB m (x j) = true
        · rw [if_pos c1] at e
          have := hI' m (by omega)
          omega
        · rw [if_neg c1] at e
          omega
end Go.Proofs.Ytggibhhdnlifcaa
/- A graph that is being built in a box: bars are appended one by one to a row of the call's own, while other blocks stay as they were. No condition. -/
namespace Go.Proofs.Ytggibhhdnlifcaa
open Go.RowKit

/-- The graph of p points with the bars l stands in the box bg; the blocks os are as they were in w0. -/
def GBox (B : Nat) (w0 wr : World) (bg : Nat) (os : List Nat) (p : Int) (A : Option Addr) (c : Nat) (l : List (Int × Int)) : Prop :=
  Box wr bg p (.slice A l.length c) ∧ wr.frozen? ⟨bg, 1, none⟩ = false ∧ (∀ a, A = some a → a.block ∉ os ∧ a.block ≠ bg) ∧ wr.ownsRow B 103 2 (.slice A l.length c) l.length (barCells l) ∧ (∀ o ∈ os, o < wr.heap.size ∧ wr.heap[o]? = w0.heap[o]? ∧ o ≠ bg) ∧ Below B w0 wr ∧ B ≤ bg
theorem GBox.cell {B : Nat} {w0 wr : World} {bg : Nat} {os : List Nat} {p : Int} {A : Option Addr} {c : Nat} {l : List (Int × Int)} (h : GBox B w0 wr bg os p A c l) {o k : Nat} (ho : o ∈ os) : wr.cell? ⟨o, k, none⟩ = w0.cell? ⟨o, k, none⟩ :=
  World.cell?_of_block (a := ⟨o, k, none⟩) (h.2.2.2.2.1 o ho).2.1
theorem GBox.frozen {B : Nat} {w0 wr : World} {bg : Nat} {os : List Nat} {p : Int} {A : Option Addr} {c : Nat} {l : List (Int × Int)} (h : GBox B w0 wr bg os p A c l) {o k : Nat} (ho : o ∈ os) : wr.frozen? ⟨o, k, none⟩ = w0.frozen? ⟨o, k, none⟩ :=
  World.frozen?_of_block (a := ⟨o, k, none⟩) (h.2.2.2.2.1 o ho).2.1
theorem GBox.below {B : Nat} {w0 wr w' : World} {bg : Nat} {os : List Nat} {p : Int} {A : Option Addr} {c : Nat} {l : List (Int × Int)} (h : GBox B w0 wr bg os p A c l) (hb : Below wr.heap.size wr w') : GBox B w0 w' bg os p A c l := by
  obtain ⟨h1, h2, h3, h4, h5, h6, h7⟩ := h
  refine ⟨h1.kept hb, (hb.frozen (p := ⟨bg, 1, none⟩) h1.1).trans h2, h3, own_below h4 hb, fun o ho => ?_, below_on h6 hb (Nat.le_of_lt (Nat.lt_of_le_of_lt h7 h1.1)), h7⟩
  obtain ⟨k1, k2, k3⟩ := h5 o ho
  exact ⟨Nat.lt_of_lt_of_le k1 hb.size, (hb.block o k1).trans k2, k3⟩
theorem GBox.push {B : Nat} {w0 wr w' : World} {bg : Nat} {os : List Nat} {p : Int} {A : Option Addr} {c : Nat} {l : List (Int × Int)} {v' : Value} (h : GBox B w0 wr bg os p A c l) (x : Int × Int)
    (ho : w'.ownsRow B 103 2 v' (l.length + 1) (barCells l ++ [.int .i64 x.1, .int .i64 x.2])) (hg : wr.grownBy w' (Value.slice A l.length c).ownBlock)
    (hat : v'.ownBlock = (Value.slice A l.length c).ownBlock ∨ v'.ownBlock = some (wr.heap.size + 1)) :
    w'.cell? ⟨bg, 0, none⟩ = some (.int .i64 p) ∧ w'.cell? ⟨bg, 1, none⟩ = some (.slice A l.length c) ∧ w'.frozen? ⟨bg, 1, none⟩ = false ∧ ∃ A2 c2, v' = .slice A2 (l.length + 1) c2 ∧ GBox B w0 (w'.setCell ⟨bg, 1, none⟩ v') bg os p A2 c2 (l ++ [x]) := by
  obtain ⟨h1, h2, h3, h4, h5, h6, h7⟩ := h
  have hne : ∀ o, o = bg ∨ o ∈ os → some o ≠ (Value.slice A l.length c).ownBlock := fun o hoo e => by
    cases A with
    | none => cases e
    | some a =>
      cases e
      rcases hoo with hoo | hoo
      · exact (h3 a rfl).2 hoo
      · exact (h3 a rfl).1 hoo
  have hblk := hg.block bg h1.1 (hne bg (.inl rfl))
  have c0 := (World.cell?_of_block (a := ⟨bg, 0, none⟩) hblk).trans h1.2.1
  have c1 := (World.cell?_of_block (a := ⟨bg, 1, none⟩) hblk).trans h1.2.2
  have f1 := (World.frozen?_of_block (a := ⟨bg, 1, none⟩) hblk).trans h2
  refine ⟨c0, c1, f1, ?_⟩
  obtain ⟨A2, c2, rfl⟩ := own_shape ho
  refine ⟨A2, c2, rfl, ?_⟩
  have hA2 : ∀ a, A2 = some a → a.block ∉ os ∧ a.block ≠ bg := fun a e => by
    subst e
    rcases hat with hat | hat
    · cases A with
      | none => cases hat
      | some a0 =>
        have : a.block = a0.block := by simpa [Value.ownBlock] using hat
        rw [this]
        exact h3 a0 rfl
    · have : a.block = wr.heap.size + 1 := by simpa [Value.ownBlock] using hat
      rw [this]
      refine ⟨fun hm => ?_, ?_⟩
      · have := (h5 _ hm).1
        omega
      · have := h1.1
        omega
  have hs := grownBy_set w' bg 1 (.slice A2 (l.length + 1) c2)
  have e2 : (l ++ [x]).length = l.length + 1 := by simp
  have e3 : barCells (l ++ [x]) = barCells l ++ [.int .i64 x.1, .int .i64 x.2] := by rw [barCells_append]; rfl
  unfold GBox
  rw [e2, e3]
  refine ⟨⟨?_, ?_, ?_⟩, ?_, hA2, ?_, fun o hoo => ?_, ?_, h7⟩
  · exact Nat.lt_of_lt_of_le (Nat.lt_of_lt_of_le h1.1 hg.size) hs.size
  · rw [World.cell?_setCell_other _ _ _ _ (by intro e; simp at e)]
    exact c0
  · exact World.cell?_setCell_same _ _ _ c1
  · rw [World.frozen?_setCell]
    exact f1
  · refine ho.kept hs ?_
    cases A2 with
    | none => exact .inl rfl
    | some a => exact .inr (by simp [Value.ownBlock]; exact (hA2 a rfl).2)
  · obtain ⟨k1, k2, k3⟩ := h5 o hoo
    exact ⟨Nat.lt_of_lt_of_le (Nat.lt_of_lt_of_le k1 hg.size) hs.size, (hs.block o (Nat.lt_of_lt_of_le k1 hg.size) (by simp; exact k3)).trans ((hg.block o k1 (hne o (.inr hoo))).trans k2), k3⟩
  · refine (h6.grown hg (Nat.le_of_lt (Nat.lt_of_le_of_lt h7 h1.1)) fun g e => (h4.lt g e).1).grown hs ?_ fun g e => by cases e; exact h7
    exact Nat.le_trans (Nat.le_of_lt (Nat.lt_of_le_of_lt h7 h1.1)) hg.size
/-- The same behind an append in a region that draws its order. -/
theorem GBox.push2 {B : Nat} {w0 wr w' : World} {bg : Nat} {os : List Nat} {p : Int} {A : Option Addr} {c : Nat} {l : List (Int × Int)} {gg c2 : Nat} {us : Array Value} {tb : TypeId} (h : GBox B w0 wr bg os p A c l) (x : Int × Int)
    (ho : w'.ownsRow B 103 2 (.slice (some ⟨gg, 0, none⟩) (l.length + 1) c2) (l.length + 1) (barCells l ++ [.int .i64 x.1, .int .i64 x.2])) (hg : ((wr.alloc (.cells us tb)).drew).grownBy w' (Value.slice A l.length c).ownBlock)
    (hat : (Value.slice A l.length c).ownBlock = some gg ∨ gg = wr.heap.size + 1) :
    w'.cell? ⟨bg, 0, none⟩ = some (.int .i64 p) ∧ w'.cell? ⟨bg, 1, none⟩ = some (.slice A l.length c) ∧ w'.frozen? ⟨bg, 1, none⟩ = false ∧ GBox B w0 (w'.setCell ⟨bg, 1, none⟩ (.slice (some ⟨gg, 0, none⟩) (l.length + 1) c2)) bg os p (some ⟨gg, 0, none⟩) c2 (l ++ [x]) := by
  have hg1 : (wr.alloc (.cells us tb)).grownBy ((wr.alloc (.cells us tb)).drew) (Value.slice A l.length c).ownBlock := ⟨rfl, rfl, rfl, Nat.le_refl _, fun _ _ _ => rfl⟩
  obtain ⟨c0, c1, f1, A2, c2', e, hG⟩ := h.push x ho (((World.grownBy_alloc wr (.cells us tb) _).trans_ hg1).trans_ hg) (by
    rcases hat with hat | hat
    · left; rw [hat]; rfl
    · right; rw [hat]; rfl)
  cases e
  exact ⟨c0, c1, f1, hG⟩
theorem GBox.drew {B : Nat} {w0 wr : World} {bg : Nat} {os : List Nat} {p : Int} {A : Option Addr} {c : Nat} {l : List (Int × Int)} (h : GBox B w0 wr bg os p A c l) : GBox B w0 wr.drew bg os p A c l := h.below ((Below.refl _ _).drew)
theorem GBox.ownIn {B : Nat} {w0 wr : World} {bg : Nat} {os : List Nat} {p : Int} {A : Option Addr} {c : Nat} {l : List (Int × Int)} (h : GBox B w0 wr bg os p A c l) : OwnIn wr B wr.heap.size A c l := own_in' h.2.2.2.1
/-- The answer's variable is written: the row is still the call's own. -/
theorem GBox.ret {B : Nat} {w0 wr : World} {bg : Nat} {os : List Nat} {p : Int} {A : Option Addr} {c : Nat} {l : List (Int × Int)} (h : GBox B w0 wr bg os p A c l) {o : Nat} (ho : o ∈ os) (hB : B ≤ o) (u v : Value) :
    OwnIn ((wr.setCell ⟨o, 0, none⟩ u).setCell ⟨o, 1, none⟩ v) B ((wr.setCell ⟨o, 0, none⟩ u).setCell ⟨o, 1, none⟩ v).heap.size A c l ∧ Below B w0 ((wr.setCell ⟨o, 0, none⟩ u).setCell ⟨o, 1, none⟩ v) := by
  obtain ⟨h1, h2, h3, h4, h5, h6, h7⟩ := h
  have hg := (grownBy_set wr o 0 u).trans_ (grownBy_set (wr.setCell ⟨o, 0, none⟩ u) o 1 v)
  refine ⟨own_in' (h4.kept hg ?_), h6.grown hg (Nat.le_of_lt (Nat.lt_of_le_of_lt h7 h1.1)) fun g e => by cases e; exact hB⟩
  cases A with
  | none => exact .inl rfl
  | some a => exact .inr (by simp [Value.ownBlock]; exact fun e => (h3 a rfl).1 (e ▸ ho))
/-- A graph without bars, just laid in a box; the answer's variable lies before it. -/
theorem gbox_new (w : World) (p : Int) : GBox w.heap.size (w.alloc (.cells #[.int .i64 0, .slice none 0 0] 30)) ((w.alloc (.cells #[.int .i64 0, .slice none 0 0] 30)).alloc (.cells #[.int .i64 p, .slice none 0 0] 30)) (w.heap.size + 1) [w.heap.size] p none 0 [] := by
  have hsz : (w.alloc (.cells #[.int .i64 0, .slice none 0 0] 30)).heap.size = w.heap.size + 1 := by simp
  have hb := new_below (w.alloc (.cells #[.int .i64 0, .slice none 0 0] 30)) (.cells #[.int .i64 p, .slice none 0 0] 30)
  have hx := box_new (w.alloc (.cells #[.int .i64 0, .slice none 0 0] 30)) p (.slice none 0 0) 30
  rw [hsz] at hx
  refine ⟨hx, ?_, fun a e => (by cases e), ⟨rfl, .inl ⟨rfl, rfl⟩⟩, fun o ho => ?_, hb.mono (by omega), by omega⟩
  · rw [← hsz]
    exact World.frozen?_alloc_at _ _ _ _ rfl
  · have : o = w.heap.size := by simpa using ho
    subst this
    exact ⟨by simp; omega, hb.block _ (by omega), by omega⟩
/-- A graph without bars, laid in a box; what lies in the blocks os stands. -/
theorem gbox_nil (w : World) (B : Nat) (os : List Nat) (p : Int) (hB : B ≤ w.heap.size) (hos : ∀ o ∈ os, o < w.heap.size) : GBox B w (w.alloc (.cells #[.int .i64 p, .slice none 0 0] 30)) w.heap.size os p none 0 [] := by
  have hb := new_below w (.cells #[.int .i64 p, .slice none 0 0] 30)
  refine ⟨box_new w p (.slice none 0 0) 30, World.frozen?_alloc_at _ _ _ _ rfl, fun a e => (by cases e), ⟨rfl, .inl ⟨rfl, rfl⟩⟩, fun o ho => ?_, hb.mono hB, hB⟩
  have := hos o ho
  exact ⟨by simp; omega, hb.block _ this, by omega⟩
/-- The same with an empty row of its own. -/
theorem gbox_made (w : World) (B : Nat) (os : List Nat) (p : Int) (hB : B ≤ w.heap.size) (hos : ∀ o ∈ os, o < w.heap.size) : GBox B w ((w.alloc (.cells #[] 103)).alloc (.cells #[.int .i64 p, .slice (some ⟨w.heap.size, 0, none⟩) 0 0] 30)) (w.heap.size + 1) os p (some ⟨w.heap.size, 0, none⟩) 0 [] := by
  have hsz : (w.alloc (.cells #[] 103)).heap.size = w.heap.size + 1 := by simp
  have hb1 := new_below w (.cells #[] 103)
  have hb2 := new_below (w.alloc (.cells #[] 103)) (.cells #[.int .i64 p, .slice (some ⟨w.heap.size, 0, none⟩) 0 0] 30)
  have hx := box_new (w.alloc (.cells #[] 103)) p (.slice (some ⟨w.heap.size, 0, none⟩) 0 0) 30
  have hf : ((w.alloc (.cells #[] 103)).alloc (.cells #[.int .i64 p, .slice (some ⟨w.heap.size, 0, none⟩) 0 0] 30)).frozen? ⟨(w.alloc (.cells #[] 103)).heap.size, 1, none⟩ = false := World.frozen?_alloc_at _ _ _ _ rfl
  rw [hsz] at hx hf
  have hb := below_on hb1 hb2 hb1.size
  have ho := World.ownsRow_made (base := B) (e := 103) (size := 2) w #[] 0 hB (by unfold maxLen; omega) (by simp)
  refine ⟨hx, hf, fun a e => ?_, own_below ho hb2, fun o hoo => ?_, hb.mono hB, by omega⟩
  · cases e
    refine ⟨fun hm => ?_, by show w.heap.size ≠ w.heap.size + 1; omega⟩
    have := hos _ hm
    simp at this
  · have := hos o hoo
    exact ⟨by simp; omega, hb.block _ this, by omega⟩
end Go.Proofs.Ytggibhhdnlifcaa
/- What spec.OnlyBars answers, and spec.l2Has. No condition. -/
namespace Go.Proofs.Ytggibhhdnlifcaa
open Go.RowKit

/-- The first k bars whose index S takes. -/
def onlyK (l : List (Int × Int)) (S : Nat → Bool) : Nat → List (Int × Int)
  | 0 => []
  | k + 1 => onlyK l S k ++ if S k then [l.getD k (0, 0)] else []
def inS (zs : List Int) (k : Nat) : Bool := decide ((k : Int) ∈ zs)
def onlyL (l : List (Int × Int)) (zs : List Int) : List (Int × Int) := onlyK l (inS zs) l.length
theorem onlyK_len (l : List (Int × Int)) (S : Nat → Bool) : ∀ k, (onlyK l S k).length ≤ k := by
  intro k
  induction k with
  | zero => exact Nat.le_refl _
  | succ k ih =>
    rw [onlyK, List.length_append]
    split <;> simp <;> omega
theorem onlyL_len (l : List (Int × Int)) (zs : List Int) (h : l.length ≤ 1048576) : (onlyL l zs).length ≤ 1048576 := Nat.le_trans (onlyK_len _ _ _) h

set_option maxHeartbeats 4000000 in
set_option maxRecDepth 100000 in
theorem specOnly (p : Int) (l : List (Int × Int)) (zs : List Int) (A Z : Option Addr) (cap cz lo hi : Nat) (w : World) (hl : BarsAt w w.heap.size A l) (hz : IntsIn w lo hi Z zs) (hn : l.length ≤ 1048576) (hnz : zs.length ≤ 1048576) :
    Calls Try.prog 50 #[.agg #[.int .i64 p, .slice A l.length cap], .slice Z zs.length cz] w (GraphR w p (onlyL l zs)) := by
  have hA1 := new_below w (.cells #[.int .i64 p, .slice A l.length cap] 30)
  have hA2 := new_below (w.alloc (.cells #[.int .i64 p, .slice A l.length cap] 30)) (.cells #[.int .i64 0, .slice none 0 0] 30)
  have hsz1 : (w.alloc (.cells #[.int .i64 p, .slice A l.length cap] 30)).heap.size = w.heap.size + 1 := by simp
  have hsz2 : ((w.alloc (.cells #[.int .i64 p, .slice A l.length cap] 30)).alloc (.cells #[.int .i64 0, .slice none 0 0] 30)).heap.size = w.heap.size + 2 := by simp
  have HA := Lib.hid (below_on hA1 hA2 hA1.size)
  have HLW := Lib.hid hl
  have HZW := Lib.hid hz
  have BX := Lib.hid ((box_new w p (.slice A l.length cap) 30).kept hA2)
  have hR := box_new (w.alloc (.cells #[.int .i64 p, .slice A l.length cap] 30)) 0 (.slice none 0 0) 30
  have hF : ((w.alloc (.cells #[.int .i64 p, .slice A l.length cap] 30)).alloc (.cells #[.int .i64 0, .slice none 0 0] 30)).frozen? ⟨(w.alloc (.cells #[.int .i64 p, .slice A l.length cap] 30)).heap.size, 0, none⟩ = false ∧ ((w.alloc (.cells #[.int .i64 p, .slice A l.length cap] 30)).alloc (.cells #[.int .i64 0, .slice none 0 0] 30)).frozen? ⟨(w.alloc (.cells #[.int .i64 p, .slice A l.length cap] 30)).heap.size, 1, none⟩ = false := ⟨World.frozen?_alloc_at _ _ _ _ rfl, World.frozen?_alloc_at _ _ _ _ rfl⟩
  rw [hsz1] at hR hF
  have HR := Lib.hid hR
  have HF := Lib.hid hF
  have hG := gbox_made ((w.alloc (.cells #[.int .i64 p, .slice A l.length cap] 30)).alloc (.cells #[.int .i64 0, .slice none 0 0] 30)) w.heap.size [w.heap.size, w.heap.size + 1] p (by rw [hsz2]; omega) (fun o ho => by rw [hsz2]; simp at ho; omega)
  rw [hsz2] at hG
  have HG := Lib.hid hG
  clear hl hz hA1 hA2 hsz1 hR hF hG
  go_enter Try.func50, Try.ntmps50
  go_wp2_with fail
  have HSZ2 := Lib.hid hsz2
  clear hsz2
  generalize ((((w.alloc (.cells #[.int .i64 p, .slice A l.length cap] 30)).alloc (.cells #[.int .i64 0, .slice none 0 0] 30)).alloc (.cells #[] 103)).alloc (.cells #[.int .i64 p, .slice (some ⟨w.heap.size + 2, 0, none⟩) 0 0] 30)) = w1 at *
  generalize ((w.alloc (.cells #[.int .i64 p, .slice A l.length cap] 30)).alloc (.cells #[.int .i64 0, .slice none 0 0] 30)) = w0 at *
  go_loopw [6] (fun i wr => ∃ k : Nat, k ≤ l.length ∧ i = .int .i64 k ∧ ∃ A' c', GBox w.heap.size w0 wr (w.heap.size + 2 + 1) [w.heap.size, w.heap.size + 1] p A' c' (onlyK l (inS zs) k)) (fun i _ => l.length - (intOf i).toNat)
  case atStart => exact ⟨0, by omega, rfl, _, _, HG.out⟩
  case round =>
    obtain ⟨k, hk, rfl, A', c', hst⟩ := hrel
    have HST := Lib.hid hst
    have HBW := Lib.hid (HA.out.trans hst.2.2.2.2.2.1)
    have hbs : w.heap.size ≤ wr.heap.size := Nat.le_of_lt (Nat.lt_of_le_of_lt hst.2.2.2.2.2.2 hst.1.1)
    have b1 := (hst.cell (o := w.heap.size) (k := 1) (by simp)).trans BX.out.2.2
    clear hst
    by_cases hlt : k < l.length
    · have hik : (k : Int) < (l.length : Int) := by omega
      obtain ⟨b0, off, rfl, hbB, hcell⟩ := HLW.out (by omega)
      have hc1 := (HBW.out.cell (p := ⟨b0, off + k * 2, none⟩) hbB).trans (hcell k hlt).1
      have hc2 := (HBW.out.cell (p := ⟨b0, off + k * 2 + 1, none⟩) hbB).trans (hcell k hlt).2
      clear hcell
      have HZ := Lib.hid (show IntsIn wr lo hi Z zs from ⟨Nat.le_trans HZW.out.1 hbs, fun hl0 => by
        obtain ⟨bz, oz, e, h1, h2, hc⟩ := HZW.out.2 hl0
        exact ⟨bz, oz, e, h1, h2, fun j hj => (HBW.out.cell (p := ⟨bz, oz + j, none⟩) (Nat.lt_of_lt_of_le h2 HZW.out.1)).trans (hc j hj)⟩⟩)
      go_wp2_with fail
      refine (has_c zs (k : Int) Z cz lo hi _ HZ.out hnz).mono ?_
      rintro e w2 ⟨rfl, rfl⟩
      rcases hs : decide ((k : Int) ∈ zs) with _ | _
      · have HE := Lib.hid (show onlyK l (inS zs) (k + 1) = onlyK l (inS zs) k by rw [onlyK, show inS zs k = false from hs]; simp)
        go_wp2_with fail
        go_roundw
        case rel => exact ⟨k + 1, by omega, by go_num, A', c', by rw [HE.out]; exact HST.out⟩
        case measure => simp [intOf]; omega
      · have HE := Lib.hid (show onlyK l (inS zs) (k + 1) = onlyK l (inS zs) k ++ [l.getD k (0, 0)] by rw [onlyK, show inS zs k = true from hs]; simp)
        have hll := onlyK_len l (inS zs) k
        obtain ⟨x, hx⟩ : ∃ x, l.getD k (0, 0) = x := ⟨_, rfl⟩
        rw [hx] at hc1 hc2 HE
        clear hx
        obtain ⟨x1, x2⟩ := x
        simp only at hc1 hc2
        obtain ⟨L, hL⟩ : ∃ L, L = onlyK l (inS zs) k := ⟨_, rfl⟩
        rw [← hL] at HST HE hll
        clear hL
        obtain ⟨i0, hi0, hz0, hz1, hz2⟩ := info_parts infoBar
        obtain ⟨hlt0, g1, g2⟩ := HST.out.1
        have gf := HST.out.2.1
        go_wp2_with fail
        go_region_law (refine step_append_lies _ (by rfl) _ _ _ (by rfl) w.heap.size 103 i0 _ 2 16 Try.underlying28 hi0 hz0 hz1 hz2 rfl (by omega) _ L.length (barCells L) (by rfl) ((HST.out.2.2.2.1.alloc _).drew) ⟨wr.heap.size, 0, none⟩ 1 1 [.int .i64 x1, .int .i64 x2] (by rfl) (by rfl) (World.news_of_block (cs := #[.int .i64 x1, .int .i64 x2]) (t := 103) (fr := (0, 0)) (heap_alloc_new wr _)) (by simp [Value.oneCell']) (by omega) (by unfold maxLen; omega) (by omega) (by simp; omega) (wr.heap.size + 1) (by simp) ?_; intro gg cap2 w1' hown1 hgrow hat hlt; obtain ⟨c0, c1, f1, hG2⟩ := HST.out.push2 (x1, x2) hown1 hgrow hat; have HG2 := Lib.hid hG2; clear hown1 hgrow hat hG2)
        all_goals
          go_wp2_with fail
          go_roundw
          case rel => exact ⟨k + 1, by omega, by go_num, _, cap2, by rw [HE.out]; first | exact HG2.out | exact HG2.out.drew⟩
          case measure => simp [intOf]; omega
    · obtain rfl : k = l.length := by omega
      obtain ⟨_, g1, g2⟩ := HST.out.1
      have r0 := (HST.out.cell (o := w.heap.size + 1) (k := 0) (by simp)).trans HR.out.2.1
      have r1 := (HST.out.cell (o := w.heap.size + 1) (k := 1) (by simp)).trans HR.out.2.2
      have f0 := (HST.out.frozen (o := w.heap.size + 1) (k := 0) (by simp)).trans HF.out.1
      have f1 := (HST.out.frozen (o := w.heap.size + 1) (k := 1) (by simp)).trans HF.out.2
      have hr := HST.out.ret (o := w.heap.size + 1) (by simp) (by omega) (.int .i64 p) (.slice A' (onlyK l (inS zs) l.length).length c')
      have HRT := Lib.hid hr
      have s0 : ((wr.setCell ⟨w.heap.size + 1, 0, none⟩ (.int .i64 p)).setCell ⟨w.heap.size + 1, 1, none⟩ (.slice A' (onlyK l (inS zs) l.length).length c')).cell? ⟨w.heap.size + 1, 0, none⟩ = some (.int .i64 p) := by
        rw [World.cell?_setCell_other _ _ _ _ (by intro e; simp at e)]
        exact World.cell?_setCell_same _ _ _ r0
      have s1 : ((wr.setCell ⟨w.heap.size + 1, 0, none⟩ (.int .i64 p)).setCell ⟨w.heap.size + 1, 1, none⟩ (.slice A' (onlyK l (inS zs) l.length).length c')).cell? ⟨w.heap.size + 1, 1, none⟩ = some (.slice A' (onlyK l (inS zs) l.length).length c') := by
        have r2 : (wr.setCell ⟨w.heap.size + 1, 0, none⟩ (.int .i64 p)).cell? ⟨w.heap.size + 1, 1, none⟩ = some (.slice none 0 0) := by
          rw [World.cell?_setCell_other _ _ _ _ (by intro e; simp at e)]
          exact r1
        exact World.cell?_setCell_same _ _ _ r2
      clear hr
      go_wp2_with fail
      refine bodyPost_ret (v := .agg #[.int .i64 p, .slice A' (onlyK l (inS zs) l.length).length c']) ?_ rfl ⟨A', c', rfl, HRT.out.1.bars.at, HA.out.trans HRT.out.2⟩
      simp [results, Try.results50, go_sem, s0, s1]
end Go.Proofs.Ytggibhhdnlifcaa
/- The whole game on lists: what is placed is sparse, and all is placed exactly if the bars are sparse. No program. No condition. -/
namespace Go.Proofs.Ytggibhhdnlifcaa

theorem sumS_two (S : Nat → Bool) (f : Nat → Int) (P a b : Nat) (hf : ∀ v, v < P → 0 ≤ f v) (ha : a < P) (hb : b < P) (hab : a ≠ b) (sa : S a = true) (sb : S b = true) : f a + f b ≤ sumS S f P := by
  have e : sumS S f P = sumS S (fun v => (if v = a then f a else 0) + (if v = b then f b else 0)) P + sumS S (fun v => f v - ((if v = a then f a else 0) + (if v = b then f b else 0))) P := by
    rw [← sumS_add]
    exact sumS_congr S _ _ P fun v _ _ => by omega
  have h0 := sumS_nonneg S (fun v => f v - ((if v = a then f a else 0) + (if v = b then f b else 0))) P fun v hv => by
    have h1 := hf v hv
    by_cases c1 : v = a
    · subst c1
      rw [if_pos rfl, if_neg hab]
      omega
    · by_cases c2 : v = b
      · subst c2
        rw [if_neg c1, if_pos rfl]
        omega
      · rw [if_neg c1, if_neg c2]
        omega
  rw [sumS_add, sumS_one S _ a P ha, sumS_one S _ b P hb, sa, sb, if_pos rfl, if_pos rfl] at e
  omega
theorem plE_snoc (l : List (Int × Int)) (Z : List Int) (n : Int) : plE l (Z ++ [n]) = plE l Z ++ [l.getD n.toNat (0, 0)] := by simp [plE]
theorem cntS_snoc (E : List (Int × Int)) (x : Int × Int) (m : Nat) : cntS (E ++ [x]) m = cntS E m + if bothB m x then 1 else 0 := by
  unfold cntS
  rw [List.countP_append, List.countP_cons, List.countP_nil, Nat.zero_add]
theorem plE_bars {P : Nat} {k : Int} {l : List (Int × Int)} {F T Z : List Int} (h : IsPeb (P : Int) k l F T Z) : ∀ x ∈ plE l Z, 0 ≤ x.1 ∧ x.1 < x.2 ∧ x.2 < (P : Int) := by
  intro x hx
  obtain ⟨i, hi, rfl⟩ := List.getElem_of_mem hx
  have h1 := h.state.ends.bar i hi
  have e : (plE l Z).getD i (0, 0) = (plE l Z)[i] := by simp [List.getD, List.getElem?_eq_getElem hi]
  rw [e] at h1
  have := h.2.2.1
  omega
theorem badS_iff {l : List (Int × Int)} {k c : Int} {P m : Nat} : badS l k c P m = true ↔ 0 < cntS l m ∧ k * ((setL P m).length : Int) - c < (cntS l m : Int) := by
  unfold badS
  rw [Bool.and_eq_true, decide_eq_true_eq, decide_eq_true_eq]
theorem badS_not {l : List (Int × Int)} {k c : Int} {P m : Nat} : badS l k c P m = false ↔ ¬ (0 < cntS l m ∧ k * ((setL P m).length : Int) - c < (cntS l m : Int)) := by
  rw [← badS_iff]
  simp
theorem bad_sup {l l' : List (Int × Int)} {k c : Int} {P m : Nat} (hs : l'.Sublist l) (h : badS l' k c P m = true) : badS l k c P m = true := by
  cases e : badS l k c P m with
  | true => rfl
  | false => rw [bad_sub hs e] at h; cases h
/-- A bar that is placed leaves the state sparse. -/
theorem place_sparse {P : Nat} {k c : Int} {l : List (Int × Int)} {F T Z : List Int} (h : IsPeb (P : Int) k l F T Z) {n : Int} (hn : 0 ≤ n ∧ n < (l.length : Int)) {s : List Int × List Int × List Int} (e : plaR l c F T Z n = some s)
    (hsp : ∀ m, badS (plE l Z) k c P m = false) : ∀ m, badS (plE l s.2.2) k c P m = false := by
  unfold plaR at e
  obtain ⟨s1, h1, rfl⟩ := Option.map_eq_some_iff.1 e
  have hb := h.1.2.2 n.toNat (by omega)
  have hp := h.2.2.1
  have hPF : F.length = P := by omega
  unfold OkBar at hb
  obtain ⟨g1, g2⟩ := gathR_ok (P := F.length) (k := k) (by omega) (by omega) (by omega) (by exact h.state) h1
  have ez : (if s1.1.getD (l.getD n.toNat (0, 0)).1.toNat 0 = 0 then (s1.1.set (l.getD n.toNat (0, 0)).2.toNat (s1.1.getD (l.getD n.toNat (0, 0)).2.toNat 0 - 1), s1.2 ++ [(l.getD n.toNat (0, 0)).2], Z ++ [n])
    else (s1.1.set (l.getD n.toNat (0, 0)).1.toNat (s1.1.getD (l.getD n.toNat (0, 0)).1.toNat 0 - 1), s1.2 ++ [(l.getD n.toNat (0, 0)).1], Z ++ [n])).2.2 = Z ++ [n] := by split <;> rfl
  intro m
  rw [ez, plE_snoc]
  rw [hPF] at g1
  generalize l.getD n.toNat (0, 0) = x at *
  have hm := hsp m
  rw [badS_not] at hm ⊢
  rw [cntS_snoc]
  cases hx : bothB m x
  · simpa [hx] using hm
  · have hx' : m.testBit x.1.toNat = true ∧ m.testBit x.2.toNat = true := by
      unfold bothB at hx
      rwa [Bool.and_eq_true] at hx
    have hsum := g1.sum (fun v => m.testBit v)
    have hle := span_le (fun v => m.testBit v) (plE l Z) s1.2 g1.ends.len g1.ends.tail
    have h2 := sumS_two (fun v => m.testBit v) (fun v => s1.1.getD v 0) P x.1.toNat x.2.toNat (fun v hv => (g1.free v hv).1) (by omega) (by omega) (by omega) hx'.1 hx'.2
    have hc : (plE l Z).countP (spanC fun v => m.testBit v) = cntS (plE l Z) m := rfl
    have ho : outF P (fun v => m.testBit v) = setL P m := rfl
    rw [hc] at hle
    rw [ho] at hsum
    simp only [if_true]
    omega
/-- A bar that can't be placed is one too many. -/
theorem place_no {P : Nat} {k c : Int} {l : List (Int × Int)} {F T Z : List Int} (h : IsPeb (P : Int) k l F T Z) {n : Int} (hn : 0 ≤ n ∧ n < (l.length : Int)) (e : plaR l c F T Z n = none) : ∃ m, m < 2 ^ P ∧ badS (plE l Z ++ [l.getD n.toNat (0, 0)]) k c P m = true := by
  unfold plaR at e
  rw [Option.map_eq_none_iff] at e
  have hb := h.1.2.2 n.toNat (by omega)
  have hp := h.2.2.1
  have hPF : F.length = P := by omega
  have hP8 := h.1.1
  have hbars := plE_bars h
  unfold OkBar at hb
  have hst := h.state
  rw [hPF] at hst
  generalize l.getD n.toNat (0, 0) = x at *
  unfold gathR at e
  obtain ⟨s', q1, q2, q3, q4⟩ := gath_no (P := P) (k := k) (E := plE l Z) (a := x.1) (b := x.2) (want := c + 1) (by omega) (by omega) (by omega) _ (F, T) hst (by omega) e
  obtain ⟨S, sa, sb, hk⟩ := full_span (F := s'.1) (T := s'.2) q1 (by omega) (a := x.1) (b := x.2) (by omega) (by omega) (by omega) q3 q4
  obtain ⟨m, hm, hmS⟩ := mask_of S P
  refine ⟨m, hm, badS_iff.2 ?_⟩
  rw [cntS_snoc]
  have hx : bothB m x = true := by
    unfold bothB
    rw [hmS _ (by omega), hmS _ (by omega), sa, sb]
    rfl
  rw [hx, if_pos rfl]
  rw [spanC_mask hmS hbars, outF_mask hmS] at hk
  omega
theorem onlyK_agree (l : List (Int × Int)) (S S' : Nat → Bool) : ∀ k, (∀ i, i < k → S i = S' i) → onlyK l S k = onlyK l S' k := by
  intro k
  induction k with
  | zero => intro _; rfl
  | succ k ih =>
    intro h
    unfold onlyK
    rw [ih fun i hi => h i (by omega), h k (by omega)]
theorem outF_len_agree (k : Nat) (S S' : Nat → Bool) (h : ∀ i, i < k → S i = S' i) : (outF k S).length = (outF k S').length := by rw [outF_agree k S S' h]
/-- All that the law on pebbles asks of the whole game. -/
structure GameR (P : Nat) (k c : Int) (l : List (Int × Int)) (n : Nat) (Z : List Int) : Prop where
  sparse : ∀ m, badS (plE l Z) k c P m = false
  full : Z.length = n ∨ ∃ m, m < 2 ^ P ∧ badS (l.take n) k c P m = true
  sub : (plE l Z).Sublist (l.take n)
  only : onlyK l (inS Z) n = plE l Z
  rest : (outF n (fun i => !inS Z i)).length + Z.length = n
theorem mem_lt {P : Nat} {k : Int} {l : List (Int × Int)} {F T Z : List Int} (h : IsPeb (P : Int) k l F T Z) {n : Nat} (hl : Z ≠ [] → Z.getD (Z.length - 1) 0 < (n : Int)) : ∀ z ∈ Z, z < (n : Int) := by
  intro z hz
  obtain ⟨i, hi, rfl⟩ := List.getElem_of_mem hz
  have h1 := h.last i (Z.length - 1) (by omega) (by omega)
  have h2 := hl (fun e => by rw [e] at hi; simp at hi)
  have e : Z.getD i 0 = Z[i] := by simp [List.getD, List.getElem?_eq_getElem hi]
  rw [e] at h1
  omega
theorem runN_game {P : Nat} {k c : Int} {l : List (Int × Int)} (hG : IsG (P : Int) l) (hk : 1 ≤ k ∧ k ≤ 3) (hc : 0 ≤ c) : ∀ n, n ≤ l.length → GameR P k c l n (runN P k c l n).2.2 := by
  intro n
  induction n with
  | zero =>
    intro _
    exact ⟨fun m => by rw [badS_not]; simp [runN, plE, cntS], .inl rfl, by simp [runN, plE], rfl, rfl⟩
  | succ n ih =>
    intro hn
    have hi := ih (by omega)
    obtain ⟨h1, _, h3⟩ := runN_ok hG hk hc n (by omega)
    have hlt := mem_lt h1 h3
    have ht : l.take (n + 1) = l.take n ++ [l.getD n (0, 0)] := take_getD l (0, 0) n (by omega)
    have htn : ((n : Int)).toNat = n := by omega
    unfold runN
    generalize runN P k c l n = s0 at *
    have hni : inS s0.2.2 n = false := decide_eq_false fun hm => by have := hlt _ hm; omega
    cases e : plaR l c s0.1 s0.2.1 s0.2.2 (n : Int) with
    | none =>
      simp only [Option.getD_none]
      obtain ⟨m, hm, hb⟩ := place_no h1 (n := (n : Int)) (by omega) e
      rw [htn] at hb
      refine ⟨hi.sparse, .inr ⟨m, hm, bad_sup ?_ hb⟩, ?_, ?_, ?_⟩
      · rw [ht]
        exact hi.sub.append (List.Sublist.refl _)
      · rw [ht]
        exact hi.sub.trans (List.sublist_append_left _ _)
      · unfold onlyK
        rw [hni, hi.only]
        simp
      · rw [outF_succ, hni]
        have := hi.rest
        simp
        omega
    | some s =>
      simp only [Option.getD_some]
      have hsp := place_sparse h1 (n := (n : Int)) (by omega) e hi.sparse
      have g2 := (plaR_ok h1 hc (n := (n : Int)) (by omega) h3 e).2
      rw [g2] at hsp ⊢
      have hin : inS (s0.2.2 ++ [(n : Int)]) n = true := decide_eq_true (by simp)
      have hag : ∀ i, i < n → inS (s0.2.2 ++ [(n : Int)]) i = inS s0.2.2 i := fun i hi => by
        unfold inS
        have : ¬ (i : Int) = (n : Int) := by omega
        simp [this]
      refine ⟨hsp, ?_, ?_, ?_, ?_⟩
      · rcases hi.full with hf | ⟨m, hm, hb⟩
        · exact .inl (by simp [hf])
        · exact .inr ⟨m, hm, bad_sup (by rw [ht]; exact List.sublist_append_left _ _) hb⟩
      · rw [ht, plE_snoc, htn]
        exact hi.sub.append (List.Sublist.refl _)
      · unfold onlyK
        rw [hin, if_pos rfl, onlyK_agree l _ _ n hag, hi.only, plE_snoc, htn]
      · rw [outF_succ, hin]
        have := hi.rest
        have e2 := outF_len_agree n (fun i => !inS (s0.2.2 ++ [(n : Int)]) i) (fun i => !inS s0.2.2 i) fun i hi => by simp only [hag i hi]
        simp
        omega
end Go.Proofs.Ytggibhhdnlifcaa
/- What a game leaves of a list of bars has the same length whatever their order, and no more if there are fewer bars. Words on lists, of no program. No condition. -/
namespace Go.Proofs.Ytggibhhdnlifcaa

/-- No set spans too many. -/
def IndL (P : Nat) (k c : Int) (E : List (Int × Int)) : Prop := ∀ m, badS E k c P m = false
theorem onlyK_cI (l : List (Int × Int)) (S : Nat → Bool) (m : Nat) : ∀ n, cntS (onlyK l S n) m = cI n (fun i => l.getD i (0, 0)) S m := by
  intro n
  induction n with
  | zero => rfl
  | succ n ih =>
    unfold onlyK cI
    rw [List.range_succ, List.countP_append, List.countP_cons, List.countP_nil]
    unfold cI at ih
    rw [← ih]
    cases S n
    · simp
    · simp only [if_true, Bool.true_and]
      rw [cntS_snoc]
      omega
theorem onlyK_size (l : List (Int × Int)) (S : Nat → Bool) : ∀ n, (onlyK l S n).length = szI n S := by
  intro n
  induction n with
  | zero => rfl
  | succ n ih =>
    unfold onlyK szI
    rw [List.range_succ, List.countP_append, List.countP_cons, List.countP_nil, List.length_append, ih]
    unfold szI
    cases S n <;> simp
theorem onlyK_cons (y : Int × Int) (l : List (Int × Int)) (S : Nat → Bool) : ∀ n, onlyK (y :: l) S (n + 1) = (if S 0 then [y] else []) ++ onlyK l (fun i => S (i + 1)) n := by
  intro n
  induction n with
  | zero => simp [onlyK]
  | succ n ih =>
    rw [onlyK, ih, List.append_assoc]
    congr 1
theorem sub_mask {E l : List (Int × Int)} (h : E.Sublist l) : ∃ S, onlyK l S l.length = E := by
  induction h with
  | slnil => exact ⟨fun _ => false, rfl⟩
  | cons y _ ih =>
    obtain ⟨S, hS⟩ := ih
    refine ⟨fun i => match i with | 0 => false | i + 1 => S i, ?_⟩
    rw [List.length_cons, onlyK_cons, hS]
    rfl
  | cons_cons y _ ih =>
    obtain ⟨S, hS⟩ := ih
    refine ⟨fun i => match i with | 0 => true | i + 1 => S i, ?_⟩
    rw [List.length_cons, onlyK_cons, hS]
    rfl
theorem onlyK_sub (l : List (Int × Int)) (S : Nat → Bool) : ∀ n, n ≤ l.length → (onlyK l S n).Sublist (l.take n) := by
  intro n
  induction n with
  | zero => intro _; exact List.nil_sublist _
  | succ n ih =>
    intro hn
    have e : l.take (n + 1) = l.take n ++ [l.getD n (0, 0)] := by
      rw [List.take_succ_eq_append_getElem (by omega)]
      simp [List.getD, List.getElem?_eq_getElem (show n < l.length by omega)]
    rw [onlyK, e]
    refine (ih (by omega)).append ?_
    cases S n
    · exact List.nil_sublist _
    · exact List.Sublist.refl _
theorem indL_I {P : Nat} {k c : Int} {l : List (Int × Int)} {S : Nat → Bool} {n : Nat} : IndL P k c (onlyK l S n) ↔ IndI P k c n (fun i => l.getD i (0, 0)) S := by
  constructor
  · intro h m hm
    have := h m
    rw [badS_not, onlyK_cI, wid_set] at this
    omega
  · intro h m
    rw [badS_not, onlyK_cI, wid_set]
    rintro ⟨h1, h2⟩
    have := h m h1
    omega
/-- What a game leaves: bars that are independent, and each other bar is one too many. -/
structure Greedy (P : Nat) (k c : Int) (l E : List (Int × Int)) (S : Nat → Bool) : Prop where
  only : onlyK l S l.length = E
  ind : IndL P k c E
  rest : ∀ i, i < l.length → S i = false → ∃ m, badS (E ++ [l.getD i (0, 0)]) k c P m = true
structure Bars (P : Nat) (l : List (Int × Int)) : Prop where
  bar : ∀ i, i < l.length → 0 ≤ (l.getD i (0, 0)).1 ∧ (l.getD i (0, 0)).1 < (l.getD i (0, 0)).2 ∧ (l.getD i (0, 0)).2 < (P : Int)
/-- No independent part is greater. -/
theorem Greedy.most {P : Nat} {k c : Int} {l E : List (Int × Int)} {S : Nat → Bool} (h : Greedy P k c l E S) (hb : Bars P l) (hk : 1 ≤ k) (hc : 0 ≤ c) (hc2 : c < 2 * k) {E' : List (Int × Int)} (hs : E'.Sublist l) (hi : IndL P k c E') : E'.length ≤ E.length := by
  obtain ⟨J, rfl⟩ := sub_mask hs
  have g : Grd P k c l.length (fun i => l.getD i (0, 0)) := ⟨hb.bar, hk, hc, hc2⟩
  rw [onlyK_size, ← h.only, onlyK_size]
  have hI : IndI P k c l.length (fun i => l.getD i (0, 0)) S := indL_I.1 (by rw [h.only]; exact h.ind)
  refine block_le g (indL_I.1 hi) _ S rfl hI fun j hj _ => ?_
  cases e : S j with
  | true => exact .inl e
  | false =>
    right
    obtain ⟨m, hm⟩ := h.rest j hj e
    have h0 := h.ind m
    rw [badS_iff, cntS_snoc, wid_set] at hm
    rw [badS_not, wid_set] at h0
    rw [← h.only, onlyK_cI] at hm h0
    cases b : bothB m (l.getD j (0, 0)) with
    | false =>
      rw [b] at hm
      simp only [Bool.false_eq_true, if_false, Nat.add_zero] at hm
      exact absurd hm h0
    | true =>
      refine ⟨m, ?_, b⟩
      rw [b, if_pos rfl] at hm
      have hw := kw_pos g.k1 g.c2 (g.two hj b)
      have hIm := hI m
      unfold TightI
      by_cases z : 0 < cI l.length (fun i => l.getD i (0, 0)) S m
      · have := hIm z
        omega
      · omega
theorem Greedy.sub {P : Nat} {k c : Int} {l E : List (Int × Int)} {S : Nat → Bool} (h : Greedy P k c l E S) : E.Sublist l := by
  have := onlyK_sub l S l.length (Nat.le_refl _)
  rwa [List.take_length, h.only] at this
theorem indL_perm {P : Nat} {k c : Int} {E E' : List (Int × Int)} (p : E.Perm E') (h : IndL P k c E) : IndL P k c E' := by
  intro m
  have := h m
  unfold badS cntS at *
  rwa [← p.countP_eq]
theorem Greedy.mono {P : Nat} {k c : Int} {l l' E E' : List (Int × Int)} {S S' : Nat → Bool} (h : Greedy P k c l E S) (h' : Greedy P k c l' E' S') (hb : Bars P l) (hk : 1 ≤ k) (hc : 0 ≤ c) (hc2 : c < 2 * k) (hs : l'.Sublist l) : E'.length ≤ E.length :=
  h.most hb hk hc hc2 (h'.sub.trans hs) h'.ind
theorem Greedy.perm_le {P : Nat} {k c : Int} {l l' E E' : List (Int × Int)} {S S' : Nat → Bool} (h : Greedy P k c l E S) (h' : Greedy P k c l' E' S') (hb : Bars P l) (hk : 1 ≤ k) (hc : 0 ≤ c) (hc2 : c < 2 * k) (p : l'.Perm l) : E'.length ≤ E.length := by
  obtain ⟨E'', h1, h2⟩ := List.exists_perm_sublist h'.sub p
  rw [← h1.length_eq]
  exact h.most hb hk hc hc2 h2 (indL_perm h1.symm h'.ind)
end Go.Proofs.Ytggibhhdnlifcaa
/- The pebble game leaves a greatest part that the counts allow, so its rank asks not for the order of the bars. Words on lists, of no program. No condition. -/
namespace Go.Proofs.Ytggibhhdnlifcaa

theorem PebS.push {P : Nat} {k : Int} {E : List (Int × Int)} {F T : List Int} (h : PebS P k E F T) {y : Int × Int} (hy : 0 ≤ y.1 ∧ y.1 < y.2 ∧ y.2 < (P : Int)) {t : Int} (ht : isEnd y t) (hf : 0 < F.getD t.toNat 0) :
    PebS P k (E ++ [y]) (F.set t.toNat (F.getD t.toNat 0 - 1)) (T ++ [t]) := by
  obtain ⟨h1, ⟨h2, h3, h4⟩, h5⟩ := h
  have htr : 0 ≤ t ∧ t < (P : Int) := by unfold isEnd at ht; omega
  have eE : (E ++ [y]).getD E.length (0, 0) = y := by simp [List.getD]
  have eT : (T ++ [t]).getD E.length 0 = t := by rw [← h2]; simp [List.getD]
  have lE : ∀ i, i < E.length → (E ++ [y]).getD i (0, 0) = E.getD i (0, 0) := fun i hi => by simp only [List.getD]; rw [List.getElem?_append_left hi]
  have lT : ∀ i, i < E.length → (T ++ [t]).getD i 0 = T.getD i 0 := fun i hi => by simp only [List.getD]; rw [List.getElem?_append_left (by omega)]
  refine ⟨by rw [List.length_set]; exact h1, ⟨by simp [h2], fun i hi => ?_, fun i hi => ?_⟩, fun v hv => ?_⟩
  · rw [List.length_append, List.length_cons, List.length_nil] at hi
    by_cases e : i = E.length
    · subst e
      rw [eE]
      exact hy
    · rw [lE i (by omega)]
      exact h3 i (by omega)
  · rw [List.length_append, List.length_cons, List.length_nil] at hi
    by_cases e : i = E.length
    · subst e
      rw [eE, eT]
      exact ht
    · rw [lE i (by omega), lT i (by omega)]
      exact h4 i (by omega)
  · have hc := h5 v hv
    rw [List.count_append, List.count_singleton]
    by_cases e : v = t.toNat
    · subst e
      have e1 : ((t.toNat : Nat) : Int) = t := by omega
      rw [set_getD_eq _ _ _ _ (by omega)]
      rw [e1] at hc ⊢
      have e4 : (t == t) = true := by simp
      rw [if_pos e4]
      constructor
      · omega
      · rw [Int.natCast_add]
        omega
    · rw [set_getD_ne _ _ _ _ _ e]
      have e4 : ¬ ((t == (v : Int)) = true) := by simp; omega
      rw [if_neg e4]
      exact hc
/-- The bar y between a and b. -/
def Between (y : Int × Int) (a b : Int) : Prop := (y.1 = a ∧ y.2 = b) ∨ (y.1 = b ∧ y.2 = a)
theorem PebS.barsE {P : Nat} {k : Int} {E : List (Int × Int)} {F T : List Int} (h : PebS P k E F T) : ∀ x ∈ E, 0 ≤ x.1 ∧ x.1 < x.2 ∧ x.2 < (P : Int) := by
  intro x hx
  obtain ⟨i, hi, rfl⟩ := List.getElem_of_mem hx
  have h1 := h.ends.bar i hi
  have e : E.getD i (0, 0) = E[i] := by simp [List.getD, List.getElem?_eq_getElem hi]
  rwa [e] at h1
theorem gathE_no {P : Nat} {k c : Int} {E : List (Int × Int)} {F T : List Int} (h : PebS P k E F T) (hP : P ≤ 8) {a b : Int} {y : Int × Int} (hy : 0 ≤ y.1 ∧ y.1 < y.2 ∧ y.2 < (P : Int)) (hab : Between y a b) (e : gathR E a b (c + 1) (F, T) = none) : ∃ m, badS (E ++ [y]) k c P m = true := by
  have hbars := h.barsE
  unfold Between at hab
  unfold gathR at e
  obtain ⟨s', q1, q2, q3, q4⟩ := gath_no (P := P) (k := k) (E := E) (a := a) (b := b) (want := c + 1) (by omega) (by omega) (by omega) _ (F, T) h (by omega) e
  obtain ⟨S, sa, sb, hk⟩ := full_span (F := s'.1) (T := s'.2) q1 hP (a := a) (b := b) (by omega) (by omega) (by omega) q3 q4
  obtain ⟨m, hm, hmS⟩ := mask_of S P
  refine ⟨m, badS_iff.2 ?_⟩
  rw [cntS_snoc]
  have hx : bothB m y = true := by
    unfold bothB
    rw [hmS _ (by omega), hmS _ (by omega)]
    rcases hab with ⟨u1, u2⟩ | ⟨u1, u2⟩
    · rw [u1, u2, sa, sb]; rfl
    · rw [u1, u2, sa, sb]; rfl
  rw [hx, if_pos rfl]
  rw [spanC_mask hmS hbars, outF_mask hmS] at hk
  omega
theorem gathE_yes {P : Nat} {k c : Int} {E : List (Int × Int)} {F T : List Int} (h : PebS P k E F T) {a b : Int} {y : Int × Int} (hy : 0 ≤ y.1 ∧ y.1 < y.2 ∧ y.2 < (P : Int)) (hab : Between y a b) {s : List Int × List Int} (e : gathR E a b (c + 1) (F, T) = some s)
    (hsp : IndL P k c E) : IndL P k c (E ++ [y]) := by
  unfold Between at hab
  obtain ⟨g1, g2⟩ := gathR_ok (P := P) (k := k) (by omega) (by omega) (by omega) h e
  intro m
  have hm := hsp m
  rw [badS_not] at hm ⊢
  rw [cntS_snoc]
  cases hx : bothB m y
  · simpa [hx] using hm
  · have hx' : m.testBit y.1.toNat = true ∧ m.testBit y.2.toNat = true := by
      unfold bothB at hx
      rwa [Bool.and_eq_true] at hx
    have hsum := g1.sum (fun v => m.testBit v)
    have hle := span_le (fun v => m.testBit v) E s.2 g1.ends.len g1.ends.tail
    have h2 := sumS_two (fun v => m.testBit v) (fun v => s.1.getD v 0) P y.1.toNat y.2.toNat (fun v hv => (g1.free v hv).1) (by omega) (by omega) (by omega) hx'.1 hx'.2
    have hc : E.countP (spanC fun v => m.testBit v) = cntS E m := rfl
    have ho : outF P (fun v => m.testBit v) = setL P m := rfl
    rw [hc] at hle
    rw [ho] at hsum
    have h3 : c + 1 ≤ s.1.getD y.1.toNat 0 + s.1.getD y.2.toNat 0 := by
      rcases hab with ⟨u1, u2⟩ | ⟨u1, u2⟩
      · rw [u1, u2]; exact g2
      · rw [u1, u2]; omega
    simp only [if_true]
    omega
/-- Which end of the bar is asked first makes no difference. -/
theorem gathE_iff {P : Nat} {k c : Int} {E : List (Int × Int)} {F T : List Int} (h : PebS P k E F T) (hP : P ≤ 8) (hi : IndL P k c E) {a b : Int} {y : Int × Int} (hy : 0 ≤ y.1 ∧ y.1 < y.2 ∧ y.2 < (P : Int)) (hab : Between y a b) :
    gathR E a b (c + 1) (F, T) = none ↔ ∃ m, badS (E ++ [y]) k c P m = true := by
  constructor
  · exact gathE_no h hP hy hab
  · rintro ⟨m, hm⟩
    cases e : gathR E a b (c + 1) (F, T) with
    | none => rfl
    | some s =>
      rw [gathE_yes h hy hab e hi m] at hm
      cases hm
/-- The state of a game after n bars, of a list that may be of any length. -/
structure GmI (P : Nat) (k c : Int) (l : List (Int × Int)) (n : Nat) (s : List Int × List Int × List Int) : Prop where
  st : PebS P k (plE l s.2.2) s.1 s.2.1
  zs : ∀ z ∈ s.2.2, 0 ≤ z ∧ z < (n : Int)
  only : onlyK l (inS s.2.2) n = plE l s.2.2
  ind : IndL P k c (plE l s.2.2)
  rest : ∀ i, i < n → inS s.2.2 i = false → ∃ m, badS (plE l s.2.2 ++ [l.getD i (0, 0)]) k c P m = true
theorem bad_more {P : Nat} {k c : Int} {E : List (Int × Int)} {x y : Int × Int} (h : ∃ m, badS (E ++ [x]) k c P m = true) : ∃ m, badS (E ++ [y] ++ [x]) k c P m = true := by
  obtain ⟨m, hm⟩ := h
  exact ⟨m, bad_sup ((List.sublist_append_left E [y]).append (List.Sublist.refl [x])) hm⟩
/-- A bar that is placed. -/
theorem plaE_push {P : Nat} {k c : Int} {l : List (Int × Int)} {F T Z : List Int} (h : PebS P k (plE l Z) F T) (hc : 0 ≤ c) {n : Nat} (hy : 0 ≤ (l.getD n (0, 0)).1 ∧ (l.getD n (0, 0)).1 < (l.getD n (0, 0)).2 ∧ (l.getD n (0, 0)).2 < (P : Int)) {s : List Int × List Int × List Int} (e : plaR l c F T Z (n : Int) = some s) :
    s.2.2 = Z ++ [(n : Int)] ∧ PebS P k (plE l Z ++ [l.getD n (0, 0)]) s.1 s.2.1 ∧ ∃ s1, gathR (plE l Z) (l.getD n (0, 0)).1 (l.getD n (0, 0)).2 (c + 1) (F, T) = some s1 := by
  unfold plaR at e
  rw [Int.toNat_natCast] at e
  obtain ⟨s1, h1, rfl⟩ := Option.map_eq_some_iff.1 e
  obtain ⟨g1, g2⟩ := gathR_ok (P := P) (k := k) (by omega) (by omega) (by omega) h h1
  split
  · exact ⟨rfl, g1.push hy (.inr rfl) (by omega), s1, h1⟩
  · rename_i h0
    have := g1.small (v := (l.getD n (0, 0)).1) (by omega)
    exact ⟨rfl, g1.push hy (.inl rfl) (by omega), s1, h1⟩
theorem runN_gm {P : Nat} {k c : Int} {l : List (Int × Int)} (hb : Bars P l) (hP : 1 ≤ P ∧ P ≤ 8) (hk : 1 ≤ k) (hc : 0 ≤ c) : ∀ n, n ≤ l.length → GmI P k c l n (runN P k c l n) := by
  intro n
  induction n with
  | zero =>
    intro _
    refine ⟨⟨by simp [runN], ⟨rfl, fun i hi => absurd hi (by simp [runN, plE]), fun i hi => absurd hi (by simp [runN, plE])⟩, fun v hv => ?_⟩, fun z hz => absurd hz (by simp [runN]), rfl, fun m => by rw [badS_not]; simp [runN, plE, cntS], fun i hi => by omega⟩
    simp [runN, List.getD, hv]
    omega
  | succ n ih =>
    intro hn
    have hi := ih (by omega)
    have hy := hb.bar n (by omega)
    unfold runN
    generalize runN P k c l n = s0 at *
    have hni : inS s0.2.2 n = false := decide_eq_false fun hm => by have := hi.zs _ hm; omega
    cases e : plaR l c s0.1 s0.2.1 s0.2.2 (n : Int) with
    | none =>
      simp only [Option.getD_none]
      have e2 : gathR (plE l s0.2.2) (l.getD n (0, 0)).1 (l.getD n (0, 0)).2 (c + 1) (s0.1, s0.2.1) = none := by
        unfold plaR at e
        rw [Int.toNat_natCast, Option.map_eq_none_iff] at e
        exact e
      refine ⟨hi.st, fun z hz => by have := hi.zs z hz; omega, ?_, hi.ind, fun i hin hiS => ?_⟩
      · unfold onlyK
        rw [hni, hi.only]
        simp
      · by_cases c1 : i = n
        · subst c1
          exact gathE_no hi.st hP.2 hy (.inl ⟨rfl, rfl⟩) e2
        · exact hi.rest i (by omega) hiS
    | some s =>
      simp only [Option.getD_some]
      obtain ⟨g1, g2, s1, g3⟩ := plaE_push hi.st hc hy e
      have hag : ∀ i, i < n → inS (s0.2.2 ++ [(n : Int)]) i = inS s0.2.2 i := fun i hi => by
        unfold inS
        have : ¬ (i : Int) = (n : Int) := by omega
        simp [this]
      have hin : inS (s0.2.2 ++ [(n : Int)]) n = true := decide_eq_true (by simp)
      have hE : plE l s.2.2 = plE l s0.2.2 ++ [l.getD n (0, 0)] := by rw [g1, plE_snoc, Int.toNat_natCast]
      refine ⟨by rw [hE]; exact g2, fun z hz => ?_, ?_, by rw [hE]; exact gathE_yes hi.st hy (.inl ⟨rfl, rfl⟩) g3 hi.ind, fun i hin' hiS => ?_⟩
      · rw [g1] at hz
        rcases List.mem_append.1 hz with h | h
        · have := hi.zs z h; omega
        · rw [List.mem_singleton] at h; omega
      · rw [hE, g1]
        unfold onlyK
        rw [hin, if_pos rfl, onlyK_agree l _ _ n hag, hi.only]
      · rw [hE]
        rw [g1] at hiS
        by_cases c1 : i = n
        · subst c1
          rw [hin] at hiS
          cases hiS
        · rw [hag i (by omega)] at hiS
          exact bad_more (hi.rest i (by omega) hiS)
/-- The rank of a list of bars. -/
def rk (P : Nat) (k c : Int) (l : List (Int × Int)) : Nat := (runN P k c l l.length).2.2.length
theorem rk_greedy {P : Nat} {k c : Int} {l : List (Int × Int)} (hb : Bars P l) (hP : 1 ≤ P ∧ P ≤ 8) (hk : 1 ≤ k) (hc : 0 ≤ c) : Greedy P k c l (plE l (runN P k c l l.length).2.2) (inS (runN P k c l l.length).2.2) := by
  have h := runN_gm hb hP hk hc l.length (Nat.le_refl _)
  exact ⟨h.only, h.ind, h.rest⟩
/-- Fewer bars, no more rank. -/
theorem rk_mono {P : Nat} {k c : Int} {l l' : List (Int × Int)} (hb : Bars P l) (hb' : Bars P l') (hP : 1 ≤ P ∧ P ≤ 8) (hk : 1 ≤ k) (hc : 0 ≤ c) (hc2 : c < 2 * k) (hs : l'.Sublist l) : rk P k c l' ≤ rk P k c l := by
  have := (rk_greedy hb hP hk hc).mono (rk_greedy hb' hP hk hc) hb hk hc hc2 hs
  rwa [plE_len, plE_len] at this
theorem rk_perm {P : Nat} {k c : Int} {l l' : List (Int × Int)} (hb : Bars P l) (hb' : Bars P l') (hP : 1 ≤ P ∧ P ≤ 8) (hk : 1 ≤ k) (hc : 0 ≤ c) (hc2 : c < 2 * k) (p : l'.Perm l) : rk P k c l' = rk P k c l := by
  have h1 := (rk_greedy hb hP hk hc).perm_le (rk_greedy hb' hP hk hc) hb hk hc hc2 p
  have h2 := (rk_greedy hb' hP hk hc).perm_le (rk_greedy hb hP hk hc) hb' hk hc hc2 p.symm
  rw [plE_len, plE_len] at h1 h2
  exact Nat.le_antisymm h1 h2
theorem plE_app {l : List (Int × Int)} (r : List (Int × Int)) {Z : List Int} (h : ∀ z ∈ Z, 0 ≤ z ∧ z < (l.length : Int)) : plE (l ++ r) Z = plE l Z := by
  unfold plE
  refine List.map_congr_left fun z hz => ?_
  have := h z hz
  simp only [List.getD]
  rw [List.getElem?_append_left (by omega)]
theorem runN_app {P : Nat} {k c : Int} {l : List (Int × Int)} (r : List (Int × Int)) (hb : Bars P l) (hP : 1 ≤ P ∧ P ≤ 8) (hk : 1 ≤ k) (hc : 0 ≤ c) : ∀ n, n ≤ l.length → runN P k c (l ++ r) n = runN P k c l n := by
  intro n
  induction n with
  | zero => intro _; rfl
  | succ n ih =>
    intro hn
    have h := runN_gm hb hP hk hc n (by omega)
    unfold runN
    rw [ih (by omega)]
    generalize runN P k c l n = s0 at *
    have e1 : plE (l ++ r) s0.2.2 = plE l s0.2.2 := plE_app r fun z hz => by have := h.zs z hz; omega
    have e2 : (l ++ r).getD (n : Int).toNat (0, 0) = l.getD (n : Int).toNat (0, 0) := by
      simp only [List.getD]
      rw [List.getElem?_append_left (by omega)]
    unfold plaR
    rw [e1, e2]
theorem bars_snoc {P : Nat} {l : List (Int × Int)} (hb : Bars P l) {y : Int × Int} (hy : 0 ≤ y.1 ∧ y.1 < y.2 ∧ y.2 < (P : Int)) : Bars P (l ++ [y]) := by
  refine ⟨fun i hi => ?_⟩
  rw [List.length_append, List.length_cons, List.length_nil] at hi
  by_cases e : i = l.length
  · subst e
    have : (l ++ [y]).getD l.length (0, 0) = y := by simp [List.getD]
    rw [this]
    exact hy
  · have : (l ++ [y]).getD i (0, 0) = l.getD i (0, 0) := by simp only [List.getD]; rw [List.getElem?_append_left (by omega)]
    rw [this]
    exact hb.bar i (by omega)
theorem bars_perm {P : Nat} {l l' : List (Int × Int)} (hb : Bars P l) (p : l'.Perm l) : Bars P l' := by
  refine ⟨fun i hi => ?_⟩
  have e : l'.getD i (0, 0) = l'[i] := by simp [List.getD, List.getElem?_eq_getElem hi]
  rw [e]
  have hm : l'[i] ∈ l := p.mem_iff.1 (List.getElem_mem hi)
  obtain ⟨j, hj, ej⟩ := List.getElem_of_mem hm
  have h := hb.bar j hj
  have e2 : l.getD j (0, 0) = l[j] := by simp [List.getD, List.getElem?_eq_getElem hj]
  rw [e2, ej] at h
  exact h
/-- One bar more raises the rank exactly if its ends can have a pebble more than c. -/
theorem rk_one {P : Nat} {k c : Int} {l l' : List (Int × Int)} (hb : Bars P l) (hP : 1 ≤ P ∧ P ≤ 8) (hk : 1 ≤ k) (hc : 0 ≤ c) (hc2 : c < 2 * k) {a b : Int} {y : Int × Int} (hy : 0 ≤ y.1 ∧ y.1 < y.2 ∧ y.2 < (P : Int)) (hab : Between y a b) (p : l'.Perm (l ++ [y])) :
    rk P k c l' = rk P k c l ↔ gathR (plE l (runN P k c l l.length).2.2) a b (c + 1) ((runN P k c l l.length).1, (runN P k c l l.length).2.1) = none := by
  have hb1 := bars_snoc hb hy
  rw [rk_perm hb1 (bars_perm hb1 p) hP hk hc hc2 p]
  have h := runN_gm hb hP hk hc l.length (Nat.le_refl _)
  have e0 := runN_app [y] hb hP hk hc l.length (Nat.le_refl _)
  have e2 : (l ++ [y]).getD l.length (0, 0) = y := by simp [List.getD]
  rw [gathE_iff h.st hP.2 h.ind hy hab, ← gathE_iff h.st hP.2 h.ind hy (.inl ⟨rfl, rfl⟩)]
  unfold rk
  rw [List.length_append, List.length_cons, List.length_nil, Nat.zero_add, runN, e0]
  generalize runN P k c l l.length = s0 at *
  have e1 : plE (l ++ [y]) s0.2.2 = plE l s0.2.2 := plE_app [y] h.zs
  unfold plaR
  rw [Int.toNat_natCast, e1, e2]
  cases gathR (plE l s0.2.2) y.1 y.2 (c + 1) (s0.1, s0.2.1) with
  | none => simp
  | some s => simp; split <;> simp
end Go.Proofs.Ytggibhhdnlifcaa
/- As many bars are placed as there are, at most. No program. No condition. -/
namespace Go.Proofs.Ytggibhhdnlifcaa
open Go.RowKit

theorem IsPeb.many {p k : Int} {l : List (Int × Int)} {F T Z : List Int} (h : IsPeb p k l F T Z) : Z.length ≤ l.length := by
  have q : ∀ i, i < Z.length → (i : Int) ≤ Z.getD i 0 := by
    intro i
    induction i with
    | zero => intro hi; exact (h.2.2.2.2.1 0 hi).1.1
    | succ i ih =>
      intro hi
      have h1 := ih (by omega)
      have h2 := (h.2.2.2.2.1 (i + 1) hi).2.1 (by omega)
      rw [show i + 1 - 1 = i by omega] at h2
      omega
  by_cases h0 : 0 < Z.length
  · have h1 := q (Z.length - 1) (by omega)
    have h2 := (h.2.2.2.2.1 (Z.length - 1) (by omega)).1.2
    omega
  · omega
end Go.Proofs.Ytggibhhdnlifcaa
/- How long the rows of a state are behind a bar's placing. No program. No condition. -/
namespace Go.Proofs.Ytggibhhdnlifcaa
open Go.RowKit

theorem rangeB_is {k c : Int} (h : rangeB k c = true) : (1 ≤ k ∧ k ≤ 3) ∧ 0 ≤ c ∧ c < 2 * k := by
  unfold rangeB at h
  simp only [Bool.and_eq_true, decide_eq_true_eq] at h
  omega
theorem IsPeb.lens {p k : Int} {l : List (Int × Int)} {F T Z : List Int} (h : IsPeb p k l F T Z) : F.length ≤ 8 ∧ T.length ≤ 24 ∧ Z.length ≤ 24 := by
  have h1 := h.1.1
  have h2 := h.1.2.1
  have h3 := h.2.2.1
  have h4 := h.2.2.2.1
  have h5 := h.many
  omega
/-- Placing a bar leaves the rows short. -/
theorem plaV_len (p k c : Int) (l : List (Int × Int)) (F T Z : List Int) (n : Int) (hF : F.length ≤ 1048576) (hT : T.length ≤ 1048576) (hZ : Z.length ≤ 1048576) :
    ((plaV p k c l F T Z n).getD (F, T, Z)).1.length ≤ 1048576 ∧ ((plaV p k c l F T Z n).getD (F, T, Z)).2.1.length ≤ 1048576 ∧ ((plaV p k c l F T Z n).getD (F, T, Z)).2.2.length ≤ 1048576 := by
  cases e : plaV p k c l F T Z n with
  | none => exact ⟨hF, hT, hZ⟩
  | some s =>
    unfold plaV at e
    by_cases q : isPebB p k l F T Z = true ∧ rangeB k c = true ∧ (0 ≤ n ∧ n < (l.length : Int)) ∧ (Z ≠ [] → Z.getD (Z.length - 1) 0 < n)
    · rw [if_pos q] at e
      have h := (plaR_ok (isPebB_is q.1) (rangeB_is q.2.1).2.1 q.2.2.1 q.2.2.2 e).1.lens
      rw [Option.getD_some]
      omega
    · rw [if_neg q] at e; cases e
end Go.Proofs.Ytggibhhdnlifcaa
/- What the pebble game answers, bar by bar. No program. No condition. -/
namespace Go.Proofs.Ytggibhhdnlifcaa
open Go.RowKit

/-- What RunPebbles answers. -/
noncomputable def runB (p k c : Int) (l : List (Int × Int)) : Bool := newB p k l && rangeB k c
noncomputable def runV (p k c : Int) (l : List (Int × Int)) : List Int × List Int × List Int := if runB p k c l = true then runN p.toNat k c l l.length else ([], [], [])
theorem runV_no {p k c : Int} {l : List (Int × Int)} (h : newB p k l = false ∨ rangeB k c = false) : runB p k c l = false ∧ runV p k c l = ([], [], []) := by
  have hb : runB p k c l = false := by
    unfold runB
    rcases h with h | h <;> rw [h] <;> simp
  exact ⟨hb, by unfold runV; rw [hb]; rfl⟩
theorem newB_is {p k : Int} {l : List (Int × Int)} (h : newB p k l = true) : IsG p l ∧ 1 ≤ k ∧ k ≤ 3 := by
  unfold newB at h
  simp only [Bool.and_eq_true, decide_eq_true_eq] at h
  exact ⟨Classical.byContradiction fun g => (by have h1 := h.1; rw [isGB_no g] at h1; cases h1), h.2.1, h.2.2⟩
theorem runV_yes {P : Nat} {k c : Int} {l : List (Int × Int)} (h : newB (P : Int) k l = true) (h2 : rangeB k c = true) : runB (P : Int) k c l = true ∧ runV (P : Int) k c l = runN P k c l l.length := by
  have hb : runB (P : Int) k c l = true := by unfold runB; rw [h, h2]; rfl
  exact ⟨hb, by unfold runV; rw [if_pos hb, Int.toNat_natCast]⟩
/-- A game that can be run, after n bars. -/
theorem runN_at {P : Nat} {k c : Int} {l : List (Int × Int)} (h : newB (P : Int) k l = true) (h2 : rangeB k c = true) {n : Nat} (hn : n ≤ l.length) : IsPeb (P : Int) k l (runN P k c l n).1 (runN P k c l n).2.1 (runN P k c l n).2.2 :=
  (runN_ok (newB_is h).1 (newB_is h).2 (rangeB_is h2).2.1 n hn).1
/-- One bar more. -/
theorem runN_step {P : Nat} {k c : Int} {l : List (Int × Int)} (h : newB (P : Int) k l = true) (h2 : rangeB k c = true) {n : Nat} (hn : n < l.length) :
    plaV (P : Int) k c l (runN P k c l n).1 (runN P k c l n).2.1 (runN P k c l n).2.2 (n : Int) = plaR l c (runN P k c l n).1 (runN P k c l n).2.1 (runN P k c l n).2.2 (n : Int) ∧
    runN P k c l (n + 1) = (plaR l c (runN P k c l n).1 (runN P k c l n).2.1 (runN P k c l n).2.2 (n : Int)).getD (runN P k c l n) := by
  obtain ⟨h3, h4, h5⟩ := runN_ok (newB_is h).1 (newB_is h).2 (rangeB_is h2).2.1 n (Nat.le_of_lt hn)
  refine ⟨?_, by rw [runN]⟩
  unfold plaV
  rw [if_pos ⟨isPebB_yes h3, h2, ⟨by omega, by omega⟩, h5⟩]
theorem runN_len {P : Nat} {k c : Int} {l : List (Int × Int)} (h : newB (P : Int) k l = true) (h2 : rangeB k c = true) {n : Nat} (hn : n ≤ l.length) : (runN P k c l n).1.length ≤ 8 ∧ (runN P k c l n).2.1.length ≤ 24 ∧ (runN P k c l n).2.2.length ≤ 24 :=
  (runN_at h h2 hn).lens
theorem runV_len (p k c : Int) (l : List (Int × Int)) : (runV p k c l).1.length ≤ 8 ∧ (runV p k c l).2.1.length ≤ 24 ∧ (runV p k c l).2.2.length ≤ 24 := by
  by_cases h : newB p k l = true
  · by_cases h2 : rangeB k c = true
    · have hG := (newB_is h).1
      obtain ⟨P, rfl⟩ : ∃ P : Nat, p = (P : Int) := ⟨p.toNat, by have := hG.1; omega⟩
      rw [(runV_yes h h2).2]
      exact runN_len h h2 (Nat.le_refl _)
    · rw [(runV_no (.inr (by simpa using h2))).2]; simp
  · rw [(runV_no (.inl (by simpa using h))).2]; simp
end Go.Proofs.Ytggibhhdnlifcaa
/- What IsImplied answers, by ranks and by the game's last state. No program's walk. No condition. -/
namespace Go.Proofs.Ytggibhhdnlifcaa
open Go.RowKit

/-- The bar between a and b, its lesser end first. -/
def barOf (a b : Int) : Int × Int := if a ≤ b then (a, b) else (b, a)
theorem insU_perm {x : Int × Int} {l : List (Int × Int)} (h : OrdB l) : (insU x l).Perm (l ++ [x]) := by
  rw [insU_low x l h]
  refine List.perm_middle.trans ?_
  rw [List.take_append_drop]
  exact (List.perm_append_singleton x l).symm
/-- What IsImplied answers. -/
noncomputable def impB (p a b : Int) (l : List (Int × Int)) : Bool := isGB p l && (decide (0 ≤ a ∧ a < p) && (decide (0 ≤ b ∧ b < p) && (decide (a = b) || decide (rk p.toNat 2 3 (insU (barOf a b) l) = rk p.toNat 2 3 l))))
theorem imp_no {p a b : Int} {l : List (Int × Int)} (h : isGB p l = false ∨ ¬ (0 ≤ a ∧ a < p) ∨ ¬ (0 ≤ b ∧ b < p)) : impB p a b l = false := by
  unfold impB
  rcases h with h | h | h
  · rw [h]; rfl
  · rw [decide_eq_false h]; simp
  · rw [decide_eq_false h]; simp
theorem imp_same {p a : Int} {l : List (Int × Int)} (h : isGB p l = true) (ha : 0 ≤ a ∧ a < p) : impB p a a l = true := by
  unfold impB
  rw [h, decide_eq_true ha]
  simp
theorem imp_rk {p a b : Int} {l : List (Int × Int)} (h : isGB p l = true) (ha : 0 ≤ a ∧ a < p) (hb : 0 ≤ b ∧ b < p) (hab : a ≠ b) : impB p a b l = decide (rk p.toNat 2 3 (insU (barOf a b) l) = rk p.toNat 2 3 l) := by
  unfold impB
  rw [h, decide_eq_true ha, decide_eq_true hb, decide_eq_false hab]
  simp
theorem barOf_in {p a b : Int} (ha : 0 ≤ a ∧ a < p) (hb : 0 ≤ b ∧ b < p) (hab : a ≠ b) : (0 ≤ (barOf a b).1 ∧ (barOf a b).1 < (barOf a b).2 ∧ (barOf a b).2 < p) ∧ Between (barOf a b) a b := by
  unfold barOf Between
  split <;> simp <;> omega
theorem bars_ofI {P : Nat} {l : List (Int × Int)} (hG : IsG (P : Int) l) : Bars P l := ⟨fun i hi => by have := hG.2.2 i hi; unfold OkBar at this; exact ⟨this.1, this.2.1, this.2.2.1⟩⟩
theorem run23 {p : Int} {l : List (Int × Int)} (h : isGB p l = true) : newB p 2 l = true ∧ rangeB 2 3 = true := by
  unfold newB
  rw [h]
  exact ⟨rfl, rfl⟩
theorem runB23 {p : Int} {l : List (Int × Int)} (h : isGB p l = true) : runB p 2 3 l = true := by
  unfold runB
  rw [(run23 h).1, (run23 h).2]
  rfl
theorem runB23_no {p : Int} {l : List (Int × Int)} (h : isGB p l = false) : runB p 2 3 l = false := by
  unfold runB newB
  rw [h]
  rfl
/-- The same, asked of the game's last state. -/
theorem imp_gath {P : Nat} {a b : Int} {l : List (Int × Int)} (hG : IsG (P : Int) l) (ha : 0 ≤ a ∧ a < (P : Int)) (hb : 0 ≤ b ∧ b < (P : Int)) (hab : a ≠ b) :
    impB (P : Int) a b l = !(gathR (plE l (runN P 2 3 l l.length).2.2) a b 4 ((runN P 2 3 l l.length).1, (runN P 2 3 l l.length).2.1)).isSome := by
  obtain ⟨h1, h2⟩ := barOf_in ha hb hab
  have h3 := rk_one (k := 2) (c := 3) (bars_ofI hG) (by have := hG.1; omega) (by omega) (by omega) (by omega) h1 h2 (insU_perm (x := barOf a b) (isG_ord hG))
  rw [imp_rk (isGB_yes hG) ha hb hab, Int.toNat_natCast]
  have e : (3 : Int) + 1 = 4 := rfl
  rw [e] at h3
  cases hg : gathR (plE l (runN P 2 3 l l.length).2.2) a b 4 ((runN P 2 3 l l.length).1, (runN P 2 3 l l.length).2.1) with
  | none => rw [decide_eq_true (h3.2 hg)]; rfl
  | some s => rw [decide_eq_false (fun q => by have := h3.1 q; rw [hg] at this; cases this)]; rfl
end Go.Proofs.Ytggibhhdnlifcaa
/- A row of ints that is collected: its range is the first one, or new; what else was there stands. No program's walk. No condition. -/
namespace Go.Proofs.Ytggibhhdnlifcaa
open Go.RowKit

structure GrowP (a b : Nat) (V W : World) (ys : List Int) (A : Option Addr) (cap lo hi : Nat) : Prop where
  row : OwnR W lo hi A cap ys
  rng : (lo = a ∧ hi = b) ∨ V.heap.size ≤ lo
  le : lo ≤ W.heap.size
  wi : Within a b V W
theorem GrowP.push {a b : Nat} {V W W' : World} {ys : List Int} {y : Int} {A A' : Option Addr} {cap lo hi c' lo' hi' : Nat} (h : GrowP a b V W ys A cap lo hi) (hr : OwnR W' lo' hi' A' c' (ys ++ [y])) (hd : (lo' = lo ∧ hi' = hi) ∨ (W.heap.size ≤ lo' ∧ lo' ≤ W'.heap.size ∧ hi' ≤ W'.heap.size)) (hw : Within lo hi W W') : GrowP a b V W' (ys ++ [y]) A' c' lo' hi' := by
  obtain ⟨_, h2, h3, h4⟩ := h
  have s1 := h4.size
  have s2 := hw.size
  refine ⟨hr, ?_, ?_, ⟨hw.os.trans h4.os, hw.tape.trans h4.tape, hw.output.trans h4.output, Nat.le_trans s1 s2, fun i hi hd => (hw.block i (by omega) (by omega)).trans (h4.block i hi hd)⟩⟩
  · rcases hd with ⟨rfl, rfl⟩ | hd
    · exact h2
    · exact .inr (by omega)
  · rcases hd with ⟨rfl, rfl⟩ | hd
    · omega
    · exact hd.2.1
theorem GrowP.out {a b : Nat} {V W : World} {ys : List Int} {A : Option Addr} {cap lo hi : Nat} (h : GrowP a b V W ys A cap lo hi) {B : Nat} (h1 : B ≤ a) (h2 : B ≤ V.heap.size) : OwnInts W B W.heap.size A cap ys :=
  h.row.ints.widen (by have := h.rng; omega) h.row.1 (Nat.le_refl _)
end Go.Proofs.Ytggibhhdnlifcaa
/- What ComponentOfBar answers, as a list and as a set. No program's walk. No condition. -/
namespace Go.Proofs.Ytggibhhdnlifcaa
open Go.RowKit

theorem GrowP.blw {a b : Nat} {V W W' : World} {ys : List Int} {A : Option Addr} {cap lo hi : Nat} (h : GrowP a b V W ys A cap lo hi) (hb : Below W.heap.size W W') : GrowP a b V W' ys A cap lo hi :=
  ⟨h.row.within (within_of hb) (.inr (Nat.zero_le _)), h.rng, Nat.le_trans h.le hb.size, ⟨hb.os.trans h.wi.os, hb.tape.trans h.wi.tape, hb.output.trans h.wi.output, Nat.le_trans h.wi.size hb.size, fun i hi hd => (hb.block i (Nat.lt_of_lt_of_le hi h.wi.size)).trans (h.wi.block i hi hd)⟩⟩
/-- Do both ends of a bar hold v? -/
noncomputable def heldB (p : Int) (l : List (Int × Int)) (x : Int × Int) (v : Nat) : Bool := impB p x.1 (v : Int) l && impB p x.2 (v : Int) l
noncomputable def cobK (p : Int) (l : List (Int × Int)) (x : Int × Int) (n : Nat) : List Int := outF n (heldB p l x)
/-- What ComponentOfBar answers. -/
noncomputable def cobV (p i : Int) (l : List (Int × Int)) : List Int := if (isGB p l && (decide (0 ≤ i) && decide (i < (l.length : Int)))) = true then cobK p l (l.getD i.toNat (0, 0)) p.toNat else []
theorem cobK_in {p : Int} {l : List (Int × Int)} {x : Int × Int} {n : Nat} (h : heldB p l x n = true) : cobK p l x (n + 1) = cobK p l x n ++ [(n : Int)] := by
  unfold cobK
  rw [outF_succ, h]
  rfl
theorem cobK_out {p : Int} {l : List (Int × Int)} {x : Int × Int} {n : Nat} (h : heldB p l x n = false) : cobK p l x (n + 1) = cobK p l x n := by
  unfold cobK
  rw [outF_succ, h]
  simp
theorem cobK_len (p : Int) (l : List (Int × Int)) (x : Int × Int) (n : Nat) : (cobK p l x n).length ≤ n := outF_len _ _
theorem cobV_no {p i : Int} {l : List (Int × Int)} (h : isGB p l = false ∨ i < 0 ∨ (l.length : Int) ≤ i) : cobV p i l = [] := by
  unfold cobV
  rw [if_neg]
  rcases h with h | h | h
  · rw [h]; simp
  · rw [decide_eq_false (show ¬ 0 ≤ i by omega)]; simp
  · rw [decide_eq_false (show ¬ i < (l.length : Int) by omega)]; simp
theorem cobV_yes {P j : Nat} {l : List (Int × Int)} (h : isGB (P : Int) l = true) (hj : j < l.length) : cobV (P : Int) (j : Int) l = cobK (P : Int) l (l.getD j (0, 0)) P := by
  unfold cobV
  rw [if_pos (by rw [h, decide_eq_true (show (0 : Int) ≤ (j : Int) by omega), decide_eq_true (show (j : Int) < (l.length : Int) by omega)]; rfl), Int.toNat_natCast, Int.toNat_natCast]
theorem cobV_len (p i : Int) (l : List (Int × Int)) : (cobV p i l).length ≤ 8 := by
  by_cases h : isGB p l = true
  · have hG : IsG p l := Classical.byContradiction fun g => by rw [isGB_no g] at h; cases h
    unfold cobV
    split
    · have := cobK_len p l (l.getD i.toNat (0, 0)) p.toNat
      have := hG.1
      omega
    · simp
  · rw [cobV_no (.inl (by simpa using h))]; simp
/-- The same points as a set. -/
noncomputable def cobS (p : Int) (l : List (Int × Int)) (x : Int × Int) : Nat → Nat
  | 0 => 0
  | n + 1 => if heldB p l x n = true then cobS p l x n ||| 2 ^ n else cobS p l x n
theorem cobS_lt (p : Int) (l : List (Int × Int)) (x : Int × Int) (n : Nat) : cobS p l x n < 2 ^ n := by
  induction n with
  | zero => simp [cobS]
  | succ n ih =>
    have h1 : 2 ^ n < 2 ^ (n + 1) := Nat.pow_lt_pow_right (by decide) (by omega)
    unfold cobS
    split
    · exact Nat.or_lt_two_pow (by omega) h1
    · omega
theorem cobS_bit (p : Int) (l : List (Int × Int)) (x : Int × Int) (n v : Nat) : (cobS p l x n).testBit v = (decide (v < n) && heldB p l x v) := by
  induction n with
  | zero => simp [cobS]
  | succ n ih =>
    unfold cobS
    by_cases c : v = n
    · subst c
      have h0 : (cobS p l x v).testBit v = false := Nat.testBit_lt_two_pow (cobS_lt p l x v)
      cases h : heldB p l x v with
      | true => rw [if_pos rfl, Nat.testBit_or, Nat.testBit_two_pow_self]; simp
      | false => rw [if_neg (by simp), h0]; simp
    · have h2 : (2 ^ n).testBit v = false := by rw [Nat.testBit_two_pow]; simp; omega
      have hd : decide (v < n + 1) = decide (v < n) := decide_eq_decide.2 (by omega)
      split
      · rw [Nat.testBit_or, ih, h2, Bool.or_false, hd]
      · rw [ih, hd]
theorem cobS_list (p : Int) (l : List (Int × Int)) (x : Int × Int) (P : Nat) : setL P (cobS p l x P) = cobK p l x P := by
  unfold setL cobK
  refine outF_agree P _ _ fun v hv => ?_
  rw [cobS_bit, decide_eq_true hv, Bool.true_and]
theorem cobS_in {p : Int} {l : List (Int × Int)} {x : Int × Int} {n : Nat} (h : heldB p l x n = true) : cobS p l x (n + 1) = cobS p l x n ||| 2 ^ n := by rw [cobS, if_pos h]
theorem cobS_out {p : Int} {l : List (Int × Int)} {x : Int × Int} {n : Nat} (h : heldB p l x n = false) : cobS p l x (n + 1) = cobS p l x n := by rw [cobS, if_neg (by rw [h]; simp)]
theorem bit_orU : ∀ m : Nat, m < 256 → ∀ v : Nat, v < 8 → bits .or .u64 (m : Int) (IntKind.u64.wrap (2 ^ v)) = ((m ||| 2 ^ v : Nat) : Int) := by decide +kernel
end Go.Proofs.Ytggibhhdnlifcaa
/- What ComponentsOf answers, as lists and as sets of bits. No program's walk. No condition. -/
namespace Go.Proofs.Ytggibhhdnlifcaa
open Go.RowKit

/-- Two sets of fewer than P bits with the same list are the same. -/
theorem setL_inj {P a b : Nat} (ha : a < 2 ^ P) (hb : b < 2 ^ P) (h : setL P a = setL P b) : a = b := by
  refine Nat.eq_of_testBit_eq fun v => ?_
  by_cases hv : v < P
  · have e : ((v : Int) ∈ setL P a) ↔ ((v : Int) ∈ setL P b) := by rw [h]
    have m : ∀ c : Nat, ((v : Int) ∈ setL P c) ↔ c.testBit v = true := fun c => by
      unfold setL
      rw [mem_outF]
      constructor
      · rintro ⟨u, _, h2, h3⟩
        have : u = v := by omega
        subst this
        exact h2
      · exact fun h2 => ⟨v, hv, h2, rfl⟩
    rw [m, m] at e
    exact Bool.eq_iff_iff.2 e
  · have hp : 2 ^ P ≤ 2 ^ v := Nat.pow_le_pow_right (by decide) (by omega)
    rw [Nat.testBit_lt_two_pow (by omega), Nat.testBit_lt_two_pow (by omega)]
/-- A list's items, each once, in the order in which they come first: one item more. -/
def addU {α : Type} [DecidableEq α] (ys : List α) (x : α) : List α := if x ∈ ys then ys else ys ++ [x]
theorem addU_in {α : Type} [DecidableEq α] {ys : List α} {x : α} (h : x ∈ ys) : addU ys x = ys := by unfold addU; rw [if_pos h]
theorem addU_out {α : Type} [DecidableEq α] {ys : List α} {x : α} (h : ¬ x ∈ ys) : addU ys x = ys ++ [x] := by unfold addU; rw [if_neg h]
theorem addU_len {α : Type} [DecidableEq α] (ys : List α) (x : α) : (addU ys x).length ≤ ys.length + 1 := by
  unfold addU
  split <;> simp
theorem addU_map {ys : List Nat} {x P : Nat} (hx : x < 2 ^ P) (hy : ∀ y ∈ ys, y < 2 ^ P) : addU (ys.map (setL P)) (setL P x) = (addU ys x).map (setL P) := by
  by_cases h : x ∈ ys
  · rw [addU_in h, addU_in (List.mem_map.2 ⟨x, h, rfl⟩)]
  · rw [addU_out h, addU_out, List.map_append]
    · rfl
    · intro h2
      obtain ⟨y, h3, h4⟩ := List.mem_map.1 h2
      have := setL_inj (hy y h3) hx h4
      subst this
      exact h h3
/-- The sets of the first n bars' components, each once. -/
noncomputable def comS (p : Int) (l : List (Int × Int)) (P : Nat) : Nat → List Nat
  | 0 => []
  | n + 1 => addU (comS p l P n) (cobS p l (l.getD n (0, 0)) P)
/-- The same by lists. -/
noncomputable def comK (p : Int) (l : List (Int × Int)) (P : Nat) : Nat → List (List Int)
  | 0 => []
  | n + 1 => addU (comK p l P n) (cobK p l (l.getD n (0, 0)) P)
theorem comS_lt (p : Int) (l : List (Int × Int)) (P n : Nat) : ∀ y ∈ comS p l P n, y < 2 ^ P := by
  induction n with
  | zero => intro y hy; simp [comS] at hy
  | succ n ih =>
    intro y hy
    unfold comS at hy
    by_cases h : cobS p l (l.getD n (0, 0)) P ∈ comS p l P n
    · rw [addU_in h] at hy
      exact ih y hy
    · rw [addU_out h, List.mem_append, List.mem_singleton] at hy
      rcases hy with hy | rfl
      · exact ih y hy
      · exact cobS_lt _ _ _ _
theorem comS_len (p : Int) (l : List (Int × Int)) (P n : Nat) : (comS p l P n).length ≤ n := by
  induction n with
  | zero => simp [comS]
  | succ n ih =>
    unfold comS
    have := addU_len (comS p l P n) (cobS p l (l.getD n (0, 0)) P)
    omega
theorem comK_map (p : Int) (l : List (Int × Int)) (P n : Nat) : comK p l P n = (comS p l P n).map (setL P) := by
  induction n with
  | zero => rfl
  | succ n ih => rw [comK, comS, ih, ← cobS_list, addU_map (cobS_lt _ _ _ _) (comS_lt _ _ _ _)]
theorem comK_len (p : Int) (l : List (Int × Int)) (P n : Nat) : (comK p l P n).length ≤ n := by
  rw [comK_map, List.length_map]
  exact comS_len p l P n
/-- What ComponentsOf answers. -/
noncomputable def comV (p : Int) (l : List (Int × Int)) : List (List Int) := if isGB p l = true then comK p l p.toNat l.length else []
theorem comV_no {p : Int} {l : List (Int × Int)} (h : isGB p l = false) : comV p l = [] := by
  unfold comV
  rw [if_neg (by rw [h]; simp)]
theorem comV_yes {P : Nat} {l : List (Int × Int)} (h : isGB (P : Int) l = true) : comV (P : Int) l = comK (P : Int) l P l.length := by
  unfold comV
  rw [if_pos h, Int.toNat_natCast]
theorem comV_set {P : Nat} {l : List (Int × Int)} (h : isGB (P : Int) l = true) : comV (P : Int) l = (comS (P : Int) l P l.length).map (setL P) := by
  rw [comV_yes h, comK_map]
theorem comV_len (p : Int) (l : List (Int × Int)) : (comV p l).length ≤ l.length := by
  unfold comV
  split
  · exact comK_len p l _ _
  · simp
/-- Each row has at most P numbers. -/
theorem comK_rows (p : Int) (l : List (Int × Int)) (P n : Nat) : ∀ r ∈ comK p l P n, r.length ≤ P := by
  intro r hr
  rw [comK_map] at hr
  obtain ⟨y, _, rfl⟩ := List.mem_map.1 hr
  exact setL_len P y
end Go.Proofs.Ytggibhhdnlifcaa
/- A row's range is chosen so that it begins in the heap; what a state of the call's own asks ahead of a bar's placing. No program's walk. No condition. -/
namespace Go.Proofs.Ytggibhhdnlifcaa
open Go.RowKit

theorem OwnR.norm {W : World} {r : Nat × Nat} {A : Option Addr} {cap : Nat} {zs : List Int} (h : OwnR W r.1 r.2 A cap zs) : ∃ q : Nat × Nat, OwnR W q.1 q.2 A cap zs ∧ q.1 ≤ W.heap.size ∧ (q = r ∨ q = (W.heap.size, W.heap.size)) := by
  rcases h.2 with e | ⟨g, e, h1, h2, ho⟩
  · exact ⟨(W.heap.size, W.heap.size), ⟨Nat.le_refl _, .inl e⟩, Nat.le_refl _, .inr rfl⟩
  · exact ⟨r, h, by have := h.1; omega, .inl rfl⟩
theorem OwnF.norm {W : World} {f t z : Nat × Nat} {AF AT AZ : Option Addr} {cF cT cZ : Nat} {F T Z : List Int} (h : OwnF W f t z AF cF AT cT AZ cZ F T Z) {B pb : Nat} (hB : B ≤ W.heap.size) (hp : pb < W.heap.size) (h2 : B ≤ t.1) (h3 : B ≤ z.1) (p2 : pb < t.1 ∨ t.2 ≤ pb) (p3 : pb < z.1 ∨ z.2 ≤ pb) :
    ∃ t' z' : Nat × Nat, OwnF W f t' z' AF cF AT cT AZ cZ F T Z ∧ B ≤ t'.1 ∧ B ≤ z'.1 ∧ (pb < t'.1 ∨ t'.2 ≤ pb) ∧ (pb < z'.1 ∨ z'.2 ≤ pb) ∧ t'.1 ≤ W.heap.size ∧ z'.1 ≤ W.heap.size := by
  obtain ⟨o1, o2, o3, d1, d2, d3⟩ := h
  obtain ⟨t', o2', l2, e2⟩ := o2.norm
  obtain ⟨z', o3', l3, e3⟩ := o3.norm
  have s1 := o1.1
  have s2 := o2.1
  have s3 := o3.1
  unfold Dis at d1 d2 d3
  refine ⟨t', z', ⟨o1, o2', o3', ?_, ?_, ?_⟩, ?_, ?_, ?_, ?_, l2, l3⟩
  all_goals (rcases e2 with rfl | rfl <;> rcases e3 with rfl | rfl)
  all_goals (first | omega | (unfold Dis; omega) | (unfold Dis; simp only []; omega))
theorem BarsIn.widen {W : World} {lo hi lo' hi' : Nat} {A : Option Addr} {l : List (Int × Int)} (h : BarsIn W lo hi A l) (h1 : lo' ≤ lo) (h2 : hi ≤ hi') (h3 : hi' ≤ W.heap.size) : BarsIn W lo' hi' A l :=
  ⟨h3, fun hl => by
    obtain ⟨b, off, e, b1, b2, hc⟩ := h.2 hl
    exact ⟨b, off, e, by omega, by omega, hc⟩⟩
end Go.Proofs.Ytggibhhdnlifcaa
/- What stands in the walk of spec.l6Rank: the state, the new state beside it, and the steps between. No program's walk. No condition. -/
namespace Go.Proofs.Ytggibhhdnlifcaa
open Go.RowKit

/-- An append of one number, in a region that draws its order. -/
theorem step_pushR (w : World) {ops : Array Oper} {o : Oper} {a : Act} {K : Act → World → Prop} {Q : Exit → Act → World → Prop} {E : Prop} (hgd : o.guard = none) (s x : Operand)
    (ho : o.op = .call { callee := .builtin .append, args := #[s, x], argTypes := #[61, 61] }) (lo hi : Nat) (A : Option Addr) (cap : Nat) (zs : List Int) (y : Int) (hs : a.eval s = .slice A zs.length cap) (hr : OwnR w lo hi A cap zs)
    (tb : TypeId) (hx : a.eval x = .slice (some ⟨w.heap.size, 0, none⟩) 1 1) (hn : zs.length ≤ 1048576) (hlo : lo ≤ w.heap.size)
    (h : ∀ A' c' w' lo' hi', OwnR w' lo' hi' A' c' (zs ++ [y]) → ((lo' = lo ∧ hi' = hi) ∨ (w.heap.size ≤ lo' ∧ lo' ≤ w'.heap.size ∧ hi' ≤ w'.heap.size)) → Within lo hi w w' → K (a.put o.dst (.slice A' (zs.length + 1) c')) w') : if Region.wanted o (yielded ops a.tmps) = true then Oper.wp Try.prog o a (w.alloc (.cells #[.int .i64 y] tb)) K Q else E := by
  have hwt : Region.wanted o (yielded ops a.tmps) = true := by simp [Region.wanted, hgd]
  rw [if_pos hwt]
  have hlen : (zs ++ [y]).length = zs.length + 1 := by simp
  have hcells : intCells (zs ++ [y]) = intCells zs ++ [.int .i64 y] := by simp [intCells]
  obtain ⟨i, hi0, hz0, hz1, hz2⟩ := info_parts infoInt
  obtain ⟨v', w', hrun, hown, hg, _, hat⟩ := run_append_own_at (P := Try.prog) (w.alloc (.cells #[.int .i64 y] tb)) lo 61 o.type 3 i (.int .i64 0) 1 8 Try.underlying61 hi0 hz0 hz1 hz2 rfl (by decide) _ zs.length (intCells zs) (hr.row.alloc _) ⟨w.heap.size, 0, none⟩ 1 1 [.int .i64 y] rfl (cell_one_new w _ _) (by simp [Value.oneCell']) (by unfold maxLen; omega) (by omega) (by simp; omega)
  unfold Oper.wp execOp
  simp only [ho, resolve, invoke, builtin, Sem.run_bind, Sem.run_pure, Result.andThen_ok, List.map_toArray, List.map_cons, List.map_nil, hs, hx, hrun]
  obtain ⟨A', c', rfl⟩ := own_shape hown
  rw [← hcells, ← hlen] at hown
  rw [← hlen] at hat ⊢
  have hg := (World.grownBy_alloc w (.cells #[.int .i64 y] tb) (Value.slice A zs.length cap).ownBlock).trans_ hg
  have hw : Within lo hi w w' := ⟨hg.os, hg.tape, hg.output, hg.size, fun k hk hd => hg.block k hk fun e => by
    rcases hr.2 with ⟨rfl, rfl, rfl⟩ | ⟨g, rfl, g1, g2, _⟩
    · cases e
    · have : k = g := by simpa [Value.ownBlock] using e
      omega⟩
  rcases hown.2 with ⟨_, e0⟩ | ⟨g', cap', cur, e1, _⟩
  · rw [hlen] at e0; omega
  · injection e1 with q1 q2 q3
    subst q1
    have hlt := hown.lt g' rfl
    have hat : (Value.slice (some ⟨g', 0, none⟩) (zs ++ [y]).length c').ownBlock = (Value.slice A zs.length cap).ownBlock ∨ (Value.slice (some ⟨g', 0, none⟩) (zs ++ [y]).length c').ownBlock = some (w.heap.size + 1) := by simpa using hat
    rcases hat with e | e
    · rcases hr.2 with ⟨rfl, rfl, rfl⟩ | ⟨g, rfl, g1, g2, _⟩
      · cases e
      · have : g' = g := by simpa [Value.ownBlock] using e
        subst this
        have := h _ c' w' lo hi ⟨Nat.le_trans hr.1 hg.size, .inr ⟨g', rfl, g1, g2, hown⟩⟩ (.inl ⟨rfl, rfl⟩) hw
        rwa [← hlen] at this
    · have : g' = w.heap.size + 1 := by simpa [Value.ownBlock] using e
      have := h _ c' w' g' (g' + 1) ⟨hlt.2, .inr ⟨g', rfl, Nat.le_refl _, by omega, own_rebase hown (Nat.le_refl _)⟩⟩ (.inr ⟨by omega, by omega, hlt.2⟩) hw
      rwa [← hlen] at this
/-- The graph's box, the state's box and what it reads. -/
structure L6I (w W : World) (P : Nat) (A : Option Addr) (cap : Nat) (l : List (Int × Int)) (pb lo hi : Nat) (AF AT AZ : Option Addr) (cF cT cZ : Nat) (F T Z : List Int) : Prop where
  gb : Box W w.heap.size (P : Int) (.slice A l.length cap)
  st : Cel3 W pb 63 (.slice AF F.length cF) (.slice AT T.length cT) (.slice AZ Z.length cZ)
  src : Peb3 W lo hi AF AT AZ F T Z
  bars : BarsIn W 0 w.heap.size A l
  bel : Below w.heap.size w W
  hlo : w.heap.size < pb ∧ (pb < lo ∨ hi ≤ pb)
section
variable {w wr W W' : World} {P cap pb lo hi cF cT cZ : Nat} {A AF AT AZ : Option Addr} {l : List (Int × Int)} {F T Z : List Int}
theorem L6I.below (h : L6I w W P A cap l pb lo hi AF AT AZ cF cT cZ F T Z) (hb : Below W.heap.size W W') : L6I w W' P A cap l pb lo hi AF AT AZ cF cT cZ F T Z :=
  ⟨h.gb.kept hb, h.st.kept hb, h.src.within (within_of hb) (.inr (Nat.zero_le _)), h.bars.within (within_of hb) (.inr (Nat.zero_le _)), below_on h.bel hb h.bel.size, h.hlo⟩
/-- The cells that a round reads. -/
theorem L6I.cells (h : L6I w W P A cap l pb lo hi AF AT AZ cF cT cZ F T Z) {bb boff j : Nat} (hA : A = some ⟨bb, boff, none⟩) (hj : j < l.length) {a b : Int} (hx : l.getD j (0, 0) = (a, b)) :
    W.cell? ⟨w.heap.size, 0, none⟩ = some (.int .i64 (P : Int)) ∧ W.cell? ⟨w.heap.size, 1, none⟩ = some (.slice A l.length cap) ∧ W.cell? ⟨pb, 0, none⟩ = some (.slice AF F.length cF) ∧ W.cell? ⟨pb, 1, none⟩ = some (.slice AT T.length cT) ∧ W.cell? ⟨pb, 2, none⟩ = some (.slice AZ Z.length cZ) ∧ W.cell? ⟨bb, boff + j * 2, none⟩ = some (.int .i64 a) ∧ W.cell? ⟨bb, boff + j * 2 + 1, none⟩ = some (.int .i64 b) := by
  obtain ⟨c0, c1, c2, _⟩ := h.st.cells
  obtain ⟨b', o', e', _, _, hc⟩ := h.bars.2 (by omega)
  rw [hA] at e'
  cases e'
  have := hc j hj
  rw [hx] at this
  exact ⟨h.gb.2.1, h.gb.2.2, c0, c1, c2, this.1, this.2⟩
end
/-- The new state beside it, whose rows are the call's own. -/
structure L6X (wr W : World) (xb : Nat) (f t z : Nat × Nat) (gF : Nat) (BT BZ : Option Addr) (dF dT dZ : Nat) (F T Z : List Int) : Prop where
  xst : Cel3 W xb 63 (.slice (some ⟨gF, 0, none⟩) F.length dF) (.slice BT T.length dT) (.slice BZ Z.length dZ)
  own : OwnF W f t z (some ⟨gF, 0, none⟩) dF BT dT BZ dZ F T Z
  gf : f.1 ≤ gF ∧ gF < f.2
  ge : wr.heap.size ≤ f.1 ∧ wr.heap.size ≤ t.1 ∧ wr.heap.size ≤ z.1 ∧ wr.heap.size ≤ xb
  xd : (xb < f.1 ∨ f.2 ≤ xb) ∧ (xb < t.1 ∨ t.2 ≤ xb) ∧ (xb < z.1 ∨ z.2 ≤ xb)
  le : t.1 ≤ W.heap.size ∧ z.1 ≤ W.heap.size
  bel : Below wr.heap.size wr W
section
variable {wr W W' : World} {xb gF dF dT dZ : Nat} {f t z : Nat × Nat} {BT BZ : Option Addr} {F T Z : List Int}
theorem L6X.below (h : L6X wr W xb f t z gF BT BZ dF dT dZ F T Z) (hb : Below W.heap.size W W') : L6X wr W' xb f t z gF BT BZ dF dT dZ F T Z :=
  ⟨h.xst.kept hb, h.own.below hb, h.gf, h.ge, h.xd, ⟨Nat.le_trans h.le.1 hb.size, Nat.le_trans h.le.2 hb.size⟩, below_on h.bel hb h.bel.size⟩
theorem L6X.row (h : L6X wr W xb f t z gF BT BZ dF dT dZ F T Z) (hF : 0 < F.length) : W.ownsRow 0 3 1 (.slice (some ⟨gF, 0, none⟩) F.length dF) F.length (intCells F) := by
  obtain ⟨g, e, _, _, ho⟩ := h.own.1.open_ hF
  cases e
  exact ho
theorem L6X.cellF (h : L6X wr W xb f t z gF BT BZ dF dT dZ F T Z) {i : Nat} (hi : i < F.length) : W.cell? ⟨gF, i, none⟩ = some (.int .i64 (F.getD i 0)) ∧ W.frozen? ⟨gF, i, none⟩ = false :=
  ⟨((h.row (by omega)).cellAt i (by omega)).trans (intCells_get F i (by omega)), (h.row (by omega)).frozenAt i⟩
theorem L6X.setF (h : L6X wr W xb f t z gF BT BZ dF dT dZ F T Z) (hF : 0 < F.length) (i : Nat) (v : Int) : L6X wr (W.setCell ⟨gF, i, none⟩ (.int .i64 v)) xb f t z gF BT BZ dF dT dZ (F.set i v) T Z := by
  have hw := within_set W gF i (.int .i64 v)
  obtain ⟨o1, o2, o3, d1, d2, d3⟩ := h.own
  have hg := h.gf
  have hx := h.xd
  have hge := h.ge
  have hst := ((h.row hF).stored i (.int .i64 v)).1
  rw [intCells_set] at hst
  have d1' := d1
  have d2' := d2
  unfold Dis at d1' d2'
  have hs := hw.size
  refine ⟨by rw [List.length_set]; exact h.xst.within hw (by omega), ⟨⟨Nat.le_trans o1.1 hs, .inr ⟨gF, rfl, hg.1, hg.2, ?_⟩⟩, o2.within hw (by omega), o3.within hw (by omega), d1, d2, d3⟩, hg, hge, hx, ⟨Nat.le_trans h.le.1 hs, Nat.le_trans h.le.2 hs⟩, within_on h.bel hw h.bel.size (.inl (by omega))⟩
  · rw [List.length_set]
    exact own_rebase hst hg.1
theorem L6X.pushT (h : L6X wr W xb f t z gF BT BZ dF dT dZ F T Z) {A' : Option Addr} {c' lo' hi' : Nat} {y : Int} (hr : OwnR W' lo' hi' A' c' (T ++ [y])) (hd : (lo' = t.1 ∧ hi' = t.2) ∨ (W.heap.size ≤ lo' ∧ lo' ≤ W'.heap.size ∧ hi' ≤ W'.heap.size)) (hw : Within t.1 t.2 W W') :
    Cel3 W' xb 63 (.slice (some ⟨gF, 0, none⟩) F.length dF) (.slice BT T.length dT) (.slice BZ Z.length dZ) ∧ L6X wr (W'.setCell ⟨xb, 1, none⟩ (.slice A' (T.length + 1) c')) xb f (lo', hi') z gF A' BZ dF c' dZ F (T ++ [y]) Z := by
  obtain ⟨o1, o2, o3, d1, d2, d3⟩ := h.own
  have hx := h.xd
  have hge := h.ge
  have hle := h.le
  have hlt := h.xst.lt
  have s1 := hw.size
  have r1 := o1.1
  have r3 := o3.1
  have hx5 := h.xst.within hw hx.2.1
  have hs := within_set W' xb 1 (.slice A' (T.length + 1) c')
  unfold Dis at d1 d2 d3
  have p1 := (o1.within hw (by omega)).within hs (by omega)
  have p3 := (o3.within hw (by omega)).within hs (by omega)
  have p2 := hr.within hs (by omega)
  have s2 := hs.size
  have hb1 : Below wr.heap.size wr W' := within_on h.bel hw h.bel.size (.inl (by omega))
  refine ⟨hx5, ⟨?_, ⟨p1, p2, p3, ?_, d2, ?_⟩, h.gf, ⟨hge.1, by show _ ≤ lo'; have := h.bel.size; omega, hge.2.2.1, hge.2.2.2⟩, ⟨hx.1, by show xb < lo' ∨ hi' ≤ xb; omega, hx.2.2⟩, ⟨by show lo' ≤ _; omega, by omega⟩, within_on hb1 hs hb1.size (.inl (by omega))⟩⟩
  · have := hx5.set1 (.slice A' (T.length + 1) c')
    rwa [List.length_append, List.length_singleton]
  · unfold Dis; show f.2 ≤ lo' ∨ hi' ≤ f.1; omega
  · unfold Dis; show hi' ≤ z.1 ∨ z.2 ≤ lo'; omega
theorem L6X.pushZ (h : L6X wr W xb f t z gF BT BZ dF dT dZ F T Z) {A' : Option Addr} {c' lo' hi' : Nat} {y : Int} (hr : OwnR W' lo' hi' A' c' (Z ++ [y])) (hd : (lo' = z.1 ∧ hi' = z.2) ∨ (W.heap.size ≤ lo' ∧ lo' ≤ W'.heap.size ∧ hi' ≤ W'.heap.size)) (hw : Within z.1 z.2 W W') :
    Cel3 W' xb 63 (.slice (some ⟨gF, 0, none⟩) F.length dF) (.slice BT T.length dT) (.slice BZ Z.length dZ) ∧ L6X wr (W'.setCell ⟨xb, 2, none⟩ (.slice A' (Z.length + 1) c')) xb f t (lo', hi') gF BT A' dF dT c' F T (Z ++ [y]) := by
  obtain ⟨o1, o2, o3, d1, d2, d3⟩ := h.own
  have hx := h.xd
  have hge := h.ge
  have hle := h.le
  have hlt := h.xst.lt
  have s1 := hw.size
  have r1 := o1.1
  have r2 := o2.1
  have hx5 := h.xst.within hw hx.2.2
  have hs := within_set W' xb 2 (.slice A' (Z.length + 1) c')
  unfold Dis at d1 d2 d3
  have p1 := (o1.within hw (by omega)).within hs (by omega)
  have p2 := (o2.within hw (by omega)).within hs (by omega)
  have p3 := hr.within hs (by omega)
  have s2 := hs.size
  have hb1 : Below wr.heap.size wr W' := within_on h.bel hw h.bel.size (.inl (by omega))
  refine ⟨hx5, ⟨?_, ⟨p1, p2, p3, d1, ?_, ?_⟩, h.gf, ⟨hge.1, hge.2.1, by show _ ≤ lo'; have := h.bel.size; omega, hge.2.2.2⟩, ⟨hx.1, hx.2.1, by show xb < lo' ∨ hi' ≤ xb; omega⟩, ⟨by omega, by show lo' ≤ _; omega⟩, within_on hb1 hs hb1.size (.inl (by omega))⟩⟩
  · have := hx5.set2 (.slice A' (Z.length + 1) c')
    rwa [List.length_append, List.length_singleton]
  · unfold Dis; show f.2 ≤ lo' ∨ hi' ≤ f.1; omega
  · unfold Dis; show t.2 ≤ lo' ∨ hi' ≤ t.1; omega
end
/-- The new state becomes the state. -/
theorem L6X.done {w wr W : World} {P cap pb lo hi cF cT cZ xb gF dF dT dZ : Nat} {A AF AT AZ BT BZ : Option Addr} {l : List (Int × Int)} {F T Z F' T' Z' : List Int} {f t z : Nat × Nat} (h0 : L6I w wr P A cap l pb lo hi AF AT AZ cF cT cZ F T Z) (h : L6X wr W xb f t z gF BT BZ dF dT dZ F' T' Z') (hpb : pb < wr.heap.size) :
    L6I w (((W.setCell ⟨pb, 0, none⟩ (.slice (some ⟨gF, 0, none⟩) F'.length dF)).setCell ⟨pb, 1, none⟩ (.slice BT T'.length dT)).setCell ⟨pb, 2, none⟩ (.slice BZ Z'.length dZ)) P A cap l pb wr.heap.size W.heap.size (some ⟨gF, 0, none⟩) BT BZ dF dT dZ F' T' Z' := by
  have h1 := h0.below h.bel
  have r3 := ret3 h1.st (.slice (some ⟨gF, 0, none⟩) F'.length dF) (.slice BT T'.length dT) (.slice BZ Z'.length dZ)
  obtain ⟨o1, o2, o3, _⟩ := h.own
  have hge := h.ge
  have hs := r3.2.size
  have hlo := h0.hlo
  exact ⟨h1.gb.within r3.2 (by omega), r3.1, ⟨((o1.ints.reads.widen hge.1 o1.1 (Nat.le_refl _)).within r3.2 (by omega)), ((o2.ints.reads.widen hge.2.1 o2.1 (Nat.le_refl _)).within r3.2 (by omega)), ((o3.ints.reads.widen hge.2.2.1 o3.1 (Nat.le_refl _)).within r3.2 (by omega))⟩, h1.bars.within r3.2 (.inl (by omega)), within_on h1.bel r3.2 h1.bel.size (.inl (by omega)), ⟨hlo.1, .inl hpb⟩⟩
/-- One bar more, on lists. -/
theorem l6_none {P : Nat} {l : List (Int × Int)} {j : Nat} (e : gathR (plE l (runN P 2 3 l j).2.2) (l.getD j (0, 0)).1 (l.getD j (0, 0)).2 4 ((runN P 2 3 l j).1, (runN P 2 3 l j).2.1) = none) : runN P 2 3 l (j + 1) = runN P 2 3 l j := by
  rw [runN]
  unfold plaR
  rw [Int.toNat_natCast, show (3 : Int) + 1 = 4 from rfl, e]
  rfl
theorem l6_some {P : Nat} {l : List (Int × Int)} {j a b : Nat} (h : PebS P 2 (plE l (runN P 2 3 l j).2.2) (runN P 2 3 l j).1 (runN P 2 3 l j).2.1) (hx : l.getD j (0, 0) = ((a : Int), (b : Int))) (ha : a < P) (hb : b < P) (hab : a ≠ b) {s : List Int × List Int} (e : gathR (plE l (runN P 2 3 l j).2.2) (a : Int) (b : Int) 4 ((runN P 2 3 l j).1, (runN P 2 3 l j).2.1) = some s) :
    runN P 2 3 l (j + 1) = (s.1.set a (s.1.getD a 0 - 1), s.2 ++ [(a : Int)], (runN P 2 3 l j).2.2 ++ [(j : Int)]) ∧ s.1.length = P ∧ s.1.getD a 0 = 2 ∧ s.2.length = (runN P 2 3 l j).2.1.length := by
  obtain ⟨g1, g2⟩ := gathR_ok (P := P) (k := 2) (by omega) (by omega) (by omega) h e
  have q1 := g1.small (v := (a : Int)) (by omega)
  have q2 := g1.small (v := (b : Int)) (by omega)
  rw [Int.toNat_natCast] at q1 q2
  rw [Int.toNat_natCast, Int.toNat_natCast] at g2
  refine ⟨?_, g1.flen, by omega, by rw [g1.ends.len, h.ends.len]⟩
  rw [runN]
  unfold plaR
  rw [Int.toNat_natCast, show (3 : Int) + 1 = 4 from rfl, hx]
  simp only [Int.toNat_natCast]
  rw [e]
  have : ¬ s.1.getD a 0 = 0 := by omega
  simp only [Option.map_some, Option.getD_some, if_neg this]
theorem l6_facts {P : Nat} {l : List (Int × Int)} (hb : Bars P l) (hP : 1 ≤ P ∧ P ≤ 8) {j : Nat} (hj : j ≤ l.length) : PebS P 2 (plE l (runN P 2 3 l j).2.2) (runN P 2 3 l j).1 (runN P 2 3 l j).2.1 ∧ (runN P 2 3 l j).2.2.length ≤ j ∧ ∀ i, i < (runN P 2 3 l j).2.2.length → 0 ≤ (runN P 2 3 l j).2.2.getD i 0 ∧ (runN P 2 3 l j).2.2.getD i 0 < (j : Int) := by
  have h := runN_gm (k := 2) (c := 3) hb hP (by omega) (by omega) j hj
  refine ⟨h.st, ?_, fun i hi => ?_⟩
  · have h1 := congrArg List.length h.only
    rw [plE_len] at h1
    rw [← h1]
    exact onlyK_len _ _ _
  · have e : (runN P 2 3 l j).2.2.getD i 0 = (runN P 2 3 l j).2.2[i] := by simp [List.getD, List.getElem?_eq_getElem hi]
    rw [e]
    exact h.zs _ (List.getElem_mem hi)
end Go.Proofs.Ytggibhhdnlifcaa
/- What spec.l6Rank answers: the rank of the bars, of up to 25. No condition. -/
namespace Go.Proofs.Ytggibhhdnlifcaa
open Go.RowKit

set_option maxHeartbeats 8000000 in
set_option maxRecDepth 100000 in
theorem l6Rank_c (P : Nat) (l : List (Int × Int)) (A : Option Addr) (cap : Nat) (w : World) (hl : BarsAt w w.heap.size A l) (hP : 1 ≤ P ∧ P ≤ 8) (hbars : Bars P l) (hn : l.length ≤ 25) :
    Calls Try.prog 189 #[.agg #[.int .i64 (P : Int), .slice A l.length cap]] w fun e w' => e = .returned (.int .i64 (rk P 2 3 l : Int)) ∧ Below w.heap.size w w' := by
  have HB25 := Lib.hid (And.intro hbars hP)
  have hnew : newB (P : Int) 2 [] = true := by
    unfold newB
    rw [isGB_yes ⟨by omega, by simp, fun i hi => absurd hi (by simp)⟩]
    rfl
  have hnf : newF (P : Int) 2 [] = (runN P 2 3 l 0).1 := by unfold newF; rw [if_pos hnew, Int.toNat_natCast]; rfl
  have HNW : ∀ W : World, Calls Try.prog 60 #[.agg #[.int .i64 (P : Int), .slice none 0 0], .int .i64 2] W (PebOB W (runN P 2 3 l 0).1 [] [] true) := fun W => by
    have hc := specNewP (P : Int) 2 [] none 0 W (fun h => absurd h (by simp)) (by simp)
    rw [hnew, hnf] at hc
    exact hc
  clear hbars hnew hnf
  have W0 := Lib.hid (Below.refl w.heap.size w)
  have HB_0 := Lib.hid (bars_in hl)
  clear hl
  have Z1 := Lib.hid (within_alloc w (.cells #[.int .i64 (P : Int), (.slice A l.length cap)] 30)).size
  have W1 := Lib.hid (within_on W0.out (within_alloc w (.cells #[.int .i64 (P : Int), (.slice A l.length cap)] 30)) W0.out.size (.inr (Nat.le_refl _)))
  have HB_1 := Lib.hid (HB_0.out.within (within_alloc w (.cells #[.int .i64 (P : Int), (.slice A l.length cap)] 30)) (by omega))
  have Y1 := Lib.hid (show (w.alloc (.cells #[.int .i64 (P : Int), (.slice A l.length cap)] 30)).heap.size = w.heap.size + 1 by simp)
  have hnew := box_new w (P : Int) (.slice A l.length cap) 30
  have BX_1 := Lib.hid hnew
  clear hnew
  go_enter Try.func189, Try.ntmps189
  obtain ⟨g0_0, g0_1, g0_2⟩ := BX_1.out
  go_wp2_with fail
  clear g0_0 g0_1 g0_2
  generalize (w.alloc (.cells #[.int .i64 (P : Int), (.slice A l.length cap)] 30)) = w1 at *
  refine (HNW _).mono ?_
  rintro e w2 ⟨AF, cF, AT, cT, AZ, cZ, rfl, ho, hb⟩
  have Z2 := Lib.hid (within_of hb).size
  have W2 := Lib.hid (within_on W1.out (within_of hb) W1.out.size (.inr (Nat.le_refl _)))
  have HB_2 := Lib.hid (HB_1.out.within (within_of hb) (by omega))
  have BX_2 := Lib.hid (BX_1.out.within (within_of hb) (by omega))
  have OP_2 := Lib.hid (ho.reads)
  clear ho hb HNW
  have Z3 := Lib.hid (within_alloc w2 (.cells #[(.slice AF (runN P 2 3 l 0).1.length cF), (.slice AT 0 cT), (.slice AZ 0 cZ)] 63)).size
  have W3 := Lib.hid (within_on W2.out (within_alloc w2 (.cells #[(.slice AF (runN P 2 3 l 0).1.length cF), (.slice AT 0 cT), (.slice AZ 0 cZ)] 63)) W2.out.size (.inr (Nat.le_refl _)))
  have HB_3 := Lib.hid (HB_2.out.within (within_alloc w2 (.cells #[(.slice AF (runN P 2 3 l 0).1.length cF), (.slice AT 0 cT), (.slice AZ 0 cZ)] 63)) (by omega))
  have BX_3 := Lib.hid (BX_2.out.within (within_alloc w2 (.cells #[(.slice AF (runN P 2 3 l 0).1.length cF), (.slice AT 0 cT), (.slice AZ 0 cZ)] 63)) (by omega))
  have OP_3 := Lib.hid (OP_2.out.within (within_alloc w2 (.cells #[(.slice AF (runN P 2 3 l 0).1.length cF), (.slice AT 0 cT), (.slice AZ 0 cZ)] 63)) (by omega))
  have Y3 := Lib.hid (show (w2.alloc (.cells #[(.slice AF (runN P 2 3 l 0).1.length cF), (.slice AT 0 cT), (.slice AZ 0 cZ)] 63)).heap.size = w2.heap.size + 1 by simp)
  have hnew := cel3_new w2 (.slice AF (runN P 2 3 l 0).1.length cF) (.slice AT 0 cT) (.slice AZ 0 cZ) 63
  have BP_3 := Lib.hid hnew
  clear hnew
  obtain ⟨g1_0, g1_1, g1_2⟩ := BX_3.out
  go_wp2_with fail
  clear g1_0 g1_1 g1_2
  generalize (w2.alloc (.cells #[(.slice AF (runN P 2 3 l 0).1.length cF), (.slice AT 0 cT), (.slice AZ 0 cZ)] 63)) = w3 at *
  obtain ⟨pb, hpb⟩ : ∃ pb, w2.heap.size = pb := ⟨_, rfl⟩
  have HI0 := Lib.hid (show L6I w w3 P A cap l pb w1.heap.size w2.heap.size AF AT AZ cF cT cZ (runN P 2 3 l 0).1 (runN P 2 3 l 0).2.1 (runN P 2 3 l 0).2.2 from ⟨BX_3.out, by rw [← hpb]; exact BP_3.out, OP_3.out, HB_3.out, W3.out, ⟨by have := BX_1.out.1; have := Z2.out; omega, .inr (by omega)⟩⟩)
  rw [hpb]
  clear hpb
  go_loopw [5, 6] (fun s5 s6 wr => ∃ j : Nat, j ≤ l.length ∧ s6 = .int .i64 j ∧ s5 = .int .i64 ((runN P 2 3 l j).2.2.length : Int) ∧ ∃ (lo hi : Nat) (AF AT AZ : Option Addr) (cF cT cZ : Nat), L6I w wr P A cap l pb lo hi AF AT AZ cF cT cZ (runN P 2 3 l j).1 (runN P 2 3 l j).2.1 (runN P 2 3 l j).2.2) (fun _ s6 _ => l.length - (intOf s6).toNat)
  case atStart => exact ⟨0, Nat.zero_le _, rfl, rfl, _, _, AF, AT, AZ, cF, cT, cZ, HI0.out⟩
  case round =>
    clear HI0
    obtain ⟨j, hj, rfl, rfl, lo, hi, AF, AT, AZ, cF, cT, cZ, hin⟩ := hrel
    have HI := Lib.hid hin
    by_cases hlt : j < l.length
    · have hji : (j : Int) < (l.length : Int) := by omega
      have hfs := l6_facts HB25.out.1 HB25.out.2 hj
      have hbr := HB25.out.1.bar j hlt
      obtain ⟨bb, boff, rfl, _, _, _⟩ := hin.bars.2 (by omega)
      obtain ⟨x, hxd⟩ : ∃ x, l.getD j (0, 0) = x := ⟨_, rfl⟩
      rw [hxd] at hbr
      obtain ⟨x1, x2⟩ := x
      simp only at hbr
      obtain ⟨a, rfl⟩ : ∃ a : Nat, x1 = (a : Int) := ⟨x1.toNat, by omega⟩
      obtain ⟨b, rfl⟩ : ∃ b : Nat, x2 = (b : Int) := ⟨x2.toNat, by omega⟩
      have HXD := Lib.hid hxd
      have HNO := Lib.hid (fun e => l6_none (P := P) (l := l) (j := j) (by rw [hxd]; exact e))
      have HSO := Lib.hid (fun s e => l6_some (s := s) hfs.1 hxd (by omega) (by omega) (by omega) e)
      have hpbl := hin.st.lt
      have HPBL := Lib.hid hpbl
      obtain ⟨R, hR⟩ : ∃ R, runN P 2 3 l j = R := ⟨_, rfl⟩
      rw [hR] at hfs hin HI HNO HSO ⊢
      obtain ⟨F, T, Z⟩ := R
      simp only at hfs hin HI HNO HSO ⊢
      have HFS := Lib.hid hfs
      have hfl := hfs.1.flen
      have hzl := hfs.2.1
      have hdr : Below wr.heap.size wr wr.drew := (Below.refl _ _).drew
      have HBD := Lib.hid hdr
      have HID := Lib.hid (hin.below hdr)
      obtain ⟨rg, hrg⟩ : ∃ rg, gathR (plE l Z) (a : Int) (b : Int) 4 (F, T) = rg := ⟨_, rfl⟩
      have HR := Lib.hid hrg
      obtain ⟨c0, c1, c2, c3, c4, c5, c6⟩ := hin.cells rfl hlt hxd
      clear hfs hR hdr hrg hin hpbl hxd
      cases rg with
      | none =>
        have HN := Lib.hid (HNO.out HR.out)
        have hgp := fun (W : World) (h1 : BarsAt W W.heap.size (some ⟨bb, boff, none⟩) l) (h2 : Peb3 W lo hi AF AT AZ F T Z) => gathS5_c 2 l (some ⟨bb, boff, none⟩) cap AF AT AZ cF cT cZ lo hi F T Z a b 4 W (by rw [hfl]; exact HFS.out.1) (by omega) (by omega) hn (by omega) (fun i hi => by have := HFS.out.2.2 i hi; omega) (by omega) (by omega) (by omega) h1 h2
        rw [show ((F.length : Nat) : Int) = (P : Int) by omega] at hgp
        have HGC := Lib.hid (fun (W : World) (h1 : BarsAt W W.heap.size (some ⟨bb, boff, none⟩) l) (h2 : Peb3 W lo hi AF AT AZ F T Z) => show Calls Try.prog 131 _ W (fun e w' => Below W.heap.size W w' ∧ ∃ BF dF BT dT BZ dZ, e = .returned (.tuple #[pebV BF F.length dF BT T.length dT BZ Z.length dZ, .bool false])) from (hgp W h1 h2).mono (by
          rintro e w' ⟨hb, BF, dF, BT, dT, BZ, dZ, ⟨rfl, _⟩ | ⟨s, _, hs, _⟩⟩
          · exact ⟨hb, _, _, _, _, _, _, rfl⟩
          · rw [HR.out] at hs; cases hs))
        clear hgp
        clear hfl
        go_wp2_with fail
        clear c0 c1 c2 c3 c4 c5 c6
        refine wp_region_held_drew (S := (fun W' : World => W'.cell? ⟨w.heap.size, 0, none⟩ = some (.int .i64 (P : Int)) ∧ W'.cell? ⟨w.heap.size, 1, none⟩ = some (.slice (some ⟨bb, boff, none⟩) l.length cap) ∧ W'.cell? ⟨pb, 0, none⟩ = some (.slice AF F.length cF) ∧ W'.cell? ⟨pb, 1, none⟩ = some (.slice AT T.length cT) ∧ W'.cell? ⟨pb, 2, none⟩ = some (.slice AZ Z.length cZ) ∧ W'.cell? ⟨bb, boff + j * 2, none⟩ = some (.int .i64 (a : Int)) ∧ W'.cell? ⟨bb, boff + j * 2 + 1, none⟩ = some (.int .i64 (b : Int)))) (by kernel_rfl) ?_ (fun hHeld => ?_)
        · exact HID.out.cells rfl hlt HXD.out
        generalize wr.drew = WD at *
        refine wpAnyH_take (i := 0) (v := .agg #[.int .i64 (P : Int), .slice (some ⟨bb, boff, none⟩) l.length cap]) rfl (by kernel_rfl) (by kernel_rfl) (by kernel_rfl) (fun _ _ _ h => h) (Or.inl ⟨by kernel_rfl, fun w hSw => by (try dsimp only at hSw); go_simp; all_goals first | omega | exact IntWalk.i64_in _ (by omega)⟩) (by assumption) ?_
        refine wpAnyH_take (i := 1) (v := .agg #[.slice AF F.length cF, .slice AT T.length cT, .slice AZ Z.length cZ]) rfl (by kernel_rfl) (by kernel_rfl) (by kernel_rfl) (fun _ _ _ h => h) (Or.inl ⟨by kernel_rfl, fun w hSw => by (try dsimp only at hSw); go_simp; all_goals first | omega | exact IntWalk.i64_in _ (by omega)⟩) (by assumption) ?_
        refine wpAnyH_take (i := 2) (v := .pointer (some ⟨w.heap.size, 1, none⟩)) rfl (by kernel_rfl) (by kernel_rfl) (by kernel_rfl) (fun _ _ _ h => h) (Or.inl ⟨by kernel_rfl, fun w hSw => by (try dsimp only at hSw); go_simp; all_goals first | omega | exact IntWalk.i64_in _ (by omega)⟩) (by assumption) ?_
        refine wpAnyH_take (i := 3) (v := .slice (some ⟨bb, boff, none⟩) l.length cap) rfl (by kernel_rfl) (by kernel_rfl) (by kernel_rfl) (fun _ _ _ h => h) (Or.inl ⟨by kernel_rfl, fun w hSw => by (try dsimp only at hSw); go_simp; all_goals first | omega | exact IntWalk.i64_in _ (by omega)⟩) (by assumption) ?_
        refine wpAnyH_take (i := 4) (v := .int .i64 (j : Int)) rfl (by kernel_rfl) (by kernel_rfl) (by kernel_rfl) (fun _ _ _ h => h) (Or.inl ⟨by kernel_rfl, fun w hSw => by (try dsimp only at hSw); go_simp; all_goals first | omega | exact IntWalk.i64_in _ (by omega)⟩) (by assumption) ?_
        refine wpAnyH_take (i := 5) (v := .pointer (some ⟨bb, boff + j * 2, none⟩)) rfl (by kernel_rfl) (by kernel_rfl) (by kernel_rfl) (fun _ _ _ h => h) (Or.inl ⟨by kernel_rfl, fun w hSw => by (try dsimp only at hSw); go_simp; all_goals first | omega | exact IntWalk.i64_in _ (by omega)⟩) (by assumption) ?_
        refine wpAnyH_take (i := 6) (v := .pointer (some ⟨bb, boff + j * 2, none⟩)) rfl (by kernel_rfl) (by kernel_rfl) (by kernel_rfl) (fun _ _ _ h => h) (Or.inl ⟨by kernel_rfl, fun w hSw => by (try dsimp only at hSw); go_simp; all_goals first | omega | exact IntWalk.i64_in _ (by omega)⟩) (by assumption) ?_
        refine wpAnyH_take (i := 7) (v := .int .i64 (a : Int)) rfl (by kernel_rfl) (by kernel_rfl) (by kernel_rfl) (fun _ _ _ h => h) (Or.inl ⟨by kernel_rfl, fun w hSw => by (try dsimp only at hSw); go_simp; all_goals first | omega | exact IntWalk.i64_in _ (by omega)⟩) (by assumption) ?_
        refine wpAnyH_take (i := 8) (v := .pointer (some ⟨w.heap.size, 1, none⟩)) rfl (by kernel_rfl) (by kernel_rfl) (by kernel_rfl) (fun _ _ _ h => h) (Or.inl ⟨by kernel_rfl, fun w hSw => by (try dsimp only at hSw); go_simp; all_goals first | omega | exact IntWalk.i64_in _ (by omega)⟩) (by assumption) ?_
        refine wpAnyH_take (i := 9) (v := .slice (some ⟨bb, boff, none⟩) l.length cap) rfl (by kernel_rfl) (by kernel_rfl) (by kernel_rfl) (fun _ _ _ h => h) (Or.inl ⟨by kernel_rfl, fun w hSw => by (try dsimp only at hSw); go_simp; all_goals first | omega | exact IntWalk.i64_in _ (by omega)⟩) (by assumption) ?_
        refine wpAnyH_take (i := 10) (v := .int .i64 (j : Int)) rfl (by kernel_rfl) (by kernel_rfl) (by kernel_rfl) (fun _ _ _ h => h) (Or.inl ⟨by kernel_rfl, fun w hSw => by (try dsimp only at hSw); go_simp; all_goals first | omega | exact IntWalk.i64_in _ (by omega)⟩) (by assumption) ?_
        refine wpAnyH_take (i := 11) (v := .pointer (some ⟨bb, boff + j * 2, none⟩)) rfl (by kernel_rfl) (by kernel_rfl) (by kernel_rfl) (fun _ _ _ h => h) (Or.inl ⟨by kernel_rfl, fun w hSw => by (try dsimp only at hSw); go_simp; all_goals first | omega | exact IntWalk.i64_in _ (by omega)⟩) (by assumption) ?_
        refine wpAnyH_take (i := 12) (v := .pointer (some ⟨bb, boff + j * 2 + 1, none⟩)) rfl (by kernel_rfl) (by kernel_rfl) (by kernel_rfl) (fun _ _ _ h => h) (Or.inl ⟨by kernel_rfl, fun w hSw => by (try dsimp only at hSw); go_simp; all_goals first | omega | exact IntWalk.i64_in _ (by omega)⟩) (by assumption) ?_
        refine wpAnyH_take (i := 13) (v := .int .i64 (b : Int)) rfl (by kernel_rfl) (by kernel_rfl) (by kernel_rfl) (fun _ _ _ h => h) (Or.inl ⟨by kernel_rfl, fun w hSw => by (try dsimp only at hSw); go_simp; all_goals first | omega | exact IntWalk.i64_in _ (by omega)⟩) (by assumption) ?_
        refine wpAnyH_ready (rs := [14, 18]) (by kernel_rfl) (by simp) (AllReadyH.cons rfl (fun K hK => ?_) (AllReadyH.cons rfl (fun K hK => ?_) AllReadyH.nil))
        · go_simp
          go_at_call 131
          refine (HGC.out _ HID.out.bars.at HID.out.src).mono ?_
          rintro e wc ⟨hb, BF, dF, BT, dT, BZ, dZ, rfl⟩
          have HIC := Lib.hid (HID.out.below hb)
          have HBC := Lib.hid (below_on HBD.out hb HBD.out.size)
          clear hb
          refine hK.out _ _ (HIC.out.cells rfl hlt HXD.out) (fun hHeld => ?_)
          clear hK K
          refine wpAnyH_take (i := 15) (v := .tuple #[.agg #[.slice BF F.length dF, .slice BT T.length dT, .slice BZ Z.length dZ], .bool false]) rfl (by kernel_rfl) (by kernel_rfl) (by kernel_rfl) (fun _ _ _ h => h) (Or.inl ⟨by kernel_rfl, fun w hSw => by (try dsimp only at hSw); go_simp; all_goals first | omega | exact IntWalk.i64_in _ (by omega)⟩) (by assumption) ?_
          refine wpAnyH_take (i := 16) (v := .agg #[.slice BF F.length dF, .slice BT T.length dT, .slice BZ Z.length dZ]) rfl (by kernel_rfl) (by kernel_rfl) (by kernel_rfl) (fun _ _ _ h => h) (Or.inl ⟨by kernel_rfl, fun w hSw => by (try dsimp only at hSw); go_simp; all_goals first | omega | exact IntWalk.i64_in _ (by omega)⟩) (by assumption) ?_
          refine wpAnyH_take (i := 17) (v := .bool false) rfl (by kernel_rfl) (by kernel_rfl) (by kernel_rfl) (fun _ _ _ h => h) (Or.inl ⟨by kernel_rfl, fun w hSw => by (try dsimp only at hSw); go_simp; all_goals first | omega | exact IntWalk.i64_in _ (by omega)⟩) (by assumption) ?_
          refine wpAnyH_ready (rs := [18]) (by kernel_rfl) (by simp) (AllReadyH.cons rfl (fun K hK => ?_) AllReadyH.nil)
          have hb2 := new_below wc (.cells #[.slice none 0 0, .slice none 0 0, .slice none 0 0] 63)
          have HIA := Lib.hid (HIC.out.below hb2)
          have HBA := Lib.hid (below_on HBC.out hb2 HBC.out.size)
          have HXA := Lib.hid (cel3_new wc (.slice none 0 0) (.slice none 0 0) (.slice none 0 0) 63)
          have HAS := Lib.hid (show (wc.alloc (.cells #[.slice none 0 0, .slice none 0 0, .slice none 0 0] 63)).heap.size = wc.heap.size + 1 by simp)
          clear hb2
          go_simp
          generalize (wc.alloc (.cells #[.slice none 0 0, .slice none 0 0, .slice none 0 0] 63)) = wa at *
          refine hK.out _ _ (HIA.out.cells rfl hlt HXD.out) (fun hHeld => ?_)
          clear hK K
          refine wpAnyH_ready (rs := [19]) (by kernel_rfl) (by simp) (AllReadyH.cons rfl (fun K hK => ?_) AllReadyH.nil)
          obtain ⟨q0, q1, q2, q3, q4, q5⟩ := HXA.out.cells
          have hr := ret3 HXA.out (.slice BF F.length dF) (.slice BT T.length dT) (.slice BZ Z.length dZ)
          have HXS := Lib.hid hr.1
          have hbx : wr.heap.size ≤ wc.heap.size := HBC.out.size
          have HXB := Lib.hid hbx
          have HBS := Lib.hid (within_on HBA.out hr.2 HBA.out.size (.inl hbx))
          have HIS := Lib.hid (HI.out.below HBS.out)
          clear hr hbx
          go_simp
          clear q0 q1 q2 q3 q4 q5
          refine hK.out _ _ (HIS.out.cells rfl hlt HXD.out) (fun hHeld => ?_)
          clear hK K
          refine wpAnyH_ready (rs := [20]) (by kernel_rfl) (by simp) (AllReadyH.cons rfl (fun K hK => ?_) AllReadyH.nil)
          go_simp
          refine hK.out _ _ (HIS.out.cells rfl hlt HXD.out) (fun hHeld => ?_)
          clear hK K
          refine wpAnyH_done (by kernel_rfl) ?_ _
          go_wp2_with fail
          go_roundw
          case rel => exact ⟨j + 1, by omega, by go_num, by rw [HN.out], _, _, AF, AT, AZ, cF, cT, cZ, by rw [HN.out]; exact HIS.out⟩
          case measure => simp [intOf]; omega
        · have hb2 := new_below WD (.cells #[.slice none 0 0, .slice none 0 0, .slice none 0 0] 63)
          have HIA := Lib.hid (HID.out.below hb2)
          have HBA := Lib.hid (below_on HBD.out hb2 HBD.out.size)
          have HXA := Lib.hid (cel3_new WD (.slice none 0 0) (.slice none 0 0) (.slice none 0 0) 63)
          have HAS := Lib.hid (show (WD.alloc (.cells #[.slice none 0 0, .slice none 0 0, .slice none 0 0] 63)).heap.size = WD.heap.size + 1 by simp)
          clear hb2
          go_simp
          generalize (WD.alloc (.cells #[.slice none 0 0, .slice none 0 0, .slice none 0 0] 63)) = wa at *
          refine hK.out _ _ (HIA.out.cells rfl hlt HXD.out) (fun hHeld => ?_)
          clear hK K
          refine wpAnyH_ready (rs := [14]) (by kernel_rfl) (by simp) (AllReadyH.cons rfl (fun K hK => ?_) AllReadyH.nil)
          go_simp
          go_at_call 131
          refine (HGC.out _ HIA.out.bars.at HIA.out.src).mono ?_
          rintro e wc ⟨hb, BF, dF, BT, dT, BZ, dZ, rfl⟩
          have HIC := Lib.hid (HIA.out.below hb)
          have HBC := Lib.hid (below_on HBA.out hb HBA.out.size)
          have HXC := Lib.hid (HXA.out.kept hb)
          clear hb
          refine hK.out _ _ (HIC.out.cells rfl hlt HXD.out) (fun hHeld => ?_)
          clear hK K
          refine wpAnyH_take (i := 15) (v := .tuple #[.agg #[.slice BF F.length dF, .slice BT T.length dT, .slice BZ Z.length dZ], .bool false]) rfl (by kernel_rfl) (by kernel_rfl) (by kernel_rfl) (fun _ _ _ h => h) (Or.inl ⟨by kernel_rfl, fun w hSw => by (try dsimp only at hSw); go_simp; all_goals first | omega | exact IntWalk.i64_in _ (by omega)⟩) (by assumption) ?_
          refine wpAnyH_take (i := 16) (v := .agg #[.slice BF F.length dF, .slice BT T.length dT, .slice BZ Z.length dZ]) rfl (by kernel_rfl) (by kernel_rfl) (by kernel_rfl) (fun _ _ _ h => h) (Or.inl ⟨by kernel_rfl, fun w hSw => by (try dsimp only at hSw); go_simp; all_goals first | omega | exact IntWalk.i64_in _ (by omega)⟩) (by assumption) ?_
          refine wpAnyH_take (i := 17) (v := .bool false) rfl (by kernel_rfl) (by kernel_rfl) (by kernel_rfl) (fun _ _ _ h => h) (Or.inl ⟨by kernel_rfl, fun w hSw => by (try dsimp only at hSw); go_simp; all_goals first | omega | exact IntWalk.i64_in _ (by omega)⟩) (by assumption) ?_
          refine wpAnyH_ready (rs := [19]) (by kernel_rfl) (by simp) (AllReadyH.cons rfl (fun K hK => ?_) AllReadyH.nil)
          obtain ⟨q0, q1, q2, q3, q4, q5⟩ := HXC.out.cells
          have hr := ret3 HXC.out (.slice BF F.length dF) (.slice BT T.length dT) (.slice BZ Z.length dZ)
          have HXS := Lib.hid hr.1
          have hbx : wr.heap.size ≤ WD.heap.size := HBD.out.size
          have HXB := Lib.hid hbx
          have HBS := Lib.hid (within_on HBC.out hr.2 HBC.out.size (.inl hbx))
          have HIS := Lib.hid (HI.out.below HBS.out)
          clear hr hbx
          go_simp
          clear q0 q1 q2 q3 q4 q5
          refine hK.out _ _ (HIS.out.cells rfl hlt HXD.out) (fun hHeld => ?_)
          clear hK K
          refine wpAnyH_ready (rs := [20]) (by kernel_rfl) (by simp) (AllReadyH.cons rfl (fun K hK => ?_) AllReadyH.nil)
          go_simp
          refine hK.out _ _ (HIS.out.cells rfl hlt HXD.out) (fun hHeld => ?_)
          clear hK K
          refine wpAnyH_done (by kernel_rfl) ?_ _
          go_wp2_with fail
          go_roundw
          case rel => exact ⟨j + 1, by omega, by go_num, by rw [HN.out], _, _, AF, AT, AZ, cF, cT, cZ, by rw [HN.out]; exact HIS.out⟩
          case measure => simp [intOf]; omega
      | some s =>
        obtain ⟨hn1, hn2, hn3, hn4⟩ := HSO.out s HR.out
        have HN := Lib.hid hn1
        have HN2 := Lib.hid hn2
        have HN3 := Lib.hid hn3
        have HN4 := Lib.hid hn4
        clear hn1 hn2 hn3 hn4
        have hgp := fun (W : World) (h1 : BarsAt W W.heap.size (some ⟨bb, boff, none⟩) l) (h2 : Peb3 W lo hi AF AT AZ F T Z) => gathS5_c 2 l (some ⟨bb, boff, none⟩) cap AF AT AZ cF cT cZ lo hi F T Z a b 4 W (by rw [hfl]; exact HFS.out.1) (by omega) (by omega) hn (by omega) (fun i hi => by have := HFS.out.2.2 i hi; omega) (by omega) (by omega) (by omega) h1 h2
        rw [show ((F.length : Nat) : Int) = (P : Int) by omega] at hgp
        have HGC := Lib.hid (fun (W : World) (h1 : BarsAt W W.heap.size (some ⟨bb, boff, none⟩) l) (h2 : Peb3 W lo hi AF AT AZ F T Z) => show Calls Try.prog 131 _ W (fun e w' => Below W.heap.size W w' ∧ ∃ BF dF BT dT BZ dZ, e = .returned (.tuple #[pebV BF s.1.length dF BT s.2.length dT BZ Z.length dZ, .bool true]) ∧ Own3R w' W.heap.size w'.heap.size BF dF BT dT BZ dZ s.1 s.2 Z) from (hgp W h1 h2).mono (by
          rintro e w' ⟨hb, BF, dF, BT, dT, BZ, dZ, ⟨_, hs⟩ | ⟨s2, rfl, hs, h1, h2, ho⟩⟩
          · rw [HR.out] at hs; cases hs
          · rw [HR.out] at hs
            cases hs
            exact ⟨hb, _, _, _, _, _, _, by rw [h1, h2], ho⟩))
        clear hgp
        clear hfl
        go_wp2_with fail
        clear c0 c1 c2 c3 c4 c5 c6
        refine wp_region_held_drew (S := (fun W' : World => W'.cell? ⟨w.heap.size, 0, none⟩ = some (.int .i64 (P : Int)) ∧ W'.cell? ⟨w.heap.size, 1, none⟩ = some (.slice (some ⟨bb, boff, none⟩) l.length cap) ∧ W'.cell? ⟨pb, 0, none⟩ = some (.slice AF F.length cF) ∧ W'.cell? ⟨pb, 1, none⟩ = some (.slice AT T.length cT) ∧ W'.cell? ⟨pb, 2, none⟩ = some (.slice AZ Z.length cZ) ∧ W'.cell? ⟨bb, boff + j * 2, none⟩ = some (.int .i64 (a : Int)) ∧ W'.cell? ⟨bb, boff + j * 2 + 1, none⟩ = some (.int .i64 (b : Int)))) (by kernel_rfl) ?_ (fun hHeld => ?_)
        · exact HID.out.cells rfl hlt HXD.out
        generalize wr.drew = WD at *
        refine wpAnyH_take (i := 0) (v := .agg #[.int .i64 (P : Int), .slice (some ⟨bb, boff, none⟩) l.length cap]) rfl (by kernel_rfl) (by kernel_rfl) (by kernel_rfl) (fun _ _ _ h => h) (Or.inl ⟨by kernel_rfl, fun w hSw => by (try dsimp only at hSw); go_simp; all_goals first | omega | exact IntWalk.i64_in _ (by omega)⟩) (by assumption) ?_
        refine wpAnyH_take (i := 1) (v := .agg #[.slice AF F.length cF, .slice AT T.length cT, .slice AZ Z.length cZ]) rfl (by kernel_rfl) (by kernel_rfl) (by kernel_rfl) (fun _ _ _ h => h) (Or.inl ⟨by kernel_rfl, fun w hSw => by (try dsimp only at hSw); go_simp; all_goals first | omega | exact IntWalk.i64_in _ (by omega)⟩) (by assumption) ?_
        refine wpAnyH_take (i := 2) (v := .pointer (some ⟨w.heap.size, 1, none⟩)) rfl (by kernel_rfl) (by kernel_rfl) (by kernel_rfl) (fun _ _ _ h => h) (Or.inl ⟨by kernel_rfl, fun w hSw => by (try dsimp only at hSw); go_simp; all_goals first | omega | exact IntWalk.i64_in _ (by omega)⟩) (by assumption) ?_
        refine wpAnyH_take (i := 3) (v := .slice (some ⟨bb, boff, none⟩) l.length cap) rfl (by kernel_rfl) (by kernel_rfl) (by kernel_rfl) (fun _ _ _ h => h) (Or.inl ⟨by kernel_rfl, fun w hSw => by (try dsimp only at hSw); go_simp; all_goals first | omega | exact IntWalk.i64_in _ (by omega)⟩) (by assumption) ?_
        refine wpAnyH_take (i := 4) (v := .int .i64 (j : Int)) rfl (by kernel_rfl) (by kernel_rfl) (by kernel_rfl) (fun _ _ _ h => h) (Or.inl ⟨by kernel_rfl, fun w hSw => by (try dsimp only at hSw); go_simp; all_goals first | omega | exact IntWalk.i64_in _ (by omega)⟩) (by assumption) ?_
        refine wpAnyH_take (i := 5) (v := .pointer (some ⟨bb, boff + j * 2, none⟩)) rfl (by kernel_rfl) (by kernel_rfl) (by kernel_rfl) (fun _ _ _ h => h) (Or.inl ⟨by kernel_rfl, fun w hSw => by (try dsimp only at hSw); go_simp; all_goals first | omega | exact IntWalk.i64_in _ (by omega)⟩) (by assumption) ?_
        refine wpAnyH_take (i := 6) (v := .pointer (some ⟨bb, boff + j * 2, none⟩)) rfl (by kernel_rfl) (by kernel_rfl) (by kernel_rfl) (fun _ _ _ h => h) (Or.inl ⟨by kernel_rfl, fun w hSw => by (try dsimp only at hSw); go_simp; all_goals first | omega | exact IntWalk.i64_in _ (by omega)⟩) (by assumption) ?_
        refine wpAnyH_take (i := 7) (v := .int .i64 (a : Int)) rfl (by kernel_rfl) (by kernel_rfl) (by kernel_rfl) (fun _ _ _ h => h) (Or.inl ⟨by kernel_rfl, fun w hSw => by (try dsimp only at hSw); go_simp; all_goals first | omega | exact IntWalk.i64_in _ (by omega)⟩) (by assumption) ?_
        refine wpAnyH_take (i := 8) (v := .pointer (some ⟨w.heap.size, 1, none⟩)) rfl (by kernel_rfl) (by kernel_rfl) (by kernel_rfl) (fun _ _ _ h => h) (Or.inl ⟨by kernel_rfl, fun w hSw => by (try dsimp only at hSw); go_simp; all_goals first | omega | exact IntWalk.i64_in _ (by omega)⟩) (by assumption) ?_
        refine wpAnyH_take (i := 9) (v := .slice (some ⟨bb, boff, none⟩) l.length cap) rfl (by kernel_rfl) (by kernel_rfl) (by kernel_rfl) (fun _ _ _ h => h) (Or.inl ⟨by kernel_rfl, fun w hSw => by (try dsimp only at hSw); go_simp; all_goals first | omega | exact IntWalk.i64_in _ (by omega)⟩) (by assumption) ?_
        refine wpAnyH_take (i := 10) (v := .int .i64 (j : Int)) rfl (by kernel_rfl) (by kernel_rfl) (by kernel_rfl) (fun _ _ _ h => h) (Or.inl ⟨by kernel_rfl, fun w hSw => by (try dsimp only at hSw); go_simp; all_goals first | omega | exact IntWalk.i64_in _ (by omega)⟩) (by assumption) ?_
        refine wpAnyH_take (i := 11) (v := .pointer (some ⟨bb, boff + j * 2, none⟩)) rfl (by kernel_rfl) (by kernel_rfl) (by kernel_rfl) (fun _ _ _ h => h) (Or.inl ⟨by kernel_rfl, fun w hSw => by (try dsimp only at hSw); go_simp; all_goals first | omega | exact IntWalk.i64_in _ (by omega)⟩) (by assumption) ?_
        refine wpAnyH_take (i := 12) (v := .pointer (some ⟨bb, boff + j * 2 + 1, none⟩)) rfl (by kernel_rfl) (by kernel_rfl) (by kernel_rfl) (fun _ _ _ h => h) (Or.inl ⟨by kernel_rfl, fun w hSw => by (try dsimp only at hSw); go_simp; all_goals first | omega | exact IntWalk.i64_in _ (by omega)⟩) (by assumption) ?_
        refine wpAnyH_take (i := 13) (v := .int .i64 (b : Int)) rfl (by kernel_rfl) (by kernel_rfl) (by kernel_rfl) (fun _ _ _ h => h) (Or.inl ⟨by kernel_rfl, fun w hSw => by (try dsimp only at hSw); go_simp; all_goals first | omega | exact IntWalk.i64_in _ (by omega)⟩) (by assumption) ?_
        refine wpAnyH_ready (rs := [14, 18]) (by kernel_rfl) (by simp) (AllReadyH.cons rfl (fun K hK => ?_) (AllReadyH.cons rfl (fun K hK => ?_) AllReadyH.nil))
        · go_simp
          go_at_call 131
          refine (HGC.out _ HID.out.bars.at HID.out.src).mono ?_
          rintro e wc ⟨hb, BF, dF, BT, dT, BZ, dZ, rfl, ho⟩
          have HIC := Lib.hid (HID.out.below hb)
          have HBC := Lib.hid (below_on HBD.out hb HBD.out.size)
          obtain ⟨f, t, z, hof, y1, y2, y3⟩ := ho.ownF
          have HOC := Lib.hid hof
          have HY := Lib.hid (And.intro y1 (And.intro y2 y3))
          have HYS := Lib.hid hb.size
          clear ho hof y1 y2 y3
          clear hb
          refine hK.out _ _ (HIC.out.cells rfl hlt HXD.out) (fun hHeld => ?_)
          clear hK K
          refine wpAnyH_take (i := 15) (v := .tuple #[.agg #[.slice BF s.1.length dF, .slice BT s.2.length dT, .slice BZ Z.length dZ], .bool true]) rfl (by kernel_rfl) (by kernel_rfl) (by kernel_rfl) (fun _ _ _ h => h) (Or.inl ⟨by kernel_rfl, fun w hSw => by (try dsimp only at hSw); go_simp; all_goals first | omega | exact IntWalk.i64_in _ (by omega)⟩) (by assumption) ?_
          refine wpAnyH_take (i := 16) (v := .agg #[.slice BF s.1.length dF, .slice BT s.2.length dT, .slice BZ Z.length dZ]) rfl (by kernel_rfl) (by kernel_rfl) (by kernel_rfl) (fun _ _ _ h => h) (Or.inl ⟨by kernel_rfl, fun w hSw => by (try dsimp only at hSw); go_simp; all_goals first | omega | exact IntWalk.i64_in _ (by omega)⟩) (by assumption) ?_
          refine wpAnyH_take (i := 17) (v := .bool true) rfl (by kernel_rfl) (by kernel_rfl) (by kernel_rfl) (fun _ _ _ h => h) (Or.inl ⟨by kernel_rfl, fun w hSw => by (try dsimp only at hSw); go_simp; all_goals first | omega | exact IntWalk.i64_in _ (by omega)⟩) (by assumption) ?_
          refine wpAnyH_ready (rs := [18]) (by kernel_rfl) (by simp) (AllReadyH.cons rfl (fun K hK => ?_) AllReadyH.nil)
          have hb2 := new_below wc (.cells #[.slice none 0 0, .slice none 0 0, .slice none 0 0] 63)
          have HIA := Lib.hid (HIC.out.below hb2)
          have HBA := Lib.hid (below_on HBC.out hb2 HBC.out.size)
          have HXA := Lib.hid (cel3_new wc (.slice none 0 0) (.slice none 0 0) (.slice none 0 0) 63)
          have HAS := Lib.hid (show (wc.alloc (.cells #[.slice none 0 0, .slice none 0 0, .slice none 0 0] 63)).heap.size = wc.heap.size + 1 by simp)
          have HOA := Lib.hid (HOC.out.below hb2)
          clear hb2
          go_simp
          generalize (wc.alloc (.cells #[.slice none 0 0, .slice none 0 0, .slice none 0 0] 63)) = wa at *
          refine hK.out _ _ (HIA.out.cells rfl hlt HXD.out) (fun hHeld => ?_)
          clear hK K
          refine wpAnyH_ready (rs := [19]) (by kernel_rfl) (by simp) (AllReadyH.cons rfl (fun K hK => ?_) AllReadyH.nil)
          obtain ⟨q0, q1, q2, q3, q4, q5⟩ := HXA.out.cells
          have hr := ret3 HXA.out (.slice BF s.1.length dF) (.slice BT s.2.length dT) (.slice BZ Z.length dZ)
          have HXS := Lib.hid hr.1
          have hbx : wr.heap.size ≤ wc.heap.size := HBC.out.size
          have HXB := Lib.hid hbx
          have HBS := Lib.hid (within_on HBA.out hr.2 HBA.out.size (.inl hbx))
          have HIS := Lib.hid (HI.out.below HBS.out)
          have hy := HY.out
          have hys := HYS.out
          have has := HAS.out
          have hxd9 : (wc.heap.size < f.1 ∨ f.2 ≤ wc.heap.size) ∧ (wc.heap.size < t.1 ∨ t.2 ≤ wc.heap.size) ∧ (wc.heap.size < z.1 ∨ z.2 ≤ wc.heap.size) := by omega
          have HXDD := Lib.hid hxd9
          have HGE := Lib.hid (show wr.heap.size ≤ f.1 ∧ wr.heap.size ≤ t.1 ∧ wr.heap.size ≤ z.1 from by have := HBD.out.size; omega)
          have HOS := Lib.hid (HOA.out.within hr.2 (by omega) (by omega) (by omega))
          clear hy hys has hxd9
          clear hr hbx
          go_simp
          clear q0 q1 q2 q3 q4 q5
          refine hK.out _ _ (HIS.out.cells rfl hlt HXD.out) (fun hHeld => ?_)
          clear hK K
          refine wpAnyH_ready (rs := [20]) (by kernel_rfl) (by simp) (AllReadyH.cons rfl (fun K hK => ?_) AllReadyH.nil)
          go_simp
          refine hK.out _ _ (HIS.out.cells rfl hlt HXD.out) (fun hHeld => ?_)
          clear hK K
          refine wpAnyH_done (by kernel_rfl) ?_ _
          obtain ⟨gF, rfl, hgf⟩ := HOS.out.fst (by have := HN2.out; omega)
          have hge := HGE.out
          have hxlt := HXS.out.lt
          obtain ⟨t', z', hn8, m1, m2, m3, m4, m5, m6⟩ := HOS.out.norm (B := wr.heap.size) (pb := wc.heap.size) HBS.out.size hxlt hge.2.1 hge.2.2 HXDD.out.2.1 HXDD.out.2.2
          have HX8 := Lib.hid (show L6X wr (((wa.setCell ⟨wc.heap.size, 0, none⟩ (.slice (some ⟨gF, 0, none⟩) s.1.length dF)).setCell ⟨wc.heap.size, 1, none⟩ (.slice BT s.2.length dT)).setCell ⟨wc.heap.size, 2, none⟩ (.slice BZ Z.length dZ)) wc.heap.size f t' z' gF BT BZ dF dT dZ s.1 s.2 Z from ⟨HXS.out, hn8, hgf, ⟨hge.1, m1, m2, HXB.out⟩, ⟨HXDD.out.1, m3, m4⟩, ⟨m5, m6⟩, HBS.out⟩)
          clear hgf hge hxlt hn8 m1 m2 m3 m4 m5 m6 HOS HXS hHeld
          generalize (((wa.setCell ⟨wc.heap.size, 0, none⟩ (.slice (some ⟨gF, 0, none⟩) s.1.length dF)).setCell ⟨wc.heap.size, 1, none⟩ (.slice BT s.2.length dT)).setCell ⟨wc.heap.size, 2, none⟩ (.slice BZ Z.length dZ)) = w8 at *
          generalize wc.heap.size = xb at *
          obtain ⟨c0, c1, c2, c3, c4, c5, c6⟩ := HIS.out.cells rfl hlt HXD.out
          obtain ⟨j0, j1, j2, _⟩ := HX8.out.xst.cells
          have hcf := HX8.out.cellF (i := a) (by have := HN2.out; omega)
          obtain ⟨hc8, hf8⟩ := hcf
          rw [HN3.out] at hc8
          have has8 : (a : Int) < (s.1.length : Int) := by have := HN2.out; omega
          go_wp2_with fail
          go_still_tail 20, (by kernel_rfl)
          change wpList _ _ _ _ _ w8.drew
          have hd8 : Below w8.heap.size w8 w8.drew := (Below.refl _ _).drew
          have HX9 := Lib.hid (HX8.out.below hd8)
          clear c0 c1 c2 c3 c4 c5 c6 j0 j1 j2 hc8 hf8 hd8
          generalize w8.drew = w9 at *
          obtain ⟨hc9, hf9⟩ := HX9.out.cellF (i := a) (by have := HN2.out; omega)
          have HXF := Lib.hid (HX9.out.setF (by have := HN2.out; omega) a 1)
          rw [HN3.out] at hc9
          have HIF := Lib.hid (HI.out.below HXF.out.bel)
          obtain ⟨c0, c1, c2, c3, c4, c5, c6⟩ := HIF.out.cells rfl hlt HXD.out
          obtain ⟨j0, j1, j2, _⟩ := HXF.out.xst.cells
          go_wp2_with fail
          clear hc9 hf9
          generalize (w9.setCell ⟨gF, a, none⟩ (.int .i64 1)) = wf at *
          have hTl : s.2.length ≤ 1048576 := by rw [HN4.out, HFS.out.1.ends.len, plE_len]; omega
          have hZl : Z.length ≤ 1048576 := by omega
          have hd8 : Below wf.heap.size wf wf.drew := (Below.refl _ _).drew
          have HXG := Lib.hid (HXF.out.below hd8)
          have HIG := Lib.hid (HI.out.below HXG.out.bel)
          clear c0 c1 c2 c3 c4 c5 c6 j0 j1 j2 hd8
          refine wp_region_held_drew (S := (fun W' : World => W'.cell? ⟨w.heap.size, 1, none⟩ = some (.slice (some ⟨bb, boff, none⟩) l.length cap) ∧ W'.cell? ⟨bb, boff + j * 2, none⟩ = some (.int .i64 (a : Int)))) (by kernel_rfl) ?_ (fun hHeld => ?_)
          · exact ⟨(HIG.out.cells rfl hlt HXD.out).2.1, (HIG.out.cells rfl hlt HXD.out).2.2.2.2.2.1⟩
          generalize wf.drew = wg at *
          obtain ⟨j0, j1, j2, _⟩ := HXG.out.xst.cells
          refine wpAnyH_take (i := 0) (v := .pointer (some ⟨xb, 1, none⟩)) rfl (by kernel_rfl) (by kernel_rfl) (by kernel_rfl) (fun _ _ _ h => h) (Or.inl ⟨by kernel_rfl, fun w hSw => by (try dsimp only at hSw); go_simp; all_goals first | omega | exact IntWalk.i64_in _ (by omega)⟩) (by assumption) ?_
          refine wpAnyH_take (i := 2) (v := .pointer (some ⟨w.heap.size, 1, none⟩)) rfl (by kernel_rfl) (by kernel_rfl) (by kernel_rfl) (fun _ _ _ h => h) (Or.inl ⟨by kernel_rfl, fun w hSw => by (try dsimp only at hSw); go_simp; all_goals first | omega | exact IntWalk.i64_in _ (by omega)⟩) (by assumption) ?_
          refine wpAnyH_take (i := 3) (v := .slice (some ⟨bb, boff, none⟩) l.length cap) rfl (by kernel_rfl) (by kernel_rfl) (by kernel_rfl) (fun _ _ _ h => h) (Or.inl ⟨by kernel_rfl, fun w hSw => by (try dsimp only at hSw); go_simp; all_goals first | omega | exact IntWalk.i64_in _ (by omega)⟩) (by assumption) ?_
          refine wpAnyH_take (i := 4) (v := .int .i64 (j : Int)) rfl (by kernel_rfl) (by kernel_rfl) (by kernel_rfl) (fun _ _ _ h => h) (Or.inl ⟨by kernel_rfl, fun w hSw => by (try dsimp only at hSw); go_simp; all_goals first | omega | exact IntWalk.i64_in _ (by omega)⟩) (by assumption) ?_
          refine wpAnyH_take (i := 5) (v := .pointer (some ⟨bb, boff + j * 2, none⟩)) rfl (by kernel_rfl) (by kernel_rfl) (by kernel_rfl) (fun _ _ _ h => h) (Or.inl ⟨by kernel_rfl, fun w hSw => by (try dsimp only at hSw); go_simp; all_goals first | omega | exact IntWalk.i64_in _ (by omega)⟩) (by assumption) ?_
          refine wpAnyH_take (i := 6) (v := .pointer (some ⟨bb, boff + j * 2, none⟩)) rfl (by kernel_rfl) (by kernel_rfl) (by kernel_rfl) (fun _ _ _ h => h) (Or.inl ⟨by kernel_rfl, fun w hSw => by (try dsimp only at hSw); go_simp; all_goals first | omega | exact IntWalk.i64_in _ (by omega)⟩) (by assumption) ?_
          refine wpAnyH_take (i := 7) (v := .int .i64 (a : Int)) rfl (by kernel_rfl) (by kernel_rfl) (by kernel_rfl) (fun _ _ _ h => h) (Or.inl ⟨by kernel_rfl, fun w hSw => by (try dsimp only at hSw); go_simp; all_goals first | omega | exact IntWalk.i64_in _ (by omega)⟩) (by assumption) ?_
          refine wpAnyH_ready (rs := [1, 8]) (by kernel_rfl) (by simp) (AllReadyH.cons rfl (fun K hK => ?_) (AllReadyH.cons rfl (fun K hK => ?_) AllReadyH.nil))
          · go_simp
            refine hK.out _ _ ⟨(HIG.out.cells rfl hlt HXD.out).2.1, (HIG.out.cells rfl hlt HXD.out).2.2.2.2.2.1⟩ (fun hHeld => ?_)
            clear hK K
            refine wpAnyH_ready (rs := [8]) (by kernel_rfl) (by simp) (AllReadyH.cons rfl (fun K hK => ?_) AllReadyH.nil)
            have hb2 := new_below wg (.cells #[.int .i64 (a : Int)] 3)
            have HXA9 := Lib.hid (HXG.out.below hb2)
            have HIA9 := Lib.hid (HI.out.below HXA9.out.bel)
            obtain ⟨m0, m1, m2, _⟩ := HXA9.out.xst.cells
            clear hb2
            go_simp
            refine hK.out _ _ ⟨(HIA9.out.cells rfl hlt HXD.out).2.1, (HIA9.out.cells rfl hlt HXD.out).2.2.2.2.2.1⟩ (fun hHeld => ?_)
            clear hK K
            refine wpAnyH_ready (rs := [9]) (by kernel_rfl) (by simp) (AllReadyH.cons rfl (fun K hK => ?_) AllReadyH.nil)
            refine step_pushR wg (by rfl) _ _ (by rfl) t'.1 t'.2 BT dT s.2 (a : Int) (by rfl) HXG.out.own.2.1 3 (by rfl) hTl HXG.out.le.1 ?_
            intro A5 c5' w15 lo5 hi5 hr5 hor5 hw5
            obtain ⟨hx5, hxh⟩ := HXG.out.pushT hr5 hor5 hw5
            have HX5 := Lib.hid hx5
            have HXH := Lib.hid hxh
            have HI15 := Lib.hid (HI.out.below (within_on HXG.out.bel hw5 HXG.out.bel.size (.inl HXG.out.ge.2.1)))
            clear hr5 hor5 hw5 hx5 hxh m0 m1 m2 j0 j1 j2
            refine hK.out _ _ ⟨(HI15.out.cells rfl hlt HXD.out).2.1, (HI15.out.cells rfl hlt HXD.out).2.2.2.2.2.1⟩ (fun hHeld => ?_)
            clear hK K
            refine wpAnyH_take (i := 10) (v := .pointer (some ⟨xb, 1, none⟩)) rfl (by kernel_rfl) (by kernel_rfl) (by kernel_rfl) (fun _ _ _ h => h) (Or.inl ⟨by kernel_rfl, fun w hSw => by (try dsimp only at hSw); go_simp; all_goals first | omega | exact IntWalk.i64_in _ (by omega)⟩) (by assumption) ?_
            refine wpAnyH_ready (rs := [11]) (by kernel_rfl) (by simp) (AllReadyH.cons rfl (fun K hK => ?_) AllReadyH.nil)
            obtain ⟨q0, q1, q2, q3, q4, q5⟩ := HX5.out.cells
            have HIH := Lib.hid (HI.out.below HXH.out.bel)
            go_simp
            clear q0 q1 q2 q3 q4 q5
            refine hK.out _ _ ⟨(HIH.out.cells rfl hlt HXD.out).2.1, (HIH.out.cells rfl hlt HXD.out).2.2.2.2.2.1⟩ (fun hHeld => ?_)
            clear hK K
            refine wpAnyH_done (by kernel_rfl) ?_ _
            clear hHeld
            generalize hw8 : (w15.setCell ⟨xb, 1, none⟩ (.slice A5 (s.2.length + 1) c5')) = wh at *
            obtain ⟨j0, j1, j2, j3, j4, j5⟩ := HXH.out.xst.cells
            go_wp2_with (at_builtin; refine wpList_pushR _ rfl _ _ rfl z'.1 z'.2 BZ dZ Z (j : Int) rfl HXH.out.own.2.2.1 _ (by first | rfl | (simp only [World.size_setCell]; rfl)) hZl HXH.out.le.2 ?_; intro A7 c7 w17 lo7 hi7 hr7 hor7 hw7; obtain ⟨hx7, hxz⟩ := HXH.out.pushZ hr7 hor7 hw7; obtain ⟨r0, r1, r2, r3, r4, r5⟩ := hx7.cells; have HXZ := Lib.hid hxz; obtain ⟨u0, u1, u2, _⟩ := hxz.xst.cells; have hi9 := HI.out.below hxz.bel; obtain ⟨p0, p1, p2, p3, p4, p5⟩ := hi9.st.cells; have hid9 := hxz.done HI.out HPBL.out; simp only [List.length_set, List.length_append, List.length_singleton] at hid9 u1 u2; have HID9 := Lib.hid hid9; clear hr7 hor7 hw7 hx7 hxz hi9 hid9 j0 j1 j2 j3 j4 j5)
            go_roundw
            case rel => exact ⟨j + 1, by omega, by go_num, by rw [HN.out]; simp, _, _, _, _, _, _, _, _, by rw [HN.out, HN3.out]; exact HID9.out⟩
            case measure => simp [intOf]; omega
          · have hb2 := new_below wg (.cells #[.int .i64 (a : Int)] 3)
            have HXA9 := Lib.hid (HXG.out.below hb2)
            have HIA9 := Lib.hid (HI.out.below HXA9.out.bel)
            obtain ⟨m0, m1, m2, _⟩ := HXA9.out.xst.cells
            clear hb2
            go_simp
            refine hK.out _ _ ⟨(HIA9.out.cells rfl hlt HXD.out).2.1, (HIA9.out.cells rfl hlt HXD.out).2.2.2.2.2.1⟩ (fun hHeld => ?_)
            clear hK K
            refine wpAnyH_ready (rs := [1]) (by kernel_rfl) (by simp) (AllReadyH.cons rfl (fun K hK => ?_) AllReadyH.nil)
            go_simp
            refine hK.out _ _ ⟨(HIA9.out.cells rfl hlt HXD.out).2.1, (HIA9.out.cells rfl hlt HXD.out).2.2.2.2.2.1⟩ (fun hHeld => ?_)
            clear hK K
            refine wpAnyH_ready (rs := [9]) (by kernel_rfl) (by simp) (AllReadyH.cons rfl (fun K hK => ?_) AllReadyH.nil)
            refine step_pushR wg (by rfl) _ _ (by rfl) t'.1 t'.2 BT dT s.2 (a : Int) (by rfl) HXG.out.own.2.1 3 (by rfl) hTl HXG.out.le.1 ?_
            intro A5 c5' w15 lo5 hi5 hr5 hor5 hw5
            obtain ⟨hx5, hxh⟩ := HXG.out.pushT hr5 hor5 hw5
            have HX5 := Lib.hid hx5
            have HXH := Lib.hid hxh
            have HI15 := Lib.hid (HI.out.below (within_on HXG.out.bel hw5 HXG.out.bel.size (.inl HXG.out.ge.2.1)))
            clear hr5 hor5 hw5 hx5 hxh m0 m1 m2 j0 j1 j2
            refine hK.out _ _ ⟨(HI15.out.cells rfl hlt HXD.out).2.1, (HI15.out.cells rfl hlt HXD.out).2.2.2.2.2.1⟩ (fun hHeld => ?_)
            clear hK K
            refine wpAnyH_take (i := 10) (v := .pointer (some ⟨xb, 1, none⟩)) rfl (by kernel_rfl) (by kernel_rfl) (by kernel_rfl) (fun _ _ _ h => h) (Or.inl ⟨by kernel_rfl, fun w hSw => by (try dsimp only at hSw); go_simp; all_goals first | omega | exact IntWalk.i64_in _ (by omega)⟩) (by assumption) ?_
            refine wpAnyH_ready (rs := [11]) (by kernel_rfl) (by simp) (AllReadyH.cons rfl (fun K hK => ?_) AllReadyH.nil)
            obtain ⟨q0, q1, q2, q3, q4, q5⟩ := HX5.out.cells
            have HIH := Lib.hid (HI.out.below HXH.out.bel)
            go_simp
            clear q0 q1 q2 q3 q4 q5
            refine hK.out _ _ ⟨(HIH.out.cells rfl hlt HXD.out).2.1, (HIH.out.cells rfl hlt HXD.out).2.2.2.2.2.1⟩ (fun hHeld => ?_)
            clear hK K
            refine wpAnyH_done (by kernel_rfl) ?_ _
            clear hHeld
            generalize hw8 : (w15.setCell ⟨xb, 1, none⟩ (.slice A5 (s.2.length + 1) c5')) = wh at *
            obtain ⟨j0, j1, j2, j3, j4, j5⟩ := HXH.out.xst.cells
            go_wp2_with (at_builtin; refine wpList_pushR _ rfl _ _ rfl z'.1 z'.2 BZ dZ Z (j : Int) rfl HXH.out.own.2.2.1 _ (by first | rfl | (simp only [World.size_setCell]; rfl)) hZl HXH.out.le.2 ?_; intro A7 c7 w17 lo7 hi7 hr7 hor7 hw7; obtain ⟨hx7, hxz⟩ := HXH.out.pushZ hr7 hor7 hw7; obtain ⟨r0, r1, r2, r3, r4, r5⟩ := hx7.cells; have HXZ := Lib.hid hxz; obtain ⟨u0, u1, u2, _⟩ := hxz.xst.cells; have hi9 := HI.out.below hxz.bel; obtain ⟨p0, p1, p2, p3, p4, p5⟩ := hi9.st.cells; have hid9 := hxz.done HI.out HPBL.out; simp only [List.length_set, List.length_append, List.length_singleton] at hid9 u1 u2; have HID9 := Lib.hid hid9; clear hr7 hor7 hw7 hx7 hxz hi9 hid9 j0 j1 j2 j3 j4 j5)
            go_roundw
            case rel => exact ⟨j + 1, by omega, by go_num, by rw [HN.out]; simp, _, _, _, _, _, _, _, _, by rw [HN.out, HN3.out]; exact HID9.out⟩
            case measure => simp [intOf]; omega
        · have hb2 := new_below WD (.cells #[.slice none 0 0, .slice none 0 0, .slice none 0 0] 63)
          have HIA := Lib.hid (HID.out.below hb2)
          have HBA := Lib.hid (below_on HBD.out hb2 HBD.out.size)
          have HXA := Lib.hid (cel3_new WD (.slice none 0 0) (.slice none 0 0) (.slice none 0 0) 63)
          have HAS := Lib.hid (show (WD.alloc (.cells #[.slice none 0 0, .slice none 0 0, .slice none 0 0] 63)).heap.size = WD.heap.size + 1 by simp)
          clear hb2
          go_simp
          generalize (WD.alloc (.cells #[.slice none 0 0, .slice none 0 0, .slice none 0 0] 63)) = wa at *
          refine hK.out _ _ (HIA.out.cells rfl hlt HXD.out) (fun hHeld => ?_)
          clear hK K
          refine wpAnyH_ready (rs := [14]) (by kernel_rfl) (by simp) (AllReadyH.cons rfl (fun K hK => ?_) AllReadyH.nil)
          go_simp
          go_at_call 131
          refine (HGC.out _ HIA.out.bars.at HIA.out.src).mono ?_
          rintro e wc ⟨hb, BF, dF, BT, dT, BZ, dZ, rfl, ho⟩
          have HIC := Lib.hid (HIA.out.below hb)
          have HBC := Lib.hid (below_on HBA.out hb HBA.out.size)
          have HXC := Lib.hid (HXA.out.kept hb)
          obtain ⟨f, t, z, hof, y1, y2, y3⟩ := ho.ownF
          have HOC := Lib.hid hof
          have HY := Lib.hid (And.intro y1 (And.intro y2 y3))
          have HYS := Lib.hid hb.size
          clear ho hof y1 y2 y3
          clear hb
          refine hK.out _ _ (HIC.out.cells rfl hlt HXD.out) (fun hHeld => ?_)
          clear hK K
          refine wpAnyH_take (i := 15) (v := .tuple #[.agg #[.slice BF s.1.length dF, .slice BT s.2.length dT, .slice BZ Z.length dZ], .bool true]) rfl (by kernel_rfl) (by kernel_rfl) (by kernel_rfl) (fun _ _ _ h => h) (Or.inl ⟨by kernel_rfl, fun w hSw => by (try dsimp only at hSw); go_simp; all_goals first | omega | exact IntWalk.i64_in _ (by omega)⟩) (by assumption) ?_
          refine wpAnyH_take (i := 16) (v := .agg #[.slice BF s.1.length dF, .slice BT s.2.length dT, .slice BZ Z.length dZ]) rfl (by kernel_rfl) (by kernel_rfl) (by kernel_rfl) (fun _ _ _ h => h) (Or.inl ⟨by kernel_rfl, fun w hSw => by (try dsimp only at hSw); go_simp; all_goals first | omega | exact IntWalk.i64_in _ (by omega)⟩) (by assumption) ?_
          refine wpAnyH_take (i := 17) (v := .bool true) rfl (by kernel_rfl) (by kernel_rfl) (by kernel_rfl) (fun _ _ _ h => h) (Or.inl ⟨by kernel_rfl, fun w hSw => by (try dsimp only at hSw); go_simp; all_goals first | omega | exact IntWalk.i64_in _ (by omega)⟩) (by assumption) ?_
          refine wpAnyH_ready (rs := [19]) (by kernel_rfl) (by simp) (AllReadyH.cons rfl (fun K hK => ?_) AllReadyH.nil)
          obtain ⟨q0, q1, q2, q3, q4, q5⟩ := HXC.out.cells
          have hr := ret3 HXC.out (.slice BF s.1.length dF) (.slice BT s.2.length dT) (.slice BZ Z.length dZ)
          have HXS := Lib.hid hr.1
          have hbx : wr.heap.size ≤ WD.heap.size := HBD.out.size
          have HXB := Lib.hid hbx
          have HBS := Lib.hid (within_on HBC.out hr.2 HBC.out.size (.inl hbx))
          have HIS := Lib.hid (HI.out.below HBS.out)
          have hy := HY.out
          have hys := HYS.out
          have has := HAS.out
          have hxd9 : (WD.heap.size < f.1 ∨ f.2 ≤ WD.heap.size) ∧ (WD.heap.size < t.1 ∨ t.2 ≤ WD.heap.size) ∧ (WD.heap.size < z.1 ∨ z.2 ≤ WD.heap.size) := by omega
          have HXDD := Lib.hid hxd9
          have HGE := Lib.hid (show wr.heap.size ≤ f.1 ∧ wr.heap.size ≤ t.1 ∧ wr.heap.size ≤ z.1 from by have := HBD.out.size; omega)
          have HOS := Lib.hid (HOC.out.within hr.2 (by omega) (by omega) (by omega))
          clear hy hys has hxd9
          clear hr hbx
          go_simp
          clear q0 q1 q2 q3 q4 q5
          refine hK.out _ _ (HIS.out.cells rfl hlt HXD.out) (fun hHeld => ?_)
          clear hK K
          refine wpAnyH_ready (rs := [20]) (by kernel_rfl) (by simp) (AllReadyH.cons rfl (fun K hK => ?_) AllReadyH.nil)
          go_simp
          refine hK.out _ _ (HIS.out.cells rfl hlt HXD.out) (fun hHeld => ?_)
          clear hK K
          refine wpAnyH_done (by kernel_rfl) ?_ _
          obtain ⟨gF, rfl, hgf⟩ := HOS.out.fst (by have := HN2.out; omega)
          have hge := HGE.out
          have hxlt := HXS.out.lt
          obtain ⟨t', z', hn8, m1, m2, m3, m4, m5, m6⟩ := HOS.out.norm (B := wr.heap.size) (pb := WD.heap.size) HBS.out.size hxlt hge.2.1 hge.2.2 HXDD.out.2.1 HXDD.out.2.2
          have HX8 := Lib.hid (show L6X wr (((wc.setCell ⟨WD.heap.size, 0, none⟩ (.slice (some ⟨gF, 0, none⟩) s.1.length dF)).setCell ⟨WD.heap.size, 1, none⟩ (.slice BT s.2.length dT)).setCell ⟨WD.heap.size, 2, none⟩ (.slice BZ Z.length dZ)) WD.heap.size f t' z' gF BT BZ dF dT dZ s.1 s.2 Z from ⟨HXS.out, hn8, hgf, ⟨hge.1, m1, m2, HXB.out⟩, ⟨HXDD.out.1, m3, m4⟩, ⟨m5, m6⟩, HBS.out⟩)
          clear hgf hge hxlt hn8 m1 m2 m3 m4 m5 m6 HOS HXS hHeld
          generalize (((wc.setCell ⟨WD.heap.size, 0, none⟩ (.slice (some ⟨gF, 0, none⟩) s.1.length dF)).setCell ⟨WD.heap.size, 1, none⟩ (.slice BT s.2.length dT)).setCell ⟨WD.heap.size, 2, none⟩ (.slice BZ Z.length dZ)) = w8 at *
          generalize WD.heap.size = xb at *
          obtain ⟨c0, c1, c2, c3, c4, c5, c6⟩ := HIS.out.cells rfl hlt HXD.out
          obtain ⟨j0, j1, j2, _⟩ := HX8.out.xst.cells
          have hcf := HX8.out.cellF (i := a) (by have := HN2.out; omega)
          obtain ⟨hc8, hf8⟩ := hcf
          rw [HN3.out] at hc8
          have has8 : (a : Int) < (s.1.length : Int) := by have := HN2.out; omega
          go_wp2_with fail
          go_still_tail 20, (by kernel_rfl)
          change wpList _ _ _ _ _ w8.drew
          have hd8 : Below w8.heap.size w8 w8.drew := (Below.refl _ _).drew
          have HX9 := Lib.hid (HX8.out.below hd8)
          clear c0 c1 c2 c3 c4 c5 c6 j0 j1 j2 hc8 hf8 hd8
          generalize w8.drew = w9 at *
          obtain ⟨hc9, hf9⟩ := HX9.out.cellF (i := a) (by have := HN2.out; omega)
          have HXF := Lib.hid (HX9.out.setF (by have := HN2.out; omega) a 1)
          rw [HN3.out] at hc9
          have HIF := Lib.hid (HI.out.below HXF.out.bel)
          obtain ⟨c0, c1, c2, c3, c4, c5, c6⟩ := HIF.out.cells rfl hlt HXD.out
          obtain ⟨j0, j1, j2, _⟩ := HXF.out.xst.cells
          go_wp2_with fail
          clear hc9 hf9
          generalize (w9.setCell ⟨gF, a, none⟩ (.int .i64 1)) = wf at *
          have hTl : s.2.length ≤ 1048576 := by rw [HN4.out, HFS.out.1.ends.len, plE_len]; omega
          have hZl : Z.length ≤ 1048576 := by omega
          have hd8 : Below wf.heap.size wf wf.drew := (Below.refl _ _).drew
          have HXG := Lib.hid (HXF.out.below hd8)
          have HIG := Lib.hid (HI.out.below HXG.out.bel)
          clear c0 c1 c2 c3 c4 c5 c6 j0 j1 j2 hd8
          refine wp_region_held_drew (S := (fun W' : World => W'.cell? ⟨w.heap.size, 1, none⟩ = some (.slice (some ⟨bb, boff, none⟩) l.length cap) ∧ W'.cell? ⟨bb, boff + j * 2, none⟩ = some (.int .i64 (a : Int)))) (by kernel_rfl) ?_ (fun hHeld => ?_)
          · exact ⟨(HIG.out.cells rfl hlt HXD.out).2.1, (HIG.out.cells rfl hlt HXD.out).2.2.2.2.2.1⟩
          generalize wf.drew = wg at *
          obtain ⟨j0, j1, j2, _⟩ := HXG.out.xst.cells
          refine wpAnyH_take (i := 0) (v := .pointer (some ⟨xb, 1, none⟩)) rfl (by kernel_rfl) (by kernel_rfl) (by kernel_rfl) (fun _ _ _ h => h) (Or.inl ⟨by kernel_rfl, fun w hSw => by (try dsimp only at hSw); go_simp; all_goals first | omega | exact IntWalk.i64_in _ (by omega)⟩) (by assumption) ?_
          refine wpAnyH_take (i := 2) (v := .pointer (some ⟨w.heap.size, 1, none⟩)) rfl (by kernel_rfl) (by kernel_rfl) (by kernel_rfl) (fun _ _ _ h => h) (Or.inl ⟨by kernel_rfl, fun w hSw => by (try dsimp only at hSw); go_simp; all_goals first | omega | exact IntWalk.i64_in _ (by omega)⟩) (by assumption) ?_
          refine wpAnyH_take (i := 3) (v := .slice (some ⟨bb, boff, none⟩) l.length cap) rfl (by kernel_rfl) (by kernel_rfl) (by kernel_rfl) (fun _ _ _ h => h) (Or.inl ⟨by kernel_rfl, fun w hSw => by (try dsimp only at hSw); go_simp; all_goals first | omega | exact IntWalk.i64_in _ (by omega)⟩) (by assumption) ?_
          refine wpAnyH_take (i := 4) (v := .int .i64 (j : Int)) rfl (by kernel_rfl) (by kernel_rfl) (by kernel_rfl) (fun _ _ _ h => h) (Or.inl ⟨by kernel_rfl, fun w hSw => by (try dsimp only at hSw); go_simp; all_goals first | omega | exact IntWalk.i64_in _ (by omega)⟩) (by assumption) ?_
          refine wpAnyH_take (i := 5) (v := .pointer (some ⟨bb, boff + j * 2, none⟩)) rfl (by kernel_rfl) (by kernel_rfl) (by kernel_rfl) (fun _ _ _ h => h) (Or.inl ⟨by kernel_rfl, fun w hSw => by (try dsimp only at hSw); go_simp; all_goals first | omega | exact IntWalk.i64_in _ (by omega)⟩) (by assumption) ?_
          refine wpAnyH_take (i := 6) (v := .pointer (some ⟨bb, boff + j * 2, none⟩)) rfl (by kernel_rfl) (by kernel_rfl) (by kernel_rfl) (fun _ _ _ h => h) (Or.inl ⟨by kernel_rfl, fun w hSw => by (try dsimp only at hSw); go_simp; all_goals first | omega | exact IntWalk.i64_in _ (by omega)⟩) (by assumption) ?_
          refine wpAnyH_take (i := 7) (v := .int .i64 (a : Int)) rfl (by kernel_rfl) (by kernel_rfl) (by kernel_rfl) (fun _ _ _ h => h) (Or.inl ⟨by kernel_rfl, fun w hSw => by (try dsimp only at hSw); go_simp; all_goals first | omega | exact IntWalk.i64_in _ (by omega)⟩) (by assumption) ?_
          refine wpAnyH_ready (rs := [1, 8]) (by kernel_rfl) (by simp) (AllReadyH.cons rfl (fun K hK => ?_) (AllReadyH.cons rfl (fun K hK => ?_) AllReadyH.nil))
          · go_simp
            refine hK.out _ _ ⟨(HIG.out.cells rfl hlt HXD.out).2.1, (HIG.out.cells rfl hlt HXD.out).2.2.2.2.2.1⟩ (fun hHeld => ?_)
            clear hK K
            refine wpAnyH_ready (rs := [8]) (by kernel_rfl) (by simp) (AllReadyH.cons rfl (fun K hK => ?_) AllReadyH.nil)
            have hb2 := new_below wg (.cells #[.int .i64 (a : Int)] 3)
            have HXA9 := Lib.hid (HXG.out.below hb2)
            have HIA9 := Lib.hid (HI.out.below HXA9.out.bel)
            obtain ⟨m0, m1, m2, _⟩ := HXA9.out.xst.cells
            clear hb2
            go_simp
            refine hK.out _ _ ⟨(HIA9.out.cells rfl hlt HXD.out).2.1, (HIA9.out.cells rfl hlt HXD.out).2.2.2.2.2.1⟩ (fun hHeld => ?_)
            clear hK K
            refine wpAnyH_ready (rs := [9]) (by kernel_rfl) (by simp) (AllReadyH.cons rfl (fun K hK => ?_) AllReadyH.nil)
            refine step_pushR wg (by rfl) _ _ (by rfl) t'.1 t'.2 BT dT s.2 (a : Int) (by rfl) HXG.out.own.2.1 3 (by rfl) hTl HXG.out.le.1 ?_
            intro A5 c5' w15 lo5 hi5 hr5 hor5 hw5
            obtain ⟨hx5, hxh⟩ := HXG.out.pushT hr5 hor5 hw5
            have HX5 := Lib.hid hx5
            have HXH := Lib.hid hxh
            have HI15 := Lib.hid (HI.out.below (within_on HXG.out.bel hw5 HXG.out.bel.size (.inl HXG.out.ge.2.1)))
            clear hr5 hor5 hw5 hx5 hxh m0 m1 m2 j0 j1 j2
            refine hK.out _ _ ⟨(HI15.out.cells rfl hlt HXD.out).2.1, (HI15.out.cells rfl hlt HXD.out).2.2.2.2.2.1⟩ (fun hHeld => ?_)
            clear hK K
            refine wpAnyH_take (i := 10) (v := .pointer (some ⟨xb, 1, none⟩)) rfl (by kernel_rfl) (by kernel_rfl) (by kernel_rfl) (fun _ _ _ h => h) (Or.inl ⟨by kernel_rfl, fun w hSw => by (try dsimp only at hSw); go_simp; all_goals first | omega | exact IntWalk.i64_in _ (by omega)⟩) (by assumption) ?_
            refine wpAnyH_ready (rs := [11]) (by kernel_rfl) (by simp) (AllReadyH.cons rfl (fun K hK => ?_) AllReadyH.nil)
            obtain ⟨q0, q1, q2, q3, q4, q5⟩ := HX5.out.cells
            have HIH := Lib.hid (HI.out.below HXH.out.bel)
            go_simp
            clear q0 q1 q2 q3 q4 q5
            refine hK.out _ _ ⟨(HIH.out.cells rfl hlt HXD.out).2.1, (HIH.out.cells rfl hlt HXD.out).2.2.2.2.2.1⟩ (fun hHeld => ?_)
            clear hK K
            refine wpAnyH_done (by kernel_rfl) ?_ _
            clear hHeld
            generalize hw8 : (w15.setCell ⟨xb, 1, none⟩ (.slice A5 (s.2.length + 1) c5')) = wh at *
            obtain ⟨j0, j1, j2, j3, j4, j5⟩ := HXH.out.xst.cells
            go_wp2_with (at_builtin; refine wpList_pushR _ rfl _ _ rfl z'.1 z'.2 BZ dZ Z (j : Int) rfl HXH.out.own.2.2.1 _ (by first | rfl | (simp only [World.size_setCell]; rfl)) hZl HXH.out.le.2 ?_; intro A7 c7 w17 lo7 hi7 hr7 hor7 hw7; obtain ⟨hx7, hxz⟩ := HXH.out.pushZ hr7 hor7 hw7; obtain ⟨r0, r1, r2, r3, r4, r5⟩ := hx7.cells; have HXZ := Lib.hid hxz; obtain ⟨u0, u1, u2, _⟩ := hxz.xst.cells; have hi9 := HI.out.below hxz.bel; obtain ⟨p0, p1, p2, p3, p4, p5⟩ := hi9.st.cells; have hid9 := hxz.done HI.out HPBL.out; simp only [List.length_set, List.length_append, List.length_singleton] at hid9 u1 u2; have HID9 := Lib.hid hid9; clear hr7 hor7 hw7 hx7 hxz hi9 hid9 j0 j1 j2 j3 j4 j5)
            go_roundw
            case rel => exact ⟨j + 1, by omega, by go_num, by rw [HN.out]; simp, _, _, _, _, _, _, _, _, by rw [HN.out, HN3.out]; exact HID9.out⟩
            case measure => simp [intOf]; omega
          · have hb2 := new_below wg (.cells #[.int .i64 (a : Int)] 3)
            have HXA9 := Lib.hid (HXG.out.below hb2)
            have HIA9 := Lib.hid (HI.out.below HXA9.out.bel)
            obtain ⟨m0, m1, m2, _⟩ := HXA9.out.xst.cells
            clear hb2
            go_simp
            refine hK.out _ _ ⟨(HIA9.out.cells rfl hlt HXD.out).2.1, (HIA9.out.cells rfl hlt HXD.out).2.2.2.2.2.1⟩ (fun hHeld => ?_)
            clear hK K
            refine wpAnyH_ready (rs := [1]) (by kernel_rfl) (by simp) (AllReadyH.cons rfl (fun K hK => ?_) AllReadyH.nil)
            go_simp
            refine hK.out _ _ ⟨(HIA9.out.cells rfl hlt HXD.out).2.1, (HIA9.out.cells rfl hlt HXD.out).2.2.2.2.2.1⟩ (fun hHeld => ?_)
            clear hK K
            refine wpAnyH_ready (rs := [9]) (by kernel_rfl) (by simp) (AllReadyH.cons rfl (fun K hK => ?_) AllReadyH.nil)
            refine step_pushR wg (by rfl) _ _ (by rfl) t'.1 t'.2 BT dT s.2 (a : Int) (by rfl) HXG.out.own.2.1 3 (by rfl) hTl HXG.out.le.1 ?_
            intro A5 c5' w15 lo5 hi5 hr5 hor5 hw5
            obtain ⟨hx5, hxh⟩ := HXG.out.pushT hr5 hor5 hw5
            have HX5 := Lib.hid hx5
            have HXH := Lib.hid hxh
            have HI15 := Lib.hid (HI.out.below (within_on HXG.out.bel hw5 HXG.out.bel.size (.inl HXG.out.ge.2.1)))
            clear hr5 hor5 hw5 hx5 hxh m0 m1 m2 j0 j1 j2
            refine hK.out _ _ ⟨(HI15.out.cells rfl hlt HXD.out).2.1, (HI15.out.cells rfl hlt HXD.out).2.2.2.2.2.1⟩ (fun hHeld => ?_)
            clear hK K
            refine wpAnyH_take (i := 10) (v := .pointer (some ⟨xb, 1, none⟩)) rfl (by kernel_rfl) (by kernel_rfl) (by kernel_rfl) (fun _ _ _ h => h) (Or.inl ⟨by kernel_rfl, fun w hSw => by (try dsimp only at hSw); go_simp; all_goals first | omega | exact IntWalk.i64_in _ (by omega)⟩) (by assumption) ?_
            refine wpAnyH_ready (rs := [11]) (by kernel_rfl) (by simp) (AllReadyH.cons rfl (fun K hK => ?_) AllReadyH.nil)
            obtain ⟨q0, q1, q2, q3, q4, q5⟩ := HX5.out.cells
            have HIH := Lib.hid (HI.out.below HXH.out.bel)
            go_simp
            clear q0 q1 q2 q3 q4 q5
            refine hK.out _ _ ⟨(HIH.out.cells rfl hlt HXD.out).2.1, (HIH.out.cells rfl hlt HXD.out).2.2.2.2.2.1⟩ (fun hHeld => ?_)
            clear hK K
            refine wpAnyH_done (by kernel_rfl) ?_ _
            clear hHeld
            generalize hw8 : (w15.setCell ⟨xb, 1, none⟩ (.slice A5 (s.2.length + 1) c5')) = wh at *
            obtain ⟨j0, j1, j2, j3, j4, j5⟩ := HXH.out.xst.cells
            go_wp2_with (at_builtin; refine wpList_pushR _ rfl _ _ rfl z'.1 z'.2 BZ dZ Z (j : Int) rfl HXH.out.own.2.2.1 _ (by first | rfl | (simp only [World.size_setCell]; rfl)) hZl HXH.out.le.2 ?_; intro A7 c7 w17 lo7 hi7 hr7 hor7 hw7; obtain ⟨hx7, hxz⟩ := HXH.out.pushZ hr7 hor7 hw7; obtain ⟨r0, r1, r2, r3, r4, r5⟩ := hx7.cells; have HXZ := Lib.hid hxz; obtain ⟨u0, u1, u2, _⟩ := hxz.xst.cells; have hi9 := HI.out.below hxz.bel; obtain ⟨p0, p1, p2, p3, p4, p5⟩ := hi9.st.cells; have hid9 := hxz.done HI.out HPBL.out; simp only [List.length_set, List.length_append, List.length_singleton] at hid9 u1 u2; have HID9 := Lib.hid hid9; clear hr7 hor7 hw7 hx7 hxz hi9 hid9 j0 j1 j2 j3 j4 j5)
            go_roundw
            case rel => exact ⟨j + 1, by omega, by go_num, by rw [HN.out]; simp, _, _, _, _, _, _, _, _, by rw [HN.out, HN3.out]; exact HID9.out⟩
            case measure => simp [intOf]; omega
    · obtain rfl : j = l.length := by omega
      have hg1 := hin.gb.2.2
      clear hin
      go_wp2_with fail
      go_ret
      exact ⟨rfl, HI.out.bel⟩
end Go.Proofs.Ytggibhhdnlifcaa
/- Copies of rows of bars: words on rows of the call's own. No condition. -/
namespace Go.Proofs.Ytggibhhdnlifcaa
open Go.RowKit

theorem barCells_at {w : World} {b off : Nat} {l : List (Int × Int)} (h : ∀ k, k < l.length → w.cell? ⟨b, off + k * 2, none⟩ = some (.int .i64 (l.getD k (0, 0)).1) ∧ w.cell? ⟨b, off + k * 2 + 1, none⟩ = some (.int .i64 (l.getD k (0, 0)).2)) : ∀ j u, (barCells l)[j]? = some u → w.cell? ⟨b, off + j, none⟩ = some u := by
  intro j u hj
  have hlt : j < l.length * 2 := by
    have := (List.getElem?_eq_some_iff.1 hj).1
    rwa [barCells_len] at this
  have hj2 : j = j / 2 * 2 ∨ j = j / 2 * 2 + 1 := by omega
  have hk : j / 2 < l.length := by omega
  generalize j / 2 = k at *
  have hg := barCells_get l k hk
  have hc := h k hk
  rcases hj2 with rfl | rfl
  · rw [hg.1] at hj
    cases hj
    exact hc.1
  · rw [hg.2] at hj
    cases hj
    exact hc.2
theorem barCells_one (l : List (Int × Int)) : ∀ u ∈ barCells l, u.oneCell' = true := by
  intro u hu
  obtain ⟨x, _, hx⟩ := List.mem_flatMap.1 hu
  simp at hx
  rcases hx with rfl | rfl <;> rfl

/-- A row of bars of the call's own. -/
def RowO (w : World) (l : List (Int × Int)) (e : Ending) (w' : World) : Prop :=
  ∃ A2 c2, e = .returned (.slice A2 l.length c2) ∧ w'.ownsRow w.heap.size 103 2 (.slice A2 l.length c2) l.length (barCells l) ∧ Below w.heap.size w w'

/-- An append onto a row of the call's own, as one step of a region that draws its order. -/
theorem step_own {P : Program} {w : World} {ops : Array Oper} {o : Oper} {a : Act} {K : Act → World → Prop} {Q : Exit → Act → World → Prop} {E : Prop} (hgd : o.guard = none) (s x : Operand) (t : TypeId)
    (ho : o.op = .call { callee := .builtin .append, args := #[s, x], argTypes := #[t, t] })
    (base : Nat) (e : TypeId) (i : TypeInfo) (z : Value) (size bytes : Nat) (ht : P.underlying t = some (.slice e)) (hi : P.info? e = some i) (hz : i.zero = some z)
    (hsize : i.size = size) (hby : i.bytes = bytes) (hzs : z.cells.size = size) (hsz : 0 < size)
    (v : Value) (n : Nat) (xs : List Value) (hs : a.eval s = v) (hown : w.ownsRow base e size v n xs)
    (ad : Addr) (m c : Nat) (news : List Value) (hx : a.eval x = .slice (some ad) m c) (hl : news.length = m * size) (hnews : ∀ j u, news[j]? = some u → w.cell? (ad.add j) = some u) (h1 : ∀ u ∈ news, u.oneCell' = true)
    (h63 : n + m ≤ maxLen) (hbytes : (n + m) * bytes ≤ 140737488355328) (hbase : base ≤ w.heap.size)
    (h : ∀ v' w', w'.ownsRow base e size v' (n + m) (xs ++ news) → w.grownBy w' v.ownBlock → K (a.put o.dst v') w') :
    if Region.wanted o (yielded ops a.tmps) = true then Oper.wp P o a w K Q else E := by
  have hw : Region.wanted o (yielded ops a.tmps) = true := by simp [Region.wanted, hgd]
  rw [if_pos hw]
  exact wp_append_own w s x t ho base e i z size bytes ht hi hz hsize hby hzs hsz v n xs hs hown ad m c news hx hl hnews h1 h63 hbytes hbase fun v' w' h2 h3 _ => h v' w' h2 h3

/-- The answer's variable r is written behind a row of the call's own. -/
theorem row_ret {w w3 : World} {r B' : Nat} {A2 : Option Addr} {c2 : Nat} {l : List (Int × Int)} (ho : w3.ownsRow B' 103 2 (.slice A2 l.length c2) l.length (barCells l)) (hB : Below w.heap.size w w3) (h1 : w.heap.size ≤ r) (h2 : r < B') (u v : Value) :
    OwnIn ((w3.setCell ⟨r, 0, none⟩ u).setCell ⟨r, 1, none⟩ v) w.heap.size ((w3.setCell ⟨r, 0, none⟩ u).setCell ⟨r, 1, none⟩ v).heap.size A2 c2 l ∧ Below w.heap.size w ((w3.setCell ⟨r, 0, none⟩ u).setCell ⟨r, 1, none⟩ v) := by
  have hg := (grownBy_set w3 r 0 u).trans_ (grownBy_set (w3.setCell ⟨r, 0, none⟩ u) r 1 v)
  refine ⟨own_in' ((own_base ho (by omega)).kept hg ?_), hB.grown hg hB.size fun g e => by cases e; exact h1⟩
  cases A2 with
  | none => exact .inl rfl
  | some a =>
    have := (ho.lt a.block rfl).1
    exact .inr (by simp [Value.ownBlock]; omega)
theorem OwnIn.drew {w : World} {lo : Nat} {A : Option Addr} {c : Nat} {l : List (Int × Int)} (h : OwnIn w lo w.heap.size A c l) : OwnIn w.drew lo w.drew.heap.size A c l := h.within (within_of ((Below.refl _ _).drew)) (by omega)
theorem ret_cells {w3 : World} {r : Nat} {p u : Int} {a v : Value} (h0 : w3.cell? ⟨r, 0, none⟩ = some (.int .i64 u)) (h1 : w3.cell? ⟨r, 1, none⟩ = some a) :
    ((w3.setCell ⟨r, 0, none⟩ (.int .i64 p)).setCell ⟨r, 1, none⟩ v).cell? ⟨r, 0, none⟩ = some (.int .i64 p) ∧ ((w3.setCell ⟨r, 0, none⟩ (.int .i64 p)).setCell ⟨r, 1, none⟩ v).cell? ⟨r, 1, none⟩ = some v := by
  constructor
  · rw [World.cell?_setCell_other _ _ _ _ (by intro e; simp at e)]
    exact World.cell?_setCell_same _ _ _ h0
  · have r2 : (w3.setCell ⟨r, 0, none⟩ (.int .i64 p)).cell? ⟨r, 1, none⟩ = some a := by
      rw [World.cell?_setCell_other _ _ _ _ (by intro e; simp at e)]
      exact h1
    exact World.cell?_setCell_same _ _ _ r2

end Go.Proofs.Ytggibhhdnlifcaa
/- What spec.l2Copy answers: a copy of the call's own. No condition. -/
namespace Go.Proofs.Ytggibhhdnlifcaa
open Go.RowKit

set_option maxHeartbeats 2000000 in
set_option maxRecDepth 100000 in
theorem copy_c (p : Int) (l : List (Int × Int)) (a : Addr) (cap : Nat) (w : World) (hl : BarsAt w w.heap.size (some a) l) (hn : l.length ≤ 1048576) :
    Calls Try.prog 95 #[.agg #[.int .i64 p, .slice (some a) l.length cap]] w (GraphO w p l) := by
  obtain ⟨i0, hi0, hz0, hz1, hz2⟩ := info_parts infoBar
  have hA1 := new_below w (.cells #[.int .i64 p, .slice (some a) l.length cap] 30)
  have hA2 := new_below (w.alloc (.cells #[.int .i64 p, .slice (some a) l.length cap] 30)) (.cells #[.int .i64 0, .slice none 0 0] 30)
  have hA := below_on hA1 hA2 hA1.size
  have hsz1 : (w.alloc (.cells #[.int .i64 p, .slice (some a) l.length cap] 30)).heap.size = w.heap.size + 1 := by simp
  have hsz2 : ((w.alloc (.cells #[.int .i64 p, .slice (some a) l.length cap] 30)).alloc (.cells #[.int .i64 0, .slice none 0 0] 30)).heap.size = w.heap.size + 2 := by simp
  have hX := (box_new w p (.slice (some a) l.length cap) 30).kept hA2
  have hR := box_new (w.alloc (.cells #[.int .i64 p, .slice (some a) l.length cap] 30)) 0 (.slice none 0 0) 30
  have hF : ((w.alloc (.cells #[.int .i64 p, .slice (some a) l.length cap] 30)).alloc (.cells #[.int .i64 0, .slice none 0 0] 30)).frozen? ⟨(w.alloc (.cells #[.int .i64 p, .slice (some a) l.length cap] 30)).heap.size, 0, none⟩ = false ∧ ((w.alloc (.cells #[.int .i64 p, .slice (some a) l.length cap] 30)).alloc (.cells #[.int .i64 0, .slice none 0 0] 30)).frozen? ⟨(w.alloc (.cells #[.int .i64 p, .slice (some a) l.length cap] 30)).heap.size, 1, none⟩ = false := ⟨World.frozen?_alloc_at _ _ _ _ rfl, World.frozen?_alloc_at _ _ _ _ rfl⟩
  rw [hsz1] at hR hF
  have HLA := Lib.hid (hl.on hA)
  go_enter Try.func95, Try.ntmps95
  go_wp2_with fail
  generalize ((w.alloc (.cells #[.int .i64 p, .slice (some a) l.length cap] 30)).alloc (.cells #[.int .i64 0, .slice none 0 0] 30)) = w1 at *
  have hal := new_below w1 (.cells #[] 103)
  have HM := Lib.hid (World.ownsRow_made (base := w1.heap.size) (e := 103) (size := 2) w1 #[] 0 (Nat.le_refl _) (by unfold maxLen; omega) (by simp))
  have HC := Lib.hid (show ∀ j u, (barCells l)[j]? = some u → ((w1.alloc (.cells #[] 103)).drew).cell? (a.add j) = some u from fun j u hj => by
    have hlt : j < l.length * 2 := by
      have := (List.getElem?_eq_some_iff.1 hj).1
      rwa [barCells_len] at this
    obtain ⟨b, off, e, hb, hc⟩ := HLA.out (by omega)
    cases e
    have hadd : (⟨b, off, none⟩ : Addr).add j = ⟨b, off + j, none⟩ := by unfold Addr.add; split <;> simp_all
    rw [hadd]
    exact (hal.cell (p := ⟨b, off + j, none⟩) hb).trans (barCells_at hc j u hj))
  have HAD := Lib.hid (below_on hA hal hA.size)
  have HXD := Lib.hid (hX.kept hal)
  have HRD := Lib.hid (hR.kept hal)
  have HFD := Lib.hid (show (w1.alloc (.cells #[] 103)).frozen? ⟨w.heap.size + 1, 0, none⟩ = false ∧ (w1.alloc (.cells #[] 103)).frozen? ⟨w.heap.size + 1, 1, none⟩ = false from ⟨(hal.frozen (p := ⟨w.heap.size + 1, 0, none⟩) hR.1).trans hF.1, (hal.frozen (p := ⟨w.heap.size + 1, 1, none⟩) hR.1).trans hF.2⟩)
  obtain ⟨_, x0, x1⟩ := hX
  have HSZ := Lib.hid hsz2
  clear hl hA1 hA2 hA hsz1 hsz2 hR hF hal
  go_region_law (refine step_own (by rfl) _ _ _ (by rfl) w1.heap.size 103 i0 _ 2 16 Try.underlying28 hi0 hz0 hz1 hz2 rfl (by omega) _ 0 [] (by rfl) HM.out.drew a l.length cap (barCells l) (by rfl) (barCells_len l) HC.out (barCells_one l) (by unfold maxLen; omega) (by omega) (by simp) ?_; intro v' w3 ho hg; rw [Nat.zero_add, List.nil_append] at ho; obtain ⟨A2, c2, rfl⟩ := own_shape ho; have hb : Below w1.heap.size (w1.alloc (.cells #[] 103)) w3 := ((Below.refl _ _).drew).grown hg (by simp) (fun k hk => by cases hk; exact Nat.le_refl _); have hlt : w.heap.size + 1 < w1.heap.size := (by have := HSZ.out; omega); have y0 := (hb.cell (p := ⟨w.heap.size, 0, none⟩) (show w.heap.size < w1.heap.size by omega)).trans HXD.out.2.1; have z0 := (hb.cell (p := ⟨w.heap.size + 1, 0, none⟩) hlt).trans HRD.out.2.1; have z1 := (hb.cell (p := ⟨w.heap.size + 1, 1, none⟩) hlt).trans HRD.out.2.2; have f0 := (hb.frozen (p := ⟨w.heap.size + 1, 0, none⟩) hlt).trans HFD.out.1; have f1 := (hb.frozen (p := ⟨w.heap.size + 1, 1, none⟩) hlt).trans HFD.out.2; have HO := Lib.hid ho; have HB := Lib.hid (HAD.out.trans (hb.mono (by omega))); have HZ := Lib.hid (And.intro z0 z1); have HLT := Lib.hid hlt; clear ho hb hg hlt)
  all_goals
    go_wp2_with fail
    obtain ⟨s0, s1⟩ := ret_cells (p := p) (v := .slice A2 l.length c2) HZ.out.1 HZ.out.2
    obtain ⟨r1, r2⟩ := row_ret HO.out HB.out (r := w.heap.size + 1) (by omega) HLT.out (.int .i64 p) (.slice A2 l.length c2)
    refine bodyPost_ret (v := .agg #[.int .i64 p, .slice A2 l.length c2]) ?_ rfl ⟨A2, c2, rfl, ?_, ?_⟩
    · simp [results, Try.results95, go_sem, s0, s1]
    · first | exact r1 | exact r1.drew
    · first | exact r2 | exact r2.drew
end Go.Proofs.Ytggibhhdnlifcaa
/- What RemoveBar answers, the specification's. No condition. -/
namespace Go.Proofs.Ytggibhhdnlifcaa
open Go.RowKit

/-- Can the bar be taken out? -/
noncomputable def remR (p k : Int) (l : List (Int × Int)) : Bool := isGB p l && (decide (0 ≤ k) && decide (k < (l.length : Int)))
noncomputable def remL (p k : Int) (l : List (Int × Int)) : List (Int × Int) := if remR p k l = true then l.take k.toNat ++ l.drop (k.toNat + 1) else l
theorem remL_len (p k : Int) (l : List (Int × Int)) (h : l.length ≤ 1048576) : (remL p k l).length ≤ 1048576 := by
  unfold remL
  split
  · simp; omega
  · exact h
theorem rem_no {p k : Int} {l : List (Int × Int)} (h : isGB p l = false ∨ k < 0 ∨ (l.length : Int) ≤ k) : remR p k l = false ∧ remL p k l = l := by
  have e : remR p k l = false := by
    unfold remR
    rcases h with h | h | h
    · rw [h]; rfl
    · rw [decide_eq_false (by omega : ¬ 0 ≤ k)]; simp
    · rw [decide_eq_false (by omega : ¬ k < (l.length : Int))]; simp
  exact ⟨e, by unfold remL; rw [e]; rfl⟩
theorem rem_yes {p : Int} {k : Nat} {l : List (Int × Int)} (h : isGB p l = true) (hk : k < l.length) : remR p k l = true ∧ remL p k l = l.take k ++ l.drop (k + 1) := by
  have e : remR p k l = true := by
    unfold remR
    rw [h]
    simp
    omega
  refine ⟨e, ?_⟩
  unfold remL
  rw [if_pos e]
  rfl

theorem barCells_take : ∀ (l : List (Int × Int)) (k : Nat), barCells (l.take k) = (barCells l).take (k * 2) := by
  intro l
  induction l with
  | nil => intro k; simp [barCells]
  | cons x l ih =>
    intro k
    rcases k with _ | k
    · simp [barCells]
    · have := ih k
      simp only [barCells] at this ⊢
      rw [List.take_succ_cons, List.flatMap_cons, this, show (k + 1) * 2 = k * 2 + 2 by omega, List.flatMap_cons]
      rfl
theorem barCells_drop : ∀ (l : List (Int × Int)) (k : Nat), barCells (l.drop k) = (barCells l).drop (k * 2) := by
  intro l
  induction l with
  | nil => intro k; simp [barCells]
  | cons x l ih =>
    intro k
    rcases k with _ | k
    · simp [barCells]
    · have := ih k
      simp only [barCells] at this ⊢
      rw [List.drop_succ_cons, this, show (k + 1) * 2 = k * 2 + 2 by omega, List.flatMap_cons]
      rfl
theorem two_other {w4 : World} {s r : Nat} {u v x y : Value} (hne : s ≠ r) (h0 : w4.cell? ⟨s, 0, none⟩ = some x) (h1 : w4.cell? ⟨s, 1, none⟩ = some y) :
    ((w4.setCell ⟨r, 0, none⟩ u).setCell ⟨r, 1, none⟩ v).cell? ⟨s, 0, none⟩ = some x ∧ ((w4.setCell ⟨r, 0, none⟩ u).setCell ⟨r, 1, none⟩ v).cell? ⟨s, 1, none⟩ = some y := by
  constructor
  · rw [World.cell?_setCell_other _ _ _ _ (by intro e; simp only [Addr.mk.injEq] at e; omega), World.cell?_setCell_other _ _ _ _ (by intro e; simp only [Addr.mk.injEq] at e; omega)]
    exact h0
  · rw [World.cell?_setCell_other _ _ _ _ (by intro e; simp only [Addr.mk.injEq] at e; omega), World.cell?_setCell_other _ _ _ _ (by intro e; simp only [Addr.mk.injEq] at e; omega)]
    exact h1
/-- The answer's variable r is written behind what a call returned. -/
theorem ownIn_ret {w w3 : World} {r lo : Nat} {A2 : Option Addr} {c2 : Nat} {l : List (Int × Int)} (ho : OwnIn w3 lo w3.heap.size A2 c2 l) (hB : Below w.heap.size w w3) (h1 : w.heap.size ≤ r) (h2 : r < lo) (u v : Value) :
    OwnIn ((w3.setCell ⟨r, 0, none⟩ u).setCell ⟨r, 1, none⟩ v) w.heap.size ((w3.setCell ⟨r, 0, none⟩ u).setCell ⟨r, 1, none⟩ v).heap.size A2 c2 l ∧ Below w.heap.size w ((w3.setCell ⟨r, 0, none⟩ u).setCell ⟨r, 1, none⟩ v) := by
  have hg := (grownBy_set w3 r 0 u).trans_ (grownBy_set (w3.setCell ⟨r, 0, none⟩ u) r 1 v)
  refine ⟨?_, hB.grown hg hB.size fun g e => by cases e; exact h1⟩
  rcases ho.2 with h | ⟨g, e, k1, k2, hown⟩
  · exact ⟨Nat.le_refl _, .inl h⟩
  · refine ⟨Nat.le_refl _, .inr ⟨g, e, by omega, Nat.lt_of_lt_of_le k2 hg.size, (own_base hown (by omega)).kept hg (.inr (by simp [Value.ownBlock]; omega))⟩⟩

set_option maxHeartbeats 4000000 in
set_option maxRecDepth 100000 in
theorem specRemoveO (p k : Int) (l : List (Int × Int)) (A : Option Addr) (cap : Nat) (w : World) (hl : BarsAt w w.heap.size A l) (hn : l.length ≤ 1048576) (hA : ∃ a, A = some a) (hcap : l.length ≤ cap) :
    Calls Try.prog 100 #[.agg #[.int .i64 p, .slice A l.length cap], .int .i64 k] w (GraphOB w p (remL p k l) (remR p k l)) := by
  obtain ⟨a, rfl⟩ := hA
  obtain ⟨i0, hi0, hz0, hz1, hz2⟩ := info_parts infoBar
  have hA1 := new_below w (.cells #[.int .i64 p, .slice (some a) l.length cap] 30)
  have hA2 := new_below (w.alloc (.cells #[.int .i64 p, .slice (some a) l.length cap] 30)) (.cells #[.int .i64 0, .slice none 0 0] 30)
  have hA := below_on hA1 hA2 hA1.size
  have hsz1 : (w.alloc (.cells #[.int .i64 p, .slice (some a) l.length cap] 30)).heap.size = w.heap.size + 1 := by simp
  have hsz2 : ((w.alloc (.cells #[.int .i64 p, .slice (some a) l.length cap] 30)).alloc (.cells #[.int .i64 0, .slice none 0 0] 30)).heap.size = w.heap.size + 2 := by simp
  have BX := Lib.hid ((box_new w p (.slice (some a) l.length cap) 30).kept hA2)
  have hR := box_new (w.alloc (.cells #[.int .i64 p, .slice (some a) l.length cap] 30)) 0 (.slice none 0 0) 30
  have hF : ((w.alloc (.cells #[.int .i64 p, .slice (some a) l.length cap] 30)).alloc (.cells #[.int .i64 0, .slice none 0 0] 30)).frozen? ⟨(w.alloc (.cells #[.int .i64 p, .slice (some a) l.length cap] 30)).heap.size, 0, none⟩ = false ∧ ((w.alloc (.cells #[.int .i64 p, .slice (some a) l.length cap] 30)).alloc (.cells #[.int .i64 0, .slice none 0 0] 30)).frozen? ⟨(w.alloc (.cells #[.int .i64 p, .slice (some a) l.length cap] 30)).heap.size, 1, none⟩ = false := ⟨World.frozen?_alloc_at _ _ _ _ rfl, World.frozen?_alloc_at _ _ _ _ rfl⟩
  rw [hsz1] at hR hF
  have HR := Lib.hid hR
  have HF := Lib.hid hF
  have HL := Lib.hid (hl.on hA)
  have HA := Lib.hid hA
  have HSZ := Lib.hid hsz2
  clear hl hA1 hA2 hA hsz1 hsz2 hR hF
  by_cases hbad : isGB p l = false ∨ k < 0 ∨ (l.length : Int) ≤ k
  · rw [(rem_no hbad).1, (rem_no hbad).2]
    have hcase : isGB p l = false ∨ (isGB p l = true ∧ k < 0) ∨ (isGB p l = true ∧ ¬ k < 0 ∧ (l.length : Int) ≤ k) := by
      rcases hg : isGB p l with _ | _
      · exact .inl rfl
      · rcases hbad with h | h | h
        · rw [hg] at h; cases h
        · exact .inr (.inl ⟨rfl, h⟩)
        · exact .inr (.inr ⟨rfl, by omega, h⟩)
    clear hbad
    rcases hcase with hg | ⟨hg, h1⟩ | ⟨hg, h1, h2⟩
    all_goals
      go_enter Try.func100, Try.ntmps100
      go_wp2_with fail
      generalize ((w.alloc (.cells #[.int .i64 p, .slice (some a) l.length cap] 30)).alloc (.cells #[.int .i64 0, .slice none 0 0] 30)) = w1 at *
      refine (specIsGraph' p l (some a) cap _ HL.out hn).mono ?_
      rintro e w2 ⟨rfl, hb⟩
      have HB2 := Lib.hid (below_on HA.out hb HA.out.size)
      have BX2 := Lib.hid (BX.out.kept hb)
      have HR2 := Lib.hid (HR.out.kept hb)
      have HF2 := Lib.hid (show w2.frozen? ⟨w.heap.size + 1, 0, none⟩ = false ∧ w2.frozen? ⟨w.heap.size + 1, 1, none⟩ = false from ⟨(hb.frozen (p := ⟨w.heap.size + 1, 0, none⟩) HR.out.1).trans HF.out.1, (hb.frozen (p := ⟨w.heap.size + 1, 1, none⟩) HR.out.1).trans HF.out.2⟩)
      have HL2 := Lib.hid (HL.out.on hb)
      obtain ⟨_, x0, x1⟩ := BX2.out
      clear hb
      go_wp2_with fail
      clear x0 x1
      refine (copy_c p l a cap _ HL2.out hn).mono ?_
      rintro e w3 ⟨A2, c2, rfl, ho, hb⟩
      obtain ⟨_, z0, z1⟩ := HR2.out.kept hb
      have f0 := (hb.frozen (p := ⟨w.heap.size + 1, 0, none⟩) HR2.out.1).trans HF2.out.1
      have f1 := (hb.frozen (p := ⟨w.heap.size + 1, 1, none⟩) HR2.out.1).trans HF2.out.2
      have HB3 := Lib.hid (below_on HB2.out hb HB2.out.size)
      have HO3 := Lib.hid ho
      have HLT := Lib.hid HR2.out.1
      clear hb ho
      obtain ⟨s0, s1⟩ := ret_cells (p := p) (v := .slice A2 l.length c2) z0 z1
      obtain ⟨r1, r2⟩ := ownIn_ret HO3.out HB3.out (r := w.heap.size + 1) (by omega) HLT.out (.int .i64 p) (.slice A2 l.length c2)
      go_wp2_with fail
      refine bodyPost_ret (v := .tuple #[.agg #[.int .i64 p, .slice A2 l.length c2], .bool false]) ?_ rfl ⟨A2, c2, rfl, r1, r2⟩
      simp [results, Try.results100, go_sem, s0, s1]
  · have hg : isGB p l = true := by
      cases h : isGB p l with
      | false => exact absurd (.inl h) hbad
      | true => rfl
    obtain ⟨K, rfl⟩ : ∃ K : Nat, k = (K : Int) := ⟨k.toNat, by omega⟩
    have hk : K < l.length := by omega
    rw [(rem_yes hg hk).1, (rem_yes hg hk).2]
    obtain ⟨L, hL⟩ : ∃ L, L = l.take K ++ l.drop (K + 1) := ⟨_, rfl⟩
    have HLL := Lib.hid (show K + (l.length - (K + 1)) = L.length by rw [hL]; simp; omega)
    have HBL := Lib.hid (show barCells (l.take K) ++ barCells (l.drop (K + 1)) = barCells L by rw [hL, barCells_append])
    rw [← hL]
    clear hL
    have hk0 : ¬ (K : Int) < 0 := by omega
    have hk1 : ¬ (l.length : Int) ≤ (K : Int) := by omega
    obtain ⟨b, off, e, hbB, hcell⟩ := HL.out (by omega)
    cases e
    clear hbad
    go_enter Try.func100, Try.ntmps100
    go_wp2_with fail
    generalize ((w.alloc (.cells #[.int .i64 p, .slice (some ⟨b, off, none⟩) l.length cap] 30)).alloc (.cells #[.int .i64 0, .slice none 0 0] 30)) = w1 at *
    refine (specIsGraph' p l _ cap _ HL.out hn).mono ?_
    rintro e w2 ⟨rfl, hb⟩
    have HB2 := Lib.hid (below_on HA.out hb HA.out.size)
    have BX2 := Lib.hid (BX.out.kept hb)
    have HR2 := Lib.hid (HR.out.kept hb)
    have HF2 := Lib.hid (show w2.frozen? ⟨w.heap.size + 1, 0, none⟩ = false ∧ w2.frozen? ⟨w.heap.size + 1, 1, none⟩ = false from ⟨(hb.frozen (p := ⟨w.heap.size + 1, 0, none⟩) HR.out.1).trans HF.out.1, (hb.frozen (p := ⟨w.heap.size + 1, 1, none⟩) HR.out.1).trans HF.out.2⟩)
    have HC2 := Lib.hid (barCells_at (w := w2) (b := b) (off := off) (l := l) fun j hj => ⟨(hb.cell (p := ⟨b, off + j * 2, none⟩) hbB).trans (hcell j hj).1, (hb.cell (p := ⟨b, off + j * 2 + 1, none⟩) hbB).trans (hcell j hj).2⟩)
    have HBB := Lib.hid (Nat.lt_of_lt_of_le hbB hb.size)
    obtain ⟨hX, x0, x1⟩ := BX2.out
    clear hb hcell hbB
    have hi0' : (0 : Int) ≤ (K : Int) := by omega
    have hi1 : (K : Int) ≤ (cap : Int) := by omega
    have hi2 : (K : Int) + 1 ≤ (l.length : Int) := by omega
    have hi3 : (0 : Int) ≤ (K : Int) + 1 := by omega
    have hw : IntKind.i64.wrap ((K : Int) + 1) = (K : Int) + 1 := IntWalk.i64_in _ (by omega)
    have htn : ((K : Int) + 1).toNat = K + 1 := by omega
    have hal := new_below w2 (.cells #[] 103)
    have HM := Lib.hid (World.ownsRow_made (base := w2.heap.size) (e := 103) (size := 2) w2 #[] 0 (Nat.le_refl _) (by unfold maxLen; omega) (by simp)).drew
    have xa0 : ((w2.alloc (.cells #[] 103)).drew).cell? ⟨w.heap.size, 0, none⟩ = some (.int .i64 p) := (hal.cell (p := ⟨w.heap.size, 0, none⟩) hX).trans x0
    have xa1 : ((w2.alloc (.cells #[] 103)).drew).cell? ⟨w.heap.size, 1, none⟩ = some (.slice (some ⟨b, off, none⟩) l.length cap) := (hal.cell (p := ⟨w.heap.size, 1, none⟩) hX).trans x1
    have N1 := Lib.hid (show ∀ j u, (barCells (l.take K))[j]? = some u → ((w2.alloc (.cells #[] 103)).drew).cell? ((⟨b, off, none⟩ : Addr).add j) = some u from fun j u hj => by
      rw [barCells_take, List.getElem?_take] at hj
      split at hj
      · rw [Addr.add_lit]
        exact (hal.cell (p := ⟨b, off + j, none⟩) HBB.out).trans (HC2.out j u hj)
      · cases hj)
    obtain ⟨ad, hAd, hN2⟩ : ∃ ad : Addr, (if cap = K + 1 then (some ⟨b, off, none⟩ : Option Addr) else some ⟨b, off + (K + 1) * 2, none⟩) = some ad ∧ ∀ W : World, Below w2.heap.size w2 W → ∀ j u, (barCells (l.drop (K + 1)))[j]? = some u → W.cell? (ad.add j) = some u := by
      by_cases h : cap = K + 1
      · refine ⟨⟨b, off, none⟩, by simp [h], fun W hW j u hj => ?_⟩
        rw [List.drop_eq_nil_of_le (by omega)] at hj
        simp [barCells] at hj
      · refine ⟨⟨b, off + (K + 1) * 2, none⟩, by simp [h], fun W hW j u hj => ?_⟩
        rw [barCells_drop, List.getElem?_drop] at hj
        rw [Addr.add_lit, show off + (K + 1) * 2 + j = off + ((K + 1) * 2 + j) by omega]
        exact (hW.cell (p := ⟨b, off + ((K + 1) * 2 + j), none⟩) HBB.out).trans (HC2.out _ u hj)
    have N2 := Lib.hid hN2
    have hl1 : (barCells (l.take K)).length = K * 2 := by rw [barCells_len, List.length_take]; omega
    have hl2 : (barCells (l.drop (K + 1))).length = (l.length - (K + 1)) * 2 := by rw [barCells_len, List.length_drop]
    have H1 := Lib.hid hl1
    have H2 := Lib.hid hl2
    have HAL := Lib.hid hal
    clear hal hN2 hl1 hl2
    go_wp2_with fail
    go_region_held3 (fun W' => W'.cell? ⟨w.heap.size, 0, none⟩ = some (.int .i64 p) ∧ W'.cell? ⟨w.heap.size, 1, none⟩ = some (.slice (some ⟨b, off, none⟩) l.length cap))
      (first | exact ⟨x0, x1⟩ | exact ⟨xa0, xa1⟩ | exact ⟨y0, y1⟩ | exact ⟨u0, u1⟩ | exact ⟨t0, t1⟩ | fail)
      (first
        | (refine step_own (by rfl) _ _ _ (by rfl) w2.heap.size 103 i0 _ 2 16 Try.underlying28 hi0 hz0 hz1 hz2 rfl (by omega) _ 0 [] (by rfl) HM.out ⟨b, off, none⟩ K cap (barCells (l.take K)) (by rfl) H1.out N1.out (barCells_one _) (by unfold maxLen; omega) (by omega) (by simp) ?_; intro v1 w3 ho1 hg1; rw [Nat.zero_add, List.nil_append] at ho1; have hb3 : Below w2.heap.size w2 w3 := ((HAL.out.drew).grown hg1 (by simp) (fun k hk => by cases hk; exact Nat.le_refl _)); have y0 := (hb3.cell (p := ⟨w.heap.size, 0, none⟩) hX).trans x0; have y1 := (hb3.cell (p := ⟨w.heap.size, 1, none⟩) hX).trans x1; have HO1 := Lib.hid ho1; have HB3 := Lib.hid hb3; clear ho1 hg1 hb3)
        | (refine step_own (by rfl) _ _ _ (by rfl) w2.heap.size 103 i0 _ 2 16 Try.underlying28 hi0 hz0 hz1 hz2 rfl (by omega) v1 K (barCells (l.take K)) (by rfl) HO1.out ad (l.length - (K + 1)) (cap - (K + 1)) (barCells (l.drop (K + 1))) (by rfl) H2.out (N2.out _ HB3.out) (barCells_one _) (by unfold maxLen; omega) (by omega) HB3.out.size ?_; intro v2 w4 ho2 hg2; rw [HBL.out, HLL.out] at ho2; have hb4 : Below w2.heap.size w2 w4 := (HB3.out.grown hg2 HB3.out.size (fun g hk => (HO1.out.lt g hk).1)); obtain ⟨A2, c2, rfl⟩ := own_shape ho2; have u0 := (hb4.cell (p := ⟨w.heap.size, 0, none⟩) hX).trans x0; have u1 := (hb4.cell (p := ⟨w.heap.size, 1, none⟩) hX).trans x1; have z0 := (hb4.cell (p := ⟨w.heap.size + 1, 0, none⟩) HR2.out.1).trans HR2.out.2.1; have z1 := (hb4.cell (p := ⟨w.heap.size + 1, 1, none⟩) HR2.out.1).trans HR2.out.2.2; have f0 := (hb4.frozen (p := ⟨w.heap.size + 1, 0, none⟩) HR2.out.1).trans HF2.out.1; have f1 := (hb4.frozen (p := ⟨w.heap.size + 1, 1, none⟩) HR2.out.1).trans HF2.out.2; have HO2 := Lib.hid ho2; have HB4 := Lib.hid (below_on HB2.out hb4 HB2.out.size); have HZ := Lib.hid (And.intro z0 z1); obtain ⟨t0, t1⟩ := two_other (u := .int .i64 p) (v := .slice A2 L.length c2) (r := w.heap.size + 1) (Nat.ne_of_lt (Nat.lt_succ_self w.heap.size)) u0 u1; clear ho2 hg2 hb4))
    go_wp2_with fail
    obtain ⟨s0, s1⟩ := ret_cells (p := p) (v := .slice A2 L.length c2) HZ.out.1 HZ.out.2
    obtain ⟨r1, r2⟩ := row_ret HO2.out HB4.out (r := w.heap.size + 1) (by omega) HR2.out.1 (.int .i64 p) (.slice A2 L.length c2)
    refine bodyPost_ret (v := .tuple #[.agg #[.int .i64 p, .slice A2 L.length c2], .bool true]) ?_ rfl ⟨A2, c2, rfl, ?_, ?_⟩
    · simp [results, Try.results100, go_sem, s0, s1]
    · first | exact r1 | exact r1.drew
    · first | exact r2 | exact r2.drew
theorem specRemove (p k : Int) (l : List (Int × Int)) (A : Option Addr) (cap : Nat) (w : World) (hl : BarsAt w w.heap.size A l) (hn : l.length ≤ 1048576) (hA : ∃ a, A = some a) (hcap : l.length ≤ cap) :
    Calls Try.prog 100 #[.agg #[.int .i64 p, .slice A l.length cap], .int .i64 k] w (GraphRB w p (remL p k l) (remR p k l)) :=
  (specRemoveO p k l A cap w hl hn hA hcap).mono fun _ _ ⟨A2, c2, e, r1, r2⟩ => ⟨A2, c2, e, r1.bars.at, r2⟩
end Go.Proofs.Ytggibhhdnlifcaa
/- What spec.l2Put answers: the bar in its place. No condition. -/
namespace Go.Proofs.Ytggibhhdnlifcaa
open Go.RowKit

/-- Where the walk stands: is the bar placed? -/
def PutSt (x : Int × Int) (t : List (Int × Int)) (b : Bool) : Prop := (b = false → ∀ y ∈ t, aftB y x = true) ∧ (b = true → ∃ y ∈ t, aftB y x = false)
def putL (x : Int × Int) (t : List (Int × Int)) (b : Bool) : List (Int × Int) := if b = true then insU x t else t
theorem putL_len (x : Int × Int) (t : List (Int × Int)) (b : Bool) : (putL x t b).length ≤ t.length + 1 := by
  unfold putL
  split
  · rw [insU_len]; omega
  · omega
theorem put_yes {x y : Int × Int} {t : List (Int × Int)} (h : PutSt x t false) (hy : aftB y x = true) : PutSt x (t ++ [y]) false ∧ putL x (t ++ [y]) false = putL x t false ++ [y] :=
  ⟨⟨fun _ z hz => by
    rcases List.mem_append.1 hz with hz | hz
    · exact h.1 rfl z hz
    · have : z = y := by simpa using hz
      rw [this]; exact hy, fun e => by cases e⟩, rfl⟩
theorem put_now {x y : Int × Int} {t : List (Int × Int)} (h : PutSt x t false) (hy : aftB y x = false) : PutSt x (t ++ [y]) true ∧ putL x (t ++ [y]) true = (putL x t false ++ [x]) ++ [y] := by
  refine ⟨⟨fun e => (by cases e), fun _ => ⟨y, by simp, hy⟩⟩, ?_⟩
  show insU x (t ++ [y]) = (t ++ [x]) ++ [y]
  rw [insU_all x t [y] (h.1 rfl)]
  simp [insU, hy]
theorem put_past {x y : Int × Int} {t : List (Int × Int)} (h : PutSt x t true) : PutSt x (t ++ [y]) true ∧ putL x (t ++ [y]) true = putL x t true ++ [y] := by
  obtain ⟨z, hz, hzx⟩ := h.2 rfl
  exact ⟨⟨fun e => (by cases e), fun _ => ⟨z, by simp [hz], hzx⟩⟩, insU_some x t [y] ⟨z, hz, hzx⟩⟩
theorem put_end {x : Int × Int} {t : List (Int × Int)} (h : PutSt x t false) : insU x t = putL x t false ++ [x] := by
  have := insU_all x t [] (h.1 rfl)
  rw [List.append_nil] at this
  exact this

set_option maxHeartbeats 4000000 in
set_option maxRecDepth 100000 in
theorem put_c (p : Int) (x : Int × Int) (l : List (Int × Int)) (A : Option Addr) (cap : Nat) (w : World) (hl : BarsAt w w.heap.size A l) (hn : l.length ≤ 1048576) :
    Calls Try.prog 97 #[.agg #[.int .i64 p, .slice A l.length cap], .agg #[.int .i64 x.1, .int .i64 x.2]] w (GraphO w p (insU x l)) := by
  obtain ⟨i0, hi0, hz0, hz1, hz2⟩ := info_parts infoBar
  have hA1 := new_below w (.cells #[.int .i64 p, .slice A l.length cap] 30)
  have hA2 := new_below (w.alloc (.cells #[.int .i64 p, .slice A l.length cap] 30)) (.cells #[.int .i64 x.1, .int .i64 x.2] 103)
  have hA3 := new_below ((w.alloc (.cells #[.int .i64 p, .slice A l.length cap] 30)).alloc (.cells #[.int .i64 x.1, .int .i64 x.2] 103)) (.cells #[.int .i64 0, .slice none 0 0] 30)
  have hA12 := below_on hA1 hA2 hA1.size
  have hA := below_on hA12 hA3 hA12.size
  have hs1 : (w.alloc (.cells #[.int .i64 p, .slice A l.length cap] 30)).heap.size = w.heap.size + 1 := by simp
  have hs2 : ((w.alloc (.cells #[.int .i64 p, .slice A l.length cap] 30)).alloc (.cells #[.int .i64 x.1, .int .i64 x.2] 103)).heap.size = w.heap.size + 2 := by simp
  have hs3 : (((w.alloc (.cells #[.int .i64 p, .slice A l.length cap] 30)).alloc (.cells #[.int .i64 x.1, .int .i64 x.2] 103)).alloc (.cells #[.int .i64 0, .slice none 0 0] 30)).heap.size = w.heap.size + 3 := by simp
  have BX := Lib.hid (((box_new w p (.slice A l.length cap) 30).kept hA2).kept hA3)
  have hX := (box_new (w.alloc (.cells #[.int .i64 p, .slice A l.length cap] 30)) x.1 (.int .i64 x.2) 103).kept hA3
  have hR := box_new ((w.alloc (.cells #[.int .i64 p, .slice A l.length cap] 30)).alloc (.cells #[.int .i64 x.1, .int .i64 x.2] 103)) 0 (.slice none 0 0) 30
  have hF : (((w.alloc (.cells #[.int .i64 p, .slice A l.length cap] 30)).alloc (.cells #[.int .i64 x.1, .int .i64 x.2] 103)).alloc (.cells #[.int .i64 0, .slice none 0 0] 30)).frozen? ⟨((w.alloc (.cells #[.int .i64 p, .slice A l.length cap] 30)).alloc (.cells #[.int .i64 x.1, .int .i64 x.2] 103)).heap.size, 0, none⟩ = false ∧ (((w.alloc (.cells #[.int .i64 p, .slice A l.length cap] 30)).alloc (.cells #[.int .i64 x.1, .int .i64 x.2] 103)).alloc (.cells #[.int .i64 0, .slice none 0 0] 30)).frozen? ⟨((w.alloc (.cells #[.int .i64 p, .slice A l.length cap] 30)).alloc (.cells #[.int .i64 x.1, .int .i64 x.2] 103)).heap.size, 1, none⟩ = false := ⟨World.frozen?_alloc_at _ _ _ _ rfl, World.frozen?_alloc_at _ _ _ _ rfl⟩
  rw [hs1] at hX
  rw [hs2] at hR hF
  have hG := gbox_made (((w.alloc (.cells #[.int .i64 p, .slice A l.length cap] 30)).alloc (.cells #[.int .i64 x.1, .int .i64 x.2] 103)).alloc (.cells #[.int .i64 0, .slice none 0 0] 30)) w.heap.size [w.heap.size, w.heap.size + 1, w.heap.size + 2] p (by rw [hs3]; omega) (fun o ho => by rw [hs3]; simp at ho; omega)
  rw [hs3] at hG
  have HX := Lib.hid hX
  have HR := Lib.hid hR
  have HF := Lib.hid hF
  have HG := Lib.hid hG
  have HA := Lib.hid hA
  have HLW := Lib.hid hl
  clear hl hA1 hA2 hA3 hA12 hA hs1 hs2 hX hR hF hG
  go_enter Try.func97, Try.ntmps97
  go_wp2_with fail
  have HS3 := Lib.hid hs3
  clear hs3
  generalize (((((w.alloc (.cells #[.int .i64 p, .slice A l.length cap] 30)).alloc (.cells #[.int .i64 x.1, .int .i64 x.2] 103)).alloc (.cells #[.int .i64 0, .slice none 0 0] 30)).alloc (.cells #[] 103)).alloc (.cells #[.int .i64 p, .slice (some ⟨w.heap.size + 3, 0, none⟩) 0 0] 30)) = w1 at *
  generalize (((w.alloc (.cells #[.int .i64 p, .slice A l.length cap] 30)).alloc (.cells #[.int .i64 x.1, .int .i64 x.2] 103)).alloc (.cells #[.int .i64 0, .slice none 0 0] 30)) = w0 at *
  obtain ⟨x1, x2⟩ := x
  go_loopw [6, 7] (fun pl i wr => ∃ k : Nat, k ≤ l.length ∧ i = .int .i64 k ∧ ∃ b : Bool, pl = .bool b ∧ PutSt (x1, x2) (l.take k) b ∧ ∃ A' c', GBox w.heap.size w0 wr (w.heap.size + 3 + 1) [w.heap.size, w.heap.size + 1, w.heap.size + 2] p A' c' (putL (x1, x2) (l.take k) b)) (fun _ i _ => l.length - (intOf i).toNat)
  case atStart => exact ⟨0, by omega, rfl, false, rfl, ⟨fun _ y hy => by simp at hy, fun e => by cases e⟩, _, _, HG.out⟩
  case round =>
    obtain ⟨k, hk, rfl, b, rfl, hput, A', c', hst⟩ := hrel
    have HST := Lib.hid hst
    have HPUT := Lib.hid hput
    clear hst hput
    by_cases hlt : k < l.length
    · have hik : (k : Int) < (l.length : Int) := by omega
      obtain ⟨b0, off, rfl, hbB, hcell⟩ := HLW.out (by omega)
      have HCELL := Lib.hid hcell
      clear hcell
      have HT := Lib.hid (take_getD l (0, 0) k hlt)
      have hll := putL_len (x1, x2) (l.take k) b
      have hlk : (l.take k).length = k := by simp; omega
      obtain ⟨hlt0, g1, g2⟩ := HST.out.1
      have gf := HST.out.2.1
      have b1 := (HST.out.cell (o := w.heap.size) (k := 1) (by simp)).trans BX.out.2.2
      have e0 := (HST.out.cell (o := w.heap.size + 1) (k := 0) (by simp)).trans HX.out.2.1
      have e1 := (HST.out.cell (o := w.heap.size + 1) (k := 1) (by simp)).trans HX.out.2.2
      have HBW := Lib.hid (HA.out.trans HST.out.2.2.2.2.2.1)
      have hbs : w.heap.size ≤ wr.heap.size := Nat.le_of_lt (Nat.lt_of_le_of_lt HST.out.2.2.2.2.2.2 HST.out.1.1)
      have hc1 := (HBW.out.cell (p := ⟨b0, off + k * 2, none⟩) hbB).trans (HCELL.out k hlt).1
      have hc2 := (HBW.out.cell (p := ⟨b0, off + k * 2 + 1, none⟩) hbB).trans (HCELL.out k hlt).2
      obtain ⟨y, hy⟩ : ∃ y, l.getD k (0, 0) = y := ⟨_, rfl⟩
      have HY := Lib.hid hy
      have HT' := Lib.hid (show l.take (k + 1) = l.take k ++ [y] by rw [HT.out, hy])
      rw [hy] at hc1 hc2
      clear hy
      obtain ⟨y1, y2⟩ := y
      simp only at hc1 hc2
      obtain ⟨L, hL⟩ : ∃ L, L = putL (x1, x2) (l.take k) b := ⟨_, rfl⟩
      rw [← hL] at HST hll
      rw [← hL] at g2
      have HLD := Lib.hid hL
      clear hL
      cases b with
      | false =>
        rcases ha : aftB (y1, y2) (x1, x2) with _ | _
        · have HN := Lib.hid (put_now HPUT.out ha)
          go_wp2_with fail
          go_still_tail 9, (by kernel_rfl)
          change wpList _ _ _ _ _ wr.drew
          have hdr : Below wr.heap.size wr wr.drew := (Below.refl _ _).drew
          have HSD := Lib.hid (HST.out.below hdr)
          clear hdr g1 g2 gf b1 e0 e1 hc1 hc2
          generalize wr.drew = w2 at *
          go_wp2_with fail
          refine (after_no (y1, y2) (x1, x2) _ ha).mono ?_
          rintro e w3 ⟨rfl, hb3⟩
          have HSE := Lib.hid (HSD.out.below hb3)
          clear hb3
          obtain ⟨hlt0, g1, g2⟩ := HSE.out.1
          have gf := HSE.out.2.1
          have b1 := (HSE.out.cell (o := w.heap.size) (k := 1) (by simp)).trans BX.out.2.2
          have e0 := (HSE.out.cell (o := w.heap.size + 1) (k := 0) (by simp)).trans HX.out.2.1
          have e1 := (HSE.out.cell (o := w.heap.size + 1) (k := 1) (by simp)).trans HX.out.2.2
          have HBW := Lib.hid (HA.out.trans HSE.out.2.2.2.2.2.1)
          have hbs : w.heap.size ≤ w3.heap.size := Nat.le_of_lt (Nat.lt_of_le_of_lt HSE.out.2.2.2.2.2.2 HSE.out.1.1)
          have hc1 := (HBW.out.cell (p := ⟨b0, off + k * 2, none⟩) hbB).trans (HCELL.out k hlt).1
          have hc2 := (HBW.out.cell (p := ⟨b0, off + k * 2 + 1, none⟩) hbB).trans (HCELL.out k hlt).2
          rw [HY.out] at hc1 hc2
          simp only at hc1 hc2
          go_wp2_with (at_builtin; refine wpList_at _ rfl _ _ 28 rfl w.heap.size 103 (.agg #[.int .i64 0, .int .i64 0]) 2 16 Try.underlying28 infoBar rfl (by decide) _ _ _ rfl HSE.out.2.2.2.1 #[.int .i64 x1, .int .i64 x2] 1 rfl (by simp [Value.oneCell']) _ 1 rfl (by omega) (by unfold maxLen; omega) hbs ?_; intro v' w' ho hg hat _; obtain ⟨c0, c1, f1, A2, c2, rfl, hG2⟩ := HSE.out.push (x1, x2) ho hg hat; have HGX := Lib.hid hG2; clear ho hg hat hG2)
          clear hlt0 g1 g2 gf b1 e0 e1 hbs hc1 hc2 c0 c1 f1
          generalize w'.setCell ⟨w.heap.size + 3 + 1, 1, none⟩ (.slice A2 (L.length + 1) c2) = w4 at *
          obtain ⟨L2, hL2⟩ : ∃ L2, L2 = L ++ [(x1, x2)] := ⟨_, rfl⟩
          have hl2 : L.length + 1 = L2.length := by rw [hL2]; simp
          rw [← hL2] at HGX
          rw [hl2]
          have HL2 := Lib.hid hL2
          clear hL2
          obtain ⟨hlt0, g1, g2⟩ := HGX.out.1
          have gf := HGX.out.2.1
          have b1 := (HGX.out.cell (o := w.heap.size) (k := 1) (by simp)).trans BX.out.2.2
          have e0 := (HGX.out.cell (o := w.heap.size + 1) (k := 0) (by simp)).trans HX.out.2.1
          have e1 := (HGX.out.cell (o := w.heap.size + 1) (k := 1) (by simp)).trans HX.out.2.2
          have HBW := Lib.hid (HA.out.trans HGX.out.2.2.2.2.2.1)
          have hbs : w.heap.size ≤ w4.heap.size := Nat.le_of_lt (Nat.lt_of_le_of_lt HGX.out.2.2.2.2.2.2 HGX.out.1.1)
          have hc1 := (HBW.out.cell (p := ⟨b0, off + k * 2, none⟩) hbB).trans (HCELL.out k hlt).1
          have hc2 := (HBW.out.cell (p := ⟨b0, off + k * 2 + 1, none⟩) hbB).trans (HCELL.out k hlt).2
          rw [HY.out] at hc1 hc2
          simp only at hc1 hc2
          go_region_law (refine step_append_lies _ (by rfl) _ _ _ (by rfl) w.heap.size 103 i0 _ 2 16 Try.underlying28 hi0 hz0 hz1 hz2 rfl (by omega) _ L2.length (barCells L2) (by rfl) ((HGX.out.2.2.2.1.alloc _).drew) ⟨w4.heap.size, 0, none⟩ 1 1 [.int .i64 y1, .int .i64 y2] (by rfl) (by rfl) (World.news_of_block (cs := #[.int .i64 y1, .int .i64 y2]) (t := 103) (fr := (0, 0)) (heap_alloc_new w4 _)) (by simp [Value.oneCell']) (by omega) (by unfold maxLen; omega) (by omega) (by simp; omega) (w4.heap.size + 1) (by simp) ?_; intro gg cap2 w1' hown1 hgrow hat hlt; obtain ⟨c0, c1, f1, hG2⟩ := HGX.out.push2 (y1, y2) hown1 hgrow hat; have HG2 := Lib.hid hG2; clear hown1 hgrow hat hG2)
          all_goals
            go_wp2_with fail
            go_roundw
            case rel => exact ⟨k + 1, by omega, by go_num, true, rfl, by rw [HT'.out]; exact HN.out.1, _, cap2, by rw [HT'.out, HN.out.2, ← HLD.out, ← HL2.out]; first | exact HG2.out | exact HG2.out.drew⟩
            case measure => simp [intOf]; omega
        · have HN := Lib.hid (put_yes HPUT.out ha)
          go_wp2_with fail
          go_still_tail 9, (by kernel_rfl)
          change wpList _ _ _ _ _ wr.drew
          have hdr : Below wr.heap.size wr wr.drew := (Below.refl _ _).drew
          have HSD := Lib.hid (HST.out.below hdr)
          clear hdr g1 g2 gf b1 e0 e1 hc1 hc2
          generalize wr.drew = w2 at *
          go_wp2_with fail
          refine (after_yes (y1, y2) (x1, x2) _ ha).mono ?_
          rintro e w3 ⟨rfl, hb3⟩
          have HSE := Lib.hid (HSD.out.below hb3)
          clear hb3
          obtain ⟨hlt0, g1, g2⟩ := HSE.out.1
          have gf := HSE.out.2.1
          have b1 := (HSE.out.cell (o := w.heap.size) (k := 1) (by simp)).trans BX.out.2.2
          have e0 := (HSE.out.cell (o := w.heap.size + 1) (k := 0) (by simp)).trans HX.out.2.1
          have e1 := (HSE.out.cell (o := w.heap.size + 1) (k := 1) (by simp)).trans HX.out.2.2
          have HBW := Lib.hid (HA.out.trans HSE.out.2.2.2.2.2.1)
          have hbs : w.heap.size ≤ w3.heap.size := Nat.le_of_lt (Nat.lt_of_le_of_lt HSE.out.2.2.2.2.2.2 HSE.out.1.1)
          have hc1 := (HBW.out.cell (p := ⟨b0, off + k * 2, none⟩) hbB).trans (HCELL.out k hlt).1
          have hc2 := (HBW.out.cell (p := ⟨b0, off + k * 2 + 1, none⟩) hbB).trans (HCELL.out k hlt).2
          rw [HY.out] at hc1 hc2
          simp only at hc1 hc2
          go_wp2_with fail
          go_region_law (refine step_append_lies _ (by rfl) _ _ _ (by rfl) w.heap.size 103 i0 _ 2 16 Try.underlying28 hi0 hz0 hz1 hz2 rfl (by omega) _ L.length (barCells L) (by rfl) ((HSE.out.2.2.2.1.alloc _).drew) ⟨w3.heap.size, 0, none⟩ 1 1 [.int .i64 y1, .int .i64 y2] (by rfl) (by rfl) (World.news_of_block (cs := #[.int .i64 y1, .int .i64 y2]) (t := 103) (fr := (0, 0)) (heap_alloc_new w3 _)) (by simp [Value.oneCell']) (by omega) (by unfold maxLen; omega) (by omega) (by simp; omega) (w3.heap.size + 1) (by simp) ?_; intro gg cap2 w1' hown1 hgrow hat hlt; obtain ⟨c0, c1, f1, hG2⟩ := HSE.out.push2 (y1, y2) hown1 hgrow hat; have HG2 := Lib.hid hG2; clear hown1 hgrow hat hG2)
          all_goals
            go_wp2_with fail
            go_roundw
            case rel => exact ⟨k + 1, by omega, by go_num, false, rfl, by rw [HT'.out]; exact HN.out.1, _, cap2, by rw [HT'.out, HN.out.2, ← HLD.out]; first | exact HG2.out | exact HG2.out.drew⟩
            case measure => simp [intOf]; omega
      | true =>
        have HN := Lib.hid (put_past (y := (y1, y2)) HPUT.out)
        go_wp2_with fail
        go_quiet (fail)
        have HSE := Lib.hid (HST.out.below (below_drewN wr.heap.size wr nq))
        clear hlt0 g1 g2 gf b1 e0 e1 hbs hc1 hc2
        generalize wr.drewN nq = w3 at *
        obtain ⟨hlt0, g1, g2⟩ := HSE.out.1
        have gf := HSE.out.2.1
        have b1 := (HSE.out.cell (o := w.heap.size) (k := 1) (by simp)).trans BX.out.2.2
        have e0 := (HSE.out.cell (o := w.heap.size + 1) (k := 0) (by simp)).trans HX.out.2.1
        have e1 := (HSE.out.cell (o := w.heap.size + 1) (k := 1) (by simp)).trans HX.out.2.2
        have HBW := Lib.hid (HA.out.trans HSE.out.2.2.2.2.2.1)
        have hbs : w.heap.size ≤ w3.heap.size := Nat.le_of_lt (Nat.lt_of_le_of_lt HSE.out.2.2.2.2.2.2 HSE.out.1.1)
        have hc1 := (HBW.out.cell (p := ⟨b0, off + k * 2, none⟩) hbB).trans (HCELL.out k hlt).1
        have hc2 := (HBW.out.cell (p := ⟨b0, off + k * 2 + 1, none⟩) hbB).trans (HCELL.out k hlt).2
        rw [HY.out] at hc1 hc2
        simp only at hc1 hc2
        go_wp2_with fail
        go_region_law (refine step_append_lies _ (by rfl) _ _ _ (by rfl) w.heap.size 103 i0 _ 2 16 Try.underlying28 hi0 hz0 hz1 hz2 rfl (by omega) _ L.length (barCells L) (by rfl) ((HSE.out.2.2.2.1.alloc _).drew) ⟨w3.heap.size, 0, none⟩ 1 1 [.int .i64 y1, .int .i64 y2] (by rfl) (by rfl) (World.news_of_block (cs := #[.int .i64 y1, .int .i64 y2]) (t := 103) (fr := (0, 0)) (heap_alloc_new w3 _)) (by simp [Value.oneCell']) (by omega) (by unfold maxLen; omega) (by omega) (by simp; omega) (w3.heap.size + 1) (by simp) ?_; intro gg cap2 w1' hown1 hgrow hat hlt; obtain ⟨c0, c1, f1, hG2⟩ := HSE.out.push2 (y1, y2) hown1 hgrow hat; have HG2 := Lib.hid hG2; clear hown1 hgrow hat hG2)
        all_goals
          go_wp2_with fail
          go_roundw
          case rel => exact ⟨k + 1, by omega, by go_num, true, rfl, by rw [HT'.out]; exact HN.out.1, _, cap2, by rw [HT'.out, HN.out.2, ← HLD.out]; first | exact HG2.out | exact HG2.out.drew⟩
          case measure => simp [intOf]; omega
    · obtain rfl : k = l.length := by omega
      have HTL := Lib.hid (List.take_length (l := l))
      have r0 := (HST.out.cell (o := w.heap.size + 2) (k := 0) (by simp)).trans HR.out.2.1
      have r1 := (HST.out.cell (o := w.heap.size + 2) (k := 1) (by simp)).trans HR.out.2.2
      have f0 := (HST.out.frozen (o := w.heap.size + 2) (k := 0) (by simp)).trans HF.out.1
      have f1 := (HST.out.frozen (o := w.heap.size + 2) (k := 1) (by simp)).trans HF.out.2
      have b1 := (HST.out.cell (o := w.heap.size) (k := 1) (by simp)).trans BX.out.2.2
      have e0 := (HST.out.cell (o := w.heap.size + 1) (k := 0) (by simp)).trans HX.out.2.1
      have e1 := (HST.out.cell (o := w.heap.size + 1) (k := 1) (by simp)).trans HX.out.2.2
      obtain ⟨hlt0, g1, g2⟩ := HST.out.1
      have gf := HST.out.2.1
      have hbs : w.heap.size ≤ wr.heap.size := Nat.le_of_lt (Nat.lt_of_le_of_lt HST.out.2.2.2.2.2.2 HST.out.1.1)
      have hll := putL_len (x1, x2) (l.take l.length) b
      have hlk : (l.take l.length).length = l.length := by simp
      obtain ⟨L, hL⟩ : ∃ L, L = putL (x1, x2) (l.take l.length) b := ⟨_, rfl⟩
      rw [← hL] at HST hll g2
      have HLD := Lib.hid hL
      clear hL
      cases b with
      | true =>
        have HE := Lib.hid (show insU (x1, x2) l = L by rw [HLD.out, HTL.out]; rfl)
        obtain ⟨s0, s1⟩ := ret_cells (p := p) (v := .slice A' L.length c') r0 r1
        obtain ⟨q1, q2⟩ := HST.out.ret (o := w.heap.size + 2) (by simp) (by omega) (.int .i64 p) (.slice A' L.length c')
        have HQ1 := Lib.hid q1
        have HQ2 := Lib.hid q2
        clear q1 q2
        go_wp2_with fail
        refine bodyPost_ret (v := .agg #[.int .i64 p, .slice A' L.length c']) ?_ rfl ⟨A', c', by rw [HE.out], by rw [HE.out]; exact HQ1.out, HA.out.trans HQ2.out⟩
        simp [results, Try.results97, go_sem, s0, s1]
      | false =>
        have HE := Lib.hid (show insU (x1, x2) l = L ++ [(x1, x2)] by rw [HLD.out, HTL.out]; have := HPUT.out; rw [HTL.out] at this; exact put_end this)
        go_wp2_with (at_builtin; refine wpList_at _ rfl _ _ 28 rfl w.heap.size 103 (.agg #[.int .i64 0, .int .i64 0]) 2 16 Try.underlying28 infoBar rfl (by decide) _ _ _ rfl HST.out.2.2.2.1 #[.int .i64 x1, .int .i64 x2] 1 rfl (by simp [Value.oneCell']) _ 1 rfl (by omega) (by unfold maxLen; omega) hbs ?_; intro v' w' ho hg hat _; obtain ⟨c0, c1, f1', A2, c2, rfl, hG2⟩ := HST.out.push (x1, x2) ho hg hat; have HGX := Lib.hid hG2; clear ho hg hat; have r0' := (hG2.cell (o := w.heap.size + 2) (k := 0) (by simp)).trans HR.out.2.1; have r1' := (hG2.cell (o := w.heap.size + 2) (k := 1) (by simp)).trans HR.out.2.2; have f0' := (hG2.frozen (o := w.heap.size + 2) (k := 0) (by simp)).trans HF.out.1; have f1'' := (hG2.frozen (o := w.heap.size + 2) (k := 1) (by simp)).trans HF.out.2; obtain ⟨_, g1', g2'⟩ := hG2.1; rw [List.length_append, List.length_singleton] at g2'; clear hG2)
        obtain ⟨s0, s1⟩ := ret_cells (p := p) (v := .slice A2 (L.length + 1) c2) r0' r1'
        obtain ⟨q1, q2⟩ := HGX.out.ret (o := w.heap.size + 2) (by simp) (by omega) (.int .i64 p) (.slice A2 (L.length + 1) c2)
        refine bodyPost_ret (v := .agg #[.int .i64 p, .slice A2 (L.length + 1) c2]) ?_ rfl ⟨A2, c2, by rw [HE.out, List.length_append, List.length_singleton], by rw [HE.out]; exact q1, HA.out.trans q2⟩
        simp [results, Try.results97, go_sem, s0, s1]
end Go.Proofs.Ytggibhhdnlifcaa
/- What spec.IsImplied answers. No condition. -/
namespace Go.Proofs.Ytggibhhdnlifcaa
open Go.RowKit

theorem l6_ins {P : Nat} {a b : Int} {l : List (Int × Int)} (hG : IsG (P : Int) l) (ha : 0 ≤ a ∧ a < (P : Int)) (hb : 0 ≤ b ∧ b < (P : Int)) (hab : a ≠ b) : Bars P (insU (barOf a b) l) ∧ (insU (barOf a b) l).length ≤ 25 := by
  have hp := insU_perm (x := barOf a b) (isG_ord hG)
  refine ⟨bars_perm (bars_snoc (bars_ofI hG) (barOf_in ha hb hab).1) hp, ?_⟩
  rw [hp.length_eq]
  have := hG.2.1
  simp
  omega
set_option maxHeartbeats 4000000 in
set_option maxRecDepth 100000 in
theorem specImp (p a b : Int) (l : List (Int × Int)) (A : Option Addr) (cap : Nat) (w : World) (hl : BarsAt w w.heap.size A l) (hn : l.length ≤ 1048576) :
    Calls Try.prog 152 #[.agg #[.int .i64 p, .slice A l.length cap], .int .i64 a, .int .i64 b] w fun e w' => e = .returned (.bool (impB p a b l)) ∧ Below w.heap.size w w' := by
  have HISG : ∀ W : World, BarsAt W W.heap.size A l → Calls Try.prog 82 #[.agg #[.int .i64 p, .slice A l.length cap]] W fun e w' => e = .returned (.bool (isGB p l)) ∧ Below W.heap.size W w' := fun W h => specIsGraph' p l A cap W h hn
  obtain ⟨rv, hrv⟩ : ∃ rv, impB p a b l = rv := ⟨_, rfl⟩
  rw [hrv]
  cases hg : isGB p l with
  | false =>
    have HRV := Lib.hid (show rv = false from by rw [← hrv]; exact imp_no (.inl hg))
    rw [hg] at HISG
    clear hrv hg
    have W0 := Lib.hid (Below.refl w.heap.size w)
    have HB_0 := Lib.hid (bars_in hl)
    clear hl
    have Z1 := Lib.hid (within_alloc w (.cells #[.int .i64 p, (.slice A l.length cap)] 30)).size
    have W1 := Lib.hid (within_on W0.out (within_alloc w (.cells #[.int .i64 p, (.slice A l.length cap)] 30)) W0.out.size (.inr (Nat.le_refl _)))
    have HB_1 := Lib.hid (HB_0.out.within (within_alloc w (.cells #[.int .i64 p, (.slice A l.length cap)] 30)) (by omega))
    have Y1 := Lib.hid (show (w.alloc (.cells #[.int .i64 p, (.slice A l.length cap)] 30)).heap.size = w.heap.size + 1 by simp)
    have hnew := box_new w p (.slice A l.length cap) 30
    have BX_1 := Lib.hid hnew
    clear hnew
    go_enter Try.func152, Try.ntmps152
    obtain ⟨g0_0, g0_1, g0_2⟩ := BX_1.out
    go_wp2_with fail
    clear g0_0 g0_1 g0_2
    generalize (w.alloc (.cells #[.int .i64 p, (.slice A l.length cap)] 30)) = w1 at *
    refine (HISG _ HB_1.out.at).mono ?_
    rintro e w2 ⟨rfl, hb⟩
    have Z2 := Lib.hid (within_of hb).size
    have W2 := Lib.hid (within_on W1.out (within_of hb) W1.out.size (.inr (Nat.le_refl _)))
    have HB_2 := Lib.hid (HB_1.out.within (within_of hb) (by omega))
    have BX_2 := Lib.hid (BX_1.out.within (within_of hb) (by omega))
    clear hb HISG
    obtain ⟨g1_0, g1_1, g1_2⟩ := BX_2.out
    go_wp2_with fail
    clear g1_0 g1_1 g1_2
    go_ret
    exact ⟨by rw [HRV.out]; rfl, W2.out⟩
  | true =>
    have hG : IsG p l := Classical.byContradiction fun g => by rw [isGB_no g] at hg; cases hg
    have HG := Lib.hid hG
    have HGB := Lib.hid hg
    rw [hg] at HISG
    clear hg hG
    by_cases ha0 : a < 0
    · have HRV := Lib.hid (show rv = false from by rw [← hrv]; exact imp_no (.inr (.inl (by omega))))
      clear hrv
      have W0 := Lib.hid (Below.refl w.heap.size w)
      have HB_0 := Lib.hid (bars_in hl)
      clear hl
      have Z1 := Lib.hid (within_alloc w (.cells #[.int .i64 p, (.slice A l.length cap)] 30)).size
      have W1 := Lib.hid (within_on W0.out (within_alloc w (.cells #[.int .i64 p, (.slice A l.length cap)] 30)) W0.out.size (.inr (Nat.le_refl _)))
      have HB_1 := Lib.hid (HB_0.out.within (within_alloc w (.cells #[.int .i64 p, (.slice A l.length cap)] 30)) (by omega))
      have Y1 := Lib.hid (show (w.alloc (.cells #[.int .i64 p, (.slice A l.length cap)] 30)).heap.size = w.heap.size + 1 by simp)
      have hnew := box_new w p (.slice A l.length cap) 30
      have BX_1 := Lib.hid hnew
      clear hnew
      go_enter Try.func152, Try.ntmps152
      obtain ⟨g0_0, g0_1, g0_2⟩ := BX_1.out
      go_wp2_with fail
      clear g0_0 g0_1 g0_2
      generalize (w.alloc (.cells #[.int .i64 p, (.slice A l.length cap)] 30)) = w1 at *
      refine (HISG _ HB_1.out.at).mono ?_
      rintro e w2 ⟨rfl, hb⟩
      have Z2 := Lib.hid (within_of hb).size
      have W2 := Lib.hid (within_on W1.out (within_of hb) W1.out.size (.inr (Nat.le_refl _)))
      have HB_2 := Lib.hid (HB_1.out.within (within_of hb) (by omega))
      have BX_2 := Lib.hid (BX_1.out.within (within_of hb) (by omega))
      clear hb HISG
      obtain ⟨g1_0, g1_1, g1_2⟩ := BX_2.out
      go_wp2_with fail
      clear g1_0 g1_1 g1_2
      go_ret
      exact ⟨by rw [HRV.out]; first | rfl | simp, W2.out⟩
    by_cases hb0 : b < 0
    · have HRV := Lib.hid (show rv = false from by rw [← hrv]; exact imp_no (.inr (.inr (by omega))))
      clear hrv
      have W0 := Lib.hid (Below.refl w.heap.size w)
      have HB_0 := Lib.hid (bars_in hl)
      clear hl
      have Z1 := Lib.hid (within_alloc w (.cells #[.int .i64 p, (.slice A l.length cap)] 30)).size
      have W1 := Lib.hid (within_on W0.out (within_alloc w (.cells #[.int .i64 p, (.slice A l.length cap)] 30)) W0.out.size (.inr (Nat.le_refl _)))
      have HB_1 := Lib.hid (HB_0.out.within (within_alloc w (.cells #[.int .i64 p, (.slice A l.length cap)] 30)) (by omega))
      have Y1 := Lib.hid (show (w.alloc (.cells #[.int .i64 p, (.slice A l.length cap)] 30)).heap.size = w.heap.size + 1 by simp)
      have hnew := box_new w p (.slice A l.length cap) 30
      have BX_1 := Lib.hid hnew
      clear hnew
      go_enter Try.func152, Try.ntmps152
      obtain ⟨g0_0, g0_1, g0_2⟩ := BX_1.out
      go_wp2_with fail
      clear g0_0 g0_1 g0_2
      generalize (w.alloc (.cells #[.int .i64 p, (.slice A l.length cap)] 30)) = w1 at *
      refine (HISG _ HB_1.out.at).mono ?_
      rintro e w2 ⟨rfl, hb⟩
      have Z2 := Lib.hid (within_of hb).size
      have W2 := Lib.hid (within_on W1.out (within_of hb) W1.out.size (.inr (Nat.le_refl _)))
      have HB_2 := Lib.hid (HB_1.out.within (within_of hb) (by omega))
      have BX_2 := Lib.hid (BX_1.out.within (within_of hb) (by omega))
      clear hb HISG
      obtain ⟨g1_0, g1_1, g1_2⟩ := BX_2.out
      go_wp2_with fail
      clear g1_0 g1_1 g1_2
      go_ret
      exact ⟨by rw [HRV.out]; first | rfl | simp, W2.out⟩
    by_cases hap : p ≤ a
    · have HRV := Lib.hid (show rv = false from by rw [← hrv]; exact imp_no (.inr (.inl (by omega))))
      clear hrv
      have W0 := Lib.hid (Below.refl w.heap.size w)
      have HB_0 := Lib.hid (bars_in hl)
      clear hl
      have Z1 := Lib.hid (within_alloc w (.cells #[.int .i64 p, (.slice A l.length cap)] 30)).size
      have W1 := Lib.hid (within_on W0.out (within_alloc w (.cells #[.int .i64 p, (.slice A l.length cap)] 30)) W0.out.size (.inr (Nat.le_refl _)))
      have HB_1 := Lib.hid (HB_0.out.within (within_alloc w (.cells #[.int .i64 p, (.slice A l.length cap)] 30)) (by omega))
      have Y1 := Lib.hid (show (w.alloc (.cells #[.int .i64 p, (.slice A l.length cap)] 30)).heap.size = w.heap.size + 1 by simp)
      have hnew := box_new w p (.slice A l.length cap) 30
      have BX_1 := Lib.hid hnew
      clear hnew
      go_enter Try.func152, Try.ntmps152
      obtain ⟨g0_0, g0_1, g0_2⟩ := BX_1.out
      go_wp2_with fail
      clear g0_0 g0_1 g0_2
      generalize (w.alloc (.cells #[.int .i64 p, (.slice A l.length cap)] 30)) = w1 at *
      refine (HISG _ HB_1.out.at).mono ?_
      rintro e w2 ⟨rfl, hb⟩
      have Z2 := Lib.hid (within_of hb).size
      have W2 := Lib.hid (within_on W1.out (within_of hb) W1.out.size (.inr (Nat.le_refl _)))
      have HB_2 := Lib.hid (HB_1.out.within (within_of hb) (by omega))
      have BX_2 := Lib.hid (BX_1.out.within (within_of hb) (by omega))
      clear hb HISG
      obtain ⟨g1_0, g1_1, g1_2⟩ := BX_2.out
      go_wp2_with fail
      clear g1_0 g1_1 g1_2
      go_ret
      exact ⟨by rw [HRV.out]; first | rfl | simp, W2.out⟩
    by_cases hbp : p ≤ b
    · have HRV := Lib.hid (show rv = false from by rw [← hrv]; exact imp_no (.inr (.inr (by omega))))
      clear hrv
      have W0 := Lib.hid (Below.refl w.heap.size w)
      have HB_0 := Lib.hid (bars_in hl)
      clear hl
      have Z1 := Lib.hid (within_alloc w (.cells #[.int .i64 p, (.slice A l.length cap)] 30)).size
      have W1 := Lib.hid (within_on W0.out (within_alloc w (.cells #[.int .i64 p, (.slice A l.length cap)] 30)) W0.out.size (.inr (Nat.le_refl _)))
      have HB_1 := Lib.hid (HB_0.out.within (within_alloc w (.cells #[.int .i64 p, (.slice A l.length cap)] 30)) (by omega))
      have Y1 := Lib.hid (show (w.alloc (.cells #[.int .i64 p, (.slice A l.length cap)] 30)).heap.size = w.heap.size + 1 by simp)
      have hnew := box_new w p (.slice A l.length cap) 30
      have BX_1 := Lib.hid hnew
      clear hnew
      go_enter Try.func152, Try.ntmps152
      obtain ⟨g0_0, g0_1, g0_2⟩ := BX_1.out
      go_wp2_with fail
      clear g0_0 g0_1 g0_2
      generalize (w.alloc (.cells #[.int .i64 p, (.slice A l.length cap)] 30)) = w1 at *
      refine (HISG _ HB_1.out.at).mono ?_
      rintro e w2 ⟨rfl, hb⟩
      have Z2 := Lib.hid (within_of hb).size
      have W2 := Lib.hid (within_on W1.out (within_of hb) W1.out.size (.inr (Nat.le_refl _)))
      have HB_2 := Lib.hid (HB_1.out.within (within_of hb) (by omega))
      have BX_2 := Lib.hid (BX_1.out.within (within_of hb) (by omega))
      clear hb HISG
      obtain ⟨g1_0, g1_1, g1_2⟩ := BX_2.out
      go_wp2_with fail
      clear g1_0 g1_1 g1_2
      go_ret
      exact ⟨by rw [HRV.out]; first | rfl | simp, W2.out⟩
    obtain ⟨P, rfl⟩ : ∃ u : Nat, p = (u : Int) := ⟨p.toNat, by omega⟩
    by_cases hab : a = b
    · subst hab
      have HRV := Lib.hid (show rv = true from by rw [← hrv]; exact imp_same HGB.out ⟨by omega, by omega⟩)
      clear hrv
      have W0 := Lib.hid (Below.refl w.heap.size w)
      have HB_0 := Lib.hid (bars_in hl)
      clear hl
      have Z1 := Lib.hid (within_alloc w (.cells #[.int .i64 (P : Int), (.slice A l.length cap)] 30)).size
      have W1 := Lib.hid (within_on W0.out (within_alloc w (.cells #[.int .i64 (P : Int), (.slice A l.length cap)] 30)) W0.out.size (.inr (Nat.le_refl _)))
      have HB_1 := Lib.hid (HB_0.out.within (within_alloc w (.cells #[.int .i64 (P : Int), (.slice A l.length cap)] 30)) (by omega))
      have Y1 := Lib.hid (show (w.alloc (.cells #[.int .i64 (P : Int), (.slice A l.length cap)] 30)).heap.size = w.heap.size + 1 by simp)
      have hnew := box_new w (P : Int) (.slice A l.length cap) 30
      have BX_1 := Lib.hid hnew
      clear hnew
      go_enter Try.func152, Try.ntmps152
      obtain ⟨g0_0, g0_1, g0_2⟩ := BX_1.out
      go_wp2_with fail
      clear g0_0 g0_1 g0_2
      generalize (w.alloc (.cells #[.int .i64 (P : Int), (.slice A l.length cap)] 30)) = w1 at *
      refine (HISG _ HB_1.out.at).mono ?_
      rintro e w2 ⟨rfl, hb⟩
      have Z2 := Lib.hid (within_of hb).size
      have W2 := Lib.hid (within_on W1.out (within_of hb) W1.out.size (.inr (Nat.le_refl _)))
      have HB_2 := Lib.hid (HB_1.out.within (within_of hb) (by omega))
      have BX_2 := Lib.hid (BX_1.out.within (within_of hb) (by omega))
      clear hb HISG
      obtain ⟨g1_0, g1_1, g1_2⟩ := BX_2.out
      go_wp2_with fail
      clear g1_0 g1_1 g1_2
      refine (put_c (P : Int) (a, a) l A cap _ HB_2.out.at hn).mono ?_
      rintro e w3 ⟨AX, cx, rfl, ho, hb⟩
      have Z3 := Lib.hid (within_of hb).size
      have W3 := Lib.hid (within_on W2.out (within_of hb) W2.out.size (.inr (Nat.le_refl _)))
      have HB_3 := Lib.hid (HB_2.out.within (within_of hb) (by omega))
      have BX_3 := Lib.hid (BX_2.out.within (within_of hb) (by omega))
      have XB_3 := Lib.hid (ho.bars)
      clear ho hb
      have Z4 := Lib.hid (within_alloc w3 (.cells #[.int .i64 (P : Int), .slice AX (insU (a, a) l).length cx] 30)).size
      have W4 := Lib.hid (within_on W3.out (within_alloc w3 (.cells #[.int .i64 (P : Int), .slice AX (insU (a, a) l).length cx] 30)) W3.out.size (.inr (Nat.le_refl _)))
      have HB_4 := Lib.hid (HB_3.out.within (within_alloc w3 (.cells #[.int .i64 (P : Int), .slice AX (insU (a, a) l).length cx] 30)) (by omega))
      have BX_4 := Lib.hid (BX_3.out.within (within_alloc w3 (.cells #[.int .i64 (P : Int), .slice AX (insU (a, a) l).length cx] 30)) (by omega))
      have XB_4 := Lib.hid (XB_3.out.within (within_alloc w3 (.cells #[.int .i64 (P : Int), .slice AX (insU (a, a) l).length cx] 30)) (by omega))
      have Y4 := Lib.hid (show (w3.alloc (.cells #[.int .i64 (P : Int), .slice AX (insU (a, a) l).length cx] 30)).heap.size = w3.heap.size + 1 by simp)
      have hnx := box_new w3 (P : Int) (.slice AX (insU (a, a) l).length cx) 30
      have XX_4 := Lib.hid hnx
      clear hnx
      obtain ⟨g2_0, g2_1, g2_2⟩ := BX_4.out
      go_wp2_with fail
      clear g2_0 g2_1 g2_2
      generalize (w3.alloc (.cells #[.int .i64 (P : Int), .slice AX (insU (a, a) l).length cx] 30)) = w4 at *
      obtain ⟨xb, hxb⟩ : ∃ xb, w3.heap.size = xb := ⟨_, rfl⟩
      have hxx := XX_4.out
      rw [hxb] at hxx ⊢
      have hdr : Below w4.heap.size w4 w4.drew := (Below.refl _ _).drew
      have HKK := Lib.hid (And.intro (BX_4.out.kept hdr).2 (hxx.kept hdr).2)
      have HWD := Lib.hid (below_on W4.out hdr W4.out.size)
      clear hxx hdr hxb
      refine wp_region_held_drew (S := (fun W' : World => (W'.cell? ⟨w.heap.size, 0, none⟩ = some (.int .i64 (P : Int)) ∧ W'.cell? ⟨w.heap.size, 1, none⟩ = some (.slice A l.length cap)) ∧ (W'.cell? ⟨xb, 0, none⟩ = some (.int .i64 (P : Int)) ∧ W'.cell? ⟨xb, 1, none⟩ = some (.slice AX (insU (a, a) l).length cx)))) (by kernel_rfl) ?_ (fun hHeld => ?_)
      · exact HKK.out
      refine wpAnyH_take (i := 0) (v := .int .i64 a) rfl (by kernel_rfl) (by kernel_rfl) (by kernel_rfl) (fun _ _ _ h => h) (Or.inl ⟨by kernel_rfl, fun w hSw => by (try dsimp only at hSw); go_simp; all_goals first | omega | exact IntWalk.i64_in _ (by omega)⟩) (by assumption) ?_
      refine wpAnyH_take (i := 1) (v := .int .i64 a) rfl (by kernel_rfl) (by kernel_rfl) (by kernel_rfl) (fun _ _ _ h => h) (Or.inl ⟨by kernel_rfl, fun w hSw => by (try dsimp only at hSw); go_simp; all_goals first | omega | exact IntWalk.i64_in _ (by omega)⟩) (by assumption) ?_
      refine wpAnyH_take (i := 2) (v := .bool true) rfl (by kernel_rfl) (by kernel_rfl) (by kernel_rfl) (fun _ _ _ h => h) (Or.inl ⟨by kernel_rfl, fun w hSw => by (try dsimp only at hSw); go_simp; all_goals first | omega | exact IntWalk.i64_in _ (by omega)⟩) (by assumption) ?_
      refine wpAnyH_take (i := 3) (v := .bool true) rfl (by kernel_rfl) (by kernel_rfl) (by kernel_rfl) (fun _ _ _ h => h) (Or.inl ⟨by kernel_rfl, fun w hSw => by (try dsimp only at hSw); go_simp; all_goals first | omega | exact IntWalk.i64_in _ (by omega)⟩) (by assumption) ?_
      refine wpAnyH_take (i := 4) (v := undef) rfl (by kernel_rfl) (by kernel_rfl) (by kernel_rfl) (fun _ _ _ h => h) (Or.inr ⟨by kernel_rfl, rfl⟩) (by assumption) ?_
      refine wpAnyH_take (i := 5) (v := undef) rfl (by kernel_rfl) (by kernel_rfl) (by kernel_rfl) (fun _ _ _ h => h) (Or.inr ⟨by kernel_rfl, rfl⟩) (by assumption) ?_
      refine wpAnyH_take (i := 6) (v := undef) rfl (by kernel_rfl) (by kernel_rfl) (by kernel_rfl) (fun _ _ _ h => h) (Or.inr ⟨by kernel_rfl, rfl⟩) (by assumption) ?_
      refine wpAnyH_take (i := 7) (v := undef) rfl (by kernel_rfl) (by kernel_rfl) (by kernel_rfl) (fun _ _ _ h => h) (Or.inr ⟨by kernel_rfl, rfl⟩) (by assumption) ?_
      refine wpAnyH_take (i := 8) (v := undef) rfl (by kernel_rfl) (by kernel_rfl) (by kernel_rfl) (fun _ _ _ h => h) (Or.inr ⟨by kernel_rfl, rfl⟩) (by assumption) ?_
      refine wpAnyH_take (i := 9) (v := .bool true) rfl (by kernel_rfl) (by kernel_rfl) (by kernel_rfl) (fun _ _ _ h => h) (Or.inl ⟨by kernel_rfl, fun w hSw => by (try dsimp only at hSw); go_simp; all_goals first | omega | exact IntWalk.i64_in _ (by omega)⟩) (by assumption) ?_
      refine wpAnyH_ready (rs := [10]) (by kernel_rfl) (by simp) (AllReadyH.cons rfl (fun K hK => ?_) AllReadyH.nil)
      go_simp
      refine hK.out _ _ HKK.out (fun hHeld => ?_)
      clear hK K
      refine wpAnyH_done (by kernel_rfl) ?_ _
      go_wp2_with fail
      go_ret
      exact ⟨by rw [HRV.out]; rfl, HWD.out⟩
    · have hpa : 0 ≤ a ∧ a < (P : Int) := ⟨by omega, by omega⟩
      have hpb : 0 ≤ b ∧ b < (P : Int) := ⟨by omega, by omega⟩
      have hq := hrv.symm.trans (imp_rk HGB.out hpa hpb hab)
      rw [Int.toNat_natCast] at hq
      have hli := l6_ins HG.out hpa hpb hab
      have e0 : (a == b) = false := by simpa using hab
      have hP8 : 1 ≤ P ∧ P ≤ 8 := by have := HG.out.1; omega
      have h24 := HG.out.2.1
      clear hrv
      by_cases hle : a ≤ b
      · have hlt : a < b := by omega
        have m1 : ¬ b < a := by omega
        have m2 : ¬ b ≤ a := by omega
        have ebo : barOf a b = (a, b) := by unfold barOf; rw [if_pos hle]
        rw [ebo] at hq hli
        have HLI := Lib.hid hli
        have HAB := Lib.hid hab
        obtain ⟨r1, hr1⟩ : ∃ r1, rk P 2 3 (insU (a, b) l) = r1 := ⟨_, rfl⟩
        obtain ⟨r2, hr2⟩ : ∃ r2, rk P 2 3 l = r2 := ⟨_, rfl⟩
        rw [hr1, hr2] at hq
        have HR1 := Lib.hid hr1
        have HR2 := Lib.hid hr2
        clear hr1 hr2 hli ebo hab
        by_cases he : r1 = r2
        · have HRV := Lib.hid (show rv = true from by rw [hq]; exact decide_eq_true he)
          have e1 : ((r1 : Int) == (r2 : Int)) = true := by rw [he]; simp
          clear hq he
          have W0 := Lib.hid (Below.refl w.heap.size w)
          have HB_0 := Lib.hid (bars_in hl)
          clear hl
          have Z1 := Lib.hid (within_alloc w (.cells #[.int .i64 (P : Int), (.slice A l.length cap)] 30)).size
          have W1 := Lib.hid (within_on W0.out (within_alloc w (.cells #[.int .i64 (P : Int), (.slice A l.length cap)] 30)) W0.out.size (.inr (Nat.le_refl _)))
          have HB_1 := Lib.hid (HB_0.out.within (within_alloc w (.cells #[.int .i64 (P : Int), (.slice A l.length cap)] 30)) (by omega))
          have Y1 := Lib.hid (show (w.alloc (.cells #[.int .i64 (P : Int), (.slice A l.length cap)] 30)).heap.size = w.heap.size + 1 by simp)
          have hnew := box_new w (P : Int) (.slice A l.length cap) 30
          have BX_1 := Lib.hid hnew
          clear hnew
          go_enter Try.func152, Try.ntmps152
          obtain ⟨g0_0, g0_1, g0_2⟩ := BX_1.out
          go_wp2_with fail
          clear g0_0 g0_1 g0_2
          generalize (w.alloc (.cells #[.int .i64 (P : Int), (.slice A l.length cap)] 30)) = w1 at *
          refine (HISG _ HB_1.out.at).mono ?_
          rintro e w2 ⟨rfl, hb⟩
          have Z2 := Lib.hid (within_of hb).size
          have W2 := Lib.hid (within_on W1.out (within_of hb) W1.out.size (.inr (Nat.le_refl _)))
          have HB_2 := Lib.hid (HB_1.out.within (within_of hb) (by omega))
          have BX_2 := Lib.hid (BX_1.out.within (within_of hb) (by omega))
          clear hb HISG
          obtain ⟨g1_0, g1_1, g1_2⟩ := BX_2.out
          go_wp2_with fail
          clear g1_0 g1_1 g1_2
          refine (put_c (P : Int) (a, b) l A cap _ HB_2.out.at hn).mono ?_
          rintro e w3 ⟨AX, cx, rfl, ho, hb⟩
          have Z3 := Lib.hid (within_of hb).size
          have W3 := Lib.hid (within_on W2.out (within_of hb) W2.out.size (.inr (Nat.le_refl _)))
          have HB_3 := Lib.hid (HB_2.out.within (within_of hb) (by omega))
          have BX_3 := Lib.hid (BX_2.out.within (within_of hb) (by omega))
          have XB_3 := Lib.hid (ho.bars)
          clear ho hb
          have Z4 := Lib.hid (within_alloc w3 (.cells #[.int .i64 (P : Int), .slice AX (insU (a, b) l).length cx] 30)).size
          have W4 := Lib.hid (within_on W3.out (within_alloc w3 (.cells #[.int .i64 (P : Int), .slice AX (insU (a, b) l).length cx] 30)) W3.out.size (.inr (Nat.le_refl _)))
          have HB_4 := Lib.hid (HB_3.out.within (within_alloc w3 (.cells #[.int .i64 (P : Int), .slice AX (insU (a, b) l).length cx] 30)) (by omega))
          have BX_4 := Lib.hid (BX_3.out.within (within_alloc w3 (.cells #[.int .i64 (P : Int), .slice AX (insU (a, b) l).length cx] 30)) (by omega))
          have XB_4 := Lib.hid (XB_3.out.within (within_alloc w3 (.cells #[.int .i64 (P : Int), .slice AX (insU (a, b) l).length cx] 30)) (by omega))
          have Y4 := Lib.hid (show (w3.alloc (.cells #[.int .i64 (P : Int), .slice AX (insU (a, b) l).length cx] 30)).heap.size = w3.heap.size + 1 by simp)
          have hnx := box_new w3 (P : Int) (.slice AX (insU (a, b) l).length cx) 30
          have XX_4 := Lib.hid hnx
          clear hnx
          obtain ⟨g2_0, g2_1, g2_2⟩ := BX_4.out
          go_wp2_with fail
          clear g2_0 g2_1 g2_2
          generalize (w3.alloc (.cells #[.int .i64 (P : Int), .slice AX (insU (a, b) l).length cx] 30)) = w4 at *
          obtain ⟨xb, hxb⟩ : ∃ xb, w3.heap.size = xb := ⟨_, rfl⟩
          have hxx := XX_4.out
          rw [hxb] at hxx ⊢
          have hdr : Below w4.heap.size w4 w4.drew := (Below.refl _ _).drew
          have hk1 := BX_4.out.kept hdr
          have hk2 := hxx.kept hdr
          have HK1 := Lib.hid hk1
          have HK2 := Lib.hid hk2
          have HWD := Lib.hid (below_on W4.out hdr W4.out.size)
          have HBL := Lib.hid (HB_4.out.within (within_of hdr) (.inr (Nat.zero_le _)))
          have HBX := Lib.hid (XB_4.out.within (within_of hdr) (.inr (Nat.zero_le _)))
          obtain ⟨_, g1, g2⟩ := BX_4.out
          obtain ⟨_, g3, g4⟩ := hxx
          clear hdr hxb hk1 hk2
          go_wp2_with fail
          go_region_held3 (fun W' : World => (W'.cell? ⟨w.heap.size, 0, none⟩ = some (.int .i64 (P : Int)) ∧ W'.cell? ⟨w.heap.size, 1, none⟩ = some (.slice A l.length cap)) ∧ (W'.cell? ⟨xb, 0, none⟩ = some (.int .i64 (P : Int)) ∧ W'.cell? ⟨xb, 1, none⟩ = some (.slice AX (insU (a, b) l).length cx)))
            (first | exact ⟨HK1.out.2, HK2.out.2⟩ | exact ⟨HM1.out.2, HM2.out.2⟩ | exact ⟨HL1.out.2, HL2.out.2⟩ | fail)
            (first
              | (go_at_call 189; refine (l6Rank_c P l A cap _ HBM.out.at hP8 (bars_ofI HG.out) (by omega)).mono ?_; rintro e w8 ⟨rfl, hb⟩; rw [HR2.out]; have HM1 := Lib.hid (HL1.out.kept hb); have HM2 := Lib.hid (HL2.out.kept hb); have HWF := Lib.hid (below_on HWE.out hb HWE.out.size); clear hb)
              | (go_at_call 189; refine (l6Rank_c P (insU (a, b) l) AX cx _ HBX.out.at hP8 HLI.out.1 HLI.out.2).mono ?_; rintro e w7 ⟨rfl, hb⟩; rw [HR1.out]; have HL1 := Lib.hid (HK1.out.kept hb); have HL2 := Lib.hid (HK2.out.kept hb); have HBM := Lib.hid (HBL.out.within (within_of hb) (.inr (Nat.zero_le _))); have HWE := Lib.hid (below_on HWD.out hb HWD.out.size); clear hb))
          go_wp2_with fail
          go_ret
          exact ⟨by rw [HRV.out]; first | rfl | simp, HWF.out⟩
        · have HRV := Lib.hid (show rv = false from by rw [hq]; exact decide_eq_false he)
          have e1 : ((r1 : Int) == (r2 : Int)) = false := by simp; omega
          have e2 : (r1 == r2) = false := by simpa using he
          clear hq
          have W0 := Lib.hid (Below.refl w.heap.size w)
          have HB_0 := Lib.hid (bars_in hl)
          clear hl
          have Z1 := Lib.hid (within_alloc w (.cells #[.int .i64 (P : Int), (.slice A l.length cap)] 30)).size
          have W1 := Lib.hid (within_on W0.out (within_alloc w (.cells #[.int .i64 (P : Int), (.slice A l.length cap)] 30)) W0.out.size (.inr (Nat.le_refl _)))
          have HB_1 := Lib.hid (HB_0.out.within (within_alloc w (.cells #[.int .i64 (P : Int), (.slice A l.length cap)] 30)) (by omega))
          have Y1 := Lib.hid (show (w.alloc (.cells #[.int .i64 (P : Int), (.slice A l.length cap)] 30)).heap.size = w.heap.size + 1 by simp)
          have hnew := box_new w (P : Int) (.slice A l.length cap) 30
          have BX_1 := Lib.hid hnew
          clear hnew
          go_enter Try.func152, Try.ntmps152
          obtain ⟨g0_0, g0_1, g0_2⟩ := BX_1.out
          go_wp2_with fail
          clear g0_0 g0_1 g0_2
          generalize (w.alloc (.cells #[.int .i64 (P : Int), (.slice A l.length cap)] 30)) = w1 at *
          refine (HISG _ HB_1.out.at).mono ?_
          rintro e w2 ⟨rfl, hb⟩
          have Z2 := Lib.hid (within_of hb).size
          have W2 := Lib.hid (within_on W1.out (within_of hb) W1.out.size (.inr (Nat.le_refl _)))
          have HB_2 := Lib.hid (HB_1.out.within (within_of hb) (by omega))
          have BX_2 := Lib.hid (BX_1.out.within (within_of hb) (by omega))
          clear hb HISG
          obtain ⟨g1_0, g1_1, g1_2⟩ := BX_2.out
          go_wp2_with fail
          clear g1_0 g1_1 g1_2
          refine (put_c (P : Int) (a, b) l A cap _ HB_2.out.at hn).mono ?_
          rintro e w3 ⟨AX, cx, rfl, ho, hb⟩
          have Z3 := Lib.hid (within_of hb).size
          have W3 := Lib.hid (within_on W2.out (within_of hb) W2.out.size (.inr (Nat.le_refl _)))
          have HB_3 := Lib.hid (HB_2.out.within (within_of hb) (by omega))
          have BX_3 := Lib.hid (BX_2.out.within (within_of hb) (by omega))
          have XB_3 := Lib.hid (ho.bars)
          clear ho hb
          have Z4 := Lib.hid (within_alloc w3 (.cells #[.int .i64 (P : Int), .slice AX (insU (a, b) l).length cx] 30)).size
          have W4 := Lib.hid (within_on W3.out (within_alloc w3 (.cells #[.int .i64 (P : Int), .slice AX (insU (a, b) l).length cx] 30)) W3.out.size (.inr (Nat.le_refl _)))
          have HB_4 := Lib.hid (HB_3.out.within (within_alloc w3 (.cells #[.int .i64 (P : Int), .slice AX (insU (a, b) l).length cx] 30)) (by omega))
          have BX_4 := Lib.hid (BX_3.out.within (within_alloc w3 (.cells #[.int .i64 (P : Int), .slice AX (insU (a, b) l).length cx] 30)) (by omega))
          have XB_4 := Lib.hid (XB_3.out.within (within_alloc w3 (.cells #[.int .i64 (P : Int), .slice AX (insU (a, b) l).length cx] 30)) (by omega))
          have Y4 := Lib.hid (show (w3.alloc (.cells #[.int .i64 (P : Int), .slice AX (insU (a, b) l).length cx] 30)).heap.size = w3.heap.size + 1 by simp)
          have hnx := box_new w3 (P : Int) (.slice AX (insU (a, b) l).length cx) 30
          have XX_4 := Lib.hid hnx
          clear hnx
          obtain ⟨g2_0, g2_1, g2_2⟩ := BX_4.out
          go_wp2_with fail
          clear g2_0 g2_1 g2_2
          generalize (w3.alloc (.cells #[.int .i64 (P : Int), .slice AX (insU (a, b) l).length cx] 30)) = w4 at *
          obtain ⟨xb, hxb⟩ : ∃ xb, w3.heap.size = xb := ⟨_, rfl⟩
          have hxx := XX_4.out
          rw [hxb] at hxx ⊢
          have hdr : Below w4.heap.size w4 w4.drew := (Below.refl _ _).drew
          have hk1 := BX_4.out.kept hdr
          have hk2 := hxx.kept hdr
          have HK1 := Lib.hid hk1
          have HK2 := Lib.hid hk2
          have HWD := Lib.hid (below_on W4.out hdr W4.out.size)
          have HBL := Lib.hid (HB_4.out.within (within_of hdr) (.inr (Nat.zero_le _)))
          have HBX := Lib.hid (XB_4.out.within (within_of hdr) (.inr (Nat.zero_le _)))
          obtain ⟨_, g1, g2⟩ := BX_4.out
          obtain ⟨_, g3, g4⟩ := hxx
          clear hdr hxb hk1 hk2
          go_wp2_with fail
          go_region_held3 (fun W' : World => (W'.cell? ⟨w.heap.size, 0, none⟩ = some (.int .i64 (P : Int)) ∧ W'.cell? ⟨w.heap.size, 1, none⟩ = some (.slice A l.length cap)) ∧ (W'.cell? ⟨xb, 0, none⟩ = some (.int .i64 (P : Int)) ∧ W'.cell? ⟨xb, 1, none⟩ = some (.slice AX (insU (a, b) l).length cx)))
            (first | exact ⟨HK1.out.2, HK2.out.2⟩ | exact ⟨HM1.out.2, HM2.out.2⟩ | exact ⟨HL1.out.2, HL2.out.2⟩ | fail)
            (first
              | (go_at_call 189; refine (l6Rank_c P l A cap _ HBM.out.at hP8 (bars_ofI HG.out) (by omega)).mono ?_; rintro e w8 ⟨rfl, hb⟩; rw [HR2.out]; have HM1 := Lib.hid (HL1.out.kept hb); have HM2 := Lib.hid (HL2.out.kept hb); have HWF := Lib.hid (below_on HWE.out hb HWE.out.size); clear hb)
              | (go_at_call 189; refine (l6Rank_c P (insU (a, b) l) AX cx _ HBX.out.at hP8 HLI.out.1 HLI.out.2).mono ?_; rintro e w7 ⟨rfl, hb⟩; rw [HR1.out]; have HL1 := Lib.hid (HK1.out.kept hb); have HL2 := Lib.hid (HK2.out.kept hb); have HBM := Lib.hid (HBL.out.within (within_of hb) (.inr (Nat.zero_le _))); have HWE := Lib.hid (below_on HWD.out hb HWD.out.size); clear hb))
          go_wp2_with fail
          go_ret
          exact ⟨by rw [HRV.out]; first | rfl | simp, HWF.out⟩
      · have hlt : b < a := by omega
        have m2 : ¬ a < b := by omega
        have ebo : barOf a b = (b, a) := by unfold barOf; rw [if_neg hle]
        rw [ebo] at hq hli
        have HLI := Lib.hid hli
        have HAB := Lib.hid hab
        obtain ⟨r1, hr1⟩ : ∃ r1, rk P 2 3 (insU (b, a) l) = r1 := ⟨_, rfl⟩
        obtain ⟨r2, hr2⟩ : ∃ r2, rk P 2 3 l = r2 := ⟨_, rfl⟩
        rw [hr1, hr2] at hq
        have HR1 := Lib.hid hr1
        have HR2 := Lib.hid hr2
        clear hr1 hr2 hli ebo hab
        by_cases he : r1 = r2
        · have HRV := Lib.hid (show rv = true from by rw [hq]; exact decide_eq_true he)
          have e1 : ((r1 : Int) == (r2 : Int)) = true := by rw [he]; simp
          clear hq he
          have W0 := Lib.hid (Below.refl w.heap.size w)
          have HB_0 := Lib.hid (bars_in hl)
          clear hl
          have Z1 := Lib.hid (within_alloc w (.cells #[.int .i64 (P : Int), (.slice A l.length cap)] 30)).size
          have W1 := Lib.hid (within_on W0.out (within_alloc w (.cells #[.int .i64 (P : Int), (.slice A l.length cap)] 30)) W0.out.size (.inr (Nat.le_refl _)))
          have HB_1 := Lib.hid (HB_0.out.within (within_alloc w (.cells #[.int .i64 (P : Int), (.slice A l.length cap)] 30)) (by omega))
          have Y1 := Lib.hid (show (w.alloc (.cells #[.int .i64 (P : Int), (.slice A l.length cap)] 30)).heap.size = w.heap.size + 1 by simp)
          have hnew := box_new w (P : Int) (.slice A l.length cap) 30
          have BX_1 := Lib.hid hnew
          clear hnew
          go_enter Try.func152, Try.ntmps152
          obtain ⟨g0_0, g0_1, g0_2⟩ := BX_1.out
          go_wp2_with fail
          clear g0_0 g0_1 g0_2
          generalize (w.alloc (.cells #[.int .i64 (P : Int), (.slice A l.length cap)] 30)) = w1 at *
          refine (HISG _ HB_1.out.at).mono ?_
          rintro e w2 ⟨rfl, hb⟩
          have Z2 := Lib.hid (within_of hb).size
          have W2 := Lib.hid (within_on W1.out (within_of hb) W1.out.size (.inr (Nat.le_refl _)))
          have HB_2 := Lib.hid (HB_1.out.within (within_of hb) (by omega))
          have BX_2 := Lib.hid (BX_1.out.within (within_of hb) (by omega))
          clear hb HISG
          obtain ⟨g1_0, g1_1, g1_2⟩ := BX_2.out
          go_wp2_with fail
          clear g1_0 g1_1 g1_2
          refine (put_c (P : Int) (b, a) l A cap _ HB_2.out.at hn).mono ?_
          rintro e w3 ⟨AX, cx, rfl, ho, hb⟩
          have Z3 := Lib.hid (within_of hb).size
          have W3 := Lib.hid (within_on W2.out (within_of hb) W2.out.size (.inr (Nat.le_refl _)))
          have HB_3 := Lib.hid (HB_2.out.within (within_of hb) (by omega))
          have BX_3 := Lib.hid (BX_2.out.within (within_of hb) (by omega))
          have XB_3 := Lib.hid (ho.bars)
          clear ho hb
          have Z4 := Lib.hid (within_alloc w3 (.cells #[.int .i64 (P : Int), .slice AX (insU (b, a) l).length cx] 30)).size
          have W4 := Lib.hid (within_on W3.out (within_alloc w3 (.cells #[.int .i64 (P : Int), .slice AX (insU (b, a) l).length cx] 30)) W3.out.size (.inr (Nat.le_refl _)))
          have HB_4 := Lib.hid (HB_3.out.within (within_alloc w3 (.cells #[.int .i64 (P : Int), .slice AX (insU (b, a) l).length cx] 30)) (by omega))
          have BX_4 := Lib.hid (BX_3.out.within (within_alloc w3 (.cells #[.int .i64 (P : Int), .slice AX (insU (b, a) l).length cx] 30)) (by omega))
          have XB_4 := Lib.hid (XB_3.out.within (within_alloc w3 (.cells #[.int .i64 (P : Int), .slice AX (insU (b, a) l).length cx] 30)) (by omega))
          have Y4 := Lib.hid (show (w3.alloc (.cells #[.int .i64 (P : Int), .slice AX (insU (b, a) l).length cx] 30)).heap.size = w3.heap.size + 1 by simp)
          have hnx := box_new w3 (P : Int) (.slice AX (insU (b, a) l).length cx) 30
          have XX_4 := Lib.hid hnx
          clear hnx
          obtain ⟨g2_0, g2_1, g2_2⟩ := BX_4.out
          go_wp2_with fail
          clear g2_0 g2_1 g2_2
          generalize (w3.alloc (.cells #[.int .i64 (P : Int), .slice AX (insU (b, a) l).length cx] 30)) = w4 at *
          obtain ⟨xb, hxb⟩ : ∃ xb, w3.heap.size = xb := ⟨_, rfl⟩
          have hxx := XX_4.out
          rw [hxb] at hxx ⊢
          have hdr : Below w4.heap.size w4 w4.drew := (Below.refl _ _).drew
          have hk1 := BX_4.out.kept hdr
          have hk2 := hxx.kept hdr
          have HK1 := Lib.hid hk1
          have HK2 := Lib.hid hk2
          have HWD := Lib.hid (below_on W4.out hdr W4.out.size)
          have HBL := Lib.hid (HB_4.out.within (within_of hdr) (.inr (Nat.zero_le _)))
          have HBX := Lib.hid (XB_4.out.within (within_of hdr) (.inr (Nat.zero_le _)))
          obtain ⟨_, g1, g2⟩ := BX_4.out
          obtain ⟨_, g3, g4⟩ := hxx
          clear hdr hxb hk1 hk2
          go_wp2_with fail
          go_region_held3 (fun W' : World => (W'.cell? ⟨w.heap.size, 0, none⟩ = some (.int .i64 (P : Int)) ∧ W'.cell? ⟨w.heap.size, 1, none⟩ = some (.slice A l.length cap)) ∧ (W'.cell? ⟨xb, 0, none⟩ = some (.int .i64 (P : Int)) ∧ W'.cell? ⟨xb, 1, none⟩ = some (.slice AX (insU (b, a) l).length cx)))
            (first | exact ⟨HK1.out.2, HK2.out.2⟩ | exact ⟨HM1.out.2, HM2.out.2⟩ | exact ⟨HL1.out.2, HL2.out.2⟩ | fail)
            (first
              | (go_at_call 189; refine (l6Rank_c P l A cap _ HBM.out.at hP8 (bars_ofI HG.out) (by omega)).mono ?_; rintro e w8 ⟨rfl, hb⟩; rw [HR2.out]; have HM1 := Lib.hid (HL1.out.kept hb); have HM2 := Lib.hid (HL2.out.kept hb); have HWF := Lib.hid (below_on HWE.out hb HWE.out.size); clear hb)
              | (go_at_call 189; refine (l6Rank_c P (insU (b, a) l) AX cx _ HBX.out.at hP8 HLI.out.1 HLI.out.2).mono ?_; rintro e w7 ⟨rfl, hb⟩; rw [HR1.out]; have HL1 := Lib.hid (HK1.out.kept hb); have HL2 := Lib.hid (HK2.out.kept hb); have HBM := Lib.hid (HBL.out.within (within_of hb) (.inr (Nat.zero_le _))); have HWE := Lib.hid (below_on HWD.out hb HWD.out.size); clear hb))
          go_wp2_with fail
          go_ret
          exact ⟨by rw [HRV.out]; first | rfl | simp, HWF.out⟩
        · have HRV := Lib.hid (show rv = false from by rw [hq]; exact decide_eq_false he)
          have e1 : ((r1 : Int) == (r2 : Int)) = false := by simp; omega
          have e2 : (r1 == r2) = false := by simpa using he
          clear hq
          have W0 := Lib.hid (Below.refl w.heap.size w)
          have HB_0 := Lib.hid (bars_in hl)
          clear hl
          have Z1 := Lib.hid (within_alloc w (.cells #[.int .i64 (P : Int), (.slice A l.length cap)] 30)).size
          have W1 := Lib.hid (within_on W0.out (within_alloc w (.cells #[.int .i64 (P : Int), (.slice A l.length cap)] 30)) W0.out.size (.inr (Nat.le_refl _)))
          have HB_1 := Lib.hid (HB_0.out.within (within_alloc w (.cells #[.int .i64 (P : Int), (.slice A l.length cap)] 30)) (by omega))
          have Y1 := Lib.hid (show (w.alloc (.cells #[.int .i64 (P : Int), (.slice A l.length cap)] 30)).heap.size = w.heap.size + 1 by simp)
          have hnew := box_new w (P : Int) (.slice A l.length cap) 30
          have BX_1 := Lib.hid hnew
          clear hnew
          go_enter Try.func152, Try.ntmps152
          obtain ⟨g0_0, g0_1, g0_2⟩ := BX_1.out
          go_wp2_with fail
          clear g0_0 g0_1 g0_2
          generalize (w.alloc (.cells #[.int .i64 (P : Int), (.slice A l.length cap)] 30)) = w1 at *
          refine (HISG _ HB_1.out.at).mono ?_
          rintro e w2 ⟨rfl, hb⟩
          have Z2 := Lib.hid (within_of hb).size
          have W2 := Lib.hid (within_on W1.out (within_of hb) W1.out.size (.inr (Nat.le_refl _)))
          have HB_2 := Lib.hid (HB_1.out.within (within_of hb) (by omega))
          have BX_2 := Lib.hid (BX_1.out.within (within_of hb) (by omega))
          clear hb HISG
          obtain ⟨g1_0, g1_1, g1_2⟩ := BX_2.out
          go_wp2_with fail
          clear g1_0 g1_1 g1_2
          refine (put_c (P : Int) (b, a) l A cap _ HB_2.out.at hn).mono ?_
          rintro e w3 ⟨AX, cx, rfl, ho, hb⟩
          have Z3 := Lib.hid (within_of hb).size
          have W3 := Lib.hid (within_on W2.out (within_of hb) W2.out.size (.inr (Nat.le_refl _)))
          have HB_3 := Lib.hid (HB_2.out.within (within_of hb) (by omega))
          have BX_3 := Lib.hid (BX_2.out.within (within_of hb) (by omega))
          have XB_3 := Lib.hid (ho.bars)
          clear ho hb
          have Z4 := Lib.hid (within_alloc w3 (.cells #[.int .i64 (P : Int), .slice AX (insU (b, a) l).length cx] 30)).size
          have W4 := Lib.hid (within_on W3.out (within_alloc w3 (.cells #[.int .i64 (P : Int), .slice AX (insU (b, a) l).length cx] 30)) W3.out.size (.inr (Nat.le_refl _)))
          have HB_4 := Lib.hid (HB_3.out.within (within_alloc w3 (.cells #[.int .i64 (P : Int), .slice AX (insU (b, a) l).length cx] 30)) (by omega))
          have BX_4 := Lib.hid (BX_3.out.within (within_alloc w3 (.cells #[.int .i64 (P : Int), .slice AX (insU (b, a) l).length cx] 30)) (by omega))
          have XB_4 := Lib.hid (XB_3.out.within (within_alloc w3 (.cells #[.int .i64 (P : Int), .slice AX (insU (b, a) l).length cx] 30)) (by omega))
          have Y4 := Lib.hid (show (w3.alloc (.cells #[.int .i64 (P : Int), .slice AX (insU (b, a) l).length cx] 30)).heap.size = w3.heap.size + 1 by simp)
          have hnx := box_new w3 (P : Int) (.slice AX (insU (b, a) l).length cx) 30
          have XX_4 := Lib.hid hnx
          clear hnx
          obtain ⟨g2_0, g2_1, g2_2⟩ := BX_4.out
          go_wp2_with fail
          clear g2_0 g2_1 g2_2
          generalize (w3.alloc (.cells #[.int .i64 (P : Int), .slice AX (insU (b, a) l).length cx] 30)) = w4 at *
          obtain ⟨xb, hxb⟩ : ∃ xb, w3.heap.size = xb := ⟨_, rfl⟩
          have hxx := XX_4.out
          rw [hxb] at hxx ⊢
          have hdr : Below w4.heap.size w4 w4.drew := (Below.refl _ _).drew
          have hk1 := BX_4.out.kept hdr
          have hk2 := hxx.kept hdr
          have HK1 := Lib.hid hk1
          have HK2 := Lib.hid hk2
          have HWD := Lib.hid (below_on W4.out hdr W4.out.size)
          have HBL := Lib.hid (HB_4.out.within (within_of hdr) (.inr (Nat.zero_le _)))
          have HBX := Lib.hid (XB_4.out.within (within_of hdr) (.inr (Nat.zero_le _)))
          obtain ⟨_, g1, g2⟩ := BX_4.out
          obtain ⟨_, g3, g4⟩ := hxx
          clear hdr hxb hk1 hk2
          go_wp2_with fail
          go_region_held3 (fun W' : World => (W'.cell? ⟨w.heap.size, 0, none⟩ = some (.int .i64 (P : Int)) ∧ W'.cell? ⟨w.heap.size, 1, none⟩ = some (.slice A l.length cap)) ∧ (W'.cell? ⟨xb, 0, none⟩ = some (.int .i64 (P : Int)) ∧ W'.cell? ⟨xb, 1, none⟩ = some (.slice AX (insU (b, a) l).length cx)))
            (first | exact ⟨HK1.out.2, HK2.out.2⟩ | exact ⟨HM1.out.2, HM2.out.2⟩ | exact ⟨HL1.out.2, HL2.out.2⟩ | fail)
            (first
              | (go_at_call 189; refine (l6Rank_c P l A cap _ HBM.out.at hP8 (bars_ofI HG.out) (by omega)).mono ?_; rintro e w8 ⟨rfl, hb⟩; rw [HR2.out]; have HM1 := Lib.hid (HL1.out.kept hb); have HM2 := Lib.hid (HL2.out.kept hb); have HWF := Lib.hid (below_on HWE.out hb HWE.out.size); clear hb)
              | (go_at_call 189; refine (l6Rank_c P (insU (b, a) l) AX cx _ HBX.out.at hP8 HLI.out.1 HLI.out.2).mono ?_; rintro e w7 ⟨rfl, hb⟩; rw [HR1.out]; have HL1 := Lib.hid (HK1.out.kept hb); have HL2 := Lib.hid (HK2.out.kept hb); have HBM := Lib.hid (HBL.out.within (within_of hb) (.inr (Nat.zero_le _))); have HWE := Lib.hid (below_on HWD.out hb HWD.out.size); clear hb))
          go_wp2_with fail
          go_ret
          exact ⟨by rw [HRV.out]; first | rfl | simp, HWF.out⟩
end Go.Proofs.Ytggibhhdnlifcaa
/- What spec.ComponentOfBar answers. No condition. -/
namespace Go.Proofs.Ytggibhhdnlifcaa
open Go.RowKit

set_option maxHeartbeats 4000000 in
set_option maxRecDepth 100000 in
theorem specCob (p i : Int) (l : List (Int × Int)) (A : Option Addr) (cap : Nat) (w : World) (hl : BarsAt w w.heap.size A l) (hn : l.length ≤ 1048576) :
    Calls Try.prog 83 #[.agg #[.int .i64 p, .slice A l.length cap], .int .i64 i] w (IntsO w (cobV p i l)) := by
  have HISG : ∀ W : World, BarsAt W W.heap.size A l → Calls Try.prog 82 #[.agg #[.int .i64 p, .slice A l.length cap]] W fun e w' => e = .returned (.bool (isGB p l)) ∧ Below W.heap.size W w' := fun W h => specIsGraph' p l A cap W h hn
  cases hg : isGB p l with
  | false =>
    have HR := Lib.hid (cobV_no (i := i) (.inl hg))
    rw [hg] at HISG
    clear hg
    have W0 := Lib.hid (Below.refl w.heap.size w)
    have HB_0 := Lib.hid (bars_in hl)
    clear hl
    have Z1 := Lib.hid (within_alloc w (.cells #[.int .i64 p, (.slice A l.length cap)] 30)).size
    have W1 := Lib.hid (within_on W0.out (within_alloc w (.cells #[.int .i64 p, (.slice A l.length cap)] 30)) W0.out.size (.inr (Nat.le_refl _)))
    have HB_1 := Lib.hid (HB_0.out.within (within_alloc w (.cells #[.int .i64 p, (.slice A l.length cap)] 30)) (by omega))
    have Y1 := Lib.hid (show (w.alloc (.cells #[.int .i64 p, (.slice A l.length cap)] 30)).heap.size = w.heap.size + 1 by simp)
    have hnew := box_new w p (.slice A l.length cap) 30
    have BX_1 := Lib.hid hnew
    clear hnew
    have Z2 := Lib.hid (within_alloc (w.alloc (.cells #[.int .i64 p, (.slice A l.length cap)] 30)) (.cells #[] 3)).size
    have W2 := Lib.hid (within_on W1.out (within_alloc (w.alloc (.cells #[.int .i64 p, (.slice A l.length cap)] 30)) (.cells #[] 3)) W1.out.size (.inr (Nat.le_refl _)))
    have HB_2 := Lib.hid (HB_1.out.within (within_alloc (w.alloc (.cells #[.int .i64 p, (.slice A l.length cap)] 30)) (.cells #[] 3)) (by omega))
    have BX_2 := Lib.hid (BX_1.out.within (within_alloc (w.alloc (.cells #[.int .i64 p, (.slice A l.length cap)] 30)) (.cells #[] 3)) (by omega))
    have Y2 := Lib.hid (show ((w.alloc (.cells #[.int .i64 p, (.slice A l.length cap)] 30)).alloc (.cells #[] 3)).heap.size = (w.alloc (.cells #[.int .i64 p, (.slice A l.length cap)] 30)).heap.size + 1 by simp)
    have hown := ownR_empty (w.alloc (.cells #[.int .i64 p, (.slice A l.length cap)] 30))
    rw [show (w.alloc (.cells #[.int .i64 p, (.slice A l.length cap)] 30)).heap.size = w.heap.size + 1 by simp] at hown
    have OE_2 := Lib.hid hown
    clear hown
    go_enter Try.func83, Try.ntmps83
    obtain ⟨g0_0, g0_1, g0_2⟩ := BX_2.out
    go_wp2_with fail
    clear g0_0 g0_1 g0_2
    generalize ((w.alloc (.cells #[.int .i64 p, (.slice A l.length cap)] 30)).alloc (.cells #[] 3)) = w2 at *
    generalize (w.alloc (.cells #[.int .i64 p, (.slice A l.length cap)] 30)) = w1 at *
    refine (HISG _ HB_2.out.at).mono ?_
    rintro e w3 ⟨rfl, hb⟩
    have Z3 := Lib.hid (within_of hb).size
    have W3 := Lib.hid (within_on W2.out (within_of hb) W2.out.size (.inr (Nat.le_refl _)))
    have HB_3 := Lib.hid (HB_2.out.within (within_of hb) (by omega))
    have BX_3 := Lib.hid (BX_2.out.within (within_of hb) (by omega))
    have OE_3 := Lib.hid (OE_2.out.within (within_of hb) (by omega))
    clear hb HISG
    obtain ⟨g1_0, g1_1, g1_2⟩ := BX_3.out
    go_wp2_with fail
    clear g1_0 g1_1 g1_2
    go_ret
    exact ⟨some ⟨w.heap.size + 1, 0, none⟩, 0, by rw [HR.out]; rfl, by rw [HR.out]; exact ⟨Nat.le_refl _, .inl rfl⟩, W3.out⟩
  | true =>
    have hG : IsG p l := Classical.byContradiction fun g => by rw [isGB_no g] at hg; cases hg
    have HG := Lib.hid hG
    have HGB := Lib.hid hg
    rw [hg] at HISG
    clear hg hG
    by_cases h0 : i < 0
    · have HR := Lib.hid (cobV_no (p := p) (i := i) (l := l) (.inr (.inl h0)))
      have W0 := Lib.hid (Below.refl w.heap.size w)
      have HB_0 := Lib.hid (bars_in hl)
      clear hl
      have Z1 := Lib.hid (within_alloc w (.cells #[.int .i64 p, (.slice A l.length cap)] 30)).size
      have W1 := Lib.hid (within_on W0.out (within_alloc w (.cells #[.int .i64 p, (.slice A l.length cap)] 30)) W0.out.size (.inr (Nat.le_refl _)))
      have HB_1 := Lib.hid (HB_0.out.within (within_alloc w (.cells #[.int .i64 p, (.slice A l.length cap)] 30)) (by omega))
      have Y1 := Lib.hid (show (w.alloc (.cells #[.int .i64 p, (.slice A l.length cap)] 30)).heap.size = w.heap.size + 1 by simp)
      have hnew := box_new w p (.slice A l.length cap) 30
      have BX_1 := Lib.hid hnew
      clear hnew
      have Z2 := Lib.hid (within_alloc (w.alloc (.cells #[.int .i64 p, (.slice A l.length cap)] 30)) (.cells #[] 3)).size
      have W2 := Lib.hid (within_on W1.out (within_alloc (w.alloc (.cells #[.int .i64 p, (.slice A l.length cap)] 30)) (.cells #[] 3)) W1.out.size (.inr (Nat.le_refl _)))
      have HB_2 := Lib.hid (HB_1.out.within (within_alloc (w.alloc (.cells #[.int .i64 p, (.slice A l.length cap)] 30)) (.cells #[] 3)) (by omega))
      have BX_2 := Lib.hid (BX_1.out.within (within_alloc (w.alloc (.cells #[.int .i64 p, (.slice A l.length cap)] 30)) (.cells #[] 3)) (by omega))
      have Y2 := Lib.hid (show ((w.alloc (.cells #[.int .i64 p, (.slice A l.length cap)] 30)).alloc (.cells #[] 3)).heap.size = (w.alloc (.cells #[.int .i64 p, (.slice A l.length cap)] 30)).heap.size + 1 by simp)
      have hown := ownR_empty (w.alloc (.cells #[.int .i64 p, (.slice A l.length cap)] 30))
      rw [show (w.alloc (.cells #[.int .i64 p, (.slice A l.length cap)] 30)).heap.size = w.heap.size + 1 by simp] at hown
      have OE_2 := Lib.hid hown
      clear hown
      go_enter Try.func83, Try.ntmps83
      obtain ⟨g0_0, g0_1, g0_2⟩ := BX_2.out
      go_wp2_with fail
      clear g0_0 g0_1 g0_2
      generalize ((w.alloc (.cells #[.int .i64 p, (.slice A l.length cap)] 30)).alloc (.cells #[] 3)) = w2 at *
      generalize (w.alloc (.cells #[.int .i64 p, (.slice A l.length cap)] 30)) = w1 at *
      refine (HISG _ HB_2.out.at).mono ?_
      rintro e w3 ⟨rfl, hb⟩
      have Z3 := Lib.hid (within_of hb).size
      have W3 := Lib.hid (within_on W2.out (within_of hb) W2.out.size (.inr (Nat.le_refl _)))
      have HB_3 := Lib.hid (HB_2.out.within (within_of hb) (by omega))
      have BX_3 := Lib.hid (BX_2.out.within (within_of hb) (by omega))
      have OE_3 := Lib.hid (OE_2.out.within (within_of hb) (by omega))
      clear hb HISG
      obtain ⟨g1_0, g1_1, g1_2⟩ := BX_3.out
      go_wp2_with fail
      clear g1_0 g1_1 g1_2
      go_ret
      exact ⟨some ⟨w.heap.size + 1, 0, none⟩, 0, by rw [HR.out]; rfl, by rw [HR.out]; exact ⟨Nat.le_refl _, .inl rfl⟩, W3.out⟩
    by_cases h1 : (l.length : Int) ≤ i
    · have HR := Lib.hid (cobV_no (p := p) (i := i) (l := l) (.inr (.inr h1)))
      have W0 := Lib.hid (Below.refl w.heap.size w)
      have HB_0 := Lib.hid (bars_in hl)
      clear hl
      have Z1 := Lib.hid (within_alloc w (.cells #[.int .i64 p, (.slice A l.length cap)] 30)).size
      have W1 := Lib.hid (within_on W0.out (within_alloc w (.cells #[.int .i64 p, (.slice A l.length cap)] 30)) W0.out.size (.inr (Nat.le_refl _)))
      have HB_1 := Lib.hid (HB_0.out.within (within_alloc w (.cells #[.int .i64 p, (.slice A l.length cap)] 30)) (by omega))
      have Y1 := Lib.hid (show (w.alloc (.cells #[.int .i64 p, (.slice A l.length cap)] 30)).heap.size = w.heap.size + 1 by simp)
      have hnew := box_new w p (.slice A l.length cap) 30
      have BX_1 := Lib.hid hnew
      clear hnew
      have Z2 := Lib.hid (within_alloc (w.alloc (.cells #[.int .i64 p, (.slice A l.length cap)] 30)) (.cells #[] 3)).size
      have W2 := Lib.hid (within_on W1.out (within_alloc (w.alloc (.cells #[.int .i64 p, (.slice A l.length cap)] 30)) (.cells #[] 3)) W1.out.size (.inr (Nat.le_refl _)))
      have HB_2 := Lib.hid (HB_1.out.within (within_alloc (w.alloc (.cells #[.int .i64 p, (.slice A l.length cap)] 30)) (.cells #[] 3)) (by omega))
      have BX_2 := Lib.hid (BX_1.out.within (within_alloc (w.alloc (.cells #[.int .i64 p, (.slice A l.length cap)] 30)) (.cells #[] 3)) (by omega))
      have Y2 := Lib.hid (show ((w.alloc (.cells #[.int .i64 p, (.slice A l.length cap)] 30)).alloc (.cells #[] 3)).heap.size = (w.alloc (.cells #[.int .i64 p, (.slice A l.length cap)] 30)).heap.size + 1 by simp)
      have hown := ownR_empty (w.alloc (.cells #[.int .i64 p, (.slice A l.length cap)] 30))
      rw [show (w.alloc (.cells #[.int .i64 p, (.slice A l.length cap)] 30)).heap.size = w.heap.size + 1 by simp] at hown
      have OE_2 := Lib.hid hown
      clear hown
      go_enter Try.func83, Try.ntmps83
      obtain ⟨g0_0, g0_1, g0_2⟩ := BX_2.out
      go_wp2_with fail
      clear g0_0 g0_1 g0_2
      generalize ((w.alloc (.cells #[.int .i64 p, (.slice A l.length cap)] 30)).alloc (.cells #[] 3)) = w2 at *
      generalize (w.alloc (.cells #[.int .i64 p, (.slice A l.length cap)] 30)) = w1 at *
      refine (HISG _ HB_2.out.at).mono ?_
      rintro e w3 ⟨rfl, hb⟩
      have Z3 := Lib.hid (within_of hb).size
      have W3 := Lib.hid (within_on W2.out (within_of hb) W2.out.size (.inr (Nat.le_refl _)))
      have HB_3 := Lib.hid (HB_2.out.within (within_of hb) (by omega))
      have BX_3 := Lib.hid (BX_2.out.within (within_of hb) (by omega))
      have OE_3 := Lib.hid (OE_2.out.within (within_of hb) (by omega))
      clear hb HISG
      obtain ⟨g1_0, g1_1, g1_2⟩ := BX_3.out
      go_wp2_with fail
      clear g1_0 g1_1 g1_2
      go_ret
      exact ⟨some ⟨w.heap.size + 1, 0, none⟩, 0, by rw [HR.out]; rfl, by rw [HR.out]; exact ⟨Nat.le_refl _, .inl rfl⟩, W3.out⟩
    obtain ⟨P, rfl⟩ : ∃ u : Nat, p = (u : Int) := ⟨p.toNat, by have := HG.out.1; omega⟩
    obtain ⟨j0, rfl⟩ : ∃ u : Nat, i = (u : Int) := ⟨i.toNat, by omega⟩
    have hj0 : j0 < l.length := by omega
    have d0 : decide ((j0 : Int) < 0) = false := decide_eq_false (by omega)
    have d1 : decide (l.length ≤ j0) = false := decide_eq_false (by omega)
    have d2 : decide ((l.length : Int) ≤ (j0 : Int)) = false := decide_eq_false (by omega)
    have hv := cobV_yes HGB.out hj0
    have hob := HG.out.2.2 j0 hj0
    unfold OkBar at hob
    obtain ⟨x, hxd⟩ : ∃ x, l.getD j0 (0, 0) = x := ⟨_, rfl⟩
    rw [hxd] at hv hob
    obtain ⟨x1, x2⟩ := x
    simp only at hob
    obtain ⟨a, rfl⟩ : ∃ u : Nat, x1 = (u : Int) := ⟨x1.toNat, by omega⟩
    obtain ⟨b, rfl⟩ : ∃ u : Nat, x2 = (u : Int) := ⟨x2.toNat, by omega⟩
    have HR := Lib.hid hv
    have HXD := Lib.hid hxd
    have hP8 : P ≤ 8 := by have := HG.out.1; omega
    have hab : (a : Int) < (b : Int) := hob.2.1
    have HOB := Lib.hid hob
    clear hv hxd hob
    have W0 := Lib.hid (Below.refl w.heap.size w)
    have HB_0 := Lib.hid (bars_in hl)
    clear hl
    have Z1 := Lib.hid (within_alloc w (.cells #[.int .i64 (P : Int), (.slice A l.length cap)] 30)).size
    have W1 := Lib.hid (within_on W0.out (within_alloc w (.cells #[.int .i64 (P : Int), (.slice A l.length cap)] 30)) W0.out.size (.inr (Nat.le_refl _)))
    have HB_1 := Lib.hid (HB_0.out.within (within_alloc w (.cells #[.int .i64 (P : Int), (.slice A l.length cap)] 30)) (by omega))
    have Y1 := Lib.hid (show (w.alloc (.cells #[.int .i64 (P : Int), (.slice A l.length cap)] 30)).heap.size = w.heap.size + 1 by simp)
    have hnew := box_new w (P : Int) (.slice A l.length cap) 30
    have BX_1 := Lib.hid hnew
    clear hnew
    have Z2 := Lib.hid (within_alloc (w.alloc (.cells #[.int .i64 (P : Int), (.slice A l.length cap)] 30)) (.cells #[] 3)).size
    have W2 := Lib.hid (within_on W1.out (within_alloc (w.alloc (.cells #[.int .i64 (P : Int), (.slice A l.length cap)] 30)) (.cells #[] 3)) W1.out.size (.inr (Nat.le_refl _)))
    have HB_2 := Lib.hid (HB_1.out.within (within_alloc (w.alloc (.cells #[.int .i64 (P : Int), (.slice A l.length cap)] 30)) (.cells #[] 3)) (by omega))
    have BX_2 := Lib.hid (BX_1.out.within (within_alloc (w.alloc (.cells #[.int .i64 (P : Int), (.slice A l.length cap)] 30)) (.cells #[] 3)) (by omega))
    have Y2 := Lib.hid (show ((w.alloc (.cells #[.int .i64 (P : Int), (.slice A l.length cap)] 30)).alloc (.cells #[] 3)).heap.size = (w.alloc (.cells #[.int .i64 (P : Int), (.slice A l.length cap)] 30)).heap.size + 1 by simp)
    have hown := ownR_empty (w.alloc (.cells #[.int .i64 (P : Int), (.slice A l.length cap)] 30))
    rw [show (w.alloc (.cells #[.int .i64 (P : Int), (.slice A l.length cap)] 30)).heap.size = w.heap.size + 1 by simp] at hown
    have OE_2 := Lib.hid hown
    clear hown
    go_enter Try.func83, Try.ntmps83
    obtain ⟨g0_0, g0_1, g0_2⟩ := BX_2.out
    go_wp2_with fail
    clear g0_0 g0_1 g0_2
    generalize ((w.alloc (.cells #[.int .i64 (P : Int), (.slice A l.length cap)] 30)).alloc (.cells #[] 3)) = w2 at *
    generalize (w.alloc (.cells #[.int .i64 (P : Int), (.slice A l.length cap)] 30)) = w1 at *
    refine (HISG _ HB_2.out.at).mono ?_
    rintro e w3 ⟨rfl, hb⟩
    have Z3 := Lib.hid (within_of hb).size
    have W3 := Lib.hid (within_on W2.out (within_of hb) W2.out.size (.inr (Nat.le_refl _)))
    have HB_3 := Lib.hid (HB_2.out.within (within_of hb) (by omega))
    have BX_3 := Lib.hid (BX_2.out.within (within_of hb) (by omega))
    have OE_3 := Lib.hid (OE_2.out.within (within_of hb) (by omega))
    clear hb HISG
    obtain ⟨bb, boff, rfl, _, hbB, hbc⟩ := HB_3.out.2 (by omega)
    have hx1 := (hbc j0 hj0).1
    have hx2 := (hbc j0 hj0).2
    rw [HXD.out] at hx1 hx2
    clear hbc
    obtain ⟨g1_0, g1_1, g1_2⟩ := BX_3.out
    go_wp2_with fail
    clear g1_0 g1_1 g1_2 hx1 hx2
    have HG0 := Lib.hid (show GrowP (w.heap.size + 1) (w.heap.size + 1 + 1) w3 w3 (cobK (P : Int) l ((a : Int), (b : Int)) 0) (some ⟨w.heap.size + 1, 0, none⟩) 0 (w.heap.size + 1) (w.heap.size + 1 + 1) from ⟨OE_3.out, .inl ⟨rfl, rfl⟩, (by have := Z1.out; have := Z2.out; have := Z3.out; have := Y1.out; have := Y2.out; omega), Within.refl _ _ _⟩)
    go_loopw [5, 8] (fun u i wr => ∃ j : Nat, j ≤ P ∧ i = .int .i64 j ∧ ∃ Ao co lo2 hi2, u = .slice Ao (cobK (P : Int) l ((a : Int), (b : Int)) j).length co ∧ GrowP (w.heap.size + 1) (w.heap.size + 1 + 1) w3 wr (cobK (P : Int) l ((a : Int), (b : Int)) j) Ao co lo2 hi2) (fun _ i _ => P - (intOf i).toNat)
    case atStart => exact ⟨0, Nat.zero_le _, rfl, _, 0, _, _, rfl, HG0.out⟩
    case round =>
      obtain ⟨j, hj, rfl, Ao, co, lo2, hi2, rfl, hg⟩ := hrel
      have HG1 := Lib.hid hg
      have HBX2 := Lib.hid (BX_3.out.within hg.wi (.inl (Nat.lt_succ_self _)))
      obtain ⟨_, g1, g2⟩ := HBX2.out
      have HB8 := Lib.hid (HB_3.out.within hg.wi (.inl (Nat.le_succ _)))
      have hcl := cobK_len (P : Int) l ((a : Int), (b : Int)) j
      have HCL := Lib.hid hcl
      clear hg hcl
      by_cases hlt : j < P
      · have hji : (j : Int) < (P : Int) := by omega
        cases h1 : impB (P : Int) (a : Int) (j : Int) l with
        | false =>
          have H1 := Lib.hid h1
          have HN := Lib.hid (cobK_out (p := (P : Int)) (l := l) (x := ((a : Int), (b : Int))) (n := j) (by unfold heldB; rw [h1]; rfl))
          clear h1
          go_wp2_with (go_at_call 152; refine (specImp (P : Int) (a : Int) (j : Int) l (some ⟨bb, boff, none⟩) cap _ HB8.out.at hn).mono ?_; rintro e w5 ⟨rfl, hb⟩; rw [H1.out]; have HG5 := Lib.hid (HG1.out.blw hb); have HBX5 := Lib.hid (HBX2.out.within (within_of hb) (by omega)); have HB5 := Lib.hid (HB8.out.within (within_of hb) (.inr (Nat.zero_le _))); obtain ⟨_, q1, q2⟩ := HBX5.out; clear hb)
          go_roundw
          case rel => exact ⟨j + 1, by omega, by go_num, Ao, co, lo2, hi2, by rw [HN.out], by rw [HN.out]; exact HG5.out⟩
          case measure => simp [intOf]; omega
        | true =>
          have H1 := Lib.hid h1
          cases h2 : impB (P : Int) (b : Int) (j : Int) l with
          | false =>
            have H2 := Lib.hid h2
            have HN := Lib.hid (cobK_out (p := (P : Int)) (l := l) (x := ((a : Int), (b : Int))) (n := j) (by unfold heldB; rw [h1, h2]; rfl))
            clear h1 h2
            go_wp2_with (first
              | (go_at_call 152; refine (specImp (P : Int) (b : Int) (j : Int) l (some ⟨bb, boff, none⟩) cap _ HB5.out.at hn).mono ?_; rintro e w6 ⟨rfl, hb⟩; rw [H2.out]; have HG6 := Lib.hid (HG5.out.blw hb); clear hb)
              | (go_at_call 152; refine (specImp (P : Int) (a : Int) (j : Int) l (some ⟨bb, boff, none⟩) cap _ HB8.out.at hn).mono ?_; rintro e w5 ⟨rfl, hb⟩; rw [H1.out]; have HG5 := Lib.hid (HG1.out.blw hb); have HBX5 := Lib.hid (HBX2.out.within (within_of hb) (by omega)); have HB5 := Lib.hid (HB8.out.within (within_of hb) (.inr (Nat.zero_le _))); obtain ⟨_, q1, q2⟩ := HBX5.out; clear hb))
            go_roundw
            case rel => exact ⟨j + 1, by omega, by go_num, Ao, co, lo2, hi2, by rw [HN.out], by rw [HN.out]; exact HG6.out⟩
            case measure => simp [intOf]; omega
          | true =>
            have H2 := Lib.hid h2
            have HN := Lib.hid (cobK_in (p := (P : Int)) (l := l) (x := ((a : Int), (b : Int))) (n := j) (by unfold heldB; rw [h1, h2]; rfl))
            clear h1 h2
            go_wp2_with (first
              | (at_builtin; refine wpList_pushR _ rfl _ _ rfl lo2 hi2 Ao co (cobK (P : Int) l ((a : Int), (b : Int)) j) (j : Int) rfl HG6.out.row _ (by first | rfl | (simp only [World.size_setCell]; rfl)) (by have := HCL.out; omega) HG6.out.le ?_; intro A7 c7 w17 lo7 hi7 hr7 hor7 hw7; have HG7 := Lib.hid (HG6.out.push hr7 hor7 hw7); clear hr7 hor7 hw7)
              | (go_at_call 152; refine (specImp (P : Int) (b : Int) (j : Int) l (some ⟨bb, boff, none⟩) cap _ HB5.out.at hn).mono ?_; rintro e w6 ⟨rfl, hb⟩; rw [H2.out]; have HG6 := Lib.hid (HG5.out.blw hb); clear hb)
              | (go_at_call 152; refine (specImp (P : Int) (a : Int) (j : Int) l (some ⟨bb, boff, none⟩) cap _ HB8.out.at hn).mono ?_; rintro e w5 ⟨rfl, hb⟩; rw [H1.out]; have HG5 := Lib.hid (HG1.out.blw hb); have HBX5 := Lib.hid (HBX2.out.within (within_of hb) (by omega)); have HB5 := Lib.hid (HB8.out.within (within_of hb) (.inr (Nat.zero_le _))); obtain ⟨_, q1, q2⟩ := HBX5.out; clear hb))
            go_roundw
            case rel => exact ⟨j + 1, by omega, by go_num, A7, c7, lo7, hi7, by rw [HN.out]; simp, by rw [HN.out]; exact HG7.out⟩
            case measure => simp [intOf]; omega
      · obtain rfl : j = P := by omega
        go_wp2_with fail
        go_ret
        rw [HR.out]
        have hbs := W3.out.size
        exact ⟨Ao, co, rfl, HG1.out.out (Nat.le_succ _) hbs, within_on W3.out HG1.out.wi hbs (.inl (Nat.le_succ _))⟩
end Go.Proofs.Ytggibhhdnlifcaa
/- spec.l6Same: whether two rows of ints are equal. No condition. -/
namespace Go.Proofs.Ytggibhhdnlifcaa
open Go.RowKit

theorem take_step {zs ys : List Int} {k : Nat} (h : zs.take k = ys.take k) (hz : k < zs.length) (hy : k < ys.length) (e : zs.getD k 0 = ys.getD k 0) : zs.take (k + 1) = ys.take (k + 1) := by
  rw [List.take_add_one, List.take_add_one, h]
  simp only [List.getD, List.getElem?_eq_getElem hz, List.getElem?_eq_getElem hy, Option.getD_some] at e
  rw [List.getElem?_eq_getElem hz, List.getElem?_eq_getElem hy, e]

set_option maxHeartbeats 2000000 in
set_option maxRecDepth 100000 in
theorem same6_c (zs ys : List Int) (A A' : Option Addr) (cap cap' : Nat) (lo hi lo' hi' : Nat) (w : World) (hl : IntsIn w lo hi A zs) (hl' : IntsIn w lo' hi' A' ys) (hn : zs.length ≤ 1048576) :
    Calls Try.prog 84 #[.slice A zs.length cap, .slice A' ys.length cap'] w fun e w' => e = .returned (.bool (decide (zs = ys))) ∧ Below w.heap.size w w' := by
  have HL := Lib.hid hl
  have HL' := Lib.hid hl'
  clear hl hl'
  by_cases hq : (zs.length : Int) = (ys.length : Int)
  · have dq : ((zs.length : Int) == (ys.length : Int)) = true := by simpa using hq
    go_enter Try.func84, Try.ntmps84
    go_wp2_with fail
    go_loopw [5] (fun i wr => ∃ k : Nat, k ≤ zs.length ∧ i = .int .i64 k ∧ zs.take k = ys.take k ∧ ∃ m, wr = w.drewN m) (fun i _ => zs.length - (intOf i).toNat)
    case atStart => exact ⟨0, by omega, rfl, by simp, 0, rfl⟩
    case round =>
      obtain ⟨k, hk, rfl, htk, m, rfl⟩ := hrel
      have HT := Lib.hid htk
      clear htk
      by_cases hlt : k < zs.length
      · have hi : (k : Int) < (zs.length : Int) := by omega
        obtain ⟨b, off, rfl, _, _, hcell⟩ := HL.out.2 (by omega)
        obtain ⟨b', off', rfl, _, _, hcell'⟩ := HL'.out.2 (by omega)
        have hc1 := hcell k hlt
        have hc2 := hcell' k (by omega)
        clear hcell hcell'
        have HZ := Lib.hid (fun (e : zs.getD k 0 = ys.getD k 0) => take_step HT.out hlt (by omega) e)
        have HN := Lib.hid (fun (e : zs = ys) => show zs.getD k 0 = ys.getD k 0 by rw [e])
        obtain ⟨x, hx⟩ : ∃ x, zs.getD k 0 = x := ⟨_, rfl⟩
        obtain ⟨y, hy⟩ : ∃ y, ys.getD k 0 = y := ⟨_, rfl⟩
        rw [hx] at hc1 HZ HN
        rw [hy] at hc2 HZ HN
        clear hx hy
        by_cases c : x = y
        · have d : (x == y) = true := by simpa using c
          go_wp2_with fail
          go_quiet (fail)
          go_wp2_with fail
          go_roundw
          case rel => exact ⟨k + 1, by omega, by go_num, HZ.out c, m + nq, rfl⟩
          case measure => simp [intOf]; omega
        · have d : (x == y) = false := by simpa using c
          go_wp2_with fail
          go_quiet (fail)
          go_wp2_with fail
          go_ret
          exact ⟨by rw [decide_eq_false (fun e => c (HN.out e))]; rfl, ⟨rfl, rfl, rfl, Nat.le_refl _, fun _ _ => rfl⟩⟩
      · go_wp2_with fail
        go_ret
        have e : zs = ys := by
          have h := HT.out
          rw [List.take_of_length_le (by omega), List.take_of_length_le (by omega)] at h
          exact h
        exact ⟨by rw [decide_eq_true e]; rfl, below_drewN _ _ _⟩
  · have dq : ((zs.length : Int) == (ys.length : Int)) = false := by simpa using hq
    go_enter Try.func84, Try.ntmps84
    go_wp2_with fail
    go_ret
    exact ⟨by rw [decide_eq_false (fun e => hq (by rw [e]))]; rfl, Below.refl _ _⟩
end Go.Proofs.Ytggibhhdnlifcaa
/- Rows of rows of ints: how they are read and compared. No condition. -/
namespace Go.Proofs.Ytggibhhdnlifcaa
open Go.RowKit

/-- The slice at A reads as the rows rs; it and its rows lie in blocks from lo to hi. -/
def RowsIn (W : World) (lo hi : Nat) (A : Option Addr) (rs : List (List Int)) : Prop :=
  hi ≤ W.heap.size ∧ (0 < rs.length → ∃ b off, A = some ⟨b, off, none⟩ ∧ lo ≤ b ∧ b < hi ∧ ∀ k, k < rs.length → ∃ A' c', W.cell? ⟨b, off + k, none⟩ = some (.slice A' (rs.getD k []).length c') ∧ IntsIn W lo hi A' (rs.getD k []))
theorem RowsIn.within {W W' : World} {lo hi lo' hi' : Nat} {A : Option Addr} {rs : List (List Int)} (h : RowsIn W lo hi A rs) (hw : Within lo' hi' W W') (hd : hi ≤ lo' ∨ hi' ≤ lo) : RowsIn W' lo hi A rs :=
  ⟨Nat.le_trans h.1 hw.size, fun hl => by
    obtain ⟨b, off, e, h1, h2, hc⟩ := h.2 hl
    have hk := hw.block b (Nat.lt_of_lt_of_le h2 h.1) (by omega)
    refine ⟨b, off, e, h1, h2, fun k hk' => ?_⟩
    obtain ⟨A', c', h3, h4⟩ := hc k hk'
    exact ⟨A', c', (World.cell?_of_block (a := ⟨b, off + k, none⟩) hk).trans h3, h4.within hw hd⟩⟩

set_option maxHeartbeats 2000000 in
set_option maxRecDepth 100000 in
theorem eqRows_c (rs : List (List Int)) (A A' : Option Addr) (cap cap' lo hi lo' hi' : Nat) (w : World) (hl : RowsIn w lo hi A rs) (hl' : RowsIn w lo' hi' A' rs) (hn : rs.length ≤ 1048576) (hr : ∀ k, k < rs.length → (rs.getD k []).length ≤ 1048576) :
    Calls Try.prog 15 #[.slice A rs.length cap, .slice A' rs.length cap'] w fun e w' => e = .returned (.bool true) ∧ Below w.heap.size w w' := by
  have HL := Lib.hid hl
  have HL' := Lib.hid hl'
  have HR := Lib.hid hr
  clear hl hl' hr
  go_enter Try.func15, Try.ntmps15
  go_wp2_with fail
  go_loopw [5] (fun i wr => ∃ k : Nat, k ≤ rs.length ∧ i = .int .i64 k ∧ Below w.heap.size w wr) (fun i _ => rs.length - (intOf i).toNat)
  case atStart => exact ⟨0, by omega, rfl, Below.refl _ _⟩
  case round =>
    obtain ⟨k, hk, rfl, hb⟩ := hrel
    have HB := Lib.hid hb
    have HQ := Lib.hid (HL.out.within (within_low hb) (.inl HL.out.1))
    have HQ' := Lib.hid (HL'.out.within (within_low hb) (.inl HL'.out.1))
    have HWS := Lib.hid hb.size
    clear hb
    by_cases hlt : k < rs.length
    · have hi : (k : Int) < (rs.length : Int) := by omega
      obtain ⟨b, off, rfl, _, _, hcell⟩ := HQ.out.2 (by omega)
      obtain ⟨b', off', rfl, _, _, hcell'⟩ := HQ'.out.2 (by omega)
      obtain ⟨A1, c1, hc1, hi1⟩ := hcell k hlt
      obtain ⟨A2, c2, hc2, hi2⟩ := hcell' k hlt
      have hz := HR.out k hlt
      clear hcell hcell'
      obtain ⟨zs, hzs⟩ : ∃ zs, rs.getD k [] = zs := ⟨_, rfl⟩
      rw [hzs] at hc1 hc2 hi1 hi2 hz
      clear hzs
      have HI1 := Lib.hid hi1
      have HI2 := Lib.hid hi2
      clear hi1 hi2
      go_wp2_with fail
      refine wp_region_held_drew (S := (fun W' : World => W'.cell? ⟨b, off + k, none⟩ = some (.slice A1 zs.length c1) ∧ W'.cell? ⟨b', off' + k, none⟩ = some (.slice A2 zs.length c2))) (by kernel_rfl) ?_ (fun hHeld => ?_)
      · exact ⟨hc1, hc2⟩
      have HD := Lib.hid (show Below wr.heap.size wr wr.drew from (Below.refl _ _).drew)
      have HDS := Lib.hid HD.out.size
      generalize wr.drew = WD at *
      refine wpAnyH_take (i := 0) (v := .slice (some ⟨b, off, none⟩) rs.length cap) rfl (by kernel_rfl) (by kernel_rfl) (by kernel_rfl) (fun _ _ _ h => h) (Or.inl ⟨by kernel_rfl, fun w hSw => by (try dsimp only at hSw); go_simp; all_goals first | omega | exact IntWalk.i64_in _ (by omega)⟩) (by assumption) ?_
      refine wpAnyH_take (i := 1) (v := .int .i64 (k : Int)) rfl (by kernel_rfl) (by kernel_rfl) (by kernel_rfl) (fun _ _ _ h => h) (Or.inl ⟨by kernel_rfl, fun w hSw => by (try dsimp only at hSw); go_simp; all_goals first | omega | exact IntWalk.i64_in _ (by omega)⟩) (by assumption) ?_
      refine wpAnyH_take (i := 2) (v := .pointer (some ⟨b, off + k, none⟩)) rfl (by kernel_rfl) (by kernel_rfl) (by kernel_rfl) (fun _ _ _ h => h) (Or.inl ⟨by kernel_rfl, fun w hSw => by (try dsimp only at hSw); go_simp; all_goals first | omega | exact IntWalk.i64_in _ (by omega)⟩) (by assumption) ?_
      refine wpAnyH_take (i := 3) (v := .slice A1 zs.length c1) rfl (by kernel_rfl) (by kernel_rfl) (by kernel_rfl) (fun _ _ _ h => h) (Or.inl ⟨by kernel_rfl, fun w hSw => by (try dsimp only at hSw); go_simp; all_goals first | omega | exact IntWalk.i64_in _ (by omega)⟩) (by assumption) ?_
      refine wpAnyH_take (i := 4) (v := .slice (some ⟨b', off', none⟩) rs.length cap') rfl (by kernel_rfl) (by kernel_rfl) (by kernel_rfl) (fun _ _ _ h => h) (Or.inl ⟨by kernel_rfl, fun w hSw => by (try dsimp only at hSw); go_simp; all_goals first | omega | exact IntWalk.i64_in _ (by omega)⟩) (by assumption) ?_
      refine wpAnyH_take (i := 5) (v := .int .i64 (k : Int)) rfl (by kernel_rfl) (by kernel_rfl) (by kernel_rfl) (fun _ _ _ h => h) (Or.inl ⟨by kernel_rfl, fun w hSw => by (try dsimp only at hSw); go_simp; all_goals first | omega | exact IntWalk.i64_in _ (by omega)⟩) (by assumption) ?_
      refine wpAnyH_take (i := 6) (v := .pointer (some ⟨b', off' + k, none⟩)) rfl (by kernel_rfl) (by kernel_rfl) (by kernel_rfl) (fun _ _ _ h => h) (Or.inl ⟨by kernel_rfl, fun w hSw => by (try dsimp only at hSw); go_simp; all_goals first | omega | exact IntWalk.i64_in _ (by omega)⟩) (by assumption) ?_
      refine wpAnyH_take (i := 7) (v := .slice A2 zs.length c2) rfl (by kernel_rfl) (by kernel_rfl) (by kernel_rfl) (fun _ _ _ h => h) (Or.inl ⟨by kernel_rfl, fun w hSw => by (try dsimp only at hSw); go_simp; all_goals first | omega | exact IntWalk.i64_in _ (by omega)⟩) (by assumption) ?_
      refine wpAnyH_ready (rs := [8]) (by kernel_rfl) (by simp) (AllReadyH.cons rfl (fun K hK => ?_) AllReadyH.nil)
      go_simp
      go_at_call 90
      refine (eqInts_c zs A1 A2 c1 c2 _ _ _ _ _ (HI1.out.within (within_of HD.out) (.inr (Nat.zero_le _))) (HI2.out.within (within_of HD.out) (.inr (Nat.zero_le _))) hz).mono ?_
      rintro e w9 ⟨rfl, hb9⟩
      have HB9 := Lib.hid hb9
      refine hK.out _ _ ⟨(World.cell?_of_block (hb9.block b (by have := HQ.out.1; have := HDS.out; omega))).trans hHeld.1, (World.cell?_of_block (hb9.block b' (by have := HQ'.out.1; have := HDS.out; omega))).trans hHeld.2⟩ (fun hHeld => ?_)
      clear hK K hb9
      refine wpAnyH_take (i := 9) (v := .bool false) rfl (by kernel_rfl) (by kernel_rfl) (by kernel_rfl) (fun _ _ _ h => h) (Or.inl ⟨by kernel_rfl, fun w hSw => by (try dsimp only at hSw); go_simp; all_goals first | omega | exact IntWalk.i64_in _ (by omega)⟩) (by assumption) ?_
      refine wpAnyH_done (by kernel_rfl) ?_ _
      go_wp2_with fail
      go_roundw
      case rel => exact ⟨k + 1, by omega, by go_num, below_on HB.out (below_on HD.out HB9.out HDS.out) HWS.out⟩
      case measure => simp [intOf]; omega
    · go_wp2_with fail
      go_ret
      exact ⟨rfl, HB.out⟩
end Go.Proofs.Ytggibhhdnlifcaa
