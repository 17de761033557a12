/- Rows of steps: how they lie in memory, and the laws' copies, measures and comparisons of them (laws.toStep, toStepS, szStepS, eqStep, eqStepS). No condition. -/
import Derived.Test.YtggibhhdnlifcaaBar
import Derived.StillTailTactics
import Derived.ProofKit
import Derived.Lib.SmallJoins
import Derived.Deep.SlicePairs
namespace Go.Proofs.Ytggibhhdnlifcaa
open Go.RowKit Go.Joins Go.ChangeShapes Go.WideShapes Go.Deep

/-- A step: kind, point, and the points a, b, c. -/
abbrev Stp := Int × Int × Int × Int × Int
def zS : Stp := (0, 0, 0, 0, 0)
def stpVals (x : Stp) : List Value := [.int .i64 x.1, .int .i64 x.2.1, .int .i64 x.2.2.1, .int .i64 x.2.2.2.1, .int .i64 x.2.2.2.2]
/-- The slice at A reads as the steps l. -/
def StepsAt (w : World) (B : Nat) (A : Option Addr) (l : List Stp) : Prop :=
  0 < l.length → ∃ b off, A = some ⟨b, off, none⟩ ∧ b < B ∧ ∀ k, k < l.length → w.cell? ⟨b, off + k * 5, none⟩ = some (.int .i64 (l.getD k zS).1) ∧ w.cell? ⟨b, off + k * 5 + 1, none⟩ = some (.int .i64 (l.getD k zS).2.1) ∧ w.cell? ⟨b, off + k * 5 + 2, none⟩ = some (.int .i64 (l.getD k zS).2.2.1) ∧ w.cell? ⟨b, off + k * 5 + 3, none⟩ = some (.int .i64 (l.getD k zS).2.2.2.1) ∧ w.cell? ⟨b, off + k * 5 + 4, none⟩ = some (.int .i64 (l.getD k zS).2.2.2.2)
/-- The numbers of the steps are numbers of the machine. -/
def WfS (l : List Stp) : Prop := ∀ k, k < l.length → (Lit.int .i64 (l.getD k zS).1).wf = true ∧ (Lit.int .i64 (l.getD k zS).2.1).wf = true ∧ (Lit.int .i64 (l.getD k zS).2.2.1).wf = true ∧ (Lit.int .i64 (l.getD k zS).2.2.2.1).wf = true ∧ (Lit.int .i64 (l.getD k zS).2.2.2.2).wf = true
theorem StepsAt.kept {w w' : World} {B : Nat} {A : Option Addr} {l : List Stp} (h : StepsAt w B A l) (hb : Below B w w') : StepsAt w' B A l := fun hl => by
  obtain ⟨b, off, e, hlt, hc⟩ := h hl
  refine ⟨b, off, e, hlt, fun k hk => ?_⟩
  obtain ⟨c0, c1, c2, c3, c4⟩ := hc k hk
  exact ⟨(hb.cell (p := ⟨b, off + k * 5, none⟩) hlt).trans c0, (hb.cell (p := ⟨b, off + k * 5 + 1, none⟩) hlt).trans c1, (hb.cell (p := ⟨b, off + k * 5 + 2, none⟩) hlt).trans c2, (hb.cell (p := ⟨b, off + k * 5 + 3, none⟩) hlt).trans c3, (hb.cell (p := ⟨b, off + k * 5 + 4, none⟩) hlt).trans c4⟩
theorem StepsAt.more {w : World} {B B' : Nat} {A : Option Addr} {l : List Stp} (h : StepsAt w B A l) (hb : B ≤ B') : StepsAt w B' A l := fun hl => by
  obtain ⟨b, off, e, hlt, hc⟩ := h hl
  exact ⟨b, off, e, by omega, hc⟩
theorem StepsAt.on {w w' : World} {A : Option Addr} {l : List Stp} (h : StepsAt w w.heap.size A l) (hb : Below w.heap.size w w') : StepsAt w' w'.heap.size A l := (h.kept hb).more hb.size
theorem StepsAt.nil (w : World) (B : Nat) (A : Option Addr) : StepsAt w B A [] := fun h => absurd h (by simp)

theorem stpVals_len (x : Stp) : (stpVals x).length = 5 := rfl
/-- The cells of a row of steps. -/
def stepCells (l : List Stp) : List Value := l.flatMap stpVals
theorem stepCells_len (l : List Stp) : (stepCells l).length = l.length * 5 := by
  induction l with
  | nil => rfl
  | cons x l ih =>
    rw [stepCells, List.flatMap_cons, List.length_append, ← stepCells, ih, stpVals_len, List.length_cons]
    omega
theorem stepCells_append (a b : List Stp) : stepCells (a ++ b) = stepCells a ++ stepCells b := by simp [stepCells]
theorem stepCells_get : ∀ (l : List Stp) (k : Nat), k < l.length → (stepCells l)[k * 5]? = some (.int .i64 (l.getD k zS).1) ∧ (stepCells l)[k * 5 + 1]? = some (.int .i64 (l.getD k zS).2.1) ∧ (stepCells l)[k * 5 + 2]? = some (.int .i64 (l.getD k zS).2.2.1) ∧ (stepCells l)[k * 5 + 3]? = some (.int .i64 (l.getD k zS).2.2.2.1) ∧ (stepCells l)[k * 5 + 4]? = some (.int .i64 (l.getD k zS).2.2.2.2) := by
  intro l
  induction l with
  | nil => intro k h; simp at h
  | cons x l ih =>
    intro k h
    rw [stepCells, List.flatMap_cons]
    rcases k with _ | k
    · exact ⟨rfl, rfl, rfl, rfl, rfl⟩
    · have := ih k (by simpa using h)
      rw [show (k + 1) * 5 = k * 5 + 5 by omega, show k * 5 + 5 + 1 = k * 5 + 1 + 5 by omega, show k * 5 + 5 + 2 = k * 5 + 2 + 5 by omega, show k * 5 + 5 + 3 = k * 5 + 3 + 5 by omega, show k * 5 + 5 + 4 = k * 5 + 4 + 5 by omega]
      exact this
theorem stepCells_set : ∀ (l : List Stp) (k : Nat) (x : Stp), (((((stepCells l).set (k * 5) (.int .i64 x.1)).set (k * 5 + 1) (.int .i64 x.2.1)).set (k * 5 + 2) (.int .i64 x.2.2.1)).set (k * 5 + 3) (.int .i64 x.2.2.2.1)).set (k * 5 + 4) (.int .i64 x.2.2.2.2) = stepCells (l.set k x) := by
  intro l
  induction l with
  | nil => intro k x; simp [stepCells]
  | cons y l ih =>
    intro k x
    rcases k with _ | k
    · rfl
    · have := ih k x
      rw [show (k + 1) * 5 = k * 5 + 5 by omega, show k * 5 + 5 + 1 = k * 5 + 1 + 5 by omega, show k * 5 + 5 + 2 = k * 5 + 2 + 5 by omega, show k * 5 + 5 + 3 = k * 5 + 3 + 5 by omega, show k * 5 + 5 + 4 = k * 5 + 4 + 5 by omega]
      simp only [stepCells, stpVals, List.flatMap_cons, List.set_cons_succ, List.cons_append, List.nil_append] at this ⊢
      rw [this]
theorem made_steps (n : Nat) : (madeCells #[.int .i64 0, .int .i64 0, .int .i64 0, .int .i64 0, .int .i64 0] (n * 5)).toList = stepCells (List.replicate n zS) := by
  apply List.ext_getElem?
  intro i
  have hs : (madeCells #[Value.int .i64 0, .int .i64 0, .int .i64 0, .int .i64 0, .int .i64 0] (n * 5)).toList.length = n * 5 := by simp [size_madeCells]
  by_cases hi : i < n * 5
  · have h1 : (madeCells #[Value.int .i64 0, .int .i64 0, .int .i64 0, .int .i64 0, .int .i64 0] (n * 5)).toList[i]? = some (.int .i64 0) := by
      have : i % 5 = 0 ∨ i % 5 = 1 ∨ i % 5 = 2 ∨ i % 5 = 3 ∨ i % 5 = 4 := by omega
      simp [madeCells, hi]
      rcases this with h | h | h | h | h <;> simp [h]
    have h2 := stepCells_get (List.replicate n zS) (i / 5) (by simp; omega)
    have h3 : (List.replicate n zS).getD (i / 5) zS = zS := by
      rw [List.getD_eq_getElem?_getD, List.getElem?_replicate]
      split <;> rfl
    rw [h3] at h2
    rw [h1]
    have : i % 5 = 0 ∨ i % 5 = 1 ∨ i % 5 = 2 ∨ i % 5 = 3 ∨ i % 5 = 4 := by omega
    rcases this with h | h | h | h | h
    · rw [show i = i / 5 * 5 by omega, h2.1]; rfl
    · rw [show i = i / 5 * 5 + 1 by omega, h2.2.1]; rfl
    · rw [show i = i / 5 * 5 + 2 by omega, h2.2.2.1]; rfl
    · rw [show i = i / 5 * 5 + 3 by omega, h2.2.2.2.1]; rfl
    · rw [show i = i / 5 * 5 + 4 by omega, h2.2.2.2.2]; rfl
  · rw [List.getElem?_eq_none (by omega), List.getElem?_eq_none (by rw [stepCells_len]; simp; omega)]
theorem infoStep : (Try.prog.info? 41).map (fun i => (i.zero, i.size, i.bytes)) = some (some (.agg #[.int .i64 0, .int .i64 0, .int .i64 0, .int .i64 0, .int .i64 0]), 5, 40) := by kernel_rfl
/-- A row of the call's own reads as its steps. -/
theorem own_steps {w : World} {base : Nat} {e : TypeId} {g cap : Nat} {l : List Stp} (h : w.ownsRow base e 5 (.slice (some ⟨g, 0, none⟩) l.length cap) l.length (stepCells l)) : StepsAt w w.heap.size (some ⟨g, 0, none⟩) l := fun _ => by
  refine ⟨g, 0, rfl, (h.lt g rfl).2, fun k hk => ?_⟩
  obtain ⟨g0, g1, g2, g3, g4⟩ := stepCells_get l k hk
  rw [Nat.zero_add]
  exact ⟨(h.cellAt (k * 5) (by omega)).trans g0, (h.cellAt (k * 5 + 1) (by omega)).trans g1, (h.cellAt (k * 5 + 2) (by omega)).trans g2, (h.cellAt (k * 5 + 3) (by omega)).trans g3, (h.cellAt (k * 5 + 4) (by omega)).trans g4⟩

section
variable {H : Type} {enc : TypeId × Value → H} {w : World} {base : Nat}
set_option maxRecDepth 100000 in
set_option maxHeartbeats 1000000 in
/-- A slice of the law's steps, opened. -/
theorem open_steps {n : Nat} {v : Value} {y : DataW H × List MemPlace} (h : DataW.trod enc Try.prog w 0 (fun _ => true) true n 44 [v] = some y) :
    ∃ (A : Option Addr) (cap : Nat) (l : List Stp), v = .slice A l.length cap ∧ l.length ≤ maxLen ∧ StepsAt w w.heap.size A l ∧ WfS l := by
  rcases open_slice Try.underlying44 h with ⟨hv, _⟩ | ⟨a, len, cap, m, n, D, Pl, hv, _, hlc, hcm, hm, _, hi⟩
  · refine ⟨none, 0, [], ?_, by simp, fun h => absurd h (by simp), fun k hk => absurd hk (by simp)⟩
    simpa using hv
  · have hm' : m = cap := by simpa using hm
    have ce : Try.prog.cellsOf 38 = 5 := by kernel_rfl
    have each : ∀ i, i < m → ∃ q : Stp, (w.cell? (a.add (i * 5)) = some (.int .i64 q.1) ∧ w.cell? (a.add (i * 5 + 1)) = some (.int .i64 q.2.1) ∧ w.cell? (a.add (i * 5 + 2)) = some (.int .i64 q.2.2.1) ∧ w.cell? (a.add (i * 5 + 3)) = some (.int .i64 q.2.2.2.1) ∧ w.cell? (a.add (i * 5 + 4)) = some (.int .i64 q.2.2.2.2)) ∧ (Lit.int .i64 q.1).wf = true ∧ (Lit.int .i64 q.2.1).wf = true ∧ (Lit.int .i64 q.2.2.1).wf = true ∧ (Lit.int .i64 q.2.2.2.1).wf = true ∧ (Lit.int .i64 q.2.2.2.2).wf = true := by
      intro i hi0
      obtain ⟨cs', h1, h2⟩ := hi i hi0
      rw [ce] at h1
      obtain ⟨_, hlen, hcell⟩ := World.cells?_some h1
      obtain ⟨xs, k, hk, hxy, _, hxl, hf⟩ := DataW.trod_struct Try.underlying38 h2
      match xs, hxl, cs', hlen with
      | [y0, y1, y2, y3, y4], _, [v0, v1, v2, v3, v4], _ =>
        have g0 := hf 0 _ rfl
        have g1 := hf 1 _ rfl
        have g2 := hf 2 _ rfl
        have g3 := hf 3 _ rfl
        have g4 := hf 4 _ rfl
        have ci : Try.prog.cellsOf 3 = 1 := by kernel_rfl
        simp [ci] at g0 g1 g2 g3 g4
        obtain ⟨x0, e0, _, w0⟩ := DataW.trod_int Try.underlying3 g0
        obtain ⟨x1, e1, _, w1⟩ := DataW.trod_int Try.underlying3 g1
        obtain ⟨x2, e2, _, w2⟩ := DataW.trod_int Try.underlying3 g2
        obtain ⟨x3, e3, _, w3⟩ := DataW.trod_int Try.underlying3 g3
        obtain ⟨x4, e4, _, w4⟩ := DataW.trod_int Try.underlying3 g4
        have k0 := hcell 0 (by omega)
        have k1 := hcell 1 (by omega)
        have k2 := hcell 2 (by omega)
        have k3 := hcell 3 (by omega)
        have k4 := hcell 4 (by omega)
        rw [add_add] at k0 k1 k2 k3 k4
        simp only [List.cons.injEq, and_true] at e0 e1 e2 e3 e4
        subst e0 e1 e2 e3 e4
        exact ⟨(x0, x1, x2, x3, x4), ⟨by simpa using k0, by simpa using k1, by simpa using k2, by simpa using k3, by simpa using k4⟩, w0, w1, w2, w3, w4⟩
    obtain ⟨q, hq⟩ := choose_lt each
    refine ⟨some a, cap, (List.range len).map q, by simpa using hv, by simp; omega, fun hl => ?_, fun k hk => ?_⟩
    · have hl' : 0 < len := by simpa using hl
      obtain ⟨b, off, spot⟩ := a
      have hs : spot = none := by simpa [Addr.add] using World.cell?_spot (hq 0 (by omega)).1.1
      subst hs
      have hadd : ∀ k, (⟨b, off, none⟩ : Addr).add k = ⟨b, off + k, none⟩ := fun k => by unfold Addr.add; split <;> simp_all
      have h0 := (hq 0 (by omega)).1.1
      rw [hadd] at h0
      refine ⟨b, off, rfl, World.block_lt_of_cell? w _ h0, fun k hk => ?_⟩
      have hk' : k < len := by simpa using hk
      have hg : ((List.range len).map q).getD k zS = q k := by simp [List.getD, hk']
      have hc := (hq k (by omega)).1
      simp only [hadd] at hc
      rw [hg]
      simpa [Nat.add_assoc] using hc
    · have hk' : k < len := by simpa using hk
      have hg : ((List.range len).map q).getD k zS = q k := by simp [List.getD, hk']
      rw [hg]
      exact (hq k (by omega)).2
end

theorem szSteps_c (A : Option Addr) (n cap : Nat) (left : Int) (w : World) (h0 : (n : Int) ≤ left) (h1 : left ≤ 1048576) :
    Calls Try.prog 24 #[.slice A n cap, .int .i64 left] w fun e w' => e = .returned (.int .i64 (left - n)) ∧ w = w' := by
  go_enter Try.func24, Try.ntmps24
  go_wp2
  go_ret
  exact ⟨rfl, rfl⟩
theorem szSteps_no (A : Option Addr) (n cap : Nat) (left : Int) (w : World) (hn : n ≤ 9223372036854775807) (h0 : left < (n : Int)) (h1 : 0 ≤ left) :
    Calls Try.prog 24 #[.slice A n cap, .int .i64 left] w fun e w' => e = .returned (.int .i64 (-1)) ∧ w = w' := by
  go_enter Try.func24, Try.ntmps24
  go_wp2
  go_ret
  exact ⟨rfl, rfl⟩

theorem eqStep_c (k p a b c : Int) (w : World) :
    Calls Try.prog 106 #[.agg #[.int .i64 k, .int .i64 p, .int .i64 a, .int .i64 b, .int .i64 c], .agg #[.int .i64 k, .int .i64 p, .int .i64 a, .int .i64 b, .int .i64 c]] w fun e w' => e = .returned (.bool true) ∧ Below w.heap.size w w' := by
  go_enter Try.func106, Try.ntmps106
  go_wp2
  go_ret
  exact ⟨rfl, ((Below.refl _ _).alloc (Nat.le_refl _) _).alloc (by simp) _⟩

set_option maxHeartbeats 1000000 in
set_option maxRecDepth 100000 in
theorem eqSteps_c (l : List Stp) (A A' : Option Addr) (cap cap' : Nat) (w : World) (hl : StepsAt w w.heap.size A l) (hl' : StepsAt w w.heap.size A' l) (hn : l.length ≤ 1048576) :
    Calls Try.prog 28 #[.slice A l.length cap, .slice A' l.length cap'] w fun e w' => e = .returned (.bool true) ∧ Below w.heap.size w w' := by
  have HL := Lib.hid hl
  have HL' := Lib.hid hl'
  clear hl hl'
  go_enter Try.func28, Try.ntmps28
  go_wp2_with fail
  go_loopw [5] (fun i wr => ∃ k : Nat, k ≤ l.length ∧ i = .int .i64 k ∧ Below w.heap.size w wr) (fun i _ => l.length - (intOf i).toNat)
  case atStart => exact ⟨0, by omega, rfl, Below.refl _ _⟩
  case round =>
    obtain ⟨k, hk, rfl, hb⟩ := hrel
    have HB := Lib.hid hb
    have hbs := hb.size
    clear hb
    by_cases hlt : k < l.length
    · have hi : (k : Int) < (l.length : Int) := by omega
      obtain ⟨b, off, rfl, hbB, hcell⟩ := HL.out (by omega)
      obtain ⟨b', off', rfl, hbB', hcell'⟩ := HL'.out (by omega)
      obtain ⟨d0, d1, d2, d3, d4⟩ := hcell k hlt
      obtain ⟨e0, e1, e2, e3, e4⟩ := hcell' k hlt
      have hc0 := (HB.out.cell (p := ⟨b, off + k * 5, none⟩) hbB).trans d0
      have he0 := (HB.out.cell (p := ⟨b', off' + k * 5, none⟩) hbB').trans e0
      have hc1 := (HB.out.cell (p := ⟨b, off + k * 5 + 1, none⟩) hbB).trans d1
      have he1 := (HB.out.cell (p := ⟨b', off' + k * 5 + 1, none⟩) hbB').trans e1
      have hc2 := (HB.out.cell (p := ⟨b, off + k * 5 + 2, none⟩) hbB).trans d2
      have he2 := (HB.out.cell (p := ⟨b', off' + k * 5 + 2, none⟩) hbB').trans e2
      have hc3 := (HB.out.cell (p := ⟨b, off + k * 5 + 3, none⟩) hbB).trans d3
      have he3 := (HB.out.cell (p := ⟨b', off' + k * 5 + 3, none⟩) hbB').trans e3
      have hc4 := (HB.out.cell (p := ⟨b, off + k * 5 + 4, none⟩) hbB).trans d4
      have he4 := (HB.out.cell (p := ⟨b', off' + k * 5 + 4, none⟩) hbB').trans e4
      clear hcell hcell' d0 d1 d2 d3 d4 e0 e1 e2 e3 e4
      obtain ⟨x, hx⟩ : ∃ x, l.getD k zS = x := ⟨_, rfl⟩
      rw [hx] at hc0 hc1 hc2 hc3 hc4 he0 he1 he2 he3 he4
      clear hx
      obtain ⟨x0, x1, x2, x3, x4⟩ := x
      go_wp2_with fail
      go_still_tail 8, (by kernel_rfl)
      change wpList _ _ _ _ _ wr.drew
      have hbd : Below w.heap.size w wr.drew := HB.out.drew
      have hbs2 : w.heap.size ≤ wr.drew.heap.size := hbs
      have HBD := Lib.hid hbd
      clear hbd hc0 hc1 hc2 hc3 hc4 he0 he1 he2 he3 he4
      generalize wr.drew = w2 at *
      go_wp2_with fail
      refine (eqStep_c x0 x1 x2 x3 x4 w2).mono ?_
      rintro e w3 ⟨rfl, hb3⟩
      have HB3 := Lib.hid (HBD.out.trans (hb3.mono hbs2))
      clear hb3
      go_wp2_with fail
      go_roundw
      case rel => exact ⟨k + 1, by omega, by go_num, HB3.out⟩
      case measure => simp [intOf]; omega
    · go_wp2_with fail
      go_ret
      exact ⟨rfl, HB.out⟩
end Go.Proofs.Ytggibhhdnlifcaa
