/- The laws' copies of a bar and of a graph into the program's types (laws.toBar, toBarS, toGraph). No condition. -/
import Derived.Test.YtbmfdkaggbfmmaaDoorWords
import Derived.Deep.QuietTactic
import Derived.BigQuiet
namespace Go.Proofs.YtbmfdkaggbfmmaaDoor
open Go.RowKit

/-- The slice at A reads as the bars l. -/
def BarsAt (w : World) (B : Nat) (A : Option Addr) (l : List (Int × Int)) : Prop :=
  0 < l.length → ∃ b off, A = some ⟨b, off, none⟩ ∧ b < B ∧ ∀ k, k < l.length → w.cell? ⟨b, off + k * 2, none⟩ = some (.int .i64 (l.getD k (0, 0)).1) ∧ w.cell? ⟨b, off + k * 2 + 1, none⟩ = some (.int .i64 (l.getD k (0, 0)).2)

/-- The cells of a row of bars. -/
def barCells (l : List (Int × Int)) : List Value := l.flatMap fun x => [.int .i64 x.1, .int .i64 x.2]

theorem barCells_len (l : List (Int × Int)) : (barCells l).length = l.length * 2 := by
  induction l with
  | nil => rfl
  | cons x l ih =>
    rw [barCells, List.flatMap_cons, List.length_append]
    rw [barCells] at ih
    simp only [List.length_cons, List.length_nil, ih]
    omega
theorem barCells_append (a b : List (Int × Int)) : barCells (a ++ b) = barCells a ++ barCells b := by simp [barCells]
theorem barCells_get : ∀ (l : List (Int × Int)) (k : Nat), k < l.length → (barCells l)[k * 2]? = some (.int .i64 (l.getD k (0, 0)).1) ∧ (barCells l)[k * 2 + 1]? = some (.int .i64 (l.getD k (0, 0)).2) := by
  intro l
  induction l with
  | nil => intro k h; simp at h
  | cons x l ih =>
    intro k h
    rw [barCells, List.flatMap_cons]
    rcases k with _ | k
    · exact ⟨rfl, rfl⟩
    · have := ih k (by simpa using h)
      rw [show (k + 1) * 2 = k * 2 + 2 by omega, show k * 2 + 2 + 1 = k * 2 + 1 + 2 by omega]
      exact this
theorem barCells_set : ∀ (l : List (Int × Int)) (k : Nat) (x : Int × Int), ((barCells l).set (k * 2) (.int .i64 x.1)).set (k * 2 + 1) (.int .i64 x.2) = barCells (l.set k x) := by
  intro l
  induction l with
  | nil => intro k x; simp [barCells]
  | cons y l ih =>
    intro k x
    rcases k with _ | k
    · rfl
    · have := ih k x
      rw [show (k + 1) * 2 = k * 2 + 2 by omega, show k * 2 + 2 + 1 = k * 2 + 1 + 2 by omega]
      simp only [barCells, List.flatMap_cons, List.set_cons_succ, List.cons_append, List.nil_append] at this ⊢
      rw [this]
theorem made_bars (n : Nat) : (madeCells #[.int .i64 0, .int .i64 0] (n * 2)).toList = barCells (List.replicate n (0, 0)) := by
  apply List.ext_getElem?
  intro i
  have hs : (madeCells #[Value.int .i64 0, .int .i64 0] (n * 2)).toList.length = n * 2 := by simp [size_madeCells]
  by_cases hi : i < n * 2
  · have h1 : (madeCells #[Value.int .i64 0, .int .i64 0] (n * 2)).toList[i]? = some (.int .i64 0) := by
      have : i % 2 = 0 ∨ i % 2 = 1 := by omega
      simp [madeCells, hi]
      rcases this with h | h <;> simp [h]
    have h2 := barCells_get (List.replicate n ((0 : Int), (0 : Int))) (i / 2) (by simp; omega)
    have h3 : (List.replicate n ((0 : Int), (0 : Int))).getD (i / 2) (0, 0) = (0, 0) := by
      rw [List.getD_eq_getElem?_getD, List.getElem?_replicate]
      split <;> rfl
    rw [h3] at h2
    rw [h1]
    by_cases hp : i % 2 = 0
    · rw [show i = i / 2 * 2 by omega, h2.1]
    · rw [show i = i / 2 * 2 + 1 by omega, h2.2]
  · rw [List.getElem?_eq_none (by omega), List.getElem?_eq_none (by rw [barCells_len]; simp; omega)]

theorem infoBar : (Tryd.prog.info? 34).map (fun i => (i.zero, i.size, i.bytes)) = some (some (.agg #[.int .i64 0, .int .i64 0]), 2, 16) := by kernel_rfl

/-- A fresh copy of the graph of p points and the bars l. -/
def GraphP (w : World) (p : Int) (l : List (Int × Int)) (e : Ending) (w' : World) : Prop :=
  ∃ g, e = .returned (.agg #[.int .i64 p, .slice (some ⟨g, 0, none⟩) l.length l.length]) ∧ w'.ownsRow w.heap.size 34 2 (.slice (some ⟨g, 0, none⟩) l.length l.length) l.length (barCells l) ∧ Below w.heap.size w w'

theorem BarsAt.kept {w w' : World} {B : Nat} {A : Option Addr} {l : List (Int × Int)} (h : BarsAt w B A l) (hb : Below B w w') : BarsAt w' B A l := fun hl => by
  obtain ⟨b, off, e, hlt, hc⟩ := h hl
  exact ⟨b, off, e, hlt, fun k hk => ⟨(hb.cell (p := ⟨b, off + k * 2, none⟩) hlt).trans (hc k hk).1, (hb.cell (p := ⟨b, off + k * 2 + 1, none⟩) hlt).trans (hc k hk).2⟩⟩
theorem BarsAt.more {w : World} {B B' : Nat} {A : Option Addr} {l : List (Int × Int)} (h : BarsAt w B A l) (hb : B ≤ B') : BarsAt w B' A l := fun hl => by
  obtain ⟨b, off, e, hlt, hc⟩ := h hl
  exact ⟨b, off, e, by omega, hc⟩
/-- A row of the call's own reads as its bars. -/
theorem own_bars {w : World} {base : Nat} {e : TypeId} {g cap : Nat} {l : List (Int × Int)} (h : w.ownsRow base e 2 (.slice (some ⟨g, 0, none⟩) l.length cap) l.length (barCells l)) : BarsAt w w.heap.size (some ⟨g, 0, none⟩) l := fun _ => by
  refine ⟨g, 0, rfl, (h.lt g rfl).2, fun k hk => ?_⟩
  have hg := barCells_get l k hk
  rw [Nat.zero_add]
  exact ⟨(h.cellAt (k * 2) (by omega)).trans hg.1, (h.cellAt (k * 2 + 1) (by omega)).trans hg.2⟩

end Go.Proofs.YtbmfdkaggbfmmaaDoor
