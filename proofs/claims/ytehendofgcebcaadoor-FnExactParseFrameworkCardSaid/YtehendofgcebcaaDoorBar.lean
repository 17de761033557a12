/- The laws' copies of a bar and of a graph into the program's types (laws.toBar, toBarS, toGraph). No condition. -/
import Derived.Test.YtehendofgcebcaaDoorWords
import Derived.Deep.QuietTactic
import Derived.BigQuiet
namespace Go.Proofs.YtehendofgcebcaaDoor
open Go.RowKit

theorem toBar_c (x y : Int) (w : World) :
    Calls Tryd.prog 63 #[.agg #[.int .i64 x, .int .i64 y]] w fun e w' => e = .returned (.agg #[.int .i64 x, .int .i64 y]) ∧ Below w.heap.size w w' := by
  go_enter Tryd.func63, Tryd.ntmps63
  go_wp2
  exact bodyPost_ret (v := .agg #[.int .i64 x, .int .i64 y]) (by simp [results, Tryd.results63, go_sem]) rfl ⟨rfl, (((Below.refl _ _).alloc (Nat.le_refl _) _).alloc (by simp) _).alloc (by simp; omega) _⟩

/-- The slice at A reads as the bars l. -/
def BarsAt (w : World) (B : Nat) (A : Option Addr) (l : List (Int × Int)) : Prop :=
  0 < l.length → ∃ b off, A = some ⟨b, off, none⟩ ∧ b < B ∧ ∀ k, k < l.length → w.cell? ⟨b, off + k * 2, none⟩ = some (.int .i64 (l.getD k (0, 0)).1) ∧ w.cell? ⟨b, off + k * 2 + 1, none⟩ = some (.int .i64 (l.getD k (0, 0)).2)

/-- The cells of a row of bars. -/
def barCells (l : List (Int × Int)) : List Value := l.flatMap fun x => [.int .i64 x.1, .int .i64 x.2]

theorem barCells_len (l : List (Int × Int)) : (barCells l).length = l.length * 2 := by
  induction l with
  | nil => rfl
  | cons x l ih =>
    rw [barCells, List.flatMap_cons, List.length_append]
    rw [barCells] at ih
    simp only [List.length_cons, List.length_nil, ih]
    omega
theorem barCells_append (a b : List (Int × Int)) : barCells (a ++ b) = barCells a ++ barCells b := by simp [barCells]
theorem barCells_get : ∀ (l : List (Int × Int)) (k : Nat), k < l.length → (barCells l)[k * 2]? = some (.int .i64 (l.getD k (0, 0)).1) ∧ (barCells l)[k * 2 + 1]? = some (.int .i64 (l.getD k (0, 0)).2) := by
  intro l
  induction l with
  | nil => intro k h; simp at h
  | cons x l ih =>
    intro k h
    rw [barCells, List.flatMap_cons]
    rcases k with _ | k
    · exact ⟨rfl, rfl⟩
    · have := ih k (by simpa using h)
      rw [show (k + 1) * 2 = k * 2 + 2 by omega, show k * 2 + 2 + 1 = k * 2 + 1 + 2 by omega]
      exact this
theorem barCells_set : ∀ (l : List (Int × Int)) (k : Nat) (x : Int × Int), ((barCells l).set (k * 2) (.int .i64 x.1)).set (k * 2 + 1) (.int .i64 x.2) = barCells (l.set k x) := by
  intro l
  induction l with
  | nil => intro k x; simp [barCells]
  | cons y l ih =>
    intro k x
    rcases k with _ | k
    · rfl
    · have := ih k x
      rw [show (k + 1) * 2 = k * 2 + 2 by omega, show k * 2 + 2 + 1 = k * 2 + 1 + 2 by omega]
      simp only [barCells, List.flatMap_cons, List.set_cons_succ, List.cons_append, List.nil_append] at this ⊢
      rw [this]
theorem made_bars (n : Nat) : (madeCells #[.int .i64 0, .int .i64 0] (n * 2)).toList = barCells (List.replicate n (0, 0)) := by
  apply List.ext_getElem?
  intro i
  have hs : (madeCells #[Value.int .i64 0, .int .i64 0] (n * 2)).toList.length = n * 2 := by simp [size_madeCells]
  by_cases hi : i < n * 2
  · have h1 : (madeCells #[Value.int .i64 0, .int .i64 0] (n * 2)).toList[i]? = some (.int .i64 0) := by
      have : i % 2 = 0 ∨ i % 2 = 1 := by omega
      simp [madeCells, hi]
      rcases this with h | h <;> simp [h]
    have h2 := barCells_get (List.replicate n ((0 : Int), (0 : Int))) (i / 2) (by simp; omega)
    have h3 : (List.replicate n ((0 : Int), (0 : Int))).getD (i / 2) (0, 0) = (0, 0) := by
      rw [List.getD_eq_getElem?_getD, List.getElem?_replicate]
      split <;> rfl
    rw [h3] at h2
    rw [h1]
    by_cases hp : i % 2 = 0
    · rw [show i = i / 2 * 2 by omega, h2.1]
    · rw [show i = i / 2 * 2 + 1 by omega, h2.2]
  · rw [List.getElem?_eq_none (by omega), List.getElem?_eq_none (by rw [barCells_len]; simp; omega)]

theorem infoBar : (Tryd.prog.info? 80).map (fun i => (i.zero, i.size, i.bytes)) = some (some (.agg #[.int .i64 0, .int .i64 0]), 2, 16) := by kernel_rfl

set_option maxHeartbeats 400000 in
set_option maxRecDepth 100000 in
theorem toBarS_c (l : List (Int × Int)) (A : Option Addr) (cap : Nat) (w : World) (hl : BarsAt w w.heap.size A l) (hn : l.length ≤ 1048576) :
    Calls Tryd.prog 43 #[.slice A l.length cap] w fun e w' => ∃ g, e = .returned (.slice (some ⟨g, 0, none⟩) l.length l.length) ∧ w'.ownsRow w.heap.size 80 2 (.slice (some ⟨g, 0, none⟩) l.length l.length) l.length (barCells l) ∧ Below w.heap.size w w' := by
  have HL := Lib.hid hl
  clear hl
  obtain ⟨i0, hi, hz0, hz1, hz2⟩ := info_parts infoBar
  go_enter Tryd.func43, Tryd.ntmps43
  go_wp2_with (at_make; refine wpList_make_full w rfl _ _ 30 rfl w.heap.size 80 i0 (.agg #[.int .i64 0, .int .i64 0]) 2 Tryd.underlying30 hi hz0 hz1 _ _ _ _ l.length rfl rfl rfl rfl (by rw [hz2]; omega) (by unfold maxLen; omega) (Nat.le_refl _) ?_; intro w0 hown0 hg0)
  have hb0 := grown_below hg0 (Nat.le_refl w.heap.size)
  go_loopw [4] (fun i wr => ∃ k : Nat, k ≤ l.length ∧ i = .int .i64 k ∧ wr.ownsRow w.heap.size 80 2 (.slice (some ⟨w.heap.size, 0, none⟩) l.length l.length) l.length (barCells (l.take k ++ List.replicate (l.length - k) (0, 0))) ∧ Below w.heap.size w wr) (fun i _ => l.length - (intOf i).toNat)
  case atStart => exact ⟨0, by omega, rfl, by
    have e : (madeCells (Value.agg #[.int .i64 0, .int .i64 0]).cells (l.length * 2)).toList = barCells (l.take 0 ++ List.replicate (l.length - 0) (0, 0)) := by
      rw [List.take_zero, List.nil_append, Nat.sub_zero]
      exact made_bars l.length
    rw [e] at hown0
    exact hown0, hb0⟩
  case round =>
    obtain ⟨k, hk, rfl, hown, hb⟩ := hrel
    have HB := Lib.hid hb
    have hbs := hb.size
    clear hb hown0 hb0 hg0
    by_cases hlt : k < l.length
    · have hi : (k : Int) < (l.length : Int) := by omega
      obtain ⟨b, off, rfl, hbB, hcell⟩ := HL.out (by omega)
      obtain ⟨h1, h2⟩ := hcell k hlt
      have hc1 := (HB.out.cell (p := ⟨b, off + k * 2, none⟩) hbB).trans h1
      have hc2 := (HB.out.cell (p := ⟨b, off + k * 2 + 1, none⟩) hbB).trans h2
      have hlen : (l.take k ++ List.replicate (l.length - k) ((0 : Int), (0 : Int))).length = l.length := by simp; omega
      have hset : (l.take k ++ List.replicate (l.length - k) (0, 0)).set k (l.getD k (0, 0)) = l.take (k + 1) ++ List.replicate (l.length - (k + 1)) (0, 0) := by
        have hl0 : (l.take k).length = k := by simp; omega
        have e : l.getD k (0, 0) = l[k] := by simp [List.getD, List.getElem?_eq_getElem hlt]
        obtain ⟨r, hr⟩ : ∃ r, l.length - k = r + 1 := ⟨l.length - k - 1, by omega⟩
        rw [e, List.set_append_right _ _ (by omega), hl0, Nat.sub_self, hr, List.replicate_succ, List.set_cons_zero, List.take_succ_eq_append_getElem hlt, show l.length - (k + 1) = r by omega, List.append_assoc]
        rfl
      have HOWN := Lib.hid hown
      have HSET := Lib.hid hset
      have HLEN := Lib.hid hlen
      have hlw := (hown.lt w.heap.size rfl).2
      clear hset hown hcell h1 h2 hlen
      obtain ⟨p, hp⟩ : ∃ p, l.getD k (0, 0) = p := ⟨_, rfl⟩
      rw [hp] at hc1 hc2 HSET
      clear hp
      obtain ⟨x, y⟩ := p
      go_wp2_with fail
      refine (toBar_c x y wr).mono ?_
      rintro e w3 ⟨rfl, hb3⟩
      have hown3 := own_below HOWN.out hb3
      have hg := barCells_get (l.take k ++ List.replicate (l.length - k) (0, 0)) k (by have := HLEN.out; omega)
      have hd1 := (hown3.cellAt (k * 2) (by omega)).trans hg.1
      have hd2 := (hown3.cellAt (k * 2 + 1) (by omega)).trans hg.2
      have hf1 := hown3.frozenAt (k * 2)
      have hf2 := hown3.frozenAt (k * 2 + 1)
      have hst1 := hown3.stored (k * 2) (.int .i64 x)
      have hst2 := hst1.1.stored (k * 2 + 1) (.int .i64 y)
      rw [barCells_set _ _ (x, y), HSET.out] at hst2
      have HST := Lib.hid hst2
      have HB3 := Lib.hid (HB.out.trans (hb3.mono hbs))
      clear hst1 hst2 hg hown3 hb3 hc1 hc2
      go_wp2_with fail
      go_roundw
      case rel => exact ⟨k + 1, by omega, by go_num, HST.out.1, (HB3.out.setCell (Nat.le_refl _) _).setCell (Nat.le_refl _) _⟩
      case measure => simp [intOf]; omega
    · obtain rfl : k = l.length := by omega
      rw [List.take_length, Nat.sub_self, List.replicate_zero, List.append_nil] at hown
      go_wp2_with fail
      go_ret
      exact ⟨_, rfl, hown, HB.out⟩

/-- A fresh copy of the graph of p points and the bars l. -/
def GraphP (w : World) (p : Int) (l : List (Int × Int)) (e : Ending) (w' : World) : Prop :=
  ∃ g, e = .returned (.agg #[.int .i64 p, .slice (some ⟨g, 0, none⟩) l.length l.length]) ∧ w'.ownsRow w.heap.size 80 2 (.slice (some ⟨g, 0, none⟩) l.length l.length) l.length (barCells l) ∧ Below w.heap.size w w'

theorem BarsAt.kept {w w' : World} {B : Nat} {A : Option Addr} {l : List (Int × Int)} (h : BarsAt w B A l) (hb : Below B w w') : BarsAt w' B A l := fun hl => by
  obtain ⟨b, off, e, hlt, hc⟩ := h hl
  exact ⟨b, off, e, hlt, fun k hk => ⟨(hb.cell (p := ⟨b, off + k * 2, none⟩) hlt).trans (hc k hk).1, (hb.cell (p := ⟨b, off + k * 2 + 1, none⟩) hlt).trans (hc k hk).2⟩⟩
theorem BarsAt.more {w : World} {B B' : Nat} {A : Option Addr} {l : List (Int × Int)} (h : BarsAt w B A l) (hb : B ≤ B') : BarsAt w B' A l := fun hl => by
  obtain ⟨b, off, e, hlt, hc⟩ := h hl
  exact ⟨b, off, e, by omega, hc⟩
/-- A row of the call's own reads as its bars. -/
theorem own_bars {w : World} {base : Nat} {e : TypeId} {g cap : Nat} {l : List (Int × Int)} (h : w.ownsRow base e 2 (.slice (some ⟨g, 0, none⟩) l.length cap) l.length (barCells l)) : BarsAt w w.heap.size (some ⟨g, 0, none⟩) l := fun _ => by
  refine ⟨g, 0, rfl, (h.lt g rfl).2, fun k hk => ?_⟩
  have hg := barCells_get l k hk
  rw [Nat.zero_add]
  exact ⟨(h.cellAt (k * 2) (by omega)).trans hg.1, (h.cellAt (k * 2 + 1) (by omega)).trans hg.2⟩

set_option maxHeartbeats 400000 in
set_option maxRecDepth 100000 in
theorem toGraph_c (p : Int) (l : List (Int × Int)) (A : Option Addr) (cap : Nat) (w : World) (hl : BarsAt w w.heap.size A l) (hn : l.length ≤ 1048576) :
    Calls Tryd.prog 19 #[.agg #[.int .i64 p, .slice A l.length cap]] w (GraphP w p l) := by
  have HL := Lib.hid hl
  clear hl
  go_enter Tryd.func19, Tryd.ntmps19
  go_wp2_with fail
  have hA : Below w.heap.size w (((w.alloc (.cells #[.int .i64 p, .slice A l.length cap] 24)).alloc (.cells #[.int .i64 0, .slice none 0 0] 32)).alloc (.cells #[.int .i64 p, .slice none 0 0] 32)) :=
    (((Below.refl _ _).alloc (Nat.le_refl _) _).alloc (by simp) _).alloc (by simp; omega) _
  refine (toBarS_c l A cap _ ((HL.out.kept hA).more hA.size) hn).mono ?_
  rintro e w1 ⟨g, rfl, hown1, hb1⟩
  have hg := (hown1.lt g rfl)
  have hsz := hb1.size
  obtain ⟨hc1, hf1⟩ := bcell hb1
  have HA := Lib.hid hA
  have HB1 := Lib.hid hb1
  have HO1 := Lib.hid hown1
  clear hA hb1 hown1
  simp only [World.size_alloc] at hg hsz
  go_wp2_with fail
  refine bodyPost_ret (v := .agg #[.int .i64 p, .slice (some ⟨g, 0, none⟩) l.length l.length]) ?_ rfl ⟨g, rfl, ?_, ?_⟩
  · simp [results, Tryd.results19, go_sem, hc1]
  · exact own_set (own_set (own_set (own_base HO1.out (by simp; omega)) _ _ _ (by omega)) _ _ _ (by omega)) _ _ _ (by omega)
  · exact (((HA.out.trans (HB1.out.mono HA.out.size)).setCell (by simp; omega) _).setCell (by simp) _).setCell (by simp) _
end Go.Proofs.YtehendofgcebcaaDoor
