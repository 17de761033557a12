/- What spec.ParseGraph's walk needs: the words' cells, how it ends, and a graph's points written into its box. -/
import Derived.Test.YtehendofgcebcaaDoorParG
import Derived.Test.YtehendofgcebcaaDoorFmtG
import Derived.Test.YtehendofgcebcaaDoorGBox
import Derived.Deep.RegionHeld3
namespace Go.Proofs.YtehendofgcebcaaDoor
open Go.RowKit

/-- What ParseGraph returns: a graph of the call's own. -/
def ParseO (w : World) (s : ByteArray) (e : Ending) (w' : World) : Prop := ∃ q m b, PG s q m b ∧ GraphOB w q m b e w'
theorem words_cell {W : World} {base g c : Nat} {ps : List ByteArray} (h : OwnStrs W base (.slice (some ⟨g, 0, none⟩) ps.length c) ps) (k : Nat) (hk : k < ps.length) : W.cell? ⟨g, k, none⟩ = some (.string (ps.getD k ⟨#[]⟩)) := by
  have h1 := h.cellAt (g := g) k (by omega)
  refine h1.trans ?_
  simp [strVals, List.getD, List.getElem?_eq_getElem hk]
theorem words_block {W : World} {base c : Nat} {A : Option Addr} {ps : List ByteArray} (h : OwnStrs W base (.slice A ps.length c) ps) (hp : 0 < ps.length) : ∃ g, A = some ⟨g, 0, none⟩ ∧ base ≤ g ∧ g < W.heap.size := by
  rcases h.2 with ⟨_, h0⟩ | ⟨g, cap, cur, hv, h1, h2, _⟩
  · omega
  · cases hv
    exact ⟨g, rfl, h1, heap_lt h2⟩
theorem cutB_pos (s : ByteArray) (c : Int) : 0 < (cutB s c).length := by unfold cutB; simp
theorem pg_no_head {s : ByteArray} (h : ((cutB s 32).getD 0 ⟨#[]⟩).size < 2) : PG s 0 [] false :=
  .inr ⟨rfl, rfl, rfl, fun p l hg ht => by
    rw [words_of hg ht] at h
    exact absurd h (Nat.not_lt.mpr (head_size hg))⟩
theorem pg_no_word {s : ByteArray} {k : Nat} (h1 : 1 ≤ k) (hk : k < (cutB s 32).length) (h : (cutB ((cutB s 32).getD k ⟨#[]⟩) 45).length ≠ 2) : PG s 0 [] false :=
  .inr ⟨rfl, rfl, rfl, fun p l hg ht => by
    rw [words_of hg ht] at h hk
    obtain ⟨j, rfl⟩ : ∃ j, k = j + 1 := ⟨k - 1, by omega⟩
    rw [List.getD_cons_succ] at h
    simp at hk
    exact h (cut_len hg j hk)⟩
/-- The graph that has been read, once every word is read. -/
theorem pg_end {s : ByteArray} {q : Int} {m : List (Int × Int)} (hq : q = headP ((cutB s 32).getD 0 ⟨#[]⟩)) (hm : m = parseB ((cutB s 32).drop 1)) (h2 : ¬ ((cutB s 32).getD 0 ⟨#[]⟩).size < 2) :
    (fmtG q m = s → PG s q m true) ∧ (¬ fmtG q m = s → PG s 0 [] false) := by
  constructor
  · intro h
    cases hg : isGB q m
    · rw [fmtG_no hg] at h
      subst h
      exact absurd (by decide) h2
    · exact .inl ⟨rfl, isG_yes hg, by rw [← fmtG_yes hg]; exact h⟩
  · intro h
    refine .inr ⟨rfl, rfl, rfl, fun p l hg ht => h ?_⟩
    rw [words_of hg ht] at hq hm
    have e1 : q = p := by rw [hq]; exact head_txt hg
    have e2 : m = l := by rw [hm]; exact parse_txt hg
    subst e1
    subst e2
    rw [fmtG_yes (isGB_yes hg)]
    exact ht
theorem cutSt_sizes (s : ByteArray) (c : Int) : ∀ i, i ≤ s.size → ∀ x ∈ (cutSt s c i).1, x.size ≤ i
  | 0, _ => fun x hx => by simp [cutSt] at hx
  | i + 1, h => fun x hx => by
    have h1 := cutSt_sizes s c i (by omega)
    have h2 := (cutSt_le s c i (by omega)).2
    unfold cutSt at hx
    split at hx
    · rcases List.mem_append.1 hx with hx | hx
      · have := h1 x hx; omega
      · have : x = (cutSt s c i).2 := by simpa using hx
        subst this; omega
    · have := h1 x hx; omega
theorem cutB_sizes (s : ByteArray) (c : Int) : ∀ x ∈ cutB s c, x.size ≤ s.size := fun x hx => by
  rcases List.mem_append.1 hx with hx | hx
  · exact cutSt_sizes s c _ (Nat.le_refl _) x hx
  · have : x = (cutSt s c s.size).2 := by simpa using hx
    subst this
    exact (cutSt_le s c _ (Nat.le_refl _)).2
theorem cutB_get (s : ByteArray) (c : Int) (k : Nat) (hk : k < (cutB s c).length) : ((cutB s c).getD k ⟨#[]⟩).size ≤ s.size := by
  rw [List.getD_eq_getElem?_getD, List.getElem?_eq_getElem hk]
  exact cutB_sizes s c _ (List.getElem_mem hk)
/-- The points written into the box. -/
theorem GBox.points {B : Nat} {w0 wr : World} {bg : Nat} {os : List Nat} {p : Int} {A : Option Addr} {c : Nat} {l : List (Int × Int)} (h : GBox B w0 wr bg os p A c l) (q : Int) : GBox B w0 (wr.setCell ⟨bg, 0, none⟩ (.int .i64 q)) bg os q A c l := by
  obtain ⟨h1, h2, h3, h4, h5, h6, h7⟩ := h
  have hs := grownBy_set wr bg 0 (.int .i64 q)
  refine ⟨⟨?_, ?_, ?_⟩, ?_, h3, ?_, fun o hoo => ?_, ?_, h7⟩
  · exact Nat.lt_of_lt_of_le h1.1 hs.size
  · exact World.cell?_setCell_same _ _ _ h1.2.1
  · rw [World.cell?_setCell_other _ _ _ _ (by intro e; simp at e)]
    exact h1.2.2
  · rw [World.frozen?_setCell]
    exact h2
  · refine h4.kept hs ?_
    cases A with
    | none => exact .inl rfl
    | some a => exact .inr (by simp [Value.ownBlock]; exact (h3 a rfl).2)
  · obtain ⟨k1, k2, k3⟩ := h5 o hoo
    exact ⟨Nat.lt_of_lt_of_le k1 hs.size, (hs.block o k1 (by simp; exact k3)).trans k2, k3⟩
  · exact h6.grown hs (Nat.le_of_lt (Nat.lt_of_le_of_lt h7 h1.1)) fun g e => by cases e; exact h7
theorem ret_two {w3 : World} {r : Nat} {p u : Int} {a v : Value} (h0 : w3.cell? ⟨r, 0, none⟩ = some (.int .i64 u)) (h1 : w3.cell? ⟨r, 1, none⟩ = some a) :
    ((w3.setCell ⟨r, 0, none⟩ (.int .i64 p)).setCell ⟨r, 1, none⟩ v).cell? ⟨r, 0, none⟩ = some (.int .i64 p) ∧ ((w3.setCell ⟨r, 0, none⟩ (.int .i64 p)).setCell ⟨r, 1, none⟩ v).cell? ⟨r, 1, none⟩ = some v := by
  constructor
  · rw [World.cell?_setCell_other _ _ _ _ (by intro e; simp at e)]
    exact World.cell?_setCell_same _ _ _ h0
  · have r2 : (w3.setCell ⟨r, 0, none⟩ (.int .i64 p)).cell? ⟨r, 1, none⟩ = some a := by
      rw [World.cell?_setCell_other _ _ _ _ (by intro e; simp at e)]
      exact h1
    exact World.cell?_setCell_same _ _ _ r2
/-- One word more. -/
theorem parse_step (ws : List ByteArray) (k : Nat) (h1 : 1 ≤ k) (hk : k < ws.length) : parseB ((ws.drop 1).take k) = parseB ((ws.drop 1).take (k - 1)) ++ [(numS ((cutB (ws.getD k ⟨#[]⟩) 45).getD 0 ⟨#[]⟩), numS ((cutB (ws.getD k ⟨#[]⟩) 45).getD 1 ⟨#[]⟩))] := by
  obtain ⟨j, rfl⟩ : ∃ j, k = j + 1 := ⟨k - 1, by omega⟩
  have hj : j < (ws.drop 1).length := by simp; omega
  have e : (ws.drop 1)[j] = ws.getD (j + 1) ⟨#[]⟩ := by
    rw [List.getD_eq_getElem?_getD, List.getElem?_eq_getElem hk]
    simp only [List.getElem_drop, Option.getD_some, Nat.add_comm 1 j]
  rw [List.take_succ_eq_append_getElem hj, e, show j + 1 - 1 = j by omega]
  simp [parseB]
end Go.Proofs.YtehendofgcebcaaDoor
