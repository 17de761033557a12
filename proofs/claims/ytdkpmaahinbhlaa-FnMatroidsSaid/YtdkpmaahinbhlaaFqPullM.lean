/- What stands while a pebble is looked for in a state of the call's own. No program's walk. No condition. -/
import Derived.Test.YtdkpmaahinbhlaaFqB1
import Derived.Test.YtdkpmaahinbhlaaFqB3
import Derived.Test.YtdkpmaahinbhlaaFqB2
namespace Go.Proofs.Ytdkpmaahinbhlaa
open Go.RowKit

/-- The pointers to the tails that led to the points of a queue. -/
def arrV (gT : Nat) (a : Int) (q : List (Int × Nat)) (v : Int) : Value :=
  match q.find? (fun x => decide (x.1 = v) && decide (x.1 ≠ a)) with
  | some x => .pointer (some ⟨gT, x.2, none⟩)
  | none => .pointer none
def arrL (gT : Nat) (a : Int) (q : List (Int × Nat)) : List Value := (List.range 8).map fun (v : Nat) => arrV gT a q (v : Int)
theorem arrL_len (gT : Nat) (a : Int) (q : List (Int × Nat)) : (arrL gT a q).length = 8 := by simp [arrL]
theorem arrL_get (gT : Nat) (a : Int) (q : List (Int × Nat)) (v : Nat) (h : v < 8) : (arrL gT a q)[v]? = some (arrV gT a q (v : Int)) := by simp [arrL, h]
theorem arrV_none {gT : Nat} {a : Int} {q : List (Int × Nat)} {v : Int} (h : v ∉ q.map Prod.fst ∨ v = a) : arrV gT a q v = .pointer none := by
  unfold arrV
  rw [List.find?_eq_none.2]
  intro x hx
  rcases h with h | h
  · have : x.1 ≠ v := fun e => h (e ▸ List.mem_map_of_mem hx)
    simp [this]
  · subst h
    by_cases e : x.1 = v <;> simp [e]
theorem arrV_some {gT : Nat} {a : Int} {q : List (Int × Nat)} {v : Int} (h : v ∈ q.map Prod.fst) (ha : v ≠ a) : ∃ g j, arrV gT a q v = .pointer (some ⟨g, j, none⟩) := by
  unfold arrV
  obtain ⟨x, hx, e⟩ := List.mem_map.1 h
  cases hf : q.find? (fun x => decide (x.1 = v) && decide (x.1 ≠ a)) with
  | some y => exact ⟨gT, y.2, rfl⟩
  | none =>
    have := List.find?_eq_none.1 hf x hx
    simp [e, ha] at this
theorem arrV_at {P : Nat} {E : List (Int × Int)} {T : List Int} {gT : Nat} {a : Int} {q : List (Int × Nat)} (hp : PathQ P E T a q) {x : Int × Nat} (hx : x ∈ q) (ha : x.1 ≠ a) : arrV gT a q x.1 = .pointer (some ⟨gT, x.2, none⟩) := by
  obtain ⟨q1, q2, rfl⟩ := List.append_of_mem hx
  have hne : q1 ≠ [] := by
    rintro rfl
    obtain ⟨s, e⟩ := hp.1
    cases e
    exact ha rfl
  have h1 := (hp.2 q1 x q2 rfl hne).1
  unfold arrV
  rw [List.find?_append, List.find?_eq_none.2 fun y hy => by
    have : y.1 ≠ x.1 := fun e => h1 (e ▸ List.mem_map_of_mem hy)
    simp [this]]
  simp [ha]
theorem arrL_set (gT : Nat) (a : Int) (q : List (Int × Nat)) (o j : Nat) (h8 : o < 8) (ho : (o : Int) ∉ q.map Prod.fst) (ha : (o : Int) ≠ a) : (arrL gT a q).set o (.pointer (some ⟨gT, j, none⟩)) = arrL gT a (q ++ [((o : Int), j)]) := by
  apply List.ext_getElem?
  intro v
  by_cases hv : v < 8
  · rw [List.getElem?_set, arrL_get _ _ _ v hv, arrL_get _ _ _ v hv, arrL_len]
    by_cases e : o = v
    · subst e
      rw [if_pos rfl, if_pos h8]
      congr 1
      unfold arrV
      rw [List.find?_append, List.find?_eq_none.2 fun y hy => by
        have : y.1 ≠ (o : Int) := fun e => ho (e ▸ List.mem_map_of_mem hy)
        simp [this]]
      simp [ha]
    · rw [if_neg e]
      congr 1
      unfold arrV
      rw [List.find?_append]
      have hne : ¬ (o : Int) = (v : Int) := by omega
      simp [hne]
  · rw [List.getElem?_eq_none (by rw [List.length_set, arrL_len]; omega), List.getElem?_eq_none (by rw [arrL_len]; omega)]

/-- Where the search stands: the state, the graph's box, the pointers, the queue. -/
structure PullI (w wr : World) (pb : Nat) (f t z : Nat × Nat) (p : Int) (A : Option Addr) (cap : Nat) (l : List (Int × Int)) (AF : Option Addr) (cF : Nat) (AT : Option Addr) (cT : Nat) (AZ : Option Addr) (cZ : Nat) (F T Z : List Int) (a : Int) (gT : Nat) (qa qr : List (Int × Nat)) (qv : Value) : Prop where
  st : Cel3 wr pb 31 (.slice AF F.length cF) (.slice AT T.length cT) (.slice AZ Z.length cZ)
  own : OwnF wr f t z AF cF AT cT AZ cZ F T Z
  box : Box wr w.heap.size p (.slice A l.length cap)
  bars : BarsIn wr 0 w.heap.size A l
  arr : wr.heap[w.heap.size + 1]? = some (.cells (arrL gT a qa).toArray 210 (0, 0))
  row : wr.ownsRow (w.heap.size + 1 + 1) 3 1 qv qr.length (intCells (qr.map Prod.fst))
  bel : Below w.heap.size w wr
  low : pb < w.heap.size ∧ f.2 ≤ w.heap.size ∧ t.2 ≤ w.heap.size ∧ z.2 ≤ w.heap.size
theorem PullI.below {w wr w' : World} {pb : Nat} {f t z : Nat × Nat} {p : Int} {A : Option Addr} {cap : Nat} {l : List (Int × Int)} {AF : Option Addr} {cF : Nat} {AT : Option Addr} {cT : Nat} {AZ : Option Addr} {cZ : Nat} {F T Z : List Int} {a : Int} {gT : Nat} {qa qr : List (Int × Nat)} {qv : Value}
    (h : PullI w wr pb f t z p A cap l AF cF AT cT AZ cZ F T Z a gT qa qr qv) (hb : Below wr.heap.size wr w') : PullI w w' pb f t z p A cap l AF cF AT cT AZ cZ F T Z a gT qa qr qv :=
  ⟨h.st.kept hb, h.own.below hb, h.box.kept hb, h.bars.within (within_of hb) (.inr (Nat.zero_le _)), (hb.block _ (Array.getElem?_eq_some_iff.1 h.arr).1).trans h.arr, own_below h.row hb, below_on h.bel hb h.bel.size, h.low⟩
theorem PullI.reach {w wr : World} {pb : Nat} {f t z : Nat × Nat} {p : Int} {A : Option Addr} {cap : Nat} {l : List (Int × Int)} {AF : Option Addr} {cF : Nat} {AT : Option Addr} {cT : Nat} {AZ : Option Addr} {cZ : Nat} {F T Z : List Int} {a : Int} {gT : Nat} {qa qr : List (Int × Nat)} {qv : Value}
    (h : PullI w wr pb f t z p A cap l AF cF AT cT AZ cZ F T Z a gT qa qr qv) (o j : Nat) (h8 : o < 8) (ho : (o : Int) ∉ qa.map Prod.fst) (ha : (o : Int) ≠ a) : PullI w (wr.setCell ⟨w.heap.size + 1, o, none⟩ (.pointer (some ⟨gT, j, none⟩))) pb f t z p A cap l AF cF AT cT AZ cZ F T Z a gT (qa ++ [((o : Int), j)]) qr qv := by
  have hw := within_set wr (w.heap.size + 1) o (.pointer (some ⟨gT, j, none⟩))
  obtain ⟨l1, l2, l3, l4⟩ := h.low
  refine ⟨h.st.within hw (by omega), h.own.within hw (by omega) (by omega) (by omega), h.box.within hw (by omega), h.bars.within hw (by omega), ?_, ?_, h.bel.setCell (p := ⟨w.heap.size + 1, o, none⟩) (by simp only []; omega) _, h.low⟩
  · have := heap_setCell_same wr (w.heap.size + 1) o _ _ (.pointer (some ⟨gT, j, none⟩)) h.arr
    rw [← arrL_set gT a qa o j h8 ho ha]
    simpa using this
  · rcases h.row.2 with ⟨e, e0⟩ | ⟨g, c, cur, e, hg, hh, _⟩
    · exact ⟨h.row.1, .inl ⟨e, e0⟩⟩
    · subst e
      exact own_block h.row (hw.block g (Array.getElem?_eq_some_iff.1 hh).1 (by omega))
theorem PullI.push {w wr w' : World} {pb : Nat} {f t z : Nat × Nat} {p : Int} {A : Option Addr} {cap : Nat} {l : List (Int × Int)} {AF : Option Addr} {cF : Nat} {AT : Option Addr} {cT : Nat} {AZ : Option Addr} {cZ : Nat} {F T Z : List Int} {a : Int} {gT : Nat} {qa qr : List (Int × Nat)} {qv qv' : Value}
    (h : PullI w wr pb f t z p A cap l AF cF AT cT AZ cZ F T Z a gT qa qr qv) (x : Int × Nat) (ho : w'.ownsRow (w.heap.size + 1 + 1) 3 1 qv' (qr.length + 1) (intCells (qr.map Prod.fst) ++ [.int .i64 x.1])) (hg : wr.grownBy w' qv.ownBlock) : PullI w w' pb f t z p A cap l AF cF AT cT AZ cZ F T Z a gT qa (qr ++ [x]) qv' := by
  obtain ⟨l1, l2, l3, l4⟩ := h.low
  have hs := h.bel.size
  have hra := (Array.getElem?_eq_some_iff.1 h.arr).1
  have hw : Within (w.heap.size + 1 + 1) wr.heap.size wr w' := ⟨hg.os, hg.tape, hg.output, hg.size, fun k hk hd => hg.block k hk fun e => by
    have := (h.row.lt k e.symm).1
    omega⟩
  have hbx := h.box.1
  refine ⟨h.st.within hw (by omega), h.own.within hw (by omega) (by omega) (by omega), h.box.within hw (by omega), h.bars.within hw (by omega), (hw.block _ hra (by omega)).trans h.arr, ?_, h.bel.grown hg (by omega) fun g e => by have := (h.row.lt g e).1; omega, h.low⟩
  rw [List.length_append, List.map_append, show intCells (qr.map Prod.fst ++ [x].map Prod.fst) = intCells (qr.map Prod.fst) ++ [.int .i64 x.1] by simp [intCells]]
  exact ho
theorem GoodQ.range {P : Nat} {E : List (Int × Int)} {T : List Int} {a : Int} {q : List (Int × Nat)} (h : GoodQ P E T a q) (ha : 0 ≤ a ∧ a < (P : Int)) (k : Nat) (hk : k < q.length) : 0 ≤ (q.getD k (0, 0)).1 ∧ (q.getD k (0, 0)).1 < (P : Int) := by
  have hm := getD_mem_fst q k hk
  by_cases e : (q.getD k (0, 0)).1 = a
  · rw [e]; exact ha
  · obtain ⟨_, _, _, _, _, _, _, _, _, h6, h7, _⟩ := h.path.at hm e
    exact ⟨h6, h7⟩
theorem Own3.fst {W : World} {lo hi : Nat} {AF AT AZ : Option Addr} {cF cT cZ : Nat} {F T Z : List Int} (h : Own3 W lo hi AF cF AT cT AZ cZ F T Z) (hF : 0 < F.length) : ∃ gF, AF = some ⟨gF, 0, none⟩ ∧ lo ≤ gF ∧ gF < hi := by
  obtain ⟨⟨f1, f2⟩, _, _, o1, _, _, _, _, _, b1, _, _, _⟩ := h
  simp only at o1 b1
  rcases o1.2 with e | ⟨gF, rfl, g1, g2, _⟩
  · subst e; simp at hF
  · exact ⟨gF, rfl, by omega, by omega⟩
theorem turn_prefix {E : List (Int × Int)} {a : Int} {q0 r : List (Int × Nat)} {x : Int × Nat} (T : List Int) (h : x.1 ∉ r.map Prod.fst) : turnQ E a (q0 ++ x :: r).reverse x.1 T = turnQ E a (q0 ++ [x]).reverse x.1 T := by
  rw [show (q0 ++ x :: r).reverse = r.reverse ++ (q0 ++ [x]).reverse by simp, turnQ_skip _ _ _ _ _ _ (by simpa using h)]
theorem take_snoc_getD (q : List (Int × Nat)) (k : Nat) (hk : k < q.length) : q.take (k + 1) = q.take k ++ [q.getD k (0, 0)] := take_getD q (0, 0) k hk
theorem map_fst_getD (q : List (Int × Nat)) (k : Nat) (h : k < q.length) : (q.map Prod.fst).getD k 0 = (q.getD k (0, 0)).1 := by
  simp [List.getD, List.getElem?_eq_getElem h]
/-- A point was looked at: none of those so far gives a pebble. -/
theorem no_step {E : List (Int × Int)} {T F : List Int} {a b : Int} {k : Nat} (hk : k < (bfs E T a k).length) (h : ∀ y ∈ (bfs E T a k).take k, givesB F a b y = false) (hx : givesB F a b ((bfs E T a k).getD k (0, 0)) = false) : ∀ y ∈ (bfs E T a (k + 1)).take (k + 1), givesB F a b y = false := by
  obtain ⟨r, e⟩ := bfs_pre1 E T a k
  rw [e, List.take_append_of_le_length (by omega), take_snoc_getD _ _ hk]
  intro y hy
  rcases List.mem_append.1 hy with hy | hy
  · exact h y hy
  · have : y = (bfs E T a k).getD k (0, 0) := by simpa using hy
    rw [this]; exact hx
/-- What a search for a pebble answers, and what it makes of the state. -/
def PullP (w : World) (f t z : Nat × Nat) (AF : Option Addr) (cF : Nat) (AT : Option Addr) (cT : Nat) (AZ : Option Addr) (cZ : Nat) (E : List (Int × Int)) (F T Z : List Int) (a b : Int) (e : Ending) (w' : World) : Prop :=
  Within2 f t w w' ∧ ((e = .returned (.bool false) ∧ findM E a b (F, T) = none ∧ OwnF w' f t z AF cF AT cT AZ cZ F T Z) ∨ ∃ s', e = .returned (.bool true) ∧ findM E a b (F, T) = some s' ∧ OwnF w' f t z AF cF AT cT AZ cZ s'.1 s'.2 Z)
end Go.Proofs.Ytdkpmaahinbhlaa
