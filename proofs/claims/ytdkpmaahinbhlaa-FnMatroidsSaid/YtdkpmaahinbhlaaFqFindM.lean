/- What stands while the specification looks for a pebble. No program's walk. No condition. -/
import Derived.Test.YtdkpmaahinbhlaaFqB2
import Derived.Test.YtdkpmaahinbhlaaFqPullM
namespace Go.Proofs.Ytdkpmaahinbhlaa
open Go.RowKit

/-- What was seen: a row of bools. -/
def seenC (n : Nat) (q : List (Int × Nat)) : List Value := (List.range n).map fun (u : Nat) => Value.bool (decide ((u : Int) ∈ q.map Prod.fst))
theorem seenC_len (n : Nat) (q : List (Int × Nat)) : (seenC n q).length = n := by simp [seenC]
theorem seenC_get (n : Nat) (q : List (Int × Nat)) (u : Nat) (h : u < n) : (seenC n q)[u]? = some (.bool (decide ((u : Int) ∈ q.map Prod.fst))) := by simp [seenC, h]
theorem seenC_set (n : Nat) (q : List (Int × Nat)) (o j : Nat) : (seenC n q).set o (.bool true) = seenC n (q ++ [((o : Int), j)]) := by
  apply List.ext_getElem?
  intro i
  by_cases hi : i < n
  · rw [List.getElem?_set, seenC_get _ _ _ hi, seenC_get _ _ _ hi]
    simp only [seenC_len]
    by_cases h : o = i
    · subst h; simp [hi]
    · have h' : ¬ (i : Int) = (o : Int) := by omega
      simp [h, h']
  · rw [List.getElem?_eq_none (by simp [seenC_len]; omega), List.getElem?_eq_none (by simp [seenC_len]; omega)]
theorem seenC_one (n : Nat) (a : Nat) : (List.replicate n (Value.bool false)).set a (.bool true) = seenC n [((a : Int), 0)] := by
  have e : List.replicate n (Value.bool false) = seenC n [] := by
    apply List.ext_getElem?
    intro i
    by_cases hi : i < n
    · rw [seenC_get _ _ _ hi]; simp [hi]
    · rw [List.getElem?_eq_none (by simp; omega), List.getElem?_eq_none (by simp [seenC_len]; omega)]
  rw [e, seenC_set n [] a 0, List.nil_append]
/-- Where the search stands: what is read, how each point was reached, what was seen, the queue. -/
structure FindI (w wr : World) (p : Int) (A : Option Addr) (cap : Nat) (l : List (Int × Int)) (AF AT AZ : Option Addr) (cF cT cZ lo hi : Nat) (F T Z : List Int) (gf gs : Nat) (FR : List Int) (a : Int) (qa qr : List (Int × Nat)) (qv : Value) : Prop where
  g : GtI w wr p A cap l AF AT AZ cF cT cZ lo hi F T Z
  fr : wr.ownsRow gf 3 1 (.slice (some ⟨gf, 0, none⟩) F.length F.length) F.length (intCells FR)
  sn : wr.ownsRow gs 4 1 (.slice (some ⟨gs, 0, none⟩) F.length F.length) F.length (seenC F.length qa)
  qu : wr.ownsRow (w.heap.size + 3) 3 1 qv qr.length (intCells (qr.map Prod.fst))
  qn : ∀ g, qv.ownBlock = some g → g ≠ gf ∧ g ≠ gs
  ne : gf ≠ gs
  lf : w.heap.size + 3 ≤ gf
  ls : w.heap.size + 3 ≤ gs
  lh : hi ≤ w.heap.size
  frl : FR.length = F.length
  fro : ∀ x ∈ qa, x.1 ≠ a → FR.getD x.1.toNat 0 = (x.2 : Int)
theorem FindI.below {w wr w' : World} {p : Int} {A : Option Addr} {cap : Nat} {l : List (Int × Int)} {AF AT AZ : Option Addr} {cF cT cZ lo hi : Nat} {F T Z : List Int} {gf gs : Nat} {FR : List Int} {a : Int} {qa qr : List (Int × Nat)} {qv : Value}
    (h : FindI w wr p A cap l AF AT AZ cF cT cZ lo hi F T Z gf gs FR a qa qr qv) (hb : Below wr.heap.size wr w') : FindI w w' p A cap l AF AT AZ cF cT cZ lo hi F T Z gf gs FR a qa qr qv :=
  ⟨h.g.below hb, own_below h.fr hb, own_below h.sn hb, own_below h.qu hb, h.qn, h.ne, h.lf, h.ls, h.lh, h.frl, h.fro⟩
/-- A point is seen for the first time, along bar j. -/
theorem FindI.see {w wr : World} {p : Int} {A : Option Addr} {cap : Nat} {l : List (Int × Int)} {AF AT AZ : Option Addr} {cF cT cZ lo hi : Nat} {F T Z : List Int} {gf gs : Nat} {FR : List Int} {a : Int} {qa qr : List (Int × Nat)} {qv : Value}
    (h : FindI w wr p A cap l AF AT AZ cF cT cZ lo hi F T Z gf gs FR a qa qr qv) (o j : Nat) (ho : o < F.length) (hn : (o : Int) ∉ qa.map Prod.fst) (hq : ∀ x ∈ qa, x.1 ≠ a → 0 ≤ x.1) : FindI w ((wr.setCell ⟨gs, o, none⟩ (.bool true)).setCell ⟨gf, o, none⟩ (.int .i64 (j : Int))) p A cap l AF AT AZ cF cT cZ lo hi F T Z gf gs (FR.set o (j : Int)) a (qa ++ [((o : Int), j)]) qr qv := by
  have h1 := within_set wr gs o (.bool true)
  have h2 := within_set (wr.setCell ⟨gs, o, none⟩ (.bool true)) gf o (.int .i64 (j : Int))
  have e := h.ne
  have e1 := h.lf
  have e2 := h.ls
  have e3 := h.lh
  have s1 := (h.sn.stored o (.bool true)).1
  rw [seenC_set _ _ _ j] at s1
  have s2 := ((own_block h.fr (h1.block gf (h.fr.lt gf rfl).2 (by omega))).stored o (.int .i64 (j : Int))).1
  rw [intCells_set] at s2
  refine ⟨(h.g.within h1 (by omega) (by omega)).within h2 (by omega) (by omega), s2, own_block s1 (h2.block gs (s1.lt gs rfl).2 (by omega)), ?_, h.qn, h.ne, h.lf, h.ls, h.lh, by rw [List.length_set]; exact h.frl, fun x hx hxa => ?_⟩
  · rcases h.qu.2 with ⟨c, c0⟩ | ⟨g, c, cur, c1, hg, hh, _⟩
    · exact ⟨h.qu.1, .inl ⟨c, c0⟩⟩
    · subst c1
      have hne := h.qn g rfl
      have hl := (Array.getElem?_eq_some_iff.1 hh).1
      exact own_block (own_block h.qu (h1.block g hl (by omega))) (h2.block g (Nat.lt_of_lt_of_le hl h1.size) (by omega))
  · rcases List.mem_append.1 hx with hx | hx
    · have hxo : x.1 ≠ (o : Int) := fun c => hn (c ▸ List.mem_map_of_mem hx)
      have h0 := hq x hx hxa
      rw [set_getD_ne _ _ _ _ _ (by omega)]
      exact h.fro x hx hxa
    · obtain rfl : x = ((o : Int), j) := by simpa using hx
      simp only [Int.toNat_natCast]
      exact set_getD_eq _ _ _ _ (by rw [h.frl]; exact ho)
/-- The point is put behind the queue. -/
theorem FindI.push {w wr w' : World} {p : Int} {A : Option Addr} {cap : Nat} {l : List (Int × Int)} {AF AT AZ : Option Addr} {cF cT cZ lo hi : Nat} {F T Z : List Int} {gf gs : Nat} {FR : List Int} {a : Int} {qa qr : List (Int × Nat)} {qv qv' : Value}
    (h : FindI w wr p A cap l AF AT AZ cF cT cZ lo hi F T Z gf gs FR a qa qr qv) (x : Int × Nat) (ho : w'.ownsRow (w.heap.size + 3) 3 1 qv' (qr.length + 1) (intCells (qr.map Prod.fst) ++ [.int .i64 x.1])) (hg : wr.grownBy w' qv.ownBlock) (hat : qv'.ownBlock = qv.ownBlock ∨ qv'.ownBlock = some (wr.heap.size + 1)) : FindI w w' p A cap l AF AT AZ cF cT cZ lo hi F T Z gf gs FR a qa (qr ++ [x]) qv' := by
  have e1 := h.lf
  have e2 := h.ls
  have e3 := h.lh
  have l1 := (h.fr.lt gf rfl).2
  have l2 := (h.sn.lt gs rfl).2
  have hw : Within (w.heap.size + 3) wr.heap.size wr w' := ⟨hg.os, hg.tape, hg.output, hg.size, fun k hk hd => hg.block k hk fun e => by
    have := (h.qu.lt k e.symm).1
    omega⟩
  refine ⟨h.g.within hw (by omega) (by omega), own_block h.fr (hg.block gf l1 fun c => (h.qn gf c.symm).1 rfl), own_block h.sn (hg.block gs l2 fun c => (h.qn gs c.symm).2 rfl), ?_, fun g c => ?_, h.ne, h.lf, h.ls, h.lh, h.frl, h.fro⟩
  · rw [List.length_append, List.map_append, show intCells (qr.map Prod.fst ++ [x].map Prod.fst) = intCells (qr.map Prod.fst) ++ [.int .i64 x.1] by simp [intCells]]
    exact ho
  · rcases hat with hat | hat
    · exact h.qn g (hat ▸ c)
    · rw [hat] at c
      cases c
      omega
/-- What the specification's search answers. -/
def FindP (w : World) (pv : Value) (E : List (Int × Int)) (F T Z : List Int) (a b : Int) (e : Ending) (w' : World) : Prop :=
  Below w.heap.size w w' ∧ ((e = .returned (.tuple #[pv, .bool false]) ∧ findM E a b (F, T) = none) ∨ ∃ s' AF cF AT cT AZ cZ, e = .returned (.tuple #[pebV AF s'.1.length cF AT s'.2.length cT AZ Z.length cZ, .bool true]) ∧ findM E a b (F, T) = some s' ∧ Own3R w' w.heap.size w'.heap.size AF cF AT cT AZ cZ s'.1 s'.2 Z)
end Go.Proofs.Ytdkpmaahinbhlaa
