/- What stands while pebbles are gathered in a state of the call's own. No program's walk. No condition. -/
import Derived.Test.YtdkpmaahinbhlaaFqPullI
import Derived.Laws.CopyOwn
namespace Go.Proofs.Ytdkpmaahinbhlaa
open Go.RowKit

/-- A row of the call's own is overwritten by a row of the same length. -/
theorem wpList_back {w : World} {ops : Array Oper} {rest : List Oper} {o : Oper} {a : Act} {Q : Exit → Act → World → Prop} (hgd : o.guard = none) (d s : Operand)
    (ho : o.op = .call { callee := .builtin .copy, args := #[d, s], argTypes := #[29, 29] }) (A AS : Option Addr) (zs ys : List Int) (cd cs lo hi lo2 hi2 n : Nat) (hd : a.eval d = .slice A n cd) (hs : a.eval s = .slice AS ys.length cs)
    (hz : OwnR w lo hi A cd zs) (hy : IntsIn w lo2 hi2 AS ys) (hl : ys.length = zs.length) (hnz : n = zs.length)
    (h : ∀ w', OwnR w' lo hi A cd ys → Within lo hi w w' → wpList Try.prog ops Q rest (a.put o.dst (goInt ys.length)) w') : wpList Try.prog ops Q (o :: rest) a w := by
  subst hnz
  have hu := Try.underlying29
  have hsz : (Try.prog.info? 3).map (·.size) = some 1 := by kernel_rfl
  by_cases h0 : ys.length = 0
  · have hy0 : ys = [] := List.eq_nil_of_length_eq_zero h0
    refine wpList_copy_nothing hgd d s _ _ ho 3 hu hsz A AS zs.length cd ys.length cs hd hs (by rw [h0]; simp) ?_
    have hz0 : zs = [] := List.eq_nil_of_length_eq_zero (by rw [← hl]; exact h0)
    have := h w (by rw [hy0]; rw [hz0] at hz; exact hz) (Within.refl _ _ _)
    rw [h0] at this
    exact this
  · rcases hz.2 with ⟨_, _, e⟩ | ⟨g, rfl, g1, g2, hr⟩
    · exact absurd (by rw [hl, e]; rfl) h0
    · obtain ⟨b, off, rfl, _, _, hc⟩ := hy.2 (by omega)
      rcases hr.2 with ⟨e0, _⟩ | ⟨g', cap', cur, e1, hg1, hheap, n1, n2, n3, n4⟩
      · cases e0
      · cases e1
        have hcl : (intCells ys).length = ys.length := intCells_len ys
        refine wpList_copy_own hgd d s _ _ ho 3 hu hsz g 0 zs.length cd ⟨b, off, none⟩ ys.length cs hd hs cur _ hheap (intCells ys) (by rw [hcl, hl]; simp) ?_ (by rw [hcl]; omega) (intCells_one ys) ?_
        · intro j v hj
          have hjl : j < ys.length := by rw [← hcl]; exact (List.getElem?_eq_some_iff.1 hj).1
          have e := (hc j hjl).trans (intCells_get ys j hjl).symm
          rw [hj] at e
          have ha : (⟨b, off, none⟩ : Addr).add j = ⟨b, off + j, none⟩ := by unfold Addr.add; split <;> simp_all
          rw [ha]
          exact e
        · rw [hcl]
          have hset := setRow_heap w g _ ((cur.toList.take 0 ++ (intCells ys ++ cur.toList.drop (0 + ys.length))).toArray) _ _ hheap
          refine h _ ⟨?_, .inr ⟨g, rfl, g1, g2, ⟨by rw [hcl, Nat.mul_one], .inr ⟨g, cd, _, by rw [hl], hg1, hset, by omega, n2, ?_, ?_⟩⟩⟩⟩ ⟨rfl, rfl, rfl, ?_, fun k _ hd => setRow_other w g k _ (by omega)⟩
          · simpa [World.setRow] using hz.1
          · simp [hcl]; omega
          · simp [← hcl]
          · simp [World.setRow]
theorem Box.at {W W' : World} {b : Nat} {q : Int} {v : Value} (h : Box W b q v) {f t : Nat × Nat} (hw : Within2 f t W W') (h1 : b < f.1 ∨ f.2 ≤ b) (h2 : b < t.1 ∨ t.2 ≤ b) : Box W' b q v := by
  have hb := hw.block b h.1 h1 h2
  exact ⟨Nat.lt_of_lt_of_le h.1 hw.size, (World.cell?_of_block (a := ⟨b, 0, none⟩) hb).trans h.2.1, (World.cell?_of_block (a := ⟨b, 1, none⟩) hb).trans h.2.2⟩
/-- What gathering answers, and what it makes of the state. -/
def GathP (w : World) (f t z : Nat × Nat) (AF : Option Addr) (cF : Nat) (AT : Option Addr) (cT : Nat) (AZ : Option Addr) (cZ : Nat) (E : List (Int × Int)) (F T Z : List Int) (a b want : Int) (e : Ending) (w' : World) : Prop :=
  Within2 f t w w' ∧ ((e = .returned (.bool false) ∧ gathR E a b want (F, T) = none ∧ OwnF w' f t z AF cF AT cT AZ cZ F T Z) ∨ ∃ s', e = .returned (.bool true) ∧ gathR E a b want (F, T) = some s' ∧ OwnF w' f t z AF cF AT cT AZ cZ s'.1 s'.2 Z)
/-- Where gathering stands: the state, the graph's box, the copies. -/
structure GatI (w wr : World) (pb : Nat) (f t z : Nat × Nat) (mF nF mT nT : Nat) (p : Int) (A : Option Addr) (cap : Nat) (l : List (Int × Int)) (AF : Option Addr) (cF : Nat) (AT : Option Addr) (cT : Nat) (AZ : Option Addr) (cZ : Nat) (BF BT : Option Addr) (F0 T0 F T Z : List Int) : Prop where
  st : Cel3 wr pb 31 (.slice AF F0.length cF) (.slice AT T0.length cT) (.slice AZ Z.length cZ)
  own : OwnF wr f t z AF cF AT cT AZ cZ F T Z
  box : Box wr w.heap.size p (.slice A l.length cap)
  bars : BarsIn wr 0 w.heap.size A l
  cf : IntsIn wr mF nF BF F0
  ct : IntsIn wr mT nT BT T0
  wit : Within2 f t w wr
  low : pb < w.heap.size ∧ (f.2 ≤ w.heap.size ∧ t.2 ≤ w.heap.size) ∧ w.heap.size ≤ mF ∧ w.heap.size ≤ mT ∧ w.heap.size + 1 ≤ wr.heap.size
  outf : pb < f.1 ∨ f.2 ≤ pb
  outt : pb < t.1 ∨ t.2 ≤ pb
  bar : 0 < l.length → ∀ g off, A = some ⟨g, off, none⟩ → (g < f.1 ∨ f.2 ≤ g) ∧ (g < t.1 ∨ t.2 ≤ g)
/-- The state was written, and nothing else. -/
theorem GatI.next {w wr w' : World} {pb : Nat} {f t z : Nat × Nat} {mF nF mT nT : Nat} {p : Int} {A : Option Addr} {cap : Nat} {l : List (Int × Int)} {AF : Option Addr} {cF : Nat} {AT : Option Addr} {cT : Nat} {AZ : Option Addr} {cZ : Nat} {BF BT : Option Addr} {F0 T0 F T F' T' Z : List Int}
    (h : GatI w wr pb f t z mF nF mT nT p A cap l AF cF AT cT AZ cZ BF BT F0 T0 F T Z) (hw : Within2 f t wr w') (ho : OwnF w' f t z AF cF AT cT AZ cZ F' T' Z) : GatI w w' pb f t z mF nF mT nT p A cap l AF cF AT cT AZ cZ BF BT F0 T0 F' T' Z := by
  obtain ⟨l1, l2, l3, l4, l5⟩ := h.low
  refine ⟨h.st.at hw h.outf h.outt, ho, h.box.at hw (by omega) (by omega), ⟨Nat.le_trans h.bars.1 hw.size, fun hl => ?_⟩, h.cf.at hw (by omega) (by omega), h.ct.at hw (by omega) (by omega), h.wit.trans hw, ⟨l1, l2, l3, l4, Nat.le_trans l5 hw.size⟩, h.outf, h.outt, h.bar⟩
  obtain ⟨b, off, e, h1, h2, hc⟩ := h.bars.2 hl
  refine ⟨b, off, e, h1, h2, fun k hk => ?_⟩
  obtain ⟨q1, q2⟩ := h.bar hl b off e
  have hb := hw.block b (Nat.lt_of_lt_of_le h2 h.bars.1) q1 q2
  have e1 : ∀ o, w'.cell? ⟨b, o, none⟩ = wr.cell? ⟨b, o, none⟩ := fun o => World.cell?_of_block (a := ⟨b, o, none⟩) hb
  rw [e1, e1]
  exact hc k hk
theorem GatI.pull {w wr : World} {P pb : Nat} {f t z : Nat × Nat} {mF nF mT nT : Nat} {k0 : Int} {A : Option Addr} {cap : Nat} {l : List (Int × Int)} {AF : Option Addr} {cF : Nat} {AT : Option Addr} {cT : Nat} {AZ : Option Addr} {cZ : Nat} {BF BT : Option Addr} {F0 T0 F T Z : List Int} {a b : Int} {gT : Nat}
    (h : GatI w wr pb f t z mF nF mT nT (P : Int) A cap l AF cF AT cT AZ cZ BF BT F0 T0 F T Z) (hS0 : PebS P k0 (plE l Z) F0 T0) (hS : PebS P k0 (plE l Z) F T) (hP : 1 ≤ P ∧ P ≤ 8) (hk0 : k0 ≤ 3) (hn : l.length ≤ 24) (hz24 : Z.length ≤ 24)
    (hZ : ∀ i, i < Z.length → 0 ≤ Z.getD i 0 ∧ Z.getD i 0 < (l.length : Int)) (ha : 0 ≤ a ∧ a < (P : Int)) (hb : 0 ≤ b ∧ b < (P : Int)) (hgT : 0 < T0.length → AT = some ⟨gT, 0, none⟩) :
    Calls Try.prog 192 #[.pointer (some ⟨pb, 0, none⟩), .agg #[.int .i64 (P : Int), .slice A l.length cap], .int .i64 a, .int .i64 b] wr (PullP wr f t z AF cF AT cT AZ cZ (plE l Z) F T Z a b) := by
  have e1 : F.length = F0.length := by rw [hS.flen, hS0.flen]
  have e2 : T.length = T0.length := by rw [hS.ends.len, hS0.ends.len]
  have hst := h.st
  rw [← e1, ← e2] at hst
  rw [← e2] at hgT
  exact pull_c P k0 l A cap pb f t z AF AT AZ cF cT cZ F T Z a b gT wr hS hP hk0 hn hz24 hZ ha hb h.bars.at hst h.own hgT h.outf h.outt
theorem GatI.pull_no {w wr : World} {P pb : Nat} {f t z : Nat × Nat} {mF nF mT nT : Nat} {k0 : Int} {A : Option Addr} {cap : Nat} {l : List (Int × Int)} {AF : Option Addr} {cF : Nat} {AT : Option Addr} {cT : Nat} {AZ : Option Addr} {cZ : Nat} {BF BT : Option Addr} {F0 T0 F T Z : List Int} {a b : Int} {gT : Nat}
    (h : GatI w wr pb f t z mF nF mT nT (P : Int) A cap l AF cF AT cT AZ cZ BF BT F0 T0 F T Z) (hS0 : PebS P k0 (plE l Z) F0 T0) (hS : PebS P k0 (plE l Z) F T) (hP : 1 ≤ P ∧ P ≤ 8) (hk0 : k0 ≤ 3) (hn : l.length ≤ 24) (hz24 : Z.length ≤ 24)
    (hZ : ∀ i, i < Z.length → 0 ≤ Z.getD i 0 ∧ Z.getD i 0 < (l.length : Int)) (ha : 0 ≤ a ∧ a < (P : Int)) (hb : 0 ≤ b ∧ b < (P : Int)) (hgT : 0 < T0.length → AT = some ⟨gT, 0, none⟩) (hf : findM (plE l Z) a b (F, T) = none) :
    Calls Try.prog 192 #[.pointer (some ⟨pb, 0, none⟩), .agg #[.int .i64 (P : Int), .slice A l.length cap], .int .i64 a, .int .i64 b] wr (fun e w' => e = .returned (.bool false) ∧ GatI w w' pb f t z mF nF mT nT (P : Int) A cap l AF cF AT cT AZ cZ BF BT F0 T0 F T Z) := by
  refine (h.pull hS0 hS hP hk0 hn hz24 hZ ha hb hgT).mono ?_
  rintro e w' ⟨hw, ⟨rfl, _, ho⟩ | ⟨s', _, hs, _⟩⟩
  · exact ⟨rfl, h.next hw ho⟩
  · rw [hf] at hs; cases hs
theorem GatI.pull_yes {w wr : World} {P pb : Nat} {f t z : Nat × Nat} {mF nF mT nT : Nat} {k0 : Int} {A : Option Addr} {cap : Nat} {l : List (Int × Int)} {AF : Option Addr} {cF : Nat} {AT : Option Addr} {cT : Nat} {AZ : Option Addr} {cZ : Nat} {BF BT : Option Addr} {F0 T0 F T Z : List Int} {a b : Int} {gT : Nat} {s : List Int × List Int}
    (h : GatI w wr pb f t z mF nF mT nT (P : Int) A cap l AF cF AT cT AZ cZ BF BT F0 T0 F T Z) (hS0 : PebS P k0 (plE l Z) F0 T0) (hS : PebS P k0 (plE l Z) F T) (hP : 1 ≤ P ∧ P ≤ 8) (hk0 : k0 ≤ 3) (hn : l.length ≤ 24) (hz24 : Z.length ≤ 24)
    (hZ : ∀ i, i < Z.length → 0 ≤ Z.getD i 0 ∧ Z.getD i 0 < (l.length : Int)) (ha : 0 ≤ a ∧ a < (P : Int)) (hb : 0 ≤ b ∧ b < (P : Int)) (hgT : 0 < T0.length → AT = some ⟨gT, 0, none⟩) (hf : findM (plE l Z) a b (F, T) = some s) :
    Calls Try.prog 192 #[.pointer (some ⟨pb, 0, none⟩), .agg #[.int .i64 (P : Int), .slice A l.length cap], .int .i64 a, .int .i64 b] wr (fun e w' => e = .returned (.bool true) ∧ GatI w w' pb f t z mF nF mT nT (P : Int) A cap l AF cF AT cT AZ cZ BF BT F0 T0 s.1 s.2 Z) := by
  refine (h.pull hS0 hS hP hk0 hn hz24 hZ ha hb hgT).mono ?_
  rintro e w' ⟨hw, ⟨rfl, hs, ho⟩ | ⟨s', rfl, hs, ho⟩⟩
  · rw [hf] at hs; cases hs
  · rw [hf] at hs
    cases hs
    exact ⟨rfl, h.next hw ho⟩
end Go.Proofs.Ytdkpmaahinbhlaa
