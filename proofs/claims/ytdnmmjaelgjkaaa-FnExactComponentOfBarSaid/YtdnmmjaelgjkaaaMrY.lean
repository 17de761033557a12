/- Several texts in one, in the order in which they build on each other: what stands on the way to the law; each names its own matter. No condition. -/
import Derived.Test.YtdnmmjaelgjkaaaMrX
import Derived.Test.YtdnmmjaelgjkaaaOwnN
import Derived.Test.YtdnmmjaelgjkaaaPlaM
import Derived.Test.YtdnmmjaelgjkaaaNewPI
import Derived.Maps.AppendAt
import Derived.Deep.QuietTactic
import Derived.BigQuiet
import Derived.Deep.RegionHeld3
import Derived.Test.YtdnmmjaelgjkaaaNewPS
import Derived.StillTailTactics
import Derived.OrdersHeld
import Derived.Test.YtdnmmjaelgjkaaaIsGraphI
import Derived.Test.YtdnmmjaelgjkaaaState
import Derived.Test.YtdnmmjaelgjkaaaCpR
import Derived.Test.YtdnmmjaelgjkaaaIntsO
/- What stands in the walk of spec.l6Rank: the state, the new state beside it, and the steps between. No program's walk. No condition. -/
namespace Go.Proofs.Ytdnmmjaelgjkaaa
open Go.RowKit

/-- An append of one number, in a region that draws its order. -/
theorem step_pushR (w : World) {ops : Array Oper} {o : Oper} {a : Act} {K : Act → World → Prop} {Q : Exit → Act → World → Prop} {E : Prop} (hgd : o.guard = none) (s x : Operand)
    (ho : o.op = .call { callee := .builtin .append, args := #[s, x], argTypes := #[40, 40] }) (lo hi : Nat) (A : Option Addr) (cap : Nat) (zs : List Int) (y : Int) (hs : a.eval s = .slice A zs.length cap) (hr : OwnR w lo hi A cap zs)
    (tb : TypeId) (hx : a.eval x = .slice (some ⟨w.heap.size, 0, none⟩) 1 1) (hn : zs.length ≤ 1048576) (hlo : lo ≤ w.heap.size)
    (h : ∀ A' c' w' lo' hi', OwnR w' lo' hi' A' c' (zs ++ [y]) → ((lo' = lo ∧ hi' = hi) ∨ (w.heap.size ≤ lo' ∧ lo' ≤ w'.heap.size ∧ hi' ≤ w'.heap.size)) → Within lo hi w w' → K (a.put o.dst (.slice A' (zs.length + 1) c')) w') : if Region.wanted o (yielded ops a.tmps) = true then Oper.wp Try.prog o a (w.alloc (.cells #[.int .i64 y] tb)) K Q else E := by
  have hwt : Region.wanted o (yielded ops a.tmps) = true := by simp [Region.wanted, hgd]
  rw [if_pos hwt]
  have hlen : (zs ++ [y]).length = zs.length + 1 := by simp
  have hcells : intCells (zs ++ [y]) = intCells zs ++ [.int .i64 y] := by simp [intCells]
  obtain ⟨i, hi0, hz0, hz1, hz2⟩ := info_parts infoInt
  obtain ⟨v', w', hrun, hown, hg, _, hat⟩ := run_append_own_at (P := Try.prog) (w.alloc (.cells #[.int .i64 y] tb)) lo 40 o.type 3 i (.int .i64 0) 1 8 Try.underlying40 hi0 hz0 hz1 hz2 rfl (by decide) _ zs.length (intCells zs) (hr.row.alloc _) ⟨w.heap.size, 0, none⟩ 1 1 [.int .i64 y] rfl (cell_one_new w _ _) (by simp [Value.oneCell']) (by unfold maxLen; omega) (by omega) (by simp; omega)
  unfold Oper.wp execOp
  simp only [ho, resolve, invoke, builtin, Sem.run_bind, Sem.run_pure, Result.andThen_ok, List.map_toArray, List.map_cons, List.map_nil, hs, hx, hrun]
  obtain ⟨A', c', rfl⟩ := own_shape hown
  rw [← hcells, ← hlen] at hown
  rw [← hlen] at hat ⊢
  have hg := (World.grownBy_alloc w (.cells #[.int .i64 y] tb) (Value.slice A zs.length cap).ownBlock).trans_ hg
  have hw : Within lo hi w w' := ⟨hg.os, hg.tape, hg.output, hg.size, fun k hk hd => hg.block k hk fun e => by
    rcases hr.2 with ⟨rfl, rfl, rfl⟩ | ⟨g, rfl, g1, g2, _⟩
    · cases e
    · have : k = g := by simpa [Value.ownBlock] using e
      omega⟩
  rcases hown.2 with ⟨_, e0⟩ | ⟨g', cap', cur, e1, _⟩
  · rw [hlen] at e0; omega
  · injection e1 with q1 q2 q3
    subst q1
    have hlt := hown.lt g' rfl
    have hat : (Value.slice (some ⟨g', 0, none⟩) (zs ++ [y]).length c').ownBlock = (Value.slice A zs.length cap).ownBlock ∨ (Value.slice (some ⟨g', 0, none⟩) (zs ++ [y]).length c').ownBlock = some (w.heap.size + 1) := by simpa using hat
    rcases hat with e | e
    · rcases hr.2 with ⟨rfl, rfl, rfl⟩ | ⟨g, rfl, g1, g2, _⟩
      · cases e
      · have : g' = g := by simpa [Value.ownBlock] using e
        subst this
        have := h _ c' w' lo hi ⟨Nat.le_trans hr.1 hg.size, .inr ⟨g', rfl, g1, g2, hown⟩⟩ (.inl ⟨rfl, rfl⟩) hw
        rwa [← hlen] at this
    · have : g' = w.heap.size + 1 := by simpa [Value.ownBlock] using e
      have := h _ c' w' g' (g' + 1) ⟨hlt.2, .inr ⟨g', rfl, Nat.le_refl _, by omega, own_rebase hown (Nat.le_refl _)⟩⟩ (.inr ⟨by omega, by omega, hlt.2⟩) hw
      rwa [← hlen] at this
/-- The graph's box, the state's box and what it reads. -/
structure L6I (w W : World) (P : Nat) (A : Option Addr) (cap : Nat) (l : List (Int × Int)) (pb lo hi : Nat) (AF AT AZ : Option Addr) (cF cT cZ : Nat) (F T Z : List Int) : Prop where
  gb : Box W w.heap.size (P : Int) (.slice A l.length cap)
  st : Cel3 W pb 64 (.slice AF F.length cF) (.slice AT T.length cT) (.slice AZ Z.length cZ)
  src : Peb3 W lo hi AF AT AZ F T Z
  bars : BarsIn W 0 w.heap.size A l
  bel : Below w.heap.size w W
  hlo : w.heap.size < pb ∧ (pb < lo ∨ hi ≤ pb)
section
variable {w wr W W' : World} {P cap pb lo hi cF cT cZ : Nat} {A AF AT AZ : Option Addr} {l : List (Int × Int)} {F T Z : List Int}
theorem L6I.below (h : L6I w W P A cap l pb lo hi AF AT AZ cF cT cZ F T Z) (hb : Below W.heap.size W W') : L6I w W' P A cap l pb lo hi AF AT AZ cF cT cZ F T Z :=
  ⟨h.gb.kept hb, h.st.kept hb, h.src.within (within_of hb) (.inr (Nat.zero_le _)), h.bars.within (within_of hb) (.inr (Nat.zero_le _)), below_on h.bel hb h.bel.size, h.hlo⟩
/-- The cells that a round reads. -/
theorem L6I.cells (h : L6I w W P A cap l pb lo hi AF AT AZ cF cT cZ F T Z) {bb boff j : Nat} (hA : A = some ⟨bb, boff, none⟩) (hj : j < l.length) {a b : Int} (hx : l.getD j (0, 0) = (a, b)) :
    W.cell? ⟨w.heap.size, 0, none⟩ = some (.int .i64 (P : Int)) ∧ W.cell? ⟨w.heap.size, 1, none⟩ = some (.slice A l.length cap) ∧ W.cell? ⟨pb, 0, none⟩ = some (.slice AF F.length cF) ∧ W.cell? ⟨pb, 1, none⟩ = some (.slice AT T.length cT) ∧ W.cell? ⟨pb, 2, none⟩ = some (.slice AZ Z.length cZ) ∧ W.cell? ⟨bb, boff + j * 2, none⟩ = some (.int .i64 a) ∧ W.cell? ⟨bb, boff + j * 2 + 1, none⟩ = some (.int .i64 b) := by
  obtain ⟨c0, c1, c2, _⟩ := h.st.cells
  obtain ⟨b', o', e', _, _, hc⟩ := h.bars.2 (by omega)
  rw [hA] at e'
  cases e'
  have := hc j hj
  rw [hx] at this
  exact ⟨h.gb.2.1, h.gb.2.2, c0, c1, c2, this.1, this.2⟩
end
/-- The new state beside it, whose rows are the call's own. -/
structure L6X (wr W : World) (xb : Nat) (f t z : Nat × Nat) (gF : Nat) (BT BZ : Option Addr) (dF dT dZ : Nat) (F T Z : List Int) : Prop where
  xst : Cel3 W xb 64 (.slice (some ⟨gF, 0, none⟩) F.length dF) (.slice BT T.length dT) (.slice BZ Z.length dZ)
  own : OwnF W f t z (some ⟨gF, 0, none⟩) dF BT dT BZ dZ F T Z
  gf : f.1 ≤ gF ∧ gF < f.2
  ge : wr.heap.size ≤ f.1 ∧ wr.heap.size ≤ t.1 ∧ wr.heap.size ≤ z.1 ∧ wr.heap.size ≤ xb
  xd : (xb < f.1 ∨ f.2 ≤ xb) ∧ (xb < t.1 ∨ t.2 ≤ xb) ∧ (xb < z.1 ∨ z.2 ≤ xb)
  le : t.1 ≤ W.heap.size ∧ z.1 ≤ W.heap.size
  bel : Below wr.heap.size wr W
section
variable {wr W W' : World} {xb gF dF dT dZ : Nat} {f t z : Nat × Nat} {BT BZ : Option Addr} {F T Z : List Int}
theorem L6X.below (h : L6X wr W xb f t z gF BT BZ dF dT dZ F T Z) (hb : Below W.heap.size W W') : L6X wr W' xb f t z gF BT BZ dF dT dZ F T Z :=
  ⟨h.xst.kept hb, h.own.below hb, h.gf, h.ge, h.xd, ⟨Nat.le_trans h.le.1 hb.size, Nat.le_trans h.le.2 hb.size⟩, below_on h.bel hb h.bel.size⟩
theorem L6X.row (h : L6X wr W xb f t z gF BT BZ dF dT dZ F T Z) (hF : 0 < F.length) : W.ownsRow 0 3 1 (.slice (some ⟨gF, 0, none⟩) F.length dF) F.length (intCells F) := by
  obtain ⟨g, e, _, _, ho⟩ := h.own.1.open_ hF
  cases e
  exact ho
theorem L6X.cellF (h : L6X wr W xb f t z gF BT BZ dF dT dZ F T Z) {i : Nat} (hi : i < F.length) : W.cell? ⟨gF, i, none⟩ = some (.int .i64 (F.getD i 0)) ∧ W.frozen? ⟨gF, i, none⟩ = false :=
  ⟨((h.row (by omega)).cellAt i (by omega)).trans (intCells_get F i (by omega)), (h.row (by omega)).frozenAt i⟩
theorem L6X.setF (h : L6X wr W xb f t z gF BT BZ dF dT dZ F T Z) (hF : 0 < F.length) (i : Nat) (v : Int) : L6X wr (W.setCell ⟨gF, i, none⟩ (.int .i64 v)) xb f t z gF BT BZ dF dT dZ (F.set i v) T Z := by
  have hw := within_set W gF i (.int .i64 v)
  obtain ⟨o1, o2, o3, d1, d2, d3⟩ := h.own
  have hg := h.gf
  have hx := h.xd
  have hge := h.ge
  have hst := ((h.row hF).stored i (.int .i64 v)).1
  rw [intCells_set] at hst
  have d1' := d1
  have d2' := d2
  unfold Dis at d1' d2'
  have hs := hw.size
  refine ⟨by rw [List.length_set]; exact h.xst.within hw (by omega), ⟨⟨Nat.le_trans o1.1 hs, .inr ⟨gF, rfl, hg.1, hg.2, ?_⟩⟩, o2.within hw (by omega), o3.within hw (by omega), d1, d2, d3⟩, hg, hge, hx, ⟨Nat.le_trans h.le.1 hs, Nat.le_trans h.le.2 hs⟩, within_on h.bel hw h.bel.size (.inl (by omega))⟩
  · rw [List.length_set]
    exact own_rebase hst hg.1
theorem L6X.pushT (h : L6X wr W xb f t z gF BT BZ dF dT dZ F T Z) {A' : Option Addr} {c' lo' hi' : Nat} {y : Int} (hr : OwnR W' lo' hi' A' c' (T ++ [y])) (hd : (lo' = t.1 ∧ hi' = t.2) ∨ (W.heap.size ≤ lo' ∧ lo' ≤ W'.heap.size ∧ hi' ≤ W'.heap.size)) (hw : Within t.1 t.2 W W') :
    Cel3 W' xb 64 (.slice (some ⟨gF, 0, none⟩) F.length dF) (.slice BT T.length dT) (.slice BZ Z.length dZ) ∧ L6X wr (W'.setCell ⟨xb, 1, none⟩ (.slice A' (T.length + 1) c')) xb f (lo', hi') z gF A' BZ dF c' dZ F (T ++ [y]) Z := by
  obtain ⟨o1, o2, o3, d1, d2, d3⟩ := h.own
  have hx := h.xd
  have hge := h.ge
  have hle := h.le
  have hlt := h.xst.lt
  have s1 := hw.size
  have r1 := o1.1
  have r3 := o3.1
  have hx5 := h.xst.within hw hx.2.1
  have hs := within_set W' xb 1 (.slice A' (T.length + 1) c')
  unfold Dis at d1 d2 d3
  have p1 := (o1.within hw (by omega)).within hs (by omega)
  have p3 := (o3.within hw (by omega)).within hs (by omega)
  have p2 := hr.within hs (by omega)
  have s2 := hs.size
  have hb1 : Below wr.heap.size wr W' := within_on h.bel hw h.bel.size (.inl (by omega))
  refine ⟨hx5, ⟨?_, ⟨p1, p2, p3, ?_, d2, ?_⟩, h.gf, ⟨hge.1, by show _ ≤ lo'; have := h.bel.size; omega, hge.2.2.1, hge.2.2.2⟩, ⟨hx.1, by show xb < lo' ∨ hi' ≤ xb; omega, hx.2.2⟩, ⟨by show lo' ≤ _; omega, by omega⟩, within_on hb1 hs hb1.size (.inl (by omega))⟩⟩
  · have := hx5.set1 (.slice A' (T.length + 1) c')
    rwa [List.length_append, List.length_singleton]
  · unfold Dis; show f.2 ≤ lo' ∨ hi' ≤ f.1; omega
  · unfold Dis; show hi' ≤ z.1 ∨ z.2 ≤ lo'; omega
theorem L6X.pushZ (h : L6X wr W xb f t z gF BT BZ dF dT dZ F T Z) {A' : Option Addr} {c' lo' hi' : Nat} {y : Int} (hr : OwnR W' lo' hi' A' c' (Z ++ [y])) (hd : (lo' = z.1 ∧ hi' = z.2) ∨ (W.heap.size ≤ lo' ∧ lo' ≤ W'.heap.size ∧ hi' ≤ W'.heap.size)) (hw : Within z.1 z.2 W W') :
    Cel3 W' xb 64 (.slice (some ⟨gF, 0, none⟩) F.length dF) (.slice BT T.length dT) (.slice BZ Z.length dZ) ∧ L6X wr (W'.setCell ⟨xb, 2, none⟩ (.slice A' (Z.length + 1) c')) xb f t (lo', hi') gF BT A' dF dT c' F T (Z ++ [y]) := by
  obtain ⟨o1, o2, o3, d1, d2, d3⟩ := h.own
  have hx := h.xd
  have hge := h.ge
  have hle := h.le
  have hlt := h.xst.lt
  have s1 := hw.size
  have r1 := o1.1
  have r2 := o2.1
  have hx5 := h.xst.within hw hx.2.2
  have hs := within_set W' xb 2 (.slice A' (Z.length + 1) c')
  unfold Dis at d1 d2 d3
  have p1 := (o1.within hw (by omega)).within hs (by omega)
  have p2 := (o2.within hw (by omega)).within hs (by omega)
  have p3 := hr.within hs (by omega)
  have s2 := hs.size
  have hb1 : Below wr.heap.size wr W' := within_on h.bel hw h.bel.size (.inl (by omega))
  refine ⟨hx5, ⟨?_, ⟨p1, p2, p3, d1, ?_, ?_⟩, h.gf, ⟨hge.1, hge.2.1, by show _ ≤ lo'; have := h.bel.size; omega, hge.2.2.2⟩, ⟨hx.1, hx.2.1, by show xb < lo' ∨ hi' ≤ xb; omega⟩, ⟨by omega, by show lo' ≤ _; omega⟩, within_on hb1 hs hb1.size (.inl (by omega))⟩⟩
  · have := hx5.set2 (.slice A' (Z.length + 1) c')
    rwa [List.length_append, List.length_singleton]
  · unfold Dis; show f.2 ≤ lo' ∨ hi' ≤ f.1; omega
  · unfold Dis; show t.2 ≤ lo' ∨ hi' ≤ t.1; omega
end
/-- The new state becomes the state. -/
theorem L6X.done {w wr W : World} {P cap pb lo hi cF cT cZ xb gF dF dT dZ : Nat} {A AF AT AZ BT BZ : Option Addr} {l : List (Int × Int)} {F T Z F' T' Z' : List Int} {f t z : Nat × Nat} (h0 : L6I w wr P A cap l pb lo hi AF AT AZ cF cT cZ F T Z) (h : L6X wr W xb f t z gF BT BZ dF dT dZ F' T' Z') (hpb : pb < wr.heap.size) :
    L6I w (((W.setCell ⟨pb, 0, none⟩ (.slice (some ⟨gF, 0, none⟩) F'.length dF)).setCell ⟨pb, 1, none⟩ (.slice BT T'.length dT)).setCell ⟨pb, 2, none⟩ (.slice BZ Z'.length dZ)) P A cap l pb wr.heap.size W.heap.size (some ⟨gF, 0, none⟩) BT BZ dF dT dZ F' T' Z' := by
  have h1 := h0.below h.bel
  have r3 := ret3 h1.st (.slice (some ⟨gF, 0, none⟩) F'.length dF) (.slice BT T'.length dT) (.slice BZ Z'.length dZ)
  obtain ⟨o1, o2, o3, _⟩ := h.own
  have hge := h.ge
  have hs := r3.2.size
  have hlo := h0.hlo
  exact ⟨h1.gb.within r3.2 (by omega), r3.1, ⟨((o1.ints.reads.widen hge.1 o1.1 (Nat.le_refl _)).within r3.2 (by omega)), ((o2.ints.reads.widen hge.2.1 o2.1 (Nat.le_refl _)).within r3.2 (by omega)), ((o3.ints.reads.widen hge.2.2.1 o3.1 (Nat.le_refl _)).within r3.2 (by omega))⟩, h1.bars.within r3.2 (.inl (by omega)), within_on h1.bel r3.2 h1.bel.size (.inl (by omega)), ⟨hlo.1, .inl hpb⟩⟩
/-- One bar more, on lists. -/
theorem l6_none {P : Nat} {l : List (Int × Int)} {j : Nat} (e : gathR (plE l (runN P 2 3 l j).2.2) (l.getD j (0, 0)).1 (l.getD j (0, 0)).2 4 ((runN P 2 3 l j).1, (runN P 2 3 l j).2.1) = none) : runN P 2 3 l (j + 1) = runN P 2 3 l j := by
  rw [runN]
  unfold plaR
  rw [Int.toNat_natCast, show (3 : Int) + 1 = 4 from rfl, e]
  rfl
theorem l6_some {P : Nat} {l : List (Int × Int)} {j a b : Nat} (h : PebS P 2 (plE l (runN P 2 3 l j).2.2) (runN P 2 3 l j).1 (runN P 2 3 l j).2.1) (hx : l.getD j (0, 0) = ((a : Int), (b : Int))) (ha : a < P) (hb : b < P) (hab : a ≠ b) {s : List Int × List Int} (e : gathR (plE l (runN P 2 3 l j).2.2) (a : Int) (b : Int) 4 ((runN P 2 3 l j).1, (runN P 2 3 l j).2.1) = some s) :
    runN P 2 3 l (j + 1) = (s.1.set a (s.1.getD a 0 - 1), s.2 ++ [(a : Int)], (runN P 2 3 l j).2.2 ++ [(j : Int)]) ∧ s.1.length = P ∧ s.1.getD a 0 = 2 ∧ s.2.length = (runN P 2 3 l j).2.1.length := by
  obtain ⟨g1, g2⟩ := gathR_ok (P := P) (k := 2) (by omega) (by omega) (by omega) h e
  have q1 := g1.small (v := (a : Int)) (by omega)
  have q2 := g1.small (v := (b : Int)) (by omega)
  rw [Int.toNat_natCast] at q1 q2
  rw [Int.toNat_natCast, Int.toNat_natCast] at g2
  refine ⟨?_, g1.flen, by omega, by rw [g1.ends.len, h.ends.len]⟩
  rw [runN]
  unfold plaR
  rw [Int.toNat_natCast, show (3 : Int) + 1 = 4 from rfl, hx]
  simp only [Int.toNat_natCast]
  rw [e]
  have : ¬ s.1.getD a 0 = 0 := by omega
  simp only [Option.map_some, Option.getD_some, if_neg this]
theorem l6_facts {P : Nat} {l : List (Int × Int)} (hb : Bars P l) (hP : 1 ≤ P ∧ P ≤ 8) {j : Nat} (hj : j ≤ l.length) : PebS P 2 (plE l (runN P 2 3 l j).2.2) (runN P 2 3 l j).1 (runN P 2 3 l j).2.1 ∧ (runN P 2 3 l j).2.2.length ≤ j ∧ ∀ i, i < (runN P 2 3 l j).2.2.length → 0 ≤ (runN P 2 3 l j).2.2.getD i 0 ∧ (runN P 2 3 l j).2.2.getD i 0 < (j : Int) := by
  have h := runN_gm (k := 2) (c := 3) hb hP (by omega) (by omega) j hj
  refine ⟨h.st, ?_, fun i hi => ?_⟩
  · have h1 := congrArg List.length h.only
    rw [plE_len] at h1
    rw [← h1]
    exact onlyK_len _ _ _
  · have e : (runN P 2 3 l j).2.2.getD i 0 = (runN P 2 3 l j).2.2[i] := by simp [List.getD, List.getElem?_eq_getElem hi]
    rw [e]
    exact h.zs _ (List.getElem_mem hi)
end Go.Proofs.Ytdnmmjaelgjkaaa
/- What spec.l4Gather answers on a list of up to 25 bars. No condition. -/
namespace Go.Proofs.Ytdnmmjaelgjkaaa
open Go.RowKit

set_option maxHeartbeats 4000000 in
set_option maxRecDepth 100000 in
theorem shift5_c (P : Nat) (l : List (Int × Int)) (A : Option Addr) (cap : Nat) (AF AT AZ : Option Addr) (cF cT cZ lo hi : Nat) (F T Z : List Int) (a u : Int) (q : List (Int × Nat)) (TF FR : List Int) (Af : Option Addr) (cf lf hf : Nat) (w : World) (hl : BarsAt w w.heap.size A l) (h : Peb3 w lo hi AF AT AZ F T Z) (hn : l.length ≤ 25) (hFP : F.length = P) (hP : 1 ≤ P ∧ P ≤ 8) (hTZ : T.length = Z.length) (hZ24 : Z.length ≤ 24)
    (hZ : ∀ i, i < Z.length → 0 ≤ Z.getD i 0 ∧ Z.getD i 0 < (l.length : Int)) (hq : TurnI P (plE l Z) T a q TF u T) (hfr : IntsIn w lf hf Af FR) (hFR : FR.length = P) (hfq : ∀ x ∈ q, x.1 ≠ a → FR.getD x.1.toNat 0 = (x.2 : Int)) (ha : 0 ≤ a ∧ a < (P : Int)) (hu : 0 ≤ u ∧ u < (P : Int)) (hua : u ≠ a) (hFu : 0 ≤ F.getD u.toNat 0 ∧ F.getD u.toNat 0 ≤ 3) (hFa : 0 ≤ F.getD a.toNat 0 ∧ F.getD a.toNat 0 ≤ 3) :
    Calls Try.prog 160 #[.agg #[.int .i64 (P : Int), .slice A l.length cap], pebV AF F.length cF AT T.length cT AZ Z.length cZ, .slice Af FR.length cf, .int .i64 a, .int .i64 u] w (PebR w (movF F a u) TF Z) := by
  obtain ⟨an, rfl⟩ : ∃ an : Nat, a = (an : Int) := ⟨a.toNat, by omega⟩
  obtain ⟨un, rfl⟩ : ∃ un : Nat, u = (un : Int) := ⟨u.toNat, by omega⟩
  rw [Int.toNat_natCast] at hFu hFa
  subst hFP
  have hT0 : 0 < T.length := by
    obtain ⟨i, _, hi, _⟩ := hq.next hua
    rw [plE_len] at hi
    omega
  have hT24 : T.length ≤ 24 := by omega
  have HTZ := Lib.hid hTZ
  have HFL := Lib.hid hFR
  clear hTZ hFR
  have hhi : hi ≤ w.heap.size := h.f.1
  have hhf : hf ≤ w.heap.size := hfr.1
  have HI0 := Lib.hid (GtI.start w (F.length : Int) A cap l AF AT AZ cF cT cZ lo hi F T Z hl h)
  have HFR0 := Lib.hid (hfr.within (within_of HI0.out.bel) (.inr (Nat.zero_le _)))
  have HQ := Lib.hid hq
  have HZ := Lib.hid hZ
  have HFQ := Lib.hid hfq
  have HE := Lib.hid (fun i hi => plE_get l Z i hi)
  have HEL := Lib.hid (plE_len l Z)
  generalize plE l Z = E at *
  obtain ⟨g0, g1, g2, _, _, _⟩ := HI0.out.pb.cells
  clear hl h hfr hq hZ hfq
  go_enter Try.func160, Try.ntmps160
  have hsz3 : (((w.alloc (.cells #[.int .i64 (F.length : Int), .slice A l.length cap] 29)).alloc (.cells #[.slice AF F.length cF, .slice AT T.length cT, .slice AZ Z.length cZ] 64)).alloc (.cells #[.slice none 0 0, .slice none 0 0, .slice none 0 0] 64)).heap.size = w.heap.size + 3 := by simp
  go_wp2_with (go_at_call 127; refine (copyPeb_c AF AT AZ cF cT cZ lo hi F T Z _ HI0.out.src (by omega) (by omega) (by omega)).mono ?_; rintro e w4 ⟨BF, dF, BT, dT, BZ, dZ, rfl, ho, hb⟩; have hb5 := new_below w4 (.cells #[.slice BF F.length dF, .slice BT T.length dT, .slice BZ Z.length dZ] 64); have HI5 := Lib.hid ((HI0.out.below hb).below hb5); have HX5 := Lib.hid (cel3_new w4 (.slice BF F.length dF) (.slice BT T.length dT) (.slice BZ Z.length dZ) 64); have HFR5 := Lib.hid ((HFR0.out.within (within_of hb) (.inr (Nat.zero_le _))).within (within_of hb5) (.inr (Nat.zero_le _))); obtain ⟨f, t, z, hof, y1, y2, y3⟩ := ho.ownF; have HO5 := Lib.hid (hof.below hb5); have hh4 := hof.hi; clear hof; have hlo := hb.size; rw [hsz3] at hlo y1 y2 y3; obtain ⟨x2, x3, x4, _, _, _⟩ := HX5.out.cells; clear ho hb hb5 g0 g1 g2)
  clear x2 x3 x4
  have HIS := Lib.hid hsz3
  clear hsz3
  generalize hw5 : (w4.alloc (.cells #[.slice BF F.length dF, .slice BT T.length dT, .slice BZ Z.length dZ] 64)) = w5 at *
  have hs5 : w4.heap.size < w5.heap.size := by rw [← hw5]; simp
  clear hw5
  generalize w4.heap.size = bx at *
  obtain ⟨gF, gT, rfl, rfl, bF, bT, hst⟩ := HO5.out.open_ (by omega) hT0
  have HOZ := Lib.hid HO5.out.2.2
  obtain ⟨hc1, hf1⟩ := hst.cellF un (by omega)
  obtain ⟨d, hd⟩ : ∃ d, d = F.getD un 0 := ⟨_, rfl⟩
  obtain ⟨e, he⟩ : ∃ e, e = F.getD an 0 := ⟨_, rfl⟩
  have hne : an ≠ un := by omega
  have hst1 := hst.setF un (d - 1)
  have HEE := Lib.hid he
  rw [← hd] at hc1 hFu
  rw [← he] at hFa
  have HMV := Lib.hid (show (F.set un (d - 1)).set an (e + 1) = movF F (an : Int) (un : Int) by unfold movF; rw [Int.toNat_natCast, Int.toNat_natCast, hd, he])
  clear hd he
  have hw1 := within_set w5 gF un (.int .i64 (d - 1))
  have hdr : Below (w5.setCell ⟨gF, un, none⟩ (.int .i64 (d - 1))).heap.size (w5.setCell ⟨gF, un, none⟩ (.int .i64 (d - 1))) (w5.setCell ⟨gF, un, none⟩ (.int .i64 (d - 1))).drew := (Below.refl _ _).drew
  obtain ⟨x0, x1, x2, _, _, _⟩ := HX5.out.cells
  have HI6 := Lib.hid ((HI5.out.within hw1 (by omega) (by omega)).below hdr)
  have HX6 := Lib.hid ((HX5.out.within hw1 (by omega)).kept hdr)
  have HST6 := Lib.hid (hst1.below hdr)
  have HFR6 := Lib.hid ((HFR5.out.within hw1 (by omega)).within (within_of hdr) (.inr (Nat.zero_le _)))
  have HOZ6 := Lib.hid ((HOZ.out.1.within hw1 (by have := HOZ.out.2; unfold Dis at this; omega)).within (within_of hdr) (.inr (Nat.zero_le _)))
  have HZR := Lib.hid HOZ.out.2
  have hs6 := Nat.le_trans hw1.size hdr.size
  clear hst hst1 hw1 hdr HOZ
  have huF : (un : Int) < (F.length : Int) := hu.2
  have haF : (an : Int) < (F.length : Int) := ha.2
  go_region
  go_wp2_with fail
  clear x0 x1 x2 hc1 hf1
  generalize (w5.setCell ⟨gF, un, none⟩ (.int .i64 (d - 1))).drew = w6 at *
  obtain ⟨x0, x1, x2, _, _, _⟩ := HX6.out.cells
  obtain ⟨hc2, hf2⟩ := HST6.out.cellF an (by rw [List.length_set]; omega)
  rw [set_getD_ne _ _ _ _ _ hne, ← HEE.out] at hc2
  have hw2 := within_set w6 gF an (.int .i64 (e + 1))
  have hdr2 : Below (w6.setCell ⟨gF, an, none⟩ (.int .i64 (e + 1))).heap.size (w6.setCell ⟨gF, an, none⟩ (.int .i64 (e + 1))) (w6.setCell ⟨gF, an, none⟩ (.int .i64 (e + 1))).drew := (Below.refl _ _).drew
  have hst7 := (HST6.out.setF an (e + 1)).below hdr2
  rw [HMV.out] at hst7
  have HS7 := Lib.hid (show ShL w (w6.setCell ⟨gF, an, none⟩ (.int .i64 (e + 1))).drew (F.length : Int) A cap l AF AT AZ cF cT cZ lo hi F T Z bx gF dF gT dT BZ dZ z lf hf Af FR (movF F (an : Int) (un : Int)) T from ⟨(HI6.out.within hw2 (by omega) (by omega)).below hdr2, (HX6.out.within hw2 (by omega)).kept hdr2, hst7, (HFR6.out.within hw2 (by omega)).within (within_of hdr2) (.inr (Nat.zero_le _)), (HOZ6.out.within hw2 (by have := HZR.out; unfold Dis at this; omega)).within (within_of hdr2) (.inr (Nat.zero_le _))⟩)
  have hs7 := Nat.le_trans hw2.size hdr2.size
  clear hst7 hw2 hdr2 HI6 HX6 HST6 HFR6 HOZ6 HMV HEE
  go_region
  go_wp2_with fail
  clear x0 x1 x2 hc2 hf2
  generalize (w6.setCell ⟨gF, an, none⟩ (.int .i64 (e + 1))).drew = w7 at *
  go_loopw [12] (fun v wr => ∃ (t : Int) (T' : List Int), v = .int .i64 t ∧ TurnI F.length E T (an : Int) q TF t T' ∧ w5.heap.size ≤ wr.heap.size ∧ ShL w wr (F.length : Int) A cap l AF AT AZ cF cT cZ lo hi F T Z bx gF dF gT dT BZ dZ z lf hf Af FR (movF F (an : Int) (un : Int)) T') (fun v _ => posQ q (intOf v))
  case atStart => exact ⟨un, T, rfl, HQ.out, by omega, HS7.out⟩
  case round =>
    obtain ⟨t, T', rfl, ht, hsz, hs⟩ := hrel
    have HS := Lib.hid hs
    obtain ⟨x0, x1, x2, _, _, _⟩ := hs.x.cells
    clear hs HS7
    by_cases c : t = (an : Int)
    · subst c
      have HTF := Lib.hid ht.done
      have hlen := ht.len
      clear ht
      have e1 : ((an : Int) != (an : Int)) = false := by simp
      have r3 := ret3 HS.out.g.rb (.slice (some ⟨gF, 0, none⟩) F.length dF) (.slice (some ⟨gT, 0, none⟩) T.length dT) (.slice BZ Z.length dZ)
      obtain ⟨_, _, _, f0, f1, f2⟩ := HS.out.g.rb.cells
      obtain ⟨s0, s1, s2, _⟩ := r3.1.cells
      have HW := Lib.hid r3.2
      clear r3
      go_wp2_with fail
      refine bodyPost_ret (v := pebV (some ⟨gF, 0, none⟩) F.length dF (some ⟨gT, 0, none⟩) T.length dT BZ Z.length dZ) ?_ rfl ?_
      · simp [results, Try.results160, go_sem, s0, s1, s2]
      · have hd := HZR.out
        unfold Dis at hd
        have ho := HS.out.s.ownF bF bT (by omega) (by omega) HS.out.oz hd.1 hd.2.1 hd.2.2
        have hw := HW.out.size
        have hTF : TF.length = T.length := by rw [← HTF.out, hlen, HEL.out, HTZ.out]
        rw [HTF.out] at ho
        exact ⟨_, _, _, _, _, _, by rw [movF_len, hTF], (ho.within HW.out (by omega) (by omega) (by omega)).own3R (by omega) (by omega) (by omega) (Nat.le_refl _), within_on HS.out.g.bel HW.out HS.out.g.bel.size (.inl (by omega))⟩
    · have e1 : (t != (an : Int)) = true := by simpa using c
      obtain ⟨i, hi1, hi2, hi3, hi4, hend, hor, hi5, hi6⟩ := ht.next c
      have HX := Lib.hid hi5
      have HM := Lib.hid hi6
      have hEi := HE.out i (by have := HEL.out; omega)
      have hbar := ht.ends.bar i hi2
      have hfi := HFQ.out (t, i) hi1 c
      have hiZ : i < Z.length := by have := HEL.out; omega
      have hlen := ht.len
      clear ht hi1 hi4 hi5 hi6 c
      obtain ⟨tn, rfl⟩ : ∃ tn : Nat, t = (tn : Int) := ⟨t.toNat, by omega⟩
      simp only [Int.toNat_natCast] at hfi
      obtain ⟨fb, fo, rfl, hfc⟩ := row_at HS.out.fr (by have := HFL.out; omega)
      have hfn := hfc tn (by have := HFL.out; omega)
      rw [hfi] at hfn
      obtain ⟨zb, zo, rfl, hzc⟩ := row_at HS.out.g.src.z (by omega)
      have hz := hzc i hiZ
      have hzr := HZ.out i hiZ
      obtain ⟨n, hnz⟩ : ∃ n : Nat, Z.getD i 0 = (n : Int) := ⟨(Z.getD i 0).toNat, by omega⟩
      rw [hnz] at hz hzr hEi
      rw [Int.toNat_natCast] at hEi
      obtain ⟨b, off, rfl, hbB, hbc⟩ := HS.out.g.bars.at (by omega)
      have hx1 := (hbc n (by omega)).1
      have hx2 := (hbc n (by omega)).2
      rw [← hEi] at hx1 hx2
      obtain ⟨v, hv⟩ : ∃ v, oth (E.getD i (0, 0)) (tn : Int) = v := ⟨_, rfl⟩
      obtain ⟨x, hxd⟩ : ∃ x, E.getD i (0, 0) = x := ⟨_, rfl⟩
      rw [hv] at HX HM hor
      rw [hxd] at hx1 hx2 hbar hend hv
      clear hEi hxd hzc hbc hfc hnz
      obtain ⟨x1', x2'⟩ := x
      simp only at hx1 hx2 hbar
      have HV := Lib.hid hv
      clear hv hend
      have htF : (tn : Int) < (FR.length : Int) := by have := HFL.out; omega
      have hiZi : (i : Int) < (Z.length : Int) := by omega
      have hnl : (n : Int) < (l.length : Int) := by omega
      have hiT : (i : Int) < (T.length : Int) := by have := HTZ.out; omega
      obtain ⟨_, gx0, gx1⟩ := HS.out.g.gb
      obtain ⟨p0, p1, p2, _, _, _⟩ := HS.out.g.pb.cells
      have HKK := Lib.hid (show (fun W' => W'.cell? ⟨w.heap.size, 1, none⟩ = some (.slice (some ⟨b, off, none⟩) l.length cap) ∧ W'.cell? ⟨w.heap.size + 1, 2, none⟩ = some (.slice (some ⟨zb, zo, none⟩) Z.length cZ) ∧ W'.cell? ⟨zb, zo + i, none⟩ = some (.int .i64 (n : Int)) ∧ W'.cell? ⟨b, off + n * 2, none⟩ = some (.int .i64 x1') ∧ W'.cell? ⟨b, off + n * 2 + 1, none⟩ = some (.int .i64 x2')) wr from ⟨gx1, p2, hz, hx1, hx2⟩)
      have HSD := Lib.hid (HS.out.below (Below.refl _ _).drew)
      go_wp2_with fail
      clear gx0 gx1 p0 p1 p2 x0 x1 x2
      go_region_held3 (fun W' => W'.cell? ⟨w.heap.size, 1, none⟩ = some (.slice (some ⟨b, off, none⟩) l.length cap) ∧ W'.cell? ⟨w.heap.size + 1, 2, none⟩ = some (.slice (some ⟨zb, zo, none⟩) Z.length cZ) ∧ W'.cell? ⟨zb, zo + i, none⟩ = some (.int .i64 (n : Int)) ∧ W'.cell? ⟨b, off + n * 2, none⟩ = some (.int .i64 x1') ∧ W'.cell? ⟨b, off + n * 2 + 1, none⟩ = some (.int .i64 x2'))
        (first | exact HKK.out | exact HK5.out | fail)
        (first | (go_at_call 159; refine (other_c (x1', x2') (tn : Int) _ (by omega) (by omega) (by omega)).mono ?_; rintro e w8 ⟨rfl, hb⟩; rw [HV.out]; have HS8 := Lib.hid (HSD.out.below hb); have hsz8 := hb.size; have HK5 := Lib.hid (show (fun W' => W'.cell? ⟨w.heap.size, 1, none⟩ = some (.slice (some ⟨b, off, none⟩) l.length cap) ∧ W'.cell? ⟨w.heap.size + 1, 2, none⟩ = some (.slice (some ⟨zb, zo, none⟩) Z.length cZ) ∧ W'.cell? ⟨zb, zo + i, none⟩ = some (.int .i64 (n : Int)) ∧ W'.cell? ⟨b, off + n * 2, none⟩ = some (.int .i64 x1') ∧ W'.cell? ⟨b, off + n * 2 + 1, none⟩ = some (.int .i64 x2')) w8 from ⟨HS8.out.g.gb.2.2, HS8.out.g.pb.cells.2.2.1, (hb.cell (p := ⟨zb, zo + i, none⟩) (World.block_lt_of_cell? _ _ HKK.out.2.2.1)).trans HKK.out.2.2.1, (hb.cell (p := ⟨b, off + n * 2, none⟩) (World.block_lt_of_cell? _ _ HKK.out.2.2.2.1)).trans HKK.out.2.2.2.1, (hb.cell (p := ⟨b, off + n * 2 + 1, none⟩) (World.block_lt_of_cell? _ _ HKK.out.2.2.2.2)).trans HKK.out.2.2.2.2⟩); clear hb))
      obtain ⟨y0, y1', y2', _, _, _⟩ := HS8.out.x.cells
      obtain ⟨hct, hft⟩ := HS8.out.s.cellT i (by omega)
      have hd := HZR.out
      unfold Dis at hd
      have HN := Lib.hid (HS8.out.setT (by omega) (by omega) (by omega) (by omega) (by omega) i (tn : Int))
      go_wp2_with fail
      go_roundw
      case rel => exact ⟨v, _, rfl, HX.out, by simpa using (by have : wr.drew.heap.size = wr.heap.size := rfl; omega), HN.out⟩
      case measure => exact HM.out
set_option maxHeartbeats 8000000 in
set_option maxRecDepth 100000 in
theorem find5_c (k0 : Int) (l : List (Int × Int)) (A : Option Addr) (cap : Nat) (AF AT AZ : Option Addr) (cF cT cZ lo hi : Nat) (F T Z : List Int) (a b : Int) (w : World) (hS : PebS F.length k0 (plE l Z) F T) (hP : 1 ≤ F.length ∧ F.length ≤ 8) (hk0 : k0 ≤ 3) (hn : l.length ≤ 25) (hz24 : Z.length ≤ 24)
    (hZ : ∀ i, i < Z.length → 0 ≤ Z.getD i 0 ∧ Z.getD i 0 < (l.length : Int)) (ha : 0 ≤ a ∧ a < (F.length : Int)) (hl : BarsAt w w.heap.size A l) (h : Peb3 w lo hi AF AT AZ F T Z) :
    Calls Try.prog 149 #[.agg #[.int .i64 (F.length : Int), .slice A l.length cap], pebV AF F.length cF AT T.length cT AZ Z.length cZ, .int .i64 a, .int .i64 b] w (FindP w (pebV AF F.length cF AT T.length cT AZ Z.length cZ) (plE l Z) F T Z a b) := by
  obtain ⟨an, rfl⟩ : ∃ an : Nat, a = (an : Int) := ⟨a.toNat, by omega⟩
  have hhi : hi ≤ w.heap.size := h.f.1
  have HI0 := Lib.hid (GtI.start w (F.length : Int) A cap l AF AT AZ cF cT cZ lo hi F T Z hl h)
  have HTZ := Lib.hid (show T.length = Z.length by rw [hS.ends.len, plE_len])
  have HE := Lib.hid (show ∀ i, i < Z.length → (plE l Z).getD i (0, 0) = l.getD (Z.getD i 0).toNat (0, 0) from fun i hi => plE_get l Z i hi)
  have HG := Lib.hid (fun k => bfs_good (T := T) hS.ends ha.1 ha.2 k)
  have HS := Lib.hid hS
  have HZ := Lib.hid hZ
  have HEL := Lib.hid (plE_len l Z)
  have HSH := Lib.hid (fun (u : Int) (q : List (Int × Nat)) (TF FR : List Int) (Af : Option Addr) (cf lf hf : Nat) (W : World) (h1 : BarsAt W W.heap.size A l) (h2 : Peb3 W lo hi AF AT AZ F T Z) (h3 : TurnI F.length (plE l Z) T (an : Int) q TF u T) (h4 : IntsIn W lf hf Af FR) (h5 : FR.length = F.length) (h6 : ∀ x ∈ q, x.1 ≠ (an : Int) → FR.getD x.1.toNat 0 = (x.2 : Int)) (h7 : 0 ≤ u ∧ u < (F.length : Int)) (h8 : u ≠ (an : Int)) => shift5_c F.length l A cap AF AT AZ cF cT cZ lo hi F T Z (an : Int) u q TF FR Af cf lf hf W h1 h2 hn rfl hP (by rw [hS.ends.len, plE_len]) hz24 hZ h3 h4 h5 h6 ha h7 h8 (by have := hS.small h7; omega) (by have := hS.small ha; omega))
  generalize plE l Z = E at *
  clear hS hZ hl h
  have hs3 : (((w.alloc (.cells #[.int .i64 (F.length : Int), .slice A l.length cap] 29)).alloc (.cells #[.slice AF F.length cF, .slice AT T.length cT, .slice AZ Z.length cZ] 64)).alloc (.cells #[.slice none 0 0, .slice none 0 0, .slice none 0 0] 64)).heap.size = w.heap.size + 3 := by simp
  have HS3 := Lib.hid hs3
  clear hs3
  go_enter Try.func149, Try.ntmps149
  obtain ⟨_, g0, g1⟩ := HI0.out.gb
  go_wp2_with (at_make; generalize (((w.alloc (.cells #[.int .i64 (F.length : Int), .slice A l.length cap] 29)).alloc (.cells #[.slice AF F.length cF, .slice AT T.length cT, .slice AZ Z.length cZ] 64)).alloc (.cells #[.slice none 0 0, .slice none 0 0, .slice none 0 0] 64)) = w3 at *; refine wpList_mkn _ rfl _ _ 40 rfl w3.heap.size 3 (.int .i64 0) 8 Try.underlying40 infoInt rfl _ _ _ _ F.length rfl rfl rfl rfl (by omega) (by unfold maxLen; omega) (Nat.le_refl _) ?_; intro w4 hown4 hb4; have HO4 := Lib.hid hown4; have HI4 := Lib.hid (HI0.out.below hb4); have hsz4 := (hown4.lt _ rfl).2; clear hown4 hb4)
  clear g0 g1 HI0
  have hgf : w.heap.size + 3 ≤ w3.heap.size := Nat.le_of_eq HS3.out.symm
  clear HS3
  generalize w3.heap.size = gf at *
  go_loopw [11] (fun i wr => ∃ (j : Nat) (FR : List Int), j ≤ F.length ∧ i = .int .i64 j ∧ FR.length = F.length ∧ gf < wr.heap.size ∧ wr.ownsRow gf 3 1 (.slice (some ⟨gf, 0, none⟩) F.length F.length) F.length (intCells FR) ∧ GtI w wr (F.length : Int) A cap l AF AT AZ cF cT cZ lo hi F T Z) (fun i _ => F.length - (intOf i).toNat)
  case atStart => exact ⟨0, List.replicate F.length 0, Nat.zero_le _, rfl, by simp, hsz4, by simpa [intCells] using HO4.out, HI4.out⟩
  case round =>
    clear HO4 HI4 hsz4
    obtain ⟨j, FR, hj, rfl, hfl, hsz, hown, hg⟩ := hrel
    have HO := Lib.hid hown
    have HGI := Lib.hid hg
    have HFL := Lib.hid hfl
    obtain ⟨_, g0, g1⟩ := hg.gb
    clear hown hg hfl
    by_cases hlt : j < F.length
    · have hji : (j : Int) < (F.length : Int) := by omega
      have hf := HO.out.frozenAt j
      have hc := (HO.out.cellAt j (show j < F.length * 1 by omega)).trans (intCells_get FR j (by rw [HFL.out]; exact hlt))
      have hst := (HO.out.stored j (.int .i64 (-1))).1
      rw [intCells_set] at hst
      have hw := within_set wr gf j (.int .i64 (-1))
      have HN := Lib.hid (show (wr.setCell ⟨gf, j, none⟩ (.int .i64 (-1))).ownsRow gf 3 1 (.slice (some ⟨gf, 0, none⟩) F.length F.length) F.length (intCells (FR.set j (-1))) from hst)
      have HGN := Lib.hid (HGI.out.within hw (by omega) (by omega))
      clear hst hw
      go_wp2_with fail
      go_roundw
      case rel => exact ⟨j + 1, FR.set j (-1), by omega, by go_num, by rw [List.length_set]; exact HFL.out, by simpa using hsz, HN.out, HGN.out⟩
      case measure => simp [intOf]; omega
    · obtain rfl : j = F.length := by omega
      have hal := new_below wr (.cells #[.int .i64 (an : Int)] 3)
      have hrow := World.ownsRow_lit (base := w.heap.size + 3) (e := 3) (size := 1) wr #[.int .i64 (an : Int)] 1 (by omega) (by unfold maxLen; omega) (by simp)
      have HQ0 := Lib.hid hrow
      have HO5 := Lib.hid (own_below HO.out hal)
      have HG5 := Lib.hid (HGI.out.below hal)
      have hs5 : (wr.alloc (.cells #[.int .i64 (an : Int)] 3)).heap.size = wr.heap.size + 1 := by simp
      have HS5 := Lib.hid hs5
      obtain ⟨_, k0', k1⟩ := HG5.out.gb
      have haF : (an : Int) < (F.length : Int) := ha.2
      clear hal hrow hs5
      go_wp2_with (at_make; generalize (wr.alloc (.cells #[.int .i64 (an : Int)] 3)) = w5 at *; refine wpList_mkn _ rfl _ _ 142 rfl w5.heap.size 4 (.bool false) 1 Try.underlying142 infoB1 rfl _ _ _ _ F.length rfl rfl rfl rfl (by omega) (by unfold maxLen; omega) (Nat.le_refl _) ?_; intro w6 hown6 hb6; have hf6 := hown6.frozenAt an; have hc6 := hown6.cellAt an (show an < F.length * 1 by omega); have hc6' : w6.cell? ⟨w5.heap.size, an, none⟩ = some (.bool false) := hc6.trans (by rw [List.getElem?_replicate, if_pos (show an < F.length by omega)]); have HO6 := Lib.hid hown6; have HB6 := Lib.hid hb6; clear hown6 hb6 hc6 k0' k1 g0 g1)
      clear hf6 hc6'
      have hst := (HO6.out.stored an (.bool true)).1
      rw [seenC_one] at hst
      have hw6 := within_set w6 w5.heap.size an (.bool true)
      have hs5 : wr.heap.size < w5.heap.size := by have := HS5.out; omega
      have hlt3 := hsz
      have HFI := Lib.hid (show FindI w (w6.setCell ⟨w5.heap.size, an, none⟩ (.bool true)) (F.length : Int) A cap l AF AT AZ cF cT cZ lo hi F T Z gf w5.heap.size FR (an : Int) [((an : Int), 0)] [((an : Int), 0)] (.slice (some ⟨wr.heap.size, 0, none⟩) 1 1) from ⟨(HG5.out.below HB6.out).within hw6 (by omega) (by omega), own_block (own_below HO5.out HB6.out) (hw6.block _ (Nat.lt_of_lt_of_le (HO5.out.lt _ rfl).2 HB6.out.size) (by omega)), hst, own_block (own_below HQ0.out HB6.out) (hw6.block _ (by have := HB6.out.size; omega) (by omega)), fun g hg => (show wr.heap.size = g by simpa [Value.ownBlock] using hg) ▸ (show wr.heap.size ≠ gf ∧ wr.heap.size ≠ w5.heap.size by omega), by omega, by omega, by omega, by omega, HFL.out, fun x hx hxa => absurd (congrArg Prod.fst (show x = ((an : Int), 0) by simpa using hx)) hxa⟩)
      clear hst hw6
      generalize w5.heap.size = gs at *
      generalize (w6.setCell ⟨gs, an, none⟩ (.bool true)) = w7 at *
      clear HQ0 HO5 HG5 HS5 HO HGI
      go_loopw [12, 14] (fun qv i wr' => ∃ (k : Nat) (FR : List Int), k ≤ (bfs E T (an : Int) k).length ∧ i = .int .i64 k ∧ (∀ y ∈ bfs E T (an : Int) k, givesB F (an : Int) b y = false) ∧ FindI w wr' (F.length : Int) A cap l AF AT AZ cF cT cZ lo hi F T Z gf gs FR (an : Int) (bfs E T (an : Int) k) (bfs E T (an : Int) k) qv) (fun _ i _ => 9 - (intOf i).toNat)
      case atStart => exact ⟨0, FR, Nat.zero_le _, rfl, fun y hy => by obtain rfl : y = ((an : Int), 0) := by simpa [bfs] using hy
                                                                       simp [givesB], HFI.out⟩
      case round =>
        clear HFI HFL
        obtain ⟨k, FR, hk, rfl, hno, hin⟩ := hrel
        have HIN := Lib.hid hin
        have HNO := Lib.hid hno
        have hshort := (HG.out k).short
        obtain ⟨A', c', rfl⟩ := own_shape hin.qu
        clear hno
        by_cases hlt : k < (bfs E T (an : Int) k).length
        · have hki : (k : Int) < ((bfs E T (an : Int) k).length : Int) := by omega
          obtain ⟨gq, rfl⟩ : ∃ gq, A' = some ⟨gq, 0, none⟩ := by
            rcases hin.qu.2 with ⟨_, e0⟩ | ⟨g, _, _, e, _⟩
            · omega
            · cases e
              exact ⟨g, rfl⟩
          have hq := (hin.qu.cellAt k (show k < (bfs E T (an : Int) k).length * 1 by omega)).trans (intCells_get ((bfs E T (an : Int) k).map Prod.fst) k (by simpa using hlt))
          rw [map_fst_getD _ k hlt] at hq
          have hrg := (HG.out k).range ha k hlt
          have HSC := Lib.hid (show bfs E T (an : Int) (k + 1) = scanN E T ((bfs E T (an : Int) k).getD k (0, 0)).1 (bfs E T (an : Int) k) E.length by rw [bfs_succ, if_pos hlt])
          have HMEM := Lib.hid (getD_mem_fst _ k hlt)
          have HFS := Lib.hid (fun (j : Nat) (h1 : j < E.length) (h2 : T.getD j 0 = ((bfs E T (an : Int) k).getD k (0, 0)).1) => find_spec (F := F) (b := b) k j hlt (by omega) h1 rfl h2)
          obtain ⟨x, hx⟩ : ∃ x, (bfs E T (an : Int) k).getD k (0, 0) = x := ⟨_, rfl⟩
          rw [hx] at hq hrg HSC HMEM HFS
          obtain ⟨v, i0⟩ := x
          simp only at hq hrg
          obtain ⟨n, rfl⟩ : ∃ n : Nat, v = (n : Int) := ⟨v.toNat, by omega⟩
          have HGS := Lib.hid (fun j (hj : j ≤ E.length) => (HG.out k).scan HS.out.ends HMEM.out j hj)
          obtain ⟨p0, p1, p2, _, _, _⟩ := hin.g.pb.cells
          clear hin hx
          go_wp2_with fail
          clear hq p0 p1 p2
          go_loopw [12, 16] (fun qv jv wr' => ∃ (j : Nat) (FR : List Int), j ≤ Z.length ∧ jv = .int .i64 j ∧ (∀ y ∈ (scanN E T (n : Int) (bfs E T (an : Int) k) j), givesB F (an : Int) b y = false) ∧ FindI w wr' (F.length : Int) A cap l AF AT AZ cF cT cZ lo hi F T Z gf gs FR (an : Int) (scanN E T (n : Int) (bfs E T (an : Int) k) j) (scanN E T (n : Int) (bfs E T (an : Int) k) j) qv) (fun _ jv _ => Z.length - (intOf jv).toNat)
          case atStart => exact ⟨0, FR, Nat.zero_le _, rfl, HNO.out, HIN.out⟩
          case round =>
            clear HNO HIN
            obtain ⟨j, FR, hj, rfl, hno, hin2⟩ := hrel
            have HNO := Lib.hid hno
            have HIN2 := Lib.hid hin2
            obtain ⟨A2, c2', rfl⟩ := own_shape hin2.qu
            obtain ⟨p0, p1, p2, _, _, _⟩ := hin2.g.pb.cells
            clear hno
            by_cases hlt2 : j < Z.length
            · have hji : (j : Int) < (Z.length : Int) := by omega
              have hjt : (j : Int) < (T.length : Int) := by have := HTZ.out; omega
              obtain ⟨tb, tq9, rfl, htc⟩ := row_at hin2.g.src.t (by omega)
              have ht := htc j (by omega)
              obtain ⟨zb, zo, rfl, hzc⟩ := row_at hin2.g.src.z (by omega)
              have hz := hzc j hlt2
              have HSN := Lib.hid (show (scanN E T (n : Int) (bfs E T (an : Int) k) (j + 1)) = scan1 E T (n : Int) (scanN E T (n : Int) (bfs E T (an : Int) k) j) j from rfl)
              have HFSj := Lib.hid (fun h1 h2 => HFS.out j h1 h2)
              obtain ⟨t, htd⟩ : ∃ t, T.getD j 0 = t := ⟨_, rfl⟩
              rw [htd] at ht
              clear hin2 hzc htc
              by_cases c5 : t = (n : Int)
              · subst c5
                have d5 : ((n : Int) != (n : Int)) = false := by simp
                obtain ⟨hz0, hz1⟩ := HZ.out j hlt2
                have hEj := HE.out j hlt2
                have hbr := HS.out.ends.bar j (by rw [HEL.out]; exact hlt2)
                have hoth := HS.out.ends.oth_in (by rw [HEL.out]; exact hlt2) htd
                obtain ⟨gs', gm⟩ := HGS.out j (by rw [HEL.out]; omega)
                have hsh := gs'.short
                have HFSj2 := Lib.hid (HFSj.out (by rw [HEL.out]; exact hlt2) htd HNO.out)
                rw [hEj] at hoth hbr
                rw [hEj] at HFSj2
                obtain ⟨m, hm⟩ : ∃ m : Nat, Z.getD j 0 = (m : Int) := ⟨(Z.getD j 0).toNat, by omega⟩
                rw [hm] at hz hz0 hz1 hbr hoth hEj HFSj2
                rw [Int.toNat_natCast] at hbr hoth hEj HFSj2
                obtain ⟨b', off, rfl, _, hbc⟩ := HIN2.out.g.bars.at (by omega)
                have hx1 := (hbc m (by omega)).1
                have hx2 := (hbc m (by omega)).2
                obtain ⟨x, hxd⟩ : ∃ x, l.getD m (0, 0) = x := ⟨_, rfl⟩
                rw [hxd] at hx1 hx2 hbr hoth hEj HFSj2
                obtain ⟨x1, x2⟩ := x
                simp only at hx1 hx2 hbr
                obtain ⟨o, ho⟩ : ∃ o : Nat, oth (x1, x2) (n : Int) = (o : Int) := ⟨(oth (x1, x2) (n : Int)).toNat, by omega⟩
                rw [ho] at hoth HFSj2
                have HO := Lib.hid ho
                have HS1 := Lib.hid (show scan1 E T (n : Int) (scanN E T (n : Int) (bfs E T (an : Int) k) j) j = if (o : Int) ∉ (scanN E T (n : Int) (bfs E T (an : Int) k) j).map Prod.fst then (scanN E T (n : Int) (bfs E T (an : Int) k) j) ++ [((o : Int), j)] else (scanN E T (n : Int) (bfs E T (an : Int) k) j) by
                  unfold scan1
                  rw [htd, hEj, ho]
                  by_cases h : (o : Int) ∈ (scanN E T (n : Int) (bfs E T (an : Int) k) j).map Prod.fst
                  · rw [if_neg (fun q => q.2 h), if_neg (fun q => q h)]
                  · rw [if_pos ⟨rfl, h⟩, if_pos h])
                have HGJ := Lib.hid gs'
                have HGJ1 := Lib.hid (HGS.out (j + 1) (by rw [HEL.out]; omega)).1
                have hoF : o < F.length := by omega
                have hoFi : (o : Int) < (F.length : Int) := hoth.2.1
                have hmi : (m : Int) < (l.length : Int) := hz1
                have hoP := Lib.hid (show 0 ≤ (o : Int) ∧ (o : Int) < (F.length : Int) from ⟨hoth.1, hoth.2.1⟩)
                obtain ⟨_, gx0, gx1⟩ := HIN2.out.g.gb
                have HKK := Lib.hid (show (fun (W' : World) => W'.cell? ⟨w.heap.size, 1, none⟩ = some (.slice (some ⟨b', off, none⟩) l.length cap) ∧ W'.cell? ⟨w.heap.size + 1, 2, none⟩ = some (.slice (some ⟨zb, zo, none⟩) Z.length cZ) ∧ W'.cell? ⟨zb, zo + j, none⟩ = some (.int .i64 (m : Int)) ∧ W'.cell? ⟨b', off + m * 2, none⟩ = some (.int .i64 x1) ∧ W'.cell? ⟨b', off + m * 2 + 1, none⟩ = some (.int .i64 x2)) _ from ⟨gx1, p2, hz, hx1, hx2⟩)
                have HID := Lib.hid (HIN2.out.below (Below.refl _ _).drew)
                have y0 := ht
                have y1 := hz
                clear hbc hxd ho hEj hm gs' gm htd hz0 hoth hx1 hx2 HFSj
                go_wp2_with fail
                clear y0 y1 gx0 gx1 p0 p1 p2
                go_region_held3 (fun (W' : World) => W'.cell? ⟨w.heap.size, 1, none⟩ = some (.slice (some ⟨b', off, none⟩) l.length cap) ∧ W'.cell? ⟨w.heap.size + 1, 2, none⟩ = some (.slice (some ⟨zb, zo, none⟩) Z.length cZ) ∧ W'.cell? ⟨zb, zo + j, none⟩ = some (.int .i64 (m : Int)) ∧ W'.cell? ⟨b', off + m * 2, none⟩ = some (.int .i64 x1) ∧ W'.cell? ⟨b', off + m * 2 + 1, none⟩ = some (.int .i64 x2))
                  (first | exact HKK.out | exact HK5.out | fail)
                  (first | (go_at_call 159; refine (other_c (x1, x2) (n : Int) _ (by omega) (by omega) (by omega)).mono ?_; rintro e w8 ⟨rfl, hb⟩; rw [HO.out]; have HI8 := Lib.hid (HID.out.below hb); have HK5 := Lib.hid (show (fun (W' : World) => W'.cell? ⟨w.heap.size, 1, none⟩ = some (.slice (some ⟨b', off, none⟩) l.length cap) ∧ W'.cell? ⟨w.heap.size + 1, 2, none⟩ = some (.slice (some ⟨zb, zo, none⟩) Z.length cZ) ∧ W'.cell? ⟨zb, zo + j, none⟩ = some (.int .i64 (m : Int)) ∧ W'.cell? ⟨b', off + m * 2, none⟩ = some (.int .i64 x1) ∧ W'.cell? ⟨b', off + m * 2 + 1, none⟩ = some (.int .i64 x2)) w8 from ⟨HI8.out.g.gb.2.2, HI8.out.g.pb.cells.2.2.1, (hb.cell (p := ⟨zb, zo + j, none⟩) (World.block_lt_of_cell? _ _ HKK.out.2.2.1)).trans HKK.out.2.2.1, (hb.cell (p := ⟨b', off + m * 2, none⟩) (World.block_lt_of_cell? _ _ HKK.out.2.2.2.1)).trans HKK.out.2.2.2.1, (hb.cell (p := ⟨b', off + m * 2 + 1, none⟩) (World.block_lt_of_cell? _ _ HKK.out.2.2.2.2)).trans HKK.out.2.2.2.2⟩); clear hb))
                have hsn := (HI8.out.sn.cellAt o (show o < F.length * 1 by omega)).trans (seenC_get F.length _ o hoF)
                by_cases c7 : (o : Int) ∈ (scanN E T (n : Int) (bfs E T (an : Int) k) j).map Prod.fst
                · have HQ := Lib.hid (show (scanN E T (n : Int) (bfs E T (an : Int) k) j) = (scanN E T (n : Int) (bfs E T (an : Int) k) (j + 1)) by rw [HSN.out, HS1.out, if_neg]; simpa using c7)
                  rw [decide_eq_true c7] at hsn
                  clear c7
                  go_wp2_with fail
                  go_roundw
                  case rel => exact ⟨j + 1, FR, by omega, by go_num, by rw [← HQ.out]; exact HNO.out, by rw [← HQ.out]; exact HI8.out⟩
                  case measure => simp [intOf]; omega
                · have HQ := Lib.hid (show (scanN E T (n : Int) (bfs E T (an : Int) k) j) ++ [((o : Int), j)] = (scanN E T (n : Int) (bfs E T (an : Int) k) (j + 1)) by rw [HSN.out, HS1.out, if_pos c7])
                  rw [decide_eq_false c7] at hsn
                  have HNEW := Lib.hid (HI8.out.see o j hoF c7 (fun x hx hxa => by obtain ⟨_, _, _, _, _, _, _, _, _, h6, _⟩ := HGJ.out.path.at (List.mem_map_of_mem hx) hxa; exact h6))
                  have hoa : (o : Int) ≠ (an : Int) := fun e => c7 (by obtain ⟨r, e1⟩ := HGJ.out.start; rw [e1, e]; simp)
                  have hfz1 := HI8.out.sn.frozenAt o
                  have hfz2 := (own_block HI8.out.fr ((within_set w8 gs o (.bool true)).block gf (HI8.out.fr.lt gf rfl).2 (by have := HI8.out.ne; omega))).frozenAt o
                  have hbs : w.heap.size + 3 ≤ ((w8.setCell ⟨gs, o, none⟩ (.bool true)).setCell ⟨gf, o, none⟩ (.int .i64 (j : Int))).heap.size := by have h1 := HNEW.out.lf; have h2 := (HNEW.out.fr.lt gf rfl).2; omega
                  have hfv := HS.out.small (v := (o : Int)) hoP.out
                  rw [Int.toNat_natCast] at hfv
                  obtain ⟨fb, fo, rfl, _, hfb, hfc⟩ := HI8.out.g.src.f.2 (by omega)
                  have hfo := hfc o hoF
                  have l1 := HI8.out.lf
                  have l2 := HI8.out.ls
                  have n1 : gs ≠ w.heap.size + 1 := by omega
                  have n2 : gf ≠ w.heap.size + 1 := by omega
                  have n3 : gs ≠ fb := by omega
                  have n4 : gf ≠ fb := by omega
                  have n7 : gs ≠ gf := fun e => HI8.out.ne e.symm
                  have hcf := (HI8.out.fr.cellAt o (show o < F.length * 1 by omega)).trans (intCells_get FR o (by rw [HI8.out.frl]; exact hoF))
                  have hff := HI8.out.fr.frozenAt o
                  have n5 : gs ≠ w.heap.size := by omega
                  have n6 : gf ≠ w.heap.size := by omega
                  obtain ⟨q0, q1, q2, _, _, _⟩ := HI8.out.g.pb.cells
                  have HC7 := Lib.hid c7
                  have hgb : givesB F (an : Int) b ((o : Int), j) = (decide ((o : Int) ≠ (an : Int)) && decide ((o : Int) ≠ b) && decide (0 < F.getD o 0)) := by
                    show (_ && _ && decide (0 < F.getD ((o : Int)).toNat 0)) = _
                    rw [Int.toNat_natCast]
                  obtain ⟨d, hd⟩ : ∃ d, F.getD o 0 = d := ⟨_, rfl⟩
                  rw [hd] at hfo hfv hgb
                  clear hd hfc c7
                  have hNX : givesB F (an : Int) b ((o : Int), j) = false → ∀ y ∈ (scanN E T (n : Int) (bfs E T (an : Int) k) (j + 1)), givesB F (an : Int) b y = false := fun hg y hy => by
                    rw [← HQ.out] at hy
                    rcases List.mem_append.1 hy with hy | hy
                    · exact HNO.out y hy
                    · obtain rfl : y = ((o : Int), j) := by simpa using hy
                      exact hg
                  have HNX := Lib.hid hNX
                  clear hNX
                  by_cases hg : givesB F (an : Int) b ((o : Int), j) = true
                  · rw [hg] at hgb
                    have hgb' := hgb.symm
                    simp only [Bool.and_eq_true, decide_eq_true_eq] at hgb'
                    obtain ⟨⟨_, g2⟩, g3⟩ := hgb'
                    have e5 : ((o : Int) != b) = true := by simpa using g2
                    have g3d : decide (0 < d) = true := by simpa using g3
                    obtain ⟨hf1, r, hf2⟩ := HFSj2.out HC7.out hg
                    have HFM := Lib.hid (show findM E (an : Int) b (F, T) = some (movF F (an : Int) (o : Int), turnQ E (an : Int) (bfsQ E T (an : Int)).reverse (o : Int) T) by
                      show Option.map _ ((bfsQ E T (an : Int)).find? (givesB F (an : Int) b)) = _
                      rw [hf1]
                      rfl)
                    have hTI : TurnI F.length E T (an : Int) ((scanN E T (n : Int) (bfs E T (an : Int) k) j) ++ [((o : Int), j)]) (turnQ E (an : Int) (bfsQ E T (an : Int)).reverse (o : Int) T) (o : Int) T := by
                      have hnd := (HG.out (max E.length 8)).path.nodup (show bfs E T (an : Int) (max E.length 8) = (scanN E T (n : Int) (bfs E T (an : Int) k) j) ++ ((o : Int), j) :: r from hf2)
                      have hp1 : PathQ F.length E T (an : Int) ((scanN E T (n : Int) (bfs E T (an : Int) k) j) ++ [((o : Int), j)]) := by rw [HQ.out]; exact HGJ1.out.path
                      have := TurnI.start (r := []) HS.out.ends hp1 (show (o : Int) ∈ _ by simp)
                      rw [List.append_nil] at this
                      rw [hf2, turn_prefix (x := ((o : Int), j)) T hnd]
                      exact this
                    have hfr := HNEW.out.fr
                    have hfl := HNEW.out.frl
                    rw [← hfl] at hfr
                    have hsh := HSH.out (o : Int) _ _ (FR.set o (j : Int)) (some ⟨gf, 0, none⟩) F.length gf ((w8.setCell ⟨gs, o, none⟩ (.bool true)).setCell ⟨gf, o, none⟩ (.int .i64 (j : Int))).heap.size ((w8.setCell ⟨gs, o, none⟩ (.bool true)).setCell ⟨gf, o, none⟩ (.int .i64 (j : Int))) HNEW.out.g.bars.at HNEW.out.g.src hTI (own_ints' hfr).reads hfl HNEW.out.fro hoP.out hoa
                    rw [hfl] at hsh
                    have HSHI := Lib.hid hsh
                    obtain ⟨_, r0, r1⟩ := HI8.out.g.gb
                    clear hsh hfr hfl hTI hf1 hf2 hgb hg g2 g3 hoa
                    go_wp2_with (go_at_call 160; refine HSHI.out.mono ?_; rintro e w9 ⟨BF, dF, BT, dT, BZ, dZ, rfl, ho9, hb9⟩; have HO9 := Lib.hid ho9; have HB9 := Lib.hid hb9; have HG9 := Lib.hid (HNEW.out.g.below hb9); obtain ⟨_, _, _, f0, f1, f2⟩ := HG9.out.rb.cells; have r3 := ret3 HG9.out.rb (.slice BF (movF F (an : Int) (o : Int)).length dF) (.slice BT (turnQ E (an : Int) (bfsQ E T (an : Int)).reverse (o : Int) T).length dT) (.slice BZ Z.length dZ); obtain ⟨s0, s1, s2, _⟩ := r3.1.cells; have HW := Lib.hid r3.2; clear ho9 hb9 r3)
                    refine bodyPost_ret (v := .tuple #[pebV BF (movF F (an : Int) (o : Int)).length dF BT (turnQ E (an : Int) (bfsQ E T (an : Int)).reverse (o : Int) T).length dT BZ Z.length dZ, .bool true]) ?_ rfl ?_
                    · simp [results, Try.results149, go_sem, s0, s1, s2]
                    · have hz9 := HB9.out.size
                      have hg9 := HG9.out.bel
                      exact ⟨within_on hg9 HW.out hg9.size (.inl (by omega)), .inr ⟨_, BF, dF, BT, dT, BZ, dZ, rfl, HFM.out, (HO9.out.within HW.out (.inr (by omega))).widen (by omega) HW.out.size (Nat.le_refl _)⟩⟩
                  · have hgf : givesB F (an : Int) b ((o : Int), j) = false := by simpa using hg
                    have HNX2 := Lib.hid (HNX.out hgf)
                    have hcase : ((o : Int) != b) = false ∨ (((o : Int) != b) = true ∧ decide (0 < d) = false) := by
                      by_cases k2 : (o : Int) = b
                      · exact .inl (by simpa using k2)
                      · rw [hgf] at hgb
                        exact .inr ⟨by simpa using k2, by simpa [hoa, k2] using hgb.symm⟩
                    clear hgb hg hgf hoa
                    rcases hcase with c2 | ⟨c2, c3⟩
                    all_goals (
                      go_wp2_with (at_builtin; refine wpList_at _ rfl _ _ 40 rfl (w.heap.size + 3) 3 (.int .i64 0) 1 8 Try.underlying40 infoInt rfl (by decide) _ _ _ rfl HNEW.out.qu #[.int .i64 (o : Int)] 1 rfl (by simp [Value.oneCell']) _ 1 (by simp only [World.size_setCell]; rfl) (by omega) (by unfold maxLen; omega) hbs ?_; intro v' w' ho hg hat _; obtain ⟨A3, c3', rfl⟩ := own_shape ho; have HN := Lib.hid (HNEW.out.push ((o : Int), j) ho hg hat); clear ho hg hat)
                      go_roundw
                      case rel => exact ⟨j + 1, FR.set o (j : Int), by omega, by go_num, HNX2.out, by rw [← HQ.out]; exact HN.out⟩
                      case measure => simp [intOf]; omega)
              · have d5 : (t != (n : Int)) = true := by simpa using c5
                have HQ := Lib.hid (show (scanN E T (n : Int) (bfs E T (an : Int) k) j) = (scanN E T (n : Int) (bfs E T (an : Int) k) (j + 1)) by rw [HSN.out]; unfold scan1; rw [htd, if_neg]; exact fun h => c5 h.1)
                clear c5 htd
                go_wp2_with fail
                go_roundw
                case rel => exact ⟨j + 1, FR, by omega, by go_num, by rw [← HQ.out]; exact HNO.out, by rw [← HQ.out]; exact HIN2.out⟩
                case measure => simp [intOf]; omega
            · obtain rfl : j = Z.length := by omega
              have hji : ¬ (Z.length : Int) < (Z.length : Int) := by omega
              clear hin2
              go_wp2_with fail
              go_roundw
              case rel => exact ⟨k + 1, FR, by rw [HSC.out]; obtain ⟨r, e⟩ := scanN_pre E T (n : Int) (bfs E T (an : Int) k) E.length; rw [e, List.length_append]; omega, by go_num, by rw [HSC.out, HEL.out]; exact HNO.out, by rw [HSC.out, HEL.out]; exact HIN2.out⟩
              case measure => simp [intOf]; omega
        · have hkl : k = (bfs E T (an : Int) k).length := by omega
          have HF := Lib.hid (find_no (E := E) (T := T) (F := F) (a := (an : Int)) (b := b) k (by omega) (by omega) HNO.out)
          have hki : ¬ (k : Int) < ((bfs E T (an : Int) k).length : Int) := by omega
          obtain ⟨p0, p1, p2, _, _, _⟩ := HIN.out.g.pb.cells
          obtain ⟨_, _, _, f0, f1, f2⟩ := HIN.out.g.rb.cells
          have r3 := ret3 HIN.out.g.rb (.slice AF F.length cF) (.slice AT T.length cT) (.slice AZ Z.length cZ)
          obtain ⟨s0, s1, s2, _⟩ := r3.1.cells
          have HW := Lib.hid r3.2
          clear hkl r3 hin
          go_wp2_with fail
          refine bodyPost_ret (v := .tuple #[pebV AF F.length cF AT T.length cT AZ Z.length cZ, .bool false]) ?_ rfl ?_
          · simp [results, Try.results149, go_sem, s0, s1, s2]
          · have hg9 := HIN.out.g.bel
            exact ⟨within_on hg9 HW.out hg9.size (.inl (by omega)), .inl ⟨rfl, by show Option.map _ ((bfsQ E T (an : Int)).find? (givesB F (an : Int) b)) = none; rw [HF.out]; rfl⟩⟩
theorem GasI.find_no5 {w wr : World} {A : Option Addr} {cap : Nat} {l : List (Int × Int)} {AF AT AZ : Option Addr} {cF cT cZ lo hi : Nat} {F T Z : List Int} {bx : Nat} {BF : Option Addr} {dF : Nat} {BT : Option Addr} {dT : Nat} {BZ : Option Addr} {dZ : Nat} {r : Nat × Nat} {F' T' : List Int} {k0 a b : Int} (h : GasI w wr (F.length : Int) A cap l AF AT AZ cF cT cZ lo hi F T Z bx BF dF BT dT BZ dZ r F' T') (hS0 : PebS F.length k0 (plE l Z) F T) (hS : PebS F.length k0 (plE l Z) F' T') (hP : 1 ≤ F.length ∧ F.length ≤ 8) (hk0 : k0 ≤ 3) (hn : l.length ≤ 25) (hz24 : Z.length ≤ 24)
    (hZ : ∀ i, i < Z.length → 0 ≤ Z.getD i 0 ∧ Z.getD i 0 < (l.length : Int)) (ha : 0 ≤ a ∧ a < (F.length : Int)) (hf : findM (plE l Z) a b (F', T') = none) :
    Calls Try.prog 149 #[.agg #[.int .i64 (F.length : Int), .slice A l.length cap], pebV BF F.length dF BT T.length dT BZ Z.length dZ, .int .i64 a, .int .i64 b] wr (fun e w' => e = .returned (.tuple #[pebV BF F.length dF BT T.length dT BZ Z.length dZ, .bool false]) ∧ Below wr.heap.size wr w') := by
  have e1 : F'.length = F.length := hS.flen
  have e2 : T'.length = T.length := by rw [hS.ends.len, hS0.ends.len]
  have h1 := find5_c k0 l A cap BF BT BZ dF dT dZ r.1 r.2 F' T' Z a b wr (by rw [e1]; exact hS) (by rw [e1]; exact hP) hk0 hn hz24 hZ (by rw [e1]; exact ha) h.g.bars.at h.o.own3.reads
  rw [e1, e2] at h1
  refine h1.mono ?_
  rintro e w' ⟨hb, ⟨rfl, _⟩ | ⟨s', _, _, _, _, _, _, _, hs, _⟩⟩
  · exact ⟨rfl, hb⟩
  · rw [hf] at hs; cases hs
theorem GasI.find_yes5 {w wr : World} {A : Option Addr} {cap : Nat} {l : List (Int × Int)} {AF AT AZ : Option Addr} {cF cT cZ lo hi : Nat} {F T Z : List Int} {bx : Nat} {BF : Option Addr} {dF : Nat} {BT : Option Addr} {dT : Nat} {BZ : Option Addr} {dZ : Nat} {r : Nat × Nat} {F' T' : List Int} {k0 a b : Int} {s : List Int × List Int} (h : GasI w wr (F.length : Int) A cap l AF AT AZ cF cT cZ lo hi F T Z bx BF dF BT dT BZ dZ r F' T') (hS0 : PebS F.length k0 (plE l Z) F T) (hS : PebS F.length k0 (plE l Z) F' T') (hP : 1 ≤ F.length ∧ F.length ≤ 8) (hk0 : k0 ≤ 3) (hn : l.length ≤ 25) (hz24 : Z.length ≤ 24)
    (hZ : ∀ i, i < Z.length → 0 ≤ Z.getD i 0 ∧ Z.getD i 0 < (l.length : Int)) (ha : 0 ≤ a ∧ a < (F.length : Int)) (hb0 : 0 ≤ b) (hab : a ≠ b) (hf : findM (plE l Z) a b (F', T') = some s) :
    Calls Try.prog 149 #[.agg #[.int .i64 (F.length : Int), .slice A l.length cap], pebV BF F.length dF BT T.length dT BZ Z.length dZ, .int .i64 a, .int .i64 b] wr (fun e w' => ∃ CF eF CT eT CZ eZ, e = .returned (.tuple #[pebV CF F.length eF CT T.length eT CZ Z.length eZ, .bool true]) ∧ Below wr.heap.size wr w' ∧ Own3R w' wr.heap.size w'.heap.size CF eF CT eT CZ eZ s.1 s.2 Z) := by
  have e1 : F'.length = F.length := hS.flen
  have e2 : T'.length = T.length := by rw [hS.ends.len, hS0.ends.len]
  obtain ⟨hk, _⟩ := findM_ok hS ha hab hb0 hf
  have h1 := find5_c k0 l A cap BF BT BZ dF dT dZ r.1 r.2 F' T' Z a b wr (by rw [e1]; exact hS) (by rw [e1]; exact hP) hk0 hn hz24 hZ (by rw [e1]; exact ha) h.g.bars.at h.o.own3.reads
  rw [e1, e2] at h1
  refine h1.mono ?_
  rintro e w' ⟨hb, ⟨_, hs⟩ | ⟨s', CF, eF, CT, eT, CZ, eZ, rfl, hs, ho⟩⟩
  · rw [hf] at hs; cases hs
  · rw [hf] at hs
    cases hs
    exact ⟨CF, eF, CT, eT, CZ, eZ, by rw [hk.flen, hk.ends.len, ← hS0.ends.len], hb, ho⟩
set_option maxHeartbeats 8000000 in
set_option maxRecDepth 100000 in
theorem gathS5_c (k0 : Int) (l : List (Int × Int)) (A : Option Addr) (cap : Nat) (AF AT AZ : Option Addr) (cF cT cZ lo hi : Nat) (F T Z : List Int) (a b : Nat) (want : Int) (w : World) (hS : PebS F.length k0 (plE l Z) F T) (hP : 1 ≤ F.length ∧ F.length ≤ 8) (hk0 : k0 ≤ 3) (hn : l.length ≤ 25) (hz24 : Z.length ≤ 24)
    (hZ : ∀ i, i < Z.length → 0 ≤ Z.getD i 0 ∧ Z.getD i 0 < (l.length : Int)) (ha : a < F.length) (hb : b < F.length) (hab : a ≠ b) (hl : BarsAt w w.heap.size A l) (h : Peb3 w lo hi AF AT AZ F T Z) :
    Calls Try.prog 128 #[.agg #[.int .i64 (F.length : Int), .slice A l.length cap], pebV AF F.length cF AT T.length cT AZ Z.length cZ, .int .i64 (a : Int), .int .i64 (b : Int), .int .i64 want] w (GathSP w (plE l Z) F T Z a b want) := by
  have hhi : hi ≤ w.heap.size := h.f.1
  have hTZ : T.length ≤ 24 := by rw [hS.ends.len, plE_len]; exact hz24
  have HI0 := Lib.hid (GtI.start w (F.length : Int) A cap l AF AT AZ cF cT cZ lo hi F T Z hl h)
  have HS := Lib.hid hS
  have HZ := Lib.hid hZ
  obtain ⟨g0, g1, g2, _, _, _⟩ := HI0.out.pb.cells
  have hs3 : (((w.alloc (.cells #[.int .i64 (F.length : Int), .slice A l.length cap] 29)).alloc (.cells #[.slice AF F.length cF, .slice AT T.length cT, .slice AZ Z.length cZ] 64)).alloc (.cells #[.slice none 0 0, .slice none 0 0, .slice none 0 0] 64)).heap.size = w.heap.size + 3 := by simp
  have HS3 := Lib.hid hs3
  clear hl h hS hZ hs3
  go_enter Try.func128, Try.ntmps128
  go_wp2_with (go_at_call 127; refine (copyPeb_c AF AT AZ cF cT cZ lo hi F T Z _ HI0.out.src (by omega) (by omega) (by omega)).mono ?_; rintro e w4 ⟨BF, dF, BT, dT, BZ, dZ, rfl, ho, hb4⟩; have hb5 := new_below w4 (.cells #[.slice BF F.length dF, .slice BT T.length dT, .slice BZ Z.length dZ] 64); have hz4 := hb4.size; have HGI := Lib.hid (show GasI w (w4.alloc (.cells #[.slice BF F.length dF, .slice BT T.length dT, .slice BZ Z.length dZ] 64)) (F.length : Int) A cap l AF AT AZ cF cT cZ lo hi F T Z w4.heap.size BF dF BT dT BZ dZ ((((w.alloc (.cells #[.int .i64 (F.length : Int), .slice A l.length cap] 29)).alloc (.cells #[.slice AF F.length cF, .slice AT T.length cT, .slice AZ Z.length cZ] 64)).alloc (.cells #[.slice none 0 0, .slice none 0 0, .slice none 0 0] 64)).heap.size, w4.heap.size) F T from ⟨(HI0.out.below hb4).below hb5, cel3_new w4 (.slice BF F.length dF) (.slice BT T.length dT) (.slice BZ Z.length dZ) 64, ho.within (within_of hb5) (.inr (Nat.zero_le _)), by have := HS3.out; omega, by have := HS3.out; omega, .inl (Nat.le_refl _), hhi⟩); clear ho hb4 hb5 hz4 g0 g1 g2)
  generalize ((((w.alloc (.cells #[.int .i64 (F.length : Int), .slice A l.length cap] 29)).alloc (.cells #[.slice AF F.length cF, .slice AT T.length cT, .slice AZ Z.length cZ] 64)).alloc (.cells #[.slice none 0 0, .slice none 0 0, .slice none 0 0] 64)).heap.size, w4.heap.size) = r0 at *
  generalize hw5 : (w4.alloc (.cells #[.slice BF F.length dF, .slice BT T.length dT, .slice BZ Z.length dZ] 64)) = w5 at *
  clear hw5 HS3
  generalize w4.heap.size = bx at *
  go_loopw [] (fun wr => ∃ (F' T' : List Int) (BF BT BZ : Option Addr) (dF dT dZ : Nat) (r : Nat × Nat), PebS F.length k0 (plE l Z) F' T' ∧ gathR (plE l Z) a b want (F, T) = gathR (plE l Z) a b want (F', T') ∧ GasI w wr (F.length : Int) A cap l AF AT AZ cF cT cZ lo hi F T Z bx BF dF BT dT BZ dZ r F' T') (fun wr => (want - (atX wr bx a + atX wr bx b)).toNat)
  case atStart => exact ⟨F, T, BF, BT, BZ, dF, dT, dZ, r0, HS.out, rfl, HGI.out⟩
  case round =>
    clear HGI
    obtain ⟨F', T', BF, BT, BZ, dF, dT, dZ, r, hS', hg, hin⟩ := hrel
    have HG := Lib.hid hg
    have HS' := Lib.hid hS'
    have hfl := hS'.flen
    have HMA := Lib.hid (hin.at a (by omega))
    have HMB := Lib.hid (hin.at b (by omega))
    obtain ⟨fb, fo, rfl, hfc⟩ := row_at hin.o.own3.reads.f (by omega)
    have ha1 := hfc a (by omega)
    have hb1 := hfc b (by omega)
    have hsa := hS'.small (v := (a : Int)) (by omega)
    have hsb := hS'.small (v := (b : Int)) (by omega)
    rw [Int.toNat_natCast] at hsa hsb
    have HDN := Lib.hid (fun h : ¬ F'.getD a 0 + F'.getD b 0 < want => gathR_done (E := plE l Z) (a := (a : Int)) (b := (b : Int)) (want := want) (s := (F', T')) (by simpa using h))
    obtain ⟨d1, hd1⟩ : ∃ d1, F'.getD a 0 = d1 := ⟨_, rfl⟩
    obtain ⟨d2, hd2⟩ : ∃ d2, F'.getD b 0 = d2 := ⟨_, rfl⟩
    rw [hd1] at ha1 hsa HDN HMA
    rw [hd2] at hb1 hsb HDN HMB
    have HD := Lib.hid (And.intro hd1 hd2)
    have haF : (a : Int) < (F.length : Int) := by omega
    have hbF : (b : Int) < (F.length : Int) := by omega
    have HIN := Lib.hid hin
    have hcc := hin.x.cells.1
    have HL := Lib.hid (show F'.length = F.length ∧ T'.length = T.length from ⟨hfl, by rw [hS'.ends.len, HS.out.ends.len]⟩)
    clear hg hS' hfl hfc hd1 hd2 hin
    by_cases c1 : d1 + d2 < want
    · have e1 : decide (d1 + d2 < want) = true := by simpa using c1
      go_wp2_with fail
      go_big_quiet (fail)
      have HQ := Lib.hid (HIN.out.below (below_drewN wr.heap.size wr nq))
      have hC1 : F'.getD (a : Int).toNat 0 + F'.getD (b : Int).toNat 0 < want := by rw [Int.toNat_natCast, Int.toNat_natCast, HD.out.1, HD.out.2]; exact c1
      have HC1 := Lib.hid hC1
      clear hcc ha1 hb1 hC1
      generalize wr.drewN nq = w1 at *
      obtain ⟨_, gx0, gx1⟩ := HQ.out.g.gb
      obtain ⟨x0, x1, x2, _, _, _⟩ := HQ.out.x.cells
      obtain ⟨r1, hr1⟩ : ∃ r1, findM (plE l Z) (a : Int) (b : Int) (F', T') = r1 := ⟨_, rfl⟩
      cases r1 with
      | some s' =>
        have HF1 := Lib.hid hr1
        have HK := Lib.hid (show PebS F.length k0 (plE l Z) s'.1 s'.2 ∧ s'.1.getD a 0 + s'.1.getD b 0 = d1 + d2 + 1 from by
          obtain ⟨k1, k2, k3⟩ := findM_ok HS'.out (a := (a : Int)) (b := (b : Int)) (by omega) (by omega) (by omega) HF1.out
          rw [Int.toNat_natCast] at k2 k3
          refine ⟨k1, ?_⟩
          rw [k2, k3, HD.out.1, HD.out.2]; omega)
        clear hr1
        go_wp2_with (go_at_call 149; refine (HQ.out.find_yes5 (a := (a : Int)) (b := (b : Int)) HS.out HS'.out hP hk0 hn hz24 HZ.out (by omega) (by omega) (by omega) HF1.out).mono ?_; rintro e w6 ⟨CF, eF, CT, eT, CZ, eZ, rfl, hb6, ho6⟩; have hb7 := new_below w6 (.cells #[.slice CF F.length eF, .slice CT T.length eT, .slice CZ Z.length eZ] 64); have HI7 := Lib.hid ((HQ.out.below hb6).below hb7); have hy7 := cel3_new w6 (.slice CF F.length eF) (.slice CT T.length eT) (.slice CZ Z.length eZ) 64; obtain ⟨y0, y1, y2, _, _, _⟩ := hy7.cells; obtain ⟨z0, z1, z2, f0, f1, f2⟩ := HI7.out.x.cells; have HN := Lib.hid (HI7.out.put CF eF CT eT CZ eZ (w1.heap.size, w6.heap.size) s'.1 s'.2 (ho6.within (within_of hb7) (.inr (Nat.zero_le _))) HQ.out.x.lt); clear ho6 hb6 hb7 hy7 gx0 gx1 x0 x1 x2)
        go_roundw
        case rel => exact ⟨s'.1, s'.2, CF, CT, CZ, eF, eT, eZ, _, HK.out.1, HG.out.trans (gathR_one HC1.out HF1.out (by rw [Int.toNat_natCast, Int.toNat_natCast]; show s'.1.getD a 0 + s'.1.getD b 0 = F'.getD a 0 + F'.getD b 0 + 1; rw [HK.out.2, HD.out.1, HD.out.2])), HN.out⟩
        case measure =>
          have hlen : s'.1.length = F.length := HK.out.1.flen
          have q3 := HK.out.2
          rw [HN.out.at a (by omega), HN.out.at b (by omega), HMA.out, HMB.out]
          omega
      | none =>
        have HF1 := Lib.hid hr1
        obtain ⟨r2, hr2⟩ : ∃ r2, findM (plE l Z) (b : Int) (a : Int) (F', T') = r2 := ⟨_, rfl⟩
        cases r2 with
        | some s' =>
          have HF2 := Lib.hid hr2
          have HK := Lib.hid (show PebS F.length k0 (plE l Z) s'.1 s'.2 ∧ s'.1.getD a 0 + s'.1.getD b 0 = d1 + d2 + 1 from by
            obtain ⟨k1, k2, k3⟩ := findM_ok HS'.out (a := (b : Int)) (b := (a : Int)) (by omega) (by omega) (by omega) HF2.out
            rw [Int.toNat_natCast] at k2 k3
            refine ⟨k1, ?_⟩
            rw [k2, k3, HD.out.1, HD.out.2]; omega)
          clear hr1 hr2
          have hzz : ∀ W : World, ∀ o : Obj, (W.alloc o).heap.size = W.heap.size + 1 := fun W o => by simp
          have HZZ := Lib.hid hzz
          clear hzz
          go_wp2_with (first
            | (go_at_call 149; refine (HI7.out.find_yes5 (a := (b : Int)) (b := (a : Int)) HS.out HS'.out hP hk0 hn hz24 HZ.out (by omega) (by omega) (by omega) HF2.out).mono ?_; rintro e w8 ⟨CF, eF, CT, eT, CZ, eZ, rfl, hb8, ho8⟩; have HY8 := Lib.hid (HY7.out.kept hb8); have r3y := ret3 HY8.out (.slice CF F.length eF) (.slice CT T.length eT) (.slice CZ Z.length eZ); have hy8 := HZZ.out w6 (.cells #[.slice (some ⟨fb, fo, none⟩) F.length dF, .slice BT T.length dT, .slice BZ Z.length dZ] 64); have HI9 := Lib.hid ((HI7.out.below hb8).other r3y.2 (by have := HQ.out.lb; omega) (by omega) (by omega)); have HN := Lib.hid (HI9.out.put CF eF CT eT CZ eZ (_, _) s'.1 s'.2 (ho8.within r3y.2 (.inr (by omega))) (by show bx < (World.alloc _ _).heap.size; omega)); obtain ⟨_, _, _, k0', k1, k2⟩ := HY8.out.cells; obtain ⟨i0, i1, i2, _⟩ := r3y.1.cells; obtain ⟨j0, j1, j2, j3, j4, j5⟩ := HI9.out.x.cells; clear ho8 hb8 r3y hy8 z0 z1 z2 u0 u1 y0 y1 y2)
            | (go_at_call 149; refine (HQ.out.find_no5 (a := (a : Int)) (b := (b : Int)) HS.out HS'.out hP hk0 hn hz24 HZ.out (by omega) HF1.out).mono ?_; rintro e w6 ⟨rfl, hb6⟩; have hb7 := new_below w6 (.cells #[.slice (some ⟨fb, fo, none⟩) F.length dF, .slice BT T.length dT, .slice BZ Z.length dZ] 64); have HI7 := Lib.hid ((HQ.out.below hb6).below hb7); have HY7 := Lib.hid (cel3_new w6 (.slice (some ⟨fb, fo, none⟩) F.length dF) (.slice BT T.length dT) (.slice BZ Z.length dZ) 64); have hlo6 := hb6.size; have hq2 := HQ.out.o.hi; have hq3 := HQ.out.x.lt; obtain ⟨z0, z1, z2, _, _, _⟩ := HI7.out.x.cells; obtain ⟨_, u0, u1⟩ := HI7.out.g.gb; obtain ⟨y0, y1, y2, _, _, _⟩ := HY7.out.cells; clear hb6 hb7 gx0 gx1 x0 x1 x2))
          go_roundw
          case rel => exact ⟨s'.1, s'.2, CF, CT, CZ, eF, eT, eZ, _, HK.out.1, HG.out.trans (gathR_two HC1.out HF1.out HF2.out (by rw [Int.toNat_natCast, Int.toNat_natCast]; show s'.1.getD a 0 + s'.1.getD b 0 = F'.getD a 0 + F'.getD b 0 + 1; rw [HK.out.2, HD.out.1, HD.out.2])), HN.out⟩
          case measure =>
            have hlen : s'.1.length = F.length := HK.out.1.flen
            have q3 := HK.out.2
            rw [HN.out.at a (by omega), HN.out.at b (by omega), HMA.out, HMB.out]
            omega
        | none =>
          have HF2 := Lib.hid hr2
          clear hr1 hr2
          have hzz : ∀ W : World, ∀ o : Obj, (W.alloc o).heap.size = W.heap.size + 1 := fun W o => by simp
          have HZZ := Lib.hid hzz
          clear hzz
          go_wp2_with (first
            | (go_at_call 149; refine (HI7.out.find_no5 (a := (b : Int)) (b := (a : Int)) HS.out HS'.out hP hk0 hn hz24 HZ.out (by omega) HF2.out).mono ?_; rintro e w8 ⟨rfl, hb8⟩; have HY8 := Lib.hid (HY7.out.kept hb8); have r3y := ret3 HY8.out (.slice (some ⟨fb, fo, none⟩) F.length dF) (.slice BT T.length dT) (.slice BZ Z.length dZ); have HI9 := Lib.hid ((HI7.out.below hb8).other r3y.2 (by have := HQ.out.lb; omega) (by omega) (by omega)); have r3 := ret3 HI9.out.g.rb (.slice (some ⟨fb, fo, none⟩) F.length dF) (.slice BT T.length dT) (.slice BZ Z.length dZ); obtain ⟨s0, s1, s2, _⟩ := r3.1.cells; have HW := Lib.hid r3.2; obtain ⟨_, _, _, f0, f1, f2⟩ := HI9.out.g.rb.cells; obtain ⟨_, _, _, k0', k1, k2⟩ := HY8.out.cells; obtain ⟨i0, i1, i2, _⟩ := r3y.1.cells; obtain ⟨j0, j1, j2, j3, j4, j5⟩ := HI9.out.x.cells; clear hb8 r3y r3 z0 z1 z2 u0 u1 y0 y1 y2)
            | (go_at_call 149; refine (HQ.out.find_no5 (a := (a : Int)) (b := (b : Int)) HS.out HS'.out hP hk0 hn hz24 HZ.out (by omega) HF1.out).mono ?_; rintro e w6 ⟨rfl, hb6⟩; have hb7 := new_below w6 (.cells #[.slice (some ⟨fb, fo, none⟩) F.length dF, .slice BT T.length dT, .slice BZ Z.length dZ] 64); have HI7 := Lib.hid ((HQ.out.below hb6).below hb7); have HY7 := Lib.hid (cel3_new w6 (.slice (some ⟨fb, fo, none⟩) F.length dF) (.slice BT T.length dT) (.slice BZ Z.length dZ) 64); have hlo6 := hb6.size; have hq2 := HQ.out.o.hi; have hq3 := HQ.out.x.lt; obtain ⟨z0, z1, z2, _, _, _⟩ := HI7.out.x.cells; obtain ⟨_, u0, u1⟩ := HI7.out.g.gb; obtain ⟨y0, y1, y2, _, _, _⟩ := HY7.out.cells; clear hb6 hb7 gx0 gx1 x0 x1 x2))
          refine bodyPost_ret (v := .tuple #[pebV (some ⟨fb, fo, none⟩) F.length dF BT T.length dT BZ Z.length dZ, .bool false]) ?_ rfl ?_
          · simp [results, Try.results128, go_sem, s0, s1, s2]
          · have hg9 := HI9.out.g.bel
            exact ⟨within_on hg9 HW.out hg9.size (.inl (by omega)), _, _, _, _, _, _, .inl ⟨rfl, by rw [HG.out]; exact gathR_no HC1.out HF1.out HF2.out⟩⟩
    · have e1 : decide (d1 + d2 < want) = false := by simpa using c1
      go_wp2_with fail
      go_big_quiet (fail)
      have HQ := Lib.hid (HIN.out.below (below_drewN wr.heap.size wr nq))
      clear hcc ha1 hb1
      generalize wr.drewN nq = w1 at *
      have r3 := ret3 HQ.out.g.rb (.slice (some ⟨fb, fo, none⟩) F.length dF) (.slice BT T.length dT) (.slice BZ Z.length dZ)
      obtain ⟨s0, s1, s2, _⟩ := r3.1.cells
      have HW := Lib.hid r3.2
      obtain ⟨_, _, _, f0, f1, f2⟩ := HQ.out.g.rb.cells
      obtain ⟨v0, v1, v2, _, _, _⟩ := HQ.out.x.cells
      clear r3
      go_wp2_with fail
      refine bodyPost_ret (v := .tuple #[pebV (some ⟨fb, fo, none⟩) F.length dF BT T.length dT BZ Z.length dZ, .bool true]) ?_ rfl ?_
      · simp [results, Try.results128, go_sem, s0, s1, s2]
      · have hg9 := HQ.out.g.bel
        have hlr := HQ.out.lr
        exact ⟨within_on hg9 HW.out hg9.size (.inl (by omega)), _, _, _, _, _, _, .inr ⟨(F', T'), rfl, by rw [HG.out]; exact HDN.out c1, HL.out.1, HL.out.2, (HQ.out.o.within HW.out (.inr (by omega))).widen (by omega) (by have := HW.out.size; have := HQ.out.o.hi; omega) (Nat.le_refl _)⟩⟩
end Go.Proofs.Ytdnmmjaelgjkaaa
/- What spec.l6Rank answers: the rank of the bars, of up to 25. No condition. -/
namespace Go.Proofs.Ytdnmmjaelgjkaaa
open Go.RowKit

set_option maxHeartbeats 8000000 in
set_option maxRecDepth 100000 in
theorem l6Rank_c (P : Nat) (l : List (Int × Int)) (A : Option Addr) (cap : Nat) (w : World) (hl : BarsAt w w.heap.size A l) (hP : 1 ≤ P ∧ P ≤ 8) (hbars : Bars P l) (hn : l.length ≤ 25) :
    Calls Try.prog 82 #[.agg #[.int .i64 (P : Int), .slice A l.length cap]] w fun e w' => e = .returned (.int .i64 (rk P 2 3 l : Int)) ∧ Below w.heap.size w w' := by
  have HB25 := Lib.hid (And.intro hbars hP)
  have hnew : newB (P : Int) 2 [] = true := by
    unfold newB
    rw [isGB_yes ⟨by omega, by simp, fun i hi => absurd hi (by simp)⟩]
    rfl
  have hnf : newF (P : Int) 2 [] = (runN P 2 3 l 0).1 := by unfold newF; rw [if_pos hnew, Int.toNat_natCast]; rfl
  have HNW : ∀ W : World, Calls Try.prog 76 #[.agg #[.int .i64 (P : Int), .slice none 0 0], .int .i64 2] W (PebOB W (runN P 2 3 l 0).1 [] [] true) := fun W => by
    have hc := specNewP (P : Int) 2 [] none 0 W (fun h => absurd h (by simp)) (by simp)
    rw [hnew, hnf] at hc
    exact hc
  clear hbars hnew hnf
  have W0 := Lib.hid (Below.refl w.heap.size w)
  have HB_0 := Lib.hid (bars_in hl)
  clear hl
  have Z1 := Lib.hid (within_alloc w (.cells #[.int .i64 (P : Int), (.slice A l.length cap)] 29)).size
  have W1 := Lib.hid (within_on W0.out (within_alloc w (.cells #[.int .i64 (P : Int), (.slice A l.length cap)] 29)) W0.out.size (.inr (Nat.le_refl _)))
  have HB_1 := Lib.hid (HB_0.out.within (within_alloc w (.cells #[.int .i64 (P : Int), (.slice A l.length cap)] 29)) (by omega))
  have Y1 := Lib.hid (show (w.alloc (.cells #[.int .i64 (P : Int), (.slice A l.length cap)] 29)).heap.size = w.heap.size + 1 by simp)
  have hnew := box_new w (P : Int) (.slice A l.length cap) 29
  have BX_1 := Lib.hid hnew
  clear hnew
  go_enter Try.func82, Try.ntmps82
  obtain ⟨g0_0, g0_1, g0_2⟩ := BX_1.out
  go_wp2_with fail
  clear g0_0 g0_1 g0_2
  generalize (w.alloc (.cells #[.int .i64 (P : Int), (.slice A l.length cap)] 29)) = w1 at *
  refine (HNW _).mono ?_
  rintro e w2 ⟨AF, cF, AT, cT, AZ, cZ, rfl, ho, hb⟩
  have Z2 := Lib.hid (within_of hb).size
  have W2 := Lib.hid (within_on W1.out (within_of hb) W1.out.size (.inr (Nat.le_refl _)))
  have HB_2 := Lib.hid (HB_1.out.within (within_of hb) (by omega))
  have BX_2 := Lib.hid (BX_1.out.within (within_of hb) (by omega))
  have OP_2 := Lib.hid (ho.reads)
  clear ho hb HNW
  have Z3 := Lib.hid (within_alloc w2 (.cells #[(.slice AF (runN P 2 3 l 0).1.length cF), (.slice AT 0 cT), (.slice AZ 0 cZ)] 64)).size
  have W3 := Lib.hid (within_on W2.out (within_alloc w2 (.cells #[(.slice AF (runN P 2 3 l 0).1.length cF), (.slice AT 0 cT), (.slice AZ 0 cZ)] 64)) W2.out.size (.inr (Nat.le_refl _)))
  have HB_3 := Lib.hid (HB_2.out.within (within_alloc w2 (.cells #[(.slice AF (runN P 2 3 l 0).1.length cF), (.slice AT 0 cT), (.slice AZ 0 cZ)] 64)) (by omega))
  have BX_3 := Lib.hid (BX_2.out.within (within_alloc w2 (.cells #[(.slice AF (runN P 2 3 l 0).1.length cF), (.slice AT 0 cT), (.slice AZ 0 cZ)] 64)) (by omega))
  have OP_3 := Lib.hid (OP_2.out.within (within_alloc w2 (.cells #[(.slice AF (runN P 2 3 l 0).1.length cF), (.slice AT 0 cT), (.slice AZ 0 cZ)] 64)) (by omega))
  have Y3 := Lib.hid (show (w2.alloc (.cells #[(.slice AF (runN P 2 3 l 0).1.length cF), (.slice AT 0 cT), (.slice AZ 0 cZ)] 64)).heap.size = w2.heap.size + 1 by simp)
  have hnew := cel3_new w2 (.slice AF (runN P 2 3 l 0).1.length cF) (.slice AT 0 cT) (.slice AZ 0 cZ) 64
  have BP_3 := Lib.hid hnew
  clear hnew
  obtain ⟨g1_0, g1_1, g1_2⟩ := BX_3.out
  go_wp2_with fail
  clear g1_0 g1_1 g1_2
  generalize (w2.alloc (.cells #[(.slice AF (runN P 2 3 l 0).1.length cF), (.slice AT 0 cT), (.slice AZ 0 cZ)] 64)) = w3 at *
  obtain ⟨pb, hpb⟩ : ∃ pb, w2.heap.size = pb := ⟨_, rfl⟩
  have HI0 := Lib.hid (show L6I w w3 P A cap l pb w1.heap.size w2.heap.size AF AT AZ cF cT cZ (runN P 2 3 l 0).1 (runN P 2 3 l 0).2.1 (runN P 2 3 l 0).2.2 from ⟨BX_3.out, by rw [← hpb]; exact BP_3.out, OP_3.out, HB_3.out, W3.out, ⟨by have := BX_1.out.1; have := Z2.out; omega, .inr (by omega)⟩⟩)
  rw [hpb]
  clear hpb
  go_loopw [5, 6] (fun s5 s6 wr => ∃ j : Nat, j ≤ l.length ∧ s6 = .int .i64 j ∧ s5 = .int .i64 ((runN P 2 3 l j).2.2.length : Int) ∧ ∃ (lo hi : Nat) (AF AT AZ : Option Addr) (cF cT cZ : Nat), L6I w wr P A cap l pb lo hi AF AT AZ cF cT cZ (runN P 2 3 l j).1 (runN P 2 3 l j).2.1 (runN P 2 3 l j).2.2) (fun _ s6 _ => l.length - (intOf s6).toNat)
  case atStart => exact ⟨0, Nat.zero_le _, rfl, rfl, _, _, AF, AT, AZ, cF, cT, cZ, HI0.out⟩
  case round =>
    clear HI0
    obtain ⟨j, hj, rfl, rfl, lo, hi, AF, AT, AZ, cF, cT, cZ, hin⟩ := hrel
    have HI := Lib.hid hin
    by_cases hlt : j < l.length
    · have hji : (j : Int) < (l.length : Int) := by omega
      have hfs := l6_facts HB25.out.1 HB25.out.2 hj
      have hbr := HB25.out.1.bar j hlt
      obtain ⟨bb, boff, rfl, _, _, _⟩ := hin.bars.2 (by omega)
      obtain ⟨x, hxd⟩ : ∃ x, l.getD j (0, 0) = x := ⟨_, rfl⟩
      rw [hxd] at hbr
      obtain ⟨x1, x2⟩ := x
      simp only at hbr
      obtain ⟨a, rfl⟩ : ∃ a : Nat, x1 = (a : Int) := ⟨x1.toNat, by omega⟩
      obtain ⟨b, rfl⟩ : ∃ b : Nat, x2 = (b : Int) := ⟨x2.toNat, by omega⟩
      have HXD := Lib.hid hxd
      have HNO := Lib.hid (fun e => l6_none (P := P) (l := l) (j := j) (by rw [hxd]; exact e))
      have HSO := Lib.hid (fun s e => l6_some (s := s) hfs.1 hxd (by omega) (by omega) (by omega) e)
      have hpbl := hin.st.lt
      have HPBL := Lib.hid hpbl
      obtain ⟨R, hR⟩ : ∃ R, runN P 2 3 l j = R := ⟨_, rfl⟩
      rw [hR] at hfs hin HI HNO HSO ⊢
      obtain ⟨F, T, Z⟩ := R
      simp only at hfs hin HI HNO HSO ⊢
      have HFS := Lib.hid hfs
      have hfl := hfs.1.flen
      have hzl := hfs.2.1
      have hdr : Below wr.heap.size wr wr.drew := (Below.refl _ _).drew
      have HBD := Lib.hid hdr
      have HID := Lib.hid (hin.below hdr)
      obtain ⟨rg, hrg⟩ : ∃ rg, gathR (plE l Z) (a : Int) (b : Int) 4 (F, T) = rg := ⟨_, rfl⟩
      have HR := Lib.hid hrg
      obtain ⟨c0, c1, c2, c3, c4, c5, c6⟩ := hin.cells rfl hlt hxd
      clear hfs hR hdr hrg hin hpbl hxd
      cases rg with
      | none =>
        have HN := Lib.hid (HNO.out HR.out)
        have hgp := fun (W : World) (h1 : BarsAt W W.heap.size (some ⟨bb, boff, none⟩) l) (h2 : Peb3 W lo hi AF AT AZ F T Z) => gathS5_c 2 l (some ⟨bb, boff, none⟩) cap AF AT AZ cF cT cZ lo hi F T Z a b 4 W (by rw [hfl]; exact HFS.out.1) (by omega) (by omega) hn (by omega) (fun i hi => by have := HFS.out.2.2 i hi; omega) (by omega) (by omega) (by omega) h1 h2
        rw [show ((F.length : Nat) : Int) = (P : Int) by omega] at hgp
        have HGC := Lib.hid (fun (W : World) (h1 : BarsAt W W.heap.size (some ⟨bb, boff, none⟩) l) (h2 : Peb3 W lo hi AF AT AZ F T Z) => show Calls Try.prog 128 _ W (fun e w' => Below W.heap.size W w' ∧ ∃ BF dF BT dT BZ dZ, e = .returned (.tuple #[pebV BF F.length dF BT T.length dT BZ Z.length dZ, .bool false])) from (hgp W h1 h2).mono (by
          rintro e w' ⟨hb, BF, dF, BT, dT, BZ, dZ, ⟨rfl, _⟩ | ⟨s, _, hs, _⟩⟩
          · exact ⟨hb, _, _, _, _, _, _, rfl⟩
          · rw [HR.out] at hs; cases hs))
        clear hgp
        clear hfl
        go_wp2_with fail
        clear c0 c1 c2 c3 c4 c5 c6
        refine wp_region_held_drew (S := (fun W' : World => W'.cell? ⟨w.heap.size, 0, none⟩ = some (.int .i64 (P : Int)) ∧ W'.cell? ⟨w.heap.size, 1, none⟩ = some (.slice (some ⟨bb, boff, none⟩) l.length cap) ∧ W'.cell? ⟨pb, 0, none⟩ = some (.slice AF F.length cF) ∧ W'.cell? ⟨pb, 1, none⟩ = some (.slice AT T.length cT) ∧ W'.cell? ⟨pb, 2, none⟩ = some (.slice AZ Z.length cZ) ∧ W'.cell? ⟨bb, boff + j * 2, none⟩ = some (.int .i64 (a : Int)) ∧ W'.cell? ⟨bb, boff + j * 2 + 1, none⟩ = some (.int .i64 (b : Int)))) (by kernel_rfl) ?_ (fun hHeld => ?_)
        · exact HID.out.cells rfl hlt HXD.out
        generalize wr.drew = WD at *
        refine wpAnyH_take (i := 0) (v := .agg #[.int .i64 (P : Int), .slice (some ⟨bb, boff, none⟩) l.length cap]) rfl (by kernel_rfl) (by kernel_rfl) (by kernel_rfl) (fun _ _ _ h => h) (Or.inl ⟨by kernel_rfl, fun w hSw => by (try dsimp only at hSw); go_simp; all_goals first | omega | exact IntWalk.i64_in _ (by omega)⟩) (by assumption) ?_
        refine wpAnyH_take (i := 1) (v := .agg #[.slice AF F.length cF, .slice AT T.length cT, .slice AZ Z.length cZ]) rfl (by kernel_rfl) (by kernel_rfl) (by kernel_rfl) (fun _ _ _ h => h) (Or.inl ⟨by kernel_rfl, fun w hSw => by (try dsimp only at hSw); go_simp; all_goals first | omega | exact IntWalk.i64_in _ (by omega)⟩) (by assumption) ?_
        refine wpAnyH_take (i := 2) (v := .pointer (some ⟨w.heap.size, 1, none⟩)) rfl (by kernel_rfl) (by kernel_rfl) (by kernel_rfl) (fun _ _ _ h => h) (Or.inl ⟨by kernel_rfl, fun w hSw => by (try dsimp only at hSw); go_simp; all_goals first | omega | exact IntWalk.i64_in _ (by omega)⟩) (by assumption) ?_
        refine wpAnyH_take (i := 3) (v := .slice (some ⟨bb, boff, none⟩) l.length cap) rfl (by kernel_rfl) (by kernel_rfl) (by kernel_rfl) (fun _ _ _ h => h) (Or.inl ⟨by kernel_rfl, fun w hSw => by (try dsimp only at hSw); go_simp; all_goals first | omega | exact IntWalk.i64_in _ (by omega)⟩) (by assumption) ?_
        refine wpAnyH_take (i := 4) (v := .int .i64 (j : Int)) rfl (by kernel_rfl) (by kernel_rfl) (by kernel_rfl) (fun _ _ _ h => h) (Or.inl ⟨by kernel_rfl, fun w hSw => by (try dsimp only at hSw); go_simp; all_goals first | omega | exact IntWalk.i64_in _ (by omega)⟩) (by assumption) ?_
        refine wpAnyH_take (i := 5) (v := .pointer (some ⟨bb, boff + j * 2, none⟩)) rfl (by kernel_rfl) (by kernel_rfl) (by kernel_rfl) (fun _ _ _ h => h) (Or.inl ⟨by kernel_rfl, fun w hSw => by (try dsimp only at hSw); go_simp; all_goals first | omega | exact IntWalk.i64_in _ (by omega)⟩) (by assumption) ?_
        refine wpAnyH_take (i := 6) (v := .pointer (some ⟨bb, boff + j * 2, none⟩)) rfl (by kernel_rfl) (by kernel_rfl) (by kernel_rfl) (fun _ _ _ h => h) (Or.inl ⟨by kernel_rfl, fun w hSw => by (try dsimp only at hSw); go_simp; all_goals first | omega | exact IntWalk.i64_in _ (by omega)⟩) (by assumption) ?_
        refine wpAnyH_take (i := 7) (v := .int .i64 (a : Int)) rfl (by kernel_rfl) (by kernel_rfl) (by kernel_rfl) (fun _ _ _ h => h) (Or.inl ⟨by kernel_rfl, fun w hSw => by (try dsimp only at hSw); go_simp; all_goals first | omega | exact IntWalk.i64_in _ (by omega)⟩) (by assumption) ?_
        refine wpAnyH_take (i := 8) (v := .pointer (some ⟨w.heap.size, 1, none⟩)) rfl (by kernel_rfl) (by kernel_rfl) (by kernel_rfl) (fun _ _ _ h => h) (Or.inl ⟨by kernel_rfl, fun w hSw => by (try dsimp only at hSw); go_simp; all_goals first | omega | exact IntWalk.i64_in _ (by omega)⟩) (by assumption) ?_
        refine wpAnyH_take (i := 9) (v := .slice (some ⟨bb, boff, none⟩) l.length cap) rfl (by kernel_rfl) (by kernel_rfl) (by kernel_rfl) (fun _ _ _ h => h) (Or.inl ⟨by kernel_rfl, fun w hSw => by (try dsimp only at hSw); go_simp; all_goals first | omega | exact IntWalk.i64_in _ (by omega)⟩) (by assumption) ?_
        refine wpAnyH_take (i := 10) (v := .int .i64 (j : Int)) rfl (by kernel_rfl) (by kernel_rfl) (by kernel_rfl) (fun _ _ _ h => h) (Or.inl ⟨by kernel_rfl, fun w hSw => by (try dsimp only at hSw); go_simp; all_goals first | omega | exact IntWalk.i64_in _ (by omega)⟩) (by assumption) ?_
        refine wpAnyH_take (i := 11) (v := .pointer (some ⟨bb, boff + j * 2, none⟩)) rfl (by kernel_rfl) (by kernel_rfl) (by kernel_rfl) (fun _ _ _ h => h) (Or.inl ⟨by kernel_rfl, fun w hSw => by (try dsimp only at hSw); go_simp; all_goals first | omega | exact IntWalk.i64_in _ (by omega)⟩) (by assumption) ?_
        refine wpAnyH_take (i := 12) (v := .pointer (some ⟨bb, boff + j * 2 + 1, none⟩)) rfl (by kernel_rfl) (by kernel_rfl) (by kernel_rfl) (fun _ _ _ h => h) (Or.inl ⟨by kernel_rfl, fun w hSw => by (try dsimp only at hSw); go_simp; all_goals first | omega | exact IntWalk.i64_in _ (by omega)⟩) (by assumption) ?_
        refine wpAnyH_take (i := 13) (v := .int .i64 (b : Int)) rfl (by kernel_rfl) (by kernel_rfl) (by kernel_rfl) (fun _ _ _ h => h) (Or.inl ⟨by kernel_rfl, fun w hSw => by (try dsimp only at hSw); go_simp; all_goals first | omega | exact IntWalk.i64_in _ (by omega)⟩) (by assumption) ?_
        refine wpAnyH_ready (rs := [14, 18]) (by kernel_rfl) (by simp) (AllReadyH.cons rfl (fun K hK => ?_) (AllReadyH.cons rfl (fun K hK => ?_) AllReadyH.nil))
        · go_simp
          go_at_call 128
          refine (HGC.out _ HID.out.bars.at HID.out.src).mono ?_
          rintro e wc ⟨hb, BF, dF, BT, dT, BZ, dZ, rfl⟩
          have HIC := Lib.hid (HID.out.below hb)
          have HBC := Lib.hid (below_on HBD.out hb HBD.out.size)
          clear hb
          refine hK.out _ _ (HIC.out.cells rfl hlt HXD.out) (fun hHeld => ?_)
          clear hK K
          refine wpAnyH_take (i := 15) (v := .tuple #[.agg #[.slice BF F.length dF, .slice BT T.length dT, .slice BZ Z.length dZ], .bool false]) rfl (by kernel_rfl) (by kernel_rfl) (by kernel_rfl) (fun _ _ _ h => h) (Or.inl ⟨by kernel_rfl, fun w hSw => by (try dsimp only at hSw); go_simp; all_goals first | omega | exact IntWalk.i64_in _ (by omega)⟩) (by assumption) ?_
          refine wpAnyH_take (i := 16) (v := .agg #[.slice BF F.length dF, .slice BT T.length dT, .slice BZ Z.length dZ]) rfl (by kernel_rfl) (by kernel_rfl) (by kernel_rfl) (fun _ _ _ h => h) (Or.inl ⟨by kernel_rfl, fun w hSw => by (try dsimp only at hSw); go_simp; all_goals first | omega | exact IntWalk.i64_in _ (by omega)⟩) (by assumption) ?_
          refine wpAnyH_take (i := 17) (v := .bool false) rfl (by kernel_rfl) (by kernel_rfl) (by kernel_rfl) (fun _ _ _ h => h) (Or.inl ⟨by kernel_rfl, fun w hSw => by (try dsimp only at hSw); go_simp; all_goals first | omega | exact IntWalk.i64_in _ (by omega)⟩) (by assumption) ?_
          refine wpAnyH_ready (rs := [18]) (by kernel_rfl) (by simp) (AllReadyH.cons rfl (fun K hK => ?_) AllReadyH.nil)
          have hb2 := new_below wc (.cells #[.slice none 0 0, .slice none 0 0, .slice none 0 0] 64)
          have HIA := Lib.hid (HIC.out.below hb2)
          have HBA := Lib.hid (below_on HBC.out hb2 HBC.out.size)
          have HXA := Lib.hid (cel3_new wc (.slice none 0 0) (.slice none 0 0) (.slice none 0 0) 64)
          have HAS := Lib.hid (show (wc.alloc (.cells #[.slice none 0 0, .slice none 0 0, .slice none 0 0] 64)).heap.size = wc.heap.size + 1 by simp)
          clear hb2
          go_simp
          generalize (wc.alloc (.cells #[.slice none 0 0, .slice none 0 0, .slice none 0 0] 64)) = wa at *
          refine hK.out _ _ (HIA.out.cells rfl hlt HXD.out) (fun hHeld => ?_)
          clear hK K
          refine wpAnyH_ready (rs := [19]) (by kernel_rfl) (by simp) (AllReadyH.cons rfl (fun K hK => ?_) AllReadyH.nil)
          obtain ⟨q0, q1, q2, q3, q4, q5⟩ := HXA.out.cells
          have hr := ret3 HXA.out (.slice BF F.length dF) (.slice BT T.length dT) (.slice BZ Z.length dZ)
          have HXS := Lib.hid hr.1
          have hbx : wr.heap.size ≤ wc.heap.size := HBC.out.size
          have HXB := Lib.hid hbx
          have HBS := Lib.hid (within_on HBA.out hr.2 HBA.out.size (.inl hbx))
          have HIS := Lib.hid (HI.out.below HBS.out)
          clear hr hbx
          go_simp
          clear q0 q1 q2 q3 q4 q5
          refine hK.out _ _ (HIS.out.cells rfl hlt HXD.out) (fun hHeld => ?_)
          clear hK K
          refine wpAnyH_ready (rs := [20]) (by kernel_rfl) (by simp) (AllReadyH.cons rfl (fun K hK => ?_) AllReadyH.nil)
          go_simp
          refine hK.out _ _ (HIS.out.cells rfl hlt HXD.out) (fun hHeld => ?_)
          clear hK K
          refine wpAnyH_done (by kernel_rfl) ?_ _
          go_wp2_with fail
          go_roundw
          case rel => exact ⟨j + 1, by omega, by go_num, by rw [HN.out], _, _, AF, AT, AZ, cF, cT, cZ, by rw [HN.out]; exact HIS.out⟩
          case measure => simp [intOf]; omega
        · have hb2 := new_below WD (.cells #[.slice none 0 0, .slice none 0 0, .slice none 0 0] 64)
          have HIA := Lib.hid (HID.out.below hb2)
          have HBA := Lib.hid (below_on HBD.out hb2 HBD.out.size)
          have HXA := Lib.hid (cel3_new WD (.slice none 0 0) (.slice none 0 0) (.slice none 0 0) 64)
          have HAS := Lib.hid (show (WD.alloc (.cells #[.slice none 0 0, .slice none 0 0, .slice none 0 0] 64)).heap.size = WD.heap.size + 1 by simp)
          clear hb2
          go_simp
          generalize (WD.alloc (.cells #[.slice none 0 0, .slice none 0 0, .slice none 0 0] 64)) = wa at *
          refine hK.out _ _ (HIA.out.cells rfl hlt HXD.out) (fun hHeld => ?_)
          clear hK K
          refine wpAnyH_ready (rs := [14]) (by kernel_rfl) (by simp) (AllReadyH.cons rfl (fun K hK => ?_) AllReadyH.nil)
          go_simp
          go_at_call 128
          refine (HGC.out _ HIA.out.bars.at HIA.out.src).mono ?_
          rintro e wc ⟨hb, BF, dF, BT, dT, BZ, dZ, rfl⟩
          have HIC := Lib.hid (HIA.out.below hb)
          have HBC := Lib.hid (below_on HBA.out hb HBA.out.size)
          have HXC := Lib.hid (HXA.out.kept hb)
          clear hb
          refine hK.out _ _ (HIC.out.cells rfl hlt HXD.out) (fun hHeld => ?_)
          clear hK K
          refine wpAnyH_take (i := 15) (v := .tuple #[.agg #[.slice BF F.length dF, .slice BT T.length dT, .slice BZ Z.length dZ], .bool false]) rfl (by kernel_rfl) (by kernel_rfl) (by kernel_rfl) (fun _ _ _ h => h) (Or.inl ⟨by kernel_rfl, fun w hSw => by (try dsimp only at hSw); go_simp; all_goals first | omega | exact IntWalk.i64_in _ (by omega)⟩) (by assumption) ?_
          refine wpAnyH_take (i := 16) (v := .agg #[.slice BF F.length dF, .slice BT T.length dT, .slice BZ Z.length dZ]) rfl (by kernel_rfl) (by kernel_rfl) (by kernel_rfl) (fun _ _ _ h => h) (Or.inl ⟨by kernel_rfl, fun w hSw => by (try dsimp only at hSw); go_simp; all_goals first | omega | exact IntWalk.i64_in _ (by omega)⟩) (by assumption) ?_
          refine wpAnyH_take (i := 17) (v := .bool false) rfl (by kernel_rfl) (by kernel_rfl) (by kernel_rfl) (fun _ _ _ h => h) (Or.inl ⟨by kernel_rfl, fun w hSw => by (try dsimp only at hSw); go_simp; all_goals first | omega | exact IntWalk.i64_in _ (by omega)⟩) (by assumption) ?_
          refine wpAnyH_ready (rs := [19]) (by kernel_rfl) (by simp) (AllReadyH.cons rfl (fun K hK => ?_) AllReadyH.nil)
          obtain ⟨q0, q1, q2, q3, q4, q5⟩ := HXC.out.cells
          have hr := ret3 HXC.out (.slice BF F.length dF) (.slice BT T.length dT) (.slice BZ Z.length dZ)
          have HXS := Lib.hid hr.1
          have hbx : wr.heap.size ≤ WD.heap.size := HBD.out.size
          have HXB := Lib.hid hbx
          have HBS := Lib.hid (within_on HBC.out hr.2 HBC.out.size (.inl hbx))
          have HIS := Lib.hid (HI.out.below HBS.out)
          clear hr hbx
          go_simp
          clear q0 q1 q2 q3 q4 q5
          refine hK.out _ _ (HIS.out.cells rfl hlt HXD.out) (fun hHeld => ?_)
          clear hK K
          refine wpAnyH_ready (rs := [20]) (by kernel_rfl) (by simp) (AllReadyH.cons rfl (fun K hK => ?_) AllReadyH.nil)
          go_simp
          refine hK.out _ _ (HIS.out.cells rfl hlt HXD.out) (fun hHeld => ?_)
          clear hK K
          refine wpAnyH_done (by kernel_rfl) ?_ _
          go_wp2_with fail
          go_roundw
          case rel => exact ⟨j + 1, by omega, by go_num, by rw [HN.out], _, _, AF, AT, AZ, cF, cT, cZ, by rw [HN.out]; exact HIS.out⟩
          case measure => simp [intOf]; omega
      | some s =>
        obtain ⟨hn1, hn2, hn3, hn4⟩ := HSO.out s HR.out
        have HN := Lib.hid hn1
        have HN2 := Lib.hid hn2
        have HN3 := Lib.hid hn3
        have HN4 := Lib.hid hn4
        clear hn1 hn2 hn3 hn4
        have hgp := fun (W : World) (h1 : BarsAt W W.heap.size (some ⟨bb, boff, none⟩) l) (h2 : Peb3 W lo hi AF AT AZ F T Z) => gathS5_c 2 l (some ⟨bb, boff, none⟩) cap AF AT AZ cF cT cZ lo hi F T Z a b 4 W (by rw [hfl]; exact HFS.out.1) (by omega) (by omega) hn (by omega) (fun i hi => by have := HFS.out.2.2 i hi; omega) (by omega) (by omega) (by omega) h1 h2
        rw [show ((F.length : Nat) : Int) = (P : Int) by omega] at hgp
        have HGC := Lib.hid (fun (W : World) (h1 : BarsAt W W.heap.size (some ⟨bb, boff, none⟩) l) (h2 : Peb3 W lo hi AF AT AZ F T Z) => show Calls Try.prog 128 _ W (fun e w' => Below W.heap.size W w' ∧ ∃ BF dF BT dT BZ dZ, e = .returned (.tuple #[pebV BF s.1.length dF BT s.2.length dT BZ Z.length dZ, .bool true]) ∧ Own3R w' W.heap.size w'.heap.size BF dF BT dT BZ dZ s.1 s.2 Z) from (hgp W h1 h2).mono (by
          rintro e w' ⟨hb, BF, dF, BT, dT, BZ, dZ, ⟨_, hs⟩ | ⟨s2, rfl, hs, h1, h2, ho⟩⟩
          · rw [HR.out] at hs; cases hs
          · rw [HR.out] at hs
            cases hs
            exact ⟨hb, _, _, _, _, _, _, by rw [h1, h2], ho⟩))
        clear hgp
        clear hfl
        go_wp2_with fail
        clear c0 c1 c2 c3 c4 c5 c6
        refine wp_region_held_drew (S := (fun W' : World => W'.cell? ⟨w.heap.size, 0, none⟩ = some (.int .i64 (P : Int)) ∧ W'.cell? ⟨w.heap.size, 1, none⟩ = some (.slice (some ⟨bb, boff, none⟩) l.length cap) ∧ W'.cell? ⟨pb, 0, none⟩ = some (.slice AF F.length cF) ∧ W'.cell? ⟨pb, 1, none⟩ = some (.slice AT T.length cT) ∧ W'.cell? ⟨pb, 2, none⟩ = some (.slice AZ Z.length cZ) ∧ W'.cell? ⟨bb, boff + j * 2, none⟩ = some (.int .i64 (a : Int)) ∧ W'.cell? ⟨bb, boff + j * 2 + 1, none⟩ = some (.int .i64 (b : Int)))) (by kernel_rfl) ?_ (fun hHeld => ?_)
        · exact HID.out.cells rfl hlt HXD.out
        generalize wr.drew = WD at *
        refine wpAnyH_take (i := 0) (v := .agg #[.int .i64 (P : Int), .slice (some ⟨bb, boff, none⟩) l.length cap]) rfl (by kernel_rfl) (by kernel_rfl) (by kernel_rfl) (fun _ _ _ h => h) (Or.inl ⟨by kernel_rfl, fun w hSw => by (try dsimp only at hSw); go_simp; all_goals first | omega | exact IntWalk.i64_in _ (by omega)⟩) (by assumption) ?_
        refine wpAnyH_take (i := 1) (v := .agg #[.slice AF F.length cF, .slice AT T.length cT, .slice AZ Z.length cZ]) rfl (by kernel_rfl) (by kernel_rfl) (by kernel_rfl) (fun _ _ _ h => h) (Or.inl ⟨by kernel_rfl, fun w hSw => by (try dsimp only at hSw); go_simp; all_goals first | omega | exact IntWalk.i64_in _ (by omega)⟩) (by assumption) ?_
        refine wpAnyH_take (i := 2) (v := .pointer (some ⟨w.heap.size, 1, none⟩)) rfl (by kernel_rfl) (by kernel_rfl) (by kernel_rfl) (fun _ _ _ h => h) (Or.inl ⟨by kernel_rfl, fun w hSw => by (try dsimp only at hSw); go_simp; all_goals first | omega | exact IntWalk.i64_in _ (by omega)⟩) (by assumption) ?_
        refine wpAnyH_take (i := 3) (v := .slice (some ⟨bb, boff, none⟩) l.length cap) rfl (by kernel_rfl) (by kernel_rfl) (by kernel_rfl) (fun _ _ _ h => h) (Or.inl ⟨by kernel_rfl, fun w hSw => by (try dsimp only at hSw); go_simp; all_goals first | omega | exact IntWalk.i64_in _ (by omega)⟩) (by assumption) ?_
        refine wpAnyH_take (i := 4) (v := .int .i64 (j : Int)) rfl (by kernel_rfl) (by kernel_rfl) (by kernel_rfl) (fun _ _ _ h => h) (Or.inl ⟨by kernel_rfl, fun w hSw => by (try dsimp only at hSw); go_simp; all_goals first | omega | exact IntWalk.i64_in _ (by omega)⟩) (by assumption) ?_
        refine wpAnyH_take (i := 5) (v := .pointer (some ⟨bb, boff + j * 2, none⟩)) rfl (by kernel_rfl) (by kernel_rfl) (by kernel_rfl) (fun _ _ _ h => h) (Or.inl ⟨by kernel_rfl, fun w hSw => by (try dsimp only at hSw); go_simp; all_goals first | omega | exact IntWalk.i64_in _ (by omega)⟩) (by assumption) ?_
        refine wpAnyH_take (i := 6) (v := .pointer (some ⟨bb, boff + j * 2, none⟩)) rfl (by kernel_rfl) (by kernel_rfl) (by kernel_rfl) (fun _ _ _ h => h) (Or.inl ⟨by kernel_rfl, fun w hSw => by (try dsimp only at hSw); go_simp; all_goals first | omega | exact IntWalk.i64_in _ (by omega)⟩) (by assumption) ?_
        refine wpAnyH_take (i := 7) (v := .int .i64 (a : Int)) rfl (by kernel_rfl) (by kernel_rfl) (by kernel_rfl) (fun _ _ _ h => h) (Or.inl ⟨by kernel_rfl, fun w hSw => by (try dsimp only at hSw); go_simp; all_goals first | omega | exact IntWalk.i64_in _ (by omega)⟩) (by assumption) ?_
        refine wpAnyH_take (i := 8) (v := .pointer (some ⟨w.heap.size, 1, none⟩)) rfl (by kernel_rfl) (by kernel_rfl) (by kernel_rfl) (fun _ _ _ h => h) (Or.inl ⟨by kernel_rfl, fun w hSw => by (try dsimp only at hSw); go_simp; all_goals first | omega | exact IntWalk.i64_in _ (by omega)⟩) (by assumption) ?_
        refine wpAnyH_take (i := 9) (v := .slice (some ⟨bb, boff, none⟩) l.length cap) rfl (by kernel_rfl) (by kernel_rfl) (by kernel_rfl) (fun _ _ _ h => h) (Or.inl ⟨by kernel_rfl, fun w hSw => by (try dsimp only at hSw); go_simp; all_goals first | omega | exact IntWalk.i64_in _ (by omega)⟩) (by assumption) ?_
        refine wpAnyH_take (i := 10) (v := .int .i64 (j : Int)) rfl (by kernel_rfl) (by kernel_rfl) (by kernel_rfl) (fun _ _ _ h => h) (Or.inl ⟨by kernel_rfl, fun w hSw => by (try dsimp only at hSw); go_simp; all_goals first | omega | exact IntWalk.i64_in _ (by omega)⟩) (by assumption) ?_
        refine wpAnyH_take (i := 11) (v := .pointer (some ⟨bb, boff + j * 2, none⟩)) rfl (by kernel_rfl) (by kernel_rfl) (by kernel_rfl) (fun _ _ _ h => h) (Or.inl ⟨by kernel_rfl, fun w hSw => by (try dsimp only at hSw); go_simp; all_goals first | omega | exact IntWalk.i64_in _ (by omega)⟩) (by assumption) ?_
        refine wpAnyH_take (i := 12) (v := .pointer (some ⟨bb, boff + j * 2 + 1, none⟩)) rfl (by kernel_rfl) (by kernel_rfl) (by kernel_rfl) (fun _ _ _ h => h) (Or.inl ⟨by kernel_rfl, fun w hSw => by (try dsimp only at hSw); go_simp; all_goals first | omega | exact IntWalk.i64_in _ (by omega)⟩) (by assumption) ?_
        refine wpAnyH_take (i := 13) (v := .int .i64 (b : Int)) rfl (by kernel_rfl) (by kernel_rfl) (by kernel_rfl) (fun _ _ _ h => h) (Or.inl ⟨by kernel_rfl, fun w hSw => by (try dsimp only at hSw); go_simp; all_goals first | omega | exact IntWalk.i64_in _ (by omega)⟩) (by assumption) ?_
        refine wpAnyH_ready (rs := [14, 18]) (by kernel_rfl) (by simp) (AllReadyH.cons rfl (fun K hK => ?_) (AllReadyH.cons rfl (fun K hK => ?_) AllReadyH.nil))
        · go_simp
          go_at_call 128
          refine (HGC.out _ HID.out.bars.at HID.out.src).mono ?_
          rintro e wc ⟨hb, BF, dF, BT, dT, BZ, dZ, rfl, ho⟩
          have HIC := Lib.hid (HID.out.below hb)
          have HBC := Lib.hid (below_on HBD.out hb HBD.out.size)
          obtain ⟨f, t, z, hof, y1, y2, y3⟩ := ho.ownF
          have HOC := Lib.hid hof
          have HY := Lib.hid (And.intro y1 (And.intro y2 y3))
          have HYS := Lib.hid hb.size
          clear ho hof y1 y2 y3
          clear hb
          refine hK.out _ _ (HIC.out.cells rfl hlt HXD.out) (fun hHeld => ?_)
          clear hK K
          refine wpAnyH_take (i := 15) (v := .tuple #[.agg #[.slice BF s.1.length dF, .slice BT s.2.length dT, .slice BZ Z.length dZ], .bool true]) rfl (by kernel_rfl) (by kernel_rfl) (by kernel_rfl) (fun _ _ _ h => h) (Or.inl ⟨by kernel_rfl, fun w hSw => by (try dsimp only at hSw); go_simp; all_goals first | omega | exact IntWalk.i64_in _ (by omega)⟩) (by assumption) ?_
          refine wpAnyH_take (i := 16) (v := .agg #[.slice BF s.1.length dF, .slice BT s.2.length dT, .slice BZ Z.length dZ]) rfl (by kernel_rfl) (by kernel_rfl) (by kernel_rfl) (fun _ _ _ h => h) (Or.inl ⟨by kernel_rfl, fun w hSw => by (try dsimp only at hSw); go_simp; all_goals first | omega | exact IntWalk.i64_in _ (by omega)⟩) (by assumption) ?_
          refine wpAnyH_take (i := 17) (v := .bool true) rfl (by kernel_rfl) (by kernel_rfl) (by kernel_rfl) (fun _ _ _ h => h) (Or.inl ⟨by kernel_rfl, fun w hSw => by (try dsimp only at hSw); go_simp; all_goals first | omega | exact IntWalk.i64_in _ (by omega)⟩) (by assumption) ?_
          refine wpAnyH_ready (rs := [18]) (by kernel_rfl) (by simp) (AllReadyH.cons rfl (fun K hK => ?_) AllReadyH.nil)
          have hb2 := new_below wc (.cells #[.slice none 0 0, .slice none 0 0, .slice none 0 0] 64)
          have HIA := Lib.hid (HIC.out.below hb2)
          have HBA := Lib.hid (below_on HBC.out hb2 HBC.out.size)
          have HXA := Lib.hid (cel3_new wc (.slice none 0 0) (.slice none 0 0) (.slice none 0 0) 64)
          have HAS := Lib.hid (show (wc.alloc (.cells #[.slice none 0 0, .slice none 0 0, .slice none 0 0] 64)).heap.size = wc.heap.size + 1 by simp)
          have HOA := Lib.hid (HOC.out.below hb2)
          clear hb2
          go_simp
          generalize (wc.alloc (.cells #[.slice none 0 0, .slice none 0 0, .slice none 0 0] 64)) = wa at *
          refine hK.out _ _ (HIA.out.cells rfl hlt HXD.out) (fun hHeld => ?_)
          clear hK K
          refine wpAnyH_ready (rs := [19]) (by kernel_rfl) (by simp) (AllReadyH.cons rfl (fun K hK => ?_) AllReadyH.nil)
          obtain ⟨q0, q1, q2, q3, q4, q5⟩ := HXA.out.cells
          have hr := ret3 HXA.out (.slice BF s.1.length dF) (.slice BT s.2.length dT) (.slice BZ Z.length dZ)
          have HXS := Lib.hid hr.1
          have hbx : wr.heap.size ≤ wc.heap.size := HBC.out.size
          have HXB := Lib.hid hbx
          have HBS := Lib.hid (within_on HBA.out hr.2 HBA.out.size (.inl hbx))
          have HIS := Lib.hid (HI.out.below HBS.out)
          have hy := HY.out
          have hys := HYS.out
          have has := HAS.out
          have hxd9 : (wc.heap.size < f.1 ∨ f.2 ≤ wc.heap.size) ∧ (wc.heap.size < t.1 ∨ t.2 ≤ wc.heap.size) ∧ (wc.heap.size < z.1 ∨ z.2 ≤ wc.heap.size) := by omega
          have HXDD := Lib.hid hxd9
          have HGE := Lib.hid (show wr.heap.size ≤ f.1 ∧ wr.heap.size ≤ t.1 ∧ wr.heap.size ≤ z.1 from by have := HBD.out.size; omega)
          have HOS := Lib.hid (HOA.out.within hr.2 (by omega) (by omega) (by omega))
          clear hy hys has hxd9
          clear hr hbx
          go_simp
          clear q0 q1 q2 q3 q4 q5
          refine hK.out _ _ (HIS.out.cells rfl hlt HXD.out) (fun hHeld => ?_)
          clear hK K
          refine wpAnyH_ready (rs := [20]) (by kernel_rfl) (by simp) (AllReadyH.cons rfl (fun K hK => ?_) AllReadyH.nil)
          go_simp
          refine hK.out _ _ (HIS.out.cells rfl hlt HXD.out) (fun hHeld => ?_)
          clear hK K
          refine wpAnyH_done (by kernel_rfl) ?_ _
          obtain ⟨gF, rfl, hgf⟩ := HOS.out.fst (by have := HN2.out; omega)
          have hge := HGE.out
          have hxlt := HXS.out.lt
          obtain ⟨t', z', hn8, m1, m2, m3, m4, m5, m6⟩ := HOS.out.norm (B := wr.heap.size) (pb := wc.heap.size) HBS.out.size hxlt hge.2.1 hge.2.2 HXDD.out.2.1 HXDD.out.2.2
          have HX8 := Lib.hid (show L6X wr (((wa.setCell ⟨wc.heap.size, 0, none⟩ (.slice (some ⟨gF, 0, none⟩) s.1.length dF)).setCell ⟨wc.heap.size, 1, none⟩ (.slice BT s.2.length dT)).setCell ⟨wc.heap.size, 2, none⟩ (.slice BZ Z.length dZ)) wc.heap.size f t' z' gF BT BZ dF dT dZ s.1 s.2 Z from ⟨HXS.out, hn8, hgf, ⟨hge.1, m1, m2, HXB.out⟩, ⟨HXDD.out.1, m3, m4⟩, ⟨m5, m6⟩, HBS.out⟩)
          clear hgf hge hxlt hn8 m1 m2 m3 m4 m5 m6 HOS HXS hHeld
          generalize (((wa.setCell ⟨wc.heap.size, 0, none⟩ (.slice (some ⟨gF, 0, none⟩) s.1.length dF)).setCell ⟨wc.heap.size, 1, none⟩ (.slice BT s.2.length dT)).setCell ⟨wc.heap.size, 2, none⟩ (.slice BZ Z.length dZ)) = w8 at *
          generalize wc.heap.size = xb at *
          obtain ⟨c0, c1, c2, c3, c4, c5, c6⟩ := HIS.out.cells rfl hlt HXD.out
          obtain ⟨j0, j1, j2, _⟩ := HX8.out.xst.cells
          have hcf := HX8.out.cellF (i := a) (by have := HN2.out; omega)
          obtain ⟨hc8, hf8⟩ := hcf
          rw [HN3.out] at hc8
          have has8 : (a : Int) < (s.1.length : Int) := by have := HN2.out; omega
          go_wp2_with fail
          go_still_tail 20, (by kernel_rfl)
          change wpList _ _ _ _ _ w8.drew
          have hd8 : Below w8.heap.size w8 w8.drew := (Below.refl _ _).drew
          have HX9 := Lib.hid (HX8.out.below hd8)
          clear c0 c1 c2 c3 c4 c5 c6 j0 j1 j2 hc8 hf8 hd8
          generalize w8.drew = w9 at *
          obtain ⟨hc9, hf9⟩ := HX9.out.cellF (i := a) (by have := HN2.out; omega)
          have HXF := Lib.hid (HX9.out.setF (by have := HN2.out; omega) a 1)
          rw [HN3.out] at hc9
          have HIF := Lib.hid (HI.out.below HXF.out.bel)
          obtain ⟨c0, c1, c2, c3, c4, c5, c6⟩ := HIF.out.cells rfl hlt HXD.out
          obtain ⟨j0, j1, j2, _⟩ := HXF.out.xst.cells
          go_wp2_with fail
          clear hc9 hf9
          generalize (w9.setCell ⟨gF, a, none⟩ (.int .i64 1)) = wf at *
          have hTl : s.2.length ≤ 1048576 := by rw [HN4.out, HFS.out.1.ends.len, plE_len]; omega
          have hZl : Z.length ≤ 1048576 := by omega
          have hd8 : Below wf.heap.size wf wf.drew := (Below.refl _ _).drew
          have HXG := Lib.hid (HXF.out.below hd8)
          have HIG := Lib.hid (HI.out.below HXG.out.bel)
          clear c0 c1 c2 c3 c4 c5 c6 j0 j1 j2 hd8
          refine wp_region_held_drew (S := (fun W' : World => W'.cell? ⟨w.heap.size, 1, none⟩ = some (.slice (some ⟨bb, boff, none⟩) l.length cap) ∧ W'.cell? ⟨bb, boff + j * 2, none⟩ = some (.int .i64 (a : Int)))) (by kernel_rfl) ?_ (fun hHeld => ?_)
          · exact ⟨(HIG.out.cells rfl hlt HXD.out).2.1, (HIG.out.cells rfl hlt HXD.out).2.2.2.2.2.1⟩
          generalize wf.drew = wg at *
          obtain ⟨j0, j1, j2, _⟩ := HXG.out.xst.cells
          refine wpAnyH_take (i := 0) (v := .pointer (some ⟨xb, 1, none⟩)) rfl (by kernel_rfl) (by kernel_rfl) (by kernel_rfl) (fun _ _ _ h => h) (Or.inl ⟨by kernel_rfl, fun w hSw => by (try dsimp only at hSw); go_simp; all_goals first | omega | exact IntWalk.i64_in _ (by omega)⟩) (by assumption) ?_
          refine wpAnyH_take (i := 2) (v := .pointer (some ⟨w.heap.size, 1, none⟩)) rfl (by kernel_rfl) (by kernel_rfl) (by kernel_rfl) (fun _ _ _ h => h) (Or.inl ⟨by kernel_rfl, fun w hSw => by (try dsimp only at hSw); go_simp; all_goals first | omega | exact IntWalk.i64_in _ (by omega)⟩) (by assumption) ?_
          refine wpAnyH_take (i := 3) (v := .slice (some ⟨bb, boff, none⟩) l.length cap) rfl (by kernel_rfl) (by kernel_rfl) (by kernel_rfl) (fun _ _ _ h => h) (Or.inl ⟨by kernel_rfl, fun w hSw => by (try dsimp only at hSw); go_simp; all_goals first | omega | exact IntWalk.i64_in _ (by omega)⟩) (by assumption) ?_
          refine wpAnyH_take (i := 4) (v := .int .i64 (j : Int)) rfl (by kernel_rfl) (by kernel_rfl) (by kernel_rfl) (fun _ _ _ h => h) (Or.inl ⟨by kernel_rfl, fun w hSw => by (try dsimp only at hSw); go_simp; all_goals first | omega | exact IntWalk.i64_in _ (by omega)⟩) (by assumption) ?_
          refine wpAnyH_take (i := 5) (v := .pointer (some ⟨bb, boff + j * 2, none⟩)) rfl (by kernel_rfl) (by kernel_rfl) (by kernel_rfl) (fun _ _ _ h => h) (Or.inl ⟨by kernel_rfl, fun w hSw => by (try dsimp only at hSw); go_simp; all_goals first | omega | exact IntWalk.i64_in _ (by omega)⟩) (by assumption) ?_
          refine wpAnyH_take (i := 6) (v := .pointer (some ⟨bb, boff + j * 2, none⟩)) rfl (by kernel_rfl) (by kernel_rfl) (by kernel_rfl) (fun _ _ _ h => h) (Or.inl ⟨by kernel_rfl, fun w hSw => by (try dsimp only at hSw); go_simp; all_goals first | omega | exact IntWalk.i64_in _ (by omega)⟩) (by assumption) ?_
          refine wpAnyH_take (i := 7) (v := .int .i64 (a : Int)) rfl (by kernel_rfl) (by kernel_rfl) (by kernel_rfl) (fun _ _ _ h => h) (Or.inl ⟨by kernel_rfl, fun w hSw => by (try dsimp only at hSw); go_simp; all_goals first | omega | exact IntWalk.i64_in _ (by omega)⟩) (by assumption) ?_
          refine wpAnyH_ready (rs := [1, 8]) (by kernel_rfl) (by simp) (AllReadyH.cons rfl (fun K hK => ?_) (AllReadyH.cons rfl (fun K hK => ?_) AllReadyH.nil))
          · go_simp
            refine hK.out _ _ ⟨(HIG.out.cells rfl hlt HXD.out).2.1, (HIG.out.cells rfl hlt HXD.out).2.2.2.2.2.1⟩ (fun hHeld => ?_)
            clear hK K
            refine wpAnyH_ready (rs := [8]) (by kernel_rfl) (by simp) (AllReadyH.cons rfl (fun K hK => ?_) AllReadyH.nil)
            have hb2 := new_below wg (.cells #[.int .i64 (a : Int)] 3)
            have HXA9 := Lib.hid (HXG.out.below hb2)
            have HIA9 := Lib.hid (HI.out.below HXA9.out.bel)
            obtain ⟨m0, m1, m2, _⟩ := HXA9.out.xst.cells
            clear hb2
            go_simp
            refine hK.out _ _ ⟨(HIA9.out.cells rfl hlt HXD.out).2.1, (HIA9.out.cells rfl hlt HXD.out).2.2.2.2.2.1⟩ (fun hHeld => ?_)
            clear hK K
            refine wpAnyH_ready (rs := [9]) (by kernel_rfl) (by simp) (AllReadyH.cons rfl (fun K hK => ?_) AllReadyH.nil)
            refine step_pushR wg (by rfl) _ _ (by rfl) t'.1 t'.2 BT dT s.2 (a : Int) (by rfl) HXG.out.own.2.1 3 (by rfl) hTl HXG.out.le.1 ?_
            intro A5 c5' w15 lo5 hi5 hr5 hor5 hw5
            obtain ⟨hx5, hxh⟩ := HXG.out.pushT hr5 hor5 hw5
            have HX5 := Lib.hid hx5
            have HXH := Lib.hid hxh
            have HI15 := Lib.hid (HI.out.below (within_on HXG.out.bel hw5 HXG.out.bel.size (.inl HXG.out.ge.2.1)))
            clear hr5 hor5 hw5 hx5 hxh m0 m1 m2 j0 j1 j2
            refine hK.out _ _ ⟨(HI15.out.cells rfl hlt HXD.out).2.1, (HI15.out.cells rfl hlt HXD.out).2.2.2.2.2.1⟩ (fun hHeld => ?_)
            clear hK K
            refine wpAnyH_take (i := 10) (v := .pointer (some ⟨xb, 1, none⟩)) rfl (by kernel_rfl) (by kernel_rfl) (by kernel_rfl) (fun _ _ _ h => h) (Or.inl ⟨by kernel_rfl, fun w hSw => by (try dsimp only at hSw); go_simp; all_goals first | omega | exact IntWalk.i64_in _ (by omega)⟩) (by assumption) ?_
            refine wpAnyH_ready (rs := [11]) (by kernel_rfl) (by simp) (AllReadyH.cons rfl (fun K hK => ?_) AllReadyH.nil)
            obtain ⟨q0, q1, q2, q3, q4, q5⟩ := HX5.out.cells
            have HIH := Lib.hid (HI.out.below HXH.out.bel)
            go_simp
            clear q0 q1 q2 q3 q4 q5
            refine hK.out _ _ ⟨(HIH.out.cells rfl hlt HXD.out).2.1, (HIH.out.cells rfl hlt HXD.out).2.2.2.2.2.1⟩ (fun hHeld => ?_)
            clear hK K
            refine wpAnyH_done (by kernel_rfl) ?_ _
            clear hHeld
            generalize hw8 : (w15.setCell ⟨xb, 1, none⟩ (.slice A5 (s.2.length + 1) c5')) = wh at *
            obtain ⟨j0, j1, j2, j3, j4, j5⟩ := HXH.out.xst.cells
            go_wp2_with (at_builtin; refine wpList_pushR _ rfl _ _ rfl z'.1 z'.2 BZ dZ Z (j : Int) rfl HXH.out.own.2.2.1 _ (by first | rfl | (simp only [World.size_setCell]; rfl)) hZl HXH.out.le.2 ?_; intro A7 c7 w17 lo7 hi7 hr7 hor7 hw7; obtain ⟨hx7, hxz⟩ := HXH.out.pushZ hr7 hor7 hw7; obtain ⟨r0, r1, r2, r3, r4, r5⟩ := hx7.cells; have HXZ := Lib.hid hxz; obtain ⟨u0, u1, u2, _⟩ := hxz.xst.cells; have hi9 := HI.out.below hxz.bel; obtain ⟨p0, p1, p2, p3, p4, p5⟩ := hi9.st.cells; have hid9 := hxz.done HI.out HPBL.out; simp only [List.length_set, List.length_append, List.length_singleton] at hid9 u1 u2; have HID9 := Lib.hid hid9; clear hr7 hor7 hw7 hx7 hxz hi9 hid9 j0 j1 j2 j3 j4 j5)
            go_roundw
            case rel => exact ⟨j + 1, by omega, by go_num, by rw [HN.out]; simp, _, _, _, _, _, _, _, _, by rw [HN.out, HN3.out]; exact HID9.out⟩
            case measure => simp [intOf]; omega
          · have hb2 := new_below wg (.cells #[.int .i64 (a : Int)] 3)
            have HXA9 := Lib.hid (HXG.out.below hb2)
            have HIA9 := Lib.hid (HI.out.below HXA9.out.bel)
            obtain ⟨m0, m1, m2, _⟩ := HXA9.out.xst.cells
            clear hb2
            go_simp
            refine hK.out _ _ ⟨(HIA9.out.cells rfl hlt HXD.out).2.1, (HIA9.out.cells rfl hlt HXD.out).2.2.2.2.2.1⟩ (fun hHeld => ?_)
            clear hK K
            refine wpAnyH_ready (rs := [1]) (by kernel_rfl) (by simp) (AllReadyH.cons rfl (fun K hK => ?_) AllReadyH.nil)
            go_simp
            refine hK.out _ _ ⟨(HIA9.out.cells rfl hlt HXD.out).2.1, (HIA9.out.cells rfl hlt HXD.out).2.2.2.2.2.1⟩ (fun hHeld => ?_)
            clear hK K
            refine wpAnyH_ready (rs := [9]) (by kernel_rfl) (by simp) (AllReadyH.cons rfl (fun K hK => ?_) AllReadyH.nil)
            refine step_pushR wg (by rfl) _ _ (by rfl) t'.1 t'.2 BT dT s.2 (a : Int) (by rfl) HXG.out.own.2.1 3 (by rfl) hTl HXG.out.le.1 ?_
            intro A5 c5' w15 lo5 hi5 hr5 hor5 hw5
            obtain ⟨hx5, hxh⟩ := HXG.out.pushT hr5 hor5 hw5
            have HX5 := Lib.hid hx5
            have HXH := Lib.hid hxh
            have HI15 := Lib.hid (HI.out.below (within_on HXG.out.bel hw5 HXG.out.bel.size (.inl HXG.out.ge.2.1)))
            clear hr5 hor5 hw5 hx5 hxh m0 m1 m2 j0 j1 j2
            refine hK.out _ _ ⟨(HI15.out.cells rfl hlt HXD.out).2.1, (HI15.out.cells rfl hlt HXD.out).2.2.2.2.2.1⟩ (fun hHeld => ?_)
            clear hK K
            refine wpAnyH_take (i := 10) (v := .pointer (some ⟨xb, 1, none⟩)) rfl (by kernel_rfl) (by kernel_rfl) (by kernel_rfl) (fun _ _ _ h => h) (Or.inl ⟨by kernel_rfl, fun w hSw => by (try dsimp only at hSw); go_simp; all_goals first | omega | exact IntWalk.i64_in _ (by omega)⟩) (by assumption) ?_
            refine wpAnyH_ready (rs := [11]) (by kernel_rfl) (by simp) (AllReadyH.cons rfl (fun K hK => ?_) AllReadyH.nil)
            obtain ⟨q0, q1, q2, q3, q4, q5⟩ := HX5.out.cells
            have HIH := Lib.hid (HI.out.below HXH.out.bel)
            go_simp
            clear q0 q1 q2 q3 q4 q5
            refine hK.out _ _ ⟨(HIH.out.cells rfl hlt HXD.out).2.1, (HIH.out.cells rfl hlt HXD.out).2.2.2.2.2.1⟩ (fun hHeld => ?_)
            clear hK K
            refine wpAnyH_done (by kernel_rfl) ?_ _
            clear hHeld
            generalize hw8 : (w15.setCell ⟨xb, 1, none⟩ (.slice A5 (s.2.length + 1) c5')) = wh at *
            obtain ⟨j0, j1, j2, j3, j4, j5⟩ := HXH.out.xst.cells
            go_wp2_with (at_builtin; refine wpList_pushR _ rfl _ _ rfl z'.1 z'.2 BZ dZ Z (j : Int) rfl HXH.out.own.2.2.1 _ (by first | rfl | (simp only [World.size_setCell]; rfl)) hZl HXH.out.le.2 ?_; intro A7 c7 w17 lo7 hi7 hr7 hor7 hw7; obtain ⟨hx7, hxz⟩ := HXH.out.pushZ hr7 hor7 hw7; obtain ⟨r0, r1, r2, r3, r4, r5⟩ := hx7.cells; have HXZ := Lib.hid hxz; obtain ⟨u0, u1, u2, _⟩ := hxz.xst.cells; have hi9 := HI.out.below hxz.bel; obtain ⟨p0, p1, p2, p3, p4, p5⟩ := hi9.st.cells; have hid9 := hxz.done HI.out HPBL.out; simp only [List.length_set, List.length_append, List.length_singleton] at hid9 u1 u2; have HID9 := Lib.hid hid9; clear hr7 hor7 hw7 hx7 hxz hi9 hid9 j0 j1 j2 j3 j4 j5)
            go_roundw
            case rel => exact ⟨j + 1, by omega, by go_num, by rw [HN.out]; simp, _, _, _, _, _, _, _, _, by rw [HN.out, HN3.out]; exact HID9.out⟩
            case measure => simp [intOf]; omega
        · have hb2 := new_below WD (.cells #[.slice none 0 0, .slice none 0 0, .slice none 0 0] 64)
          have HIA := Lib.hid (HID.out.below hb2)
          have HBA := Lib.hid (below_on HBD.out hb2 HBD.out.size)
          have HXA := Lib.hid (cel3_new WD (.slice none 0 0) (.slice none 0 0) (.slice none 0 0) 64)
          have HAS := Lib.hid (show (WD.alloc (.cells #[.slice none 0 0, .slice none 0 0, .slice none 0 0] 64)).heap.size = WD.heap.size + 1 by simp)
          clear hb2
          go_simp
          generalize (WD.alloc (.cells #[.slice none 0 0, .slice none 0 0, .slice none 0 0] 64)) = wa at *
          refine hK.out _ _ (HIA.out.cells rfl hlt HXD.out) (fun hHeld => ?_)
          clear hK K
          refine wpAnyH_ready (rs := [14]) (by kernel_rfl) (by simp) (AllReadyH.cons rfl (fun K hK => ?_) AllReadyH.nil)
          go_simp
          go_at_call 128
          refine (HGC.out _ HIA.out.bars.at HIA.out.src).mono ?_
          rintro e wc ⟨hb, BF, dF, BT, dT, BZ, dZ, rfl, ho⟩
          have HIC := Lib.hid (HIA.out.below hb)
          have HBC := Lib.hid (below_on HBA.out hb HBA.out.size)
          have HXC := Lib.hid (HXA.out.kept hb)
          obtain ⟨f, t, z, hof, y1, y2, y3⟩ := ho.ownF
          have HOC := Lib.hid hof
          have HY := Lib.hid (And.intro y1 (And.intro y2 y3))
          have HYS := Lib.hid hb.size
          clear ho hof y1 y2 y3
          clear hb
          refine hK.out _ _ (HIC.out.cells rfl hlt HXD.out) (fun hHeld => ?_)
          clear hK K
          refine wpAnyH_take (i := 15) (v := .tuple #[.agg #[.slice BF s.1.length dF, .slice BT s.2.length dT, .slice BZ Z.length dZ], .bool true]) rfl (by kernel_rfl) (by kernel_rfl) (by kernel_rfl) (fun _ _ _ h => h) (Or.inl ⟨by kernel_rfl, fun w hSw => by (try dsimp only at hSw); go_simp; all_goals first | omega | exact IntWalk.i64_in _ (by omega)⟩) (by assumption) ?_
          refine wpAnyH_take (i := 16) (v := .agg #[.slice BF s.1.length dF, .slice BT s.2.length dT, .slice BZ Z.length dZ]) rfl (by kernel_rfl) (by kernel_rfl) (by kernel_rfl) (fun _ _ _ h => h) (Or.inl ⟨by kernel_rfl, fun w hSw => by (try dsimp only at hSw); go_simp; all_goals first | omega | exact IntWalk.i64_in _ (by omega)⟩) (by assumption) ?_
          refine wpAnyH_take (i := 17) (v := .bool true) rfl (by kernel_rfl) (by kernel_rfl) (by kernel_rfl) (fun _ _ _ h => h) (Or.inl ⟨by kernel_rfl, fun w hSw => by (try dsimp only at hSw); go_simp; all_goals first | omega | exact IntWalk.i64_in _ (by omega)⟩) (by assumption) ?_
          refine wpAnyH_ready (rs := [19]) (by kernel_rfl) (by simp) (AllReadyH.cons rfl (fun K hK => ?_) AllReadyH.nil)
          obtain ⟨q0, q1, q2, q3, q4, q5⟩ := HXC.out.cells
          have hr := ret3 HXC.out (.slice BF s.1.length dF) (.slice BT s.2.length dT) (.slice BZ Z.length dZ)
          have HXS := Lib.hid hr.1
          have hbx : wr.heap.size ≤ WD.heap.size := HBD.out.size
          have HXB := Lib.hid hbx
          have HBS := Lib.hid (within_on HBC.out hr.2 HBC.out.size (.inl hbx))
          have HIS := Lib.hid (HI.out.below HBS.out)
          have hy := HY.out
          have hys := HYS.out
          have has := HAS.out
          have hxd9 : (WD.heap.size < f.1 ∨ f.2 ≤ WD.heap.size) ∧ (WD.heap.size < t.1 ∨ t.2 ≤ WD.heap.size) ∧ (WD.heap.size < z.1 ∨ z.2 ≤ WD.heap.size) := by omega
          have HXDD := Lib.hid hxd9
          have HGE := Lib.hid (show wr.heap.size ≤ f.1 ∧ wr.heap.size ≤ t.1 ∧ wr.heap.size ≤ z.1 from by have := HBD.out.size; omega)
          have HOS := Lib.hid (HOC.out.within hr.2 (by omega) (by omega) (by omega))
          clear hy hys has hxd9
          clear hr hbx
          go_simp
          clear q0 q1 q2 q3 q4 q5
          refine hK.out _ _ (HIS.out.cells rfl hlt HXD.out) (fun hHeld => ?_)
          clear hK K
          refine wpAnyH_ready (rs := [20]) (by kernel_rfl) (by simp) (AllReadyH.cons rfl (fun K hK => ?_) AllReadyH.nil)
          go_simp
          refine hK.out _ _ (HIS.out.cells rfl hlt HXD.out) (fun hHeld => ?_)
          clear hK K
          refine wpAnyH_done (by kernel_rfl) ?_ _
          obtain ⟨gF, rfl, hgf⟩ := HOS.out.fst (by have := HN2.out; omega)
          have hge := HGE.out
          have hxlt := HXS.out.lt
          obtain ⟨t', z', hn8, m1, m2, m3, m4, m5, m6⟩ := HOS.out.norm (B := wr.heap.size) (pb := WD.heap.size) HBS.out.size hxlt hge.2.1 hge.2.2 HXDD.out.2.1 HXDD.out.2.2
          have HX8 := Lib.hid (show L6X wr (((wc.setCell ⟨WD.heap.size, 0, none⟩ (.slice (some ⟨gF, 0, none⟩) s.1.length dF)).setCell ⟨WD.heap.size, 1, none⟩ (.slice BT s.2.length dT)).setCell ⟨WD.heap.size, 2, none⟩ (.slice BZ Z.length dZ)) WD.heap.size f t' z' gF BT BZ dF dT dZ s.1 s.2 Z from ⟨HXS.out, hn8, hgf, ⟨hge.1, m1, m2, HXB.out⟩, ⟨HXDD.out.1, m3, m4⟩, ⟨m5, m6⟩, HBS.out⟩)
          clear hgf hge hxlt hn8 m1 m2 m3 m4 m5 m6 HOS HXS hHeld
          generalize (((wc.setCell ⟨WD.heap.size, 0, none⟩ (.slice (some ⟨gF, 0, none⟩) s.1.length dF)).setCell ⟨WD.heap.size, 1, none⟩ (.slice BT s.2.length dT)).setCell ⟨WD.heap.size, 2, none⟩ (.slice BZ Z.length dZ)) = w8 at *
          generalize WD.heap.size = xb at *
          obtain ⟨c0, c1, c2, c3, c4, c5, c6⟩ := HIS.out.cells rfl hlt HXD.out
          obtain ⟨j0, j1, j2, _⟩ := HX8.out.xst.cells
          have hcf := HX8.out.cellF (i := a) (by have := HN2.out; omega)
          obtain ⟨hc8, hf8⟩ := hcf
          rw [HN3.out] at hc8
          have has8 : (a : Int) < (s.1.length : Int) := by have := HN2.out; omega
          go_wp2_with fail
          go_still_tail 20, (by kernel_rfl)
          change wpList _ _ _ _ _ w8.drew
          have hd8 : Below w8.heap.size w8 w8.drew := (Below.refl _ _).drew
          have HX9 := Lib.hid (HX8.out.below hd8)
          clear c0 c1 c2 c3 c4 c5 c6 j0 j1 j2 hc8 hf8 hd8
          generalize w8.drew = w9 at *
          obtain ⟨hc9, hf9⟩ := HX9.out.cellF (i := a) (by have := HN2.out; omega)
          have HXF := Lib.hid (HX9.out.setF (by have := HN2.out; omega) a 1)
          rw [HN3.out] at hc9
          have HIF := Lib.hid (HI.out.below HXF.out.bel)
          obtain ⟨c0, c1, c2, c3, c4, c5, c6⟩ := HIF.out.cells rfl hlt HXD.out
          obtain ⟨j0, j1, j2, _⟩ := HXF.out.xst.cells
          go_wp2_with fail
          clear hc9 hf9
          generalize (w9.setCell ⟨gF, a, none⟩ (.int .i64 1)) = wf at *
          have hTl : s.2.length ≤ 1048576 := by rw [HN4.out, HFS.out.1.ends.len, plE_len]; omega
          have hZl : Z.length ≤ 1048576 := by omega
          have hd8 : Below wf.heap.size wf wf.drew := (Below.refl _ _).drew
          have HXG := Lib.hid (HXF.out.below hd8)
          have HIG := Lib.hid (HI.out.below HXG.out.bel)
          clear c0 c1 c2 c3 c4 c5 c6 j0 j1 j2 hd8
          refine wp_region_held_drew (S := (fun W' : World => W'.cell? ⟨w.heap.size, 1, none⟩ = some (.slice (some ⟨bb, boff, none⟩) l.length cap) ∧ W'.cell? ⟨bb, boff + j * 2, none⟩ = some (.int .i64 (a : Int)))) (by kernel_rfl) ?_ (fun hHeld => ?_)
          · exact ⟨(HIG.out.cells rfl hlt HXD.out).2.1, (HIG.out.cells rfl hlt HXD.out).2.2.2.2.2.1⟩
          generalize wf.drew = wg at *
          obtain ⟨j0, j1, j2, _⟩ := HXG.out.xst.cells
          refine wpAnyH_take (i := 0) (v := .pointer (some ⟨xb, 1, none⟩)) rfl (by kernel_rfl) (by kernel_rfl) (by kernel_rfl) (fun _ _ _ h => h) (Or.inl ⟨by kernel_rfl, fun w hSw => by (try dsimp only at hSw); go_simp; all_goals first | omega | exact IntWalk.i64_in _ (by omega)⟩) (by assumption) ?_
          refine wpAnyH_take (i := 2) (v := .pointer (some ⟨w.heap.size, 1, none⟩)) rfl (by kernel_rfl) (by kernel_rfl) (by kernel_rfl) (fun _ _ _ h => h) (Or.inl ⟨by kernel_rfl, fun w hSw => by (try dsimp only at hSw); go_simp; all_goals first | omega | exact IntWalk.i64_in _ (by omega)⟩) (by assumption) ?_
          refine wpAnyH_take (i := 3) (v := .slice (some ⟨bb, boff, none⟩) l.length cap) rfl (by kernel_rfl) (by kernel_rfl) (by kernel_rfl) (fun _ _ _ h => h) (Or.inl ⟨by kernel_rfl, fun w hSw => by (try dsimp only at hSw); go_simp; all_goals first | omega | exact IntWalk.i64_in _ (by omega)⟩) (by assumption) ?_
          refine wpAnyH_take (i := 4) (v := .int .i64 (j : Int)) rfl (by kernel_rfl) (by kernel_rfl) (by kernel_rfl) (fun _ _ _ h => h) (Or.inl ⟨by kernel_rfl, fun w hSw => by (try dsimp only at hSw); go_simp; all_goals first | omega | exact IntWalk.i64_in _ (by omega)⟩) (by assumption) ?_
          refine wpAnyH_take (i := 5) (v := .pointer (some ⟨bb, boff + j * 2, none⟩)) rfl (by kernel_rfl) (by kernel_rfl) (by kernel_rfl) (fun _ _ _ h => h) (Or.inl ⟨by kernel_rfl, fun w hSw => by (try dsimp only at hSw); go_simp; all_goals first | omega | exact IntWalk.i64_in _ (by omega)⟩) (by assumption) ?_
          refine wpAnyH_take (i := 6) (v := .pointer (some ⟨bb, boff + j * 2, none⟩)) rfl (by kernel_rfl) (by kernel_rfl) (by kernel_rfl) (fun _ _ _ h => h) (Or.inl ⟨by kernel_rfl, fun w hSw => by (try dsimp only at hSw); go_simp; all_goals first | omega | exact IntWalk.i64_in _ (by omega)⟩) (by assumption) ?_
          refine wpAnyH_take (i := 7) (v := .int .i64 (a : Int)) rfl (by kernel_rfl) (by kernel_rfl) (by kernel_rfl) (fun _ _ _ h => h) (Or.inl ⟨by kernel_rfl, fun w hSw => by (try dsimp only at hSw); go_simp; all_goals first | omega | exact IntWalk.i64_in _ (by omega)⟩) (by assumption) ?_
          refine wpAnyH_ready (rs := [1, 8]) (by kernel_rfl) (by simp) (AllReadyH.cons rfl (fun K hK => ?_) (AllReadyH.cons rfl (fun K hK => ?_) AllReadyH.nil))
          · go_simp
            refine hK.out _ _ ⟨(HIG.out.cells rfl hlt HXD.out).2.1, (HIG.out.cells rfl hlt HXD.out).2.2.2.2.2.1⟩ (fun hHeld => ?_)
            clear hK K
            refine wpAnyH_ready (rs := [8]) (by kernel_rfl) (by simp) (AllReadyH.cons rfl (fun K hK => ?_) AllReadyH.nil)
            have hb2 := new_below wg (.cells #[.int .i64 (a : Int)] 3)
            have HXA9 := Lib.hid (HXG.out.below hb2)
            have HIA9 := Lib.hid (HI.out.below HXA9.out.bel)
            obtain ⟨m0, m1, m2, _⟩ := HXA9.out.xst.cells
            clear hb2
            go_simp
            refine hK.out _ _ ⟨(HIA9.out.cells rfl hlt HXD.out).2.1, (HIA9.out.cells rfl hlt HXD.out).2.2.2.2.2.1⟩ (fun hHeld => ?_)
            clear hK K
            refine wpAnyH_ready (rs := [9]) (by kernel_rfl) (by simp) (AllReadyH.cons rfl (fun K hK => ?_) AllReadyH.nil)
            refine step_pushR wg (by rfl) _ _ (by rfl) t'.1 t'.2 BT dT s.2 (a : Int) (by rfl) HXG.out.own.2.1 3 (by rfl) hTl HXG.out.le.1 ?_
            intro A5 c5' w15 lo5 hi5 hr5 hor5 hw5
            obtain ⟨hx5, hxh⟩ := HXG.out.pushT hr5 hor5 hw5
            have HX5 := Lib.hid hx5
            have HXH := Lib.hid hxh
            have HI15 := Lib.hid (HI.out.below (within_on HXG.out.bel hw5 HXG.out.bel.size (.inl HXG.out.ge.2.1)))
            clear hr5 hor5 hw5 hx5 hxh m0 m1 m2 j0 j1 j2
            refine hK.out _ _ ⟨(HI15.out.cells rfl hlt HXD.out).2.1, (HI15.out.cells rfl hlt HXD.out).2.2.2.2.2.1⟩ (fun hHeld => ?_)
            clear hK K
            refine wpAnyH_take (i := 10) (v := .pointer (some ⟨xb, 1, none⟩)) rfl (by kernel_rfl) (by kernel_rfl) (by kernel_rfl) (fun _ _ _ h => h) (Or.inl ⟨by kernel_rfl, fun w hSw => by (try dsimp only at hSw); go_simp; all_goals first | omega | exact IntWalk.i64_in _ (by omega)⟩) (by assumption) ?_
            refine wpAnyH_ready (rs := [11]) (by kernel_rfl) (by simp) (AllReadyH.cons rfl (fun K hK => ?_) AllReadyH.nil)
            obtain ⟨q0, q1, q2, q3, q4, q5⟩ := HX5.out.cells
            have HIH := Lib.hid (HI.out.below HXH.out.bel)
            go_simp
            clear q0 q1 q2 q3 q4 q5
            refine hK.out _ _ ⟨(HIH.out.cells rfl hlt HXD.out).2.1, (HIH.out.cells rfl hlt HXD.out).2.2.2.2.2.1⟩ (fun hHeld => ?_)
            clear hK K
            refine wpAnyH_done (by kernel_rfl) ?_ _
            clear hHeld
            generalize hw8 : (w15.setCell ⟨xb, 1, none⟩ (.slice A5 (s.2.length + 1) c5')) = wh at *
            obtain ⟨j0, j1, j2, j3, j4, j5⟩ := HXH.out.xst.cells
            go_wp2_with (at_builtin; refine wpList_pushR _ rfl _ _ rfl z'.1 z'.2 BZ dZ Z (j : Int) rfl HXH.out.own.2.2.1 _ (by first | rfl | (simp only [World.size_setCell]; rfl)) hZl HXH.out.le.2 ?_; intro A7 c7 w17 lo7 hi7 hr7 hor7 hw7; obtain ⟨hx7, hxz⟩ := HXH.out.pushZ hr7 hor7 hw7; obtain ⟨r0, r1, r2, r3, r4, r5⟩ := hx7.cells; have HXZ := Lib.hid hxz; obtain ⟨u0, u1, u2, _⟩ := hxz.xst.cells; have hi9 := HI.out.below hxz.bel; obtain ⟨p0, p1, p2, p3, p4, p5⟩ := hi9.st.cells; have hid9 := hxz.done HI.out HPBL.out; simp only [List.length_set, List.length_append, List.length_singleton] at hid9 u1 u2; have HID9 := Lib.hid hid9; clear hr7 hor7 hw7 hx7 hxz hi9 hid9 j0 j1 j2 j3 j4 j5)
            go_roundw
            case rel => exact ⟨j + 1, by omega, by go_num, by rw [HN.out]; simp, _, _, _, _, _, _, _, _, by rw [HN.out, HN3.out]; exact HID9.out⟩
            case measure => simp [intOf]; omega
          · have hb2 := new_below wg (.cells #[.int .i64 (a : Int)] 3)
            have HXA9 := Lib.hid (HXG.out.below hb2)
            have HIA9 := Lib.hid (HI.out.below HXA9.out.bel)
            obtain ⟨m0, m1, m2, _⟩ := HXA9.out.xst.cells
            clear hb2
            go_simp
            refine hK.out _ _ ⟨(HIA9.out.cells rfl hlt HXD.out).2.1, (HIA9.out.cells rfl hlt HXD.out).2.2.2.2.2.1⟩ (fun hHeld => ?_)
            clear hK K
            refine wpAnyH_ready (rs := [1]) (by kernel_rfl) (by simp) (AllReadyH.cons rfl (fun K hK => ?_) AllReadyH.nil)
            go_simp
            refine hK.out _ _ ⟨(HIA9.out.cells rfl hlt HXD.out).2.1, (HIA9.out.cells rfl hlt HXD.out).2.2.2.2.2.1⟩ (fun hHeld => ?_)
            clear hK K
            refine wpAnyH_ready (rs := [9]) (by kernel_rfl) (by simp) (AllReadyH.cons rfl (fun K hK => ?_) AllReadyH.nil)
            refine step_pushR wg (by rfl) _ _ (by rfl) t'.1 t'.2 BT dT s.2 (a : Int) (by rfl) HXG.out.own.2.1 3 (by rfl) hTl HXG.out.le.1 ?_
            intro A5 c5' w15 lo5 hi5 hr5 hor5 hw5
            obtain ⟨hx5, hxh⟩ := HXG.out.pushT hr5 hor5 hw5
            have HX5 := Lib.hid hx5
            have HXH := Lib.hid hxh
            have HI15 := Lib.hid (HI.out.below (within_on HXG.out.bel hw5 HXG.out.bel.size (.inl HXG.out.ge.2.1)))
            clear hr5 hor5 hw5 hx5 hxh m0 m1 m2 j0 j1 j2
            refine hK.out _ _ ⟨(HI15.out.cells rfl hlt HXD.out).2.1, (HI15.out.cells rfl hlt HXD.out).2.2.2.2.2.1⟩ (fun hHeld => ?_)
            clear hK K
            refine wpAnyH_take (i := 10) (v := .pointer (some ⟨xb, 1, none⟩)) rfl (by kernel_rfl) (by kernel_rfl) (by kernel_rfl) (fun _ _ _ h => h) (Or.inl ⟨by kernel_rfl, fun w hSw => by (try dsimp only at hSw); go_simp; all_goals first | omega | exact IntWalk.i64_in _ (by omega)⟩) (by assumption) ?_
            refine wpAnyH_ready (rs := [11]) (by kernel_rfl) (by simp) (AllReadyH.cons rfl (fun K hK => ?_) AllReadyH.nil)
            obtain ⟨q0, q1, q2, q3, q4, q5⟩ := HX5.out.cells
            have HIH := Lib.hid (HI.out.below HXH.out.bel)
            go_simp
            clear q0 q1 q2 q3 q4 q5
            refine hK.out _ _ ⟨(HIH.out.cells rfl hlt HXD.out).2.1, (HIH.out.cells rfl hlt HXD.out).2.2.2.2.2.1⟩ (fun hHeld => ?_)
            clear hK K
            refine wpAnyH_done (by kernel_rfl) ?_ _
            clear hHeld
            generalize hw8 : (w15.setCell ⟨xb, 1, none⟩ (.slice A5 (s.2.length + 1) c5')) = wh at *
            obtain ⟨j0, j1, j2, j3, j4, j5⟩ := HXH.out.xst.cells
            go_wp2_with (at_builtin; refine wpList_pushR _ rfl _ _ rfl z'.1 z'.2 BZ dZ Z (j : Int) rfl HXH.out.own.2.2.1 _ (by first | rfl | (simp only [World.size_setCell]; rfl)) hZl HXH.out.le.2 ?_; intro A7 c7 w17 lo7 hi7 hr7 hor7 hw7; obtain ⟨hx7, hxz⟩ := HXH.out.pushZ hr7 hor7 hw7; obtain ⟨r0, r1, r2, r3, r4, r5⟩ := hx7.cells; have HXZ := Lib.hid hxz; obtain ⟨u0, u1, u2, _⟩ := hxz.xst.cells; have hi9 := HI.out.below hxz.bel; obtain ⟨p0, p1, p2, p3, p4, p5⟩ := hi9.st.cells; have hid9 := hxz.done HI.out HPBL.out; simp only [List.length_set, List.length_append, List.length_singleton] at hid9 u1 u2; have HID9 := Lib.hid hid9; clear hr7 hor7 hw7 hx7 hxz hi9 hid9 j0 j1 j2 j3 j4 j5)
            go_roundw
            case rel => exact ⟨j + 1, by omega, by go_num, by rw [HN.out]; simp, _, _, _, _, _, _, _, _, by rw [HN.out, HN3.out]; exact HID9.out⟩
            case measure => simp [intOf]; omega
    · obtain rfl : j = l.length := by omega
      have hg1 := hin.gb.2.2
      clear hin
      go_wp2_with fail
      go_ret
      exact ⟨rfl, HI.out.bel⟩
end Go.Proofs.Ytdnmmjaelgjkaaa
/- What spec.IsImplied answers. No condition. -/
namespace Go.Proofs.Ytdnmmjaelgjkaaa
open Go.RowKit

theorem l6_ins {P : Nat} {a b : Int} {l : List (Int × Int)} (hG : IsG (P : Int) l) (ha : 0 ≤ a ∧ a < (P : Int)) (hb : 0 ≤ b ∧ b < (P : Int)) (hab : a ≠ b) : Bars P (insU (barOf a b) l) ∧ (insU (barOf a b) l).length ≤ 25 := by
  have hp := insU_perm (x := barOf a b) (isG_ord hG)
  refine ⟨bars_perm (bars_snoc (bars_ofI hG) (barOf_in ha hb hab).1) hp, ?_⟩
  rw [hp.length_eq]
  have := hG.2.1
  simp
  omega
set_option maxHeartbeats 4000000 in
set_option maxRecDepth 100000 in
theorem specImp (p a b : Int) (l : List (Int × Int)) (A : Option Addr) (cap : Nat) (w : World) (hl : BarsAt w w.heap.size A l) (hn : l.length ≤ 1048576) :
    Calls Try.prog 14 #[.agg #[.int .i64 p, .slice A l.length cap], .int .i64 a, .int .i64 b] w fun e w' => e = .returned (.bool (impB p a b l)) ∧ Below w.heap.size w w' := by
  have HISG : ∀ W : World, BarsAt W W.heap.size A l → Calls Try.prog 80 #[.agg #[.int .i64 p, .slice A l.length cap]] W fun e w' => e = .returned (.bool (isGB p l)) ∧ Below W.heap.size W w' := fun W h => specIsGraph' p l A cap W h hn
  obtain ⟨rv, hrv⟩ : ∃ rv, impB p a b l = rv := ⟨_, rfl⟩
  rw [hrv]
  cases hg : isGB p l with
  | false =>
    have HRV := Lib.hid (show rv = false from by rw [← hrv]; exact imp_no (.inl hg))
    rw [hg] at HISG
    clear hrv hg
    have W0 := Lib.hid (Below.refl w.heap.size w)
    have HB_0 := Lib.hid (bars_in hl)
    clear hl
    have Z1 := Lib.hid (within_alloc w (.cells #[.int .i64 p, (.slice A l.length cap)] 29)).size
    have W1 := Lib.hid (within_on W0.out (within_alloc w (.cells #[.int .i64 p, (.slice A l.length cap)] 29)) W0.out.size (.inr (Nat.le_refl _)))
    have HB_1 := Lib.hid (HB_0.out.within (within_alloc w (.cells #[.int .i64 p, (.slice A l.length cap)] 29)) (by omega))
    have Y1 := Lib.hid (show (w.alloc (.cells #[.int .i64 p, (.slice A l.length cap)] 29)).heap.size = w.heap.size + 1 by simp)
    have hnew := box_new w p (.slice A l.length cap) 29
    have BX_1 := Lib.hid hnew
    clear hnew
    go_enter Try.func14, Try.ntmps14
    obtain ⟨g0_0, g0_1, g0_2⟩ := BX_1.out
    go_wp2_with fail
    clear g0_0 g0_1 g0_2
    generalize (w.alloc (.cells #[.int .i64 p, (.slice A l.length cap)] 29)) = w1 at *
    refine (HISG _ HB_1.out.at).mono ?_
    rintro e w2 ⟨rfl, hb⟩
    have Z2 := Lib.hid (within_of hb).size
    have W2 := Lib.hid (within_on W1.out (within_of hb) W1.out.size (.inr (Nat.le_refl _)))
    have HB_2 := Lib.hid (HB_1.out.within (within_of hb) (by omega))
    have BX_2 := Lib.hid (BX_1.out.within (within_of hb) (by omega))
    clear hb HISG
    obtain ⟨g1_0, g1_1, g1_2⟩ := BX_2.out
    go_wp2_with fail
    clear g1_0 g1_1 g1_2
    go_ret
    exact ⟨by rw [HRV.out]; rfl, W2.out⟩
  | true =>
    have hG : IsG p l := Classical.byContradiction fun g => by rw [isGB_no g] at hg; cases hg
    have HG := Lib.hid hG
    have HGB := Lib.hid hg
    rw [hg] at HISG
    clear hg hG
    by_cases ha0 : a < 0
    · have HRV := Lib.hid (show rv = false from by rw [← hrv]; exact imp_no (.inr (.inl (by omega))))
      clear hrv
      have W0 := Lib.hid (Below.refl w.heap.size w)
      have HB_0 := Lib.hid (bars_in hl)
      clear hl
      have Z1 := Lib.hid (within_alloc w (.cells #[.int .i64 p, (.slice A l.length cap)] 29)).size
      have W1 := Lib.hid (within_on W0.out (within_alloc w (.cells #[.int .i64 p, (.slice A l.length cap)] 29)) W0.out.size (.inr (Nat.le_refl _)))
      have HB_1 := Lib.hid (HB_0.out.within (within_alloc w (.cells #[.int .i64 p, (.slice A l.length cap)] 29)) (by omega))
      have Y1 := Lib.hid (show (w.alloc (.cells #[.int .i64 p, (.slice A l.length cap)] 29)).heap.size = w.heap.size + 1 by simp)
      have hnew := box_new w p (.slice A l.length cap) 29
      have BX_1 := Lib.hid hnew
      clear hnew
      go_enter Try.func14, Try.ntmps14
      obtain ⟨g0_0, g0_1, g0_2⟩ := BX_1.out
      go_wp2_with fail
      clear g0_0 g0_1 g0_2
      generalize (w.alloc (.cells #[.int .i64 p, (.slice A l.length cap)] 29)) = w1 at *
      refine (HISG _ HB_1.out.at).mono ?_
      rintro e w2 ⟨rfl, hb⟩
      have Z2 := Lib.hid (within_of hb).size
      have W2 := Lib.hid (within_on W1.out (within_of hb) W1.out.size (.inr (Nat.le_refl _)))
      have HB_2 := Lib.hid (HB_1.out.within (within_of hb) (by omega))
      have BX_2 := Lib.hid (BX_1.out.within (within_of hb) (by omega))
      clear hb HISG
      obtain ⟨g1_0, g1_1, g1_2⟩ := BX_2.out
      go_wp2_with fail
      clear g1_0 g1_1 g1_2
      go_ret
      exact ⟨by rw [HRV.out]; first | rfl | simp, W2.out⟩
    by_cases hb0 : b < 0
    · have HRV := Lib.hid (show rv = false from by rw [← hrv]; exact imp_no (.inr (.inr (by omega))))
      clear hrv
      have W0 := Lib.hid (Below.refl w.heap.size w)
      have HB_0 := Lib.hid (bars_in hl)
      clear hl
      have Z1 := Lib.hid (within_alloc w (.cells #[.int .i64 p, (.slice A l.length cap)] 29)).size
      have W1 := Lib.hid (within_on W0.out (within_alloc w (.cells #[.int .i64 p, (.slice A l.length cap)] 29)) W0.out.size (.inr (Nat.le_refl _)))
      have HB_1 := Lib.hid (HB_0.out.within (within_alloc w (.cells #[.int .i64 p, (.slice A l.length cap)] 29)) (by omega))
      have Y1 := Lib.hid (show (w.alloc (.cells #[.int .i64 p, (.slice A l.length cap)] 29)).heap.size = w.heap.size + 1 by simp)
      have hnew := box_new w p (.slice A l.length cap) 29
      have BX_1 := Lib.hid hnew
      clear hnew
      go_enter Try.func14, Try.ntmps14
      obtain ⟨g0_0, g0_1, g0_2⟩ := BX_1.out
      go_wp2_with fail
      clear g0_0 g0_1 g0_2
      generalize (w.alloc (.cells #[.int .i64 p, (.slice A l.length cap)] 29)) = w1 at *
      refine (HISG _ HB_1.out.at).mono ?_
      rintro e w2 ⟨rfl, hb⟩
      have Z2 := Lib.hid (within_of hb).size
      have W2 := Lib.hid (within_on W1.out (within_of hb) W1.out.size (.inr (Nat.le_refl _)))
      have HB_2 := Lib.hid (HB_1.out.within (within_of hb) (by omega))
      have BX_2 := Lib.hid (BX_1.out.within (within_of hb) (by omega))
      clear hb HISG
      obtain ⟨g1_0, g1_1, g1_2⟩ := BX_2.out
      go_wp2_with fail
      clear g1_0 g1_1 g1_2
      go_ret
      exact ⟨by rw [HRV.out]; first | rfl | simp, W2.out⟩
    by_cases hap : p ≤ a
    · have HRV := Lib.hid (show rv = false from by rw [← hrv]; exact imp_no (.inr (.inl (by omega))))
      clear hrv
      have W0 := Lib.hid (Below.refl w.heap.size w)
      have HB_0 := Lib.hid (bars_in hl)
      clear hl
      have Z1 := Lib.hid (within_alloc w (.cells #[.int .i64 p, (.slice A l.length cap)] 29)).size
      have W1 := Lib.hid (within_on W0.out (within_alloc w (.cells #[.int .i64 p, (.slice A l.length cap)] 29)) W0.out.size (.inr (Nat.le_refl _)))
      have HB_1 := Lib.hid (HB_0.out.within (within_alloc w (.cells #[.int .i64 p, (.slice A l.length cap)] 29)) (by omega))
      have Y1 := Lib.hid (show (w.alloc (.cells #[.int .i64 p, (.slice A l.length cap)] 29)).heap.size = w.heap.size + 1 by simp)
      have hnew := box_new w p (.slice A l.length cap) 29
      have BX_1 := Lib.hid hnew
      clear hnew
      go_enter Try.func14, Try.ntmps14
      obtain ⟨g0_0, g0_1, g0_2⟩ := BX_1.out
      go_wp2_with fail
      clear g0_0 g0_1 g0_2
      generalize (w.alloc (.cells #[.int .i64 p, (.slice A l.length cap)] 29)) = w1 at *
      refine (HISG _ HB_1.out.at).mono ?_
      rintro e w2 ⟨rfl, hb⟩
      have Z2 := Lib.hid (within_of hb).size
      have W2 := Lib.hid (within_on W1.out (within_of hb) W1.out.size (.inr (Nat.le_refl _)))
      have HB_2 := Lib.hid (HB_1.out.within (within_of hb) (by omega))
      have BX_2 := Lib.hid (BX_1.out.within (within_of hb) (by omega))
      clear hb HISG
      obtain ⟨g1_0, g1_1, g1_2⟩ := BX_2.out
      go_wp2_with fail
      clear g1_0 g1_1 g1_2
      go_ret
      exact ⟨by rw [HRV.out]; first | rfl | simp, W2.out⟩
    by_cases hbp : p ≤ b
    · have HRV := Lib.hid (show rv = false from by rw [← hrv]; exact imp_no (.inr (.inr (by omega))))
      clear hrv
      have W0 := Lib.hid (Below.refl w.heap.size w)
      have HB_0 := Lib.hid (bars_in hl)
      clear hl
      have Z1 := Lib.hid (within_alloc w (.cells #[.int .i64 p, (.slice A l.length cap)] 29)).size
      have W1 := Lib.hid (within_on W0.out (within_alloc w (.cells #[.int .i64 p, (.slice A l.length cap)] 29)) W0.out.size (.inr (Nat.le_refl _)))
      have HB_1 := Lib.hid (HB_0.out.within (within_alloc w (.cells #[.int .i64 p, (.slice A l.length cap)] 29)) (by omega))
      have Y1 := Lib.hid (show (w.alloc (.cells #[.int .i64 p, (.slice A l.length cap)] 29)).heap.size = w.heap.size + 1 by simp)
      have hnew := box_new w p (.slice A l.length cap) 29
      have BX_1 := Lib.hid hnew
      clear hnew
      go_enter Try.func14, Try.ntmps14
      obtain ⟨g0_0, g0_1, g0_2⟩ := BX_1.out
      go_wp2_with fail
      clear g0_0 g0_1 g0_2
      generalize (w.alloc (.cells #[.int .i64 p, (.slice A l.length cap)] 29)) = w1 at *
      refine (HISG _ HB_1.out.at).mono ?_
      rintro e w2 ⟨rfl, hb⟩
      have Z2 := Lib.hid (within_of hb).size
      have W2 := Lib.hid (within_on W1.out (within_of hb) W1.out.size (.inr (Nat.le_refl _)))
      have HB_2 := Lib.hid (HB_1.out.within (within_of hb) (by omega))
      have BX_2 := Lib.hid (BX_1.out.within (within_of hb) (by omega))
      clear hb HISG
      obtain ⟨g1_0, g1_1, g1_2⟩ := BX_2.out
      go_wp2_with fail
      clear g1_0 g1_1 g1_2
      go_ret
      exact ⟨by rw [HRV.out]; first | rfl | simp, W2.out⟩
    obtain ⟨P, rfl⟩ : ∃ u : Nat, p = (u : Int) := ⟨p.toNat, by omega⟩
    by_cases hab : a = b
    · subst hab
      have HRV := Lib.hid (show rv = true from by rw [← hrv]; exact imp_same HGB.out ⟨by omega, by omega⟩)
      clear hrv
      have W0 := Lib.hid (Below.refl w.heap.size w)
      have HB_0 := Lib.hid (bars_in hl)
      clear hl
      have Z1 := Lib.hid (within_alloc w (.cells #[.int .i64 (P : Int), (.slice A l.length cap)] 29)).size
      have W1 := Lib.hid (within_on W0.out (within_alloc w (.cells #[.int .i64 (P : Int), (.slice A l.length cap)] 29)) W0.out.size (.inr (Nat.le_refl _)))
      have HB_1 := Lib.hid (HB_0.out.within (within_alloc w (.cells #[.int .i64 (P : Int), (.slice A l.length cap)] 29)) (by omega))
      have Y1 := Lib.hid (show (w.alloc (.cells #[.int .i64 (P : Int), (.slice A l.length cap)] 29)).heap.size = w.heap.size + 1 by simp)
      have hnew := box_new w (P : Int) (.slice A l.length cap) 29
      have BX_1 := Lib.hid hnew
      clear hnew
      go_enter Try.func14, Try.ntmps14
      obtain ⟨g0_0, g0_1, g0_2⟩ := BX_1.out
      go_wp2_with fail
      clear g0_0 g0_1 g0_2
      generalize (w.alloc (.cells #[.int .i64 (P : Int), (.slice A l.length cap)] 29)) = w1 at *
      refine (HISG _ HB_1.out.at).mono ?_
      rintro e w2 ⟨rfl, hb⟩
      have Z2 := Lib.hid (within_of hb).size
      have W2 := Lib.hid (within_on W1.out (within_of hb) W1.out.size (.inr (Nat.le_refl _)))
      have HB_2 := Lib.hid (HB_1.out.within (within_of hb) (by omega))
      have BX_2 := Lib.hid (BX_1.out.within (within_of hb) (by omega))
      clear hb HISG
      obtain ⟨g1_0, g1_1, g1_2⟩ := BX_2.out
      go_wp2_with fail
      clear g1_0 g1_1 g1_2
      refine (put_c (P : Int) (a, a) l A cap _ HB_2.out.at hn).mono ?_
      rintro e w3 ⟨AX, cx, rfl, ho, hb⟩
      have Z3 := Lib.hid (within_of hb).size
      have W3 := Lib.hid (within_on W2.out (within_of hb) W2.out.size (.inr (Nat.le_refl _)))
      have HB_3 := Lib.hid (HB_2.out.within (within_of hb) (by omega))
      have BX_3 := Lib.hid (BX_2.out.within (within_of hb) (by omega))
      have XB_3 := Lib.hid (ho.bars)
      clear ho hb
      have Z4 := Lib.hid (within_alloc w3 (.cells #[.int .i64 (P : Int), .slice AX (insU (a, a) l).length cx] 29)).size
      have W4 := Lib.hid (within_on W3.out (within_alloc w3 (.cells #[.int .i64 (P : Int), .slice AX (insU (a, a) l).length cx] 29)) W3.out.size (.inr (Nat.le_refl _)))
      have HB_4 := Lib.hid (HB_3.out.within (within_alloc w3 (.cells #[.int .i64 (P : Int), .slice AX (insU (a, a) l).length cx] 29)) (by omega))
      have BX_4 := Lib.hid (BX_3.out.within (within_alloc w3 (.cells #[.int .i64 (P : Int), .slice AX (insU (a, a) l).length cx] 29)) (by omega))
      have XB_4 := Lib.hid (XB_3.out.within (within_alloc w3 (.cells #[.int .i64 (P : Int), .slice AX (insU (a, a) l).length cx] 29)) (by omega))
      have Y4 := Lib.hid (show (w3.alloc (.cells #[.int .i64 (P : Int), .slice AX (insU (a, a) l).length cx] 29)).heap.size = w3.heap.size + 1 by simp)
      have hnx := box_new w3 (P : Int) (.slice AX (insU (a, a) l).length cx) 29
      have XX_4 := Lib.hid hnx
      clear hnx
      obtain ⟨g2_0, g2_1, g2_2⟩ := BX_4.out
      go_wp2_with fail
      clear g2_0 g2_1 g2_2
      generalize (w3.alloc (.cells #[.int .i64 (P : Int), .slice AX (insU (a, a) l).length cx] 29)) = w4 at *
      obtain ⟨xb, hxb⟩ : ∃ xb, w3.heap.size = xb := ⟨_, rfl⟩
      have hxx := XX_4.out
      rw [hxb] at hxx ⊢
      have hdr : Below w4.heap.size w4 w4.drew := (Below.refl _ _).drew
      have HKK := Lib.hid (And.intro (BX_4.out.kept hdr).2 (hxx.kept hdr).2)
      have HWD := Lib.hid (below_on W4.out hdr W4.out.size)
      clear hxx hdr hxb
      refine wp_region_held_drew (S := (fun W' : World => (W'.cell? ⟨w.heap.size, 0, none⟩ = some (.int .i64 (P : Int)) ∧ W'.cell? ⟨w.heap.size, 1, none⟩ = some (.slice A l.length cap)) ∧ (W'.cell? ⟨xb, 0, none⟩ = some (.int .i64 (P : Int)) ∧ W'.cell? ⟨xb, 1, none⟩ = some (.slice AX (insU (a, a) l).length cx)))) (by kernel_rfl) ?_ (fun hHeld => ?_)
      · exact HKK.out
      refine wpAnyH_take (i := 0) (v := .int .i64 a) rfl (by kernel_rfl) (by kernel_rfl) (by kernel_rfl) (fun _ _ _ h => h) (Or.inl ⟨by kernel_rfl, fun w hSw => by (try dsimp only at hSw); go_simp; all_goals first | omega | exact IntWalk.i64_in _ (by omega)⟩) (by assumption) ?_
      refine wpAnyH_take (i := 1) (v := .int .i64 a) rfl (by kernel_rfl) (by kernel_rfl) (by kernel_rfl) (fun _ _ _ h => h) (Or.inl ⟨by kernel_rfl, fun w hSw => by (try dsimp only at hSw); go_simp; all_goals first | omega | exact IntWalk.i64_in _ (by omega)⟩) (by assumption) ?_
      refine wpAnyH_take (i := 2) (v := .bool true) rfl (by kernel_rfl) (by kernel_rfl) (by kernel_rfl) (fun _ _ _ h => h) (Or.inl ⟨by kernel_rfl, fun w hSw => by (try dsimp only at hSw); go_simp; all_goals first | omega | exact IntWalk.i64_in _ (by omega)⟩) (by assumption) ?_
      refine wpAnyH_take (i := 3) (v := .bool true) rfl (by kernel_rfl) (by kernel_rfl) (by kernel_rfl) (fun _ _ _ h => h) (Or.inl ⟨by kernel_rfl, fun w hSw => by (try dsimp only at hSw); go_simp; all_goals first | omega | exact IntWalk.i64_in _ (by omega)⟩) (by assumption) ?_
      refine wpAnyH_take (i := 4) (v := undef) rfl (by kernel_rfl) (by kernel_rfl) (by kernel_rfl) (fun _ _ _ h => h) (Or.inr ⟨by kernel_rfl, rfl⟩) (by assumption) ?_
      refine wpAnyH_take (i := 5) (v := undef) rfl (by kernel_rfl) (by kernel_rfl) (by kernel_rfl) (fun _ _ _ h => h) (Or.inr ⟨by kernel_rfl, rfl⟩) (by assumption) ?_
      refine wpAnyH_take (i := 6) (v := undef) rfl (by kernel_rfl) (by kernel_rfl) (by kernel_rfl) (fun _ _ _ h => h) (Or.inr ⟨by kernel_rfl, rfl⟩) (by assumption) ?_
      refine wpAnyH_take (i := 7) (v := undef) rfl (by kernel_rfl) (by kernel_rfl) (by kernel_rfl) (fun _ _ _ h => h) (Or.inr ⟨by kernel_rfl, rfl⟩) (by assumption) ?_
      refine wpAnyH_take (i := 8) (v := undef) rfl (by kernel_rfl) (by kernel_rfl) (by kernel_rfl) (fun _ _ _ h => h) (Or.inr ⟨by kernel_rfl, rfl⟩) (by assumption) ?_
      refine wpAnyH_take (i := 9) (v := .bool true) rfl (by kernel_rfl) (by kernel_rfl) (by kernel_rfl) (fun _ _ _ h => h) (Or.inl ⟨by kernel_rfl, fun w hSw => by (try dsimp only at hSw); go_simp; all_goals first | omega | exact IntWalk.i64_in _ (by omega)⟩) (by assumption) ?_
      refine wpAnyH_ready (rs := [10]) (by kernel_rfl) (by simp) (AllReadyH.cons rfl (fun K hK => ?_) AllReadyH.nil)
      go_simp
      refine hK.out _ _ HKK.out (fun hHeld => ?_)
      clear hK K
      refine wpAnyH_done (by kernel_rfl) ?_ _
      go_wp2_with fail
      go_ret
      exact ⟨by rw [HRV.out]; rfl, HWD.out⟩
    · have hpa : 0 ≤ a ∧ a < (P : Int) := ⟨by omega, by omega⟩
      have hpb : 0 ≤ b ∧ b < (P : Int) := ⟨by omega, by omega⟩
      have hq := hrv.symm.trans (imp_rk HGB.out hpa hpb hab)
      rw [Int.toNat_natCast] at hq
      have hli := l6_ins HG.out hpa hpb hab
      have e0 : (a == b) = false := by simpa using hab
      have hP8 : 1 ≤ P ∧ P ≤ 8 := by have := HG.out.1; omega
      have h24 := HG.out.2.1
      clear hrv
      by_cases hle : a ≤ b
      · have hlt : a < b := by omega
        have m1 : ¬ b < a := by omega
        have m2 : ¬ b ≤ a := by omega
        have ebo : barOf a b = (a, b) := by unfold barOf; rw [if_pos hle]
        rw [ebo] at hq hli
        have HLI := Lib.hid hli
        have HAB := Lib.hid hab
        obtain ⟨r1, hr1⟩ : ∃ r1, rk P 2 3 (insU (a, b) l) = r1 := ⟨_, rfl⟩
        obtain ⟨r2, hr2⟩ : ∃ r2, rk P 2 3 l = r2 := ⟨_, rfl⟩
        rw [hr1, hr2] at hq
        have HR1 := Lib.hid hr1
        have HR2 := Lib.hid hr2
        clear hr1 hr2 hli ebo hab
        by_cases he : r1 = r2
        · have HRV := Lib.hid (show rv = true from by rw [hq]; exact decide_eq_true he)
          have e1 : ((r1 : Int) == (r2 : Int)) = true := by rw [he]; simp
          clear hq he
          have W0 := Lib.hid (Below.refl w.heap.size w)
          have HB_0 := Lib.hid (bars_in hl)
          clear hl
          have Z1 := Lib.hid (within_alloc w (.cells #[.int .i64 (P : Int), (.slice A l.length cap)] 29)).size
          have W1 := Lib.hid (within_on W0.out (within_alloc w (.cells #[.int .i64 (P : Int), (.slice A l.length cap)] 29)) W0.out.size (.inr (Nat.le_refl _)))
          have HB_1 := Lib.hid (HB_0.out.within (within_alloc w (.cells #[.int .i64 (P : Int), (.slice A l.length cap)] 29)) (by omega))
          have Y1 := Lib.hid (show (w.alloc (.cells #[.int .i64 (P : Int), (.slice A l.length cap)] 29)).heap.size = w.heap.size + 1 by simp)
          have hnew := box_new w (P : Int) (.slice A l.length cap) 29
          have BX_1 := Lib.hid hnew
          clear hnew
          go_enter Try.func14, Try.ntmps14
          obtain ⟨g0_0, g0_1, g0_2⟩ := BX_1.out
          go_wp2_with fail
          clear g0_0 g0_1 g0_2
          generalize (w.alloc (.cells #[.int .i64 (P : Int), (.slice A l.length cap)] 29)) = w1 at *
          refine (HISG _ HB_1.out.at).mono ?_
          rintro e w2 ⟨rfl, hb⟩
          have Z2 := Lib.hid (within_of hb).size
          have W2 := Lib.hid (within_on W1.out (within_of hb) W1.out.size (.inr (Nat.le_refl _)))
          have HB_2 := Lib.hid (HB_1.out.within (within_of hb) (by omega))
          have BX_2 := Lib.hid (BX_1.out.within (within_of hb) (by omega))
          clear hb HISG
          obtain ⟨g1_0, g1_1, g1_2⟩ := BX_2.out
          go_wp2_with fail
          clear g1_0 g1_1 g1_2
          refine (put_c (P : Int) (a, b) l A cap _ HB_2.out.at hn).mono ?_
          rintro e w3 ⟨AX, cx, rfl, ho, hb⟩
          have Z3 := Lib.hid (within_of hb).size
          have W3 := Lib.hid (within_on W2.out (within_of hb) W2.out.size (.inr (Nat.le_refl _)))
          have HB_3 := Lib.hid (HB_2.out.within (within_of hb) (by omega))
          have BX_3 := Lib.hid (BX_2.out.within (within_of hb) (by omega))
          have XB_3 := Lib.hid (ho.bars)
          clear ho hb
          have Z4 := Lib.hid (within_alloc w3 (.cells #[.int .i64 (P : Int), .slice AX (insU (a, b) l).length cx] 29)).size
          have W4 := Lib.hid (within_on W3.out (within_alloc w3 (.cells #[.int .i64 (P : Int), .slice AX (insU (a, b) l).length cx] 29)) W3.out.size (.inr (Nat.le_refl _)))
          have HB_4 := Lib.hid (HB_3.out.within (within_alloc w3 (.cells #[.int .i64 (P : Int), .slice AX (insU (a, b) l).length cx] 29)) (by omega))
          have BX_4 := Lib.hid (BX_3.out.within (within_alloc w3 (.cells #[.int .i64 (P : Int), .slice AX (insU (a, b) l).length cx] 29)) (by omega))
          have XB_4 := Lib.hid (XB_3.out.within (within_alloc w3 (.cells #[.int .i64 (P : Int), .slice AX (insU (a, b) l).length cx] 29)) (by omega))
          have Y4 := Lib.hid (show (w3.alloc (.cells #[.int .i64 (P : Int), .slice AX (insU (a, b) l).length cx] 29)).heap.size = w3.heap.size + 1 by simp)
          have hnx := box_new w3 (P : Int) (.slice AX (insU (a, b) l).length cx) 29
          have XX_4 := Lib.hid hnx
          clear hnx
          obtain ⟨g2_0, g2_1, g2_2⟩ := BX_4.out
          go_wp2_with fail
          clear g2_0 g2_1 g2_2
          generalize (w3.alloc (.cells #[.int .i64 (P : Int), .slice AX (insU (a, b) l).length cx] 29)) = w4 at *
          obtain ⟨xb, hxb⟩ : ∃ xb, w3.heap.size = xb := ⟨_, rfl⟩
          have hxx := XX_4.out
          rw [hxb] at hxx ⊢
          have hdr : Below w4.heap.size w4 w4.drew := (Below.refl _ _).drew
          have hk1 := BX_4.out.kept hdr
          have hk2 := hxx.kept hdr
          have HK1 := Lib.hid hk1
          have HK2 := Lib.hid hk2
          have HWD := Lib.hid (below_on W4.out hdr W4.out.size)
          have HBL := Lib.hid (HB_4.out.within (within_of hdr) (.inr (Nat.zero_le _)))
          have HBX := Lib.hid (XB_4.out.within (within_of hdr) (.inr (Nat.zero_le _)))
          obtain ⟨_, g1, g2⟩ := BX_4.out
          obtain ⟨_, g3, g4⟩ := hxx
          clear hdr hxb hk1 hk2
          go_wp2_with fail
          go_region_held3 (fun W' : World => (W'.cell? ⟨w.heap.size, 0, none⟩ = some (.int .i64 (P : Int)) ∧ W'.cell? ⟨w.heap.size, 1, none⟩ = some (.slice A l.length cap)) ∧ (W'.cell? ⟨xb, 0, none⟩ = some (.int .i64 (P : Int)) ∧ W'.cell? ⟨xb, 1, none⟩ = some (.slice AX (insU (a, b) l).length cx)))
            (first | exact ⟨HK1.out.2, HK2.out.2⟩ | exact ⟨HM1.out.2, HM2.out.2⟩ | exact ⟨HL1.out.2, HL2.out.2⟩ | fail)
            (first
              | (go_at_call 82; refine (l6Rank_c P l A cap _ HBM.out.at hP8 (bars_ofI HG.out) (by omega)).mono ?_; rintro e w8 ⟨rfl, hb⟩; rw [HR2.out]; have HM1 := Lib.hid (HL1.out.kept hb); have HM2 := Lib.hid (HL2.out.kept hb); have HWF := Lib.hid (below_on HWE.out hb HWE.out.size); clear hb)
              | (go_at_call 82; refine (l6Rank_c P (insU (a, b) l) AX cx _ HBX.out.at hP8 HLI.out.1 HLI.out.2).mono ?_; rintro e w7 ⟨rfl, hb⟩; rw [HR1.out]; have HL1 := Lib.hid (HK1.out.kept hb); have HL2 := Lib.hid (HK2.out.kept hb); have HBM := Lib.hid (HBL.out.within (within_of hb) (.inr (Nat.zero_le _))); have HWE := Lib.hid (below_on HWD.out hb HWD.out.size); clear hb))
          go_wp2_with fail
          go_ret
          exact ⟨by rw [HRV.out]; first | rfl | simp, HWF.out⟩
        · have HRV := Lib.hid (show rv = false from by rw [hq]; exact decide_eq_false he)
          have e1 : ((r1 : Int) == (r2 : Int)) = false := by simp; omega
          have e2 : (r1 == r2) = false := by simpa using he
          clear hq
          have W0 := Lib.hid (Below.refl w.heap.size w)
          have HB_0 := Lib.hid (bars_in hl)
          clear hl
          have Z1 := Lib.hid (within_alloc w (.cells #[.int .i64 (P : Int), (.slice A l.length cap)] 29)).size
          have W1 := Lib.hid (within_on W0.out (within_alloc w (.cells #[.int .i64 (P : Int), (.slice A l.length cap)] 29)) W0.out.size (.inr (Nat.le_refl _)))
          have HB_1 := Lib.hid (HB_0.out.within (within_alloc w (.cells #[.int .i64 (P : Int), (.slice A l.length cap)] 29)) (by omega))
          have Y1 := Lib.hid (show (w.alloc (.cells #[.int .i64 (P : Int), (.slice A l.length cap)] 29)).heap.size = w.heap.size + 1 by simp)
          have hnew := box_new w (P : Int) (.slice A l.length cap) 29
          have BX_1 := Lib.hid hnew
          clear hnew
          go_enter Try.func14, Try.ntmps14
          obtain ⟨g0_0, g0_1, g0_2⟩ := BX_1.out
          go_wp2_with fail
          clear g0_0 g0_1 g0_2
          generalize (w.alloc (.cells #[.int .i64 (P : Int), (.slice A l.length cap)] 29)) = w1 at *
          refine (HISG _ HB_1.out.at).mono ?_
          rintro e w2 ⟨rfl, hb⟩
          have Z2 := Lib.hid (within_of hb).size
          have W2 := Lib.hid (within_on W1.out (within_of hb) W1.out.size (.inr (Nat.le_refl _)))
          have HB_2 := Lib.hid (HB_1.out.within (within_of hb) (by omega))
          have BX_2 := Lib.hid (BX_1.out.within (within_of hb) (by omega))
          clear hb HISG
          obtain ⟨g1_0, g1_1, g1_2⟩ := BX_2.out
          go_wp2_with fail
          clear g1_0 g1_1 g1_2
          refine (put_c (P : Int) (a, b) l A cap _ HB_2.out.at hn).mono ?_
          rintro e w3 ⟨AX, cx, rfl, ho, hb⟩
          have Z3 := Lib.hid (within_of hb).size
          have W3 := Lib.hid (within_on W2.out (within_of hb) W2.out.size (.inr (Nat.le_refl _)))
          have HB_3 := Lib.hid (HB_2.out.within (within_of hb) (by omega))
          have BX_3 := Lib.hid (BX_2.out.within (within_of hb) (by omega))
          have XB_3 := Lib.hid (ho.bars)
          clear ho hb
          have Z4 := Lib.hid (within_alloc w3 (.cells #[.int .i64 (P : Int), .slice AX (insU (a, b) l).length cx] 29)).size
          have W4 := Lib.hid (within_on W3.out (within_alloc w3 (.cells #[.int .i64 (P : Int), .slice AX (insU (a, b) l).length cx] 29)) W3.out.size (.inr (Nat.le_refl _)))
          have HB_4 := Lib.hid (HB_3.out.within (within_alloc w3 (.cells #[.int .i64 (P : Int), .slice AX (insU (a, b) l).length cx] 29)) (by omega))
          have BX_4 := Lib.hid (BX_3.out.within (within_alloc w3 (.cells #[.int .i64 (P : Int), .slice AX (insU (a, b) l).length cx] 29)) (by omega))
          have XB_4 := Lib.hid (XB_3.out.within (within_alloc w3 (.cells #[.int .i64 (P : Int), .slice AX (insU (a, b) l).length cx] 29)) (by omega))
          have Y4 := Lib.hid (show (w3.alloc (.cells #[.int .i64 (P : Int), .slice AX (insU (a, b) l).length cx] 29)).heap.size = w3.heap.size + 1 by simp)
          have hnx := box_new w3 (P : Int) (.slice AX (insU (a, b) l).length cx) 29
          have XX_4 := Lib.hid hnx
          clear hnx
          obtain ⟨g2_0, g2_1, g2_2⟩ := BX_4.out
          go_wp2_with fail
          clear g2_0 g2_1 g2_2
          generalize (w3.alloc (.cells #[.int .i64 (P : Int), .slice AX (insU (a, b) l).length cx] 29)) = w4 at *
          obtain ⟨xb, hxb⟩ : ∃ xb, w3.heap.size = xb := ⟨_, rfl⟩
          have hxx := XX_4.out
          rw [hxb] at hxx ⊢
          have hdr : Below w4.heap.size w4 w4.drew := (Below.refl _ _).drew
          have hk1 := BX_4.out.kept hdr
          have hk2 := hxx.kept hdr
          have HK1 := Lib.hid hk1
          have HK2 := Lib.hid hk2
          have HWD := Lib.hid (below_on W4.out hdr W4.out.size)
          have HBL := Lib.hid (HB_4.out.within (within_of hdr) (.inr (Nat.zero_le _)))
          have HBX := Lib.hid (XB_4.out.within (within_of hdr) (.inr (Nat.zero_le _)))
          obtain ⟨_, g1, g2⟩ := BX_4.out
          obtain ⟨_, g3, g4⟩ := hxx
          clear hdr hxb hk1 hk2
          go_wp2_with fail
          go_region_held3 (fun W' : World => (W'.cell? ⟨w.heap.size, 0, none⟩ = some (.int .i64 (P : Int)) ∧ W'.cell? ⟨w.heap.size, 1, none⟩ = some (.slice A l.length cap)) ∧ (W'.cell? ⟨xb, 0, none⟩ = some (.int .i64 (P : Int)) ∧ W'.cell? ⟨xb, 1, none⟩ = some (.slice AX (insU (a, b) l).length cx)))
            (first | exact ⟨HK1.out.2, HK2.out.2⟩ | exact ⟨HM1.out.2, HM2.out.2⟩ | exact ⟨HL1.out.2, HL2.out.2⟩ | fail)
            (first
              | (go_at_call 82; refine (l6Rank_c P l A cap _ HBM.out.at hP8 (bars_ofI HG.out) (by omega)).mono ?_; rintro e w8 ⟨rfl, hb⟩; rw [HR2.out]; have HM1 := Lib.hid (HL1.out.kept hb); have HM2 := Lib.hid (HL2.out.kept hb); have HWF := Lib.hid (below_on HWE.out hb HWE.out.size); clear hb)
              | (go_at_call 82; refine (l6Rank_c P (insU (a, b) l) AX cx _ HBX.out.at hP8 HLI.out.1 HLI.out.2).mono ?_; rintro e w7 ⟨rfl, hb⟩; rw [HR1.out]; have HL1 := Lib.hid (HK1.out.kept hb); have HL2 := Lib.hid (HK2.out.kept hb); have HBM := Lib.hid (HBL.out.within (within_of hb) (.inr (Nat.zero_le _))); have HWE := Lib.hid (below_on HWD.out hb HWD.out.size); clear hb))
          go_wp2_with fail
          go_ret
          exact ⟨by rw [HRV.out]; first | rfl | simp, HWF.out⟩
      · have hlt : b < a := by omega
        have m2 : ¬ a < b := by omega
        have ebo : barOf a b = (b, a) := by unfold barOf; rw [if_neg hle]
        rw [ebo] at hq hli
        have HLI := Lib.hid hli
        have HAB := Lib.hid hab
        obtain ⟨r1, hr1⟩ : ∃ r1, rk P 2 3 (insU (b, a) l) = r1 := ⟨_, rfl⟩
        obtain ⟨r2, hr2⟩ : ∃ r2, rk P 2 3 l = r2 := ⟨_, rfl⟩
        rw [hr1, hr2] at hq
        have HR1 := Lib.hid hr1
        have HR2 := Lib.hid hr2
        clear hr1 hr2 hli ebo hab
        by_cases he : r1 = r2
        · have HRV := Lib.hid (show rv = true from by rw [hq]; exact decide_eq_true he)
          have e1 : ((r1 : Int) == (r2 : Int)) = true := by rw [he]; simp
          clear hq he
          have W0 := Lib.hid (Below.refl w.heap.size w)
          have HB_0 := Lib.hid (bars_in hl)
          clear hl
          have Z1 := Lib.hid (within_alloc w (.cells #[.int .i64 (P : Int), (.slice A l.length cap)] 29)).size
          have W1 := Lib.hid (within_on W0.out (within_alloc w (.cells #[.int .i64 (P : Int), (.slice A l.length cap)] 29)) W0.out.size (.inr (Nat.le_refl _)))
          have HB_1 := Lib.hid (HB_0.out.within (within_alloc w (.cells #[.int .i64 (P : Int), (.slice A l.length cap)] 29)) (by omega))
          have Y1 := Lib.hid (show (w.alloc (.cells #[.int .i64 (P : Int), (.slice A l.length cap)] 29)).heap.size = w.heap.size + 1 by simp)
          have hnew := box_new w (P : Int) (.slice A l.length cap) 29
          have BX_1 := Lib.hid hnew
          clear hnew
          go_enter Try.func14, Try.ntmps14
          obtain ⟨g0_0, g0_1, g0_2⟩ := BX_1.out
          go_wp2_with fail
          clear g0_0 g0_1 g0_2
          generalize (w.alloc (.cells #[.int .i64 (P : Int), (.slice A l.length cap)] 29)) = w1 at *
          refine (HISG _ HB_1.out.at).mono ?_
          rintro e w2 ⟨rfl, hb⟩
          have Z2 := Lib.hid (within_of hb).size
          have W2 := Lib.hid (within_on W1.out (within_of hb) W1.out.size (.inr (Nat.le_refl _)))
          have HB_2 := Lib.hid (HB_1.out.within (within_of hb) (by omega))
          have BX_2 := Lib.hid (BX_1.out.within (within_of hb) (by omega))
          clear hb HISG
          obtain ⟨g1_0, g1_1, g1_2⟩ := BX_2.out
          go_wp2_with fail
          clear g1_0 g1_1 g1_2
          refine (put_c (P : Int) (b, a) l A cap _ HB_2.out.at hn).mono ?_
          rintro e w3 ⟨AX, cx, rfl, ho, hb⟩
          have Z3 := Lib.hid (within_of hb).size
          have W3 := Lib.hid (within_on W2.out (within_of hb) W2.out.size (.inr (Nat.le_refl _)))
          have HB_3 := Lib.hid (HB_2.out.within (within_of hb) (by omega))
          have BX_3 := Lib.hid (BX_2.out.within (within_of hb) (by omega))
          have XB_3 := Lib.hid (ho.bars)
          clear ho hb
          have Z4 := Lib.hid (within_alloc w3 (.cells #[.int .i64 (P : Int), .slice AX (insU (b, a) l).length cx] 29)).size
          have W4 := Lib.hid (within_on W3.out (within_alloc w3 (.cells #[.int .i64 (P : Int), .slice AX (insU (b, a) l).length cx] 29)) W3.out.size (.inr (Nat.le_refl _)))
          have HB_4 := Lib.hid (HB_3.out.within (within_alloc w3 (.cells #[.int .i64 (P : Int), .slice AX (insU (b, a) l).length cx] 29)) (by omega))
          have BX_4 := Lib.hid (BX_3.out.within (within_alloc w3 (.cells #[.int .i64 (P : Int), .slice AX (insU (b, a) l).length cx] 29)) (by omega))
          have XB_4 := Lib.hid (XB_3.out.within (within_alloc w3 (.cells #[.int .i64 (P : Int), .slice AX (insU (b, a) l).length cx] 29)) (by omega))
          have Y4 := Lib.hid (show (w3.alloc (.cells #[.int .i64 (P : Int), .slice AX (insU (b, a) l).length cx] 29)).heap.size = w3.heap.size + 1 by simp)
          have hnx := box_new w3 (P : Int) (.slice AX (insU (b, a) l).length cx) 29
          have XX_4 := Lib.hid hnx
          clear hnx
          obtain ⟨g2_0, g2_1, g2_2⟩ := BX_4.out
          go_wp2_with fail
          clear g2_0 g2_1 g2_2
          generalize (w3.alloc (.cells #[.int .i64 (P : Int), .slice AX (insU (b, a) l).length cx] 29)) = w4 at *
          obtain ⟨xb, hxb⟩ : ∃ xb, w3.heap.size = xb := ⟨_, rfl⟩
          have hxx := XX_4.out
          rw [hxb] at hxx ⊢
          have hdr : Below w4.heap.size w4 w4.drew := (Below.refl _ _).drew
          have hk1 := BX_4.out.kept hdr
          have hk2 := hxx.kept hdr
          have HK1 := Lib.hid hk1
          have HK2 := Lib.hid hk2
          have HWD := Lib.hid (below_on W4.out hdr W4.out.size)
          have HBL := Lib.hid (HB_4.out.within (within_of hdr) (.inr (Nat.zero_le _)))
          have HBX := Lib.hid (XB_4.out.within (within_of hdr) (.inr (Nat.zero_le _)))
          obtain ⟨_, g1, g2⟩ := BX_4.out
          obtain ⟨_, g3, g4⟩ := hxx
          clear hdr hxb hk1 hk2
          go_wp2_with fail
          go_region_held3 (fun W' : World => (W'.cell? ⟨w.heap.size, 0, none⟩ = some (.int .i64 (P : Int)) ∧ W'.cell? ⟨w.heap.size, 1, none⟩ = some (.slice A l.length cap)) ∧ (W'.cell? ⟨xb, 0, none⟩ = some (.int .i64 (P : Int)) ∧ W'.cell? ⟨xb, 1, none⟩ = some (.slice AX (insU (b, a) l).length cx)))
            (first | exact ⟨HK1.out.2, HK2.out.2⟩ | exact ⟨HM1.out.2, HM2.out.2⟩ | exact ⟨HL1.out.2, HL2.out.2⟩ | fail)
            (first
              | (go_at_call 82; refine (l6Rank_c P l A cap _ HBM.out.at hP8 (bars_ofI HG.out) (by omega)).mono ?_; rintro e w8 ⟨rfl, hb⟩; rw [HR2.out]; have HM1 := Lib.hid (HL1.out.kept hb); have HM2 := Lib.hid (HL2.out.kept hb); have HWF := Lib.hid (below_on HWE.out hb HWE.out.size); clear hb)
              | (go_at_call 82; refine (l6Rank_c P (insU (b, a) l) AX cx _ HBX.out.at hP8 HLI.out.1 HLI.out.2).mono ?_; rintro e w7 ⟨rfl, hb⟩; rw [HR1.out]; have HL1 := Lib.hid (HK1.out.kept hb); have HL2 := Lib.hid (HK2.out.kept hb); have HBM := Lib.hid (HBL.out.within (within_of hb) (.inr (Nat.zero_le _))); have HWE := Lib.hid (below_on HWD.out hb HWD.out.size); clear hb))
          go_wp2_with fail
          go_ret
          exact ⟨by rw [HRV.out]; first | rfl | simp, HWF.out⟩
        · have HRV := Lib.hid (show rv = false from by rw [hq]; exact decide_eq_false he)
          have e1 : ((r1 : Int) == (r2 : Int)) = false := by simp; omega
          have e2 : (r1 == r2) = false := by simpa using he
          clear hq
          have W0 := Lib.hid (Below.refl w.heap.size w)
          have HB_0 := Lib.hid (bars_in hl)
          clear hl
          have Z1 := Lib.hid (within_alloc w (.cells #[.int .i64 (P : Int), (.slice A l.length cap)] 29)).size
          have W1 := Lib.hid (within_on W0.out (within_alloc w (.cells #[.int .i64 (P : Int), (.slice A l.length cap)] 29)) W0.out.size (.inr (Nat.le_refl _)))
          have HB_1 := Lib.hid (HB_0.out.within (within_alloc w (.cells #[.int .i64 (P : Int), (.slice A l.length cap)] 29)) (by omega))
          have Y1 := Lib.hid (show (w.alloc (.cells #[.int .i64 (P : Int), (.slice A l.length cap)] 29)).heap.size = w.heap.size + 1 by simp)
          have hnew := box_new w (P : Int) (.slice A l.length cap) 29
          have BX_1 := Lib.hid hnew
          clear hnew
          go_enter Try.func14, Try.ntmps14
          obtain ⟨g0_0, g0_1, g0_2⟩ := BX_1.out
          go_wp2_with fail
          clear g0_0 g0_1 g0_2
          generalize (w.alloc (.cells #[.int .i64 (P : Int), (.slice A l.length cap)] 29)) = w1 at *
          refine (HISG _ HB_1.out.at).mono ?_
          rintro e w2 ⟨rfl, hb⟩
          have Z2 := Lib.hid (within_of hb).size
          have W2 := Lib.hid (within_on W1.out (within_of hb) W1.out.size (.inr (Nat.le_refl _)))
          have HB_2 := Lib.hid (HB_1.out.within (within_of hb) (by omega))
          have BX_2 := Lib.hid (BX_1.out.within (within_of hb) (by omega))
          clear hb HISG
          obtain ⟨g1_0, g1_1, g1_2⟩ := BX_2.out
          go_wp2_with fail
          clear g1_0 g1_1 g1_2
          refine (put_c (P : Int) (b, a) l A cap _ HB_2.out.at hn).mono ?_
          rintro e w3 ⟨AX, cx, rfl, ho, hb⟩
          have Z3 := Lib.hid (within_of hb).size
          have W3 := Lib.hid (within_on W2.out (within_of hb) W2.out.size (.inr (Nat.le_refl _)))
          have HB_3 := Lib.hid (HB_2.out.within (within_of hb) (by omega))
          have BX_3 := Lib.hid (BX_2.out.within (within_of hb) (by omega))
          have XB_3 := Lib.hid (ho.bars)
          clear ho hb
          have Z4 := Lib.hid (within_alloc w3 (.cells #[.int .i64 (P : Int), .slice AX (insU (b, a) l).length cx] 29)).size
          have W4 := Lib.hid (within_on W3.out (within_alloc w3 (.cells #[.int .i64 (P : Int), .slice AX (insU (b, a) l).length cx] 29)) W3.out.size (.inr (Nat.le_refl _)))
          have HB_4 := Lib.hid (HB_3.out.within (within_alloc w3 (.cells #[.int .i64 (P : Int), .slice AX (insU (b, a) l).length cx] 29)) (by omega))
          have BX_4 := Lib.hid (BX_3.out.within (within_alloc w3 (.cells #[.int .i64 (P : Int), .slice AX (insU (b, a) l).length cx] 29)) (by omega))
          have XB_4 := Lib.hid (XB_3.out.within (within_alloc w3 (.cells #[.int .i64 (P : Int), .slice AX (insU (b, a) l).length cx] 29)) (by omega))
          have Y4 := Lib.hid (show (w3.alloc (.cells #[.int .i64 (P : Int), .slice AX (insU (b, a) l).length cx] 29)).heap.size = w3.heap.size + 1 by simp)
          have hnx := box_new w3 (P : Int) (.slice AX (insU (b, a) l).length cx) 29
          have XX_4 := Lib.hid hnx
          clear hnx
          obtain ⟨g2_0, g2_1, g2_2⟩ := BX_4.out
          go_wp2_with fail
          clear g2_0 g2_1 g2_2
          generalize (w3.alloc (.cells #[.int .i64 (P : Int), .slice AX (insU (b, a) l).length cx] 29)) = w4 at *
          obtain ⟨xb, hxb⟩ : ∃ xb, w3.heap.size = xb := ⟨_, rfl⟩
          have hxx := XX_4.out
          rw [hxb] at hxx ⊢
          have hdr : Below w4.heap.size w4 w4.drew := (Below.refl _ _).drew
          have hk1 := BX_4.out.kept hdr
          have hk2 := hxx.kept hdr
          have HK1 := Lib.hid hk1
          have HK2 := Lib.hid hk2
          have HWD := Lib.hid (below_on W4.out hdr W4.out.size)
          have HBL := Lib.hid (HB_4.out.within (within_of hdr) (.inr (Nat.zero_le _)))
          have HBX := Lib.hid (XB_4.out.within (within_of hdr) (.inr (Nat.zero_le _)))
          obtain ⟨_, g1, g2⟩ := BX_4.out
          obtain ⟨_, g3, g4⟩ := hxx
          clear hdr hxb hk1 hk2
          go_wp2_with fail
          go_region_held3 (fun W' : World => (W'.cell? ⟨w.heap.size, 0, none⟩ = some (.int .i64 (P : Int)) ∧ W'.cell? ⟨w.heap.size, 1, none⟩ = some (.slice A l.length cap)) ∧ (W'.cell? ⟨xb, 0, none⟩ = some (.int .i64 (P : Int)) ∧ W'.cell? ⟨xb, 1, none⟩ = some (.slice AX (insU (b, a) l).length cx)))
            (first | exact ⟨HK1.out.2, HK2.out.2⟩ | exact ⟨HM1.out.2, HM2.out.2⟩ | exact ⟨HL1.out.2, HL2.out.2⟩ | fail)
            (first
              | (go_at_call 82; refine (l6Rank_c P l A cap _ HBM.out.at hP8 (bars_ofI HG.out) (by omega)).mono ?_; rintro e w8 ⟨rfl, hb⟩; rw [HR2.out]; have HM1 := Lib.hid (HL1.out.kept hb); have HM2 := Lib.hid (HL2.out.kept hb); have HWF := Lib.hid (below_on HWE.out hb HWE.out.size); clear hb)
              | (go_at_call 82; refine (l6Rank_c P (insU (b, a) l) AX cx _ HBX.out.at hP8 HLI.out.1 HLI.out.2).mono ?_; rintro e w7 ⟨rfl, hb⟩; rw [HR1.out]; have HL1 := Lib.hid (HK1.out.kept hb); have HL2 := Lib.hid (HK2.out.kept hb); have HBM := Lib.hid (HBL.out.within (within_of hb) (.inr (Nat.zero_le _))); have HWE := Lib.hid (below_on HWD.out hb HWD.out.size); clear hb))
          go_wp2_with fail
          go_ret
          exact ⟨by rw [HRV.out]; first | rfl | simp, HWF.out⟩
end Go.Proofs.Ytdnmmjaelgjkaaa
/- What impl.RunPebbles answers, where it answers true: its rows with their ranges. No condition. -/
namespace Go.Proofs.Ytdnmmjaelgjkaaa
open Go.RowKit

/-- A state that is answered, its rows each in its range. -/
def PebOR (w : World) (F T Z : List Int) (e : Ending) (w' : World) : Prop :=
  ∃ AF cF AT cT AZ cZ, ∃ f t z : Nat × Nat, e = .returned (.tuple #[pebV AF F.length cF AT T.length cT AZ Z.length cZ, .bool true]) ∧ OwnF w' f t z AF cF AT cT AZ cZ F T Z ∧ (w.heap.size ≤ f.1 ∧ w.heap.size ≤ t.1 ∧ w.heap.size ≤ z.1 ∧ t.1 ≤ w'.heap.size ∧ z.1 ≤ w'.heap.size) ∧ Below w.heap.size w w'
set_option maxHeartbeats 4000000 in
set_option maxRecDepth 100000 in
theorem implRunR (p k c : Int) (l : List (Int × Int)) (A : Option Addr) (cap : Nat) (w : World) (hl : BarsAt w w.heap.size A l) (hn : l.length ≤ 1048576) (hb1 : newB p k l = true) (hb2 : rangeB k c = true) :
    Calls Try.prog 56 #[.agg #[.int .i64 p, .slice A l.length cap], .int .i64 k, .int .i64 c] w (PebOR w (runV p k c l).1 (runV p k c l).2.1 (runV p k c l).2.2) := by
  obtain ⟨P, rfl⟩ : ∃ P : Nat, p = (P : Int) := ⟨p.toNat, by have := (newB_is hb1).1.1; omega⟩
  have HP := Lib.hid (And.intro hb1 hb2)
  have HRG := Lib.hid hb2
  have HR := Lib.hid (runV_yes hb1 hb2)
  have hnf : newF (P : Int) k l = (runN P k c l 0).1 := by unfold newF; rw [if_pos hb1, Int.toNat_natCast]; rfl
  have HNW : ∀ W : World, BarsAt W W.heap.size A l → Calls Try.prog 75 #[.agg #[.int .i64 (P : Int), .slice A l.length cap], .int .i64 k] W (NewOB W (runN P k c l 0).1 true) := fun W h => by have hc := implNewN (P : Int) k l A cap W h hn; rw [hb1, hnf] at hc; exact hc
  clear hb1 hb2 hnf
  have W0 := Lib.hid (Below.refl w.heap.size w)
  have HB_0 := Lib.hid (bars_in hl)
  clear hl
  have Z1 := Lib.hid (within_alloc w (.cells #[.int .i64 (P : Int), (.slice A l.length cap)] 29)).size
  have W1 := Lib.hid (within_on W0.out (within_alloc w (.cells #[.int .i64 (P : Int), (.slice A l.length cap)] 29)) W0.out.size (.inr (Nat.le_refl _)))
  have HB_1 := Lib.hid (HB_0.out.within (within_alloc w (.cells #[.int .i64 (P : Int), (.slice A l.length cap)] 29)) (by omega))
  have Y1 := Lib.hid (show (w.alloc (.cells #[.int .i64 (P : Int), (.slice A l.length cap)] 29)).heap.size = w.heap.size + 1 by simp)
  have hnew := box_new w (P : Int) (.slice A l.length cap) 29
  have BX_1 := Lib.hid hnew
  clear hnew
  have Z2 := Lib.hid (within_alloc (w.alloc (.cells #[.int .i64 (P : Int), (.slice A l.length cap)] 29)) (.cells #[(.slice none 0 0), (.slice none 0 0), (.slice none 0 0)] 64)).size
  have W2 := Lib.hid (within_on W1.out (within_alloc (w.alloc (.cells #[.int .i64 (P : Int), (.slice A l.length cap)] 29)) (.cells #[(.slice none 0 0), (.slice none 0 0), (.slice none 0 0)] 64)) W1.out.size (.inr (Nat.le_refl _)))
  have HB_2 := Lib.hid (HB_1.out.within (within_alloc (w.alloc (.cells #[.int .i64 (P : Int), (.slice A l.length cap)] 29)) (.cells #[(.slice none 0 0), (.slice none 0 0), (.slice none 0 0)] 64)) (by omega))
  have BX_2 := Lib.hid (BX_1.out.within (within_alloc (w.alloc (.cells #[.int .i64 (P : Int), (.slice A l.length cap)] 29)) (.cells #[(.slice none 0 0), (.slice none 0 0), (.slice none 0 0)] 64)) (by omega))
  have Y2 := Lib.hid (show ((w.alloc (.cells #[.int .i64 (P : Int), (.slice A l.length cap)] 29)).alloc (.cells #[(.slice none 0 0), (.slice none 0 0), (.slice none 0 0)] 64)).heap.size = (w.alloc (.cells #[.int .i64 (P : Int), (.slice A l.length cap)] 29)).heap.size + 1 by simp)
  have hnew := cel3_new (w.alloc (.cells #[.int .i64 (P : Int), (.slice A l.length cap)] 29)) (.slice none 0 0) (.slice none 0 0) (.slice none 0 0) 64
  rw [show (w.alloc (.cells #[.int .i64 (P : Int), (.slice A l.length cap)] 29)).heap.size = w.heap.size + 1 by simp] at hnew
  have GR_2 := Lib.hid hnew
  clear hnew
  go_enter Try.func56, Try.ntmps56
  obtain ⟨g0_0, g0_1, g0_2⟩ := BX_2.out
  go_wp2_with fail
  clear g0_0 g0_1 g0_2
  generalize ((w.alloc (.cells #[.int .i64 (P : Int), (.slice A l.length cap)] 29)).alloc (.cells #[(.slice none 0 0), (.slice none 0 0), (.slice none 0 0)] 64)) = w2 at *
  generalize (w.alloc (.cells #[.int .i64 (P : Int), (.slice A l.length cap)] 29)) = w1 at *
  refine (HNW _ HB_2.out.at).mono ?_
  rintro e w3 ⟨AF, cF, a, b, rfl, ho, ha1, hb1, hb⟩
  have Z3 := Lib.hid (within_of hb).size
  have W3 := Lib.hid (within_on W2.out (within_of hb) W2.out.size (.inr (Nat.le_refl _)))
  have HB_3 := Lib.hid (HB_2.out.within (within_of hb) (by omega))
  have BX_3 := Lib.hid (BX_2.out.within (within_of hb) (by omega))
  have GR_3 := Lib.hid (GR_2.out.within (within_of hb) (by omega))
  have OP_3 := Lib.hid (own_new ho (runN_zero HP.out.1))
  clear hb HNW
  have HAB := Lib.hid (And.intro ha1 hb1)
  clear ho ha1 hb1
  have Z4 := Lib.hid (within_alloc w3 (.cells #[(.slice AF (runN P k c l 0).1.length cF), (.slice none 0 0), (.slice none 0 0)] 64)).size
  have W4 := Lib.hid (within_on W3.out (within_alloc w3 (.cells #[(.slice AF (runN P k c l 0).1.length cF), (.slice none 0 0), (.slice none 0 0)] 64)) W3.out.size (.inr (Nat.le_refl _)))
  have HB_4 := Lib.hid (HB_3.out.within (within_alloc w3 (.cells #[(.slice AF (runN P k c l 0).1.length cF), (.slice none 0 0), (.slice none 0 0)] 64)) (by omega))
  have BX_4 := Lib.hid (BX_3.out.within (within_alloc w3 (.cells #[(.slice AF (runN P k c l 0).1.length cF), (.slice none 0 0), (.slice none 0 0)] 64)) (by omega))
  have GR_4 := Lib.hid (GR_3.out.within (within_alloc w3 (.cells #[(.slice AF (runN P k c l 0).1.length cF), (.slice none 0 0), (.slice none 0 0)] 64)) (by omega))
  have OP_4 := Lib.hid (OP_3.out.within (within_alloc w3 (.cells #[(.slice AF (runN P k c l 0).1.length cF), (.slice none 0 0), (.slice none 0 0)] 64)) (by omega))
  have Y4 := Lib.hid (show (w3.alloc (.cells #[(.slice AF (runN P k c l 0).1.length cF), (.slice none 0 0), (.slice none 0 0)] 64)).heap.size = w3.heap.size + 1 by simp)
  have hnew := cel3_new w3 (.slice AF (runN P k c l 0).1.length cF) (.slice none 0 0) (.slice none 0 0) 64
  have BP_4 := Lib.hid hnew
  clear hnew
  obtain ⟨g1_0, g1_1, g1_2⟩ := BX_4.out
  go_wp2_with fail
  clear g1_0 g1_1 g1_2
  generalize (w3.alloc (.cells #[(.slice AF (runN P k c l 0).1.length cF), (.slice none 0 0), (.slice none 0 0)] 64)) = w4 at *
  refine (implRange k c _).mono ?_
  rintro e w9 ⟨rfl, rfl⟩
  rw [HRG.out]
  have HN := Lib.hid (show RunI w w4 P A cap l w3.heap.size (a, b) (w4.heap.size, w4.heap.size) (w4.heap.size, w4.heap.size) AF none none cF 0 0 (runN P k c l 0) from RunI.mk0 BX_4.out GR_4.out BP_4.out OP_4.out HB_4.out W4.out (by have := HAB.out; have := Z1.out; have := Z2.out; have := Z3.out; have := Z4.out; have := Y1.out; have := Y2.out; have := Y4.out; omega) (by have := HAB.out; have := Z1.out; have := Z2.out; have := Z3.out; have := Z4.out; have := Y1.out; have := Y2.out; have := Y4.out; omega) (by have := HAB.out; have := Z1.out; have := Z2.out; have := Z3.out; have := Z4.out; have := Y1.out; have := Y2.out; have := Y4.out; omega) (by have := HAB.out; have := Z1.out; have := Z2.out; have := Z3.out; have := Z4.out; have := Y1.out; have := Y2.out; have := Y4.out; omega))
  obtain ⟨g2_0, g2_1, g2_2⟩ := BX_4.out
  go_wp2_with fail
  clear g2_0 g2_1 g2_2
  go_loopw [29] (fun i wr => ∃ j : Nat, j ≤ l.length ∧ i = .int .i64 j ∧ ∃ f t z AF AT AZ cF cT cZ, RunI w wr P A cap l w3.heap.size f t z AF AT AZ cF cT cZ (runN P k c l j)) (fun i _ => l.length - (intOf i).toNat)
  case atStart => exact ⟨0, Nat.zero_le _, rfl, _, _, _, _, _, _, _, _, _, HN.out⟩
  case round =>
    obtain ⟨j, hj, rfl, f, t, z, AF, AT, AZ, cF, cT, cZ, hst⟩ := hrel
    have HS := Lib.hid hst
    obtain ⟨_, g1, g2⟩ := hst.gb
    obtain ⟨c0, c1, c2, f0, f1, f2⟩ := hst.st.cells
    clear hst
    by_cases hlt : j < l.length
    · have hji : (j : Int) < (l.length : Int) := by omega
      go_wp2_with (go_at_call 118; refine (HS.out.call HP.out.1 HP.out.2 hlt).mono ?_; rintro e w5 ⟨r, f2, t2, z2, BF, BT, BZ, dF, dT, dZ, rfl, hs5⟩; have HS2 := Lib.hid hs5; clear hs5)
      go_roundw
      case rel => exact ⟨j + 1, by omega, by go_num, _, _, _, _, _, _, _, _, _, HS2.out⟩
      case measure => simp [intOf]; omega
    · obtain rfl : j = l.length := by omega
      obtain ⟨r0, r1, r2, q0, q1, q2⟩ := HS.out.rb.cells
      have h3 := ret3 HS.out.rb (.slice AF (runN P k c l l.length).1.length cF) (.slice AT (runN P k c l l.length).2.1.length cT) (.slice AZ (runN P k c l l.length).2.2.length cZ)
      obtain ⟨s0, s1, s2, _⟩ := h3.1.cells
      have HW := Lib.hid h3.2
      clear h3
      go_wp2_with fail
      refine bodyPost_ret (v := .tuple #[pebV AF (runN P k c l l.length).1.length cF AT (runN P k c l l.length).2.1.length cT AZ (runN P k c l l.length).2.2.length cZ, .bool true]) ?_ rfl ?_
      · simp [results, Try.results56, go_sem, s0, s1, s2]
      · have hlo := HS.out.lo
        have hz := HW.out.size
        have hhi := HS.out.own.hi
        have hbs := HS.out.bel.size
        rw [HR.out.2]
        exact ⟨AF, cF, AT, cT, AZ, cZ, _, _, _, rfl, ⟨HS.out.own.1.within HW.out (.inr hlo.2.1), HS.out.own.2.1.within HW.out (.inr hlo.2.2.1), HS.out.own.2.2.1.within HW.out (.inr hlo.2.2.2), HS.out.own.2.2.2.1, HS.out.own.2.2.2.2.1, HS.out.own.2.2.2.2.2⟩, by have hs9 := HS.out.hs; omega, within_on HS.out.bel HW.out hbs (.inl (by omega))⟩
end Go.Proofs.Ytdnmmjaelgjkaaa
/- What impl.IsImplied answers. No condition. -/
namespace Go.Proofs.Ytdnmmjaelgjkaaa
open Go.RowKit

/-- OwnF, carried over what lies beside it. -/
def OwnG (W : World) (f t z : Nat × Nat) (AF : Option Addr) (cF : Nat) (AT : Option Addr) (cT : Nat) (AZ : Option Addr) (cZ : Nat) (F T Z : List Int) : Prop := OwnF W f t z AF cF AT cT AZ cZ F T Z
theorem OwnG.within {W W' : World} {f t z : Nat × Nat} {AF AT AZ : Option Addr} {cF cT cZ : Nat} {F T Z : List Int} (h : OwnG W f t z AF cF AT cT AZ cZ F T Z) {lo hi : Nat} (hw : Within lo hi W W') (hd : hi = 0 ∨ (f.2 ≤ lo ∧ t.2 ≤ lo ∧ z.2 ≤ lo)) : OwnG W' f t z AF cF AT cT AZ cZ F T Z :=
  OwnF.within h hw (by omega) (by omega) (by omega)
theorem pt_yes {p v : Int} (h : 0 ≤ v ∧ v < p) : ptB p v = true := by
  unfold ptB
  rw [decide_eq_true h.1, decide_eq_true h.2]
  rfl
theorem pt_no {p v : Int} (h : ¬ (0 ≤ v ∧ v < p)) : ptB p v = false := by
  unfold ptB
  by_cases h0 : 0 ≤ v
  · rw [decide_eq_true h0, decide_eq_false (fun q => h ⟨h0, q⟩)]; rfl
  · rw [decide_eq_false h0]; rfl

set_option maxHeartbeats 4000000 in
set_option maxRecDepth 100000 in
theorem implImp (p a b : Int) (l : List (Int × Int)) (A : Option Addr) (cap : Nat) (w : World) (hl : BarsAt w w.heap.size A l) (hn : l.length ≤ 1048576) :
    Calls Try.prog 16 #[.agg #[.int .i64 p, .slice A l.length cap], .int .i64 a, .int .i64 b] w fun e w' => e = .returned (.bool (impB p a b l)) ∧ Below w.heap.size w w' := by
  obtain ⟨rv, hrv⟩ : ∃ rv, impB p a b l = rv := ⟨_, rfl⟩
  rw [hrv]
  cases hg : isGB p l with
  | false =>
    have HRV := Lib.hid (show rv = false from by rw [← hrv]; exact imp_no (.inl hg))
    have hr := (runB23_no hg)
    have HNW : ∀ W : World, BarsAt W W.heap.size A l → Calls Try.prog 56 #[.agg #[.int .i64 p, .slice A l.length cap], .int .i64 2, .int .i64 3] W (PebOB W (runV p 2 3 l).1 (runV p 2 3 l).2.1 (runV p 2 3 l).2.2 false) := fun W h => by have hc := implRunP p 2 3 l A cap W h hn; rw [hr] at hc; exact hc
    clear hrv hg hr
    have W0 := Lib.hid (Below.refl w.heap.size w)
    have HB_0 := Lib.hid (bars_in hl)
    clear hl
    have Z1 := Lib.hid (within_alloc w (.cells #[.int .i64 p, (.slice A l.length cap)] 29)).size
    have W1 := Lib.hid (within_on W0.out (within_alloc w (.cells #[.int .i64 p, (.slice A l.length cap)] 29)) W0.out.size (.inr (Nat.le_refl _)))
    have HB_1 := Lib.hid (HB_0.out.within (within_alloc w (.cells #[.int .i64 p, (.slice A l.length cap)] 29)) (by omega))
    have Y1 := Lib.hid (show (w.alloc (.cells #[.int .i64 p, (.slice A l.length cap)] 29)).heap.size = w.heap.size + 1 by simp)
    have hnew := box_new w p (.slice A l.length cap) 29
    have BX_1 := Lib.hid hnew
    clear hnew
    go_enter Try.func16, Try.ntmps16
    obtain ⟨g0_0, g0_1, g0_2⟩ := BX_1.out
    go_wp2_with fail
    clear g0_0 g0_1 g0_2
    generalize (w.alloc (.cells #[.int .i64 p, (.slice A l.length cap)] 29)) = w1 at *
    refine (HNW _ HB_1.out.at).mono ?_
    rintro e w2 ⟨AF, cF, AT, cT, AZ, cZ, rfl, ho, hb⟩
    have Z2 := Lib.hid (within_of hb).size
    have W2 := Lib.hid (within_on W1.out (within_of hb) W1.out.size (.inr (Nat.le_refl _)))
    have HB_2 := Lib.hid (HB_1.out.within (within_of hb) (by omega))
    have BX_2 := Lib.hid (BX_1.out.within (within_of hb) (by omega))
    clear ho hb
    have Z3 := Lib.hid (within_alloc w2 (.cells #[(.slice AF (runV p 2 3 l).1.length cF), (.slice AT (runV p 2 3 l).2.1.length cT), (.slice AZ (runV p 2 3 l).2.2.length cZ)] 64)).size
    have W3 := Lib.hid (within_on W2.out (within_alloc w2 (.cells #[(.slice AF (runV p 2 3 l).1.length cF), (.slice AT (runV p 2 3 l).2.1.length cT), (.slice AZ (runV p 2 3 l).2.2.length cZ)] 64)) W2.out.size (.inr (Nat.le_refl _)))
    have HB_3 := Lib.hid (HB_2.out.within (within_alloc w2 (.cells #[(.slice AF (runV p 2 3 l).1.length cF), (.slice AT (runV p 2 3 l).2.1.length cT), (.slice AZ (runV p 2 3 l).2.2.length cZ)] 64)) (by omega))
    have BX_3 := Lib.hid (BX_2.out.within (within_alloc w2 (.cells #[(.slice AF (runV p 2 3 l).1.length cF), (.slice AT (runV p 2 3 l).2.1.length cT), (.slice AZ (runV p 2 3 l).2.2.length cZ)] 64)) (by omega))
    have Y3 := Lib.hid (show (w2.alloc (.cells #[(.slice AF (runV p 2 3 l).1.length cF), (.slice AT (runV p 2 3 l).2.1.length cT), (.slice AZ (runV p 2 3 l).2.2.length cZ)] 64)).heap.size = w2.heap.size + 1 by simp)
    have hnew := cel3_new w2 (.slice AF (runV p 2 3 l).1.length cF) (.slice AT (runV p 2 3 l).2.1.length cT) (.slice AZ (runV p 2 3 l).2.2.length cZ) 64
    have BP_3 := Lib.hid hnew
    clear hnew
    go_wp2_with fail
    generalize (w2.alloc (.cells #[(.slice AF (runV p 2 3 l).1.length cF), (.slice AT (runV p 2 3 l).2.1.length cT), (.slice AZ (runV p 2 3 l).2.2.length cZ)] 64)) = w3 at *
    go_ret
    exact ⟨by rw [HRV.out]; rfl, W3.out⟩
  | true =>
    have hG : IsG p l := Classical.byContradiction fun g => by rw [isGB_no g] at hg; cases hg
    obtain ⟨P, rfl⟩ : ∃ P : Nat, p = (P : Int) := ⟨p.toNat, by have := hG.1; omega⟩
    have hp := hG.1
    have h24 := hG.2.1
    have hrn := (runV_yes (run23 hg).1 (run23 hg).2).2
    have hpeb := runN_at (run23 hg).1 (run23 hg).2 (Nat.le_refl l.length)
    have HNW : ∀ W : World, BarsAt W W.heap.size A l → Calls Try.prog 56 #[.agg #[.int .i64 (P : Int), .slice A l.length cap], .int .i64 2, .int .i64 3] W (PebOR W (runN P 2 3 l l.length).1 (runN P 2 3 l l.length).2.1 (runN P 2 3 l l.length).2.2) := fun W h => by
      have hc := implRunR (P : Int) 2 3 l A cap W h hn (run23 hg).1 (run23 hg).2
      rw [hrn] at hc
      exact hc
    have HGAT := Lib.hid (fun (ha : 0 ≤ a ∧ a < (P : Int)) (hb : 0 ≤ b ∧ b < (P : Int)) (hab : a ≠ b) => imp_gath hG ha hb hab)
    obtain ⟨R, hR⟩ : ∃ R, runN P 2 3 l l.length = R := ⟨_, rfl⟩
    rw [hR] at HNW HGAT hpeb
    obtain ⟨F, T, Z⟩ := R
    simp only at HNW HGAT hpeb
    have HPEB := Lib.hid hpeb
    have HG := Lib.hid hg
    clear hG hrn hR hg hpeb
    have HPT : ∀ (v : Int) (W : World), Calls Try.prog 84 #[.agg #[.int .i64 (P : Int), .slice A l.length cap], .int .i64 v] W fun e w' => e = .returned (.bool (ptB (P : Int) v)) ∧ Below W.heap.size W w' := fun v W => hasPoint_c (P : Int) v A l.length cap W
    by_cases ha : 0 ≤ a ∧ a < (P : Int)
    case neg =>
      have HRV := Lib.hid (show rv = false from by rw [← hrv]; exact imp_no (.inr (.inl ha)))
      have HA := Lib.hid (pt_no ha)
      clear hrv ha
      have W0 := Lib.hid (Below.refl w.heap.size w)
      have HB_0 := Lib.hid (bars_in hl)
      clear hl
      have Z1 := Lib.hid (within_alloc w (.cells #[.int .i64 (P : Int), (.slice A l.length cap)] 29)).size
      have W1 := Lib.hid (within_on W0.out (within_alloc w (.cells #[.int .i64 (P : Int), (.slice A l.length cap)] 29)) W0.out.size (.inr (Nat.le_refl _)))
      have HB_1 := Lib.hid (HB_0.out.within (within_alloc w (.cells #[.int .i64 (P : Int), (.slice A l.length cap)] 29)) (by omega))
      have Y1 := Lib.hid (show (w.alloc (.cells #[.int .i64 (P : Int), (.slice A l.length cap)] 29)).heap.size = w.heap.size + 1 by simp)
      have hnew := box_new w (P : Int) (.slice A l.length cap) 29
      have BX_1 := Lib.hid hnew
      clear hnew
      go_enter Try.func16, Try.ntmps16
      obtain ⟨g0_0, g0_1, g0_2⟩ := BX_1.out
      go_wp2_with fail
      clear g0_0 g0_1 g0_2
      generalize (w.alloc (.cells #[.int .i64 (P : Int), (.slice A l.length cap)] 29)) = w1 at *
      refine (HNW _ HB_1.out.at).mono ?_
      rintro e w2 ⟨AF, cF, AT, cT, AZ, cZ, f, t, z, rfl, ho, hlo, hb⟩
      have Z2 := Lib.hid (within_of hb).size
      have W2 := Lib.hid (within_on W1.out (within_of hb) W1.out.size (.inr (Nat.le_refl _)))
      have HB_2 := Lib.hid (HB_1.out.within (within_of hb) (by omega))
      have BX_2 := Lib.hid (BX_1.out.within (within_of hb) (by omega))
      have OP_2 := Lib.hid ((show OwnG w2 f t z AF cF AT cT AZ cZ F T Z from ho))
      clear hb HNW
      have HFT := Lib.hid (show f.2 ≤ w2.heap.size ∧ t.2 ≤ w2.heap.size from ⟨ho.1.1, ho.2.1.1⟩)
      clear ho
      have Z3 := Lib.hid (within_alloc w2 (.cells #[(.slice AF F.length cF), (.slice AT T.length cT), (.slice AZ Z.length cZ)] 64)).size
      have W3 := Lib.hid (within_on W2.out (within_alloc w2 (.cells #[(.slice AF F.length cF), (.slice AT T.length cT), (.slice AZ Z.length cZ)] 64)) W2.out.size (.inr (Nat.le_refl _)))
      have HB_3 := Lib.hid (HB_2.out.within (within_alloc w2 (.cells #[(.slice AF F.length cF), (.slice AT T.length cT), (.slice AZ Z.length cZ)] 64)) (by omega))
      have BX_3 := Lib.hid (BX_2.out.within (within_alloc w2 (.cells #[(.slice AF F.length cF), (.slice AT T.length cT), (.slice AZ Z.length cZ)] 64)) (by omega))
      have OP_3 := Lib.hid (OP_2.out.within (within_alloc w2 (.cells #[(.slice AF F.length cF), (.slice AT T.length cT), (.slice AZ Z.length cZ)] 64)) (by omega))
      have Y3 := Lib.hid (show (w2.alloc (.cells #[(.slice AF F.length cF), (.slice AT T.length cT), (.slice AZ Z.length cZ)] 64)).heap.size = w2.heap.size + 1 by simp)
      have hnew := cel3_new w2 (.slice AF F.length cF) (.slice AT T.length cT) (.slice AZ Z.length cZ) 64
      have BP_3 := Lib.hid hnew
      clear hnew
      have HLO := Lib.hid hlo
      clear hlo
      obtain ⟨g1_0, g1_1, g1_2⟩ := BX_3.out
      go_wp2_with fail
      clear g1_0 g1_1 g1_2
      generalize (w2.alloc (.cells #[(.slice AF F.length cF), (.slice AT T.length cT), (.slice AZ Z.length cZ)] 64)) = w3 at *
      refine (HPT a _).mono ?_
      rintro e w4 ⟨rfl, hb⟩
      have Z4 := Lib.hid (within_of hb).size
      have W4 := Lib.hid (within_on W3.out (within_of hb) W3.out.size (.inr (Nat.le_refl _)))
      have HB_4 := Lib.hid (HB_3.out.within (within_of hb) (by omega))
      have BX_4 := Lib.hid (BX_3.out.within (within_of hb) (by omega))
      have OP_4 := Lib.hid (OP_3.out.within (within_of hb) (by omega))
      have BP_4 := Lib.hid (BP_3.out.within (within_of hb) (by omega))
      clear hb
      rw [HA.out]
      obtain ⟨g2_0, g2_1, g2_2⟩ := BX_4.out
      go_wp2_with fail
      clear g2_0 g2_1 g2_2
      go_ret
      exact ⟨by rw [HRV.out]; rfl, W4.out⟩
    by_cases hb : 0 ≤ b ∧ b < (P : Int)
    case neg =>
      have HRV := Lib.hid (show rv = false from by rw [← hrv]; exact imp_no (.inr (.inr hb)))
      have HA := Lib.hid (pt_yes ha)
      have HBN := Lib.hid (pt_no hb)
      clear hrv ha hb
      have W0 := Lib.hid (Below.refl w.heap.size w)
      have HB_0 := Lib.hid (bars_in hl)
      clear hl
      have Z1 := Lib.hid (within_alloc w (.cells #[.int .i64 (P : Int), (.slice A l.length cap)] 29)).size
      have W1 := Lib.hid (within_on W0.out (within_alloc w (.cells #[.int .i64 (P : Int), (.slice A l.length cap)] 29)) W0.out.size (.inr (Nat.le_refl _)))
      have HB_1 := Lib.hid (HB_0.out.within (within_alloc w (.cells #[.int .i64 (P : Int), (.slice A l.length cap)] 29)) (by omega))
      have Y1 := Lib.hid (show (w.alloc (.cells #[.int .i64 (P : Int), (.slice A l.length cap)] 29)).heap.size = w.heap.size + 1 by simp)
      have hnew := box_new w (P : Int) (.slice A l.length cap) 29
      have BX_1 := Lib.hid hnew
      clear hnew
      go_enter Try.func16, Try.ntmps16
      obtain ⟨g0_0, g0_1, g0_2⟩ := BX_1.out
      go_wp2_with fail
      clear g0_0 g0_1 g0_2
      generalize (w.alloc (.cells #[.int .i64 (P : Int), (.slice A l.length cap)] 29)) = w1 at *
      refine (HNW _ HB_1.out.at).mono ?_
      rintro e w2 ⟨AF, cF, AT, cT, AZ, cZ, f, t, z, rfl, ho, hlo, hb⟩
      have Z2 := Lib.hid (within_of hb).size
      have W2 := Lib.hid (within_on W1.out (within_of hb) W1.out.size (.inr (Nat.le_refl _)))
      have HB_2 := Lib.hid (HB_1.out.within (within_of hb) (by omega))
      have BX_2 := Lib.hid (BX_1.out.within (within_of hb) (by omega))
      have OP_2 := Lib.hid ((show OwnG w2 f t z AF cF AT cT AZ cZ F T Z from ho))
      clear hb HNW
      have HFT := Lib.hid (show f.2 ≤ w2.heap.size ∧ t.2 ≤ w2.heap.size from ⟨ho.1.1, ho.2.1.1⟩)
      clear ho
      have Z3 := Lib.hid (within_alloc w2 (.cells #[(.slice AF F.length cF), (.slice AT T.length cT), (.slice AZ Z.length cZ)] 64)).size
      have W3 := Lib.hid (within_on W2.out (within_alloc w2 (.cells #[(.slice AF F.length cF), (.slice AT T.length cT), (.slice AZ Z.length cZ)] 64)) W2.out.size (.inr (Nat.le_refl _)))
      have HB_3 := Lib.hid (HB_2.out.within (within_alloc w2 (.cells #[(.slice AF F.length cF), (.slice AT T.length cT), (.slice AZ Z.length cZ)] 64)) (by omega))
      have BX_3 := Lib.hid (BX_2.out.within (within_alloc w2 (.cells #[(.slice AF F.length cF), (.slice AT T.length cT), (.slice AZ Z.length cZ)] 64)) (by omega))
      have OP_3 := Lib.hid (OP_2.out.within (within_alloc w2 (.cells #[(.slice AF F.length cF), (.slice AT T.length cT), (.slice AZ Z.length cZ)] 64)) (by omega))
      have Y3 := Lib.hid (show (w2.alloc (.cells #[(.slice AF F.length cF), (.slice AT T.length cT), (.slice AZ Z.length cZ)] 64)).heap.size = w2.heap.size + 1 by simp)
      have hnew := cel3_new w2 (.slice AF F.length cF) (.slice AT T.length cT) (.slice AZ Z.length cZ) 64
      have BP_3 := Lib.hid hnew
      clear hnew
      have HLO := Lib.hid hlo
      clear hlo
      obtain ⟨g1_0, g1_1, g1_2⟩ := BX_3.out
      go_wp2_with fail
      clear g1_0 g1_1 g1_2
      generalize (w2.alloc (.cells #[(.slice AF F.length cF), (.slice AT T.length cT), (.slice AZ Z.length cZ)] 64)) = w3 at *
      refine (HPT a _).mono ?_
      rintro e w4 ⟨rfl, hb⟩
      have Z4 := Lib.hid (within_of hb).size
      have W4 := Lib.hid (within_on W3.out (within_of hb) W3.out.size (.inr (Nat.le_refl _)))
      have HB_4 := Lib.hid (HB_3.out.within (within_of hb) (by omega))
      have BX_4 := Lib.hid (BX_3.out.within (within_of hb) (by omega))
      have OP_4 := Lib.hid (OP_3.out.within (within_of hb) (by omega))
      have BP_4 := Lib.hid (BP_3.out.within (within_of hb) (by omega))
      clear hb
      rw [HA.out]
      obtain ⟨g2_0, g2_1, g2_2⟩ := BX_4.out
      go_wp2_with fail
      clear g2_0 g2_1 g2_2
      refine (HPT b _).mono ?_
      rintro e w5 ⟨rfl, hb⟩
      have Z5 := Lib.hid (within_of hb).size
      have W5 := Lib.hid (within_on W4.out (within_of hb) W4.out.size (.inr (Nat.le_refl _)))
      have HB_5 := Lib.hid (HB_4.out.within (within_of hb) (by omega))
      have BX_5 := Lib.hid (BX_4.out.within (within_of hb) (by omega))
      have OP_5 := Lib.hid (OP_4.out.within (within_of hb) (by omega))
      have BP_5 := Lib.hid (BP_4.out.within (within_of hb) (by omega))
      clear hb
      rw [HBN.out]
      obtain ⟨g3_0, g3_1, g3_2⟩ := BX_5.out
      go_wp2_with fail
      clear g3_0 g3_1 g3_2
      go_ret
      exact ⟨by rw [HRV.out]; rfl, W5.out⟩
    obtain ⟨a, rfl⟩ : ∃ u : Nat, a = (u : Int) := ⟨a.toNat, by omega⟩
    obtain ⟨b, rfl⟩ : ∃ u : Nat, b = (u : Int) := ⟨b.toNat, by omega⟩
    have HA := Lib.hid (pt_yes ha)
    have HBN := Lib.hid (pt_yes hb)
    by_cases hab : a = b
    · subst hab
      have HRV := Lib.hid (show rv = true from by rw [← hrv]; exact imp_same HG.out ha)
      clear hrv
      have haP : a < P := by omega
      have W0 := Lib.hid (Below.refl w.heap.size w)
      have HB_0 := Lib.hid (bars_in hl)
      clear hl
      have Z1 := Lib.hid (within_alloc w (.cells #[.int .i64 (P : Int), (.slice A l.length cap)] 29)).size
      have W1 := Lib.hid (within_on W0.out (within_alloc w (.cells #[.int .i64 (P : Int), (.slice A l.length cap)] 29)) W0.out.size (.inr (Nat.le_refl _)))
      have HB_1 := Lib.hid (HB_0.out.within (within_alloc w (.cells #[.int .i64 (P : Int), (.slice A l.length cap)] 29)) (by omega))
      have Y1 := Lib.hid (show (w.alloc (.cells #[.int .i64 (P : Int), (.slice A l.length cap)] 29)).heap.size = w.heap.size + 1 by simp)
      have hnew := box_new w (P : Int) (.slice A l.length cap) 29
      have BX_1 := Lib.hid hnew
      clear hnew
      go_enter Try.func16, Try.ntmps16
      obtain ⟨g0_0, g0_1, g0_2⟩ := BX_1.out
      go_wp2_with fail
      clear g0_0 g0_1 g0_2
      generalize (w.alloc (.cells #[.int .i64 (P : Int), (.slice A l.length cap)] 29)) = w1 at *
      refine (HNW _ HB_1.out.at).mono ?_
      rintro e w2 ⟨AF, cF, AT, cT, AZ, cZ, f, t, z, rfl, ho, hlo, hb⟩
      have Z2 := Lib.hid (within_of hb).size
      have W2 := Lib.hid (within_on W1.out (within_of hb) W1.out.size (.inr (Nat.le_refl _)))
      have HB_2 := Lib.hid (HB_1.out.within (within_of hb) (by omega))
      have BX_2 := Lib.hid (BX_1.out.within (within_of hb) (by omega))
      have OP_2 := Lib.hid ((show OwnG w2 f t z AF cF AT cT AZ cZ F T Z from ho))
      clear hb HNW
      have HFT := Lib.hid (show f.2 ≤ w2.heap.size ∧ t.2 ≤ w2.heap.size from ⟨ho.1.1, ho.2.1.1⟩)
      clear ho
      have Z3 := Lib.hid (within_alloc w2 (.cells #[(.slice AF F.length cF), (.slice AT T.length cT), (.slice AZ Z.length cZ)] 64)).size
      have W3 := Lib.hid (within_on W2.out (within_alloc w2 (.cells #[(.slice AF F.length cF), (.slice AT T.length cT), (.slice AZ Z.length cZ)] 64)) W2.out.size (.inr (Nat.le_refl _)))
      have HB_3 := Lib.hid (HB_2.out.within (within_alloc w2 (.cells #[(.slice AF F.length cF), (.slice AT T.length cT), (.slice AZ Z.length cZ)] 64)) (by omega))
      have BX_3 := Lib.hid (BX_2.out.within (within_alloc w2 (.cells #[(.slice AF F.length cF), (.slice AT T.length cT), (.slice AZ Z.length cZ)] 64)) (by omega))
      have OP_3 := Lib.hid (OP_2.out.within (within_alloc w2 (.cells #[(.slice AF F.length cF), (.slice AT T.length cT), (.slice AZ Z.length cZ)] 64)) (by omega))
      have Y3 := Lib.hid (show (w2.alloc (.cells #[(.slice AF F.length cF), (.slice AT T.length cT), (.slice AZ Z.length cZ)] 64)).heap.size = w2.heap.size + 1 by simp)
      have hnew := cel3_new w2 (.slice AF F.length cF) (.slice AT T.length cT) (.slice AZ Z.length cZ) 64
      have BP_3 := Lib.hid hnew
      clear hnew
      have HLO := Lib.hid hlo
      clear hlo
      obtain ⟨g1_0, g1_1, g1_2⟩ := BX_3.out
      go_wp2_with fail
      clear g1_0 g1_1 g1_2
      generalize (w2.alloc (.cells #[(.slice AF F.length cF), (.slice AT T.length cT), (.slice AZ Z.length cZ)] 64)) = w3 at *
      refine (HPT (a : Int) _).mono ?_
      rintro e w4 ⟨rfl, hb⟩
      have Z4 := Lib.hid (within_of hb).size
      have W4 := Lib.hid (within_on W3.out (within_of hb) W3.out.size (.inr (Nat.le_refl _)))
      have HB_4 := Lib.hid (HB_3.out.within (within_of hb) (by omega))
      have BX_4 := Lib.hid (BX_3.out.within (within_of hb) (by omega))
      have OP_4 := Lib.hid (OP_3.out.within (within_of hb) (by omega))
      have BP_4 := Lib.hid (BP_3.out.within (within_of hb) (by omega))
      clear hb
      rw [HA.out]
      obtain ⟨g2_0, g2_1, g2_2⟩ := BX_4.out
      go_wp2_with fail
      clear g2_0 g2_1 g2_2
      refine (HPT (a : Int) _).mono ?_
      rintro e w5 ⟨rfl, hb⟩
      have Z5 := Lib.hid (within_of hb).size
      have W5 := Lib.hid (within_on W4.out (within_of hb) W4.out.size (.inr (Nat.le_refl _)))
      have HB_5 := Lib.hid (HB_4.out.within (within_of hb) (by omega))
      have BX_5 := Lib.hid (BX_4.out.within (within_of hb) (by omega))
      have OP_5 := Lib.hid (OP_4.out.within (within_of hb) (by omega))
      have BP_5 := Lib.hid (BP_4.out.within (within_of hb) (by omega))
      clear hb
      rw [HA.out]
      obtain ⟨g3_0, g3_1, g3_2⟩ := BX_5.out
      go_wp2_with fail
      clear g3_0 g3_1 g3_2
      go_ret
      exact ⟨by rw [HRV.out]; first | rfl | simp, W5.out⟩
    · have habi : (a : Int) ≠ (b : Int) := by omega
      have haP : a < P := by omega
      have hbP : b < P := by omega
      have e0 : ((a : Int) == (b : Int)) = false := by simpa using habi
      have e1 : (a == b) = false := by simpa using hab
      have HRV := Lib.hid (hrv.symm.trans (HGAT.out ha hb habi))
      have HAB := Lib.hid hab
      clear hrv habi hab
      have W0 := Lib.hid (Below.refl w.heap.size w)
      have HB_0 := Lib.hid (bars_in hl)
      clear hl
      have Z1 := Lib.hid (within_alloc w (.cells #[.int .i64 (P : Int), (.slice A l.length cap)] 29)).size
      have W1 := Lib.hid (within_on W0.out (within_alloc w (.cells #[.int .i64 (P : Int), (.slice A l.length cap)] 29)) W0.out.size (.inr (Nat.le_refl _)))
      have HB_1 := Lib.hid (HB_0.out.within (within_alloc w (.cells #[.int .i64 (P : Int), (.slice A l.length cap)] 29)) (by omega))
      have Y1 := Lib.hid (show (w.alloc (.cells #[.int .i64 (P : Int), (.slice A l.length cap)] 29)).heap.size = w.heap.size + 1 by simp)
      have hnew := box_new w (P : Int) (.slice A l.length cap) 29
      have BX_1 := Lib.hid hnew
      clear hnew
      go_enter Try.func16, Try.ntmps16
      obtain ⟨g0_0, g0_1, g0_2⟩ := BX_1.out
      go_wp2_with fail
      clear g0_0 g0_1 g0_2
      generalize (w.alloc (.cells #[.int .i64 (P : Int), (.slice A l.length cap)] 29)) = w1 at *
      refine (HNW _ HB_1.out.at).mono ?_
      rintro e w2 ⟨AF, cF, AT, cT, AZ, cZ, f, t, z, rfl, ho, hlo, hb⟩
      have Z2 := Lib.hid (within_of hb).size
      have W2 := Lib.hid (within_on W1.out (within_of hb) W1.out.size (.inr (Nat.le_refl _)))
      have HB_2 := Lib.hid (HB_1.out.within (within_of hb) (by omega))
      have BX_2 := Lib.hid (BX_1.out.within (within_of hb) (by omega))
      have OP_2 := Lib.hid ((show OwnG w2 f t z AF cF AT cT AZ cZ F T Z from ho))
      clear hb HNW
      have HFT := Lib.hid (show f.2 ≤ w2.heap.size ∧ t.2 ≤ w2.heap.size from ⟨ho.1.1, ho.2.1.1⟩)
      clear ho
      have Z3 := Lib.hid (within_alloc w2 (.cells #[(.slice AF F.length cF), (.slice AT T.length cT), (.slice AZ Z.length cZ)] 64)).size
      have W3 := Lib.hid (within_on W2.out (within_alloc w2 (.cells #[(.slice AF F.length cF), (.slice AT T.length cT), (.slice AZ Z.length cZ)] 64)) W2.out.size (.inr (Nat.le_refl _)))
      have HB_3 := Lib.hid (HB_2.out.within (within_alloc w2 (.cells #[(.slice AF F.length cF), (.slice AT T.length cT), (.slice AZ Z.length cZ)] 64)) (by omega))
      have BX_3 := Lib.hid (BX_2.out.within (within_alloc w2 (.cells #[(.slice AF F.length cF), (.slice AT T.length cT), (.slice AZ Z.length cZ)] 64)) (by omega))
      have OP_3 := Lib.hid (OP_2.out.within (within_alloc w2 (.cells #[(.slice AF F.length cF), (.slice AT T.length cT), (.slice AZ Z.length cZ)] 64)) (by omega))
      have Y3 := Lib.hid (show (w2.alloc (.cells #[(.slice AF F.length cF), (.slice AT T.length cT), (.slice AZ Z.length cZ)] 64)).heap.size = w2.heap.size + 1 by simp)
      have hnew := cel3_new w2 (.slice AF F.length cF) (.slice AT T.length cT) (.slice AZ Z.length cZ) 64
      have BP_3 := Lib.hid hnew
      clear hnew
      have HLO := Lib.hid hlo
      clear hlo
      obtain ⟨g1_0, g1_1, g1_2⟩ := BX_3.out
      go_wp2_with fail
      clear g1_0 g1_1 g1_2
      generalize (w2.alloc (.cells #[(.slice AF F.length cF), (.slice AT T.length cT), (.slice AZ Z.length cZ)] 64)) = w3 at *
      refine (HPT (a : Int) _).mono ?_
      rintro e w4 ⟨rfl, hb⟩
      have Z4 := Lib.hid (within_of hb).size
      have W4 := Lib.hid (within_on W3.out (within_of hb) W3.out.size (.inr (Nat.le_refl _)))
      have HB_4 := Lib.hid (HB_3.out.within (within_of hb) (by omega))
      have BX_4 := Lib.hid (BX_3.out.within (within_of hb) (by omega))
      have OP_4 := Lib.hid (OP_3.out.within (within_of hb) (by omega))
      have BP_4 := Lib.hid (BP_3.out.within (within_of hb) (by omega))
      clear hb
      rw [HA.out]
      obtain ⟨g2_0, g2_1, g2_2⟩ := BX_4.out
      go_wp2_with fail
      clear g2_0 g2_1 g2_2
      refine (HPT (b : Int) _).mono ?_
      rintro e w5 ⟨rfl, hb⟩
      have Z5 := Lib.hid (within_of hb).size
      have W5 := Lib.hid (within_on W4.out (within_of hb) W4.out.size (.inr (Nat.le_refl _)))
      have HB_5 := Lib.hid (HB_4.out.within (within_of hb) (by omega))
      have BX_5 := Lib.hid (BX_4.out.within (within_of hb) (by omega))
      have OP_5 := Lib.hid (OP_4.out.within (within_of hb) (by omega))
      have BP_5 := Lib.hid (BP_4.out.within (within_of hb) (by omega))
      clear hb
      rw [HBN.out]
      obtain ⟨g3_0, g3_1, g3_2⟩ := BX_5.out
      go_wp2_with fail
      clear g3_0 g3_1 g3_2
      have hlo := HLO.out
      have hz1 := W1.out.size
      have hzo := HPEB.out.state
      have hfl : F.length = P := by have := HPEB.out.2.2.1; omega
      rw [hfl] at hzo
      refine (gather_c P 2 l A cap w2.heap.size f t z AF AT AZ cF cT cZ F T Z a b 4 _ hzo (by omega) (by omega) h24 (by have := HPEB.out.many; omega) (fun i hi => (HPEB.out.2.2.2.2.1 i hi).1) haP hbP HAB.out HB_5.out.at BP_5.out OP_5.out (.inr HFT.out.1) (.inr HFT.out.2) (fun h0 g off e => by obtain ⟨b', o', e1', _, h2, _⟩ := (HB_5.out).2 h0; rw [e] at e1'; cases e1'; omega)).mono ?_
      rintro e w9 ⟨hw, ⟨rfl, hgr, _⟩ | ⟨s', rfl, hgr, _⟩⟩
      · have HE := Lib.hid (show rv = true from by have h := HRV.out; rw [hgr] at h; exact h)
        have HBE := Lib.hid (W5.out.trans (below_low2 hw (by omega) (by omega) W5.out.size))
        clear hw hgr
        go_wp2_with fail
        go_ret
        exact ⟨by rw [HE.out]; first | rfl | simp, HBE.out⟩
      · have HE := Lib.hid (show rv = false from by have h := HRV.out; rw [hgr] at h; exact h)
        have HBE := Lib.hid (W5.out.trans (below_low2 hw (by omega) (by omega) W5.out.size))
        clear hw hgr
        go_wp2_with fail
        go_ret
        exact ⟨by rw [HE.out]; first | rfl | simp, HBE.out⟩
end Go.Proofs.Ytdnmmjaelgjkaaa
/- The law FnExactIsImplied returns true at every input. No condition. -/
namespace Go.Proofs.Ytdnmmjaelgjkaaa
open Go.RowKit

set_option maxHeartbeats 2000000 in
set_option maxRecDepth 100000 in
theorem lawIsImplied (q : Int) (A : Option Addr) (cap : Nat) (l : List (Int × Int)) (a1 : Int) (a2 : Int) (w : World) (hl : l.length ≤ maxLen) (hb : BarsAt w w.heap.size A l) (_w1 : (Lit.int .i64 a1).wf = true) (_w2 : (Lit.int .i64 a2).wf = true) :
    Calls Try.prog 3 #[.agg #[.int .i64 q, .slice A l.length cap], .int .i64 a1, .int .i64 a2] w fun e w' => e = .returned (.bool true) ∧ Below w.heap.size w w' := by
  have HB_0 := Lib.hid (bars_in hb)
  clear hb
  by_cases hn : l.length ≤ 1048576
  · have W0 := Lib.hid (Below.refl w.heap.size w)
    have hal := new_below w (.cells #[.int .i64 q, .slice A l.length cap] 24)
    have Z1 := Lib.hid (within_of hal).size
    have W1 := Lib.hid (within_on W0.out (within_of hal) W0.out.size (.inr (Nat.le_refl _)))
    have HB_1 := Lib.hid (HB_0.out.within (within_of hal) (by omega))
    clear hal
    have hsz : (w.alloc (.cells #[.int .i64 q, .slice A l.length cap] 24)).heap.size = w.heap.size + 1 := by simp
    have Y1 := Lib.hid hsz
    clear hsz
    have BX_1 := Lib.hid (box_new w q (.slice A l.length cap) 24)
    go_enter Try.func3, Try.ntmps3
    go_wp2_with fail
    generalize (w.alloc (.cells #[.int .i64 q, .slice A l.length cap] 24)) = w1 at *
    refine (szGraph_c q A l.length cap 1048576 _ (by omega) (by omega)).mono ?_
    rintro e w2 ⟨rfl, hb⟩
    have Z2 := Lib.hid (within_of hb).size
    have W2 := Lib.hid (within_on W1.out (within_of hb) W1.out.size (.inr (Nat.le_refl _)))
    have HB_2 := Lib.hid (HB_1.out.within (within_of hb) (by omega))
    have BX_2 := Lib.hid (BX_1.out.within (within_of hb) (by omega))
    clear hb
    have hnn : ¬ (1048576 : Int) - (l.length : Int) < 0 := by omega
    obtain ⟨g01, g02, g03⟩ := BX_2.out
    go_wp2_with fail
    clear g01 g02 g03
    refine (toGraph_c q l A cap _ HB_2.out.at hn).mono ?_
    rintro e w3 ⟨g0, rfl, ho, hb⟩
    have Z3 := Lib.hid (within_of hb).size
    have W3 := Lib.hid (within_on W2.out (within_of hb) W2.out.size (.inr (Nat.le_refl _)))
    have HB_3 := Lib.hid (HB_2.out.within (within_of hb) (by omega))
    have BX_3 := Lib.hid (BX_2.out.within (within_of hb) (by omega))
    have SG_3 := Lib.hid ((own_in ho).bars)
    clear ho hb
    go_wp2_with fail
    refine (specImp q a1 a2 l (some ⟨g0, 0, none⟩) l.length _ SG_3.out.at hn).mono ?_
    rintro e w4 ⟨rfl, hb⟩
    have Z4 := Lib.hid (within_of hb).size
    have W4 := Lib.hid (within_on W3.out (within_of hb) W3.out.size (.inr (Nat.le_refl _)))
    have HB_4 := Lib.hid (HB_3.out.within (within_of hb) (by omega))
    have BX_4 := Lib.hid (BX_3.out.within (within_of hb) (by omega))
    have SG_4 := Lib.hid (SG_3.out.within (within_of hb) (by omega))
    clear hb
    obtain ⟨g01, g02, g03⟩ := BX_4.out
    go_wp2_with fail
    clear g01 g02 g03
    refine (toGraph_c q l A cap _ HB_4.out.at hn).mono ?_
    rintro e w5 ⟨x0, rfl, ho, hb⟩
    have Z5 := Lib.hid (within_of hb).size
    have W5 := Lib.hid (within_on W4.out (within_of hb) W4.out.size (.inr (Nat.le_refl _)))
    have HB_5 := Lib.hid (HB_4.out.within (within_of hb) (by omega))
    have BX_5 := Lib.hid (BX_4.out.within (within_of hb) (by omega))
    have SG_5 := Lib.hid (SG_4.out.within (within_of hb) (by omega))
    have SX_5 := Lib.hid (own_in ho)
    clear ho hb
    go_wp2_with fail
    have hal := new_below w5 (.cells #[.int .i64 q, .slice (some ⟨x0, 0, none⟩) l.length l.length] 29)
    have Z6 := Lib.hid (within_of hal).size
    have W6 := Lib.hid (within_on W5.out (within_of hal) W5.out.size (.inr (Nat.le_refl _)))
    have HB_6 := Lib.hid (HB_5.out.within (within_of hal) (by omega))
    have BX_6 := Lib.hid (BX_5.out.within (within_of hal) (by omega))
    have SG_6 := Lib.hid (SG_5.out.within (within_of hal) (by omega))
    have SX_6 := Lib.hid (SX_5.out.within (within_of hal) (by omega))
    clear hal
    have hsz : (w5.alloc (.cells #[.int .i64 q, .slice (some ⟨x0, 0, none⟩) l.length l.length] 29)).heap.size = w5.heap.size + 1 := by simp
    have Y6 := Lib.hid hsz
    clear hsz
    have XX_6 := Lib.hid (box_new w5 q (.slice (some ⟨x0, 0, none⟩) l.length l.length) 29)
    generalize (w5.alloc (.cells #[.int .i64 q, .slice (some ⟨x0, 0, none⟩) l.length l.length] 29)) = w6 at *
    refine (implImp q a1 a2 l (some ⟨x0, 0, none⟩) l.length _ SX_6.out.bars.at hn).mono ?_
    rintro e w7 ⟨rfl, hb⟩
    have Z7 := Lib.hid (within_of hb).size
    have W7 := Lib.hid (within_on W6.out (within_of hb) W6.out.size (.inr (Nat.le_refl _)))
    have HB_7 := Lib.hid (HB_6.out.within (within_of hb) (by omega))
    have BX_7 := Lib.hid (BX_6.out.within (within_of hb) (by omega))
    have SG_7 := Lib.hid (SG_6.out.within (within_of hb) (by omega))
    have SX_7 := Lib.hid (SX_6.out.within (within_of hb) (by omega))
    have XX_7 := Lib.hid (XX_6.out.within (within_of hb) (by omega))
    clear hb
    have kk0 := box2 BX_7.out XX_7.out
    have kk := box2 BX_7.out XX_7.out
    have hdr : Below w7.heap.size w7 w7.drew := (Below.refl _ _).drew
    have Z8 := Lib.hid (within_of hdr).size
    have W8 := Lib.hid (within_on W7.out (within_of hdr) W7.out.size (.inr (Nat.le_refl _)))
    have HB_8 := Lib.hid (HB_7.out.within (within_of hdr) (by omega))
    have BX_8 := Lib.hid (BX_7.out.within (within_of hdr) (by omega))
    have SG_8 := Lib.hid (SG_7.out.within (within_of hdr) (by omega))
    have SX_8 := Lib.hid (SX_7.out.within (within_of hdr) (by omega))
    have XX_8 := Lib.hid (XX_7.out.within (within_of hdr) (by omega))
    clear hdr
    go_wp2_with fail
    go_region_held3 (fun W' => W'.cell? ⟨w.heap.size, 0, none⟩ = some (.int .i64 q) ∧ W'.cell? ⟨w.heap.size, 1, none⟩ = some ((.slice A l.length cap)) ∧ W'.cell? ⟨w5.heap.size, 0, none⟩ = some (.int .i64 q) ∧ W'.cell? ⟨w5.heap.size, 1, none⟩ = some ((.slice (some ⟨x0, 0, none⟩) l.length l.length)))
      (first | exact kk | exact box2 BX_9.out XX_9.out | exact box2 BX_10.out XX_10.out | fail)
      (first
        | (go_at_call 15; refine (toGraph_c q l A cap _ ?_ hn).mono ?_; (exact HB_8.out.at); rintro e w9 ⟨y0, rfl, ho, hb⟩; have Z9 := Lib.hid (within_of hb).size; have W9 := Lib.hid (within_on W8.out (within_of hb) W8.out.size (.inr (Nat.le_refl _))); have HB_9 := Lib.hid (HB_8.out.within (within_of hb) (by omega)); have BX_9 := Lib.hid (BX_8.out.within (within_of hb) (by omega)); have SG_9 := Lib.hid (SG_8.out.within (within_of hb) (by omega)); have SX_9 := Lib.hid (SX_8.out.within (within_of hb) (by omega)); have XX_9 := Lib.hid (XX_8.out.within (within_of hb) (by omega)); have YY := Lib.hid (own_bars ho); clear ho hb)
        | (go_at_call 17; refine (eqGraph_c q l _ _ l.length l.length _ ?_ ?_ hn).mono ?_; (exact SX_9.out.bars.at); (exact YY.out); rintro e w10 ⟨rfl, hb⟩; have Z10 := Lib.hid (within_of hb).size; have W10 := Lib.hid (within_on W9.out (within_of hb) W9.out.size (.inr (Nat.le_refl _))); have HB_10 := Lib.hid (HB_9.out.within (within_of hb) (by omega)); have BX_10 := Lib.hid (BX_9.out.within (within_of hb) (by omega)); have SG_10 := Lib.hid (SG_9.out.within (within_of hb) (by omega)); have SX_10 := Lib.hid (SX_9.out.within (within_of hb) (by omega)); have XX_10 := Lib.hid (XX_9.out.within (within_of hb) (by omega)); clear hb))
    go_wp2_with fail
    go_ret
    exact ⟨rfl, W10.out⟩
  · have hx : (1048576 : Int) < (l.length : Int) := by omega
    have h63 : l.length ≤ 9223372036854775807 := by unfold maxLen at hl; omega
    have HA := Lib.hid (new_below w (.cells #[.int .i64 q, .slice A l.length cap] 24))
    go_enter Try.func3, Try.ntmps3
    go_wp2_with fail
    refine (szGraph_no q A l.length cap 1048576 _ h63 hx (by omega)).mono ?_
    rintro e w1 ⟨rfl, hb1⟩
    have W1 := Lib.hid (below_on HA.out hb1 HA.out.size)
    clear hb1
    go_wp2_with fail
    go_ret
    exact ⟨rfl, W1.out⟩
end Go.Proofs.Ytdnmmjaelgjkaaa
/- What ComponentOfBar answers, as a list and as a set. No program's walk. No condition. -/
namespace Go.Proofs.Ytdnmmjaelgjkaaa
open Go.RowKit

theorem GrowP.blw {a b : Nat} {V W W' : World} {ys : List Int} {A : Option Addr} {cap lo hi : Nat} (h : GrowP a b V W ys A cap lo hi) (hb : Below W.heap.size W W') : GrowP a b V W' ys A cap lo hi :=
  ⟨h.row.within (within_of hb) (.inr (Nat.zero_le _)), h.rng, Nat.le_trans h.le hb.size, ⟨hb.os.trans h.wi.os, hb.tape.trans h.wi.tape, hb.output.trans h.wi.output, Nat.le_trans h.wi.size hb.size, fun i hi hd => (hb.block i (Nat.lt_of_lt_of_le hi h.wi.size)).trans (h.wi.block i hi hd)⟩⟩
/-- Do both ends of a bar hold v? -/
noncomputable def heldB (p : Int) (l : List (Int × Int)) (x : Int × Int) (v : Nat) : Bool := impB p x.1 (v : Int) l && impB p x.2 (v : Int) l
noncomputable def cobK (p : Int) (l : List (Int × Int)) (x : Int × Int) (n : Nat) : List Int := outF n (heldB p l x)
/-- What ComponentOfBar answers. -/
noncomputable def cobV (p i : Int) (l : List (Int × Int)) : List Int := if (isGB p l && (decide (0 ≤ i) && decide (i < (l.length : Int)))) = true then cobK p l (l.getD i.toNat (0, 0)) p.toNat else []
theorem cobK_in {p : Int} {l : List (Int × Int)} {x : Int × Int} {n : Nat} (h : heldB p l x n = true) : cobK p l x (n + 1) = cobK p l x n ++ [(n : Int)] := by
  unfold cobK
  rw [outF_succ, h]
  rfl
theorem cobK_out {p : Int} {l : List (Int × Int)} {x : Int × Int} {n : Nat} (h : heldB p l x n = false) : cobK p l x (n + 1) = cobK p l x n := by
  unfold cobK
  rw [outF_succ, h]
  simp
theorem cobK_len (p : Int) (l : List (Int × Int)) (x : Int × Int) (n : Nat) : (cobK p l x n).length ≤ n := outF_len _ _
theorem cobV_no {p i : Int} {l : List (Int × Int)} (h : isGB p l = false ∨ i < 0 ∨ (l.length : Int) ≤ i) : cobV p i l = [] := by
  unfold cobV
  rw [if_neg]
  rcases h with h | h | h
  · rw [h]; simp
  · rw [decide_eq_false (show ¬ 0 ≤ i by omega)]; simp
  · rw [decide_eq_false (show ¬ i < (l.length : Int) by omega)]; simp
theorem cobV_yes {P j : Nat} {l : List (Int × Int)} (h : isGB (P : Int) l = true) (hj : j < l.length) : cobV (P : Int) (j : Int) l = cobK (P : Int) l (l.getD j (0, 0)) P := by
  unfold cobV
  rw [if_pos (by rw [h, decide_eq_true (show (0 : Int) ≤ (j : Int) by omega), decide_eq_true (show (j : Int) < (l.length : Int) by omega)]; rfl), Int.toNat_natCast, Int.toNat_natCast]
theorem cobV_len (p i : Int) (l : List (Int × Int)) : (cobV p i l).length ≤ 8 := by
  by_cases h : isGB p l = true
  · have hG : IsG p l := Classical.byContradiction fun g => by rw [isGB_no g] at h; cases h
    unfold cobV
    split
    · have := cobK_len p l (l.getD i.toNat (0, 0)) p.toNat
      have := hG.1
      omega
    · simp
  · rw [cobV_no (.inl (by simpa using h))]; simp
/-- The same points as a set. -/
noncomputable def cobS (p : Int) (l : List (Int × Int)) (x : Int × Int) : Nat → Nat
  | 0 => 0
  | n + 1 => if heldB p l x n = true then cobS p l x n ||| 2 ^ n else cobS p l x n
theorem cobS_lt (p : Int) (l : List (Int × Int)) (x : Int × Int) (n : Nat) : cobS p l x n < 2 ^ n := by
  induction n with
  | zero => simp [cobS]
  | succ n ih =>
    have h1 : 2 ^ n < 2 ^ (n + 1) := Nat.pow_lt_pow_right (by decide) (by omega)
    unfold cobS
    split
    · exact Nat.or_lt_two_pow (by omega) h1
    · omega
theorem cobS_bit (p : Int) (l : List (Int × Int)) (x : Int × Int) (n v : Nat) : (cobS p l x n).testBit v = (decide (v < n) && heldB p l x v) := by
  induction n with
  | zero => simp [cobS]
  | succ n ih =>
    unfold cobS
    by_cases c : v = n
    · subst c
      have h0 : (cobS p l x v).testBit v = false := Nat.testBit_lt_two_pow (cobS_lt p l x v)
      cases h : heldB p l x v with
      | true => rw [if_pos rfl, Nat.testBit_or, Nat.testBit_two_pow_self]; simp
      | false => rw [if_neg (by simp), h0]; simp
    · have h2 : (2 ^ n).testBit v = false := by rw [Nat.testBit_two_pow]; simp; omega
      have hd : decide (v < n + 1) = decide (v < n) := decide_eq_decide.2 (by omega)
      split
      · rw [Nat.testBit_or, ih, h2, Bool.or_false, hd]
      · rw [ih, hd]
theorem cobS_list (p : Int) (l : List (Int × Int)) (x : Int × Int) (P : Nat) : setL P (cobS p l x P) = cobK p l x P := by
  unfold setL cobK
  refine outF_agree P _ _ fun v hv => ?_
  rw [cobS_bit, decide_eq_true hv, Bool.true_and]
theorem cobS_in {p : Int} {l : List (Int × Int)} {x : Int × Int} {n : Nat} (h : heldB p l x n = true) : cobS p l x (n + 1) = cobS p l x n ||| 2 ^ n := by rw [cobS, if_pos h]
theorem cobS_out {p : Int} {l : List (Int × Int)} {x : Int × Int} {n : Nat} (h : heldB p l x n = false) : cobS p l x (n + 1) = cobS p l x n := by rw [cobS, if_neg (by rw [h]; simp)]
theorem bit_orU : ∀ m : Nat, m < 256 → ∀ v : Nat, v < 8 → bits .or .u64 (m : Int) (IntKind.u64.wrap (2 ^ v)) = ((m ||| 2 ^ v : Nat) : Int) := by decide +kernel
end Go.Proofs.Ytdnmmjaelgjkaaa
/- What (Graph).heldBy answers. No condition. -/
namespace Go.Proofs.Ytdnmmjaelgjkaaa
open Go.RowKit

set_option maxHeartbeats 4000000 in
set_option maxRecDepth 100000 in
theorem held_c (P a b : Nat) (l : List (Int × Int)) (A : Option Addr) (cap : Nat) (w : World) (hl : BarsAt w w.heap.size A l) (hn : l.length ≤ 1048576) (hP : P ≤ 8) (_hab : (a : Int) < (b : Int)) :
    Calls Try.prog 90 #[.agg #[.int .i64 (P : Int), .slice A l.length cap], .agg #[.int .i64 (a : Int), .int .i64 (b : Int)]] w fun e w' => e = .returned (.int .u64 ((cobS (P : Int) l ((a : Int), (b : Int)) P) : Int)) ∧ Below w.heap.size w w' := by
  have W0 := Lib.hid (Below.refl w.heap.size w)
  have HB_0 := Lib.hid (bars_in hl)
  clear hl
  have Z1 := Lib.hid (within_alloc w (.cells #[.int .i64 (P : Int), (.slice A l.length cap)] 29)).size
  have W1 := Lib.hid (within_on W0.out (within_alloc w (.cells #[.int .i64 (P : Int), (.slice A l.length cap)] 29)) W0.out.size (.inr (Nat.le_refl _)))
  have HB_1 := Lib.hid (HB_0.out.within (within_alloc w (.cells #[.int .i64 (P : Int), (.slice A l.length cap)] 29)) (by omega))
  have Y1 := Lib.hid (show (w.alloc (.cells #[.int .i64 (P : Int), (.slice A l.length cap)] 29)).heap.size = w.heap.size + 1 by simp)
  have hnew := box_new w (P : Int) (.slice A l.length cap) 29
  have BX_1 := Lib.hid hnew
  clear hnew
  have Z2 := Lib.hid (within_alloc (w.alloc (.cells #[.int .i64 (P : Int), (.slice A l.length cap)] 29)) (.cells #[.int .i64 (a : Int), (.int .i64 (b : Int))] 85)).size
  have W2 := Lib.hid (within_on W1.out (within_alloc (w.alloc (.cells #[.int .i64 (P : Int), (.slice A l.length cap)] 29)) (.cells #[.int .i64 (a : Int), (.int .i64 (b : Int))] 85)) W1.out.size (.inr (Nat.le_refl _)))
  have HB_2 := Lib.hid (HB_1.out.within (within_alloc (w.alloc (.cells #[.int .i64 (P : Int), (.slice A l.length cap)] 29)) (.cells #[.int .i64 (a : Int), (.int .i64 (b : Int))] 85)) (by omega))
  have BX_2 := Lib.hid (BX_1.out.within (within_alloc (w.alloc (.cells #[.int .i64 (P : Int), (.slice A l.length cap)] 29)) (.cells #[.int .i64 (a : Int), (.int .i64 (b : Int))] 85)) (by omega))
  have Y2 := Lib.hid (show ((w.alloc (.cells #[.int .i64 (P : Int), (.slice A l.length cap)] 29)).alloc (.cells #[.int .i64 (a : Int), (.int .i64 (b : Int))] 85)).heap.size = (w.alloc (.cells #[.int .i64 (P : Int), (.slice A l.length cap)] 29)).heap.size + 1 by simp)
  have hnew := box_new (w.alloc (.cells #[.int .i64 (P : Int), (.slice A l.length cap)] 29)) (a : Int) (.int .i64 (b : Int)) 85
  rw [show (w.alloc (.cells #[.int .i64 (P : Int), (.slice A l.length cap)] 29)).heap.size = w.heap.size + 1 by simp] at hnew
  have BB_2 := Lib.hid hnew
  clear hnew
  go_enter Try.func90, Try.ntmps90
  obtain ⟨g0_0, g0_1, g0_2⟩ := BX_2.out
  go_wp2_with fail
  clear g0_0 g0_1 g0_2
  generalize ((w.alloc (.cells #[.int .i64 (P : Int), (.slice A l.length cap)] 29)).alloc (.cells #[.int .i64 (a : Int), (.int .i64 (b : Int))] 85)) = w2 at *
  generalize (w.alloc (.cells #[.int .i64 (P : Int), (.slice A l.length cap)] 29)) = w1 at *
  go_loopw [5, 6, 9] (fun h _ i wr => ∃ j : Nat, j ≤ P ∧ i = .int .i64 j ∧ h = .int .u64 ((cobS (P : Int) l ((a : Int), (b : Int)) j) : Int) ∧ Below w2.heap.size w2 wr) (fun _ _ i _ => P - (intOf i).toNat)
  case atStart => exact ⟨0, Nat.zero_le _, rfl, rfl, Below.refl _ _⟩
  case round =>
    obtain ⟨j, hj, rfl, rfl, hb⟩ := hrel
    have HBL := Lib.hid hb
    have HBX2 := Lib.hid (BX_2.out.kept hb)
    have HBB2 := Lib.hid (BB_2.out.kept hb)
    have HB8 := Lib.hid (HB_2.out.within (within_of hb) (.inr (Nat.zero_le _)))
    obtain ⟨_, g1, g2⟩ := HBX2.out
    obtain ⟨_, g3, g4⟩ := HBB2.out
    clear hb
    by_cases hlt : j < P
    · have hji : (j : Int) < (P : Int) := by omega
      cases h1 : impB (P : Int) (a : Int) (j : Int) l with
      | false =>
        have H1 := Lib.hid h1
        have HN := Lib.hid (cobS_out (p := (P : Int)) (l := l) (x := ((a : Int), (b : Int))) (n := j) (by unfold heldB; rw [h1]; rfl))
        clear h1
        go_wp2_with (go_at_call 16; refine (implImp (P : Int) (a : Int) (j : Int) l A cap _ HB8.out.at hn).mono ?_; rintro e w5 ⟨rfl, hb⟩; rw [H1.out]; have HBL5 := Lib.hid (below_on HBL.out hb HBL.out.size); have HBX5 := Lib.hid (HBX2.out.kept hb); have HBB5 := Lib.hid (HBB2.out.kept hb); have HB5 := Lib.hid (HB8.out.within (within_of hb) (.inr (Nat.zero_le _))); obtain ⟨_, q1, q2⟩ := HBX5.out; obtain ⟨_, q3, q4⟩ := HBB5.out; clear hb)
        go_roundw
        case rel => exact ⟨j + 1, by omega, by go_num, by rw [HN.out], HBL5.out⟩
        case measure => simp [intOf]; omega
      | true =>
        have H1 := Lib.hid h1
        cases h2 : impB (P : Int) (b : Int) (j : Int) l with
        | false =>
          have H2 := Lib.hid h2
          have HN := Lib.hid (cobS_out (p := (P : Int)) (l := l) (x := ((a : Int), (b : Int))) (n := j) (by unfold heldB; rw [h1, h2]; rfl))
          clear h1 h2
          go_wp2_with (first
            | (go_at_call 16; refine (implImp (P : Int) (b : Int) (j : Int) l A cap _ HB5.out.at hn).mono ?_; rintro e w6 ⟨rfl, hb⟩; rw [H2.out]; have HBL6 := Lib.hid (below_on HBL5.out hb HBL5.out.size); clear hb)
            | (go_at_call 16; refine (implImp (P : Int) (a : Int) (j : Int) l A cap _ HB8.out.at hn).mono ?_; rintro e w5 ⟨rfl, hb⟩; rw [H1.out]; have HBL5 := Lib.hid (below_on HBL.out hb HBL.out.size); have HBX5 := Lib.hid (HBX2.out.kept hb); have HBB5 := Lib.hid (HBB2.out.kept hb); have HB5 := Lib.hid (HB8.out.within (within_of hb) (.inr (Nat.zero_le _))); obtain ⟨_, q1, q2⟩ := HBX5.out; obtain ⟨_, q3, q4⟩ := HBB5.out; clear hb))
          go_roundw
          case rel => exact ⟨j + 1, by omega, by go_num, by rw [HN.out], HBL6.out⟩
          case measure => simp [intOf]; omega
        | true =>
          have H2 := Lib.hid h2
          have HN := Lib.hid (cobS_in (p := (P : Int)) (l := l) (x := ((a : Int), (b : Int))) (n := j) (by unfold heldB; rw [h1, h2]; rfl))
          have hml := cobS_lt (P : Int) l ((a : Int), (b : Int)) j
          have hp2 : 2 ^ j ≤ 2 ^ 7 := Nat.pow_le_pow_right (by decide) (by omega)
          obtain ⟨m, hm⟩ : ∃ m, (cobS (P : Int) l ((a : Int), (b : Int)) j) = m := ⟨_, rfl⟩
          rw [hm] at hml HN ⊢
          have hor := bit_orU m (by omega) j (by omega)
          have HOR := Lib.hid hor
          clear h1 h2 hm
          go_wp2_with (first
            | (go_at_call 16; refine (implImp (P : Int) (b : Int) (j : Int) l A cap _ HB5.out.at hn).mono ?_; rintro e w6 ⟨rfl, hb⟩; rw [H2.out]; have HBL6 := Lib.hid (below_on HBL5.out hb HBL5.out.size); clear hb)
            | (go_at_call 16; refine (implImp (P : Int) (a : Int) (j : Int) l A cap _ HB8.out.at hn).mono ?_; rintro e w5 ⟨rfl, hb⟩; rw [H1.out]; have HBL5 := Lib.hid (below_on HBL.out hb HBL.out.size); have HBX5 := Lib.hid (HBX2.out.kept hb); have HBB5 := Lib.hid (HBB2.out.kept hb); have HB5 := Lib.hid (HB8.out.within (within_of hb) (.inr (Nat.zero_le _))); obtain ⟨_, q1, q2⟩ := HBX5.out; obtain ⟨_, q3, q4⟩ := HBB5.out; clear hb))
          go_roundw
          case rel => exact ⟨j + 1, by omega, by go_num, by rw [HN.out, ← HOR.out], HBL6.out⟩
          case measure => simp [intOf]; omega
    · obtain rfl : j = P := by omega
      go_wp2_with fail
      go_ret
      exact ⟨rfl, below_on W2.out HBL.out W2.out.size⟩
end Go.Proofs.Ytdnmmjaelgjkaaa
/- What spec.ComponentOfBar answers. No condition. -/
namespace Go.Proofs.Ytdnmmjaelgjkaaa
open Go.RowKit

set_option maxHeartbeats 4000000 in
set_option maxRecDepth 100000 in
theorem specCob (p i : Int) (l : List (Int × Int)) (A : Option Addr) (cap : Nat) (w : World) (hl : BarsAt w w.heap.size A l) (hn : l.length ≤ 1048576) :
    Calls Try.prog 28 #[.agg #[.int .i64 p, .slice A l.length cap], .int .i64 i] w (IntsO w (cobV p i l)) := by
  have HISG : ∀ W : World, BarsAt W W.heap.size A l → Calls Try.prog 80 #[.agg #[.int .i64 p, .slice A l.length cap]] W fun e w' => e = .returned (.bool (isGB p l)) ∧ Below W.heap.size W w' := fun W h => specIsGraph' p l A cap W h hn
  cases hg : isGB p l with
  | false =>
    have HR := Lib.hid (cobV_no (i := i) (.inl hg))
    rw [hg] at HISG
    clear hg
    have W0 := Lib.hid (Below.refl w.heap.size w)
    have HB_0 := Lib.hid (bars_in hl)
    clear hl
    have Z1 := Lib.hid (within_alloc w (.cells #[.int .i64 p, (.slice A l.length cap)] 29)).size
    have W1 := Lib.hid (within_on W0.out (within_alloc w (.cells #[.int .i64 p, (.slice A l.length cap)] 29)) W0.out.size (.inr (Nat.le_refl _)))
    have HB_1 := Lib.hid (HB_0.out.within (within_alloc w (.cells #[.int .i64 p, (.slice A l.length cap)] 29)) (by omega))
    have Y1 := Lib.hid (show (w.alloc (.cells #[.int .i64 p, (.slice A l.length cap)] 29)).heap.size = w.heap.size + 1 by simp)
    have hnew := box_new w p (.slice A l.length cap) 29
    have BX_1 := Lib.hid hnew
    clear hnew
    have Z2 := Lib.hid (within_alloc (w.alloc (.cells #[.int .i64 p, (.slice A l.length cap)] 29)) (.cells #[] 3)).size
    have W2 := Lib.hid (within_on W1.out (within_alloc (w.alloc (.cells #[.int .i64 p, (.slice A l.length cap)] 29)) (.cells #[] 3)) W1.out.size (.inr (Nat.le_refl _)))
    have HB_2 := Lib.hid (HB_1.out.within (within_alloc (w.alloc (.cells #[.int .i64 p, (.slice A l.length cap)] 29)) (.cells #[] 3)) (by omega))
    have BX_2 := Lib.hid (BX_1.out.within (within_alloc (w.alloc (.cells #[.int .i64 p, (.slice A l.length cap)] 29)) (.cells #[] 3)) (by omega))
    have Y2 := Lib.hid (show ((w.alloc (.cells #[.int .i64 p, (.slice A l.length cap)] 29)).alloc (.cells #[] 3)).heap.size = (w.alloc (.cells #[.int .i64 p, (.slice A l.length cap)] 29)).heap.size + 1 by simp)
    have hown := ownR_empty (w.alloc (.cells #[.int .i64 p, (.slice A l.length cap)] 29))
    rw [show (w.alloc (.cells #[.int .i64 p, (.slice A l.length cap)] 29)).heap.size = w.heap.size + 1 by simp] at hown
    have OE_2 := Lib.hid hown
    clear hown
    go_enter Try.func28, Try.ntmps28
    obtain ⟨g0_0, g0_1, g0_2⟩ := BX_2.out
    go_wp2_with fail
    clear g0_0 g0_1 g0_2
    generalize ((w.alloc (.cells #[.int .i64 p, (.slice A l.length cap)] 29)).alloc (.cells #[] 3)) = w2 at *
    generalize (w.alloc (.cells #[.int .i64 p, (.slice A l.length cap)] 29)) = w1 at *
    refine (HISG _ HB_2.out.at).mono ?_
    rintro e w3 ⟨rfl, hb⟩
    have Z3 := Lib.hid (within_of hb).size
    have W3 := Lib.hid (within_on W2.out (within_of hb) W2.out.size (.inr (Nat.le_refl _)))
    have HB_3 := Lib.hid (HB_2.out.within (within_of hb) (by omega))
    have BX_3 := Lib.hid (BX_2.out.within (within_of hb) (by omega))
    have OE_3 := Lib.hid (OE_2.out.within (within_of hb) (by omega))
    clear hb HISG
    obtain ⟨g1_0, g1_1, g1_2⟩ := BX_3.out
    go_wp2_with fail
    clear g1_0 g1_1 g1_2
    go_ret
    exact ⟨some ⟨w.heap.size + 1, 0, none⟩, 0, by rw [HR.out]; rfl, by rw [HR.out]; exact ⟨Nat.le_refl _, .inl rfl⟩, W3.out⟩
  | true =>
    have hG : IsG p l := Classical.byContradiction fun g => by rw [isGB_no g] at hg; cases hg
    have HG := Lib.hid hG
    have HGB := Lib.hid hg
    rw [hg] at HISG
    clear hg hG
    by_cases h0 : i < 0
    · have HR := Lib.hid (cobV_no (p := p) (i := i) (l := l) (.inr (.inl h0)))
      have W0 := Lib.hid (Below.refl w.heap.size w)
      have HB_0 := Lib.hid (bars_in hl)
      clear hl
      have Z1 := Lib.hid (within_alloc w (.cells #[.int .i64 p, (.slice A l.length cap)] 29)).size
      have W1 := Lib.hid (within_on W0.out (within_alloc w (.cells #[.int .i64 p, (.slice A l.length cap)] 29)) W0.out.size (.inr (Nat.le_refl _)))
      have HB_1 := Lib.hid (HB_0.out.within (within_alloc w (.cells #[.int .i64 p, (.slice A l.length cap)] 29)) (by omega))
      have Y1 := Lib.hid (show (w.alloc (.cells #[.int .i64 p, (.slice A l.length cap)] 29)).heap.size = w.heap.size + 1 by simp)
      have hnew := box_new w p (.slice A l.length cap) 29
      have BX_1 := Lib.hid hnew
      clear hnew
      have Z2 := Lib.hid (within_alloc (w.alloc (.cells #[.int .i64 p, (.slice A l.length cap)] 29)) (.cells #[] 3)).size
      have W2 := Lib.hid (within_on W1.out (within_alloc (w.alloc (.cells #[.int .i64 p, (.slice A l.length cap)] 29)) (.cells #[] 3)) W1.out.size (.inr (Nat.le_refl _)))
      have HB_2 := Lib.hid (HB_1.out.within (within_alloc (w.alloc (.cells #[.int .i64 p, (.slice A l.length cap)] 29)) (.cells #[] 3)) (by omega))
      have BX_2 := Lib.hid (BX_1.out.within (within_alloc (w.alloc (.cells #[.int .i64 p, (.slice A l.length cap)] 29)) (.cells #[] 3)) (by omega))
      have Y2 := Lib.hid (show ((w.alloc (.cells #[.int .i64 p, (.slice A l.length cap)] 29)).alloc (.cells #[] 3)).heap.size = (w.alloc (.cells #[.int .i64 p, (.slice A l.length cap)] 29)).heap.size + 1 by simp)
      have hown := ownR_empty (w.alloc (.cells #[.int .i64 p, (.slice A l.length cap)] 29))
      rw [show (w.alloc (.cells #[.int .i64 p, (.slice A l.length cap)] 29)).heap.size = w.heap.size + 1 by simp] at hown
      have OE_2 := Lib.hid hown
      clear hown
      go_enter Try.func28, Try.ntmps28
      obtain ⟨g0_0, g0_1, g0_2⟩ := BX_2.out
      go_wp2_with fail
      clear g0_0 g0_1 g0_2
      generalize ((w.alloc (.cells #[.int .i64 p, (.slice A l.length cap)] 29)).alloc (.cells #[] 3)) = w2 at *
      generalize (w.alloc (.cells #[.int .i64 p, (.slice A l.length cap)] 29)) = w1 at *
      refine (HISG _ HB_2.out.at).mono ?_
      rintro e w3 ⟨rfl, hb⟩
      have Z3 := Lib.hid (within_of hb).size
      have W3 := Lib.hid (within_on W2.out (within_of hb) W2.out.size (.inr (Nat.le_refl _)))
      have HB_3 := Lib.hid (HB_2.out.within (within_of hb) (by omega))
      have BX_3 := Lib.hid (BX_2.out.within (within_of hb) (by omega))
      have OE_3 := Lib.hid (OE_2.out.within (within_of hb) (by omega))
      clear hb HISG
      obtain ⟨g1_0, g1_1, g1_2⟩ := BX_3.out
      go_wp2_with fail
      clear g1_0 g1_1 g1_2
      go_ret
      exact ⟨some ⟨w.heap.size + 1, 0, none⟩, 0, by rw [HR.out]; rfl, by rw [HR.out]; exact ⟨Nat.le_refl _, .inl rfl⟩, W3.out⟩
    by_cases h1 : (l.length : Int) ≤ i
    · have HR := Lib.hid (cobV_no (p := p) (i := i) (l := l) (.inr (.inr h1)))
      have W0 := Lib.hid (Below.refl w.heap.size w)
      have HB_0 := Lib.hid (bars_in hl)
      clear hl
      have Z1 := Lib.hid (within_alloc w (.cells #[.int .i64 p, (.slice A l.length cap)] 29)).size
      have W1 := Lib.hid (within_on W0.out (within_alloc w (.cells #[.int .i64 p, (.slice A l.length cap)] 29)) W0.out.size (.inr (Nat.le_refl _)))
      have HB_1 := Lib.hid (HB_0.out.within (within_alloc w (.cells #[.int .i64 p, (.slice A l.length cap)] 29)) (by omega))
      have Y1 := Lib.hid (show (w.alloc (.cells #[.int .i64 p, (.slice A l.length cap)] 29)).heap.size = w.heap.size + 1 by simp)
      have hnew := box_new w p (.slice A l.length cap) 29
      have BX_1 := Lib.hid hnew
      clear hnew
      have Z2 := Lib.hid (within_alloc (w.alloc (.cells #[.int .i64 p, (.slice A l.length cap)] 29)) (.cells #[] 3)).size
      have W2 := Lib.hid (within_on W1.out (within_alloc (w.alloc (.cells #[.int .i64 p, (.slice A l.length cap)] 29)) (.cells #[] 3)) W1.out.size (.inr (Nat.le_refl _)))
      have HB_2 := Lib.hid (HB_1.out.within (within_alloc (w.alloc (.cells #[.int .i64 p, (.slice A l.length cap)] 29)) (.cells #[] 3)) (by omega))
      have BX_2 := Lib.hid (BX_1.out.within (within_alloc (w.alloc (.cells #[.int .i64 p, (.slice A l.length cap)] 29)) (.cells #[] 3)) (by omega))
      have Y2 := Lib.hid (show ((w.alloc (.cells #[.int .i64 p, (.slice A l.length cap)] 29)).alloc (.cells #[] 3)).heap.size = (w.alloc (.cells #[.int .i64 p, (.slice A l.length cap)] 29)).heap.size + 1 by simp)
      have hown := ownR_empty (w.alloc (.cells #[.int .i64 p, (.slice A l.length cap)] 29))
      rw [show (w.alloc (.cells #[.int .i64 p, (.slice A l.length cap)] 29)).heap.size = w.heap.size + 1 by simp] at hown
      have OE_2 := Lib.hid hown
      clear hown
      go_enter Try.func28, Try.ntmps28
      obtain ⟨g0_0, g0_1, g0_2⟩ := BX_2.out
      go_wp2_with fail
      clear g0_0 g0_1 g0_2
      generalize ((w.alloc (.cells #[.int .i64 p, (.slice A l.length cap)] 29)).alloc (.cells #[] 3)) = w2 at *
      generalize (w.alloc (.cells #[.int .i64 p, (.slice A l.length cap)] 29)) = w1 at *
      refine (HISG _ HB_2.out.at).mono ?_
      rintro e w3 ⟨rfl, hb⟩
      have Z3 := Lib.hid (within_of hb).size
      have W3 := Lib.hid (within_on W2.out (within_of hb) W2.out.size (.inr (Nat.le_refl _)))
      have HB_3 := Lib.hid (HB_2.out.within (within_of hb) (by omega))
      have BX_3 := Lib.hid (BX_2.out.within (within_of hb) (by omega))
      have OE_3 := Lib.hid (OE_2.out.within (within_of hb) (by omega))
      clear hb HISG
      obtain ⟨g1_0, g1_1, g1_2⟩ := BX_3.out
      go_wp2_with fail
      clear g1_0 g1_1 g1_2
      go_ret
      exact ⟨some ⟨w.heap.size + 1, 0, none⟩, 0, by rw [HR.out]; rfl, by rw [HR.out]; exact ⟨Nat.le_refl _, .inl rfl⟩, W3.out⟩
    obtain ⟨P, rfl⟩ : ∃ u : Nat, p = (u : Int) := ⟨p.toNat, by have := HG.out.1; omega⟩
    obtain ⟨j0, rfl⟩ : ∃ u : Nat, i = (u : Int) := ⟨i.toNat, by omega⟩
    have hj0 : j0 < l.length := by omega
    have d0 : decide ((j0 : Int) < 0) = false := decide_eq_false (by omega)
    have d1 : decide (l.length ≤ j0) = false := decide_eq_false (by omega)
    have d2 : decide ((l.length : Int) ≤ (j0 : Int)) = false := decide_eq_false (by omega)
    have hv := cobV_yes HGB.out hj0
    have hob := HG.out.2.2 j0 hj0
    unfold OkBar at hob
    obtain ⟨x, hxd⟩ : ∃ x, l.getD j0 (0, 0) = x := ⟨_, rfl⟩
    rw [hxd] at hv hob
    obtain ⟨x1, x2⟩ := x
    simp only at hob
    obtain ⟨a, rfl⟩ : ∃ u : Nat, x1 = (u : Int) := ⟨x1.toNat, by omega⟩
    obtain ⟨b, rfl⟩ : ∃ u : Nat, x2 = (u : Int) := ⟨x2.toNat, by omega⟩
    have HR := Lib.hid hv
    have HXD := Lib.hid hxd
    have hP8 : P ≤ 8 := by have := HG.out.1; omega
    have hab : (a : Int) < (b : Int) := hob.2.1
    have HOB := Lib.hid hob
    clear hv hxd hob
    have W0 := Lib.hid (Below.refl w.heap.size w)
    have HB_0 := Lib.hid (bars_in hl)
    clear hl
    have Z1 := Lib.hid (within_alloc w (.cells #[.int .i64 (P : Int), (.slice A l.length cap)] 29)).size
    have W1 := Lib.hid (within_on W0.out (within_alloc w (.cells #[.int .i64 (P : Int), (.slice A l.length cap)] 29)) W0.out.size (.inr (Nat.le_refl _)))
    have HB_1 := Lib.hid (HB_0.out.within (within_alloc w (.cells #[.int .i64 (P : Int), (.slice A l.length cap)] 29)) (by omega))
    have Y1 := Lib.hid (show (w.alloc (.cells #[.int .i64 (P : Int), (.slice A l.length cap)] 29)).heap.size = w.heap.size + 1 by simp)
    have hnew := box_new w (P : Int) (.slice A l.length cap) 29
    have BX_1 := Lib.hid hnew
    clear hnew
    have Z2 := Lib.hid (within_alloc (w.alloc (.cells #[.int .i64 (P : Int), (.slice A l.length cap)] 29)) (.cells #[] 3)).size
    have W2 := Lib.hid (within_on W1.out (within_alloc (w.alloc (.cells #[.int .i64 (P : Int), (.slice A l.length cap)] 29)) (.cells #[] 3)) W1.out.size (.inr (Nat.le_refl _)))
    have HB_2 := Lib.hid (HB_1.out.within (within_alloc (w.alloc (.cells #[.int .i64 (P : Int), (.slice A l.length cap)] 29)) (.cells #[] 3)) (by omega))
    have BX_2 := Lib.hid (BX_1.out.within (within_alloc (w.alloc (.cells #[.int .i64 (P : Int), (.slice A l.length cap)] 29)) (.cells #[] 3)) (by omega))
    have Y2 := Lib.hid (show ((w.alloc (.cells #[.int .i64 (P : Int), (.slice A l.length cap)] 29)).alloc (.cells #[] 3)).heap.size = (w.alloc (.cells #[.int .i64 (P : Int), (.slice A l.length cap)] 29)).heap.size + 1 by simp)
    have hown := ownR_empty (w.alloc (.cells #[.int .i64 (P : Int), (.slice A l.length cap)] 29))
    rw [show (w.alloc (.cells #[.int .i64 (P : Int), (.slice A l.length cap)] 29)).heap.size = w.heap.size + 1 by simp] at hown
    have OE_2 := Lib.hid hown
    clear hown
    go_enter Try.func28, Try.ntmps28
    obtain ⟨g0_0, g0_1, g0_2⟩ := BX_2.out
    go_wp2_with fail
    clear g0_0 g0_1 g0_2
    generalize ((w.alloc (.cells #[.int .i64 (P : Int), (.slice A l.length cap)] 29)).alloc (.cells #[] 3)) = w2 at *
    generalize (w.alloc (.cells #[.int .i64 (P : Int), (.slice A l.length cap)] 29)) = w1 at *
    refine (HISG _ HB_2.out.at).mono ?_
    rintro e w3 ⟨rfl, hb⟩
    have Z3 := Lib.hid (within_of hb).size
    have W3 := Lib.hid (within_on W2.out (within_of hb) W2.out.size (.inr (Nat.le_refl _)))
    have HB_3 := Lib.hid (HB_2.out.within (within_of hb) (by omega))
    have BX_3 := Lib.hid (BX_2.out.within (within_of hb) (by omega))
    have OE_3 := Lib.hid (OE_2.out.within (within_of hb) (by omega))
    clear hb HISG
    obtain ⟨bb, boff, rfl, _, hbB, hbc⟩ := HB_3.out.2 (by omega)
    have hx1 := (hbc j0 hj0).1
    have hx2 := (hbc j0 hj0).2
    rw [HXD.out] at hx1 hx2
    clear hbc
    obtain ⟨g1_0, g1_1, g1_2⟩ := BX_3.out
    go_wp2_with fail
    clear g1_0 g1_1 g1_2 hx1 hx2
    have HG0 := Lib.hid (show GrowP (w.heap.size + 1) (w.heap.size + 1 + 1) w3 w3 (cobK (P : Int) l ((a : Int), (b : Int)) 0) (some ⟨w.heap.size + 1, 0, none⟩) 0 (w.heap.size + 1) (w.heap.size + 1 + 1) from ⟨OE_3.out, .inl ⟨rfl, rfl⟩, (by have := Z1.out; have := Z2.out; have := Z3.out; have := Y1.out; have := Y2.out; omega), Within.refl _ _ _⟩)
    go_loopw [5, 8] (fun u i wr => ∃ j : Nat, j ≤ P ∧ i = .int .i64 j ∧ ∃ Ao co lo2 hi2, u = .slice Ao (cobK (P : Int) l ((a : Int), (b : Int)) j).length co ∧ GrowP (w.heap.size + 1) (w.heap.size + 1 + 1) w3 wr (cobK (P : Int) l ((a : Int), (b : Int)) j) Ao co lo2 hi2) (fun _ i _ => P - (intOf i).toNat)
    case atStart => exact ⟨0, Nat.zero_le _, rfl, _, 0, _, _, rfl, HG0.out⟩
    case round =>
      obtain ⟨j, hj, rfl, Ao, co, lo2, hi2, rfl, hg⟩ := hrel
      have HG1 := Lib.hid hg
      have HBX2 := Lib.hid (BX_3.out.within hg.wi (.inl (Nat.lt_succ_self _)))
      obtain ⟨_, g1, g2⟩ := HBX2.out
      have HB8 := Lib.hid (HB_3.out.within hg.wi (.inl (Nat.le_succ _)))
      have hcl := cobK_len (P : Int) l ((a : Int), (b : Int)) j
      have HCL := Lib.hid hcl
      clear hg hcl
      by_cases hlt : j < P
      · have hji : (j : Int) < (P : Int) := by omega
        cases h1 : impB (P : Int) (a : Int) (j : Int) l with
        | false =>
          have H1 := Lib.hid h1
          have HN := Lib.hid (cobK_out (p := (P : Int)) (l := l) (x := ((a : Int), (b : Int))) (n := j) (by unfold heldB; rw [h1]; rfl))
          clear h1
          go_wp2_with (go_at_call 14; refine (specImp (P : Int) (a : Int) (j : Int) l (some ⟨bb, boff, none⟩) cap _ HB8.out.at hn).mono ?_; rintro e w5 ⟨rfl, hb⟩; rw [H1.out]; have HG5 := Lib.hid (HG1.out.blw hb); have HBX5 := Lib.hid (HBX2.out.within (within_of hb) (by omega)); have HB5 := Lib.hid (HB8.out.within (within_of hb) (.inr (Nat.zero_le _))); obtain ⟨_, q1, q2⟩ := HBX5.out; clear hb)
          go_roundw
          case rel => exact ⟨j + 1, by omega, by go_num, Ao, co, lo2, hi2, by rw [HN.out], by rw [HN.out]; exact HG5.out⟩
          case measure => simp [intOf]; omega
        | true =>
          have H1 := Lib.hid h1
          cases h2 : impB (P : Int) (b : Int) (j : Int) l with
          | false =>
            have H2 := Lib.hid h2
            have HN := Lib.hid (cobK_out (p := (P : Int)) (l := l) (x := ((a : Int), (b : Int))) (n := j) (by unfold heldB; rw [h1, h2]; rfl))
            clear h1 h2
            go_wp2_with (first
              | (go_at_call 14; refine (specImp (P : Int) (b : Int) (j : Int) l (some ⟨bb, boff, none⟩) cap _ HB5.out.at hn).mono ?_; rintro e w6 ⟨rfl, hb⟩; rw [H2.out]; have HG6 := Lib.hid (HG5.out.blw hb); clear hb)
              | (go_at_call 14; refine (specImp (P : Int) (a : Int) (j : Int) l (some ⟨bb, boff, none⟩) cap _ HB8.out.at hn).mono ?_; rintro e w5 ⟨rfl, hb⟩; rw [H1.out]; have HG5 := Lib.hid (HG1.out.blw hb); have HBX5 := Lib.hid (HBX2.out.within (within_of hb) (by omega)); have HB5 := Lib.hid (HB8.out.within (within_of hb) (.inr (Nat.zero_le _))); obtain ⟨_, q1, q2⟩ := HBX5.out; clear hb))
            go_roundw
            case rel => exact ⟨j + 1, by omega, by go_num, Ao, co, lo2, hi2, by rw [HN.out], by rw [HN.out]; exact HG6.out⟩
            case measure => simp [intOf]; omega
          | true =>
            have H2 := Lib.hid h2
            have HN := Lib.hid (cobK_in (p := (P : Int)) (l := l) (x := ((a : Int), (b : Int))) (n := j) (by unfold heldB; rw [h1, h2]; rfl))
            clear h1 h2
            go_wp2_with (first
              | (at_builtin; refine wpList_pushR _ rfl _ _ rfl lo2 hi2 Ao co (cobK (P : Int) l ((a : Int), (b : Int)) j) (j : Int) rfl HG6.out.row _ (by first | rfl | (simp only [World.size_setCell]; rfl)) (by have := HCL.out; omega) HG6.out.le ?_; intro A7 c7 w17 lo7 hi7 hr7 hor7 hw7; have HG7 := Lib.hid (HG6.out.push hr7 hor7 hw7); clear hr7 hor7 hw7)
              | (go_at_call 14; refine (specImp (P : Int) (b : Int) (j : Int) l (some ⟨bb, boff, none⟩) cap _ HB5.out.at hn).mono ?_; rintro e w6 ⟨rfl, hb⟩; rw [H2.out]; have HG6 := Lib.hid (HG5.out.blw hb); clear hb)
              | (go_at_call 14; refine (specImp (P : Int) (a : Int) (j : Int) l (some ⟨bb, boff, none⟩) cap _ HB8.out.at hn).mono ?_; rintro e w5 ⟨rfl, hb⟩; rw [H1.out]; have HG5 := Lib.hid (HG1.out.blw hb); have HBX5 := Lib.hid (HBX2.out.within (within_of hb) (by omega)); have HB5 := Lib.hid (HB8.out.within (within_of hb) (.inr (Nat.zero_le _))); obtain ⟨_, q1, q2⟩ := HBX5.out; clear hb))
            go_roundw
            case rel => exact ⟨j + 1, by omega, by go_num, A7, c7, lo7, hi7, by rw [HN.out]; simp, by rw [HN.out]; exact HG7.out⟩
            case measure => simp [intOf]; omega
      · obtain rfl : j = P := by omega
        go_wp2_with fail
        go_ret
        rw [HR.out]
        have hbs := W3.out.size
        exact ⟨Ao, co, rfl, HG1.out.out (Nat.le_succ _) hbs, within_on W3.out HG1.out.wi hbs (.inl (Nat.le_succ _))⟩
end Go.Proofs.Ytdnmmjaelgjkaaa
/- What impl.ComponentOfBar answers. No condition. -/
namespace Go.Proofs.Ytdnmmjaelgjkaaa
open Go.RowKit

set_option maxHeartbeats 4000000 in
set_option maxRecDepth 100000 in
theorem implCob (p i : Int) (l : List (Int × Int)) (A : Option Addr) (cap : Nat) (w : World) (hl : BarsAt w w.heap.size A l) (hn : l.length ≤ 1048576) :
    Calls Try.prog 29 #[.agg #[.int .i64 p, .slice A l.length cap], .int .i64 i] w (IntsO w (cobV p i l)) := by
  have HISG : ∀ W : World, BarsAt W W.heap.size A l → Calls Try.prog 88 #[.agg #[.int .i64 p, .slice A l.length cap]] W fun e w' => e = .returned (.bool (isGB p l)) ∧ Below W.heap.size W w' := fun W h => implIsGraph p l A cap W h hn
  cases hg : isGB p l with
  | false =>
    have HR := Lib.hid (cobV_no (i := i) (.inl hg))
    rw [hg] at HISG
    clear hg
    have W0 := Lib.hid (Below.refl w.heap.size w)
    have HB_0 := Lib.hid (bars_in hl)
    clear hl
    have Z1 := Lib.hid (within_alloc w (.cells #[.int .i64 p, (.slice A l.length cap)] 29)).size
    have W1 := Lib.hid (within_on W0.out (within_alloc w (.cells #[.int .i64 p, (.slice A l.length cap)] 29)) W0.out.size (.inr (Nat.le_refl _)))
    have HB_1 := Lib.hid (HB_0.out.within (within_alloc w (.cells #[.int .i64 p, (.slice A l.length cap)] 29)) (by omega))
    have Y1 := Lib.hid (show (w.alloc (.cells #[.int .i64 p, (.slice A l.length cap)] 29)).heap.size = w.heap.size + 1 by simp)
    have hnew := box_new w p (.slice A l.length cap) 29
    have BX_1 := Lib.hid hnew
    clear hnew
    go_enter Try.func29, Try.ntmps29
    obtain ⟨g0_0, g0_1, g0_2⟩ := BX_1.out
    go_wp2_with fail
    clear g0_0 g0_1 g0_2
    generalize (w.alloc (.cells #[.int .i64 p, (.slice A l.length cap)] 29)) = w1 at *
    refine (HISG _ HB_1.out.at).mono ?_
    rintro e w2 ⟨rfl, hb⟩
    have Z2 := Lib.hid (within_of hb).size
    have W2 := Lib.hid (within_on W1.out (within_of hb) W1.out.size (.inr (Nat.le_refl _)))
    have HB_2 := Lib.hid (HB_1.out.within (within_of hb) (by omega))
    have BX_2 := Lib.hid (BX_1.out.within (within_of hb) (by omega))
    clear hb HISG
    obtain ⟨g1_0, g1_1, g1_2⟩ := BX_2.out
    go_wp2_with fail
    clear g1_0 g1_1 g1_2
    go_ret
    exact ⟨none, 0, by rw [HR.out]; rfl, by rw [HR.out]; exact ⟨Nat.le_refl _, .inl rfl⟩, W2.out⟩
  | true =>
    have hG : IsG p l := Classical.byContradiction fun g => by rw [isGB_no g] at hg; cases hg
    have HG := Lib.hid hG
    have HGB := Lib.hid hg
    rw [hg] at HISG
    clear hg hG
    by_cases h0 : i < 0
    · have HR := Lib.hid (cobV_no (p := p) (i := i) (l := l) (.inr (.inl h0)))
      have W0 := Lib.hid (Below.refl w.heap.size w)
      have HB_0 := Lib.hid (bars_in hl)
      clear hl
      have Z1 := Lib.hid (within_alloc w (.cells #[.int .i64 p, (.slice A l.length cap)] 29)).size
      have W1 := Lib.hid (within_on W0.out (within_alloc w (.cells #[.int .i64 p, (.slice A l.length cap)] 29)) W0.out.size (.inr (Nat.le_refl _)))
      have HB_1 := Lib.hid (HB_0.out.within (within_alloc w (.cells #[.int .i64 p, (.slice A l.length cap)] 29)) (by omega))
      have Y1 := Lib.hid (show (w.alloc (.cells #[.int .i64 p, (.slice A l.length cap)] 29)).heap.size = w.heap.size + 1 by simp)
      have hnew := box_new w p (.slice A l.length cap) 29
      have BX_1 := Lib.hid hnew
      clear hnew
      go_enter Try.func29, Try.ntmps29
      obtain ⟨g0_0, g0_1, g0_2⟩ := BX_1.out
      go_wp2_with fail
      clear g0_0 g0_1 g0_2
      generalize (w.alloc (.cells #[.int .i64 p, (.slice A l.length cap)] 29)) = w1 at *
      refine (HISG _ HB_1.out.at).mono ?_
      rintro e w2 ⟨rfl, hb⟩
      have Z2 := Lib.hid (within_of hb).size
      have W2 := Lib.hid (within_on W1.out (within_of hb) W1.out.size (.inr (Nat.le_refl _)))
      have HB_2 := Lib.hid (HB_1.out.within (within_of hb) (by omega))
      have BX_2 := Lib.hid (BX_1.out.within (within_of hb) (by omega))
      clear hb HISG
      obtain ⟨g1_0, g1_1, g1_2⟩ := BX_2.out
      go_wp2_with fail
      clear g1_0 g1_1 g1_2
      go_ret
      exact ⟨none, 0, by rw [HR.out]; rfl, by rw [HR.out]; exact ⟨Nat.le_refl _, .inl rfl⟩, W2.out⟩
    by_cases h1 : (l.length : Int) ≤ i
    · have HR := Lib.hid (cobV_no (p := p) (i := i) (l := l) (.inr (.inr h1)))
      have W0 := Lib.hid (Below.refl w.heap.size w)
      have HB_0 := Lib.hid (bars_in hl)
      clear hl
      have Z1 := Lib.hid (within_alloc w (.cells #[.int .i64 p, (.slice A l.length cap)] 29)).size
      have W1 := Lib.hid (within_on W0.out (within_alloc w (.cells #[.int .i64 p, (.slice A l.length cap)] 29)) W0.out.size (.inr (Nat.le_refl _)))
      have HB_1 := Lib.hid (HB_0.out.within (within_alloc w (.cells #[.int .i64 p, (.slice A l.length cap)] 29)) (by omega))
      have Y1 := Lib.hid (show (w.alloc (.cells #[.int .i64 p, (.slice A l.length cap)] 29)).heap.size = w.heap.size + 1 by simp)
      have hnew := box_new w p (.slice A l.length cap) 29
      have BX_1 := Lib.hid hnew
      clear hnew
      go_enter Try.func29, Try.ntmps29
      obtain ⟨g0_0, g0_1, g0_2⟩ := BX_1.out
      go_wp2_with fail
      clear g0_0 g0_1 g0_2
      generalize (w.alloc (.cells #[.int .i64 p, (.slice A l.length cap)] 29)) = w1 at *
      refine (HISG _ HB_1.out.at).mono ?_
      rintro e w2 ⟨rfl, hb⟩
      have Z2 := Lib.hid (within_of hb).size
      have W2 := Lib.hid (within_on W1.out (within_of hb) W1.out.size (.inr (Nat.le_refl _)))
      have HB_2 := Lib.hid (HB_1.out.within (within_of hb) (by omega))
      have BX_2 := Lib.hid (BX_1.out.within (within_of hb) (by omega))
      clear hb HISG
      obtain ⟨g1_0, g1_1, g1_2⟩ := BX_2.out
      go_wp2_with fail
      clear g1_0 g1_1 g1_2
      go_ret
      exact ⟨none, 0, by rw [HR.out]; rfl, by rw [HR.out]; exact ⟨Nat.le_refl _, .inl rfl⟩, W2.out⟩
    obtain ⟨P, rfl⟩ : ∃ u : Nat, p = (u : Int) := ⟨p.toNat, by have := HG.out.1; omega⟩
    obtain ⟨j0, rfl⟩ : ∃ u : Nat, i = (u : Int) := ⟨i.toNat, by omega⟩
    have hj0 : j0 < l.length := by omega
    have d0 : decide ((j0 : Int) < 0) = false := decide_eq_false (by omega)
    have d1 : decide (l.length ≤ j0) = false := decide_eq_false (by omega)
    have d2 : decide ((l.length : Int) ≤ (j0 : Int)) = false := decide_eq_false (by omega)
    have hv := cobV_yes HGB.out hj0
    have hob := HG.out.2.2 j0 hj0
    unfold OkBar at hob
    obtain ⟨x, hxd⟩ : ∃ x, l.getD j0 (0, 0) = x := ⟨_, rfl⟩
    rw [hxd] at hv hob
    obtain ⟨x1, x2⟩ := x
    simp only at hob
    obtain ⟨a, rfl⟩ : ∃ u : Nat, x1 = (u : Int) := ⟨x1.toNat, by omega⟩
    obtain ⟨b, rfl⟩ : ∃ u : Nat, x2 = (u : Int) := ⟨x2.toNat, by omega⟩
    have HR := Lib.hid hv
    have HXD := Lib.hid hxd
    have hP8 : P ≤ 8 := by have := HG.out.1; omega
    have hab : (a : Int) < (b : Int) := hob.2.1
    have HOB := Lib.hid hob
    clear hv hxd hob
    have W0 := Lib.hid (Below.refl w.heap.size w)
    have HB_0 := Lib.hid (bars_in hl)
    clear hl
    have Z1 := Lib.hid (within_alloc w (.cells #[.int .i64 (P : Int), (.slice A l.length cap)] 29)).size
    have W1 := Lib.hid (within_on W0.out (within_alloc w (.cells #[.int .i64 (P : Int), (.slice A l.length cap)] 29)) W0.out.size (.inr (Nat.le_refl _)))
    have HB_1 := Lib.hid (HB_0.out.within (within_alloc w (.cells #[.int .i64 (P : Int), (.slice A l.length cap)] 29)) (by omega))
    have Y1 := Lib.hid (show (w.alloc (.cells #[.int .i64 (P : Int), (.slice A l.length cap)] 29)).heap.size = w.heap.size + 1 by simp)
    have hnew := box_new w (P : Int) (.slice A l.length cap) 29
    have BX_1 := Lib.hid hnew
    clear hnew
    go_enter Try.func29, Try.ntmps29
    obtain ⟨g0_0, g0_1, g0_2⟩ := BX_1.out
    go_wp2_with fail
    clear g0_0 g0_1 g0_2
    generalize (w.alloc (.cells #[.int .i64 (P : Int), (.slice A l.length cap)] 29)) = w1 at *
    refine (HISG _ HB_1.out.at).mono ?_
    rintro e w2 ⟨rfl, hb⟩
    have Z2 := Lib.hid (within_of hb).size
    have W2 := Lib.hid (within_on W1.out (within_of hb) W1.out.size (.inr (Nat.le_refl _)))
    have HB_2 := Lib.hid (HB_1.out.within (within_of hb) (by omega))
    have BX_2 := Lib.hid (BX_1.out.within (within_of hb) (by omega))
    clear hb HISG
    obtain ⟨bb, boff, rfl, _, hbB, hbc⟩ := HB_2.out.2 (by omega)
    clear hbc hbB
    have hdr : Below w2.heap.size w2 w2.drew := (Below.refl _ _).drew
    have hbd := HB_2.out.within (within_of hdr) (.inr (Nat.zero_le _))
    have HBD := Lib.hid hbd
    have HKK := Lib.hid (BX_2.out.kept hdr)
    have HWD := Lib.hid (below_on W2.out hdr W2.out.size)
    have HBC := Lib.hid (fun (W : World) (h : BarsIn W 0 w.heap.size (some ⟨bb, boff, none⟩) l) => (show W.cell? ⟨bb, boff + j0 * 2, none⟩ = some (.int .i64 (a : Int)) ∧ W.cell? ⟨bb, boff + j0 * 2 + 1, none⟩ = some (.int .i64 (b : Int)) from by
      obtain ⟨b', o', e', _, _, hc'⟩ := h.2 (by omega)
      cases e'
      have h2 := hc' j0 hj0
      rw [HXD.out] at h2
      exact h2))
    obtain ⟨_, g1, g2⟩ := BX_2.out
    obtain ⟨g3, g4⟩ := HBC.out _ HB_2.out
    clear hdr hbd
    go_wp2_with fail
    go_region_held3 (fun W' : World => (W'.cell? ⟨w.heap.size, 0, none⟩ = some (.int .i64 (P : Int)) ∧ W'.cell? ⟨w.heap.size, 1, none⟩ = some (.slice (some ⟨bb, boff, none⟩) l.length cap)) ∧ (W'.cell? ⟨bb, boff + j0 * 2, none⟩ = some (.int .i64 (a : Int)) ∧ W'.cell? ⟨bb, boff + j0 * 2 + 1, none⟩ = some (.int .i64 (b : Int))))
      (first | exact ⟨HKK.out.2, HBC.out _ HBD.out⟩ | exact ⟨HK5.out.2, HBC.out _ HB5.out⟩ | exact ⟨HK6.out.2, HBC.out _ HB6.out⟩ | fail)
      (first
        | (go_at_call 91; refine (implList P (cobS (P : Int) l ((a : Int), (b : Int)) P) (.slice (some ⟨bb, boff, none⟩) l.length cap) _ hP8 HM.out).mono ?_; rintro e w6 ⟨A6, c6, rfl, ho, hb⟩; have HO6 := Lib.hid ho; have HK6 := Lib.hid (HK5.out.kept hb); have HB6 := Lib.hid (HB5.out.within (within_of hb) (.inr (Nat.zero_le _))); have HS6 := Lib.hid (show w.heap.size ≤ w5.heap.size from HWE.out.size); have HWF := Lib.hid (below_on HWE.out hb HWE.out.size); clear ho hb)
        | (go_at_call 90; refine (held_c P a b l (some ⟨bb, boff, none⟩) cap _ HBD.out.at hn hP8 hab).mono ?_; rintro e w5 ⟨rfl, hb⟩; have HK5 := Lib.hid (HKK.out.kept hb); have HB5 := Lib.hid (HBD.out.within (within_of hb) (.inr (Nat.zero_le _))); have HWE := Lib.hid (below_on HWD.out hb HWD.out.size); have HM := Lib.hid (show cobS (P : Int) l ((a : Int), (b : Int)) P < 256 from Nat.lt_of_lt_of_le (cobS_lt _ _ _ P) (show 2 ^ P ≤ 2 ^ 8 from Nat.pow_le_pow_right (by decide) hP8)); clear hb))
    go_wp2_with fail
    go_ret
    have ho := HO6.out
    rw [cobS_list] at ho ⊢
    rw [HR.out]
    exact ⟨A6, c6, rfl, ho.widen HS6.out (Nat.le_refl _) (Nat.le_refl _), HWF.out⟩
end Go.Proofs.Ytdnmmjaelgjkaaa
/- The law FnExactComponentOfBar returns true at every input. No condition. -/
namespace Go.Proofs.Ytdnmmjaelgjkaaa
open Go.RowKit

set_option maxHeartbeats 2000000 in
set_option maxRecDepth 100000 in
theorem lawComponentOfBar (q : Int) (A : Option Addr) (cap : Nat) (l : List (Int × Int)) (a1 : Int) (w : World) (hl : l.length ≤ maxLen) (hb : BarsAt w w.heap.size A l) (_w1 : (Lit.int .i64 a1).wf = true) :
    Calls Try.prog 7 #[.agg #[.int .i64 q, .slice A l.length cap], .int .i64 a1] w fun e w' => e = .returned (.bool true) ∧ Below w.heap.size w w' := by
  have HB_0 := Lib.hid (bars_in hb)
  clear hb
  by_cases hn : l.length ≤ 1048576
  · have W0 := Lib.hid (Below.refl w.heap.size w)
    have hz : (cobV q a1 l).length ≤ 1048576 := (Nat.le_trans (cobV_len q a1 l) (by omega))
    have hal := new_below w (.cells #[.int .i64 q, .slice A l.length cap] 24)
    have Z1 := Lib.hid (within_of hal).size
    have W1 := Lib.hid (within_on W0.out (within_of hal) W0.out.size (.inr (Nat.le_refl _)))
    have HB_1 := Lib.hid (HB_0.out.within (within_of hal) (by omega))
    clear hal
    have hsz : (w.alloc (.cells #[.int .i64 q, .slice A l.length cap] 24)).heap.size = w.heap.size + 1 := by simp
    have Y1 := Lib.hid hsz
    clear hsz
    have BX_1 := Lib.hid (box_new w q (.slice A l.length cap) 24)
    go_enter Try.func7, Try.ntmps7
    go_wp2_with fail
    generalize (w.alloc (.cells #[.int .i64 q, .slice A l.length cap] 24)) = w1 at *
    refine (szGraph_c q A l.length cap 1048576 _ (by omega) (by omega)).mono ?_
    rintro e w2 ⟨rfl, hb⟩
    have Z2 := Lib.hid (within_of hb).size
    have W2 := Lib.hid (within_on W1.out (within_of hb) W1.out.size (.inr (Nat.le_refl _)))
    have HB_2 := Lib.hid (HB_1.out.within (within_of hb) (by omega))
    have BX_2 := Lib.hid (BX_1.out.within (within_of hb) (by omega))
    clear hb
    have hnn : ¬ (1048576 : Int) - (l.length : Int) < 0 := by omega
    obtain ⟨g01, g02, g03⟩ := BX_2.out
    go_wp2_with fail
    clear g01 g02 g03
    refine (toGraph_c q l A cap _ HB_2.out.at hn).mono ?_
    rintro e w3 ⟨g0, rfl, ho, hb⟩
    have Z3 := Lib.hid (within_of hb).size
    have W3 := Lib.hid (within_on W2.out (within_of hb) W2.out.size (.inr (Nat.le_refl _)))
    have HB_3 := Lib.hid (HB_2.out.within (within_of hb) (by omega))
    have BX_3 := Lib.hid (BX_2.out.within (within_of hb) (by omega))
    have SG_3 := Lib.hid ((own_in ho).bars)
    clear ho hb
    go_wp2_with fail
    refine (specCob q a1 l (some ⟨g0, 0, none⟩) l.length _ SG_3.out.at hn).mono ?_
    rintro e w4 ⟨AS, cs, rfl, hs, hb⟩
    have Z4 := Lib.hid (within_of hb).size
    have W4 := Lib.hid (within_on W3.out (within_of hb) W3.out.size (.inr (Nat.le_refl _)))
    have HB_4 := Lib.hid (HB_3.out.within (within_of hb) (by omega))
    have BX_4 := Lib.hid (BX_3.out.within (within_of hb) (by omega))
    have SG_4 := Lib.hid (SG_3.out.within (within_of hb) (by omega))
    have SR_4 := Lib.hid (hs.reads)
    clear hs hb
    obtain ⟨g01, g02, g03⟩ := BX_4.out
    go_wp2_with fail
    clear g01 g02 g03
    refine (toGraph_c q l A cap _ HB_4.out.at hn).mono ?_
    rintro e w5 ⟨x0, rfl, ho, hb⟩
    have Z5 := Lib.hid (within_of hb).size
    have W5 := Lib.hid (within_on W4.out (within_of hb) W4.out.size (.inr (Nat.le_refl _)))
    have HB_5 := Lib.hid (HB_4.out.within (within_of hb) (by omega))
    have BX_5 := Lib.hid (BX_4.out.within (within_of hb) (by omega))
    have SG_5 := Lib.hid (SG_4.out.within (within_of hb) (by omega))
    have SR_5 := Lib.hid (SR_4.out.within (within_of hb) (by omega))
    have SX_5 := Lib.hid (own_in ho)
    clear ho hb
    go_wp2_with fail
    have hal := new_below w5 (.cells #[.int .i64 q, .slice (some ⟨x0, 0, none⟩) l.length l.length] 29)
    have Z6 := Lib.hid (within_of hal).size
    have W6 := Lib.hid (within_on W5.out (within_of hal) W5.out.size (.inr (Nat.le_refl _)))
    have HB_6 := Lib.hid (HB_5.out.within (within_of hal) (by omega))
    have BX_6 := Lib.hid (BX_5.out.within (within_of hal) (by omega))
    have SG_6 := Lib.hid (SG_5.out.within (within_of hal) (by omega))
    have SR_6 := Lib.hid (SR_5.out.within (within_of hal) (by omega))
    have SX_6 := Lib.hid (SX_5.out.within (within_of hal) (by omega))
    clear hal
    have hsz : (w5.alloc (.cells #[.int .i64 q, .slice (some ⟨x0, 0, none⟩) l.length l.length] 29)).heap.size = w5.heap.size + 1 := by simp
    have Y6 := Lib.hid hsz
    clear hsz
    have XX_6 := Lib.hid (box_new w5 q (.slice (some ⟨x0, 0, none⟩) l.length l.length) 29)
    generalize (w5.alloc (.cells #[.int .i64 q, .slice (some ⟨x0, 0, none⟩) l.length l.length] 29)) = w6 at *
    refine (implCob q a1 l (some ⟨x0, 0, none⟩) l.length _ SX_6.out.bars.at hn).mono ?_
    rintro e w7 ⟨AG, cg, rfl, ho, hb⟩
    have Z7 := Lib.hid (within_of hb).size
    have W7 := Lib.hid (within_on W6.out (within_of hb) W6.out.size (.inr (Nat.le_refl _)))
    have HB_7 := Lib.hid (HB_6.out.within (within_of hb) (by omega))
    have BX_7 := Lib.hid (BX_6.out.within (within_of hb) (by omega))
    have SG_7 := Lib.hid (SG_6.out.within (within_of hb) (by omega))
    have SR_7 := Lib.hid (SR_6.out.within (within_of hb) (by omega))
    have SX_7 := Lib.hid (SX_6.out.within (within_of hb) (by omega))
    have XX_7 := Lib.hid (XX_6.out.within (within_of hb) (by omega))
    have SO_7 := Lib.hid (ho)
    clear ho hb
    go_wp2_with fail
    refine (eqInts_c (cobV q a1 l) AG AS cg cs _ _ _ _ _ SO_7.out.reads SR_7.out hz).mono ?_
    rintro e w8 ⟨rfl, hb⟩
    have Z8 := Lib.hid (within_of hb).size
    have W8 := Lib.hid (within_on W7.out (within_of hb) W7.out.size (.inr (Nat.le_refl _)))
    have HB_8 := Lib.hid (HB_7.out.within (within_of hb) (by omega))
    have BX_8 := Lib.hid (BX_7.out.within (within_of hb) (by omega))
    have SG_8 := Lib.hid (SG_7.out.within (within_of hb) (by omega))
    have SR_8 := Lib.hid (SR_7.out.within (within_of hb) (by omega))
    have SX_8 := Lib.hid (SX_7.out.within (within_of hb) (by omega))
    have XX_8 := Lib.hid (XX_7.out.within (within_of hb) (by omega))
    have SO_8 := Lib.hid (SO_7.out.within (within_of hb) (by omega))
    clear hb
    have kk0 := box2 BX_8.out XX_8.out
    have kk := box2 BX_8.out XX_8.out
    have hdr : Below w8.heap.size w8 w8.drew := (Below.refl _ _).drew
    have Z9 := Lib.hid (within_of hdr).size
    have W9 := Lib.hid (within_on W8.out (within_of hdr) W8.out.size (.inr (Nat.le_refl _)))
    have HB_9 := Lib.hid (HB_8.out.within (within_of hdr) (by omega))
    have BX_9 := Lib.hid (BX_8.out.within (within_of hdr) (by omega))
    have SG_9 := Lib.hid (SG_8.out.within (within_of hdr) (by omega))
    have SR_9 := Lib.hid (SR_8.out.within (within_of hdr) (by omega))
    have SX_9 := Lib.hid (SX_8.out.within (within_of hdr) (by omega))
    have XX_9 := Lib.hid (XX_8.out.within (within_of hdr) (by omega))
    have SO_9 := Lib.hid (SO_8.out.within (within_of hdr) (by omega))
    clear hdr
    go_wp2_with fail
    go_region_held3 (fun W' => W'.cell? ⟨w.heap.size, 0, none⟩ = some (.int .i64 q) ∧ W'.cell? ⟨w.heap.size, 1, none⟩ = some ((.slice A l.length cap)) ∧ W'.cell? ⟨w5.heap.size, 0, none⟩ = some (.int .i64 q) ∧ W'.cell? ⟨w5.heap.size, 1, none⟩ = some ((.slice (some ⟨x0, 0, none⟩) l.length l.length)))
      (first | exact kk | exact box2 BX_10.out XX_10.out | exact box2 BX_11.out XX_11.out | fail)
      (first
        | (go_at_call 15; refine (toGraph_c q l A cap _ ?_ hn).mono ?_; (exact HB_9.out.at); rintro e w10 ⟨y0, rfl, ho, hb⟩; have Z10 := Lib.hid (within_of hb).size; have W10 := Lib.hid (within_on W9.out (within_of hb) W9.out.size (.inr (Nat.le_refl _))); have HB_10 := Lib.hid (HB_9.out.within (within_of hb) (by omega)); have BX_10 := Lib.hid (BX_9.out.within (within_of hb) (by omega)); have SG_10 := Lib.hid (SG_9.out.within (within_of hb) (by omega)); have SR_10 := Lib.hid (SR_9.out.within (within_of hb) (by omega)); have SX_10 := Lib.hid (SX_9.out.within (within_of hb) (by omega)); have XX_10 := Lib.hid (XX_9.out.within (within_of hb) (by omega)); have SO_10 := Lib.hid (SO_9.out.within (within_of hb) (by omega)); have YY := Lib.hid (own_bars ho); clear ho hb)
        | (go_at_call 17; refine (eqGraph_c q l _ _ l.length l.length _ ?_ ?_ hn).mono ?_; (exact SX_10.out.bars.at); (exact YY.out); rintro e w11 ⟨rfl, hb⟩; have Z11 := Lib.hid (within_of hb).size; have W11 := Lib.hid (within_on W10.out (within_of hb) W10.out.size (.inr (Nat.le_refl _))); have HB_11 := Lib.hid (HB_10.out.within (within_of hb) (by omega)); have BX_11 := Lib.hid (BX_10.out.within (within_of hb) (by omega)); have SG_11 := Lib.hid (SG_10.out.within (within_of hb) (by omega)); have SR_11 := Lib.hid (SR_10.out.within (within_of hb) (by omega)); have SX_11 := Lib.hid (SX_10.out.within (within_of hb) (by omega)); have XX_11 := Lib.hid (XX_10.out.within (within_of hb) (by omega)); have SO_11 := Lib.hid (SO_10.out.within (within_of hb) (by omega)); clear hb))
    obtain ⟨g01, g02, g03⟩ := XX_11.out
    go_wp2_with fail
    clear g01 g02 g03
    refine (markGraph_o q (some ⟨x0, 0, none⟩) l.length l 1 w4.heap.size w5.heap.size _ SX_11.out hn (by omega) (by omega)).mono ?_
    rintro e w12 ⟨rfl, hin, hox⟩
    have Z12 := Lib.hid (hin).size
    have W12 := Lib.hid (within_on W11.out (hin) W11.out.size (by have := W11.out.size; have := Z1.out; have := Z2.out; have := Z3.out; have := Z4.out; have := Z5.out; have := Z6.out; have := Z7.out; have := Z8.out; have := Z9.out; have := Z10.out; have := Z11.out; have := Z12.out; have := Y1.out; have := Y6.out; omega))
    have HB_12 := Lib.hid (HB_11.out.within (hin) (by have := Z1.out; have := Z2.out; have := Z3.out; have := Z4.out; have := Z5.out; have := Z6.out; have := Z7.out; have := Z8.out; have := Z9.out; have := Z10.out; have := Z11.out; have := Z12.out; have := Y1.out; have := Y6.out; omega))
    have BX_12 := Lib.hid (BX_11.out.within (hin) (by have := Z1.out; have := Z2.out; have := Z3.out; have := Z4.out; have := Z5.out; have := Z6.out; have := Z7.out; have := Z8.out; have := Z9.out; have := Z10.out; have := Z11.out; have := Z12.out; have := Y1.out; have := Y6.out; omega))
    have SG_12 := Lib.hid (SG_11.out.within (hin) (by have := Z1.out; have := Z2.out; have := Z3.out; have := Z4.out; have := Z5.out; have := Z6.out; have := Z7.out; have := Z8.out; have := Z9.out; have := Z10.out; have := Z11.out; have := Z12.out; have := Y1.out; have := Y6.out; omega))
    have SR_12 := Lib.hid (SR_11.out.within (hin) (by have := Z1.out; have := Z2.out; have := Z3.out; have := Z4.out; have := Z5.out; have := Z6.out; have := Z7.out; have := Z8.out; have := Z9.out; have := Z10.out; have := Z11.out; have := Z12.out; have := Y1.out; have := Y6.out; omega))
    have XX_12 := Lib.hid (XX_11.out.within (hin) (by have := Z1.out; have := Z2.out; have := Z3.out; have := Z4.out; have := Z5.out; have := Z6.out; have := Z7.out; have := Z8.out; have := Z9.out; have := Z10.out; have := Z11.out; have := Z12.out; have := Y1.out; have := Y6.out; omega))
    have SO_12 := Lib.hid (SO_11.out.within (hin) (by have := Z1.out; have := Z2.out; have := Z3.out; have := Z4.out; have := Z5.out; have := Z6.out; have := Z7.out; have := Z8.out; have := Z9.out; have := Z10.out; have := Z11.out; have := Z12.out; have := Y1.out; have := Y6.out; omega))
    clear hox hin
    have hk1 : ¬ (1 : Int) + 2 * (l.length : Int) < 0 := by omega
    go_wp2_with fail
    refine (eqInts_c (cobV q a1 l) AG AS cg cs _ _ _ _ _ SO_12.out.reads SR_12.out hz).mono ?_
    rintro e w13 ⟨rfl, hb⟩
    have Z13 := Lib.hid (within_of hb).size
    have W13 := Lib.hid (within_on W12.out (within_of hb) W12.out.size (.inr (Nat.le_refl _)))
    have HB_13 := Lib.hid (HB_12.out.within (within_of hb) (by omega))
    have BX_13 := Lib.hid (BX_12.out.within (within_of hb) (by omega))
    have SG_13 := Lib.hid (SG_12.out.within (within_of hb) (by omega))
    have SR_13 := Lib.hid (SR_12.out.within (within_of hb) (by omega))
    have XX_13 := Lib.hid (XX_12.out.within (within_of hb) (by omega))
    have SO_13 := Lib.hid (SO_12.out.within (within_of hb) (by omega))
    clear hb
    go_wp2_with fail
    refine (markInts_o AG cg (cobV q a1 l) 1 w6.heap.size w7.heap.size _ SO_13.out hz (by omega) (by omega)).mono ?_
    rintro e w14 ⟨rfl, hin, hog⟩
    have Z14 := Lib.hid (hin).size
    have W14 := Lib.hid (within_on W13.out (hin) W13.out.size (by have := W13.out.size; have := Z1.out; have := Z2.out; have := Z3.out; have := Z4.out; have := Z5.out; have := Z6.out; have := Z7.out; have := Z8.out; have := Z9.out; have := Z10.out; have := Z11.out; have := Z12.out; have := Z13.out; have := Z14.out; have := Y1.out; have := Y6.out; omega))
    have HB_14 := Lib.hid (HB_13.out.within (hin) (by have := Z1.out; have := Z2.out; have := Z3.out; have := Z4.out; have := Z5.out; have := Z6.out; have := Z7.out; have := Z8.out; have := Z9.out; have := Z10.out; have := Z11.out; have := Z12.out; have := Z13.out; have := Z14.out; have := Y1.out; have := Y6.out; omega))
    have BX_14 := Lib.hid (BX_13.out.within (hin) (by have := Z1.out; have := Z2.out; have := Z3.out; have := Z4.out; have := Z5.out; have := Z6.out; have := Z7.out; have := Z8.out; have := Z9.out; have := Z10.out; have := Z11.out; have := Z12.out; have := Z13.out; have := Z14.out; have := Y1.out; have := Y6.out; omega))
    have SG_14 := Lib.hid (SG_13.out.within (hin) (by have := Z1.out; have := Z2.out; have := Z3.out; have := Z4.out; have := Z5.out; have := Z6.out; have := Z7.out; have := Z8.out; have := Z9.out; have := Z10.out; have := Z11.out; have := Z12.out; have := Z13.out; have := Z14.out; have := Y1.out; have := Y6.out; omega))
    have SR_14 := Lib.hid (SR_13.out.within (hin) (by have := Z1.out; have := Z2.out; have := Z3.out; have := Z4.out; have := Z5.out; have := Z6.out; have := Z7.out; have := Z8.out; have := Z9.out; have := Z10.out; have := Z11.out; have := Z12.out; have := Z13.out; have := Z14.out; have := Y1.out; have := Y6.out; omega))
    have XX_14 := Lib.hid (XX_13.out.within (hin) (by have := Z1.out; have := Z2.out; have := Z3.out; have := Z4.out; have := Z5.out; have := Z6.out; have := Z7.out; have := Z8.out; have := Z9.out; have := Z10.out; have := Z11.out; have := Z12.out; have := Z13.out; have := Z14.out; have := Y1.out; have := Y6.out; omega))
    have SM_14 := Lib.hid (hog)
    clear hog hin
    have hk2 : ¬ (1 : Int) + ((cobV q a1 l).length : Int) < 0 := by omega
    go_wp2_with fail
    refine (heldInts_c (cobV q a1 l).length AG cg 1 _ _ _ SM_14.out.reads hz (by omega) (by omega)).mono ?_
    rintro e w15 ⟨rfl, hb⟩
    have Z15 := Lib.hid (within_of hb).size
    have W15 := Lib.hid (within_on W14.out (within_of hb) W14.out.size (.inr (Nat.le_refl _)))
    have HB_15 := Lib.hid (HB_14.out.within (within_of hb) (by omega))
    have BX_15 := Lib.hid (BX_14.out.within (within_of hb) (by omega))
    have SG_15 := Lib.hid (SG_14.out.within (within_of hb) (by omega))
    have SR_15 := Lib.hid (SR_14.out.within (within_of hb) (by omega))
    have XX_15 := Lib.hid (XX_14.out.within (within_of hb) (by omega))
    have SM_15 := Lib.hid (SM_14.out.within (within_of hb) (by omega))
    clear hb
    obtain ⟨g01, g02, g03⟩ := BX_15.out
    go_wp2_with fail
    clear g01 g02 g03
    refine (toGraph_c q l A cap _ HB_15.out.at hn).mono ?_
    rintro e w16 ⟨z0, rfl, ho, hb⟩
    have Z16 := Lib.hid (within_of hb).size
    have W16 := Lib.hid (within_on W15.out (within_of hb) W15.out.size (.inr (Nat.le_refl _)))
    have HB_16 := Lib.hid (HB_15.out.within (within_of hb) (by omega))
    have BX_16 := Lib.hid (BX_15.out.within (within_of hb) (by omega))
    have SG_16 := Lib.hid (SG_15.out.within (within_of hb) (by omega))
    have SR_16 := Lib.hid (SR_15.out.within (within_of hb) (by omega))
    have XX_16 := Lib.hid (XX_15.out.within (within_of hb) (by omega))
    have SM_16 := Lib.hid (SM_15.out.within (within_of hb) (by omega))
    have ST_16 := Lib.hid ((own_in ho).bars)
    clear ho hb
    go_wp2_with fail
    refine (implCob q a1 l (some ⟨z0, 0, none⟩) l.length _ ST_16.out.at hn).mono ?_
    rintro e w17 ⟨AH, ch, rfl, ho, hb⟩
    have Z17 := Lib.hid (within_of hb).size
    have W17 := Lib.hid (within_on W16.out (within_of hb) W16.out.size (.inr (Nat.le_refl _)))
    have HB_17 := Lib.hid (HB_16.out.within (within_of hb) (by omega))
    have BX_17 := Lib.hid (BX_16.out.within (within_of hb) (by omega))
    have SG_17 := Lib.hid (SG_16.out.within (within_of hb) (by omega))
    have SR_17 := Lib.hid (SR_16.out.within (within_of hb) (by omega))
    have XX_17 := Lib.hid (XX_16.out.within (within_of hb) (by omega))
    have SM_17 := Lib.hid (SM_16.out.within (within_of hb) (by omega))
    have ST_17 := Lib.hid (ST_16.out.within (within_of hb) (by omega))
    have SH_17 := Lib.hid (ho.reads)
    clear ho hb
    go_wp2_with fail
    refine (eqInts_c (cobV q a1 l) AH AS ch cs _ _ _ _ _ SH_17.out SR_17.out hz).mono ?_
    rintro e w18 ⟨rfl, hb⟩
    have Z18 := Lib.hid (within_of hb).size
    have W18 := Lib.hid (within_on W17.out (within_of hb) W17.out.size (.inr (Nat.le_refl _)))
    have HB_18 := Lib.hid (HB_17.out.within (within_of hb) (by omega))
    have BX_18 := Lib.hid (BX_17.out.within (within_of hb) (by omega))
    have SG_18 := Lib.hid (SG_17.out.within (within_of hb) (by omega))
    have SR_18 := Lib.hid (SR_17.out.within (within_of hb) (by omega))
    have XX_18 := Lib.hid (XX_17.out.within (within_of hb) (by omega))
    have SM_18 := Lib.hid (SM_17.out.within (within_of hb) (by omega))
    have ST_18 := Lib.hid (ST_17.out.within (within_of hb) (by omega))
    have SH_18 := Lib.hid (SH_17.out.within (within_of hb) (by omega))
    clear hb
    go_wp2_with fail
    refine (heldInts_c (cobV q a1 l).length AG cg 1 _ _ _ SM_18.out.reads hz (by omega) (by omega)).mono ?_
    rintro e w19 ⟨rfl, hb⟩
    have Z19 := Lib.hid (within_of hb).size
    have W19 := Lib.hid (within_on W18.out (within_of hb) W18.out.size (.inr (Nat.le_refl _)))
    have HB_19 := Lib.hid (HB_18.out.within (within_of hb) (by omega))
    have BX_19 := Lib.hid (BX_18.out.within (within_of hb) (by omega))
    have SG_19 := Lib.hid (SG_18.out.within (within_of hb) (by omega))
    have SR_19 := Lib.hid (SR_18.out.within (within_of hb) (by omega))
    have XX_19 := Lib.hid (XX_18.out.within (within_of hb) (by omega))
    have SM_19 := Lib.hid (SM_18.out.within (within_of hb) (by omega))
    have ST_19 := Lib.hid (ST_18.out.within (within_of hb) (by omega))
    have SH_19 := Lib.hid (SH_18.out.within (within_of hb) (by omega))
    clear hb
    go_wp2_with fail
    go_ret
    exact ⟨rfl, W19.out⟩
  · have hx : (1048576 : Int) < (l.length : Int) := by omega
    have h63 : l.length ≤ 9223372036854775807 := by unfold maxLen at hl; omega
    have HA := Lib.hid (new_below w (.cells #[.int .i64 q, .slice A l.length cap] 24))
    go_enter Try.func7, Try.ntmps7
    go_wp2_with fail
    refine (szGraph_no q A l.length cap 1048576 _ h63 hx (by omega)).mono ?_
    rintro e w1 ⟨rfl, hb1⟩
    have W1 := Lib.hid (below_on HA.out hb1 HA.out.size)
    clear hb1
    go_wp2_with fail
    go_ret
    exact ⟨rfl, W1.out⟩
end Go.Proofs.Ytdnmmjaelgjkaaa
