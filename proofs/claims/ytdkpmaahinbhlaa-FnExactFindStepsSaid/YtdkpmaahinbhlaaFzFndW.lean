/- What FindSteps answers, and what its walks carry: a graph in a box that is replaced, a row of steps in a block of its own. No condition. -/
import Derived.Test.YtdkpmaahinbhlaaFzFndO
import Derived.Test.YtdkpmaahinbhlaaFzCel5
import Derived.Test.YtdkpmaahinbhlaaFzB1
import Derived.Deep.RegionHeld3
namespace Go.Proofs.Ytdkpmaahinbhlaa
open Go.RowKit

/-- The steps that build the graph; none where there are none. -/
noncomputable def findV (p : Int) (l : List (Int × Int)) : List Stp := if minB p l = true ∧ 0 < l.length then findN p (p.toNat - 1) l [] else []
noncomputable def findB (p : Int) (l : List (Int × Int)) : Bool := decide (minB p l = true ∧ 0 < l.length)
theorem findV_no {p : Int} {l : List (Int × Int)} (h : ¬ (minB p l = true ∧ 0 < l.length)) : findV p l = [] ∧ findB p l = false := by
  unfold findV findB
  rw [if_neg h]
  exact ⟨rfl, decide_eq_false h⟩
theorem findV_yes {p : Int} {l : List (Int × Int)} (h : minB p l = true) (h0 : 0 < l.length) : findV p l = findN p (p.toNat - 1) l [] ∧ findB p l = true := by
  unfold findV findB
  rw [if_pos ⟨h, h0⟩]
  exact ⟨rfl, decide_eq_true ⟨h, h0⟩⟩
/-- What FindSteps returns: steps that are read. -/
def FindR (w : World) (V : List Stp) (r : Bool) (e : Ending) (w' : World) : Prop :=
  ∃ S c, e = .returned (.tuple #[.slice S V.length c, .bool r]) ∧ StepsAt w' w'.heap.size S V ∧ Below w.heap.size w w'
theorem min_pos {p : Int} {l : List (Int × Int)} (h : minB p l = true) (h0 : 0 < l.length) : ∃ P : Nat, p = (P : Int) ∧ HenS P P l ∧ IsG (P : Int) l ∧ 2 ≤ P ∧ P ≤ 8 := by
  have hp : 0 ≤ p := by
    unfold minB rigB at h
    rw [Bool.and_eq_true, decide_eq_true_eq, decide_eq_true_eq] at h
    have h1 := h.1
    unfold frdV at h1
    split at h1
    · rename_i hg
      have := (isG_yes hg).1
      omega
    · simp at h1
  obtain ⟨P, rfl⟩ : ∃ P : Nat, p = (P : Int) := ⟨p.toNat, by omega⟩
  obtain ⟨h1, h2, h3⟩ := min_hen h h0
  have := h2.1
  exact ⟨P, rfl, h1, h2, h3, by omega⟩
theorem stepCells_one (l : List Stp) : ∀ u ∈ stepCells l, u.oneCell' = true := by
  intro u hu
  unfold stepCells at hu
  obtain ⟨x, _, hx⟩ := List.mem_flatMap.1 hu
  simp only [stpVals, List.mem_cons, List.mem_nil_iff, or_false] at hx
  rcases hx with rfl | rfl | rfl | rfl | rfl <;> rfl
section
variable {W W' : World} {b : Nat} {T : TypeId} {p : Int} {v u0 u1 : Value} {D A : Option Addr} {n c : Nat} {m : List (Int × Int)}
/-- A row of bars doesn't lie in a box that holds a graph. -/
theorem bars_off (hc : Cel2 W b T (.int .i64 p) (.slice A n c)) (hb : BarsAt W W.heap.size D m) (hm : 0 < m.length) : ∃ B off, D = some ⟨B, off, none⟩ ∧ B < W.heap.size ∧ B ≠ b ∧ ∀ k, k < m.length → W.cell? ⟨B, off + k * 2, none⟩ = some (.int .i64 (m.getD k (0, 0)).1) ∧ W.cell? ⟨B, off + k * 2 + 1, none⟩ = some (.int .i64 (m.getD k (0, 0)).2) := by
  obtain ⟨B, off, e, h1, h2⟩ := hb hm
  refine ⟨B, off, e, h1, fun e2 => ?_, h2⟩
  subst e2
  have h3 := (h2 0 hm).2
  rw [cell_of_row W B _ _ T (0, 0) hc] at h3
  match off, h3 with
  | 0, h3 => simp at h3
  | off + 1, h3 => simp at h3
theorem bars_kept (hc : Cel2 W b T (.int .i64 p) (.slice A n c)) (hb : BarsAt W W.heap.size D m) (hm : 0 < m.length) (hw : Within b (b + 1) W W') : BarsAt W' W'.heap.size D m := fun _ => by
  obtain ⟨B, off, e, h1, h2, h3⟩ := bars_off hc hb hm
  have hk := hw.block B h1 (by omega)
  exact ⟨B, off, e, Nat.lt_of_lt_of_le h1 hw.size, fun k hk' => ⟨(World.cell?_of_block (a := ⟨B, off + k * 2, none⟩) hk).trans (h3 k hk').1, (World.cell?_of_block (a := ⟨B, off + k * 2 + 1, none⟩) hk).trans (h3 k hk').2⟩⟩
end
/-- A row of steps of the call's own, that isn't the block b. -/
def SRow (w : World) (W : World) (b : Nat) (g k : Nat) (l : List Stp) : Prop := g ≠ b ∧ g < W.heap.size ∧ W.ownsRow w.heap.size 155 5 (.slice (some ⟨g, 0, none⟩) l.length k) l.length (stepCells l)
theorem SRow.below {w W W' : World} {b g k : Nat} {l : List Stp} (h : SRow w W b g k l) (hb : Below W.heap.size W W') : SRow w W' b g k l := ⟨h.1, Nat.lt_of_lt_of_le h.2.1 hb.size, own_below h.2.2 hb⟩
theorem SRow.set {w W W' : World} {b g k : Nat} {l : List Stp} (h : SRow w W b g k l) (hw : Within b (b + 1) W W') : SRow w W' b g k l := ⟨h.1, Nat.lt_of_lt_of_le h.2.1 hw.size, own_block h.2.2 (hw.block g h.2.1 (by have := h.1; omega))⟩
/-- The state while steps are taken back. -/
structure FndI (w W : World) (b : Nat) (p : Int) (A : Option Addr) (c : Nat) (m : List (Int × Int)) (g k : Nat) (acc : List Stp) : Prop where
  x : Cel2 W b 26 (.int .i64 p) (.slice A m.length c)
  bars : BarsAt W W.heap.size A m
  row : SRow w W b g k acc
  bel : Below w.heap.size w W
  le : w.heap.size ≤ b
section
variable {w W W' : World} {b : Nat} {p : Int} {A : Option Addr} {c : Nat} {m : List (Int × Int)} {g k : Nat} {acc : List Stp}
theorem FndI.below (h : FndI w W b p A c m g k acc) (hb : Below W.heap.size W W') : FndI w W' b p A c m g k acc := ⟨h.x.kept hb, h.bars.on hb, h.row.below hb, below_on h.bel hb h.bel.size, h.le⟩
/-- The graph in the box is another one. -/
theorem FndI.put {A2 : Option Addr} {c2 g2 k2 : Nat} {m2 : List (Int × Int)} {acc2 : List Stp} (h : FndI w W b p A c m g k acc) (hb : BarsAt W W.heap.size A2 m2) (hm : 0 < m2.length) (hr : SRow w W b g2 k2 acc2) : FndI w ((W.setCell ⟨b, 0, none⟩ (.int .i64 p)).setCell ⟨b, 1, none⟩ (.slice A2 m2.length c2)) b p A2 c2 m2 g2 k2 acc2 := by
  obtain ⟨h1, h2⟩ := ret2 h.x (.int .i64 p) (.slice A2 m2.length c2)
  exact ⟨h1, bars_kept h.x hb hm h2, hr.set h2, within_on h.bel h2 h.bel.size (.inl h.le), h.le⟩
/-- An append onto a row of the call's own, as one step of a region that draws its order: where the row lies then. -/
theorem step_own2 {P : Program} {w : World} {ops : Array Oper} {o : Oper} {a : Act} {K : Act → World → Prop} {Q : Exit → Act → World → Prop} {E : Prop} (hgd : o.guard = none) (s x : Operand) (t : TypeId)
    (ho : o.op = .call { callee := .builtin .append, args := #[s, x], argTypes := #[t, t] })
    (base : Nat) (e : TypeId) (i : TypeInfo) (z : Value) (size bytes : Nat) (ht : P.underlying t = some (.slice e)) (hi : P.info? e = some i) (hz : i.zero = some z)
    (hsize : i.size = size) (hby : i.bytes = bytes) (hzs : z.cells.size = size) (hsz : 0 < size)
    (v : Value) (n : Nat) (xs : List Value) (hs : a.eval s = v) (hown : w.ownsRow base e size v n xs)
    (ad : Addr) (m c : Nat) (news : List Value) (hx : a.eval x = .slice (some ad) m c) (hl : news.length = m * size) (hnews : ∀ j u, news[j]? = some u → w.cell? (ad.add j) = some u) (h1 : ∀ u ∈ news, u.oneCell' = true)
    (h63 : n + m ≤ maxLen) (hbytes : (n + m) * bytes ≤ 140737488355328) (hbase : base ≤ w.heap.size)
    (h : ∀ v' w', w'.ownsRow base e size v' (n + m) (xs ++ news) → w.grownBy w' v.ownBlock → (v'.ownBlock = v.ownBlock ∨ v'.ownBlock = some w.heap.size) → K (a.put o.dst v') w') :
    if Region.wanted o (yielded ops a.tmps) = true then Oper.wp P o a w K Q else E := by
  have hw : Region.wanted o (yielded ops a.tmps) = true := by simp [Region.wanted, hgd]
  rw [if_pos hw]
  obtain ⟨v', w', hrun, hown', hg, _, hat⟩ := run_append_own_at (P := P) w base t o.type e i z size bytes ht hi hz hsize hby hzs hsz v n xs hown ad m c news hl hnews h1 h63 hbytes hbase
  unfold Oper.wp execOp
  simp only [ho, resolve, invoke, builtin, Sem.run_bind, Sem.run_pure, Result.andThen_ok, List.map_toArray, List.map_cons, List.map_nil, hs, hx, hrun]
  exact h v' w' hown' hg hat

/-- How many a row has. -/
def slN : Value → Nat | .slice _ n _ => n | _ => 0
/-- A step in front of the row. -/
theorem row_cons {w9 w' : World} {x : Stp} {v' : Value} (_h : SRow w W b g k acc) (hlt : b < w9.heap.size)
    (ho : w'.ownsRow w.heap.size 155 5 v' (1 + acc.length) (stpVals x ++ stepCells acc)) (hat : v'.ownBlock = some (w9.heap.size) ∨ v'.ownBlock = some (w9.heap.size + 1)) : ∃ g2 k2, v' = .slice (some ⟨g2, 0, none⟩) (acc.length + 1) k2 ∧ SRow w w' b g2 k2 (x :: acc) := by
  rw [Nat.add_comm 1] at ho
  have ho2 : w'.ownsRow w.heap.size 155 5 v' (x :: acc).length (stepCells (x :: acc)) := ho
  rcases ho.2 with ⟨_, h0⟩ | ⟨g2, k2, cur, rfl, _⟩
  · omega
  · refine ⟨g2, k2, rfl, ?_, (ho.lt g2 rfl).2, ho2⟩
    have hg : g2 = w9.heap.size ∨ g2 = w9.heap.size + 1 := by simpa [Value.ownBlock] using hat
    omega
theorem row_one (V : World) (x : Stp) (base : Nat) (hb : base ≤ V.heap.size) : (V.alloc (.cells #[.int .i64 x.1, .int .i64 x.2.1, .int .i64 x.2.2.1, .int .i64 x.2.2.2.1, .int .i64 x.2.2.2.2] 155)).ownsRow base 155 5 (.slice (some ⟨V.heap.size, 0, none⟩) 1 1) 1 (stpVals x) :=
  ⟨rfl, .inr ⟨V.heap.size, 1, _, rfl, hb, heap_alloc_new V _, Nat.le_refl _, by decide, rfl, rfl⟩⟩
end
/-- A row of steps of the call's own, or none. -/
def OwnSt (W : World) (lo hi : Nat) (S : Option Addr) (c : Nat) (V : List Stp) : Prop := hi ≤ W.heap.size ∧ (V = [] ∨ ∃ g, S = some ⟨g, 0, none⟩ ∧ lo ≤ g ∧ g < hi ∧ W.ownsRow lo 155 5 (.slice S V.length c) V.length (stepCells V))
theorem own_snil (W : World) (lo : Nat) : OwnSt W lo W.heap.size none 0 [] := ⟨Nat.le_refl _, .inl rfl⟩
/-- What FindSteps returns: steps of the call's own. -/
def FindO (w : World) (V : List Stp) (r : Bool) (e : Ending) (w' : World) : Prop :=
  ∃ S c, e = .returned (.tuple #[.slice S V.length c, .bool r]) ∧ OwnSt w' w.heap.size w'.heap.size S c V ∧ Below w.heap.size w w'
end Go.Proofs.Ytdkpmaahinbhlaa
