/- What stands in memory while spec.l9Reduced runs: the rows, their row, and the columns. No program's walk. No condition. -/
import Derived.Test.YtcfgljfpkhefmaaNullM
import Derived.Test.YtcfgljfpkhefmaaRowsG
import Derived.Test.YtcfgljfpkhefmaaCpR
namespace Go.Proofs.Ytcfgljfpkhefmaa
open Go.RowKit

structure RedW (W : World) (B gh cap m n : Nat) (S : Nat → Option Addr × Nat) (P : Nat → List Int) (Ac : Option Addr) (cc clo chi : Nat) (cs : List Int) : Prop where
  own : W.ownsRow B 28 1 (.slice (some ⟨gh, 0, none⟩) m cap) m ((List.range m).map fun i => .slice (S i).1 n (S i).2)
  row : ∀ i, i < m → (P i).length = n ∧ ∃ r : Nat × Nat, IntsIn W r.1 r.2 (S i).1 (P i) ∧ B ≤ r.1 ∧ (gh < r.1 ∨ r.2 ≤ gh) ∧ (r.2 ≤ clo ∨ chi ≤ r.1)
  col : OwnR W clo chi Ac cc cs
  sep : gh < clo ∨ chi ≤ gh
  bnd : B ≤ clo ∧ clo ≤ W.heap.size
theorem RedW.lt {W : World} {B gh cap m n : Nat} {S : Nat → Option Addr × Nat} {P : Nat → List Int} {Ac : Option Addr} {cc clo chi : Nat} {cs : List Int} (h : RedW W B gh cap m n S P Ac cc clo chi cs) : B ≤ gh ∧ gh < W.heap.size := World.ownsRow.lt h.own gh rfl
theorem RedW.head {W : World} {B gh cap m n : Nat} {S : Nat → Option Addr × Nat} {P : Nat → List Int} {Ac : Option Addr} {cc clo chi : Nat} {cs : List Int} (h : RedW W B gh cap m n S P Ac cc clo chi cs) {i : Nat} (hi : i < m) : W.cell? ⟨gh, i, none⟩ = some (.slice (S i).1 n (S i).2) := by
  have := World.ownsRow.cellAt h.own i (by omega)
  rw [List.getElem?_map, List.getElem?_range hi] at this
  exact this
theorem RedW.num {W : World} {B gh cap m n : Nat} {S : Nat → Option Addr × Nat} {P : Nat → List Int} {Ac : Option Addr} {cc clo chi : Nat} {cs : List Int} (h : RedW W B gh cap m n S P Ac cc clo chi cs) {i j : Nat} (hi : i < m) (hj : j < n) :
    ∃ bi oi, (S i).1 = some ⟨bi, oi, none⟩ ∧ W.cell? ⟨bi, oi + j, none⟩ = some (.int .i64 ((P i).getD j 0)) := by
  obtain ⟨hl, r, hI, _⟩ := h.row i hi
  obtain ⟨bi, oi, e, _, _, hc⟩ := hI.2 (by omega)
  exact ⟨bi, oi, e, hc j (by omega)⟩
theorem own_blk {W W' : World} {B gh cap m : Nat} {t : TypeId} {xs : List Value} (h : W.ownsRow B t 1 (.slice (some ⟨gh, 0, none⟩) m cap) m xs) (e : W'.heap[gh]? = W.heap[gh]?) : W'.ownsRow B t 1 (.slice (some ⟨gh, 0, none⟩) m cap) m xs := by
  obtain ⟨l1, l2⟩ := h
  refine ⟨l1, ?_⟩
  rcases l2 with l2 | ⟨g2, c2, cur, e1, e2, e3, e4⟩
  · cases l2.1
  · cases e1
    exact .inr ⟨gh, cap, cur, rfl, e2, e.trans e3, e4⟩
theorem RedW.below {W W' : World} {B gh cap m n : Nat} {S : Nat → Option Addr × Nat} {P : Nat → List Int} {Ac : Option Addr} {cc clo chi : Nat} {cs : List Int} (h : RedW W B gh cap m n S P Ac cc clo chi cs) (hb : Below W.heap.size W W') : RedW W' B gh cap m n S P Ac cc clo chi cs := by
  have hl := h.lt
  refine ⟨own_blk h.own (hb.block gh hl.2), fun i hi => ?_, h.col.within (within_of hb) (.inr (Nat.zero_le _)), h.sep, h.bnd.1, Nat.le_trans h.bnd.2 hb.size⟩
  obtain ⟨h1, r, h2, h3⟩ := h.row i hi
  exact ⟨h1, r, h2.within (within_of hb) (.inr (Nat.zero_le _)), h3⟩
def updA {α : Type} (f : Nat → α) (i : Nat) (x : α) : Nat → α := fun j => if j = i then x else f j
/-- Another row put in its place. -/
theorem RedW.put {W : World} {B gh cap m n : Nat} {S : Nat → Option Addr × Nat} {P : Nat → List Int} {Ac : Option Addr} {cc clo chi : Nat} {cs : List Int} (h : RedW W B gh cap m n S P Ac cc clo chi cs) {i : Nat} (_hi : i < m) {A' : Option Addr} {c' : Nat} {Z : List Int}
    (hZ : Z.length = n) (hr : ∃ r : Nat × Nat, IntsIn W r.1 r.2 A' Z ∧ B ≤ r.1 ∧ (gh < r.1 ∨ r.2 ≤ gh) ∧ (r.2 ≤ clo ∨ chi ≤ r.1)) :
    RedW (W.setCell ⟨gh, i, none⟩ (.slice A' n c')) B gh cap m n (updA S i (A', c')) (updA P i Z) Ac cc clo chi cs ∧ Within gh (gh + 1) W (W.setCell ⟨gh, i, none⟩ (.slice A' n c')) := by
  have hst := World.ownsRow.stored h.own i (.slice A' n c')
  have hw : Within gh (gh + 1) W (W.setCell ⟨gh, i, none⟩ (.slice A' n c')) := ⟨hst.2.os, hst.2.tape, hst.2.output, hst.2.size, fun k hk hd => hst.2.block k hk (by simp; omega)⟩
  refine ⟨⟨?_, fun k hk => ?_, ?_, h.sep, h.bnd.1, Nat.le_trans h.bnd.2 hw.size⟩, hw⟩
  · have e : ((List.range m).map fun i => Value.slice (S i).1 n (S i).2).set i (.slice A' n c') = (List.range m).map fun k => Value.slice (updA S i (A', c') k).1 n (updA S i (A', c') k).2 := by
      apply List.ext_getElem (by simp)
      intro k h1 h2
      have r1 : ((List.range m).map fun k => Value.slice (updA S i (A', c') k).1 n (updA S i (A', c') k).2)[k]'h2 = Value.slice (updA S i (A', c') k).1 n (updA S i (A', c') k).2 := by
        rw [List.getElem_map, List.getElem_range]
      rw [r1, List.getElem_set]
      by_cases e : i = k
      · subst e; rw [if_pos rfl, updA, if_pos rfl]
      · rw [if_neg e, updA, if_neg (fun h => e h.symm), List.getElem_map, List.getElem_range]
    rw [← e]; exact hst.1
  · obtain ⟨h1, r, h2, h3, h4, h5⟩ := h.row k hk
    unfold updA
    by_cases e : k = i
    · rw [if_pos e, if_pos e]
      obtain ⟨q, q1, q2, q3, q4⟩ := hr
      exact ⟨hZ, q, q1.within hw (by omega), q2, q3, q4⟩
    · rw [if_neg e, if_neg e]
      exact ⟨h1, r, h2.within hw (by omega), h3, h4, h5⟩
  · have := h.sep
    exact h.col.within hw (by omega)
/-- A column more. -/
theorem RedW.push {W W' : World} {B gh cap m n : Nat} {S : Nat → Option Addr × Nat} {P : Nat → List Int} {Ac A' : Option Addr} {cc c' clo chi lo' hi' : Nat} {cs : List Int} {y : Int} (h : RedW W B gh cap m n S P Ac cc clo chi cs)
    (hr : OwnR W' lo' hi' A' c' (cs ++ [y])) (hd : (lo' = clo ∧ hi' = chi) ∨ (W.heap.size ≤ lo' ∧ lo' ≤ W'.heap.size ∧ hi' ≤ W'.heap.size)) (hw : Within clo chi W W') : RedW W' B gh cap m n S P A' c' lo' hi' (cs ++ [y]) := by
  have hl := h.lt
  have hs := h.sep
  have hb := h.bnd
  have hsz := hw.size
  refine ⟨own_blk h.own (hw.block gh hl.2 (by omega)), fun i hi => ?_, hr, by omega, by omega⟩
  obtain ⟨h1, r, h2, h3, h4, h5⟩ := h.row i hi
  have := h2.1
  exact ⟨h1, r, h2.within hw (by omega), h3, h4, by omega⟩
theorem RowsG.red {W : World} {B T lo hi : Nat} {A : Option Addr} {cap : Nat} {rs : List (List Int)} (h : RowsG W B T lo hi A cap rs) {n : Nat} (h0 : 0 < rs.length) (hn : ∀ i, i < rs.length → (rs.getD i []).length = n) :
    ∃ gh S, A = some ⟨gh, 0, none⟩ ∧ ∀ W', Below W.heap.size W W' → ∀ Ac cc clo chi cs, OwnR W' clo chi Ac cc cs → W.heap.size ≤ clo → clo ≤ W'.heap.size → RedW W' B gh cap rs.length n S (fun i => rs.getD i []) Ac cc clo chi cs := by
  obtain ⟨ht, hoB, zs, r, S, h1, h2, h3, h4⟩ := h
  rcases h2.2 with ⟨_, _, e⟩ | ⟨gh, rfl, g1, g2, ho⟩
  · rw [e] at h1; simp at h1; omega
  · refine ⟨gh, S, rfl, fun W' hb Ac cc clo chi cs hc hc1 hc2 => ?_⟩
    have hsz := h2.1
    have e : zs = (List.range rs.length).map fun i => Value.slice (S i).1 n (S i).2 := by
      apply List.ext_getElem (by simp [h1])
      intro k k1 k2
      have hk : k < rs.length := by omega
      have := (h4 k hk).1
      rw [hn k hk, List.getD_eq_getElem?_getD, List.getElem?_eq_getElem k1, Option.getD_some] at this
      rw [this]; simp
    refine ⟨?_, fun i hi => ?_, hc, by omega, by omega⟩
    · rw [← e, ← h1]
      have ho2 : W'.ownsRow lo 28 1 (.slice (some ⟨gh, 0, none⟩) zs.length cap) zs.length zs := own_blk ho (hb.block gh (by omega))
      obtain ⟨l1, l2⟩ := ho2
      refine ⟨l1, ?_⟩
      rcases l2 with l2 | ⟨g3, c3, cur, e1, e2, e3⟩
      · exact .inl l2
      · cases e1
        exact .inr ⟨gh, cap, cur, rfl, by omega, e3⟩
    · obtain ⟨q1, q2, q3, q4, q5⟩ := h4 i hi
      unfold Dis at q5
      dsimp only at q5
      exact ⟨hn i hi, r i, (q2.reads.within (within_of hb) (.inr (Nat.zero_le _))), q3, by omega, by omega⟩
theorem RedW.congr {W : World} {B gh cap m n : Nat} {S : Nat → Option Addr × Nat} {P P' : Nat → List Int} {Ac : Option Addr} {cc clo chi : Nat} {cs : List Int} (h : RedW W B gh cap m n S P Ac cc clo chi cs) (e : ∀ i, i < m → P i = P' i) : RedW W B gh cap m n S P' Ac cc clo chi cs :=
  ⟨h.own, fun i hi => by rw [← e i hi]; exact h.row i hi, h.col, h.sep, h.bnd⟩
end Go.Proofs.Ytcfgljfpkhefmaa
