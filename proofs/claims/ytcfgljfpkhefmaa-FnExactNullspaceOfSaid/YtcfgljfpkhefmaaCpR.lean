/- A state that is copied row by row in whatever order: what stands on the way. No program's walk. No condition. -/
import Derived.Test.YtcfgljfpkhefmaaOwnF
import Derived.OrdersHeld
namespace Go.Proofs.Ytcfgljfpkhefmaa
open Go.RowKit

theorem as_fun {R : Nat → Array Bool → Act → World → Prop} {n : Nat} {l : Array Bool} {a : Act} {w : World} (h : ∀ R' : Nat → Array Bool → Act → World → Prop, R' = R → R' n l a w) : R n l a w := h R rfl
theorem as_of {R R' : Nat → Array Bool → Act → World → Prop} (h : R = R') {n : Nat} {l : Array Bool} {a : Act} {w : World} (x : R n l a w) : R' n l a w := h ▸ x
theorem OwnInts.r {W : World} {lo hi : Nat} {A : Option Addr} {cap : Nat} {zs : List Int} (h : OwnInts W lo hi A cap zs) (hz : zs ≠ []) : OwnR W lo hi A cap zs :=
  ⟨h.1, .inr (h.2.resolve_left hz)⟩
theorem ownR_nil (W : World) (lo hi : Nat) (h : hi ≤ W.heap.size) : OwnR W lo hi none 0 [] := ⟨h, .inl ⟨rfl, rfl, rfl⟩⟩
theorem ownR_empty (W : World) : OwnR (W.alloc (.cells #[] 3)) W.heap.size (W.heap.size + 1) (some ⟨W.heap.size, 0, none⟩) 0 [] := by
  have hm := World.ownsRow_made (base := W.heap.size) (e := 3) (size := 1) W #[] 0 (Nat.le_refl _) (by unfold maxLen; omega) (by simp)
  refine ⟨by simp, .inr ⟨W.heap.size, rfl, Nat.le_refl _, Nat.lt_succ_self _, ?_⟩⟩
  simpa [intCells] using hm
/-- Three rows, each in its range from B on. -/
structure CpR (W : World) (B : Nat) (f t z : Nat × Nat) (AF : Option Addr) (cF : Nat) (AT : Option Addr) (cT : Nat) (AZ : Option Addr) (cZ : Nat) (F T Z : List Int) : Prop where
  own : OwnF W f t z AF cF AT cT AZ cZ F T Z
  lf : B ≤ f.1
  lt : B ≤ t.1
  lz : B ≤ z.1
  b : B ≤ W.heap.size
theorem CpR.nil (W : World) (B : Nat) (h : B ≤ W.heap.size) : CpR W B (B, B) (B, B) (B, B) none 0 none 0 none 0 [] [] [] :=
  ⟨⟨ownR_nil W B B h, ownR_nil W B B h, ownR_nil W B B h, .inl (Nat.le_refl _), .inl (Nat.le_refl _), .inl (Nat.le_refl _)⟩, Nat.le_refl _, Nat.le_refl _, Nat.le_refl _, h⟩
theorem CpR.newF {W W' : World} {B : Nat} {f t z f' : Nat × Nat} {AF AT AZ AF' : Option Addr} {cF cT cZ cF' : Nat} {F T Z F' : List Int} (h : CpR W B f t z AF cF AT cT AZ cZ F T Z) (hb : Below W.heap.size W W') (hn : OwnR W' f'.1 f'.2 AF' cF' F') (hl : f' = f ∨ W.heap.size ≤ f'.1) : CpR W' B f' t z AF' cF' AT cT AZ cZ F' T Z := by
  obtain ⟨⟨o1, o2, o3, d1, d2, d3⟩, lf, lt, lz, b⟩ := h
  have q2 := o2.within (within_of hb) (.inr (Nat.zero_le _))
  have q3 := o3.within (within_of hb) (.inr (Nat.zero_le _))
  have s2 := o2.1
  have s3 := o3.1
  have hs := hb.size
  rcases hl with rfl | hl
  · exact ⟨⟨hn, q2, q3, d1, d2, d3⟩, lf, lt, lz, by omega⟩
  · exact ⟨⟨hn, q2, q3, .inr (by omega), .inr (by omega), d3⟩, by omega, lt, lz, by omega⟩
theorem CpR.newT {W W' : World} {B : Nat} {f t z t' : Nat × Nat} {AF AT AZ AT' : Option Addr} {cF cT cZ cT' : Nat} {F T Z T' : List Int} (h : CpR W B f t z AF cF AT cT AZ cZ F T Z) (hb : Below W.heap.size W W') (hn : OwnR W' t'.1 t'.2 AT' cT' T') (hl : t' = t ∨ W.heap.size ≤ t'.1) : CpR W' B f t' z AF cF AT' cT' AZ cZ F T' Z := by
  obtain ⟨⟨o1, o2, o3, d1, d2, d3⟩, lf, lt, lz, b⟩ := h
  have q1 := o1.within (within_of hb) (.inr (Nat.zero_le _))
  have q3 := o3.within (within_of hb) (.inr (Nat.zero_le _))
  have s1 := o1.1
  have s3 := o3.1
  have hs := hb.size
  rcases hl with rfl | hl
  · exact ⟨⟨q1, hn, q3, d1, d2, d3⟩, lf, lt, lz, by omega⟩
  · exact ⟨⟨q1, hn, q3, .inl (by omega), d2, .inr (by omega)⟩, lf, by omega, lz, by omega⟩
theorem CpR.newZ {W W' : World} {B : Nat} {f t z z' : Nat × Nat} {AF AT AZ AZ' : Option Addr} {cF cT cZ cZ' : Nat} {F T Z Z' : List Int} (h : CpR W B f t z AF cF AT cT AZ cZ F T Z) (hb : Below W.heap.size W W') (hn : OwnR W' z'.1 z'.2 AZ' cZ' Z') (hl : z' = z ∨ W.heap.size ≤ z'.1) : CpR W' B f t z' AF cF AT cT AZ' cZ' F T Z' := by
  obtain ⟨⟨o1, o2, o3, d1, d2, d3⟩, lf, lt, lz, b⟩ := h
  have q1 := o1.within (within_of hb) (.inr (Nat.zero_le _))
  have q2 := o2.within (within_of hb) (.inr (Nat.zero_le _))
  have s1 := o1.1
  have s2 := o2.1
  have hs := hb.size
  rcases hl with rfl | hl
  · exact ⟨⟨q1, q2, hn, d1, d2, d3⟩, lf, lt, lz, by omega⟩
  · exact ⟨⟨q1, q2, hn, d1, .inl (by omega), .inl (by omega)⟩, lf, lt, by omega, by omega⟩
theorem OwnF.own3R {W : World} {f t z : Nat × Nat} {AF AT AZ : Option Addr} {cF cT cZ : Nat} {F T Z : List Int} (h : OwnF W f t z AF cF AT cT AZ cZ F T Z) {lo hi : Nat} (h1 : lo ≤ f.1 ∧ f.2 ≤ hi) (h2 : lo ≤ t.1 ∧ t.2 ≤ hi) (h3 : lo ≤ z.1 ∧ z.2 ≤ hi) (h4 : hi ≤ W.heap.size) : Own3R W lo hi AF cF AT cT AZ cZ F T Z :=
  ⟨f, t, z, h.1, h.2.1, h.2.2.1, h.2.2.2.1, h.2.2.2.2.1, h.2.2.2.2.2, h1, h2, h3, h4⟩
/-- An append of a row onto an empty row of the call's own. -/
theorem run_copyR (w : World) (ty : TypeId) (g l h : Nat) (A : Option Addr) (zs : List Int) (cap lo hi : Nat) (hg : OwnR w l h (some ⟨g, 0, none⟩) 0 []) (hz : IntsIn w lo hi A zs) (hn : zs.length ≤ 1048576) :
    ∃ A' c' w', ∃ r : Nat × Nat, (Builtin.append_ #[28, 28] ty #[.slice (some ⟨g, 0, none⟩) 0 0, .slice A zs.length cap]).run Try.prog w = .ok (.slice A' zs.length c') w' ∧ OwnR w' r.1 r.2 A' c' zs ∧ (r = (l, h) ∨ w.heap.size ≤ r.1) ∧ Below w.heap.size w w' := by
  by_cases e : zs = []
  · subst e
    obtain ⟨i0, hi0, hz0, hz1, hz2⟩ := info_parts infoInt
    refine ⟨some ⟨g, 0, none⟩, 0, w, (l, h), ?_, hg, .inl rfl, Below.refl _ _⟩
    cases A <;> simp [Builtin.append_, run_underlying Try.underlying28, sizeOf, typeInfo, hi0, Builtin.lenOf, Builtin.firstCells, loadCells, loadCellsFrom, storeCells]
  · obtain ⟨A', c', w', h1, h2, h3⟩ := run_copyI w ty g A zs cap lo hi hz hn
    exact ⟨A', c', w', (w.heap.size, w'.heap.size), h1, h2.r e, .inr (Nat.le_refl _), h3⟩
theorem step_copyR {w : World} {ops : Array Oper} {o : Oper} {a : Act} {K : Act → World → Prop} {Q : Exit → Act → World → Prop} {E : Prop} (hgd : o.guard = none) (s x : Operand) (ho : o.op = .call { callee := .builtin .append, args := #[s, x], argTypes := #[28, 28] })
    (g l h : Nat) (A : Option Addr) (zs : List Int) (cap lo hi : Nat) (hs : a.eval s = .slice (some ⟨g, 0, none⟩) 0 0) (hx : a.eval x = .slice A zs.length cap) (hg : OwnR w l h (some ⟨g, 0, none⟩) 0 []) (hz : IntsIn w lo hi A zs) (hn : zs.length ≤ 1048576)
    (hK : ∀ A' c' w' (r : Nat × Nat), OwnR w' r.1 r.2 A' c' zs → (r = (l, h) ∨ w.heap.size ≤ r.1) → Below w.heap.size w w' → K (a.put o.dst (.slice A' zs.length c')) w') : if Region.wanted o (yielded ops a.tmps) = true then Oper.wp Try.prog o a w K Q else E := by
  have hw : Region.wanted o (yielded ops a.tmps) = true := by simp [Region.wanted, hgd]
  rw [if_pos hw]
  obtain ⟨A', c', w', r, hr, h2, h3, h4⟩ := run_copyR w o.type g l h A zs cap lo hi hg hz hn
  unfold Oper.wp execOp
  simp only [ho, resolve, invoke, builtin, Sem.run_bind, Sem.run_pure, Result.andThen_ok, List.map_toArray, List.map_cons, List.map_nil, hs, hx, hr]
  exact hK A' c' w' r h2 h3 h4
end Go.Proofs.Ytcfgljfpkhefmaa
