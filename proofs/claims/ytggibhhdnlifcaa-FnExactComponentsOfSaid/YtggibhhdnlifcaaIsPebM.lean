/- When a state is one of a graph, bar by bar. No program. No condition. -/
import Derived.Test.YtggibhhdnlifcaaPebTail
import Derived.Test.YtggibhhdnlifcaaHasEnd
namespace Go.Proofs.Ytggibhhdnlifcaa
open Go.RowKit

/-- The bar at place i of those that were placed is in order. -/
def OkP (l : List (Int × Int)) (T Z : List Int) (i : Nat) : Prop :=
  (0 ≤ Z.getD i 0 ∧ Z.getD i 0 < (l.length : Int)) ∧ (0 < i → Z.getD (i - 1) 0 < Z.getD i 0) ∧ isEnd (l.getD (Z.getD i 0).toNat (0, 0)) (T.getD i 0)
theorem okP_snoc {l : List (Int × Int)} {T Z : List Int} {k : Nat} (h : ∀ j, j < k → OkP l T Z j) (hk : OkP l T Z k) : ∀ j, j < k + 1 → OkP l T Z j := fun j hj => by
  by_cases e : j = k
  · subst e; exact hk
  · exact h j (by omega)
theorem isPeb_bad {p k : Int} {l : List (Int × Int)} {F T Z : List Int} {i : Nat} (hi : i < Z.length) (h : ¬ OkP l T Z i) : isPebB p k l F T Z = false := isPebB_no fun hp => h (hp.2.2.2.2.1 i hi)
theorem isPeb_free {p k : Int} {l : List (Int × Int)} {F T Z : List Int} {v : Nat} (hv : v < F.length) (h : ¬ (0 ≤ F.getD v 0 ∧ F.getD v 0 + (T.count (v : Int) : Int) = k)) : isPebB p k l F T Z = false := isPebB_no fun hp => h (hp.2.2.2.2.2 v hv)
/-- As many bars were placed as there are, at most. -/
theorem okP_len {l : List (Int × Int)} {T Z : List Int} (h : ∀ j, j < Z.length → OkP l T Z j) : Z.length ≤ l.length := by
  have key : ∀ j, j < Z.length → (j : Int) ≤ Z.getD j 0 := by
    intro j
    induction j with
    | zero => intro hj; exact (h 0 hj).1.1
    | succ j ih =>
      intro hj
      have h1 := ih (by omega)
      have h2 := (h (j + 1) hj).2.1 (by omega)
      rw [show j + 1 - 1 = j by omega] at h2
      omega
  by_cases hz : Z.length = 0
  · omega
  · have h1 := key (Z.length - 1) (by omega)
    have h2 := (h (Z.length - 1) (by omega)).1.2
    omega
theorem endB_is (x : Int × Int) (v : Int) : endB v x = true ↔ isEnd x v := by
  unfold endB isEnd
  rw [decide_eq_true_iff]
  constructor
  · rintro (h | h)
    · exact .inl h.symm
    · exact .inr h.symm
  · rintro (h | h)
    · exact .inl h.symm
    · exact .inr h.symm
theorem wf_add {x : Int} {n : Nat} {k : Int} (hw : Wf x) (h0 : 0 ≤ x) (hn : n ≤ 24) (hk : 1 ≤ k ∧ k ≤ 3) : (IntKind.i64.wrap (x + (n : Int)) = k) ↔ x + (n : Int) = k := by
  unfold Wf at hw
  simp [Lit.wf, IntKind.min, IntKind.max, IntKind.signed, IntKind.bits] at hw
  constructor
  · intro h
    by_cases hx : x + (n : Int) ≤ 9223372036854775807
    · rwa [IntWalk.i64_in _ (by omega)] at h
    · exfalso
      rw [IntKind.wrap_i64] at h
      omega
  · intro h
    rw [IntWalk.i64_in _ (by omega)]
    exact h
/-- A graph and a state that are read: each in a box of its own, with the rows that they point to. -/
structure GP (w wr : World) (bx bp : Nat) (p : Int) (A : Option Addr) (cap : Nat) (l : List (Int × Int)) (AF AT AZ : Option Addr) (cF cT cZ lo hi : Nat) (F T Z : List Int) : Prop where
  box : Box wr bx p (.slice A l.length cap)
  st : Cel3 wr bp 63 (.slice AF F.length cF) (.slice AT T.length cT) (.slice AZ Z.length cZ)
  bars : BarsIn wr 0 w.heap.size A l
  rows : Peb3 wr lo hi AF AT AZ F T Z
  bel : Below w.heap.size w wr
theorem GP.below {w wr w' : World} {bx bp : Nat} {p : Int} {A : Option Addr} {cap : Nat} {l : List (Int × Int)} {AF AT AZ : Option Addr} {cF cT cZ lo hi : Nat} {F T Z : List Int} (h : GP w wr bx bp p A cap l AF AT AZ cF cT cZ lo hi F T Z) (hb : Below wr.heap.size wr w') : GP w w' bx bp p A cap l AF AT AZ cF cT cZ lo hi F T Z :=
  ⟨h.box.kept hb, h.st.kept hb, h.bars.within (within_of hb) (.inr (Nat.zero_le _)), h.rows.within (within_of hb) (.inr (Nat.zero_le _)), below_on h.bel hb h.bel.size⟩
theorem GP.drewN {w wr : World} {bx bp : Nat} {p : Int} {A : Option Addr} {cap : Nat} {l : List (Int × Int)} {AF AT AZ : Option Addr} {cF cT cZ lo hi : Nat} {F T Z : List Int} (h : GP w wr bx bp p A cap l AF AT AZ cF cT cZ lo hi F T Z) (n : Nat) : GP w (wr.drewN n) bx bp p A cap l AF AT AZ cF cT cZ lo hi F T Z := h.below (below_drewN _ _ _)
theorem row_at {W : World} {lo hi : Nat} {A : Option Addr} {zs : List Int} (h : IntsIn W lo hi A zs) (hz : 0 < zs.length) : ∃ b off, A = some ⟨b, off, none⟩ ∧ ∀ k, k < zs.length → W.cell? ⟨b, off + k, none⟩ = some (.int .i64 (zs.getD k 0)) := by
  obtain ⟨b, off, e, _, _, hc⟩ := h.2 hz
  exact ⟨b, off, e, hc⟩
end Go.Proofs.Ytggibhhdnlifcaa
