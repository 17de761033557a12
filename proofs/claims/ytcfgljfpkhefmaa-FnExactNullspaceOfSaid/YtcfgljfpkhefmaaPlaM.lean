/- An append of one int onto a row of the call's own, in its range. No program's walk. No condition. -/
import Derived.Test.YtcfgljfpkhefmaaOwnF
namespace Go.Proofs.Ytcfgljfpkhefmaa
open Go.RowKit

theorem wpList_pushR (w : World) {ops : Array Oper} {rest : List Oper} {o : Oper} {a : Act} {Q : Exit → Act → World → Prop} (hgd : o.guard = none) (s x : Operand)
    (ho : o.op = .call { callee := .builtin .append, args := #[s, x], argTypes := #[28, 28] }) (lo hi : Nat) (A : Option Addr) (cap : Nat) (zs : List Int) (y : Int) (hs : a.eval s = .slice A zs.length cap) (hr : OwnR w lo hi A cap zs)
    (tb : TypeId) (hx : a.eval x = .slice (some ⟨w.heap.size, 0, none⟩) 1 1) (hn : zs.length ≤ 1048576) (hlo : lo ≤ w.heap.size)
    (h : ∀ A' c' w' lo' hi', OwnR w' lo' hi' A' c' (zs ++ [y]) → ((lo' = lo ∧ hi' = hi) ∨ (w.heap.size ≤ lo' ∧ lo' ≤ w'.heap.size ∧ hi' ≤ w'.heap.size)) → Within lo hi w w' → wpList Try.prog ops Q rest (a.put o.dst (.slice A' (zs.length + 1) c')) w') : wpList Try.prog ops Q (o :: rest) a (w.alloc (.cells #[.int .i64 y] tb)) := by
  have hlen : (zs ++ [y]).length = zs.length + 1 := by simp
  have hcells : intCells (zs ++ [y]) = intCells zs ++ [.int .i64 y] := by simp [intCells]
  refine wpList_at w hgd s x 28 ho lo 3 (.int .i64 0) 1 8 Try.underlying28 infoInt rfl (by decide) _ _ _ hs hr.row #[.int .i64 y] 1 rfl (by simp [Value.oneCell']) tb 1 hx (by omega) (by unfold maxLen; omega) hlo ?_
  intro v' w' hown hg hat _
  obtain ⟨A', c', rfl⟩ := own_shape hown
  rw [show intCells zs ++ (#[Value.int .i64 y] : Array Value).toList = intCells (zs ++ [y]) from hcells.symm, ← hlen] at hown
  rw [← hlen] at hat
  have hw : Within lo hi w w' := ⟨hg.os, hg.tape, hg.output, hg.size, fun k hk hd => hg.block k hk fun e => by
    rcases hr.2 with ⟨rfl, rfl, rfl⟩ | ⟨g, rfl, g1, g2, _⟩
    · cases e
    · have : k = g := by simpa [Value.ownBlock] using e
      omega⟩
  rcases hown.2 with ⟨_, e0⟩ | ⟨g', cap', cur, e1, _⟩
  · rw [hlen] at e0; omega
  · injection e1 with q1 q2 q3
    subst q1
    have hlt := hown.lt g' rfl
    rcases hat with e | e
    · rcases hr.2 with ⟨rfl, rfl, rfl⟩ | ⟨g, rfl, g1, g2, _⟩
      · cases e
      · have : g' = g := by simpa [Value.ownBlock] using e
        subst this
        exact h _ c' w' lo hi ⟨Nat.le_trans hr.1 hg.size, .inr ⟨g', rfl, g1, g2, hown⟩⟩ (.inl ⟨rfl, rfl⟩) hw
    · have : g' = w.heap.size + 1 := by simpa [Value.ownBlock] using e
      exact h _ c' w' g' (g' + 1) ⟨hlt.2, .inr ⟨g', rfl, Nat.le_refl _, by omega, own_rebase hown (Nat.le_refl _)⟩⟩ (.inr ⟨by omega, by omega, hlt.2⟩) hw
/-- What lay under a bound stands: as a range from it on. -/
theorem within_low {B : Nat} {w w' : World} (h : Below B w w') : Within B w.heap.size w w' := ⟨h.os, h.tape, h.output, h.size, fun k _ hd => h.block k (by omega)⟩
theorem below_low {B lo hi : Nat} {w w' : World} (h : Within lo hi w w') (hB : B ≤ lo) (hw : B ≤ w.heap.size) : Below B w w' := ⟨h.os, h.tape, h.output, h.size, fun k hk => h.block k (by omega) (by omega)⟩
theorem below_low2 {B : Nat} {f t : Nat × Nat} {w w' : World} (h : Within2 f t w w') (h1 : B ≤ f.1) (h2 : B ≤ t.1) (hw : B ≤ w.heap.size) : Below B w w' := ⟨h.os, h.tape, h.output, h.size, fun k hk => h.block k (by omega) (by omega) (by omega)⟩
/-- What placing a bar answers, and what it makes of the state in the box pb. -/
def PlaceP (w : World) (B pb : Nat) (f t z : Nat × Nat) (AF : Option Addr) (cF : Nat) (AT : Option Addr) (cT : Nat) (AZ : Option Addr) (cZ : Nat) (l : List (Int × Int)) (c : Int) (F T Z : List Int) (n : Int) (e : Ending) (w' : World) : Prop :=
  Below B w w' ∧ ((e = .returned (.bool false) ∧ plaR l c F T Z n = none ∧ OwnF w' f t z AF cF AT cT AZ cZ F T Z ∧ Cel3 w' pb 58 (.slice AF F.length cF) (.slice AT T.length cT) (.slice AZ Z.length cZ)) ∨
    ∃ (s : List Int × List Int × List Int) (AT' : Option Addr) (cT' : Nat) (AZ' : Option Addr) (cZ' : Nat) (t' z' : Nat × Nat), e = .returned (.bool true) ∧ plaR l c F T Z n = some s ∧ OwnF w' f t' z' AF cF AT' cT' AZ' cZ' s.1 s.2.1 s.2.2 ∧ Cel3 w' pb 58 (.slice AF s.1.length cF) (.slice AT' s.2.1.length cT') (.slice AZ' s.2.2.length cZ') ∧
      (t' = t ∨ (w.heap.size ≤ t'.1 ∧ t'.1 ≤ w'.heap.size)) ∧ (z' = z ∨ (w.heap.size ≤ z'.1 ∧ z'.1 ≤ w'.heap.size)))
end Go.Proofs.Ytcfgljfpkhefmaa
