/- Rows of slices of the call's own: what an append onto them asks and does. No condition. -/
import Derived.Test.YtcfgljfpkhefmaaNewPI
import Derived.Test.YtcfgljfpkhefmaaRowAt
import Derived.Test.YtcfgljfpkhefmaaOwnF
namespace Go.Proofs.Ytcfgljfpkhefmaa
open Go.RowKit

/-- A row of slices of the call's own in a block from lo to hi, or no block; an empty one too can be appended to. -/
def OwnS (W : World) (lo hi : Nat) (A : Option Addr) (cap : Nat) (zs : List Value) : Prop :=
  hi ≤ W.heap.size ∧ ((A = none ∧ cap = 0 ∧ zs = []) ∨ ∃ g, A = some ⟨g, 0, none⟩ ∧ lo ≤ g ∧ g < hi ∧ W.ownsRow lo 28 1 (.slice (some ⟨g, 0, none⟩) zs.length cap) zs.length zs)
theorem OwnS.within {W W' : World} {lo hi lo' hi' : Nat} {A : Option Addr} {cap : Nat} {zs : List Value} (h : OwnS W lo hi A cap zs) (hw : Within lo' hi' W W') (hd : hi ≤ lo' ∨ hi' ≤ lo) : OwnS W' lo hi A cap zs :=
  ⟨Nat.le_trans h.1 hw.size, by
    rcases h.2 with h2 | ⟨g, e, h1, h2, ho⟩
    · exact .inl h2
    · exact .inr ⟨g, e, h1, h2, own_block ho (hw.block g (Nat.lt_of_lt_of_le h2 h.1) (by omega))⟩⟩
/-- What an append onto the row asks. -/
theorem OwnS.row {W : World} {lo hi : Nat} {A : Option Addr} {cap : Nat} {zs : List Value} (h : OwnS W lo hi A cap zs) : W.ownsRow lo 28 1 (.slice A zs.length cap) zs.length zs := by
  rcases h.2 with ⟨rfl, rfl, rfl⟩ | ⟨g, rfl, _, _, ho⟩
  · exact ⟨rfl, .inl ⟨rfl, rfl⟩⟩
  · exact ho
theorem own_s {w' : World} {base : Nat} {A : Option Addr} {cap : Nat} {zs : List Value} (h : w'.ownsRow base 28 1 (.slice A zs.length cap) zs.length zs) : OwnS w' base w'.heap.size A cap zs := by
  rcases h.2 with ⟨h1, h0⟩ | ⟨g, cap', cur, h1, h2⟩
  · injection h1 with e1 e2 e3
    exact ⟨Nat.le_refl _, .inl ⟨e1, e3, List.eq_nil_of_length_eq_zero h0⟩⟩
  · cases h1
    exact ⟨Nat.le_refl _, .inr ⟨g, rfl, (h.lt g rfl).1, (h.lt g rfl).2, h⟩⟩
theorem infoInts : (Try.prog.info? 28).map (fun i => (i.zero, i.size, i.bytes)) = some (some (.slice none 0 0), 1, 24) := by kernel_rfl
theorem wpList_pushS (w : World) {ops : Array Oper} {rest : List Oper} {o : Oper} {a : Act} {Q : Exit → Act → World → Prop} (hgd : o.guard = none) (s x : Operand)
    (ho : o.op = .call { callee := .builtin .append, args := #[s, x], argTypes := #[22, 22] }) (lo hi : Nat) (A : Option Addr) (cap : Nat) (zs : List Value) (y : Value) (hy : y.oneCell' = true) (hs : a.eval s = .slice A zs.length cap) (hr : OwnS w lo hi A cap zs)
    (tb : TypeId) (hx : a.eval x = .slice (some ⟨w.heap.size, 0, none⟩) 1 1) (hn : zs.length ≤ 1048576) (hlo : lo ≤ w.heap.size)
    (h : ∀ A' c' w' lo' hi', OwnS w' lo' hi' A' c' (zs ++ [y]) → ((lo' = lo ∧ hi' = hi) ∨ (w.heap.size ≤ lo' ∧ lo' ≤ w'.heap.size ∧ hi' ≤ w'.heap.size)) → Within lo hi w w' → wpList Try.prog ops Q rest (a.put o.dst (.slice A' (zs.length + 1) c')) w') : wpList Try.prog ops Q (o :: rest) a (w.alloc (.cells #[y] tb)) := by
  have hlen : (zs ++ [y]).length = zs.length + 1 := by simp
  refine wpList_at w hgd s x 22 ho lo 28 (.slice none 0 0) 1 24 Try.underlying22 infoInts rfl (by decide) _ _ _ hs hr.row #[y] 1 rfl (by intro u hu; simp at hu; subst hu; exact hy) tb 1 hx (by omega) (by unfold maxLen; omega) hlo ?_
  intro v' w' hown hg hat _
  obtain ⟨A', c', rfl⟩ := own_shape hown
  rw [show zs ++ (#[y] : Array Value).toList = zs ++ [y] from rfl, ← hlen] at hown
  rw [← hlen] at hat
  have hw : Within lo hi w w' := ⟨hg.os, hg.tape, hg.output, hg.size, fun k hk hd => hg.block k hk fun e => by
    rcases hr.2 with ⟨rfl, rfl, rfl⟩ | ⟨g, rfl, g1, g2, _⟩
    · cases e
    · have : k = g := by simpa [Value.ownBlock] using e
      omega⟩
  rcases hown.2 with ⟨_, e0⟩ | ⟨g', cap', cur, e1, _⟩
  · rw [hlen] at e0; omega
  · injection e1 with q1 q2 q3
    subst q1
    have hlt := hown.lt g' rfl
    rcases hat with e | e
    · rcases hr.2 with ⟨rfl, rfl, rfl⟩ | ⟨g, rfl, g1, g2, _⟩
      · cases e
      · have : g' = g := by simpa [Value.ownBlock] using e
        subst this
        exact h _ c' w' lo hi ⟨Nat.le_trans hr.1 hg.size, .inr ⟨g', rfl, g1, g2, hown⟩⟩ (.inl ⟨rfl, rfl⟩) hw
    · have : g' = w.heap.size + 1 := by simpa [Value.ownBlock] using e
      exact h _ c' w' g' (g' + 1) ⟨hlt.2, .inr ⟨g', rfl, Nat.le_refl _, by omega, own_rebase hown (Nat.le_refl _)⟩⟩ (.inr ⟨by omega, by omega, hlt.2⟩) hw
end Go.Proofs.Ytcfgljfpkhefmaa
