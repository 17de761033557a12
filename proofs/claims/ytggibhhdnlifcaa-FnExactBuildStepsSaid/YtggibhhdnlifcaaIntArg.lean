/- A slice of ints that a law is handed, and the laws' copy of it (toIntS). No condition. -/
import Derived.Test.YtggibhhdnlifcaaInts
namespace Go.Proofs.Ytggibhhdnlifcaa
open Go.RowKit

/-- A slice of integers that came in: nil, or a row whose first 'len' cells are its elements. -/
def IsRow (k : IntKind) (w : World) (a : Option Addr) (len cap : Nat) (zs : List Int) : Prop :=
  (a = none ∧ len = 0 ∧ cap = 0 ∧ zs = []) ∨
  ∃ x, a = some x ∧ len ≤ cap ∧ cap ≤ maxLen ∧ zs.length = cap ∧ (∀ i, i < zs.length → w.cell? (x.add i) = some (.int k (zs.getD i 0))) ∧ ∀ n ∈ zs, (Lit.int k n).wf = true
theorem IsRow.ints {w : World} {a : Option Addr} {len cap : Nat} {zs : List Int} (h : IsRow .i64 w a len cap zs) : ∃ ys : List Int, ys.length = len ∧ IntsIn w 0 w.heap.size a ys ∧ len ≤ maxLen := by
  rcases h with ⟨rfl, rfl, rfl, rfl⟩ | ⟨x, rfl, h1, h2, h3, h4, _⟩
  · exact ⟨[], rfl, ⟨Nat.le_refl _, fun h => absurd h (by simp)⟩, Nat.zero_le _⟩
  · refine ⟨zs.take len, by simp; omega, ⟨Nat.le_refl _, fun hl => ?_⟩, Nat.le_trans h1 h2⟩
    have hl' : 0 < zs.length := by simp at hl; omega
    obtain ⟨b, off, spot⟩ := x
    have hs : spot = none := by simpa [Addr.add] using World.cell?_spot (h4 0 hl')
    subst hs
    have hadd : ∀ k, (⟨b, off, none⟩ : Addr).add k = ⟨b, off + k, none⟩ := fun k => by unfold Addr.add; split <;> simp_all
    have h0 := h4 0 hl'
    rw [hadd] at h0
    refine ⟨b, off, rfl, Nat.zero_le _, World.block_lt_of_cell? w _ h0, fun k hk => ?_⟩
    have hk' : k < len ∧ k < zs.length := by simp at hk; omega
    have := h4 k hk'.2
    rw [hadd] at this
    rw [this]
    simp [List.getD, hk'.1]

theorem intsOf_zero (n : Nat) : List.replicate n (Value.int .i64 0) = intCells (List.replicate n 0) := by simp [intCells]
theorem ints_step (zs : List Int) (k : Nat) (h : k < zs.length) : (intCells (zs.take k ++ List.replicate (zs.length - k) 0)).set k (.int .i64 (zs.getD k 0)) = intCells (zs.take (k + 1) ++ List.replicate (zs.length - (k + 1)) 0) := by
  unfold intCells
  rw [← List.map_set]
  congr 1
  have hl0 : (zs.take k).length = k := by simp; omega
  obtain ⟨r, hr⟩ : ∃ r, zs.length - k = r + 1 := ⟨zs.length - k - 1, by omega⟩
  rw [List.set_append_right _ _ (by omega), hl0, Nat.sub_self, hr, List.replicate_succ, List.set_cons_zero, List.take_succ_eq_append_getElem h, show zs.length - (k + 1) = r by omega, List.append_assoc]
  simp [List.getD, List.getElem?_eq_getElem h]

end Go.Proofs.Ytggibhhdnlifcaa
