/- The laws' big, and the code's bytes as a law is handed them. No condition. -/
import Derived.Test.YtimgkekllanhmaaCur
namespace Go.Proofs.Ytimgkekllanhmaa
open Go.RowKit

theorem big_yes (w : World) (A : Option Addr) (len cap : Nat) (h : (1048576 : Int) < (len : Int)) :
    Calls Try.prog 30 #[.slice A len cap] w fun e w' => e = .returned (.bool true) ∧ w = w' := by
  have h' : decide ((1048576 : Int) < (len : Int)) = true := by simpa using h
  go_enter Try.func30, Try.ntmps30
  go_wp2
  go_ret
  exact ⟨rfl, rfl⟩
theorem big_no (w : World) (A : Option Addr) (len cap : Nat) (h : (len : Int) ≤ 1048576) :
    Calls Try.prog 30 #[.slice A len cap] w fun e w' => e = .returned (.bool false) ∧ w = w' := by
  have h' : decide ((1048576 : Int) < (len : Int)) = false := by simp; omega
  go_enter Try.func30, Try.ntmps30
  go_wp2
  go_ret
  exact ⟨rfl, rfl⟩
theorem code_of_row {w : World} {A : Option Addr} {len cap : Nat} {zs : List Int}
    (h : (A = none ∧ len = 0 ∧ cap = 0 ∧ zs = []) ∨ ∃ x, A = some x ∧ len ≤ cap ∧ cap ≤ maxLen ∧ zs.length = cap ∧ (∀ i, i < zs.length → w.cell? (x.add i) = some (.int .u8 (zs.getD i 0))) ∧ ∀ n ∈ zs, (Lit.int .u8 n).wf = true) :
    CodeIs w w.heap.size A len (fun k => zs.getD k 0) := by
  have hb : (∀ n ∈ zs, (Lit.int .u8 n).wf = true) → ∀ k, 0 ≤ zs.getD k 0 ∧ zs.getD k 0 ≤ 255 := by
    intro hw k
    by_cases hk : k < zs.length
    · have := hw _ (List.getElem_mem hk)
      simp [Lit.wf, IntKind.min, IntKind.max, IntKind.signed, IntKind.bits] at this
      simp [List.getD, List.getElem?_eq_getElem hk]
      omega
    · simp [List.getD, List.getElem?_eq_none (by omega : zs.length ≤ k)]
  rcases h with ⟨rfl, rfl, rfl, rfl⟩ | ⟨x, rfl, h1, h2, h3, hc, hw⟩
  · exact ⟨fun k => by simp, fun h => absurd h (by omega)⟩
  · refine ⟨hb hw, fun hl => ?_⟩
    obtain ⟨b, off, spot⟩ := x
    have h0 := hc 0 (by omega)
    have hs : spot = none := by simpa [Addr.add] using World.cell?_spot h0
    subst hs
    have hadd : ∀ k, (⟨b, off, none⟩ : Addr).add k = ⟨b, off + k, none⟩ := fun k => by unfold Addr.add; split <;> simp_all
    rw [hadd 0] at h0
    refine ⟨b, off, rfl, World.block_lt_of_cell? w _ h0, fun k hk => ?_⟩
    rw [← hadd k]
    exact hc k (by omega)
end Go.Proofs.Ytimgkekllanhmaa
