/- What PrimitiveVector answers: a row in lowest terms, or the row itself where a number is too large. Words on numbers. No condition. -/
import Derived.Test.YtcfgljfpkhefmaaGcd
import Derived.Test.YtcfgljfpkhefmaaRedM
namespace Go.Proofs.Ytcfgljfpkhefmaa

def AllG (v : List Int) (k : Nat) : Prop := ∀ j, j < k → OkG (v.getD j 0)
instance (v : List Int) (k : Nat) : Decidable (AllG v k) := by unfold AllG; exact inferInstance
def pV (v : List Int) : List Int := if AllG v v.length then primV v else v
theorem pV_len (v : List Int) : (pV v).length = v.length := by
  unfold pV; split
  · exact primV_len v
  · rfl
theorem pV_ok {v : List Int} (h : AllG v v.length) : pV v = primV v := if_pos h
theorem pV_no {v : List Int} (h : ¬ AllG v v.length) : pV v = v := if_neg h
/-- The divisor of the first k numbers. -/
def gP (v : List Int) (k : Nat) : Nat := gcdL (v.take k)
theorem take_snoc {v : List Int} {k : Nat} (h : k < v.length) : v.take (k + 1) = v.take k ++ [v.getD k 0] := by
  rw [List.take_succ_eq_append_getElem h, List.getD_eq_getElem?_getD, List.getElem?_eq_getElem h, Option.getD_some]
theorem gP_succ {v : List Int} {k : Nat} (h : k < v.length) : gP v (k + 1) = Nat.gcd (gP v k) (v.getD k 0).natAbs := by
  unfold gP; rw [take_snoc h, gcdL_snoc]
theorem gP_all (v : List Int) : gP v v.length = gcdL v := by unfold gP; rw [List.take_length]
theorem gP_le {v : List Int} : ∀ k, k ≤ v.length → AllG v k → gP v k ≤ 9000000000000000000 := by
  intro k
  induction k with
  | zero => intro _ _; simp [gP, gcdL]
  | succ k ih =>
    intro hk h
    rw [gP_succ (by omega)]
    have h1 := ih (by omega) fun j hj => h j (by omega)
    have h2 := h k (by omega)
    unfold OkG at h2
    rcases Nat.eq_zero_or_pos (v.getD k 0).natAbs with e | e
    · rw [e, Nat.gcd_zero_right]; exact h1
    · exact Nat.le_trans (Nat.gcd_le_right _ e) (by omega)
def fP (v : List Int) (k : Nat) : Int := firstZ (v.take k)
theorem fP_succ {v : List Int} {k : Nat} (h : k < v.length) : fP v (k + 1) = if fP v k = 0 then v.getD k 0 else fP v k := by
  unfold fP; rw [take_snoc h, firstZ_snoc]
theorem fP_all (v : List Int) : fP v v.length = firstZ v := by unfold fP; rw [List.take_length]
theorem fP_first {v : List Int} {f : Nat} (hf : f < v.length) (h0 : ∀ i, i < f → v.getD i 0 = 0) (hz : v.getD f 0 ≠ 0) : firstZ v = v.getD f 0 := by
  have h1 : ∀ k, k ≤ f → fP v k = 0 := by
    intro k
    induction k with
    | zero => intro _; rfl
    | succ k ih => intro hk; rw [fP_succ (by omega), ih (by omega), if_pos rfl]; exact h0 k (by omega)
  have h2 : ∀ k, f < k → k ≤ v.length → fP v k = v.getD f 0 := by
    intro k
    induction k with
    | zero => intro h; omega
    | succ k ih =>
      intro hk hl
      rw [fP_succ (by omega)]
      by_cases e : k = f
      · subst e; rw [h1 k (Nat.le_refl _), if_pos rfl]
      · rw [ih (by omega) (by omega), if_neg hz]
  rw [← fP_all]
  exact h2 _ hf (Nat.le_refl _)
theorem zero_all {v : List Int} (h : ∀ i, i < v.length → v.getD i 0 = 0) : gcdL v = 0 := by
  rw [gcdL_zero]
  intro x hx
  obtain ⟨i, hi, rfl⟩ := List.getElem_of_mem hx
  have := h i hi
  rw [List.getD_eq_getElem?_getD, List.getElem?_eq_getElem hi, Option.getD_some] at this
  exact this
theorem gcd_nz {v : List Int} {f : Nat} (hf : f < v.length) (hz : v.getD f 0 ≠ 0) : gcdL v ≠ 0 := by
  intro h
  have := gcdL_zero.1 h (v.getD f 0) (by
    rw [List.getD_eq_getElem?_getD, List.getElem?_eq_getElem hf, Option.getD_some]; exact List.getElem_mem hf)
  exact hz this
theorem primV_row {v : List Int} (h : gcdL v ≠ 0) : primV v = rowF v.length fun j => Int.tdiv (v.getD j 0) (divZ v) := by
  unfold primV
  rw [if_neg h]
  apply List.ext_getElem (by rw [rowF_len, List.length_map])
  intro i h1 h2
  have hi : i < v.length := by simpa using h1
  rw [List.getElem_map, rowF_get h2, List.getD_eq_getElem?_getD, List.getElem?_eq_getElem hi, Option.getD_some]
theorem primV_zero {v : List Int} (h : gcdL v = 0) : primV v = v := if_pos h
/-- What a number is divided by is not 0, and the quotient is no greater. -/
theorem quo_ok {x d : Int} (hx : OkG x) (_hd : d ≠ 0) : OkG (Int.tdiv x d) := by
  unfold OkG at *
  have h1 := Int.natAbs_tdiv x d
  have h2 : x.natAbs.div d.natAbs ≤ x.natAbs := Nat.div_le_self x.natAbs d.natAbs
  rw [← h1] at h2
  clear h1
  generalize Int.tdiv x d = q at *
  omega
end Go.Proofs.Ytcfgljfpkhefmaa
