/- The numbers of spec.l9Without stay small. Words on numbers. No condition. -/
import Derived.Test.YtcfgljfpkhefmaaPvM
import Derived.Test.YtcfgljfpkhefmaaNullM
namespace Go.Proofs.Ytcfgljfpkhefmaa

/-- A row of n numbers of at most 2 to the power of 27. -/
def Sm (P : List Int) (n : Nat) : Prop := P.length = n ∧ ∀ j, j < n → -134217728 ≤ P.getD j 0 ∧ P.getD j 0 ≤ 134217728
theorem mul_bd {x y b c : Int} (h1 : -b ≤ x ∧ x ≤ b) (h2 : -c ≤ y ∧ y ≤ c) : -(b * c) ≤ x * y ∧ x * y ≤ b * c := by
  have hx : (x.natAbs : Int) ≤ b := by omega
  have hy : (y.natAbs : Int) ≤ c := by omega
  have hp : (x.natAbs : Int) * (y.natAbs : Int) ≤ b * c := Int.mul_le_mul hx hy (by omega) (by omega)
  rw [← Int.natCast_mul, ← Int.natAbs_mul] at hp
  omega
theorem tdiv_bd {x d : Int} : -(x.natAbs : Int) ≤ Int.tdiv x d ∧ Int.tdiv x d ≤ x.natAbs := by
  have h1 := Int.natAbs_tdiv x d
  have h2 : x.natAbs.div d.natAbs ≤ x.natAbs := Nat.div_le_self x.natAbs d.natAbs
  rw [← h1] at h2
  clear h1
  generalize Int.tdiv x d = q at *
  omega
theorem tdiv_sm {x d : Int} (h : -134217728 ≤ x ∧ x ≤ 134217728) : -134217728 ≤ Int.tdiv x d ∧ Int.tdiv x d ≤ 134217728 := by
  have := tdiv_bd (x := x) (d := d)
  generalize Int.tdiv x d = q at *
  omega
theorem wOut_len (P Q : List Int) (c n : Nat) : (wOut P Q c n).length = n := rowF_len ..
theorem wOut_cell {P Q : List Int} {c n : Nat} (hP : Sm P n) (hQ : Sm Q n) (hc : c < n) {j : Nat} (hj : j < n) :
    (-18014398509481984 ≤ P.getD j 0 * Int.tdiv (Q.getD c 0) (Int.gcd (P.getD c 0) (Q.getD c 0)) ∧ P.getD j 0 * Int.tdiv (Q.getD c 0) (Int.gcd (P.getD c 0) (Q.getD c 0)) ≤ 18014398509481984) ∧
    (-18014398509481984 ≤ Q.getD j 0 * Int.tdiv (P.getD c 0) (Int.gcd (P.getD c 0) (Q.getD c 0)) ∧ Q.getD j 0 * Int.tdiv (P.getD c 0) (Int.gcd (P.getD c 0) (Q.getD c 0)) ≤ 18014398509481984) :=
  ⟨mul_bd (hP.2 j hj) (tdiv_sm (hQ.2 c hc)), mul_bd (hQ.2 j hj) (tdiv_sm (hP.2 c hc))⟩
theorem wOut_ok {P Q : List Int} {c n : Nat} (hP : Sm P n) (hQ : Sm Q n) (hc : c < n) : pV (wOut P Q c n) = primV (wOut P Q c n) := by
  apply pV_ok
  intro j hj
  rw [wOut_len] at hj
  unfold wOut
  rw [rowF_getD hj]
  have := wOut_cell hP hQ hc hj
  unfold OkG
  omega
theorem pV_sm {P : List Int} {n : Nat} (h : Sm P n) : pV P = primV P := by
  apply pV_ok
  intro j hj
  have := h.2 j (by rw [← h.1]; exact hj)
  unfold OkG
  omega
theorem RedS.psm {n m c : Nat} {s : Red} (h : RedS n m s c) (hm : m ≤ 9) {i : Nat} (hi : i < m) : Sm (primV (rowF n (s.R i))) n :=
  ⟨by rw [primV_len, rowF_len], fun _ hj => pcell_lim h hm hi hj⟩
end Go.Proofs.Ytcfgljfpkhefmaa
