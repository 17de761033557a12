/- As many bars are placed as there are, at most. No program. No condition. -/
import Derived.Test.YtdnmmjaelgjkaaaPebN
namespace Go.Proofs.Ytdnmmjaelgjkaaa
open Go.RowKit

theorem IsPeb.many {p k : Int} {l : List (Int × Int)} {F T Z : List Int} (h : IsPeb p k l F T Z) : Z.length ≤ l.length := by
  have q : ∀ i, i < Z.length → (i : Int) ≤ Z.getD i 0 := by
    intro i
    induction i with
    | zero => intro hi; exact (h.2.2.2.2.1 0 hi).1.1
    | succ i ih =>
      intro hi
      have h1 := ih (by omega)
      have h2 := (h.2.2.2.2.1 (i + 1) hi).2.1 (by omega)
      rw [show i + 1 - 1 = i by omega] at h2
      omega
  by_cases h0 : 0 < Z.length
  · have h1 := q (Z.length - 1) (by omega)
    have h2 := (h.2.2.2.2.1 (Z.length - 1) (by omega)).1.2
    omega
  · omega
end Go.Proofs.Ytdnmmjaelgjkaaa
