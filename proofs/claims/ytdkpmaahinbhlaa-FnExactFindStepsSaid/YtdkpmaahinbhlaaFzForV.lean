/- What IsForest answers, by ranks and by pieces. No program's walk. No condition. -/
import Derived.Test.YtdkpmaahinbhlaaFzForM
import Derived.Test.YtdkpmaahinbhlaaFzCirM
namespace Go.Proofs.Ytdkpmaahinbhlaa
open Go.RowKit

theorem rk_full {P : Nat} {k c : Int} {l : List (Int × Int)} (hb : Bars P l) (hP : 1 ≤ P ∧ P ≤ 8) (hk : 1 ≤ k) (hc : 0 ≤ c) (hc2 : c < 2 * k) : rk P k c l = l.length ↔ IndL P k c l := by
  have h := rk_greedy hb hP hk hc
  have hs := h.sub
  constructor
  · intro e
    have el : (plE l (runN P k c l l.length).2.2).length = l.length := by rw [plE_len]; exact e
    have e2 := hs.eq_of_length el
    have hi := h.ind
    rwa [e2] at hi
  · intro hi
    have h1 := h.most hb hk hc hc2 (List.Sublist.refl _) hi
    have h2 := hs.length_le
    rw [plE_len] at h1 h2
    unfold rk
    omega
end Go.Proofs.Ytdkpmaahinbhlaa
