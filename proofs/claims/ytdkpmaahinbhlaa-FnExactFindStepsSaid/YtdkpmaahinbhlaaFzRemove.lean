/- What the program's RemoveBar answers: the same as the specification's. No condition. -/
import Derived.Test.YtdkpmaahinbhlaaFzDelete
import Derived.Test.YtdkpmaahinbhlaaFzCopy
namespace Go.Proofs.Ytdkpmaahinbhlaa
open Go.RowKit

theorem own_caps {w : World} {base : Nat} {e : TypeId} {size g n cap : Nat} {xs : List Value} (h : w.ownsRow base e size (.slice (some ⟨g, 0, none⟩) n cap) n xs) : n ≤ cap ∧ cap ≤ maxLen := by
  rcases h.2 with ⟨h', _⟩ | ⟨g', cap', cur, h', hb, hg, hnc, hcm, _⟩
  · cases h'
  · cases h'
    exact ⟨hnc, hcm⟩

end Go.Proofs.Ytdkpmaahinbhlaa
