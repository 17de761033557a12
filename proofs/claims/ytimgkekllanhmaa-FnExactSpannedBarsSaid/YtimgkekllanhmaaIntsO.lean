/- What a function returns that answers with a row of ints of the call's own. No condition. -/
import Derived.Test.YtimgkekllanhmaaInts
namespace Go.Proofs.Ytimgkekllanhmaa
open Go.RowKit

/-- A row of ints of the call's own. -/
def IntsO (w : World) (zs : List Int) (e : Ending) (w' : World) : Prop :=
  ∃ A cap, e = .returned (.slice A zs.length cap) ∧ OwnInts w' w.heap.size w'.heap.size A cap zs ∧ Below w.heap.size w w'
end Go.Proofs.Ytimgkekllanhmaa
