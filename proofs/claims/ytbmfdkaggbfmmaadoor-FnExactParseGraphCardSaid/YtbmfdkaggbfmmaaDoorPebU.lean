/- A new block leaves all others. No condition. -/
import Derived.Test.YtbmfdkaggbfmmaaDoorState
namespace Go.Proofs.YtbmfdkaggbfmmaaDoor
open Go.RowKit
theorem within_alloc (w : World) (o : Obj) : Within 0 0 w (w.alloc o) := within_of (new_below w o)
end Go.Proofs.YtbmfdkaggbfmmaaDoor
