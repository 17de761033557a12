/- How the laws copy a state of the pebble game. No condition. -/
import Derived.Test.YtedjhnedkghhoaaPebA
namespace Go.Proofs.Ytedjhnedkghhoaa
open Go.RowKit

end Go.Proofs.Ytedjhnedkghhoaa
