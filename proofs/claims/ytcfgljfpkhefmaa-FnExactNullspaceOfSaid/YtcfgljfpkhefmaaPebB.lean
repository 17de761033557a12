/- How the laws copy a state of the pebble game. No condition. -/
import Derived.Test.YtcfgljfpkhefmaaPebA
namespace Go.Proofs.Ytcfgljfpkhefmaa
open Go.RowKit

end Go.Proofs.Ytcfgljfpkhefmaa
