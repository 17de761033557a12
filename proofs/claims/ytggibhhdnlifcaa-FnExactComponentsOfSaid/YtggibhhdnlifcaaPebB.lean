/- How the laws copy a state of the pebble game. No condition. -/
import Derived.Test.YtggibhhdnlifcaaPebA
namespace Go.Proofs.Ytggibhhdnlifcaa
open Go.RowKit

end Go.Proofs.Ytggibhhdnlifcaa
