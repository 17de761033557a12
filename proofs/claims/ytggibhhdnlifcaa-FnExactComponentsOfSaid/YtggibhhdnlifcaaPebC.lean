/- How the laws compare, mark and measure a state of the pebble game. No condition. -/
import Derived.Test.YtggibhhdnlifcaaPebB
namespace Go.Proofs.Ytggibhhdnlifcaa
open Go.RowKit

end Go.Proofs.Ytggibhhdnlifcaa
