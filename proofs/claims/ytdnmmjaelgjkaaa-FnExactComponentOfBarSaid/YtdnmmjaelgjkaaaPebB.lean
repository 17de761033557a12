/- How the laws copy a state of the pebble game. No condition. -/
import Derived.Test.YtdnmmjaelgjkaaaPebA
namespace Go.Proofs.Ytdnmmjaelgjkaaa
open Go.RowKit

end Go.Proofs.Ytdnmmjaelgjkaaa
