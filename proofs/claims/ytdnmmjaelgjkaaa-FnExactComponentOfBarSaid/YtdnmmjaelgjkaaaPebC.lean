/- How the laws compare, mark and measure a state of the pebble game. No condition. -/
import Derived.Test.YtdnmmjaelgjkaaaPebB
namespace Go.Proofs.Ytdnmmjaelgjkaaa
open Go.RowKit

end Go.Proofs.Ytdnmmjaelgjkaaa
