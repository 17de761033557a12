/- A circuit: what is needed of ranks, sizes and sets. No program. No condition. -/
import Derived.Test.YtdkpmaahinbhlaaFzIndM
namespace Go.Proofs.Ytdkpmaahinbhlaa
open Go.RowKit

end Go.Proofs.Ytdkpmaahinbhlaa
