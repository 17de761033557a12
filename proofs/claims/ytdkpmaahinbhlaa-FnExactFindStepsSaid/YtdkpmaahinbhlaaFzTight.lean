/- What IsTight answers, the specification's and the program's. No condition. -/
import Derived.Test.YtdkpmaahinbhlaaFzSparse
namespace Go.Proofs.Ytdkpmaahinbhlaa
open Go.RowKit

noncomputable def tightB (p k c : Int) (l : List (Int × Int)) : Bool := sparseB p k c l && decide ((l.length : Int) = if k * p - c < 0 then 0 else k * p - c)
end Go.Proofs.Ytdkpmaahinbhlaa
