/- What RankOf answers, as a number. No program. No condition. -/
import Derived.Test.YtgmcibcjplncaaaRunM
namespace Go.Proofs.Ytgmcibcjplncaaa
open Go.RowKit

/-- What RankOf answers. -/
noncomputable def rankV (p k c : Int) (l : List (Int × Int)) : Int := if runB p k c l = true then (((runV p k c l).2.2.length : Nat) : Int) else -1
end Go.Proofs.Ytgmcibcjplncaaa
