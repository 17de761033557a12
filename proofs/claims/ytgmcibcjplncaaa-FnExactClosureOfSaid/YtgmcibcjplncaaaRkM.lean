/- What RankOfSet answers, as a number. No program's walk. No condition. -/
import Derived.Test.YtgmcibcjplncaaaRankM
import Derived.Test.YtgmcibcjplncaaaOnly
namespace Go.Proofs.Ytgmcibcjplncaaa
open Go.RowKit

/-- What RankOfSet answers. -/
noncomputable def rankSV (p k c : Int) (l : List (Int × Int)) (zs : List Int) : Int := if isGB p l = true then rankV p k c (onlyL l zs) else -1
end Go.Proofs.Ytgmcibcjplncaaa
