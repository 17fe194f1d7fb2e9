/- The walks of (box).rect and impl.rectsFault. -/
import Derived.Test.YtgepnbaaobkbbabCorners
namespace Go.Proofs.Ytgepnbaaobkbbab
open Go.RowKit


/-- What is wrong with two boxes. -/
def rf2 (xs ys us vs : List Int) : Int := if rf xs ys xs.length ≠ 0 then rf xs ys xs.length else rf us vs xs.length


end Go.Proofs.Ytgepnbaaobkbbab
