/- The walks of spec.AreaOf and spec.MarginOf: for every box. -/
import Derived.Test.YtbnlgmcjklfcoabSpecLoops2
namespace Go.Proofs.Ytbnlgmcjklfcoab
open Go.RowKit

/-- The area of a box, with its code. -/
def areaF (xs ys : List Int) : Int × Int := if rf xs ys xs.length = 0 then (0, areaTo xs ys xs.length) else (rf xs ys xs.length, 0)

/-- The margin of a box, with its code. -/
def marginF (xs ys : List Int) : Int × Int := if rf xs ys xs.length = 0 then (0, marginTo xs ys xs.length) else (rf xs ys xs.length, 0)



end Go.Proofs.Ytbnlgmcjklfcoab
