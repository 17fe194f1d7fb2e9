/- The walks of impl's boxes (arrays of two corners): union, common, meets, area, margin, distance, for every number. -/
import Derived.Test.YtpgoildfjkokiaaGreatRects
import Derived.LoopN
import Derived.RegionTactic
import Derived.BigRegion
import Derived.IntWalk
namespace Go.Proofs.YtpgoildfjkokiaaGreat
open Go.RowKit

theorem if_min (a b : Int) : (if b < a then b else a) = min a b := by omega
theorem if_max (a b : Int) : (if a < b then b else a) = max a b := by omega



/-- In each dimension neither Low is above the other one's High. -/
def boxMeets (a0 a1 a2 a3 a4 a5 : Int) (b0 b1 b2 b3 b4 b5 : Int) : Bool := decide (a0 ≤ b3) && decide (b0 ≤ a3) && decide (a1 ≤ b4) && decide (b1 ≤ a4) && decide (a2 ≤ b5) && decide (b2 ≤ a5)


end Go.Proofs.YtpgoildfjkokiaaGreat

/- The walks of impl's boxes, further: area, margin, distance. For boxes whose numbers are from -1000 to 1000 (what the functions above them have asked). -/
namespace Go.Proofs.YtpgoildfjkokiaaGreat
open Go.RowKit

theorem wrap64_in (n : Int) (h1 : -9223372036854775808 ≤ n) (h2 : n ≤ 9223372036854775807) : wrap64 n = n := by simp only [wrap64]; omega
theorem mul_le {x y a b : Int} (hx : 0 ≤ x) (hy : 0 ≤ y) (hxa : x ≤ a) (hyb : y ≤ b) : 0 ≤ x * y ∧ x * y ≤ a * b :=
  ⟨Int.mul_nonneg hx hy, Int.mul_le_mul hxa hyb hy (Int.le_trans hx hxa)⟩




/-- How far a number is from a stretch. -/
def away (l h n : Int) : Int := max (max (l - n) (n - h)) 0


end Go.Proofs.YtpgoildfjkokiaaGreat
