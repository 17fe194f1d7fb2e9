/- The walks of impl's boxes, further: area, margin, distance. For boxes whose numbers are from -1000 to 1000 (what the functions above them have asked). -/
import Derived.Test.YtpgoildfjkokiabBoxes
import Derived.IntWalk
namespace Go.Proofs.Ytpgoildfjkokiab
open Go.RowKit

theorem wrap64_in (n : Int) (h1 : -9223372036854775808 ≤ n) (h2 : n ≤ 9223372036854775807) : wrap64 n = n := by simp only [wrap64]; omega
theorem mul_le {x y a b : Int} (hx : 0 ≤ x) (hy : 0 ≤ y) (hxa : x ≤ a) (hyb : y ≤ b) : 0 ≤ x * y ∧ x * y ≤ a * b :=
  ⟨Int.mul_nonneg hx hy, Int.mul_le_mul hxa hyb hy (Int.le_trans hx hxa)⟩




/-- How far a number is from a stretch. -/
def away (l h n : Int) : Int := max (max (l - n) (n - h)) 0


end Go.Proofs.Ytpgoildfjkokiab
