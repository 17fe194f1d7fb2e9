/- Facts of the whole program, each proved alone: the kernel needs 5 GB for it. -/
import Derived.Test.YtpgoildfjkokiaaGreatFrame6
namespace Go.Proofs.YtpgoildfjkokiaaGreat
open Go.RowKit

set_option maxHeartbeats 0
theorem fact_mayEnter : Tryz.pinned.checked.prog.mayEnter = true := by kernel_rfl

end Go.Proofs.YtpgoildfjkokiaaGreat
