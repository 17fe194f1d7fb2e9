/- Facts of the whole program, each proved alone: the kernel needs 4 GB for it. -/
import Derived.Test.YtpgoildfjkokiaaGreatFrame6
namespace Go.Proofs.YtpgoildfjkokiaaGreat
open Go.RowKit

set_option maxHeartbeats 0
theorem fact_made : Tryz.pinned.checked.prog.make = some .cut := by kernel_rfl

end Go.Proofs.YtpgoildfjkokiaaGreat
