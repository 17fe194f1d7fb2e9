/- Facts of the whole program, each proved alone: the kernel needs 6 GB for it. -/
import Derived.Test.YtpgoildfjkokiaaGreatFrame6
namespace Go.Proofs.YtpgoildfjkokiaaGreat
open Go.RowKit

set_option maxHeartbeats 0
theorem fact_laid : laidOutB Tryz.pinned.checked.prog = true := by kernel_rfl
theorem fact_rowed : mapsRowed Tryz.pinned.checked.prog = true := by kernel_rfl
theorem fact_heard : Tryz.pinned.checked.prog.stopsHeard = true := by kernel_rfl
theorem fact_plain : Tryz.pinned.checked.prog.plainKeys = true := by kernel_rfl

end Go.Proofs.YtpgoildfjkokiaaGreat
