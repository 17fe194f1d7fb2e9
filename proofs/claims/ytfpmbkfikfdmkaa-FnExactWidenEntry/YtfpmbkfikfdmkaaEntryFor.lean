/- The walks of spec.EntryFor and impl.EntryFor. No condition but the length. -/
import Derived.Test.YtfpmbkfikfdmkaaSpecNodeFault
import Derived.Test.YtfpmbkfikfdmkaaReadNode
namespace Go.Proofs.Ytfpmbkfikfdmkaa
open Go.RowKit

/-- EntryFor's code and value: of a fault, and of the place that was found. -/
def efC (f i : Int) : Int := if f ≠ 0 then f else if i < 0 then 4 else 0
def efV (f i : Int) : Int := if f ≠ 0 then 0 else if i < 0 then 0 else i



end Go.Proofs.Ytfpmbkfikfdmkaa
