/- The walk of impl.WithoutEntry. No condition but the length. -/
import Derived.Test.YtfpmbkfikfdmkaaWithout
import Derived.Test.YtfpmbkfikfdmkaaEntryFor
import Derived.Test.YtfpmbkfikfdmkaaNodeResult
namespace Go.Proofs.Ytfpmbkfikfdmkaa
open Go.RowKit

/-- An answer that is a node: with a code that is not 0 all else is zero. -/
def nrOf (cd lv ns rt : Int) (vs : List EVal) : Int × Int × Int × Int × List EVal := if cd = 0 then (0, lv, ns, rt, vs) else (cd, 0, 0, 0, [])
theorem nrOf_no {cd lv ns rt : Int} {vs : List EVal} (h : cd ≠ 0) : nrOf cd lv ns rt vs = (cd, 0, 0, 0, []) := by unfold nrOf; rw [if_neg h]
theorem nrOf_yes {cd lv ns rt : Int} {vs : List EVal} (h : cd = 0) : nrOf cd lv ns rt vs = (0, lv, ns, rt, vs) := by unfold nrOf; rw [if_pos h]
/-- What WithoutEntry answers. -/
def withoutR (lv ns rt : Int) (vs : List EVal) (d r : Int) : Int × Int × Int × Int × List EVal := nrOf (efC (nodeF lv ns rt vs d) (findE r vs)) lv ns rt (vs.eraseIdx (findE r vs).toNat)
/-- The answer R lies in memory, and owns its rows. -/
def ResPost (R : Int × Int × Int × Int × List EVal) (w : World) (e : Ending) (w' : World) : Prop :=
  ∃ A' n' c' qs, e = .returned (.agg #[.int .i64 R.1, .int .i64 R.2.1, .int .i64 R.2.2.1, .int .i64 R.2.2.2.1, .slice A' n' c']) ∧ EntriesRes w' w.heap.size A' n' c' qs ∧ qs.map EV.val = R.2.2.2.2 ∧ n' ≤ 6 ∧ Below w.heap.size w w'


end Go.Proofs.Ytfpmbkfikfdmkaa
