/-
  No cell of these rows narrows 'for every input' (looked for: loops, veiled, ifaces, maps, wideKeys, modest, calm, conditions, laid).
  DERIVED. THE GIVEN ROWS OF THIS SEAT. 6 by the template 'for every input the law returns true; each argument reads behind the call as it read before'; 0 by the template 'total and deterministic' (their statements: YtfpmbkfikfdmkaaTotals.lean).
  GIVEN WITH THE SEED: the statements are not yours to turn. If you find one false, say at which input.
  Laid BY PROGRAM, IN A SANDBOX (cutbox-rows.mjs): the forced cells as the released guide's own fill.sh prints them over the translation 1681931f2d5cb279… (all of the seat's roots in one cut). By AI agents, Wed Nov 11 2026. No macro, syntax, notation, axiom, sorry.
-/
import Derived.Test.YtfpmbkfikfdmkaaChecked
import GoSem.Claim
import GoSem.ClaimJoined
import GoSem.ClaimMapViews
import Derived.JoinedTies
import Derived.KernelRfl
namespace Go.Proofs.Ytfpmbkfikfdmkaa
/- THE CELL 'sum', in the pinned program and in every row, IS THE sha256 OF THE DUMP (.gsa) THAT YtfpmbkfikfdmkaaProg.lean LOADS. Nothing in Lean hashes anything: it is a label: what it is worth is what the hold of that sum in a sandbox is worth. -/
noncomputable def Try.pinned : Pinned := { name := "ytfpmbkfikfdmkaa", sum := "1681931f2d5cb2793fa88bf56557019849d7f9dc2aee524eb93e36f3214f254d", checked := Try.checked }
namespace Rows
def none {H : Type} : Left H := { results := [], args := [] }

/-- 'laws.FnBoxes': WHATEVER THE INPUT: true; the input reads as it did. -/
def fnBoxesSpec : ChangeSpec := { name := "fnBoxes", fn := fun _ => fun
  | [d] => { results := [.lit (.bool true)], args := [d] }
  | _ => none }
def fnBoxesRow : OpenClaim := { program := "ytfpmbkfikfdmkaa", sum := "1681931f2d5cb2793fa88bf56557019849d7f9dc2aee524eb93e36f3214f254d", func := "loop.example/g00680/laws.FnBoxes", spec := "fnBoxes", apart := false }
def FnBoxesSaid : Prop := fnBoxesRow.holds Try.pinned (OpenSpec.ofChange fnBoxesSpec)

/-- ITS FALSE NEIGHBOUR: 'it returns false'. Refute it at one input. -/
def fnBoxesWrong : ChangeSpec := { name := "fnBoxes", fn := fun _ => fun
  | [d] => { results := [.lit (.bool false)], args := [d] }
  | _ => none }
def FnBoxesWrongFalsely : Prop := fnBoxesRow.holds Try.pinned (OpenSpec.ofChange fnBoxesWrong)

/-- 'laws.FnAreas': WHATEVER THE INPUT: true; the input reads as it did. -/
def fnAreasSpec : ChangeSpec := { name := "fnAreas", fn := fun _ => fun
  | [d] => { results := [.lit (.bool true)], args := [d] }
  | _ => none }
def fnAreasRow : OpenClaim := { program := "ytfpmbkfikfdmkaa", sum := "1681931f2d5cb2793fa88bf56557019849d7f9dc2aee524eb93e36f3214f254d", func := "loop.example/g00680/laws.FnAreas", spec := "fnAreas", apart := false }
def FnAreasSaid : Prop := fnAreasRow.holds Try.pinned (OpenSpec.ofChange fnAreasSpec)

/-- ITS FALSE NEIGHBOUR: 'it returns false'. Refute it at one input. -/
def fnAreasWrong : ChangeSpec := { name := "fnAreas", fn := fun _ => fun
  | [d] => { results := [.lit (.bool false)], args := [d] }
  | _ => none }
def FnAreasWrongFalsely : Prop := fnAreasRow.holds Try.pinned (OpenSpec.ofChange fnAreasWrong)

/-- 'laws.FnExactSortAxis': WHATEVER THE INPUT: true; the input reads as it did. -/
def fnExactSortAxisSpec : ChangeSpec := { name := "fnExactSortAxis", fn := fun _ => fun
  | [d1, d2, d3] => { results := [.lit (.bool true)], args := [d1, d2, d3] }
  | _ => none }
def fnExactSortAxisRow : OpenClaim := { program := "ytfpmbkfikfdmkaa", sum := "1681931f2d5cb2793fa88bf56557019849d7f9dc2aee524eb93e36f3214f254d", func := "loop.example/g00680/laws.FnExactSortAxis", spec := "fnExactSortAxis", unfollowed := true, recurses := true, apart := false }
def FnExactSortAxisSaid : Prop := fnExactSortAxisRow.holds Try.pinned (OpenSpec.ofChange fnExactSortAxisSpec)

/-- ITS FALSE NEIGHBOUR: 'it returns false'. Refute it at one input. -/
def fnExactSortAxisWrong : ChangeSpec := { name := "fnExactSortAxis", fn := fun _ => fun
  | [d1, d2, d3] => { results := [.lit (.bool false)], args := [d1, d2, d3] }
  | _ => none }
def FnExactSortAxisWrongFalsely : Prop := fnExactSortAxisRow.holds Try.pinned (OpenSpec.ofChange fnExactSortAxisWrong)

/-- 'laws.FnExactAxisOf': WHATEVER THE INPUT: true; the input reads as it did. -/
def fnExactAxisOfSpec : ChangeSpec := { name := "fnExactAxisOf", fn := fun _ => fun
  | [d1, d2] => { results := [.lit (.bool true)], args := [d1, d2] }
  | _ => none }
def fnExactAxisOfRow : OpenClaim := { program := "ytfpmbkfikfdmkaa", sum := "1681931f2d5cb2793fa88bf56557019849d7f9dc2aee524eb93e36f3214f254d", func := "loop.example/g00680/laws.FnExactAxisOf", spec := "fnExactAxisOf", unfollowed := true, recurses := true, apart := false }
def FnExactAxisOfSaid : Prop := fnExactAxisOfRow.holds Try.pinned (OpenSpec.ofChange fnExactAxisOfSpec)

/-- ITS FALSE NEIGHBOUR: 'it returns false'. Refute it at one input. -/
def fnExactAxisOfWrong : ChangeSpec := { name := "fnExactAxisOf", fn := fun _ => fun
  | [d1, d2] => { results := [.lit (.bool false)], args := [d1, d2] }
  | _ => none }
def FnExactAxisOfWrongFalsely : Prop := fnExactAxisOfRow.holds Try.pinned (OpenSpec.ofChange fnExactAxisOfWrong)

/-- 'laws.FnExactWithEntry': WHATEVER THE INPUT: true; the input reads as it did. -/
def fnExactWithEntrySpec : ChangeSpec := { name := "fnExactWithEntry", fn := fun _ => fun
  | [d1, d2, d3] => { results := [.lit (.bool true)], args := [d1, d2, d3] }
  | _ => none }
def fnExactWithEntryRow : OpenClaim := { program := "ytfpmbkfikfdmkaa", sum := "1681931f2d5cb2793fa88bf56557019849d7f9dc2aee524eb93e36f3214f254d", func := "loop.example/g00680/laws.FnExactWithEntry", spec := "fnExactWithEntry", unfollowed := true, recurses := true, apart := false }
def FnExactWithEntrySaid : Prop := fnExactWithEntryRow.holds Try.pinned (OpenSpec.ofChange fnExactWithEntrySpec)

/-- ITS FALSE NEIGHBOUR: 'it returns false'. Refute it at one input. -/
def fnExactWithEntryWrong : ChangeSpec := { name := "fnExactWithEntry", fn := fun _ => fun
  | [d1, d2, d3] => { results := [.lit (.bool false)], args := [d1, d2, d3] }
  | _ => none }
def FnExactWithEntryWrongFalsely : Prop := fnExactWithEntryRow.holds Try.pinned (OpenSpec.ofChange fnExactWithEntryWrong)

/-- 'laws.FnExactWidenEntry': WHATEVER THE INPUT: true; the input reads as it did. -/
def fnExactWidenEntrySpec : ChangeSpec := { name := "fnExactWidenEntry", fn := fun _ => fun
  | [d1, d2, d3, d4] => { results := [.lit (.bool true)], args := [d1, d2, d3, d4] }
  | _ => none }
def fnExactWidenEntryRow : OpenClaim := { program := "ytfpmbkfikfdmkaa", sum := "1681931f2d5cb2793fa88bf56557019849d7f9dc2aee524eb93e36f3214f254d", func := "loop.example/g00680/laws.FnExactWidenEntry", spec := "fnExactWidenEntry", unfollowed := true, recurses := true, apart := false }
def FnExactWidenEntrySaid : Prop := fnExactWidenEntryRow.holds Try.pinned (OpenSpec.ofChange fnExactWidenEntrySpec)

/-- ITS FALSE NEIGHBOUR: 'it returns false'. Refute it at one input. -/
def fnExactWidenEntryWrong : ChangeSpec := { name := "fnExactWidenEntry", fn := fun _ => fun
  | [d1, d2, d3, d4] => { results := [.lit (.bool false)], args := [d1, d2, d3, d4] }
  | _ => none }
def FnExactWidenEntryWrongFalsely : Prop := fnExactWidenEntryRow.holds Try.pinned (OpenSpec.ofChange fnExactWidenEntryWrong)

/- THE SECOND FORM. 'bulk': how many values and letters a reading holds, each counted each time it is reached (what is shared counts as often as it is met; a slice's spare places count too). A statement '..UptoSaid' is the law's where the arguments, and the package variables that the reading takes, are together of bulk at most 1048576: NARROWER than '..Said'. Prove '..Said' where nothing that the law and all that it calls make is longer than what came in: it says more and counts as full. Else prove '..UptoSaid'. A law counts once. -/
mutual
def uptoBulk {H : Type} : DataW H → Nat
  | .lit (.string bytes) => bytes.length + 1
  | .lit _ => 1
  | .nil => 1
  | .ptr d => uptoBulk d + 1
  | .slice elems spare => uptoBulkAll elems + uptoBulkAll spare + 1
  | .agg parts => uptoBulkAll parts + 1
  | .iface _ d => uptoBulk d + 1
  | .map entries => uptoBulkEntries entries + 1
  | .held _ => 1
def uptoBulkAll {H : Type} : List (DataW H) → Nat
  | [] => 0
  | d :: r => uptoBulk d + uptoBulkAll r
def uptoBulkEntries {H : Type} : List (Lit × DataW H) → Nat
  | [] => 0
  | x :: r => uptoBulkEntry x + uptoBulkEntries r
def uptoBulkEntry {H : Type} : Lit × DataW H → Nat
  | (.string bytes, d) => bytes.length + uptoBulk d + 1
  | (_, d) => uptoBulk d + 1
 end
def uptoSmall : (H : Type) → List (DataW H) → Bool := fun _ ds => decide (uptoBulkAll ds ≤ 1048576)
def OpenSpec.upto (s : _root_.Go.ChangeSpec) : _root_.Go.OpenSpec := { _root_.Go.OpenSpec.ofChange s with cond := some uptoSmall }

/-- 'laws.FnBoxes', WHERE WHAT IT READS IS OF BULK AT MOST 1048576: true; the input reads as it did. -/
def fnBoxesUptoRow : OpenClaim := { program := "ytfpmbkfikfdmkaa", sum := "1681931f2d5cb2793fa88bf56557019849d7f9dc2aee524eb93e36f3214f254d", func := "loop.example/g00680/laws.FnBoxes", spec := "fnBoxes", apart := false, narrowed := true }
def FnBoxesUptoSaid : Prop := fnBoxesUptoRow.holds Try.pinned (OpenSpec.upto fnBoxesSpec)

/-- 'laws.FnAreas', WHERE WHAT IT READS IS OF BULK AT MOST 1048576: true; the input reads as it did. -/
def fnAreasUptoRow : OpenClaim := { program := "ytfpmbkfikfdmkaa", sum := "1681931f2d5cb2793fa88bf56557019849d7f9dc2aee524eb93e36f3214f254d", func := "loop.example/g00680/laws.FnAreas", spec := "fnAreas", apart := false, narrowed := true }
def FnAreasUptoSaid : Prop := fnAreasUptoRow.holds Try.pinned (OpenSpec.upto fnAreasSpec)

/-- 'laws.FnExactSortAxis', WHERE WHAT IT READS IS OF BULK AT MOST 1048576: true; the input reads as it did. -/
def fnExactSortAxisUptoRow : OpenClaim := { program := "ytfpmbkfikfdmkaa", sum := "1681931f2d5cb2793fa88bf56557019849d7f9dc2aee524eb93e36f3214f254d", func := "loop.example/g00680/laws.FnExactSortAxis", spec := "fnExactSortAxis", unfollowed := true, recurses := true, apart := false, narrowed := true }
def FnExactSortAxisUptoSaid : Prop := fnExactSortAxisUptoRow.holds Try.pinned (OpenSpec.upto fnExactSortAxisSpec)

/-- 'laws.FnExactAxisOf', WHERE WHAT IT READS IS OF BULK AT MOST 1048576: true; the input reads as it did. -/
def fnExactAxisOfUptoRow : OpenClaim := { program := "ytfpmbkfikfdmkaa", sum := "1681931f2d5cb2793fa88bf56557019849d7f9dc2aee524eb93e36f3214f254d", func := "loop.example/g00680/laws.FnExactAxisOf", spec := "fnExactAxisOf", unfollowed := true, recurses := true, apart := false, narrowed := true }
def FnExactAxisOfUptoSaid : Prop := fnExactAxisOfUptoRow.holds Try.pinned (OpenSpec.upto fnExactAxisOfSpec)

/-- 'laws.FnExactWithEntry', WHERE WHAT IT READS IS OF BULK AT MOST 1048576: true; the input reads as it did. -/
def fnExactWithEntryUptoRow : OpenClaim := { program := "ytfpmbkfikfdmkaa", sum := "1681931f2d5cb2793fa88bf56557019849d7f9dc2aee524eb93e36f3214f254d", func := "loop.example/g00680/laws.FnExactWithEntry", spec := "fnExactWithEntry", unfollowed := true, recurses := true, apart := false, narrowed := true }
def FnExactWithEntryUptoSaid : Prop := fnExactWithEntryUptoRow.holds Try.pinned (OpenSpec.upto fnExactWithEntrySpec)

/-- 'laws.FnExactWidenEntry', WHERE WHAT IT READS IS OF BULK AT MOST 1048576: true; the input reads as it did. -/
def fnExactWidenEntryUptoRow : OpenClaim := { program := "ytfpmbkfikfdmkaa", sum := "1681931f2d5cb2793fa88bf56557019849d7f9dc2aee524eb93e36f3214f254d", func := "loop.example/g00680/laws.FnExactWidenEntry", spec := "fnExactWidenEntry", unfollowed := true, recurses := true, apart := false, narrowed := true }
def FnExactWidenEntryUptoSaid : Prop := fnExactWidenEntryUptoRow.holds Try.pinned (OpenSpec.upto fnExactWidenEntrySpec)

end Rows
end Go.Proofs.Ytfpmbkfikfdmkaa
