/-
  No cell of these rows narrows 'for every input' (looked for: loops, veiled, ifaces, maps, wideKeys, modest, calm, conditions, laid).
  DERIVED. THE GIVEN ROWS OF THIS SEAT. 5 by the template 'for every input the law returns true; each argument reads behind the call as it read before'; 0 by the template 'total and deterministic' (their statements: YtblhcnafoejahaaTotals.lean).
  GIVEN WITH THE SEED: the statements are not yours to turn. If you find one false, say at which input.
  Laid BY PROGRAM, IN A SANDBOX (cutbox-rows.mjs): the forced cells as the released guide's own fill.sh prints them over the translation 7fa05564b2194a0c… (all of the seat's roots in one cut). By AI agents, Wed Nov 11 2026. No macro, syntax, notation, axiom, sorry.
-/
import Derived.Test.YtblhcnafoejahaaChecked
import GoSem.Claim
import GoSem.ClaimJoined
import GoSem.ClaimMapViews
import Derived.JoinedTies
import Derived.KernelRfl
namespace Go.Proofs.Ytblhcnafoejahaa
/- THE CELL 'sum', in the pinned program and in every row, IS THE sha256 OF THE DUMP (.gsa) THAT YtblhcnafoejahaaProg.lean LOADS. Nothing in Lean hashes anything: it is a label: what it is worth is what the hold of that sum in a sandbox is worth. -/
noncomputable def Try.pinned : Pinned := { name := "ytblhcnafoejahaa", sum := "7fa05564b2194a0cca1217245517b5355feafc0cfb7342d95d9195ce0b39f3c8", checked := Try.checked }
namespace Rows
def none {H : Type} : Left H := { results := [], args := [] }

/-- 'laws.FnExactNodeFault': WHATEVER THE INPUT: true; the input reads as it did. -/
def fnExactNodeFaultSpec : ChangeSpec := { name := "fnExactNodeFault", fn := fun _ => fun
  | [d1, d2] => { results := [.lit (.bool true)], args := [d1, d2] }
  | _ => none }
def fnExactNodeFaultRow : OpenClaim := { program := "ytblhcnafoejahaa", sum := "7fa05564b2194a0cca1217245517b5355feafc0cfb7342d95d9195ce0b39f3c8", func := "loop.example/g00680/laws.FnExactNodeFault", spec := "fnExactNodeFault", unfollowed := true, recurses := true, apart := false }
def FnExactNodeFaultSaid : Prop := fnExactNodeFaultRow.holds Try.pinned (OpenSpec.ofChange fnExactNodeFaultSpec)

/-- ITS FALSE NEIGHBOUR: 'it returns false'. Refute it at one input. -/
def fnExactNodeFaultWrong : ChangeSpec := { name := "fnExactNodeFault", fn := fun _ => fun
  | [d1, d2] => { results := [.lit (.bool false)], args := [d1, d2] }
  | _ => none }
def FnExactNodeFaultWrongFalsely : Prop := fnExactNodeFaultRow.holds Try.pinned (OpenSpec.ofChange fnExactNodeFaultWrong)

/-- 'laws.FnExactBoxOf': WHATEVER THE INPUT: true; the input reads as it did. -/
def fnExactBoxOfSpec : ChangeSpec := { name := "fnExactBoxOf", fn := fun _ => fun
  | [d1, d2] => { results := [.lit (.bool true)], args := [d1, d2] }
  | _ => none }
def fnExactBoxOfRow : OpenClaim := { program := "ytblhcnafoejahaa", sum := "7fa05564b2194a0cca1217245517b5355feafc0cfb7342d95d9195ce0b39f3c8", func := "loop.example/g00680/laws.FnExactBoxOf", spec := "fnExactBoxOf", unfollowed := true, recurses := true, apart := false }
def FnExactBoxOfSaid : Prop := fnExactBoxOfRow.holds Try.pinned (OpenSpec.ofChange fnExactBoxOfSpec)

/-- ITS FALSE NEIGHBOUR: 'it returns false'. Refute it at one input. -/
def fnExactBoxOfWrong : ChangeSpec := { name := "fnExactBoxOf", fn := fun _ => fun
  | [d1, d2] => { results := [.lit (.bool false)], args := [d1, d2] }
  | _ => none }
def FnExactBoxOfWrongFalsely : Prop := fnExactBoxOfRow.holds Try.pinned (OpenSpec.ofChange fnExactBoxOfWrong)

/-- 'laws.FnExactEntryFor': WHATEVER THE INPUT: true; the input reads as it did. -/
def fnExactEntryForSpec : ChangeSpec := { name := "fnExactEntryFor", fn := fun _ => fun
  | [d1, d2, d3] => { results := [.lit (.bool true)], args := [d1, d2, d3] }
  | _ => none }
def fnExactEntryForRow : OpenClaim := { program := "ytblhcnafoejahaa", sum := "7fa05564b2194a0cca1217245517b5355feafc0cfb7342d95d9195ce0b39f3c8", func := "loop.example/g00680/laws.FnExactEntryFor", spec := "fnExactEntryFor", unfollowed := true, recurses := true, apart := false }
def FnExactEntryForSaid : Prop := fnExactEntryForRow.holds Try.pinned (OpenSpec.ofChange fnExactEntryForSpec)

/-- ITS FALSE NEIGHBOUR: 'it returns false'. Refute it at one input. -/
def fnExactEntryForWrong : ChangeSpec := { name := "fnExactEntryFor", fn := fun _ => fun
  | [d1, d2, d3] => { results := [.lit (.bool false)], args := [d1, d2, d3] }
  | _ => none }
def FnExactEntryForWrongFalsely : Prop := fnExactEntryForRow.holds Try.pinned (OpenSpec.ofChange fnExactEntryForWrong)

/-- 'laws.FnExactWithoutEntry': WHATEVER THE INPUT: true; the input reads as it did. -/
def fnExactWithoutEntrySpec : ChangeSpec := { name := "fnExactWithoutEntry", fn := fun _ => fun
  | [d1, d2, d3] => { results := [.lit (.bool true)], args := [d1, d2, d3] }
  | _ => none }
def fnExactWithoutEntryRow : OpenClaim := { program := "ytblhcnafoejahaa", sum := "7fa05564b2194a0cca1217245517b5355feafc0cfb7342d95d9195ce0b39f3c8", func := "loop.example/g00680/laws.FnExactWithoutEntry", spec := "fnExactWithoutEntry", unfollowed := true, recurses := true, apart := false }
def FnExactWithoutEntrySaid : Prop := fnExactWithoutEntryRow.holds Try.pinned (OpenSpec.ofChange fnExactWithoutEntrySpec)

/-- ITS FALSE NEIGHBOUR: 'it returns false'. Refute it at one input. -/
def fnExactWithoutEntryWrong : ChangeSpec := { name := "fnExactWithoutEntry", fn := fun _ => fun
  | [d1, d2, d3] => { results := [.lit (.bool false)], args := [d1, d2, d3] }
  | _ => none }
def FnExactWithoutEntryWrongFalsely : Prop := fnExactWithoutEntryRow.holds Try.pinned (OpenSpec.ofChange fnExactWithoutEntryWrong)

/-- 'laws.FnExactNewArena': WHATEVER THE INPUT: true; the input reads as it did. -/
def fnExactNewArenaSpec : ChangeSpec := { name := "fnExactNewArena", fn := fun _ => fun
  | [d1, d2] => { results := [.lit (.bool true)], args := [d1, d2] }
  | _ => none }
def fnExactNewArenaRow : OpenClaim := { program := "ytblhcnafoejahaa", sum := "7fa05564b2194a0cca1217245517b5355feafc0cfb7342d95d9195ce0b39f3c8", func := "loop.example/g00680/laws.FnExactNewArena", spec := "fnExactNewArena", unfollowed := true, recurses := true, apart := false }
def FnExactNewArenaSaid : Prop := fnExactNewArenaRow.holds Try.pinned (OpenSpec.ofChange fnExactNewArenaSpec)

/-- ITS FALSE NEIGHBOUR: 'it returns false'. Refute it at one input. -/
def fnExactNewArenaWrong : ChangeSpec := { name := "fnExactNewArena", fn := fun _ => fun
  | [d1, d2] => { results := [.lit (.bool false)], args := [d1, d2] }
  | _ => none }
def FnExactNewArenaWrongFalsely : Prop := fnExactNewArenaRow.holds Try.pinned (OpenSpec.ofChange fnExactNewArenaWrong)

/- THE SECOND FORM. 'bulk': how many values and letters a reading holds, each counted each time it is reached (what is shared counts as often as it is met; a slice's spare places count too). A statement '..UptoSaid' is the law's where the arguments, and the package variables that the reading takes, are together of bulk at most 1048576: NARROWER than '..Said'. Prove '..Said' where nothing that the law and all that it calls make is longer than what came in: it says more and counts as full. Else prove '..UptoSaid'. A law counts once. -/
mutual
def uptoBulk {H : Type} : DataW H → Nat
  | .lit (.string bytes) => bytes.length + 1
  | .lit _ => 1
  | .nil => 1
  | .ptr d => uptoBulk d + 1
  | .slice elems spare => uptoBulkAll elems + uptoBulkAll spare + 1
  | .agg parts => uptoBulkAll parts + 1
  | .iface _ d => uptoBulk d + 1
  | .map entries => uptoBulkEntries entries + 1
  | .held _ => 1
def uptoBulkAll {H : Type} : List (DataW H) → Nat
  | [] => 0
  | d :: r => uptoBulk d + uptoBulkAll r
def uptoBulkEntries {H : Type} : List (Lit × DataW H) → Nat
  | [] => 0
  | x :: r => uptoBulkEntry x + uptoBulkEntries r
def uptoBulkEntry {H : Type} : Lit × DataW H → Nat
  | (.string bytes, d) => bytes.length + uptoBulk d + 1
  | (_, d) => uptoBulk d + 1
 end
def uptoSmall : (H : Type) → List (DataW H) → Bool := fun _ ds => decide (uptoBulkAll ds ≤ 1048576)
def OpenSpec.upto (s : _root_.Go.ChangeSpec) : _root_.Go.OpenSpec := { _root_.Go.OpenSpec.ofChange s with cond := some uptoSmall }

/-- 'laws.FnExactNodeFault', WHERE WHAT IT READS IS OF BULK AT MOST 1048576: true; the input reads as it did. -/
def fnExactNodeFaultUptoRow : OpenClaim := { program := "ytblhcnafoejahaa", sum := "7fa05564b2194a0cca1217245517b5355feafc0cfb7342d95d9195ce0b39f3c8", func := "loop.example/g00680/laws.FnExactNodeFault", spec := "fnExactNodeFault", unfollowed := true, recurses := true, apart := false, narrowed := true }
def FnExactNodeFaultUptoSaid : Prop := fnExactNodeFaultUptoRow.holds Try.pinned (OpenSpec.upto fnExactNodeFaultSpec)

/-- 'laws.FnExactBoxOf', WHERE WHAT IT READS IS OF BULK AT MOST 1048576: true; the input reads as it did. -/
def fnExactBoxOfUptoRow : OpenClaim := { program := "ytblhcnafoejahaa", sum := "7fa05564b2194a0cca1217245517b5355feafc0cfb7342d95d9195ce0b39f3c8", func := "loop.example/g00680/laws.FnExactBoxOf", spec := "fnExactBoxOf", unfollowed := true, recurses := true, apart := false, narrowed := true }
def FnExactBoxOfUptoSaid : Prop := fnExactBoxOfUptoRow.holds Try.pinned (OpenSpec.upto fnExactBoxOfSpec)

/-- 'laws.FnExactEntryFor', WHERE WHAT IT READS IS OF BULK AT MOST 1048576: true; the input reads as it did. -/
def fnExactEntryForUptoRow : OpenClaim := { program := "ytblhcnafoejahaa", sum := "7fa05564b2194a0cca1217245517b5355feafc0cfb7342d95d9195ce0b39f3c8", func := "loop.example/g00680/laws.FnExactEntryFor", spec := "fnExactEntryFor", unfollowed := true, recurses := true, apart := false, narrowed := true }
def FnExactEntryForUptoSaid : Prop := fnExactEntryForUptoRow.holds Try.pinned (OpenSpec.upto fnExactEntryForSpec)

/-- 'laws.FnExactWithoutEntry', WHERE WHAT IT READS IS OF BULK AT MOST 1048576: true; the input reads as it did. -/
def fnExactWithoutEntryUptoRow : OpenClaim := { program := "ytblhcnafoejahaa", sum := "7fa05564b2194a0cca1217245517b5355feafc0cfb7342d95d9195ce0b39f3c8", func := "loop.example/g00680/laws.FnExactWithoutEntry", spec := "fnExactWithoutEntry", unfollowed := true, recurses := true, apart := false, narrowed := true }
def FnExactWithoutEntryUptoSaid : Prop := fnExactWithoutEntryUptoRow.holds Try.pinned (OpenSpec.upto fnExactWithoutEntrySpec)

/-- 'laws.FnExactNewArena', WHERE WHAT IT READS IS OF BULK AT MOST 1048576: true; the input reads as it did. -/
def fnExactNewArenaUptoRow : OpenClaim := { program := "ytblhcnafoejahaa", sum := "7fa05564b2194a0cca1217245517b5355feafc0cfb7342d95d9195ce0b39f3c8", func := "loop.example/g00680/laws.FnExactNewArena", spec := "fnExactNewArena", unfollowed := true, recurses := true, apart := false, narrowed := true }
def FnExactNewArenaUptoSaid : Prop := fnExactNewArenaUptoRow.holds Try.pinned (OpenSpec.upto fnExactNewArenaSpec)

end Rows
end Go.Proofs.Ytblhcnafoejahaa
