/-
  No cell of these rows narrows 'for every input' (looked for: loops, veiled, ifaces, maps, wideKeys, modest, calm, conditions, laid).
  DERIVED. THE GIVEN ROWS OF THIS SEAT. 6 by the template 'for every input the law returns true; each argument reads behind the call as it read before'; 0 by the template 'total and deterministic' (their statements: YtmoogdlbfadnaaaTotals.lean).
  GIVEN WITH THE SEED: the statements are not yours to turn. If you find one false, say at which input.
  Laid BY PROGRAM, IN A SANDBOX (cutbox-rows.mjs): the forced cells as the released guide's own fill.sh prints them over the translation 5ffb637ef26f1df0… (all of the seat's roots in one cut). By AI agents, Wed Nov 11 2026. No macro, syntax, notation, axiom, sorry.
-/
import Derived.Test.YtmoogdlbfadnaaaChecked
import GoSem.Claim
import GoSem.ClaimJoined
import GoSem.ClaimMapViews
import Derived.JoinedTies
import Derived.KernelRfl
namespace Go.Proofs.Ytmoogdlbfadnaaa
/- THE CELL 'sum', in the pinned program and in every row, IS THE sha256 OF THE DUMP (.gsa) THAT YtmoogdlbfadnaaaProg.lean LOADS. Nothing in Lean hashes anything: it is a label: what it is worth is what the hold of that sum in a sandbox is worth. -/
noncomputable def Try.pinned : Pinned := { name := "ytmoogdlbfadnaaa", sum := "5ffb637ef26f1df0d7421b238eefd1686cbcf5b33ba4089b8c0094ba6d28ee9e", checked := Try.checked }
namespace Rows
def none {H : Type} : Left H := { results := [], args := [] }

/-- 'laws.FnExactWidenEntry': WHATEVER THE INPUT: true; the input reads as it did. -/
def fnExactWidenEntrySpec : ChangeSpec := { name := "fnExactWidenEntry", fn := fun _ => fun
  | [d1, d2, d3, d4] => { results := [.lit (.bool true)], args := [d1, d2, d3, d4] }
  | _ => none }
def fnExactWidenEntryRow : OpenClaim := { program := "ytmoogdlbfadnaaa", sum := "5ffb637ef26f1df0d7421b238eefd1686cbcf5b33ba4089b8c0094ba6d28ee9e", func := "loop.example/g00680/laws.FnExactWidenEntry", spec := "fnExactWidenEntry", unfollowed := true, recurses := true, apart := false }
def FnExactWidenEntrySaid : Prop := fnExactWidenEntryRow.holds Try.pinned (OpenSpec.ofChange fnExactWidenEntrySpec)

/-- ITS FALSE NEIGHBOUR: 'it returns false'. Refute it at one input. -/
def fnExactWidenEntryWrong : ChangeSpec := { name := "fnExactWidenEntry", fn := fun _ => fun
  | [d1, d2, d3, d4] => { results := [.lit (.bool false)], args := [d1, d2, d3, d4] }
  | _ => none }
def FnExactWidenEntryWrongFalsely : Prop := fnExactWidenEntryRow.holds Try.pinned (OpenSpec.ofChange fnExactWidenEntryWrong)

/-- 'laws.FnExactArenaFault': WHATEVER THE INPUT: true; the input reads as it did. -/
def fnExactArenaFaultSpec : ChangeSpec := { name := "fnExactArenaFault", fn := fun _ => fun
  | [d] => { results := [.lit (.bool true)], args := [d] }
  | _ => none }
def fnExactArenaFaultRow : OpenClaim := { program := "ytmoogdlbfadnaaa", sum := "5ffb637ef26f1df0d7421b238eefd1686cbcf5b33ba4089b8c0094ba6d28ee9e", func := "loop.example/g00680/laws.FnExactArenaFault", spec := "fnExactArenaFault", unfollowed := true, recurses := true, apart := false }
def FnExactArenaFaultSaid : Prop := fnExactArenaFaultRow.holds Try.pinned (OpenSpec.ofChange fnExactArenaFaultSpec)

/-- ITS FALSE NEIGHBOUR: 'it returns false'. Refute it at one input. -/
def fnExactArenaFaultWrong : ChangeSpec := { name := "fnExactArenaFault", fn := fun _ => fun
  | [d] => { results := [.lit (.bool false)], args := [d] }
  | _ => none }
def FnExactArenaFaultWrongFalsely : Prop := fnExactArenaFaultRow.holds Try.pinned (OpenSpec.ofChange fnExactArenaFaultWrong)

/-- 'laws.FnExactNewArena': WHATEVER THE INPUT: true; the input reads as it did. -/
def fnExactNewArenaSpec : ChangeSpec := { name := "fnExactNewArena", fn := fun _ => fun
  | [d1, d2] => { results := [.lit (.bool true)], args := [d1, d2] }
  | _ => none }
def fnExactNewArenaRow : OpenClaim := { program := "ytmoogdlbfadnaaa", sum := "5ffb637ef26f1df0d7421b238eefd1686cbcf5b33ba4089b8c0094ba6d28ee9e", func := "loop.example/g00680/laws.FnExactNewArena", spec := "fnExactNewArena", unfollowed := true, recurses := true, apart := false }
def FnExactNewArenaSaid : Prop := fnExactNewArenaRow.holds Try.pinned (OpenSpec.ofChange fnExactNewArenaSpec)

/-- ITS FALSE NEIGHBOUR: 'it returns false'. Refute it at one input. -/
def fnExactNewArenaWrong : ChangeSpec := { name := "fnExactNewArena", fn := fun _ => fun
  | [d1, d2] => { results := [.lit (.bool false)], args := [d1, d2] }
  | _ => none }
def FnExactNewArenaWrongFalsely : Prop := fnExactNewArenaRow.holds Try.pinned (OpenSpec.ofChange fnExactNewArenaWrong)

/-- 'laws.FnExactFindPair': WHATEVER THE INPUT: true; the input reads as it did. -/
def fnExactFindPairSpec : ChangeSpec := { name := "fnExactFindPair", fn := fun _ => fun
  | [d1, d2, d3] => { results := [.lit (.bool true)], args := [d1, d2, d3] }
  | _ => none }
def fnExactFindPairRow : OpenClaim := { program := "ytmoogdlbfadnaaa", sum := "5ffb637ef26f1df0d7421b238eefd1686cbcf5b33ba4089b8c0094ba6d28ee9e", func := "loop.example/g00680/laws.FnExactFindPair", spec := "fnExactFindPair", apart := false }
def FnExactFindPairSaid : Prop := fnExactFindPairRow.holds Try.pinned (OpenSpec.ofChange fnExactFindPairSpec)

/-- ITS FALSE NEIGHBOUR: 'it returns false'. Refute it at one input. -/
def fnExactFindPairWrong : ChangeSpec := { name := "fnExactFindPair", fn := fun _ => fun
  | [d1, d2, d3] => { results := [.lit (.bool false)], args := [d1, d2, d3] }
  | _ => none }
def FnExactFindPairWrongFalsely : Prop := fnExactFindPairRow.holds Try.pinned (OpenSpec.ofChange fnExactFindPairWrong)

/-- 'laws.FnExactAddPair': WHATEVER THE INPUT: true; the input reads as it did. -/
def fnExactAddPairSpec : ChangeSpec := { name := "fnExactAddPair", fn := fun _ => fun
  | [d1, d2, d3] => { results := [.lit (.bool true)], args := [d1, d2, d3] }
  | _ => none }
def fnExactAddPairRow : OpenClaim := { program := "ytmoogdlbfadnaaa", sum := "5ffb637ef26f1df0d7421b238eefd1686cbcf5b33ba4089b8c0094ba6d28ee9e", func := "loop.example/g00680/laws.FnExactAddPair", spec := "fnExactAddPair", unfollowed := true, recurses := true, apart := false }
def FnExactAddPairSaid : Prop := fnExactAddPairRow.holds Try.pinned (OpenSpec.ofChange fnExactAddPairSpec)

/-- ITS FALSE NEIGHBOUR: 'it returns false'. Refute it at one input. -/
def fnExactAddPairWrong : ChangeSpec := { name := "fnExactAddPair", fn := fun _ => fun
  | [d1, d2, d3] => { results := [.lit (.bool false)], args := [d1, d2, d3] }
  | _ => none }
def FnExactAddPairWrongFalsely : Prop := fnExactAddPairRow.holds Try.pinned (OpenSpec.ofChange fnExactAddPairWrong)

/-- 'laws.FnExactTakePair': WHATEVER THE INPUT: true; the input reads as it did. -/
def fnExactTakePairSpec : ChangeSpec := { name := "fnExactTakePair", fn := fun _ => fun
  | [d1, d2, d3] => { results := [.lit (.bool true)], args := [d1, d2, d3] }
  | _ => none }
def fnExactTakePairRow : OpenClaim := { program := "ytmoogdlbfadnaaa", sum := "5ffb637ef26f1df0d7421b238eefd1686cbcf5b33ba4089b8c0094ba6d28ee9e", func := "loop.example/g00680/laws.FnExactTakePair", spec := "fnExactTakePair", unfollowed := true, recurses := true, apart := false }
def FnExactTakePairSaid : Prop := fnExactTakePairRow.holds Try.pinned (OpenSpec.ofChange fnExactTakePairSpec)

/-- ITS FALSE NEIGHBOUR: 'it returns false'. Refute it at one input. -/
def fnExactTakePairWrong : ChangeSpec := { name := "fnExactTakePair", fn := fun _ => fun
  | [d1, d2, d3] => { results := [.lit (.bool false)], args := [d1, d2, d3] }
  | _ => none }
def FnExactTakePairWrongFalsely : Prop := fnExactTakePairRow.holds Try.pinned (OpenSpec.ofChange fnExactTakePairWrong)

/- THE SECOND FORM. 'bulk': how many values and letters a reading holds, each counted each time it is reached (what is shared counts as often as it is met; a slice's spare places count too). A statement '..UptoSaid' is the law's where the arguments, and the package variables that the reading takes, are together of bulk at most 1048576: NARROWER than '..Said'. Prove '..Said' where nothing that the law and all that it calls make is longer than what came in: it says more and counts as full. Else prove '..UptoSaid'. A law counts once. -/
mutual
def uptoBulk {H : Type} : DataW H → Nat
  | .lit (.string bytes) => bytes.length + 1
  | .lit _ => 1
  | .nil => 1
  | .ptr d => uptoBulk d + 1
  | .slice elems spare => uptoBulkAll elems + uptoBulkAll spare + 1
  | .agg parts => uptoBulkAll parts + 1
  | .iface _ d => uptoBulk d + 1
  | .map entries => uptoBulkEntries entries + 1
  | .held _ => 1
def uptoBulkAll {H : Type} : List (DataW H) → Nat
  | [] => 0
  | d :: r => uptoBulk d + uptoBulkAll r
def uptoBulkEntries {H : Type} : List (Lit × DataW H) → Nat
  | [] => 0
  | x :: r => uptoBulkEntry x + uptoBulkEntries r
def uptoBulkEntry {H : Type} : Lit × DataW H → Nat
  | (.string bytes, d) => bytes.length + uptoBulk d + 1
  | (_, d) => uptoBulk d + 1
 end
def uptoSmall : (H : Type) → List (DataW H) → Bool := fun _ ds => decide (uptoBulkAll ds ≤ 1048576)
def OpenSpec.upto (s : _root_.Go.ChangeSpec) : _root_.Go.OpenSpec := { _root_.Go.OpenSpec.ofChange s with cond := some uptoSmall }

/-- 'laws.FnExactWidenEntry', WHERE WHAT IT READS IS OF BULK AT MOST 1048576: true; the input reads as it did. -/
def fnExactWidenEntryUptoRow : OpenClaim := { program := "ytmoogdlbfadnaaa", sum := "5ffb637ef26f1df0d7421b238eefd1686cbcf5b33ba4089b8c0094ba6d28ee9e", func := "loop.example/g00680/laws.FnExactWidenEntry", spec := "fnExactWidenEntry", unfollowed := true, recurses := true, apart := false, narrowed := true }
def FnExactWidenEntryUptoSaid : Prop := fnExactWidenEntryUptoRow.holds Try.pinned (OpenSpec.upto fnExactWidenEntrySpec)

/-- 'laws.FnExactArenaFault', WHERE WHAT IT READS IS OF BULK AT MOST 1048576: true; the input reads as it did. -/
def fnExactArenaFaultUptoRow : OpenClaim := { program := "ytmoogdlbfadnaaa", sum := "5ffb637ef26f1df0d7421b238eefd1686cbcf5b33ba4089b8c0094ba6d28ee9e", func := "loop.example/g00680/laws.FnExactArenaFault", spec := "fnExactArenaFault", unfollowed := true, recurses := true, apart := false, narrowed := true }
def FnExactArenaFaultUptoSaid : Prop := fnExactArenaFaultUptoRow.holds Try.pinned (OpenSpec.upto fnExactArenaFaultSpec)

/-- 'laws.FnExactNewArena', WHERE WHAT IT READS IS OF BULK AT MOST 1048576: true; the input reads as it did. -/
def fnExactNewArenaUptoRow : OpenClaim := { program := "ytmoogdlbfadnaaa", sum := "5ffb637ef26f1df0d7421b238eefd1686cbcf5b33ba4089b8c0094ba6d28ee9e", func := "loop.example/g00680/laws.FnExactNewArena", spec := "fnExactNewArena", unfollowed := true, recurses := true, apart := false, narrowed := true }
def FnExactNewArenaUptoSaid : Prop := fnExactNewArenaUptoRow.holds Try.pinned (OpenSpec.upto fnExactNewArenaSpec)

/-- 'laws.FnExactFindPair', WHERE WHAT IT READS IS OF BULK AT MOST 1048576: true; the input reads as it did. -/
def fnExactFindPairUptoRow : OpenClaim := { program := "ytmoogdlbfadnaaa", sum := "5ffb637ef26f1df0d7421b238eefd1686cbcf5b33ba4089b8c0094ba6d28ee9e", func := "loop.example/g00680/laws.FnExactFindPair", spec := "fnExactFindPair", apart := false, narrowed := true }
def FnExactFindPairUptoSaid : Prop := fnExactFindPairUptoRow.holds Try.pinned (OpenSpec.upto fnExactFindPairSpec)

/-- 'laws.FnExactAddPair', WHERE WHAT IT READS IS OF BULK AT MOST 1048576: true; the input reads as it did. -/
def fnExactAddPairUptoRow : OpenClaim := { program := "ytmoogdlbfadnaaa", sum := "5ffb637ef26f1df0d7421b238eefd1686cbcf5b33ba4089b8c0094ba6d28ee9e", func := "loop.example/g00680/laws.FnExactAddPair", spec := "fnExactAddPair", unfollowed := true, recurses := true, apart := false, narrowed := true }
def FnExactAddPairUptoSaid : Prop := fnExactAddPairUptoRow.holds Try.pinned (OpenSpec.upto fnExactAddPairSpec)

/-- 'laws.FnExactTakePair', WHERE WHAT IT READS IS OF BULK AT MOST 1048576: true; the input reads as it did. -/
def fnExactTakePairUptoRow : OpenClaim := { program := "ytmoogdlbfadnaaa", sum := "5ffb637ef26f1df0d7421b238eefd1686cbcf5b33ba4089b8c0094ba6d28ee9e", func := "loop.example/g00680/laws.FnExactTakePair", spec := "fnExactTakePair", unfollowed := true, recurses := true, apart := false, narrowed := true }
def FnExactTakePairUptoSaid : Prop := fnExactTakePairUptoRow.holds Try.pinned (OpenSpec.upto fnExactTakePairSpec)

end Rows
end Go.Proofs.Ytmoogdlbfadnaaa
