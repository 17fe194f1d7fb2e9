/-
  No cell of these rows narrows 'for every input' (looked for: loops, veiled, ifaces, maps, wideKeys, modest, calm, conditions, laid).
  DERIVED. THE GIVEN ROWS OF THIS SEAT. 12 by the template 'for every input the law returns true; each argument reads behind the call as it read before'; 0 by the template 'total and deterministic' (their statements: YtbnlgmcjklfcoaaTotals.lean).
  GIVEN WITH THE SEED: the statements are not yours to turn. If you find one false, say at which input.
  Laid BY PROGRAM, IN A SANDBOX (cutbox-rows.mjs): the forced cells as the released guide's own fill.sh prints them over the translation 1b4cc55c82b3e194… (all of the seat's roots in one cut). By AI agents, Wed Nov 11 2026. No macro, syntax, notation, axiom, sorry.
-/
import Derived.Test.YtbnlgmcjklfcoaaChecked
import GoSem.Claim
import GoSem.ClaimJoined
import GoSem.ClaimMapViews
import Derived.JoinedTies
import Derived.KernelRfl
namespace Go.Proofs.Ytbnlgmcjklfcoaa
/- THE CELL 'sum', in the pinned program and in every row, IS THE sha256 OF THE DUMP (.gsa) THAT YtbnlgmcjklfcoaaProg.lean LOADS. Nothing in Lean hashes anything: it is a label: what it is worth is what the hold of that sum in a sandbox is worth. -/
noncomputable def Try.pinned : Pinned := { name := "ytbnlgmcjklfcoaa", sum := "1b4cc55c82b3e194f21121ce73bb8c3fb051340c42b4eda6e4b644729fbed930", checked := Try.checked }
namespace Rows
def none {H : Type} : Left H := { results := [], args := [] }

/-- 'laws.FnExactEntriesFault': WHATEVER THE INPUT: true; the input reads as it did. -/
def fnExactEntriesFaultSpec : ChangeSpec := { name := "fnExactEntriesFault", fn := fun _ => fun
  | [d1, d2] => { results := [.lit (.bool true)], args := [d1, d2] }
  | _ => none }
def fnExactEntriesFaultRow : OpenClaim := { program := "ytbnlgmcjklfcoaa", sum := "1b4cc55c82b3e194f21121ce73bb8c3fb051340c42b4eda6e4b644729fbed930", func := "loop.example/g00680/laws.FnExactEntriesFault", spec := "fnExactEntriesFault", unfollowed := true, recurses := true, apart := false }
def FnExactEntriesFaultSaid : Prop := fnExactEntriesFaultRow.holds Try.pinned (OpenSpec.ofChange fnExactEntriesFaultSpec)

/-- ITS FALSE NEIGHBOUR: 'it returns false'. Refute it at one input. -/
def fnExactEntriesFaultWrong : ChangeSpec := { name := "fnExactEntriesFault", fn := fun _ => fun
  | [d1, d2] => { results := [.lit (.bool false)], args := [d1, d2] }
  | _ => none }
def FnExactEntriesFaultWrongFalsely : Prop := fnExactEntriesFaultRow.holds Try.pinned (OpenSpec.ofChange fnExactEntriesFaultWrong)

/-- 'laws.FnExactChooseEntry': WHATEVER THE INPUT: true; the input reads as it did. -/
def fnExactChooseEntrySpec : ChangeSpec := { name := "fnExactChooseEntry", fn := fun _ => fun
  | [d1, d2, d3] => { results := [.lit (.bool true)], args := [d1, d2, d3] }
  | _ => none }
def fnExactChooseEntryRow : OpenClaim := { program := "ytbnlgmcjklfcoaa", sum := "1b4cc55c82b3e194f21121ce73bb8c3fb051340c42b4eda6e4b644729fbed930", func := "loop.example/g00680/laws.FnExactChooseEntry", spec := "fnExactChooseEntry", unfollowed := true, recurses := true, apart := false }
def FnExactChooseEntrySaid : Prop := fnExactChooseEntryRow.holds Try.pinned (OpenSpec.ofChange fnExactChooseEntrySpec)

/-- ITS FALSE NEIGHBOUR: 'it returns false'. Refute it at one input. -/
def fnExactChooseEntryWrong : ChangeSpec := { name := "fnExactChooseEntry", fn := fun _ => fun
  | [d1, d2, d3] => { results := [.lit (.bool false)], args := [d1, d2, d3] }
  | _ => none }
def FnExactChooseEntryWrongFalsely : Prop := fnExactChooseEntryRow.holds Try.pinned (OpenSpec.ofChange fnExactChooseEntryWrong)

/-- 'laws.FnExactSeedsOf': WHATEVER THE INPUT: true; the input reads as it did. -/
def fnExactSeedsOfSpec : ChangeSpec := { name := "fnExactSeedsOf", fn := fun _ => fun
  | [d1, d2] => { results := [.lit (.bool true)], args := [d1, d2] }
  | _ => none }
def fnExactSeedsOfRow : OpenClaim := { program := "ytbnlgmcjklfcoaa", sum := "1b4cc55c82b3e194f21121ce73bb8c3fb051340c42b4eda6e4b644729fbed930", func := "loop.example/g00680/laws.FnExactSeedsOf", spec := "fnExactSeedsOf", unfollowed := true, recurses := true, apart := false }
def FnExactSeedsOfSaid : Prop := fnExactSeedsOfRow.holds Try.pinned (OpenSpec.ofChange fnExactSeedsOfSpec)

/-- ITS FALSE NEIGHBOUR: 'it returns false'. Refute it at one input. -/
def fnExactSeedsOfWrong : ChangeSpec := { name := "fnExactSeedsOf", fn := fun _ => fun
  | [d1, d2] => { results := [.lit (.bool false)], args := [d1, d2] }
  | _ => none }
def FnExactSeedsOfWrongFalsely : Prop := fnExactSeedsOfRow.holds Try.pinned (OpenSpec.ofChange fnExactSeedsOfWrong)

/-- 'laws.FnExactSortAxis': WHATEVER THE INPUT: true; the input reads as it did. -/
def fnExactSortAxisSpec : ChangeSpec := { name := "fnExactSortAxis", fn := fun _ => fun
  | [d1, d2, d3] => { results := [.lit (.bool true)], args := [d1, d2, d3] }
  | _ => none }
def fnExactSortAxisRow : OpenClaim := { program := "ytbnlgmcjklfcoaa", sum := "1b4cc55c82b3e194f21121ce73bb8c3fb051340c42b4eda6e4b644729fbed930", func := "loop.example/g00680/laws.FnExactSortAxis", spec := "fnExactSortAxis", unfollowed := true, recurses := true, apart := false }
def FnExactSortAxisSaid : Prop := fnExactSortAxisRow.holds Try.pinned (OpenSpec.ofChange fnExactSortAxisSpec)

/-- ITS FALSE NEIGHBOUR: 'it returns false'. Refute it at one input. -/
def fnExactSortAxisWrong : ChangeSpec := { name := "fnExactSortAxis", fn := fun _ => fun
  | [d1, d2, d3] => { results := [.lit (.bool false)], args := [d1, d2, d3] }
  | _ => none }
def FnExactSortAxisWrongFalsely : Prop := fnExactSortAxisRow.holds Try.pinned (OpenSpec.ofChange fnExactSortAxisWrong)

/-- 'laws.FnExactNodeFault': WHATEVER THE INPUT: true; the input reads as it did. -/
def fnExactNodeFaultSpec : ChangeSpec := { name := "fnExactNodeFault", fn := fun _ => fun
  | [d1, d2] => { results := [.lit (.bool true)], args := [d1, d2] }
  | _ => none }
def fnExactNodeFaultRow : OpenClaim := { program := "ytbnlgmcjklfcoaa", sum := "1b4cc55c82b3e194f21121ce73bb8c3fb051340c42b4eda6e4b644729fbed930", func := "loop.example/g00680/laws.FnExactNodeFault", spec := "fnExactNodeFault", unfollowed := true, recurses := true, apart := false }
def FnExactNodeFaultSaid : Prop := fnExactNodeFaultRow.holds Try.pinned (OpenSpec.ofChange fnExactNodeFaultSpec)

/-- ITS FALSE NEIGHBOUR: 'it returns false'. Refute it at one input. -/
def fnExactNodeFaultWrong : ChangeSpec := { name := "fnExactNodeFault", fn := fun _ => fun
  | [d1, d2] => { results := [.lit (.bool false)], args := [d1, d2] }
  | _ => none }
def FnExactNodeFaultWrongFalsely : Prop := fnExactNodeFaultRow.holds Try.pinned (OpenSpec.ofChange fnExactNodeFaultWrong)

/-- 'laws.FnExactBoxOf': WHATEVER THE INPUT: true; the input reads as it did. -/
def fnExactBoxOfSpec : ChangeSpec := { name := "fnExactBoxOf", fn := fun _ => fun
  | [d1, d2] => { results := [.lit (.bool true)], args := [d1, d2] }
  | _ => none }
def fnExactBoxOfRow : OpenClaim := { program := "ytbnlgmcjklfcoaa", sum := "1b4cc55c82b3e194f21121ce73bb8c3fb051340c42b4eda6e4b644729fbed930", func := "loop.example/g00680/laws.FnExactBoxOf", spec := "fnExactBoxOf", unfollowed := true, recurses := true, apart := false }
def FnExactBoxOfSaid : Prop := fnExactBoxOfRow.holds Try.pinned (OpenSpec.ofChange fnExactBoxOfSpec)

/-- ITS FALSE NEIGHBOUR: 'it returns false'. Refute it at one input. -/
def fnExactBoxOfWrong : ChangeSpec := { name := "fnExactBoxOf", fn := fun _ => fun
  | [d1, d2] => { results := [.lit (.bool false)], args := [d1, d2] }
  | _ => none }
def FnExactBoxOfWrongFalsely : Prop := fnExactBoxOfRow.holds Try.pinned (OpenSpec.ofChange fnExactBoxOfWrong)

/-- 'laws.FnExactEntryFor': WHATEVER THE INPUT: true; the input reads as it did. -/
def fnExactEntryForSpec : ChangeSpec := { name := "fnExactEntryFor", fn := fun _ => fun
  | [d1, d2, d3] => { results := [.lit (.bool true)], args := [d1, d2, d3] }
  | _ => none }
def fnExactEntryForRow : OpenClaim := { program := "ytbnlgmcjklfcoaa", sum := "1b4cc55c82b3e194f21121ce73bb8c3fb051340c42b4eda6e4b644729fbed930", func := "loop.example/g00680/laws.FnExactEntryFor", spec := "fnExactEntryFor", unfollowed := true, recurses := true, apart := false }
def FnExactEntryForSaid : Prop := fnExactEntryForRow.holds Try.pinned (OpenSpec.ofChange fnExactEntryForSpec)

/-- ITS FALSE NEIGHBOUR: 'it returns false'. Refute it at one input. -/
def fnExactEntryForWrong : ChangeSpec := { name := "fnExactEntryFor", fn := fun _ => fun
  | [d1, d2, d3] => { results := [.lit (.bool false)], args := [d1, d2, d3] }
  | _ => none }
def FnExactEntryForWrongFalsely : Prop := fnExactEntryForRow.holds Try.pinned (OpenSpec.ofChange fnExactEntryForWrong)

/-- 'laws.FnExactWithEntry': WHATEVER THE INPUT: true; the input reads as it did. -/
def fnExactWithEntrySpec : ChangeSpec := { name := "fnExactWithEntry", fn := fun _ => fun
  | [d1, d2, d3] => { results := [.lit (.bool true)], args := [d1, d2, d3] }
  | _ => none }
def fnExactWithEntryRow : OpenClaim := { program := "ytbnlgmcjklfcoaa", sum := "1b4cc55c82b3e194f21121ce73bb8c3fb051340c42b4eda6e4b644729fbed930", func := "loop.example/g00680/laws.FnExactWithEntry", spec := "fnExactWithEntry", unfollowed := true, recurses := true, apart := false }
def FnExactWithEntrySaid : Prop := fnExactWithEntryRow.holds Try.pinned (OpenSpec.ofChange fnExactWithEntrySpec)

/-- ITS FALSE NEIGHBOUR: 'it returns false'. Refute it at one input. -/
def fnExactWithEntryWrong : ChangeSpec := { name := "fnExactWithEntry", fn := fun _ => fun
  | [d1, d2, d3] => { results := [.lit (.bool false)], args := [d1, d2, d3] }
  | _ => none }
def FnExactWithEntryWrongFalsely : Prop := fnExactWithEntryRow.holds Try.pinned (OpenSpec.ofChange fnExactWithEntryWrong)

/-- 'laws.FnExactWithoutEntry': WHATEVER THE INPUT: true; the input reads as it did. -/
def fnExactWithoutEntrySpec : ChangeSpec := { name := "fnExactWithoutEntry", fn := fun _ => fun
  | [d1, d2, d3] => { results := [.lit (.bool true)], args := [d1, d2, d3] }
  | _ => none }
def fnExactWithoutEntryRow : OpenClaim := { program := "ytbnlgmcjklfcoaa", sum := "1b4cc55c82b3e194f21121ce73bb8c3fb051340c42b4eda6e4b644729fbed930", func := "loop.example/g00680/laws.FnExactWithoutEntry", spec := "fnExactWithoutEntry", unfollowed := true, recurses := true, apart := false }
def FnExactWithoutEntrySaid : Prop := fnExactWithoutEntryRow.holds Try.pinned (OpenSpec.ofChange fnExactWithoutEntrySpec)

/-- ITS FALSE NEIGHBOUR: 'it returns false'. Refute it at one input. -/
def fnExactWithoutEntryWrong : ChangeSpec := { name := "fnExactWithoutEntry", fn := fun _ => fun
  | [d1, d2, d3] => { results := [.lit (.bool false)], args := [d1, d2, d3] }
  | _ => none }
def FnExactWithoutEntryWrongFalsely : Prop := fnExactWithoutEntryRow.holds Try.pinned (OpenSpec.ofChange fnExactWithoutEntryWrong)

/-- 'laws.FnExactWidenEntry': WHATEVER THE INPUT: true; the input reads as it did. -/
def fnExactWidenEntrySpec : ChangeSpec := { name := "fnExactWidenEntry", fn := fun _ => fun
  | [d1, d2, d3, d4] => { results := [.lit (.bool true)], args := [d1, d2, d3, d4] }
  | _ => none }
def fnExactWidenEntryRow : OpenClaim := { program := "ytbnlgmcjklfcoaa", sum := "1b4cc55c82b3e194f21121ce73bb8c3fb051340c42b4eda6e4b644729fbed930", func := "loop.example/g00680/laws.FnExactWidenEntry", spec := "fnExactWidenEntry", unfollowed := true, recurses := true, apart := false }
def FnExactWidenEntrySaid : Prop := fnExactWidenEntryRow.holds Try.pinned (OpenSpec.ofChange fnExactWidenEntrySpec)

/-- ITS FALSE NEIGHBOUR: 'it returns false'. Refute it at one input. -/
def fnExactWidenEntryWrong : ChangeSpec := { name := "fnExactWidenEntry", fn := fun _ => fun
  | [d1, d2, d3, d4] => { results := [.lit (.bool false)], args := [d1, d2, d3, d4] }
  | _ => none }
def FnExactWidenEntryWrongFalsely : Prop := fnExactWidenEntryRow.holds Try.pinned (OpenSpec.ofChange fnExactWidenEntryWrong)

/-- 'laws.FnExactArenaFault': WHATEVER THE INPUT: true; the input reads as it did. -/
def fnExactArenaFaultSpec : ChangeSpec := { name := "fnExactArenaFault", fn := fun _ => fun
  | [d] => { results := [.lit (.bool true)], args := [d] }
  | _ => none }
def fnExactArenaFaultRow : OpenClaim := { program := "ytbnlgmcjklfcoaa", sum := "1b4cc55c82b3e194f21121ce73bb8c3fb051340c42b4eda6e4b644729fbed930", func := "loop.example/g00680/laws.FnExactArenaFault", spec := "fnExactArenaFault", unfollowed := true, recurses := true, apart := false }
def FnExactArenaFaultSaid : Prop := fnExactArenaFaultRow.holds Try.pinned (OpenSpec.ofChange fnExactArenaFaultSpec)

/-- ITS FALSE NEIGHBOUR: 'it returns false'. Refute it at one input. -/
def fnExactArenaFaultWrong : ChangeSpec := { name := "fnExactArenaFault", fn := fun _ => fun
  | [d] => { results := [.lit (.bool false)], args := [d] }
  | _ => none }
def FnExactArenaFaultWrongFalsely : Prop := fnExactArenaFaultRow.holds Try.pinned (OpenSpec.ofChange fnExactArenaFaultWrong)

/-- 'laws.FnExactNewArena': WHATEVER THE INPUT: true; the input reads as it did. -/
def fnExactNewArenaSpec : ChangeSpec := { name := "fnExactNewArena", fn := fun _ => fun
  | [d1, d2] => { results := [.lit (.bool true)], args := [d1, d2] }
  | _ => none }
def fnExactNewArenaRow : OpenClaim := { program := "ytbnlgmcjklfcoaa", sum := "1b4cc55c82b3e194f21121ce73bb8c3fb051340c42b4eda6e4b644729fbed930", func := "loop.example/g00680/laws.FnExactNewArena", spec := "fnExactNewArena", unfollowed := true, recurses := true, apart := false }
def FnExactNewArenaSaid : Prop := fnExactNewArenaRow.holds Try.pinned (OpenSpec.ofChange fnExactNewArenaSpec)

/-- ITS FALSE NEIGHBOUR: 'it returns false'. Refute it at one input. -/
def fnExactNewArenaWrong : ChangeSpec := { name := "fnExactNewArena", fn := fun _ => fun
  | [d1, d2] => { results := [.lit (.bool false)], args := [d1, d2] }
  | _ => none }
def FnExactNewArenaWrongFalsely : Prop := fnExactNewArenaRow.holds Try.pinned (OpenSpec.ofChange fnExactNewArenaWrong)

/- THE SECOND FORM. 'bulk': how many values and letters a reading holds, each counted each time it is reached (what is shared counts as often as it is met; a slice's spare places count too). A statement '..UptoSaid' is the law's where the arguments, and the package variables that the reading takes, are together of bulk at most 1048576: NARROWER than '..Said'. Prove '..Said' where nothing that the law and all that it calls make is longer than what came in: it says more and counts as full. Else prove '..UptoSaid'. A law counts once. -/
mutual
def uptoBulk {H : Type} : DataW H → Nat
  | .lit (.string bytes) => bytes.length + 1
  | .lit _ => 1
  | .nil => 1
  | .ptr d => uptoBulk d + 1
  | .slice elems spare => uptoBulkAll elems + uptoBulkAll spare + 1
  | .agg parts => uptoBulkAll parts + 1
  | .iface _ d => uptoBulk d + 1
  | .map entries => uptoBulkEntries entries + 1
  | .held _ => 1
def uptoBulkAll {H : Type} : List (DataW H) → Nat
  | [] => 0
  | d :: r => uptoBulk d + uptoBulkAll r
def uptoBulkEntries {H : Type} : List (Lit × DataW H) → Nat
  | [] => 0
  | x :: r => uptoBulkEntry x + uptoBulkEntries r
def uptoBulkEntry {H : Type} : Lit × DataW H → Nat
  | (.string bytes, d) => bytes.length + uptoBulk d + 1
  | (_, d) => uptoBulk d + 1
 end
def uptoSmall : (H : Type) → List (DataW H) → Bool := fun _ ds => decide (uptoBulkAll ds ≤ 1048576)
def OpenSpec.upto (s : _root_.Go.ChangeSpec) : _root_.Go.OpenSpec := { _root_.Go.OpenSpec.ofChange s with cond := some uptoSmall }

/-- 'laws.FnExactEntriesFault', WHERE WHAT IT READS IS OF BULK AT MOST 1048576: true; the input reads as it did. -/
def fnExactEntriesFaultUptoRow : OpenClaim := { program := "ytbnlgmcjklfcoaa", sum := "1b4cc55c82b3e194f21121ce73bb8c3fb051340c42b4eda6e4b644729fbed930", func := "loop.example/g00680/laws.FnExactEntriesFault", spec := "fnExactEntriesFault", unfollowed := true, recurses := true, apart := false, narrowed := true }
def FnExactEntriesFaultUptoSaid : Prop := fnExactEntriesFaultUptoRow.holds Try.pinned (OpenSpec.upto fnExactEntriesFaultSpec)

/-- 'laws.FnExactChooseEntry', WHERE WHAT IT READS IS OF BULK AT MOST 1048576: true; the input reads as it did. -/
def fnExactChooseEntryUptoRow : OpenClaim := { program := "ytbnlgmcjklfcoaa", sum := "1b4cc55c82b3e194f21121ce73bb8c3fb051340c42b4eda6e4b644729fbed930", func := "loop.example/g00680/laws.FnExactChooseEntry", spec := "fnExactChooseEntry", unfollowed := true, recurses := true, apart := false, narrowed := true }
def FnExactChooseEntryUptoSaid : Prop := fnExactChooseEntryUptoRow.holds Try.pinned (OpenSpec.upto fnExactChooseEntrySpec)

/-- 'laws.FnExactSeedsOf', WHERE WHAT IT READS IS OF BULK AT MOST 1048576: true; the input reads as it did. -/
def fnExactSeedsOfUptoRow : OpenClaim := { program := "ytbnlgmcjklfcoaa", sum := "1b4cc55c82b3e194f21121ce73bb8c3fb051340c42b4eda6e4b644729fbed930", func := "loop.example/g00680/laws.FnExactSeedsOf", spec := "fnExactSeedsOf", unfollowed := true, recurses := true, apart := false, narrowed := true }
def FnExactSeedsOfUptoSaid : Prop := fnExactSeedsOfUptoRow.holds Try.pinned (OpenSpec.upto fnExactSeedsOfSpec)

/-- 'laws.FnExactSortAxis', WHERE WHAT IT READS IS OF BULK AT MOST 1048576: true; the input reads as it did. -/
def fnExactSortAxisUptoRow : OpenClaim := { program := "ytbnlgmcjklfcoaa", sum := "1b4cc55c82b3e194f21121ce73bb8c3fb051340c42b4eda6e4b644729fbed930", func := "loop.example/g00680/laws.FnExactSortAxis", spec := "fnExactSortAxis", unfollowed := true, recurses := true, apart := false, narrowed := true }
def FnExactSortAxisUptoSaid : Prop := fnExactSortAxisUptoRow.holds Try.pinned (OpenSpec.upto fnExactSortAxisSpec)

/-- 'laws.FnExactNodeFault', WHERE WHAT IT READS IS OF BULK AT MOST 1048576: true; the input reads as it did. -/
def fnExactNodeFaultUptoRow : OpenClaim := { program := "ytbnlgmcjklfcoaa", sum := "1b4cc55c82b3e194f21121ce73bb8c3fb051340c42b4eda6e4b644729fbed930", func := "loop.example/g00680/laws.FnExactNodeFault", spec := "fnExactNodeFault", unfollowed := true, recurses := true, apart := false, narrowed := true }
def FnExactNodeFaultUptoSaid : Prop := fnExactNodeFaultUptoRow.holds Try.pinned (OpenSpec.upto fnExactNodeFaultSpec)

/-- 'laws.FnExactBoxOf', WHERE WHAT IT READS IS OF BULK AT MOST 1048576: true; the input reads as it did. -/
def fnExactBoxOfUptoRow : OpenClaim := { program := "ytbnlgmcjklfcoaa", sum := "1b4cc55c82b3e194f21121ce73bb8c3fb051340c42b4eda6e4b644729fbed930", func := "loop.example/g00680/laws.FnExactBoxOf", spec := "fnExactBoxOf", unfollowed := true, recurses := true, apart := false, narrowed := true }
def FnExactBoxOfUptoSaid : Prop := fnExactBoxOfUptoRow.holds Try.pinned (OpenSpec.upto fnExactBoxOfSpec)

/-- 'laws.FnExactEntryFor', WHERE WHAT IT READS IS OF BULK AT MOST 1048576: true; the input reads as it did. -/
def fnExactEntryForUptoRow : OpenClaim := { program := "ytbnlgmcjklfcoaa", sum := "1b4cc55c82b3e194f21121ce73bb8c3fb051340c42b4eda6e4b644729fbed930", func := "loop.example/g00680/laws.FnExactEntryFor", spec := "fnExactEntryFor", unfollowed := true, recurses := true, apart := false, narrowed := true }
def FnExactEntryForUptoSaid : Prop := fnExactEntryForUptoRow.holds Try.pinned (OpenSpec.upto fnExactEntryForSpec)

/-- 'laws.FnExactWithEntry', WHERE WHAT IT READS IS OF BULK AT MOST 1048576: true; the input reads as it did. -/
def fnExactWithEntryUptoRow : OpenClaim := { program := "ytbnlgmcjklfcoaa", sum := "1b4cc55c82b3e194f21121ce73bb8c3fb051340c42b4eda6e4b644729fbed930", func := "loop.example/g00680/laws.FnExactWithEntry", spec := "fnExactWithEntry", unfollowed := true, recurses := true, apart := false, narrowed := true }
def FnExactWithEntryUptoSaid : Prop := fnExactWithEntryUptoRow.holds Try.pinned (OpenSpec.upto fnExactWithEntrySpec)

/-- 'laws.FnExactWithoutEntry', WHERE WHAT IT READS IS OF BULK AT MOST 1048576: true; the input reads as it did. -/
def fnExactWithoutEntryUptoRow : OpenClaim := { program := "ytbnlgmcjklfcoaa", sum := "1b4cc55c82b3e194f21121ce73bb8c3fb051340c42b4eda6e4b644729fbed930", func := "loop.example/g00680/laws.FnExactWithoutEntry", spec := "fnExactWithoutEntry", unfollowed := true, recurses := true, apart := false, narrowed := true }
def FnExactWithoutEntryUptoSaid : Prop := fnExactWithoutEntryUptoRow.holds Try.pinned (OpenSpec.upto fnExactWithoutEntrySpec)

/-- 'laws.FnExactWidenEntry', WHERE WHAT IT READS IS OF BULK AT MOST 1048576: true; the input reads as it did. -/
def fnExactWidenEntryUptoRow : OpenClaim := { program := "ytbnlgmcjklfcoaa", sum := "1b4cc55c82b3e194f21121ce73bb8c3fb051340c42b4eda6e4b644729fbed930", func := "loop.example/g00680/laws.FnExactWidenEntry", spec := "fnExactWidenEntry", unfollowed := true, recurses := true, apart := false, narrowed := true }
def FnExactWidenEntryUptoSaid : Prop := fnExactWidenEntryUptoRow.holds Try.pinned (OpenSpec.upto fnExactWidenEntrySpec)

/-- 'laws.FnExactArenaFault', WHERE WHAT IT READS IS OF BULK AT MOST 1048576: true; the input reads as it did. -/
def fnExactArenaFaultUptoRow : OpenClaim := { program := "ytbnlgmcjklfcoaa", sum := "1b4cc55c82b3e194f21121ce73bb8c3fb051340c42b4eda6e4b644729fbed930", func := "loop.example/g00680/laws.FnExactArenaFault", spec := "fnExactArenaFault", unfollowed := true, recurses := true, apart := false, narrowed := true }
def FnExactArenaFaultUptoSaid : Prop := fnExactArenaFaultUptoRow.holds Try.pinned (OpenSpec.upto fnExactArenaFaultSpec)

/-- 'laws.FnExactNewArena', WHERE WHAT IT READS IS OF BULK AT MOST 1048576: true; the input reads as it did. -/
def fnExactNewArenaUptoRow : OpenClaim := { program := "ytbnlgmcjklfcoaa", sum := "1b4cc55c82b3e194f21121ce73bb8c3fb051340c42b4eda6e4b644729fbed930", func := "loop.example/g00680/laws.FnExactNewArena", spec := "fnExactNewArena", unfollowed := true, recurses := true, apart := false, narrowed := true }
def FnExactNewArenaUptoSaid : Prop := fnExactNewArenaUptoRow.holds Try.pinned (OpenSpec.upto fnExactNewArenaSpec)

end Rows
end Go.Proofs.Ytbnlgmcjklfcoaa
