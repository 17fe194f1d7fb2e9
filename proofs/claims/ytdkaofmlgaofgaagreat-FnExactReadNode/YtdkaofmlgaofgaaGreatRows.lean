/-
  No cell of these rows narrows 'for every input' (looked for: loops, veiled, ifaces, maps, wideKeys, modest, calm, conditions, laid).
  DERIVED. THE GIVEN ROWS OF THIS SEAT. 12 by the template 'for every input the law returns true; each argument reads behind the call as it read before'; 0 by the template 'total and deterministic' (their statements: YtdkaofmlgaofgaaGreatTotals.lean).
  GIVEN WITH THE SEED: the statements are not yours to turn. If you find one false, say at which input.
  Laid BY PROGRAM, IN A SANDBOX (cutbox-rows.mjs): the forced cells as the released guide's own fill.sh prints them over the translation d6bbe475943517ac… (all of the seat's roots in one cut). By AI agents, Wed Nov 11 2026. No macro, syntax, notation, axiom, sorry.
-/
import Derived.Test.YtdkaofmlgaofgaaGreatChecked
import GoSem.Claim
import GoSem.ClaimJoined
import GoSem.ClaimMapViews
import Derived.JoinedTies
import Derived.KernelRfl
namespace Go.Proofs.YtdkaofmlgaofgaaGreat
/- THE CELL 'sum', in the pinned program and in every row, IS THE sha256 OF THE DUMP (.gsa) THAT YtdkaofmlgaofgaaGreatProg.lean LOADS. Nothing in Lean hashes anything: it is a label: what it is worth is what the hold of that sum in a sandbox is worth. -/
noncomputable def Tryz.pinned : Pinned := { name := "ytdkaofmlgaofgaagreat", sum := "d6bbe475943517ac4eddd5b304aa1cf376cd8f4d2211e3ee7b53d652eb840fe1", checked := Tryz.checked }
namespace Rows
def none {H : Type} : Left H := { results := [], args := [] }

/-- 'laws.FnExactReadNode': WHATEVER THE INPUT: true; the input reads as it did. -/
def fnExactReadNodeSpec : ChangeSpec := { name := "fnExactReadNode", fn := fun _ => fun
  | [d1, d2] => { results := [.lit (.bool true)], args := [d1, d2] }
  | _ => none }
def fnExactReadNodeRow : OpenClaim := { program := "ytdkaofmlgaofgaagreat", sum := "d6bbe475943517ac4eddd5b304aa1cf376cd8f4d2211e3ee7b53d652eb840fe1", func := "loop.example/g00680/laws.FnExactReadNode", spec := "fnExactReadNode", unfollowed := true, recurses := true, apart := false }
def FnExactReadNodeSaid : Prop := fnExactReadNodeRow.holds Tryz.pinned (OpenSpec.ofChange fnExactReadNodeSpec)

/-- ITS FALSE NEIGHBOUR: 'it returns false'. Refute it at one input. -/
def fnExactReadNodeWrong : ChangeSpec := { name := "fnExactReadNode", fn := fun _ => fun
  | [d1, d2] => { results := [.lit (.bool false)], args := [d1, d2] }
  | _ => none }
def FnExactReadNodeWrongFalsely : Prop := fnExactReadNodeRow.holds Tryz.pinned (OpenSpec.ofChange fnExactReadNodeWrong)

/-- 'laws.FnExactTakeNode': WHATEVER THE INPUT: true; the input reads as it did. -/
def fnExactTakeNodeSpec : ChangeSpec := { name := "fnExactTakeNode", fn := fun _ => fun
  | [d1, d2] => { results := [.lit (.bool true)], args := [d1, d2] }
  | _ => none }
def fnExactTakeNodeRow : OpenClaim := { program := "ytdkaofmlgaofgaagreat", sum := "d6bbe475943517ac4eddd5b304aa1cf376cd8f4d2211e3ee7b53d652eb840fe1", func := "loop.example/g00680/laws.FnExactTakeNode", spec := "fnExactTakeNode", unfollowed := true, recurses := true, apart := false }
def FnExactTakeNodeSaid : Prop := fnExactTakeNodeRow.holds Tryz.pinned (OpenSpec.ofChange fnExactTakeNodeSpec)

/-- ITS FALSE NEIGHBOUR: 'it returns false'. Refute it at one input. -/
def fnExactTakeNodeWrong : ChangeSpec := { name := "fnExactTakeNode", fn := fun _ => fun
  | [d1, d2] => { results := [.lit (.bool false)], args := [d1, d2] }
  | _ => none }
def FnExactTakeNodeWrongFalsely : Prop := fnExactTakeNodeRow.holds Tryz.pinned (OpenSpec.ofChange fnExactTakeNodeWrong)

/-- 'laws.FnExactWriteNode': WHATEVER THE INPUT: true; the input reads as it did. -/
def fnExactWriteNodeSpec : ChangeSpec := { name := "fnExactWriteNode", fn := fun _ => fun
  | [d1, d2, d3] => { results := [.lit (.bool true)], args := [d1, d2, d3] }
  | _ => none }
def fnExactWriteNodeRow : OpenClaim := { program := "ytdkaofmlgaofgaagreat", sum := "d6bbe475943517ac4eddd5b304aa1cf376cd8f4d2211e3ee7b53d652eb840fe1", func := "loop.example/g00680/laws.FnExactWriteNode", spec := "fnExactWriteNode", unfollowed := true, recurses := true, apart := false }
def FnExactWriteNodeSaid : Prop := fnExactWriteNodeRow.holds Tryz.pinned (OpenSpec.ofChange fnExactWriteNodeSpec)

/-- ITS FALSE NEIGHBOUR: 'it returns false'. Refute it at one input. -/
def fnExactWriteNodeWrong : ChangeSpec := { name := "fnExactWriteNode", fn := fun _ => fun
  | [d1, d2, d3] => { results := [.lit (.bool false)], args := [d1, d2, d3] }
  | _ => none }
def FnExactWriteNodeWrongFalsely : Prop := fnExactWriteNodeRow.holds Tryz.pinned (OpenSpec.ofChange fnExactWriteNodeWrong)

/-- 'laws.FnExactRetireNode': WHATEVER THE INPUT: true; the input reads as it did. -/
def fnExactRetireNodeSpec : ChangeSpec := { name := "fnExactRetireNode", fn := fun _ => fun
  | [d1, d2, d3] => { results := [.lit (.bool true)], args := [d1, d2, d3] }
  | _ => none }
def fnExactRetireNodeRow : OpenClaim := { program := "ytdkaofmlgaofgaagreat", sum := "d6bbe475943517ac4eddd5b304aa1cf376cd8f4d2211e3ee7b53d652eb840fe1", func := "loop.example/g00680/laws.FnExactRetireNode", spec := "fnExactRetireNode", unfollowed := true, recurses := true, apart := false }
def FnExactRetireNodeSaid : Prop := fnExactRetireNodeRow.holds Tryz.pinned (OpenSpec.ofChange fnExactRetireNodeSpec)

/-- ITS FALSE NEIGHBOUR: 'it returns false'. Refute it at one input. -/
def fnExactRetireNodeWrong : ChangeSpec := { name := "fnExactRetireNode", fn := fun _ => fun
  | [d1, d2, d3] => { results := [.lit (.bool false)], args := [d1, d2, d3] }
  | _ => none }
def FnExactRetireNodeWrongFalsely : Prop := fnExactRetireNodeRow.holds Tryz.pinned (OpenSpec.ofChange fnExactRetireNodeWrong)

/-- 'laws.FnExactEndWatch': WHATEVER THE INPUT: true; the input reads as it did. -/
def fnExactEndWatchSpec : ChangeSpec := { name := "fnExactEndWatch", fn := fun _ => fun
  | [d1, d2] => { results := [.lit (.bool true)], args := [d1, d2] }
  | _ => none }
def fnExactEndWatchRow : OpenClaim := { program := "ytdkaofmlgaofgaagreat", sum := "d6bbe475943517ac4eddd5b304aa1cf376cd8f4d2211e3ee7b53d652eb840fe1", func := "loop.example/g00680/laws.FnExactEndWatch", spec := "fnExactEndWatch", unfollowed := true, recurses := true, apart := false }
def FnExactEndWatchSaid : Prop := fnExactEndWatchRow.holds Tryz.pinned (OpenSpec.ofChange fnExactEndWatchSpec)

/-- ITS FALSE NEIGHBOUR: 'it returns false'. Refute it at one input. -/
def fnExactEndWatchWrong : ChangeSpec := { name := "fnExactEndWatch", fn := fun _ => fun
  | [d1, d2] => { results := [.lit (.bool false)], args := [d1, d2] }
  | _ => none }
def FnExactEndWatchWrongFalsely : Prop := fnExactEndWatchRow.holds Tryz.pinned (OpenSpec.ofChange fnExactEndWatchWrong)

/-- 'laws.FnExactTreeFault': WHATEVER THE INPUT: true; the input reads as it did. -/
def fnExactTreeFaultSpec : ChangeSpec := { name := "fnExactTreeFault", fn := fun _ => fun
  | [d] => { results := [.lit (.bool true)], args := [d] }
  | _ => none }
def fnExactTreeFaultRow : OpenClaim := { program := "ytdkaofmlgaofgaagreat", sum := "d6bbe475943517ac4eddd5b304aa1cf376cd8f4d2211e3ee7b53d652eb840fe1", func := "loop.example/g00680/laws.FnExactTreeFault", spec := "fnExactTreeFault", unfollowed := true, recurses := true, apart := false }
def FnExactTreeFaultSaid : Prop := fnExactTreeFaultRow.holds Tryz.pinned (OpenSpec.ofChange fnExactTreeFaultSpec)

/-- ITS FALSE NEIGHBOUR: 'it returns false'. Refute it at one input. -/
def fnExactTreeFaultWrong : ChangeSpec := { name := "fnExactTreeFault", fn := fun _ => fun
  | [d] => { results := [.lit (.bool false)], args := [d] }
  | _ => none }
def FnExactTreeFaultWrongFalsely : Prop := fnExactTreeFaultRow.holds Tryz.pinned (OpenSpec.ofChange fnExactTreeFaultWrong)

/-- 'laws.FnExactNewTree': WHATEVER THE INPUT: true; the input reads as it did. -/
def fnExactNewTreeSpec : ChangeSpec := { name := "fnExactNewTree", fn := fun _ => fun
  | [d1, d2, d3] => { results := [.lit (.bool true)], args := [d1, d2, d3] }
  | _ => none }
def fnExactNewTreeRow : OpenClaim := { program := "ytdkaofmlgaofgaagreat", sum := "d6bbe475943517ac4eddd5b304aa1cf376cd8f4d2211e3ee7b53d652eb840fe1", func := "loop.example/g00680/laws.FnExactNewTree", spec := "fnExactNewTree", unfollowed := true, recurses := true, apart := false }
def FnExactNewTreeSaid : Prop := fnExactNewTreeRow.holds Tryz.pinned (OpenSpec.ofChange fnExactNewTreeSpec)

/-- ITS FALSE NEIGHBOUR: 'it returns false'. Refute it at one input. -/
def fnExactNewTreeWrong : ChangeSpec := { name := "fnExactNewTree", fn := fun _ => fun
  | [d1, d2, d3] => { results := [.lit (.bool false)], args := [d1, d2, d3] }
  | _ => none }
def FnExactNewTreeWrongFalsely : Prop := fnExactNewTreeRow.holds Tryz.pinned (OpenSpec.ofChange fnExactNewTreeWrong)

/-- 'laws.FnExactHeightOf': WHATEVER THE INPUT: true; the input reads as it did. -/
def fnExactHeightOfSpec : ChangeSpec := { name := "fnExactHeightOf", fn := fun _ => fun
  | [d] => { results := [.lit (.bool true)], args := [d] }
  | _ => none }
def fnExactHeightOfRow : OpenClaim := { program := "ytdkaofmlgaofgaagreat", sum := "d6bbe475943517ac4eddd5b304aa1cf376cd8f4d2211e3ee7b53d652eb840fe1", func := "loop.example/g00680/laws.FnExactHeightOf", spec := "fnExactHeightOf", unfollowed := true, recurses := true, apart := false }
def FnExactHeightOfSaid : Prop := fnExactHeightOfRow.holds Tryz.pinned (OpenSpec.ofChange fnExactHeightOfSpec)

/-- ITS FALSE NEIGHBOUR: 'it returns false'. Refute it at one input. -/
def fnExactHeightOfWrong : ChangeSpec := { name := "fnExactHeightOf", fn := fun _ => fun
  | [d] => { results := [.lit (.bool false)], args := [d] }
  | _ => none }
def FnExactHeightOfWrongFalsely : Prop := fnExactHeightOfRow.holds Tryz.pinned (OpenSpec.ofChange fnExactHeightOfWrong)

/-- 'laws.FnExactNeedOf': WHATEVER THE INPUT: true; the input reads as it did. -/
def fnExactNeedOfSpec : ChangeSpec := { name := "fnExactNeedOf", fn := fun _ => fun
  | [d] => { results := [.lit (.bool true)], args := [d] }
  | _ => none }
def fnExactNeedOfRow : OpenClaim := { program := "ytdkaofmlgaofgaagreat", sum := "d6bbe475943517ac4eddd5b304aa1cf376cd8f4d2211e3ee7b53d652eb840fe1", func := "loop.example/g00680/laws.FnExactNeedOf", spec := "fnExactNeedOf", unfollowed := true, recurses := true, apart := false }
def FnExactNeedOfSaid : Prop := fnExactNeedOfRow.holds Tryz.pinned (OpenSpec.ofChange fnExactNeedOfSpec)

/-- ITS FALSE NEIGHBOUR: 'it returns false'. Refute it at one input. -/
def fnExactNeedOfWrong : ChangeSpec := { name := "fnExactNeedOf", fn := fun _ => fun
  | [d] => { results := [.lit (.bool false)], args := [d] }
  | _ => none }
def FnExactNeedOfWrongFalsely : Prop := fnExactNeedOfRow.holds Tryz.pinned (OpenSpec.ofChange fnExactNeedOfWrong)

/-- 'laws.FnExactReachOf': WHATEVER THE INPUT: true; the input reads as it did. -/
def fnExactReachOfSpec : ChangeSpec := { name := "fnExactReachOf", fn := fun _ => fun
  | [d] => { results := [.lit (.bool true)], args := [d] }
  | _ => none }
def fnExactReachOfRow : OpenClaim := { program := "ytdkaofmlgaofgaagreat", sum := "d6bbe475943517ac4eddd5b304aa1cf376cd8f4d2211e3ee7b53d652eb840fe1", func := "loop.example/g00680/laws.FnExactReachOf", spec := "fnExactReachOf", unfollowed := true, recurses := true, apart := false }
def FnExactReachOfSaid : Prop := fnExactReachOfRow.holds Tryz.pinned (OpenSpec.ofChange fnExactReachOfSpec)

/-- ITS FALSE NEIGHBOUR: 'it returns false'. Refute it at one input. -/
def fnExactReachOfWrong : ChangeSpec := { name := "fnExactReachOf", fn := fun _ => fun
  | [d] => { results := [.lit (.bool false)], args := [d] }
  | _ => none }
def FnExactReachOfWrongFalsely : Prop := fnExactReachOfRow.holds Tryz.pinned (OpenSpec.ofChange fnExactReachOfWrong)

/-- 'laws.FnExactPairsIn': WHATEVER THE INPUT: true; the input reads as it did. -/
def fnExactPairsInSpec : ChangeSpec := { name := "fnExactPairsIn", fn := fun _ => fun
  | [d] => { results := [.lit (.bool true)], args := [d] }
  | _ => none }
def fnExactPairsInRow : OpenClaim := { program := "ytdkaofmlgaofgaagreat", sum := "d6bbe475943517ac4eddd5b304aa1cf376cd8f4d2211e3ee7b53d652eb840fe1", func := "loop.example/g00680/laws.FnExactPairsIn", spec := "fnExactPairsIn", unfollowed := true, recurses := true, apart := false }
def FnExactPairsInSaid : Prop := fnExactPairsInRow.holds Tryz.pinned (OpenSpec.ofChange fnExactPairsInSpec)

/-- ITS FALSE NEIGHBOUR: 'it returns false'. Refute it at one input. -/
def fnExactPairsInWrong : ChangeSpec := { name := "fnExactPairsIn", fn := fun _ => fun
  | [d] => { results := [.lit (.bool false)], args := [d] }
  | _ => none }
def FnExactPairsInWrongFalsely : Prop := fnExactPairsInRow.holds Tryz.pinned (OpenSpec.ofChange fnExactPairsInWrong)

/-- 'laws.FnExactAskTree': WHATEVER THE INPUT: true; the input reads as it did. -/
def fnExactAskTreeSpec : ChangeSpec := { name := "fnExactAskTree", fn := fun _ => fun
  | [d1, d2] => { results := [.lit (.bool true)], args := [d1, d2] }
  | _ => none }
def fnExactAskTreeRow : OpenClaim := { program := "ytdkaofmlgaofgaagreat", sum := "d6bbe475943517ac4eddd5b304aa1cf376cd8f4d2211e3ee7b53d652eb840fe1", func := "loop.example/g00680/laws.FnExactAskTree", spec := "fnExactAskTree", unfollowed := true, recurses := true, apart := false }
def FnExactAskTreeSaid : Prop := fnExactAskTreeRow.holds Tryz.pinned (OpenSpec.ofChange fnExactAskTreeSpec)

/-- ITS FALSE NEIGHBOUR: 'it returns false'. Refute it at one input. -/
def fnExactAskTreeWrong : ChangeSpec := { name := "fnExactAskTree", fn := fun _ => fun
  | [d1, d2] => { results := [.lit (.bool false)], args := [d1, d2] }
  | _ => none }
def FnExactAskTreeWrongFalsely : Prop := fnExactAskTreeRow.holds Tryz.pinned (OpenSpec.ofChange fnExactAskTreeWrong)

/- THE SECOND FORM. 'bulk': how many values and letters a reading holds, each counted each time it is reached (what is shared counts as often as it is met; a slice's spare places count too). A statement '..UptoSaid' is the law's where the arguments, and the package variables that the reading takes, are together of bulk at most 1048576: NARROWER than '..Said'. Prove '..Said' where nothing that the law and all that it calls make is longer than what came in: it says more and counts as full. Else prove '..UptoSaid'. A law counts once. -/
mutual
def uptoBulk {H : Type} : DataW H → Nat
  | .lit (.string bytes) => bytes.length + 1
  | .lit _ => 1
  | .nil => 1
  | .ptr d => uptoBulk d + 1
  | .slice elems spare => uptoBulkAll elems + uptoBulkAll spare + 1
  | .agg parts => uptoBulkAll parts + 1
  | .iface _ d => uptoBulk d + 1
  | .map entries => uptoBulkEntries entries + 1
  | .held _ => 1
def uptoBulkAll {H : Type} : List (DataW H) → Nat
  | [] => 0
  | d :: r => uptoBulk d + uptoBulkAll r
def uptoBulkEntries {H : Type} : List (Lit × DataW H) → Nat
  | [] => 0
  | x :: r => uptoBulkEntry x + uptoBulkEntries r
def uptoBulkEntry {H : Type} : Lit × DataW H → Nat
  | (.string bytes, d) => bytes.length + uptoBulk d + 1
  | (_, d) => uptoBulk d + 1
 end
def uptoSmall : (H : Type) → List (DataW H) → Bool := fun _ ds => decide (uptoBulkAll ds ≤ 1048576)
def OpenSpec.upto (s : _root_.Go.ChangeSpec) : _root_.Go.OpenSpec := { _root_.Go.OpenSpec.ofChange s with cond := some uptoSmall }

/-- 'laws.FnExactReadNode', WHERE WHAT IT READS IS OF BULK AT MOST 1048576: true; the input reads as it did. -/
def fnExactReadNodeUptoRow : OpenClaim := { program := "ytdkaofmlgaofgaagreat", sum := "d6bbe475943517ac4eddd5b304aa1cf376cd8f4d2211e3ee7b53d652eb840fe1", func := "loop.example/g00680/laws.FnExactReadNode", spec := "fnExactReadNode", unfollowed := true, recurses := true, apart := false, narrowed := true }
def FnExactReadNodeUptoSaid : Prop := fnExactReadNodeUptoRow.holds Tryz.pinned (OpenSpec.upto fnExactReadNodeSpec)

/-- 'laws.FnExactTakeNode', WHERE WHAT IT READS IS OF BULK AT MOST 1048576: true; the input reads as it did. -/
def fnExactTakeNodeUptoRow : OpenClaim := { program := "ytdkaofmlgaofgaagreat", sum := "d6bbe475943517ac4eddd5b304aa1cf376cd8f4d2211e3ee7b53d652eb840fe1", func := "loop.example/g00680/laws.FnExactTakeNode", spec := "fnExactTakeNode", unfollowed := true, recurses := true, apart := false, narrowed := true }
def FnExactTakeNodeUptoSaid : Prop := fnExactTakeNodeUptoRow.holds Tryz.pinned (OpenSpec.upto fnExactTakeNodeSpec)

/-- 'laws.FnExactWriteNode', WHERE WHAT IT READS IS OF BULK AT MOST 1048576: true; the input reads as it did. -/
def fnExactWriteNodeUptoRow : OpenClaim := { program := "ytdkaofmlgaofgaagreat", sum := "d6bbe475943517ac4eddd5b304aa1cf376cd8f4d2211e3ee7b53d652eb840fe1", func := "loop.example/g00680/laws.FnExactWriteNode", spec := "fnExactWriteNode", unfollowed := true, recurses := true, apart := false, narrowed := true }
def FnExactWriteNodeUptoSaid : Prop := fnExactWriteNodeUptoRow.holds Tryz.pinned (OpenSpec.upto fnExactWriteNodeSpec)

/-- 'laws.FnExactRetireNode', WHERE WHAT IT READS IS OF BULK AT MOST 1048576: true; the input reads as it did. -/
def fnExactRetireNodeUptoRow : OpenClaim := { program := "ytdkaofmlgaofgaagreat", sum := "d6bbe475943517ac4eddd5b304aa1cf376cd8f4d2211e3ee7b53d652eb840fe1", func := "loop.example/g00680/laws.FnExactRetireNode", spec := "fnExactRetireNode", unfollowed := true, recurses := true, apart := false, narrowed := true }
def FnExactRetireNodeUptoSaid : Prop := fnExactRetireNodeUptoRow.holds Tryz.pinned (OpenSpec.upto fnExactRetireNodeSpec)

/-- 'laws.FnExactEndWatch', WHERE WHAT IT READS IS OF BULK AT MOST 1048576: true; the input reads as it did. -/
def fnExactEndWatchUptoRow : OpenClaim := { program := "ytdkaofmlgaofgaagreat", sum := "d6bbe475943517ac4eddd5b304aa1cf376cd8f4d2211e3ee7b53d652eb840fe1", func := "loop.example/g00680/laws.FnExactEndWatch", spec := "fnExactEndWatch", unfollowed := true, recurses := true, apart := false, narrowed := true }
def FnExactEndWatchUptoSaid : Prop := fnExactEndWatchUptoRow.holds Tryz.pinned (OpenSpec.upto fnExactEndWatchSpec)

/-- 'laws.FnExactTreeFault', WHERE WHAT IT READS IS OF BULK AT MOST 1048576: true; the input reads as it did. -/
def fnExactTreeFaultUptoRow : OpenClaim := { program := "ytdkaofmlgaofgaagreat", sum := "d6bbe475943517ac4eddd5b304aa1cf376cd8f4d2211e3ee7b53d652eb840fe1", func := "loop.example/g00680/laws.FnExactTreeFault", spec := "fnExactTreeFault", unfollowed := true, recurses := true, apart := false, narrowed := true }
def FnExactTreeFaultUptoSaid : Prop := fnExactTreeFaultUptoRow.holds Tryz.pinned (OpenSpec.upto fnExactTreeFaultSpec)

/-- 'laws.FnExactNewTree', WHERE WHAT IT READS IS OF BULK AT MOST 1048576: true; the input reads as it did. -/
def fnExactNewTreeUptoRow : OpenClaim := { program := "ytdkaofmlgaofgaagreat", sum := "d6bbe475943517ac4eddd5b304aa1cf376cd8f4d2211e3ee7b53d652eb840fe1", func := "loop.example/g00680/laws.FnExactNewTree", spec := "fnExactNewTree", unfollowed := true, recurses := true, apart := false, narrowed := true }
def FnExactNewTreeUptoSaid : Prop := fnExactNewTreeUptoRow.holds Tryz.pinned (OpenSpec.upto fnExactNewTreeSpec)

/-- 'laws.FnExactHeightOf', WHERE WHAT IT READS IS OF BULK AT MOST 1048576: true; the input reads as it did. -/
def fnExactHeightOfUptoRow : OpenClaim := { program := "ytdkaofmlgaofgaagreat", sum := "d6bbe475943517ac4eddd5b304aa1cf376cd8f4d2211e3ee7b53d652eb840fe1", func := "loop.example/g00680/laws.FnExactHeightOf", spec := "fnExactHeightOf", unfollowed := true, recurses := true, apart := false, narrowed := true }
def FnExactHeightOfUptoSaid : Prop := fnExactHeightOfUptoRow.holds Tryz.pinned (OpenSpec.upto fnExactHeightOfSpec)

/-- 'laws.FnExactNeedOf', WHERE WHAT IT READS IS OF BULK AT MOST 1048576: true; the input reads as it did. -/
def fnExactNeedOfUptoRow : OpenClaim := { program := "ytdkaofmlgaofgaagreat", sum := "d6bbe475943517ac4eddd5b304aa1cf376cd8f4d2211e3ee7b53d652eb840fe1", func := "loop.example/g00680/laws.FnExactNeedOf", spec := "fnExactNeedOf", unfollowed := true, recurses := true, apart := false, narrowed := true }
def FnExactNeedOfUptoSaid : Prop := fnExactNeedOfUptoRow.holds Tryz.pinned (OpenSpec.upto fnExactNeedOfSpec)

/-- 'laws.FnExactReachOf', WHERE WHAT IT READS IS OF BULK AT MOST 1048576: true; the input reads as it did. -/
def fnExactReachOfUptoRow : OpenClaim := { program := "ytdkaofmlgaofgaagreat", sum := "d6bbe475943517ac4eddd5b304aa1cf376cd8f4d2211e3ee7b53d652eb840fe1", func := "loop.example/g00680/laws.FnExactReachOf", spec := "fnExactReachOf", unfollowed := true, recurses := true, apart := false, narrowed := true }
def FnExactReachOfUptoSaid : Prop := fnExactReachOfUptoRow.holds Tryz.pinned (OpenSpec.upto fnExactReachOfSpec)

/-- 'laws.FnExactPairsIn', WHERE WHAT IT READS IS OF BULK AT MOST 1048576: true; the input reads as it did. -/
def fnExactPairsInUptoRow : OpenClaim := { program := "ytdkaofmlgaofgaagreat", sum := "d6bbe475943517ac4eddd5b304aa1cf376cd8f4d2211e3ee7b53d652eb840fe1", func := "loop.example/g00680/laws.FnExactPairsIn", spec := "fnExactPairsIn", unfollowed := true, recurses := true, apart := false, narrowed := true }
def FnExactPairsInUptoSaid : Prop := fnExactPairsInUptoRow.holds Tryz.pinned (OpenSpec.upto fnExactPairsInSpec)

/-- 'laws.FnExactAskTree', WHERE WHAT IT READS IS OF BULK AT MOST 1048576: true; the input reads as it did. -/
def fnExactAskTreeUptoRow : OpenClaim := { program := "ytdkaofmlgaofgaagreat", sum := "d6bbe475943517ac4eddd5b304aa1cf376cd8f4d2211e3ee7b53d652eb840fe1", func := "loop.example/g00680/laws.FnExactAskTree", spec := "fnExactAskTree", unfollowed := true, recurses := true, apart := false, narrowed := true }
def FnExactAskTreeUptoSaid : Prop := fnExactAskTreeUptoRow.holds Tryz.pinned (OpenSpec.upto fnExactAskTreeSpec)

end Rows
end Go.Proofs.YtdkaofmlgaofgaaGreat
