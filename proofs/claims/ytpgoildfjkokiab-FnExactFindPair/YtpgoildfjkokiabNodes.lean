/- The laws' helpers on one node: szNode, toNode, eqNode. -/
import Derived.Test.YtpgoildfjkokiabEntryLists
namespace Go.Proofs.Ytpgoildfjkokiab
open Go.RowKit

/-- Each entry of the list is small. -/
def SmallE (l : Int) (ps : List EV) : Prop := ∀ (k : Nat) (p : EV), ps[k]? = some p → (p.n1 : Int) + p.n2 ≤ l
theorem SmallE.two {l : Int} {ps : List EV} (h : SmallE l ps) (hl : l ≤ 1048576) : ∀ (k : Nat) (p : EV), ps[k]? = some p → p.n1 ≤ 1048576 ∧ p.n2 ≤ 1048576 := by
  intro k p hk
  have := h k p hk
  exact ⟨by omega, by omega⟩




end Go.Proofs.Ytpgoildfjkokiab
