/- The marks on a node of the call's own: markEntryS, markNode. Nothing but its own blocks turns. -/
import Derived.Test.YtpgoildfjkokiabMarks
import Derived.Test.YtpgoildfjkokiabNodes
namespace Go.Proofs.Ytpgoildfjkokiab
open Go.RowKit

theorem Own.size_eq {w : World} {g n m : Nat} {xs ys : List Int} (h : Own w g n xs) (h' : Own w g m ys) : n = m := by
  obtain ⟨_, c, h1, h2, _⟩ := h
  obtain ⟨_, c', h1', h2', _⟩ := h'
  rw [h1] at h1'
  injection h1' with h1'; injection h1' with h1'
  subst h1'; omega
/-- A row stays a row of as many numbers when some row is marked. -/
theorem Turned.ownAny {w w' : World} {g1 n1 gx m : Nat} {xs xs' zs : List Int} (h : Turned (fun x => x = g1) w w') (h0 : Own w g1 n1 xs) (h1 : Own w' g1 n1 xs') (hz : Own w gx m zs) : ∃ zs', Own w' gx m zs' := by
  by_cases e : gx = g1
  · subst e
    have := h0.size_eq hz
    subst this
    exact ⟨_, h1⟩
  · exact ⟨_, h.own hz e⟩




end Go.Proofs.Ytpgoildfjkokiab
