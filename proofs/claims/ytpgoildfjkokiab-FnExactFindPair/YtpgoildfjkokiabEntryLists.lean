/- The laws' helpers on lists of entries: szEntryS, toEntryS, eqEntryS. -/
import Derived.Test.YtpgoildfjkokiabEntries
import Derived.Deep.RegionHeld3
namespace Go.Proofs.Ytpgoildfjkokiab
open Go.RowKit


theorem eval_at {ps qs : List EV} {k : Nat} {p q : EV} (h : ps.map EV.val = qs.map EV.val) (hp : ps[k]? = some p) (hq : qs[k]? = some q) : p.val = q.val := by
  have h1 : (ps.map EV.val)[k]? = some p.val := by simp [hp]
  have h2 : (qs.map EV.val)[k]? = some q.val := by simp [hq]
  rw [h, h2] at h1
  injection h1 with h1; exact h1.symm





end Go.Proofs.Ytpgoildfjkokiab
