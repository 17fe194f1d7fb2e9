/- The laws' helpers on lists of pairs: szPairS, toPairS, eqPairS. -/
import Derived.Test.YtblhcnafoejahaaGreatPairs
import Derived.Deep.RegionHeld3
namespace Go.Proofs.YtblhcnafoejahaaGreat
open Go.RowKit


theorem val_at {ps qs : List PV} {k : Nat} {p q : PV} (h : ps.map PV.val = qs.map PV.val) (hp : ps[k]? = some p) (hq : qs[k]? = some q) : p.val = q.val := by
  have h1 : (ps.map PV.val)[k]? = some p.val := by simp [hp]
  have h2 : (qs.map PV.val)[k]? = some q.val := by simp [hq]
  rw [h, h2] at h1
  injection h1 with h1; exact h1.symm





end Go.Proofs.YtblhcnafoejahaaGreat
