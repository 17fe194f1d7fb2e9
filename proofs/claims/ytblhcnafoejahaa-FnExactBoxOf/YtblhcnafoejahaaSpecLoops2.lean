/- The walks of the model's further loops over dimensions: spec.l1Margin, l1Overlap, l1Dist. For boxes without a fault. -/
import Derived.Test.YtblhcnafoejahaaSpecLoops
namespace Go.Proofs.Ytblhcnafoejahaa
open Go.RowKit



theorem distTo_bd {xs ys ps : List Int} {n : Nat} (h : Right xs ys n) (hp : allIn (-1000) 1000 ps = true) (hl : ps.length = n) : ∀ k, k ≤ n → 0 ≤ distTo xs ys ps k ∧ distTo xs ys ps k ≤ 2000 * k
  | 0, _ => by simp [distTo]
  | k + 1, hk => by
    have ih := distTo_bd h hp hl k (by omega)
    have hg := h.get (k := k) (by omega)
    have h1 : ps[k]? = some (ps.getD k 0) := by rw [List.getElem?_eq_getElem (by omega)]; simp [List.getElem?_eq_getElem (show k < ps.length by omega)]
    have h2 := allIn_at hp h1
    simp only [distTo]
    omega


end Go.Proofs.Ytblhcnafoejahaa
