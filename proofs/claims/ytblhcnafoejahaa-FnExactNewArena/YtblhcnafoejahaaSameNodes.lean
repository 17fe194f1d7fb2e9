/- The walks of sameEntry, sameNode, slices.EqualFunc over both, spec.l3SameEntries, spec.SameNodes, impl.SameNodes. -/
import Derived.Test.YtblhcnafoejahaaNodeLists
import Derived.Test.YtblhcnafoejahaaSame
namespace Go.Proofs.Ytblhcnafoejahaa
open Go.RowKit

instance : DecidableEq EVal := fun a b => by unfold EVal at a b; infer_instance
instance : DecidableEq NVal := fun a b => by unfold NVal at a b; infer_instance
/-- Whether two lists say the same. -/
def sameL {α β : Type} [DecidableEq β] (f : α → β) (ps qs : List α) : Bool := decide (ps.map f = qs.map f)
section
variable {α β : Type} [DecidableEq β] {f : α → β} {ps qs : List α}
theorem sameL_len (h : ps.length ≠ qs.length) : sameL f ps qs = false := by
  refine decide_eq_false fun e => h ?_
  have := congrArg List.length e
  simpa using this
theorem sameL_at {k : Nat} {p q : α} (hp : ps[k]? = some p) (hq : qs[k]? = some q) (h : f p ≠ f q) : sameL f ps qs = false := decide_eq_false fun e => h (by
  have h1 : (ps.map f)[k]? = some (f p) := by simp [hp]
  have h2 : (qs.map f)[k]? = some (f q) := by simp [hq]
  rw [e, h2] at h1
  injection h1 with h1; exact h1.symm)
theorem sameL_all (hl : ps.length = qs.length) (h : ∀ (j : Nat) (p q : α), j < ps.length → ps[j]? = some p → qs[j]? = some q → f p = f q) : sameL f ps qs = true := by
  refine decide_eq_true (List.ext_getElem? fun j => ?_)
  rw [List.getElem?_map, List.getElem?_map]
  rcases Nat.lt_or_ge j ps.length with hj | hj
  · have h1 : ps[j]? = some (ps[j]'hj) := List.getElem?_eq_getElem hj
    have h2 : qs[j]? = some (qs[j]'(by omega)) := List.getElem?_eq_getElem (by omega)
    rw [h1, h2]
    exact congrArg some (h j _ _ hj h1 h2)
  · rw [List.getElem?_eq_none hj, List.getElem?_eq_none (by omega)]
theorem sameL_congr {ps' qs' : List α} (h : ps.map f = ps'.map f) (h' : qs.map f = qs'.map f) : sameL f ps qs = sameL f ps' qs' := by unfold sameL; rw [h, h']
end
theorem agreeL_next {α β : Type} {f : α → β} {ps qs : List α} {k : Nat} {p q : α} (hA : ∀ (j : Nat) (p q : α), j < k → ps[j]? = some p → qs[j]? = some q → f p = f q) (hp : ps[k]? = some p) (hq : qs[k]? = some q) (h : f p = f q) :
    ∀ (j : Nat) (p q : α), j < k + 1 → ps[j]? = some p → qs[j]? = some q → f p = f q := by
  intro j p' q' hj hp' hq'
  rcases Nat.lt_succ_iff_lt_or_eq.1 hj with h' | h'
  · exact hA j p' q' h' hp' hq'
  · subst h'; rw [hp] at hp'; rw [hq] at hq'; injection hp' with hp'; injection hq' with hq'; subst hp' hq'; exact h








end Go.Proofs.Ytblhcnafoejahaa
