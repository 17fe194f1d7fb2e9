/- The walks of impl.rises and impl.idsOf: whether numbers rise; the numbers of pairs, in a row of the call's own. -/
import Derived.Test.YtblhcnafoejahaaModelFault
import Derived.Test.YtblhcnafoejahaaCopy2
import Derived.OwnWalk
import Derived.Test.YtblhcnafoejahaaRects
namespace Go.Proofs.Ytblhcnafoejahaa
open Go.RowKit

/-- Whether numbers rise. -/
def risesL : List Int → Bool
  | [] => true
  | [_] => true
  | a :: b :: t => decide (a < b) && risesL (b :: t)
theorem risesL_true : ∀ {vs : List Int}, (∀ (j : Nat) (u v : Int), vs[j]? = some u → vs[j + 1]? = some v → u < v) → risesL vs = true
  | [], _ => rfl
  | [_], _ => rfl
  | a :: b :: t, h => by
    rw [risesL, decide_eq_true (h 0 a b (by simp) (by simp)), Bool.true_and]
    exact risesL_true fun j u v hu hv => h (j + 1) u v (by simpa using hu) (by simpa using hv)
theorem risesL_false : ∀ {vs : List Int} {k : Nat} {u v : Int}, vs[k]? = some u → vs[k + 1]? = some v → ¬ u < v → risesL vs = false
  | [], k, u, v, hu, _, _ => by simp at hu
  | [_], k, u, v, _, hv, _ => by simp at hv
  | a :: b :: t, 0, u, v, hu, hv, h => by
    simp at hu hv; subst hu hv
    rw [risesL, decide_eq_false h, Bool.false_and]
  | a :: b :: t, k + 1, u, v, hu, hv, h => by
    rw [risesL, risesL_false (vs := b :: t) (k := k) (by simpa using hu) (by simpa using hv) h, Bool.and_false]
theorem rises_ids : ∀ (vs : List (Int × List Int × List Int)), risesL (vs.map (·.1)) = rises vs
  | [] => rfl
  | [_] => rfl
  | a :: b :: t => by
    have := rises_ids (b :: t)
    simp only [List.map_cons] at this ⊢
    rw [risesL, rises, this]

/-- Two numbers that stand side by side. -/
theorem Ints.twoAt {w wr : World} {lo n m : Nat} {A : Option Addr} {xs : List Int} (h : Ints w lo A n xs) (hB : Below w.heap.size w wr) (hk : m + 1 < n) :
    ∃ b o x y, A = some ⟨b, o, none⟩ ∧ Hid (xs[m]? = some x) ∧ Hid (xs[m + 1]? = some y) ∧ wr.cell? ⟨b, o + m, none⟩ = some (.int .i64 x) ∧ wr.cell? ⟨b, o + (m + 1), none⟩ = some (.int .i64 y) := by
  obtain ⟨hl, hr⟩ := h
  obtain ⟨b, o, e, _, h2, h3⟩ := hr (by omega)
  have hx : xs[m]? = some (xs[m]'(by omega)) := List.getElem?_eq_getElem (by omega)
  have hy : xs[m + 1]? = some (xs[m + 1]'(by omega)) := List.getElem?_eq_getElem (by omega)
  exact ⟨b, o, _, _, e, hx, hy, (hB.cell (p := ⟨b, o + m, none⟩) h2).trans (h3 m _ hx), (hB.cell (p := ⟨b, o + (m + 1), none⟩) h2).trans (h3 (m + 1) _ hy)⟩


theorem ownsRow_base {w : World} {base : Nat} {e : TypeId} {size : Nat} {v : Value} {n : Nat} {xs : List Value} (h : w.ownsRow base e size v n xs) : ∀ r, v.ownBlock = some r → base ≤ r := by
  intro r hr
  obtain ⟨hl, h⟩ := h
  rcases h with ⟨rfl, _⟩ | ⟨g, cap, cur, rfl, h2, h3, h4⟩
  · simp [Value.ownBlock] at hr
  · simp [Value.ownBlock] at hr
    subst hr
    exact h2
theorem news_one (W : World) (x : Int) (j : Nat) (u : Value) (h : [Value.int .i64 x][j]? = some u) : (W.alloc (.cells #[.int .i64 x] 2)).cell? ((⟨W.heap.size, 0, none⟩ : Addr).add j) = some u := by
  rw [add_none, Nat.zero_add, cell_new]
  simpa using h

theorem ids_take {ps : List PV} {k : Nat} {p : PV} (h : ps[k]? = some p) : (ps.take (k + 1)).map PV.id = (ps.take k).map PV.id ++ [p.id] := by
  rw [List.take_add_one, h]; simp


end Go.Proofs.Ytblhcnafoejahaa

/- The walks of spec.l1Same, slices.Equal, spec.SameRects, impl.SameRects: for every two boxes. -/
namespace Go.Proofs.Ytblhcnafoejahaa
open Go.RowKit

/-- Whether two boxes have the same numbers. -/
def sameF (x1 x2 x3 x4 : List Int) : Bool := decide (x1 = x3) && decide (x2 = x4)







end Go.Proofs.Ytblhcnafoejahaa
