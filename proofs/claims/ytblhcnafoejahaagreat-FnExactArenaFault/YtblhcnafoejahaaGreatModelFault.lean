/- The walks of spec.l2Pair, impl.pairFault, impl.idsRise, spec.ModelFault, impl.ModelFault. -/
import Derived.Test.YtblhcnafoejahaaGreatPairLists
namespace Go.Proofs.YtblhcnafoejahaaGreat
open Go.RowKit

/-- What is wrong with a pair. -/
def pairF (v : Int × List Int × List Int) (d : Int) : Int := if 0 ≤ v.1 ∧ v.1 ≤ 999 then rf v.2.1 v.2.2 d else 3
/-- What is wrong with the first pair with which something is. -/
def firstF (d : Int) : List (Int × List Int × List Int) → Int
  | [] => 0
  | v :: vs => if pairF v d ≠ 0 then pairF v d else firstF d vs
/-- Whether the numbers rise. -/
def rises : List (Int × List Int × List Int) → Bool
  | [] => true
  | [_] => true
  | a :: b :: t => decide (a.1 < b.1) && rises (b :: t)
/-- What is wrong with a list of pairs. -/
def mf (vs : List (Int × List Int × List Int)) (d : Int) : Int :=
  if 2 ≤ d ∧ d ≤ 3 then if 60 < vs.length then 2 else if firstF d vs ≠ 0 then firstF d vs else if rises vs then 0 else 1 else 3

theorem firstF_stop {d : Int} : ∀ {vs : List (Int × List Int × List Int)} {k : Nat} {v : Int × List Int × List Int}, (∀ j u, j < k → vs[j]? = some u → pairF u d = 0) → vs[k]? = some v → pairF v d ≠ 0 → firstF d vs = pairF v d
  | [], k, v, _, hk, _ => by simp at hk
  | u :: vs, 0, v, _, hk, hv => by
    simp at hk; subst hk
    rw [firstF, if_pos hv]
  | u :: vs, k + 1, v, hp, hk, hv => by
    have h0 := hp 0 u (by omega) (by simp)
    rw [firstF, if_neg (by simp [h0])]
    exact firstF_stop (k := k) (fun j u' hj hu => hp (j + 1) u' (by omega) (by simpa using hu)) (by simpa using hk) hv
theorem firstF_all {d : Int} : ∀ {vs : List (Int × List Int × List Int)}, (∀ (j : Nat) (u : Int × List Int × List Int), vs[j]? = some u → pairF u d = 0) → firstF d vs = 0
  | [], _ => rfl
  | u :: vs, hp => by
    have h0 := hp 0 u (by simp)
    rw [firstF, if_neg (by simp [h0])]
    exact firstF_all fun j u' hu => hp (j + 1) u' (by simpa using hu)
theorem rises_true : ∀ {vs : List (Int × List Int × List Int)}, (∀ j u v, vs[j]? = some u → vs[j + 1]? = some v → u.1 < v.1) → rises vs = true
  | [], _ => rfl
  | [_], _ => rfl
  | a :: b :: t, h => by
    rw [rises, decide_eq_true (h 0 a b (by simp) (by simp)), Bool.true_and]
    exact rises_true fun j u v hu hv => h (j + 1) u v (by simpa using hu) (by simpa using hv)
theorem rises_false : ∀ {vs : List (Int × List Int × List Int)} {k : Nat} {u v : Int × List Int × List Int}, vs[k]? = some u → vs[k + 1]? = some v → ¬ u.1 < v.1 → rises vs = false
  | [], k, u, v, hu, _, _ => by simp at hu
  | [_], k, u, v, _, hv, _ => by simp at hv
  | a :: b :: t, 0, u, v, hu, hv, h => by
    simp at hu hv; subst hu hv
    rw [rises, decide_eq_false h, Bool.false_and]
  | a :: b :: t, k + 1, u, v, hu, hv, h => by
    rw [rises, rises_false (vs := b :: t) (k := k) (by simpa using hu) (by simpa using hv) h, Bool.and_false]

theorem val_get {ps : List PV} {k : Nat} {p : PV} (h : ps[k]? = some p) : (ps.map PV.val)[k]? = some p.val := by simp [h]
theorem val_of {ps : List PV} {k : Nat} {u : Int × List Int × List Int} (h : (ps.map PV.val)[k]? = some u) : ∃ p, ps[k]? = some p ∧ p.val = u := by
  simpa using h



/-- The numbers of two pairs that stand side by side. -/
theorem Pairs.twoAt {w wr : World} {n m : Nat} {A : Option Addr} {ps : List PV} (h : Pairs w A n ps) (hB : Below w.heap.size w wr) (hk : m + 1 < n) :
    ∃ b o p q, A = some ⟨b, o, none⟩ ∧ Hid (ps[m]? = some p) ∧ Hid (ps[m + 1]? = some q) ∧ wr.cell? ⟨b, o + m * 3, none⟩ = some (.int .i64 p.id) ∧ wr.cell? ⟨b, o + (m + 1) * 3, none⟩ = some (.int .i64 q.id) := by
  obtain ⟨hl, hr, _⟩ := h
  obtain ⟨b, o, e, h2, h3⟩ := hr (by omega)
  have hx : ps[m]? = some (ps[m]'(by omega)) := List.getElem?_eq_getElem (by omega)
  have hy : ps[m + 1]? = some (ps[m + 1]'(by omega)) := List.getElem?_eq_getElem (by omega)
  exact ⟨b, o, _, _, e, hx, hy, (hB.cell (p := ⟨b, o + m * 3, none⟩) h2).trans (h3 m _ hx).1, (hB.cell (p := ⟨b, o + (m + 1) * 3, none⟩) h2).trans (h3 (m + 1) _ hy).1⟩

theorem mf_dim {vs : List (Int × List Int × List Int)} {d : Int} (h : ¬ (2 ≤ d ∧ d ≤ 3)) : mf vs d = 3 := by unfold mf; rw [if_neg h]
theorem mf_many {vs : List (Int × List Int × List Int)} {d : Int} (h : 2 ≤ d ∧ d ≤ 3) (h2 : 60 < vs.length) : mf vs d = 2 := by unfold mf; rw [if_pos h, if_pos h2]
theorem mf_first {vs : List (Int × List Int × List Int)} {d : Int} (h : 2 ≤ d ∧ d ≤ 3) (h2 : ¬ 60 < vs.length) (h3 : firstF d vs ≠ 0) : mf vs d = firstF d vs := by unfold mf; rw [if_pos h, if_neg h2, if_pos h3]
theorem mf_rises {vs : List (Int × List Int × List Int)} {d : Int} (h : 2 ≤ d ∧ d ≤ 3) (h2 : ¬ 60 < vs.length) (h3 : firstF d vs = 0) : mf vs d = if rises vs then 0 else 1 := by unfold mf; rw [if_pos h, if_neg h2, if_neg (by simp [h3])]


end Go.Proofs.YtblhcnafoejahaaGreat
