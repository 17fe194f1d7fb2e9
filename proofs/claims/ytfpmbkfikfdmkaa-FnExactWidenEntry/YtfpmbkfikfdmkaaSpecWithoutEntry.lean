/- The walk of spec.WithoutEntry. No condition but the length. -/
import Derived.Test.YtfpmbkfikfdmkaaSpecWithout
namespace Go.Proofs.Ytfpmbkfikfdmkaa
open Go.RowKit

theorem filter_erase {α : Type} {p : α → Bool} : ∀ {l : List α} {i : Nat}, (∀ (j : Nat) (x : α), l[j]? = some x → (p x = false ↔ j = i)) → l.filter p = l.eraseIdx i
  | [], i, _ => by simp
  | a :: t, 0, h => by
    have h0 : p a = false := (h 0 a (by simp)).2 rfl
    rw [List.filter_cons, if_neg (by simp [h0]), List.eraseIdx_cons_zero]
    rw [List.filter_eq_self]
    intro x hx
    obtain ⟨j, hj, rfl⟩ := List.getElem_of_mem hx
    have := h (j + 1) t[j] (by simp)
    cases hp : p t[j]
    · exact absurd (this.1 hp) (by omega)
    · rfl
  | a :: t, i + 1, h => by
    have h0 : p a = true := by
      cases hp : p a
      · exact absurd ((h 0 a (by simp)).1 hp) (by omega)
      · rfl
    rw [List.filter_cons, if_pos h0, List.eraseIdx_cons_succ, filter_erase (l := t) (i := i) (fun j x hx => by have := h (j + 1) x (by simpa using hx); rw [this]; omega)]
theorem keepE_val (r : Int) (qs : List EV) : (keepE r qs).map EV.val = (qs.map EV.val).filter (fun v => v.2.2.1 != r) := by
  unfold keepE; rw [List.filter_map]; rfl
theorem keep_erase {vs : List EVal} {r : Int} {i : Nat} (h1 : twiceE vs = false) (hi : findE r vs = (i : Int)) : vs.filter (fun v => v.2.2.1 != r) = vs.eraseIdx i := by
  refine filter_erase fun j x hx => ?_
  have hj := twiceE_once h1 j x hx
  constructor
  · intro hp
    have e : x.2.2.1 = r := by simpa using hp
    rw [e, hi] at hj
    omega
  · rintro rfl
    obtain ⟨v, hv, hr⟩ := findE_at hi
    rw [hx] at hv
    injection hv with hv; subst hv
    simp [hr]
theorem Entries.farOf {w : World} {A : Option Addr} {n : Nat} {qs : List EV} (h : Entries w A n qs) {a : Addr} (hA : 0 < n → ∃ g, A = some ⟨g, 0, none⟩ ∧ g ≠ a.block) (hq : ∀ q ∈ qs, ∃ g1 g2, q.A1 = some ⟨g1, 0, none⟩ ∧ q.A2 = some ⟨g2, 0, none⟩ ∧ g1 ≠ a.block ∧ g2 ≠ a.block) (v : Value) : Entries (w.setCell a v) A n qs := by
  obtain ⟨hl, hr, hp⟩ := h
  refine ⟨hl, fun hn => ?_, fun q hm => ?_⟩
  · obtain ⟨b, o, e, h2, h3⟩ := hr hn
    obtain ⟨g, e', hne⟩ := hA hn
    rw [e'] at e
    injection e with e; injection e with e1 e2; subst e1 e2
    refine ⟨g, 0, e', by rw [size_of_setCell]; exact h2, fun k q hk => ?_⟩
    have cl : ∀ x, (w.setCell a v).cell? ⟨g, x, none⟩ = w.cell? ⟨g, x, none⟩ := fun x => World.cell?_of_block (w := w) (a := ⟨g, x, none⟩) (heap_setCell_other w a g v hne)
    rw [cl, cl, cl, cl]
    exact h3 k q hk
  · obtain ⟨g1, g2, a1, a2, n1, n2⟩ := hq q hm
    obtain ⟨i1, i2, m1, m2⟩ := hp q hm
    rw [a1] at i1; rw [a2] at i2
    exact ⟨by rw [a1]; exact i1.block (Nat.le_of_eq (size_of_setCell _ _ _).symm) (heap_setCell_other w a g1 v n1), by rw [a2]; exact i2.block (Nat.le_of_eq (size_of_setCell _ _ _).symm) (heap_setCell_other w a g2 v n2), m1, m2⟩

/-- The answer R is read from memory. -/
def ReadPost2 (R : Int × Int × Int × Int × List EVal) (w : World) (e : Ending) (w' : World) : Prop :=
  ∃ A' n' c' qs, e = .returned (.agg #[.int .i64 R.1, .int .i64 R.2.1, .int .i64 R.2.2.1, .int .i64 R.2.2.2.1, .slice A' n' c']) ∧ Entries w' A' n' qs ∧ qs.map EV.val = R.2.2.2.2 ∧ n' ≤ 6 ∧ Below w.heap.size w w'
theorem entries_nil (w : World) (A : Option Addr) : Entries w A 0 [] := ⟨rfl, fun h => absurd h (Nat.lt_irrefl 0), fun q hq => by simp at hq⟩


end Go.Proofs.Ytfpmbkfikfdmkaa
