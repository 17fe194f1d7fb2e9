/- The plain mathematics of the smallest box in which all entries are. No Go text. -/
import Derived.Test.YtblhcnafoejahaaNodeMath
import Derived.Test.YtblhcnafoejahaaBoxVals
namespace Go.Proofs.Ytblhcnafoejahaa
open Go.RowKit

/-- The least corner, and the greatest, of all entries. -/
def lowB : List EVal → List Int
  | [] => []
  | v :: vs => vs.foldl (fun a u => mins a u.1) v.1
def highB : List EVal → List Int
  | [] => []
  | v :: vs => vs.foldl (fun a u => maxs a u.2.1) v.2.1
theorem lowB_one {vs : List EVal} {v : EVal} (h : vs[0]? = some v) : lowB (vs.take 1) = v.1 := by
  cases vs with
  | nil => simp at h
  | cons u us => simp at h; subst h; rfl
theorem highB_one {vs : List EVal} {v : EVal} (h : vs[0]? = some v) : highB (vs.take 1) = v.2.1 := by
  cases vs with
  | nil => simp at h
  | cons u us => simp at h; subst h; rfl
theorem lowB_next {vs : List EVal} {k : Nat} {v : EVal} (hk : 1 ≤ k) (h : vs[k]? = some v) : lowB (vs.take (k + 1)) = mins (lowB (vs.take k)) v.1 := by
  cases vs with
  | nil => simp at h
  | cons u us =>
    obtain ⟨k, rfl⟩ : ∃ j, k = j + 1 := ⟨k - 1, by omega⟩
    simp only [List.getElem?_cons_succ] at h
    simp only [List.take_succ_cons, lowB]
    rw [List.take_add_one, h, List.foldl_append]; rfl
theorem highB_next {vs : List EVal} {k : Nat} {v : EVal} (hk : 1 ≤ k) (h : vs[k]? = some v) : highB (vs.take (k + 1)) = maxs (highB (vs.take k)) v.2.1 := by
  cases vs with
  | nil => simp at h
  | cons u us =>
    obtain ⟨k, rfl⟩ : ∃ j, k = j + 1 := ⟨k - 1, by omega⟩
    simp only [List.getElem?_cons_succ] at h
    simp only [List.take_succ_cons, highB]
    rw [List.take_add_one, h, List.foldl_append]; rfl
/-- All entries' corners are n numbers long. -/
def LensE (n : Nat) (vs : List EVal) : Prop := ∀ (j : Nat) (u : EVal), vs[j]? = some u → u.1.length = n ∧ u.2.1.length = n
theorem lowB_len {n : Nat} : ∀ {vs : List EVal} {k : Nat}, LensE n vs → 1 ≤ k → k ≤ vs.length → (lowB (vs.take k)).length = n
  | vs, 0, _, h, _ => by omega
  | vs, 1, hl, _, h1 => by
    have hv : vs[0]? = some (vs[0]'(by omega)) := List.getElem?_eq_getElem _
    rw [lowB_one hv]; exact (hl 0 _ hv).1
  | vs, k + 2, hl, _, h1 => by
    have hv : vs[k + 1]? = some (vs[k + 1]'(by omega)) := List.getElem?_eq_getElem _
    rw [lowB_next (by omega) hv]
    have h2 := lowB_len (vs := vs) (k := k + 1) hl (by omega) (by omega)
    simp [mins, h2, (hl _ _ hv).1]
theorem highB_len {n : Nat} : ∀ {vs : List EVal} {k : Nat}, LensE n vs → 1 ≤ k → k ≤ vs.length → (highB (vs.take k)).length = n
  | vs, 0, _, h, _ => by omega
  | vs, 1, hl, _, h1 => by
    have hv : vs[0]? = some (vs[0]'(by omega)) := List.getElem?_eq_getElem _
    rw [highB_one hv]; exact (hl 0 _ hv).2
  | vs, k + 2, hl, _, h1 => by
    have hv : vs[k + 1]? = some (vs[k + 1]'(by omega)) := List.getElem?_eq_getElem _
    rw [highB_next (by omega) hv]
    have h2 := highB_len (vs := vs) (k := k + 1) hl (by omega) (by omega)
    simp [maxs, h2, (hl _ _ hv).2]
theorem rf_len {x1 x2 : List Int} {d : Int} (h : rf x1 x2 d = 0) : (2 ≤ d ∧ d ≤ 3) ∧ (x1.length : Int) = d ∧ (x2.length : Int) = d := by
  have h1 : pf x1 d = 0 := by
    unfold rf at h
    by_cases h1 : pf x1 d = 0
    · exact h1
    · rw [if_pos h1] at h; exact absurd h h1
  have h2 : pf x2 d = 0 := by
    unfold rf at h
    rw [if_neg (by simp [h1])] at h
    by_cases h2 : pf x2 d = 0
    · exact h2
    · rw [if_pos h2] at h; exact absurd h h2
  exact ⟨(pf_zero h1).1, (pf_zero h1).2.1, (pf_zero h2).2.1⟩
theorem lens_of {vs : List EVal} {d : Int} (h : ∀ (j : Nat) (u : EVal), vs[j]? = some u → entF d u = 0) : LensE d.toNat vs := by
  intro j u hu
  obtain ⟨h1, h2, h3⟩ := rf_len (entF_zero (h j u hu)).1
  omega

/-- BoxOf's code. -/
def boxC (f : Int) (n : Nat) : Int := if f ≠ 0 then f else if n = 0 then 4 else 0
theorem boxC_zero {f : Int} {n : Nat} (h : boxC f n = 0) : f = 0 ∧ 0 < n := by
  unfold boxC at h
  by_cases h1 : f = 0
  · rw [if_neg (by simp [h1])] at h
    by_cases h2 : n = 0
    · rw [if_pos h2] at h; omega
    · exact ⟨h1, by omega⟩
  · rw [if_pos h1] at h; exact absurd h h1

theorem mins_self (xs : List Int) : mins xs xs = xs := by
  unfold mins
  induction xs with
  | nil => rfl
  | cons x xs ih => simp [ih]
theorem maxs_self (xs : List Int) : maxs xs xs = xs := by
  unfold maxs
  induction xs with
  | nil => rfl
  | cons x xs ih => simp [ih]

end Go.Proofs.Ytblhcnafoejahaa
