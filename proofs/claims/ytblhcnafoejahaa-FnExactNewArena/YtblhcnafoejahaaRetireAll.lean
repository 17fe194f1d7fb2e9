/- The walk of impl.ground's retireAll. -/
import Derived.Test.YtblhcnafoejahaaRetire3
namespace Go.Proofs.Ytblhcnafoejahaa
open Go.RowKit


/-- The same places, but for who watches them. -/
def Kept (ps qs : List LV) : Prop := qs.length = ps.length ∧ ∀ (i : Nat) (q : LV), qs[i]? = some q → ∃ p, ps[i]? = some p ∧ q.g = p.g ∧ q.val = p.val ∧ q.fr = p.fr
theorem Kept.refl (ps : List LV) : Kept ps ps := ⟨rfl, fun i q h => ⟨q, h, rfl, rfl, rfl⟩⟩
theorem Kept.put {ps qs : List LV} {j : Nat} {q r : LV} {xs : List Int} (h : Kept ps qs) (hj : qs[j]? = some q) (hr : q.seen r xs) : Kept ps (qs.set j r) := by
  obtain ⟨g5, n1, cap, rfl⟩ := hr
  refine ⟨by rw [List.length_set]; exact h.1, fun i t ht => ?_⟩
  rw [List.getElem?_set] at ht
  by_cases e : j = i
  · subst e
    rw [if_pos rfl, if_pos (List.getElem?_eq_some_iff.1 hj).1] at ht
    injection ht with ht; subst ht
    obtain ⟨p, h1, h2, h3, h4⟩ := h.2 j q hj
    exact ⟨p, h1, h2, h3, h4⟩
  · rw [if_neg e] at ht; exact h.2 i t ht

/-- retireAll's code. -/
def retC (n : Nat) (fs : List Int) (vs : List RVal) : Int := if firstNZ (retF n) vs ≠ 0 then firstNZ (retF n) vs else if takenF fs (vs.map (·.1)) then 6 else 0
theorem retC_stop {n : Nat} {fs : List Int} {vs : List RVal} (h : firstNZ (retF n) vs ≠ 0) : retC n fs vs = firstNZ (retF n) vs := by unfold retC; rw [if_pos h]
theorem retC_taken {n : Nat} {fs : List Int} {vs : List RVal} (h : firstNZ (retF n) vs = 0) : retC n fs vs = if takenF fs (vs.map (·.1)) then 6 else 0 := by unfold retC; rw [if_neg (by simp [h])]

theorem take_next_has {ids : List Int} {k : Nat} {id : Int} (h : ids[k]? = some id) (x : Int) : (ids.take (k + 1)).contains x = ((ids.take k).contains x || (x == id)) := by
  rw [List.take_add_one, h]
  by_cases e : x = id <;> simp [e]

/-- Each of the retired places is noted in the map, with who watches it. -/
def Watched (qs : List LV) (f : Int → Option Nat) (us : List RVal) : Prop := ∀ (i : Nat) (u : RVal), us[i]? = some u → ∃ (j : Nat) (q : LV), u.1 = (j : Int) ∧ qs[j]? = some q ∧ f u.1 = some q.g ∧ q.ws = u.2
theorem Watched.nil (qs : List LV) (f : Int → Option Nat) : Watched qs f [] := fun i u h => by simp at h
theorem Watched.put {qs : List LV} {f : Int → Option Nat} {us : List RVal} {j : Nat} {q r : LV} {ws : List Int} (h : Watched qs f us) (hq : qs[j]? = some q) (hr : q.seen r ws) (hn : (us.map (·.1)).contains (j : Int) = false) : Watched (qs.set j r) (fun x => if x = (j : Int) then some q.g else f x) (us ++ [((j : Int), ws)]) := by
  obtain ⟨g5, n1, cap, rfl⟩ := hr
  have hjl := (List.getElem?_eq_some_iff.1 hq).1
  intro i u hu
  rcases Nat.lt_or_ge i us.length with hi | hi
  · rw [List.getElem?_append_left hi] at hu
    obtain ⟨j', q', e1, e2, e3, e4⟩ := h i u hu
    have hne : u.1 ≠ (j : Int) := by
      intro e
      have : (us.map (·.1)).contains (j : Int) = true := by
        rw [List.contains_iff_mem]; exact List.mem_map.2 ⟨u, List.mem_of_getElem? hu, e⟩
      rw [hn] at this; exact absurd this (by decide)
    refine ⟨j', q', e1, ?_, by simp only [if_neg hne]; exact e3, e4⟩
    rw [List.getElem?_set, if_neg (by rintro rfl; exact hne e1)]; exact e2
  · rw [List.getElem?_append_right hi] at hu
    have hi0 : i - us.length = 0 := by have := (List.getElem?_eq_some_iff.1 hu).1; simp at this; omega
    rw [hi0] at hu
    simp only [List.getElem?_cons_zero, Option.some.injEq] at hu
    subst hu
    exact ⟨j, _, rfl, by rw [List.getElem?_set, if_pos rfl, if_pos hjl], by simp, rfl⟩


end Go.Proofs.Ytblhcnafoejahaa
