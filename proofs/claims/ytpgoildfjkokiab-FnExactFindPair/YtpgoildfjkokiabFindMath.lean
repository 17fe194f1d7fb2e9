/- A pair found by its number, said plainly. -/
import Derived.Test.YtpgoildfjkokiabModelFault
import Derived.Test.YtpgoildfjkokiabCorners2
namespace Go.Proofs.Ytpgoildfjkokiab
open Go.RowKit

abbrev PVal := Int × List Int × List Int
theorem rises_lt : ∀ {vs : List PVal} {i j : Nat} {a b : PVal}, rises vs = true → i < j → vs[i]? = some a → vs[j]? = some b → a.1 < b.1
  | [], i, j, a, b, _, _, h1, _ => by simp at h1
  | [x], i, j, a, b, _, hij, h1, h2 => by
    have h3 := (List.getElem?_eq_some_iff.1 h2).1
    simp at h3; omega
  | x :: y :: t, i, j, a, b, h, hij, h1, h2 => by
    rw [rises, Bool.and_eq_true, decide_eq_true_eq] at h
    obtain ⟨j', rfl⟩ : ∃ j', j = j' + 1 := ⟨j - 1, by omega⟩
    rw [List.getElem?_cons_succ] at h2
    cases i with
    | zero =>
      simp only [List.getElem?_cons_zero, Option.some.injEq] at h1
      subst h1
      cases j' with
      | zero => simp only [List.getElem?_cons_zero, Option.some.injEq] at h2; subst h2; exact h.1
      | succ j'' =>
        have := rises_lt (vs := y :: t) (i := 0) (j := j'' + 1) (a := y) (b := b) h.2 (by omega) rfl h2
        omega
    | succ i' =>
      rw [List.getElem?_cons_succ] at h1
      exact rises_lt (vs := y :: t) h.2 (by omega) h1 h2
theorem mf_zero {vs : List PVal} {d : Int} (h : mf vs d = 0) : (2 ≤ d ∧ d ≤ 3) ∧ vs.length ≤ 60 ∧ firstF d vs = 0 ∧ rises vs = true := by
  unfold mf at h
  split at h
  · split at h
    · omega
    · split at h
      · rename_i h3; exact absurd h h3
      · split at h
        · rename_i h1 h2 h3 h4; exact ⟨h1, by omega, by simpa using h3, h4⟩
        · omega
  · omega
theorem firstF_each : ∀ {d : Int} {vs : List PVal}, firstF d vs = 0 → ∀ v ∈ vs, pairF v d = 0
  | d, [], _, v, hv => by simp at hv
  | d, a :: t, h, v, hv => by
    rw [firstF] at h
    split at h
    · rename_i h1; exact absurd h h1
    · rename_i h1
      rcases List.mem_cons.1 hv with rfl | hv
      · simpa using h1
      · exact firstF_each h v hv
theorem mf_each {vs : List PVal} {d : Int} (h : mf vs d = 0) : ∀ v ∈ vs, (0 ≤ v.1 ∧ v.1 ≤ 999) ∧ rf v.2.1 v.2.2 d = 0 := by
  intro v hv
  have h1 := firstF_each (mf_zero h).2.2.1 v hv
  unfold pairF at h1
  split at h1
  · rename_i h2; exact ⟨h2, h1⟩
  · omega
theorem rfp_both {x1 x2 : List Int} {d : Int} (h : rf x1 x2 d = 0) : pf x1 d = 0 ∧ pf x2 d = 0 := by
  have h1 : pf x1 d = 0 := by
    unfold rf at h
    by_cases h1 : pf x1 d = 0
    · exact h1
    · rw [if_pos h1] at h; exact absurd h h1
  refine ⟨h1, ?_⟩
  unfold rf at h
  rw [if_neg (by simp [h1])] at h
  by_cases h2 : pf x2 d = 0
  · exact h2
  · rw [if_pos h2] at h; exact absurd h h2
theorem rfp_len {x1 x2 : List Int} {d : Int} (h : rf x1 x2 d = 0) : (2 ≤ d ∧ d ≤ 3) ∧ (x1.length : Int) = d ∧ (x2.length : Int) = d := by
  obtain ⟨h1, h2⟩ := rfp_both h
  exact ⟨(pf_zero h1).1, (pf_zero h1).2.1, (pf_zero h2).2.1⟩
theorem rfp_pads {x1 x2 : List Int} {d : Int} (h : rf x1 x2 d = 0) : ∃ p0 p1 p2 q0 q1 q2, Pad x1 p0 p1 p2 ∧ Pad x2 q0 q1 q2 := by
  obtain ⟨hd, e1, e2⟩ := rfp_len h
  obtain ⟨p0, p1, p2, hp⟩ := pad_of (xs := x1) (by omega)
  obtain ⟨q0, q1, q2, hq⟩ := pad_of (xs := x2) (by omega)
  exact ⟨p0, p1, p2, q0, q1, q2, hp, hq⟩
/-- What is found: a code, and the pair. -/
def findR (vs : List PVal) (d id : Int) : Int × PVal := if mf vs d ≠ 0 then (mf vs d, 0, [], []) else match vs.find? (fun v => v.1 == id) with | none => (4, 0, [], []) | some v => (0, v)
theorem findR_bad {vs : List PVal} {d id : Int} (h : mf vs d ≠ 0) : findR vs d id = (mf vs d, 0, [], []) := by unfold findR; rw [if_pos h]
theorem findR_none {vs : List PVal} {d id : Int} (h : mf vs d = 0) (h2 : ∀ v ∈ vs, v.1 ≠ id) : findR vs d id = (4, 0, [], []) := by
  unfold findR
  rw [if_neg (by simp [h]), List.find?_eq_none.2 (fun v hv => by simpa using h2 v hv)]
theorem findR_yes {vs : List PVal} {d id : Int} {k : Nat} {v : PVal} (h : mf vs d = 0) (hk : vs[k]? = some v) (hv : v.1 = id) : findR vs d id = (0, v) := by
  unfold findR
  rw [if_neg (by simp [h])]
  cases hf : vs.find? (fun v => v.1 == id) with
  | none => exact absurd (List.find?_eq_none.1 hf v (List.mem_of_getElem? hk)) (by simpa using hv)
  | some u =>
    obtain ⟨j, hj⟩ := List.getElem?_of_mem (List.mem_of_find?_eq_some hf)
    have hu : u.1 = id := by simpa using List.find?_some hf
    have hr := (mf_zero h).2.2.2
    have e : j = k := by
      rcases Nat.lt_trichotomy j k with h1 | h1 | h1
      · have := rises_lt hr h1 hj hk; omega
      · exact h1
      · have := rises_lt hr h1 hk hj; omega
    subst e
    rw [hk] at hj; injection hj with hj; rw [hj]

end Go.Proofs.Ytpgoildfjkokiab
