/- The walk of spec.l1Two, and what two boxes without a fault are. -/
import Derived.Test.YtblhcnafoejahaaCorners2
import Derived.Test.YtblhcnafoejahaaLawRectFault
namespace Go.Proofs.Ytblhcnafoejahaa
open Go.RowKit

/-- A box without a fault: two or three dimensions, numbers from -1000 to 1000, Low not above High. -/
structure Right (xs ys : List Int) (n : Nat) : Prop where
  len : xs.length = n
  len' : ys.length = n
  dim : n = 2 ∨ n = 3
  at_ : ∀ (k : Nat) (x y : Int), xs[k]? = some x → ys[k]? = some y → -1000 ≤ x ∧ x ≤ y ∧ y ≤ 1000

theorem allIn_at {l h : Int} {xs : List Int} (hp : allIn l h xs = true) {k : Nat} {x : Int} (hk : xs[k]? = some x) : l ≤ x ∧ x ≤ h := by
  unfold allIn at hp
  have := List.all_eq_true.1 hp x (List.mem_of_getElem? hk)
  simpa using this

theorem right_of_rf {xs ys : List Int} {n : Nat} (h : rf xs ys (n : Int) = 0) : Right xs ys n := by
  unfold rf at h
  by_cases h1 : pf xs (n : Int) = 0
  · by_cases h2 : pf ys (n : Int) = 0
    · rw [if_neg (by simpa using h1), if_neg (by simpa using h2)] at h
      cases h3 : leAll xs ys with
      | false => rw [h3] at h; simp at h
      | true =>
        obtain ⟨d1, l1, a1⟩ := pf_zero h1
        obtain ⟨d2, l2, a2⟩ := pf_zero h2
        refine ⟨by omega, by omega, by omega, fun k x y hx hy => ?_⟩
        have b1 := allIn_at a1 hx
        have b2 := allIn_at a2 hy
        unfold leAll at h3
        have b3 := List.all_eq_true.1 h3 _ (List.mem_of_getElem? (zip_at hx hy))
        simp at b3
        omega
    · rw [if_neg (by simpa using h1), if_pos h2] at h
      exact absurd h h2
  · rw [if_pos h1] at h
    exact absurd h h1

theorem right_of_rf2 {xs ys us vs : List Int} (h : rf2 xs ys us vs = 0) : Right xs ys xs.length ∧ Right us vs xs.length := by
  unfold rf2 at h
  by_cases h1 : rf xs ys (xs.length : Int) = 0
  · rw [if_neg (by simpa using h1)] at h
    exact ⟨right_of_rf h1, right_of_rf h⟩
  · rw [if_pos h1] at h
    exact absurd h h1


end Go.Proofs.Ytblhcnafoejahaa
