/- The best of several ways: the least cost, of those alike the least area, of these the first. Plain. -/
import Derived.Test.YtbnlgmcjklfcoaaGrowth
import Derived.Test.YtbnlgmcjklfcoaaBoxMath
namespace Go.Proofs.Ytbnlgmcjklfcoaa
open Go.RowKit

/-- x is better than y. -/
def ltK (x y : Int × Int) : Bool := decide (x.1 < y.1) || (decide (x.1 = y.1) && decide (x.2 < y.2))
theorem ltK_iff {x y : Int × Int} : ltK x y = true ↔ x.1 < y.1 ∨ (x.1 = y.1 ∧ x.2 < y.2) := by simp [ltK]
theorem ltK_not {x y : Int × Int} : ltK x y = false ↔ ¬ (x.1 < y.1 ∨ (x.1 = y.1 ∧ x.2 < y.2)) := by rw [← ltK_iff]; simp
/-- The place of the best of the first k. -/
def bestTo (ks : List (Int × Int)) : Nat → Nat
  | 0 => 0
  | k + 1 => if ltK (ks.getD k (0, 0)) (ks.getD (bestTo ks k) (0, 0)) then k else bestTo ks k
theorem bestTo_lt (ks : List (Int × Int)) : ∀ k, 0 < k → bestTo ks k < k
  | 0, h => absurd h (Nat.lt_irrefl 0)
  | k + 1, _ => by
    unfold bestTo
    by_cases h : ltK (ks.getD k (0, 0)) (ks.getD (bestTo ks k) (0, 0)) = true
    · rw [if_pos h]; omega
    · rw [if_neg h]
      rcases Nat.eq_zero_or_pos k with rfl | hk
      · show bestTo ks 0 < 1; unfold bestTo; omega
      · have := bestTo_lt ks k hk; omega
theorem bestTo_one (ks : List (Int × Int)) : bestTo ks 1 = 0 := by
  have := bestTo_lt ks 1 (by omega); omega
theorem bestTo_yes {ks : List (Int × Int)} {k : Nat} (h : ltK (ks.getD k (0, 0)) (ks.getD (bestTo ks k) (0, 0)) = true) : bestTo ks (k + 1) = k := by
  show (if _ then k else bestTo ks k) = k; rw [if_pos h]
theorem bestTo_no {ks : List (Int × Int)} {k : Nat} (h : ltK (ks.getD k (0, 0)) (ks.getD (bestTo ks k) (0, 0)) = false) : bestTo ks (k + 1) = bestTo ks k := by
  show (if _ then k else bestTo ks k) = _; rw [if_neg (by rw [h]; decide)]
/-- No other is better, and none ahead is as good. -/
theorem bestTo_min (ks : List (Int × Int)) : ∀ k, (∀ j, j < k → ltK (ks.getD j (0, 0)) (ks.getD (bestTo ks k) (0, 0)) = false) ∧ (∀ j, j < bestTo ks k → ltK (ks.getD (bestTo ks k) (0, 0)) (ks.getD j (0, 0)) = true)
  | 0 => ⟨fun j h => absurd h (Nat.not_lt_zero j), fun j h => by unfold bestTo at h; omega⟩
  | k + 1 => by
    obtain ⟨h1, h2⟩ := bestTo_min ks k
    cases h : ltK (ks.getD k (0, 0)) (ks.getD (bestTo ks k) (0, 0))
    · rw [bestTo_no h]
      refine ⟨fun j hj => ?_, h2⟩
      rcases Nat.lt_or_ge j k with h' | h'
      · exact h1 j h'
      · have : j = k := by omega
        subst this; exact h
    · rw [bestTo_yes h]
      have hk := ltK_iff.1 h
      refine ⟨fun j hj => ?_, fun j hj => ?_⟩
      · rw [ltK_not]
        rcases Nat.lt_or_ge j k with h' | h'
        · have := ltK_not.1 (h1 j h'); omega
        · have : j = k := by omega
          subst this; omega
      · rw [ltK_iff]
        have := ltK_not.1 (h1 j hj); omega
theorem bestTo_first {ks : List (Int × Int)} {k j : Nat} (hj : j < bestTo ks k) : ks.getD j (0, 0) ≠ ks.getD (bestTo ks k) (0, 0) := by
  intro e
  have := ltK_iff.1 ((bestTo_min ks k).2 j hj)
  rw [e] at this
  omega

/-- What an entry costs that has to take a box in: how much it grows, and its area. -/
def bidE (r1 r2 : List Int) (dd : Nat) (v : EVal) : Int × Int := (areaTo (mins v.1 r1) (maxs v.2.1 r2) dd - areaTo v.1 v.2.1 dd, areaTo v.1 v.2.1 dd)
def bidsE (r1 r2 : List Int) (dd : Nat) (vs : List EVal) : List (Int × Int) := vs.map (bidE r1 r2 dd)
theorem bidsE_at {r1 r2 : List Int} {dd : Nat} {vs : List EVal} {k : Nat} {v : EVal} (h : vs[k]? = some v) : (bidsE r1 r2 dd vs).getD k (0, 0) = bidE r1 r2 dd v := by simp [bidsE, List.getD, h]
theorem right_of_entF {d : Int} {dd : Nat} {v : EVal} (h : entF d v = 0) (hd : d = dd) : Right v.1 v.2.1 dd := by
  subst hd
  exact right_of_rf (entF_zero h).1

end Go.Proofs.Ytbnlgmcjklfcoaa
