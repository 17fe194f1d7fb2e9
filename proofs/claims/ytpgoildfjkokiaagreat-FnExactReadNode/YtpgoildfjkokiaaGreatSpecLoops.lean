/- FnExactRectFault: for every box and every number of dimensions, impl.RectFault answers as the model does and leaves its argument alone. No condition. -/
import Derived.Test.YtpgoildfjkokiaaGreatRects
import Derived.Deep.RegionHeld3
import Derived.Test.YtpgoildfjkokiaaGreatSlots
namespace Go.Proofs.YtpgoildfjkokiaaGreat
open Go.RowKit

/-- Two structs of two fields each lie as they were laid. -/
def Two (b1 b2 : Nat) (p1 p2 q1 q2 : Value) (w : World) : Prop := w.cell? ⟨b1, 0, none⟩ = some p1 ∧ w.cell? ⟨b1, 1, none⟩ = some p2 ∧ w.cell? ⟨b2, 0, none⟩ = some q1 ∧ w.cell? ⟨b2, 1, none⟩ = some q2

theorem two_kept {B b1 b2 : Nat} {p1 p2 q1 q2 : Value} {w w' : World} (hb : Below B w w') (h1 : b1 < B) (h2 : b2 < B) (h : Two b1 b2 p1 p2 q1 q2 w) : Two b1 b2 p1 p2 q1 q2 w' :=
  ⟨(hb.cell (p := ⟨b1, 0, none⟩) h1).trans h.1, (hb.cell (p := ⟨b1, 1, none⟩) h1).trans h.2.1, (hb.cell (p := ⟨b2, 0, none⟩) h2).trans h.2.2.1, (hb.cell (p := ⟨b2, 1, none⟩) h2).trans h.2.2.2⟩


end Go.Proofs.YtpgoildfjkokiaaGreat

/- The walk of spec.l1Two, and what two boxes without a fault are. -/
namespace Go.Proofs.YtpgoildfjkokiaaGreat
open Go.RowKit

/-- A box without a fault: two or three dimensions, numbers from -1000 to 1000, Low not above High. -/
structure Right (xs ys : List Int) (n : Nat) : Prop where
  len : xs.length = n
  len' : ys.length = n
  dim : n = 2 ∨ n = 3
  at_ : ∀ (k : Nat) (x y : Int), xs[k]? = some x → ys[k]? = some y → -1000 ≤ x ∧ x ≤ y ∧ y ≤ 1000

theorem allIn_at {l h : Int} {xs : List Int} (hp : allIn l h xs = true) {k : Nat} {x : Int} (hk : xs[k]? = some x) : l ≤ x ∧ x ≤ h := by
  unfold allIn at hp
  have := List.all_eq_true.1 hp x (List.mem_of_getElem? hk)
  simpa using this

theorem right_of_rf {xs ys : List Int} {n : Nat} (h : rf xs ys (n : Int) = 0) : Right xs ys n := by
  unfold rf at h
  by_cases h1 : pf xs (n : Int) = 0
  · by_cases h2 : pf ys (n : Int) = 0
    · rw [if_neg (by simpa using h1), if_neg (by simpa using h2)] at h
      cases h3 : leAll xs ys with
      | false => rw [h3] at h; simp at h
      | true =>
        obtain ⟨d1, l1, a1⟩ := pf_zero h1
        obtain ⟨d2, l2, a2⟩ := pf_zero h2
        refine ⟨by omega, by omega, by omega, fun k x y hx hy => ?_⟩
        have b1 := allIn_at a1 hx
        have b2 := allIn_at a2 hy
        unfold leAll at h3
        have b3 := List.all_eq_true.1 h3 _ (List.mem_of_getElem? (zip_at hx hy))
        simp at b3
        omega
    · rw [if_neg (by simpa using h1), if_pos h2] at h
      exact absurd h h2
  · rw [if_pos h1] at h
    exact absurd h h1

theorem right_of_rf2 {xs ys us vs : List Int} (h : rf2 xs ys us vs = 0) : Right xs ys xs.length ∧ Right us vs xs.length := by
  unfold rf2 at h
  by_cases h1 : rf xs ys (xs.length : Int) = 0
  · rw [if_neg (by simpa using h1)] at h
    exact ⟨right_of_rf h1, right_of_rf h⟩
  · rw [if_pos h1] at h
    exact absurd h h1


end Go.Proofs.YtpgoildfjkokiaaGreat

/- The walks of the model's loops over dimensions: spec.l1Min, l1Max, l1Meets, l1Covers, l1Area, l1Margin, l1Overlap, l1Dist. For boxes without a fault. -/
namespace Go.Proofs.YtpgoildfjkokiaaGreat
open Go.RowKit

/-- Only draws lie between. -/
def Drawn (w w' : World) : Prop := ∃ q, w' = w.drewN q
theorem Drawn.same (w : World) : Drawn w w := ⟨0, rfl⟩
theorem Drawn.cell {w w' : World} (h : Drawn w w') (a : Addr) : w'.cell? a = w.cell? a := by obtain ⟨q, rfl⟩ := h; rfl
theorem Drawn.more {w w' : World} (h : Drawn w w') (n : Nat) : Drawn w (w'.drewN n) := by obtain ⟨q, rfl⟩ := h; exact ⟨q + n, World.drewN_drewN _ _ _⟩
theorem Drawn.below {w w' : World} (h : Drawn w w') : Below w.heap.size w w' := by obtain ⟨q, rfl⟩ := h; exact below_draws (Below.refl _ _) q


/-- In each of the first k dimensions neither Low is above the other one's High. -/
def meetTo (xs ys us vs : List Int) : Nat → Bool
  | 0 => true
  | k + 1 => meetTo xs ys us vs k && (decide (xs.getD k 0 ≤ vs.getD k 0) && decide (us.getD k 0 ≤ ys.getD k 0))
/-- In each of the first k dimensions the second box is in the first. -/
def coverTo (xs ys us vs : List Int) : Nat → Bool
  | 0 => true
  | k + 1 => coverTo xs ys us vs k && (decide (xs.getD k 0 ≤ us.getD k 0) && decide (vs.getD k 0 ≤ ys.getD k 0))

theorem getD_of {xs : List Int} {k : Nat} {x : Int} (h : xs[k]? = some x) : xs.getD k 0 = x := by simp [h]

theorem meetTo_next {xs ys us vs : List Int} {k : Nat} {x y u v : Int} (hx : xs[k]? = some x) (hy : ys[k]? = some y) (hu : us[k]? = some u) (hv : vs[k]? = some v) (h : meetTo xs ys us vs k = true) (h1 : x ≤ v) (h2 : u ≤ y) :
    meetTo xs ys us vs (k + 1) = true := by simp only [meetTo, getD_of hx, getD_of hy, getD_of hu, getD_of hv, h, decide_eq_true h1, decide_eq_true h2, Bool.and_true]
theorem meetTo_stop {xs ys us vs : List Int} {k : Nat} {x y u v : Int} (hx : xs[k]? = some x) (hy : ys[k]? = some y) (hu : us[k]? = some u) (hv : vs[k]? = some v) (h1 : ¬ (x ≤ v ∧ u ≤ y)) (n : Nat) (hn : k < n) :
    meetTo xs ys us vs n = false := by
  induction n with
  | zero => omega
  | succ n ih =>
    by_cases e : k = n
    · subst e
      have : (decide (x ≤ v) && decide (u ≤ y)) = false := by rw [Bool.and_eq_false_iff]; simp only [decide_eq_false_iff_not]; omega
      simp only [meetTo, getD_of hx, getD_of hy, getD_of hu, getD_of hv, this, Bool.and_false]
    · simp only [meetTo, ih (by omega), Bool.false_and]
theorem coverTo_next {xs ys us vs : List Int} {k : Nat} {x y u v : Int} (hx : xs[k]? = some x) (hy : ys[k]? = some y) (hu : us[k]? = some u) (hv : vs[k]? = some v) (h : coverTo xs ys us vs k = true) (h1 : x ≤ u) (h2 : v ≤ y) :
    coverTo xs ys us vs (k + 1) = true := by simp only [coverTo, getD_of hx, getD_of hy, getD_of hu, getD_of hv, h, decide_eq_true h1, decide_eq_true h2, Bool.and_true]
theorem coverTo_stop {xs ys us vs : List Int} {k : Nat} {x y u v : Int} (hx : xs[k]? = some x) (hy : ys[k]? = some y) (hu : us[k]? = some u) (hv : vs[k]? = some v) (h1 : ¬ (x ≤ u ∧ v ≤ y)) (n : Nat) (hn : k < n) :
    coverTo xs ys us vs n = false := by
  induction n with
  | zero => omega
  | succ n ih =>
    by_cases e : k = n
    · subst e
      have : (decide (x ≤ u) && decide (v ≤ y)) = false := by rw [Bool.and_eq_false_iff]; simp only [decide_eq_false_iff_not]; omega
      simp only [coverTo, getD_of hx, getD_of hy, getD_of hu, getD_of hv, this, Bool.and_false]
    · simp only [coverTo, ih (by omega), Bool.false_and]

/-- As Two, each struct at its own place in its block. -/
def TwoAt (b1 f1 b2 f2 : Nat) (p1 p2 q1 q2 : Value) (w : World) : Prop := w.cell? ⟨b1, f1, none⟩ = some p1 ∧ w.cell? ⟨b1, f1 + 1, none⟩ = some p2 ∧ w.cell? ⟨b2, f2, none⟩ = some q1 ∧ w.cell? ⟨b2, f2 + 1, none⟩ = some q2



/-- The product of the first k edges. -/
def areaTo (xs ys : List Int) : Nat → Int
  | 0 => 1
  | k + 1 => areaTo xs ys k * (ys.getD k 0 - xs.getD k 0)
def marginTo (xs ys : List Int) : Nat → Int
  | 0 => 0
  | k + 1 => marginTo xs ys k + ys.getD k 0 - xs.getD k 0
def overTo (xs ys us vs : List Int) : Nat → Int
  | 0 => 1
  | k + 1 => overTo xs ys us vs k * max (min (ys.getD k 0) (vs.getD k 0) - max (xs.getD k 0) (us.getD k 0)) 0
def distTo (xs ys ps : List Int) : Nat → Int
  | 0 => 0
  | k + 1 => distTo xs ys ps k + max (xs.getD k 0 - ps.getD k 0) 0 + max (ps.getD k 0 - ys.getD k 0) 0

theorem Right.get {xs ys : List Int} {n : Nat} (h : Right xs ys n) {k : Nat} (hk : k < n) : -1000 ≤ xs.getD k 0 ∧ xs.getD k 0 ≤ ys.getD k 0 ∧ ys.getD k 0 ≤ 1000 := by
  have h1 : xs[k]? = some (xs.getD k 0) := by rw [List.getElem?_eq_getElem (by have := h.len; omega)]; simp [List.getElem?_eq_getElem (show k < xs.length by have := h.len; omega)]
  have h2 : ys[k]? = some (ys.getD k 0) := by rw [List.getElem?_eq_getElem (by have := h.len'; omega)]; simp [List.getElem?_eq_getElem (show k < ys.length by have := h.len'; omega)]
  exact h.at_ k _ _ h1 h2

theorem areaTo_bd {xs ys : List Int} {n : Nat} (h : Right xs ys n) : ∀ k, k ≤ n → 0 ≤ areaTo xs ys k ∧ areaTo xs ys k ≤ 2000 ^ k
  | 0, _ => by simp [areaTo]
  | k + 1, hk => by
    have ih := areaTo_bd h k (by omega)
    have hg := h.get (k := k) (by omega)
    simp only [areaTo, Int.pow_succ]
    exact mul_le ih.1 (by omega) ih.2 (by omega)
theorem overTo_bd {xs ys us vs : List Int} {n : Nat} (h : Right xs ys n) : ∀ k, k ≤ n → 0 ≤ overTo xs ys us vs k ∧ overTo xs ys us vs k ≤ 2000 ^ k
  | 0, _ => by simp [overTo]
  | k + 1, hk => by
    have ih := overTo_bd (us := us) (vs := vs) h k (by omega)
    have hg := h.get (k := k) (by omega)
    simp only [overTo, Int.pow_succ]
    exact mul_le ih.1 (by omega) ih.2 (by omega)
theorem marginTo_bd {xs ys : List Int} {n : Nat} (h : Right xs ys n) : ∀ k, k ≤ n → 0 ≤ marginTo xs ys k ∧ marginTo xs ys k ≤ 2000 * k
  | 0, _ => by simp [marginTo]
  | k + 1, hk => by
    have ih := marginTo_bd h k (by omega)
    have hg := h.get (k := k) (by omega)
    simp only [marginTo]
    omega
theorem pow_small {k : Nat} (hk : k ≤ 2) : (2000 : Int) ^ k ≤ 4000000 := by
  rcases (show k = 0 ∨ k = 1 ∨ k = 2 by omega) with rfl | rfl | rfl <;> decide



end Go.Proofs.YtpgoildfjkokiaaGreat
