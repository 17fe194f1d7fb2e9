/- The walks of the model's loops over dimensions: spec.l1Min, l1Max, l1Meets, l1Covers, l1Area, l1Margin, l1Overlap, l1Dist. For boxes without a fault. -/
import Derived.Test.YtblhcnafoejahaaSpecTwo
namespace Go.Proofs.Ytblhcnafoejahaa
open Go.RowKit

/-- Only draws lie between. -/
def Drawn (w w' : World) : Prop := ∃ q, w' = w.drewN q
theorem Drawn.same (w : World) : Drawn w w := ⟨0, rfl⟩
theorem Drawn.cell {w w' : World} (h : Drawn w w') (a : Addr) : w'.cell? a = w.cell? a := by obtain ⟨q, rfl⟩ := h; rfl
theorem Drawn.more {w w' : World} (h : Drawn w w') (n : Nat) : Drawn w (w'.drewN n) := by obtain ⟨q, rfl⟩ := h; exact ⟨q + n, World.drewN_drewN _ _ _⟩
theorem Drawn.below {w w' : World} (h : Drawn w w') : Below w.heap.size w w' := by obtain ⟨q, rfl⟩ := h; exact below_draws (Below.refl _ _) q

theorem l1Min_any (a b : Int) (w : World) : Calls Try.prog 90 #[.int .i64 a, .int .i64 b] w fun e w' => e = .returned (.int .i64 (min a b)) ∧ w' = w := by
  by_cases h : a < b
  · go_enter Try.func90, Try.ntmps90
    go_wp2
    go_ret
    exact ⟨ret_i64 (by omega), rfl⟩
  · go_enter Try.func90, Try.ntmps90
    go_wp2
    go_ret
    exact ⟨ret_i64 (by omega), rfl⟩
theorem l1Max_any (a b : Int) (w : World) : Calls Try.prog 91 #[.int .i64 a, .int .i64 b] w fun e w' => e = .returned (.int .i64 (max a b)) ∧ w' = w := by
  by_cases h : b < a
  · go_enter Try.func91, Try.ntmps91
    go_wp2
    go_ret
    exact ⟨ret_i64 (by omega), rfl⟩
  · go_enter Try.func91, Try.ntmps91
    go_wp2
    go_ret
    exact ⟨ret_i64 (by omega), rfl⟩

/-- In each of the first k dimensions neither Low is above the other one's High. -/
def meetTo (xs ys us vs : List Int) : Nat → Bool
  | 0 => true
  | k + 1 => meetTo xs ys us vs k && (decide (xs.getD k 0 ≤ vs.getD k 0) && decide (us.getD k 0 ≤ ys.getD k 0))
/-- In each of the first k dimensions the second box is in the first. -/
def coverTo (xs ys us vs : List Int) : Nat → Bool
  | 0 => true
  | k + 1 => coverTo xs ys us vs k && (decide (xs.getD k 0 ≤ us.getD k 0) && decide (vs.getD k 0 ≤ ys.getD k 0))

theorem getD_of {xs : List Int} {k : Nat} {x : Int} (h : xs[k]? = some x) : xs.getD k 0 = x := by simp [h]

theorem meetTo_next {xs ys us vs : List Int} {k : Nat} {x y u v : Int} (hx : xs[k]? = some x) (hy : ys[k]? = some y) (hu : us[k]? = some u) (hv : vs[k]? = some v) (h : meetTo xs ys us vs k = true) (h1 : x ≤ v) (h2 : u ≤ y) :
    meetTo xs ys us vs (k + 1) = true := by simp only [meetTo, getD_of hx, getD_of hy, getD_of hu, getD_of hv, h, decide_eq_true h1, decide_eq_true h2, Bool.and_true]
theorem meetTo_stop {xs ys us vs : List Int} {k : Nat} {x y u v : Int} (hx : xs[k]? = some x) (hy : ys[k]? = some y) (hu : us[k]? = some u) (hv : vs[k]? = some v) (h1 : ¬ (x ≤ v ∧ u ≤ y)) (n : Nat) (hn : k < n) :
    meetTo xs ys us vs n = false := by
  induction n with
  | zero => omega
  | succ n ih =>
    by_cases e : k = n
    · subst e
      have : (decide (x ≤ v) && decide (u ≤ y)) = false := by rw [Bool.and_eq_false_iff]; simp only [decide_eq_false_iff_not]; omega
      simp only [meetTo, getD_of hx, getD_of hy, getD_of hu, getD_of hv, this, Bool.and_false]
    · simp only [meetTo, ih (by omega), Bool.false_and]
theorem coverTo_next {xs ys us vs : List Int} {k : Nat} {x y u v : Int} (hx : xs[k]? = some x) (hy : ys[k]? = some y) (hu : us[k]? = some u) (hv : vs[k]? = some v) (h : coverTo xs ys us vs k = true) (h1 : x ≤ u) (h2 : v ≤ y) :
    coverTo xs ys us vs (k + 1) = true := by simp only [coverTo, getD_of hx, getD_of hy, getD_of hu, getD_of hv, h, decide_eq_true h1, decide_eq_true h2, Bool.and_true]
theorem coverTo_stop {xs ys us vs : List Int} {k : Nat} {x y u v : Int} (hx : xs[k]? = some x) (hy : ys[k]? = some y) (hu : us[k]? = some u) (hv : vs[k]? = some v) (h1 : ¬ (x ≤ u ∧ v ≤ y)) (n : Nat) (hn : k < n) :
    coverTo xs ys us vs n = false := by
  induction n with
  | zero => omega
  | succ n ih =>
    by_cases e : k = n
    · subst e
      have : (decide (x ≤ u) && decide (v ≤ y)) = false := by rw [Bool.and_eq_false_iff]; simp only [decide_eq_false_iff_not]; omega
      simp only [coverTo, getD_of hx, getD_of hy, getD_of hu, getD_of hv, this, Bool.and_false]
    · simp only [coverTo, ih (by omega), Bool.false_and]

/-- As Two, each struct at its own place in its block. -/
def TwoAt (b1 f1 b2 f2 : Nat) (p1 p2 q1 q2 : Value) (w : World) : Prop := w.cell? ⟨b1, f1, none⟩ = some p1 ∧ w.cell? ⟨b1, f1 + 1, none⟩ = some p2 ∧ w.cell? ⟨b2, f2, none⟩ = some q1 ∧ w.cell? ⟨b2, f2 + 1, none⟩ = some q2



/-- The product of the first k edges. -/
def areaTo (xs ys : List Int) : Nat → Int
  | 0 => 1
  | k + 1 => areaTo xs ys k * (ys.getD k 0 - xs.getD k 0)
def marginTo (xs ys : List Int) : Nat → Int
  | 0 => 0
  | k + 1 => marginTo xs ys k + ys.getD k 0 - xs.getD k 0
def overTo (xs ys us vs : List Int) : Nat → Int
  | 0 => 1
  | k + 1 => overTo xs ys us vs k * max (min (ys.getD k 0) (vs.getD k 0) - max (xs.getD k 0) (us.getD k 0)) 0
def distTo (xs ys ps : List Int) : Nat → Int
  | 0 => 0
  | k + 1 => distTo xs ys ps k + max (xs.getD k 0 - ps.getD k 0) 0 + max (ps.getD k 0 - ys.getD k 0) 0

theorem Right.get {xs ys : List Int} {n : Nat} (h : Right xs ys n) {k : Nat} (hk : k < n) : -1000 ≤ xs.getD k 0 ∧ xs.getD k 0 ≤ ys.getD k 0 ∧ ys.getD k 0 ≤ 1000 := by
  have h1 : xs[k]? = some (xs.getD k 0) := by rw [List.getElem?_eq_getElem (by have := h.len; omega)]; simp [List.getElem?_eq_getElem (show k < xs.length by have := h.len; omega)]
  have h2 : ys[k]? = some (ys.getD k 0) := by rw [List.getElem?_eq_getElem (by have := h.len'; omega)]; simp [List.getElem?_eq_getElem (show k < ys.length by have := h.len'; omega)]
  exact h.at_ k _ _ h1 h2

theorem areaTo_bd {xs ys : List Int} {n : Nat} (h : Right xs ys n) : ∀ k, k ≤ n → 0 ≤ areaTo xs ys k ∧ areaTo xs ys k ≤ 2000 ^ k
  | 0, _ => by simp [areaTo]
  | k + 1, hk => by
    have ih := areaTo_bd h k (by omega)
    have hg := h.get (k := k) (by omega)
    simp only [areaTo, Int.pow_succ]
    exact mul_le ih.1 (by omega) ih.2 (by omega)
theorem overTo_bd {xs ys us vs : List Int} {n : Nat} (h : Right xs ys n) : ∀ k, k ≤ n → 0 ≤ overTo xs ys us vs k ∧ overTo xs ys us vs k ≤ 2000 ^ k
  | 0, _ => by simp [overTo]
  | k + 1, hk => by
    have ih := overTo_bd (us := us) (vs := vs) h k (by omega)
    have hg := h.get (k := k) (by omega)
    simp only [overTo, Int.pow_succ]
    exact mul_le ih.1 (by omega) ih.2 (by omega)
theorem marginTo_bd {xs ys : List Int} {n : Nat} (h : Right xs ys n) : ∀ k, k ≤ n → 0 ≤ marginTo xs ys k ∧ marginTo xs ys k ≤ 2000 * k
  | 0, _ => by simp [marginTo]
  | k + 1, hk => by
    have ih := marginTo_bd h k (by omega)
    have hg := h.get (k := k) (by omega)
    simp only [marginTo]
    omega
theorem pow_small {k : Nat} (hk : k ≤ 2) : (2000 : Int) ^ k ≤ 4000000 := by
  rcases (show k = 0 ∨ k = 1 ∨ k = 2 by omega) with rfl | rfl | rfl <;> decide



end Go.Proofs.Ytblhcnafoejahaa
