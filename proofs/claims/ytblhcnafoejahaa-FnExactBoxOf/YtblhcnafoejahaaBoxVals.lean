/- What the methods of impl's boxes answer, said of the lists of numbers that a box was made from. For boxes without a fault. -/
import Derived.Test.YtblhcnafoejahaaMeets
import Derived.Test.YtblhcnafoejahaaSpecLoops2
namespace Go.Proofs.Ytblhcnafoejahaa
open Go.RowKit

theorem right_pads {xs ys : List Int} {n : Nat} {p0 p1 p2 q0 q1 q2 : Int} (hr : Right xs ys n) (hp : Pad xs p0 p1 p2) (hq : Pad ys q0 q1 q2) :
    (-1000 ≤ p0 ∧ p0 ≤ q0 ∧ q0 ≤ 1000) ∧ (-1000 ≤ p1 ∧ p1 ≤ q1 ∧ q1 ≤ 1000) ∧ (-1000 ≤ p2 ∧ p2 ≤ q2 ∧ q2 ≤ 1000) := by
  obtain ⟨a0, a1, a2, ad, az⟩ := pad_get hp
  obtain ⟨b0, b1, b2, bd, bz⟩ := pad_get hq
  have l1 := hr.len
  have l2 := hr.len'
  have g0 := hr.get (k := 0) (by omega)
  have g1 := hr.get (k := 1) (by omega)
  rw [a0, b0] at g0
  rw [a1, b1] at g1
  refine ⟨g0, g1, ?_⟩
  rcases hr.dim with e | e
  · rw [az (by omega), bz (by omega)]; omega
  · have g2 := hr.get (k := 2) (by omega)
    rw [a2, b2] at g2
    exact g2

theorem areaTo_pads {xs ys : List Int} {n : Nat} {p0 p1 p2 q0 q1 q2 : Int} (hp : Pad xs p0 p1 p2) (hq : Pad ys q0 q1 q2) : (n = 2 → areaTo xs ys n = (q0 - p0) * (q1 - p1)) ∧ (n = 3 → areaTo xs ys n = (q0 - p0) * (q1 - p1) * (q2 - p2)) := by
  obtain ⟨a0, a1, a2, _⟩ := pad_get hp
  obtain ⟨b0, b1, b2, _⟩ := pad_get hq
  constructor <;> rintro rfl <;> simp only [areaTo, a0, a1, a2, b0, b1, b2, Int.one_mul]


theorem marginTo_pads {xs ys : List Int} {n : Nat} {p0 p1 p2 q0 q1 q2 : Int} (hr : Right xs ys n) (hp : Pad xs p0 p1 p2) (hq : Pad ys q0 q1 q2) : (q0 - p0) + (q1 - p1) + (q2 - p2) = marginTo xs ys n := by
  obtain ⟨a0, a1, a2, _, az⟩ := pad_get hp
  obtain ⟨b0, b1, b2, _, bz⟩ := pad_get hq
  have l1 := hr.len
  have l2 := hr.len'
  rcases hr.dim with rfl | rfl
  · simp only [marginTo, a0, a1, b0, b1]
    rw [az (by omega), bz (by omega)]
    omega
  · simp only [marginTo, a0, a1, a2, b0, b1, b2]
    omega


/-- The lesser, the greater numbers of two points. -/
def mins (xs us : List Int) : List Int := List.zipWith min xs us

def maxs (ys vs : List Int) : List Int := List.zipWith max ys vs

theorem pad_mins {xs us : List Int} {p0 p1 p2 r0 r1 r2 : Int} (hl : xs.length = us.length) (hp : Pad xs p0 p1 p2) (hq : Pad us r0 r1 r2) : Pad (mins xs us) (min p0 r0) (min p1 r1) (min p2 r2) := by
  rcases hp with ⟨rfl, rfl⟩ | rfl <;> rcases hq with ⟨rfl, rfl⟩ | rfl <;> simp at hl <;> simp [Pad, mins]
theorem pad_maxs {xs us : List Int} {p0 p1 p2 r0 r1 r2 : Int} (hl : xs.length = us.length) (hp : Pad xs p0 p1 p2) (hq : Pad us r0 r1 r2) : Pad (maxs xs us) (max p0 r0) (max p1 r1) (max p2 r2) := by
  rcases hp with ⟨rfl, rfl⟩ | rfl <;> rcases hq with ⟨rfl, rfl⟩ | rfl <;> simp at hl <;> simp [Pad, maxs]

theorem zip_at' {f : Int → Int → Int} {xs us : List Int} {k : Nat} {z : Int} (h : (List.zipWith f xs us)[k]? = some z) : ∃ x u, xs[k]? = some x ∧ us[k]? = some u ∧ z = f x u := by
  rw [List.getElem?_zipWith] at h
  cases hx : xs[k]? with
  | none => simp [hx] at h
  | some x =>
    cases hu : us[k]? with
    | none => simp [hx, hu] at h
    | some u => simp [hx, hu] at h; exact ⟨x, u, rfl, rfl, h.symm⟩

theorem right_union {xs ys us vs : List Int} {n : Nat} (h : Right xs ys n) (h' : Right us vs n) : Right (mins xs us) (maxs ys vs) n := by
  refine ⟨by simp [mins, h.len, h'.len], by simp [maxs, h.len', h'.len'], h.dim, fun k a b ha hb => ?_⟩
  obtain ⟨x, u, hx, hu, rfl⟩ := zip_at' ha
  obtain ⟨y, v, hy, hv, rfl⟩ := zip_at' hb
  have := h.at_ k x y hx hy
  have := h'.at_ k u v hu hv
  omega

theorem getD_max {xs us : List Int} {k n : Nat} (h1 : xs.length = n) (h2 : us.length = n) (hk : k < n) : (maxs xs us).getD k 0 = max (xs.getD k 0) (us.getD k 0) := by
  simp [maxs, List.getElem?_zipWith, List.getElem?_eq_getElem (show k < xs.length by omega), List.getElem?_eq_getElem (show k < us.length by omega)]
theorem getD_min {xs us : List Int} {k n : Nat} (h1 : xs.length = n) (h2 : us.length = n) (hk : k < n) : (mins xs us).getD k 0 = min (xs.getD k 0) (us.getD k 0) := by
  simp [mins, List.getElem?_zipWith, List.getElem?_eq_getElem (show k < xs.length by omega), List.getElem?_eq_getElem (show k < us.length by omega)]

theorem meetTo_all {xs ys us vs : List Int} : ∀ {n : Nat}, meetTo xs ys us vs n = true → ∀ k, k < n → xs.getD k 0 ≤ vs.getD k 0 ∧ us.getD k 0 ≤ ys.getD k 0
  | 0, _, k, hk => by omega
  | n + 1, h, k, hk => by
    simp only [meetTo, Bool.and_eq_true, decide_eq_true_eq] at h
    by_cases e : k = n
    · subst e; exact h.2
    · exact meetTo_all h.1 k (by omega)

theorem right_common {xs ys us vs : List Int} {n : Nat} (h : Right xs ys n) (h' : Right us vs n) (hm : meetTo xs ys us vs n = true) : Right (maxs xs us) (mins ys vs) n := by
  refine ⟨by simp [maxs, h.len, h'.len], by simp [mins, h.len', h'.len'], h.dim, fun k a b ha hb => ?_⟩
  obtain ⟨x, u, hx, hu, rfl⟩ := zip_at' ha
  obtain ⟨y, v, hy, hv, rfl⟩ := zip_at' hb
  have := h.at_ k x y hx hy
  have := h'.at_ k u v hu hv
  have hk : k < n := by rw [← h.len]; exact (List.getElem?_eq_some_iff.1 hx).1
  have := meetTo_all hm k hk
  rw [getD_of hx, getD_of hy, getD_of hu, getD_of hv] at this
  omega

theorem over_common {xs ys us vs : List Int} {n : Nat} (h : Right xs ys n) (h' : Right us vs n) (hm : meetTo xs ys us vs n = true) : ∀ k, k ≤ n → areaTo (maxs xs us) (mins ys vs) k = overTo xs ys us vs k
  | 0, _ => rfl
  | k + 1, hk => by
    have ih := over_common h h' hm k (by omega)
    have h1 := h.get (k := k) (by omega)
    have h2 := h'.get (k := k) (by omega)
    have h3 := meetTo_all hm k (by omega)
    simp only [areaTo, overTo, ih, getD_max h.len h'.len (show k < n by omega), getD_min h.len' h'.len' (show k < n by omega)]
    congr 1
    omega

theorem over_apart {xs ys us vs : List Int} {k : Nat} (hk : ¬ (xs.getD k 0 ≤ vs.getD k 0 ∧ us.getD k 0 ≤ ys.getD k 0)) : ∀ n, k < n → overTo xs ys us vs n = 0
  | 0, h => by omega
  | n + 1, h => by
    by_cases e : k = n
    · subst e
      simp only [overTo]
      rw [show max (min (ys.getD k 0) (vs.getD k 0) - max (xs.getD k 0) (us.getD k 0)) 0 = 0 by omega, Int.mul_zero]
    · simp only [overTo]
      rw [over_apart hk n (by omega), Int.zero_mul]

theorem meetTo_no {xs ys us vs : List Int} : ∀ {n : Nat}, meetTo xs ys us vs n = false → ∃ k, k < n ∧ ¬ (xs.getD k 0 ≤ vs.getD k 0 ∧ us.getD k 0 ≤ ys.getD k 0)
  | 0, h => by simp [meetTo] at h
  | n + 1, h => by
    by_cases e : meetTo xs ys us vs n = false
    · obtain ⟨k, hk, hh⟩ := meetTo_no e
      exact ⟨k, by omega, hh⟩
    · refine ⟨n, by omega, fun hh => ?_⟩
      simp only [meetTo, decide_eq_true hh.1, decide_eq_true hh.2, Bool.and_true] at h
      exact e h

theorem over_none {xs ys us vs : List Int} {n : Nat} (hm : meetTo xs ys us vs n = false) : overTo xs ys us vs n = 0 := by
  obtain ⟨k, hk, hh⟩ := meetTo_no hm
  exact over_apart hh n hk

end Go.Proofs.Ytblhcnafoejahaa
