/- The walks of spec.Meets and impl.Meets: for every two boxes. -/
import Derived.Test.YtpgoildfjkokiaaGreatSpecLoops
import Derived.Deep.RegionWith
import Derived.Test.YtpgoildfjkokiaaGreatSpecNode
namespace Go.Proofs.YtpgoildfjkokiaaGreat
open Go.RowKit

/-- Whether two boxes meet. -/
def meetsF (x1 x2 x3 x4 : List Int) : Bool := decide (rf2 x1 x2 x3 x4 = 0) && meetTo x1 x2 x3 x4 x1.length


theorem pad_get {xs : List Int} {p0 p1 p2 : Int} (h : Pad xs p0 p1 p2) : xs.getD 0 0 = p0 ∧ xs.getD 1 0 = p1 ∧ xs.getD 2 0 = p2 ∧ (xs.length = 2 ∨ xs.length = 3) ∧ (xs.length = 2 → p2 = 0) := by
  rcases h with ⟨rfl, rfl⟩ | rfl <;> simp

theorem meetTo_box {x1 x2 x3 x4 : List Int} {n : Nat} {p0 p1 p2 q0 q1 q2 r0 r1 r2 s0 s1 s2 : Int} (h1 : Pad x1 p0 p1 p2) (h2 : Pad x2 q0 q1 q2) (h3 : Pad x3 r0 r1 r2) (h4 : Pad x4 s0 s1 s2)
    (l1 : x1.length = n) (l2 : x2.length = n) (l3 : x3.length = n) (l4 : x4.length = n) : boxMeets p0 p1 p2 q0 q1 q2 r0 r1 r2 s0 s1 s2 = meetTo x1 x2 x3 x4 n := by
  obtain ⟨a0, a1, a2, ad, az⟩ := pad_get h1
  obtain ⟨b0, b1, b2, _, bz⟩ := pad_get h2
  obtain ⟨c0, c1, c2, _, cz⟩ := pad_get h3
  obtain ⟨d0, d1, d2, _, dz⟩ := pad_get h4
  rcases ad with e | e
  · have hn : n = 2 := by omega
    subst hn
    have za := a2.trans (az e)
    have zb := b2.trans (bz (by omega))
    have zc := c2.trans (cz (by omega))
    have zd := d2.trans (dz (by omega))
    clear az bz cz dz
    subst_vars
    simp only [boxMeets, meetTo, za, zb, zc, zd, Bool.true_and, Bool.and_assoc, Int.le_refl, decide_true, Bool.and_true]
  · have hn : n = 3 := by omega
    subst hn
    subst_vars
    simp only [boxMeets, meetTo, Bool.true_and, Bool.and_assoc]


end Go.Proofs.YtpgoildfjkokiaaGreat

/- The walks of the model's further loops over dimensions: spec.l1Margin, l1Overlap, l1Dist. For boxes without a fault. -/
namespace Go.Proofs.YtpgoildfjkokiaaGreat
open Go.RowKit



theorem distTo_bd {xs ys ps : List Int} {n : Nat} (h : Right xs ys n) (hp : allIn (-1000) 1000 ps = true) (hl : ps.length = n) : ∀ k, k ≤ n → 0 ≤ distTo xs ys ps k ∧ distTo xs ys ps k ≤ 2000 * k
  | 0, _ => by simp [distTo]
  | k + 1, hk => by
    have ih := distTo_bd h hp hl k (by omega)
    have hg := h.get (k := k) (by omega)
    have h1 : ps[k]? = some (ps.getD k 0) := by rw [List.getElem?_eq_getElem (by omega)]; simp [List.getElem?_eq_getElem (show k < ps.length by omega)]
    have h2 := allIn_at hp h1
    simp only [distTo]
    omega


end Go.Proofs.YtpgoildfjkokiaaGreat

/- What the methods of impl's boxes answer, said of the lists of numbers that a box was made from. For boxes without a fault. -/
namespace Go.Proofs.YtpgoildfjkokiaaGreat
open Go.RowKit

theorem right_pads {xs ys : List Int} {n : Nat} {p0 p1 p2 q0 q1 q2 : Int} (hr : Right xs ys n) (hp : Pad xs p0 p1 p2) (hq : Pad ys q0 q1 q2) :
    (-1000 ≤ p0 ∧ p0 ≤ q0 ∧ q0 ≤ 1000) ∧ (-1000 ≤ p1 ∧ p1 ≤ q1 ∧ q1 ≤ 1000) ∧ (-1000 ≤ p2 ∧ p2 ≤ q2 ∧ q2 ≤ 1000) := by
  obtain ⟨a0, a1, a2, ad, az⟩ := pad_get hp
  obtain ⟨b0, b1, b2, bd, bz⟩ := pad_get hq
  have l1 := hr.len
  have l2 := hr.len'
  have g0 := hr.get (k := 0) (by omega)
  have g1 := hr.get (k := 1) (by omega)
  rw [a0, b0] at g0
  rw [a1, b1] at g1
  refine ⟨g0, g1, ?_⟩
  rcases hr.dim with e | e
  · rw [az (by omega), bz (by omega)]; omega
  · have g2 := hr.get (k := 2) (by omega)
    rw [a2, b2] at g2
    exact g2

theorem areaTo_pads {xs ys : List Int} {n : Nat} {p0 p1 p2 q0 q1 q2 : Int} (hp : Pad xs p0 p1 p2) (hq : Pad ys q0 q1 q2) : (n = 2 → areaTo xs ys n = (q0 - p0) * (q1 - p1)) ∧ (n = 3 → areaTo xs ys n = (q0 - p0) * (q1 - p1) * (q2 - p2)) := by
  obtain ⟨a0, a1, a2, _⟩ := pad_get hp
  obtain ⟨b0, b1, b2, _⟩ := pad_get hq
  constructor <;> rintro rfl <;> simp only [areaTo, a0, a1, a2, b0, b1, b2, Int.one_mul]


theorem marginTo_pads {xs ys : List Int} {n : Nat} {p0 p1 p2 q0 q1 q2 : Int} (hr : Right xs ys n) (hp : Pad xs p0 p1 p2) (hq : Pad ys q0 q1 q2) : (q0 - p0) + (q1 - p1) + (q2 - p2) = marginTo xs ys n := by
  obtain ⟨a0, a1, a2, _, az⟩ := pad_get hp
  obtain ⟨b0, b1, b2, _, bz⟩ := pad_get hq
  have l1 := hr.len
  have l2 := hr.len'
  rcases hr.dim with rfl | rfl
  · simp only [marginTo, a0, a1, b0, b1]
    rw [az (by omega), bz (by omega)]
    omega
  · simp only [marginTo, a0, a1, a2, b0, b1, b2]
    omega


/-- The lesser, the greater numbers of two points. -/
def mins (xs us : List Int) : List Int := List.zipWith min xs us

def maxs (ys vs : List Int) : List Int := List.zipWith max ys vs

theorem pad_mins {xs us : List Int} {p0 p1 p2 r0 r1 r2 : Int} (hl : xs.length = us.length) (hp : Pad xs p0 p1 p2) (hq : Pad us r0 r1 r2) : Pad (mins xs us) (min p0 r0) (min p1 r1) (min p2 r2) := by
  rcases hp with ⟨rfl, rfl⟩ | rfl <;> rcases hq with ⟨rfl, rfl⟩ | rfl <;> simp at hl <;> simp [Pad, mins]
theorem pad_maxs {xs us : List Int} {p0 p1 p2 r0 r1 r2 : Int} (hl : xs.length = us.length) (hp : Pad xs p0 p1 p2) (hq : Pad us r0 r1 r2) : Pad (maxs xs us) (max p0 r0) (max p1 r1) (max p2 r2) := by
  rcases hp with ⟨rfl, rfl⟩ | rfl <;> rcases hq with ⟨rfl, rfl⟩ | rfl <;> simp at hl <;> simp [Pad, maxs]

theorem zip_at' {f : Int → Int → Int} {xs us : List Int} {k : Nat} {z : Int} (h : (List.zipWith f xs us)[k]? = some z) : ∃ x u, xs[k]? = some x ∧ us[k]? = some u ∧ z = f x u := by
  rw [List.getElem?_zipWith] at h
  cases hx : xs[k]? with
  | none => simp [hx] at h
  | some x =>
    cases hu : us[k]? with
    | none => simp [hx, hu] at h
    | some u => simp [hx, hu] at h; exact ⟨x, u, rfl, rfl, h.symm⟩

theorem right_union {xs ys us vs : List Int} {n : Nat} (h : Right xs ys n) (h' : Right us vs n) : Right (mins xs us) (maxs ys vs) n := by
  refine ⟨by simp [mins, h.len, h'.len], by simp [maxs, h.len', h'.len'], h.dim, fun k a b ha hb => ?_⟩
  obtain ⟨x, u, hx, hu, rfl⟩ := zip_at' ha
  obtain ⟨y, v, hy, hv, rfl⟩ := zip_at' hb
  have := h.at_ k x y hx hy
  have := h'.at_ k u v hu hv
  omega

theorem getD_max {xs us : List Int} {k n : Nat} (h1 : xs.length = n) (h2 : us.length = n) (hk : k < n) : (maxs xs us).getD k 0 = max (xs.getD k 0) (us.getD k 0) := by
  simp [maxs, List.getElem?_zipWith, List.getElem?_eq_getElem (show k < xs.length by omega), List.getElem?_eq_getElem (show k < us.length by omega)]
theorem getD_min {xs us : List Int} {k n : Nat} (h1 : xs.length = n) (h2 : us.length = n) (hk : k < n) : (mins xs us).getD k 0 = min (xs.getD k 0) (us.getD k 0) := by
  simp [mins, List.getElem?_zipWith, List.getElem?_eq_getElem (show k < xs.length by omega), List.getElem?_eq_getElem (show k < us.length by omega)]

theorem meetTo_all {xs ys us vs : List Int} : ∀ {n : Nat}, meetTo xs ys us vs n = true → ∀ k, k < n → xs.getD k 0 ≤ vs.getD k 0 ∧ us.getD k 0 ≤ ys.getD k 0
  | 0, _, k, hk => by omega
  | n + 1, h, k, hk => by
    simp only [meetTo, Bool.and_eq_true, decide_eq_true_eq] at h
    by_cases e : k = n
    · subst e; exact h.2
    · exact meetTo_all h.1 k (by omega)

theorem right_common {xs ys us vs : List Int} {n : Nat} (h : Right xs ys n) (h' : Right us vs n) (hm : meetTo xs ys us vs n = true) : Right (maxs xs us) (mins ys vs) n := by
  refine ⟨by simp [maxs, h.len, h'.len], by simp [mins, h.len', h'.len'], h.dim, fun k a b ha hb => ?_⟩
  obtain ⟨x, u, hx, hu, rfl⟩ := zip_at' ha
  obtain ⟨y, v, hy, hv, rfl⟩ := zip_at' hb
  have := h.at_ k x y hx hy
  have := h'.at_ k u v hu hv
  have hk : k < n := by rw [← h.len]; exact (List.getElem?_eq_some_iff.1 hx).1
  have := meetTo_all hm k hk
  rw [getD_of hx, getD_of hy, getD_of hu, getD_of hv] at this
  omega

theorem over_common {xs ys us vs : List Int} {n : Nat} (h : Right xs ys n) (h' : Right us vs n) (hm : meetTo xs ys us vs n = true) : ∀ k, k ≤ n → areaTo (maxs xs us) (mins ys vs) k = overTo xs ys us vs k
  | 0, _ => rfl
  | k + 1, hk => by
    have ih := over_common h h' hm k (by omega)
    have h1 := h.get (k := k) (by omega)
    have h2 := h'.get (k := k) (by omega)
    have h3 := meetTo_all hm k (by omega)
    simp only [areaTo, overTo, ih, getD_max h.len h'.len (show k < n by omega), getD_min h.len' h'.len' (show k < n by omega)]
    congr 1
    omega

theorem over_apart {xs ys us vs : List Int} {k : Nat} (hk : ¬ (xs.getD k 0 ≤ vs.getD k 0 ∧ us.getD k 0 ≤ ys.getD k 0)) : ∀ n, k < n → overTo xs ys us vs n = 0
  | 0, h => by omega
  | n + 1, h => by
    by_cases e : k = n
    · subst e
      simp only [overTo]
      rw [show max (min (ys.getD k 0) (vs.getD k 0) - max (xs.getD k 0) (us.getD k 0)) 0 = 0 by omega, Int.mul_zero]
    · simp only [overTo]
      rw [over_apart hk n (by omega), Int.zero_mul]

theorem meetTo_no {xs ys us vs : List Int} : ∀ {n : Nat}, meetTo xs ys us vs n = false → ∃ k, k < n ∧ ¬ (xs.getD k 0 ≤ vs.getD k 0 ∧ us.getD k 0 ≤ ys.getD k 0)
  | 0, h => by simp [meetTo] at h
  | n + 1, h => by
    by_cases e : meetTo xs ys us vs n = false
    · obtain ⟨k, hk, hh⟩ := meetTo_no e
      exact ⟨k, by omega, hh⟩
    · refine ⟨n, by omega, fun hh => ?_⟩
      simp only [meetTo, decide_eq_true hh.1, decide_eq_true hh.2, Bool.and_true] at h
      exact e h

theorem over_none {xs ys us vs : List Int} {n : Nat} (hm : meetTo xs ys us vs n = false) : overTo xs ys us vs n = 0 := by
  obtain ⟨k, hk, hh⟩ := meetTo_no hm
  exact over_apart hh n hk

end Go.Proofs.YtpgoildfjkokiaaGreat

/- The plain mathematics of the smallest box in which all entries are. No Go text. -/
namespace Go.Proofs.YtpgoildfjkokiaaGreat
open Go.RowKit

/-- The least corner, and the greatest, of all entries. -/
def lowB : List EVal → List Int
  | [] => []
  | v :: vs => vs.foldl (fun a u => mins a u.1) v.1
def highB : List EVal → List Int
  | [] => []
  | v :: vs => vs.foldl (fun a u => maxs a u.2.1) v.2.1
theorem lowB_one {vs : List EVal} {v : EVal} (h : vs[0]? = some v) : lowB (vs.take 1) = v.1 := by
  cases vs with
  | nil => simp at h
  | cons u us => simp at h; subst h; rfl
theorem highB_one {vs : List EVal} {v : EVal} (h : vs[0]? = some v) : highB (vs.take 1) = v.2.1 := by
  cases vs with
  | nil => simp at h
  | cons u us => simp at h; subst h; rfl
theorem lowB_next {vs : List EVal} {k : Nat} {v : EVal} (hk : 1 ≤ k) (h : vs[k]? = some v) : lowB (vs.take (k + 1)) = mins (lowB (vs.take k)) v.1 := by
  cases vs with
  | nil => simp at h
  | cons u us =>
    obtain ⟨k, rfl⟩ : ∃ j, k = j + 1 := ⟨k - 1, by omega⟩
    simp only [List.getElem?_cons_succ] at h
    simp only [List.take_succ_cons, lowB]
    rw [List.take_add_one, h, List.foldl_append]; rfl
theorem highB_next {vs : List EVal} {k : Nat} {v : EVal} (hk : 1 ≤ k) (h : vs[k]? = some v) : highB (vs.take (k + 1)) = maxs (highB (vs.take k)) v.2.1 := by
  cases vs with
  | nil => simp at h
  | cons u us =>
    obtain ⟨k, rfl⟩ : ∃ j, k = j + 1 := ⟨k - 1, by omega⟩
    simp only [List.getElem?_cons_succ] at h
    simp only [List.take_succ_cons, highB]
    rw [List.take_add_one, h, List.foldl_append]; rfl
/-- All entries' corners are n numbers long. -/
def LensE (n : Nat) (vs : List EVal) : Prop := ∀ (j : Nat) (u : EVal), vs[j]? = some u → u.1.length = n ∧ u.2.1.length = n
theorem lowB_len {n : Nat} : ∀ {vs : List EVal} {k : Nat}, LensE n vs → 1 ≤ k → k ≤ vs.length → (lowB (vs.take k)).length = n
  | vs, 0, _, h, _ => by omega
  | vs, 1, hl, _, h1 => by
    have hv : vs[0]? = some (vs[0]'(by omega)) := List.getElem?_eq_getElem _
    rw [lowB_one hv]; exact (hl 0 _ hv).1
  | vs, k + 2, hl, _, h1 => by
    have hv : vs[k + 1]? = some (vs[k + 1]'(by omega)) := List.getElem?_eq_getElem _
    rw [lowB_next (by omega) hv]
    have h2 := lowB_len (vs := vs) (k := k + 1) hl (by omega) (by omega)
    simp [mins, h2, (hl _ _ hv).1]
theorem highB_len {n : Nat} : ∀ {vs : List EVal} {k : Nat}, LensE n vs → 1 ≤ k → k ≤ vs.length → (highB (vs.take k)).length = n
  | vs, 0, _, h, _ => by omega
  | vs, 1, hl, _, h1 => by
    have hv : vs[0]? = some (vs[0]'(by omega)) := List.getElem?_eq_getElem _
    rw [highB_one hv]; exact (hl 0 _ hv).2
  | vs, k + 2, hl, _, h1 => by
    have hv : vs[k + 1]? = some (vs[k + 1]'(by omega)) := List.getElem?_eq_getElem _
    rw [highB_next (by omega) hv]
    have h2 := highB_len (vs := vs) (k := k + 1) hl (by omega) (by omega)
    simp [maxs, h2, (hl _ _ hv).2]
theorem rf_len {x1 x2 : List Int} {d : Int} (h : rf x1 x2 d = 0) : (2 ≤ d ∧ d ≤ 3) ∧ (x1.length : Int) = d ∧ (x2.length : Int) = d := by
  have h1 : pf x1 d = 0 := by
    unfold rf at h
    by_cases h1 : pf x1 d = 0
    · exact h1
    · rw [if_pos h1] at h; exact absurd h h1
  have h2 : pf x2 d = 0 := by
    unfold rf at h
    rw [if_neg (by simp [h1])] at h
    by_cases h2 : pf x2 d = 0
    · exact h2
    · rw [if_pos h2] at h; exact absurd h h2
  exact ⟨(pf_zero h1).1, (pf_zero h1).2.1, (pf_zero h2).2.1⟩
theorem lens_of {vs : List EVal} {d : Int} (h : ∀ (j : Nat) (u : EVal), vs[j]? = some u → entF d u = 0) : LensE d.toNat vs := by
  intro j u hu
  obtain ⟨h1, h2, h3⟩ := rf_len (entF_zero (h j u hu)).1
  omega

/-- BoxOf's code. -/
def boxC (f : Int) (n : Nat) : Int := if f ≠ 0 then f else if n = 0 then 4 else 0
theorem boxC_zero {f : Int} {n : Nat} (h : boxC f n = 0) : f = 0 ∧ 0 < n := by
  unfold boxC at h
  by_cases h1 : f = 0
  · rw [if_neg (by simp [h1])] at h
    by_cases h2 : n = 0
    · rw [if_pos h2] at h; omega
    · exact ⟨h1, by omega⟩
  · rw [if_pos h1] at h; exact absurd h h1

theorem mins_self (xs : List Int) : mins xs xs = xs := by
  unfold mins
  induction xs with
  | nil => rfl
  | cons x xs ih => simp [ih]
theorem maxs_self (xs : List Int) : maxs xs xs = xs := by
  unfold maxs
  induction xs with
  | nil => rfl
  | cons x xs ih => simp [ih]

end Go.Proofs.YtpgoildfjkokiaaGreat
