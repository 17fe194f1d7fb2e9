/- What the laws FnBoxes, FnAreas, FnDists say of boxes, in numbers alone. -/
import Derived.Test.YtfpmbkfikfdmkaaCovers
import Derived.Test.YtfpmbkfikfdmkaaMeets
import Derived.Test.YtfpmbkfikfdmkaaGrowth
import Derived.Test.YtfpmbkfikfdmkaaOverlap
import Derived.Test.YtfpmbkfikfdmkaaDist
import Derived.Test.YtfpmbkfikfdmkaaSame
namespace Go.Proofs.Ytfpmbkfikfdmkaa
open Go.RowKit

theorem allIn_of {l h : Int} {xs : List Int} (hp : ∀ (k : Nat) (x : Int), xs[k]? = some x → l ≤ x ∧ x ≤ h) : allIn l h xs = true := by
  unfold allIn
  rw [List.all_eq_true]
  intro x hx
  obtain ⟨k, hk⟩ := List.getElem?_of_mem hx
  simpa using hp k x hk
theorem Right.pf1 {xs ys : List Int} {n : Nat} (h : Right xs ys n) : pf xs (n : Int) = 0 := by
  have hd : 2 ≤ (n : Int) ∧ (n : Int) ≤ 3 := by rcases h.dim with e | e <;> omega
  unfold pf
  rw [if_pos hd, if_pos (by have := h.len; omega), if_pos]
  refine allIn_of fun k x hx => ?_
  have hk := (List.getElem?_eq_some_iff.1 hx).1
  have hy : ys[k]? = some (ys[k]'(by have := h.len; have := h.len'; omega)) := List.getElem?_eq_getElem _
  have := h.at_ k x _ hx hy
  omega
theorem Right.pf2 {xs ys : List Int} {n : Nat} (h : Right xs ys n) : pf ys (n : Int) = 0 := by
  have hd : 2 ≤ (n : Int) ∧ (n : Int) ≤ 3 := by rcases h.dim with e | e <;> omega
  unfold pf
  rw [if_pos hd, if_pos (by have := h.len'; omega), if_pos]
  refine allIn_of fun k y hy => ?_
  have hk := (List.getElem?_eq_some_iff.1 hy).1
  have hx : xs[k]? = some (xs[k]'(by have := h.len; have := h.len'; omega)) := List.getElem?_eq_getElem _
  have := h.at_ k _ y hx hy
  omega
theorem rf_of_right {xs ys : List Int} {n : Nat} (h : Right xs ys n) : rf xs ys (n : Int) = 0 := by
  unfold rf
  rw [if_neg (by simp [h.pf1]), if_neg (by simp [h.pf2]), if_pos]
  unfold leAll
  rw [List.all_eq_true]
  intro p hp
  obtain ⟨k, hk⟩ := List.getElem?_of_mem hp
  rw [List.getElem?_zip_eq_some] at hk
  have := h.at_ k _ _ hk.1 hk.2
  simp; omega
theorem rf2_of_right {xs ys us vs : List Int} {n : Nat} (h : Right xs ys n) (h' : Right us vs n) : rf2 xs ys us vs = 0 := by
  unfold rf2
  rw [h.len, if_neg (by simp [rf_of_right h])]
  exact rf_of_right h'
/-- Both boxes without a fault, of the same dimensions. -/
theorem rights {xs ys us vs : List Int} (h : rf2 xs ys us vs = 0) : ∃ n, Right xs ys n ∧ Right us vs n := ⟨_, right_of_rf2 h⟩
theorem rf2_comm {xs ys us vs : List Int} (h : rf2 xs ys us vs = 0) : rf2 us vs xs ys = 0 := by
  obtain ⟨n, h1, h2⟩ := rights h
  exact rf2_of_right h2 h1

theorem coverTo_iff {xs ys us vs : List Int} {k : Nat} : coverTo xs ys us vs k = true ↔ ∀ j, j < k → xs.getD j 0 ≤ us.getD j 0 ∧ vs.getD j 0 ≤ ys.getD j 0 := by
  induction k with
  | zero => simp [coverTo]
  | succ k ih =>
    simp only [coverTo, Bool.and_eq_true, decide_eq_true_eq, ih]
    constructor
    · rintro ⟨h1, h2⟩ j hj
      rcases Nat.lt_succ_iff_lt_or_eq.1 hj with h | rfl
      · exact h1 j h
      · exact h2
    · intro h
      exact ⟨fun j hj => h j (by omega), h k (by omega)⟩
theorem meetTo_iff {xs ys us vs : List Int} {k : Nat} : meetTo xs ys us vs k = true ↔ ∀ j, j < k → xs.getD j 0 ≤ vs.getD j 0 ∧ us.getD j 0 ≤ ys.getD j 0 := by
  induction k with
  | zero => simp [meetTo]
  | succ k ih =>
    simp only [meetTo, Bool.and_eq_true, decide_eq_true_eq, ih]
    constructor
    · rintro ⟨h1, h2⟩ j hj
      rcases Nat.lt_succ_iff_lt_or_eq.1 hj with h | rfl
      · exact h1 j h
      · exact h2
    · intro h
      exact ⟨fun j hj => h j (by omega), h k (by omega)⟩
theorem mins_getD {xs us : List Int} (hl : xs.length = us.length) (j : Nat) : (mins xs us).getD j 0 = min (xs.getD j 0) (us.getD j 0) := by
  rcases Nat.lt_or_ge j xs.length with h | h
  · have h1 : xs[j]? = some xs[j] := List.getElem?_eq_getElem h
    have h2 : us[j]? = some (us[j]'(by omega)) := List.getElem?_eq_getElem _
    unfold mins
    rw [List.getD_eq_getElem?_getD, List.getD_eq_getElem?_getD, List.getD_eq_getElem?_getD, List.getElem?_zipWith, h1, h2]; rfl
  · have h1 : xs[j]? = none := List.getElem?_eq_none h
    have h2 : us[j]? = none := List.getElem?_eq_none (by omega)
    unfold mins
    rw [List.getD_eq_getElem?_getD, List.getD_eq_getElem?_getD, List.getD_eq_getElem?_getD, List.getElem?_zipWith, h1, h2]; rfl
theorem maxs_getD {xs us : List Int} (hl : xs.length = us.length) (j : Nat) : (maxs xs us).getD j 0 = max (xs.getD j 0) (us.getD j 0) := by
  rcases Nat.lt_or_ge j xs.length with h | h
  · have h1 : xs[j]? = some xs[j] := List.getElem?_eq_getElem h
    have h2 : us[j]? = some (us[j]'(by omega)) := List.getElem?_eq_getElem _
    unfold maxs
    rw [List.getD_eq_getElem?_getD, List.getD_eq_getElem?_getD, List.getD_eq_getElem?_getD, List.getElem?_zipWith, h1, h2]; rfl
  · have h1 : xs[j]? = none := List.getElem?_eq_none h
    have h2 : us[j]? = none := List.getElem?_eq_none (by omega)
    unfold maxs
    rw [List.getD_eq_getElem?_getD, List.getD_eq_getElem?_getD, List.getD_eq_getElem?_getD, List.getElem?_zipWith, h1, h2]; rfl
theorem mins_comm (xs us : List Int) : mins xs us = mins us xs := by
  unfold mins; rw [List.zipWith_comm]; congr 1; funext a b; omega
theorem maxs_comm (xs us : List Int) : maxs xs us = maxs us xs := by
  unfold maxs; rw [List.zipWith_comm]; congr 1; funext a b; omega
theorem mins_len {xs us : List Int} (hl : xs.length = us.length) : (mins xs us).length = xs.length := by unfold mins; simp; omega
theorem maxs_len {xs us : List Int} (hl : xs.length = us.length) : (maxs xs us).length = xs.length := by unfold maxs; simp; omega
theorem list_getD {xs ys : List Int} (hl : xs.length = ys.length) (h : ∀ j, j < xs.length → xs.getD j 0 = ys.getD j 0) : xs = ys := by
  apply List.ext_getElem hl
  intro i h1 h2
  have := h i h1
  rwa [List.getD_eq_getElem?_getD, List.getD_eq_getElem?_getD, List.getElem?_eq_getElem h1, List.getElem?_eq_getElem h2] at this

section
variable {x1 x2 x3 x4 : List Int} {n : Nat}
theorem union_right (h : Right x1 x2 n) (h' : Right x3 x4 n) : Right (mins x1 x3) (maxs x2 x4) n := right_union h h'
theorem coversF_of {y1 y2 y3 y4 : List Int} (h : Right y1 y2 n) (h' : Right y3 y4 n) (hc : ∀ j, j < n → y1.getD j 0 ≤ y3.getD j 0 ∧ y4.getD j 0 ≤ y2.getD j 0) : coversF y1 y2 y3 y4 = true := by
  unfold coversF
  rw [rf2_of_right h h', h.len, coverTo_iff.2 hc]; rfl
theorem union_covers_a (h : Right x1 x2 n) (h' : Right x3 x4 n) : coversF (mins x1 x3) (maxs x2 x4) x1 x2 = true :=
  coversF_of (union_right h h') h fun j _ => by
    rw [mins_getD (by rw [h.len, h'.len]), maxs_getD (by rw [h.len', h'.len'])]; omega
theorem union_covers_b (h : Right x1 x2 n) (h' : Right x3 x4 n) : coversF (mins x1 x3) (maxs x2 x4) x3 x4 = true :=
  coversF_of (union_right h h') h' fun j _ => by
    rw [mins_getD (by rw [h.len, h'.len]), maxs_getD (by rw [h.len', h'.len'])]; omega
theorem meetsF_comm (h : Right x1 x2 n) (h' : Right x3 x4 n) : meetsF x1 x2 x3 x4 = meetsF x3 x4 x1 x2 := by
  unfold meetsF
  rw [rf2_of_right h h', rf2_of_right h' h, h.len, h'.len, Bool.eq_iff_iff]
  simp only [decide_true, Bool.true_and, meetTo_iff]
  exact ⟨fun g j hj => ⟨(g j hj).2, (g j hj).1⟩, fun g j hj => ⟨(g j hj).2, (g j hj).1⟩⟩
theorem covers_meets (hc : coversF x1 x2 x3 x4 = true) : meetsF x1 x2 x3 x4 = true ∧ mins x1 x3 = x1 ∧ maxs x2 x4 = x2 := by
  unfold coversF at hc
  rw [Bool.and_eq_true, decide_eq_true_eq] at hc
  obtain ⟨h0, hc⟩ := hc
  obtain ⟨n, h, h'⟩ := rights h0
  rw [h.len, coverTo_iff] at hc
  refine ⟨?_, list_getD (mins_len (by rw [h.len, h'.len])) fun j hj => ?_, list_getD (maxs_len (by rw [h.len', h'.len'])) fun j hj => ?_⟩
  · unfold meetsF
    rw [h0, h.len, meetTo_iff.2 fun j hj => ?_]; rfl
    have := hc j hj; have := h'.get hj
    omega
  · rw [mins_len (by rw [h.len, h'.len]), h.len] at hj
    rw [mins_getD (by rw [h.len, h'.len])]
    have := hc j hj; omega
  · rw [maxs_len (by rw [h.len', h'.len']), h.len'] at hj
    rw [maxs_getD (by rw [h.len', h'.len'])]
    have := hc j hj; omega

/-- What is in another box is no greater. -/
theorem areaTo_mono {y1 y2 y3 y4 : List Int} {k : Nat} (h : ∀ j, j < k → y1.getD j 0 ≤ y3.getD j 0 ∧ y3.getD j 0 ≤ y4.getD j 0 ∧ y4.getD j 0 ≤ y2.getD j 0) : 0 ≤ areaTo y3 y4 k ∧ areaTo y3 y4 k ≤ areaTo y1 y2 k := by
  induction k with
  | zero => simp [areaTo]
  | succ k ih =>
    obtain ⟨a, b⟩ := ih fun j hj => h j (by omega)
    obtain ⟨c1, c2, c3⟩ := h k (by omega)
    exact ⟨Int.mul_nonneg a (by omega), Int.mul_le_mul b (by omega) (by omega) (Int.le_trans a b)⟩
theorem overTo_le {k : Nat} (h : ∀ j, j < k → x1.getD j 0 ≤ x2.getD j 0) : 0 ≤ overTo x1 x2 x3 x4 k ∧ overTo x1 x2 x3 x4 k ≤ areaTo x1 x2 k := by
  induction k with
  | zero => simp [overTo, areaTo]
  | succ k ih =>
    obtain ⟨a, b⟩ := ih fun j hj => h j (by omega)
    have c := h k (by omega)
    have c2 : 0 ≤ max (min (x2.getD k 0) (x4.getD k 0) - max (x1.getD k 0) (x3.getD k 0)) 0 := by omega
    exact ⟨Int.mul_nonneg a c2, Int.mul_le_mul b (by omega) c2 (Int.le_trans a b)⟩
theorem overTo_comm (k : Nat) : overTo x1 x2 x3 x4 k = overTo x3 x4 x1 x2 k := by
  induction k with
  | zero => rfl
  | succ k ih => simp only [overTo, ih]; congr 1; omega
theorem overTo_meets {k : Nat} (h : overTo x1 x2 x3 x4 k ≠ 0) : ∀ j, j < k → x1.getD j 0 ≤ x4.getD j 0 ∧ x3.getD j 0 ≤ x2.getD j 0 := by
  induction k with
  | zero => intro j hj; omega
  | succ k ih =>
    simp only [overTo] at h
    intro j hj
    have h1 : overTo x1 x2 x3 x4 k ≠ 0 := fun e => h (by rw [e, Int.zero_mul])
    have h2 : max (min (x2.getD k 0) (x4.getD k 0) - max (x1.getD k 0) (x3.getD k 0)) 0 ≠ 0 := fun e => h (by rw [e, Int.mul_zero])
    rcases Nat.lt_succ_iff_lt_or_eq.1 hj with h3 | rfl
    · exact ih h1 j h3
    · omega
theorem marginTo_mono {y1 y2 y3 y4 : List Int} {k : Nat} (h : ∀ j, j < k → y1.getD j 0 ≤ y3.getD j 0 ∧ y4.getD j 0 ≤ y2.getD j 0) : marginTo y3 y4 k ≤ marginTo y1 y2 k := by
  induction k with
  | zero => simp [marginTo]
  | succ k ih =>
    have a := ih fun j hj => h j (by omega)
    have c := h k (by omega)
    simp only [marginTo]; omega
theorem distTo_nonneg {xs ys ps : List Int} {k : Nat} : 0 ≤ distTo xs ys ps k := by
  induction k with
  | zero => simp [distTo]
  | succ k ih => simp only [distTo]; omega
theorem distTo_zero {xs ys ps : List Int} {k : Nat} : distTo xs ys ps k = 0 ↔ ∀ j, j < k → xs.getD j 0 ≤ ps.getD j 0 ∧ ps.getD j 0 ≤ ys.getD j 0 := by
  induction k with
  | zero => simp [distTo]
  | succ k ih =>
    have a := distTo_nonneg (xs := xs) (ys := ys) (ps := ps) (k := k)
    simp only [distTo]
    constructor
    · intro h j hj
      have h0 : distTo xs ys ps k = 0 := by omega
      rcases Nat.lt_succ_iff_lt_or_eq.1 hj with h3 | rfl
      · exact ih.1 h0 j h3
      · omega
    · intro h
      have h0 := ih.2 fun j hj => h j (by omega)
      have := h k (by omega)
      omega

/-- What FnAreas says. -/
theorem areas_say (h0 : rf2 x1 x2 x3 x4 = 0) :
    (growF x1 x2 x3 x4).1 = 0 ∧ 0 ≤ (growF x1 x2 x3 x4).2 ∧ (overF x1 x2 x3 x4).1 = 0 ∧ 0 ≤ (overF x1 x2 x3 x4).2 ∧ (overF x1 x2 x3 x4).2 ≤ (areaF x1 x2).2 ∧ (overF x1 x2 x3 x4).2 ≤ (areaF x3 x4).2 ∧
    overF x3 x4 x1 x2 = overF x1 x2 x3 x4 ∧ (areaF (mins x1 x3) (maxs x2 x4)).2 = (areaF x1 x2).2 + (growF x1 x2 x3 x4).2 ∧ (marginF x3 x4).2 ≤ (marginF (mins x1 x3) (maxs x2 x4)).2 ∧
    ((overF x1 x2 x3 x4).2 = 0 ∨ meetsF x1 x2 x3 x4 = true) := by
  obtain ⟨n, h, h'⟩ := rights h0
  have hu := union_right h h'
  have eg : growF x1 x2 x3 x4 = (0, areaTo (mins x1 x3) (maxs x2 x4) n - areaTo x1 x2 n) := by unfold growF; rw [if_pos h0, h.len]
  have eo : overF x1 x2 x3 x4 = (0, overTo x1 x2 x3 x4 n) := by unfold overF; rw [if_pos h0, h.len]
  have eo' : overF x3 x4 x1 x2 = (0, overTo x3 x4 x1 x2 n) := by unfold overF; rw [if_pos (rf2_comm h0), h'.len]
  have ea : areaF x1 x2 = (0, areaTo x1 x2 n) := by unfold areaF; rw [h.len, if_pos (rf_of_right h)]
  have eb : areaF x3 x4 = (0, areaTo x3 x4 n) := by unfold areaF; rw [h'.len, if_pos (rf_of_right h')]
  have eu : areaF (mins x1 x3) (maxs x2 x4) = (0, areaTo (mins x1 x3) (maxs x2 x4) n) := by unfold areaF; rw [hu.len, if_pos (rf_of_right hu)]
  have mb : marginF x3 x4 = (0, marginTo x3 x4 n) := by unfold marginF; rw [h'.len, if_pos (rf_of_right h')]
  have mu : marginF (mins x1 x3) (maxs x2 x4) = (0, marginTo (mins x1 x3) (maxs x2 x4) n) := by unfold marginF; rw [hu.len, if_pos (rf_of_right hu)]
  have ga : ∀ j, j < n → (mins x1 x3).getD j 0 ≤ x1.getD j 0 ∧ x1.getD j 0 ≤ x2.getD j 0 ∧ x2.getD j 0 ≤ (maxs x2 x4).getD j 0 := fun j hj => by
    rw [mins_getD (by rw [h.len, h'.len]), maxs_getD (by rw [h.len', h'.len'])]
    have := h.get hj; omega
  have gb : ∀ j, j < n → (mins x1 x3).getD j 0 ≤ x3.getD j 0 ∧ x4.getD j 0 ≤ (maxs x2 x4).getD j 0 := fun j hj => by
    rw [mins_getD (by rw [h.len, h'.len]), maxs_getD (by rw [h.len', h'.len'])]; omega
  have a1 := areaTo_mono ga
  have o1 := overTo_le (x1 := x1) (x2 := x2) (x3 := x3) (x4 := x4) (k := n) fun j hj => (h.get hj).2.1
  have o2 := overTo_le (x1 := x3) (x2 := x4) (x3 := x1) (x4 := x2) (k := n) fun j hj => (h'.get hj).2.1
  have oc := overTo_comm (x1 := x1) (x2 := x2) (x3 := x3) (x4 := x4) n
  rw [eg, eo, eo', ea, eb, eu, mb, mu]
  refine ⟨rfl, by simp only; omega, rfl, o1.1, o1.2, by simp only; omega, by rw [oc], by simp only; omega, marginTo_mono gb, ?_⟩
  by_cases hz : overTo x1 x2 x3 x4 n = 0
  · exact Or.inl hz
  · refine Or.inr ?_
    unfold meetsF
    rw [h0, h.len, meetTo_iff.2 (overTo_meets hz)]; rfl

/-- What FnDists says of two boxes of which one covers the other. -/
theorem dists_cover (hc : coversF x1 x2 x3 x4 = true) : distF x1 x2 x4 = (0, 0) := by
  unfold coversF at hc
  rw [Bool.and_eq_true, decide_eq_true_eq] at hc
  obtain ⟨h0, hc⟩ := hc
  obtain ⟨n, h, h'⟩ := rights h0
  rw [h.len, coverTo_iff] at hc
  unfold distF
  rw [h.len, if_pos (rf_of_right h), if_pos h'.pf2, distTo_zero.2 fun j hj => ?_]
  have := hc j hj; have := h'.get hj
  omega
theorem point_right {ps : List Int} (hp : pf ps (n : Int) = 0) : Right ps ps n := by
  obtain ⟨d, l, a⟩ := pf_zero hp
  exact ⟨by omega, by omega, by omega, fun k x y hx hy => by rw [hx] at hy; injection hy with hy; subst hy; have := allIn_at a hx; omega⟩
/-- What FnDists says of a box and a point. -/
theorem dists_say {ps : List Int} (h0 : (distF x1 x2 ps).1 = 0) :
    0 ≤ (distF x1 x2 ps).2 ∧ rf2 x1 x2 ps ps = 0 ∧ coversF x1 x2 ps ps = decide ((distF x1 x2 ps).2 = 0) ∧ distF (mins x1 ps) (maxs x2 ps) ps = (0, 0) ∧ distF x1 x2 x1 = (0, 0) := by
  have hr : rf x1 x2 x1.length = 0 := by
    unfold distF at h0
    by_cases h1 : rf x1 x2 x1.length = 0
    · exact h1
    · rw [if_neg h1] at h0; exact absurd h0 h1
  have hp : pf ps x1.length = 0 := by
    unfold distF at h0
    rw [if_pos hr] at h0
    by_cases h1 : pf ps x1.length = 0
    · exact h1
    · rw [if_neg h1] at h0; exact absurd h0 h1
  have h := right_of_rf hr
  have h' := point_right hp
  have hu := union_right h h'
  have ed : distF x1 x2 ps = (0, distTo x1 x2 ps x1.length) := by unfold distF; rw [if_pos hr, if_pos hp]
  rw [ed]
  refine ⟨distTo_nonneg, rf2_of_right h h', ?_, ?_, ?_⟩
  · unfold coversF
    rw [rf2_of_right h h', Bool.eq_iff_iff]
    simp only [decide_true, Bool.true_and, coverTo_iff, decide_eq_true_eq, distTo_zero]
  · have e1 : (mins x1 ps).length = x1.length := hu.len
    unfold distF
    rw [e1, if_pos (rf_of_right hu), if_pos hp, distTo_zero.2 fun j hj => ?_]
    rw [mins_getD (by rw [h'.len]), maxs_getD (by rw [h.len', h'.len])]; omega
  · unfold distF
    rw [if_pos hr, if_pos h.pf1, distTo_zero.2 fun j hj => ?_]
    have := h.get hj; omega
end

end Go.Proofs.Ytfpmbkfikfdmkaa
