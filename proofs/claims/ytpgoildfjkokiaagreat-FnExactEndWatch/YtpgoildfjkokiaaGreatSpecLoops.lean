/- The walks of spec.l4Place, l1Has, l4Watch, l4Empty. -/
import Derived.Test.YtpgoildfjkokiaaGreatSlotWalks
import Derived.Test.YtpgoildfjkokiaaGreatRects
import Derived.Deep.RegionHeld3
import Derived.Test.YtpgoildfjkokiaaGreatSpecNode
namespace Go.Proofs.YtpgoildfjkokiaaGreat
open Go.RowKit

set_option maxHeartbeats 800000 in
theorem l4Place_yes (b n c : Nat) (A : Option Addr) (id : Int) (w : World) (hc : w.cell? ⟨b, 1, none⟩ = some (.slice A n c)) (hn : n ≤ maxLen) (h : 0 ≤ id ∧ id ≤ (n : Int) - 1) :
    Calls Tryz.prog 82 #[.pointer (some ⟨b, 0, none⟩), .int .i64 id] w fun e w' => e = .returned (.bool true) ∧ w = w' := by
  unfold maxLen at hn
  go_enter Tryz.func82, Tryz.ntmps82
  go_wp2_with fail
  refine (l1In_yes _ _ _ _ h.1 h.2).mono ?_
  rintro e w' ⟨rfl, rfl⟩
  go_wp2
  go_ret
  exact ⟨rfl, rfl⟩
set_option maxHeartbeats 800000 in
theorem l4Place_no (b n c : Nat) (A : Option Addr) (id : Int) (w : World) (hc : w.cell? ⟨b, 1, none⟩ = some (.slice A n c)) (hn : n ≤ maxLen) (h : ¬ (0 ≤ id ∧ id ≤ (n : Int) - 1)) :
    Calls Tryz.prog 82 #[.pointer (some ⟨b, 0, none⟩), .int .i64 id] w fun e w' => e = .returned (.bool false) ∧ w = w' := by
  unfold maxLen at hn
  go_enter Tryz.func82, Tryz.ntmps82
  go_wp2_with fail
  refine (l1In_no _ _ _ _ h).mono ?_
  rintro e w' ⟨rfl, rfl⟩
  go_wp2
  go_ret
  exact ⟨rfl, rfl⟩

theorem contains_at {xs : List Int} {k : Nat} {x : Int} (h : xs[k]? = some x) : xs.contains x = true := by
  rw [List.contains_iff_mem]; exact List.mem_of_getElem? h
theorem contains_none {xs : List Int} {v : Int} (h : ∀ (j : Nat) (x : Int), xs[j]? = some x → x ≠ v) : xs.contains v = false := by
  rw [← Bool.not_eq_true, List.contains_iff_mem]
  intro hm
  obtain ⟨j, hj⟩ := List.getElem?_of_mem hm
  exact h j v hj rfl

set_option maxHeartbeats 1600000 in
theorem l1Has_any (v : Int) (n c lo : Nat) (A : Option Addr) (xs : List Int) (w : World) (hp : Ints w lo A n xs) (hn : n ≤ maxLen) :
    Calls Tryz.prog 83 #[.slice A n c, .int .i64 v] w fun e w' => e = .returned (.bool (xs.contains v)) ∧ ∃ q, w' = w.drewN q := by
  have HP := Lib.hid hp
  clear hp
  unfold maxLen at hn
  go_enter Tryz.func83, Tryz.ntmps83
  go_wp2
  go_loopw [5] (fun i wr => ∃ m : Nat, m ≤ n ∧ i = .int .i64 m ∧ wr = w ∧ Hid (∀ (j : Nat) (x : Int), j < m → xs[j]? = some x → x ≠ v)) (fun i _ => n - (intOf i).toNat)
  case atStart => exact ⟨0, Nat.zero_le _, rfl, rfl, fun j x hj => absurd hj (Nat.not_lt_zero _)⟩
  case round =>
    obtain ⟨m, hm, rfl, rfl, hA⟩ := hrel
    by_cases hlt : m < n
    · obtain ⟨b, o, x, rfl, _, hb, d0, hx⟩ := HP.out.cellAt hlt
      by_cases hr : x = v
      · have hr1 : (x == v) = true := by simpa using hr
        subst hr
        have HF := Lib.hid (contains_at hx.out)
        clear hx hA
        go_wp2
        go_ret
        exact ⟨ret_bool HF.out.symm, 0, rfl⟩
      · have hr1 : (x == v) = false := by simpa using hr
        have hA' := Lib.hid (upto_next (P := fun x => x ≠ v) hA.out hx.out hr)
        clear hx hA hr
        go_wp2
        go_roundw
        case rel => exact ⟨m + 1, by omega, by go_num, by trivial, hA'⟩
        case measure => simp [intOf]; omega
    · have HF : Hid (xs.contains v = false) := contains_none (upto_end hA.out (by have := HP.out.1; omega))
      clear hA
      go_wp2
      go_ret
      exact ⟨ret_bool HF.out.symm, 0, rfl⟩

set_option maxHeartbeats 1600000 in
theorem l4Watch_any (n c lo : Nat) (A : Option Addr) (xs : List Int) (w : World) (hp : Ints w lo A n xs) (hn : n ≤ maxLen) :
    Calls Tryz.prog 59 #[.slice A n c] w fun e w' => e = .returned (.int .i64 (watchF xs)) ∧ Below w.heap.size w w' := by
  have HP := Lib.hid hp
  have HL : Hid (xs.length = n) := hp.1
  clear hp
  unfold maxLen at hn
  by_cases hm : 4 < n
  · have HF := Lib.hid (watchF_many (ws := xs) (by rw [HL.out]; exact hm))
    go_enter Tryz.func59, Tryz.ntmps59
    go_wp2
    go_ret
    exact ⟨ret_i64 HF.out.symm, Below.refl _ _⟩
  have HM : Hid (¬ 4 < xs.length) := by show ¬ _; rw [HL.out]; exact hm
  go_enter Tryz.func59, Tryz.ntmps59
  go_wp2
  go_loopw [3] (fun i wr => ∃ m : Nat, m ≤ n ∧ i = .int .i64 m ∧ wr = w ∧ Hid (∀ (j : Nat) (x : Int), j < m → xs[j]? = some x → 0 ≤ x ∧ x ≤ 3)) (fun i _ => n - (intOf i).toNat)
  case atStart => exact ⟨0, Nat.zero_le _, rfl, rfl, fun j x hj => absurd hj (Nat.not_lt_zero _)⟩
  case round =>
    obtain ⟨m, hm', rfl, rfl, hA⟩ := hrel
    by_cases hlt : m < n
    · obtain ⟨b, o, x, rfl, _, hb, d0, hx⟩ := HP.out.cellAt hlt
      by_cases hr : 0 ≤ x ∧ x ≤ 3
      · have hA' := Lib.hid (upto_next (P := fun x => 0 ≤ x ∧ x ≤ 3) hA.out hx.out hr)
        clear hx hA
        go_wp2_with fail
        refine (l1In_yes _ _ _ _ hr.1 hr.2).mono ?_
        rintro e w' ⟨rfl, rfl⟩
        clear hr
        go_wp2
        go_roundw
        case rel => exact ⟨m + 1, by omega, by go_num, by trivial, hA'⟩
        case measure => simp [intOf]; omega
      · have HF := Lib.hid (watchF_out HM.out (allIn_false hx.out hr))
        clear hx hA
        go_wp2_with fail
        refine (l1In_no _ _ _ _ hr).mono ?_
        rintro e w' ⟨rfl, rfl⟩
        go_wp2
        go_ret
        exact ⟨ret_i64 HF.out.symm, Below.refl _ _⟩
    · have HR := Lib.hid (watchF_in HM.out (allIn_true (upto_end hA.out (by rw [HL.out]; omega))))
      clear hA
      go_wp2
      go_loopw [4] (fun i wq => ∃ m : Nat, m ≤ n ∧ i = .int .i64 ((m : Int) + 1) ∧ Hid (Below wr.heap.size wr wq) ∧ Hid (∀ (j : Nat) (p q : Int), j < m → xs[j]? = some p → xs[j + 1]? = some q → p < q)) (fun i _ => n + 1 - (intOf i).toNat)
      case atStart => exact ⟨0, Nat.zero_le _, rfl, Below.refl _ _, fun j p q hj => absurd hj (Nat.not_lt_zero _)⟩
      case round =>
        obtain ⟨m, hm2, rfl, hB, hA⟩ := hrel
        by_cases hlt : m + 1 < n
        · obtain ⟨b, o, p, q, rfl, hx, hy, d0, d1⟩ := HP.out.twoAt hB.out hlt
          have hlt' : (m : Int) + 1 < n := by omega
          by_cases hr : q ≤ p
          · have HF : Hid (watchF xs = 1) := by show watchF _ = _; rw [HR.out, risesL_false hx.out hy.out (show ¬ p < q by omega)]; rfl
            clear hx hy
            go_wp2
            go_quiet (fail)
            go_wp2
            go_ret
            exact ⟨ret_i64 HF.out.symm, below_draws hB.out _⟩
          · have hA' : Hid (∀ (j : Nat) (p q : Int), j < m + 1 → xs[j]? = some p → xs[j + 1]? = some q → p < q) := by
              intro j p' q' hj hp' hq'
              rcases Nat.lt_succ_iff_lt_or_eq.1 hj with h | h
              · exact hA.out j p' q' h hp' hq'
              · subst h; rw [hx.out] at hp'; rw [hy.out] at hq'; injection hp' with hp'; injection hq' with hq'; subst hp' hq'; omega
            clear hx hy hA
            go_wp2
            go_quiet (fail)
            go_wp2
            go_roundw
            case rel => exact ⟨m + 1, by omega, by go_num, below_draws hB.out _, hA'⟩
            case measure => simp [intOf]; omega
        · have HF : Hid (watchF xs = 0) := by
            show watchF _ = _
            rw [HR.out, risesL_true fun j u v hu hv => ?_]; rfl
            have hj := (List.getElem?_eq_some_iff.1 hv).1
            have hl := HP.out.1
            exact hA.out j u v (by omega) hu hv
          have hlt' : ¬ (m : Int) + 1 < n := by omega
          clear hA
          go_wp2
          go_ret
          exact ⟨ret_i64 HF.out.symm, hB.out⟩

set_option maxHeartbeats 400000 in
theorem l4Empty_any (w : World) : Calls Tryz.prog 73 #[] w fun e w' => e = .returned (.agg #[.int .i64 0, .int .i64 0, .int .i64 (-1), .slice none 0 0]) ∧ Below w.heap.size w w' := by
  go_enter Tryz.func73, Tryz.ntmps73
  go_wp2
  exact bodyPost_ret (v := .agg #[.int .i64 0, .int .i64 0, .int .i64 (-1), .slice none 0 0]) (by simp [results, Tryz.results73, go_sem]) rfl ⟨rfl, below_alloc _ _⟩
set_option maxHeartbeats 400000 in
theorem vacantNode_any (w : World) : Calls Tryz.prog 37 #[] w fun e w' => e = .returned (.agg #[.int .i64 0, .int .i64 0, .int .i64 (-1), .slice none 0 0]) ∧ Below w.heap.size w w' := by
  go_enter Tryz.func37, Tryz.ntmps37
  go_wp2
  exact bodyPost_ret (v := .agg #[.int .i64 0, .int .i64 0, .int .i64 (-1), .slice none 0 0]) (by simp [results, Tryz.results37, go_sem]) rfl ⟨rfl, below_alloc _ _⟩

end Go.Proofs.YtpgoildfjkokiaaGreat

/- FnExactRectFault: for every box and every number of dimensions, impl.RectFault answers as the model does and leaves its argument alone. No condition. -/
namespace Go.Proofs.YtpgoildfjkokiaaGreat
open Go.RowKit

/-- Two structs of two fields each lie as they were laid. -/
def Two (b1 b2 : Nat) (p1 p2 q1 q2 : Value) (w : World) : Prop := w.cell? ⟨b1, 0, none⟩ = some p1 ∧ w.cell? ⟨b1, 1, none⟩ = some p2 ∧ w.cell? ⟨b2, 0, none⟩ = some q1 ∧ w.cell? ⟨b2, 1, none⟩ = some q2

theorem two_kept {B b1 b2 : Nat} {p1 p2 q1 q2 : Value} {w w' : World} (hb : Below B w w') (h1 : b1 < B) (h2 : b2 < B) (h : Two b1 b2 p1 p2 q1 q2 w) : Two b1 b2 p1 p2 q1 q2 w' :=
  ⟨(hb.cell (p := ⟨b1, 0, none⟩) h1).trans h.1, (hb.cell (p := ⟨b1, 1, none⟩) h1).trans h.2.1, (hb.cell (p := ⟨b2, 0, none⟩) h2).trans h.2.2.1, (hb.cell (p := ⟨b2, 1, none⟩) h2).trans h.2.2.2⟩


end Go.Proofs.YtpgoildfjkokiaaGreat

/- The walk of spec.l1Two, and what two boxes without a fault are. -/
namespace Go.Proofs.YtpgoildfjkokiaaGreat
open Go.RowKit

/-- A box without a fault: two or three dimensions, numbers from -1000 to 1000, Low not above High. -/
structure Right (xs ys : List Int) (n : Nat) : Prop where
  len : xs.length = n
  len' : ys.length = n
  dim : n = 2 ∨ n = 3
  at_ : ∀ (k : Nat) (x y : Int), xs[k]? = some x → ys[k]? = some y → -1000 ≤ x ∧ x ≤ y ∧ y ≤ 1000

theorem allIn_at {l h : Int} {xs : List Int} (hp : allIn l h xs = true) {k : Nat} {x : Int} (hk : xs[k]? = some x) : l ≤ x ∧ x ≤ h := by
  unfold allIn at hp
  have := List.all_eq_true.1 hp x (List.mem_of_getElem? hk)
  simpa using this

theorem right_of_rf {xs ys : List Int} {n : Nat} (h : rf xs ys (n : Int) = 0) : Right xs ys n := by
  unfold rf at h
  by_cases h1 : pf xs (n : Int) = 0
  · by_cases h2 : pf ys (n : Int) = 0
    · rw [if_neg (by simpa using h1), if_neg (by simpa using h2)] at h
      cases h3 : leAll xs ys with
      | false => rw [h3] at h; simp at h
      | true =>
        obtain ⟨d1, l1, a1⟩ := pf_zero h1
        obtain ⟨d2, l2, a2⟩ := pf_zero h2
        refine ⟨by omega, by omega, by omega, fun k x y hx hy => ?_⟩
        have b1 := allIn_at a1 hx
        have b2 := allIn_at a2 hy
        unfold leAll at h3
        have b3 := List.all_eq_true.1 h3 _ (List.mem_of_getElem? (zip_at hx hy))
        simp at b3
        omega
    · rw [if_neg (by simpa using h1), if_pos h2] at h
      exact absurd h h2
  · rw [if_pos h1] at h
    exact absurd h h1

theorem right_of_rf2 {xs ys us vs : List Int} (h : rf2 xs ys us vs = 0) : Right xs ys xs.length ∧ Right us vs xs.length := by
  unfold rf2 at h
  by_cases h1 : rf xs ys (xs.length : Int) = 0
  · rw [if_neg (by simpa using h1)] at h
    exact ⟨right_of_rf h1, right_of_rf h⟩
  · rw [if_pos h1] at h
    exact absurd h h1


end Go.Proofs.YtpgoildfjkokiaaGreat

/- The walks of the model's loops over dimensions: spec.l1Min, l1Max, l1Meets, l1Covers, l1Area, l1Margin, l1Overlap, l1Dist. For boxes without a fault. -/
namespace Go.Proofs.YtpgoildfjkokiaaGreat
open Go.RowKit

/-- Only draws lie between. -/
def Drawn (w w' : World) : Prop := ∃ q, w' = w.drewN q
theorem Drawn.same (w : World) : Drawn w w := ⟨0, rfl⟩
theorem Drawn.cell {w w' : World} (h : Drawn w w') (a : Addr) : w'.cell? a = w.cell? a := by obtain ⟨q, rfl⟩ := h; rfl
theorem Drawn.more {w w' : World} (h : Drawn w w') (n : Nat) : Drawn w (w'.drewN n) := by obtain ⟨q, rfl⟩ := h; exact ⟨q + n, World.drewN_drewN _ _ _⟩
theorem Drawn.below {w w' : World} (h : Drawn w w') : Below w.heap.size w w' := by obtain ⟨q, rfl⟩ := h; exact below_draws (Below.refl _ _) q


/-- In each of the first k dimensions neither Low is above the other one's High. -/
def meetTo (xs ys us vs : List Int) : Nat → Bool
  | 0 => true
  | k + 1 => meetTo xs ys us vs k && (decide (xs.getD k 0 ≤ vs.getD k 0) && decide (us.getD k 0 ≤ ys.getD k 0))
/-- In each of the first k dimensions the second box is in the first. -/
def coverTo (xs ys us vs : List Int) : Nat → Bool
  | 0 => true
  | k + 1 => coverTo xs ys us vs k && (decide (xs.getD k 0 ≤ us.getD k 0) && decide (vs.getD k 0 ≤ ys.getD k 0))

theorem getD_of {xs : List Int} {k : Nat} {x : Int} (h : xs[k]? = some x) : xs.getD k 0 = x := by simp [h]

theorem meetTo_next {xs ys us vs : List Int} {k : Nat} {x y u v : Int} (hx : xs[k]? = some x) (hy : ys[k]? = some y) (hu : us[k]? = some u) (hv : vs[k]? = some v) (h : meetTo xs ys us vs k = true) (h1 : x ≤ v) (h2 : u ≤ y) :
    meetTo xs ys us vs (k + 1) = true := by simp only [meetTo, getD_of hx, getD_of hy, getD_of hu, getD_of hv, h, decide_eq_true h1, decide_eq_true h2, Bool.and_true]
theorem meetTo_stop {xs ys us vs : List Int} {k : Nat} {x y u v : Int} (hx : xs[k]? = some x) (hy : ys[k]? = some y) (hu : us[k]? = some u) (hv : vs[k]? = some v) (h1 : ¬ (x ≤ v ∧ u ≤ y)) (n : Nat) (hn : k < n) :
    meetTo xs ys us vs n = false := by
  induction n with
  | zero => omega
  | succ n ih =>
    by_cases e : k = n
    · subst e
      have : (decide (x ≤ v) && decide (u ≤ y)) = false := by rw [Bool.and_eq_false_iff]; simp only [decide_eq_false_iff_not]; omega
      simp only [meetTo, getD_of hx, getD_of hy, getD_of hu, getD_of hv, this, Bool.and_false]
    · simp only [meetTo, ih (by omega), Bool.false_and]
theorem coverTo_next {xs ys us vs : List Int} {k : Nat} {x y u v : Int} (hx : xs[k]? = some x) (hy : ys[k]? = some y) (hu : us[k]? = some u) (hv : vs[k]? = some v) (h : coverTo xs ys us vs k = true) (h1 : x ≤ u) (h2 : v ≤ y) :
    coverTo xs ys us vs (k + 1) = true := by simp only [coverTo, getD_of hx, getD_of hy, getD_of hu, getD_of hv, h, decide_eq_true h1, decide_eq_true h2, Bool.and_true]
theorem coverTo_stop {xs ys us vs : List Int} {k : Nat} {x y u v : Int} (hx : xs[k]? = some x) (hy : ys[k]? = some y) (hu : us[k]? = some u) (hv : vs[k]? = some v) (h1 : ¬ (x ≤ u ∧ v ≤ y)) (n : Nat) (hn : k < n) :
    coverTo xs ys us vs n = false := by
  induction n with
  | zero => omega
  | succ n ih =>
    by_cases e : k = n
    · subst e
      have : (decide (x ≤ u) && decide (v ≤ y)) = false := by rw [Bool.and_eq_false_iff]; simp only [decide_eq_false_iff_not]; omega
      simp only [coverTo, getD_of hx, getD_of hy, getD_of hu, getD_of hv, this, Bool.and_false]
    · simp only [coverTo, ih (by omega), Bool.false_and]

/-- As Two, each struct at its own place in its block. -/
def TwoAt (b1 f1 b2 f2 : Nat) (p1 p2 q1 q2 : Value) (w : World) : Prop := w.cell? ⟨b1, f1, none⟩ = some p1 ∧ w.cell? ⟨b1, f1 + 1, none⟩ = some p2 ∧ w.cell? ⟨b2, f2, none⟩ = some q1 ∧ w.cell? ⟨b2, f2 + 1, none⟩ = some q2



/-- The product of the first k edges. -/
def areaTo (xs ys : List Int) : Nat → Int
  | 0 => 1
  | k + 1 => areaTo xs ys k * (ys.getD k 0 - xs.getD k 0)
def marginTo (xs ys : List Int) : Nat → Int
  | 0 => 0
  | k + 1 => marginTo xs ys k + ys.getD k 0 - xs.getD k 0
def overTo (xs ys us vs : List Int) : Nat → Int
  | 0 => 1
  | k + 1 => overTo xs ys us vs k * max (min (ys.getD k 0) (vs.getD k 0) - max (xs.getD k 0) (us.getD k 0)) 0
def distTo (xs ys ps : List Int) : Nat → Int
  | 0 => 0
  | k + 1 => distTo xs ys ps k + max (xs.getD k 0 - ps.getD k 0) 0 + max (ps.getD k 0 - ys.getD k 0) 0

theorem Right.get {xs ys : List Int} {n : Nat} (h : Right xs ys n) {k : Nat} (hk : k < n) : -1000 ≤ xs.getD k 0 ∧ xs.getD k 0 ≤ ys.getD k 0 ∧ ys.getD k 0 ≤ 1000 := by
  have h1 : xs[k]? = some (xs.getD k 0) := by rw [List.getElem?_eq_getElem (by have := h.len; omega)]; simp [List.getElem?_eq_getElem (show k < xs.length by have := h.len; omega)]
  have h2 : ys[k]? = some (ys.getD k 0) := by rw [List.getElem?_eq_getElem (by have := h.len'; omega)]; simp [List.getElem?_eq_getElem (show k < ys.length by have := h.len'; omega)]
  exact h.at_ k _ _ h1 h2

theorem areaTo_bd {xs ys : List Int} {n : Nat} (h : Right xs ys n) : ∀ k, k ≤ n → 0 ≤ areaTo xs ys k ∧ areaTo xs ys k ≤ 2000 ^ k
  | 0, _ => by simp [areaTo]
  | k + 1, hk => by
    have ih := areaTo_bd h k (by omega)
    have hg := h.get (k := k) (by omega)
    simp only [areaTo, Int.pow_succ]
    exact mul_le ih.1 (by omega) ih.2 (by omega)
theorem overTo_bd {xs ys us vs : List Int} {n : Nat} (h : Right xs ys n) : ∀ k, k ≤ n → 0 ≤ overTo xs ys us vs k ∧ overTo xs ys us vs k ≤ 2000 ^ k
  | 0, _ => by simp [overTo]
  | k + 1, hk => by
    have ih := overTo_bd (us := us) (vs := vs) h k (by omega)
    have hg := h.get (k := k) (by omega)
    simp only [overTo, Int.pow_succ]
    exact mul_le ih.1 (by omega) ih.2 (by omega)
theorem marginTo_bd {xs ys : List Int} {n : Nat} (h : Right xs ys n) : ∀ k, k ≤ n → 0 ≤ marginTo xs ys k ∧ marginTo xs ys k ≤ 2000 * k
  | 0, _ => by simp [marginTo]
  | k + 1, hk => by
    have ih := marginTo_bd h k (by omega)
    have hg := h.get (k := k) (by omega)
    simp only [marginTo]
    omega
theorem pow_small {k : Nat} (hk : k ≤ 2) : (2000 : Int) ^ k ≤ 4000000 := by
  rcases (show k = 0 ∨ k = 1 ∨ k = 2 by omega) with rfl | rfl | rfl <;> decide



end Go.Proofs.YtpgoildfjkokiaaGreat
