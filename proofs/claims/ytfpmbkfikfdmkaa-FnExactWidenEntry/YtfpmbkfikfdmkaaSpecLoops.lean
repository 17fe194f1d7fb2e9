/- The walks of the model's loops over dimensions: spec.l1Min, l1Max, l1Meets, l1Covers, l1Area, l1Margin, l1Overlap, l1Dist. For boxes without a fault. -/
import Derived.Test.YtfpmbkfikfdmkaaSpecTwo
namespace Go.Proofs.Ytfpmbkfikfdmkaa
open Go.RowKit

/-- Only draws lie between. -/
def Drawn (w w' : World) : Prop := ∃ q, w' = w.drewN q
theorem Drawn.same (w : World) : Drawn w w := ⟨0, rfl⟩
theorem Drawn.cell {w w' : World} (h : Drawn w w') (a : Addr) : w'.cell? a = w.cell? a := by obtain ⟨q, rfl⟩ := h; rfl
theorem Drawn.more {w w' : World} (h : Drawn w w') (n : Nat) : Drawn w (w'.drewN n) := by obtain ⟨q, rfl⟩ := h; exact ⟨q + n, World.drewN_drewN _ _ _⟩
theorem Drawn.below {w w' : World} (h : Drawn w w') : Below w.heap.size w w' := by obtain ⟨q, rfl⟩ := h; exact below_draws (Below.refl _ _) q

theorem l1Min_any (a b : Int) (w : World) : Calls Try.prog 66 #[.int .i64 a, .int .i64 b] w fun e w' => e = .returned (.int .i64 (min a b)) ∧ w' = w := by
  by_cases h : a < b
  · go_enter Try.func66, Try.ntmps66
    go_wp2
    go_ret
    exact ⟨ret_i64 (by omega), rfl⟩
  · go_enter Try.func66, Try.ntmps66
    go_wp2
    go_ret
    exact ⟨ret_i64 (by omega), rfl⟩
theorem l1Max_any (a b : Int) (w : World) : Calls Try.prog 123 #[.int .i64 a, .int .i64 b] w fun e w' => e = .returned (.int .i64 (max a b)) ∧ w' = w := by
  by_cases h : b < a
  · go_enter Try.func123, Try.ntmps123
    go_wp2
    go_ret
    exact ⟨ret_i64 (by omega), rfl⟩
  · go_enter Try.func123, Try.ntmps123
    go_wp2
    go_ret
    exact ⟨ret_i64 (by omega), rfl⟩

/-- In each of the first k dimensions neither Low is above the other one's High. -/
def meetTo (xs ys us vs : List Int) : Nat → Bool
  | 0 => true
  | k + 1 => meetTo xs ys us vs k && (decide (xs.getD k 0 ≤ vs.getD k 0) && decide (us.getD k 0 ≤ ys.getD k 0))
/-- In each of the first k dimensions the second box is in the first. -/
def coverTo (xs ys us vs : List Int) : Nat → Bool
  | 0 => true
  | k + 1 => coverTo xs ys us vs k && (decide (xs.getD k 0 ≤ us.getD k 0) && decide (vs.getD k 0 ≤ ys.getD k 0))

theorem getD_of {xs : List Int} {k : Nat} {x : Int} (h : xs[k]? = some x) : xs.getD k 0 = x := by simp [h]

theorem meetTo_next {xs ys us vs : List Int} {k : Nat} {x y u v : Int} (hx : xs[k]? = some x) (hy : ys[k]? = some y) (hu : us[k]? = some u) (hv : vs[k]? = some v) (h : meetTo xs ys us vs k = true) (h1 : x ≤ v) (h2 : u ≤ y) :
    meetTo xs ys us vs (k + 1) = true := by simp only [meetTo, getD_of hx, getD_of hy, getD_of hu, getD_of hv, h, decide_eq_true h1, decide_eq_true h2, Bool.and_true]
theorem meetTo_stop {xs ys us vs : List Int} {k : Nat} {x y u v : Int} (hx : xs[k]? = some x) (hy : ys[k]? = some y) (hu : us[k]? = some u) (hv : vs[k]? = some v) (h1 : ¬ (x ≤ v ∧ u ≤ y)) (n : Nat) (hn : k < n) :
    meetTo xs ys us vs n = false := by
  induction n with
  | zero => omega
  | succ n ih =>
    by_cases e : k = n
    · subst e
      have : (decide (x ≤ v) && decide (u ≤ y)) = false := by rw [Bool.and_eq_false_iff]; simp only [decide_eq_false_iff_not]; omega
      simp only [meetTo, getD_of hx, getD_of hy, getD_of hu, getD_of hv, this, Bool.and_false]
    · simp only [meetTo, ih (by omega), Bool.false_and]
theorem coverTo_next {xs ys us vs : List Int} {k : Nat} {x y u v : Int} (hx : xs[k]? = some x) (hy : ys[k]? = some y) (hu : us[k]? = some u) (hv : vs[k]? = some v) (h : coverTo xs ys us vs k = true) (h1 : x ≤ u) (h2 : v ≤ y) :
    coverTo xs ys us vs (k + 1) = true := by simp only [coverTo, getD_of hx, getD_of hy, getD_of hu, getD_of hv, h, decide_eq_true h1, decide_eq_true h2, Bool.and_true]
theorem coverTo_stop {xs ys us vs : List Int} {k : Nat} {x y u v : Int} (hx : xs[k]? = some x) (hy : ys[k]? = some y) (hu : us[k]? = some u) (hv : vs[k]? = some v) (h1 : ¬ (x ≤ u ∧ v ≤ y)) (n : Nat) (hn : k < n) :
    coverTo xs ys us vs n = false := by
  induction n with
  | zero => omega
  | succ n ih =>
    by_cases e : k = n
    · subst e
      have : (decide (x ≤ u) && decide (v ≤ y)) = false := by rw [Bool.and_eq_false_iff]; simp only [decide_eq_false_iff_not]; omega
      simp only [coverTo, getD_of hx, getD_of hy, getD_of hu, getD_of hv, this, Bool.and_false]
    · simp only [coverTo, ih (by omega), Bool.false_and]

/-- As Two, each struct at its own place in its block. -/
def TwoAt (b1 f1 b2 f2 : Nat) (p1 p2 q1 q2 : Value) (w : World) : Prop := w.cell? ⟨b1, f1, none⟩ = some p1 ∧ w.cell? ⟨b1, f1 + 1, none⟩ = some p2 ∧ w.cell? ⟨b2, f2, none⟩ = some q1 ∧ w.cell? ⟨b2, f2 + 1, none⟩ = some q2

set_option maxHeartbeats 1600000 in
theorem l1Meets_at (b1 f1 b2 f2 n c1 c2 c3 c4 lo1 lo2 lo3 lo4 : Nat) (A1 A2 A3 A4 : Option Addr) (xs ys us vs : List Int) (w : World)
    (ht : TwoAt b1 f1 b2 f2 (.slice A1 n c1) (.slice A2 n c2) (.slice A3 n c3) (.slice A4 n c4) w)
    (h1 : Ints w lo1 A1 n xs) (h2 : Ints w lo2 A2 n ys) (h3 : Ints w lo3 A3 n us) (h4 : Ints w lo4 A4 n vs) (hn : n ≤ 3) :
    Calls Try.prog 77 #[.pointer (some ⟨b1, f1, none⟩), .pointer (some ⟨b2, f2, none⟩)] w fun e w' => e = .returned (.bool (meetTo xs ys us vs n)) ∧ Drawn w w' := by
  have HT := Lib.hid ht
  have H1 := Lib.hid h1
  have H2 := Lib.hid h2
  have H3 := Lib.hid h3
  have H4 := Lib.hid h4
  clear ht h1 h2 h3 h4
  go_enter Try.func77, Try.ntmps77
  go_wp2
  go_loopw [5] (fun i wr => ∃ k : Nat, k ≤ n ∧ i = .int .i64 k ∧ Hid (Drawn w wr) ∧ Hid (meetTo xs ys us vs k = true)) (fun i _ => n - (intOf i).toNat)
  case atStart => exact ⟨0, Nat.zero_le _, rfl, Drawn.same w, rfl⟩
  case round =>
    obtain ⟨k, hk, rfl, hd, hm⟩ := hrel
    have t1 : wr.cell? ⟨b1, f1, none⟩ = some (.slice A1 n c1) := (hd.out.cell _).trans HT.out.1
    have t2 : wr.cell? ⟨b1, f1 + 1, none⟩ = some (.slice A2 n c2) := (hd.out.cell _).trans HT.out.2.1
    have t3 : wr.cell? ⟨b2, f2, none⟩ = some (.slice A3 n c3) := (hd.out.cell _).trans HT.out.2.2.1
    have t4 : wr.cell? ⟨b2, f2 + 1, none⟩ = some (.slice A4 n c4) := (hd.out.cell _).trans HT.out.2.2.2
    by_cases hlt : k < n
    · obtain ⟨g1, o1, x, rfl, _, _, e1, hx⟩ := H1.out.cellAt hlt
      obtain ⟨g2, o2, y, rfl, _, _, e2, hy⟩ := H2.out.cellAt hlt
      obtain ⟨g3, o3, u, rfl, _, _, e3, hu⟩ := H3.out.cellAt hlt
      obtain ⟨g4, o4, v, rfl, _, _, e4, hv⟩ := H4.out.cellAt hlt
      have d1 : wr.cell? ⟨g1, o1 + k, none⟩ = some (.int .i64 x) := (hd.out.cell _).trans e1
      have d2 : wr.cell? ⟨g2, o2 + k, none⟩ = some (.int .i64 y) := (hd.out.cell _).trans e2
      have d3 : wr.cell? ⟨g3, o3 + k, none⟩ = some (.int .i64 u) := (hd.out.cell _).trans e3
      have d4 : wr.cell? ⟨g4, o4 + k, none⟩ = some (.int .i64 v) := (hd.out.cell _).trans e4
      clear e1 e2 e3 e4
      by_cases hxv : x ≤ v
      · by_cases huy : u ≤ y
        · have HM := Lib.hid (meetTo_next hx.out hy.out hu.out hv.out hm.out hxv huy)
          go_wp2
          go_quiet (fail)
          go_wp2
          go_roundw
          case rel => exact ⟨k + 1, by omega, by go_num, hd.out.more _, HM⟩
          case measure => simp [intOf]; omega
        · have HM := Lib.hid (meetTo_stop hx.out hy.out hu.out hv.out (fun hh => huy hh.2) n hlt)
          go_wp2
          go_quiet (fail)
          go_wp2
          go_ret
          exact ⟨ret_bool HM.out.symm, hd.out.more _⟩
      · have HM := Lib.hid (meetTo_stop hx.out hy.out hu.out hv.out (fun hh => hxv hh.1) n hlt)
        go_wp2
        go_quiet (fail)
        go_wp2
        go_ret
        exact ⟨ret_bool HM.out.symm, hd.out.more _⟩
    · have hkn : k = n := by omega
      have HM : Hid (meetTo xs ys us vs n = true) := hkn ▸ hm.out
      clear hkn
      go_wp2
      go_ret
      exact ⟨ret_bool HM.out.symm, hd.out⟩
theorem l1Meets_any (b1 b2 n c1 c2 c3 c4 lo1 lo2 lo3 lo4 : Nat) (A1 A2 A3 A4 : Option Addr) (xs ys us vs : List Int) (w : World)
    (ht : Two b1 b2 (.slice A1 n c1) (.slice A2 n c2) (.slice A3 n c3) (.slice A4 n c4) w)
    (h1 : Ints w lo1 A1 n xs) (h2 : Ints w lo2 A2 n ys) (h3 : Ints w lo3 A3 n us) (h4 : Ints w lo4 A4 n vs) (hn : n ≤ 3) :
    Calls Try.prog 77 #[.pointer (some ⟨b1, 0, none⟩), .pointer (some ⟨b2, 0, none⟩)] w fun e w' => e = .returned (.bool (meetTo xs ys us vs n)) ∧ Drawn w w' :=
  l1Meets_at b1 0 b2 0 n c1 c2 c3 c4 lo1 lo2 lo3 lo4 A1 A2 A3 A4 xs ys us vs w ht h1 h2 h3 h4 hn

set_option maxHeartbeats 1600000 in
theorem l1Covers_at (b1 f1 b2 f2 n c1 c2 c3 c4 lo1 lo2 lo3 lo4 : Nat) (A1 A2 A3 A4 : Option Addr) (xs ys us vs : List Int) (w : World)
    (ht : TwoAt b1 f1 b2 f2 (.slice A1 n c1) (.slice A2 n c2) (.slice A3 n c3) (.slice A4 n c4) w)
    (h1 : Ints w lo1 A1 n xs) (h2 : Ints w lo2 A2 n ys) (h3 : Ints w lo3 A3 n us) (h4 : Ints w lo4 A4 n vs) (hn : n ≤ 3) :
    Calls Try.prog 79 #[.pointer (some ⟨b1, f1, none⟩), .pointer (some ⟨b2, f2, none⟩)] w fun e w' => e = .returned (.bool (coverTo xs ys us vs n)) ∧ Drawn w w' := by
  have HT := Lib.hid ht
  have H1 := Lib.hid h1
  have H2 := Lib.hid h2
  have H3 := Lib.hid h3
  have H4 := Lib.hid h4
  clear ht h1 h2 h3 h4
  go_enter Try.func79, Try.ntmps79
  go_wp2
  go_loopw [5] (fun i wr => ∃ k : Nat, k ≤ n ∧ i = .int .i64 k ∧ Hid (Drawn w wr) ∧ Hid (coverTo xs ys us vs k = true)) (fun i _ => n - (intOf i).toNat)
  case atStart => exact ⟨0, Nat.zero_le _, rfl, Drawn.same w, rfl⟩
  case round =>
    obtain ⟨k, hk, rfl, hd, hm⟩ := hrel
    have t1 : wr.cell? ⟨b1, f1, none⟩ = some (.slice A1 n c1) := (hd.out.cell _).trans HT.out.1
    have t2 : wr.cell? ⟨b1, f1 + 1, none⟩ = some (.slice A2 n c2) := (hd.out.cell _).trans HT.out.2.1
    have t3 : wr.cell? ⟨b2, f2, none⟩ = some (.slice A3 n c3) := (hd.out.cell _).trans HT.out.2.2.1
    have t4 : wr.cell? ⟨b2, f2 + 1, none⟩ = some (.slice A4 n c4) := (hd.out.cell _).trans HT.out.2.2.2
    by_cases hlt : k < n
    · obtain ⟨g1, o1, x, rfl, _, _, e1, hx⟩ := H1.out.cellAt hlt
      obtain ⟨g2, o2, y, rfl, _, _, e2, hy⟩ := H2.out.cellAt hlt
      obtain ⟨g3, o3, u, rfl, _, _, e3, hu⟩ := H3.out.cellAt hlt
      obtain ⟨g4, o4, v, rfl, _, _, e4, hv⟩ := H4.out.cellAt hlt
      have d1 : wr.cell? ⟨g1, o1 + k, none⟩ = some (.int .i64 x) := (hd.out.cell _).trans e1
      have d2 : wr.cell? ⟨g2, o2 + k, none⟩ = some (.int .i64 y) := (hd.out.cell _).trans e2
      have d3 : wr.cell? ⟨g3, o3 + k, none⟩ = some (.int .i64 u) := (hd.out.cell _).trans e3
      have d4 : wr.cell? ⟨g4, o4 + k, none⟩ = some (.int .i64 v) := (hd.out.cell _).trans e4
      clear e1 e2 e3 e4
      by_cases hxu : x ≤ u
      · by_cases hvy : v ≤ y
        · have HM := Lib.hid (coverTo_next hx.out hy.out hu.out hv.out hm.out hxu hvy)
          go_wp2
          go_quiet (fail)
          go_wp2
          go_roundw
          case rel => exact ⟨k + 1, by omega, by go_num, hd.out.more _, HM⟩
          case measure => simp [intOf]; omega
        · have HM := Lib.hid (coverTo_stop hx.out hy.out hu.out hv.out (fun hh => hvy hh.2) n hlt)
          go_wp2
          go_quiet (fail)
          go_wp2
          go_ret
          exact ⟨ret_bool HM.out.symm, hd.out.more _⟩
      · have HM := Lib.hid (coverTo_stop hx.out hy.out hu.out hv.out (fun hh => hxu hh.1) n hlt)
        go_wp2
        go_quiet (fail)
        go_wp2
        go_ret
        exact ⟨ret_bool HM.out.symm, hd.out.more _⟩
    · have hkn : k = n := by omega
      have HM : Hid (coverTo xs ys us vs n = true) := hkn ▸ hm.out
      clear hkn
      go_wp2
      go_ret
      exact ⟨ret_bool HM.out.symm, hd.out⟩
theorem l1Covers_any (b1 b2 n c1 c2 c3 c4 lo1 lo2 lo3 lo4 : Nat) (A1 A2 A3 A4 : Option Addr) (xs ys us vs : List Int) (w : World)
    (ht : Two b1 b2 (.slice A1 n c1) (.slice A2 n c2) (.slice A3 n c3) (.slice A4 n c4) w)
    (h1 : Ints w lo1 A1 n xs) (h2 : Ints w lo2 A2 n ys) (h3 : Ints w lo3 A3 n us) (h4 : Ints w lo4 A4 n vs) (hn : n ≤ 3) :
    Calls Try.prog 79 #[.pointer (some ⟨b1, 0, none⟩), .pointer (some ⟨b2, 0, none⟩)] w fun e w' => e = .returned (.bool (coverTo xs ys us vs n)) ∧ Drawn w w' :=
  l1Covers_at b1 0 b2 0 n c1 c2 c3 c4 lo1 lo2 lo3 lo4 A1 A2 A3 A4 xs ys us vs w ht h1 h2 h3 h4 hn

/-- The product of the first k edges. -/
def areaTo (xs ys : List Int) : Nat → Int
  | 0 => 1
  | k + 1 => areaTo xs ys k * (ys.getD k 0 - xs.getD k 0)
def marginTo (xs ys : List Int) : Nat → Int
  | 0 => 0
  | k + 1 => marginTo xs ys k + ys.getD k 0 - xs.getD k 0
def overTo (xs ys us vs : List Int) : Nat → Int
  | 0 => 1
  | k + 1 => overTo xs ys us vs k * max (min (ys.getD k 0) (vs.getD k 0) - max (xs.getD k 0) (us.getD k 0)) 0
def distTo (xs ys ps : List Int) : Nat → Int
  | 0 => 0
  | k + 1 => distTo xs ys ps k + max (xs.getD k 0 - ps.getD k 0) 0 + max (ps.getD k 0 - ys.getD k 0) 0

theorem Right.get {xs ys : List Int} {n : Nat} (h : Right xs ys n) {k : Nat} (hk : k < n) : -1000 ≤ xs.getD k 0 ∧ xs.getD k 0 ≤ ys.getD k 0 ∧ ys.getD k 0 ≤ 1000 := by
  have h1 : xs[k]? = some (xs.getD k 0) := by rw [List.getElem?_eq_getElem (by have := h.len; omega)]; simp [List.getElem?_eq_getElem (show k < xs.length by have := h.len; omega)]
  have h2 : ys[k]? = some (ys.getD k 0) := by rw [List.getElem?_eq_getElem (by have := h.len'; omega)]; simp [List.getElem?_eq_getElem (show k < ys.length by have := h.len'; omega)]
  exact h.at_ k _ _ h1 h2

theorem areaTo_bd {xs ys : List Int} {n : Nat} (h : Right xs ys n) : ∀ k, k ≤ n → 0 ≤ areaTo xs ys k ∧ areaTo xs ys k ≤ 2000 ^ k
  | 0, _ => by simp [areaTo]
  | k + 1, hk => by
    have ih := areaTo_bd h k (by omega)
    have hg := h.get (k := k) (by omega)
    simp only [areaTo, Int.pow_succ]
    exact mul_le ih.1 (by omega) ih.2 (by omega)
theorem overTo_bd {xs ys us vs : List Int} {n : Nat} (h : Right xs ys n) : ∀ k, k ≤ n → 0 ≤ overTo xs ys us vs k ∧ overTo xs ys us vs k ≤ 2000 ^ k
  | 0, _ => by simp [overTo]
  | k + 1, hk => by
    have ih := overTo_bd (us := us) (vs := vs) h k (by omega)
    have hg := h.get (k := k) (by omega)
    simp only [overTo, Int.pow_succ]
    exact mul_le ih.1 (by omega) ih.2 (by omega)
theorem marginTo_bd {xs ys : List Int} {n : Nat} (h : Right xs ys n) : ∀ k, k ≤ n → 0 ≤ marginTo xs ys k ∧ marginTo xs ys k ≤ 2000 * k
  | 0, _ => by simp [marginTo]
  | k + 1, hk => by
    have ih := marginTo_bd h k (by omega)
    have hg := h.get (k := k) (by omega)
    simp only [marginTo]
    omega
theorem pow_small {k : Nat} (hk : k ≤ 2) : (2000 : Int) ^ k ≤ 4000000 := by
  rcases (show k = 0 ∨ k = 1 ∨ k = 2 by omega) with rfl | rfl | rfl <;> decide

set_option maxHeartbeats 1600000 in
theorem l1Area_at (b1 f1 n c1 c2 lo1 lo2 : Nat) (A1 A2 : Option Addr) (xs ys : List Int) (w : World)
    (ht : w.cell? ⟨b1, f1, none⟩ = some (.slice A1 n c1)) (ht' : w.cell? ⟨b1, f1 + 1, none⟩ = some (.slice A2 n c2))
    (h1 : Ints w lo1 A1 n xs) (h2 : Ints w lo2 A2 n ys) (hr : Right xs ys n) :
    Calls Try.prog 87 #[.pointer (some ⟨b1, f1, none⟩)] w fun e w' => e = .returned (.int .i64 (areaTo xs ys n)) ∧ Drawn w w' := by
  have T1 := Lib.hid ht
  have T2 := Lib.hid ht'
  have H1 := Lib.hid h1
  have H2 := Lib.hid h2
  have hn : n ≤ 3 := by rcases hr.dim with h | h <;> omega
  have HR := Lib.hid hr
  clear ht ht' h1 h2 hr
  go_enter Try.func87, Try.ntmps87
  go_wp2
  go_loopw [3, 4] (fun p i wr => ∃ (k : Nat) (m : Int), k ≤ n ∧ i = .int .i64 k ∧ p = .int .i64 m ∧ Hid (Drawn w wr) ∧ Hid (m = areaTo xs ys k)) (fun _ i _ => n - (intOf i).toNat)
  case atStart => exact ⟨0, 1, Nat.zero_le _, rfl, rfl, Drawn.same w, rfl⟩
  case round =>
    obtain ⟨k, m, hk, rfl, rfl, hd, hm⟩ := hrel
    have t1 : wr.cell? ⟨b1, f1, none⟩ = some (.slice A1 n c1) := (hd.out.cell _).trans T1.out
    have t2 : wr.cell? ⟨b1, f1 + 1, none⟩ = some (.slice A2 n c2) := (hd.out.cell _).trans T2.out
    by_cases hlt : k < n
    · obtain ⟨g1, o1, x, rfl, _, _, e1, hx⟩ := H1.out.cellAt hlt
      obtain ⟨g2, o2, y, rfl, _, _, e2, hy⟩ := H2.out.cellAt hlt
      have d1 : wr.cell? ⟨g1, o1 + k, none⟩ = some (.int .i64 x) := (hd.out.cell _).trans e1
      have d2 : wr.cell? ⟨g2, o2 + k, none⟩ = some (.int .i64 y) := (hd.out.cell _).trans e2
      obtain ⟨r1, r2, r3⟩ := HR.out.at_ k x y hx.out hy.out
      have hb := areaTo_bd HR.out k hk
      have hp := pow_small (k := k) (by omega)
      have m0 : 0 ≤ m := by rw [hm.out]; exact hb.1
      have m1 : m ≤ 4000000 := by rw [hm.out]; omega
      have hq := mul_le m0 (show 0 ≤ y - x by omega) m1 (show y - x ≤ 2000 by omega)
      have hw := wrap64_in (m * (y - x)) (by omega) (by omega)
      have HM : Hid (m * (y - x) = areaTo xs ys (k + 1)) := by show _ = _; simp only [areaTo, getD_of hx.out, getD_of hy.out, ← hm.out]
      clear e1 e2 hb hp hq
      go_wp2
      go_quiet (fail)
      go_wp2
      go_roundw
      case rel => exact ⟨k + 1, m * (y - x), by omega, by go_num, by first | rfl | (rw [hw]), hd.out.more _, HM⟩
      case measure => simp [intOf]; omega
    · have hkn : k = n := by omega
      have HM : Hid (m = areaTo xs ys n) := hkn ▸ hm.out
      clear hkn
      go_wp2
      go_ret
      exact ⟨ret_i64 HM.out, hd.out⟩

theorem l1Area_any (b1 n c1 c2 lo1 lo2 : Nat) (A1 A2 : Option Addr) (xs ys : List Int) (w : World)
    (ht : w.cell? ⟨b1, 0, none⟩ = some (.slice A1 n c1)) (ht' : w.cell? ⟨b1, 1, none⟩ = some (.slice A2 n c2))
    (h1 : Ints w lo1 A1 n xs) (h2 : Ints w lo2 A2 n ys) (hr : Right xs ys n) :
    Calls Try.prog 87 #[.pointer (some ⟨b1, 0, none⟩)] w fun e w' => e = .returned (.int .i64 (areaTo xs ys n)) ∧ Drawn w w' :=
  l1Area_at b1 0 n c1 c2 lo1 lo2 A1 A2 xs ys w ht ht' h1 h2 hr

end Go.Proofs.Ytfpmbkfikfdmkaa
