/- The walk of spec.l1Two, and what two boxes without a fault are. -/
import Derived.Test.YtdkaofmlgaofgaaGreatCorners2
import Derived.Test.YtdkaofmlgaofgaaGreatLawRectFault
import Derived.Deep.RegionWith
namespace Go.Proofs.YtdkaofmlgaofgaaGreat
open Go.RowKit

/-- A box without a fault: two or three dimensions, numbers from -1000 to 1000, Low not above High. -/
structure Right (xs ys : List Int) (n : Nat) : Prop where
  len : xs.length = n
  len' : ys.length = n
  dim : n = 2 ∨ n = 3
  at_ : ∀ (k : Nat) (x y : Int), xs[k]? = some x → ys[k]? = some y → -1000 ≤ x ∧ x ≤ y ∧ y ≤ 1000

theorem allIn_at {l h : Int} {xs : List Int} (hp : allIn l h xs = true) {k : Nat} {x : Int} (hk : xs[k]? = some x) : l ≤ x ∧ x ≤ h := by
  unfold allIn at hp
  have := List.all_eq_true.1 hp x (List.mem_of_getElem? hk)
  simpa using this

theorem right_of_rf {xs ys : List Int} {n : Nat} (h : rf xs ys (n : Int) = 0) : Right xs ys n := by
  unfold rf at h
  by_cases h1 : pf xs (n : Int) = 0
  · by_cases h2 : pf ys (n : Int) = 0
    · rw [if_neg (by simpa using h1), if_neg (by simpa using h2)] at h
      cases h3 : leAll xs ys with
      | false => rw [h3] at h; simp at h
      | true =>
        obtain ⟨d1, l1, a1⟩ := pf_zero h1
        obtain ⟨d2, l2, a2⟩ := pf_zero h2
        refine ⟨by omega, by omega, by omega, fun k x y hx hy => ?_⟩
        have b1 := allIn_at a1 hx
        have b2 := allIn_at a2 hy
        unfold leAll at h3
        have b3 := List.all_eq_true.1 h3 _ (List.mem_of_getElem? (zip_at hx hy))
        simp at b3
        omega
    · rw [if_neg (by simpa using h1), if_pos h2] at h
      exact absurd h h2
  · rw [if_pos h1] at h
    exact absurd h h1

theorem right_of_rf2 {xs ys us vs : List Int} (h : rf2 xs ys us vs = 0) : Right xs ys xs.length ∧ Right us vs xs.length := by
  unfold rf2 at h
  by_cases h1 : rf xs ys (xs.length : Int) = 0
  · rw [if_neg (by simpa using h1)] at h
    exact ⟨right_of_rf h1, right_of_rf h⟩
  · rw [if_pos h1] at h
    exact absurd h h1


end Go.Proofs.YtdkaofmlgaofgaaGreat

/- The walks of the model's loops over dimensions: spec.l1Min, l1Max, l1Meets, l1Covers, l1Area, l1Margin, l1Overlap, l1Dist. For boxes without a fault. -/
namespace Go.Proofs.YtdkaofmlgaofgaaGreat
open Go.RowKit

/-- Only draws lie between. -/
def Drawn (w w' : World) : Prop := ∃ q, w' = w.drewN q
theorem Drawn.same (w : World) : Drawn w w := ⟨0, rfl⟩
theorem Drawn.cell {w w' : World} (h : Drawn w w') (a : Addr) : w'.cell? a = w.cell? a := by obtain ⟨q, rfl⟩ := h; rfl
theorem Drawn.more {w w' : World} (h : Drawn w w') (n : Nat) : Drawn w (w'.drewN n) := by obtain ⟨q, rfl⟩ := h; exact ⟨q + n, World.drewN_drewN _ _ _⟩
theorem Drawn.below {w w' : World} (h : Drawn w w') : Below w.heap.size w w' := by obtain ⟨q, rfl⟩ := h; exact below_draws (Below.refl _ _) q

theorem l1Min_any (a b : Int) (w : World) : Calls Tryz.prog 261 #[.int .i64 a, .int .i64 b] w fun e w' => e = .returned (.int .i64 (min a b)) ∧ w' = w := by
  by_cases h : a < b
  · go_enter Tryz.func261, Tryz.ntmps261
    go_wp2
    go_ret
    exact ⟨ret_i64 (by omega), rfl⟩
  · go_enter Tryz.func261, Tryz.ntmps261
    go_wp2
    go_ret
    exact ⟨ret_i64 (by omega), rfl⟩
theorem l1Max_any (a b : Int) (w : World) : Calls Tryz.prog 254 #[.int .i64 a, .int .i64 b] w fun e w' => e = .returned (.int .i64 (max a b)) ∧ w' = w := by
  by_cases h : b < a
  · go_enter Tryz.func254, Tryz.ntmps254
    go_wp2
    go_ret
    exact ⟨ret_i64 (by omega), rfl⟩
  · go_enter Tryz.func254, Tryz.ntmps254
    go_wp2
    go_ret
    exact ⟨ret_i64 (by omega), rfl⟩

/-- In each of the first k dimensions neither Low is above the other one's High. -/
def meetTo (xs ys us vs : List Int) : Nat → Bool
  | 0 => true
  | k + 1 => meetTo xs ys us vs k && (decide (xs.getD k 0 ≤ vs.getD k 0) && decide (us.getD k 0 ≤ ys.getD k 0))
/-- In each of the first k dimensions the second box is in the first. -/
def coverTo (xs ys us vs : List Int) : Nat → Bool
  | 0 => true
  | k + 1 => coverTo xs ys us vs k && (decide (xs.getD k 0 ≤ us.getD k 0) && decide (vs.getD k 0 ≤ ys.getD k 0))

theorem getD_of {xs : List Int} {k : Nat} {x : Int} (h : xs[k]? = some x) : xs.getD k 0 = x := by simp [h]

theorem meetTo_next {xs ys us vs : List Int} {k : Nat} {x y u v : Int} (hx : xs[k]? = some x) (hy : ys[k]? = some y) (hu : us[k]? = some u) (hv : vs[k]? = some v) (h : meetTo xs ys us vs k = true) (h1 : x ≤ v) (h2 : u ≤ y) :
    meetTo xs ys us vs (k + 1) = true := by simp only [meetTo, getD_of hx, getD_of hy, getD_of hu, getD_of hv, h, decide_eq_true h1, decide_eq_true h2, Bool.and_true]
theorem meetTo_stop {xs ys us vs : List Int} {k : Nat} {x y u v : Int} (hx : xs[k]? = some x) (hy : ys[k]? = some y) (hu : us[k]? = some u) (hv : vs[k]? = some v) (h1 : ¬ (x ≤ v ∧ u ≤ y)) (n : Nat) (hn : k < n) :
    meetTo xs ys us vs n = false := by
  induction n with
  | zero => omega
  | succ n ih =>
    by_cases e : k = n
    · subst e
      have : (decide (x ≤ v) && decide (u ≤ y)) = false := by rw [Bool.and_eq_false_iff]; simp only [decide_eq_false_iff_not]; omega
      simp only [meetTo, getD_of hx, getD_of hy, getD_of hu, getD_of hv, this, Bool.and_false]
    · simp only [meetTo, ih (by omega), Bool.false_and]
theorem coverTo_next {xs ys us vs : List Int} {k : Nat} {x y u v : Int} (hx : xs[k]? = some x) (hy : ys[k]? = some y) (hu : us[k]? = some u) (hv : vs[k]? = some v) (h : coverTo xs ys us vs k = true) (h1 : x ≤ u) (h2 : v ≤ y) :
    coverTo xs ys us vs (k + 1) = true := by simp only [coverTo, getD_of hx, getD_of hy, getD_of hu, getD_of hv, h, decide_eq_true h1, decide_eq_true h2, Bool.and_true]
theorem coverTo_stop {xs ys us vs : List Int} {k : Nat} {x y u v : Int} (hx : xs[k]? = some x) (hy : ys[k]? = some y) (hu : us[k]? = some u) (hv : vs[k]? = some v) (h1 : ¬ (x ≤ u ∧ v ≤ y)) (n : Nat) (hn : k < n) :
    coverTo xs ys us vs n = false := by
  induction n with
  | zero => omega
  | succ n ih =>
    by_cases e : k = n
    · subst e
      have : (decide (x ≤ u) && decide (v ≤ y)) = false := by rw [Bool.and_eq_false_iff]; simp only [decide_eq_false_iff_not]; omega
      simp only [coverTo, getD_of hx, getD_of hy, getD_of hu, getD_of hv, this, Bool.and_false]
    · simp only [coverTo, ih (by omega), Bool.false_and]

/-- As Two, each struct at its own place in its block. -/
def TwoAt (b1 f1 b2 f2 : Nat) (p1 p2 q1 q2 : Value) (w : World) : Prop := w.cell? ⟨b1, f1, none⟩ = some p1 ∧ w.cell? ⟨b1, f1 + 1, none⟩ = some p2 ∧ w.cell? ⟨b2, f2, none⟩ = some q1 ∧ w.cell? ⟨b2, f2 + 1, none⟩ = some q2

set_option maxHeartbeats 1600000 in
theorem l1Meets_at (b1 f1 b2 f2 n c1 c2 c3 c4 lo1 lo2 lo3 lo4 : Nat) (A1 A2 A3 A4 : Option Addr) (xs ys us vs : List Int) (w : World)
    (ht : TwoAt b1 f1 b2 f2 (.slice A1 n c1) (.slice A2 n c2) (.slice A3 n c3) (.slice A4 n c4) w)
    (h1 : Ints w lo1 A1 n xs) (h2 : Ints w lo2 A2 n ys) (h3 : Ints w lo3 A3 n us) (h4 : Ints w lo4 A4 n vs) (hn : n ≤ 3) :
    Calls Tryz.prog 228 #[.pointer (some ⟨b1, f1, none⟩), .pointer (some ⟨b2, f2, none⟩)] w fun e w' => e = .returned (.bool (meetTo xs ys us vs n)) ∧ Drawn w w' := by
  have HT := Lib.hid ht
  have H1 := Lib.hid h1
  have H2 := Lib.hid h2
  have H3 := Lib.hid h3
  have H4 := Lib.hid h4
  clear ht h1 h2 h3 h4
  go_enter Tryz.func228, Tryz.ntmps228
  go_wp2
  go_loopw [5] (fun i wr => ∃ k : Nat, k ≤ n ∧ i = .int .i64 k ∧ Hid (Drawn w wr) ∧ Hid (meetTo xs ys us vs k = true)) (fun i _ => n - (intOf i).toNat)
  case atStart => exact ⟨0, Nat.zero_le _, rfl, Drawn.same w, rfl⟩
  case round =>
    obtain ⟨k, hk, rfl, hd, hm⟩ := hrel
    have t1 : wr.cell? ⟨b1, f1, none⟩ = some (.slice A1 n c1) := (hd.out.cell _).trans HT.out.1
    have t2 : wr.cell? ⟨b1, f1 + 1, none⟩ = some (.slice A2 n c2) := (hd.out.cell _).trans HT.out.2.1
    have t3 : wr.cell? ⟨b2, f2, none⟩ = some (.slice A3 n c3) := (hd.out.cell _).trans HT.out.2.2.1
    have t4 : wr.cell? ⟨b2, f2 + 1, none⟩ = some (.slice A4 n c4) := (hd.out.cell _).trans HT.out.2.2.2
    by_cases hlt : k < n
    · obtain ⟨g1, o1, x, rfl, _, _, e1, hx⟩ := H1.out.cellAt hlt
      obtain ⟨g2, o2, y, rfl, _, _, e2, hy⟩ := H2.out.cellAt hlt
      obtain ⟨g3, o3, u, rfl, _, _, e3, hu⟩ := H3.out.cellAt hlt
      obtain ⟨g4, o4, v, rfl, _, _, e4, hv⟩ := H4.out.cellAt hlt
      have d1 : wr.cell? ⟨g1, o1 + k, none⟩ = some (.int .i64 x) := (hd.out.cell _).trans e1
      have d2 : wr.cell? ⟨g2, o2 + k, none⟩ = some (.int .i64 y) := (hd.out.cell _).trans e2
      have d3 : wr.cell? ⟨g3, o3 + k, none⟩ = some (.int .i64 u) := (hd.out.cell _).trans e3
      have d4 : wr.cell? ⟨g4, o4 + k, none⟩ = some (.int .i64 v) := (hd.out.cell _).trans e4
      clear e1 e2 e3 e4
      by_cases hxv : x ≤ v
      · by_cases huy : u ≤ y
        · have HM := Lib.hid (meetTo_next hx.out hy.out hu.out hv.out hm.out hxv huy)
          go_wp2
          go_quiet (fail)
          go_wp2
          go_roundw
          case rel => exact ⟨k + 1, by omega, by go_num, hd.out.more _, HM⟩
          case measure => simp [intOf]; omega
        · have HM := Lib.hid (meetTo_stop hx.out hy.out hu.out hv.out (fun hh => huy hh.2) n hlt)
          go_wp2
          go_quiet (fail)
          go_wp2
          go_ret
          exact ⟨ret_bool HM.out.symm, hd.out.more _⟩
      · have HM := Lib.hid (meetTo_stop hx.out hy.out hu.out hv.out (fun hh => hxv hh.1) n hlt)
        go_wp2
        go_quiet (fail)
        go_wp2
        go_ret
        exact ⟨ret_bool HM.out.symm, hd.out.more _⟩
    · have hkn : k = n := by omega
      have HM : Hid (meetTo xs ys us vs n = true) := hkn ▸ hm.out
      clear hkn
      go_wp2
      go_ret
      exact ⟨ret_bool HM.out.symm, hd.out⟩
theorem l1Meets_any (b1 b2 n c1 c2 c3 c4 lo1 lo2 lo3 lo4 : Nat) (A1 A2 A3 A4 : Option Addr) (xs ys us vs : List Int) (w : World)
    (ht : Two b1 b2 (.slice A1 n c1) (.slice A2 n c2) (.slice A3 n c3) (.slice A4 n c4) w)
    (h1 : Ints w lo1 A1 n xs) (h2 : Ints w lo2 A2 n ys) (h3 : Ints w lo3 A3 n us) (h4 : Ints w lo4 A4 n vs) (hn : n ≤ 3) :
    Calls Tryz.prog 228 #[.pointer (some ⟨b1, 0, none⟩), .pointer (some ⟨b2, 0, none⟩)] w fun e w' => e = .returned (.bool (meetTo xs ys us vs n)) ∧ Drawn w w' :=
  l1Meets_at b1 0 b2 0 n c1 c2 c3 c4 lo1 lo2 lo3 lo4 A1 A2 A3 A4 xs ys us vs w ht h1 h2 h3 h4 hn

set_option maxHeartbeats 1600000 in
theorem l1Covers_at (b1 f1 b2 f2 n c1 c2 c3 c4 lo1 lo2 lo3 lo4 : Nat) (A1 A2 A3 A4 : Option Addr) (xs ys us vs : List Int) (w : World)
    (ht : TwoAt b1 f1 b2 f2 (.slice A1 n c1) (.slice A2 n c2) (.slice A3 n c3) (.slice A4 n c4) w)
    (h1 : Ints w lo1 A1 n xs) (h2 : Ints w lo2 A2 n ys) (h3 : Ints w lo3 A3 n us) (h4 : Ints w lo4 A4 n vs) (hn : n ≤ 3) :
    Calls Tryz.prog 229 #[.pointer (some ⟨b1, f1, none⟩), .pointer (some ⟨b2, f2, none⟩)] w fun e w' => e = .returned (.bool (coverTo xs ys us vs n)) ∧ Drawn w w' := by
  have HT := Lib.hid ht
  have H1 := Lib.hid h1
  have H2 := Lib.hid h2
  have H3 := Lib.hid h3
  have H4 := Lib.hid h4
  clear ht h1 h2 h3 h4
  go_enter Tryz.func229, Tryz.ntmps229
  go_wp2
  go_loopw [5] (fun i wr => ∃ k : Nat, k ≤ n ∧ i = .int .i64 k ∧ Hid (Drawn w wr) ∧ Hid (coverTo xs ys us vs k = true)) (fun i _ => n - (intOf i).toNat)
  case atStart => exact ⟨0, Nat.zero_le _, rfl, Drawn.same w, rfl⟩
  case round =>
    obtain ⟨k, hk, rfl, hd, hm⟩ := hrel
    have t1 : wr.cell? ⟨b1, f1, none⟩ = some (.slice A1 n c1) := (hd.out.cell _).trans HT.out.1
    have t2 : wr.cell? ⟨b1, f1 + 1, none⟩ = some (.slice A2 n c2) := (hd.out.cell _).trans HT.out.2.1
    have t3 : wr.cell? ⟨b2, f2, none⟩ = some (.slice A3 n c3) := (hd.out.cell _).trans HT.out.2.2.1
    have t4 : wr.cell? ⟨b2, f2 + 1, none⟩ = some (.slice A4 n c4) := (hd.out.cell _).trans HT.out.2.2.2
    by_cases hlt : k < n
    · obtain ⟨g1, o1, x, rfl, _, _, e1, hx⟩ := H1.out.cellAt hlt
      obtain ⟨g2, o2, y, rfl, _, _, e2, hy⟩ := H2.out.cellAt hlt
      obtain ⟨g3, o3, u, rfl, _, _, e3, hu⟩ := H3.out.cellAt hlt
      obtain ⟨g4, o4, v, rfl, _, _, e4, hv⟩ := H4.out.cellAt hlt
      have d1 : wr.cell? ⟨g1, o1 + k, none⟩ = some (.int .i64 x) := (hd.out.cell _).trans e1
      have d2 : wr.cell? ⟨g2, o2 + k, none⟩ = some (.int .i64 y) := (hd.out.cell _).trans e2
      have d3 : wr.cell? ⟨g3, o3 + k, none⟩ = some (.int .i64 u) := (hd.out.cell _).trans e3
      have d4 : wr.cell? ⟨g4, o4 + k, none⟩ = some (.int .i64 v) := (hd.out.cell _).trans e4
      clear e1 e2 e3 e4
      by_cases hxu : x ≤ u
      · by_cases hvy : v ≤ y
        · have HM := Lib.hid (coverTo_next hx.out hy.out hu.out hv.out hm.out hxu hvy)
          go_wp2
          go_quiet (fail)
          go_wp2
          go_roundw
          case rel => exact ⟨k + 1, by omega, by go_num, hd.out.more _, HM⟩
          case measure => simp [intOf]; omega
        · have HM := Lib.hid (coverTo_stop hx.out hy.out hu.out hv.out (fun hh => hvy hh.2) n hlt)
          go_wp2
          go_quiet (fail)
          go_wp2
          go_ret
          exact ⟨ret_bool HM.out.symm, hd.out.more _⟩
      · have HM := Lib.hid (coverTo_stop hx.out hy.out hu.out hv.out (fun hh => hxu hh.1) n hlt)
        go_wp2
        go_quiet (fail)
        go_wp2
        go_ret
        exact ⟨ret_bool HM.out.symm, hd.out.more _⟩
    · have hkn : k = n := by omega
      have HM : Hid (coverTo xs ys us vs n = true) := hkn ▸ hm.out
      clear hkn
      go_wp2
      go_ret
      exact ⟨ret_bool HM.out.symm, hd.out⟩
theorem l1Covers_any (b1 b2 n c1 c2 c3 c4 lo1 lo2 lo3 lo4 : Nat) (A1 A2 A3 A4 : Option Addr) (xs ys us vs : List Int) (w : World)
    (ht : Two b1 b2 (.slice A1 n c1) (.slice A2 n c2) (.slice A3 n c3) (.slice A4 n c4) w)
    (h1 : Ints w lo1 A1 n xs) (h2 : Ints w lo2 A2 n ys) (h3 : Ints w lo3 A3 n us) (h4 : Ints w lo4 A4 n vs) (hn : n ≤ 3) :
    Calls Tryz.prog 229 #[.pointer (some ⟨b1, 0, none⟩), .pointer (some ⟨b2, 0, none⟩)] w fun e w' => e = .returned (.bool (coverTo xs ys us vs n)) ∧ Drawn w w' :=
  l1Covers_at b1 0 b2 0 n c1 c2 c3 c4 lo1 lo2 lo3 lo4 A1 A2 A3 A4 xs ys us vs w ht h1 h2 h3 h4 hn

/-- The product of the first k edges. -/
def areaTo (xs ys : List Int) : Nat → Int
  | 0 => 1
  | k + 1 => areaTo xs ys k * (ys.getD k 0 - xs.getD k 0)
def marginTo (xs ys : List Int) : Nat → Int
  | 0 => 0
  | k + 1 => marginTo xs ys k + ys.getD k 0 - xs.getD k 0
def overTo (xs ys us vs : List Int) : Nat → Int
  | 0 => 1
  | k + 1 => overTo xs ys us vs k * max (min (ys.getD k 0) (vs.getD k 0) - max (xs.getD k 0) (us.getD k 0)) 0
def distTo (xs ys ps : List Int) : Nat → Int
  | 0 => 0
  | k + 1 => distTo xs ys ps k + max (xs.getD k 0 - ps.getD k 0) 0 + max (ps.getD k 0 - ys.getD k 0) 0

theorem Right.get {xs ys : List Int} {n : Nat} (h : Right xs ys n) {k : Nat} (hk : k < n) : -1000 ≤ xs.getD k 0 ∧ xs.getD k 0 ≤ ys.getD k 0 ∧ ys.getD k 0 ≤ 1000 := by
  have h1 : xs[k]? = some (xs.getD k 0) := by rw [List.getElem?_eq_getElem (by have := h.len; omega)]; simp [List.getElem?_eq_getElem (show k < xs.length by have := h.len; omega)]
  have h2 : ys[k]? = some (ys.getD k 0) := by rw [List.getElem?_eq_getElem (by have := h.len'; omega)]; simp [List.getElem?_eq_getElem (show k < ys.length by have := h.len'; omega)]
  exact h.at_ k _ _ h1 h2

theorem areaTo_bd {xs ys : List Int} {n : Nat} (h : Right xs ys n) : ∀ k, k ≤ n → 0 ≤ areaTo xs ys k ∧ areaTo xs ys k ≤ 2000 ^ k
  | 0, _ => by simp [areaTo]
  | k + 1, hk => by
    have ih := areaTo_bd h k (by omega)
    have hg := h.get (k := k) (by omega)
    simp only [areaTo, Int.pow_succ]
    exact mul_le ih.1 (by omega) ih.2 (by omega)
theorem overTo_bd {xs ys us vs : List Int} {n : Nat} (h : Right xs ys n) : ∀ k, k ≤ n → 0 ≤ overTo xs ys us vs k ∧ overTo xs ys us vs k ≤ 2000 ^ k
  | 0, _ => by simp [overTo]
  | k + 1, hk => by
    have ih := overTo_bd (us := us) (vs := vs) h k (by omega)
    have hg := h.get (k := k) (by omega)
    simp only [overTo, Int.pow_succ]
    exact mul_le ih.1 (by omega) ih.2 (by omega)
theorem marginTo_bd {xs ys : List Int} {n : Nat} (h : Right xs ys n) : ∀ k, k ≤ n → 0 ≤ marginTo xs ys k ∧ marginTo xs ys k ≤ 2000 * k
  | 0, _ => by simp [marginTo]
  | k + 1, hk => by
    have ih := marginTo_bd h k (by omega)
    have hg := h.get (k := k) (by omega)
    simp only [marginTo]
    omega
theorem pow_small {k : Nat} (hk : k ≤ 2) : (2000 : Int) ^ k ≤ 4000000 := by
  rcases (show k = 0 ∨ k = 1 ∨ k = 2 by omega) with rfl | rfl | rfl <;> decide



end Go.Proofs.YtdkaofmlgaofgaaGreat

/- The walks of spec.Meets and impl.Meets: for every two boxes. -/
namespace Go.Proofs.YtdkaofmlgaofgaaGreat
open Go.RowKit

/-- Whether two boxes meet. -/
def meetsF (x1 x2 x3 x4 : List Int) : Bool := decide (rf2 x1 x2 x3 x4 = 0) && meetTo x1 x2 x3 x4 x1.length


theorem pad_get {xs : List Int} {p0 p1 p2 : Int} (h : Pad xs p0 p1 p2) : xs.getD 0 0 = p0 ∧ xs.getD 1 0 = p1 ∧ xs.getD 2 0 = p2 ∧ (xs.length = 2 ∨ xs.length = 3) ∧ (xs.length = 2 → p2 = 0) := by
  rcases h with ⟨rfl, rfl⟩ | rfl <;> simp

theorem meetTo_box {x1 x2 x3 x4 : List Int} {n : Nat} {p0 p1 p2 q0 q1 q2 r0 r1 r2 s0 s1 s2 : Int} (h1 : Pad x1 p0 p1 p2) (h2 : Pad x2 q0 q1 q2) (h3 : Pad x3 r0 r1 r2) (h4 : Pad x4 s0 s1 s2)
    (l1 : x1.length = n) (l2 : x2.length = n) (l3 : x3.length = n) (l4 : x4.length = n) : boxMeets p0 p1 p2 q0 q1 q2 r0 r1 r2 s0 s1 s2 = meetTo x1 x2 x3 x4 n := by
  obtain ⟨a0, a1, a2, ad, az⟩ := pad_get h1
  obtain ⟨b0, b1, b2, _, bz⟩ := pad_get h2
  obtain ⟨c0, c1, c2, _, cz⟩ := pad_get h3
  obtain ⟨d0, d1, d2, _, dz⟩ := pad_get h4
  rcases ad with e | e
  · have hn : n = 2 := by omega
    subst hn
    have za := a2.trans (az e)
    have zb := b2.trans (bz (by omega))
    have zc := c2.trans (cz (by omega))
    have zd := d2.trans (dz (by omega))
    clear az bz cz dz
    subst_vars
    simp only [boxMeets, meetTo, za, zb, zc, zd, Bool.true_and, Bool.and_assoc, Int.le_refl, decide_true, Bool.and_true]
  · have hn : n = 3 := by omega
    subst hn
    subst_vars
    simp only [boxMeets, meetTo, Bool.true_and, Bool.and_assoc]


end Go.Proofs.YtdkaofmlgaofgaaGreat

/- The walks of the model's further loops over dimensions: spec.l1Margin, l1Overlap, l1Dist. For boxes without a fault. -/
namespace Go.Proofs.YtdkaofmlgaofgaaGreat
open Go.RowKit



theorem distTo_bd {xs ys ps : List Int} {n : Nat} (h : Right xs ys n) (hp : allIn (-1000) 1000 ps = true) (hl : ps.length = n) : ∀ k, k ≤ n → 0 ≤ distTo xs ys ps k ∧ distTo xs ys ps k ≤ 2000 * k
  | 0, _ => by simp [distTo]
  | k + 1, hk => by
    have ih := distTo_bd h hp hl k (by omega)
    have hg := h.get (k := k) (by omega)
    have h1 : ps[k]? = some (ps.getD k 0) := by rw [List.getElem?_eq_getElem (by omega)]; simp [List.getElem?_eq_getElem (show k < ps.length by omega)]
    have h2 := allIn_at hp h1
    simp only [distTo]
    omega

set_option maxHeartbeats 3200000 in
theorem l1Dist_at (b1 f1 n c1 c2 c3 lo1 lo2 lo3 : Nat) (A1 A2 A3 : Option Addr) (xs ys ps : List Int) (w : World)
    (ht : w.cell? ⟨b1, f1, none⟩ = some (.slice A1 n c1)) (ht' : w.cell? ⟨b1, f1 + 1, none⟩ = some (.slice A2 n c2))
    (h1 : Ints w lo1 A1 n xs) (h2 : Ints w lo2 A2 n ys) (h3 : Ints w lo3 A3 n ps) (hr : Right xs ys n) (hp : allIn (-1000) 1000 ps = true) :
    Calls Tryz.prog 230 #[.pointer (some ⟨b1, f1, none⟩), .slice A3 n c3] w fun e w' => e = .returned (.int .i64 (distTo xs ys ps n)) ∧ Drawn w w' := by
  have T1 := Lib.hid ht
  have T2 := Lib.hid ht'
  have H1 := Lib.hid h1
  have H2 := Lib.hid h2
  have H3 := Lib.hid h3
  have HP := Lib.hid hp
  have hn : n ≤ 3 := by rcases hr.dim with h | h <;> omega
  have HR := Lib.hid hr
  clear ht ht' h1 h2 h3 hr hp
  go_enter Tryz.func230, Tryz.ntmps230
  go_wp2
  go_loopw [5, 6] (fun p i wr => ∃ (k : Nat) (m : Int), k ≤ n ∧ i = .int .i64 k ∧ p = .int .i64 m ∧ Hid (Drawn w wr) ∧ Hid (m = distTo xs ys ps k)) (fun _ i _ => n - (intOf i).toNat)
  case atStart => exact ⟨0, 0, Nat.zero_le _, rfl, rfl, Drawn.same w, rfl⟩
  case round =>
    obtain ⟨k, m, hk, rfl, rfl, hd, hm⟩ := hrel
    have t1 : wr.cell? ⟨b1, f1, none⟩ = some (.slice A1 n c1) := (hd.out.cell _).trans T1.out
    have t2 : wr.cell? ⟨b1, f1 + 1, none⟩ = some (.slice A2 n c2) := (hd.out.cell _).trans T2.out
    by_cases hlt : k < n
    · obtain ⟨g1, o1, x, rfl, _, _, e1, hx⟩ := H1.out.cellAt hlt
      obtain ⟨g2, o2, y, rfl, _, _, e2, hy⟩ := H2.out.cellAt hlt
      obtain ⟨g3, o3, z, rfl, _, _, e3, hz⟩ := H3.out.cellAt hlt
      have d1 : wr.cell? ⟨g1, o1 + k, none⟩ = some (.int .i64 x) := (hd.out.cell _).trans e1
      have d2 : wr.cell? ⟨g2, o2 + k, none⟩ = some (.int .i64 y) := (hd.out.cell _).trans e2
      have d3 : wr.cell? ⟨g3, o3 + k, none⟩ = some (.int .i64 z) := (hd.out.cell _).trans e3
      obtain ⟨r1, r2, r3⟩ := HR.out.at_ k x y hx.out hy.out
      obtain ⟨s1, s2⟩ := allIn_at HP.out hz.out
      have hb := distTo_bd HR.out HP.out H3.out.1 k hk
      have m0 : 0 ≤ m := by rw [hm.out]; exact hb.1
      have m1 : m ≤ 6000 := by rw [hm.out]; omega
      have HM : Hid (m + max (x - z) 0 + max (z - y) 0 = distTo xs ys ps (k + 1)) := by show _ = _; simp only [distTo, getD_of hx.out, getD_of hy.out, getD_of hz.out, ← hm.out]
      have hw1 := wrap64_in (m + max (x - z) 0) (by omega) (by omega)
      have hw2 := wrap64_in (m + max (x - z) 0 + max (z - y) 0) (by omega) (by omega)
      clear e1 e2 e3 hb
      go_wp2
      go_quiet (first | (go_at_call 254; exact Calls.quiet_of_same (l1Max_any _ _ _)))
      go_wp2
      go_roundw
      case rel => exact ⟨k + 1, m + max (x - z) 0 + max (z - y) 0, by omega, by go_num, by first | rfl | (rw [hw2]), hd.out.more _, HM⟩
      case measure => simp [intOf]; omega
    · have hkn : k = n := by omega
      have HM : Hid (m = distTo xs ys ps n) := hkn ▸ hm.out
      clear hkn
      go_wp2
      go_ret
      exact ⟨ret_i64 HM.out, hd.out⟩
theorem l1Dist_any (b1 n c1 c2 c3 lo1 lo2 lo3 : Nat) (A1 A2 A3 : Option Addr) (xs ys ps : List Int) (w : World)
    (ht : w.cell? ⟨b1, 0, none⟩ = some (.slice A1 n c1)) (ht' : w.cell? ⟨b1, 1, none⟩ = some (.slice A2 n c2))
    (h1 : Ints w lo1 A1 n xs) (h2 : Ints w lo2 A2 n ys) (h3 : Ints w lo3 A3 n ps) (hr : Right xs ys n) (hp : allIn (-1000) 1000 ps = true) :
    Calls Tryz.prog 230 #[.pointer (some ⟨b1, 0, none⟩), .slice A3 n c3] w fun e w' => e = .returned (.int .i64 (distTo xs ys ps n)) ∧ Drawn w w' :=
  l1Dist_at b1 0 n c1 c2 c3 lo1 lo2 lo3 A1 A2 A3 xs ys ps w ht ht' h1 h2 h3 hr hp

end Go.Proofs.YtdkaofmlgaofgaaGreat
