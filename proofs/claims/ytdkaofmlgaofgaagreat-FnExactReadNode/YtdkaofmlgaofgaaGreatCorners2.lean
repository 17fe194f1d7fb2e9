/- The walks of impl's boxes (arrays of two corners): union, common, meets, area, margin, distance, for every number. -/
import Derived.Test.YtdkaofmlgaofgaaGreatRects
import Derived.LoopN
import Derived.RegionTactic
import Derived.BigRegion
import Derived.IntWalk
import Derived.Laws.CopyOwn
import Derived.Deep.RegionHeld3
namespace Go.Proofs.YtdkaofmlgaofgaaGreat
open Go.RowKit

theorem if_min (a b : Int) : (if b < a then b else a) = min a b := by omega
theorem if_max (a b : Int) : (if a < b then b else a) = max a b := by omega

set_option maxHeartbeats 3200000 in
theorem union_any (a0 a1 a2 a3 a4 a5 : Int) (b0 b1 b2 b3 b4 b5 : Int) (w : World) :
    Calls Tryz.prog 258 #[.agg #[.int .i64 a0, .int .i64 a1, .int .i64 a2, .int .i64 a3, .int .i64 a4, .int .i64 a5], .agg #[.int .i64 b0, .int .i64 b1, .int .i64 b2, .int .i64 b3, .int .i64 b4, .int .i64 b5]] w
      fun e w' => e = .returned (.agg #[.int .i64 (min a0 b0), .int .i64 (min a1 b1), .int .i64 (min a2 b2), .int .i64 (max a3 b3), .int .i64 (max a4 b4), .int .i64 (max a5 b5)]) ∧ Below w.heap.size w w' := by
  go_enter Tryz.func258, Tryz.ntmps258
  go_wp2
  refine wp_loop_rounds 4 ?_
  rw [rounds_succ]
  go_wp2
  go_region
  generalize h0 : (if b0 < a0 then b0 else a0) = m0
  have H0 := Lib.hid h0
  clear h0
  go_wp2
  go_region
  generalize h3 : (if a3 < b3 then b3 else a3) = m3
  have H3 := Lib.hid h3
  clear h3
  go_wp2
  rw [rounds_succ]
  go_wp2
  go_region
  generalize h1 : (if b1 < a1 then b1 else a1) = m1
  have H1 := Lib.hid h1
  clear h1
  go_wp2
  go_region
  generalize h4 : (if a4 < b4 then b4 else a4) = m4
  have H4 := Lib.hid h4
  clear h4
  go_wp2
  rw [rounds_succ]
  go_wp2
  go_region
  generalize h2 : (if b2 < a2 then b2 else a2) = m2
  have H2 := Lib.hid h2
  clear h2
  go_wp2
  go_region
  generalize h5 : (if a5 < b5 then b5 else a5) = m5
  have H5 := Lib.hid h5
  clear h5
  go_wp2
  rw [rounds_succ]
  go_wp2
  have e0 : m0 = min a0 b0 := by have := H0.out; rw [← this]; exact if_min _ _
  have e1 : m1 = min a1 b1 := by have := H1.out; rw [← this]; exact if_min _ _
  have e2 : m2 = min a2 b2 := by have := H2.out; rw [← this]; exact if_min _ _
  have e3 : m3 = max a3 b3 := by have := H3.out; rw [← this]; exact if_max _ _
  have e4 : m4 = max a4 b4 := by have := H4.out; rw [← this]; exact if_max _ _
  have e5 : m5 = max a5 b5 := by have := H5.out; rw [← this]; exact if_max _ _
  subst e0 e1 e2 e3 e4 e5
  refine bodyPost_ret (v := .agg #[.int .i64 (min a0 b0), .int .i64 (min a1 b1), .int .i64 (min a2 b2), .int .i64 (max a3 b3), .int .i64 (max a4 b4), .int .i64 (max a5 b5)]) (by simp [results, Tryz.results258, go_sem]) rfl ⟨rfl, ?_⟩
  exact by repeat (first | exact Below.refl _ _ | refine Below.drew ?_ | refine below_draws ?_ _ | refine Below.alloc ?_ (by first | exact Nat.le_refl _ | (simp only [World.size_alloc]; omega)) _)


/-- In each dimension neither Low is above the other one's High. -/
def boxMeets (a0 a1 a2 a3 a4 a5 : Int) (b0 b1 b2 b3 b4 b5 : Int) : Bool := decide (a0 ≤ b3) && decide (b0 ≤ a3) && decide (a1 ≤ b4) && decide (b1 ≤ a4) && decide (a2 ≤ b5) && decide (b2 ≤ a5)

set_option maxHeartbeats 3200000 in
theorem meets_is (v : Bool) (a0 a1 a2 a3 a4 a5 : Int) (b0 b1 b2 b3 b4 b5 : Int) (w : World) (hv : boxMeets a0 a1 a2 a3 a4 a5 b0 b1 b2 b3 b4 b5 = v) :
    Calls Tryz.prog 239 #[.agg #[.int .i64 a0, .int .i64 a1, .int .i64 a2, .int .i64 a3, .int .i64 a4, .int .i64 a5], .agg #[.int .i64 b0, .int .i64 b1, .int .i64 b2, .int .i64 b3, .int .i64 b4, .int .i64 b5]] w fun e w' => e = .returned (.bool v) ∧ Below w.heap.size w w' := by
  have HV := Lib.hid hv
  clear hv
  by_cases k0 : a0 ≤ b3
  rotate_left
  · have hvv : v = false := by rw [← HV.out]; simp only [boxMeets, decide_eq_false k0, Bool.false_and]
    subst hvv
    clear HV
    go_enter Tryz.func239, Tryz.ntmps239
    go_wp2
    refine wp_loop_rounds 4 ?_
    rw [rounds_succ]
    go_wp2
    go_quiet (fail)
    go_wp2
    go_ret
    exact ⟨rfl, by repeat (first | exact Below.refl _ _ | refine Below.drew ?_ | refine below_draws ?_ _ | refine Below.alloc ?_ (by first | exact Nat.le_refl _ | (simp only [World.size_alloc]; omega)) _)⟩
  by_cases k1 : b0 ≤ a3
  rotate_left
  · have hvv : v = false := by rw [← HV.out]; simp only [boxMeets, decide_eq_false k1, Bool.and_false, Bool.false_and]
    subst hvv
    clear HV
    go_enter Tryz.func239, Tryz.ntmps239
    go_wp2
    refine wp_loop_rounds 4 ?_
    rw [rounds_succ]
    go_wp2
    go_quiet (fail)
    go_wp2
    go_ret
    exact ⟨rfl, by repeat (first | exact Below.refl _ _ | refine Below.drew ?_ | refine below_draws ?_ _ | refine Below.alloc ?_ (by first | exact Nat.le_refl _ | (simp only [World.size_alloc]; omega)) _)⟩
  by_cases k2 : a1 ≤ b4
  rotate_left
  · have hvv : v = false := by rw [← HV.out]; simp only [boxMeets, decide_eq_false k2, Bool.and_false, Bool.false_and]
    subst hvv
    clear HV
    go_enter Tryz.func239, Tryz.ntmps239
    go_wp2
    refine wp_loop_rounds 4 ?_
    rw [rounds_succ]
    go_wp2
    go_quiet (fail)
    go_wp2
    rw [rounds_succ]
    go_wp2
    go_quiet (fail)
    go_wp2
    go_ret
    exact ⟨rfl, by repeat (first | exact Below.refl _ _ | refine Below.drew ?_ | refine below_draws ?_ _ | refine Below.alloc ?_ (by first | exact Nat.le_refl _ | (simp only [World.size_alloc]; omega)) _)⟩
  by_cases k3 : b1 ≤ a4
  rotate_left
  · have hvv : v = false := by rw [← HV.out]; simp only [boxMeets, decide_eq_false k3, Bool.and_false, Bool.false_and]
    subst hvv
    clear HV
    go_enter Tryz.func239, Tryz.ntmps239
    go_wp2
    refine wp_loop_rounds 4 ?_
    rw [rounds_succ]
    go_wp2
    go_quiet (fail)
    go_wp2
    rw [rounds_succ]
    go_wp2
    go_quiet (fail)
    go_wp2
    go_ret
    exact ⟨rfl, by repeat (first | exact Below.refl _ _ | refine Below.drew ?_ | refine below_draws ?_ _ | refine Below.alloc ?_ (by first | exact Nat.le_refl _ | (simp only [World.size_alloc]; omega)) _)⟩
  by_cases k4 : a2 ≤ b5
  rotate_left
  · have hvv : v = false := by rw [← HV.out]; simp only [boxMeets, decide_eq_false k4, Bool.and_false, Bool.false_and]
    subst hvv
    clear HV
    go_enter Tryz.func239, Tryz.ntmps239
    go_wp2
    refine wp_loop_rounds 4 ?_
    rw [rounds_succ]
    go_wp2
    go_quiet (fail)
    go_wp2
    rw [rounds_succ]
    go_wp2
    go_quiet (fail)
    go_wp2
    rw [rounds_succ]
    go_wp2
    go_quiet (fail)
    go_wp2
    go_ret
    exact ⟨rfl, by repeat (first | exact Below.refl _ _ | refine Below.drew ?_ | refine below_draws ?_ _ | refine Below.alloc ?_ (by first | exact Nat.le_refl _ | (simp only [World.size_alloc]; omega)) _)⟩
  by_cases k5 : b2 ≤ a5
  rotate_left
  · have hvv : v = false := by rw [← HV.out]; simp only [boxMeets, decide_eq_false k5, Bool.and_false]
    subst hvv
    clear HV
    go_enter Tryz.func239, Tryz.ntmps239
    go_wp2
    refine wp_loop_rounds 4 ?_
    rw [rounds_succ]
    go_wp2
    go_quiet (fail)
    go_wp2
    rw [rounds_succ]
    go_wp2
    go_quiet (fail)
    go_wp2
    rw [rounds_succ]
    go_wp2
    go_quiet (fail)
    go_wp2
    go_ret
    exact ⟨rfl, by repeat (first | exact Below.refl _ _ | refine Below.drew ?_ | refine below_draws ?_ _ | refine Below.alloc ?_ (by first | exact Nat.le_refl _ | (simp only [World.size_alloc]; omega)) _)⟩
  have hvv : v = true := by rw [← HV.out]; simp only [boxMeets, decide_eq_true k0, decide_eq_true k1, decide_eq_true k2, decide_eq_true k3, decide_eq_true k4, decide_eq_true k5, Bool.and_true]
  subst hvv
  clear HV
  go_enter Tryz.func239, Tryz.ntmps239
  go_wp2
  refine wp_loop_rounds 4 ?_
  rw [rounds_succ]
  go_wp2
  go_quiet (fail)
  go_wp2
  rw [rounds_succ]
  go_wp2
  go_quiet (fail)
  go_wp2
  rw [rounds_succ]
  go_wp2
  go_quiet (fail)
  go_wp2
  rw [rounds_succ]
  go_wp2
  go_ret
  exact ⟨rfl, by repeat (first | exact Below.refl _ _ | refine Below.drew ?_ | refine below_draws ?_ _ | refine Below.alloc ?_ (by first | exact Nat.le_refl _ | (simp only [World.size_alloc]; omega)) _)⟩

end Go.Proofs.YtdkaofmlgaofgaaGreat

/- The walks of impl's boxes, further: area, margin, distance. For boxes whose numbers are from -1000 to 1000 (what the functions above them have asked). -/
namespace Go.Proofs.YtdkaofmlgaofgaaGreat
open Go.RowKit

theorem wrap64_in (n : Int) (h1 : -9223372036854775808 ≤ n) (h2 : n ≤ 9223372036854775807) : wrap64 n = n := by simp only [wrap64]; omega
theorem mul_le {x y a b : Int} (hx : 0 ≤ x) (hy : 0 ≤ y) (hxa : x ≤ a) (hyb : y ≤ b) : 0 ≤ x * y ∧ x * y ≤ a * b :=
  ⟨Int.mul_nonneg hx hy, Int.mul_le_mul hxa hyb hy (Int.le_trans hx hxa)⟩




/-- How far a number is from a stretch. -/
def away (l h n : Int) : Int := max (max (l - n) (n - h)) 0

set_option maxHeartbeats 1600000 in
theorem distance_any (a0 a1 a2 a3 a4 a5 p0 p1 p2 : Int) (w : World) (h0 : -1000 ≤ a0 ∧ a0 ≤ 1000) (h1 : -1000 ≤ a1 ∧ a1 ≤ 1000) (h2 : -1000 ≤ a2 ∧ a2 ≤ 1000) (h3 : -1000 ≤ a3 ∧ a3 ≤ 1000) (h4 : -1000 ≤ a4 ∧ a4 ≤ 1000) (h5 : -1000 ≤ a5 ∧ a5 ≤ 1000)
    (k0 : -1000 ≤ p0 ∧ p0 ≤ 1000) (k1 : -1000 ≤ p1 ∧ p1 ≤ 1000) (k2 : -1000 ≤ p2 ∧ p2 ≤ 1000) :
    Calls Tryz.prog 237 #[.agg #[.int .i64 a0, .int .i64 a1, .int .i64 a2, .int .i64 a3, .int .i64 a4, .int .i64 a5], .agg #[.int .i64 p0, .int .i64 p1, .int .i64 p2]] w
      fun e w' => e = .returned (.int .i64 (away a0 a3 p0 + away a1 a4 p1 + away a2 a5 p2)) ∧ Below w.heap.size w w' := by
  have i0 : ∀ w, (Instr.index 242 (.agg #[.int .i64 p0, .int .i64 p1, .int .i64 p2]) (.int .i64 0)).run Tryz.prog w = .ok (.int .i64 p0) w := fun _ => by kernel_rfl
  have i1 : ∀ w, (Instr.index 242 (.agg #[.int .i64 p0, .int .i64 p1, .int .i64 p2]) (.int .i64 1)).run Tryz.prog w = .ok (.int .i64 p1) w := fun _ => by kernel_rfl
  have i2 : ∀ w, (Instr.index 242 (.agg #[.int .i64 p0, .int .i64 p1, .int .i64 p2]) (.int .i64 2)).run Tryz.prog w = .ok (.int .i64 p2) w := fun _ => by kernel_rfl
  obtain ⟨x0, y0⟩ := h0
  obtain ⟨x1, y1⟩ := h1
  obtain ⟨x2, y2⟩ := h2
  obtain ⟨x3, y3⟩ := h3
  obtain ⟨x4, y4⟩ := h4
  obtain ⟨x5, y5⟩ := h5
  obtain ⟨u0, v0⟩ := k0
  obtain ⟨u1, v1⟩ := k1
  obtain ⟨u2, v2⟩ := k2
  go_enter Tryz.func237, Tryz.ntmps237
  go_wp2
  refine wp_loop_rounds 4 ?_
  rw [rounds_succ]
  go_wp2
  go_region
  generalize g0 : (if (if a0 - p0 < p0 - a3 then p0 - a3 else a0 - p0) < 0 then 0 else if a0 - p0 < p0 - a3 then p0 - a3 else a0 - p0) = m0
  have E0 : Hid (m0 = away a0 a3 p0) := by show m0 = _; rw [← g0]; unfold away; omega
  have l0 : 0 ≤ m0 := by omega
  have r0 : m0 ≤ 2000 := by omega
  clear g0
  go_wp2
  rw [rounds_succ]
  go_wp2
  go_region
  generalize g1 : (if (if a1 - p1 < p1 - a4 then p1 - a4 else a1 - p1) < 0 then 0 else if a1 - p1 < p1 - a4 then p1 - a4 else a1 - p1) = m1
  have E1 : Hid (m1 = away a1 a4 p1) := by show m1 = _; rw [← g1]; unfold away; omega
  have l1 : 0 ≤ m1 := by omega
  have r1 : m1 ≤ 2000 := by omega
  clear g1
  try simp only [wrap64_in (m0 + m1) (by omega) (by omega)]
  go_wp2
  rw [rounds_succ]
  go_wp2
  go_region
  generalize g2 : (if (if a2 - p2 < p2 - a5 then p2 - a5 else a2 - p2) < 0 then 0 else if a2 - p2 < p2 - a5 then p2 - a5 else a2 - p2) = m2
  have E2 : Hid (m2 = away a2 a5 p2) := by show m2 = _; rw [← g2]; unfold away; omega
  have l2 : 0 ≤ m2 := by omega
  have r2 : m2 ≤ 2000 := by omega
  clear g2
  try simp only [wrap64_in (m0 + m1 + m2) (by omega) (by omega)]
  go_wp2
  rw [rounds_succ]
  go_wp2
  go_ret
  exact ⟨ret_i64 (by rw [← E0.out, ← E1.out, ← E2.out]), by repeat (first | exact Below.refl _ _ | refine Below.drew ?_ | refine Below.alloc ?_ (by first | exact Nat.le_refl _ | (simp only [World.size_alloc]; omega)) _)⟩

end Go.Proofs.YtdkaofmlgaofgaaGreat

/- The walks of impl.cornerFrom, impl.boxFrom, (corner).point, (box).rect, impl.dimsOf, impl.rectsFault: for points of two or three numbers. -/
namespace Go.Proofs.YtdkaofmlgaofgaaGreat
open Go.RowKit

theorem size_i64 : (Tryz.prog.info? 2).map (·.size) = some 1 := by kernel_rfl

theorem add_none (b o k : Nat) : (⟨b, o, none⟩ : Addr).add k = ⟨b, o + k, none⟩ := by unfold Addr.add; split <;> simp_all

/-- Where a slice's cells are, as copy asks it. -/
theorem Ints.source {w : World} {lo n : Nat} {A : Option Addr} {xs : List Int} (h : Ints w lo A n xs) (hp : 0 < n) :
    ∃ ad, A = some ad ∧ ∀ j v, (xs.map (Value.int .i64))[j]? = some v → w.cell? (ad.add j) = some v := by
  obtain ⟨b, o, e, _, _, h3⟩ := h.2 hp
  refine ⟨_, e, fun j v hv => ?_⟩
  rw [List.getElem?_map] at hv
  obtain ⟨x, hx, rfl⟩ := Option.map_eq_some_iff.1 hv
  rw [add_none]
  exact h3 j x hx

theorem Hid.lies {w : World} {g : Nat} {t : TypeId} {cs : Array Value} (h : Hid (w.heap[g]? = some (.cells cs t (0, 0)))) : Lies w g t cs := h

set_option maxHeartbeats 800000 in
theorem cornerFrom2 (lo c : Nat) (A : Option Addr) (x0 x1 : Int) (w : World) (hx : Ints w lo A 2 [x0, x1]) :
    Calls Tryz.prog 233 #[.slice A 2 c] w fun e w' => e = .returned (.agg #[.int .i64 x0, .int .i64 x1, .int .i64 0]) ∧ Below w.heap.size w w' := by
  have B0 : Hid (Below w.heap.size w ((w.alloc (.cells #[.int .i64 0, .int .i64 0, .int .i64 0] 242)).alloc (.cells #[.int .i64 0, .int .i64 0, .int .i64 0] 242))) := (below_alloc _ _).alloc (by simp) _
  have HX := Lib.hid (hx.kept B0.out)
  have L0 := Lib.hid ((Lies.new w 242 #[.int .i64 0, .int .i64 0, .int .i64 0]).alloc (.cells #[.int .i64 0, .int .i64 0, .int .i64 0] 242))
  have L1 := Lib.hid (Lies.new (w.alloc (.cells #[.int .i64 0, .int .i64 0, .int .i64 0] 242)) 242 #[.int .i64 0, .int .i64 0, .int .i64 0])
  simp only [World.size_alloc] at L1
  clear hx
  go_enter Tryz.func233, Tryz.ntmps233
  go_wp2_with (with_reducible refine wpList_copy_splice rfl (.tmp 4) (.tmp 5) 23 23 rfl 2 Tryz.underlying23 size_i64 _ _ _ _ _ _ rfl rfl (w.heap.size + 1) 0 [.int .i64 0, .int .i64 0, .int .i64 0] 242 ?q1 [.int .i64 x0, .int .i64 x1] ?q2 ?q3 ?q4 ?q5 (w.heap.size + 1) ((w.alloc (.cells #[.int .i64 0, .int .i64 0, .int .i64 0] 242)).alloc (.cells #[.int .i64 0, .int .i64 0, .int .i64 0] 242)) ?q6 ?q7 ?_)
  case q1 => exact L1.out
  case q2 => rfl
  case q3 => exact HX.out.source (by decide)
  case q4 => simp
  case q5 => intro v hv; simp at hv; rcases hv with rfl | rfl <;> rfl
  case q6 => exact Below.refl _ _
  case q7 => exact Nat.le_refl _
  intro w2 HG hb
  have L2 : Hid (Lies w2 (w.heap.size + 1) 242 #[.int .i64 x0, .int .i64 x1, .int .i64 0]) := HG
  replace L0 := Lib.hid (L0.out.kept hb (Nat.lt_succ_self _))
  have B2 := Lib.hid (B0.out.trans (hb.mono (Nat.le_succ _)))
  clear hb HG L1 B0 HX
  have d0 : w2.cell? ⟨w.heap.size + 1, 0, none⟩ = some (.int .i64 x0) := L2.out.cell 0
  have e0 : w2.cell? ⟨w.heap.size, 0, none⟩ = some (.int .i64 0) := L0.out.cell 0
  have f0 : w2.frozen? ⟨w.heap.size, 0, none⟩ = false := L0.out.thawed 0
  have d1 : w2.cell? ⟨w.heap.size + 1, 1, none⟩ = some (.int .i64 x1) := L2.out.cell 1
  have e1 : w2.cell? ⟨w.heap.size, 1, none⟩ = some (.int .i64 0) := L0.out.cell 1
  have f1 : w2.frozen? ⟨w.heap.size, 1, none⟩ = false := L0.out.thawed 1
  have d2 : w2.cell? ⟨w.heap.size + 1, 2, none⟩ = some (.int .i64 0) := L2.out.cell 2
  have e2 : w2.cell? ⟨w.heap.size, 2, none⟩ = some (.int .i64 0) := L0.out.cell 2
  have f2 : w2.frozen? ⟨w.heap.size, 2, none⟩ = false := L0.out.thawed 2
  go_wp2
  refine bodyPost_ret (v := .agg #[.int .i64 x0, .int .i64 x1, .int .i64 0]) (by simp [results, Tryz.results233, go_sem, e0, e1, e2]) rfl ⟨rfl, ?_⟩
  exact by repeat (first | exact B2.out | refine Below.setCell ?_ (by exact Nat.le_refl _) _)

set_option maxHeartbeats 800000 in
theorem cornerFrom3 (lo c : Nat) (A : Option Addr) (x0 x1 x2 : Int) (w : World) (hx : Ints w lo A 3 [x0, x1, x2]) :
    Calls Tryz.prog 233 #[.slice A 3 c] w fun e w' => e = .returned (.agg #[.int .i64 x0, .int .i64 x1, .int .i64 x2]) ∧ Below w.heap.size w w' := by
  have B0 : Hid (Below w.heap.size w ((w.alloc (.cells #[.int .i64 0, .int .i64 0, .int .i64 0] 242)).alloc (.cells #[.int .i64 0, .int .i64 0, .int .i64 0] 242))) := (below_alloc _ _).alloc (by simp) _
  have HX := Lib.hid (hx.kept B0.out)
  have L0 := Lib.hid ((Lies.new w 242 #[.int .i64 0, .int .i64 0, .int .i64 0]).alloc (.cells #[.int .i64 0, .int .i64 0, .int .i64 0] 242))
  have L1 := Lib.hid (Lies.new (w.alloc (.cells #[.int .i64 0, .int .i64 0, .int .i64 0] 242)) 242 #[.int .i64 0, .int .i64 0, .int .i64 0])
  simp only [World.size_alloc] at L1
  clear hx
  go_enter Tryz.func233, Tryz.ntmps233
  go_wp2_with (with_reducible refine wpList_copy_splice rfl (.tmp 4) (.tmp 5) 23 23 rfl 2 Tryz.underlying23 size_i64 _ _ _ _ _ _ rfl rfl (w.heap.size + 1) 0 [.int .i64 0, .int .i64 0, .int .i64 0] 242 ?q1 [.int .i64 x0, .int .i64 x1, .int .i64 x2] ?q2 ?q3 ?q4 ?q5 (w.heap.size + 1) ((w.alloc (.cells #[.int .i64 0, .int .i64 0, .int .i64 0] 242)).alloc (.cells #[.int .i64 0, .int .i64 0, .int .i64 0] 242)) ?q6 ?q7 ?_)
  case q1 => exact L1.out
  case q2 => rfl
  case q3 => exact HX.out.source (by decide)
  case q4 => simp
  case q5 => intro v hv; simp at hv; rcases hv with rfl | rfl | rfl <;> rfl
  case q6 => exact Below.refl _ _
  case q7 => exact Nat.le_refl _
  intro w2 HG hb
  have L2 : Hid (Lies w2 (w.heap.size + 1) 242 #[.int .i64 x0, .int .i64 x1, .int .i64 x2]) := HG
  replace L0 := Lib.hid (L0.out.kept hb (Nat.lt_succ_self _))
  have B2 := Lib.hid (B0.out.trans (hb.mono (Nat.le_succ _)))
  clear hb HG L1 B0 HX
  have d0 : w2.cell? ⟨w.heap.size + 1, 0, none⟩ = some (.int .i64 x0) := L2.out.cell 0
  have e0 : w2.cell? ⟨w.heap.size, 0, none⟩ = some (.int .i64 0) := L0.out.cell 0
  have f0 : w2.frozen? ⟨w.heap.size, 0, none⟩ = false := L0.out.thawed 0
  have d1 : w2.cell? ⟨w.heap.size + 1, 1, none⟩ = some (.int .i64 x1) := L2.out.cell 1
  have e1 : w2.cell? ⟨w.heap.size, 1, none⟩ = some (.int .i64 0) := L0.out.cell 1
  have f1 : w2.frozen? ⟨w.heap.size, 1, none⟩ = false := L0.out.thawed 1
  have d2 : w2.cell? ⟨w.heap.size + 1, 2, none⟩ = some (.int .i64 x2) := L2.out.cell 2
  have e2 : w2.cell? ⟨w.heap.size, 2, none⟩ = some (.int .i64 0) := L0.out.cell 2
  have f2 : w2.frozen? ⟨w.heap.size, 2, none⟩ = false := L0.out.thawed 2
  go_wp2
  refine bodyPost_ret (v := .agg #[.int .i64 x0, .int .i64 x1, .int .i64 x2]) (by simp [results, Tryz.results233, go_sem, e0, e1, e2]) rfl ⟨rfl, ?_⟩
  exact by repeat (first | exact B2.out | refine Below.setCell ?_ (by exact Nat.le_refl _) _)

/-- The numbers of a point of two or three dimensions, as a corner holds them. -/
def Pad (xs : List Int) (p0 p1 p2 : Int) : Prop := (xs = [p0, p1] ∧ p2 = 0) ∨ xs = [p0, p1, p2]

theorem pad_of {xs : List Int} (h : xs.length = 2 ∨ xs.length = 3) : ∃ p0 p1 p2, Pad xs p0 p1 p2 := by
  match xs, h with
  | [a, b], _ => exact ⟨a, b, 0, .inl ⟨rfl, rfl⟩⟩
  | [a, b, c], _ => exact ⟨a, b, c, .inr rfl⟩
  | [], h => simp at h
  | [_], h => simp at h
  | _ :: _ :: _ :: _ :: _, h => simp at h

theorem cornerFrom_any (lo n c : Nat) (A : Option Addr) (xs : List Int) (p0 p1 p2 : Int) (w : World) (hp : Pad xs p0 p1 p2) (hx : Ints w lo A n xs) :
    Calls Tryz.prog 233 #[.slice A n c] w fun e w' => e = .returned (.agg #[.int .i64 p0, .int .i64 p1, .int .i64 p2]) ∧ Below w.heap.size w w' := by
  rcases hp with ⟨rfl, rfl⟩ | rfl
  · obtain rfl : 2 = n := hx.1
    exact cornerFrom2 lo c A p0 p1 w hx
  · obtain rfl : 3 = n := hx.1
    exact cornerFrom3 lo c A p0 p1 p2 w hx


set_option maxHeartbeats 800000 in
theorem boxFrom_any (lo n c lo' n' c' : Nat) (A A' : Option Addr) (xs ys : List Int) (p0 p1 p2 q0 q1 q2 : Int) (w : World) (hp : Pad xs p0 p1 p2) (hq : Pad ys q0 q1 q2) (hx : Ints w lo A n xs) (hy : Ints w lo' A' n' ys) :
    Calls Tryz.prog 238 #[.agg #[.slice A n c, .slice A' n' c']] w fun e w' => e = .returned (.agg #[.int .i64 p0, .int .i64 p1, .int .i64 p2, .int .i64 q0, .int .i64 q1, .int .i64 q2]) ∧ Below w.heap.size w w' := by
  have B0 : Hid (Below w.heap.size w ((w.alloc (.cells #[.slice A n c, .slice A' n' c'] 102)).alloc (.cells #[.int .i64 0, .int .i64 0, .int .i64 0, .int .i64 0, .int .i64 0, .int .i64 0] 244))) := (below_alloc _ _).alloc (by simp) _
  have HX := Lib.hid hx
  have HY := Lib.hid hy
  have HP := Lib.hid hp
  have HQ := Lib.hid hq
  have L0 := Lib.hid ((Lies.new w 102 #[.slice A n c, .slice A' n' c']).alloc (.cells #[.int .i64 0, .int .i64 0, .int .i64 0, .int .i64 0, .int .i64 0, .int .i64 0] 244))
  have L1 := Lib.hid (Lies.new (w.alloc (.cells #[.slice A n c, .slice A' n' c'] 102)) 244 #[.int .i64 0, .int .i64 0, .int .i64 0, .int .i64 0, .int .i64 0, .int .i64 0])
  simp only [World.size_alloc] at L1
  clear hx hy hp hq
  go_enter Tryz.func238, Tryz.ntmps238
  go_wp2
  generalize hW : ((w.alloc (.cells #[.slice A n c, .slice A' n' c'] 102)).alloc (.cells #[.int .i64 0, .int .i64 0, .int .i64 0, .int .i64 0, .int .i64 0, .int .i64 0] 244)) = W0 at *
  clear hW
  have c0 : W0.cell? ⟨w.heap.size, 0, none⟩ = some (.slice A n c) := L0.out.cell 0
  have c1 : W0.cell? ⟨w.heap.size, 1, none⟩ = some (.slice A' n' c') := L0.out.cell 1
  go_region_held3 (fun w' => w'.cell? ⟨w.heap.size, 0, none⟩ = some (.slice A n c) ∧ w'.cell? ⟨w.heap.size, 1, none⟩ = some (.slice A' n' c'))
    (first | (simp [go_sem, c0, c1]; done) | with_reducible exact K1 | with_reducible exact K2 | (simp [go_sem, K2.1, K2.2]; done))
    (first
      | (go_at_call_of 233 (Value.slice A n c); go_must (refine (cornerFrom_any _ _ _ _ _ _ _ _ _ HP.out (HX.out.kept (by first | exact B0.out | exact B0.out.drew))).mono ?_)
         rintro e W1 ⟨rfl, b1d⟩
         have b1 := below_drawn b1d
         have K1 : W1.cell? ⟨w.heap.size, 0, none⟩ = some (.slice A n c) ∧ W1.cell? ⟨w.heap.size, 1, none⟩ = some (.slice A' n' c') := ⟨(L0.out.kept b1 L0.out.inside).cell 0, (L0.out.kept b1 L0.out.inside).cell 1⟩
         clear b1d)
      | (go_at_call_of 233 (Value.slice A' n' c'); refine (cornerFrom_any _ _ _ _ _ _ _ _ _ HQ.out (HY.out.kept (B0.out.trans (b1.mono (B0.out.size))))).mono ?_
         rintro e W2 ⟨rfl, b2⟩
         have K2 : W2.cell? ⟨w.heap.size, 0, none⟩ = some (.slice A n c) ∧ W2.cell? ⟨w.heap.size, 1, none⟩ = some (.slice A' n' c') := ⟨((L0.out.kept b1 L0.out.inside).kept b2 (L0.out.kept b1 L0.out.inside).inside).cell 0, ((L0.out.kept b1 L0.out.inside).kept b2 (L0.out.kept b1 L0.out.inside).inside).cell 1⟩
         have z0 : W2.cell? ⟨w.heap.size + 1, 0, none⟩ = some (.int .i64 0) := ((L1.out.kept b1 L1.out.inside).kept b2 (L1.out.kept b1 L1.out.inside).inside).cell 0
         have y0 : W2.frozen? ⟨w.heap.size + 1, 0, none⟩ = false := ((L1.out.kept b1 L1.out.inside).kept b2 (L1.out.kept b1 L1.out.inside).inside).thawed 0
         have z1 : W2.cell? ⟨w.heap.size + 1, 1, none⟩ = some (.int .i64 0) := ((L1.out.kept b1 L1.out.inside).kept b2 (L1.out.kept b1 L1.out.inside).inside).cell 1
         have y1 : W2.frozen? ⟨w.heap.size + 1, 1, none⟩ = false := ((L1.out.kept b1 L1.out.inside).kept b2 (L1.out.kept b1 L1.out.inside).inside).thawed 1
         have z2 : W2.cell? ⟨w.heap.size + 1, 2, none⟩ = some (.int .i64 0) := ((L1.out.kept b1 L1.out.inside).kept b2 (L1.out.kept b1 L1.out.inside).inside).cell 2
         have y2 : W2.frozen? ⟨w.heap.size + 1, 2, none⟩ = false := ((L1.out.kept b1 L1.out.inside).kept b2 (L1.out.kept b1 L1.out.inside).inside).thawed 2
         have z3 : W2.cell? ⟨w.heap.size + 1, 3, none⟩ = some (.int .i64 0) := ((L1.out.kept b1 L1.out.inside).kept b2 (L1.out.kept b1 L1.out.inside).inside).cell 3
         have y3 : W2.frozen? ⟨w.heap.size + 1, 3, none⟩ = false := ((L1.out.kept b1 L1.out.inside).kept b2 (L1.out.kept b1 L1.out.inside).inside).thawed 3
         have z4 : W2.cell? ⟨w.heap.size + 1, 4, none⟩ = some (.int .i64 0) := ((L1.out.kept b1 L1.out.inside).kept b2 (L1.out.kept b1 L1.out.inside).inside).cell 4
         have y4 : W2.frozen? ⟨w.heap.size + 1, 4, none⟩ = false := ((L1.out.kept b1 L1.out.inside).kept b2 (L1.out.kept b1 L1.out.inside).inside).thawed 4
         have z5 : W2.cell? ⟨w.heap.size + 1, 5, none⟩ = some (.int .i64 0) := ((L1.out.kept b1 L1.out.inside).kept b2 (L1.out.kept b1 L1.out.inside).inside).cell 5
         have y5 : W2.frozen? ⟨w.heap.size + 1, 5, none⟩ = false := ((L1.out.kept b1 L1.out.inside).kept b2 (L1.out.kept b1 L1.out.inside).inside).thawed 5))
  go_wp2
  refine bodyPost_ret (v := .agg #[.int .i64 p0, .int .i64 p1, .int .i64 p2, .int .i64 q0, .int .i64 q1, .int .i64 q2]) (by simp [results, Tryz.results238, go_sem, z0, z1, z2, z3, z4, z5]) rfl ⟨rfl, ?_⟩
  have BE := (B0.out.trans (b1.mono B0.out.size)).trans (b2.mono (Nat.le_trans B0.out.size b1.size))
  repeat (with_reducible refine Below.setCell ?_ (by exact Nat.le_succ _) _)
  exact BE

/-- A row that a copy has filled. -/
theorem own_of_lies {w : World} {g n : Nat} {xs : List Int} {cs : Array Value} (hl : xs.length = n) (h : Lies w g 2 cs) (hc : cs = (xs.map (Value.int .i64)).toArray) : Own w g n xs := by
  refine ⟨hl, cs, h, ?_, fun i hi => ?_⟩
  · rw [hc]; simp [hl]
  · rw [hc, ← hl] at *
    simp [hi]

set_option maxHeartbeats 800000 in
theorem point2 (p0 p1 p2 : Int) (w : World) :
    Calls Tryz.prog 250 #[.agg #[.int .i64 p0, .int .i64 p1, .int .i64 p2], .int .i64 2] w fun e w' => e = .returned (.slice (some ⟨w.heap.size + 1, 0, none⟩) 2 2) ∧ Own w' (w.heap.size + 1) 2 [p0, p1] ∧ Below w.heap.size w w' := by
  have hmk : ∀ W : World, (Instr.makeSlice 23 (.int .i64 2) (.int .i64 2)).run Tryz.prog W = .ok (.slice (some ⟨W.heap.size, 0, none⟩) 2 2) (W.alloc (.cells #[.int .i64 0, .int .i64 0] 2)) := fun _ => by kernel_rfl
  have B0 : Hid (Below w.heap.size w ((w.alloc (.cells #[.int .i64 p0, .int .i64 p1, .int .i64 p2] 242)).alloc (.cells #[.int .i64 0, .int .i64 0] 2))) := (below_alloc _ _).alloc (by simp) _
  have L0 := Lib.hid ((Lies.new w 242 #[.int .i64 p0, .int .i64 p1, .int .i64 p2]).alloc (.cells #[.int .i64 0, .int .i64 0] 2))
  have L1 := Lib.hid (Lies.new (w.alloc (.cells #[.int .i64 p0, .int .i64 p1, .int .i64 p2] 242)) 2 #[.int .i64 0, .int .i64 0])
  simp only [World.size_alloc] at L1
  go_enter Tryz.func250, Tryz.ntmps250
  go_wp2_with (with_reducible refine wpList_copy_splice rfl (.tmp 8) (.tmp 9) 23 23 rfl 2 Tryz.underlying23 size_i64 _ _ _ _ _ _ rfl rfl (w.heap.size + 1) 0 [.int .i64 0, .int .i64 0] 2 ?q1 [.int .i64 p0, .int .i64 p1] ?q2 ?q3 ?q4 ?q5 (w.heap.size + 1) ((w.alloc (.cells #[.int .i64 p0, .int .i64 p1, .int .i64 p2] 242)).alloc (.cells #[.int .i64 0, .int .i64 0] 2)) ?q6 ?q7 ?_)
  case q1 => exact L1.out
  case q2 => rfl
  case q3 =>
    intro j v hj
    match j, hj with
    | 0, hj => simpa using hj
    | 1, hj => simpa using hj
    | k + 2, hj => simp at hj
  case q4 => simp
  case q5 => intro v hv; simp at hv; rcases hv with rfl | rfl <;> rfl
  case q6 => exact Below.refl _ _
  case q7 => exact Nat.le_refl _
  intro w2 HG hb
  have L2 : Hid (Lies w2 (w.heap.size + 1) 2 #[.int .i64 p0, .int .i64 p1]) := HG
  have B2 := Lib.hid (B0.out.trans (hb.mono (Nat.le_succ _)))
  clear hb HG L1 B0 hmk
  go_wp2
  go_ret
  exact ⟨rfl, own_of_lies rfl L2.out rfl, B2.out⟩

set_option maxHeartbeats 800000 in
theorem point3 (p0 p1 p2 : Int) (w : World) :
    Calls Tryz.prog 250 #[.agg #[.int .i64 p0, .int .i64 p1, .int .i64 p2], .int .i64 3] w fun e w' => e = .returned (.slice (some ⟨w.heap.size + 1, 0, none⟩) 3 3) ∧ Own w' (w.heap.size + 1) 3 [p0, p1, p2] ∧ Below w.heap.size w w' := by
  have hmk : ∀ W : World, (Instr.makeSlice 23 (.int .i64 3) (.int .i64 3)).run Tryz.prog W = .ok (.slice (some ⟨W.heap.size, 0, none⟩) 3 3) (W.alloc (.cells #[.int .i64 0, .int .i64 0, .int .i64 0] 2)) := fun _ => by kernel_rfl
  have B0 : Hid (Below w.heap.size w ((w.alloc (.cells #[.int .i64 p0, .int .i64 p1, .int .i64 p2] 242)).alloc (.cells #[.int .i64 0, .int .i64 0, .int .i64 0] 2))) := (below_alloc _ _).alloc (by simp) _
  have L0 := Lib.hid ((Lies.new w 242 #[.int .i64 p0, .int .i64 p1, .int .i64 p2]).alloc (.cells #[.int .i64 0, .int .i64 0, .int .i64 0] 2))
  have L1 := Lib.hid (Lies.new (w.alloc (.cells #[.int .i64 p0, .int .i64 p1, .int .i64 p2] 242)) 2 #[.int .i64 0, .int .i64 0, .int .i64 0])
  simp only [World.size_alloc] at L1
  go_enter Tryz.func250, Tryz.ntmps250
  go_wp2_with (with_reducible refine wpList_copy_splice rfl (.tmp 8) (.tmp 9) 23 23 rfl 2 Tryz.underlying23 size_i64 _ _ _ _ _ _ rfl rfl (w.heap.size + 1) 0 [.int .i64 0, .int .i64 0, .int .i64 0] 2 ?q1 [.int .i64 p0, .int .i64 p1, .int .i64 p2] ?q2 ?q3 ?q4 ?q5 (w.heap.size + 1) ((w.alloc (.cells #[.int .i64 p0, .int .i64 p1, .int .i64 p2] 242)).alloc (.cells #[.int .i64 0, .int .i64 0, .int .i64 0] 2)) ?q6 ?q7 ?_)
  case q1 => exact L1.out
  case q2 => rfl
  case q4 => simp
  case q5 => intro v hv; simp at hv; rcases hv with rfl | rfl | rfl <;> rfl
  case q6 => exact Below.refl _ _
  case q7 => exact Nat.le_refl _
  intro w2 HG hb
  have L2 : Hid (Lies w2 (w.heap.size + 1) 2 #[.int .i64 p0, .int .i64 p1, .int .i64 p2]) := HG
  have B2 := Lib.hid (B0.out.trans (hb.mono (Nat.le_succ _)))
  clear hb HG L1 B0 hmk
  go_wp2
  go_ret
  exact ⟨rfl, own_of_lies rfl L2.out rfl, B2.out⟩

theorem point_any (p0 p1 p2 d : Int) (n : Nat) (xs : List Int) (w : World) (hp : Pad xs p0 p1 p2) (hn : xs.length = n) (hd : d = n) :
    Calls Tryz.prog 250 #[.agg #[.int .i64 p0, .int .i64 p1, .int .i64 p2], .int .i64 d] w fun e w' => ∃ g, e = .returned (.slice (some ⟨g, 0, none⟩) n n) ∧ w.heap.size ≤ g ∧ Own w' g n xs ∧ Below w.heap.size w w' := by
  rcases hp with ⟨rfl, rfl⟩ | rfl
  · obtain rfl : 2 = n := hn
    subst hd
    exact (point2 p0 p1 0 w).mono fun _ _ h => ⟨_, h.1, Nat.le_succ _, h.2⟩
  · obtain rfl : 3 = n := hn
    subst hd
    exact (point3 p0 p1 p2 w).mono fun _ _ h => ⟨_, h.1, Nat.le_succ _, h.2⟩

end Go.Proofs.YtdkaofmlgaofgaaGreat

/- The walks of (box).rect and impl.rectsFault. -/
namespace Go.Proofs.YtdkaofmlgaofgaaGreat
open Go.RowKit

set_option maxHeartbeats 1600000 in
theorem rect_any (p0 p1 p2 q0 q1 q2 d : Int) (n : Nat) (xs ys : List Int) (w : World) (hp : Pad xs p0 p1 p2) (hq : Pad ys q0 q1 q2) (hn : xs.length = n) (hm : ys.length = n) (hd : d = n) :
    Calls Tryz.prog 224 #[.agg #[.int .i64 p0, .int .i64 p1, .int .i64 p2, .int .i64 q0, .int .i64 q1, .int .i64 q2], .int .i64 d] w fun e w' => ∃ g g', e = .returned (.agg #[.slice (some ⟨g, 0, none⟩) n n, .slice (some ⟨g', 0, none⟩) n n]) ∧
      Own w' g n xs ∧ Own w' g' n ys ∧ w.heap.size ≤ g ∧ g < g' ∧ Below w.heap.size w w' := by
  have B0 : Hid (Below w.heap.size w ((w.alloc (.cells #[.int .i64 p0, .int .i64 p1, .int .i64 p2, .int .i64 q0, .int .i64 q1, .int .i64 q2] 244)).alloc (.cells #[.slice none 0 0, .slice none 0 0] 102))) := (below_alloc _ _).alloc (by simp) _
  have HP := Lib.hid hp
  have HQ := Lib.hid hq
  have HN := Lib.hid hn
  have HM := Lib.hid hm
  have HD := Lib.hid hd
  have L0 := Lib.hid ((Lies.new w 244 #[.int .i64 p0, .int .i64 p1, .int .i64 p2, .int .i64 q0, .int .i64 q1, .int .i64 q2]).alloc (.cells #[.slice none 0 0, .slice none 0 0] 102))
  have L1 := Lib.hid (Lies.new (w.alloc (.cells #[.int .i64 p0, .int .i64 p1, .int .i64 p2, .int .i64 q0, .int .i64 q1, .int .i64 q2] 244)) 102 #[.slice none 0 0, .slice none 0 0])
  simp only [World.size_alloc] at L1
  clear hp hq hn hm hd
  go_enter Tryz.func224, Tryz.ntmps224
  go_wp2
  generalize hW : ((w.alloc (.cells #[.int .i64 p0, .int .i64 p1, .int .i64 p2, .int .i64 q0, .int .i64 q1, .int .i64 q2] 244)).alloc (.cells #[.slice none 0 0, .slice none 0 0] 102)) = W0 at *
  clear hW
  have hs0 : w.heap.size + 1 < W0.heap.size := L1.out.inside
  have c0 : W0.cell? ⟨w.heap.size, 0, none⟩ = some (.int .i64 p0) ∧ W0.cell? ⟨w.heap.size, 1, none⟩ = some (.int .i64 p1) ∧ W0.cell? ⟨w.heap.size, 2, none⟩ = some (.int .i64 p2) ∧ W0.cell? ⟨w.heap.size, 3, none⟩ = some (.int .i64 q0) ∧ W0.cell? ⟨w.heap.size, 4, none⟩ = some (.int .i64 q1) ∧ W0.cell? ⟨w.heap.size, 5, none⟩ = some (.int .i64 q2) := ⟨(L0.out).cell 0, (L0.out).cell 1, (L0.out).cell 2, (L0.out).cell 3, (L0.out).cell 4, (L0.out).cell 5⟩
  go_region_held3 (fun w' => w'.cell? ⟨w.heap.size, 0, none⟩ = some (.int .i64 p0) ∧ w'.cell? ⟨w.heap.size, 1, none⟩ = some (.int .i64 p1) ∧ w'.cell? ⟨w.heap.size, 2, none⟩ = some (.int .i64 p2) ∧ w'.cell? ⟨w.heap.size, 3, none⟩ = some (.int .i64 q0) ∧ w'.cell? ⟨w.heap.size, 4, none⟩ = some (.int .i64 q1) ∧ w'.cell? ⟨w.heap.size, 5, none⟩ = some (.int .i64 q2))
    (first | (simp [go_sem, c0]; done) | with_reducible exact K1 | with_reducible exact K2 | (simp [go_sem, K2]; done))
    (first
      | (go_at_call_of 250 (Value.agg #[.int .i64 p0, .int .i64 p1, .int .i64 p2]); refine (point_any _ _ _ _ _ _ _ HP.out HN.out HD.out).mono ?_
         rintro e W1 ⟨g, rfl, hg, o1, b1d⟩
         have b1 := below_drawn b1d
         have hg1 : W0.heap.size ≤ g := hg
         have O1 := Lib.hid o1
         have K1 : W1.cell? ⟨w.heap.size, 0, none⟩ = some (.int .i64 p0) ∧ W1.cell? ⟨w.heap.size, 1, none⟩ = some (.int .i64 p1) ∧ W1.cell? ⟨w.heap.size, 2, none⟩ = some (.int .i64 p2) ∧ W1.cell? ⟨w.heap.size, 3, none⟩ = some (.int .i64 q0) ∧ W1.cell? ⟨w.heap.size, 4, none⟩ = some (.int .i64 q1) ∧ W1.cell? ⟨w.heap.size, 5, none⟩ = some (.int .i64 q2) := ⟨(L0.out.kept b1 L0.out.inside).cell 0, (L0.out.kept b1 L0.out.inside).cell 1, (L0.out.kept b1 L0.out.inside).cell 2, (L0.out.kept b1 L0.out.inside).cell 3, (L0.out.kept b1 L0.out.inside).cell 4, (L0.out.kept b1 L0.out.inside).cell 5⟩
         clear b1d hg o1)
      | (go_at_call_of 250 (Value.agg #[.int .i64 q0, .int .i64 q1, .int .i64 q2]); refine (point_any _ _ _ _ _ _ _ HQ.out HM.out HD.out).mono ?_
         rintro e W2 ⟨g', rfl, hg2, o2, b2⟩
         have O2 := Lib.hid o2
         have K2 : W2.cell? ⟨w.heap.size, 0, none⟩ = some (.int .i64 p0) ∧ W2.cell? ⟨w.heap.size, 1, none⟩ = some (.int .i64 p1) ∧ W2.cell? ⟨w.heap.size, 2, none⟩ = some (.int .i64 p2) ∧ W2.cell? ⟨w.heap.size, 3, none⟩ = some (.int .i64 q0) ∧ W2.cell? ⟨w.heap.size, 4, none⟩ = some (.int .i64 q1) ∧ W2.cell? ⟨w.heap.size, 5, none⟩ = some (.int .i64 q2) := ⟨((L0.out.kept b1 L0.out.inside).kept b2 (L0.out.kept b1 L0.out.inside).inside).cell 0, ((L0.out.kept b1 L0.out.inside).kept b2 (L0.out.kept b1 L0.out.inside).inside).cell 1, ((L0.out.kept b1 L0.out.inside).kept b2 (L0.out.kept b1 L0.out.inside).inside).cell 2, ((L0.out.kept b1 L0.out.inside).kept b2 (L0.out.kept b1 L0.out.inside).inside).cell 3, ((L0.out.kept b1 L0.out.inside).kept b2 (L0.out.kept b1 L0.out.inside).inside).cell 4, ((L0.out.kept b1 L0.out.inside).kept b2 (L0.out.kept b1 L0.out.inside).inside).cell 5⟩
         have z0 : W2.cell? ⟨w.heap.size + 1, 0, none⟩ = some (.slice none 0 0) := ((L1.out.kept b1 L1.out.inside).kept b2 (L1.out.kept b1 L1.out.inside).inside).cell 0
         have z1 : W2.cell? ⟨w.heap.size + 1, 1, none⟩ = some (.slice none 0 0) := ((L1.out.kept b1 L1.out.inside).kept b2 (L1.out.kept b1 L1.out.inside).inside).cell 1
         have y0 : W2.frozen? ⟨w.heap.size + 1, 0, none⟩ = false := ((L1.out.kept b1 L1.out.inside).kept b2 (L1.out.kept b1 L1.out.inside).inside).thawed 0
         have y1 : W2.frozen? ⟨w.heap.size + 1, 1, none⟩ = false := ((L1.out.kept b1 L1.out.inside).kept b2 (L1.out.kept b1 L1.out.inside).inside).thawed 1
         clear o2))
  go_wp2
  have hgi : g < W1.heap.size := O1.out.inside
  refine bodyPost_ret (v := .agg #[.slice (some ⟨g, 0, none⟩) n n, .slice (some ⟨g', 0, none⟩) n n]) (by simp [results, Tryz.results224, go_sem, z0, z1]) rfl ⟨g, g', rfl, ?_, ?_, by omega, by omega, ?_⟩
  · exact ((O1.out.kept b2).far (by show g ≠ w.heap.size + 1; omega) _).far (by show g ≠ w.heap.size + 1; omega) _
  · exact (O2.out.far (by show g' ≠ w.heap.size + 1; omega) _).far (by show g' ≠ w.heap.size + 1; omega) _
  · have BE := (B0.out.trans (b1.mono B0.out.size)).trans (b2.mono (Nat.le_trans B0.out.size b1.size))
    repeat (with_reducible refine Below.setCell ?_ (by exact Nat.le_succ _) _)
    exact BE

/-- What is wrong with two boxes. -/
def rf2 (xs ys us vs : List Int) : Int := if rf xs ys xs.length ≠ 0 then rf xs ys xs.length else rf us vs xs.length


end Go.Proofs.YtdkaofmlgaofgaaGreat
