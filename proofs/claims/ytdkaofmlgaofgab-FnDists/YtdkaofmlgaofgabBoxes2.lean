/- The walks of impl's boxes, further: area, margin, distance. For boxes whose numbers are from -1000 to 1000 (what the functions above them have asked). -/
import Derived.Test.YtdkaofmlgaofgabBoxes
import Derived.IntWalk
namespace Go.Proofs.Ytdkaofmlgaofgab
open Go.RowKit

theorem wrap64_in (n : Int) (h1 : -9223372036854775808 ≤ n) (h2 : n ≤ 9223372036854775807) : wrap64 n = n := by simp only [wrap64]; omega
theorem mul_le {x y a b : Int} (hx : 0 ≤ x) (hy : 0 ≤ y) (hxa : x ≤ a) (hyb : y ≤ b) : 0 ≤ x * y ∧ x * y ≤ a * b :=
  ⟨Int.mul_nonneg hx hy, Int.mul_le_mul hxa hyb hy (Int.le_trans hx hxa)⟩

set_option maxHeartbeats 1600000 in
theorem area2_any (a0 a1 a2 a3 a4 a5 : Int) (w : World) (h0 : 0 ≤ a3 - a0) (h0' : a3 - a0 ≤ 2000) (h1 : 0 ≤ a4 - a1) (h1' : a4 - a1 ≤ 2000) :
    Calls Try.prog 130 #[.agg #[.int .i64 a0, .int .i64 a1, .int .i64 a2, .int .i64 a3, .int .i64 a4, .int .i64 a5], .int .i64 2] w fun e w' => e = .returned (.int .i64 ((a3 - a0) * (a4 - a1))) ∧ Below w.heap.size w w' := by
  have p2 := mul_le h0 h1 h0' h1'
  have hw := wrap64_in ((a3 - a0) * (a4 - a1)) (by omega) (by omega)
  clear p2
  go_enter Try.func130, Try.ntmps130
  go_wp2
  refine wp_loop_rounds 3 ?_
  rw [rounds_succ]
  go_wp2
  go_quiet (fail)
  go_wp2
  rw [rounds_succ]
  go_wp2
  go_quiet (fail)
  go_wp2
  rw [rounds_succ]
  go_wp2
  go_ret
  exact ⟨ret_i64 (by first | rfl | exact hw), by repeat (first | exact Below.refl _ _ | refine below_draws ?_ _ | refine Below.alloc ?_ (Nat.le_refl _) _)⟩

set_option maxHeartbeats 1600000 in
theorem area3_any (a0 a1 a2 a3 a4 a5 : Int) (w : World) (h0 : 0 ≤ a3 - a0) (h0' : a3 - a0 ≤ 2000) (h1 : 0 ≤ a4 - a1) (h1' : a4 - a1 ≤ 2000) (h2 : 0 ≤ a5 - a2) (h2' : a5 - a2 ≤ 2000) :
    Calls Try.prog 130 #[.agg #[.int .i64 a0, .int .i64 a1, .int .i64 a2, .int .i64 a3, .int .i64 a4, .int .i64 a5], .int .i64 3] w fun e w' => e = .returned (.int .i64 ((a3 - a0) * (a4 - a1) * (a5 - a2))) ∧ Below w.heap.size w w' := by
  have p2 := mul_le h0 h1 h0' h1'
  have p3 := mul_le p2.1 h2 p2.2 h2'
  have hw := wrap64_in ((a3 - a0) * (a4 - a1)) (by omega) (by omega)
  have hw3 := wrap64_in ((a3 - a0) * (a4 - a1) * (a5 - a2)) (by omega) (by omega)
  clear p2 p3
  go_enter Try.func130, Try.ntmps130
  go_wp2
  refine wp_loop_rounds 4 ?_
  rw [rounds_succ]
  go_wp2
  go_quiet (fail)
  go_wp2
  rw [rounds_succ]
  go_wp2
  go_quiet (fail)
  go_wp2
  rw [rounds_succ]
  go_wp2
  go_quiet (fail)
  go_wp2
  rw [rounds_succ]
  go_wp2
  go_ret
  exact ⟨ret_i64 (by first | rfl | exact hw3), by repeat (first | exact Below.refl _ _ | refine below_draws ?_ _ | refine Below.alloc ?_ (Nat.le_refl _) _)⟩

set_option maxHeartbeats 1600000 in
theorem margin_any (a0 a1 a2 a3 a4 a5 : Int) (w : World) (h0 : 0 ≤ a3 - a0) (h0' : a3 - a0 ≤ 2000) (h1 : 0 ≤ a4 - a1) (h1' : a4 - a1 ≤ 2000) (h2 : 0 ≤ a5 - a2) (h2' : a5 - a2 ≤ 2000) :
    Calls Try.prog 132 #[.agg #[.int .i64 a0, .int .i64 a1, .int .i64 a2, .int .i64 a3, .int .i64 a4, .int .i64 a5]] w fun e w' => e = .returned (.int .i64 ((a3 - a0) + (a4 - a1) + (a5 - a2))) ∧ Below w.heap.size w w' := by
  go_enter Try.func132, Try.ntmps132
  go_wp2
  refine wp_loop_rounds 4 ?_
  rw [rounds_succ]
  go_wp2
  go_quiet (fail)
  go_wp2
  rw [rounds_succ]
  go_wp2
  go_quiet (fail)
  go_wp2
  rw [rounds_succ]
  go_wp2
  go_quiet (fail)
  go_wp2
  rw [rounds_succ]
  go_wp2
  go_ret
  exact ⟨ret_i64 (by first | rfl | omega), by repeat (first | exact Below.refl _ _ | refine below_draws ?_ _ | refine Below.alloc ?_ (Nat.le_refl _) _)⟩

/-- How far a number is from a stretch. -/
def away (l h n : Int) : Int := max (max (l - n) (n - h)) 0

set_option maxHeartbeats 1600000 in
theorem distance_any (a0 a1 a2 a3 a4 a5 p0 p1 p2 : Int) (w : World) (h0 : -1000 ≤ a0 ∧ a0 ≤ 1000) (h1 : -1000 ≤ a1 ∧ a1 ≤ 1000) (h2 : -1000 ≤ a2 ∧ a2 ≤ 1000) (h3 : -1000 ≤ a3 ∧ a3 ≤ 1000) (h4 : -1000 ≤ a4 ∧ a4 ≤ 1000) (h5 : -1000 ≤ a5 ∧ a5 ≤ 1000)
    (k0 : -1000 ≤ p0 ∧ p0 ≤ 1000) (k1 : -1000 ≤ p1 ∧ p1 ≤ 1000) (k2 : -1000 ≤ p2 ∧ p2 ≤ 1000) :
    Calls Try.prog 136 #[.agg #[.int .i64 a0, .int .i64 a1, .int .i64 a2, .int .i64 a3, .int .i64 a4, .int .i64 a5], .agg #[.int .i64 p0, .int .i64 p1, .int .i64 p2]] w
      fun e w' => e = .returned (.int .i64 (away a0 a3 p0 + away a1 a4 p1 + away a2 a5 p2)) ∧ Below w.heap.size w w' := by
  have i0 : ∀ w, (Instr.index 113 (.agg #[.int .i64 p0, .int .i64 p1, .int .i64 p2]) (.int .i64 0)).run Try.prog w = .ok (.int .i64 p0) w := fun _ => by kernel_rfl
  have i1 : ∀ w, (Instr.index 113 (.agg #[.int .i64 p0, .int .i64 p1, .int .i64 p2]) (.int .i64 1)).run Try.prog w = .ok (.int .i64 p1) w := fun _ => by kernel_rfl
  have i2 : ∀ w, (Instr.index 113 (.agg #[.int .i64 p0, .int .i64 p1, .int .i64 p2]) (.int .i64 2)).run Try.prog w = .ok (.int .i64 p2) w := fun _ => by kernel_rfl
  obtain ⟨x0, y0⟩ := h0
  obtain ⟨x1, y1⟩ := h1
  obtain ⟨x2, y2⟩ := h2
  obtain ⟨x3, y3⟩ := h3
  obtain ⟨x4, y4⟩ := h4
  obtain ⟨x5, y5⟩ := h5
  obtain ⟨u0, v0⟩ := k0
  obtain ⟨u1, v1⟩ := k1
  obtain ⟨u2, v2⟩ := k2
  go_enter Try.func136, Try.ntmps136
  go_wp2
  refine wp_loop_rounds 4 ?_
  rw [rounds_succ]
  go_wp2
  go_region
  generalize g0 : (if (if a0 - p0 < p0 - a3 then p0 - a3 else a0 - p0) < 0 then 0 else if a0 - p0 < p0 - a3 then p0 - a3 else a0 - p0) = m0
  have E0 : Hid (m0 = away a0 a3 p0) := by show m0 = _; rw [← g0]; unfold away; omega
  have l0 : 0 ≤ m0 := by omega
  have r0 : m0 ≤ 2000 := by omega
  clear g0
  go_wp2
  rw [rounds_succ]
  go_wp2
  go_region
  generalize g1 : (if (if a1 - p1 < p1 - a4 then p1 - a4 else a1 - p1) < 0 then 0 else if a1 - p1 < p1 - a4 then p1 - a4 else a1 - p1) = m1
  have E1 : Hid (m1 = away a1 a4 p1) := by show m1 = _; rw [← g1]; unfold away; omega
  have l1 : 0 ≤ m1 := by omega
  have r1 : m1 ≤ 2000 := by omega
  clear g1
  try simp only [wrap64_in (m0 + m1) (by omega) (by omega)]
  go_wp2
  rw [rounds_succ]
  go_wp2
  go_region
  generalize g2 : (if (if a2 - p2 < p2 - a5 then p2 - a5 else a2 - p2) < 0 then 0 else if a2 - p2 < p2 - a5 then p2 - a5 else a2 - p2) = m2
  have E2 : Hid (m2 = away a2 a5 p2) := by show m2 = _; rw [← g2]; unfold away; omega
  have l2 : 0 ≤ m2 := by omega
  have r2 : m2 ≤ 2000 := by omega
  clear g2
  try simp only [wrap64_in (m0 + m1 + m2) (by omega) (by omega)]
  go_wp2
  rw [rounds_succ]
  go_wp2
  go_ret
  exact ⟨ret_i64 (by rw [← E0.out, ← E1.out, ← E2.out]), by repeat (first | exact Below.refl _ _ | refine Below.drew ?_ | refine Below.alloc ?_ (by first | exact Nat.le_refl _ | (simp only [World.size_alloc]; omega)) _)⟩

end Go.Proofs.Ytdkaofmlgaofgab
