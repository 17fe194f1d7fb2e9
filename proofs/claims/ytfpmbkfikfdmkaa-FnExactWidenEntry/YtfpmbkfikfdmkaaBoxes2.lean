/- The walks of impl's boxes, further: area, margin, distance. For boxes whose numbers are from -1000 to 1000 (what the functions above them have asked). -/
import Derived.Test.YtfpmbkfikfdmkaaBoxes
import Derived.IntWalk
namespace Go.Proofs.Ytfpmbkfikfdmkaa
open Go.RowKit

theorem wrap64_in (n : Int) (h1 : -9223372036854775808 ≤ n) (h2 : n ≤ 9223372036854775807) : wrap64 n = n := by simp only [wrap64]; omega
theorem mul_le {x y a b : Int} (hx : 0 ≤ x) (hy : 0 ≤ y) (hxa : x ≤ a) (hyb : y ≤ b) : 0 ≤ x * y ∧ x * y ≤ a * b :=
  ⟨Int.mul_nonneg hx hy, Int.mul_le_mul hxa hyb hy (Int.le_trans hx hxa)⟩

set_option maxHeartbeats 1600000 in
theorem area2_any (a0 a1 a2 a3 a4 a5 : Int) (w : World) (h0 : 0 ≤ a3 - a0) (h0' : a3 - a0 ≤ 2000) (h1 : 0 ≤ a4 - a1) (h1' : a4 - a1 ≤ 2000) :
    Calls Try.prog 86 #[.agg #[.int .i64 a0, .int .i64 a1, .int .i64 a2, .int .i64 a3, .int .i64 a4, .int .i64 a5], .int .i64 2] w fun e w' => e = .returned (.int .i64 ((a3 - a0) * (a4 - a1))) ∧ Below w.heap.size w w' := by
  have p2 := mul_le h0 h1 h0' h1'
  have hw := wrap64_in ((a3 - a0) * (a4 - a1)) (by omega) (by omega)
  clear p2
  go_enter Try.func86, Try.ntmps86
  go_wp2
  refine wp_loop_rounds 3 ?_
  rw [rounds_succ]
  go_wp2
  go_quiet (fail)
  go_wp2
  rw [rounds_succ]
  go_wp2
  go_quiet (fail)
  go_wp2
  rw [rounds_succ]
  go_wp2
  go_ret
  exact ⟨ret_i64 (by first | rfl | exact hw), by repeat (first | exact Below.refl _ _ | refine below_draws ?_ _ | refine Below.alloc ?_ (Nat.le_refl _) _)⟩

set_option maxHeartbeats 1600000 in
theorem area3_any (a0 a1 a2 a3 a4 a5 : Int) (w : World) (h0 : 0 ≤ a3 - a0) (h0' : a3 - a0 ≤ 2000) (h1 : 0 ≤ a4 - a1) (h1' : a4 - a1 ≤ 2000) (h2 : 0 ≤ a5 - a2) (h2' : a5 - a2 ≤ 2000) :
    Calls Try.prog 86 #[.agg #[.int .i64 a0, .int .i64 a1, .int .i64 a2, .int .i64 a3, .int .i64 a4, .int .i64 a5], .int .i64 3] w fun e w' => e = .returned (.int .i64 ((a3 - a0) * (a4 - a1) * (a5 - a2))) ∧ Below w.heap.size w w' := by
  have p2 := mul_le h0 h1 h0' h1'
  have p3 := mul_le p2.1 h2 p2.2 h2'
  have hw := wrap64_in ((a3 - a0) * (a4 - a1)) (by omega) (by omega)
  have hw3 := wrap64_in ((a3 - a0) * (a4 - a1) * (a5 - a2)) (by omega) (by omega)
  clear p2 p3
  go_enter Try.func86, Try.ntmps86
  go_wp2
  refine wp_loop_rounds 4 ?_
  rw [rounds_succ]
  go_wp2
  go_quiet (fail)
  go_wp2
  rw [rounds_succ]
  go_wp2
  go_quiet (fail)
  go_wp2
  rw [rounds_succ]
  go_wp2
  go_quiet (fail)
  go_wp2
  rw [rounds_succ]
  go_wp2
  go_ret
  exact ⟨ret_i64 (by first | rfl | exact hw3), by repeat (first | exact Below.refl _ _ | refine below_draws ?_ _ | refine Below.alloc ?_ (Nat.le_refl _) _)⟩

set_option maxHeartbeats 1600000 in
theorem margin_any (a0 a1 a2 a3 a4 a5 : Int) (w : World) (h0 : 0 ≤ a3 - a0) (h0' : a3 - a0 ≤ 2000) (h1 : 0 ≤ a4 - a1) (h1' : a4 - a1 ≤ 2000) (h2 : 0 ≤ a5 - a2) (h2' : a5 - a2 ≤ 2000) :
    Calls Try.prog 88 #[.agg #[.int .i64 a0, .int .i64 a1, .int .i64 a2, .int .i64 a3, .int .i64 a4, .int .i64 a5]] w fun e w' => e = .returned (.int .i64 ((a3 - a0) + (a4 - a1) + (a5 - a2))) ∧ Below w.heap.size w w' := by
  go_enter Try.func88, Try.ntmps88
  go_wp2
  refine wp_loop_rounds 4 ?_
  rw [rounds_succ]
  go_wp2
  go_quiet (fail)
  go_wp2
  rw [rounds_succ]
  go_wp2
  go_quiet (fail)
  go_wp2
  rw [rounds_succ]
  go_wp2
  go_quiet (fail)
  go_wp2
  rw [rounds_succ]
  go_wp2
  go_ret
  exact ⟨ret_i64 (by first | rfl | omega), by repeat (first | exact Below.refl _ _ | refine below_draws ?_ _ | refine Below.alloc ?_ (Nat.le_refl _) _)⟩

/-- How far a number is from a stretch. -/
def away (l h n : Int) : Int := max (max (l - n) (n - h)) 0


end Go.Proofs.Ytfpmbkfikfdmkaa
