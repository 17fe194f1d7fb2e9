/- The walks of impl's boxes (arrays of two corners): union, common, meets, area, margin, distance, for every number. -/
import Derived.Test.YtblhcnafoejahaaRects
import Derived.LoopN
import Derived.RegionTactic
import Derived.BigRegion
namespace Go.Proofs.Ytblhcnafoejahaa
open Go.RowKit

theorem if_min (a b : Int) : (if b < a then b else a) = min a b := by omega
theorem if_max (a b : Int) : (if a < b then b else a) = max a b := by omega

set_option maxHeartbeats 3200000 in
theorem union_any (a0 a1 a2 a3 a4 a5 : Int) (b0 b1 b2 b3 b4 b5 : Int) (w : World) :
    Calls Try.prog 122 #[.agg #[.int .i64 a0, .int .i64 a1, .int .i64 a2, .int .i64 a3, .int .i64 a4, .int .i64 a5], .agg #[.int .i64 b0, .int .i64 b1, .int .i64 b2, .int .i64 b3, .int .i64 b4, .int .i64 b5]] w
      fun e w' => e = .returned (.agg #[.int .i64 (min a0 b0), .int .i64 (min a1 b1), .int .i64 (min a2 b2), .int .i64 (max a3 b3), .int .i64 (max a4 b4), .int .i64 (max a5 b5)]) ∧ Below w.heap.size w w' := by
  go_enter Try.func122, Try.ntmps122
  go_wp2
  refine wp_loop_rounds 4 ?_
  rw [rounds_succ]
  go_wp2
  go_region
  generalize h0 : (if b0 < a0 then b0 else a0) = m0
  have H0 := Lib.hid h0
  clear h0
  go_wp2
  go_region
  generalize h3 : (if a3 < b3 then b3 else a3) = m3
  have H3 := Lib.hid h3
  clear h3
  go_wp2
  rw [rounds_succ]
  go_wp2
  go_region
  generalize h1 : (if b1 < a1 then b1 else a1) = m1
  have H1 := Lib.hid h1
  clear h1
  go_wp2
  go_region
  generalize h4 : (if a4 < b4 then b4 else a4) = m4
  have H4 := Lib.hid h4
  clear h4
  go_wp2
  rw [rounds_succ]
  go_wp2
  go_region
  generalize h2 : (if b2 < a2 then b2 else a2) = m2
  have H2 := Lib.hid h2
  clear h2
  go_wp2
  go_region
  generalize h5 : (if a5 < b5 then b5 else a5) = m5
  have H5 := Lib.hid h5
  clear h5
  go_wp2
  rw [rounds_succ]
  go_wp2
  have e0 : m0 = min a0 b0 := by have := H0.out; rw [← this]; exact if_min _ _
  have e1 : m1 = min a1 b1 := by have := H1.out; rw [← this]; exact if_min _ _
  have e2 : m2 = min a2 b2 := by have := H2.out; rw [← this]; exact if_min _ _
  have e3 : m3 = max a3 b3 := by have := H3.out; rw [← this]; exact if_max _ _
  have e4 : m4 = max a4 b4 := by have := H4.out; rw [← this]; exact if_max _ _
  have e5 : m5 = max a5 b5 := by have := H5.out; rw [← this]; exact if_max _ _
  subst e0 e1 e2 e3 e4 e5
  refine bodyPost_ret (v := .agg #[.int .i64 (min a0 b0), .int .i64 (min a1 b1), .int .i64 (min a2 b2), .int .i64 (max a3 b3), .int .i64 (max a4 b4), .int .i64 (max a5 b5)]) (by simp [results, Try.results122, go_sem]) rfl ⟨rfl, ?_⟩
  exact by repeat (first | exact Below.refl _ _ | refine Below.drew ?_ | refine below_draws ?_ _ | refine Below.alloc ?_ (by first | exact Nat.le_refl _ | (simp only [World.size_alloc]; omega)) _)


/-- In each dimension neither Low is above the other one's High. -/
def boxMeets (a0 a1 a2 a3 a4 a5 : Int) (b0 b1 b2 b3 b4 b5 : Int) : Bool := decide (a0 ≤ b3) && decide (b0 ≤ a3) && decide (a1 ≤ b4) && decide (b1 ≤ a4) && decide (a2 ≤ b5) && decide (b2 ≤ a5)


end Go.Proofs.Ytblhcnafoejahaa
