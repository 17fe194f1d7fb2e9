/- FnExactOverlapOf: for every two boxes impl.OverlapOf answers as the model does and leaves its arguments alone. No condition. -/
import Derived.Test.YtbnlgmcjklfcoabImplOverlap
namespace Go.Proofs.Ytbnlgmcjklfcoab
open Go.RowKit

set_option maxHeartbeats 3200000 in
theorem lawOverlapOf_walk (n0 c0 m0 e0 : Nat) (A0 B0 : Option Addr) (xs0 ys0 : List Int) (n1 c1 m1 e1 : Nat) (A1 B1 : Option Addr) (xs1 ys1 : List Int) (w : World) (hx0 : Ints w 0 A0 n0 xs0) (hy0 : Ints w 0 B0 m0 ys0) (hn0 : n0 ≤ maxLen) (hm0 : m0 ≤ maxLen) (hx1 : Ints w 0 A1 n1 xs1) (hy1 : Ints w 0 B1 m1 ys1) (hn1 : n1 ≤ maxLen) (hm1 : m1 ≤ maxLen) :
    Calls Try.prog 6 #[.agg #[.slice A0 n0 c0, .slice B0 m0 e0], .agg #[.slice A1 n1 c1, .slice B1 m1 e1]] w fun e w' => e = .returned (.bool true) ∧ Below w.heap.size w w' := by
  have I_x0 := Lib.hid hx0
  have I_y0 := Lib.hid hy0
  have I_x1 := Lib.hid hx1
  have I_y1 := Lib.hid hy1
  clear hx0 hy0 hx1 hy1
  have B := Lib.hid (Below.refl w.heap.size w)
  have L_a0 := Lib.hid (Lies.new w 54 #[.slice A0 n0 c0, .slice B0 m0 e0])
  replace B := Lib.hid (B.out.alloc B.out.size (.cells #[.slice A0 n0 c0, .slice B0 m0 e0] 54))
  replace L_a0 := Lib.hid (L_a0.out.alloc (.cells #[.slice A1 n1 c1, .slice B1 m1 e1] 54))
  have L_a1 := Lib.hid (Lies.new (w.alloc (.cells #[.slice A0 n0 c0, .slice B0 m0 e0] 54)) 54 #[.slice A1 n1 c1, .slice B1 m1 e1])
  replace B := Lib.hid (B.out.alloc B.out.size (.cells #[.slice A1 n1 c1, .slice B1 m1 e1] 54))
  simp only [World.size_alloc] at L_a1
  by_cases z0 : (1048576 : Int) < n0 + m0
  · go_enter Try.func6, Try.ntmps6
    go_wp2_with fail
    refine (szRect_no _ _ _ _ _ _ _ _ (by omega) (by omega) hn0 hm0 (by omega)).mono ?_
    rintro e W1 ⟨rfl, b1⟩
    replace L_a0 := Lib.hid (L_a0.out.kept b1 L_a0.out.inside)
    replace L_a1 := Lib.hid (L_a1.out.kept b1 L_a1.out.inside)
    replace B := Lib.hid (B.out.trans (b1.mono B.out.size))
    clear b1
    go_wp2
    go_ret
    exact ⟨rfl, B.out⟩
  by_cases z1 : (1048576 : Int) - n0 - m0 < n1 + m1
  · go_enter Try.func6, Try.ntmps6
    go_wp2_with fail
    refine (szRect_yes _ _ _ _ _ _ _ _ (by omega) hn0 hm0 (by omega)).mono ?_
    rintro e W1 ⟨rfl, b1⟩
    replace L_a0 := Lib.hid (L_a0.out.kept b1 L_a0.out.inside)
    replace L_a1 := Lib.hid (L_a1.out.kept b1 L_a1.out.inside)
    replace B := Lib.hid (B.out.trans (b1.mono B.out.size))
    clear b1
    have c_a00 : W1.cell? ⟨w.heap.size, 0, none⟩ = some (.slice A0 n0 c0) := L_a0.out.cell 0
    have c_a01 : W1.cell? ⟨w.heap.size, 1, none⟩ = some (.slice B0 m0 e0) := L_a0.out.cell 1
    have c_a10 : W1.cell? ⟨w.heap.size + 1, 0, none⟩ = some (.slice A1 n1 c1) := L_a1.out.cell 0
    have c_a11 : W1.cell? ⟨w.heap.size + 1, 1, none⟩ = some (.slice B1 m1 e1) := L_a1.out.cell 1
    go_wp2_with fail
    clear c_a00 c_a01 c_a10 c_a11
    refine (szRect_no _ _ _ _ _ _ _ _ (by omega) (by omega) hn1 hm1 (by omega)).mono ?_
    rintro e W2 ⟨rfl, b2⟩
    replace L_a0 := Lib.hid (L_a0.out.kept b2 L_a0.out.inside)
    replace L_a1 := Lib.hid (L_a1.out.kept b2 L_a1.out.inside)
    replace B := Lib.hid (B.out.trans (b2.mono B.out.size))
    clear b2
    go_wp2
    go_ret
    exact ⟨rfl, B.out⟩
  go_enter Try.func6, Try.ntmps6
  go_wp2_with fail
  refine (szRect_yes _ _ _ _ _ _ _ _ (by omega) hn0 hm0 (by omega)).mono ?_
  rintro e W1 ⟨rfl, b1⟩
  replace L_a0 := Lib.hid (L_a0.out.kept b1 L_a0.out.inside)
  replace L_a1 := Lib.hid (L_a1.out.kept b1 L_a1.out.inside)
  replace B := Lib.hid (B.out.trans (b1.mono B.out.size))
  clear b1
  have c_a00 : W1.cell? ⟨w.heap.size, 0, none⟩ = some (.slice A0 n0 c0) := L_a0.out.cell 0
  have c_a01 : W1.cell? ⟨w.heap.size, 1, none⟩ = some (.slice B0 m0 e0) := L_a0.out.cell 1
  have c_a10 : W1.cell? ⟨w.heap.size + 1, 0, none⟩ = some (.slice A1 n1 c1) := L_a1.out.cell 0
  have c_a11 : W1.cell? ⟨w.heap.size + 1, 1, none⟩ = some (.slice B1 m1 e1) := L_a1.out.cell 1
  go_wp2_with fail
  clear c_a00 c_a01 c_a10 c_a11
  refine (szRect_yes _ _ _ _ _ _ _ _ (by omega) hn1 hm1 (by omega)).mono ?_
  rintro e W2 ⟨rfl, b2⟩
  replace L_a0 := Lib.hid (L_a0.out.kept b2 L_a0.out.inside)
  replace L_a1 := Lib.hid (L_a1.out.kept b2 L_a1.out.inside)
  replace B := Lib.hid (B.out.trans (b2.mono B.out.size))
  clear b2
  go_upto_region 8 with fail
  go_cut [6] (fun s6 wx => ∃ n_w0 : Nat, s6 = .pointer (some ⟨n_w0, 0, none⟩) ∧ Hid (Lies wx n_w0 25 #[.int .i64 (overF xs0 ys0 xs1 ys1).1, .int .i64 (overF xs0 ys0 xs1 ys1).2]) ∧ W2.heap.size ≤ n_w0 ∧ Hid (Since W2 wx))
  case first =>
    have c_a00 : W2.cell? ⟨w.heap.size, 0, none⟩ = some (.slice A0 n0 c0) := L_a0.out.cell 0
    have c_a01 : W2.cell? ⟨w.heap.size, 1, none⟩ = some (.slice B0 m0 e0) := L_a0.out.cell 1
    have c_a10 : W2.cell? ⟨w.heap.size + 1, 0, none⟩ = some (.slice A1 n1 c1) := L_a1.out.cell 0
    have c_a11 : W2.cell? ⟨w.heap.size + 1, 1, none⟩ = some (.slice B1 m1 e1) := L_a1.out.cell 1
    have i_a0 := L_a0.out.inside
    have l_a0 := Nat.le_of_lt i_a0
    have i_a1 := L_a1.out.inside
    have l_a1 := Nat.le_of_lt i_a1
    have zd := size_of_drew
    go_region_held3 (fun w' => w'.cell? ⟨w.heap.size, 0, none⟩ = some (.slice A0 n0 c0) ∧ w'.cell? ⟨w.heap.size, 1, none⟩ = some (.slice B0 m0 e0) ∧ w'.cell? ⟨w.heap.size + 1, 0, none⟩ = some (.slice A1 n1 c1) ∧ w'.cell? ⟨w.heap.size + 1, 1, none⟩ = some (.slice B1 m1 e1))
      (exact ⟨Lies.cell (t := 54) (cs := #[.slice A0 n0 c0, .slice B0 m0 e0]) (by with_reducible (repeat (first | refine Lies.far ?_ ?_ _ | refine Lies.alloc ?_ _ | refine Lies.drew ?_ | refine Lies.call ?_ b5 | refine Lies.call ?_ b4 | refine Lies.call ?_ b3 | exact L_a0.out | exact L_a1.out)); all_goals (simp only [size_of_drew, size_of_setCell, World.size_alloc]; omega)) 0, Lies.cell (t := 54) (cs := #[.slice A0 n0 c0, .slice B0 m0 e0]) (by with_reducible (repeat (first | refine Lies.far ?_ ?_ _ | refine Lies.alloc ?_ _ | refine Lies.drew ?_ | refine Lies.call ?_ b5 | refine Lies.call ?_ b4 | refine Lies.call ?_ b3 | exact L_a0.out | exact L_a1.out)); all_goals (simp only [size_of_drew, size_of_setCell, World.size_alloc]; omega)) 1, Lies.cell (t := 54) (cs := #[.slice A1 n1 c1, .slice B1 m1 e1]) (by with_reducible (repeat (first | refine Lies.far ?_ ?_ _ | refine Lies.alloc ?_ _ | refine Lies.drew ?_ | refine Lies.call ?_ b5 | refine Lies.call ?_ b4 | refine Lies.call ?_ b3 | exact L_a0.out | exact L_a1.out)); all_goals (simp only [size_of_drew, size_of_setCell, World.size_alloc]; omega)) 0, Lies.cell (t := 54) (cs := #[.slice A1 n1 c1, .slice B1 m1 e1]) (by with_reducible (repeat (first | refine Lies.far ?_ ?_ _ | refine Lies.alloc ?_ _ | refine Lies.drew ?_ | refine Lies.call ?_ b5 | refine Lies.call ?_ b4 | refine Lies.call ?_ b3 | exact L_a0.out | exact L_a1.out)); all_goals (simp only [size_of_drew, size_of_setCell, World.size_alloc]; omega)) 1⟩)
      (first
        | (go_at_call_of 30 (Value.agg #[.slice A0 n0 c0, .slice B0 m0 e0]); refine (toRect_any _ _ _ _ _ _ _ _ xs0 ys0 _ (I_x0.out.kept (by with_reducible (repeat (first | refine Since.below ?_ | refine Since.drew ?_ | refine Since.alloc ?_ _ | exact Since.of B.out)))) (I_y0.out.kept (by with_reducible (repeat (first | refine Since.below ?_ | refine Since.drew ?_ | refine Since.alloc ?_ _ | exact Since.of B.out)))) (by omega) (by omega)).mono ?_
           rintro e W3 ⟨gs0x, gs0y, rfl, os0x, os0y, ls0x, ls0y, b3⟩
           have q_W3 := cells_kept b3
           have u_W3 := frozen_kept b3
           have z_W3 := sizes_kept b3
           try simp only [size_of_drew, World.size_alloc] at z_W3
           have le_W2_W3 : W2.heap.size ≤ W3.heap.size := by omega
           try (have lt_W2_W3 : W2.heap.size < W3.heap.size := by omega))
        | (go_at_call_of 30 (Value.agg #[.slice A1 n1 c1, .slice B1 m1 e1]); refine (toRect_any _ _ _ _ _ _ _ _ xs1 ys1 _ (I_x1.out.kept (by with_reducible (repeat (first | refine Since.below ?_ | refine Since.drew ?_ | refine Since.alloc ?_ _ | refine Since.call ?_ b3 | exact Since.of B.out)))) (I_y1.out.kept (by with_reducible (repeat (first | refine Since.below ?_ | refine Since.drew ?_ | refine Since.alloc ?_ _ | refine Since.call ?_ b3 | exact Since.of B.out)))) (by omega) (by omega)).mono ?_
           rintro e W4 ⟨gs1x, gs1y, rfl, os1x, os1y, ls1x, ls1y, b4⟩
           have q_W4 := cells_kept b4
           have u_W4 := frozen_kept b4
           have z_W4 := sizes_kept b4
           try simp only [size_of_drew, World.size_alloc] at z_W4
           have le_W2_W4 : W2.heap.size ≤ W4.heap.size := by omega
           try (have lt_W2_W4 : W2.heap.size < W4.heap.size := by omega)
           have le_W3_W4 : W3.heap.size ≤ W4.heap.size := by omega
           try (have lt_W3_W4 : W3.heap.size < W4.heap.size := by omega))
        | (go_at_call 29; refine (specOverlapOf_any _ _ _ _ _ _ _ _ _ _ _ _ _ _ _ _ xs0 ys0 xs1 ys1 _ (Own.ints (by with_reducible (repeat (first | exact os0x | refine Own.drew' ?_ | refine Own.alloc ?_ _ | refine Own.call ?_ b4 | refine Own.call ?_ b3))) (Nat.zero_le _)) (Own.ints (by with_reducible (repeat (first | exact os0y | refine Own.drew' ?_ | refine Own.alloc ?_ _ | refine Own.call ?_ b4 | refine Own.call ?_ b3))) (Nat.zero_le _)) (Own.ints (by with_reducible (repeat (first | exact os1x | refine Own.drew' ?_ | refine Own.alloc ?_ _ | refine Own.call ?_ b4 | refine Own.call ?_ b3))) (Nat.zero_le _)) (Own.ints (by with_reducible (repeat (first | exact os1y | refine Own.drew' ?_ | refine Own.alloc ?_ _ | refine Own.call ?_ b4 | refine Own.call ?_ b3))) (Nat.zero_le _)) hn0 hm0 hn1 hm1).mono ?_
           rintro e W5 ⟨rfl, b5⟩
           have q_W5 := cells_kept b5
           have u_W5 := frozen_kept b5
           have z_W5 := sizes_kept b5
           try simp only [size_of_drew, World.size_alloc] at z_W5
           have le_W2_W5 : W2.heap.size ≤ W5.heap.size := by omega
           try (have lt_W2_W5 : W2.heap.size < W5.heap.size := by omega)
           have le_W3_W5 : W3.heap.size ≤ W5.heap.size := by omega
           try (have lt_W3_W5 : W3.heap.size < W5.heap.size := by omega)
           have le_W4_W5 : W4.heap.size ≤ W5.heap.size := by omega
           try (have lt_W4_W5 : W4.heap.size < W5.heap.size := by omega)))
    all_goals
      rename_i hH
      clear hH zd q_W3 u_W3 q_W4 u_W4 q_W5 u_W5 c_a00 c_a01 c_a10 c_a11
      go_wp2_with fail
      go_meet
      refine ⟨_, rfl, ?_, ?_, ?_⟩
      · refine Lib.hid ?_
        first
          | (refine Lies.as (cs := ((#[.int .i64 0, .int .i64 0].setIfInBounds 0 (.int .i64 (overF xs0 ys0 xs1 ys1).1)).setIfInBounds 1 (.int .i64 (overF xs0 ys0 xs1 ys1).2))) ?_ (by simp)
             with_reducible (repeat (first | refine Lies.set ?_ _ _ | refine Lies.far ?_ ?_ _ | (refine Lies.laid ?_; (simp only [size_of_drew, size_of_setCell, World.size_alloc]; done)) | exact Lies.new _ _ _ | exact Lies.laid2 _ _ _ _ | refine Lies.alloc ?_ _ | refine Lies.drew ?_ | refine Lies.call ?_ b5 | refine Lies.call ?_ b4 | refine Lies.call ?_ b3))
             all_goals first | exact Nat.ne_of_lt (Nat.lt_succ_self _) | exact Nat.ne_of_gt (Nat.lt_succ_self _) | exact Nat.ne_of_lt lt_W2_W3 | exact Nat.ne_of_gt lt_W2_W3 | exact Nat.ne_of_lt lt_W2_W4 | exact Nat.ne_of_gt lt_W2_W4 | exact Nat.ne_of_lt lt_W2_W5 | exact Nat.ne_of_gt lt_W2_W5 | exact Nat.ne_of_lt lt_W3_W4 | exact Nat.ne_of_gt lt_W3_W4 | exact Nat.ne_of_lt lt_W3_W5 | exact Nat.ne_of_gt lt_W3_W5 | exact Nat.ne_of_lt lt_W4_W5 | exact Nat.ne_of_gt lt_W4_W5 | (show ¬ _ = _; (try simp only [size_of_drew, size_of_setCell, World.size_alloc]); omega)
             done)
          | (with_reducible (repeat (first | refine Lies.far ?_ ?_ _ | (refine Lies.laid ?_; (simp only [size_of_drew, size_of_setCell, World.size_alloc]; done)) | exact Lies.new _ _ _ | exact Lies.laid2 _ _ _ _ | refine Lies.alloc ?_ _ | refine Lies.drew ?_ | refine Lies.call ?_ b5 | refine Lies.call ?_ b4 | refine Lies.call ?_ b3))
             all_goals first | exact Nat.ne_of_lt (Nat.lt_succ_self _) | exact Nat.ne_of_gt (Nat.lt_succ_self _) | exact Nat.ne_of_lt lt_W2_W3 | exact Nat.ne_of_gt lt_W2_W3 | exact Nat.ne_of_lt lt_W2_W4 | exact Nat.ne_of_gt lt_W2_W4 | exact Nat.ne_of_lt lt_W2_W5 | exact Nat.ne_of_gt lt_W2_W5 | exact Nat.ne_of_lt lt_W3_W4 | exact Nat.ne_of_gt lt_W3_W4 | exact Nat.ne_of_lt lt_W3_W5 | exact Nat.ne_of_gt lt_W3_W5 | exact Nat.ne_of_lt lt_W4_W5 | exact Nat.ne_of_gt lt_W4_W5 | (show ¬ _ = _; (try simp only [size_of_drew, size_of_setCell, World.size_alloc]); omega)
             done)
      · first | exact Nat.le_refl _ | exact Nat.le_succ _ | exact le_W2_W3 | exact Nat.le_succ_of_le le_W2_W3 | exact le_W2_W4 | exact Nat.le_succ_of_le le_W2_W4 | exact le_W2_W5 | exact Nat.le_succ_of_le le_W2_W5 | omega
      · refine Lib.hid ?_
        with_reducible (repeat (first | refine Since.setCell ?_ ?_ _ | refine Since.alloc ?_ _ | refine Since.drew ?_ | refine Since.call ?_ b5 | refine Since.call ?_ b4 | refine Since.call ?_ b3))
        · exact Since.of (Below.refl _ _)
        all_goals first | exact Nat.le_refl _ | exact Nat.le_succ _ | exact le_W2_W3 | exact Nat.le_succ_of_le le_W2_W3 | exact le_W2_W4 | exact Nat.le_succ_of_le le_W2_W4 | exact le_W2_W5 | exact Nat.le_succ_of_le le_W2_W5 | (show _ ≤ _; (try simp only [size_of_drew, size_of_setCell, World.size_alloc]); omega)
  case' rest =>
    obtain ⟨n_w0, rfl, L_w0, g_w0, S⟩ := hcut
    have bS := S.out.below
    clear S
  have d_w0_a0 : ¬ n_w0 = w.heap.size := by have := L_a0.out.inside; omega
  have e_w0_a0 : ¬ w.heap.size = n_w0 := fun e => d_w0_a0 e.symm
  have d_w0_a1 : ¬ n_w0 = w.heap.size + 1 := by have := L_a1.out.inside; omega
  have e_w0_a1 : ¬ w.heap.size + 1 = n_w0 := fun e => d_w0_a1 e.symm
  clear g_w0
  replace L_a0 := Lib.hid (L_a0.out.kept bS L_a0.out.inside)
  replace L_a1 := Lib.hid (L_a1.out.kept bS L_a1.out.inside)
  replace B := Lib.hid (B.out.trans (bS.mono B.out.size))
  clear bS
  have c_a00 : wc.cell? ⟨w.heap.size, 0, none⟩ = some (.slice A0 n0 c0) := L_a0.out.cell 0
  have c_a01 : wc.cell? ⟨w.heap.size, 1, none⟩ = some (.slice B0 m0 e0) := L_a0.out.cell 1
  go_wp2_with fail
  clear c_a00 c_a01
  refine (toRect_any _ _ _ _ _ _ _ _ xs0 ys0 _ (I_x0.out.kept B.out) (I_y0.out.kept B.out) (by omega) (by omega)).mono ?_
  rintro e W6 ⟨gt0x, gt0y, rfl, ot0x, ot0y, lt0x, lt0y, b6⟩
  replace L_a0 := Lib.hid (L_a0.out.kept b6 L_a0.out.inside)
  replace L_a1 := Lib.hid (L_a1.out.kept b6 L_a1.out.inside)
  replace L_w0 := Lib.hid (L_w0.out.kept b6 L_w0.out.inside)
  replace B := Lib.hid (B.out.trans (b6.mono B.out.size))
  clear b6
  have O_t0x := Lib.hid ot0x
  clear ot0x
  have O_t0y := Lib.hid ot0y
  clear ot0y
  replace L_a0 := Lib.hid (L_a0.out.alloc (.cells #[.slice (some ⟨gt0x, 0, none⟩) n0 n0, .slice (some ⟨gt0y, 0, none⟩) m0 m0] 36))
  replace L_a1 := Lib.hid (L_a1.out.alloc (.cells #[.slice (some ⟨gt0x, 0, none⟩) n0 n0, .slice (some ⟨gt0y, 0, none⟩) m0 m0] 36))
  replace L_w0 := Lib.hid (L_w0.out.alloc (.cells #[.slice (some ⟨gt0x, 0, none⟩) n0 n0, .slice (some ⟨gt0y, 0, none⟩) m0 m0] 36))
  replace O_t0x := Lib.hid (O_t0x.out.kept (below_alloc _ (.cells #[.slice (some ⟨gt0x, 0, none⟩) n0 n0, .slice (some ⟨gt0y, 0, none⟩) m0 m0] 36)))
  replace O_t0y := Lib.hid (O_t0y.out.kept (below_alloc _ (.cells #[.slice (some ⟨gt0x, 0, none⟩) n0 n0, .slice (some ⟨gt0y, 0, none⟩) m0 m0] 36)))
  have L_v0 := Lib.hid (Lies.new W6 36 #[.slice (some ⟨gt0x, 0, none⟩) n0 n0, .slice (some ⟨gt0y, 0, none⟩) m0 m0])
  replace B := Lib.hid (B.out.alloc B.out.size (.cells #[.slice (some ⟨gt0x, 0, none⟩) n0 n0, .slice (some ⟨gt0y, 0, none⟩) m0 m0] 36))
  have c_a10 : (W6.alloc (.cells #[.slice (some ⟨gt0x, 0, none⟩) n0 n0, .slice (some ⟨gt0y, 0, none⟩) m0 m0] 36)).cell? ⟨w.heap.size + 1, 0, none⟩ = some (.slice A1 n1 c1) := L_a1.out.cell 0
  have c_a11 : (W6.alloc (.cells #[.slice (some ⟨gt0x, 0, none⟩) n0 n0, .slice (some ⟨gt0y, 0, none⟩) m0 m0] 36)).cell? ⟨w.heap.size + 1, 1, none⟩ = some (.slice B1 m1 e1) := L_a1.out.cell 1
  go_wp2_with fail
  clear c_a10 c_a11
  refine (toRect_any _ _ _ _ _ _ _ _ xs1 ys1 _ (I_x1.out.kept B.out) (I_y1.out.kept B.out) (by omega) (by omega)).mono ?_
  rintro e W7 ⟨gt1x, gt1y, rfl, ot1x, ot1y, lt1x, lt1y, b7⟩
  replace L_a0 := Lib.hid (L_a0.out.kept b7 L_a0.out.inside)
  replace L_a1 := Lib.hid (L_a1.out.kept b7 L_a1.out.inside)
  replace L_w0 := Lib.hid (L_w0.out.kept b7 L_w0.out.inside)
  replace L_v0 := Lib.hid (L_v0.out.kept b7 L_v0.out.inside)
  replace O_t0x := Lib.hid (O_t0x.out.kept b7)
  replace O_t0y := Lib.hid (O_t0y.out.kept b7)
  replace B := Lib.hid (B.out.trans (b7.mono B.out.size))
  clear b7
  have O_t1x := Lib.hid ot1x
  clear ot1x
  have O_t1y := Lib.hid ot1y
  clear ot1y
  replace L_a0 := Lib.hid (L_a0.out.alloc (.cells #[.slice (some ⟨gt1x, 0, none⟩) n1 n1, .slice (some ⟨gt1y, 0, none⟩) m1 m1] 36))
  replace L_a1 := Lib.hid (L_a1.out.alloc (.cells #[.slice (some ⟨gt1x, 0, none⟩) n1 n1, .slice (some ⟨gt1y, 0, none⟩) m1 m1] 36))
  replace L_w0 := Lib.hid (L_w0.out.alloc (.cells #[.slice (some ⟨gt1x, 0, none⟩) n1 n1, .slice (some ⟨gt1y, 0, none⟩) m1 m1] 36))
  replace L_v0 := Lib.hid (L_v0.out.alloc (.cells #[.slice (some ⟨gt1x, 0, none⟩) n1 n1, .slice (some ⟨gt1y, 0, none⟩) m1 m1] 36))
  replace O_t0x := Lib.hid (O_t0x.out.kept (below_alloc _ (.cells #[.slice (some ⟨gt1x, 0, none⟩) n1 n1, .slice (some ⟨gt1y, 0, none⟩) m1 m1] 36)))
  replace O_t0y := Lib.hid (O_t0y.out.kept (below_alloc _ (.cells #[.slice (some ⟨gt1x, 0, none⟩) n1 n1, .slice (some ⟨gt1y, 0, none⟩) m1 m1] 36)))
  replace O_t1x := Lib.hid (O_t1x.out.kept (below_alloc _ (.cells #[.slice (some ⟨gt1x, 0, none⟩) n1 n1, .slice (some ⟨gt1y, 0, none⟩) m1 m1] 36)))
  replace O_t1y := Lib.hid (O_t1y.out.kept (below_alloc _ (.cells #[.slice (some ⟨gt1x, 0, none⟩) n1 n1, .slice (some ⟨gt1y, 0, none⟩) m1 m1] 36)))
  have L_v1 := Lib.hid (Lies.new W7 36 #[.slice (some ⟨gt1x, 0, none⟩) n1 n1, .slice (some ⟨gt1y, 0, none⟩) m1 m1])
  replace B := Lib.hid (B.out.alloc B.out.size (.cells #[.slice (some ⟨gt1x, 0, none⟩) n1 n1, .slice (some ⟨gt1y, 0, none⟩) m1 m1] 36))
  have c_v00 : (W7.alloc (.cells #[.slice (some ⟨gt1x, 0, none⟩) n1 n1, .slice (some ⟨gt1y, 0, none⟩) m1 m1] 36)).cell? ⟨W6.heap.size, 0, none⟩ = some (.slice (some ⟨gt0x, 0, none⟩) n0 n0) := L_v0.out.cell 0
  have c_v01 : (W7.alloc (.cells #[.slice (some ⟨gt1x, 0, none⟩) n1 n1, .slice (some ⟨gt1y, 0, none⟩) m1 m1] 36)).cell? ⟨W6.heap.size, 1, none⟩ = some (.slice (some ⟨gt0y, 0, none⟩) m0 m0) := L_v0.out.cell 1
  go_wp2_with fail
  clear c_v00 c_v01
  refine (implOverlapOf_any _ _ _ _ _ _ _ _ _ _ _ _ _ _ _ _ xs0 ys0 xs1 ys1 _ (O_t0x.out.ints (Nat.zero_le _)) (O_t0y.out.ints (Nat.zero_le _)) (O_t1x.out.ints (Nat.zero_le _)) (O_t1y.out.ints (Nat.zero_le _)) hn0 hm0 hn1 hm1).mono ?_
  rintro e W8 ⟨rfl, b8⟩
  replace L_a0 := Lib.hid (L_a0.out.kept b8 L_a0.out.inside)
  replace L_a1 := Lib.hid (L_a1.out.kept b8 L_a1.out.inside)
  replace L_w0 := Lib.hid (L_w0.out.kept b8 L_w0.out.inside)
  replace L_v0 := Lib.hid (L_v0.out.kept b8 L_v0.out.inside)
  replace L_v1 := Lib.hid (L_v1.out.kept b8 L_v1.out.inside)
  replace O_t0x := Lib.hid (O_t0x.out.kept b8)
  replace O_t0y := Lib.hid (O_t0y.out.kept b8)
  replace O_t1x := Lib.hid (O_t1x.out.kept b8)
  replace O_t1y := Lib.hid (O_t1y.out.kept b8)
  replace B := Lib.hid (B.out.trans (b8.mono B.out.size))
  clear b8
  replace L_a0 := Lib.hid (L_a0.out.alloc (.cells #[.int .i64 (overF xs0 ys0 xs1 ys1).1, .int .i64 (overF xs0 ys0 xs1 ys1).2] 25))
  replace L_a1 := Lib.hid (L_a1.out.alloc (.cells #[.int .i64 (overF xs0 ys0 xs1 ys1).1, .int .i64 (overF xs0 ys0 xs1 ys1).2] 25))
  replace L_w0 := Lib.hid (L_w0.out.alloc (.cells #[.int .i64 (overF xs0 ys0 xs1 ys1).1, .int .i64 (overF xs0 ys0 xs1 ys1).2] 25))
  replace L_v0 := Lib.hid (L_v0.out.alloc (.cells #[.int .i64 (overF xs0 ys0 xs1 ys1).1, .int .i64 (overF xs0 ys0 xs1 ys1).2] 25))
  replace L_v1 := Lib.hid (L_v1.out.alloc (.cells #[.int .i64 (overF xs0 ys0 xs1 ys1).1, .int .i64 (overF xs0 ys0 xs1 ys1).2] 25))
  replace O_t0x := Lib.hid (O_t0x.out.kept (below_alloc _ (.cells #[.int .i64 (overF xs0 ys0 xs1 ys1).1, .int .i64 (overF xs0 ys0 xs1 ys1).2] 25)))
  replace O_t0y := Lib.hid (O_t0y.out.kept (below_alloc _ (.cells #[.int .i64 (overF xs0 ys0 xs1 ys1).1, .int .i64 (overF xs0 ys0 xs1 ys1).2] 25)))
  replace O_t1x := Lib.hid (O_t1x.out.kept (below_alloc _ (.cells #[.int .i64 (overF xs0 ys0 xs1 ys1).1, .int .i64 (overF xs0 ys0 xs1 ys1).2] 25)))
  replace O_t1y := Lib.hid (O_t1y.out.kept (below_alloc _ (.cells #[.int .i64 (overF xs0 ys0 xs1 ys1).1, .int .i64 (overF xs0 ys0 xs1 ys1).2] 25)))
  have L_g0 := Lib.hid (Lies.new W8 25 #[.int .i64 (overF xs0 ys0 xs1 ys1).1, .int .i64 (overF xs0 ys0 xs1 ys1).2])
  replace B := Lib.hid (B.out.alloc B.out.size (.cells #[.int .i64 (overF xs0 ys0 xs1 ys1).1, .int .i64 (overF xs0 ys0 xs1 ys1).2] 25))
  have c_w00 : (W8.alloc (.cells #[.int .i64 (overF xs0 ys0 xs1 ys1).1, .int .i64 (overF xs0 ys0 xs1 ys1).2] 25)).cell? ⟨n_w0, 0, none⟩ = some (.int .i64 (overF xs0 ys0 xs1 ys1).1) := L_w0.out.cell 0
  have c_w01 : (W8.alloc (.cells #[.int .i64 (overF xs0 ys0 xs1 ys1).1, .int .i64 (overF xs0 ys0 xs1 ys1).2] 25)).cell? ⟨n_w0, 1, none⟩ = some (.int .i64 (overF xs0 ys0 xs1 ys1).2) := L_w0.out.cell 1
  go_wp2_with fail
  clear c_w00 c_w01
  refine (eqIntResult_same _ _ _).mono ?_
  rintro e W9 ⟨rfl, b9⟩
  replace L_a0 := Lib.hid (L_a0.out.kept b9 L_a0.out.inside)
  replace L_a1 := Lib.hid (L_a1.out.kept b9 L_a1.out.inside)
  replace L_w0 := Lib.hid (L_w0.out.kept b9 L_w0.out.inside)
  replace L_v0 := Lib.hid (L_v0.out.kept b9 L_v0.out.inside)
  replace L_v1 := Lib.hid (L_v1.out.kept b9 L_v1.out.inside)
  replace L_g0 := Lib.hid (L_g0.out.kept b9 L_g0.out.inside)
  replace O_t0x := Lib.hid (O_t0x.out.kept b9)
  replace O_t0y := Lib.hid (O_t0y.out.kept b9)
  replace O_t1x := Lib.hid (O_t1x.out.kept b9)
  replace O_t1y := Lib.hid (O_t1y.out.kept b9)
  replace B := Lib.hid (B.out.trans (b9.mono B.out.size))
  clear b9
  go_wp2_with fail
  have k_0 : W9.cell? ⟨W6.heap.size, 0, none⟩ = some (.slice (some ⟨gt0x, 0, none⟩) n0 n0) ∧ W9.cell? ⟨W6.heap.size, 1, none⟩ = some (.slice (some ⟨gt0y, 0, none⟩) m0 m0) ∧ W9.cell? ⟨w.heap.size, 0, none⟩ = some (.slice A0 n0 c0) ∧ W9.cell? ⟨w.heap.size, 1, none⟩ = some (.slice B0 m0 e0) := ⟨L_v0.out.cell 0, L_v0.out.cell 1, L_a0.out.cell 0, L_a0.out.cell 1⟩
  go_region_held3 (fun w' => w'.cell? ⟨W6.heap.size, 0, none⟩ = some (.slice (some ⟨gt0x, 0, none⟩) n0 n0) ∧ w'.cell? ⟨W6.heap.size, 1, none⟩ = some (.slice (some ⟨gt0y, 0, none⟩) m0 m0) ∧ w'.cell? ⟨w.heap.size, 0, none⟩ = some (.slice A0 n0 c0) ∧ w'.cell? ⟨w.heap.size, 1, none⟩ = some (.slice B0 m0 e0))
    (first | (simp [go_sem, k_0]; done) | with_reducible exact k_1 | with_reducible exact k_2)
    (first
      | (go_at_call 30; refine (toRect_any _ _ _ _ _ _ _ _ xs0 ys0 _ (I_x0.out.kept B.out.drew) (I_y0.out.kept B.out.drew) (by omega) (by omega)).mono ?_
         rintro e W10 ⟨gu0x, gu0y, rfl, ou0x, ou0y, lu0x, lu0y, b10d⟩
         have b10 := below_drawn b10d
         have k_1 : W10.cell? ⟨W6.heap.size, 0, none⟩ = some (.slice (some ⟨gt0x, 0, none⟩) n0 n0) ∧ W10.cell? ⟨W6.heap.size, 1, none⟩ = some (.slice (some ⟨gt0y, 0, none⟩) m0 m0) ∧ W10.cell? ⟨w.heap.size, 0, none⟩ = some (.slice A0 n0 c0) ∧ W10.cell? ⟨w.heap.size, 1, none⟩ = some (.slice B0 m0 e0) := ⟨(L_v0.out.kept b10 L_v0.out.inside).cell 0, (L_v0.out.kept b10 L_v0.out.inside).cell 1, (L_a0.out.kept b10 L_a0.out.inside).cell 0, (L_a0.out.kept b10 L_a0.out.inside).cell 1⟩
         clear b10d)
      | (go_at_call 32; refine (eqRect_is true _ _ _ _ _ _ _ _ _ _ _ _ _ _ _ _ xs0 ys0 xs0 ys0 _ (by simp) ((O_t0x.out.kept b10).ints (Nat.zero_le _)) ((O_t0y.out.kept b10).ints (Nat.zero_le _)) (ou0x.ints (Nat.zero_le _)) (ou0y.ints (Nat.zero_le _)) hn0 hm0).mono ?_
         rintro e W11 ⟨rfl, b11⟩
         have k_2 : W11.cell? ⟨W6.heap.size, 0, none⟩ = some (.slice (some ⟨gt0x, 0, none⟩) n0 n0) ∧ W11.cell? ⟨W6.heap.size, 1, none⟩ = some (.slice (some ⟨gt0y, 0, none⟩) m0 m0) ∧ W11.cell? ⟨w.heap.size, 0, none⟩ = some (.slice A0 n0 c0) ∧ W11.cell? ⟨w.heap.size, 1, none⟩ = some (.slice B0 m0 e0) := ⟨((L_v0.out.kept b10 L_v0.out.inside).kept b11 (L_v0.out.kept b10 L_v0.out.inside).inside).cell 0, ((L_v0.out.kept b10 L_v0.out.inside).kept b11 (L_v0.out.kept b10 L_v0.out.inside).inside).cell 1, ((L_a0.out.kept b10 L_a0.out.inside).kept b11 (L_a0.out.kept b10 L_a0.out.inside).inside).cell 0, ((L_a0.out.kept b10 L_a0.out.inside).kept b11 (L_a0.out.kept b10 L_a0.out.inside).inside).cell 1⟩))
  clear k_0 k_1 k_2
  replace L_a0 := Lib.hid (L_a0.out.kept b10 L_a0.out.inside)
  replace L_a1 := Lib.hid (L_a1.out.kept b10 L_a1.out.inside)
  replace L_w0 := Lib.hid (L_w0.out.kept b10 L_w0.out.inside)
  replace L_v0 := Lib.hid (L_v0.out.kept b10 L_v0.out.inside)
  replace L_v1 := Lib.hid (L_v1.out.kept b10 L_v1.out.inside)
  replace L_g0 := Lib.hid (L_g0.out.kept b10 L_g0.out.inside)
  replace O_t0x := Lib.hid (O_t0x.out.kept b10)
  replace O_t0y := Lib.hid (O_t0y.out.kept b10)
  replace O_t1x := Lib.hid (O_t1x.out.kept b10)
  replace O_t1y := Lib.hid (O_t1y.out.kept b10)
  replace B := Lib.hid (B.out.trans (b10.mono B.out.size))
  clear b10
  have O_u0x := Lib.hid ou0x
  clear ou0x
  have O_u0y := Lib.hid ou0y
  clear ou0y
  replace L_a0 := Lib.hid (L_a0.out.kept b11 L_a0.out.inside)
  replace L_a1 := Lib.hid (L_a1.out.kept b11 L_a1.out.inside)
  replace L_w0 := Lib.hid (L_w0.out.kept b11 L_w0.out.inside)
  replace L_v0 := Lib.hid (L_v0.out.kept b11 L_v0.out.inside)
  replace L_v1 := Lib.hid (L_v1.out.kept b11 L_v1.out.inside)
  replace L_g0 := Lib.hid (L_g0.out.kept b11 L_g0.out.inside)
  replace O_t0x := Lib.hid (O_t0x.out.kept b11)
  replace O_t0y := Lib.hid (O_t0y.out.kept b11)
  replace O_t1x := Lib.hid (O_t1x.out.kept b11)
  replace O_t1y := Lib.hid (O_t1y.out.kept b11)
  replace O_u0x := Lib.hid (O_u0x.out.kept b11)
  replace O_u0y := Lib.hid (O_u0y.out.kept b11)
  replace B := Lib.hid (B.out.trans (b11.mono B.out.size))
  clear b11
  go_wp2_with fail
  have k_0 : W11.cell? ⟨W7.heap.size, 0, none⟩ = some (.slice (some ⟨gt1x, 0, none⟩) n1 n1) ∧ W11.cell? ⟨W7.heap.size, 1, none⟩ = some (.slice (some ⟨gt1y, 0, none⟩) m1 m1) ∧ W11.cell? ⟨w.heap.size + 1, 0, none⟩ = some (.slice A1 n1 c1) ∧ W11.cell? ⟨w.heap.size + 1, 1, none⟩ = some (.slice B1 m1 e1) := ⟨L_v1.out.cell 0, L_v1.out.cell 1, L_a1.out.cell 0, L_a1.out.cell 1⟩
  go_region_held3 (fun w' => w'.cell? ⟨W7.heap.size, 0, none⟩ = some (.slice (some ⟨gt1x, 0, none⟩) n1 n1) ∧ w'.cell? ⟨W7.heap.size, 1, none⟩ = some (.slice (some ⟨gt1y, 0, none⟩) m1 m1) ∧ w'.cell? ⟨w.heap.size + 1, 0, none⟩ = some (.slice A1 n1 c1) ∧ w'.cell? ⟨w.heap.size + 1, 1, none⟩ = some (.slice B1 m1 e1))
    (first | (simp [go_sem, k_0]; done) | with_reducible exact k_1 | with_reducible exact k_2)
    (first
      | (go_at_call 30; refine (toRect_any _ _ _ _ _ _ _ _ xs1 ys1 _ (I_x1.out.kept B.out.drew) (I_y1.out.kept B.out.drew) (by omega) (by omega)).mono ?_
         rintro e W12 ⟨gu1x, gu1y, rfl, ou1x, ou1y, lu1x, lu1y, b12d⟩
         have b12 := below_drawn b12d
         have k_1 : W12.cell? ⟨W7.heap.size, 0, none⟩ = some (.slice (some ⟨gt1x, 0, none⟩) n1 n1) ∧ W12.cell? ⟨W7.heap.size, 1, none⟩ = some (.slice (some ⟨gt1y, 0, none⟩) m1 m1) ∧ W12.cell? ⟨w.heap.size + 1, 0, none⟩ = some (.slice A1 n1 c1) ∧ W12.cell? ⟨w.heap.size + 1, 1, none⟩ = some (.slice B1 m1 e1) := ⟨(L_v1.out.kept b12 L_v1.out.inside).cell 0, (L_v1.out.kept b12 L_v1.out.inside).cell 1, (L_a1.out.kept b12 L_a1.out.inside).cell 0, (L_a1.out.kept b12 L_a1.out.inside).cell 1⟩
         clear b12d)
      | (go_at_call 32; refine (eqRect_is true _ _ _ _ _ _ _ _ _ _ _ _ _ _ _ _ xs1 ys1 xs1 ys1 _ (by simp) ((O_t1x.out.kept b12).ints (Nat.zero_le _)) ((O_t1y.out.kept b12).ints (Nat.zero_le _)) (ou1x.ints (Nat.zero_le _)) (ou1y.ints (Nat.zero_le _)) hn1 hm1).mono ?_
         rintro e W13 ⟨rfl, b13⟩
         have k_2 : W13.cell? ⟨W7.heap.size, 0, none⟩ = some (.slice (some ⟨gt1x, 0, none⟩) n1 n1) ∧ W13.cell? ⟨W7.heap.size, 1, none⟩ = some (.slice (some ⟨gt1y, 0, none⟩) m1 m1) ∧ W13.cell? ⟨w.heap.size + 1, 0, none⟩ = some (.slice A1 n1 c1) ∧ W13.cell? ⟨w.heap.size + 1, 1, none⟩ = some (.slice B1 m1 e1) := ⟨((L_v1.out.kept b12 L_v1.out.inside).kept b13 (L_v1.out.kept b12 L_v1.out.inside).inside).cell 0, ((L_v1.out.kept b12 L_v1.out.inside).kept b13 (L_v1.out.kept b12 L_v1.out.inside).inside).cell 1, ((L_a1.out.kept b12 L_a1.out.inside).kept b13 (L_a1.out.kept b12 L_a1.out.inside).inside).cell 0, ((L_a1.out.kept b12 L_a1.out.inside).kept b13 (L_a1.out.kept b12 L_a1.out.inside).inside).cell 1⟩))
  clear k_0 k_1 k_2
  replace L_a0 := Lib.hid (L_a0.out.kept b12 L_a0.out.inside)
  replace L_a1 := Lib.hid (L_a1.out.kept b12 L_a1.out.inside)
  replace L_w0 := Lib.hid (L_w0.out.kept b12 L_w0.out.inside)
  replace L_v0 := Lib.hid (L_v0.out.kept b12 L_v0.out.inside)
  replace L_v1 := Lib.hid (L_v1.out.kept b12 L_v1.out.inside)
  replace L_g0 := Lib.hid (L_g0.out.kept b12 L_g0.out.inside)
  replace O_t0x := Lib.hid (O_t0x.out.kept b12)
  replace O_t0y := Lib.hid (O_t0y.out.kept b12)
  replace O_t1x := Lib.hid (O_t1x.out.kept b12)
  replace O_t1y := Lib.hid (O_t1y.out.kept b12)
  replace O_u0x := Lib.hid (O_u0x.out.kept b12)
  replace O_u0y := Lib.hid (O_u0y.out.kept b12)
  replace B := Lib.hid (B.out.trans (b12.mono B.out.size))
  clear b12
  have O_u1x := Lib.hid ou1x
  clear ou1x
  have O_u1y := Lib.hid ou1y
  clear ou1y
  replace L_a0 := Lib.hid (L_a0.out.kept b13 L_a0.out.inside)
  replace L_a1 := Lib.hid (L_a1.out.kept b13 L_a1.out.inside)
  replace L_w0 := Lib.hid (L_w0.out.kept b13 L_w0.out.inside)
  replace L_v0 := Lib.hid (L_v0.out.kept b13 L_v0.out.inside)
  replace L_v1 := Lib.hid (L_v1.out.kept b13 L_v1.out.inside)
  replace L_g0 := Lib.hid (L_g0.out.kept b13 L_g0.out.inside)
  replace O_t0x := Lib.hid (O_t0x.out.kept b13)
  replace O_t0y := Lib.hid (O_t0y.out.kept b13)
  replace O_t1x := Lib.hid (O_t1x.out.kept b13)
  replace O_t1y := Lib.hid (O_t1y.out.kept b13)
  replace O_u0x := Lib.hid (O_u0x.out.kept b13)
  replace O_u0y := Lib.hid (O_u0y.out.kept b13)
  replace O_u1x := Lib.hid (O_u1x.out.kept b13)
  replace O_u1y := Lib.hid (O_u1y.out.kept b13)
  replace B := Lib.hid (B.out.trans (b13.mono B.out.size))
  clear b13
  go_wp2
  go_ret
  exact ⟨rfl, B.out⟩

end Go.Proofs.Ytbnlgmcjklfcoab
