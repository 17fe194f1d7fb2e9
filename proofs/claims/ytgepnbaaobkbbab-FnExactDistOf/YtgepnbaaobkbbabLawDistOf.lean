/- FnExactDistOf: for every box and every point impl.DistOf answers as the model does and leaves its arguments alone. No condition. -/
import Derived.Test.YtgepnbaaobkbbabDist
import Derived.Test.YtgepnbaaobkbbabLawRectFault
namespace Go.Proofs.Ytgepnbaaobkbbab
open Go.RowKit

set_option maxHeartbeats 3200000 in
theorem lawDistOf_walk (n0 c0 m0 e0 : Nat) (A0 B0 : Option Addr) (xs0 ys0 : List Int) (n1 c1 : Nat) (A1 : Option Addr) (xs1 : List Int) (w : World) (hx0 : Ints w 0 A0 n0 xs0) (hy0 : Ints w 0 B0 m0 ys0) (hn0 : n0 ≤ maxLen) (hm0 : m0 ≤ maxLen) (hx1 : Ints w 0 A1 n1 xs1) (hn1 : n1 ≤ maxLen) :
    Calls Try.prog 3 #[.agg #[.slice A0 n0 c0, .slice B0 m0 e0], .slice A1 n1 c1] w fun e w' => e = .returned (.bool true) ∧ Below w.heap.size w w' := by
  have I_x0 := Lib.hid hx0
  have I_y0 := Lib.hid hy0
  have I_x1 := Lib.hid hx1
  clear hx0 hy0 hx1
  have B := Lib.hid (Below.refl w.heap.size w)
  have L_a0 := Lib.hid (Lies.new w 24 #[.slice A0 n0 c0, .slice B0 m0 e0])
  replace B := Lib.hid (B.out.alloc B.out.size (.cells #[.slice A0 n0 c0, .slice B0 m0 e0] 24))
  by_cases z0 : (1048576 : Int) < n1
  · unfold maxLen at hn1
    go_enter Try.func3, Try.ntmps3
    go_wp2
    go_ret
    exact ⟨rfl, B.out⟩
  by_cases z1 : (1048576 : Int) < n0 + m0
  · go_enter Try.func3, Try.ntmps3
    go_wp2_with fail
    refine (szRect_no _ _ _ _ _ _ _ _ (by omega) (by omega) hn0 hm0 (by omega)).mono ?_
    rintro e W1 ⟨rfl, b1⟩
    replace L_a0 := Lib.hid (L_a0.out.kept b1 L_a0.out.inside)
    replace B := Lib.hid (B.out.trans (b1.mono B.out.size))
    clear b1
    go_wp2
    go_ret
    exact ⟨rfl, B.out⟩
  go_enter Try.func3, Try.ntmps3
  go_wp2_with fail
  refine (szRect_yes _ _ _ _ _ _ _ _ (by omega) hn0 hm0 (by omega)).mono ?_
  rintro e W1 ⟨rfl, b1⟩
  replace L_a0 := Lib.hid (L_a0.out.kept b1 L_a0.out.inside)
  replace B := Lib.hid (B.out.trans (b1.mono B.out.size))
  clear b1
  have c_a00 : W1.cell? ⟨w.heap.size, 0, none⟩ = some (.slice A0 n0 c0) := L_a0.out.cell 0
  have c_a01 : W1.cell? ⟨w.heap.size, 1, none⟩ = some (.slice B0 m0 e0) := L_a0.out.cell 1
  go_wp2_with fail
  clear c_a00 c_a01
  refine (toRect_any _ _ _ _ _ _ _ _ xs0 ys0 _ (I_x0.out.kept B.out) (I_y0.out.kept B.out) (by omega) (by omega)).mono ?_
  rintro e W2 ⟨gs0x, gs0y, rfl, os0x, os0y, ls0x, ls0y, b2⟩
  replace L_a0 := Lib.hid (L_a0.out.kept b2 L_a0.out.inside)
  replace B := Lib.hid (B.out.trans (b2.mono B.out.size))
  clear b2
  have O_s0x := Lib.hid os0x
  clear os0x
  have O_s0y := Lib.hid os0y
  clear os0y
  go_wp2_with fail
  refine (toInt64S_new _ _ _ _ xs1 _ (I_x1.out.kept B.out) (by omega)).mono ?_
  rintro e W3 ⟨gs1x, rfl, ls1x, os1x, b3⟩
  replace L_a0 := Lib.hid (L_a0.out.kept b3 L_a0.out.inside)
  replace O_s0x := Lib.hid (O_s0x.out.kept b3)
  replace O_s0y := Lib.hid (O_s0y.out.kept b3)
  replace B := Lib.hid (B.out.trans (b3.mono B.out.size))
  clear b3
  have O_s1x := Lib.hid os1x
  clear os1x
  go_wp2_with fail
  refine (specDistOf_any _ _ _ _ _ _ _ _ _ _ _ _ xs0 ys0 xs1 _ (O_s0x.out.ints (Nat.zero_le _)) (O_s0y.out.ints (Nat.zero_le _)) (O_s1x.out.ints (Nat.zero_le _)) hn0 hm0 hn1).mono ?_
  rintro e W4 ⟨rfl, b4⟩
  replace L_a0 := Lib.hid (L_a0.out.kept b4 L_a0.out.inside)
  replace O_s0x := Lib.hid (O_s0x.out.kept b4)
  replace O_s0y := Lib.hid (O_s0y.out.kept b4)
  replace O_s1x := Lib.hid (O_s1x.out.kept b4)
  replace B := Lib.hid (B.out.trans (b4.mono B.out.size))
  clear b4
  clear O_s0x
  clear O_s0y
  clear O_s1x
  replace L_a0 := Lib.hid (L_a0.out.alloc (.cells #[.int .i64 (distF xs0 ys0 xs1).1, .int .i64 (distF xs0 ys0 xs1).2] 27))
  have L_w0 := Lib.hid (Lies.new W4 27 #[.int .i64 (distF xs0 ys0 xs1).1, .int .i64 (distF xs0 ys0 xs1).2])
  replace B := Lib.hid (B.out.alloc B.out.size (.cells #[.int .i64 (distF xs0 ys0 xs1).1, .int .i64 (distF xs0 ys0 xs1).2] 27))
  have c_a00 : (W4.alloc (.cells #[.int .i64 (distF xs0 ys0 xs1).1, .int .i64 (distF xs0 ys0 xs1).2] 27)).cell? ⟨w.heap.size, 0, none⟩ = some (.slice A0 n0 c0) := L_a0.out.cell 0
  have c_a01 : (W4.alloc (.cells #[.int .i64 (distF xs0 ys0 xs1).1, .int .i64 (distF xs0 ys0 xs1).2] 27)).cell? ⟨w.heap.size, 1, none⟩ = some (.slice B0 m0 e0) := L_a0.out.cell 1
  go_wp2_with fail
  clear c_a00 c_a01
  refine (toRect_any _ _ _ _ _ _ _ _ xs0 ys0 _ (I_x0.out.kept B.out) (I_y0.out.kept B.out) (by omega) (by omega)).mono ?_
  rintro e W5 ⟨gt0x, gt0y, rfl, ot0x, ot0y, lt0x, lt0y, b5⟩
  replace L_a0 := Lib.hid (L_a0.out.kept b5 L_a0.out.inside)
  replace L_w0 := Lib.hid (L_w0.out.kept b5 L_w0.out.inside)
  replace B := Lib.hid (B.out.trans (b5.mono B.out.size))
  clear b5
  have O_t0x := Lib.hid ot0x
  clear ot0x
  have O_t0y := Lib.hid ot0y
  clear ot0y
  replace L_a0 := Lib.hid (L_a0.out.alloc (.cells #[.slice (some ⟨gt0x, 0, none⟩) n0 n0, .slice (some ⟨gt0y, 0, none⟩) m0 m0] 29))
  replace L_w0 := Lib.hid (L_w0.out.alloc (.cells #[.slice (some ⟨gt0x, 0, none⟩) n0 n0, .slice (some ⟨gt0y, 0, none⟩) m0 m0] 29))
  replace O_t0x := Lib.hid (O_t0x.out.kept (below_alloc _ (.cells #[.slice (some ⟨gt0x, 0, none⟩) n0 n0, .slice (some ⟨gt0y, 0, none⟩) m0 m0] 29)))
  replace O_t0y := Lib.hid (O_t0y.out.kept (below_alloc _ (.cells #[.slice (some ⟨gt0x, 0, none⟩) n0 n0, .slice (some ⟨gt0y, 0, none⟩) m0 m0] 29)))
  have L_v0 := Lib.hid (Lies.new W5 29 #[.slice (some ⟨gt0x, 0, none⟩) n0 n0, .slice (some ⟨gt0y, 0, none⟩) m0 m0])
  replace B := Lib.hid (B.out.alloc B.out.size (.cells #[.slice (some ⟨gt0x, 0, none⟩) n0 n0, .slice (some ⟨gt0y, 0, none⟩) m0 m0] 29))
  go_wp2_with fail
  refine (toInt64S_new _ _ _ _ xs1 _ (I_x1.out.kept B.out) (by omega)).mono ?_
  rintro e W6 ⟨gt1x, rfl, lt1x, ot1x, b6⟩
  replace L_a0 := Lib.hid (L_a0.out.kept b6 L_a0.out.inside)
  replace L_w0 := Lib.hid (L_w0.out.kept b6 L_w0.out.inside)
  replace L_v0 := Lib.hid (L_v0.out.kept b6 L_v0.out.inside)
  replace O_t0x := Lib.hid (O_t0x.out.kept b6)
  replace O_t0y := Lib.hid (O_t0y.out.kept b6)
  replace B := Lib.hid (B.out.trans (b6.mono B.out.size))
  clear b6
  have O_t1x := Lib.hid ot1x
  clear ot1x
  have c_v00 : W6.cell? ⟨W5.heap.size, 0, none⟩ = some (.slice (some ⟨gt0x, 0, none⟩) n0 n0) := L_v0.out.cell 0
  have c_v01 : W6.cell? ⟨W5.heap.size, 1, none⟩ = some (.slice (some ⟨gt0y, 0, none⟩) m0 m0) := L_v0.out.cell 1
  go_wp2_with fail
  clear c_v00 c_v01
  refine (implDistOf_any _ _ _ _ _ _ _ _ _ _ _ _ xs0 ys0 xs1 _ (O_t0x.out.ints (Nat.zero_le _)) (O_t0y.out.ints (Nat.zero_le _)) (O_t1x.out.ints (Nat.zero_le _)) hn0 hm0 hn1).mono ?_
  rintro e W7 ⟨rfl, b7⟩
  replace L_a0 := Lib.hid (L_a0.out.kept b7 L_a0.out.inside)
  replace L_w0 := Lib.hid (L_w0.out.kept b7 L_w0.out.inside)
  replace L_v0 := Lib.hid (L_v0.out.kept b7 L_v0.out.inside)
  replace O_t0x := Lib.hid (O_t0x.out.kept b7)
  replace O_t0y := Lib.hid (O_t0y.out.kept b7)
  replace O_t1x := Lib.hid (O_t1x.out.kept b7)
  replace B := Lib.hid (B.out.trans (b7.mono B.out.size))
  clear b7
  replace L_a0 := Lib.hid (L_a0.out.alloc (.cells #[.int .i64 (distF xs0 ys0 xs1).1, .int .i64 (distF xs0 ys0 xs1).2] 27))
  replace L_w0 := Lib.hid (L_w0.out.alloc (.cells #[.int .i64 (distF xs0 ys0 xs1).1, .int .i64 (distF xs0 ys0 xs1).2] 27))
  replace L_v0 := Lib.hid (L_v0.out.alloc (.cells #[.int .i64 (distF xs0 ys0 xs1).1, .int .i64 (distF xs0 ys0 xs1).2] 27))
  replace O_t0x := Lib.hid (O_t0x.out.kept (below_alloc _ (.cells #[.int .i64 (distF xs0 ys0 xs1).1, .int .i64 (distF xs0 ys0 xs1).2] 27)))
  replace O_t0y := Lib.hid (O_t0y.out.kept (below_alloc _ (.cells #[.int .i64 (distF xs0 ys0 xs1).1, .int .i64 (distF xs0 ys0 xs1).2] 27)))
  replace O_t1x := Lib.hid (O_t1x.out.kept (below_alloc _ (.cells #[.int .i64 (distF xs0 ys0 xs1).1, .int .i64 (distF xs0 ys0 xs1).2] 27)))
  have L_g0 := Lib.hid (Lies.new W7 27 #[.int .i64 (distF xs0 ys0 xs1).1, .int .i64 (distF xs0 ys0 xs1).2])
  replace B := Lib.hid (B.out.alloc B.out.size (.cells #[.int .i64 (distF xs0 ys0 xs1).1, .int .i64 (distF xs0 ys0 xs1).2] 27))
  have c_w00 : (W7.alloc (.cells #[.int .i64 (distF xs0 ys0 xs1).1, .int .i64 (distF xs0 ys0 xs1).2] 27)).cell? ⟨W4.heap.size, 0, none⟩ = some (.int .i64 (distF xs0 ys0 xs1).1) := L_w0.out.cell 0
  have c_w01 : (W7.alloc (.cells #[.int .i64 (distF xs0 ys0 xs1).1, .int .i64 (distF xs0 ys0 xs1).2] 27)).cell? ⟨W4.heap.size, 1, none⟩ = some (.int .i64 (distF xs0 ys0 xs1).2) := L_w0.out.cell 1
  go_wp2_with fail
  clear c_w00 c_w01
  refine (eqIntResult_same _ _ _).mono ?_
  rintro e W8 ⟨rfl, b8⟩
  replace L_a0 := Lib.hid (L_a0.out.kept b8 L_a0.out.inside)
  replace L_w0 := Lib.hid (L_w0.out.kept b8 L_w0.out.inside)
  replace L_v0 := Lib.hid (L_v0.out.kept b8 L_v0.out.inside)
  replace L_g0 := Lib.hid (L_g0.out.kept b8 L_g0.out.inside)
  replace O_t0x := Lib.hid (O_t0x.out.kept b8)
  replace O_t0y := Lib.hid (O_t0y.out.kept b8)
  replace O_t1x := Lib.hid (O_t1x.out.kept b8)
  replace B := Lib.hid (B.out.trans (b8.mono B.out.size))
  clear b8
  go_wp2_with fail
  have k_0 : W8.cell? ⟨W5.heap.size, 0, none⟩ = some (.slice (some ⟨gt0x, 0, none⟩) n0 n0) ∧ W8.cell? ⟨W5.heap.size, 1, none⟩ = some (.slice (some ⟨gt0y, 0, none⟩) m0 m0) ∧ W8.cell? ⟨w.heap.size, 0, none⟩ = some (.slice A0 n0 c0) ∧ W8.cell? ⟨w.heap.size, 1, none⟩ = some (.slice B0 m0 e0) := ⟨L_v0.out.cell 0, L_v0.out.cell 1, L_a0.out.cell 0, L_a0.out.cell 1⟩
  go_region_held3 (fun w' => w'.cell? ⟨W5.heap.size, 0, none⟩ = some (.slice (some ⟨gt0x, 0, none⟩) n0 n0) ∧ w'.cell? ⟨W5.heap.size, 1, none⟩ = some (.slice (some ⟨gt0y, 0, none⟩) m0 m0) ∧ w'.cell? ⟨w.heap.size, 0, none⟩ = some (.slice A0 n0 c0) ∧ w'.cell? ⟨w.heap.size, 1, none⟩ = some (.slice B0 m0 e0))
    (first | (simp [go_sem, k_0]; done) | with_reducible exact k_1 | with_reducible exact k_2)
    (first
      | (go_at_call 7; refine (toRect_any _ _ _ _ _ _ _ _ xs0 ys0 _ (I_x0.out.kept B.out.drew) (I_y0.out.kept B.out.drew) (by omega) (by omega)).mono ?_
         rintro e W9 ⟨gu0x, gu0y, rfl, ou0x, ou0y, lu0x, lu0y, b9d⟩
         have b9 := below_drawn b9d
         have k_1 : W9.cell? ⟨W5.heap.size, 0, none⟩ = some (.slice (some ⟨gt0x, 0, none⟩) n0 n0) ∧ W9.cell? ⟨W5.heap.size, 1, none⟩ = some (.slice (some ⟨gt0y, 0, none⟩) m0 m0) ∧ W9.cell? ⟨w.heap.size, 0, none⟩ = some (.slice A0 n0 c0) ∧ W9.cell? ⟨w.heap.size, 1, none⟩ = some (.slice B0 m0 e0) := ⟨(L_v0.out.kept b9 L_v0.out.inside).cell 0, (L_v0.out.kept b9 L_v0.out.inside).cell 1, (L_a0.out.kept b9 L_a0.out.inside).cell 0, (L_a0.out.kept b9 L_a0.out.inside).cell 1⟩
         clear b9d)
      | (go_at_call 11; refine (eqRect_is true _ _ _ _ _ _ _ _ _ _ _ _ _ _ _ _ xs0 ys0 xs0 ys0 _ (by simp) ((O_t0x.out.kept b9).ints (Nat.zero_le _)) ((O_t0y.out.kept b9).ints (Nat.zero_le _)) (ou0x.ints (Nat.zero_le _)) (ou0y.ints (Nat.zero_le _)) hn0 hm0).mono ?_
         rintro e W10 ⟨rfl, b10⟩
         have k_2 : W10.cell? ⟨W5.heap.size, 0, none⟩ = some (.slice (some ⟨gt0x, 0, none⟩) n0 n0) ∧ W10.cell? ⟨W5.heap.size, 1, none⟩ = some (.slice (some ⟨gt0y, 0, none⟩) m0 m0) ∧ W10.cell? ⟨w.heap.size, 0, none⟩ = some (.slice A0 n0 c0) ∧ W10.cell? ⟨w.heap.size, 1, none⟩ = some (.slice B0 m0 e0) := ⟨((L_v0.out.kept b9 L_v0.out.inside).kept b10 (L_v0.out.kept b9 L_v0.out.inside).inside).cell 0, ((L_v0.out.kept b9 L_v0.out.inside).kept b10 (L_v0.out.kept b9 L_v0.out.inside).inside).cell 1, ((L_a0.out.kept b9 L_a0.out.inside).kept b10 (L_a0.out.kept b9 L_a0.out.inside).inside).cell 0, ((L_a0.out.kept b9 L_a0.out.inside).kept b10 (L_a0.out.kept b9 L_a0.out.inside).inside).cell 1⟩))
  clear k_0 k_1 k_2
  replace L_a0 := Lib.hid (L_a0.out.kept b9 L_a0.out.inside)
  replace L_w0 := Lib.hid (L_w0.out.kept b9 L_w0.out.inside)
  replace L_v0 := Lib.hid (L_v0.out.kept b9 L_v0.out.inside)
  replace L_g0 := Lib.hid (L_g0.out.kept b9 L_g0.out.inside)
  replace O_t0x := Lib.hid (O_t0x.out.kept b9)
  replace O_t0y := Lib.hid (O_t0y.out.kept b9)
  replace O_t1x := Lib.hid (O_t1x.out.kept b9)
  replace B := Lib.hid (B.out.trans (b9.mono B.out.size))
  clear b9
  have O_u0x := Lib.hid ou0x
  clear ou0x
  have O_u0y := Lib.hid ou0y
  clear ou0y
  replace L_a0 := Lib.hid (L_a0.out.kept b10 L_a0.out.inside)
  replace L_w0 := Lib.hid (L_w0.out.kept b10 L_w0.out.inside)
  replace L_v0 := Lib.hid (L_v0.out.kept b10 L_v0.out.inside)
  replace L_g0 := Lib.hid (L_g0.out.kept b10 L_g0.out.inside)
  replace O_t0x := Lib.hid (O_t0x.out.kept b10)
  replace O_t0y := Lib.hid (O_t0y.out.kept b10)
  replace O_t1x := Lib.hid (O_t1x.out.kept b10)
  replace O_u0x := Lib.hid (O_u0x.out.kept b10)
  replace O_u0y := Lib.hid (O_u0y.out.kept b10)
  replace B := Lib.hid (B.out.trans (b10.mono B.out.size))
  clear b10
  go_wp2_with fail
  refine (toInt64S_new _ _ _ _ xs1 _ (I_x1.out.kept B.out) (by omega)).mono ?_
  rintro e W11 ⟨gu1x, rfl, lu1x, ou1x, b11⟩
  replace L_a0 := Lib.hid (L_a0.out.kept b11 L_a0.out.inside)
  replace L_w0 := Lib.hid (L_w0.out.kept b11 L_w0.out.inside)
  replace L_v0 := Lib.hid (L_v0.out.kept b11 L_v0.out.inside)
  replace L_g0 := Lib.hid (L_g0.out.kept b11 L_g0.out.inside)
  replace O_t0x := Lib.hid (O_t0x.out.kept b11)
  replace O_t0y := Lib.hid (O_t0y.out.kept b11)
  replace O_t1x := Lib.hid (O_t1x.out.kept b11)
  replace O_u0x := Lib.hid (O_u0x.out.kept b11)
  replace O_u0y := Lib.hid (O_u0y.out.kept b11)
  replace B := Lib.hid (B.out.trans (b11.mono B.out.size))
  clear b11
  have O_u1x := Lib.hid ou1x
  clear ou1x
  go_wp2_with fail
  refine (eqInt64S_is true _ _ _ _ _ _ _ _ xs1 xs1 _ (by simp) (O_t1x.out.ints (Nat.zero_le _)) (O_u1x.out.ints (Nat.zero_le _)) hn1).mono ?_
  rintro e w' ⟨rfl, q, rfl⟩
  go_wp2
  go_ret
  exact ⟨rfl, below_draws B.out _⟩

end Go.Proofs.Ytgepnbaaobkbbab
