/- FnExactCovers: for every two boxes impl.Covers answers as the model does and leaves its arguments alone. No condition. -/
import Derived.Test.YtbonpmgbcdknbabCovers
namespace Go.Proofs.Ytbonpmgbcdknbab
open Go.RowKit

set_option maxHeartbeats 3200000 in
theorem lawCovers_walk (n0 c0 m0 e0 : Nat) (A0 B0 : Option Addr) (xs0 ys0 : List Int) (n1 c1 m1 e1 : Nat) (A1 B1 : Option Addr) (xs1 ys1 : List Int) (w : World) (hx0 : Ints w 0 A0 n0 xs0) (hy0 : Ints w 0 B0 m0 ys0) (hn0 : n0 ≤ maxLen) (hm0 : m0 ≤ maxLen) (hx1 : Ints w 0 A1 n1 xs1) (hy1 : Ints w 0 B1 m1 ys1) (hn1 : n1 ≤ maxLen) (hm1 : m1 ≤ maxLen) :
    Calls Try.prog 5 #[.agg #[.slice A0 n0 c0, .slice B0 m0 e0], .agg #[.slice A1 n1 c1, .slice B1 m1 e1]] w fun e w' => e = .returned (.bool true) ∧ Below w.heap.size w w' := by
  have I_x0 := Lib.hid hx0
  have I_y0 := Lib.hid hy0
  have I_x1 := Lib.hid hx1
  have I_y1 := Lib.hid hy1
  clear hx0 hy0 hx1 hy1
  have B := Lib.hid (Below.refl w.heap.size w)
  have L_a0 := Lib.hid (Lies.new w 24 #[.slice A0 n0 c0, .slice B0 m0 e0])
  replace B := Lib.hid (B.out.alloc B.out.size (.cells #[.slice A0 n0 c0, .slice B0 m0 e0] 24))
  replace L_a0 := Lib.hid (L_a0.out.alloc (.cells #[.slice A1 n1 c1, .slice B1 m1 e1] 24))
  have L_a1 := Lib.hid (Lies.new (w.alloc (.cells #[.slice A0 n0 c0, .slice B0 m0 e0] 24)) 24 #[.slice A1 n1 c1, .slice B1 m1 e1])
  replace B := Lib.hid (B.out.alloc B.out.size (.cells #[.slice A1 n1 c1, .slice B1 m1 e1] 24))
  simp only [World.size_alloc] at L_a1
  by_cases z0 : (1048576 : Int) < n0 + m0
  · go_enter Try.func5, Try.ntmps5
    go_wp2_with fail
    refine (szRect_no _ _ _ _ _ _ _ _ (by omega) (by omega) hn0 hm0 (by omega)).mono ?_
    rintro e W1 ⟨rfl, b1⟩
    replace L_a0 := Lib.hid (L_a0.out.kept b1 L_a0.out.inside)
    replace L_a1 := Lib.hid (L_a1.out.kept b1 L_a1.out.inside)
    replace B := Lib.hid (B.out.trans (b1.mono B.out.size))
    clear b1
    go_wp2
    go_ret
    exact ⟨rfl, B.out⟩
  by_cases z1 : (1048576 : Int) - n0 - m0 < n1 + m1
  · go_enter Try.func5, Try.ntmps5
    go_wp2_with fail
    refine (szRect_yes _ _ _ _ _ _ _ _ (by omega) hn0 hm0 (by omega)).mono ?_
    rintro e W1 ⟨rfl, b1⟩
    replace L_a0 := Lib.hid (L_a0.out.kept b1 L_a0.out.inside)
    replace L_a1 := Lib.hid (L_a1.out.kept b1 L_a1.out.inside)
    replace B := Lib.hid (B.out.trans (b1.mono B.out.size))
    clear b1
    have c_a00 : W1.cell? ⟨w.heap.size, 0, none⟩ = some (.slice A0 n0 c0) := L_a0.out.cell 0
    have c_a01 : W1.cell? ⟨w.heap.size, 1, none⟩ = some (.slice B0 m0 e0) := L_a0.out.cell 1
    have c_a10 : W1.cell? ⟨w.heap.size + 1, 0, none⟩ = some (.slice A1 n1 c1) := L_a1.out.cell 0
    have c_a11 : W1.cell? ⟨w.heap.size + 1, 1, none⟩ = some (.slice B1 m1 e1) := L_a1.out.cell 1
    go_wp2_with fail
    clear c_a00 c_a01 c_a10 c_a11
    refine (szRect_no _ _ _ _ _ _ _ _ (by omega) (by omega) hn1 hm1 (by omega)).mono ?_
    rintro e W2 ⟨rfl, b2⟩
    replace L_a0 := Lib.hid (L_a0.out.kept b2 L_a0.out.inside)
    replace L_a1 := Lib.hid (L_a1.out.kept b2 L_a1.out.inside)
    replace B := Lib.hid (B.out.trans (b2.mono B.out.size))
    clear b2
    go_wp2
    go_ret
    exact ⟨rfl, B.out⟩
  go_enter Try.func5, Try.ntmps5
  go_wp2_with fail
  refine (szRect_yes _ _ _ _ _ _ _ _ (by omega) hn0 hm0 (by omega)).mono ?_
  rintro e W1 ⟨rfl, b1⟩
  replace L_a0 := Lib.hid (L_a0.out.kept b1 L_a0.out.inside)
  replace L_a1 := Lib.hid (L_a1.out.kept b1 L_a1.out.inside)
  replace B := Lib.hid (B.out.trans (b1.mono B.out.size))
  clear b1
  have c_a00 : W1.cell? ⟨w.heap.size, 0, none⟩ = some (.slice A0 n0 c0) := L_a0.out.cell 0
  have c_a01 : W1.cell? ⟨w.heap.size, 1, none⟩ = some (.slice B0 m0 e0) := L_a0.out.cell 1
  have c_a10 : W1.cell? ⟨w.heap.size + 1, 0, none⟩ = some (.slice A1 n1 c1) := L_a1.out.cell 0
  have c_a11 : W1.cell? ⟨w.heap.size + 1, 1, none⟩ = some (.slice B1 m1 e1) := L_a1.out.cell 1
  go_wp2_with fail
  clear c_a00 c_a01 c_a10 c_a11
  refine (szRect_yes _ _ _ _ _ _ _ _ (by omega) hn1 hm1 (by omega)).mono ?_
  rintro e W2 ⟨rfl, b2⟩
  replace L_a0 := Lib.hid (L_a0.out.kept b2 L_a0.out.inside)
  replace L_a1 := Lib.hid (L_a1.out.kept b2 L_a1.out.inside)
  replace B := Lib.hid (B.out.trans (b2.mono B.out.size))
  clear b2
  go_wp2_with fail
  have k_0 : W2.cell? ⟨w.heap.size, 0, none⟩ = some (.slice A0 n0 c0) ∧ W2.cell? ⟨w.heap.size, 1, none⟩ = some (.slice B0 m0 e0) ∧ W2.cell? ⟨w.heap.size + 1, 0, none⟩ = some (.slice A1 n1 c1) ∧ W2.cell? ⟨w.heap.size + 1, 1, none⟩ = some (.slice B1 m1 e1) := ⟨L_a0.out.cell 0, L_a0.out.cell 1, L_a1.out.cell 0, L_a1.out.cell 1⟩
  go_region_held3 (fun w' => w'.cell? ⟨w.heap.size, 0, none⟩ = some (.slice A0 n0 c0) ∧ w'.cell? ⟨w.heap.size, 1, none⟩ = some (.slice B0 m0 e0) ∧ w'.cell? ⟨w.heap.size + 1, 0, none⟩ = some (.slice A1 n1 c1) ∧ w'.cell? ⟨w.heap.size + 1, 1, none⟩ = some (.slice B1 m1 e1))
    (first | (simp [go_sem, k_0]; done) | with_reducible exact k_1 | with_reducible exact k_2 | with_reducible exact k_3)
    (first
      | (go_at_call_of 12 (Value.agg #[.slice A0 n0 c0, .slice B0 m0 e0]); refine (toRect_any _ _ _ _ _ _ _ _ xs0 ys0 _ (I_x0.out.kept B.out.drew) (I_y0.out.kept B.out.drew) (by omega) (by omega)).mono ?_
         rintro e W3 ⟨gs0x, gs0y, rfl, os0x, os0y, ls0x, ls0y, b3d⟩
         have b3 := below_drawn b3d
         have k_1 : W3.cell? ⟨w.heap.size, 0, none⟩ = some (.slice A0 n0 c0) ∧ W3.cell? ⟨w.heap.size, 1, none⟩ = some (.slice B0 m0 e0) ∧ W3.cell? ⟨w.heap.size + 1, 0, none⟩ = some (.slice A1 n1 c1) ∧ W3.cell? ⟨w.heap.size + 1, 1, none⟩ = some (.slice B1 m1 e1) := ⟨(L_a0.out.kept b3 L_a0.out.inside).cell 0, (L_a0.out.kept b3 L_a0.out.inside).cell 1, (L_a1.out.kept b3 L_a1.out.inside).cell 0, (L_a1.out.kept b3 L_a1.out.inside).cell 1⟩
         clear b3d)
      | (go_at_call_of 12 (Value.agg #[.slice A1 n1 c1, .slice B1 m1 e1]); refine (toRect_any _ _ _ _ _ _ _ _ xs1 ys1 _ (I_x1.out.kept (B.out.trans (b3.mono B.out.size))) (I_y1.out.kept (B.out.trans (b3.mono B.out.size))) (by omega) (by omega)).mono ?_
         rintro e W4 ⟨gs1x, gs1y, rfl, os1x, os1y, ls1x, ls1y, b4⟩
         have k_2 : W4.cell? ⟨w.heap.size, 0, none⟩ = some (.slice A0 n0 c0) ∧ W4.cell? ⟨w.heap.size, 1, none⟩ = some (.slice B0 m0 e0) ∧ W4.cell? ⟨w.heap.size + 1, 0, none⟩ = some (.slice A1 n1 c1) ∧ W4.cell? ⟨w.heap.size + 1, 1, none⟩ = some (.slice B1 m1 e1) := ⟨((L_a0.out.kept b3 L_a0.out.inside).kept b4 (L_a0.out.kept b3 L_a0.out.inside).inside).cell 0, ((L_a0.out.kept b3 L_a0.out.inside).kept b4 (L_a0.out.kept b3 L_a0.out.inside).inside).cell 1, ((L_a1.out.kept b3 L_a1.out.inside).kept b4 (L_a1.out.kept b3 L_a1.out.inside).inside).cell 0, ((L_a1.out.kept b3 L_a1.out.inside).kept b4 (L_a1.out.kept b3 L_a1.out.inside).inside).cell 1⟩)
      | (go_at_call 22; refine (specCovers_any _ _ _ _ _ _ _ _ _ _ _ _ _ _ _ _ xs0 ys0 xs1 ys1 _ ((os0x.kept b4).ints (Nat.zero_le _)) ((os0y.kept b4).ints (Nat.zero_le _)) (os1x.ints (Nat.zero_le _)) (os1y.ints (Nat.zero_le _)) hn0 hm0 hn1 hm1).mono ?_
         rintro e W5 ⟨rfl, b5⟩
         have k_3 : W5.cell? ⟨w.heap.size, 0, none⟩ = some (.slice A0 n0 c0) ∧ W5.cell? ⟨w.heap.size, 1, none⟩ = some (.slice B0 m0 e0) ∧ W5.cell? ⟨w.heap.size + 1, 0, none⟩ = some (.slice A1 n1 c1) ∧ W5.cell? ⟨w.heap.size + 1, 1, none⟩ = some (.slice B1 m1 e1) := ⟨(((L_a0.out.kept b3 L_a0.out.inside).kept b4 (L_a0.out.kept b3 L_a0.out.inside).inside).kept b5 ((L_a0.out.kept b3 L_a0.out.inside).kept b4 (L_a0.out.kept b3 L_a0.out.inside).inside).inside).cell 0, (((L_a0.out.kept b3 L_a0.out.inside).kept b4 (L_a0.out.kept b3 L_a0.out.inside).inside).kept b5 ((L_a0.out.kept b3 L_a0.out.inside).kept b4 (L_a0.out.kept b3 L_a0.out.inside).inside).inside).cell 1, (((L_a1.out.kept b3 L_a1.out.inside).kept b4 (L_a1.out.kept b3 L_a1.out.inside).inside).kept b5 ((L_a1.out.kept b3 L_a1.out.inside).kept b4 (L_a1.out.kept b3 L_a1.out.inside).inside).inside).cell 0, (((L_a1.out.kept b3 L_a1.out.inside).kept b4 (L_a1.out.kept b3 L_a1.out.inside).inside).kept b5 ((L_a1.out.kept b3 L_a1.out.inside).kept b4 (L_a1.out.kept b3 L_a1.out.inside).inside).inside).cell 1⟩))
  clear k_0 k_1 k_2 k_3
  replace L_a0 := Lib.hid (L_a0.out.kept b3 L_a0.out.inside)
  replace L_a1 := Lib.hid (L_a1.out.kept b3 L_a1.out.inside)
  replace B := Lib.hid (B.out.trans (b3.mono B.out.size))
  clear b3
  have O_s0x := Lib.hid os0x
  clear os0x
  have O_s0y := Lib.hid os0y
  clear os0y
  replace L_a0 := Lib.hid (L_a0.out.kept b4 L_a0.out.inside)
  replace L_a1 := Lib.hid (L_a1.out.kept b4 L_a1.out.inside)
  replace O_s0x := Lib.hid (O_s0x.out.kept b4)
  replace O_s0y := Lib.hid (O_s0y.out.kept b4)
  replace B := Lib.hid (B.out.trans (b4.mono B.out.size))
  clear b4
  have O_s1x := Lib.hid os1x
  clear os1x
  have O_s1y := Lib.hid os1y
  clear os1y
  replace L_a0 := Lib.hid (L_a0.out.kept b5 L_a0.out.inside)
  replace L_a1 := Lib.hid (L_a1.out.kept b5 L_a1.out.inside)
  replace O_s0x := Lib.hid (O_s0x.out.kept b5)
  replace O_s0y := Lib.hid (O_s0y.out.kept b5)
  replace O_s1x := Lib.hid (O_s1x.out.kept b5)
  replace O_s1y := Lib.hid (O_s1y.out.kept b5)
  replace B := Lib.hid (B.out.trans (b5.mono B.out.size))
  clear b5
  clear O_s0x
  clear O_s0y
  clear O_s1x
  clear O_s1y
  have c_a00 : W5.cell? ⟨w.heap.size, 0, none⟩ = some (.slice A0 n0 c0) := L_a0.out.cell 0
  have c_a01 : W5.cell? ⟨w.heap.size, 1, none⟩ = some (.slice B0 m0 e0) := L_a0.out.cell 1
  go_wp2_with fail
  clear c_a00 c_a01
  refine (toRect_any _ _ _ _ _ _ _ _ xs0 ys0 _ (I_x0.out.kept B.out) (I_y0.out.kept B.out) (by omega) (by omega)).mono ?_
  rintro e W6 ⟨gt0x, gt0y, rfl, ot0x, ot0y, lt0x, lt0y, b6⟩
  replace L_a0 := Lib.hid (L_a0.out.kept b6 L_a0.out.inside)
  replace L_a1 := Lib.hid (L_a1.out.kept b6 L_a1.out.inside)
  replace B := Lib.hid (B.out.trans (b6.mono B.out.size))
  clear b6
  have O_t0x := Lib.hid ot0x
  clear ot0x
  have O_t0y := Lib.hid ot0y
  clear ot0y
  replace L_a0 := Lib.hid (L_a0.out.alloc (.cells #[.slice (some ⟨gt0x, 0, none⟩) n0 n0, .slice (some ⟨gt0y, 0, none⟩) m0 m0] 26))
  replace L_a1 := Lib.hid (L_a1.out.alloc (.cells #[.slice (some ⟨gt0x, 0, none⟩) n0 n0, .slice (some ⟨gt0y, 0, none⟩) m0 m0] 26))
  replace O_t0x := Lib.hid (O_t0x.out.kept (below_alloc _ (.cells #[.slice (some ⟨gt0x, 0, none⟩) n0 n0, .slice (some ⟨gt0y, 0, none⟩) m0 m0] 26)))
  replace O_t0y := Lib.hid (O_t0y.out.kept (below_alloc _ (.cells #[.slice (some ⟨gt0x, 0, none⟩) n0 n0, .slice (some ⟨gt0y, 0, none⟩) m0 m0] 26)))
  have L_v0 := Lib.hid (Lies.new W6 26 #[.slice (some ⟨gt0x, 0, none⟩) n0 n0, .slice (some ⟨gt0y, 0, none⟩) m0 m0])
  replace B := Lib.hid (B.out.alloc B.out.size (.cells #[.slice (some ⟨gt0x, 0, none⟩) n0 n0, .slice (some ⟨gt0y, 0, none⟩) m0 m0] 26))
  have c_a10 : (W6.alloc (.cells #[.slice (some ⟨gt0x, 0, none⟩) n0 n0, .slice (some ⟨gt0y, 0, none⟩) m0 m0] 26)).cell? ⟨w.heap.size + 1, 0, none⟩ = some (.slice A1 n1 c1) := L_a1.out.cell 0
  have c_a11 : (W6.alloc (.cells #[.slice (some ⟨gt0x, 0, none⟩) n0 n0, .slice (some ⟨gt0y, 0, none⟩) m0 m0] 26)).cell? ⟨w.heap.size + 1, 1, none⟩ = some (.slice B1 m1 e1) := L_a1.out.cell 1
  go_wp2_with fail
  clear c_a10 c_a11
  refine (toRect_any _ _ _ _ _ _ _ _ xs1 ys1 _ (I_x1.out.kept B.out) (I_y1.out.kept B.out) (by omega) (by omega)).mono ?_
  rintro e W7 ⟨gt1x, gt1y, rfl, ot1x, ot1y, lt1x, lt1y, b7⟩
  replace L_a0 := Lib.hid (L_a0.out.kept b7 L_a0.out.inside)
  replace L_a1 := Lib.hid (L_a1.out.kept b7 L_a1.out.inside)
  replace L_v0 := Lib.hid (L_v0.out.kept b7 L_v0.out.inside)
  replace O_t0x := Lib.hid (O_t0x.out.kept b7)
  replace O_t0y := Lib.hid (O_t0y.out.kept b7)
  replace B := Lib.hid (B.out.trans (b7.mono B.out.size))
  clear b7
  have O_t1x := Lib.hid ot1x
  clear ot1x
  have O_t1y := Lib.hid ot1y
  clear ot1y
  replace L_a0 := Lib.hid (L_a0.out.alloc (.cells #[.slice (some ⟨gt1x, 0, none⟩) n1 n1, .slice (some ⟨gt1y, 0, none⟩) m1 m1] 26))
  replace L_a1 := Lib.hid (L_a1.out.alloc (.cells #[.slice (some ⟨gt1x, 0, none⟩) n1 n1, .slice (some ⟨gt1y, 0, none⟩) m1 m1] 26))
  replace L_v0 := Lib.hid (L_v0.out.alloc (.cells #[.slice (some ⟨gt1x, 0, none⟩) n1 n1, .slice (some ⟨gt1y, 0, none⟩) m1 m1] 26))
  replace O_t0x := Lib.hid (O_t0x.out.kept (below_alloc _ (.cells #[.slice (some ⟨gt1x, 0, none⟩) n1 n1, .slice (some ⟨gt1y, 0, none⟩) m1 m1] 26)))
  replace O_t0y := Lib.hid (O_t0y.out.kept (below_alloc _ (.cells #[.slice (some ⟨gt1x, 0, none⟩) n1 n1, .slice (some ⟨gt1y, 0, none⟩) m1 m1] 26)))
  replace O_t1x := Lib.hid (O_t1x.out.kept (below_alloc _ (.cells #[.slice (some ⟨gt1x, 0, none⟩) n1 n1, .slice (some ⟨gt1y, 0, none⟩) m1 m1] 26)))
  replace O_t1y := Lib.hid (O_t1y.out.kept (below_alloc _ (.cells #[.slice (some ⟨gt1x, 0, none⟩) n1 n1, .slice (some ⟨gt1y, 0, none⟩) m1 m1] 26)))
  have L_v1 := Lib.hid (Lies.new W7 26 #[.slice (some ⟨gt1x, 0, none⟩) n1 n1, .slice (some ⟨gt1y, 0, none⟩) m1 m1])
  replace B := Lib.hid (B.out.alloc B.out.size (.cells #[.slice (some ⟨gt1x, 0, none⟩) n1 n1, .slice (some ⟨gt1y, 0, none⟩) m1 m1] 26))
  have c_v00 : (W7.alloc (.cells #[.slice (some ⟨gt1x, 0, none⟩) n1 n1, .slice (some ⟨gt1y, 0, none⟩) m1 m1] 26)).cell? ⟨W6.heap.size, 0, none⟩ = some (.slice (some ⟨gt0x, 0, none⟩) n0 n0) := L_v0.out.cell 0
  have c_v01 : (W7.alloc (.cells #[.slice (some ⟨gt1x, 0, none⟩) n1 n1, .slice (some ⟨gt1y, 0, none⟩) m1 m1] 26)).cell? ⟨W6.heap.size, 1, none⟩ = some (.slice (some ⟨gt0y, 0, none⟩) m0 m0) := L_v0.out.cell 1
  go_wp2_with fail
  clear c_v00 c_v01
  refine (implCovers_any _ _ _ _ _ _ _ _ _ _ _ _ _ _ _ _ xs0 ys0 xs1 ys1 _ (O_t0x.out.ints (Nat.zero_le _)) (O_t0y.out.ints (Nat.zero_le _)) (O_t1x.out.ints (Nat.zero_le _)) (O_t1y.out.ints (Nat.zero_le _)) hn0 hm0 hn1 hm1).mono ?_
  rintro e W8 ⟨rfl, b8⟩
  replace L_a0 := Lib.hid (L_a0.out.kept b8 L_a0.out.inside)
  replace L_a1 := Lib.hid (L_a1.out.kept b8 L_a1.out.inside)
  replace L_v0 := Lib.hid (L_v0.out.kept b8 L_v0.out.inside)
  replace L_v1 := Lib.hid (L_v1.out.kept b8 L_v1.out.inside)
  replace O_t0x := Lib.hid (O_t0x.out.kept b8)
  replace O_t0y := Lib.hid (O_t0y.out.kept b8)
  replace O_t1x := Lib.hid (O_t1x.out.kept b8)
  replace O_t1y := Lib.hid (O_t1y.out.kept b8)
  replace B := Lib.hid (B.out.trans (b8.mono B.out.size))
  clear b8
  generalize hval : coversF xs0 ys0 xs1 ys1 = val at *
  clear hval
  have hp : (val != val) = false := by cases val <;> rfl
  go_wp2_with fail
  have k_0 : W8.cell? ⟨W6.heap.size, 0, none⟩ = some (.slice (some ⟨gt0x, 0, none⟩) n0 n0) ∧ W8.cell? ⟨W6.heap.size, 1, none⟩ = some (.slice (some ⟨gt0y, 0, none⟩) m0 m0) ∧ W8.cell? ⟨w.heap.size, 0, none⟩ = some (.slice A0 n0 c0) ∧ W8.cell? ⟨w.heap.size, 1, none⟩ = some (.slice B0 m0 e0) := ⟨L_v0.out.cell 0, L_v0.out.cell 1, L_a0.out.cell 0, L_a0.out.cell 1⟩
  go_region_held3 (fun w' => w'.cell? ⟨W6.heap.size, 0, none⟩ = some (.slice (some ⟨gt0x, 0, none⟩) n0 n0) ∧ w'.cell? ⟨W6.heap.size, 1, none⟩ = some (.slice (some ⟨gt0y, 0, none⟩) m0 m0) ∧ w'.cell? ⟨w.heap.size, 0, none⟩ = some (.slice A0 n0 c0) ∧ w'.cell? ⟨w.heap.size, 1, none⟩ = some (.slice B0 m0 e0))
    (first | (simp [go_sem, k_0]; done) | with_reducible exact k_1 | with_reducible exact k_2)
    (first
      | (go_at_call 12; refine (toRect_any _ _ _ _ _ _ _ _ xs0 ys0 _ (I_x0.out.kept B.out.drew) (I_y0.out.kept B.out.drew) (by omega) (by omega)).mono ?_
         rintro e W9 ⟨gu0x, gu0y, rfl, ou0x, ou0y, lu0x, lu0y, b9d⟩
         have b9 := below_drawn b9d
         have k_1 : W9.cell? ⟨W6.heap.size, 0, none⟩ = some (.slice (some ⟨gt0x, 0, none⟩) n0 n0) ∧ W9.cell? ⟨W6.heap.size, 1, none⟩ = some (.slice (some ⟨gt0y, 0, none⟩) m0 m0) ∧ W9.cell? ⟨w.heap.size, 0, none⟩ = some (.slice A0 n0 c0) ∧ W9.cell? ⟨w.heap.size, 1, none⟩ = some (.slice B0 m0 e0) := ⟨(L_v0.out.kept b9 L_v0.out.inside).cell 0, (L_v0.out.kept b9 L_v0.out.inside).cell 1, (L_a0.out.kept b9 L_a0.out.inside).cell 0, (L_a0.out.kept b9 L_a0.out.inside).cell 1⟩
         clear b9d)
      | (go_at_call 15; refine (eqRect_is true _ _ _ _ _ _ _ _ _ _ _ _ _ _ _ _ xs0 ys0 xs0 ys0 _ (by simp) ((O_t0x.out.kept b9).ints (Nat.zero_le _)) ((O_t0y.out.kept b9).ints (Nat.zero_le _)) (ou0x.ints (Nat.zero_le _)) (ou0y.ints (Nat.zero_le _)) hn0 hm0).mono ?_
         rintro e W10 ⟨rfl, b10⟩
         have k_2 : W10.cell? ⟨W6.heap.size, 0, none⟩ = some (.slice (some ⟨gt0x, 0, none⟩) n0 n0) ∧ W10.cell? ⟨W6.heap.size, 1, none⟩ = some (.slice (some ⟨gt0y, 0, none⟩) m0 m0) ∧ W10.cell? ⟨w.heap.size, 0, none⟩ = some (.slice A0 n0 c0) ∧ W10.cell? ⟨w.heap.size, 1, none⟩ = some (.slice B0 m0 e0) := ⟨((L_v0.out.kept b9 L_v0.out.inside).kept b10 (L_v0.out.kept b9 L_v0.out.inside).inside).cell 0, ((L_v0.out.kept b9 L_v0.out.inside).kept b10 (L_v0.out.kept b9 L_v0.out.inside).inside).cell 1, ((L_a0.out.kept b9 L_a0.out.inside).kept b10 (L_a0.out.kept b9 L_a0.out.inside).inside).cell 0, ((L_a0.out.kept b9 L_a0.out.inside).kept b10 (L_a0.out.kept b9 L_a0.out.inside).inside).cell 1⟩))
  clear k_0 k_1 k_2
  replace L_a0 := Lib.hid (L_a0.out.kept b9 L_a0.out.inside)
  replace L_a1 := Lib.hid (L_a1.out.kept b9 L_a1.out.inside)
  replace L_v0 := Lib.hid (L_v0.out.kept b9 L_v0.out.inside)
  replace L_v1 := Lib.hid (L_v1.out.kept b9 L_v1.out.inside)
  replace O_t0x := Lib.hid (O_t0x.out.kept b9)
  replace O_t0y := Lib.hid (O_t0y.out.kept b9)
  replace O_t1x := Lib.hid (O_t1x.out.kept b9)
  replace O_t1y := Lib.hid (O_t1y.out.kept b9)
  replace B := Lib.hid (B.out.trans (b9.mono B.out.size))
  clear b9
  have O_u0x := Lib.hid ou0x
  clear ou0x
  have O_u0y := Lib.hid ou0y
  clear ou0y
  replace L_a0 := Lib.hid (L_a0.out.kept b10 L_a0.out.inside)
  replace L_a1 := Lib.hid (L_a1.out.kept b10 L_a1.out.inside)
  replace L_v0 := Lib.hid (L_v0.out.kept b10 L_v0.out.inside)
  replace L_v1 := Lib.hid (L_v1.out.kept b10 L_v1.out.inside)
  replace O_t0x := Lib.hid (O_t0x.out.kept b10)
  replace O_t0y := Lib.hid (O_t0y.out.kept b10)
  replace O_t1x := Lib.hid (O_t1x.out.kept b10)
  replace O_t1y := Lib.hid (O_t1y.out.kept b10)
  replace O_u0x := Lib.hid (O_u0x.out.kept b10)
  replace O_u0y := Lib.hid (O_u0y.out.kept b10)
  replace B := Lib.hid (B.out.trans (b10.mono B.out.size))
  clear b10
  go_wp2_with fail
  have k_0 : W10.cell? ⟨W7.heap.size, 0, none⟩ = some (.slice (some ⟨gt1x, 0, none⟩) n1 n1) ∧ W10.cell? ⟨W7.heap.size, 1, none⟩ = some (.slice (some ⟨gt1y, 0, none⟩) m1 m1) ∧ W10.cell? ⟨w.heap.size + 1, 0, none⟩ = some (.slice A1 n1 c1) ∧ W10.cell? ⟨w.heap.size + 1, 1, none⟩ = some (.slice B1 m1 e1) := ⟨L_v1.out.cell 0, L_v1.out.cell 1, L_a1.out.cell 0, L_a1.out.cell 1⟩
  go_region_held3 (fun w' => w'.cell? ⟨W7.heap.size, 0, none⟩ = some (.slice (some ⟨gt1x, 0, none⟩) n1 n1) ∧ w'.cell? ⟨W7.heap.size, 1, none⟩ = some (.slice (some ⟨gt1y, 0, none⟩) m1 m1) ∧ w'.cell? ⟨w.heap.size + 1, 0, none⟩ = some (.slice A1 n1 c1) ∧ w'.cell? ⟨w.heap.size + 1, 1, none⟩ = some (.slice B1 m1 e1))
    (first | (simp [go_sem, k_0]; done) | with_reducible exact k_1 | with_reducible exact k_2)
    (first
      | (go_at_call 12; refine (toRect_any _ _ _ _ _ _ _ _ xs1 ys1 _ (I_x1.out.kept B.out.drew) (I_y1.out.kept B.out.drew) (by omega) (by omega)).mono ?_
         rintro e W11 ⟨gu1x, gu1y, rfl, ou1x, ou1y, lu1x, lu1y, b11d⟩
         have b11 := below_drawn b11d
         have k_1 : W11.cell? ⟨W7.heap.size, 0, none⟩ = some (.slice (some ⟨gt1x, 0, none⟩) n1 n1) ∧ W11.cell? ⟨W7.heap.size, 1, none⟩ = some (.slice (some ⟨gt1y, 0, none⟩) m1 m1) ∧ W11.cell? ⟨w.heap.size + 1, 0, none⟩ = some (.slice A1 n1 c1) ∧ W11.cell? ⟨w.heap.size + 1, 1, none⟩ = some (.slice B1 m1 e1) := ⟨(L_v1.out.kept b11 L_v1.out.inside).cell 0, (L_v1.out.kept b11 L_v1.out.inside).cell 1, (L_a1.out.kept b11 L_a1.out.inside).cell 0, (L_a1.out.kept b11 L_a1.out.inside).cell 1⟩
         clear b11d)
      | (go_at_call 15; refine (eqRect_is true _ _ _ _ _ _ _ _ _ _ _ _ _ _ _ _ xs1 ys1 xs1 ys1 _ (by simp) ((O_t1x.out.kept b11).ints (Nat.zero_le _)) ((O_t1y.out.kept b11).ints (Nat.zero_le _)) (ou1x.ints (Nat.zero_le _)) (ou1y.ints (Nat.zero_le _)) hn1 hm1).mono ?_
         rintro e W12 ⟨rfl, b12⟩
         have k_2 : W12.cell? ⟨W7.heap.size, 0, none⟩ = some (.slice (some ⟨gt1x, 0, none⟩) n1 n1) ∧ W12.cell? ⟨W7.heap.size, 1, none⟩ = some (.slice (some ⟨gt1y, 0, none⟩) m1 m1) ∧ W12.cell? ⟨w.heap.size + 1, 0, none⟩ = some (.slice A1 n1 c1) ∧ W12.cell? ⟨w.heap.size + 1, 1, none⟩ = some (.slice B1 m1 e1) := ⟨((L_v1.out.kept b11 L_v1.out.inside).kept b12 (L_v1.out.kept b11 L_v1.out.inside).inside).cell 0, ((L_v1.out.kept b11 L_v1.out.inside).kept b12 (L_v1.out.kept b11 L_v1.out.inside).inside).cell 1, ((L_a1.out.kept b11 L_a1.out.inside).kept b12 (L_a1.out.kept b11 L_a1.out.inside).inside).cell 0, ((L_a1.out.kept b11 L_a1.out.inside).kept b12 (L_a1.out.kept b11 L_a1.out.inside).inside).cell 1⟩))
  clear k_0 k_1 k_2
  replace L_a0 := Lib.hid (L_a0.out.kept b11 L_a0.out.inside)
  replace L_a1 := Lib.hid (L_a1.out.kept b11 L_a1.out.inside)
  replace L_v0 := Lib.hid (L_v0.out.kept b11 L_v0.out.inside)
  replace L_v1 := Lib.hid (L_v1.out.kept b11 L_v1.out.inside)
  replace O_t0x := Lib.hid (O_t0x.out.kept b11)
  replace O_t0y := Lib.hid (O_t0y.out.kept b11)
  replace O_t1x := Lib.hid (O_t1x.out.kept b11)
  replace O_t1y := Lib.hid (O_t1y.out.kept b11)
  replace O_u0x := Lib.hid (O_u0x.out.kept b11)
  replace O_u0y := Lib.hid (O_u0y.out.kept b11)
  replace B := Lib.hid (B.out.trans (b11.mono B.out.size))
  clear b11
  have O_u1x := Lib.hid ou1x
  clear ou1x
  have O_u1y := Lib.hid ou1y
  clear ou1y
  replace L_a0 := Lib.hid (L_a0.out.kept b12 L_a0.out.inside)
  replace L_a1 := Lib.hid (L_a1.out.kept b12 L_a1.out.inside)
  replace L_v0 := Lib.hid (L_v0.out.kept b12 L_v0.out.inside)
  replace L_v1 := Lib.hid (L_v1.out.kept b12 L_v1.out.inside)
  replace O_t0x := Lib.hid (O_t0x.out.kept b12)
  replace O_t0y := Lib.hid (O_t0y.out.kept b12)
  replace O_t1x := Lib.hid (O_t1x.out.kept b12)
  replace O_t1y := Lib.hid (O_t1y.out.kept b12)
  replace O_u0x := Lib.hid (O_u0x.out.kept b12)
  replace O_u0y := Lib.hid (O_u0y.out.kept b12)
  replace O_u1x := Lib.hid (O_u1x.out.kept b12)
  replace O_u1y := Lib.hid (O_u1y.out.kept b12)
  replace B := Lib.hid (B.out.trans (b12.mono B.out.size))
  clear b12
  go_wp2
  go_ret
  exact ⟨rfl, B.out⟩

end Go.Proofs.Ytbonpmgbcdknbab
