/- FnExactMatches: for every query, every number of dimensions and every box impl.Matches answers as the model does and leaves its arguments alone. No condition. -/
import Derived.Test.YtbonpmgbcdknbaaImplMatches
import Derived.Deep.RegionHeld3
namespace Go.Proofs.Ytbonpmgbcdknbaa
open Go.RowKit

set_option maxHeartbeats 3200000 in
theorem lawMatches_walk (kd : Int) (n1 c1 n2 c2 n3 c3 : Nat) (A1 A2 A3 : Option Addr) (kk : Int) (x1 x2 x3 : List Int) (d : Int) (n4 c4 n5 c5 : Nat) (A4 A5 : Option Addr) (x4 x5 : List Int) (w : World)
    (h1 : Ints w 0 A1 n1 x1) (h2 : Ints w 0 A2 n2 x2) (h3 : Ints w 0 A3 n3 x3) (m1 : n1 ≤ maxLen) (m2 : n2 ≤ maxLen) (m3 : n3 ≤ maxLen) (h4 : Ints w 0 A4 n4 x4) (h5 : Ints w 0 A5 n5 x5) (m4 : n4 ≤ maxLen) (m5 : n5 ≤ maxLen) :
    Calls Try.prog 8 #[.agg #[.int .i64 kd, .slice A1 n1 c1, .slice A2 n2 c2, .slice A3 n3 c3, .int .i64 kk], .int .i64 d, .agg #[.slice A4 n4 c4, .slice A5 n5 c5]] w fun e w' => e = .returned (.bool true) ∧ Below w.heap.size w w' := by
  have I_x1 := Lib.hid h1
  have I_x2 := Lib.hid h2
  have I_x3 := Lib.hid h3
  have I_x4 := Lib.hid h4
  have I_x5 := Lib.hid h5
  clear h1 h2 h3 h4 h5
  have B := Lib.hid (Below.refl w.heap.size w)
  have L_a := Lib.hid (Lies.new w 55 #[.int .i64 kd, .slice A1 n1 c1, .slice A2 n2 c2, .slice A3 n3 c3, .int .i64 kk])
  replace B := Lib.hid (B.out.alloc B.out.size (.cells #[.int .i64 kd, .slice A1 n1 c1, .slice A2 n2 c2, .slice A3 n3 c3, .int .i64 kk] 55))
  replace L_a := Lib.hid (L_a.out.alloc (.cells #[.slice A4 n4 c4, .slice A5 n5 c5] 41))
  have L_b := Lib.hid (Lies.new (w.alloc (.cells #[.int .i64 kd, .slice A1 n1 c1, .slice A2 n2 c2, .slice A3 n3 c3, .int .i64 kk] 55)) 41 #[.slice A4 n4 c4, .slice A5 n5 c5])
  replace B := Lib.hid (B.out.alloc B.out.size (.cells #[.slice A4 n4 c4, .slice A5 n5 c5] 41))
  simp only [World.size_alloc] at L_b
  by_cases z : (1048576 : Int) < n1 + n2 + n3
  · go_enter Try.func8, Try.ntmps8
    go_wp2_with fail
    refine (szQuery_no _ _ _ _ _ _ _ _ _ _ _ _ _ (by omega) (by omega) m1 m2 m3 (by omega)).mono ?_
    rintro e W1 ⟨rfl, b1⟩
    replace L_a := Lib.hid (L_a.out.kept b1 L_a.out.inside)
    replace L_b := Lib.hid (L_b.out.kept b1 L_b.out.inside)
    replace B := Lib.hid (B.out.trans (b1.mono B.out.size))
    clear b1
    go_wp2
    go_ret
    exact ⟨rfl, B.out⟩
  by_cases z1 : (1048576 : Int) - n1 - n2 - n3 < n4 + n5
  · go_enter Try.func8, Try.ntmps8
    go_wp2_with fail
    refine (szQuery_yes _ _ _ _ _ _ _ _ _ _ _ _ _ (by omega) m1 m2 m3 (by omega)).mono ?_
    rintro e W1 ⟨rfl, b1⟩
    replace L_a := Lib.hid (L_a.out.kept b1 L_a.out.inside)
    replace L_b := Lib.hid (L_b.out.kept b1 L_b.out.inside)
    replace B := Lib.hid (B.out.trans (b1.mono B.out.size))
    clear b1
    have hk : ¬ ((1048576 : Int) - n1 - n2 - n3 < 0) := by omega
    have c_b0 : W1.cell? ⟨w.heap.size + 1, 0, none⟩ = some (.slice A4 n4 c4) := L_b.out.cell 0
    have c_b1 : W1.cell? ⟨w.heap.size + 1, 1, none⟩ = some (.slice A5 n5 c5) := L_b.out.cell 1
    go_wp2_with fail
    clear c_b0 c_b1
    refine (szRect_no _ _ _ _ _ _ _ _ (by omega) (by omega) m4 m5 (by omega)).mono ?_
    rintro e W2 ⟨rfl, b2⟩
    replace L_a := Lib.hid (L_a.out.kept b2 L_a.out.inside)
    replace L_b := Lib.hid (L_b.out.kept b2 L_b.out.inside)
    replace B := Lib.hid (B.out.trans (b2.mono B.out.size))
    clear b2
    go_wp2
    go_ret
    exact ⟨rfl, B.out⟩
  go_enter Try.func8, Try.ntmps8
  go_wp2_with fail
  refine (szQuery_yes _ _ _ _ _ _ _ _ _ _ _ _ _ (by omega) m1 m2 m3 (by omega)).mono ?_
  rintro e W1 ⟨rfl, b1⟩
  replace L_a := Lib.hid (L_a.out.kept b1 L_a.out.inside)
  replace L_b := Lib.hid (L_b.out.kept b1 L_b.out.inside)
  replace B := Lib.hid (B.out.trans (b1.mono B.out.size))
  clear b1
  have hk : ¬ ((1048576 : Int) - n1 - n2 - n3 < 0) := by omega
  have c_b0 : W1.cell? ⟨w.heap.size + 1, 0, none⟩ = some (.slice A4 n4 c4) := L_b.out.cell 0
  have c_b1 : W1.cell? ⟨w.heap.size + 1, 1, none⟩ = some (.slice A5 n5 c5) := L_b.out.cell 1
  go_wp2_with fail
  clear c_b0 c_b1
  refine (szRect_yes _ _ _ _ _ _ _ _ (by omega) m4 m5 (by omega)).mono ?_
  rintro e W2 ⟨rfl, b2⟩
  replace L_a := Lib.hid (L_a.out.kept b2 L_a.out.inside)
  replace L_b := Lib.hid (L_b.out.kept b2 L_b.out.inside)
  replace B := Lib.hid (B.out.trans (b2.mono B.out.size))
  clear b2
  have hk2 : ¬ ((1048576 : Int) - n1 - n2 - n3 - n4 - n5 < 0) := by omega
  go_wp2_with fail
  have k_0 : W2.cell? ⟨w.heap.size, 0, none⟩ = some (.int .i64 kd) ∧ W2.cell? ⟨w.heap.size, 1, none⟩ = some (.slice A1 n1 c1) ∧ W2.cell? ⟨w.heap.size, 2, none⟩ = some (.slice A2 n2 c2) ∧ W2.cell? ⟨w.heap.size, 3, none⟩ = some (.slice A3 n3 c3) ∧ W2.cell? ⟨w.heap.size, 4, none⟩ = some (.int .i64 kk) ∧ W2.cell? ⟨w.heap.size + 1, 0, none⟩ = some (.slice A4 n4 c4) ∧ W2.cell? ⟨w.heap.size + 1, 1, none⟩ = some (.slice A5 n5 c5) := ⟨L_a.out.cell 0, L_a.out.cell 1, L_a.out.cell 2, L_a.out.cell 3, L_a.out.cell 4, L_b.out.cell 0, L_b.out.cell 1⟩
  go_region_held3 (fun w' => w'.cell? ⟨w.heap.size, 0, none⟩ = some (.int .i64 kd) ∧ w'.cell? ⟨w.heap.size, 1, none⟩ = some (.slice A1 n1 c1) ∧ w'.cell? ⟨w.heap.size, 2, none⟩ = some (.slice A2 n2 c2) ∧ w'.cell? ⟨w.heap.size, 3, none⟩ = some (.slice A3 n3 c3) ∧ w'.cell? ⟨w.heap.size, 4, none⟩ = some (.int .i64 kk) ∧ w'.cell? ⟨w.heap.size + 1, 0, none⟩ = some (.slice A4 n4 c4) ∧ w'.cell? ⟨w.heap.size + 1, 1, none⟩ = some (.slice A5 n5 c5))
    (first | (simp [go_sem, k_0]; done) | with_reducible exact k_1 | with_reducible exact k_2 | with_reducible exact k_3)
    (first
      | (go_at_call 34; refine (toQuery_any _ _ _ _ _ _ _ _ _ _ _ _ _ _ x1 x2 x3 _ (I_x1.out.kept B.out.drew) (I_x2.out.kept B.out.drew) (I_x3.out.kept B.out.drew) (by omega) (by omega) (by omega)).mono ?_
         rintro e W3 ⟨gs1, gs2, gs3, rfl, os1, os2, os3, b3d⟩
         have b3 := below_drawn b3d
         have k_1 : W3.cell? ⟨w.heap.size, 0, none⟩ = some (.int .i64 kd) ∧ W3.cell? ⟨w.heap.size, 1, none⟩ = some (.slice A1 n1 c1) ∧ W3.cell? ⟨w.heap.size, 2, none⟩ = some (.slice A2 n2 c2) ∧ W3.cell? ⟨w.heap.size, 3, none⟩ = some (.slice A3 n3 c3) ∧ W3.cell? ⟨w.heap.size, 4, none⟩ = some (.int .i64 kk) ∧ W3.cell? ⟨w.heap.size + 1, 0, none⟩ = some (.slice A4 n4 c4) ∧ W3.cell? ⟨w.heap.size + 1, 1, none⟩ = some (.slice A5 n5 c5) := ⟨(L_a.out.kept b3 L_a.out.inside).cell 0, (L_a.out.kept b3 L_a.out.inside).cell 1, (L_a.out.kept b3 L_a.out.inside).cell 2, (L_a.out.kept b3 L_a.out.inside).cell 3, (L_a.out.kept b3 L_a.out.inside).cell 4, (L_b.out.kept b3 L_b.out.inside).cell 0, (L_b.out.kept b3 L_b.out.inside).cell 1⟩
         clear b3d)
      | (go_at_call 39; refine (toRect_any _ _ _ _ _ _ _ _ x4 x5 _ (I_x4.out.kept (B.out.trans (b3.mono B.out.size))) (I_x5.out.kept (B.out.trans (b3.mono B.out.size))) (by omega) (by omega)).mono ?_
         rintro e W4 ⟨gs4, gs5, rfl, os4, os5, ls4, ls5, b4⟩
         have k_2 : W4.cell? ⟨w.heap.size, 0, none⟩ = some (.int .i64 kd) ∧ W4.cell? ⟨w.heap.size, 1, none⟩ = some (.slice A1 n1 c1) ∧ W4.cell? ⟨w.heap.size, 2, none⟩ = some (.slice A2 n2 c2) ∧ W4.cell? ⟨w.heap.size, 3, none⟩ = some (.slice A3 n3 c3) ∧ W4.cell? ⟨w.heap.size, 4, none⟩ = some (.int .i64 kk) ∧ W4.cell? ⟨w.heap.size + 1, 0, none⟩ = some (.slice A4 n4 c4) ∧ W4.cell? ⟨w.heap.size + 1, 1, none⟩ = some (.slice A5 n5 c5) := ⟨((L_a.out.kept b3 L_a.out.inside).kept b4 (L_a.out.kept b3 L_a.out.inside).inside).cell 0, ((L_a.out.kept b3 L_a.out.inside).kept b4 (L_a.out.kept b3 L_a.out.inside).inside).cell 1, ((L_a.out.kept b3 L_a.out.inside).kept b4 (L_a.out.kept b3 L_a.out.inside).inside).cell 2, ((L_a.out.kept b3 L_a.out.inside).kept b4 (L_a.out.kept b3 L_a.out.inside).inside).cell 3, ((L_a.out.kept b3 L_a.out.inside).kept b4 (L_a.out.kept b3 L_a.out.inside).inside).cell 4, ((L_b.out.kept b3 L_b.out.inside).kept b4 (L_b.out.kept b3 L_b.out.inside).inside).cell 0, ((L_b.out.kept b3 L_b.out.inside).kept b4 (L_b.out.kept b3 L_b.out.inside).inside).cell 1⟩)
      | (go_at_call 38; refine (specMatches_any _ _ _ _ _ _ _ _ _ _ _ _ _ _ _ _ _ _ _ _ _ _ _ x1 x2 x3 x4 x5 _ ((os1.kept b4).ints (Nat.zero_le _)) ((os2.kept b4).ints (Nat.zero_le _)) ((os3.kept b4).ints (Nat.zero_le _)) (os4.ints (Nat.zero_le _)) (os5.ints (Nat.zero_le _)) (by omega) (by omega) (by omega) (by omega) (by omega)).mono ?_
         rintro e W5 ⟨rfl, b5⟩
         have k_3 : W5.cell? ⟨w.heap.size, 0, none⟩ = some (.int .i64 kd) ∧ W5.cell? ⟨w.heap.size, 1, none⟩ = some (.slice A1 n1 c1) ∧ W5.cell? ⟨w.heap.size, 2, none⟩ = some (.slice A2 n2 c2) ∧ W5.cell? ⟨w.heap.size, 3, none⟩ = some (.slice A3 n3 c3) ∧ W5.cell? ⟨w.heap.size, 4, none⟩ = some (.int .i64 kk) ∧ W5.cell? ⟨w.heap.size + 1, 0, none⟩ = some (.slice A4 n4 c4) ∧ W5.cell? ⟨w.heap.size + 1, 1, none⟩ = some (.slice A5 n5 c5) := ⟨(((L_a.out.kept b3 L_a.out.inside).kept b4 (L_a.out.kept b3 L_a.out.inside).inside).kept b5 ((L_a.out.kept b3 L_a.out.inside).kept b4 (L_a.out.kept b3 L_a.out.inside).inside).inside).cell 0, (((L_a.out.kept b3 L_a.out.inside).kept b4 (L_a.out.kept b3 L_a.out.inside).inside).kept b5 ((L_a.out.kept b3 L_a.out.inside).kept b4 (L_a.out.kept b3 L_a.out.inside).inside).inside).cell 1, (((L_a.out.kept b3 L_a.out.inside).kept b4 (L_a.out.kept b3 L_a.out.inside).inside).kept b5 ((L_a.out.kept b3 L_a.out.inside).kept b4 (L_a.out.kept b3 L_a.out.inside).inside).inside).cell 2, (((L_a.out.kept b3 L_a.out.inside).kept b4 (L_a.out.kept b3 L_a.out.inside).inside).kept b5 ((L_a.out.kept b3 L_a.out.inside).kept b4 (L_a.out.kept b3 L_a.out.inside).inside).inside).cell 3, (((L_a.out.kept b3 L_a.out.inside).kept b4 (L_a.out.kept b3 L_a.out.inside).inside).kept b5 ((L_a.out.kept b3 L_a.out.inside).kept b4 (L_a.out.kept b3 L_a.out.inside).inside).inside).cell 4, (((L_b.out.kept b3 L_b.out.inside).kept b4 (L_b.out.kept b3 L_b.out.inside).inside).kept b5 ((L_b.out.kept b3 L_b.out.inside).kept b4 (L_b.out.kept b3 L_b.out.inside).inside).inside).cell 0, (((L_b.out.kept b3 L_b.out.inside).kept b4 (L_b.out.kept b3 L_b.out.inside).inside).kept b5 ((L_b.out.kept b3 L_b.out.inside).kept b4 (L_b.out.kept b3 L_b.out.inside).inside).inside).cell 1⟩))
  clear k_0 k_1 k_2 k_3
  replace L_a := Lib.hid (L_a.out.kept b3 L_a.out.inside)
  replace L_b := Lib.hid (L_b.out.kept b3 L_b.out.inside)
  replace B := Lib.hid (B.out.trans (b3.mono B.out.size))
  clear b3
  have O_s1 := Lib.hid os1
  clear os1
  have O_s2 := Lib.hid os2
  clear os2
  have O_s3 := Lib.hid os3
  clear os3
  replace L_a := Lib.hid (L_a.out.kept b4 L_a.out.inside)
  replace L_b := Lib.hid (L_b.out.kept b4 L_b.out.inside)
  replace O_s1 := Lib.hid (O_s1.out.kept b4)
  replace O_s2 := Lib.hid (O_s2.out.kept b4)
  replace O_s3 := Lib.hid (O_s3.out.kept b4)
  replace B := Lib.hid (B.out.trans (b4.mono B.out.size))
  clear b4
  have O_s4 := Lib.hid os4
  clear os4
  have O_s5 := Lib.hid os5
  clear os5
  replace L_a := Lib.hid (L_a.out.kept b5 L_a.out.inside)
  replace L_b := Lib.hid (L_b.out.kept b5 L_b.out.inside)
  replace O_s1 := Lib.hid (O_s1.out.kept b5)
  replace O_s2 := Lib.hid (O_s2.out.kept b5)
  replace O_s3 := Lib.hid (O_s3.out.kept b5)
  replace O_s4 := Lib.hid (O_s4.out.kept b5)
  replace O_s5 := Lib.hid (O_s5.out.kept b5)
  replace B := Lib.hid (B.out.trans (b5.mono B.out.size))
  clear b5
  clear O_s1
  clear O_s2
  clear O_s3
  clear O_s4
  clear O_s5
  have c_a0 : W5.cell? ⟨w.heap.size, 0, none⟩ = some (.int .i64 kd) := L_a.out.cell 0
  have c_a1 : W5.cell? ⟨w.heap.size, 1, none⟩ = some (.slice A1 n1 c1) := L_a.out.cell 1
  have c_a2 : W5.cell? ⟨w.heap.size, 2, none⟩ = some (.slice A2 n2 c2) := L_a.out.cell 2
  have c_a3 : W5.cell? ⟨w.heap.size, 3, none⟩ = some (.slice A3 n3 c3) := L_a.out.cell 3
  have c_a4 : W5.cell? ⟨w.heap.size, 4, none⟩ = some (.int .i64 kk) := L_a.out.cell 4
  go_wp2_with fail
  clear c_a0 c_a1 c_a2 c_a3 c_a4
  refine (toQuery_any _ _ _ _ _ _ _ _ _ _ _ _ _ _ x1 x2 x3 _ (I_x1.out.kept B.out) (I_x2.out.kept B.out) (I_x3.out.kept B.out) (by omega) (by omega) (by omega)).mono ?_
  rintro e W6 ⟨gt1, gt2, gt3, rfl, ot1, ot2, ot3, b6⟩
  replace L_a := Lib.hid (L_a.out.kept b6 L_a.out.inside)
  replace L_b := Lib.hid (L_b.out.kept b6 L_b.out.inside)
  replace B := Lib.hid (B.out.trans (b6.mono B.out.size))
  clear b6
  have O_t1 := Lib.hid ot1
  clear ot1
  have O_t2 := Lib.hid ot2
  clear ot2
  have O_t3 := Lib.hid ot3
  clear ot3
  replace L_a := Lib.hid (L_a.out.alloc (.cells #[.int .i64 kd, .slice (some ⟨gt1, 0, none⟩) n1 n1, .slice (some ⟨gt2, 0, none⟩) n2 n2, .slice (some ⟨gt3, 0, none⟩) n3 n3, .int .i64 kk] 59))
  replace L_b := Lib.hid (L_b.out.alloc (.cells #[.int .i64 kd, .slice (some ⟨gt1, 0, none⟩) n1 n1, .slice (some ⟨gt2, 0, none⟩) n2 n2, .slice (some ⟨gt3, 0, none⟩) n3 n3, .int .i64 kk] 59))
  replace O_t1 := Lib.hid (O_t1.out.kept (below_alloc _ (.cells #[.int .i64 kd, .slice (some ⟨gt1, 0, none⟩) n1 n1, .slice (some ⟨gt2, 0, none⟩) n2 n2, .slice (some ⟨gt3, 0, none⟩) n3 n3, .int .i64 kk] 59)))
  replace O_t2 := Lib.hid (O_t2.out.kept (below_alloc _ (.cells #[.int .i64 kd, .slice (some ⟨gt1, 0, none⟩) n1 n1, .slice (some ⟨gt2, 0, none⟩) n2 n2, .slice (some ⟨gt3, 0, none⟩) n3 n3, .int .i64 kk] 59)))
  replace O_t3 := Lib.hid (O_t3.out.kept (below_alloc _ (.cells #[.int .i64 kd, .slice (some ⟨gt1, 0, none⟩) n1 n1, .slice (some ⟨gt2, 0, none⟩) n2 n2, .slice (some ⟨gt3, 0, none⟩) n3 n3, .int .i64 kk] 59)))
  have L_v := Lib.hid (Lies.new W6 59 #[.int .i64 kd, .slice (some ⟨gt1, 0, none⟩) n1 n1, .slice (some ⟨gt2, 0, none⟩) n2 n2, .slice (some ⟨gt3, 0, none⟩) n3 n3, .int .i64 kk])
  replace B := Lib.hid (B.out.alloc B.out.size (.cells #[.int .i64 kd, .slice (some ⟨gt1, 0, none⟩) n1 n1, .slice (some ⟨gt2, 0, none⟩) n2 n2, .slice (some ⟨gt3, 0, none⟩) n3 n3, .int .i64 kk] 59))
  have c_b0 : (W6.alloc (.cells #[.int .i64 kd, .slice (some ⟨gt1, 0, none⟩) n1 n1, .slice (some ⟨gt2, 0, none⟩) n2 n2, .slice (some ⟨gt3, 0, none⟩) n3 n3, .int .i64 kk] 59)).cell? ⟨w.heap.size + 1, 0, none⟩ = some (.slice A4 n4 c4) := L_b.out.cell 0
  have c_b1 : (W6.alloc (.cells #[.int .i64 kd, .slice (some ⟨gt1, 0, none⟩) n1 n1, .slice (some ⟨gt2, 0, none⟩) n2 n2, .slice (some ⟨gt3, 0, none⟩) n3 n3, .int .i64 kk] 59)).cell? ⟨w.heap.size + 1, 1, none⟩ = some (.slice A5 n5 c5) := L_b.out.cell 1
  go_wp2_with fail
  clear c_b0 c_b1
  refine (toRect_any _ _ _ _ _ _ _ _ x4 x5 _ (I_x4.out.kept B.out) (I_x5.out.kept B.out) (by omega) (by omega)).mono ?_
  rintro e W7 ⟨gt4, gt5, rfl, ot4, ot5, lt4, lt5, b7⟩
  replace L_a := Lib.hid (L_a.out.kept b7 L_a.out.inside)
  replace L_b := Lib.hid (L_b.out.kept b7 L_b.out.inside)
  replace L_v := Lib.hid (L_v.out.kept b7 L_v.out.inside)
  replace O_t1 := Lib.hid (O_t1.out.kept b7)
  replace O_t2 := Lib.hid (O_t2.out.kept b7)
  replace O_t3 := Lib.hid (O_t3.out.kept b7)
  replace B := Lib.hid (B.out.trans (b7.mono B.out.size))
  clear b7
  have O_t4 := Lib.hid ot4
  clear ot4
  have O_t5 := Lib.hid ot5
  clear ot5
  replace L_a := Lib.hid (L_a.out.alloc (.cells #[.slice (some ⟨gt4, 0, none⟩) n4 n4, .slice (some ⟨gt5, 0, none⟩) n5 n5] 31))
  replace L_b := Lib.hid (L_b.out.alloc (.cells #[.slice (some ⟨gt4, 0, none⟩) n4 n4, .slice (some ⟨gt5, 0, none⟩) n5 n5] 31))
  replace L_v := Lib.hid (L_v.out.alloc (.cells #[.slice (some ⟨gt4, 0, none⟩) n4 n4, .slice (some ⟨gt5, 0, none⟩) n5 n5] 31))
  replace O_t1 := Lib.hid (O_t1.out.kept (below_alloc _ (.cells #[.slice (some ⟨gt4, 0, none⟩) n4 n4, .slice (some ⟨gt5, 0, none⟩) n5 n5] 31)))
  replace O_t2 := Lib.hid (O_t2.out.kept (below_alloc _ (.cells #[.slice (some ⟨gt4, 0, none⟩) n4 n4, .slice (some ⟨gt5, 0, none⟩) n5 n5] 31)))
  replace O_t3 := Lib.hid (O_t3.out.kept (below_alloc _ (.cells #[.slice (some ⟨gt4, 0, none⟩) n4 n4, .slice (some ⟨gt5, 0, none⟩) n5 n5] 31)))
  replace O_t4 := Lib.hid (O_t4.out.kept (below_alloc _ (.cells #[.slice (some ⟨gt4, 0, none⟩) n4 n4, .slice (some ⟨gt5, 0, none⟩) n5 n5] 31)))
  replace O_t5 := Lib.hid (O_t5.out.kept (below_alloc _ (.cells #[.slice (some ⟨gt4, 0, none⟩) n4 n4, .slice (some ⟨gt5, 0, none⟩) n5 n5] 31)))
  have L_u := Lib.hid (Lies.new W7 31 #[.slice (some ⟨gt4, 0, none⟩) n4 n4, .slice (some ⟨gt5, 0, none⟩) n5 n5])
  replace B := Lib.hid (B.out.alloc B.out.size (.cells #[.slice (some ⟨gt4, 0, none⟩) n4 n4, .slice (some ⟨gt5, 0, none⟩) n5 n5] 31))
  have c_v0 : (W7.alloc (.cells #[.slice (some ⟨gt4, 0, none⟩) n4 n4, .slice (some ⟨gt5, 0, none⟩) n5 n5] 31)).cell? ⟨W6.heap.size, 0, none⟩ = some (.int .i64 kd) := L_v.out.cell 0
  have c_v1 : (W7.alloc (.cells #[.slice (some ⟨gt4, 0, none⟩) n4 n4, .slice (some ⟨gt5, 0, none⟩) n5 n5] 31)).cell? ⟨W6.heap.size, 1, none⟩ = some (.slice (some ⟨gt1, 0, none⟩) n1 n1) := L_v.out.cell 1
  have c_v2 : (W7.alloc (.cells #[.slice (some ⟨gt4, 0, none⟩) n4 n4, .slice (some ⟨gt5, 0, none⟩) n5 n5] 31)).cell? ⟨W6.heap.size, 2, none⟩ = some (.slice (some ⟨gt2, 0, none⟩) n2 n2) := L_v.out.cell 2
  have c_v3 : (W7.alloc (.cells #[.slice (some ⟨gt4, 0, none⟩) n4 n4, .slice (some ⟨gt5, 0, none⟩) n5 n5] 31)).cell? ⟨W6.heap.size, 3, none⟩ = some (.slice (some ⟨gt3, 0, none⟩) n3 n3) := L_v.out.cell 3
  have c_v4 : (W7.alloc (.cells #[.slice (some ⟨gt4, 0, none⟩) n4 n4, .slice (some ⟨gt5, 0, none⟩) n5 n5] 31)).cell? ⟨W6.heap.size, 4, none⟩ = some (.int .i64 kk) := L_v.out.cell 4
  go_wp2_with fail
  clear c_v0 c_v1 c_v2 c_v3 c_v4
  refine (implMatches_any _ _ _ _ _ _ _ _ _ _ _ _ _ _ _ _ _ _ _ _ _ _ _ x1 x2 x3 x4 x5 _ (O_t1.out.ints (Nat.zero_le _)) (O_t2.out.ints (Nat.zero_le _)) (O_t3.out.ints (Nat.zero_le _)) (O_t4.out.ints (Nat.zero_le _)) (O_t5.out.ints (Nat.zero_le _)) (by omega) (by omega) (by omega) (by omega) (by omega)).mono ?_
  rintro e W8 ⟨rfl, b8⟩
  replace L_a := Lib.hid (L_a.out.kept b8 L_a.out.inside)
  replace L_b := Lib.hid (L_b.out.kept b8 L_b.out.inside)
  replace L_v := Lib.hid (L_v.out.kept b8 L_v.out.inside)
  replace L_u := Lib.hid (L_u.out.kept b8 L_u.out.inside)
  replace O_t1 := Lib.hid (O_t1.out.kept b8)
  replace O_t2 := Lib.hid (O_t2.out.kept b8)
  replace O_t3 := Lib.hid (O_t3.out.kept b8)
  replace O_t4 := Lib.hid (O_t4.out.kept b8)
  replace O_t5 := Lib.hid (O_t5.out.kept b8)
  replace B := Lib.hid (B.out.trans (b8.mono B.out.size))
  clear b8
  generalize hval : matchF kd x1 x2 x3 kk d x4 x5 = val at *
  clear hval
  have hp : (val != val) = false := by cases val <;> rfl
  go_wp2_with fail
  have k_0 : W8.cell? ⟨W6.heap.size, 0, none⟩ = some (.int .i64 kd) ∧ W8.cell? ⟨W6.heap.size, 1, none⟩ = some (.slice (some ⟨gt1, 0, none⟩) n1 n1) ∧ W8.cell? ⟨W6.heap.size, 2, none⟩ = some (.slice (some ⟨gt2, 0, none⟩) n2 n2) ∧ W8.cell? ⟨W6.heap.size, 3, none⟩ = some (.slice (some ⟨gt3, 0, none⟩) n3 n3) ∧ W8.cell? ⟨W6.heap.size, 4, none⟩ = some (.int .i64 kk) ∧ W8.cell? ⟨w.heap.size, 0, none⟩ = some (.int .i64 kd) ∧ W8.cell? ⟨w.heap.size, 1, none⟩ = some (.slice A1 n1 c1) ∧ W8.cell? ⟨w.heap.size, 2, none⟩ = some (.slice A2 n2 c2) ∧ W8.cell? ⟨w.heap.size, 3, none⟩ = some (.slice A3 n3 c3) ∧ W8.cell? ⟨w.heap.size, 4, none⟩ = some (.int .i64 kk) := ⟨L_v.out.cell 0, L_v.out.cell 1, L_v.out.cell 2, L_v.out.cell 3, L_v.out.cell 4, L_a.out.cell 0, L_a.out.cell 1, L_a.out.cell 2, L_a.out.cell 3, L_a.out.cell 4⟩
  go_region_held3 (fun w' => w'.cell? ⟨W6.heap.size, 0, none⟩ = some (.int .i64 kd) ∧ w'.cell? ⟨W6.heap.size, 1, none⟩ = some (.slice (some ⟨gt1, 0, none⟩) n1 n1) ∧ w'.cell? ⟨W6.heap.size, 2, none⟩ = some (.slice (some ⟨gt2, 0, none⟩) n2 n2) ∧ w'.cell? ⟨W6.heap.size, 3, none⟩ = some (.slice (some ⟨gt3, 0, none⟩) n3 n3) ∧ w'.cell? ⟨W6.heap.size, 4, none⟩ = some (.int .i64 kk) ∧ w'.cell? ⟨w.heap.size, 0, none⟩ = some (.int .i64 kd) ∧ w'.cell? ⟨w.heap.size, 1, none⟩ = some (.slice A1 n1 c1) ∧ w'.cell? ⟨w.heap.size, 2, none⟩ = some (.slice A2 n2 c2) ∧ w'.cell? ⟨w.heap.size, 3, none⟩ = some (.slice A3 n3 c3) ∧ w'.cell? ⟨w.heap.size, 4, none⟩ = some (.int .i64 kk))
    (first | (simp [go_sem, k_0]; done) | with_reducible exact k_1 | with_reducible exact k_2)
    (first
      | (go_at_call 34; refine (toQuery_any _ _ _ _ _ _ _ _ _ _ _ _ _ _ x1 x2 x3 _ (I_x1.out.kept B.out.drew) (I_x2.out.kept B.out.drew) (I_x3.out.kept B.out.drew) (by omega) (by omega) (by omega)).mono ?_
         rintro e W9 ⟨gp1, gp2, gp3, rfl, op1, op2, op3, b9d⟩
         have b9 := below_drawn b9d
         have k_1 : W9.cell? ⟨W6.heap.size, 0, none⟩ = some (.int .i64 kd) ∧ W9.cell? ⟨W6.heap.size, 1, none⟩ = some (.slice (some ⟨gt1, 0, none⟩) n1 n1) ∧ W9.cell? ⟨W6.heap.size, 2, none⟩ = some (.slice (some ⟨gt2, 0, none⟩) n2 n2) ∧ W9.cell? ⟨W6.heap.size, 3, none⟩ = some (.slice (some ⟨gt3, 0, none⟩) n3 n3) ∧ W9.cell? ⟨W6.heap.size, 4, none⟩ = some (.int .i64 kk) ∧ W9.cell? ⟨w.heap.size, 0, none⟩ = some (.int .i64 kd) ∧ W9.cell? ⟨w.heap.size, 1, none⟩ = some (.slice A1 n1 c1) ∧ W9.cell? ⟨w.heap.size, 2, none⟩ = some (.slice A2 n2 c2) ∧ W9.cell? ⟨w.heap.size, 3, none⟩ = some (.slice A3 n3 c3) ∧ W9.cell? ⟨w.heap.size, 4, none⟩ = some (.int .i64 kk) := ⟨(L_v.out.kept b9 L_v.out.inside).cell 0, (L_v.out.kept b9 L_v.out.inside).cell 1, (L_v.out.kept b9 L_v.out.inside).cell 2, (L_v.out.kept b9 L_v.out.inside).cell 3, (L_v.out.kept b9 L_v.out.inside).cell 4, (L_a.out.kept b9 L_a.out.inside).cell 0, (L_a.out.kept b9 L_a.out.inside).cell 1, (L_a.out.kept b9 L_a.out.inside).cell 2, (L_a.out.kept b9 L_a.out.inside).cell 3, (L_a.out.kept b9 L_a.out.inside).cell 4⟩
         clear b9d)
      | (go_at_call 36; refine (eqQuery_same _ _ _ _ _ _ _ _ _ _ _ _ _ _ _ _ _ _ _ _ _ _ _ x1 x2 x3 _ ((O_t1.out.kept b9).ints (Nat.zero_le _)) ((O_t2.out.kept b9).ints (Nat.zero_le _)) ((O_t3.out.kept b9).ints (Nat.zero_le _)) (op1.ints (Nat.zero_le _)) (op2.ints (Nat.zero_le _)) (op3.ints (Nat.zero_le _)) m1 m2 m3).mono ?_
         rintro e W10 ⟨rfl, b10⟩
         have k_2 : W10.cell? ⟨W6.heap.size, 0, none⟩ = some (.int .i64 kd) ∧ W10.cell? ⟨W6.heap.size, 1, none⟩ = some (.slice (some ⟨gt1, 0, none⟩) n1 n1) ∧ W10.cell? ⟨W6.heap.size, 2, none⟩ = some (.slice (some ⟨gt2, 0, none⟩) n2 n2) ∧ W10.cell? ⟨W6.heap.size, 3, none⟩ = some (.slice (some ⟨gt3, 0, none⟩) n3 n3) ∧ W10.cell? ⟨W6.heap.size, 4, none⟩ = some (.int .i64 kk) ∧ W10.cell? ⟨w.heap.size, 0, none⟩ = some (.int .i64 kd) ∧ W10.cell? ⟨w.heap.size, 1, none⟩ = some (.slice A1 n1 c1) ∧ W10.cell? ⟨w.heap.size, 2, none⟩ = some (.slice A2 n2 c2) ∧ W10.cell? ⟨w.heap.size, 3, none⟩ = some (.slice A3 n3 c3) ∧ W10.cell? ⟨w.heap.size, 4, none⟩ = some (.int .i64 kk) := ⟨((L_v.out.kept b9 L_v.out.inside).kept b10 (L_v.out.kept b9 L_v.out.inside).inside).cell 0, ((L_v.out.kept b9 L_v.out.inside).kept b10 (L_v.out.kept b9 L_v.out.inside).inside).cell 1, ((L_v.out.kept b9 L_v.out.inside).kept b10 (L_v.out.kept b9 L_v.out.inside).inside).cell 2, ((L_v.out.kept b9 L_v.out.inside).kept b10 (L_v.out.kept b9 L_v.out.inside).inside).cell 3, ((L_v.out.kept b9 L_v.out.inside).kept b10 (L_v.out.kept b9 L_v.out.inside).inside).cell 4, ((L_a.out.kept b9 L_a.out.inside).kept b10 (L_a.out.kept b9 L_a.out.inside).inside).cell 0, ((L_a.out.kept b9 L_a.out.inside).kept b10 (L_a.out.kept b9 L_a.out.inside).inside).cell 1, ((L_a.out.kept b9 L_a.out.inside).kept b10 (L_a.out.kept b9 L_a.out.inside).inside).cell 2, ((L_a.out.kept b9 L_a.out.inside).kept b10 (L_a.out.kept b9 L_a.out.inside).inside).cell 3, ((L_a.out.kept b9 L_a.out.inside).kept b10 (L_a.out.kept b9 L_a.out.inside).inside).cell 4⟩))
  clear k_0 k_1 k_2
  replace L_a := Lib.hid (L_a.out.kept b9 L_a.out.inside)
  replace L_b := Lib.hid (L_b.out.kept b9 L_b.out.inside)
  replace L_v := Lib.hid (L_v.out.kept b9 L_v.out.inside)
  replace L_u := Lib.hid (L_u.out.kept b9 L_u.out.inside)
  replace O_t1 := Lib.hid (O_t1.out.kept b9)
  replace O_t2 := Lib.hid (O_t2.out.kept b9)
  replace O_t3 := Lib.hid (O_t3.out.kept b9)
  replace O_t4 := Lib.hid (O_t4.out.kept b9)
  replace O_t5 := Lib.hid (O_t5.out.kept b9)
  replace B := Lib.hid (B.out.trans (b9.mono B.out.size))
  clear b9
  have O_p1 := Lib.hid op1
  clear op1
  have O_p2 := Lib.hid op2
  clear op2
  have O_p3 := Lib.hid op3
  clear op3
  replace L_a := Lib.hid (L_a.out.kept b10 L_a.out.inside)
  replace L_b := Lib.hid (L_b.out.kept b10 L_b.out.inside)
  replace L_v := Lib.hid (L_v.out.kept b10 L_v.out.inside)
  replace L_u := Lib.hid (L_u.out.kept b10 L_u.out.inside)
  replace O_t1 := Lib.hid (O_t1.out.kept b10)
  replace O_t2 := Lib.hid (O_t2.out.kept b10)
  replace O_t3 := Lib.hid (O_t3.out.kept b10)
  replace O_t4 := Lib.hid (O_t4.out.kept b10)
  replace O_t5 := Lib.hid (O_t5.out.kept b10)
  replace O_p1 := Lib.hid (O_p1.out.kept b10)
  replace O_p2 := Lib.hid (O_p2.out.kept b10)
  replace O_p3 := Lib.hid (O_p3.out.kept b10)
  replace B := Lib.hid (B.out.trans (b10.mono B.out.size))
  clear b10
  go_wp2_with fail
  have k_0 : W10.cell? ⟨W7.heap.size, 0, none⟩ = some (.slice (some ⟨gt4, 0, none⟩) n4 n4) ∧ W10.cell? ⟨W7.heap.size, 1, none⟩ = some (.slice (some ⟨gt5, 0, none⟩) n5 n5) ∧ W10.cell? ⟨w.heap.size + 1, 0, none⟩ = some (.slice A4 n4 c4) ∧ W10.cell? ⟨w.heap.size + 1, 1, none⟩ = some (.slice A5 n5 c5) := ⟨L_u.out.cell 0, L_u.out.cell 1, L_b.out.cell 0, L_b.out.cell 1⟩
  go_region_held3 (fun w' => w'.cell? ⟨W7.heap.size, 0, none⟩ = some (.slice (some ⟨gt4, 0, none⟩) n4 n4) ∧ w'.cell? ⟨W7.heap.size, 1, none⟩ = some (.slice (some ⟨gt5, 0, none⟩) n5 n5) ∧ w'.cell? ⟨w.heap.size + 1, 0, none⟩ = some (.slice A4 n4 c4) ∧ w'.cell? ⟨w.heap.size + 1, 1, none⟩ = some (.slice A5 n5 c5))
    (first | (simp [go_sem, k_0]; done) | with_reducible exact k_1 | with_reducible exact k_2)
    (first
      | (go_at_call 39; refine (toRect_any _ _ _ _ _ _ _ _ x4 x5 _ (I_x4.out.kept B.out.drew) (I_x5.out.kept B.out.drew) (by omega) (by omega)).mono ?_
         rintro e W11 ⟨gq4, gq5, rfl, oq4, oq5, lq4, lq5, b11d⟩
         have b11 := below_drawn b11d
         have k_1 : W11.cell? ⟨W7.heap.size, 0, none⟩ = some (.slice (some ⟨gt4, 0, none⟩) n4 n4) ∧ W11.cell? ⟨W7.heap.size, 1, none⟩ = some (.slice (some ⟨gt5, 0, none⟩) n5 n5) ∧ W11.cell? ⟨w.heap.size + 1, 0, none⟩ = some (.slice A4 n4 c4) ∧ W11.cell? ⟨w.heap.size + 1, 1, none⟩ = some (.slice A5 n5 c5) := ⟨(L_u.out.kept b11 L_u.out.inside).cell 0, (L_u.out.kept b11 L_u.out.inside).cell 1, (L_b.out.kept b11 L_b.out.inside).cell 0, (L_b.out.kept b11 L_b.out.inside).cell 1⟩
         clear b11d)
      | (go_at_call 41; refine (eqRect_is true _ _ _ _ _ _ _ _ _ _ _ _ _ _ _ _ x4 x5 x4 x5 _ (by simp) ((O_t4.out.kept b11).ints (Nat.zero_le _)) ((O_t5.out.kept b11).ints (Nat.zero_le _)) (oq4.ints (Nat.zero_le _)) (oq5.ints (Nat.zero_le _)) m4 m5).mono ?_
         rintro e W12 ⟨rfl, b12⟩
         have k_2 : W12.cell? ⟨W7.heap.size, 0, none⟩ = some (.slice (some ⟨gt4, 0, none⟩) n4 n4) ∧ W12.cell? ⟨W7.heap.size, 1, none⟩ = some (.slice (some ⟨gt5, 0, none⟩) n5 n5) ∧ W12.cell? ⟨w.heap.size + 1, 0, none⟩ = some (.slice A4 n4 c4) ∧ W12.cell? ⟨w.heap.size + 1, 1, none⟩ = some (.slice A5 n5 c5) := ⟨((L_u.out.kept b11 L_u.out.inside).kept b12 (L_u.out.kept b11 L_u.out.inside).inside).cell 0, ((L_u.out.kept b11 L_u.out.inside).kept b12 (L_u.out.kept b11 L_u.out.inside).inside).cell 1, ((L_b.out.kept b11 L_b.out.inside).kept b12 (L_b.out.kept b11 L_b.out.inside).inside).cell 0, ((L_b.out.kept b11 L_b.out.inside).kept b12 (L_b.out.kept b11 L_b.out.inside).inside).cell 1⟩))
  clear k_0 k_1 k_2
  replace L_a := Lib.hid (L_a.out.kept b11 L_a.out.inside)
  replace L_b := Lib.hid (L_b.out.kept b11 L_b.out.inside)
  replace L_v := Lib.hid (L_v.out.kept b11 L_v.out.inside)
  replace L_u := Lib.hid (L_u.out.kept b11 L_u.out.inside)
  replace O_t1 := Lib.hid (O_t1.out.kept b11)
  replace O_t2 := Lib.hid (O_t2.out.kept b11)
  replace O_t3 := Lib.hid (O_t3.out.kept b11)
  replace O_t4 := Lib.hid (O_t4.out.kept b11)
  replace O_t5 := Lib.hid (O_t5.out.kept b11)
  replace O_p1 := Lib.hid (O_p1.out.kept b11)
  replace O_p2 := Lib.hid (O_p2.out.kept b11)
  replace O_p3 := Lib.hid (O_p3.out.kept b11)
  replace B := Lib.hid (B.out.trans (b11.mono B.out.size))
  clear b11
  have O_q4 := Lib.hid oq4
  clear oq4
  have O_q5 := Lib.hid oq5
  clear oq5
  replace L_a := Lib.hid (L_a.out.kept b12 L_a.out.inside)
  replace L_b := Lib.hid (L_b.out.kept b12 L_b.out.inside)
  replace L_v := Lib.hid (L_v.out.kept b12 L_v.out.inside)
  replace L_u := Lib.hid (L_u.out.kept b12 L_u.out.inside)
  replace O_t1 := Lib.hid (O_t1.out.kept b12)
  replace O_t2 := Lib.hid (O_t2.out.kept b12)
  replace O_t3 := Lib.hid (O_t3.out.kept b12)
  replace O_t4 := Lib.hid (O_t4.out.kept b12)
  replace O_t5 := Lib.hid (O_t5.out.kept b12)
  replace O_p1 := Lib.hid (O_p1.out.kept b12)
  replace O_p2 := Lib.hid (O_p2.out.kept b12)
  replace O_p3 := Lib.hid (O_p3.out.kept b12)
  replace O_q4 := Lib.hid (O_q4.out.kept b12)
  replace O_q5 := Lib.hid (O_q5.out.kept b12)
  replace B := Lib.hid (B.out.trans (b12.mono B.out.size))
  clear b12
  go_wp2
  go_ret
  exact ⟨rfl, B.out⟩

end Go.Proofs.Ytbonpmgbcdknbaa
