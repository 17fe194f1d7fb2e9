/- FnExactQueryFault: for every query and every number of dimensions impl.QueryFault answers as the model does and leaves its argument alone. No condition. -/
import Derived.Test.YtbonpmgbcdknbaaReadQuery
import Derived.Deep.RegionHeld3
namespace Go.Proofs.Ytbonpmgbcdknbaa
open Go.RowKit

set_option maxHeartbeats 1600000 in
theorem implQueryFault_any (kd kk d : Int) (n1 c1 n2 c2 n3 c3 lo1 lo2 lo3 : Nat) (A1 A2 A3 : Option Addr) (x1 x2 x3 : List Int) (w : World)
    (h1 : Ints w lo1 A1 n1 x1) (h2 : Ints w lo2 A2 n2 x2) (h3 : Ints w lo3 A3 n3 x3) (m1 : n1 ≤ maxLen) (m2 : n2 ≤ maxLen) (m3 : n3 ≤ maxLen) :
    Calls Try.prog 35 #[.agg #[.int .i64 kd, .slice A1 n1 c1, .slice A2 n2 c2, .slice A3 n3 c3, .int .i64 kk], .int .i64 d] w fun e w' => e = .returned (.int .i64 (qf kd x1 x2 x3 kk d)) ∧ Below w.heap.size w w' := by
  have I_x1 := Lib.hid h1
  have I_x2 := Lib.hid h2
  have I_x3 := Lib.hid h3
  clear h1 h2 h3
  have B := Lib.hid (Below.refl w.heap.size w)
  have L_q := Lib.hid (Lies.new w 59 #[.int .i64 kd, .slice A1 n1 c1, .slice A2 n2 c2, .slice A3 n3 c3, .int .i64 kk])
  replace B := Lib.hid (B.out.alloc B.out.size (.cells #[.int .i64 kd, .slice A1 n1 c1, .slice A2 n2 c2, .slice A3 n3 c3, .int .i64 kk] 59))
  go_enter Try.func35, Try.ntmps35
  go_wp2_with fail
  refine (readQuery_any _ _ _ _ _ _ _ _ _ _ _ _ _ _ _ x1 x2 x3 _ (I_x1.out.kept B.out) (I_x2.out.kept B.out) (I_x3.out.kept B.out) m1 m2 m3).mono ?_
  rintro e W1 ⟨rfl, b1⟩
  replace L_q := Lib.hid (L_q.out.kept b1 L_q.out.inside)
  replace B := Lib.hid (B.out.trans (b1.mono B.out.size))
  clear b1
  go_wp2
  go_ret
  exact ⟨rfl, B.out⟩

set_option maxHeartbeats 3200000 in
theorem lawQueryFault_walk (kd : Int) (n1 c1 n2 c2 n3 c3 : Nat) (A1 A2 A3 : Option Addr) (kk : Int) (x1 x2 x3 : List Int) (d : Int) (w : World)
    (h1 : Ints w 0 A1 n1 x1) (h2 : Ints w 0 A2 n2 x2) (h3 : Ints w 0 A3 n3 x3) (m1 : n1 ≤ maxLen) (m2 : n2 ≤ maxLen) (m3 : n3 ≤ maxLen) :
    Calls Try.prog 7 #[.agg #[.int .i64 kd, .slice A1 n1 c1, .slice A2 n2 c2, .slice A3 n3 c3, .int .i64 kk], .int .i64 d] w fun e w' => e = .returned (.bool true) ∧ Below w.heap.size w w' := by
  have I_x1 := Lib.hid h1
  have I_x2 := Lib.hid h2
  have I_x3 := Lib.hid h3
  clear h1 h2 h3
  have B := Lib.hid (Below.refl w.heap.size w)
  have L_a := Lib.hid (Lies.new w 55 #[.int .i64 kd, .slice A1 n1 c1, .slice A2 n2 c2, .slice A3 n3 c3, .int .i64 kk])
  replace B := Lib.hid (B.out.alloc B.out.size (.cells #[.int .i64 kd, .slice A1 n1 c1, .slice A2 n2 c2, .slice A3 n3 c3, .int .i64 kk] 55))
  by_cases z : (1048576 : Int) < n1 + n2 + n3
  · go_enter Try.func7, Try.ntmps7
    go_wp2_with fail
    refine (szQuery_no _ _ _ _ _ _ _ _ _ _ _ _ _ (by omega) (by omega) m1 m2 m3 (by omega)).mono ?_
    rintro e W1 ⟨rfl, b1⟩
    replace L_a := Lib.hid (L_a.out.kept b1 L_a.out.inside)
    replace B := Lib.hid (B.out.trans (b1.mono B.out.size))
    clear b1
    go_wp2
    go_ret
    exact ⟨rfl, B.out⟩
  go_enter Try.func7, Try.ntmps7
  go_wp2_with fail
  refine (szQuery_yes _ _ _ _ _ _ _ _ _ _ _ _ _ (by omega) m1 m2 m3 (by omega)).mono ?_
  rintro e W1 ⟨rfl, b1⟩
  replace L_a := Lib.hid (L_a.out.kept b1 L_a.out.inside)
  replace B := Lib.hid (B.out.trans (b1.mono B.out.size))
  clear b1
  have hk : ¬ ((1048576 : Int) - n1 - n2 - n3 < 0) := by omega
  have c_a0 : W1.cell? ⟨w.heap.size, 0, none⟩ = some (.int .i64 kd) := L_a.out.cell 0
  have c_a1 : W1.cell? ⟨w.heap.size, 1, none⟩ = some (.slice A1 n1 c1) := L_a.out.cell 1
  have c_a2 : W1.cell? ⟨w.heap.size, 2, none⟩ = some (.slice A2 n2 c2) := L_a.out.cell 2
  have c_a3 : W1.cell? ⟨w.heap.size, 3, none⟩ = some (.slice A3 n3 c3) := L_a.out.cell 3
  have c_a4 : W1.cell? ⟨w.heap.size, 4, none⟩ = some (.int .i64 kk) := L_a.out.cell 4
  go_wp2_with fail
  clear c_a0 c_a1 c_a2 c_a3 c_a4
  refine (toQuery_any _ _ _ _ _ _ _ _ _ _ _ _ _ _ x1 x2 x3 _ (I_x1.out.kept B.out) (I_x2.out.kept B.out) (I_x3.out.kept B.out) (by omega) (by omega) (by omega)).mono ?_
  rintro e W2 ⟨gs1, gs2, gs3, rfl, os1, os2, os3, b2⟩
  replace L_a := Lib.hid (L_a.out.kept b2 L_a.out.inside)
  replace B := Lib.hid (B.out.trans (b2.mono B.out.size))
  clear b2
  have O_s1 := Lib.hid os1
  clear os1
  have O_s2 := Lib.hid os2
  clear os2
  have O_s3 := Lib.hid os3
  clear os3
  go_wp2_with fail
  refine (specQueryFault_any _ _ _ _ _ _ _ _ _ _ _ _ _ _ _ x1 x2 x3 _ (O_s1.out.ints (Nat.zero_le _)) (O_s2.out.ints (Nat.zero_le _)) (O_s3.out.ints (Nat.zero_le _)) (by omega) (by omega) (by omega)).mono ?_
  rintro e W3 ⟨rfl, b3⟩
  replace L_a := Lib.hid (L_a.out.kept b3 L_a.out.inside)
  replace O_s1 := Lib.hid (O_s1.out.kept b3)
  replace O_s2 := Lib.hid (O_s2.out.kept b3)
  replace O_s3 := Lib.hid (O_s3.out.kept b3)
  replace B := Lib.hid (B.out.trans (b3.mono B.out.size))
  clear b3
  clear O_s1
  clear O_s2
  clear O_s3
  have c_a0 : W3.cell? ⟨w.heap.size, 0, none⟩ = some (.int .i64 kd) := L_a.out.cell 0
  have c_a1 : W3.cell? ⟨w.heap.size, 1, none⟩ = some (.slice A1 n1 c1) := L_a.out.cell 1
  have c_a2 : W3.cell? ⟨w.heap.size, 2, none⟩ = some (.slice A2 n2 c2) := L_a.out.cell 2
  have c_a3 : W3.cell? ⟨w.heap.size, 3, none⟩ = some (.slice A3 n3 c3) := L_a.out.cell 3
  have c_a4 : W3.cell? ⟨w.heap.size, 4, none⟩ = some (.int .i64 kk) := L_a.out.cell 4
  go_wp2_with fail
  clear c_a0 c_a1 c_a2 c_a3 c_a4
  refine (toQuery_any _ _ _ _ _ _ _ _ _ _ _ _ _ _ x1 x2 x3 _ (I_x1.out.kept B.out) (I_x2.out.kept B.out) (I_x3.out.kept B.out) (by omega) (by omega) (by omega)).mono ?_
  rintro e W4 ⟨gt1, gt2, gt3, rfl, ot1, ot2, ot3, b4⟩
  replace L_a := Lib.hid (L_a.out.kept b4 L_a.out.inside)
  replace B := Lib.hid (B.out.trans (b4.mono B.out.size))
  clear b4
  have O_t1 := Lib.hid ot1
  clear ot1
  have O_t2 := Lib.hid ot2
  clear ot2
  have O_t3 := Lib.hid ot3
  clear ot3
  replace L_a := Lib.hid (L_a.out.alloc (.cells #[.int .i64 kd, .slice (some ⟨gt1, 0, none⟩) n1 n1, .slice (some ⟨gt2, 0, none⟩) n2 n2, .slice (some ⟨gt3, 0, none⟩) n3 n3, .int .i64 kk] 59))
  replace O_t1 := Lib.hid (O_t1.out.kept (below_alloc _ (.cells #[.int .i64 kd, .slice (some ⟨gt1, 0, none⟩) n1 n1, .slice (some ⟨gt2, 0, none⟩) n2 n2, .slice (some ⟨gt3, 0, none⟩) n3 n3, .int .i64 kk] 59)))
  replace O_t2 := Lib.hid (O_t2.out.kept (below_alloc _ (.cells #[.int .i64 kd, .slice (some ⟨gt1, 0, none⟩) n1 n1, .slice (some ⟨gt2, 0, none⟩) n2 n2, .slice (some ⟨gt3, 0, none⟩) n3 n3, .int .i64 kk] 59)))
  replace O_t3 := Lib.hid (O_t3.out.kept (below_alloc _ (.cells #[.int .i64 kd, .slice (some ⟨gt1, 0, none⟩) n1 n1, .slice (some ⟨gt2, 0, none⟩) n2 n2, .slice (some ⟨gt3, 0, none⟩) n3 n3, .int .i64 kk] 59)))
  have L_v := Lib.hid (Lies.new W4 59 #[.int .i64 kd, .slice (some ⟨gt1, 0, none⟩) n1 n1, .slice (some ⟨gt2, 0, none⟩) n2 n2, .slice (some ⟨gt3, 0, none⟩) n3 n3, .int .i64 kk])
  replace B := Lib.hid (B.out.alloc B.out.size (.cells #[.int .i64 kd, .slice (some ⟨gt1, 0, none⟩) n1 n1, .slice (some ⟨gt2, 0, none⟩) n2 n2, .slice (some ⟨gt3, 0, none⟩) n3 n3, .int .i64 kk] 59))
  go_wp2_with fail
  refine (implQueryFault_any _ _ _ _ _ _ _ _ _ _ _ _ _ _ _ x1 x2 x3 _ (O_t1.out.ints (Nat.zero_le _)) (O_t2.out.ints (Nat.zero_le _)) (O_t3.out.ints (Nat.zero_le _)) m1 m2 m3).mono ?_
  rintro e W5 ⟨rfl, b5⟩
  replace L_a := Lib.hid (L_a.out.kept b5 L_a.out.inside)
  replace L_v := Lib.hid (L_v.out.kept b5 L_v.out.inside)
  replace O_t1 := Lib.hid (O_t1.out.kept b5)
  replace O_t2 := Lib.hid (O_t2.out.kept b5)
  replace O_t3 := Lib.hid (O_t3.out.kept b5)
  replace B := Lib.hid (B.out.trans (b5.mono B.out.size))
  clear b5
  generalize hval : qf kd x1 x2 x3 kk d = val at *
  clear hval
  have hp : (val != val) = false := by simp
  go_wp2_with fail
  have k_0 : W5.cell? ⟨W4.heap.size, 0, none⟩ = some (.int .i64 kd) ∧ W5.cell? ⟨W4.heap.size, 1, none⟩ = some (.slice (some ⟨gt1, 0, none⟩) n1 n1) ∧ W5.cell? ⟨W4.heap.size, 2, none⟩ = some (.slice (some ⟨gt2, 0, none⟩) n2 n2) ∧ W5.cell? ⟨W4.heap.size, 3, none⟩ = some (.slice (some ⟨gt3, 0, none⟩) n3 n3) ∧ W5.cell? ⟨W4.heap.size, 4, none⟩ = some (.int .i64 kk) ∧ W5.cell? ⟨w.heap.size, 0, none⟩ = some (.int .i64 kd) ∧ W5.cell? ⟨w.heap.size, 1, none⟩ = some (.slice A1 n1 c1) ∧ W5.cell? ⟨w.heap.size, 2, none⟩ = some (.slice A2 n2 c2) ∧ W5.cell? ⟨w.heap.size, 3, none⟩ = some (.slice A3 n3 c3) ∧ W5.cell? ⟨w.heap.size, 4, none⟩ = some (.int .i64 kk) := ⟨L_v.out.cell 0, L_v.out.cell 1, L_v.out.cell 2, L_v.out.cell 3, L_v.out.cell 4, L_a.out.cell 0, L_a.out.cell 1, L_a.out.cell 2, L_a.out.cell 3, L_a.out.cell 4⟩
  go_region_held3 (fun w' => w'.cell? ⟨W4.heap.size, 0, none⟩ = some (.int .i64 kd) ∧ w'.cell? ⟨W4.heap.size, 1, none⟩ = some (.slice (some ⟨gt1, 0, none⟩) n1 n1) ∧ w'.cell? ⟨W4.heap.size, 2, none⟩ = some (.slice (some ⟨gt2, 0, none⟩) n2 n2) ∧ w'.cell? ⟨W4.heap.size, 3, none⟩ = some (.slice (some ⟨gt3, 0, none⟩) n3 n3) ∧ w'.cell? ⟨W4.heap.size, 4, none⟩ = some (.int .i64 kk) ∧ w'.cell? ⟨w.heap.size, 0, none⟩ = some (.int .i64 kd) ∧ w'.cell? ⟨w.heap.size, 1, none⟩ = some (.slice A1 n1 c1) ∧ w'.cell? ⟨w.heap.size, 2, none⟩ = some (.slice A2 n2 c2) ∧ w'.cell? ⟨w.heap.size, 3, none⟩ = some (.slice A3 n3 c3) ∧ w'.cell? ⟨w.heap.size, 4, none⟩ = some (.int .i64 kk))
    (first | (simp [go_sem, k_0]; done) | with_reducible exact k_1 | with_reducible exact k_2)
    (first
      | (go_at_call 34; refine (toQuery_any _ _ _ _ _ _ _ _ _ _ _ _ _ _ x1 x2 x3 _ (I_x1.out.kept B.out.drew) (I_x2.out.kept B.out.drew) (I_x3.out.kept B.out.drew) (by omega) (by omega) (by omega)).mono ?_
         rintro e W6 ⟨gu1, gu2, gu3, rfl, ou1, ou2, ou3, b6d⟩
         have b6 := below_drawn b6d
         have k_1 : W6.cell? ⟨W4.heap.size, 0, none⟩ = some (.int .i64 kd) ∧ W6.cell? ⟨W4.heap.size, 1, none⟩ = some (.slice (some ⟨gt1, 0, none⟩) n1 n1) ∧ W6.cell? ⟨W4.heap.size, 2, none⟩ = some (.slice (some ⟨gt2, 0, none⟩) n2 n2) ∧ W6.cell? ⟨W4.heap.size, 3, none⟩ = some (.slice (some ⟨gt3, 0, none⟩) n3 n3) ∧ W6.cell? ⟨W4.heap.size, 4, none⟩ = some (.int .i64 kk) ∧ W6.cell? ⟨w.heap.size, 0, none⟩ = some (.int .i64 kd) ∧ W6.cell? ⟨w.heap.size, 1, none⟩ = some (.slice A1 n1 c1) ∧ W6.cell? ⟨w.heap.size, 2, none⟩ = some (.slice A2 n2 c2) ∧ W6.cell? ⟨w.heap.size, 3, none⟩ = some (.slice A3 n3 c3) ∧ W6.cell? ⟨w.heap.size, 4, none⟩ = some (.int .i64 kk) := ⟨(L_v.out.kept b6 L_v.out.inside).cell 0, (L_v.out.kept b6 L_v.out.inside).cell 1, (L_v.out.kept b6 L_v.out.inside).cell 2, (L_v.out.kept b6 L_v.out.inside).cell 3, (L_v.out.kept b6 L_v.out.inside).cell 4, (L_a.out.kept b6 L_a.out.inside).cell 0, (L_a.out.kept b6 L_a.out.inside).cell 1, (L_a.out.kept b6 L_a.out.inside).cell 2, (L_a.out.kept b6 L_a.out.inside).cell 3, (L_a.out.kept b6 L_a.out.inside).cell 4⟩
         clear b6d)
      | (go_at_call 36; refine (eqQuery_same _ _ _ _ _ _ _ _ _ _ _ _ _ _ _ _ _ _ _ _ _ _ _ x1 x2 x3 _ ((O_t1.out.kept b6).ints (Nat.zero_le _)) ((O_t2.out.kept b6).ints (Nat.zero_le _)) ((O_t3.out.kept b6).ints (Nat.zero_le _)) (ou1.ints (Nat.zero_le _)) (ou2.ints (Nat.zero_le _)) (ou3.ints (Nat.zero_le _)) m1 m2 m3).mono ?_
         rintro e W7 ⟨rfl, b7⟩
         have k_2 : W7.cell? ⟨W4.heap.size, 0, none⟩ = some (.int .i64 kd) ∧ W7.cell? ⟨W4.heap.size, 1, none⟩ = some (.slice (some ⟨gt1, 0, none⟩) n1 n1) ∧ W7.cell? ⟨W4.heap.size, 2, none⟩ = some (.slice (some ⟨gt2, 0, none⟩) n2 n2) ∧ W7.cell? ⟨W4.heap.size, 3, none⟩ = some (.slice (some ⟨gt3, 0, none⟩) n3 n3) ∧ W7.cell? ⟨W4.heap.size, 4, none⟩ = some (.int .i64 kk) ∧ W7.cell? ⟨w.heap.size, 0, none⟩ = some (.int .i64 kd) ∧ W7.cell? ⟨w.heap.size, 1, none⟩ = some (.slice A1 n1 c1) ∧ W7.cell? ⟨w.heap.size, 2, none⟩ = some (.slice A2 n2 c2) ∧ W7.cell? ⟨w.heap.size, 3, none⟩ = some (.slice A3 n3 c3) ∧ W7.cell? ⟨w.heap.size, 4, none⟩ = some (.int .i64 kk) := ⟨((L_v.out.kept b6 L_v.out.inside).kept b7 (L_v.out.kept b6 L_v.out.inside).inside).cell 0, ((L_v.out.kept b6 L_v.out.inside).kept b7 (L_v.out.kept b6 L_v.out.inside).inside).cell 1, ((L_v.out.kept b6 L_v.out.inside).kept b7 (L_v.out.kept b6 L_v.out.inside).inside).cell 2, ((L_v.out.kept b6 L_v.out.inside).kept b7 (L_v.out.kept b6 L_v.out.inside).inside).cell 3, ((L_v.out.kept b6 L_v.out.inside).kept b7 (L_v.out.kept b6 L_v.out.inside).inside).cell 4, ((L_a.out.kept b6 L_a.out.inside).kept b7 (L_a.out.kept b6 L_a.out.inside).inside).cell 0, ((L_a.out.kept b6 L_a.out.inside).kept b7 (L_a.out.kept b6 L_a.out.inside).inside).cell 1, ((L_a.out.kept b6 L_a.out.inside).kept b7 (L_a.out.kept b6 L_a.out.inside).inside).cell 2, ((L_a.out.kept b6 L_a.out.inside).kept b7 (L_a.out.kept b6 L_a.out.inside).inside).cell 3, ((L_a.out.kept b6 L_a.out.inside).kept b7 (L_a.out.kept b6 L_a.out.inside).inside).cell 4⟩))
  clear k_0 k_1 k_2
  replace L_a := Lib.hid (L_a.out.kept b6 L_a.out.inside)
  replace L_v := Lib.hid (L_v.out.kept b6 L_v.out.inside)
  replace O_t1 := Lib.hid (O_t1.out.kept b6)
  replace O_t2 := Lib.hid (O_t2.out.kept b6)
  replace O_t3 := Lib.hid (O_t3.out.kept b6)
  replace B := Lib.hid (B.out.trans (b6.mono B.out.size))
  clear b6
  have O_u1 := Lib.hid ou1
  clear ou1
  have O_u2 := Lib.hid ou2
  clear ou2
  have O_u3 := Lib.hid ou3
  clear ou3
  replace L_a := Lib.hid (L_a.out.kept b7 L_a.out.inside)
  replace L_v := Lib.hid (L_v.out.kept b7 L_v.out.inside)
  replace O_t1 := Lib.hid (O_t1.out.kept b7)
  replace O_t2 := Lib.hid (O_t2.out.kept b7)
  replace O_t3 := Lib.hid (O_t3.out.kept b7)
  replace O_u1 := Lib.hid (O_u1.out.kept b7)
  replace O_u2 := Lib.hid (O_u2.out.kept b7)
  replace O_u3 := Lib.hid (O_u3.out.kept b7)
  replace B := Lib.hid (B.out.trans (b7.mono B.out.size))
  clear b7
  go_wp2
  go_ret
  exact ⟨rfl, B.out⟩

end Go.Proofs.Ytbonpmgbcdknbaa
