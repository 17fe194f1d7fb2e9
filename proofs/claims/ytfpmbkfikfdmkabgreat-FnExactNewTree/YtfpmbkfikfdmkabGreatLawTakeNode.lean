/- FnExactTakeNode: for every arena and node impl.TakeNode answers as the model does, leaves its arguments alone and answers in memory of its own. No condition. -/
import Derived.Test.YtfpmbkfikfdmkabGreatImplTake
import Derived.Test.YtfpmbkfikfdmkabGreatSpecTake
import Derived.Test.YtfpmbkfikfdmkabGreatNodeArg
import Derived.Test.YtfpmbkfikfdmkabGreatAnswers
import Derived.Test.YtfpmbkfikfdmkabGreatMarkRes
namespace Go.Proofs.YtfpmbkfikfdmkabGreat
open Go.RowKit

theorem specTakeNode_is (d lv nn rt : Int) (n1 c1 n2 c2 n3 c3 n c : Nat) (A1 A2 A3 A : Option Addr) (ns : List NV) (fs : List Int) (rs : List RV) (es : List EV) (w : World) {cd D idr : Int} {V : List NVal} {F : List Int} {U : List RVal} (hR : takeR d (ns.map NV.val) fs (rs.map RV.val) (lv, nn, rt, es.map EV.val) = (cd, D, V, F, U, idr)) (hp : ArenaL w A1 A2 A3 n1 n2 n3 ns fs rs) (hc : n1 ≤ c1) (hcm : c1 ≤ maxLen) (m2 : n2 ≤ 1048576) (m3 : n3 ≤ 1048576) (he : Entries w A n es) (hn : n ≤ maxLen) :
    Calls Tryz.prog 11 #[.agg #[.int .i64 d, .slice A1 n1 c1, .slice A2 n2 c2, .slice A3 n3 c3], .agg #[.int .i64 lv, .int .i64 nn, .int .i64 rt, .slice A n c]] w fun e w' => ∃ A1' c1' A2' c2' A3' c3' qs ts, e = .returned (.agg #[.int .i64 cd, .int .i64 D, .slice A1' V.length c1', .slice A2' F.length c2', .slice A3' U.length c3', .int .i64 idr]) ∧ SpA w' w.heap.size A1' V.length c1' A2' F.length c2' A3' U.length c3' qs F ts ∧ qs.map NV.val = V ∧ ts.map RV.val = U ∧ Below w.heap.size w w' := by
  have h0 := specTakeNode_any d lv nn rt n1 c1 n2 c2 n3 c3 n c A1 A2 A3 A ns fs rs es w hp hc hcm m2 m3 he hn
  rw [hR] at h0
  exact h0

theorem implTakeNode_is (d lv nn rt : Int) (n1 c1 n2 c2 n3 c3 n c : Nat) (A1 A2 A3 A : Option Addr) (ns : List NV) (fs : List Int) (rs : List RV) (es : List EV) (w : World) {cd D idr : Int} {V : List NVal} {F : List Int} {U : List RVal} (hR : takeR d (ns.map NV.val) fs (rs.map RV.val) (lv, nn, rt, es.map EV.val) = (cd, D, V, F, U, idr)) (hp : ArenaL w A1 A2 A3 n1 n2 n3 ns fs rs) (hn3 : n3 ≤ 1048576) (he : Entries w A n es) (hn : n ≤ maxLen) :
    Calls Tryz.prog 14 #[.agg #[.int .i64 d, .slice A1 n1 c1, .slice A2 n2 c2, .slice A3 n3 c3], .agg #[.int .i64 lv, .int .i64 nn, .int .i64 rt, .slice A n c]] w fun e w' => ∃ A1' c1' A2' c2' A3' c3' qs ts, e = .returned (.agg #[.int .i64 cd, .int .i64 D, .slice A1' V.length c1', .slice A2' F.length c2', .slice A3' U.length c3', .int .i64 idr]) ∧ AnsAr w' w.heap.size A1' V.length c1' A2' F.length c2' A3' U.length c3' qs F ts ∧ qs.map NV.val = V ∧ ts.map RV.val = U ∧ Below w.heap.size w w' := by
  have h0 := implTakeNode_any d lv nn rt n1 c1 n2 c2 n3 c3 n c A1 A2 A3 A ns fs rs es w hp hn3 he hn
  rw [hR] at h0
  exact h0

set_option maxRecDepth 100000 in
set_option maxHeartbeats 6400000 in
theorem lawTakeNode_walk (dd0 : Int) (n0 c0 m0 e0 l0 f0 : Nat) (A0 B0 C0 : Option Addr) (ns0 : List NV) (fs0 : List Int) (rs0 : List RV) (lv1 ns1 rt1 : Int) (n1 c1 : Nat) (A1 : Option Addr) (ps1 : List EV) (w : World) (hp0 : ArenaL w A0 B0 C0 n0 m0 l0 ns0 fs0 rs0) (hp1 : Entries w A1 n1 ps1) (hn1 : n1 ≤ maxLen) :
    Calls Tryz.prog 3 #[.agg #[.int .i64 dd0, .slice A0 n0 c0, .slice B0 m0 e0, .slice C0 l0 f0], .agg #[.int .i64 lv1, .int .i64 ns1, .int .i64 rt1, .slice A1 n1 c1]] w fun e w' => e = .returned (.bool true) ∧ Below w.heap.size w w' := by
  have HP0 := Lib.hid hp0
  clear hp0
  have HP1 := Lib.hid hp1
  clear hp1
  obtain ⟨⟨cd, D, V, F, U, idr⟩, hR⟩ : ∃ R, takeR dd0 (ns0.map NV.val) fs0 (rs0.map RV.val) (lv1, ns1, rt1, ps1.map EV.val) = R := ⟨_, rfl⟩
  have HR := Lib.hid hR
  clear hR
  have B := Lib.hid (Below.refl w.heap.size w)
  have L_a0 := Lib.hid (Lies.new w 26 #[.int .i64 dd0, .slice A0 n0 c0, .slice B0 m0 e0, .slice C0 l0 f0])
  replace B := Lib.hid (B.out.alloc B.out.size (.cells #[.int .i64 dd0, .slice A0 n0 c0, .slice B0 m0 e0, .slice C0 l0 f0] 26))
  replace L_a0 := Lib.hid (L_a0.out.alloc (.cells #[.int .i64 lv1, .int .i64 ns1, .int .i64 rt1, .slice A1 n1 c1] 29))
  have L_a1 := Lib.hid (Lies.new (w.alloc (.cells #[.int .i64 dd0, .slice A0 n0 c0, .slice B0 m0 e0, .slice C0 l0 f0] 26)) 29 #[.int .i64 lv1, .int .i64 ns1, .int .i64 rt1, .slice A1 n1 c1])
  replace B := Lib.hid (B.out.alloc B.out.size (.cells #[.int .i64 lv1, .int .i64 ns1, .int .i64 rt1, .slice A1 n1 c1] 29))
  simp only [World.size_alloc] at L_a1
  go_enter Tryz.func3, Tryz.ntmps3
  go_wp2_with fail
  refine (szArena_sum _ 1048576 _ _ _ _ _ _ _ _ _ ns0 fs0 rs0 _ (HP0.out.kept B.out) (by decide) (by decide)).mono ?_
  rintro e W1 ⟨r0, rfl, hr0, b1⟩
  have sz_W1 := b1.size
  try simp only [World.size_alloc] at sz_W1
  replace L_a0 := Lib.hid (L_a0.out.kept b1 L_a0.out.inside)
  replace L_a1 := Lib.hid (L_a1.out.kept b1 L_a1.out.inside)
  replace B := Lib.hid (B.out.trans (b1.mono B.out.size))
  clear b1
  rcases hr0 with rfl | ⟨p0, q0, hs0, hu0⟩
  · go_wp2
    go_ret
    exact ⟨rfl, B.out⟩
  have HS0 := Lib.hid hs0
  have HF0 := Lib.hid (FewA.of HP0.out p0 (show (1048576 : Int) ≤ 1048576 by omega) hu0)
  have t0 : ¬ r0 < 0 := by omega
  clear hs0 hu0
  have c_a10 : W1.cell? ⟨w.heap.size + 1, 0, none⟩ = some (.int .i64 lv1) := L_a1.out.cell 0
  have c_a11 : W1.cell? ⟨w.heap.size + 1, 1, none⟩ = some (.int .i64 ns1) := L_a1.out.cell 1
  have c_a12 : W1.cell? ⟨w.heap.size + 1, 2, none⟩ = some (.int .i64 rt1) := L_a1.out.cell 2
  have c_a13 : W1.cell? ⟨w.heap.size + 1, 3, none⟩ = some (.slice A1 n1 c1) := L_a1.out.cell 3
  go_wp2_with fail
  clear c_a10 c_a11 c_a12 c_a13
  refine (szNode_sum _ _ _ r0 _ _ _ ps1 _ (HP1.out.kept B.out) hn1 p0 (by omega)).mono ?_
  rintro e W2 ⟨r1, rfl, hr1, b2⟩
  have sz_W2 := b2.size
  try simp only [World.size_alloc] at sz_W2
  replace L_a0 := Lib.hid (L_a0.out.kept b2 L_a0.out.inside)
  replace L_a1 := Lib.hid (L_a1.out.kept b2 L_a1.out.inside)
  replace B := Lib.hid (B.out.trans (b2.mono B.out.size))
  clear b2
  rcases hr1 with rfl | ⟨p1, q1, nn1, hu1, hs1⟩
  · go_wp2
    go_ret
    exact ⟨rfl, B.out⟩
  have HM1 := Lib.hid hs1
  have HS1 := Lib.hid (hs1.two (by omega))
  have mm1 : n1 ≤ 1048576 := by omega
  have t1 : ¬ r1 < 0 := by omega
  clear hs1 hu1 nn1
  have szB := B.out.size
  go_upto_region 8 with fail
  go_cut [6] (fun s6 wx => ∃ (n_w0 : Nat) (Aw Bw Cw : Option Addr) (cw dw fw : Nat) (qw : List NV) (tw : List RV), s6 = .pointer (some ⟨n_w0, 0, none⟩) ∧ Hid (Lies wx n_w0 37 #[.int .i64 cd, .int .i64 D, .slice Aw V.length cw, .slice Bw F.length dw, .slice Cw U.length fw, .int .i64 idr]) ∧ W2.heap.size ≤ n_w0 ∧ Hid (ArenaL wx Aw Bw Cw V.length F.length U.length qw F tw) ∧ Hid (qw.map NV.val = V) ∧ Hid (tw.map RV.val = U) ∧ Hid (Since W2 wx))
  case first =>
    have c_a00 : W2.cell? ⟨w.heap.size, 0, none⟩ = some (.int .i64 dd0) := L_a0.out.cell 0
    have c_a01 : W2.cell? ⟨w.heap.size, 1, none⟩ = some (.slice A0 n0 c0) := L_a0.out.cell 1
    have c_a02 : W2.cell? ⟨w.heap.size, 2, none⟩ = some (.slice B0 m0 e0) := L_a0.out.cell 2
    have c_a03 : W2.cell? ⟨w.heap.size, 3, none⟩ = some (.slice C0 l0 f0) := L_a0.out.cell 3
    have c_a10 : W2.cell? ⟨w.heap.size + 1, 0, none⟩ = some (.int .i64 lv1) := L_a1.out.cell 0
    have c_a11 : W2.cell? ⟨w.heap.size + 1, 1, none⟩ = some (.int .i64 ns1) := L_a1.out.cell 1
    have c_a12 : W2.cell? ⟨w.heap.size + 1, 2, none⟩ = some (.int .i64 rt1) := L_a1.out.cell 2
    have c_a13 : W2.cell? ⟨w.heap.size + 1, 3, none⟩ = some (.slice A1 n1 c1) := L_a1.out.cell 3
    have i_a0 := L_a0.out.inside
    have l_a0 := Nat.le_of_lt i_a0
    have i_a1 := L_a1.out.inside
    have l_a1 := Nat.le_of_lt i_a1
    have zd := size_of_drew
    go_region_held3 (fun w' => w'.cell? ⟨w.heap.size, 0, none⟩ = some (.int .i64 dd0) ∧ w'.cell? ⟨w.heap.size, 1, none⟩ = some (.slice A0 n0 c0) ∧ w'.cell? ⟨w.heap.size, 2, none⟩ = some (.slice B0 m0 e0) ∧ w'.cell? ⟨w.heap.size, 3, none⟩ = some (.slice C0 l0 f0) ∧ w'.cell? ⟨w.heap.size + 1, 0, none⟩ = some (.int .i64 lv1) ∧ w'.cell? ⟨w.heap.size + 1, 1, none⟩ = some (.int .i64 ns1) ∧ w'.cell? ⟨w.heap.size + 1, 2, none⟩ = some (.int .i64 rt1) ∧ w'.cell? ⟨w.heap.size + 1, 3, none⟩ = some (.slice A1 n1 c1))
      (exact ⟨Lies.cell (t := 26) (cs := #[.int .i64 dd0, .slice A0 n0 c0, .slice B0 m0 e0, .slice C0 l0 f0]) (by with_reducible (repeat (first | refine Lies.far ?_ ?_ _ | refine Lies.alloc ?_ _ | refine Lies.drew ?_ | refine Lies.call ?_ b5 | refine Lies.call ?_ b4 | refine Lies.call ?_ b3 | exact L_a0.out | exact L_a1.out)); all_goals (simp only [size_of_drew, size_of_setCell, World.size_alloc]; omega)) 0, Lies.cell (t := 26) (cs := #[.int .i64 dd0, .slice A0 n0 c0, .slice B0 m0 e0, .slice C0 l0 f0]) (by with_reducible (repeat (first | refine Lies.far ?_ ?_ _ | refine Lies.alloc ?_ _ | refine Lies.drew ?_ | refine Lies.call ?_ b5 | refine Lies.call ?_ b4 | refine Lies.call ?_ b3 | exact L_a0.out | exact L_a1.out)); all_goals (simp only [size_of_drew, size_of_setCell, World.size_alloc]; omega)) 1, Lies.cell (t := 26) (cs := #[.int .i64 dd0, .slice A0 n0 c0, .slice B0 m0 e0, .slice C0 l0 f0]) (by with_reducible (repeat (first | refine Lies.far ?_ ?_ _ | refine Lies.alloc ?_ _ | refine Lies.drew ?_ | refine Lies.call ?_ b5 | refine Lies.call ?_ b4 | refine Lies.call ?_ b3 | exact L_a0.out | exact L_a1.out)); all_goals (simp only [size_of_drew, size_of_setCell, World.size_alloc]; omega)) 2, Lies.cell (t := 26) (cs := #[.int .i64 dd0, .slice A0 n0 c0, .slice B0 m0 e0, .slice C0 l0 f0]) (by with_reducible (repeat (first | refine Lies.far ?_ ?_ _ | refine Lies.alloc ?_ _ | refine Lies.drew ?_ | refine Lies.call ?_ b5 | refine Lies.call ?_ b4 | refine Lies.call ?_ b3 | exact L_a0.out | exact L_a1.out)); all_goals (simp only [size_of_drew, size_of_setCell, World.size_alloc]; omega)) 3, Lies.cell (t := 29) (cs := #[.int .i64 lv1, .int .i64 ns1, .int .i64 rt1, .slice A1 n1 c1]) (by with_reducible (repeat (first | refine Lies.far ?_ ?_ _ | refine Lies.alloc ?_ _ | refine Lies.drew ?_ | refine Lies.call ?_ b5 | refine Lies.call ?_ b4 | refine Lies.call ?_ b3 | exact L_a0.out | exact L_a1.out)); all_goals (simp only [size_of_drew, size_of_setCell, World.size_alloc]; omega)) 0, Lies.cell (t := 29) (cs := #[.int .i64 lv1, .int .i64 ns1, .int .i64 rt1, .slice A1 n1 c1]) (by with_reducible (repeat (first | refine Lies.far ?_ ?_ _ | refine Lies.alloc ?_ _ | refine Lies.drew ?_ | refine Lies.call ?_ b5 | refine Lies.call ?_ b4 | refine Lies.call ?_ b3 | exact L_a0.out | exact L_a1.out)); all_goals (simp only [size_of_drew, size_of_setCell, World.size_alloc]; omega)) 1, Lies.cell (t := 29) (cs := #[.int .i64 lv1, .int .i64 ns1, .int .i64 rt1, .slice A1 n1 c1]) (by with_reducible (repeat (first | refine Lies.far ?_ ?_ _ | refine Lies.alloc ?_ _ | refine Lies.drew ?_ | refine Lies.call ?_ b5 | refine Lies.call ?_ b4 | refine Lies.call ?_ b3 | exact L_a0.out | exact L_a1.out)); all_goals (simp only [size_of_drew, size_of_setCell, World.size_alloc]; omega)) 2, Lies.cell (t := 29) (cs := #[.int .i64 lv1, .int .i64 ns1, .int .i64 rt1, .slice A1 n1 c1]) (by with_reducible (repeat (first | refine Lies.far ?_ ?_ _ | refine Lies.alloc ?_ _ | refine Lies.drew ?_ | refine Lies.call ?_ b5 | refine Lies.call ?_ b4 | refine Lies.call ?_ b3 | exact L_a0.out | exact L_a1.out)); all_goals (simp only [size_of_drew, size_of_setCell, World.size_alloc]; omega)) 3⟩)
      (first
        | (go_at_call 12; refine (toArena_any _ _ _ _ _ _ _ _ _ _ ns0 fs0 rs0 _ (HP0.out.kept (by with_reducible (repeat (first | refine Since.below ?_ | refine Since.drew ?_ | refine Since.alloc ?_ _ | exact Since.of B.out)))) HS0.out).mono ?_
           rintro e W3 ⟨g1s0, g2s0, g3s0, nss0, rss0, rfl, os0, vs0, us0, b3⟩
           have q_W3 := cells_kept b3
           have u_W3 := frozen_kept b3
           have z_W3 := sizes_kept b3
           try simp only [size_of_drew, World.size_alloc] at z_W3
           have le_W2_W3 : W2.heap.size ≤ W3.heap.size := by omega
           try (have lt_W2_W3 : W2.heap.size < W3.heap.size := by omega))
        | (go_at_call 13; refine (toNode_any _ _ _ _ _ _ ps1 _ (HP1.out.kept (by with_reducible (repeat (first | refine Since.below ?_ | refine Since.drew ?_ | refine Since.alloc ?_ _ | refine Since.call ?_ b3 | exact Since.of B.out)))) mm1 HS1.out).mono ?_
           rintro e W4 ⟨gs1, qss1, rfl, hgs1, os1, ls1, vs1, b4⟩
           have q_W4 := cells_kept b4
           have u_W4 := frozen_kept b4
           have z_W4 := sizes_kept b4
           try simp only [size_of_drew, World.size_alloc] at z_W4
           have le_W2_W4 : W2.heap.size ≤ W4.heap.size := by omega
           try (have lt_W2_W4 : W2.heap.size < W4.heap.size := by omega)
           have le_W3_W4 : W3.heap.size ≤ W4.heap.size := by omega
           try (have lt_W3_W4 : W3.heap.size < W4.heap.size := by omega))
        | (go_at_call 11; refine (specTakeNode_is (cd := cd) (D := D) (idr := idr) (V := V) (F := F) (U := U) dd0 lv1 ns1 rt1 _ _ _ _ _ _ _ _ _ _ _ _ nss0 fs0 rss0 qss1 _ (by rw [vs0, us0, vs1]; exact HR.out) (ArenaAt.arena (by with_reducible (repeat (first | exact ArenaAt.of os0 | refine ArenaAt.drew' ?_ | refine ArenaAt.alloc' ?_ _ | refine ArenaAt.call' ?_ b4 | refine ArenaAt.call' ?_ b3))) HS0.out.s1 HS0.out.s2 HS0.out.s3) (Nat.le_refl _) (Nat.le_trans HS0.out.s1 (by decide)) HS0.out.s2 HS0.out.s3 (EntriesOwn.entries (by with_reducible (repeat (first | exact os1 | refine EntriesOwn.drewO ?_ | refine EntriesOwn.allocO ?_ _ | refine EntriesOwn.callO ?_ b4 | refine EntriesOwn.callO ?_ b3))) ls1) hn1).mono ?_
           rintro e W5 ⟨Aw, cw, Bw, dw, Cw, fw, qw, tw, rfl, hj, vj, uj, b5⟩
           have q_W5 := cells_kept b5
           have u_W5 := frozen_kept b5
           have z_W5 := sizes_kept b5
           try simp only [size_of_drew, World.size_alloc] at z_W5
           have le_W2_W5 : W2.heap.size ≤ W5.heap.size := by omega
           try (have lt_W2_W5 : W2.heap.size < W5.heap.size := by omega)
           have le_W3_W5 : W3.heap.size ≤ W5.heap.size := by omega
           try (have lt_W3_W5 : W3.heap.size < W5.heap.size := by omega)
           have le_W4_W5 : W4.heap.size ≤ W5.heap.size := by omega
           try (have lt_W4_W5 : W4.heap.size < W5.heap.size := by omega)))
    all_goals
      rename_i hH
      clear hH zd q_W3 u_W3 q_W4 u_W4 q_W5 u_W5 c_a00 c_a01 c_a02 c_a03 c_a10 c_a11 c_a12 c_a13
      go_wp2_with fail
      go_meet
      refine ⟨_, Aw, Bw, Cw, cw, dw, fw, qw, tw, rfl, ?_, ?_, ?_, ?_, ?_, ?_⟩
      · refine Lib.hid ?_
        first
          | (refine Lies.as (cs := ((((((#[.int .i64 0, .int .i64 0, .slice none 0 0, .slice none 0 0, .slice none 0 0, .int .i64 0].setIfInBounds 0 (.int .i64 cd)).setIfInBounds 1 (.int .i64 D)).setIfInBounds 2 (.slice Aw V.length cw)).setIfInBounds 3 (.slice Bw F.length dw)).setIfInBounds 4 (.slice Cw U.length fw)).setIfInBounds 5 (.int .i64 idr))) ?_ (by simp)
             with_reducible (repeat (first | refine Lies.set ?_ _ _ | refine Lies.far ?_ ?_ _ | (refine Lies.laid ?_; (simp only [size_of_drew, size_of_setCell, World.size_alloc]; done)) | exact Lies.new _ _ _ | exact Lies.laid2 _ _ _ _ | refine Lies.alloc ?_ _ | refine Lies.drew ?_ | refine Lies.call ?_ b5 | refine Lies.call ?_ b4 | refine Lies.call ?_ b3))
             all_goals first | exact Nat.ne_of_lt (Nat.lt_succ_self _) | exact Nat.ne_of_gt (Nat.lt_succ_self _) | exact Nat.ne_of_lt lt_W2_W3 | exact Nat.ne_of_gt lt_W2_W3 | exact Nat.ne_of_lt lt_W2_W4 | exact Nat.ne_of_gt lt_W2_W4 | exact Nat.ne_of_lt lt_W2_W5 | exact Nat.ne_of_gt lt_W2_W5 | exact Nat.ne_of_lt lt_W3_W4 | exact Nat.ne_of_gt lt_W3_W4 | exact Nat.ne_of_lt lt_W3_W5 | exact Nat.ne_of_gt lt_W3_W5 | exact Nat.ne_of_lt lt_W4_W5 | exact Nat.ne_of_gt lt_W4_W5 | (show ¬ _ = _; (try simp only [size_of_drew, size_of_setCell, World.size_alloc]); omega)
             done)
          | (with_reducible (repeat (first | refine Lies.far ?_ ?_ _ | (refine Lies.laid ?_; (simp only [size_of_drew, size_of_setCell, World.size_alloc]; done)) | exact Lies.new _ _ _ | exact Lies.laid2 _ _ _ _ | refine Lies.alloc ?_ _ | refine Lies.drew ?_ | refine Lies.call ?_ b5 | refine Lies.call ?_ b4 | refine Lies.call ?_ b3))
             all_goals first | exact Nat.ne_of_lt (Nat.lt_succ_self _) | exact Nat.ne_of_gt (Nat.lt_succ_self _) | exact Nat.ne_of_lt lt_W2_W3 | exact Nat.ne_of_gt lt_W2_W3 | exact Nat.ne_of_lt lt_W2_W4 | exact Nat.ne_of_gt lt_W2_W4 | exact Nat.ne_of_lt lt_W2_W5 | exact Nat.ne_of_gt lt_W2_W5 | exact Nat.ne_of_lt lt_W3_W4 | exact Nat.ne_of_gt lt_W3_W4 | exact Nat.ne_of_lt lt_W3_W5 | exact Nat.ne_of_gt lt_W3_W5 | exact Nat.ne_of_lt lt_W4_W5 | exact Nat.ne_of_gt lt_W4_W5 | (show ¬ _ = _; (try simp only [size_of_drew, size_of_setCell, World.size_alloc]); omega)
             done)
      · first | exact Nat.le_refl _ | exact Nat.le_succ _ | exact le_W2_W3 | exact Nat.le_succ_of_le le_W2_W3 | exact le_W2_W4 | exact Nat.le_succ_of_le le_W2_W4 | exact le_W2_W5 | exact Nat.le_succ_of_le le_W2_W5 | omega
      · refine Lib.hid ?_
        refine (SpA.stay hj ?_).arena
        with_reducible (repeat (first | refine Stay.far ?_ ?_ _ | refine Stay.alloc ?_ _ | refine Stay.drew ?_))
        · exact Stay.refl _ _
        all_goals ((try dsimp only); (try simp only [size_of_drew, size_of_setCell, World.size_alloc]); omega)
      · exact Lib.hid vj
      · exact Lib.hid uj
      · refine Lib.hid ?_
        with_reducible (repeat (first | refine Since.setCell ?_ ?_ _ | refine Since.alloc ?_ _ | refine Since.drew ?_ | refine Since.call ?_ b5 | refine Since.call ?_ b4 | refine Since.call ?_ b3))
        · exact Since.of (Below.refl _ _)
        all_goals first | exact Nat.le_refl _ | exact Nat.le_succ _ | exact le_W2_W3 | exact Nat.le_succ_of_le le_W2_W3 | exact le_W2_W4 | exact Nat.le_succ_of_le le_W2_W4 | exact le_W2_W5 | exact Nat.le_succ_of_le le_W2_W5 | (show _ ≤ _; (try simp only [size_of_drew, size_of_setCell, World.size_alloc]); omega)
  case' rest =>
    obtain ⟨n_w0, Aw, Bw, Cw, cw, dw, fw, qw, tw, rfl, L_w0, g_w0, J, VJ, UJ, S⟩ := hcut
    have bS := S.out.below
    clear S
  have d_w0_a0 : ¬ n_w0 = w.heap.size := by have := L_a0.out.inside; omega
  have e_w0_a0 : ¬ w.heap.size = n_w0 := fun e => d_w0_a0 e.symm
  have d_w0_a1 : ¬ n_w0 = w.heap.size + 1 := by have := L_a1.out.inside; omega
  have e_w0_a1 : ¬ w.heap.size + 1 = n_w0 := fun e => d_w0_a1 e.symm
  skip
  have sz_wc := bS.size
  try simp only [World.size_alloc] at sz_wc
  replace L_a0 := Lib.hid (L_a0.out.kept bS L_a0.out.inside)
  replace L_a1 := Lib.hid (L_a1.out.kept bS L_a1.out.inside)
  replace B := Lib.hid (B.out.trans (bS.mono B.out.size))
  clear bS
  generalize hWA : wc = WA at *
  clear hWA
  have in_w0 := L_w0.out.inside
  have JB := Lib.hid (Below.refl WA.heap.size WA)
  have c_a00 : WA.cell? ⟨w.heap.size, 0, none⟩ = some (.int .i64 dd0) := L_a0.out.cell 0
  have c_a01 : WA.cell? ⟨w.heap.size, 1, none⟩ = some (.slice A0 n0 c0) := L_a0.out.cell 1
  have c_a02 : WA.cell? ⟨w.heap.size, 2, none⟩ = some (.slice B0 m0 e0) := L_a0.out.cell 2
  have c_a03 : WA.cell? ⟨w.heap.size, 3, none⟩ = some (.slice C0 l0 f0) := L_a0.out.cell 3
  go_wp2_with fail
  clear c_a00 c_a01 c_a02 c_a03
  refine (toArena_any _ _ _ _ _ _ _ _ _ _ ns0 fs0 rs0 _ (HP0.out.kept B.out) HS0.out).mono ?_
  rintro e W6 ⟨g1t0, g2t0, g3t0, nst0, rst0, rfl, ot0, vt0, ut0, b6⟩
  have sz_W6 := b6.size
  try simp only [World.size_alloc] at sz_W6
  replace L_a0 := Lib.hid (L_a0.out.kept b6 L_a0.out.inside)
  replace L_a1 := Lib.hid (L_a1.out.kept b6 L_a1.out.inside)
  replace L_w0 := Lib.hid (L_w0.out.kept b6 L_w0.out.inside)
  replace JB := Lib.hid (JB.out.trans (b6.mono JB.out.size))
  replace B := Lib.hid (B.out.trans (b6.mono B.out.size))
  clear b6
  have HI_t0 : Hid (∀ c ∈ arCells (some ⟨g1t0, 0, none⟩) (some ⟨g2t0, 0, none⟩) (some ⟨g3t0, 0, none⟩) m0 nst0 rst0, c.block < W6.heap.size) := fun c hc => (ot0.each c hc).2.2.2
  have b1_t0 := ot0.b1
  try simp only [World.size_alloc] at b1_t0
  have O_t0 := Lib.hid ot0
  clear ot0
  have V_t0 := Lib.hid vt0
  have U_t0 := Lib.hid ut0
  clear vt0 ut0
  replace L_a0 := Lib.hid (L_a0.out.alloc (.cells #[.int .i64 dd0, .slice (some ⟨g1t0, 0, none⟩) n0 n0, .slice (some ⟨g2t0, 0, none⟩) m0 m0, .slice (some ⟨g3t0, 0, none⟩) l0 l0] 35))
  replace L_a1 := Lib.hid (L_a1.out.alloc (.cells #[.int .i64 dd0, .slice (some ⟨g1t0, 0, none⟩) n0 n0, .slice (some ⟨g2t0, 0, none⟩) m0 m0, .slice (some ⟨g3t0, 0, none⟩) l0 l0] 35))
  replace L_w0 := Lib.hid (L_w0.out.alloc (.cells #[.int .i64 dd0, .slice (some ⟨g1t0, 0, none⟩) n0 n0, .slice (some ⟨g2t0, 0, none⟩) m0 m0, .slice (some ⟨g3t0, 0, none⟩) l0 l0] 35))
  replace O_t0 := Lib.hid (O_t0.out.kept (below_alloc _ (.cells #[.int .i64 dd0, .slice (some ⟨g1t0, 0, none⟩) n0 n0, .slice (some ⟨g2t0, 0, none⟩) m0 m0, .slice (some ⟨g3t0, 0, none⟩) l0 l0] 35)))
  replace JB := Lib.hid (JB.out.alloc JB.out.size (.cells #[.int .i64 dd0, .slice (some ⟨g1t0, 0, none⟩) n0 n0, .slice (some ⟨g2t0, 0, none⟩) m0 m0, .slice (some ⟨g3t0, 0, none⟩) l0 l0] 35))
  have L_x0 := Lib.hid (Lies.new W6 35 #[.int .i64 dd0, .slice (some ⟨g1t0, 0, none⟩) n0 n0, .slice (some ⟨g2t0, 0, none⟩) m0 m0, .slice (some ⟨g3t0, 0, none⟩) l0 l0])
  replace B := Lib.hid (B.out.alloc B.out.size (.cells #[.int .i64 dd0, .slice (some ⟨g1t0, 0, none⟩) n0 n0, .slice (some ⟨g2t0, 0, none⟩) m0 m0, .slice (some ⟨g3t0, 0, none⟩) l0 l0] 35))
  have c_a10 : (W6.alloc (.cells #[.int .i64 dd0, .slice (some ⟨g1t0, 0, none⟩) n0 n0, .slice (some ⟨g2t0, 0, none⟩) m0 m0, .slice (some ⟨g3t0, 0, none⟩) l0 l0] 35)).cell? ⟨w.heap.size + 1, 0, none⟩ = some (.int .i64 lv1) := L_a1.out.cell 0
  have c_a11 : (W6.alloc (.cells #[.int .i64 dd0, .slice (some ⟨g1t0, 0, none⟩) n0 n0, .slice (some ⟨g2t0, 0, none⟩) m0 m0, .slice (some ⟨g3t0, 0, none⟩) l0 l0] 35)).cell? ⟨w.heap.size + 1, 1, none⟩ = some (.int .i64 ns1) := L_a1.out.cell 1
  have c_a12 : (W6.alloc (.cells #[.int .i64 dd0, .slice (some ⟨g1t0, 0, none⟩) n0 n0, .slice (some ⟨g2t0, 0, none⟩) m0 m0, .slice (some ⟨g3t0, 0, none⟩) l0 l0] 35)).cell? ⟨w.heap.size + 1, 2, none⟩ = some (.int .i64 rt1) := L_a1.out.cell 2
  have c_a13 : (W6.alloc (.cells #[.int .i64 dd0, .slice (some ⟨g1t0, 0, none⟩) n0 n0, .slice (some ⟨g2t0, 0, none⟩) m0 m0, .slice (some ⟨g3t0, 0, none⟩) l0 l0] 35)).cell? ⟨w.heap.size + 1, 3, none⟩ = some (.slice A1 n1 c1) := L_a1.out.cell 3
  go_wp2_with fail
  clear c_a10 c_a11 c_a12 c_a13
  refine (toNode_any _ _ _ _ _ _ ps1 _ (HP1.out.kept B.out) mm1 HS1.out).mono ?_
  rintro e W7 ⟨gt1, qst1, rfl, hgt1, ot1, lt1, vt1, b7⟩
  have sz_W7 := b7.size
  try simp only [World.size_alloc] at sz_W7
  replace L_a0 := Lib.hid (L_a0.out.kept b7 L_a0.out.inside)
  replace L_a1 := Lib.hid (L_a1.out.kept b7 L_a1.out.inside)
  replace L_w0 := Lib.hid (L_w0.out.kept b7 L_w0.out.inside)
  replace L_x0 := Lib.hid (L_x0.out.kept b7 L_x0.out.inside)
  replace O_t0 := Lib.hid (O_t0.out.kept b7)
  replace JB := Lib.hid (JB.out.trans (b7.mono JB.out.size))
  replace B := Lib.hid (B.out.trans (b7.mono B.out.size))
  clear b7
  have HI_t1 := Lib.hid ot1.high
  have SQ_t1 := Lib.hid (small_own HP1.out HM1.out ot1 vt1 (by omega))
  have O_t1 := Lib.hid ot1
  clear ot1
  try simp only [World.size_alloc] at hgt1
  have K_t1 := Lib.hid lt1
  have V_t1 := Lib.hid vt1
  clear lt1 vt1
  replace L_a0 := Lib.hid (L_a0.out.alloc (.cells #[.int .i64 lv1, .int .i64 ns1, .int .i64 rt1, .slice (some ⟨gt1, 0, none⟩) n1 n1] 42))
  replace L_a1 := Lib.hid (L_a1.out.alloc (.cells #[.int .i64 lv1, .int .i64 ns1, .int .i64 rt1, .slice (some ⟨gt1, 0, none⟩) n1 n1] 42))
  replace L_w0 := Lib.hid (L_w0.out.alloc (.cells #[.int .i64 lv1, .int .i64 ns1, .int .i64 rt1, .slice (some ⟨gt1, 0, none⟩) n1 n1] 42))
  replace L_x0 := Lib.hid (L_x0.out.alloc (.cells #[.int .i64 lv1, .int .i64 ns1, .int .i64 rt1, .slice (some ⟨gt1, 0, none⟩) n1 n1] 42))
  replace O_t0 := Lib.hid (O_t0.out.kept (below_alloc _ (.cells #[.int .i64 lv1, .int .i64 ns1, .int .i64 rt1, .slice (some ⟨gt1, 0, none⟩) n1 n1] 42)))
  replace O_t1 := Lib.hid (O_t1.out.kept (below_alloc _ (.cells #[.int .i64 lv1, .int .i64 ns1, .int .i64 rt1, .slice (some ⟨gt1, 0, none⟩) n1 n1] 42)))
  replace JB := Lib.hid (JB.out.alloc JB.out.size (.cells #[.int .i64 lv1, .int .i64 ns1, .int .i64 rt1, .slice (some ⟨gt1, 0, none⟩) n1 n1] 42))
  have L_x1 := Lib.hid (Lies.new W7 42 #[.int .i64 lv1, .int .i64 ns1, .int .i64 rt1, .slice (some ⟨gt1, 0, none⟩) n1 n1])
  replace B := Lib.hid (B.out.alloc B.out.size (.cells #[.int .i64 lv1, .int .i64 ns1, .int .i64 rt1, .slice (some ⟨gt1, 0, none⟩) n1 n1] 42))
  have c_x00 : (W7.alloc (.cells #[.int .i64 lv1, .int .i64 ns1, .int .i64 rt1, .slice (some ⟨gt1, 0, none⟩) n1 n1] 42)).cell? ⟨W6.heap.size, 0, none⟩ = some (.int .i64 dd0) := L_x0.out.cell 0
  have c_x01 : (W7.alloc (.cells #[.int .i64 lv1, .int .i64 ns1, .int .i64 rt1, .slice (some ⟨gt1, 0, none⟩) n1 n1] 42)).cell? ⟨W6.heap.size, 1, none⟩ = some (.slice (some ⟨g1t0, 0, none⟩) n0 n0) := L_x0.out.cell 1
  have c_x02 : (W7.alloc (.cells #[.int .i64 lv1, .int .i64 ns1, .int .i64 rt1, .slice (some ⟨gt1, 0, none⟩) n1 n1] 42)).cell? ⟨W6.heap.size, 2, none⟩ = some (.slice (some ⟨g2t0, 0, none⟩) m0 m0) := L_x0.out.cell 2
  have c_x03 : (W7.alloc (.cells #[.int .i64 lv1, .int .i64 ns1, .int .i64 rt1, .slice (some ⟨gt1, 0, none⟩) n1 n1] 42)).cell? ⟨W6.heap.size, 3, none⟩ = some (.slice (some ⟨g3t0, 0, none⟩) l0 l0) := L_x0.out.cell 3
  have c_x10 : (W7.alloc (.cells #[.int .i64 lv1, .int .i64 ns1, .int .i64 rt1, .slice (some ⟨gt1, 0, none⟩) n1 n1] 42)).cell? ⟨W7.heap.size, 0, none⟩ = some (.int .i64 lv1) := L_x1.out.cell 0
  have c_x11 : (W7.alloc (.cells #[.int .i64 lv1, .int .i64 ns1, .int .i64 rt1, .slice (some ⟨gt1, 0, none⟩) n1 n1] 42)).cell? ⟨W7.heap.size, 1, none⟩ = some (.int .i64 ns1) := L_x1.out.cell 1
  have c_x12 : (W7.alloc (.cells #[.int .i64 lv1, .int .i64 ns1, .int .i64 rt1, .slice (some ⟨gt1, 0, none⟩) n1 n1] 42)).cell? ⟨W7.heap.size, 2, none⟩ = some (.int .i64 rt1) := L_x1.out.cell 2
  have c_x13 : (W7.alloc (.cells #[.int .i64 lv1, .int .i64 ns1, .int .i64 rt1, .slice (some ⟨gt1, 0, none⟩) n1 n1] 42)).cell? ⟨W7.heap.size, 3, none⟩ = some (.slice (some ⟨gt1, 0, none⟩) n1 n1) := L_x1.out.cell 3
  go_wp2_with fail
  clear c_x00 c_x01 c_x02 c_x03
  clear c_x10 c_x11 c_x12 c_x13
  refine (implTakeNode_is (cd := cd) (D := D) (idr := idr) (V := V) (F := F) (U := U) dd0 lv1 ns1 rt1 _ _ _ _ _ _ _ _ _ _ _ _ nst0 fs0 rst0 qst1 _ (by rw [V_t0.out, U_t0.out, V_t1.out]; exact HR.out) (O_t0.out.arena HS0.out.s1 HS0.out.s2 HS0.out.s3) HS0.out.s3 (O_t1.out.entries K_t1.out) hn1).mono ?_
  rintro e W8 ⟨Ag, cg, Bg, dg, Cg, fg, qg, tg, rfl, he, ve, ue, b8⟩
  have sz_W8 := b8.size
  try simp only [World.size_alloc] at sz_W8
  replace L_a0 := Lib.hid (L_a0.out.kept b8 L_a0.out.inside)
  replace L_a1 := Lib.hid (L_a1.out.kept b8 L_a1.out.inside)
  replace L_w0 := Lib.hid (L_w0.out.kept b8 L_w0.out.inside)
  replace L_x0 := Lib.hid (L_x0.out.kept b8 L_x0.out.inside)
  replace L_x1 := Lib.hid (L_x1.out.kept b8 L_x1.out.inside)
  replace O_t0 := Lib.hid (O_t0.out.kept b8)
  replace O_t1 := Lib.hid (O_t1.out.kept b8)
  replace JB := Lib.hid (JB.out.trans (b8.mono JB.out.size))
  replace B := Lib.hid (B.out.trans (b8.mono B.out.size))
  clear b8
  try simp only [World.size_alloc] at he
  have E_g := Lib.hid he
  have VE_g := Lib.hid ve
  have UE_g := Lib.hid ue
  have HI_g := Lib.hid (fun (c : Addr) (hc : c ∈ arCells Ag Bg Cg F.length qg tg) => (he.each c hc).2.2.2)
  have hKf := he.few
  obtain ⟨K, hK⟩ : ∃ K, (arCells Ag Bg Cg F.length qg tg).length = K := ⟨_, rfl⟩
  rw [hK] at hKf
  have HK := Lib.hid hK
  clear hK
  clear he ve ue
  replace L_a0 := Lib.hid (L_a0.out.alloc (.cells #[.int .i64 cd, .int .i64 D, .slice Ag V.length cg, .slice Bg F.length dg, .slice Cg U.length fg, .int .i64 idr] 37))
  replace L_a1 := Lib.hid (L_a1.out.alloc (.cells #[.int .i64 cd, .int .i64 D, .slice Ag V.length cg, .slice Bg F.length dg, .slice Cg U.length fg, .int .i64 idr] 37))
  replace L_w0 := Lib.hid (L_w0.out.alloc (.cells #[.int .i64 cd, .int .i64 D, .slice Ag V.length cg, .slice Bg F.length dg, .slice Cg U.length fg, .int .i64 idr] 37))
  replace L_x0 := Lib.hid (L_x0.out.alloc (.cells #[.int .i64 cd, .int .i64 D, .slice Ag V.length cg, .slice Bg F.length dg, .slice Cg U.length fg, .int .i64 idr] 37))
  replace L_x1 := Lib.hid (L_x1.out.alloc (.cells #[.int .i64 cd, .int .i64 D, .slice Ag V.length cg, .slice Bg F.length dg, .slice Cg U.length fg, .int .i64 idr] 37))
  replace O_t0 := Lib.hid (O_t0.out.kept (below_alloc _ (.cells #[.int .i64 cd, .int .i64 D, .slice Ag V.length cg, .slice Bg F.length dg, .slice Cg U.length fg, .int .i64 idr] 37)))
  replace O_t1 := Lib.hid (O_t1.out.kept (below_alloc _ (.cells #[.int .i64 cd, .int .i64 D, .slice Ag V.length cg, .slice Bg F.length dg, .slice Cg U.length fg, .int .i64 idr] 37)))
  replace E_g := Lib.hid (E_g.out.kept (below_alloc _ (.cells #[.int .i64 cd, .int .i64 D, .slice Ag V.length cg, .slice Bg F.length dg, .slice Cg U.length fg, .int .i64 idr] 37)))
  replace JB := Lib.hid (JB.out.alloc JB.out.size (.cells #[.int .i64 cd, .int .i64 D, .slice Ag V.length cg, .slice Bg F.length dg, .slice Cg U.length fg, .int .i64 idr] 37))
  have L_g0 := Lib.hid (Lies.new W8 37 #[.int .i64 cd, .int .i64 D, .slice Ag V.length cg, .slice Bg F.length dg, .slice Cg U.length fg, .int .i64 idr])
  replace B := Lib.hid (B.out.alloc B.out.size (.cells #[.int .i64 cd, .int .i64 D, .slice Ag V.length cg, .slice Bg F.length dg, .slice Cg U.length fg, .int .i64 idr] 37))
  have c_w00 : (W8.alloc (.cells #[.int .i64 cd, .int .i64 D, .slice Ag V.length cg, .slice Bg F.length dg, .slice Cg U.length fg, .int .i64 idr] 37)).cell? ⟨n_w0, 0, none⟩ = some (.int .i64 cd) := L_w0.out.cell 0
  have c_w01 : (W8.alloc (.cells #[.int .i64 cd, .int .i64 D, .slice Ag V.length cg, .slice Bg F.length dg, .slice Cg U.length fg, .int .i64 idr] 37)).cell? ⟨n_w0, 1, none⟩ = some (.int .i64 D) := L_w0.out.cell 1
  have c_w02 : (W8.alloc (.cells #[.int .i64 cd, .int .i64 D, .slice Ag V.length cg, .slice Bg F.length dg, .slice Cg U.length fg, .int .i64 idr] 37)).cell? ⟨n_w0, 2, none⟩ = some (.slice Aw V.length cw) := L_w0.out.cell 2
  have c_w03 : (W8.alloc (.cells #[.int .i64 cd, .int .i64 D, .slice Ag V.length cg, .slice Bg F.length dg, .slice Cg U.length fg, .int .i64 idr] 37)).cell? ⟨n_w0, 3, none⟩ = some (.slice Bw F.length dw) := L_w0.out.cell 3
  have c_w04 : (W8.alloc (.cells #[.int .i64 cd, .int .i64 D, .slice Ag V.length cg, .slice Bg F.length dg, .slice Cg U.length fg, .int .i64 idr] 37)).cell? ⟨n_w0, 4, none⟩ = some (.slice Cw U.length fw) := L_w0.out.cell 4
  have c_w05 : (W8.alloc (.cells #[.int .i64 cd, .int .i64 D, .slice Ag V.length cg, .slice Bg F.length dg, .slice Cg U.length fg, .int .i64 idr] 37)).cell? ⟨n_w0, 5, none⟩ = some (.int .i64 idr) := L_w0.out.cell 5
  have c_g00 : (W8.alloc (.cells #[.int .i64 cd, .int .i64 D, .slice Ag V.length cg, .slice Bg F.length dg, .slice Cg U.length fg, .int .i64 idr] 37)).cell? ⟨W8.heap.size, 0, none⟩ = some (.int .i64 cd) := L_g0.out.cell 0
  have c_g01 : (W8.alloc (.cells #[.int .i64 cd, .int .i64 D, .slice Ag V.length cg, .slice Bg F.length dg, .slice Cg U.length fg, .int .i64 idr] 37)).cell? ⟨W8.heap.size, 1, none⟩ = some (.int .i64 D) := L_g0.out.cell 1
  have c_g02 : (W8.alloc (.cells #[.int .i64 cd, .int .i64 D, .slice Ag V.length cg, .slice Bg F.length dg, .slice Cg U.length fg, .int .i64 idr] 37)).cell? ⟨W8.heap.size, 2, none⟩ = some (.slice Ag V.length cg) := L_g0.out.cell 2
  have c_g03 : (W8.alloc (.cells #[.int .i64 cd, .int .i64 D, .slice Ag V.length cg, .slice Bg F.length dg, .slice Cg U.length fg, .int .i64 idr] 37)).cell? ⟨W8.heap.size, 3, none⟩ = some (.slice Bg F.length dg) := L_g0.out.cell 3
  have c_g04 : (W8.alloc (.cells #[.int .i64 cd, .int .i64 D, .slice Ag V.length cg, .slice Bg F.length dg, .slice Cg U.length fg, .int .i64 idr] 37)).cell? ⟨W8.heap.size, 4, none⟩ = some (.slice Cg U.length fg) := L_g0.out.cell 4
  have c_g05 : (W8.alloc (.cells #[.int .i64 cd, .int .i64 D, .slice Ag V.length cg, .slice Bg F.length dg, .slice Cg U.length fg, .int .i64 idr] 37)).cell? ⟨W8.heap.size, 5, none⟩ = some (.int .i64 idr) := L_g0.out.cell 5
  go_wp2_with fail
  clear c_w00 c_w01 c_w02 c_w03 c_w04 c_w05
  clear c_g00 c_g01 c_g02 c_g03 c_g04 c_g05
  refine (eqArenaResult_same _ _ _ _ _ _ _ _ _ qw tw _ _ _ _ _ _ _ _ _ qg F tg _ E_g.out.arena (J.out.kept JB.out) (VE_g.out.trans VJ.out.symm) (UE_g.out.trans UJ.out.symm)).mono ?_
  rintro e W9 ⟨rfl, b9⟩
  have sz_W9 := b9.size
  try simp only [World.size_alloc] at sz_W9
  replace L_a0 := Lib.hid (L_a0.out.kept b9 L_a0.out.inside)
  replace L_a1 := Lib.hid (L_a1.out.kept b9 L_a1.out.inside)
  replace L_w0 := Lib.hid (L_w0.out.kept b9 L_w0.out.inside)
  replace L_x0 := Lib.hid (L_x0.out.kept b9 L_x0.out.inside)
  replace L_x1 := Lib.hid (L_x1.out.kept b9 L_x1.out.inside)
  replace L_g0 := Lib.hid (L_g0.out.kept b9 L_g0.out.inside)
  replace O_t0 := Lib.hid (O_t0.out.kept b9)
  replace O_t1 := Lib.hid (O_t1.out.kept b9)
  replace E_g := Lib.hid (E_g.out.kept b9)
  replace JB := Lib.hid (JB.out.trans (b9.mono JB.out.size))
  replace B := Lib.hid (B.out.trans (b9.mono B.out.size))
  clear b9
  go_wp2_with fail
  have k_0 : W9.cell? ⟨W6.heap.size, 0, none⟩ = some (.int .i64 dd0) ∧ W9.cell? ⟨W6.heap.size, 1, none⟩ = some (.slice (some ⟨g1t0, 0, none⟩) n0 n0) ∧ W9.cell? ⟨W6.heap.size, 2, none⟩ = some (.slice (some ⟨g2t0, 0, none⟩) m0 m0) ∧ W9.cell? ⟨W6.heap.size, 3, none⟩ = some (.slice (some ⟨g3t0, 0, none⟩) l0 l0) ∧ W9.cell? ⟨w.heap.size, 0, none⟩ = some (.int .i64 dd0) ∧ W9.cell? ⟨w.heap.size, 1, none⟩ = some (.slice A0 n0 c0) ∧ W9.cell? ⟨w.heap.size, 2, none⟩ = some (.slice B0 m0 e0) ∧ W9.cell? ⟨w.heap.size, 3, none⟩ = some (.slice C0 l0 f0) := ⟨L_x0.out.cell 0, L_x0.out.cell 1, L_x0.out.cell 2, L_x0.out.cell 3, L_a0.out.cell 0, L_a0.out.cell 1, L_a0.out.cell 2, L_a0.out.cell 3⟩
  go_region_held3 (fun w' => w'.cell? ⟨W6.heap.size, 0, none⟩ = some (.int .i64 dd0) ∧ w'.cell? ⟨W6.heap.size, 1, none⟩ = some (.slice (some ⟨g1t0, 0, none⟩) n0 n0) ∧ w'.cell? ⟨W6.heap.size, 2, none⟩ = some (.slice (some ⟨g2t0, 0, none⟩) m0 m0) ∧ w'.cell? ⟨W6.heap.size, 3, none⟩ = some (.slice (some ⟨g3t0, 0, none⟩) l0 l0) ∧ w'.cell? ⟨w.heap.size, 0, none⟩ = some (.int .i64 dd0) ∧ w'.cell? ⟨w.heap.size, 1, none⟩ = some (.slice A0 n0 c0) ∧ w'.cell? ⟨w.heap.size, 2, none⟩ = some (.slice B0 m0 e0) ∧ w'.cell? ⟨w.heap.size, 3, none⟩ = some (.slice C0 l0 f0))
    (first | (simp [go_sem, k_0]; done) | with_reducible exact k_1 | with_reducible exact k_2)
    (first
      | (go_at_call 12; refine (toArena_any _ _ _ _ _ _ _ _ _ _ ns0 fs0 rs0 _ (HP0.out.kept B.out.drew) HS0.out).mono ?_
         rintro e Wx0 ⟨g1t0z, g2t0z, g3t0z, nst0z, rst0z, rfl, ot0z, vt0z, ut0z, bxd⟩
         have bx := below_drawn bxd
         have k_1 : Wx0.cell? ⟨W6.heap.size, 0, none⟩ = some (.int .i64 dd0) ∧ Wx0.cell? ⟨W6.heap.size, 1, none⟩ = some (.slice (some ⟨g1t0, 0, none⟩) n0 n0) ∧ Wx0.cell? ⟨W6.heap.size, 2, none⟩ = some (.slice (some ⟨g2t0, 0, none⟩) m0 m0) ∧ Wx0.cell? ⟨W6.heap.size, 3, none⟩ = some (.slice (some ⟨g3t0, 0, none⟩) l0 l0) ∧ Wx0.cell? ⟨w.heap.size, 0, none⟩ = some (.int .i64 dd0) ∧ Wx0.cell? ⟨w.heap.size, 1, none⟩ = some (.slice A0 n0 c0) ∧ Wx0.cell? ⟨w.heap.size, 2, none⟩ = some (.slice B0 m0 e0) ∧ Wx0.cell? ⟨w.heap.size, 3, none⟩ = some (.slice C0 l0 f0) := ⟨(L_x0.out.kept bx L_x0.out.inside).cell 0, (L_x0.out.kept bx L_x0.out.inside).cell 1, (L_x0.out.kept bx L_x0.out.inside).cell 2, (L_x0.out.kept bx L_x0.out.inside).cell 3, (L_a0.out.kept bx L_a0.out.inside).cell 0, (L_a0.out.kept bx L_a0.out.inside).cell 1, (L_a0.out.kept bx L_a0.out.inside).cell 2, (L_a0.out.kept bx L_a0.out.inside).cell 3⟩
         clear bxd)
      | (go_at_call 16; refine (eqArena_same _ _ _ _ _ _ _ nst0z rst0z _ _ _ _ _ _ _ _ _ nst0 fs0 rst0 _ ((O_t0.out.kept bx).arena HS0.out.s1 HS0.out.s2 HS0.out.s3) (ot0z.arena HS0.out.s1 HS0.out.s2 HS0.out.s3) (V_t0.out.trans vt0z.symm) (U_t0.out.trans ut0z.symm)).mono ?_
         rintro e Wy0 ⟨rfl, by1⟩
         have k_2 : Wy0.cell? ⟨W6.heap.size, 0, none⟩ = some (.int .i64 dd0) ∧ Wy0.cell? ⟨W6.heap.size, 1, none⟩ = some (.slice (some ⟨g1t0, 0, none⟩) n0 n0) ∧ Wy0.cell? ⟨W6.heap.size, 2, none⟩ = some (.slice (some ⟨g2t0, 0, none⟩) m0 m0) ∧ Wy0.cell? ⟨W6.heap.size, 3, none⟩ = some (.slice (some ⟨g3t0, 0, none⟩) l0 l0) ∧ Wy0.cell? ⟨w.heap.size, 0, none⟩ = some (.int .i64 dd0) ∧ Wy0.cell? ⟨w.heap.size, 1, none⟩ = some (.slice A0 n0 c0) ∧ Wy0.cell? ⟨w.heap.size, 2, none⟩ = some (.slice B0 m0 e0) ∧ Wy0.cell? ⟨w.heap.size, 3, none⟩ = some (.slice C0 l0 f0) := ⟨((L_x0.out.kept bx L_x0.out.inside).kept by1 (L_x0.out.kept bx L_x0.out.inside).inside).cell 0, ((L_x0.out.kept bx L_x0.out.inside).kept by1 (L_x0.out.kept bx L_x0.out.inside).inside).cell 1, ((L_x0.out.kept bx L_x0.out.inside).kept by1 (L_x0.out.kept bx L_x0.out.inside).inside).cell 2, ((L_x0.out.kept bx L_x0.out.inside).kept by1 (L_x0.out.kept bx L_x0.out.inside).inside).cell 3, ((L_a0.out.kept bx L_a0.out.inside).kept by1 (L_a0.out.kept bx L_a0.out.inside).inside).cell 0, ((L_a0.out.kept bx L_a0.out.inside).kept by1 (L_a0.out.kept bx L_a0.out.inside).inside).cell 1, ((L_a0.out.kept bx L_a0.out.inside).kept by1 (L_a0.out.kept bx L_a0.out.inside).inside).cell 2, ((L_a0.out.kept bx L_a0.out.inside).kept by1 (L_a0.out.kept bx L_a0.out.inside).inside).cell 3⟩))
  clear k_0 k_1 k_2 ot0z vt0z ut0z
  have sz_Wx0 := bx.size
  try simp only [World.size_alloc] at sz_Wx0
  replace L_a0 := Lib.hid (L_a0.out.kept bx L_a0.out.inside)
  replace L_a1 := Lib.hid (L_a1.out.kept bx L_a1.out.inside)
  replace L_w0 := Lib.hid (L_w0.out.kept bx L_w0.out.inside)
  replace L_x0 := Lib.hid (L_x0.out.kept bx L_x0.out.inside)
  replace L_x1 := Lib.hid (L_x1.out.kept bx L_x1.out.inside)
  replace L_g0 := Lib.hid (L_g0.out.kept bx L_g0.out.inside)
  replace O_t0 := Lib.hid (O_t0.out.kept bx)
  replace O_t1 := Lib.hid (O_t1.out.kept bx)
  replace E_g := Lib.hid (E_g.out.kept bx)
  replace JB := Lib.hid (JB.out.trans (bx.mono JB.out.size))
  replace B := Lib.hid (B.out.trans (bx.mono B.out.size))
  clear bx
  have sz_Wy0 := by1.size
  try simp only [World.size_alloc] at sz_Wy0
  replace L_a0 := Lib.hid (L_a0.out.kept by1 L_a0.out.inside)
  replace L_a1 := Lib.hid (L_a1.out.kept by1 L_a1.out.inside)
  replace L_w0 := Lib.hid (L_w0.out.kept by1 L_w0.out.inside)
  replace L_x0 := Lib.hid (L_x0.out.kept by1 L_x0.out.inside)
  replace L_x1 := Lib.hid (L_x1.out.kept by1 L_x1.out.inside)
  replace L_g0 := Lib.hid (L_g0.out.kept by1 L_g0.out.inside)
  replace O_t0 := Lib.hid (O_t0.out.kept by1)
  replace O_t1 := Lib.hid (O_t1.out.kept by1)
  replace E_g := Lib.hid (E_g.out.kept by1)
  replace JB := Lib.hid (JB.out.trans (by1.mono JB.out.size))
  replace B := Lib.hid (B.out.trans (by1.mono B.out.size))
  clear by1
  go_wp2_with fail
  have k_0 : Wy0.cell? ⟨W7.heap.size, 0, none⟩ = some (.int .i64 lv1) ∧ Wy0.cell? ⟨W7.heap.size, 1, none⟩ = some (.int .i64 ns1) ∧ Wy0.cell? ⟨W7.heap.size, 2, none⟩ = some (.int .i64 rt1) ∧ Wy0.cell? ⟨W7.heap.size, 3, none⟩ = some (.slice (some ⟨gt1, 0, none⟩) n1 n1) ∧ Wy0.cell? ⟨w.heap.size + 1, 0, none⟩ = some (.int .i64 lv1) ∧ Wy0.cell? ⟨w.heap.size + 1, 1, none⟩ = some (.int .i64 ns1) ∧ Wy0.cell? ⟨w.heap.size + 1, 2, none⟩ = some (.int .i64 rt1) ∧ Wy0.cell? ⟨w.heap.size + 1, 3, none⟩ = some (.slice A1 n1 c1) := ⟨L_x1.out.cell 0, L_x1.out.cell 1, L_x1.out.cell 2, L_x1.out.cell 3, L_a1.out.cell 0, L_a1.out.cell 1, L_a1.out.cell 2, L_a1.out.cell 3⟩
  go_region_held3 (fun w' => w'.cell? ⟨W7.heap.size, 0, none⟩ = some (.int .i64 lv1) ∧ w'.cell? ⟨W7.heap.size, 1, none⟩ = some (.int .i64 ns1) ∧ w'.cell? ⟨W7.heap.size, 2, none⟩ = some (.int .i64 rt1) ∧ w'.cell? ⟨W7.heap.size, 3, none⟩ = some (.slice (some ⟨gt1, 0, none⟩) n1 n1) ∧ w'.cell? ⟨w.heap.size + 1, 0, none⟩ = some (.int .i64 lv1) ∧ w'.cell? ⟨w.heap.size + 1, 1, none⟩ = some (.int .i64 ns1) ∧ w'.cell? ⟨w.heap.size + 1, 2, none⟩ = some (.int .i64 rt1) ∧ w'.cell? ⟨w.heap.size + 1, 3, none⟩ = some (.slice A1 n1 c1))
    (first | (simp [go_sem, k_0]; done) | with_reducible exact k_1 | with_reducible exact k_2)
    (first
      | (go_at_call 13; refine (toNode_any _ _ _ _ _ _ ps1 _ (HP1.out.kept B.out.drew) mm1 HS1.out).mono ?_
         rintro e Wx1 ⟨gt1z, qst1z, rfl, hgt1z, ot1z, lt1z, vt1z, bxd⟩
         have bx := below_drawn bxd
         have k_1 : Wx1.cell? ⟨W7.heap.size, 0, none⟩ = some (.int .i64 lv1) ∧ Wx1.cell? ⟨W7.heap.size, 1, none⟩ = some (.int .i64 ns1) ∧ Wx1.cell? ⟨W7.heap.size, 2, none⟩ = some (.int .i64 rt1) ∧ Wx1.cell? ⟨W7.heap.size, 3, none⟩ = some (.slice (some ⟨gt1, 0, none⟩) n1 n1) ∧ Wx1.cell? ⟨w.heap.size + 1, 0, none⟩ = some (.int .i64 lv1) ∧ Wx1.cell? ⟨w.heap.size + 1, 1, none⟩ = some (.int .i64 ns1) ∧ Wx1.cell? ⟨w.heap.size + 1, 2, none⟩ = some (.int .i64 rt1) ∧ Wx1.cell? ⟨w.heap.size + 1, 3, none⟩ = some (.slice A1 n1 c1) := ⟨(L_x1.out.kept bx L_x1.out.inside).cell 0, (L_x1.out.kept bx L_x1.out.inside).cell 1, (L_x1.out.kept bx L_x1.out.inside).cell 2, (L_x1.out.kept bx L_x1.out.inside).cell 3, (L_a1.out.kept bx L_a1.out.inside).cell 0, (L_a1.out.kept bx L_a1.out.inside).cell 1, (L_a1.out.kept bx L_a1.out.inside).cell 2, (L_a1.out.kept bx L_a1.out.inside).cell 3⟩
         clear bxd)
      | (go_at_call 17; refine (eqNode_same _ _ _ _ _ _ _ _ qst1 qst1z _ ((O_t1.out.kept bx).entries K_t1.out) (ot1z.entries lt1z) (V_t1.out.trans vt1z.symm) hn1).mono ?_
         rintro e Wy1 ⟨rfl, by1⟩
         have k_2 : Wy1.cell? ⟨W7.heap.size, 0, none⟩ = some (.int .i64 lv1) ∧ Wy1.cell? ⟨W7.heap.size, 1, none⟩ = some (.int .i64 ns1) ∧ Wy1.cell? ⟨W7.heap.size, 2, none⟩ = some (.int .i64 rt1) ∧ Wy1.cell? ⟨W7.heap.size, 3, none⟩ = some (.slice (some ⟨gt1, 0, none⟩) n1 n1) ∧ Wy1.cell? ⟨w.heap.size + 1, 0, none⟩ = some (.int .i64 lv1) ∧ Wy1.cell? ⟨w.heap.size + 1, 1, none⟩ = some (.int .i64 ns1) ∧ Wy1.cell? ⟨w.heap.size + 1, 2, none⟩ = some (.int .i64 rt1) ∧ Wy1.cell? ⟨w.heap.size + 1, 3, none⟩ = some (.slice A1 n1 c1) := ⟨((L_x1.out.kept bx L_x1.out.inside).kept by1 (L_x1.out.kept bx L_x1.out.inside).inside).cell 0, ((L_x1.out.kept bx L_x1.out.inside).kept by1 (L_x1.out.kept bx L_x1.out.inside).inside).cell 1, ((L_x1.out.kept bx L_x1.out.inside).kept by1 (L_x1.out.kept bx L_x1.out.inside).inside).cell 2, ((L_x1.out.kept bx L_x1.out.inside).kept by1 (L_x1.out.kept bx L_x1.out.inside).inside).cell 3, ((L_a1.out.kept bx L_a1.out.inside).kept by1 (L_a1.out.kept bx L_a1.out.inside).inside).cell 0, ((L_a1.out.kept bx L_a1.out.inside).kept by1 (L_a1.out.kept bx L_a1.out.inside).inside).cell 1, ((L_a1.out.kept bx L_a1.out.inside).kept by1 (L_a1.out.kept bx L_a1.out.inside).inside).cell 2, ((L_a1.out.kept bx L_a1.out.inside).kept by1 (L_a1.out.kept bx L_a1.out.inside).inside).cell 3⟩))
  clear k_0 k_1 k_2 ot1z vt1z lt1z hgt1z
  have sz_Wx1 := bx.size
  try simp only [World.size_alloc] at sz_Wx1
  replace L_a0 := Lib.hid (L_a0.out.kept bx L_a0.out.inside)
  replace L_a1 := Lib.hid (L_a1.out.kept bx L_a1.out.inside)
  replace L_w0 := Lib.hid (L_w0.out.kept bx L_w0.out.inside)
  replace L_x0 := Lib.hid (L_x0.out.kept bx L_x0.out.inside)
  replace L_x1 := Lib.hid (L_x1.out.kept bx L_x1.out.inside)
  replace L_g0 := Lib.hid (L_g0.out.kept bx L_g0.out.inside)
  replace O_t0 := Lib.hid (O_t0.out.kept bx)
  replace O_t1 := Lib.hid (O_t1.out.kept bx)
  replace E_g := Lib.hid (E_g.out.kept bx)
  replace JB := Lib.hid (JB.out.trans (bx.mono JB.out.size))
  replace B := Lib.hid (B.out.trans (bx.mono B.out.size))
  clear bx
  have sz_Wy1 := by1.size
  try simp only [World.size_alloc] at sz_Wy1
  replace L_a0 := Lib.hid (L_a0.out.kept by1 L_a0.out.inside)
  replace L_a1 := Lib.hid (L_a1.out.kept by1 L_a1.out.inside)
  replace L_w0 := Lib.hid (L_w0.out.kept by1 L_w0.out.inside)
  replace L_x0 := Lib.hid (L_x0.out.kept by1 L_x0.out.inside)
  replace L_x1 := Lib.hid (L_x1.out.kept by1 L_x1.out.inside)
  replace L_g0 := Lib.hid (L_g0.out.kept by1 L_g0.out.inside)
  replace O_t0 := Lib.hid (O_t0.out.kept by1)
  replace O_t1 := Lib.hid (O_t1.out.kept by1)
  replace E_g := Lib.hid (E_g.out.kept by1)
  replace JB := Lib.hid (JB.out.trans (by1.mono JB.out.size))
  replace B := Lib.hid (B.out.trans (by1.mono B.out.size))
  clear by1
  have c_x00 : Wy1.cell? ⟨W6.heap.size, 0, none⟩ = some (.int .i64 dd0) := L_x0.out.cell 0
  have c_x01 : Wy1.cell? ⟨W6.heap.size, 1, none⟩ = some (.slice (some ⟨g1t0, 0, none⟩) n0 n0) := L_x0.out.cell 1
  have c_x02 : Wy1.cell? ⟨W6.heap.size, 2, none⟩ = some (.slice (some ⟨g2t0, 0, none⟩) m0 m0) := L_x0.out.cell 2
  have c_x03 : Wy1.cell? ⟨W6.heap.size, 3, none⟩ = some (.slice (some ⟨g3t0, 0, none⟩) l0 l0) := L_x0.out.cell 3
  go_wp2_with fail
  clear c_x00 c_x01 c_x02 c_x03
  refine (markArena_arg 1 _ W6.heap.size _ _ _ _ _ _ _ _ _ _ nst0 fs0 rst0 _ O_t0.out (by unfold FewA; rw [V_t0.out, U_t0.out]; exact HF0.out) HI_t0.out (by decide) (by decide)).mono ?_
  rintro e W10 ⟨rm0, rfl, hrm0, t10⟩
  have sz_W10 := t10.2.1
  try simp only [World.size_alloc] at sz_W10
  clear O_t0
  replace O_t1 := Lib.hid (O_t1.out.others (fun b h1 h2 => t10.2.2 b h2 (fun hx => by have h3 := hx.1; have h4 := hx.2; (try simp only [World.size_alloc] at h3 h4); omega)))
  replace L_a0 := Lib.hid (t10.lies L_a0.out (fun hx => by have h1 := hx.1; have h2 := hx.2; (try simp only [World.size_alloc] at h1 h2); omega))
  replace L_a1 := Lib.hid (t10.lies L_a1.out (fun hx => by have h1 := hx.1; have h2 := hx.2; (try simp only [World.size_alloc] at h1 h2); omega))
  replace L_w0 := Lib.hid (t10.lies L_w0.out (fun hx => by have h1 := hx.1; have h2 := hx.2; (try simp only [World.size_alloc] at h1 h2); omega))
  replace L_x0 := Lib.hid (t10.lies L_x0.out (fun hx => by have h1 := hx.1; have h2 := hx.2; (try simp only [World.size_alloc] at h1 h2); omega))
  replace L_x1 := Lib.hid (t10.lies L_x1.out (fun hx => by have h1 := hx.1; have h2 := hx.2; (try simp only [World.size_alloc] at h1 h2); omega))
  replace L_g0 := Lib.hid (t10.lies L_g0.out (fun hx => by have h1 := hx.1; have h2 := hx.2; (try simp only [World.size_alloc] at h1 h2); omega))
  replace E_g := Lib.hid (E_g.out.turned t10 (fun x hx => by have h1 := hx.1; have h2 := hx.2; (try simp only [World.size_alloc] at h1 h2); omega))
  replace JB := Lib.hid (t10.below JB.out (by intro x hx; have h1 := hx.1; have h2 := hx.2; (try simp only [World.size_alloc] at h1 h2); omega))
  replace B := Lib.hid (t10.below B.out (by intro x hx; show w.heap.size ≤ x; have h1 := hx.1; have h2 := hx.2; (try simp only [World.size_alloc] at h1 h2); omega))
  clear t10
  have kpos0 : ¬ rm0 < 0 := by omega
  have c_x10 : W10.cell? ⟨W7.heap.size, 0, none⟩ = some (.int .i64 lv1) := L_x1.out.cell 0
  have c_x11 : W10.cell? ⟨W7.heap.size, 1, none⟩ = some (.int .i64 ns1) := L_x1.out.cell 1
  have c_x12 : W10.cell? ⟨W7.heap.size, 2, none⟩ = some (.int .i64 rt1) := L_x1.out.cell 2
  have c_x13 : W10.cell? ⟨W7.heap.size, 3, none⟩ = some (.slice (some ⟨gt1, 0, none⟩) n1 n1) := L_x1.out.cell 3
  go_wp2_with fail
  clear c_x10 c_x11 c_x12 c_x13
  refine (markNode_all rm0 _ _ _ _ _ _ W7.heap.size qst1 _ (O_t1.out.anyH HI_t1.out) K_t1.out (by omega) (by omega) mm1 SQ_t1.out).mono ?_
  rintro e W11 ⟨rm1, rfl, hrm1, t11⟩
  have sz_W11 := t11.2.1
  try simp only [World.size_alloc] at sz_W11
  clear O_t1
  replace L_a0 := Lib.hid (t11.lies L_a0.out (fun hx => by have h1 := hx.1; have h2 := hx.2; (try simp only [World.size_alloc] at h1 h2); omega))
  replace L_a1 := Lib.hid (t11.lies L_a1.out (fun hx => by have h1 := hx.1; have h2 := hx.2; (try simp only [World.size_alloc] at h1 h2); omega))
  replace L_w0 := Lib.hid (t11.lies L_w0.out (fun hx => by have h1 := hx.1; have h2 := hx.2; (try simp only [World.size_alloc] at h1 h2); omega))
  replace L_x0 := Lib.hid (t11.lies L_x0.out (fun hx => by have h1 := hx.1; have h2 := hx.2; (try simp only [World.size_alloc] at h1 h2); omega))
  replace L_x1 := Lib.hid (t11.lies L_x1.out (fun hx => by have h1 := hx.1; have h2 := hx.2; (try simp only [World.size_alloc] at h1 h2); omega))
  replace L_g0 := Lib.hid (t11.lies L_g0.out (fun hx => by have h1 := hx.1; have h2 := hx.2; (try simp only [World.size_alloc] at h1 h2); omega))
  replace E_g := Lib.hid (E_g.out.turned t11 (fun x hx => by have h1 := hx.1; have h2 := hx.2; (try simp only [World.size_alloc] at h1 h2); omega))
  replace JB := Lib.hid (t11.below JB.out (by intro x hx; have h1 := hx.1; have h2 := hx.2; (try simp only [World.size_alloc] at h1 h2); omega))
  replace B := Lib.hid (t11.below B.out (by intro x hx; show w.heap.size ≤ x; have h1 := hx.1; have h2 := hx.2; (try simp only [World.size_alloc] at h1 h2); omega))
  clear t11
  have kpos1 : ¬ rm1 < 0 := by omega
  have c_w00 : W11.cell? ⟨n_w0, 0, none⟩ = some (.int .i64 cd) := L_w0.out.cell 0
  have c_w01 : W11.cell? ⟨n_w0, 1, none⟩ = some (.int .i64 D) := L_w0.out.cell 1
  have c_w02 : W11.cell? ⟨n_w0, 2, none⟩ = some (.slice Aw V.length cw) := L_w0.out.cell 2
  have c_w03 : W11.cell? ⟨n_w0, 3, none⟩ = some (.slice Bw F.length dw) := L_w0.out.cell 3
  have c_w04 : W11.cell? ⟨n_w0, 4, none⟩ = some (.slice Cw U.length fw) := L_w0.out.cell 4
  have c_w05 : W11.cell? ⟨n_w0, 5, none⟩ = some (.int .i64 idr) := L_w0.out.cell 5
  have c_g00 : W11.cell? ⟨W8.heap.size, 0, none⟩ = some (.int .i64 cd) := L_g0.out.cell 0
  have c_g01 : W11.cell? ⟨W8.heap.size, 1, none⟩ = some (.int .i64 D) := L_g0.out.cell 1
  have c_g02 : W11.cell? ⟨W8.heap.size, 2, none⟩ = some (.slice Ag V.length cg) := L_g0.out.cell 2
  have c_g03 : W11.cell? ⟨W8.heap.size, 3, none⟩ = some (.slice Bg F.length dg) := L_g0.out.cell 3
  have c_g04 : W11.cell? ⟨W8.heap.size, 4, none⟩ = some (.slice Cg U.length fg) := L_g0.out.cell 4
  have c_g05 : W11.cell? ⟨W8.heap.size, 5, none⟩ = some (.int .i64 idr) := L_g0.out.cell 5
  go_wp2_with fail
  clear c_w00 c_w01 c_w02 c_w03 c_w04 c_w05
  clear c_g00 c_g01 c_g02 c_g03 c_g04 c_g05
  refine (eqArenaResult_same _ _ _ _ _ _ _ _ _ qw tw _ _ _ _ _ _ _ _ _ qg F tg _ E_g.out.arena (J.out.kept JB.out) (VE_g.out.trans VJ.out.symm) (UE_g.out.trans UJ.out.symm)).mono ?_
  rintro e W12 ⟨rfl, b12⟩
  have sz_W12 := b12.size
  try simp only [World.size_alloc] at sz_W12
  replace L_a0 := Lib.hid (L_a0.out.kept b12 L_a0.out.inside)
  replace L_a1 := Lib.hid (L_a1.out.kept b12 L_a1.out.inside)
  replace L_w0 := Lib.hid (L_w0.out.kept b12 L_w0.out.inside)
  replace L_x0 := Lib.hid (L_x0.out.kept b12 L_x0.out.inside)
  replace L_x1 := Lib.hid (L_x1.out.kept b12 L_x1.out.inside)
  replace L_g0 := Lib.hid (L_g0.out.kept b12 L_g0.out.inside)
  replace E_g := Lib.hid (E_g.out.kept b12)
  replace JB := Lib.hid (JB.out.trans (b12.mono JB.out.size))
  replace B := Lib.hid (B.out.trans (b12.mono B.out.size))
  clear b12
  have c_g00 : W12.cell? ⟨W8.heap.size, 0, none⟩ = some (.int .i64 cd) := L_g0.out.cell 0
  have c_g01 : W12.cell? ⟨W8.heap.size, 1, none⟩ = some (.int .i64 D) := L_g0.out.cell 1
  have c_g02 : W12.cell? ⟨W8.heap.size, 2, none⟩ = some (.slice Ag V.length cg) := L_g0.out.cell 2
  have c_g03 : W12.cell? ⟨W8.heap.size, 3, none⟩ = some (.slice Bg F.length dg) := L_g0.out.cell 3
  have c_g04 : W12.cell? ⟨W8.heap.size, 4, none⟩ = some (.slice Cg U.length fg) := L_g0.out.cell 4
  have c_g05 : W12.cell? ⟨W8.heap.size, 5, none⟩ = some (.int .i64 idr) := L_g0.out.cell 5
  go_wp2_with fail
  clear c_g00 c_g01 c_g02 c_g03 c_g04 c_g05
  refine (markAns_any _ _ _ _ W8.heap.size _ _ _ _ _ _ _ _ _ qg F tg _ E_g.out HI_g.out HK.out).mono ?_
  rintro e W13 ⟨rfl, em, t13⟩
  have sz_W13 := t13.2.1
  try simp only [World.size_alloc] at sz_W13
  replace L_a0 := Lib.hid (t13.lies L_a0.out (fun hx => by have h1 := hx.1; have h2 := hx.2; (try simp only [World.size_alloc] at h1 h2); omega))
  replace L_a1 := Lib.hid (t13.lies L_a1.out (fun hx => by have h1 := hx.1; have h2 := hx.2; (try simp only [World.size_alloc] at h1 h2); omega))
  replace L_w0 := Lib.hid (t13.lies L_w0.out (fun hx => by have h1 := hx.1; have h2 := hx.2; (try simp only [World.size_alloc] at h1 h2); omega))
  replace L_x0 := Lib.hid (t13.lies L_x0.out (fun hx => by have h1 := hx.1; have h2 := hx.2; (try simp only [World.size_alloc] at h1 h2); omega))
  replace L_x1 := Lib.hid (t13.lies L_x1.out (fun hx => by have h1 := hx.1; have h2 := hx.2; (try simp only [World.size_alloc] at h1 h2); omega))
  replace L_g0 := Lib.hid (t13.lies L_g0.out (fun hx => by have h1 := hx.1; have h2 := hx.2; (try simp only [World.size_alloc] at h1 h2); omega))
  replace JB := Lib.hid (t13.below JB.out (by intro x hx; have h1 := hx.1; have h2 := hx.2; (try simp only [World.size_alloc] at h1 h2); omega))
  replace B := Lib.hid (t13.below B.out (by intro x hx; show w.heap.size ≤ x; have h1 := hx.1; have h2 := hx.2; (try simp only [World.size_alloc] at h1 h2); omega))
  replace E_g := Lib.hid em
  clear em
  have qpos : ¬ ((1 : Int) + (K : Int) < 0) := by omega
  have qeq : (((1 : Int) + (K : Int)) != (1 + (K : Int))) = false := by simp
  clear t13
  have c_g00 : W13.cell? ⟨W8.heap.size, 0, none⟩ = some (.int .i64 cd) := L_g0.out.cell 0
  have c_g01 : W13.cell? ⟨W8.heap.size, 1, none⟩ = some (.int .i64 D) := L_g0.out.cell 1
  have c_g02 : W13.cell? ⟨W8.heap.size, 2, none⟩ = some (.slice Ag V.length cg) := L_g0.out.cell 2
  have c_g03 : W13.cell? ⟨W8.heap.size, 3, none⟩ = some (.slice Bg F.length dg) := L_g0.out.cell 3
  have c_g04 : W13.cell? ⟨W8.heap.size, 4, none⟩ = some (.slice Cg U.length fg) := L_g0.out.cell 4
  have c_g05 : W13.cell? ⟨W8.heap.size, 5, none⟩ = some (.int .i64 idr) := L_g0.out.cell 5
  go_wp2_with fail
  clear c_g00 c_g01 c_g02 c_g03 c_g04 c_g05
  refine (heldAns_any _ _ _ _ _ _ _ _ _ _ _ _ qg tg _ E_g.out HK.out hKf).mono ?_
  rintro e W14 ⟨rfl, b14⟩
  have sz_W14 := b14.size
  try simp only [World.size_alloc] at sz_W14
  replace L_a0 := Lib.hid (L_a0.out.kept b14 L_a0.out.inside)
  replace L_a1 := Lib.hid (L_a1.out.kept b14 L_a1.out.inside)
  replace L_w0 := Lib.hid (L_w0.out.kept b14 L_w0.out.inside)
  replace L_x0 := Lib.hid (L_x0.out.kept b14 L_x0.out.inside)
  replace L_x1 := Lib.hid (L_x1.out.kept b14 L_x1.out.inside)
  replace L_g0 := Lib.hid (L_g0.out.kept b14 L_g0.out.inside)
  replace E_g := Lib.hid (E_g.out.kept b14)
  replace JB := Lib.hid (JB.out.trans (b14.mono JB.out.size))
  replace B := Lib.hid (B.out.trans (b14.mono B.out.size))
  clear b14
  go_upto_region 31 with fail
  go_cut [13] (fun s13 wx => ∃ (n_h0 : Nat) (Ah Bh Ch : Option Addr) (ch dh fh : Nat) (qh : List NV) (th : List RV), s13 = .pointer (some ⟨n_h0, 0, none⟩) ∧ Hid (Lies wx n_h0 37 #[.int .i64 cd, .int .i64 D, .slice Ah V.length ch, .slice Bh F.length dh, .slice Ch U.length fh, .int .i64 idr]) ∧ W14.heap.size ≤ n_h0 ∧ Hid (ArenaL wx Ah Bh Ch V.length F.length U.length qh F th) ∧ Hid (qh.map NV.val = V) ∧ Hid (th.map RV.val = U) ∧ Hid (Since W14 wx))
  case first =>
    have c_a00 : W14.cell? ⟨w.heap.size, 0, none⟩ = some (.int .i64 dd0) := L_a0.out.cell 0
    have c_a01 : W14.cell? ⟨w.heap.size, 1, none⟩ = some (.slice A0 n0 c0) := L_a0.out.cell 1
    have c_a02 : W14.cell? ⟨w.heap.size, 2, none⟩ = some (.slice B0 m0 e0) := L_a0.out.cell 2
    have c_a03 : W14.cell? ⟨w.heap.size, 3, none⟩ = some (.slice C0 l0 f0) := L_a0.out.cell 3
    have c_a10 : W14.cell? ⟨w.heap.size + 1, 0, none⟩ = some (.int .i64 lv1) := L_a1.out.cell 0
    have c_a11 : W14.cell? ⟨w.heap.size + 1, 1, none⟩ = some (.int .i64 ns1) := L_a1.out.cell 1
    have c_a12 : W14.cell? ⟨w.heap.size + 1, 2, none⟩ = some (.int .i64 rt1) := L_a1.out.cell 2
    have c_a13 : W14.cell? ⟨w.heap.size + 1, 3, none⟩ = some (.slice A1 n1 c1) := L_a1.out.cell 3
    have i_a0 := L_a0.out.inside
    have l_a0 := Nat.le_of_lt i_a0
    have i_a1 := L_a1.out.inside
    have l_a1 := Nat.le_of_lt i_a1
    have zd := size_of_drew
    go_region_held3 (fun w' => w'.cell? ⟨w.heap.size, 0, none⟩ = some (.int .i64 dd0) ∧ w'.cell? ⟨w.heap.size, 1, none⟩ = some (.slice A0 n0 c0) ∧ w'.cell? ⟨w.heap.size, 2, none⟩ = some (.slice B0 m0 e0) ∧ w'.cell? ⟨w.heap.size, 3, none⟩ = some (.slice C0 l0 f0) ∧ w'.cell? ⟨w.heap.size + 1, 0, none⟩ = some (.int .i64 lv1) ∧ w'.cell? ⟨w.heap.size + 1, 1, none⟩ = some (.int .i64 ns1) ∧ w'.cell? ⟨w.heap.size + 1, 2, none⟩ = some (.int .i64 rt1) ∧ w'.cell? ⟨w.heap.size + 1, 3, none⟩ = some (.slice A1 n1 c1))
      (exact ⟨Lies.cell (t := 26) (cs := #[.int .i64 dd0, .slice A0 n0 c0, .slice B0 m0 e0, .slice C0 l0 f0]) (by with_reducible (repeat (first | refine Lies.far ?_ ?_ _ | refine Lies.alloc ?_ _ | refine Lies.drew ?_ | refine Lies.call ?_ b17 | refine Lies.call ?_ b16 | refine Lies.call ?_ b15 | exact L_a0.out | exact L_a1.out)); all_goals (simp only [size_of_drew, size_of_setCell, World.size_alloc]; omega)) 0, Lies.cell (t := 26) (cs := #[.int .i64 dd0, .slice A0 n0 c0, .slice B0 m0 e0, .slice C0 l0 f0]) (by with_reducible (repeat (first | refine Lies.far ?_ ?_ _ | refine Lies.alloc ?_ _ | refine Lies.drew ?_ | refine Lies.call ?_ b17 | refine Lies.call ?_ b16 | refine Lies.call ?_ b15 | exact L_a0.out | exact L_a1.out)); all_goals (simp only [size_of_drew, size_of_setCell, World.size_alloc]; omega)) 1, Lies.cell (t := 26) (cs := #[.int .i64 dd0, .slice A0 n0 c0, .slice B0 m0 e0, .slice C0 l0 f0]) (by with_reducible (repeat (first | refine Lies.far ?_ ?_ _ | refine Lies.alloc ?_ _ | refine Lies.drew ?_ | refine Lies.call ?_ b17 | refine Lies.call ?_ b16 | refine Lies.call ?_ b15 | exact L_a0.out | exact L_a1.out)); all_goals (simp only [size_of_drew, size_of_setCell, World.size_alloc]; omega)) 2, Lies.cell (t := 26) (cs := #[.int .i64 dd0, .slice A0 n0 c0, .slice B0 m0 e0, .slice C0 l0 f0]) (by with_reducible (repeat (first | refine Lies.far ?_ ?_ _ | refine Lies.alloc ?_ _ | refine Lies.drew ?_ | refine Lies.call ?_ b17 | refine Lies.call ?_ b16 | refine Lies.call ?_ b15 | exact L_a0.out | exact L_a1.out)); all_goals (simp only [size_of_drew, size_of_setCell, World.size_alloc]; omega)) 3, Lies.cell (t := 29) (cs := #[.int .i64 lv1, .int .i64 ns1, .int .i64 rt1, .slice A1 n1 c1]) (by with_reducible (repeat (first | refine Lies.far ?_ ?_ _ | refine Lies.alloc ?_ _ | refine Lies.drew ?_ | refine Lies.call ?_ b17 | refine Lies.call ?_ b16 | refine Lies.call ?_ b15 | exact L_a0.out | exact L_a1.out)); all_goals (simp only [size_of_drew, size_of_setCell, World.size_alloc]; omega)) 0, Lies.cell (t := 29) (cs := #[.int .i64 lv1, .int .i64 ns1, .int .i64 rt1, .slice A1 n1 c1]) (by with_reducible (repeat (first | refine Lies.far ?_ ?_ _ | refine Lies.alloc ?_ _ | refine Lies.drew ?_ | refine Lies.call ?_ b17 | refine Lies.call ?_ b16 | refine Lies.call ?_ b15 | exact L_a0.out | exact L_a1.out)); all_goals (simp only [size_of_drew, size_of_setCell, World.size_alloc]; omega)) 1, Lies.cell (t := 29) (cs := #[.int .i64 lv1, .int .i64 ns1, .int .i64 rt1, .slice A1 n1 c1]) (by with_reducible (repeat (first | refine Lies.far ?_ ?_ _ | refine Lies.alloc ?_ _ | refine Lies.drew ?_ | refine Lies.call ?_ b17 | refine Lies.call ?_ b16 | refine Lies.call ?_ b15 | exact L_a0.out | exact L_a1.out)); all_goals (simp only [size_of_drew, size_of_setCell, World.size_alloc]; omega)) 2, Lies.cell (t := 29) (cs := #[.int .i64 lv1, .int .i64 ns1, .int .i64 rt1, .slice A1 n1 c1]) (by with_reducible (repeat (first | refine Lies.far ?_ ?_ _ | refine Lies.alloc ?_ _ | refine Lies.drew ?_ | refine Lies.call ?_ b17 | refine Lies.call ?_ b16 | refine Lies.call ?_ b15 | exact L_a0.out | exact L_a1.out)); all_goals (simp only [size_of_drew, size_of_setCell, World.size_alloc]; omega)) 3⟩)
      (first
        | (go_at_call 12; refine (toArena_any _ _ _ _ _ _ _ _ _ _ ns0 fs0 rs0 _ (HP0.out.kept (by with_reducible (repeat (first | refine Since.below ?_ | refine Since.drew ?_ | refine Since.alloc ?_ _ | exact Since.of B.out)))) HS0.out).mono ?_
           rintro e W15 ⟨g1r0, g2r0, g3r0, nsr0, rsr0, rfl, or0, vr0, ur0, b15⟩
           have q_W15 := cells_kept b15
           have u_W15 := frozen_kept b15
           have z_W15 := sizes_kept b15
           try simp only [size_of_drew, World.size_alloc] at z_W15
           have le_W14_W15 : W14.heap.size ≤ W15.heap.size := by omega
           try (have lt_W14_W15 : W14.heap.size < W15.heap.size := by omega))
        | (go_at_call 13; refine (toNode_any _ _ _ _ _ _ ps1 _ (HP1.out.kept (by with_reducible (repeat (first | refine Since.below ?_ | refine Since.drew ?_ | refine Since.alloc ?_ _ | refine Since.call ?_ b15 | exact Since.of B.out)))) mm1 HS1.out).mono ?_
           rintro e W16 ⟨gr1, qsr1, rfl, hgr1, or1, lr1, vr1, b16⟩
           have q_W16 := cells_kept b16
           have u_W16 := frozen_kept b16
           have z_W16 := sizes_kept b16
           try simp only [size_of_drew, World.size_alloc] at z_W16
           have le_W14_W16 : W14.heap.size ≤ W16.heap.size := by omega
           try (have lt_W14_W16 : W14.heap.size < W16.heap.size := by omega)
           have le_W15_W16 : W15.heap.size ≤ W16.heap.size := by omega
           try (have lt_W15_W16 : W15.heap.size < W16.heap.size := by omega))
        | (go_at_call 14; refine (implTakeNode_is (cd := cd) (D := D) (idr := idr) (V := V) (F := F) (U := U) dd0 lv1 ns1 rt1 _ _ _ _ _ _ _ _ _ _ _ _ nsr0 fs0 rsr0 qsr1 _ (by rw [vr0, ur0, vr1]; exact HR.out) (ArenaAt.arena (by with_reducible (repeat (first | exact ArenaAt.of or0 | refine ArenaAt.drew' ?_ | refine ArenaAt.alloc' ?_ _ | refine ArenaAt.call' ?_ b16 | refine ArenaAt.call' ?_ b15))) HS0.out.s1 HS0.out.s2 HS0.out.s3) HS0.out.s3 (EntriesOwn.entries (by with_reducible (repeat (first | exact or1 | refine EntriesOwn.drewO ?_ | refine EntriesOwn.allocO ?_ _ | refine EntriesOwn.callO ?_ b16 | refine EntriesOwn.callO ?_ b15))) lr1) hn1).mono ?_
           rintro e W17 ⟨Ah, ch, Bh, dh, Ch, fh, qh, th, rfl, he, ve, ue, b17⟩
           have q_W17 := cells_kept b17
           have u_W17 := frozen_kept b17
           have z_W17 := sizes_kept b17
           try simp only [size_of_drew, World.size_alloc] at z_W17
           have le_W14_W17 : W14.heap.size ≤ W17.heap.size := by omega
           try (have lt_W14_W17 : W14.heap.size < W17.heap.size := by omega)
           have le_W15_W17 : W15.heap.size ≤ W17.heap.size := by omega
           try (have lt_W15_W17 : W15.heap.size < W17.heap.size := by omega)
           have le_W16_W17 : W16.heap.size ≤ W17.heap.size := by omega
           try (have lt_W16_W17 : W16.heap.size < W17.heap.size := by omega)))
    all_goals
      rename_i hH
      clear hH zd q_W15 u_W15 q_W16 u_W16 q_W17 u_W17 c_a00 c_a01 c_a02 c_a03 c_a10 c_a11 c_a12 c_a13
      go_wp2_with fail
      go_meet
      refine ⟨_, Ah, Bh, Ch, ch, dh, fh, qh, th, rfl, ?_, ?_, ?_, ?_, ?_, ?_⟩
      · refine Lib.hid ?_
        first
          | (refine Lies.as (cs := ((((((#[.int .i64 0, .int .i64 0, .slice none 0 0, .slice none 0 0, .slice none 0 0, .int .i64 0].setIfInBounds 0 (.int .i64 cd)).setIfInBounds 1 (.int .i64 D)).setIfInBounds 2 (.slice Ah V.length ch)).setIfInBounds 3 (.slice Bh F.length dh)).setIfInBounds 4 (.slice Ch U.length fh)).setIfInBounds 5 (.int .i64 idr))) ?_ (by simp)
             with_reducible (repeat (first | refine Lies.set ?_ _ _ | refine Lies.far ?_ ?_ _ | (refine Lies.laid ?_; (simp only [size_of_drew, size_of_setCell, World.size_alloc]; done)) | exact Lies.new _ _ _ | exact Lies.laid2 _ _ _ _ | refine Lies.alloc ?_ _ | refine Lies.drew ?_ | refine Lies.call ?_ b17 | refine Lies.call ?_ b16 | refine Lies.call ?_ b15))
             all_goals first | exact Nat.ne_of_lt (Nat.lt_succ_self _) | exact Nat.ne_of_gt (Nat.lt_succ_self _) | exact Nat.ne_of_lt lt_W14_W15 | exact Nat.ne_of_gt lt_W14_W15 | exact Nat.ne_of_lt lt_W14_W16 | exact Nat.ne_of_gt lt_W14_W16 | exact Nat.ne_of_lt lt_W14_W17 | exact Nat.ne_of_gt lt_W14_W17 | exact Nat.ne_of_lt lt_W15_W16 | exact Nat.ne_of_gt lt_W15_W16 | exact Nat.ne_of_lt lt_W15_W17 | exact Nat.ne_of_gt lt_W15_W17 | exact Nat.ne_of_lt lt_W16_W17 | exact Nat.ne_of_gt lt_W16_W17 | (show ¬ _ = _; (try simp only [size_of_drew, size_of_setCell, World.size_alloc]); omega)
             done)
          | (with_reducible (repeat (first | refine Lies.far ?_ ?_ _ | (refine Lies.laid ?_; (simp only [size_of_drew, size_of_setCell, World.size_alloc]; done)) | exact Lies.new _ _ _ | exact Lies.laid2 _ _ _ _ | refine Lies.alloc ?_ _ | refine Lies.drew ?_ | refine Lies.call ?_ b17 | refine Lies.call ?_ b16 | refine Lies.call ?_ b15))
             all_goals first | exact Nat.ne_of_lt (Nat.lt_succ_self _) | exact Nat.ne_of_gt (Nat.lt_succ_self _) | exact Nat.ne_of_lt lt_W14_W15 | exact Nat.ne_of_gt lt_W14_W15 | exact Nat.ne_of_lt lt_W14_W16 | exact Nat.ne_of_gt lt_W14_W16 | exact Nat.ne_of_lt lt_W14_W17 | exact Nat.ne_of_gt lt_W14_W17 | exact Nat.ne_of_lt lt_W15_W16 | exact Nat.ne_of_gt lt_W15_W16 | exact Nat.ne_of_lt lt_W15_W17 | exact Nat.ne_of_gt lt_W15_W17 | exact Nat.ne_of_lt lt_W16_W17 | exact Nat.ne_of_gt lt_W16_W17 | (show ¬ _ = _; (try simp only [size_of_drew, size_of_setCell, World.size_alloc]); omega)
             done)
      · first | exact Nat.le_refl _ | exact Nat.le_succ _ | exact le_W14_W15 | exact Nat.le_succ_of_le le_W14_W15 | exact le_W14_W16 | exact Nat.le_succ_of_le le_W14_W16 | exact le_W14_W17 | exact Nat.le_succ_of_le le_W14_W17 | omega
      · refine Lib.hid ?_
        refine (AnsAr.stay he ?_).arena
        with_reducible (repeat (first | refine Stay.far ?_ ?_ _ | refine Stay.alloc ?_ _ | refine Stay.drew ?_))
        · exact Stay.refl _ _
        all_goals ((try dsimp only); (try simp only [size_of_drew, size_of_setCell, World.size_alloc]); omega)
      · exact Lib.hid ve
      · exact Lib.hid ue
      · refine Lib.hid ?_
        with_reducible (repeat (first | refine Since.setCell ?_ ?_ _ | refine Since.alloc ?_ _ | refine Since.drew ?_ | refine Since.call ?_ b17 | refine Since.call ?_ b16 | refine Since.call ?_ b15))
        · exact Since.of (Below.refl _ _)
        all_goals first | exact Nat.le_refl _ | exact Nat.le_succ _ | exact le_W14_W15 | exact Nat.le_succ_of_le le_W14_W15 | exact le_W14_W16 | exact Nat.le_succ_of_le le_W14_W16 | exact le_W14_W17 | exact Nat.le_succ_of_le le_W14_W17 | (show _ ≤ _; (try simp only [size_of_drew, size_of_setCell, World.size_alloc]); omega)
  case' rest =>
    obtain ⟨n_h0, Ah, Bh, Ch, ch, dh, fh, qh, th, rfl, L_h0, g_h0, J2, VE_h, UE_h, S⟩ := hcut
    have bS := S.out.below
    clear S
  have d_h0_a0 : ¬ n_h0 = w.heap.size := by have := L_a0.out.inside; omega
  have e_h0_a0 : ¬ w.heap.size = n_h0 := fun e => d_h0_a0 e.symm
  have d_h0_a1 : ¬ n_h0 = w.heap.size + 1 := by have := L_a1.out.inside; omega
  have e_h0_a1 : ¬ w.heap.size + 1 = n_h0 := fun e => d_h0_a1 e.symm
  have d_h0_w0 : ¬ n_h0 = n_w0 := by have := L_w0.out.inside; omega
  have e_h0_w0 : ¬ n_w0 = n_h0 := fun e => d_h0_w0 e.symm
  have d_h0_x0 : ¬ n_h0 = W6.heap.size := by have := L_x0.out.inside; omega
  have e_h0_x0 : ¬ W6.heap.size = n_h0 := fun e => d_h0_x0 e.symm
  have d_h0_x1 : ¬ n_h0 = W7.heap.size := by have := L_x1.out.inside; omega
  have e_h0_x1 : ¬ W7.heap.size = n_h0 := fun e => d_h0_x1 e.symm
  have d_h0_g0 : ¬ n_h0 = W8.heap.size := by have := L_g0.out.inside; omega
  have e_h0_g0 : ¬ W8.heap.size = n_h0 := fun e => d_h0_g0 e.symm
  skip
  have sz_wc := bS.size
  try simp only [World.size_alloc] at sz_wc
  replace L_a0 := Lib.hid (L_a0.out.kept bS L_a0.out.inside)
  replace L_a1 := Lib.hid (L_a1.out.kept bS L_a1.out.inside)
  replace L_w0 := Lib.hid (L_w0.out.kept bS L_w0.out.inside)
  replace L_x0 := Lib.hid (L_x0.out.kept bS L_x0.out.inside)
  replace L_x1 := Lib.hid (L_x1.out.kept bS L_x1.out.inside)
  replace L_g0 := Lib.hid (L_g0.out.kept bS L_g0.out.inside)
  replace E_g := Lib.hid (E_g.out.kept bS)
  replace JB := Lib.hid (JB.out.trans (bS.mono JB.out.size))
  replace B := Lib.hid (B.out.trans (bS.mono B.out.size))
  clear bS
  have c_h00 : wc.cell? ⟨n_h0, 0, none⟩ = some (.int .i64 cd) := L_h0.out.cell 0
  have c_h01 : wc.cell? ⟨n_h0, 1, none⟩ = some (.int .i64 D) := L_h0.out.cell 1
  have c_h02 : wc.cell? ⟨n_h0, 2, none⟩ = some (.slice Ah V.length ch) := L_h0.out.cell 2
  have c_h03 : wc.cell? ⟨n_h0, 3, none⟩ = some (.slice Bh F.length dh) := L_h0.out.cell 3
  have c_h04 : wc.cell? ⟨n_h0, 4, none⟩ = some (.slice Ch U.length fh) := L_h0.out.cell 4
  have c_h05 : wc.cell? ⟨n_h0, 5, none⟩ = some (.int .i64 idr) := L_h0.out.cell 5
  have c_w00 : wc.cell? ⟨n_w0, 0, none⟩ = some (.int .i64 cd) := L_w0.out.cell 0
  have c_w01 : wc.cell? ⟨n_w0, 1, none⟩ = some (.int .i64 D) := L_w0.out.cell 1
  have c_w02 : wc.cell? ⟨n_w0, 2, none⟩ = some (.slice Aw V.length cw) := L_w0.out.cell 2
  have c_w03 : wc.cell? ⟨n_w0, 3, none⟩ = some (.slice Bw F.length dw) := L_w0.out.cell 3
  have c_w04 : wc.cell? ⟨n_w0, 4, none⟩ = some (.slice Cw U.length fw) := L_w0.out.cell 4
  have c_w05 : wc.cell? ⟨n_w0, 5, none⟩ = some (.int .i64 idr) := L_w0.out.cell 5
  go_wp2_with fail
  clear c_h00 c_h01 c_h02 c_h03 c_h04 c_h05
  clear c_w00 c_w01 c_w02 c_w03 c_w04 c_w05
  refine (eqArenaResult_same _ _ _ _ _ _ _ _ _ qw tw _ _ _ _ _ _ _ _ _ qh F th _ J2.out (J.out.kept JB.out) (VE_h.out.trans VJ.out.symm) (UE_h.out.trans UJ.out.symm)).mono ?_
  rintro e W18 ⟨rfl, b18⟩
  have sz_W18 := b18.size
  try simp only [World.size_alloc] at sz_W18
  replace L_a0 := Lib.hid (L_a0.out.kept b18 L_a0.out.inside)
  replace L_a1 := Lib.hid (L_a1.out.kept b18 L_a1.out.inside)
  replace L_w0 := Lib.hid (L_w0.out.kept b18 L_w0.out.inside)
  replace L_x0 := Lib.hid (L_x0.out.kept b18 L_x0.out.inside)
  replace L_x1 := Lib.hid (L_x1.out.kept b18 L_x1.out.inside)
  replace L_g0 := Lib.hid (L_g0.out.kept b18 L_g0.out.inside)
  replace L_h0 := Lib.hid (L_h0.out.kept b18 L_h0.out.inside)
  replace E_g := Lib.hid (E_g.out.kept b18)
  replace JB := Lib.hid (JB.out.trans (b18.mono JB.out.size))
  replace B := Lib.hid (B.out.trans (b18.mono B.out.size))
  clear b18
  have c_g00 : W18.cell? ⟨W8.heap.size, 0, none⟩ = some (.int .i64 cd) := L_g0.out.cell 0
  have c_g01 : W18.cell? ⟨W8.heap.size, 1, none⟩ = some (.int .i64 D) := L_g0.out.cell 1
  have c_g02 : W18.cell? ⟨W8.heap.size, 2, none⟩ = some (.slice Ag V.length cg) := L_g0.out.cell 2
  have c_g03 : W18.cell? ⟨W8.heap.size, 3, none⟩ = some (.slice Bg F.length dg) := L_g0.out.cell 3
  have c_g04 : W18.cell? ⟨W8.heap.size, 4, none⟩ = some (.slice Cg U.length fg) := L_g0.out.cell 4
  have c_g05 : W18.cell? ⟨W8.heap.size, 5, none⟩ = some (.int .i64 idr) := L_g0.out.cell 5
  go_wp2_with fail
  clear c_g00 c_g01 c_g02 c_g03 c_g04 c_g05
  refine (heldAns_any _ _ _ _ _ _ _ _ _ _ _ _ qg tg _ E_g.out HK.out hKf).mono ?_
  rintro e W19 ⟨rfl, b19⟩
  have sz_W19 := b19.size
  try simp only [World.size_alloc] at sz_W19
  replace L_a0 := Lib.hid (L_a0.out.kept b19 L_a0.out.inside)
  replace L_a1 := Lib.hid (L_a1.out.kept b19 L_a1.out.inside)
  replace L_w0 := Lib.hid (L_w0.out.kept b19 L_w0.out.inside)
  replace L_x0 := Lib.hid (L_x0.out.kept b19 L_x0.out.inside)
  replace L_x1 := Lib.hid (L_x1.out.kept b19 L_x1.out.inside)
  replace L_g0 := Lib.hid (L_g0.out.kept b19 L_g0.out.inside)
  replace L_h0 := Lib.hid (L_h0.out.kept b19 L_h0.out.inside)
  replace E_g := Lib.hid (E_g.out.kept b19)
  replace JB := Lib.hid (JB.out.trans (b19.mono JB.out.size))
  replace B := Lib.hid (B.out.trans (b19.mono B.out.size))
  clear b19
  go_wp2
  go_ret
  exact ⟨rfl, B.out⟩

end Go.Proofs.YtfpmbkfikfdmkabGreat
