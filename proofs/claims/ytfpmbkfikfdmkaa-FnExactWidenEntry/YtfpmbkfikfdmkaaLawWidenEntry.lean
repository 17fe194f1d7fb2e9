/- FnExactWidenEntry: for every node, Ref and box impl.WidenEntry answers as the model does, leaves its arguments alone and answers in memory of its own. No condition. -/
import Derived.Test.YtfpmbkfikfdmkaaSpecWiden
import Derived.Test.YtfpmbkfikfdmkaaMarkEntry
import Derived.Test.YtfpmbkfikfdmkaaLawHelp
namespace Go.Proofs.Ytfpmbkfikfdmkaa
open Go.RowKit

theorem markRect_turn (k : Int) (n m c c' g g' : Nat) (xs ys : List Int) (w : World) (hx : Own w g n xs) (hy : Own w g' m ys) (hne : g ≠ g') (h0 : 0 ≤ k) (h1 : k ≤ 2199023255552) (hn : n ≤ 1048576) (hm : m ≤ 1048576) :
    Calls Try.prog 59 #[.agg #[.slice (some ⟨g, 0, none⟩) n c, .slice (some ⟨g', 0, none⟩) m c'], .int .i64 k] w fun e w' => e = .returned (.int .i64 (k + n + m)) ∧ Turned (fun x => x = g ∨ x = g') w w' :=
  (markRect_wide k n m c c' g g' xs ys w hx hy hne h0 h1 hn hm).mono fun _ _ h => ⟨h.1, h.2.2.2⟩

theorem specWidenEntry_is (lv ns rt d rr : Int) (n c n1 c1 n2 c2 lo1 lo2 : Nat) (A A1 A2 : Option Addr) (ps : List EV) (vs : List EVal) (x1 x2 : List Int) (w : World) (hp : Entries w A n ps) (h1 : Ints w lo1 A1 n1 x1) (h2 : Ints w lo2 A2 n2 x2) (hn : n ≤ maxLen) (m1 : n1 ≤ maxLen) (m2 : n2 ≤ maxLen) (hv : ps.map EV.val = vs) {cd l1 s1 r1 : Int} {V : List EVal} (hR : widenR lv ns rt vs d rr x1 x2 = (cd, l1, s1, r1, V)) :
    Calls Try.prog 55 #[.agg #[.int .i64 lv, .int .i64 ns, .int .i64 rt, .slice A n c], .int .i64 d, .int .i64 rr, .agg #[.slice A1 n1 c1, .slice A2 n2 c2]] w fun e w' => ∃ A' n' c' qs, e = .returned (.agg #[.int .i64 cd, .int .i64 l1, .int .i64 s1, .int .i64 r1, .slice A' n' c']) ∧ EntF w' w.heap.size w'.heap.size A' n' qs ∧ qs.map EV.val = V ∧ n' ≤ 6 ∧ Below w.heap.size w w' := by
  subst hv
  refine (specWidenEntry_any lv ns rt d rr n c n1 c1 n2 c2 lo1 lo2 A A1 A2 ps x1 x2 w hp h1 h2 hn m1 m2).mono fun e w' h => ?_
  obtain ⟨A', n', c', qs, k1, k2, k3, k4, k5⟩ := h
  rw [hR] at k1 k3
  exact ⟨A', n', c', qs, k1, k2, k3, k4, k5⟩

theorem implWidenEntry_is (lv ns rt d rr : Int) (n c n1 c1 n2 c2 lo1 lo2 : Nat) (A A1 A2 : Option Addr) (ps : List EV) (vs : List EVal) (x1 x2 : List Int) (w : World) (hp : Entries w A n ps) (h1 : Ints w lo1 A1 n1 x1) (h2 : Ints w lo2 A2 n2 x2) (hn : n ≤ maxLen) (m1 : n1 ≤ maxLen) (m2 : n2 ≤ maxLen) (hv : ps.map EV.val = vs) {cd l1 s1 r1 : Int} {V : List EVal} (hR : widenR lv ns rt vs d rr x1 x2 = (cd, l1, s1, r1, V)) :
    Calls Try.prog 57 #[.agg #[.int .i64 lv, .int .i64 ns, .int .i64 rt, .slice A n c], .int .i64 d, .int .i64 rr, .agg #[.slice A1 n1 c1, .slice A2 n2 c2]] w fun e w' => ∃ A' n' c' qs, e = .returned (.agg #[.int .i64 cd, .int .i64 l1, .int .i64 s1, .int .i64 r1, .slice A' n' c']) ∧ EntriesRes w' w.heap.size A' n' c' qs ∧ qs.map EV.val = V ∧ n' ≤ 6 ∧ Below w.heap.size w w' := by
  subst hv
  refine (implWidenEntry_any lv ns rt d rr n c n1 c1 n2 c2 lo1 lo2 A A1 A2 ps x1 x2 w hp h1 h2 hn m1 m2).mono fun e w' h => ?_
  obtain ⟨A', n', c', qs, k1, k2, k3, k4, k5⟩ := h
  rw [hR] at k1 k3
  exact ⟨A', n', c', qs, k1, k2, k3, k4, k5⟩

set_option maxRecDepth 100000 in
set_option maxHeartbeats 6400000 in
theorem lawWidenEntry_walk (lv ns rt : Int) (n c : Nat) (A : Option Addr) (ps : List EV) (d rr : Int) (k1 e1 k2 e2 : Nat) (E1 E2 : Option Addr) (u1 u2 : List Int) (w : World) (hp : Entries w A n ps) (hn : n ≤ maxLen) (he1 : Ints w 0 E1 k1 u1) (he2 : Ints w 0 E2 k2 u2) (mk1 : k1 ≤ maxLen) (mk2 : k2 ≤ maxLen) :
    Calls Try.prog 8 #[.agg #[.int .i64 lv, .int .i64 ns, .int .i64 rt, .slice A n c], .int .i64 d, .int .i64 rr, .agg #[.slice E1 k1 e1, .slice E2 k2 e2]] w fun e w' => e = .returned (.bool true) ∧ Below w.heap.size w w' := by
  have HP := Lib.hid hp
  have I_1 := Lib.hid he1
  have I_2 := Lib.hid he2
  clear hp he1 he2
  obtain ⟨⟨cd, l1, s1, r1, V⟩, hR⟩ : ∃ R, widenR lv ns rt (ps.map EV.val) d rr u1 u2 = R := ⟨_, rfl⟩
  have HR := Lib.hid hR
  clear hR
  have B := Lib.hid (below_alloc w (.cells #[.int .i64 lv, .int .i64 ns, .int .i64 rt, .slice A n c] 54))
  replace B := Lib.hid (B.out.alloc B.out.size (.cells #[.slice E1 k1 e1, .slice E2 k2 e2] 55))
  have L_a := Lib.hid ((Lies.new w 54 #[.int .i64 lv, .int .i64 ns, .int .i64 rt, .slice A n c]).alloc (.cells #[.slice E1 k1 e1, .slice E2 k2 e2] 55))
  have L_e := Lib.hid (Lies.new (w.alloc (.cells #[.int .i64 lv, .int .i64 ns, .int .i64 rt, .slice A n c] 54)) 55 #[.slice E1 k1 e1, .slice E2 k2 e2])
  simp only [World.size_alloc] at L_e
  go_enter Try.func8, Try.ntmps8
  go_wp2_with fail
  refine (szNode_any _ _ _ 1048576 _ _ _ ps _ (HP.out.kept B.out) hn (by decide) (by decide)).mono ?_
  rintro e W1 ⟨r, rfl, hr, b1⟩
  have sz_W1 := b1.size
  try simp only [World.size_alloc] at sz_W1
  replace L_a := Lib.hid (L_a.out.kept b1 L_a.out.inside)
  replace L_e := Lib.hid (L_e.out.kept b1 L_e.out.inside)
  replace B := Lib.hid (B.out.trans (b1.mono B.out.size))
  clear b1
  rcases hr with rfl | ⟨r0, r2, hn1, hs⟩
  · go_wp2
    go_ret
    exact ⟨rfl, B.out⟩
  have HM := Lib.hid hs
  have HS := Lib.hid (hs.two (by decide))
  have hr0 : ¬ r < 0 := by omega
  clear hs
  have c_e0 : W1.cell? ⟨w.heap.size + 1, 0, none⟩ = some (.slice E1 k1 e1) := L_e.out.cell 0
  have c_e1 : W1.cell? ⟨w.heap.size + 1, 1, none⟩ = some (.slice E2 k2 e2) := L_e.out.cell 1
  by_cases hz : r < k1 + k2
  · go_wp2_with fail
    refine (szRect_no _ _ _ _ _ _ _ _ r0 r2 mk1 mk2 hz).mono ?_
    rintro e W2 ⟨rfl, b2⟩
    replace B := Lib.hid (B.out.trans (b2.mono B.out.size))
    clear b2
    go_wp2
    go_ret
    exact ⟨rfl, B.out⟩
  go_wp2_with fail
  refine (szRect_yes _ _ _ _ _ _ _ _ r2 mk1 mk2 (by omega)).mono ?_
  rintro e W2 ⟨rfl, b2⟩
  have sz_W2 := b2.size
  try simp only [World.size_alloc] at sz_W2
  replace L_a := Lib.hid (L_a.out.kept b2 L_a.out.inside)
  replace L_e := Lib.hid (L_e.out.kept b2 L_e.out.inside)
  replace B := Lib.hid (B.out.trans (b2.mono B.out.size))
  clear b2
  clear c_e0 c_e1
  have hr1 : ¬ r - k1 - k2 < 0 := by omega
  have kk1 : k1 ≤ 1048576 := by omega
  have kk2 : k2 ≤ 1048576 := by omega
  have szB := B.out.size
  go_upto_region 8 with fail
  go_cut [10] (fun s10 wx => ∃ (n_w0 : Nat) (A0 : Option Addr) (n0 c0 : Nat) (q0 : List EV), s10 = .pointer (some ⟨n_w0, 0, none⟩) ∧ Hid (Lies wx n_w0 63 #[.int .i64 cd, .int .i64 l1, .int .i64 s1, .int .i64 r1, .slice A0 n0 c0]) ∧ W2.heap.size ≤ n_w0 ∧ Hid (Entries wx A0 n0 q0) ∧ Hid (q0.map EV.val = V) ∧ n0 ≤ 6 ∧ Hid (Since W2 wx))
  case first =>
    have c_a0 : W2.cell? ⟨w.heap.size, 0, none⟩ = some (.int .i64 lv) := L_a.out.cell 0
    have c_a1 : W2.cell? ⟨w.heap.size, 1, none⟩ = some (.int .i64 ns) := L_a.out.cell 1
    have c_a2 : W2.cell? ⟨w.heap.size, 2, none⟩ = some (.int .i64 rt) := L_a.out.cell 2
    have c_a3 : W2.cell? ⟨w.heap.size, 3, none⟩ = some (.slice A n c) := L_a.out.cell 3
    have c_e0 : W2.cell? ⟨w.heap.size + 1, 0, none⟩ = some (.slice E1 k1 e1) := L_e.out.cell 0
    have c_e1 : W2.cell? ⟨w.heap.size + 1, 1, none⟩ = some (.slice E2 k2 e2) := L_e.out.cell 1
    have i_a := L_a.out.inside
    have l_a := Nat.le_of_lt i_a
    have i_e := L_e.out.inside
    have l_e := Nat.le_of_lt i_e
    have zd := size_of_drew
    go_region_held3 (fun w' => w'.cell? ⟨w.heap.size, 0, none⟩ = some (.int .i64 lv) ∧ w'.cell? ⟨w.heap.size, 1, none⟩ = some (.int .i64 ns) ∧ w'.cell? ⟨w.heap.size, 2, none⟩ = some (.int .i64 rt) ∧ w'.cell? ⟨w.heap.size, 3, none⟩ = some (.slice A n c) ∧ w'.cell? ⟨w.heap.size + 1, 0, none⟩ = some (.slice E1 k1 e1) ∧ w'.cell? ⟨w.heap.size + 1, 1, none⟩ = some (.slice E2 k2 e2))
      (exact ⟨Lies.cell (t := 54) (cs := #[.int .i64 lv, .int .i64 ns, .int .i64 rt, .slice A n c]) (by with_reducible (repeat (first | refine Lies.far ?_ ?_ _ | refine Lies.alloc ?_ _ | refine Lies.drew ?_ | refine Lies.call ?_ b5 | refine Lies.call ?_ b4 | refine Lies.call ?_ b3 | exact L_a.out | exact L_e.out)); all_goals (simp only [size_of_drew, size_of_setCell, World.size_alloc]; omega)) 0, Lies.cell (t := 54) (cs := #[.int .i64 lv, .int .i64 ns, .int .i64 rt, .slice A n c]) (by with_reducible (repeat (first | refine Lies.far ?_ ?_ _ | refine Lies.alloc ?_ _ | refine Lies.drew ?_ | refine Lies.call ?_ b5 | refine Lies.call ?_ b4 | refine Lies.call ?_ b3 | exact L_a.out | exact L_e.out)); all_goals (simp only [size_of_drew, size_of_setCell, World.size_alloc]; omega)) 1, Lies.cell (t := 54) (cs := #[.int .i64 lv, .int .i64 ns, .int .i64 rt, .slice A n c]) (by with_reducible (repeat (first | refine Lies.far ?_ ?_ _ | refine Lies.alloc ?_ _ | refine Lies.drew ?_ | refine Lies.call ?_ b5 | refine Lies.call ?_ b4 | refine Lies.call ?_ b3 | exact L_a.out | exact L_e.out)); all_goals (simp only [size_of_drew, size_of_setCell, World.size_alloc]; omega)) 2, Lies.cell (t := 54) (cs := #[.int .i64 lv, .int .i64 ns, .int .i64 rt, .slice A n c]) (by with_reducible (repeat (first | refine Lies.far ?_ ?_ _ | refine Lies.alloc ?_ _ | refine Lies.drew ?_ | refine Lies.call ?_ b5 | refine Lies.call ?_ b4 | refine Lies.call ?_ b3 | exact L_a.out | exact L_e.out)); all_goals (simp only [size_of_drew, size_of_setCell, World.size_alloc]; omega)) 3, Lies.cell (t := 55) (cs := #[.slice E1 k1 e1, .slice E2 k2 e2]) (by with_reducible (repeat (first | refine Lies.far ?_ ?_ _ | refine Lies.alloc ?_ _ | refine Lies.drew ?_ | refine Lies.call ?_ b5 | refine Lies.call ?_ b4 | refine Lies.call ?_ b3 | exact L_a.out | exact L_e.out)); all_goals (simp only [size_of_drew, size_of_setCell, World.size_alloc]; omega)) 0, Lies.cell (t := 55) (cs := #[.slice E1 k1 e1, .slice E2 k2 e2]) (by with_reducible (repeat (first | refine Lies.far ?_ ?_ _ | refine Lies.alloc ?_ _ | refine Lies.drew ?_ | refine Lies.call ?_ b5 | refine Lies.call ?_ b4 | refine Lies.call ?_ b3 | exact L_a.out | exact L_e.out)); all_goals (simp only [size_of_drew, size_of_setCell, World.size_alloc]; omega)) 1⟩)
      (first
        | (go_at_call 44; refine (toNode_any _ _ _ _ _ _ ps _ (HP.out.kept (by with_reducible (repeat (first | refine Since.below ?_ | refine Since.drew ?_ | refine Since.alloc ?_ _ | exact Since.of B.out)))) (by omega) HS.out).mono ?_
           rintro e W3 ⟨gs, qss, rfl, hgs, os, ls, vs, b3⟩
           have q_W3 := cells_kept b3
           have u_W3 := frozen_kept b3
           have z_W3 := sizes_kept b3
           try simp only [size_of_drew, World.size_alloc] at z_W3
           have le_W2_W3 : W2.heap.size ≤ W3.heap.size := by omega
           try (have lt_W2_W3 : W2.heap.size < W3.heap.size := by omega))
        | (go_at_call 56; refine (toRect_any _ _ _ _ _ _ _ _ u1 u2 _ (I_1.out.kept (by with_reducible (repeat (first | refine Since.below ?_ | refine Since.drew ?_ | refine Since.alloc ?_ _ | refine Since.call ?_ b3 | exact Since.of B.out)))) (I_2.out.kept (by with_reducible (repeat (first | refine Since.below ?_ | refine Since.drew ?_ | refine Since.alloc ?_ _ | refine Since.call ?_ b3 | exact Since.of B.out)))) (by omega) (by omega)).mono ?_
           rintro e W4 ⟨h1s, h2s, rfl, p1s, p2s, i1s, i2s, b4⟩
           have q_W4 := cells_kept b4
           have u_W4 := frozen_kept b4
           have z_W4 := sizes_kept b4
           try simp only [size_of_drew, World.size_alloc] at z_W4
           have le_W2_W4 : W2.heap.size ≤ W4.heap.size := by omega
           try (have lt_W2_W4 : W2.heap.size < W4.heap.size := by omega)
           have le_W3_W4 : W3.heap.size ≤ W4.heap.size := by omega
           try (have lt_W3_W4 : W3.heap.size < W4.heap.size := by omega))
        | (go_at_call 55; refine (specWidenEntry_is _ _ _ _ _ _ _ _ _ _ _ _ _ _ _ _ qss (ps.map EV.val) u1 u2 _ (EntriesOwn.entries (by with_reducible (repeat (first | exact os | refine EntriesOwn.drew' ?_ | refine EntriesOwn.alloc' ?_ _ | refine EntriesOwn.call ?_ b4 | refine EntriesOwn.call ?_ b3))) ls) (Own.ints (by with_reducible (repeat (first | exact p1s | refine Own.drew' ?_ | refine Own.alloc ?_ _ | refine Own.call ?_ b4 | refine Own.call ?_ b3))) (Nat.zero_le _)) (Own.ints (by with_reducible (repeat (first | exact p2s | refine Own.drew' ?_ | refine Own.alloc ?_ _ | refine Own.call ?_ b4 | refine Own.call ?_ b3))) (Nat.zero_le _)) hn mk1 mk2 vs HR.out).mono ?_
           rintro e W5 ⟨A0, n0, c0, q0, rfl, ef, vj, nj', b5⟩
           have q_W5 := cells_kept b5
           have u_W5 := frozen_kept b5
           have z_W5 := sizes_kept b5
           try simp only [size_of_drew, World.size_alloc] at z_W5
           have le_W2_W5 : W2.heap.size ≤ W5.heap.size := by omega
           try (have lt_W2_W5 : W2.heap.size < W5.heap.size := by omega)
           have le_W3_W5 : W3.heap.size ≤ W5.heap.size := by omega
           try (have lt_W3_W5 : W3.heap.size < W5.heap.size := by omega)
           have le_W4_W5 : W4.heap.size ≤ W5.heap.size := by omega
           try (have lt_W4_W5 : W4.heap.size < W5.heap.size := by omega)))
    all_goals
      rename_i hH
      clear hH zd q_W3 u_W3 q_W4 u_W4 q_W5 u_W5 c_a0 c_a1 c_a2 c_a3 c_e0 c_e1
      go_wp2_with fail
      go_meet
      refine ⟨_, A0, n0, c0, q0, rfl, ?_, ?_, ?_, ?_, ?_, ?_⟩
      · refine Lib.hid ?_
        first
          | (refine Lies.as (cs := (((((#[.int .i64 0, .int .i64 0, .int .i64 0, .int .i64 0, .slice none 0 0].setIfInBounds 0 (.int .i64 cd)).setIfInBounds 1 (.int .i64 l1)).setIfInBounds 2 (.int .i64 s1)).setIfInBounds 3 (.int .i64 r1)).setIfInBounds 4 (.slice A0 n0 c0))) ?_ (by simp)
             with_reducible (repeat (first | refine Lies.set ?_ _ _ | refine Lies.far ?_ ?_ _ | (refine Lies.laid ?_; (simp only [size_of_drew, size_of_setCell, World.size_alloc]; done)) | exact Lies.new _ _ _ | exact Lies.laid2 _ _ _ _ | refine Lies.alloc ?_ _ | refine Lies.drew ?_ | refine Lies.call ?_ b5 | refine Lies.call ?_ b4 | refine Lies.call ?_ b3))
             all_goals first | exact Nat.ne_of_lt (Nat.lt_succ_self _) | exact Nat.ne_of_gt (Nat.lt_succ_self _) | exact Nat.ne_of_lt lt_W2_W3 | exact Nat.ne_of_gt lt_W2_W3 | exact Nat.ne_of_lt lt_W2_W4 | exact Nat.ne_of_gt lt_W2_W4 | exact Nat.ne_of_lt lt_W2_W5 | exact Nat.ne_of_gt lt_W2_W5 | exact Nat.ne_of_lt lt_W3_W4 | exact Nat.ne_of_gt lt_W3_W4 | exact Nat.ne_of_lt lt_W3_W5 | exact Nat.ne_of_gt lt_W3_W5 | exact Nat.ne_of_lt lt_W4_W5 | exact Nat.ne_of_gt lt_W4_W5 | (show ¬ _ = _; (try simp only [size_of_drew, size_of_setCell, World.size_alloc]); omega)
             done)
          | (with_reducible (repeat (first | refine Lies.far ?_ ?_ _ | (refine Lies.laid ?_; (simp only [size_of_drew, size_of_setCell, World.size_alloc]; done)) | exact Lies.new _ _ _ | exact Lies.laid2 _ _ _ _ | refine Lies.alloc ?_ _ | refine Lies.drew ?_ | refine Lies.call ?_ b5 | refine Lies.call ?_ b4 | refine Lies.call ?_ b3))
             all_goals first | exact Nat.ne_of_lt (Nat.lt_succ_self _) | exact Nat.ne_of_gt (Nat.lt_succ_self _) | exact Nat.ne_of_lt lt_W2_W3 | exact Nat.ne_of_gt lt_W2_W3 | exact Nat.ne_of_lt lt_W2_W4 | exact Nat.ne_of_gt lt_W2_W4 | exact Nat.ne_of_lt lt_W2_W5 | exact Nat.ne_of_gt lt_W2_W5 | exact Nat.ne_of_lt lt_W3_W4 | exact Nat.ne_of_gt lt_W3_W4 | exact Nat.ne_of_lt lt_W3_W5 | exact Nat.ne_of_gt lt_W3_W5 | exact Nat.ne_of_lt lt_W4_W5 | exact Nat.ne_of_gt lt_W4_W5 | (show ¬ _ = _; (try simp only [size_of_drew, size_of_setCell, World.size_alloc]); omega)
             done)
      · first | exact Nat.le_refl _ | exact Nat.le_succ _ | exact le_W2_W3 | exact Nat.le_succ_of_le le_W2_W3 | exact le_W2_W4 | exact Nat.le_succ_of_le le_W2_W4 | exact le_W2_W5 | exact Nat.le_succ_of_le le_W2_W5 | omega
      · refine Lib.hid ?_
        refine EntF.E (lo := ?_) (hi := W5.heap.size) ?_
        rotate_left
        with_reducible (repeat (first | refine EntF.far ?_ ?_ _ | refine EntF.alloc ?_ _ | refine EntF.drew ?_))
        · exact ef
        all_goals ((try dsimp only); (try simp only [size_of_drew, size_of_setCell, World.size_alloc]); omega)
      · exact Lib.hid vj
      · exact nj'
      · refine Lib.hid ?_
        with_reducible (repeat (first | refine Since.setCell ?_ ?_ _ | refine Since.alloc ?_ _ | refine Since.drew ?_ | refine Since.call ?_ b5 | refine Since.call ?_ b4 | refine Since.call ?_ b3))
        · exact Since.of (Below.refl _ _)
        all_goals first | exact Nat.le_refl _ | exact Nat.le_succ _ | exact le_W2_W3 | exact Nat.le_succ_of_le le_W2_W3 | exact le_W2_W4 | exact Nat.le_succ_of_le le_W2_W4 | exact le_W2_W5 | exact Nat.le_succ_of_le le_W2_W5 | (show _ ≤ _; (try simp only [size_of_drew, size_of_setCell, World.size_alloc]); omega)
  case' rest =>
    obtain ⟨n_w0, A0, n0, c0, q0, rfl, L_w0, g_w0, J, VJ, nj, S⟩ := hcut
    have bS := S.out.below
    clear S
  have d_w0_a : ¬ n_w0 = w.heap.size := by have := L_a.out.inside; omega
  have e_w0_a : ¬ w.heap.size = n_w0 := fun e => d_w0_a e.symm
  have d_w0_e : ¬ n_w0 = w.heap.size + 1 := by have := L_e.out.inside; omega
  have e_w0_e : ¬ w.heap.size + 1 = n_w0 := fun e => d_w0_e e.symm
  skip
  have sz_wc := bS.size
  try simp only [World.size_alloc] at sz_wc
  replace L_a := Lib.hid (L_a.out.kept bS L_a.out.inside)
  replace L_e := Lib.hid (L_e.out.kept bS L_e.out.inside)
  replace B := Lib.hid (B.out.trans (bS.mono B.out.size))
  clear bS
  generalize hWA : wc = WA at *
  clear hWA
  have in_w0 := L_w0.out.inside
  have JB := Lib.hid (Below.refl WA.heap.size WA)
  have c_a0 : WA.cell? ⟨w.heap.size, 0, none⟩ = some (.int .i64 lv) := L_a.out.cell 0
  have c_a1 : WA.cell? ⟨w.heap.size, 1, none⟩ = some (.int .i64 ns) := L_a.out.cell 1
  have c_a2 : WA.cell? ⟨w.heap.size, 2, none⟩ = some (.int .i64 rt) := L_a.out.cell 2
  have c_a3 : WA.cell? ⟨w.heap.size, 3, none⟩ = some (.slice A n c) := L_a.out.cell 3
  go_wp2_with fail
  refine (toNode_any _ _ _ _ _ _ ps _ (HP.out.kept B.out) (by omega) HS.out).mono ?_
  rintro e W6 ⟨gt, qst, rfl, hgt, ot, lt, vt, b6⟩
  replace JB := Lib.hid (JB.out.trans (b6.mono JB.out.size))
  have sz_W6 := b6.size
  try simp only [World.size_alloc] at sz_W6
  replace L_a := Lib.hid (L_a.out.kept b6 L_a.out.inside)
  replace L_e := Lib.hid (L_e.out.kept b6 L_e.out.inside)
  replace L_w0 := Lib.hid (L_w0.out.kept b6 L_w0.out.inside)
  replace B := Lib.hid (B.out.trans (b6.mono B.out.size))
  clear b6
  try simp only [World.size_alloc] at hgt
  have O_t := Lib.hid ot
  have K_t := Lib.hid lt
  have V_t := Lib.hid vt
  have A_t := Lib.hid ot.any
  have SQ_t := Lib.hid (small_own HP.out HM.out ot vt (by decide))
  have in_t := O_t.out.inside
  clear ot lt vt
  clear c_a0 c_a1 c_a2 c_a3
  replace JB := Lib.hid (JB.out.alloc JB.out.size (.cells #[.int .i64 lv, .int .i64 ns, .int .i64 rt, .slice (some ⟨gt, 0, none⟩) n n] 61))
  replace A_t := Lib.hid (A_t.out.kept (below_alloc _ (.cells #[.int .i64 lv, .int .i64 ns, .int .i64 rt, .slice (some ⟨gt, 0, none⟩) n n] 61)))
  replace L_a := Lib.hid (L_a.out.alloc (.cells #[.int .i64 lv, .int .i64 ns, .int .i64 rt, .slice (some ⟨gt, 0, none⟩) n n] 61))
  replace L_e := Lib.hid (L_e.out.alloc (.cells #[.int .i64 lv, .int .i64 ns, .int .i64 rt, .slice (some ⟨gt, 0, none⟩) n n] 61))
  replace L_w0 := Lib.hid (L_w0.out.alloc (.cells #[.int .i64 lv, .int .i64 ns, .int .i64 rt, .slice (some ⟨gt, 0, none⟩) n n] 61))
  replace O_t := Lib.hid (O_t.out.kept (below_alloc _ (.cells #[.int .i64 lv, .int .i64 ns, .int .i64 rt, .slice (some ⟨gt, 0, none⟩) n n] 61)))
  have L_x := Lib.hid (Lies.new W6 61 #[.int .i64 lv, .int .i64 ns, .int .i64 rt, .slice (some ⟨gt, 0, none⟩) n n])
  replace B := Lib.hid (B.out.alloc B.out.size (.cells #[.int .i64 lv, .int .i64 ns, .int .i64 rt, .slice (some ⟨gt, 0, none⟩) n n] 61))
  have c_e0 : (W6.alloc (.cells #[.int .i64 lv, .int .i64 ns, .int .i64 rt, .slice (some ⟨gt, 0, none⟩) n n] 61)).cell? ⟨w.heap.size + 1, 0, none⟩ = some (.slice E1 k1 e1) := L_e.out.cell 0
  have c_e1 : (W6.alloc (.cells #[.int .i64 lv, .int .i64 ns, .int .i64 rt, .slice (some ⟨gt, 0, none⟩) n n] 61)).cell? ⟨w.heap.size + 1, 1, none⟩ = some (.slice E2 k2 e2) := L_e.out.cell 1
  go_wp2_with fail
  refine (toRect_any _ _ _ _ _ _ _ _ u1 u2 _ (I_1.out.kept B.out) (I_2.out.kept B.out) (by omega) (by omega)).mono ?_
  rintro e W7 ⟨y1, y2, rfl, oy1, oy2, ly1, ly2, b7⟩
  replace JB := Lib.hid (JB.out.trans (b7.mono JB.out.size))
  have sz_W7 := b7.size
  try simp only [World.size_alloc] at sz_W7
  replace A_t := Lib.hid (A_t.out.kept b7)
  replace L_a := Lib.hid (L_a.out.kept b7 L_a.out.inside)
  replace L_e := Lib.hid (L_e.out.kept b7 L_e.out.inside)
  replace L_w0 := Lib.hid (L_w0.out.kept b7 L_w0.out.inside)
  replace L_x := Lib.hid (L_x.out.kept b7 L_x.out.inside)
  replace O_t := Lib.hid (O_t.out.kept b7)
  replace B := Lib.hid (B.out.trans (b7.mono B.out.size))
  clear b7
  clear c_e0 c_e1
  try simp only [World.size_alloc] at ly1
  have R_1 := Lib.hid oy1
  have R_2 := Lib.hid oy2
  clear oy1 oy2
  have in_1 := R_1.out.inside
  have in_2 := R_2.out.inside
  replace JB := Lib.hid (JB.out.alloc JB.out.size (.cells #[.slice (some ⟨y1, 0, none⟩) k1 k1, .slice (some ⟨y2, 0, none⟩) k2 k2] 26))
  replace R_1 := Lib.hid (R_1.out.kept (below_alloc _ (.cells #[.slice (some ⟨y1, 0, none⟩) k1 k1, .slice (some ⟨y2, 0, none⟩) k2 k2] 26)))
  replace R_2 := Lib.hid (R_2.out.kept (below_alloc _ (.cells #[.slice (some ⟨y1, 0, none⟩) k1 k1, .slice (some ⟨y2, 0, none⟩) k2 k2] 26)))
  replace A_t := Lib.hid (A_t.out.kept (below_alloc _ (.cells #[.slice (some ⟨y1, 0, none⟩) k1 k1, .slice (some ⟨y2, 0, none⟩) k2 k2] 26)))
  replace L_a := Lib.hid (L_a.out.alloc (.cells #[.slice (some ⟨y1, 0, none⟩) k1 k1, .slice (some ⟨y2, 0, none⟩) k2 k2] 26))
  replace L_e := Lib.hid (L_e.out.alloc (.cells #[.slice (some ⟨y1, 0, none⟩) k1 k1, .slice (some ⟨y2, 0, none⟩) k2 k2] 26))
  replace L_w0 := Lib.hid (L_w0.out.alloc (.cells #[.slice (some ⟨y1, 0, none⟩) k1 k1, .slice (some ⟨y2, 0, none⟩) k2 k2] 26))
  replace L_x := Lib.hid (L_x.out.alloc (.cells #[.slice (some ⟨y1, 0, none⟩) k1 k1, .slice (some ⟨y2, 0, none⟩) k2 k2] 26))
  replace O_t := Lib.hid (O_t.out.kept (below_alloc _ (.cells #[.slice (some ⟨y1, 0, none⟩) k1 k1, .slice (some ⟨y2, 0, none⟩) k2 k2] 26)))
  have L_y := Lib.hid (Lies.new W7 26 #[.slice (some ⟨y1, 0, none⟩) k1 k1, .slice (some ⟨y2, 0, none⟩) k2 k2])
  replace B := Lib.hid (B.out.alloc B.out.size (.cells #[.slice (some ⟨y1, 0, none⟩) k1 k1, .slice (some ⟨y2, 0, none⟩) k2 k2] 26))
  have c_x0 : (W7.alloc (.cells #[.slice (some ⟨y1, 0, none⟩) k1 k1, .slice (some ⟨y2, 0, none⟩) k2 k2] 26)).cell? ⟨W6.heap.size, 0, none⟩ = some (.int .i64 lv) := L_x.out.cell 0
  have c_x1 : (W7.alloc (.cells #[.slice (some ⟨y1, 0, none⟩) k1 k1, .slice (some ⟨y2, 0, none⟩) k2 k2] 26)).cell? ⟨W6.heap.size, 1, none⟩ = some (.int .i64 ns) := L_x.out.cell 1
  have c_x2 : (W7.alloc (.cells #[.slice (some ⟨y1, 0, none⟩) k1 k1, .slice (some ⟨y2, 0, none⟩) k2 k2] 26)).cell? ⟨W6.heap.size, 2, none⟩ = some (.int .i64 rt) := L_x.out.cell 2
  have c_x3 : (W7.alloc (.cells #[.slice (some ⟨y1, 0, none⟩) k1 k1, .slice (some ⟨y2, 0, none⟩) k2 k2] 26)).cell? ⟨W6.heap.size, 3, none⟩ = some (.slice (some ⟨gt, 0, none⟩) n n) := L_x.out.cell 3
  have c_y0 : (W7.alloc (.cells #[.slice (some ⟨y1, 0, none⟩) k1 k1, .slice (some ⟨y2, 0, none⟩) k2 k2] 26)).cell? ⟨W7.heap.size, 0, none⟩ = some (.slice (some ⟨y1, 0, none⟩) k1 k1) := L_y.out.cell 0
  have c_y1 : (W7.alloc (.cells #[.slice (some ⟨y1, 0, none⟩) k1 k1, .slice (some ⟨y2, 0, none⟩) k2 k2] 26)).cell? ⟨W7.heap.size, 1, none⟩ = some (.slice (some ⟨y2, 0, none⟩) k2 k2) := L_y.out.cell 1
  go_wp2_with fail
  refine (implWidenEntry_is _ _ _ _ _ _ _ _ _ _ _ _ _ _ _ _ qst (ps.map EV.val) u1 u2 _ (O_t.out.entries K_t.out) (R_1.out.ints (Nat.zero_le _)) (R_2.out.ints (Nat.zero_le _)) hn mk1 mk2 V_t.out HR.out).mono ?_
  rintro e W8 ⟨A1, n1, c1, q1, rfl, he, ve, ne, b8⟩
  replace JB := Lib.hid (JB.out.trans (b8.mono JB.out.size))
  have sz_W8 := b8.size
  try simp only [World.size_alloc] at sz_W8
  replace R_1 := Lib.hid (R_1.out.kept b8)
  replace R_2 := Lib.hid (R_2.out.kept b8)
  replace A_t := Lib.hid (A_t.out.kept b8)
  replace L_a := Lib.hid (L_a.out.kept b8 L_a.out.inside)
  replace L_e := Lib.hid (L_e.out.kept b8 L_e.out.inside)
  replace L_w0 := Lib.hid (L_w0.out.kept b8 L_w0.out.inside)
  replace L_x := Lib.hid (L_x.out.kept b8 L_x.out.inside)
  replace L_y := Lib.hid (L_y.out.kept b8 L_y.out.inside)
  replace O_t := Lib.hid (O_t.out.kept b8)
  replace B := Lib.hid (B.out.trans (b8.mono B.out.size))
  clear b8
  clear c_x0 c_x1 c_x2 c_x3
  clear c_y0 c_y1
  simp only [World.size_alloc] at he
  obtain rfl : n0 = n1 := by have h1 := J.out.1; have h2 := he.len; have h3 := congrArg List.length (VJ.out.trans ve.symm); simp only [List.length_map] at h3; omega
  have hb5 := Lib.hid he.bound
  have E_g := Lib.hid he
  have VE := Lib.hid ve
  clear he ve
  replace JB := Lib.hid (JB.out.alloc JB.out.size (.cells #[.int .i64 cd, .int .i64 l1, .int .i64 s1, .int .i64 r1, .slice A1 n0 c1] 63))
  replace E_g := Lib.hid (E_g.out.kept (below_alloc _ (.cells #[.int .i64 cd, .int .i64 l1, .int .i64 s1, .int .i64 r1, .slice A1 n0 c1] 63)))
  replace R_1 := Lib.hid (R_1.out.kept (below_alloc _ (.cells #[.int .i64 cd, .int .i64 l1, .int .i64 s1, .int .i64 r1, .slice A1 n0 c1] 63)))
  replace R_2 := Lib.hid (R_2.out.kept (below_alloc _ (.cells #[.int .i64 cd, .int .i64 l1, .int .i64 s1, .int .i64 r1, .slice A1 n0 c1] 63)))
  replace A_t := Lib.hid (A_t.out.kept (below_alloc _ (.cells #[.int .i64 cd, .int .i64 l1, .int .i64 s1, .int .i64 r1, .slice A1 n0 c1] 63)))
  replace L_a := Lib.hid (L_a.out.alloc (.cells #[.int .i64 cd, .int .i64 l1, .int .i64 s1, .int .i64 r1, .slice A1 n0 c1] 63))
  replace L_e := Lib.hid (L_e.out.alloc (.cells #[.int .i64 cd, .int .i64 l1, .int .i64 s1, .int .i64 r1, .slice A1 n0 c1] 63))
  replace L_w0 := Lib.hid (L_w0.out.alloc (.cells #[.int .i64 cd, .int .i64 l1, .int .i64 s1, .int .i64 r1, .slice A1 n0 c1] 63))
  replace L_x := Lib.hid (L_x.out.alloc (.cells #[.int .i64 cd, .int .i64 l1, .int .i64 s1, .int .i64 r1, .slice A1 n0 c1] 63))
  replace L_y := Lib.hid (L_y.out.alloc (.cells #[.int .i64 cd, .int .i64 l1, .int .i64 s1, .int .i64 r1, .slice A1 n0 c1] 63))
  replace O_t := Lib.hid (O_t.out.kept (below_alloc _ (.cells #[.int .i64 cd, .int .i64 l1, .int .i64 s1, .int .i64 r1, .slice A1 n0 c1] 63)))
  have L_g0 := Lib.hid (Lies.new W8 63 #[.int .i64 cd, .int .i64 l1, .int .i64 s1, .int .i64 r1, .slice A1 n0 c1])
  replace B := Lib.hid (B.out.alloc B.out.size (.cells #[.int .i64 cd, .int .i64 l1, .int .i64 s1, .int .i64 r1, .slice A1 n0 c1] 63))
  have c_w00 : (W8.alloc (.cells #[.int .i64 cd, .int .i64 l1, .int .i64 s1, .int .i64 r1, .slice A1 n0 c1] 63)).cell? ⟨n_w0, 0, none⟩ = some (.int .i64 cd) := L_w0.out.cell 0
  have c_w01 : (W8.alloc (.cells #[.int .i64 cd, .int .i64 l1, .int .i64 s1, .int .i64 r1, .slice A1 n0 c1] 63)).cell? ⟨n_w0, 1, none⟩ = some (.int .i64 l1) := L_w0.out.cell 1
  have c_w02 : (W8.alloc (.cells #[.int .i64 cd, .int .i64 l1, .int .i64 s1, .int .i64 r1, .slice A1 n0 c1] 63)).cell? ⟨n_w0, 2, none⟩ = some (.int .i64 s1) := L_w0.out.cell 2
  have c_w03 : (W8.alloc (.cells #[.int .i64 cd, .int .i64 l1, .int .i64 s1, .int .i64 r1, .slice A1 n0 c1] 63)).cell? ⟨n_w0, 3, none⟩ = some (.int .i64 r1) := L_w0.out.cell 3
  have c_w04 : (W8.alloc (.cells #[.int .i64 cd, .int .i64 l1, .int .i64 s1, .int .i64 r1, .slice A1 n0 c1] 63)).cell? ⟨n_w0, 4, none⟩ = some (.slice A0 n0 c0) := L_w0.out.cell 4
  have c_g00 : (W8.alloc (.cells #[.int .i64 cd, .int .i64 l1, .int .i64 s1, .int .i64 r1, .slice A1 n0 c1] 63)).cell? ⟨W8.heap.size, 0, none⟩ = some (.int .i64 cd) := L_g0.out.cell 0
  have c_g01 : (W8.alloc (.cells #[.int .i64 cd, .int .i64 l1, .int .i64 s1, .int .i64 r1, .slice A1 n0 c1] 63)).cell? ⟨W8.heap.size, 1, none⟩ = some (.int .i64 l1) := L_g0.out.cell 1
  have c_g02 : (W8.alloc (.cells #[.int .i64 cd, .int .i64 l1, .int .i64 s1, .int .i64 r1, .slice A1 n0 c1] 63)).cell? ⟨W8.heap.size, 2, none⟩ = some (.int .i64 s1) := L_g0.out.cell 2
  have c_g03 : (W8.alloc (.cells #[.int .i64 cd, .int .i64 l1, .int .i64 s1, .int .i64 r1, .slice A1 n0 c1] 63)).cell? ⟨W8.heap.size, 3, none⟩ = some (.int .i64 r1) := L_g0.out.cell 3
  have c_g04 : (W8.alloc (.cells #[.int .i64 cd, .int .i64 l1, .int .i64 s1, .int .i64 r1, .slice A1 n0 c1] 63)).cell? ⟨W8.heap.size, 4, none⟩ = some (.slice A1 n0 c1) := L_g0.out.cell 4
  go_wp2_with fail
  refine (eqNodeResult_same _ _ _ _ _ _ _ _ _ q1 q0 _ E_g.out.entries (J.out.kept JB.out) (VE.out.trans VJ.out.symm) (Nat.le_trans nj (by decide))).mono ?_
  rintro e W9 ⟨rfl, b9⟩
  replace JB := Lib.hid (JB.out.trans (b9.mono JB.out.size))
  replace E_g := Lib.hid (E_g.out.kept b9)
  have sz_W9 := b9.size
  try simp only [World.size_alloc] at sz_W9
  replace R_1 := Lib.hid (R_1.out.kept b9)
  replace R_2 := Lib.hid (R_2.out.kept b9)
  replace A_t := Lib.hid (A_t.out.kept b9)
  replace L_a := Lib.hid (L_a.out.kept b9 L_a.out.inside)
  replace L_e := Lib.hid (L_e.out.kept b9 L_e.out.inside)
  replace L_w0 := Lib.hid (L_w0.out.kept b9 L_w0.out.inside)
  replace L_x := Lib.hid (L_x.out.kept b9 L_x.out.inside)
  replace L_y := Lib.hid (L_y.out.kept b9 L_y.out.inside)
  replace L_g0 := Lib.hid (L_g0.out.kept b9 L_g0.out.inside)
  replace O_t := Lib.hid (O_t.out.kept b9)
  replace B := Lib.hid (B.out.trans (b9.mono B.out.size))
  clear b9
  clear c_w00 c_w01 c_w02 c_w03 c_w04
  clear c_g00 c_g01 c_g02 c_g03 c_g04
  go_wp2_with fail
  have k_0 : W9.cell? ⟨W6.heap.size, 0, none⟩ = some (.int .i64 lv) ∧ W9.cell? ⟨W6.heap.size, 1, none⟩ = some (.int .i64 ns) ∧ W9.cell? ⟨W6.heap.size, 2, none⟩ = some (.int .i64 rt) ∧ W9.cell? ⟨W6.heap.size, 3, none⟩ = some (.slice (some ⟨gt, 0, none⟩) n n) ∧ W9.cell? ⟨w.heap.size, 0, none⟩ = some (.int .i64 lv) ∧ W9.cell? ⟨w.heap.size, 1, none⟩ = some (.int .i64 ns) ∧ W9.cell? ⟨w.heap.size, 2, none⟩ = some (.int .i64 rt) ∧ W9.cell? ⟨w.heap.size, 3, none⟩ = some (.slice A n c) := ⟨L_x.out.cell 0, L_x.out.cell 1, L_x.out.cell 2, L_x.out.cell 3, L_a.out.cell 0, L_a.out.cell 1, L_a.out.cell 2, L_a.out.cell 3⟩
  go_region_held3 (fun w' => w'.cell? ⟨W6.heap.size, 0, none⟩ = some (.int .i64 lv) ∧ w'.cell? ⟨W6.heap.size, 1, none⟩ = some (.int .i64 ns) ∧ w'.cell? ⟨W6.heap.size, 2, none⟩ = some (.int .i64 rt) ∧ w'.cell? ⟨W6.heap.size, 3, none⟩ = some (.slice (some ⟨gt, 0, none⟩) n n) ∧ w'.cell? ⟨w.heap.size, 0, none⟩ = some (.int .i64 lv) ∧ w'.cell? ⟨w.heap.size, 1, none⟩ = some (.int .i64 ns) ∧ w'.cell? ⟨w.heap.size, 2, none⟩ = some (.int .i64 rt) ∧ w'.cell? ⟨w.heap.size, 3, none⟩ = some (.slice A n c))
    (first | (simp [go_sem, k_0]; done) | with_reducible exact k_1 | with_reducible exact k_2)
    (first
      | (go_at_call 44; refine (toNode_any _ _ _ _ _ _ ps _ (HP.out.kept B.out.drew) (by omega) HS.out).mono ?_
         rintro e Wx ⟨gz, qsz, rfl, hgz, oz, lz, vz, bxd⟩
         have bx := below_drawn bxd
         have k_1 : Wx.cell? ⟨W6.heap.size, 0, none⟩ = some (.int .i64 lv) ∧ Wx.cell? ⟨W6.heap.size, 1, none⟩ = some (.int .i64 ns) ∧ Wx.cell? ⟨W6.heap.size, 2, none⟩ = some (.int .i64 rt) ∧ Wx.cell? ⟨W6.heap.size, 3, none⟩ = some (.slice (some ⟨gt, 0, none⟩) n n) ∧ Wx.cell? ⟨w.heap.size, 0, none⟩ = some (.int .i64 lv) ∧ Wx.cell? ⟨w.heap.size, 1, none⟩ = some (.int .i64 ns) ∧ Wx.cell? ⟨w.heap.size, 2, none⟩ = some (.int .i64 rt) ∧ Wx.cell? ⟨w.heap.size, 3, none⟩ = some (.slice A n c) := ⟨(L_x.out.kept bx L_x.out.inside).cell 0, (L_x.out.kept bx L_x.out.inside).cell 1, (L_x.out.kept bx L_x.out.inside).cell 2, (L_x.out.kept bx L_x.out.inside).cell 3, (L_a.out.kept bx L_a.out.inside).cell 0, (L_a.out.kept bx L_a.out.inside).cell 1, (L_a.out.kept bx L_a.out.inside).cell 2, (L_a.out.kept bx L_a.out.inside).cell 3⟩
         clear bxd hgz)
      | (go_at_call 48; refine (eqNode_same _ _ _ _ _ _ _ _ qst qsz _ ((O_t.out.kept bx).entries K_t.out) (oz.entries lz) (V_t.out.trans vz.symm) hn).mono ?_
         rintro e Wy ⟨rfl, by1⟩
         have k_2 : Wy.cell? ⟨W6.heap.size, 0, none⟩ = some (.int .i64 lv) ∧ Wy.cell? ⟨W6.heap.size, 1, none⟩ = some (.int .i64 ns) ∧ Wy.cell? ⟨W6.heap.size, 2, none⟩ = some (.int .i64 rt) ∧ Wy.cell? ⟨W6.heap.size, 3, none⟩ = some (.slice (some ⟨gt, 0, none⟩) n n) ∧ Wy.cell? ⟨w.heap.size, 0, none⟩ = some (.int .i64 lv) ∧ Wy.cell? ⟨w.heap.size, 1, none⟩ = some (.int .i64 ns) ∧ Wy.cell? ⟨w.heap.size, 2, none⟩ = some (.int .i64 rt) ∧ Wy.cell? ⟨w.heap.size, 3, none⟩ = some (.slice A n c) := ⟨((L_x.out.kept bx L_x.out.inside).kept by1 (L_x.out.kept bx L_x.out.inside).inside).cell 0, ((L_x.out.kept bx L_x.out.inside).kept by1 (L_x.out.kept bx L_x.out.inside).inside).cell 1, ((L_x.out.kept bx L_x.out.inside).kept by1 (L_x.out.kept bx L_x.out.inside).inside).cell 2, ((L_x.out.kept bx L_x.out.inside).kept by1 (L_x.out.kept bx L_x.out.inside).inside).cell 3, ((L_a.out.kept bx L_a.out.inside).kept by1 (L_a.out.kept bx L_a.out.inside).inside).cell 0, ((L_a.out.kept bx L_a.out.inside).kept by1 (L_a.out.kept bx L_a.out.inside).inside).cell 1, ((L_a.out.kept bx L_a.out.inside).kept by1 (L_a.out.kept bx L_a.out.inside).inside).cell 2, ((L_a.out.kept bx L_a.out.inside).kept by1 (L_a.out.kept bx L_a.out.inside).inside).cell 3⟩))
  clear k_0 k_1 k_2 oz lz vz
  replace JB := Lib.hid (JB.out.trans (bx.mono JB.out.size))
  replace E_g := Lib.hid (E_g.out.kept bx)
  have sz_Wx := bx.size
  try simp only [World.size_alloc] at sz_Wx
  replace R_1 := Lib.hid (R_1.out.kept bx)
  replace R_2 := Lib.hid (R_2.out.kept bx)
  replace A_t := Lib.hid (A_t.out.kept bx)
  replace L_a := Lib.hid (L_a.out.kept bx L_a.out.inside)
  replace L_e := Lib.hid (L_e.out.kept bx L_e.out.inside)
  replace L_w0 := Lib.hid (L_w0.out.kept bx L_w0.out.inside)
  replace L_x := Lib.hid (L_x.out.kept bx L_x.out.inside)
  replace L_y := Lib.hid (L_y.out.kept bx L_y.out.inside)
  replace L_g0 := Lib.hid (L_g0.out.kept bx L_g0.out.inside)
  replace O_t := Lib.hid (O_t.out.kept bx)
  replace B := Lib.hid (B.out.trans (bx.mono B.out.size))
  clear bx
  replace JB := Lib.hid (JB.out.trans (by1.mono JB.out.size))
  replace E_g := Lib.hid (E_g.out.kept by1)
  have sz_Wy := by1.size
  try simp only [World.size_alloc] at sz_Wy
  replace R_1 := Lib.hid (R_1.out.kept by1)
  replace R_2 := Lib.hid (R_2.out.kept by1)
  replace A_t := Lib.hid (A_t.out.kept by1)
  replace L_a := Lib.hid (L_a.out.kept by1 L_a.out.inside)
  replace L_e := Lib.hid (L_e.out.kept by1 L_e.out.inside)
  replace L_w0 := Lib.hid (L_w0.out.kept by1 L_w0.out.inside)
  replace L_x := Lib.hid (L_x.out.kept by1 L_x.out.inside)
  replace L_y := Lib.hid (L_y.out.kept by1 L_y.out.inside)
  replace L_g0 := Lib.hid (L_g0.out.kept by1 L_g0.out.inside)
  replace O_t := Lib.hid (O_t.out.kept by1)
  replace B := Lib.hid (B.out.trans (by1.mono B.out.size))
  clear by1
  go_wp2_with fail
  have k_0 : Wy.cell? ⟨W7.heap.size, 0, none⟩ = some (.slice (some ⟨y1, 0, none⟩) k1 k1) ∧ Wy.cell? ⟨W7.heap.size, 1, none⟩ = some (.slice (some ⟨y2, 0, none⟩) k2 k2) ∧ Wy.cell? ⟨w.heap.size + 1, 0, none⟩ = some (.slice E1 k1 e1) ∧ Wy.cell? ⟨w.heap.size + 1, 1, none⟩ = some (.slice E2 k2 e2) := ⟨L_y.out.cell 0, L_y.out.cell 1, L_e.out.cell 0, L_e.out.cell 1⟩
  go_region_held3 (fun w' => w'.cell? ⟨W7.heap.size, 0, none⟩ = some (.slice (some ⟨y1, 0, none⟩) k1 k1) ∧ w'.cell? ⟨W7.heap.size, 1, none⟩ = some (.slice (some ⟨y2, 0, none⟩) k2 k2) ∧ w'.cell? ⟨w.heap.size + 1, 0, none⟩ = some (.slice E1 k1 e1) ∧ w'.cell? ⟨w.heap.size + 1, 1, none⟩ = some (.slice E2 k2 e2))
    (first | (simp [go_sem, k_0]; done) | with_reducible exact k_1 | with_reducible exact k_2)
    (first
      | (go_at_call 56; refine (toRect_any _ _ _ _ _ _ _ _ u1 u2 _ (I_1.out.kept B.out.drew) (I_2.out.kept B.out.drew) (by omega) (by omega)).mono ?_
         rintro e Wx2 ⟨gz, gz', rfl, oz, oz', lz, lz', bxd⟩
         have bx := below_drawn bxd
         have k_1 : Wx2.cell? ⟨W7.heap.size, 0, none⟩ = some (.slice (some ⟨y1, 0, none⟩) k1 k1) ∧ Wx2.cell? ⟨W7.heap.size, 1, none⟩ = some (.slice (some ⟨y2, 0, none⟩) k2 k2) ∧ Wx2.cell? ⟨w.heap.size + 1, 0, none⟩ = some (.slice E1 k1 e1) ∧ Wx2.cell? ⟨w.heap.size + 1, 1, none⟩ = some (.slice E2 k2 e2) := ⟨(L_y.out.kept bx L_y.out.inside).cell 0, (L_y.out.kept bx L_y.out.inside).cell 1, (L_e.out.kept bx L_e.out.inside).cell 0, (L_e.out.kept bx L_e.out.inside).cell 1⟩
         clear bxd lz lz')
      | (go_at_call 58; refine (eqRect_is true _ _ _ _ _ _ _ _ _ _ _ _ _ _ _ _ u1 u2 u1 u2 _ (by simp) ((R_1.out.kept bx).ints (Nat.zero_le _)) ((R_2.out.kept bx).ints (Nat.zero_le _)) (oz.ints (Nat.zero_le _)) (oz'.ints (Nat.zero_le _)) mk1 mk2).mono ?_
         rintro e Wy2 ⟨rfl, by1⟩
         have k_2 : Wy2.cell? ⟨W7.heap.size, 0, none⟩ = some (.slice (some ⟨y1, 0, none⟩) k1 k1) ∧ Wy2.cell? ⟨W7.heap.size, 1, none⟩ = some (.slice (some ⟨y2, 0, none⟩) k2 k2) ∧ Wy2.cell? ⟨w.heap.size + 1, 0, none⟩ = some (.slice E1 k1 e1) ∧ Wy2.cell? ⟨w.heap.size + 1, 1, none⟩ = some (.slice E2 k2 e2) := ⟨((L_y.out.kept bx L_y.out.inside).kept by1 (L_y.out.kept bx L_y.out.inside).inside).cell 0, ((L_y.out.kept bx L_y.out.inside).kept by1 (L_y.out.kept bx L_y.out.inside).inside).cell 1, ((L_e.out.kept bx L_e.out.inside).kept by1 (L_e.out.kept bx L_e.out.inside).inside).cell 0, ((L_e.out.kept bx L_e.out.inside).kept by1 (L_e.out.kept bx L_e.out.inside).inside).cell 1⟩))
  clear k_0 k_1 k_2 oz oz'
  replace JB := Lib.hid (JB.out.trans (bx.mono JB.out.size))
  replace E_g := Lib.hid (E_g.out.kept bx)
  have sz_Wx2 := bx.size
  try simp only [World.size_alloc] at sz_Wx2
  replace R_1 := Lib.hid (R_1.out.kept bx)
  replace R_2 := Lib.hid (R_2.out.kept bx)
  replace A_t := Lib.hid (A_t.out.kept bx)
  replace L_a := Lib.hid (L_a.out.kept bx L_a.out.inside)
  replace L_e := Lib.hid (L_e.out.kept bx L_e.out.inside)
  replace L_w0 := Lib.hid (L_w0.out.kept bx L_w0.out.inside)
  replace L_x := Lib.hid (L_x.out.kept bx L_x.out.inside)
  replace L_y := Lib.hid (L_y.out.kept bx L_y.out.inside)
  replace L_g0 := Lib.hid (L_g0.out.kept bx L_g0.out.inside)
  replace O_t := Lib.hid (O_t.out.kept bx)
  replace B := Lib.hid (B.out.trans (bx.mono B.out.size))
  clear bx
  replace JB := Lib.hid (JB.out.trans (by1.mono JB.out.size))
  replace E_g := Lib.hid (E_g.out.kept by1)
  have sz_Wy2 := by1.size
  try simp only [World.size_alloc] at sz_Wy2
  replace R_1 := Lib.hid (R_1.out.kept by1)
  replace R_2 := Lib.hid (R_2.out.kept by1)
  replace A_t := Lib.hid (A_t.out.kept by1)
  replace L_a := Lib.hid (L_a.out.kept by1 L_a.out.inside)
  replace L_e := Lib.hid (L_e.out.kept by1 L_e.out.inside)
  replace L_w0 := Lib.hid (L_w0.out.kept by1 L_w0.out.inside)
  replace L_x := Lib.hid (L_x.out.kept by1 L_x.out.inside)
  replace L_y := Lib.hid (L_y.out.kept by1 L_y.out.inside)
  replace L_g0 := Lib.hid (L_g0.out.kept by1 L_g0.out.inside)
  replace O_t := Lib.hid (O_t.out.kept by1)
  replace B := Lib.hid (B.out.trans (by1.mono B.out.size))
  clear by1
  have c_x0 : Wy2.cell? ⟨W6.heap.size, 0, none⟩ = some (.int .i64 lv) := L_x.out.cell 0
  have c_x1 : Wy2.cell? ⟨W6.heap.size, 1, none⟩ = some (.int .i64 ns) := L_x.out.cell 1
  have c_x2 : Wy2.cell? ⟨W6.heap.size, 2, none⟩ = some (.int .i64 rt) := L_x.out.cell 2
  have c_x3 : Wy2.cell? ⟨W6.heap.size, 3, none⟩ = some (.slice (some ⟨gt, 0, none⟩) n n) := L_x.out.cell 3
  go_wp2_with fail
  refine (markNode_all 1 _ _ _ _ _ _ W6.heap.size qst _ A_t.out K_t.out (by decide) (by decide) (by omega) SQ_t.out).mono ?_
  rintro e W10 ⟨rm, rfl, hrm, t10⟩
  have sz_W10 := t10.2.1
  try simp only [World.size_alloc] at sz_W10
  clear O_t
  clear A_t
  replace L_a := Lib.hid (t10.lies L_a.out (by show ¬ _; omega))
  replace L_e := Lib.hid (t10.lies L_e.out (by show ¬ _; omega))
  replace L_w0 := Lib.hid (t10.lies L_w0.out (by show ¬ _; omega))
  replace L_x := Lib.hid (t10.lies L_x.out (by show ¬ _; omega))
  replace L_y := Lib.hid (t10.lies L_y.out (by show ¬ _; omega))
  replace L_g0 := Lib.hid (t10.lies L_g0.out (by show ¬ _; omega))
  replace R_1 := Lib.hid (t10.own R_1.out (by show ¬ _; omega))
  replace R_2 := Lib.hid (t10.own R_2.out (by show ¬ _; omega))
  replace B := Lib.hid (t10.below B.out (by intro x hx; show w.heap.size ≤ x; have hx' : gt ≤ x := hx.1; omega))
  replace JB := Lib.hid (JB.out.trans (t10.1 _ (fun x hx => by have hx' : gt ≤ x := hx.1; omega) JB.out.size))
  replace E_g := Lib.hid (E_g.out.turned t10 (fun x hx => by have hx' := hx.2; omega))
  clear c_x0 c_x1 c_x2 c_x3
  clear t10
  have c_y0 : W10.cell? ⟨W7.heap.size, 0, none⟩ = some (.slice (some ⟨y1, 0, none⟩) k1 k1) := L_y.out.cell 0
  have c_y1 : W10.cell? ⟨W7.heap.size, 1, none⟩ = some (.slice (some ⟨y2, 0, none⟩) k2 k2) := L_y.out.cell 1
  go_wp2_with fail
  refine (markRect_turn _ _ _ _ _ _ _ u1 u2 _ R_1.out R_2.out (by omega) (by omega) (by omega) kk1 kk2).mono ?_
  rintro e W11 ⟨rfl, t11⟩
  have sz_W11 := t11.2.1
  try simp only [World.size_alloc] at sz_W11
  replace L_a := Lib.hid (t11.lies L_a.out (by show ¬ _; omega))
  replace L_e := Lib.hid (t11.lies L_e.out (by show ¬ _; omega))
  replace L_w0 := Lib.hid (t11.lies L_w0.out (by show ¬ _; omega))
  replace L_x := Lib.hid (t11.lies L_x.out (by show ¬ _; omega))
  replace L_y := Lib.hid (t11.lies L_y.out (by show ¬ _; omega))
  replace L_g0 := Lib.hid (t11.lies L_g0.out (by show ¬ _; omega))
  replace B := Lib.hid (t11.below B.out (by intro x hx; show w.heap.size ≤ x; rcases hx with rfl | rfl <;> omega))
  replace JB := Lib.hid (JB.out.trans (t11.1 _ (fun x hx => by rcases hx with rfl | rfl <;> omega) JB.out.size))
  replace E_g := Lib.hid (E_g.out.turned t11 (fun x hx => by rcases hx with rfl | rfl <;> omega))
  clear R_1 R_2 t11
  clear c_y0 c_y1
  have kpos : ¬ rm + k1 + k2 < 0 := by omega
  have c_w00 : W11.cell? ⟨n_w0, 0, none⟩ = some (.int .i64 cd) := L_w0.out.cell 0
  have c_w01 : W11.cell? ⟨n_w0, 1, none⟩ = some (.int .i64 l1) := L_w0.out.cell 1
  have c_w02 : W11.cell? ⟨n_w0, 2, none⟩ = some (.int .i64 s1) := L_w0.out.cell 2
  have c_w03 : W11.cell? ⟨n_w0, 3, none⟩ = some (.int .i64 r1) := L_w0.out.cell 3
  have c_w04 : W11.cell? ⟨n_w0, 4, none⟩ = some (.slice A0 n0 c0) := L_w0.out.cell 4
  have c_g00 : W11.cell? ⟨W8.heap.size, 0, none⟩ = some (.int .i64 cd) := L_g0.out.cell 0
  have c_g01 : W11.cell? ⟨W8.heap.size, 1, none⟩ = some (.int .i64 l1) := L_g0.out.cell 1
  have c_g02 : W11.cell? ⟨W8.heap.size, 2, none⟩ = some (.int .i64 s1) := L_g0.out.cell 2
  have c_g03 : W11.cell? ⟨W8.heap.size, 3, none⟩ = some (.int .i64 r1) := L_g0.out.cell 3
  have c_g04 : W11.cell? ⟨W8.heap.size, 4, none⟩ = some (.slice A1 n0 c1) := L_g0.out.cell 4
  go_wp2_with fail
  refine (eqNodeResult_same _ _ _ _ _ _ _ _ _ q1 q0 _ E_g.out.entries (J.out.kept JB.out) (VE.out.trans VJ.out.symm) (Nat.le_trans nj (by decide))).mono ?_
  rintro e W12 ⟨rfl, b12⟩
  replace JB := Lib.hid (JB.out.trans (b12.mono JB.out.size))
  replace E_g := Lib.hid (E_g.out.kept b12)
  have sz_W12 := b12.size
  try simp only [World.size_alloc] at sz_W12
  replace L_a := Lib.hid (L_a.out.kept b12 L_a.out.inside)
  replace L_e := Lib.hid (L_e.out.kept b12 L_e.out.inside)
  replace L_w0 := Lib.hid (L_w0.out.kept b12 L_w0.out.inside)
  replace L_x := Lib.hid (L_x.out.kept b12 L_x.out.inside)
  replace L_y := Lib.hid (L_y.out.kept b12 L_y.out.inside)
  replace L_g0 := Lib.hid (L_g0.out.kept b12 L_g0.out.inside)
  replace B := Lib.hid (B.out.trans (b12.mono B.out.size))
  clear b12
  clear c_w00 c_w01 c_w02 c_w03 c_w04
  clear c_g00 c_g01 c_g02 c_g03 c_g04
  clear kpos
  have c_g00 : W12.cell? ⟨W8.heap.size, 0, none⟩ = some (.int .i64 cd) := L_g0.out.cell 0
  have c_g01 : W12.cell? ⟨W8.heap.size, 1, none⟩ = some (.int .i64 l1) := L_g0.out.cell 1
  have c_g02 : W12.cell? ⟨W8.heap.size, 2, none⟩ = some (.int .i64 s1) := L_g0.out.cell 2
  have c_g03 : W12.cell? ⟨W8.heap.size, 3, none⟩ = some (.int .i64 r1) := L_g0.out.cell 3
  have c_g04 : W12.cell? ⟨W8.heap.size, 4, none⟩ = some (.slice A1 n0 c1) := L_g0.out.cell 4
  go_wp2_with fail
  refine (markNodeResult_any 1 _ _ _ _ _ _ _ W8.heap.size _ q1 _ E_g.out hb5.out.1 hb5.out.2 (by decide) (by decide) (by omega)).mono ?_
  rintro e W13 ⟨q2, rfl, eg2, mk2', t13⟩
  have sz_W13 := t13.2.1
  try simp only [World.size_alloc] at sz_W13
  replace L_a := Lib.hid (t13.lies L_a.out (by show ¬ _; omega))
  replace L_e := Lib.hid (t13.lies L_e.out (by show ¬ _; omega))
  replace L_w0 := Lib.hid (t13.lies L_w0.out (by show ¬ _; omega))
  replace L_x := Lib.hid (t13.lies L_x.out (by show ¬ _; omega))
  replace L_y := Lib.hid (t13.lies L_y.out (by show ¬ _; omega))
  replace L_g0 := Lib.hid (t13.lies L_g0.out (by show ¬ _; omega))
  replace B := Lib.hid (t13.below B.out (by intro x hx; show w.heap.size ≤ x; have hx' := hx.1; omega))
  replace JB := Lib.hid (JB.out.trans (t13.1 _ (fun x hx => by have hx' := hx.1; omega) JB.out.size))
  clear c_g00 c_g01 c_g02 c_g03 c_g04
  replace E_g := Lib.hid eg2
  have MK := Lib.hid mk2'
  have hps := (small_sum eg2.small).1
  clear eg2 mk2' t13
  have qpos : ¬ ((1 : Int) + sumK q2 < 0) := by omega
  have qeq : (((1 : Int) + sumK q2) != (1 + sumK q2)) = false := by simp
  have c_g00 : W13.cell? ⟨W8.heap.size, 0, none⟩ = some (.int .i64 cd) := L_g0.out.cell 0
  have c_g01 : W13.cell? ⟨W8.heap.size, 1, none⟩ = some (.int .i64 l1) := L_g0.out.cell 1
  have c_g02 : W13.cell? ⟨W8.heap.size, 2, none⟩ = some (.int .i64 s1) := L_g0.out.cell 2
  have c_g03 : W13.cell? ⟨W8.heap.size, 3, none⟩ = some (.int .i64 r1) := L_g0.out.cell 3
  have c_g04 : W13.cell? ⟨W8.heap.size, 4, none⟩ = some (.slice A1 n0 c1) := L_g0.out.cell 4
  go_wp2_with fail
  refine (heldNodeResult_any 1 _ _ _ _ _ _ _ q2 _ E_g.out.entries MK.out (by decide) (by decide) (by omega) E_g.out.small).mono ?_
  rintro e W14 ⟨rfl, b14⟩
  replace JB := Lib.hid (JB.out.trans (b14.mono JB.out.size))
  replace E_g := Lib.hid (E_g.out.kept b14)
  have sz_W14 := b14.size
  try simp only [World.size_alloc] at sz_W14
  replace L_a := Lib.hid (L_a.out.kept b14 L_a.out.inside)
  replace L_e := Lib.hid (L_e.out.kept b14 L_e.out.inside)
  replace L_w0 := Lib.hid (L_w0.out.kept b14 L_w0.out.inside)
  replace L_x := Lib.hid (L_x.out.kept b14 L_x.out.inside)
  replace L_y := Lib.hid (L_y.out.kept b14 L_y.out.inside)
  replace L_g0 := Lib.hid (L_g0.out.kept b14 L_g0.out.inside)
  replace B := Lib.hid (B.out.trans (b14.mono B.out.size))
  clear b14
  clear c_g00 c_g01 c_g02 c_g03 c_g04
  go_upto_region 31 with fail
  go_cut [17] (fun s17 wx => ∃ (n_h0 : Nat) (A2 : Option Addr) (n2 c2 : Nat) (q3 : List EV), s17 = .pointer (some ⟨n_h0, 0, none⟩) ∧ Hid (Lies wx n_h0 63 #[.int .i64 cd, .int .i64 l1, .int .i64 s1, .int .i64 r1, .slice A2 n2 c2]) ∧ W14.heap.size ≤ n_h0 ∧ Hid (Entries wx A2 n2 q3) ∧ Hid (q3.map EV.val = V) ∧ Hid (Since W14 wx))
  case first =>
    have c_a0 : W14.cell? ⟨w.heap.size, 0, none⟩ = some (.int .i64 lv) := L_a.out.cell 0
    have c_a1 : W14.cell? ⟨w.heap.size, 1, none⟩ = some (.int .i64 ns) := L_a.out.cell 1
    have c_a2 : W14.cell? ⟨w.heap.size, 2, none⟩ = some (.int .i64 rt) := L_a.out.cell 2
    have c_a3 : W14.cell? ⟨w.heap.size, 3, none⟩ = some (.slice A n c) := L_a.out.cell 3
    have c_e0 : W14.cell? ⟨w.heap.size + 1, 0, none⟩ = some (.slice E1 k1 e1) := L_e.out.cell 0
    have c_e1 : W14.cell? ⟨w.heap.size + 1, 1, none⟩ = some (.slice E2 k2 e2) := L_e.out.cell 1
    have i_a := L_a.out.inside
    have l_a := Nat.le_of_lt i_a
    have i_e := L_e.out.inside
    have l_e := Nat.le_of_lt i_e
    have zd := size_of_drew
    go_region_held3 (fun w' => w'.cell? ⟨w.heap.size, 0, none⟩ = some (.int .i64 lv) ∧ w'.cell? ⟨w.heap.size, 1, none⟩ = some (.int .i64 ns) ∧ w'.cell? ⟨w.heap.size, 2, none⟩ = some (.int .i64 rt) ∧ w'.cell? ⟨w.heap.size, 3, none⟩ = some (.slice A n c) ∧ w'.cell? ⟨w.heap.size + 1, 0, none⟩ = some (.slice E1 k1 e1) ∧ w'.cell? ⟨w.heap.size + 1, 1, none⟩ = some (.slice E2 k2 e2))
      (exact ⟨Lies.cell (t := 54) (cs := #[.int .i64 lv, .int .i64 ns, .int .i64 rt, .slice A n c]) (by with_reducible (repeat (first | refine Lies.far ?_ ?_ _ | refine Lies.alloc ?_ _ | refine Lies.drew ?_ | refine Lies.call ?_ b17 | refine Lies.call ?_ b16 | refine Lies.call ?_ b15 | exact L_a.out | exact L_e.out)); all_goals (simp only [size_of_drew, size_of_setCell, World.size_alloc]; omega)) 0, Lies.cell (t := 54) (cs := #[.int .i64 lv, .int .i64 ns, .int .i64 rt, .slice A n c]) (by with_reducible (repeat (first | refine Lies.far ?_ ?_ _ | refine Lies.alloc ?_ _ | refine Lies.drew ?_ | refine Lies.call ?_ b17 | refine Lies.call ?_ b16 | refine Lies.call ?_ b15 | exact L_a.out | exact L_e.out)); all_goals (simp only [size_of_drew, size_of_setCell, World.size_alloc]; omega)) 1, Lies.cell (t := 54) (cs := #[.int .i64 lv, .int .i64 ns, .int .i64 rt, .slice A n c]) (by with_reducible (repeat (first | refine Lies.far ?_ ?_ _ | refine Lies.alloc ?_ _ | refine Lies.drew ?_ | refine Lies.call ?_ b17 | refine Lies.call ?_ b16 | refine Lies.call ?_ b15 | exact L_a.out | exact L_e.out)); all_goals (simp only [size_of_drew, size_of_setCell, World.size_alloc]; omega)) 2, Lies.cell (t := 54) (cs := #[.int .i64 lv, .int .i64 ns, .int .i64 rt, .slice A n c]) (by with_reducible (repeat (first | refine Lies.far ?_ ?_ _ | refine Lies.alloc ?_ _ | refine Lies.drew ?_ | refine Lies.call ?_ b17 | refine Lies.call ?_ b16 | refine Lies.call ?_ b15 | exact L_a.out | exact L_e.out)); all_goals (simp only [size_of_drew, size_of_setCell, World.size_alloc]; omega)) 3, Lies.cell (t := 55) (cs := #[.slice E1 k1 e1, .slice E2 k2 e2]) (by with_reducible (repeat (first | refine Lies.far ?_ ?_ _ | refine Lies.alloc ?_ _ | refine Lies.drew ?_ | refine Lies.call ?_ b17 | refine Lies.call ?_ b16 | refine Lies.call ?_ b15 | exact L_a.out | exact L_e.out)); all_goals (simp only [size_of_drew, size_of_setCell, World.size_alloc]; omega)) 0, Lies.cell (t := 55) (cs := #[.slice E1 k1 e1, .slice E2 k2 e2]) (by with_reducible (repeat (first | refine Lies.far ?_ ?_ _ | refine Lies.alloc ?_ _ | refine Lies.drew ?_ | refine Lies.call ?_ b17 | refine Lies.call ?_ b16 | refine Lies.call ?_ b15 | exact L_a.out | exact L_e.out)); all_goals (simp only [size_of_drew, size_of_setCell, World.size_alloc]; omega)) 1⟩)
      (first
        | (go_at_call 44; refine (toNode_any _ _ _ _ _ _ ps _ (HP.out.kept (by with_reducible (repeat (first | refine Since.below ?_ | refine Since.drew ?_ | refine Since.alloc ?_ _ | exact Since.of B.out)))) (by omega) HS.out).mono ?_
           rintro e W15 ⟨gr, qsr, rfl, hgr, or, lr, vr, b15⟩
           have q_W15 := cells_kept b15
           have u_W15 := frozen_kept b15
           have z_W15 := sizes_kept b15
           try simp only [size_of_drew, World.size_alloc] at z_W15
           have le_W14_W15 : W14.heap.size ≤ W15.heap.size := by omega
           try (have lt_W14_W15 : W14.heap.size < W15.heap.size := by omega))
        | (go_at_call 56; refine (toRect_any _ _ _ _ _ _ _ _ u1 u2 _ (I_1.out.kept (by with_reducible (repeat (first | refine Since.below ?_ | refine Since.drew ?_ | refine Since.alloc ?_ _ | refine Since.call ?_ b15 | exact Since.of B.out)))) (I_2.out.kept (by with_reducible (repeat (first | refine Since.below ?_ | refine Since.drew ?_ | refine Since.alloc ?_ _ | refine Since.call ?_ b15 | exact Since.of B.out)))) (by omega) (by omega)).mono ?_
           rintro e W16 ⟨h1r, h2r, rfl, p1r, p2r, i1r, i2r, b16⟩
           have q_W16 := cells_kept b16
           have u_W16 := frozen_kept b16
           have z_W16 := sizes_kept b16
           try simp only [size_of_drew, World.size_alloc] at z_W16
           have le_W14_W16 : W14.heap.size ≤ W16.heap.size := by omega
           try (have lt_W14_W16 : W14.heap.size < W16.heap.size := by omega)
           have le_W15_W16 : W15.heap.size ≤ W16.heap.size := by omega
           try (have lt_W15_W16 : W15.heap.size < W16.heap.size := by omega))
        | (go_at_call 57; refine (implWidenEntry_is _ _ _ _ _ _ _ _ _ _ _ _ _ _ _ _ qsr (ps.map EV.val) u1 u2 _ (EntriesOwn.entries (by with_reducible (repeat (first | exact or | refine EntriesOwn.drew' ?_ | refine EntriesOwn.alloc' ?_ _ | refine EntriesOwn.call ?_ b16 | refine EntriesOwn.call ?_ b15))) lr) (Own.ints (by with_reducible (repeat (first | exact p1r | refine Own.drew' ?_ | refine Own.alloc ?_ _ | refine Own.call ?_ b16 | refine Own.call ?_ b15))) (Nat.zero_le _)) (Own.ints (by with_reducible (repeat (first | exact p2r | refine Own.drew' ?_ | refine Own.alloc ?_ _ | refine Own.call ?_ b16 | refine Own.call ?_ b15))) (Nat.zero_le _)) hn mk1 mk2 vr HR.out).mono ?_
           rintro e W17 ⟨A2, n2, c2, q3, rfl, ef2, ve2, ne2, b17⟩
           have q_W17 := cells_kept b17
           have u_W17 := frozen_kept b17
           have z_W17 := sizes_kept b17
           try simp only [size_of_drew, World.size_alloc] at z_W17
           have le_W14_W17 : W14.heap.size ≤ W17.heap.size := by omega
           try (have lt_W14_W17 : W14.heap.size < W17.heap.size := by omega)
           have le_W15_W17 : W15.heap.size ≤ W17.heap.size := by omega
           try (have lt_W15_W17 : W15.heap.size < W17.heap.size := by omega)
           have le_W16_W17 : W16.heap.size ≤ W17.heap.size := by omega
           try (have lt_W16_W17 : W16.heap.size < W17.heap.size := by omega)))
    all_goals
      rename_i hH
      clear hH zd q_W15 u_W15 q_W16 u_W16 q_W17 u_W17 c_a0 c_a1 c_a2 c_a3 c_e0 c_e1
      go_wp2_with fail
      go_meet
      refine ⟨_, A2, n2, c2, q3, rfl, ?_, ?_, ?_, ?_, ?_⟩
      · refine Lib.hid ?_
        first
          | (refine Lies.as (cs := (((((#[.int .i64 0, .int .i64 0, .int .i64 0, .int .i64 0, .slice none 0 0].setIfInBounds 0 (.int .i64 cd)).setIfInBounds 1 (.int .i64 l1)).setIfInBounds 2 (.int .i64 s1)).setIfInBounds 3 (.int .i64 r1)).setIfInBounds 4 (.slice A2 n2 c2))) ?_ (by simp)
             with_reducible (repeat (first | refine Lies.set ?_ _ _ | refine Lies.far ?_ ?_ _ | (refine Lies.laid ?_; (simp only [size_of_drew, size_of_setCell, World.size_alloc]; done)) | exact Lies.new _ _ _ | exact Lies.laid2 _ _ _ _ | refine Lies.alloc ?_ _ | refine Lies.drew ?_ | refine Lies.call ?_ b17 | refine Lies.call ?_ b16 | refine Lies.call ?_ b15))
             all_goals first | exact Nat.ne_of_lt (Nat.lt_succ_self _) | exact Nat.ne_of_gt (Nat.lt_succ_self _) | exact Nat.ne_of_lt lt_W14_W15 | exact Nat.ne_of_gt lt_W14_W15 | exact Nat.ne_of_lt lt_W14_W16 | exact Nat.ne_of_gt lt_W14_W16 | exact Nat.ne_of_lt lt_W14_W17 | exact Nat.ne_of_gt lt_W14_W17 | exact Nat.ne_of_lt lt_W15_W16 | exact Nat.ne_of_gt lt_W15_W16 | exact Nat.ne_of_lt lt_W15_W17 | exact Nat.ne_of_gt lt_W15_W17 | exact Nat.ne_of_lt lt_W16_W17 | exact Nat.ne_of_gt lt_W16_W17 | (show ¬ _ = _; (try simp only [size_of_drew, size_of_setCell, World.size_alloc]); omega)
             done)
          | (with_reducible (repeat (first | refine Lies.far ?_ ?_ _ | (refine Lies.laid ?_; (simp only [size_of_drew, size_of_setCell, World.size_alloc]; done)) | exact Lies.new _ _ _ | exact Lies.laid2 _ _ _ _ | refine Lies.alloc ?_ _ | refine Lies.drew ?_ | refine Lies.call ?_ b17 | refine Lies.call ?_ b16 | refine Lies.call ?_ b15))
             all_goals first | exact Nat.ne_of_lt (Nat.lt_succ_self _) | exact Nat.ne_of_gt (Nat.lt_succ_self _) | exact Nat.ne_of_lt lt_W14_W15 | exact Nat.ne_of_gt lt_W14_W15 | exact Nat.ne_of_lt lt_W14_W16 | exact Nat.ne_of_gt lt_W14_W16 | exact Nat.ne_of_lt lt_W14_W17 | exact Nat.ne_of_gt lt_W14_W17 | exact Nat.ne_of_lt lt_W15_W16 | exact Nat.ne_of_gt lt_W15_W16 | exact Nat.ne_of_lt lt_W15_W17 | exact Nat.ne_of_gt lt_W15_W17 | exact Nat.ne_of_lt lt_W16_W17 | exact Nat.ne_of_gt lt_W16_W17 | (show ¬ _ = _; (try simp only [size_of_drew, size_of_setCell, World.size_alloc]); omega)
             done)
      · first | exact Nat.le_refl _ | exact Nat.le_succ _ | exact le_W14_W15 | exact Nat.le_succ_of_le le_W14_W15 | exact le_W14_W16 | exact Nat.le_succ_of_le le_W14_W16 | exact le_W14_W17 | exact Nat.le_succ_of_le le_W14_W17 | omega
      · refine Lib.hid ?_
        refine EntF.E (lo := ?_) (hi := W17.heap.size) ?_
        rotate_left
        with_reducible (repeat (first | refine EntF.far ?_ ?_ _ | refine EntF.alloc ?_ _ | refine EntF.drew ?_))
        · exact ef2.fresh
        all_goals ((try dsimp only); (try simp only [size_of_drew, size_of_setCell, World.size_alloc]); omega)
      · exact Lib.hid ve2
      · refine Lib.hid ?_
        with_reducible (repeat (first | refine Since.setCell ?_ ?_ _ | refine Since.alloc ?_ _ | refine Since.drew ?_ | refine Since.call ?_ b17 | refine Since.call ?_ b16 | refine Since.call ?_ b15))
        · exact Since.of (Below.refl _ _)
        all_goals first | exact Nat.le_refl _ | exact Nat.le_succ _ | exact le_W14_W15 | exact Nat.le_succ_of_le le_W14_W15 | exact le_W14_W16 | exact Nat.le_succ_of_le le_W14_W16 | exact le_W14_W17 | exact Nat.le_succ_of_le le_W14_W17 | (show _ ≤ _; (try simp only [size_of_drew, size_of_setCell, World.size_alloc]); omega)
  case' rest =>
    obtain ⟨n_h0, A2, n2, c2, q3, rfl, L_h0, g_h0, J2, VE2, S⟩ := hcut
    have bS := S.out.below
    clear S
  have d_h0_a : ¬ n_h0 = w.heap.size := by have := L_a.out.inside; omega
  have e_h0_a : ¬ w.heap.size = n_h0 := fun e => d_h0_a e.symm
  have d_h0_e : ¬ n_h0 = w.heap.size + 1 := by have := L_e.out.inside; omega
  have e_h0_e : ¬ w.heap.size + 1 = n_h0 := fun e => d_h0_e e.symm
  have d_h0_w0 : ¬ n_h0 = n_w0 := by have := L_w0.out.inside; omega
  have e_h0_w0 : ¬ n_w0 = n_h0 := fun e => d_h0_w0 e.symm
  have d_h0_x : ¬ n_h0 = W6.heap.size := by have := L_x.out.inside; omega
  have e_h0_x : ¬ W6.heap.size = n_h0 := fun e => d_h0_x e.symm
  have d_h0_y : ¬ n_h0 = W7.heap.size := by have := L_y.out.inside; omega
  have e_h0_y : ¬ W7.heap.size = n_h0 := fun e => d_h0_y e.symm
  have d_h0_g0 : ¬ n_h0 = W8.heap.size := by have := L_g0.out.inside; omega
  have e_h0_g0 : ¬ W8.heap.size = n_h0 := fun e => d_h0_g0 e.symm
  skip
  replace JB := Lib.hid (JB.out.trans (bS.mono JB.out.size))
  replace E_g := Lib.hid (E_g.out.kept bS)
  have sz_wc := bS.size
  try simp only [World.size_alloc] at sz_wc
  replace L_a := Lib.hid (L_a.out.kept bS L_a.out.inside)
  replace L_e := Lib.hid (L_e.out.kept bS L_e.out.inside)
  replace L_w0 := Lib.hid (L_w0.out.kept bS L_w0.out.inside)
  replace L_x := Lib.hid (L_x.out.kept bS L_x.out.inside)
  replace L_y := Lib.hid (L_y.out.kept bS L_y.out.inside)
  replace L_g0 := Lib.hid (L_g0.out.kept bS L_g0.out.inside)
  replace B := Lib.hid (B.out.trans (bS.mono B.out.size))
  clear bS
  obtain rfl : n0 = n2 := by have h1 := J.out.1; have h2 := J2.out.1; have h3 := congrArg List.length (VJ.out.trans VE2.out.symm); simp only [List.length_map] at h3; omega
  have c_h00 : wc.cell? ⟨n_h0, 0, none⟩ = some (.int .i64 cd) := L_h0.out.cell 0
  have c_h01 : wc.cell? ⟨n_h0, 1, none⟩ = some (.int .i64 l1) := L_h0.out.cell 1
  have c_h02 : wc.cell? ⟨n_h0, 2, none⟩ = some (.int .i64 s1) := L_h0.out.cell 2
  have c_h03 : wc.cell? ⟨n_h0, 3, none⟩ = some (.int .i64 r1) := L_h0.out.cell 3
  have c_h04 : wc.cell? ⟨n_h0, 4, none⟩ = some (.slice A2 n0 c2) := L_h0.out.cell 4
  have c_w00 : wc.cell? ⟨n_w0, 0, none⟩ = some (.int .i64 cd) := L_w0.out.cell 0
  have c_w01 : wc.cell? ⟨n_w0, 1, none⟩ = some (.int .i64 l1) := L_w0.out.cell 1
  have c_w02 : wc.cell? ⟨n_w0, 2, none⟩ = some (.int .i64 s1) := L_w0.out.cell 2
  have c_w03 : wc.cell? ⟨n_w0, 3, none⟩ = some (.int .i64 r1) := L_w0.out.cell 3
  have c_w04 : wc.cell? ⟨n_w0, 4, none⟩ = some (.slice A0 n0 c0) := L_w0.out.cell 4
  go_wp2_with fail
  refine (eqNodeResult_same _ _ _ _ _ _ _ _ _ q3 q0 _ J2.out (J.out.kept JB.out) (VE2.out.trans VJ.out.symm) (Nat.le_trans nj (by decide))).mono ?_
  rintro e W18 ⟨rfl, b18⟩
  replace JB := Lib.hid (JB.out.trans (b18.mono JB.out.size))
  replace E_g := Lib.hid (E_g.out.kept b18)
  have sz_W18 := b18.size
  try simp only [World.size_alloc] at sz_W18
  replace L_a := Lib.hid (L_a.out.kept b18 L_a.out.inside)
  replace L_e := Lib.hid (L_e.out.kept b18 L_e.out.inside)
  replace L_w0 := Lib.hid (L_w0.out.kept b18 L_w0.out.inside)
  replace L_x := Lib.hid (L_x.out.kept b18 L_x.out.inside)
  replace L_y := Lib.hid (L_y.out.kept b18 L_y.out.inside)
  replace L_g0 := Lib.hid (L_g0.out.kept b18 L_g0.out.inside)
  replace L_h0 := Lib.hid (L_h0.out.kept b18 L_h0.out.inside)
  replace B := Lib.hid (B.out.trans (b18.mono B.out.size))
  clear b18
  clear c_h00 c_h01 c_h02 c_h03 c_h04
  clear c_w00 c_w01 c_w02 c_w03 c_w04
  have c_g00 : W18.cell? ⟨W8.heap.size, 0, none⟩ = some (.int .i64 cd) := L_g0.out.cell 0
  have c_g01 : W18.cell? ⟨W8.heap.size, 1, none⟩ = some (.int .i64 l1) := L_g0.out.cell 1
  have c_g02 : W18.cell? ⟨W8.heap.size, 2, none⟩ = some (.int .i64 s1) := L_g0.out.cell 2
  have c_g03 : W18.cell? ⟨W8.heap.size, 3, none⟩ = some (.int .i64 r1) := L_g0.out.cell 3
  have c_g04 : W18.cell? ⟨W8.heap.size, 4, none⟩ = some (.slice A1 n0 c1) := L_g0.out.cell 4
  go_wp2_with fail
  refine (heldNodeResult_any 1 _ _ _ _ _ _ _ q2 _ E_g.out.entries MK.out (by decide) (by decide) (by omega) E_g.out.small).mono ?_
  rintro e W19 ⟨rfl, b19⟩
  replace JB := Lib.hid (JB.out.trans (b19.mono JB.out.size))
  replace E_g := Lib.hid (E_g.out.kept b19)
  have sz_W19 := b19.size
  try simp only [World.size_alloc] at sz_W19
  replace L_a := Lib.hid (L_a.out.kept b19 L_a.out.inside)
  replace L_e := Lib.hid (L_e.out.kept b19 L_e.out.inside)
  replace L_w0 := Lib.hid (L_w0.out.kept b19 L_w0.out.inside)
  replace L_x := Lib.hid (L_x.out.kept b19 L_x.out.inside)
  replace L_y := Lib.hid (L_y.out.kept b19 L_y.out.inside)
  replace L_g0 := Lib.hid (L_g0.out.kept b19 L_g0.out.inside)
  replace L_h0 := Lib.hid (L_h0.out.kept b19 L_h0.out.inside)
  replace B := Lib.hid (B.out.trans (b19.mono B.out.size))
  clear b19
  clear c_g00 c_g01 c_g02 c_g03 c_g04
  go_wp2
  go_ret
  exact ⟨rfl, B.out⟩

end Go.Proofs.Ytfpmbkfikfdmkaa
