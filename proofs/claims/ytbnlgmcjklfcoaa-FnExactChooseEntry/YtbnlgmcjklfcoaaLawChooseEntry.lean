/- FnExactChooseEntry: for every list of entries, every number of dimensions and every box impl.ChooseEntry answers as the model does and leaves its arguments alone. No condition. -/
import Derived.Test.YtbnlgmcjklfcoaaImplChooseEntry
import Derived.Test.YtbnlgmcjklfcoaaSpecChooseEntry
import Derived.Test.YtbnlgmcjklfcoaaOwnHelp
namespace Go.Proofs.Ytbnlgmcjklfcoaa
open Go.RowKit

theorem specChooseEntry_is (cd vl d : Int) (n c n3 c3 n4 c4 : Nat) (A A3 A4 : Option Addr) (ps : List EV) (vs : List EVal) (y1 y2 : List Int) (w : World) (hp : Entries w A n ps) (hn : n ≤ maxLen) (h3 : Ints w 0 A3 n3 y1) (h4 : Ints w 0 A4 n4 y2) (m3 : n3 ≤ maxLen) (m4 : n4 ≤ maxLen) (hv : ps.map EV.val = vs) (hR : chooseF vs y1 y2 d = (cd, vl)) :
    Calls Try.prog 21 #[.slice A n c, .int .i64 d, .agg #[.slice A3 n3 c3, .slice A4 n4 c4]] w fun e w' => e = .returned (.agg #[.int .i64 cd, .int .i64 vl]) ∧ Below w.heap.size w w' := by
  subst hv
  refine (specChooseEntry_any d n c n3 c3 n4 c4 A A3 A4 ps y1 y2 w hp hn h3 h4 m3 m4).mono ?_
  rintro e w' ⟨rfl, b⟩
  exact ⟨by rw [hR], b⟩
theorem implChooseEntry_is (cd vl d : Int) (n c n3 c3 n4 c4 : Nat) (A A3 A4 : Option Addr) (ps : List EV) (vs : List EVal) (y1 y2 : List Int) (w : World) (hp : Entries w A n ps) (hn : n ≤ maxLen) (h3 : Ints w 0 A3 n3 y1) (h4 : Ints w 0 A4 n4 y2) (m3 : n3 ≤ maxLen) (m4 : n4 ≤ maxLen) (hv : ps.map EV.val = vs) (hR : chooseF vs y1 y2 d = (cd, vl)) :
    Calls Try.prog 23 #[.slice A n c, .int .i64 d, .agg #[.slice A3 n3 c3, .slice A4 n4 c4]] w fun e w' => e = .returned (.agg #[.int .i64 cd, .int .i64 vl]) ∧ Below w.heap.size w w' := by
  subst hv
  refine (implChooseEntry_any d n c n3 c3 n4 c4 A A3 A4 ps y1 y2 w hp hn h3 h4 m3 m4).mono ?_
  rintro e w' ⟨rfl, b⟩
  exact ⟨by rw [hR], b⟩

set_option maxRecDepth 100000 in
set_option maxHeartbeats 12800000 in
theorem lawChooseEntry_walk (n c : Nat) (A : Option Addr) (ps : List EV) (d : Int) (n3 c3 n4 c4 : Nat) (A3 A4 : Option Addr) (y1 y2 : List Int) (w : World) (hp : Entries w A n ps) (hn : n ≤ maxLen) (h3 : Ints w 0 A3 n3 y1) (h4 : Ints w 0 A4 n4 y2) (m3 : n3 ≤ maxLen) (m4 : n4 ≤ maxLen) :
    Calls Try.prog 4 #[.slice A n c, .int .i64 d, .agg #[.slice A3 n3 c3, .slice A4 n4 c4]] w fun e w' => e = .returned (.bool true) ∧ Below w.heap.size w w' := by
  have HP := Lib.hid hp
  have I3 := Lib.hid h3
  have I4 := Lib.hid h4
  clear hp h3 h4
  obtain ⟨⟨cd, vl⟩, hR⟩ : ∃ q, chooseF (ps.map EV.val) y1 y2 d = q := ⟨_, rfl⟩
  have HR := Lib.hid hR
  clear hR
  have B := Lib.hid (below_alloc w (.cells #[.slice A3 n3 c3, .slice A4 n4 c4] 31))
  have L_a := Lib.hid (Lies.new w 31 #[.slice A3 n3 c3, .slice A4 n4 c4])
  go_enter Try.func4, Try.ntmps4
  go_wp2_with fail
  refine (szEntryS_any 1048576 _ _ _ ps _ (HP.out.kept B.out) hn (by decide) (by decide)).mono ?_
  rintro e W1 ⟨r, rfl, hr, b1⟩
  replace L_a := Lib.hid (L_a.out.kept b1 L_a.out.inside)
  replace B := Lib.hid (B.out.trans (b1.mono B.out.size))
  clear b1
  rcases hr with rfl | ⟨r0, r1, hn1, hs⟩
  · go_wp2
    go_ret
    exact ⟨rfl, B.out⟩
  have HS := Lib.hid (SmallE.two (l := 1048576) hs (by decide))
  clear hs
  have hr0 : ¬ r < 0 := by omega
  have a0 : W1.cell? ⟨w.heap.size, 0, none⟩ = some (.slice A3 n3 c3) := L_a.out.cell 0
  have a1 : W1.cell? ⟨w.heap.size, 1, none⟩ = some (.slice A4 n4 c4) := L_a.out.cell 1
  by_cases z : r < n3 + n4
  · go_wp2_with fail
    refine (szRect_no _ _ _ _ _ _ _ _ r0 r1 m3 m4 z).mono ?_
    rintro e W2 ⟨rfl, b2⟩
    replace B := Lib.hid (B.out.trans (b2.mono B.out.size))
    clear b2
    go_wp2
    go_ret
    exact ⟨rfl, B.out⟩
  go_wp2_with fail
  refine (szRect_yes _ _ _ _ _ _ _ _ r1 m3 m4 (by omega)).mono ?_
  rintro e W2 ⟨rfl, b2⟩
  replace L_a := Lib.hid (L_a.out.kept b2 L_a.out.inside)
  replace B := Lib.hid (B.out.trans (b2.mono B.out.size))
  clear b2 a0 a1
  have hr2 : ¬ r - n3 - n4 < 0 := by omega
  have mn : n ≤ 1048576 := by omega
  have mm3 : n3 ≤ 1048576 := by omega
  have mm4 : n4 ≤ 1048576 := by omega
  have szB := B.out.size
  go_upto_region 8 with fail
  go_cut [8] (fun s8 wx => ∃ n_w : Nat, s8 = .pointer (some ⟨n_w, 0, none⟩) ∧ Hid (Lies wx n_w 34 #[.int .i64 cd, .int .i64 vl]) ∧ W2.heap.size ≤ n_w ∧ Hid (Since W2 wx))
  case first =>
    have c_a0 : W2.cell? ⟨w.heap.size, 0, none⟩ = some (.slice A3 n3 c3) := L_a.out.cell 0
    have c_a1 : W2.cell? ⟨w.heap.size, 1, none⟩ = some (.slice A4 n4 c4) := L_a.out.cell 1
    have i_a := L_a.out.inside
    have zd := size_of_drew
    go_region_held3 (fun w' => w'.cell? ⟨w.heap.size, 0, none⟩ = some (.slice A3 n3 c3) ∧ w'.cell? ⟨w.heap.size, 1, none⟩ = some (.slice A4 n4 c4))
      (exact ⟨Lies.cell (t := 31) (cs := #[.slice A3 n3 c3, .slice A4 n4 c4]) (by with_reducible (repeat (first | refine Lies.far ?_ ?_ _ | refine Lies.alloc ?_ _ | refine Lies.drew ?_ | refine Lies.call ?_ b5 | refine Lies.call ?_ b4 | refine Lies.call ?_ b3 | exact L_a.out)); all_goals (simp only [size_of_drew, size_of_setCell, World.size_alloc]; omega)) 0, Lies.cell (t := 31) (cs := #[.slice A3 n3 c3, .slice A4 n4 c4]) (by with_reducible (repeat (first | refine Lies.far ?_ ?_ _ | refine Lies.alloc ?_ _ | refine Lies.drew ?_ | refine Lies.call ?_ b5 | refine Lies.call ?_ b4 | refine Lies.call ?_ b3 | exact L_a.out)); all_goals (simp only [size_of_drew, size_of_setCell, World.size_alloc]; omega)) 1⟩)
      (first
        | (go_at_call 17; refine (toEntryS_any _ _ _ ps _ (HP.out.kept (by with_reducible (repeat (first | refine Since.below ?_ | refine Since.drew ?_ | refine Since.alloc ?_ _ | exact Since.of B.out)))) mn HS.out).mono ?_
           rintro e W3 ⟨gs, qss, rfl, hgs, os, ls, vs, b3⟩
           have q_W3 := cells_kept b3
           have u_W3 := frozen_kept b3
           have z_W3 := sizes_kept b3
           try simp only [size_of_drew, World.size_alloc] at z_W3
           have le_W2_W3 : W2.heap.size ≤ W3.heap.size := by omega
           try (have lt_W2_W3 : W2.heap.size < W3.heap.size := by omega))
        | (go_at_call 22; refine (toRect_any _ _ _ _ _ _ _ _ y1 y2 _ (I3.out.kept (by with_reducible (repeat (first | refine Since.below ?_ | refine Since.drew ?_ | refine Since.alloc ?_ _ | refine Since.call ?_ b3 | exact Since.of B.out)))) (I4.out.kept (by with_reducible (repeat (first | refine Since.below ?_ | refine Since.drew ?_ | refine Since.alloc ?_ _ | refine Since.call ?_ b3 | exact Since.of B.out)))) mm3 mm4).mono ?_
           rintro e W4 ⟨h1s, h2s, rfl, p1s, p2s, i1s, i2s, b4⟩
           have q_W4 := cells_kept b4
           have u_W4 := frozen_kept b4
           have z_W4 := sizes_kept b4
           try simp only [size_of_drew, World.size_alloc] at z_W4
           have le_W2_W4 : W2.heap.size ≤ W4.heap.size := by omega
           try (have lt_W2_W4 : W2.heap.size < W4.heap.size := by omega)
           have le_W3_W4 : W3.heap.size ≤ W4.heap.size := by omega
           try (have lt_W3_W4 : W3.heap.size < W4.heap.size := by omega))
        | (go_at_call 21; refine (specChooseEntry_is cd vl _ _ _ _ _ _ _ _ _ _ qss (ps.map EV.val) y1 y2 _ (EntriesOwn.entries (by with_reducible (repeat (first | exact os | refine EntriesOwn.drewO ?_ | refine EntriesOwn.allocO ?_ _ | refine EntriesOwn.callO ?_ b4 | refine EntriesOwn.callO ?_ b3))) ls) hn (Own.ints (by with_reducible (repeat (first | exact p1s | refine Own.drew' ?_ | refine Own.alloc ?_ _ | refine Own.call ?_ b4 | refine Own.call ?_ b3))) (Nat.zero_le _)) (Own.ints (by with_reducible (repeat (first | exact p2s | refine Own.drew' ?_ | refine Own.alloc ?_ _ | refine Own.call ?_ b4 | refine Own.call ?_ b3))) (Nat.zero_le _)) m3 m4 vs HR.out).mono ?_
           rintro e W5 ⟨rfl, b5⟩
           have q_W5 := cells_kept b5
           have u_W5 := frozen_kept b5
           have z_W5 := sizes_kept b5
           try simp only [size_of_drew, World.size_alloc] at z_W5
           have le_W2_W5 : W2.heap.size ≤ W5.heap.size := by omega
           try (have lt_W2_W5 : W2.heap.size < W5.heap.size := by omega)
           have le_W3_W5 : W3.heap.size ≤ W5.heap.size := by omega
           try (have lt_W3_W5 : W3.heap.size < W5.heap.size := by omega)
           have le_W4_W5 : W4.heap.size ≤ W5.heap.size := by omega
           try (have lt_W4_W5 : W4.heap.size < W5.heap.size := by omega)))
    all_goals
      rename_i hH
      clear hH zd q_W3 u_W3 q_W4 u_W4 q_W5 u_W5 c_a0 c_a1
      go_wp2_with fail
      go_meet
      refine ⟨_, rfl, ?_, ?_, ?_⟩
      · refine Lib.hid ?_
        first
          | (refine Lies.as (cs := ((#[.int .i64 0, .int .i64 0].setIfInBounds 0 (.int .i64 cd)).setIfInBounds 1 (.int .i64 vl))) ?_ (by simp)
             with_reducible (repeat (first | refine Lies.set ?_ _ _ | refine Lies.far ?_ ?_ _ | (refine Lies.laid ?_; (simp only [size_of_drew, size_of_setCell, World.size_alloc]; done)) | exact Lies.new _ _ _ | exact Lies.laid2 _ _ _ _ | refine Lies.alloc ?_ _ | refine Lies.drew ?_ | refine Lies.call ?_ b5 | refine Lies.call ?_ b4 | refine Lies.call ?_ b3))
             all_goals first | exact Nat.ne_of_lt (Nat.lt_succ_self _) | exact Nat.ne_of_gt (Nat.lt_succ_self _) | exact Nat.ne_of_lt lt_W2_W3 | exact Nat.ne_of_gt lt_W2_W3 | exact Nat.ne_of_lt lt_W2_W4 | exact Nat.ne_of_gt lt_W2_W4 | exact Nat.ne_of_lt lt_W2_W5 | exact Nat.ne_of_gt lt_W2_W5 | exact Nat.ne_of_lt lt_W3_W4 | exact Nat.ne_of_gt lt_W3_W4 | exact Nat.ne_of_lt lt_W3_W5 | exact Nat.ne_of_gt lt_W3_W5 | exact Nat.ne_of_lt lt_W4_W5 | exact Nat.ne_of_gt lt_W4_W5 | (show ¬ _ = _; (try simp only [size_of_drew, size_of_setCell, World.size_alloc]); omega)
             done)
          | (with_reducible (repeat (first | refine Lies.far ?_ ?_ _ | (refine Lies.laid ?_; (simp only [size_of_drew, size_of_setCell, World.size_alloc]; done)) | exact Lies.new _ _ _ | exact Lies.laid2 _ _ _ _ | refine Lies.alloc ?_ _ | refine Lies.drew ?_ | refine Lies.call ?_ b5 | refine Lies.call ?_ b4 | refine Lies.call ?_ b3))
             all_goals first | exact Nat.ne_of_lt (Nat.lt_succ_self _) | exact Nat.ne_of_gt (Nat.lt_succ_self _) | exact Nat.ne_of_lt lt_W2_W3 | exact Nat.ne_of_gt lt_W2_W3 | exact Nat.ne_of_lt lt_W2_W4 | exact Nat.ne_of_gt lt_W2_W4 | exact Nat.ne_of_lt lt_W2_W5 | exact Nat.ne_of_gt lt_W2_W5 | exact Nat.ne_of_lt lt_W3_W4 | exact Nat.ne_of_gt lt_W3_W4 | exact Nat.ne_of_lt lt_W3_W5 | exact Nat.ne_of_gt lt_W3_W5 | exact Nat.ne_of_lt lt_W4_W5 | exact Nat.ne_of_gt lt_W4_W5 | (show ¬ _ = _; (try simp only [size_of_drew, size_of_setCell, World.size_alloc]); omega)
             done)
      · first | exact Nat.le_refl _ | exact Nat.le_succ _ | exact le_W2_W3 | exact Nat.le_succ_of_le le_W2_W3 | exact le_W2_W4 | exact Nat.le_succ_of_le le_W2_W4 | exact le_W2_W5 | exact Nat.le_succ_of_le le_W2_W5 | omega
      · refine Lib.hid ?_
        with_reducible (repeat (first | refine Since.setCell ?_ ?_ _ | refine Since.alloc ?_ _ | refine Since.drew ?_ | refine Since.call ?_ b5 | refine Since.call ?_ b4 | refine Since.call ?_ b3))
        · exact Since.of (Below.refl _ _)
        all_goals first | exact Nat.le_refl _ | exact Nat.le_succ _ | exact le_W2_W3 | exact Nat.le_succ_of_le le_W2_W3 | exact le_W2_W4 | exact Nat.le_succ_of_le le_W2_W4 | exact le_W2_W5 | exact Nat.le_succ_of_le le_W2_W5 | (show _ ≤ _; (try simp only [size_of_drew, size_of_setCell, World.size_alloc]); omega)
  case' rest =>
    obtain ⟨n_w, rfl, L_w, g_w, S⟩ := hcut
    have bS := S.out.below
    clear S
  replace L_a := Lib.hid (L_a.out.kept bS L_a.out.inside)
  replace B := Lib.hid (B.out.trans (bS.mono B.out.size))
  clear bS g_w
  go_wp2_with fail
  refine (toEntryS_any _ _ _ ps _ (HP.out.kept B.out) mn HS.out).mono ?_
  rintro e W6 ⟨gt, qst, rfl, hgt, ot, lt, vt, b6⟩
  replace L_a := Lib.hid (L_a.out.kept b6 L_a.out.inside)
  replace L_w := Lib.hid (L_w.out.kept b6 L_w.out.inside)
  replace B := Lib.hid (B.out.trans (b6.mono B.out.size))
  have O_t := Lib.hid ot
  have K_t := Lib.hid lt
  have V_t := Lib.hid vt
  clear b6 ot lt vt hgt
  have a0 : W6.cell? ⟨w.heap.size, 0, none⟩ = some (.slice A3 n3 c3) := L_a.out.cell 0
  have a1 : W6.cell? ⟨w.heap.size, 1, none⟩ = some (.slice A4 n4 c4) := L_a.out.cell 1
  go_wp2_with fail
  refine (toRect_any _ _ _ _ _ _ _ _ y1 y2 _ (I3.out.kept B.out) (I4.out.kept B.out) mm3 mm4).mono ?_
  rintro e W7 ⟨g1, g2, rfl, o1, o2, l1, l2, b7⟩
  replace L_a := Lib.hid ((L_a.out.kept b7 L_a.out.inside).alloc (.cells #[.slice (some ⟨g1, 0, none⟩) n3 n3, .slice (some ⟨g2, 0, none⟩) n4 n4] 36))
  replace L_w := Lib.hid ((L_w.out.kept b7 L_w.out.inside).alloc (.cells #[.slice (some ⟨g1, 0, none⟩) n3 n3, .slice (some ⟨g2, 0, none⟩) n4 n4] 36))
  replace O_t := Lib.hid ((O_t.out.kept b7).kept (below_alloc _ (.cells #[.slice (some ⟨g1, 0, none⟩) n3 n3, .slice (some ⟨g2, 0, none⟩) n4 n4] 36)))
  have O_1 := Lib.hid (o1.alloc (.cells #[.slice (some ⟨g1, 0, none⟩) n3 n3, .slice (some ⟨g2, 0, none⟩) n4 n4] 36))
  have O_2 := Lib.hid (o2.alloc (.cells #[.slice (some ⟨g1, 0, none⟩) n3 n3, .slice (some ⟨g2, 0, none⟩) n4 n4] 36))
  have L_x := Lib.hid (Lies.new W7 36 #[.slice (some ⟨g1, 0, none⟩) n3 n3, .slice (some ⟨g2, 0, none⟩) n4 n4])
  replace B := Lib.hid (B.out.trans (b7.mono B.out.size))
  replace B := Lib.hid (B.out.alloc B.out.size (.cells #[.slice (some ⟨g1, 0, none⟩) n3 n3, .slice (some ⟨g2, 0, none⟩) n4 n4] 36))
  clear b7 o1 o2 l1 l2 a0 a1
  go_wp2_with fail
  refine (implChooseEntry_is cd vl _ _ _ _ _ _ _ _ _ _ qst (ps.map EV.val) y1 y2 _ (O_t.out.entries K_t.out) hn (O_1.out.ints (Nat.zero_le _)) (O_2.out.ints (Nat.zero_le _)) m3 m4 V_t.out HR.out).mono ?_
  rintro e W8 ⟨rfl, b8⟩
  replace L_a := Lib.hid ((L_a.out.kept b8 L_a.out.inside).alloc (.cells #[.int .i64 cd, .int .i64 vl] 34))
  replace L_x := Lib.hid ((L_x.out.kept b8 L_x.out.inside).alloc (.cells #[.int .i64 cd, .int .i64 vl] 34))
  replace L_w := Lib.hid ((L_w.out.kept b8 L_w.out.inside).alloc (.cells #[.int .i64 cd, .int .i64 vl] 34))
  replace O_t := Lib.hid ((O_t.out.kept b8).kept (below_alloc _ (.cells #[.int .i64 cd, .int .i64 vl] 34)))
  replace O_1 := Lib.hid ((O_1.out.kept b8).alloc (.cells #[.int .i64 cd, .int .i64 vl] 34))
  replace O_2 := Lib.hid ((O_2.out.kept b8).alloc (.cells #[.int .i64 cd, .int .i64 vl] 34))
  have L_g := Lib.hid (Lies.new W8 34 #[.int .i64 cd, .int .i64 vl])
  replace B := Lib.hid (B.out.trans (b8.mono B.out.size))
  replace B := Lib.hid (B.out.alloc B.out.size (.cells #[.int .i64 cd, .int .i64 vl] 34))
  clear b8
  have w0 : (W8.alloc (.cells #[.int .i64 cd, .int .i64 vl] 34)).cell? ⟨n_w, 0, none⟩ = some (.int .i64 cd) := L_w.out.cell 0
  have w1 : (W8.alloc (.cells #[.int .i64 cd, .int .i64 vl] 34)).cell? ⟨n_w, 1, none⟩ = some (.int .i64 vl) := L_w.out.cell 1
  go_wp2_with fail
  refine (eqIntResult_same _ _ _).mono ?_
  rintro e W9 ⟨rfl, b9⟩
  replace L_a := Lib.hid (L_a.out.kept b9 L_a.out.inside)
  replace L_x := Lib.hid (L_x.out.kept b9 L_x.out.inside)
  replace O_t := Lib.hid (O_t.out.kept b9)
  replace O_1 := Lib.hid (O_1.out.kept b9)
  replace O_2 := Lib.hid (O_2.out.kept b9)
  replace B := Lib.hid (B.out.trans (b9.mono B.out.size))
  clear b9 w0 w1 L_w L_g
  go_wp2_with fail
  refine (toEntryS_any _ _ _ ps _ (HP.out.kept B.out) mn HS.out).mono ?_
  rintro e W10 ⟨gz, qsz, rfl, hgz, oz, lz, vz, b10⟩
  replace L_a := Lib.hid (L_a.out.kept b10 L_a.out.inside)
  replace L_x := Lib.hid (L_x.out.kept b10 L_x.out.inside)
  replace O_t := Lib.hid (O_t.out.kept b10)
  replace O_1 := Lib.hid (O_1.out.kept b10)
  replace O_2 := Lib.hid (O_2.out.kept b10)
  replace B := Lib.hid (B.out.trans (b10.mono B.out.size))
  clear b10 hgz
  have O_z := Lib.hid oz
  have K_z := Lib.hid lz
  have V_z := Lib.hid (V_t.out.trans vz.symm)
  clear oz lz vz
  go_wp2_with fail
  refine (eqEntryS_same _ _ _ _ _ qst qsz _ (O_t.out.entries K_t.out) (O_z.out.entries K_z.out) V_z.out hn).mono ?_
  rintro e W11 ⟨rfl, b11⟩
  replace L_a := Lib.hid (L_a.out.kept b11 L_a.out.inside)
  replace L_x := Lib.hid (L_x.out.kept b11 L_x.out.inside)
  replace O_1 := Lib.hid (O_1.out.kept b11)
  replace O_2 := Lib.hid (O_2.out.kept b11)
  replace B := Lib.hid (B.out.trans (b11.mono B.out.size))
  clear b11 O_z K_z V_z O_t K_t V_t
  go_wp2
  have k_0 : W11.cell? ⟨W7.heap.size, 0, none⟩ = some (.slice (some ⟨g1, 0, none⟩) n3 n3) ∧ W11.cell? ⟨W7.heap.size, 1, none⟩ = some (.slice (some ⟨g2, 0, none⟩) n4 n4) ∧ W11.cell? ⟨w.heap.size, 0, none⟩ = some (.slice A3 n3 c3) ∧ W11.cell? ⟨w.heap.size, 1, none⟩ = some (.slice A4 n4 c4) := ⟨L_x.out.cell 0, L_x.out.cell 1, L_a.out.cell 0, L_a.out.cell 1⟩
  go_region_held3 (fun w' => w'.cell? ⟨W7.heap.size, 0, none⟩ = some (.slice (some ⟨g1, 0, none⟩) n3 n3) ∧ w'.cell? ⟨W7.heap.size, 1, none⟩ = some (.slice (some ⟨g2, 0, none⟩) n4 n4) ∧ w'.cell? ⟨w.heap.size, 0, none⟩ = some (.slice A3 n3 c3) ∧ w'.cell? ⟨w.heap.size, 1, none⟩ = some (.slice A4 n4 c4))
    (first | (simp [go_sem, k_0]; done) | with_reducible exact k_1 | with_reducible exact k_2 | (simp [go_sem, k_1]; done) | (simp [go_sem, k_2]; done))
    (first
      | (go_at_call 22; refine (toRect_any _ _ _ _ _ _ _ _ y1 y2 _ (I3.out.kept B.out.drew) (I4.out.kept B.out.drew) mm3 mm4).mono ?_
         rintro e Wx ⟨g5, g6, rfl, o5, o6, l5, l6, bxd⟩
         have bx := below_drawn bxd
         have k_1 : Wx.cell? ⟨W7.heap.size, 0, none⟩ = some (.slice (some ⟨g1, 0, none⟩) n3 n3) ∧ Wx.cell? ⟨W7.heap.size, 1, none⟩ = some (.slice (some ⟨g2, 0, none⟩) n4 n4) ∧ Wx.cell? ⟨w.heap.size, 0, none⟩ = some (.slice A3 n3 c3) ∧ Wx.cell? ⟨w.heap.size, 1, none⟩ = some (.slice A4 n4 c4) := ⟨(L_x.out.kept bx L_x.out.inside).cell 0, (L_x.out.kept bx L_x.out.inside).cell 1, (L_a.out.kept bx L_a.out.inside).cell 0, (L_a.out.kept bx L_a.out.inside).cell 1⟩
         clear bxd)
      | (go_at_call 25; refine (eqRect_is true _ _ _ _ _ _ _ _ _ _ _ _ _ _ _ _ y1 y2 y1 y2 _ (by simp) ((O_1.out.kept bx).ints (Nat.zero_le _)) ((O_2.out.kept bx).ints (Nat.zero_le _)) (o5.ints (Nat.zero_le _)) (o6.ints (Nat.zero_le _)) m3 m4).mono ?_
         rintro e Wy ⟨rfl, by1⟩
         have k_2 : Wy.cell? ⟨W7.heap.size, 0, none⟩ = some (.slice (some ⟨g1, 0, none⟩) n3 n3) ∧ Wy.cell? ⟨W7.heap.size, 1, none⟩ = some (.slice (some ⟨g2, 0, none⟩) n4 n4) ∧ Wy.cell? ⟨w.heap.size, 0, none⟩ = some (.slice A3 n3 c3) ∧ Wy.cell? ⟨w.heap.size, 1, none⟩ = some (.slice A4 n4 c4) := ⟨((L_x.out.kept bx L_x.out.inside).kept by1 (L_x.out.kept bx L_x.out.inside).inside).cell 0, ((L_x.out.kept bx L_x.out.inside).kept by1 (L_x.out.kept bx L_x.out.inside).inside).cell 1, ((L_a.out.kept bx L_a.out.inside).kept by1 (L_a.out.kept bx L_a.out.inside).inside).cell 0, ((L_a.out.kept bx L_a.out.inside).kept by1 (L_a.out.kept bx L_a.out.inside).inside).cell 1⟩))
  clear k_0 k_1 k_2
  replace B := Lib.hid (B.out.trans (bx.mono B.out.size))
  replace B := Lib.hid (B.out.trans (by1.mono B.out.size))
  clear bx by1 o5 o6 l5 l6
  go_wp2
  go_ret
  exact ⟨rfl, B.out⟩

end Go.Proofs.Ytbnlgmcjklfcoaa
