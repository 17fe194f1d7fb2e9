/- FnExactUnionOf: for every two boxes impl.UnionOf answers as the model does, leaves its arguments alone and answers in memory of its own. No condition. -/
import Derived.Test.YtbonpmgbcdknbabSpecUnionOf
import Derived.Test.YtbonpmgbcdknbabImplUnionOf
import Derived.Test.YtbonpmgbcdknbabMarks2
namespace Go.Proofs.Ytbonpmgbcdknbab
open Go.RowKit

theorem specUnionOf_yes (n1 c1 n2 c2 n3 c3 n4 c4 lo1 lo2 lo3 lo4 : Nat) (A1 A2 A3 A4 : Option Addr) (x1 x2 x3 x4 : List Int) (w : World)
    (h1 : Ints w lo1 A1 n1 x1) (h2 : Ints w lo2 A2 n2 x2) (h3 : Ints w lo3 A3 n3 x3) (h4 : Ints w lo4 A4 n4 x4) (m1 : n1 ≤ maxLen) (m2 : n2 ≤ maxLen) (m3 : n3 ≤ maxLen) (m4 : n4 ≤ maxLen) (hr : rf2 x1 x2 x3 x4 = 0) :
    Calls Try.prog 11 #[.agg #[.slice A1 n1 c1, .slice A2 n2 c2], .agg #[.slice A3 n3 c3, .slice A4 n4 c4]] w fun e w' => ∃ b o c b' o' c', e = .returned (.agg #[.int .i64 0, .slice (some ⟨b, o, none⟩) n1 c, .slice (some ⟨b', o', none⟩) n1 c']) ∧ Ints w' w.heap.size (some ⟨b, o, none⟩) n1 (mins x1 x3) ∧ Ints w' w.heap.size (some ⟨b', o', none⟩) n1 (maxs x2 x4) ∧ b < w'.heap.size ∧ b' < w'.heap.size ∧ w.heap.size ≤ b ∧ w.heap.size ≤ b' ∧ Below w.heap.size w w' :=
  (specUnionOf_any n1 c1 n2 c2 n3 c3 n4 c4 lo1 lo2 lo3 lo4 A1 A2 A3 A4 x1 x2 x3 x4 w h1 h2 h3 h4 m1 m2 m3 m4).mono fun _ _ h => by obtain ⟨b, o, c, b', o', c', q1, q2, q3, q4, q5, q6, q7⟩ := h.1 hr; exact ⟨b, o, c, b', o', c', q1, q2, q3, q4, q5, q6, q7, h.2.2⟩

theorem specUnionOf_no (n1 c1 n2 c2 n3 c3 n4 c4 lo1 lo2 lo3 lo4 : Nat) (A1 A2 A3 A4 : Option Addr) (x1 x2 x3 x4 : List Int) (w : World)
    (h1 : Ints w lo1 A1 n1 x1) (h2 : Ints w lo2 A2 n2 x2) (h3 : Ints w lo3 A3 n3 x3) (h4 : Ints w lo4 A4 n4 x4) (m1 : n1 ≤ maxLen) (m2 : n2 ≤ maxLen) (m3 : n3 ≤ maxLen) (m4 : n4 ≤ maxLen) (hr : ¬ rf2 x1 x2 x3 x4 = 0) :
    Calls Try.prog 11 #[.agg #[.slice A1 n1 c1, .slice A2 n2 c2], .agg #[.slice A3 n3 c3, .slice A4 n4 c4]] w fun e w' => e = .returned (.agg #[.int .i64 (rf2 x1 x2 x3 x4), .slice none 0 0, .slice none 0 0]) ∧ Below w.heap.size w w' :=
  (specUnionOf_any n1 c1 n2 c2 n3 c3 n4 c4 lo1 lo2 lo3 lo4 A1 A2 A3 A4 x1 x2 x3 x4 w h1 h2 h3 h4 m1 m2 m3 m4).mono fun _ _ h => ⟨h.2.1 hr, h.2.2⟩

theorem implUnionOf_yes (n1 c1 n2 c2 n3 c3 n4 c4 lo1 lo2 lo3 lo4 : Nat) (A1 A2 A3 A4 : Option Addr) (x1 x2 x3 x4 : List Int) (w : World)
    (h1 : Ints w lo1 A1 n1 x1) (h2 : Ints w lo2 A2 n2 x2) (h3 : Ints w lo3 A3 n3 x3) (h4 : Ints w lo4 A4 n4 x4) (m1 : n1 ≤ maxLen) (m2 : n2 ≤ maxLen) (m3 : n3 ≤ maxLen) (m4 : n4 ≤ maxLen) (hr : rf2 x1 x2 x3 x4 = 0) :
    Calls Try.prog 13 #[.agg #[.slice A1 n1 c1, .slice A2 n2 c2], .agg #[.slice A3 n3 c3, .slice A4 n4 c4]] w fun e w' => ∃ g g', e = .returned (.agg #[.int .i64 0, .slice (some ⟨g, 0, none⟩) n1 n1, .slice (some ⟨g', 0, none⟩) n1 n1]) ∧ w.heap.size ≤ g ∧ g < g' ∧ Own w' g n1 (mins x1 x3) ∧ Own w' g' n1 (maxs x2 x4) ∧ n1 ≤ 3 ∧ Below w.heap.size w w' :=
  (implUnionOf_any n1 c1 n2 c2 n3 c3 n4 c4 lo1 lo2 lo3 lo4 A1 A2 A3 A4 x1 x2 x3 x4 w h1 h2 h3 h4 m1 m2 m3 m4).mono fun _ _ h => by obtain ⟨g, g', q1, q2, q3, q4, q5, q6⟩ := h.1 hr; exact ⟨g, g', q1, q2, q3, q4, q5, q6, h.2.2⟩

theorem implUnionOf_no (n1 c1 n2 c2 n3 c3 n4 c4 lo1 lo2 lo3 lo4 : Nat) (A1 A2 A3 A4 : Option Addr) (x1 x2 x3 x4 : List Int) (w : World)
    (h1 : Ints w lo1 A1 n1 x1) (h2 : Ints w lo2 A2 n2 x2) (h3 : Ints w lo3 A3 n3 x3) (h4 : Ints w lo4 A4 n4 x4) (m1 : n1 ≤ maxLen) (m2 : n2 ≤ maxLen) (m3 : n3 ≤ maxLen) (m4 : n4 ≤ maxLen) (hr : ¬ rf2 x1 x2 x3 x4 = 0) :
    Calls Try.prog 13 #[.agg #[.slice A1 n1 c1, .slice A2 n2 c2], .agg #[.slice A3 n3 c3, .slice A4 n4 c4]] w fun e w' => e = .returned (.agg #[.int .i64 (rf2 x1 x2 x3 x4), .slice none 0 0, .slice none 0 0]) ∧ Below w.heap.size w w' :=
  (implUnionOf_any n1 c1 n2 c2 n3 c3 n4 c4 lo1 lo2 lo3 lo4 A1 A2 A3 A4 x1 x2 x3 x4 w h1 h2 h3 h4 m1 m2 m3 m4).mono fun _ _ h => ⟨h.2.1 hr, h.2.2⟩

theorem Ints.farB {w : World} {lo n b o : Nat} {xs : List Int} (h : Ints w lo (some ⟨b, o, none⟩) n xs) {a : Addr} (ha : ¬ a.block = b) (v : Value) : Ints (w.setCell a v) lo (some ⟨b, o, none⟩) n xs := by
  obtain ⟨hl, hr⟩ := h
  refine ⟨hl, fun hn => ?_⟩
  obtain ⟨b', o', e, h1, h2, h3⟩ := hr hn
  injection e with e
  injection e with e1 e2
  subst e1 e2
  refine ⟨b, o, rfl, h1, by rw [size_of_setCell]; exact h2, fun k x hx => ?_⟩
  rw [World.cell?_of_block (w := w) (a := ⟨b, o + k, none⟩) (heap_setCell_other w a b v (fun e => ha e.symm))]
  exact h3 k x hx
theorem Ints.allocB {w : World} {lo n : Nat} {A : Option Addr} {xs : List Int} (h : Ints w lo A n xs) (o : Obj) : Ints (w.alloc o) lo A n xs := h.kept (below_alloc w o)


theorem heldRectResult_none (k d : Int) (w : World) (h0 : 0 ≤ k) (h1 : k ≤ 1073741824) :
    Calls Try.prog 18 #[.agg #[.int .i64 d, .slice none 0 0, .slice none 0 0], .int .i64 k] w fun e w' => e = .returned (.int .i64 k) ∧ Below w.heap.size w w' :=
  (heldRectResult_any k d 0 0 0 0 0 0 none none w (Ints.empty _ _ _) (Ints.empty _ _ _) h0 h1 (by decide) (by decide)).mono fun _ _ h => ⟨by rw [h.1]; simp, h.2⟩

set_option maxRecDepth 100000 in
set_option maxHeartbeats 16000000 in
theorem lawUnionOf_walk (n0 c0 m0 e0 : Nat) (A0 B0 : Option Addr) (xs0 ys0 : List Int) (n1 c1 m1 e1 : Nat) (A1 B1 : Option Addr) (xs1 ys1 : List Int) (w : World) (hx0 : Ints w 0 A0 n0 xs0) (hy0 : Ints w 0 B0 m0 ys0) (hn0 : n0 ≤ maxLen) (hm0 : m0 ≤ maxLen) (hx1 : Ints w 0 A1 n1 xs1) (hy1 : Ints w 0 B1 m1 ys1) (hn1 : n1 ≤ maxLen) (hm1 : m1 ≤ maxLen) :
    Calls Try.prog 3 #[.agg #[.slice A0 n0 c0, .slice B0 m0 e0], .agg #[.slice A1 n1 c1, .slice B1 m1 e1]] w fun e w' => e = .returned (.bool true) ∧ Below w.heap.size w w' := by
  have I_x0 := Lib.hid hx0
  have I_y0 := Lib.hid hy0
  have I_x1 := Lib.hid hx1
  have I_y1 := Lib.hid hy1
  clear hx0 hy0 hx1 hy1
  have B := Lib.hid (Below.refl w.heap.size w)
  have L_a0 := Lib.hid (Lies.new w 24 #[.slice A0 n0 c0, .slice B0 m0 e0])
  replace B := Lib.hid (B.out.alloc B.out.size (.cells #[.slice A0 n0 c0, .slice B0 m0 e0] 24))
  replace L_a0 := Lib.hid (L_a0.out.alloc (.cells #[.slice A1 n1 c1, .slice B1 m1 e1] 24))
  have L_a1 := Lib.hid (Lies.new (w.alloc (.cells #[.slice A0 n0 c0, .slice B0 m0 e0] 24)) 24 #[.slice A1 n1 c1, .slice B1 m1 e1])
  replace B := Lib.hid (B.out.alloc B.out.size (.cells #[.slice A1 n1 c1, .slice B1 m1 e1] 24))
  simp only [World.size_alloc] at L_a1
  by_cases z0 : (1048576 : Int) < n0 + m0
  · go_enter Try.func3, Try.ntmps3
    go_wp2_with fail
    refine (szRect_no _ _ _ _ _ _ _ _ (by omega) (by omega) hn0 hm0 (by omega)).mono ?_
    rintro e W1 ⟨rfl, b1⟩
    have sz_W1 := b1.size
    try simp only [World.size_alloc] at sz_W1
    replace L_a0 := Lib.hid (L_a0.out.kept b1 L_a0.out.inside)
    replace L_a1 := Lib.hid (L_a1.out.kept b1 L_a1.out.inside)
    replace B := Lib.hid (B.out.trans (b1.mono B.out.size))
    clear b1
    go_wp2
    go_ret
    exact ⟨rfl, B.out⟩
  by_cases z1 : (1048576 : Int) - n0 - m0 < n1 + m1
  · go_enter Try.func3, Try.ntmps3
    go_wp2_with fail
    refine (szRect_yes _ _ _ _ _ _ _ _ (by omega) hn0 hm0 (by omega)).mono ?_
    rintro e W1 ⟨rfl, b1⟩
    have sz_W1 := b1.size
    try simp only [World.size_alloc] at sz_W1
    replace L_a0 := Lib.hid (L_a0.out.kept b1 L_a0.out.inside)
    replace L_a1 := Lib.hid (L_a1.out.kept b1 L_a1.out.inside)
    replace B := Lib.hid (B.out.trans (b1.mono B.out.size))
    clear b1
    have c_a00 : W1.cell? ⟨w.heap.size, 0, none⟩ = some (.slice A0 n0 c0) := L_a0.out.cell 0
    have c_a01 : W1.cell? ⟨w.heap.size, 1, none⟩ = some (.slice B0 m0 e0) := L_a0.out.cell 1
    have c_a10 : W1.cell? ⟨w.heap.size + 1, 0, none⟩ = some (.slice A1 n1 c1) := L_a1.out.cell 0
    have c_a11 : W1.cell? ⟨w.heap.size + 1, 1, none⟩ = some (.slice B1 m1 e1) := L_a1.out.cell 1
    go_wp2_with fail
    clear c_a00 c_a01 c_a10 c_a11
    refine (szRect_no _ _ _ _ _ _ _ _ (by omega) (by omega) hn1 hm1 (by omega)).mono ?_
    rintro e W2 ⟨rfl, b2⟩
    have sz_W2 := b2.size
    try simp only [World.size_alloc] at sz_W2
    replace L_a0 := Lib.hid (L_a0.out.kept b2 L_a0.out.inside)
    replace L_a1 := Lib.hid (L_a1.out.kept b2 L_a1.out.inside)
    replace B := Lib.hid (B.out.trans (b2.mono B.out.size))
    clear b2
    go_wp2
    go_ret
    exact ⟨rfl, B.out⟩
  by_cases hr : rf2 xs0 ys0 xs1 ys1 = 0
  · have HR := Lib.hid hr
    clear hr
    go_enter Try.func3, Try.ntmps3
    go_wp2_with fail
    refine (szRect_yes _ _ _ _ _ _ _ _ (by omega) hn0 hm0 (by omega)).mono ?_
    rintro e W1 ⟨rfl, b1⟩
    have sz_W1 := b1.size
    try simp only [World.size_alloc] at sz_W1
    replace L_a0 := Lib.hid (L_a0.out.kept b1 L_a0.out.inside)
    replace L_a1 := Lib.hid (L_a1.out.kept b1 L_a1.out.inside)
    replace B := Lib.hid (B.out.trans (b1.mono B.out.size))
    clear b1
    have c_a00 : W1.cell? ⟨w.heap.size, 0, none⟩ = some (.slice A0 n0 c0) := L_a0.out.cell 0
    have c_a01 : W1.cell? ⟨w.heap.size, 1, none⟩ = some (.slice B0 m0 e0) := L_a0.out.cell 1
    have c_a10 : W1.cell? ⟨w.heap.size + 1, 0, none⟩ = some (.slice A1 n1 c1) := L_a1.out.cell 0
    have c_a11 : W1.cell? ⟨w.heap.size + 1, 1, none⟩ = some (.slice B1 m1 e1) := L_a1.out.cell 1
    go_wp2_with fail
    clear c_a00 c_a01 c_a10 c_a11
    refine (szRect_yes _ _ _ _ _ _ _ _ (by omega) hn1 hm1 (by omega)).mono ?_
    rintro e W2 ⟨rfl, b2⟩
    have sz_W2 := b2.size
    try simp only [World.size_alloc] at sz_W2
    replace L_a0 := Lib.hid (L_a0.out.kept b2 L_a0.out.inside)
    replace L_a1 := Lib.hid (L_a1.out.kept b2 L_a1.out.inside)
    replace B := Lib.hid (B.out.trans (b2.mono B.out.size))
    clear b2
    have szB := B.out.size
    go_upto_region 8 with fail
    go_cut [6] (fun s6 wx => ∃ (n_w0 : Nat) (bw ow cw bw' ow' cw' : Nat), s6 = .pointer (some ⟨n_w0, 0, none⟩) ∧ Hid (Lies wx n_w0 28 #[.int .i64 0, .slice (some ⟨bw, ow, none⟩) n0 cw, .slice (some ⟨bw', ow', none⟩) n0 cw']) ∧ W2.heap.size ≤ n_w0 ∧ Hid (Ints wx 0 (some ⟨bw, ow, none⟩) n0 (mins xs0 xs1)) ∧ Hid (Ints wx 0 (some ⟨bw', ow', none⟩) n0 (maxs ys0 ys1)) ∧ bw < wx.heap.size ∧ bw' < wx.heap.size ∧ w.heap.size ≤ bw ∧ w.heap.size ≤ bw' ∧ Hid (Since W2 wx))
    case first =>
      have c_a00 : W2.cell? ⟨w.heap.size, 0, none⟩ = some (.slice A0 n0 c0) := L_a0.out.cell 0
      have c_a01 : W2.cell? ⟨w.heap.size, 1, none⟩ = some (.slice B0 m0 e0) := L_a0.out.cell 1
      have c_a10 : W2.cell? ⟨w.heap.size + 1, 0, none⟩ = some (.slice A1 n1 c1) := L_a1.out.cell 0
      have c_a11 : W2.cell? ⟨w.heap.size + 1, 1, none⟩ = some (.slice B1 m1 e1) := L_a1.out.cell 1
      have i_a0 := L_a0.out.inside
      have l_a0 := Nat.le_of_lt i_a0
      have i_a1 := L_a1.out.inside
      have l_a1 := Nat.le_of_lt i_a1
      have zd := size_of_drew
      go_region_held3 (fun w' => w'.cell? ⟨w.heap.size, 0, none⟩ = some (.slice A0 n0 c0) ∧ w'.cell? ⟨w.heap.size, 1, none⟩ = some (.slice B0 m0 e0) ∧ w'.cell? ⟨w.heap.size + 1, 0, none⟩ = some (.slice A1 n1 c1) ∧ w'.cell? ⟨w.heap.size + 1, 1, none⟩ = some (.slice B1 m1 e1))
        (exact ⟨Lies.cell (t := 24) (cs := #[.slice A0 n0 c0, .slice B0 m0 e0]) (by with_reducible (repeat (first | refine Lies.far ?_ ?_ _ | refine Lies.alloc ?_ _ | refine Lies.drew ?_ | refine Lies.call ?_ b5 | refine Lies.call ?_ b4 | refine Lies.call ?_ b3 | exact L_a0.out | exact L_a1.out)); all_goals (simp only [size_of_drew, size_of_setCell, World.size_alloc]; omega)) 0, Lies.cell (t := 24) (cs := #[.slice A0 n0 c0, .slice B0 m0 e0]) (by with_reducible (repeat (first | refine Lies.far ?_ ?_ _ | refine Lies.alloc ?_ _ | refine Lies.drew ?_ | refine Lies.call ?_ b5 | refine Lies.call ?_ b4 | refine Lies.call ?_ b3 | exact L_a0.out | exact L_a1.out)); all_goals (simp only [size_of_drew, size_of_setCell, World.size_alloc]; omega)) 1, Lies.cell (t := 24) (cs := #[.slice A1 n1 c1, .slice B1 m1 e1]) (by with_reducible (repeat (first | refine Lies.far ?_ ?_ _ | refine Lies.alloc ?_ _ | refine Lies.drew ?_ | refine Lies.call ?_ b5 | refine Lies.call ?_ b4 | refine Lies.call ?_ b3 | exact L_a0.out | exact L_a1.out)); all_goals (simp only [size_of_drew, size_of_setCell, World.size_alloc]; omega)) 0, Lies.cell (t := 24) (cs := #[.slice A1 n1 c1, .slice B1 m1 e1]) (by with_reducible (repeat (first | refine Lies.far ?_ ?_ _ | refine Lies.alloc ?_ _ | refine Lies.drew ?_ | refine Lies.call ?_ b5 | refine Lies.call ?_ b4 | refine Lies.call ?_ b3 | exact L_a0.out | exact L_a1.out)); all_goals (simp only [size_of_drew, size_of_setCell, World.size_alloc]; omega)) 1⟩)
        (first
          | (go_at_call_of 12 (Value.agg #[.slice A0 n0 c0, .slice B0 m0 e0]); refine (toRect_any _ _ _ _ _ _ _ _ xs0 ys0 _ (I_x0.out.kept (by with_reducible (repeat (first | refine Since.below ?_ | refine Since.drew ?_ | refine Since.alloc ?_ _ | exact Since.of B.out)))) (I_y0.out.kept (by with_reducible (repeat (first | refine Since.below ?_ | refine Since.drew ?_ | refine Since.alloc ?_ _ | exact Since.of B.out)))) (by omega) (by omega)).mono ?_
             rintro e W3 ⟨gs0x, gs0y, rfl, os0x, os0y, ls0x, ls0y, b3⟩
             have q_W3 := cells_kept b3
             have u_W3 := frozen_kept b3
             have z_W3 := sizes_kept b3
             try simp only [size_of_drew, World.size_alloc] at z_W3
             have le_W2_W3 : W2.heap.size ≤ W3.heap.size := by omega
             try (have lt_W2_W3 : W2.heap.size < W3.heap.size := by omega))
          | (go_at_call_of 12 (Value.agg #[.slice A1 n1 c1, .slice B1 m1 e1]); refine (toRect_any _ _ _ _ _ _ _ _ xs1 ys1 _ (I_x1.out.kept (by with_reducible (repeat (first | refine Since.below ?_ | refine Since.drew ?_ | refine Since.alloc ?_ _ | refine Since.call ?_ b3 | exact Since.of B.out)))) (I_y1.out.kept (by with_reducible (repeat (first | refine Since.below ?_ | refine Since.drew ?_ | refine Since.alloc ?_ _ | refine Since.call ?_ b3 | exact Since.of B.out)))) (by omega) (by omega)).mono ?_
             rintro e W4 ⟨gs1x, gs1y, rfl, os1x, os1y, ls1x, ls1y, b4⟩
             have q_W4 := cells_kept b4
             have u_W4 := frozen_kept b4
             have z_W4 := sizes_kept b4
             try simp only [size_of_drew, World.size_alloc] at z_W4
             have le_W2_W4 : W2.heap.size ≤ W4.heap.size := by omega
             try (have lt_W2_W4 : W2.heap.size < W4.heap.size := by omega)
             have le_W3_W4 : W3.heap.size ≤ W4.heap.size := by omega
             try (have lt_W3_W4 : W3.heap.size < W4.heap.size := by omega))
          | (go_at_call 11; refine (specUnionOf_yes _ _ _ _ _ _ _ _ _ _ _ _ _ _ _ _ xs0 ys0 xs1 ys1 _ (Own.ints (by with_reducible (repeat (first | exact os0x | refine Own.drew' ?_ | refine Own.alloc ?_ _ | refine Own.call ?_ b4 | refine Own.call ?_ b3))) (Nat.zero_le _)) (Own.ints (by with_reducible (repeat (first | exact os0y | refine Own.drew' ?_ | refine Own.alloc ?_ _ | refine Own.call ?_ b4 | refine Own.call ?_ b3))) (Nat.zero_le _)) (Own.ints (by with_reducible (repeat (first | exact os1x | refine Own.drew' ?_ | refine Own.alloc ?_ _ | refine Own.call ?_ b4 | refine Own.call ?_ b3))) (Nat.zero_le _)) (Own.ints (by with_reducible (repeat (first | exact os1y | refine Own.drew' ?_ | refine Own.alloc ?_ _ | refine Own.call ?_ b4 | refine Own.call ?_ b3))) (Nat.zero_le _)) hn0 hm0 hn1 hm1 HR.out).mono ?_
             rintro e W5 ⟨bw, ow, cw, bw', ow', cw', rfl, j1, j2, k1, k2, k3, k4, b5⟩
             have q_W5 := cells_kept b5
             have u_W5 := frozen_kept b5
             have z_W5 := sizes_kept b5
             try simp only [size_of_drew, World.size_alloc] at z_W5
             have le_W2_W5 : W2.heap.size ≤ W5.heap.size := by omega
             try (have lt_W2_W5 : W2.heap.size < W5.heap.size := by omega)
             have le_W3_W5 : W3.heap.size ≤ W5.heap.size := by omega
             try (have lt_W3_W5 : W3.heap.size < W5.heap.size := by omega)
             have le_W4_W5 : W4.heap.size ≤ W5.heap.size := by omega
             try (have lt_W4_W5 : W4.heap.size < W5.heap.size := by omega)))
      all_goals
        rename_i hH
        clear hH zd q_W3 u_W3 q_W4 u_W4 q_W5 u_W5 c_a00 c_a01 c_a10 c_a11
        go_wp2_with fail
        go_meet
        refine ⟨_, bw, ow, cw, bw', ow', cw', rfl, ?_, ?_, ?_, ?_, ?_, ?_, ?_, ?_, ?_⟩
        · refine Lib.hid ?_
          first
            | (refine Lies.as (cs := (((#[.int .i64 0, .slice none 0 0, .slice none 0 0].setIfInBounds 0 (.int .i64 0)).setIfInBounds 1 (.slice (some ⟨bw, ow, none⟩) n0 cw)).setIfInBounds 2 (.slice (some ⟨bw', ow', none⟩) n0 cw'))) ?_ (by simp)
               with_reducible (repeat (first | refine Lies.set ?_ _ _ | refine Lies.far ?_ ?_ _ | (refine Lies.laid ?_; (simp only [size_of_drew, size_of_setCell, World.size_alloc]; done)) | exact Lies.new _ _ _ | exact Lies.laid2 _ _ _ _ | refine Lies.alloc ?_ _ | refine Lies.drew ?_ | refine Lies.call ?_ b5 | refine Lies.call ?_ b4 | refine Lies.call ?_ b3))
               all_goals first | exact Nat.ne_of_lt (Nat.lt_succ_self _) | exact Nat.ne_of_gt (Nat.lt_succ_self _) | exact Nat.ne_of_lt lt_W2_W3 | exact Nat.ne_of_gt lt_W2_W3 | exact Nat.ne_of_lt lt_W2_W4 | exact Nat.ne_of_gt lt_W2_W4 | exact Nat.ne_of_lt lt_W2_W5 | exact Nat.ne_of_gt lt_W2_W5 | exact Nat.ne_of_lt lt_W3_W4 | exact Nat.ne_of_gt lt_W3_W4 | exact Nat.ne_of_lt lt_W3_W5 | exact Nat.ne_of_gt lt_W3_W5 | exact Nat.ne_of_lt lt_W4_W5 | exact Nat.ne_of_gt lt_W4_W5 | (show ¬ _ = _; (try simp only [size_of_drew, size_of_setCell, World.size_alloc]); omega)
               done)
            | (with_reducible (repeat (first | refine Lies.far ?_ ?_ _ | (refine Lies.laid ?_; (simp only [size_of_drew, size_of_setCell, World.size_alloc]; done)) | exact Lies.new _ _ _ | exact Lies.laid2 _ _ _ _ | refine Lies.alloc ?_ _ | refine Lies.drew ?_ | refine Lies.call ?_ b5 | refine Lies.call ?_ b4 | refine Lies.call ?_ b3))
               all_goals first | exact Nat.ne_of_lt (Nat.lt_succ_self _) | exact Nat.ne_of_gt (Nat.lt_succ_self _) | exact Nat.ne_of_lt lt_W2_W3 | exact Nat.ne_of_gt lt_W2_W3 | exact Nat.ne_of_lt lt_W2_W4 | exact Nat.ne_of_gt lt_W2_W4 | exact Nat.ne_of_lt lt_W2_W5 | exact Nat.ne_of_gt lt_W2_W5 | exact Nat.ne_of_lt lt_W3_W4 | exact Nat.ne_of_gt lt_W3_W4 | exact Nat.ne_of_lt lt_W3_W5 | exact Nat.ne_of_gt lt_W3_W5 | exact Nat.ne_of_lt lt_W4_W5 | exact Nat.ne_of_gt lt_W4_W5 | (show ¬ _ = _; (try simp only [size_of_drew, size_of_setCell, World.size_alloc]); omega)
               done)
        · first | exact Nat.le_refl _ | exact Nat.le_succ _ | exact le_W2_W3 | exact Nat.le_succ_of_le le_W2_W3 | exact le_W2_W4 | exact Nat.le_succ_of_le le_W2_W4 | exact le_W2_W5 | exact Nat.le_succ_of_le le_W2_W5 | omega
        · refine Lib.hid ?_
          (try simp only [size_of_drew, size_of_setCell, World.size_alloc] at k3)
          (try simp only [size_of_drew, size_of_setCell, World.size_alloc] at k4)
          with_reducible (repeat (first | refine Ints.farB ?_ ?_ _ | refine Ints.allocB ?_ _ | refine Ints.drew ?_))
          · exact Ints.lower j1 (Nat.zero_le _)
          all_goals ((try dsimp only); (try simp only [size_of_drew, size_of_setCell, World.size_alloc]); omega)
        · refine Lib.hid ?_
          (try simp only [size_of_drew, size_of_setCell, World.size_alloc] at k3)
          (try simp only [size_of_drew, size_of_setCell, World.size_alloc] at k4)
          with_reducible (repeat (first | refine Ints.farB ?_ ?_ _ | refine Ints.allocB ?_ _ | refine Ints.drew ?_))
          · exact Ints.lower j2 (Nat.zero_le _)
          all_goals ((try dsimp only); (try simp only [size_of_drew, size_of_setCell, World.size_alloc]); omega)
        · (try simp only [size_of_drew, size_of_setCell, World.size_alloc]); omega
        · (try simp only [size_of_drew, size_of_setCell, World.size_alloc]); omega
        · (try simp only [size_of_drew, size_of_setCell, World.size_alloc] at k3); omega
        · (try simp only [size_of_drew, size_of_setCell, World.size_alloc] at k4); omega
        · refine Lib.hid ?_
          with_reducible (repeat (first | refine Since.setCell ?_ ?_ _ | refine Since.alloc ?_ _ | refine Since.drew ?_ | refine Since.call ?_ b5 | refine Since.call ?_ b4 | refine Since.call ?_ b3))
          · exact Since.of (Below.refl _ _)
          all_goals first | exact Nat.le_refl _ | exact Nat.le_succ _ | exact le_W2_W3 | exact Nat.le_succ_of_le le_W2_W3 | exact le_W2_W4 | exact Nat.le_succ_of_le le_W2_W4 | exact le_W2_W5 | exact Nat.le_succ_of_le le_W2_W5 | (show _ ≤ _; (try simp only [size_of_drew, size_of_setCell, World.size_alloc]); omega)
    case' rest =>
      obtain ⟨n_w0, bw, ow, cw, bw', ow', cw', rfl, L_w0, g_w0, J_1, J_2, kw1, kw2, kw3, kw4, S⟩ := hcut
      have bS := S.out.below
      clear S
    have d_w0_a0 : ¬ n_w0 = w.heap.size := by have := L_a0.out.inside; omega
    have e_w0_a0 : ¬ w.heap.size = n_w0 := fun e => d_w0_a0 e.symm
    have d_w0_a1 : ¬ n_w0 = w.heap.size + 1 := by have := L_a1.out.inside; omega
    have e_w0_a1 : ¬ w.heap.size + 1 = n_w0 := fun e => d_w0_a1 e.symm
    skip
    have sz_wc := bS.size
    try simp only [World.size_alloc] at sz_wc
    replace L_a0 := Lib.hid (L_a0.out.kept bS L_a0.out.inside)
    replace L_a1 := Lib.hid (L_a1.out.kept bS L_a1.out.inside)
    replace B := Lib.hid (B.out.trans (bS.mono B.out.size))
    clear bS
    generalize hWA : wc = WA at *
    clear hWA
    have in_w0 := L_w0.out.inside
    have c_a00 : WA.cell? ⟨w.heap.size, 0, none⟩ = some (.slice A0 n0 c0) := L_a0.out.cell 0
    have c_a01 : WA.cell? ⟨w.heap.size, 1, none⟩ = some (.slice B0 m0 e0) := L_a0.out.cell 1
    go_wp2_with fail
    clear c_a00 c_a01
    refine (toRect_any _ _ _ _ _ _ _ _ xs0 ys0 _ (I_x0.out.kept B.out) (I_y0.out.kept B.out) (by omega) (by omega)).mono ?_
    rintro e W6 ⟨gt0x, gt0y, rfl, ot0x, ot0y, lt0x, lt0y, b6⟩
    have sz_W6 := b6.size
    try simp only [World.size_alloc] at sz_W6
    replace J_1 := Lib.hid (J_1.out.kept b6)
    replace J_2 := Lib.hid (J_2.out.kept b6)
    replace L_a0 := Lib.hid (L_a0.out.kept b6 L_a0.out.inside)
    replace L_a1 := Lib.hid (L_a1.out.kept b6 L_a1.out.inside)
    replace L_w0 := Lib.hid (L_w0.out.kept b6 L_w0.out.inside)
    replace B := Lib.hid (B.out.trans (b6.mono B.out.size))
    clear b6
    have O_t0x := Lib.hid ot0x
    clear ot0x
    have O_t0y := Lib.hid ot0y
    clear ot0y
    have in_t0x := O_t0x.out.inside
    try simp only [World.size_alloc] at in_t0x
    have in_t0y := O_t0y.out.inside
    try simp only [World.size_alloc] at in_t0y
    try simp only [World.size_alloc] at lt0x
    replace J_1 := Lib.hid (J_1.out.kept (below_alloc _ (.cells #[.slice (some ⟨gt0x, 0, none⟩) n0 n0, .slice (some ⟨gt0y, 0, none⟩) m0 m0] 26)))
    replace J_2 := Lib.hid (J_2.out.kept (below_alloc _ (.cells #[.slice (some ⟨gt0x, 0, none⟩) n0 n0, .slice (some ⟨gt0y, 0, none⟩) m0 m0] 26)))
    replace L_a0 := Lib.hid (L_a0.out.alloc (.cells #[.slice (some ⟨gt0x, 0, none⟩) n0 n0, .slice (some ⟨gt0y, 0, none⟩) m0 m0] 26))
    replace L_a1 := Lib.hid (L_a1.out.alloc (.cells #[.slice (some ⟨gt0x, 0, none⟩) n0 n0, .slice (some ⟨gt0y, 0, none⟩) m0 m0] 26))
    replace L_w0 := Lib.hid (L_w0.out.alloc (.cells #[.slice (some ⟨gt0x, 0, none⟩) n0 n0, .slice (some ⟨gt0y, 0, none⟩) m0 m0] 26))
    replace O_t0x := Lib.hid (O_t0x.out.kept (below_alloc _ (.cells #[.slice (some ⟨gt0x, 0, none⟩) n0 n0, .slice (some ⟨gt0y, 0, none⟩) m0 m0] 26)))
    replace O_t0y := Lib.hid (O_t0y.out.kept (below_alloc _ (.cells #[.slice (some ⟨gt0x, 0, none⟩) n0 n0, .slice (some ⟨gt0y, 0, none⟩) m0 m0] 26)))
    have L_v0 := Lib.hid (Lies.new W6 26 #[.slice (some ⟨gt0x, 0, none⟩) n0 n0, .slice (some ⟨gt0y, 0, none⟩) m0 m0])
    replace B := Lib.hid (B.out.alloc B.out.size (.cells #[.slice (some ⟨gt0x, 0, none⟩) n0 n0, .slice (some ⟨gt0y, 0, none⟩) m0 m0] 26))
    have c_a10 : (W6.alloc (.cells #[.slice (some ⟨gt0x, 0, none⟩) n0 n0, .slice (some ⟨gt0y, 0, none⟩) m0 m0] 26)).cell? ⟨w.heap.size + 1, 0, none⟩ = some (.slice A1 n1 c1) := L_a1.out.cell 0
    have c_a11 : (W6.alloc (.cells #[.slice (some ⟨gt0x, 0, none⟩) n0 n0, .slice (some ⟨gt0y, 0, none⟩) m0 m0] 26)).cell? ⟨w.heap.size + 1, 1, none⟩ = some (.slice B1 m1 e1) := L_a1.out.cell 1
    go_wp2_with fail
    clear c_a10 c_a11
    refine (toRect_any _ _ _ _ _ _ _ _ xs1 ys1 _ (I_x1.out.kept B.out) (I_y1.out.kept B.out) (by omega) (by omega)).mono ?_
    rintro e W7 ⟨gt1x, gt1y, rfl, ot1x, ot1y, lt1x, lt1y, b7⟩
    have sz_W7 := b7.size
    try simp only [World.size_alloc] at sz_W7
    replace J_1 := Lib.hid (J_1.out.kept b7)
    replace J_2 := Lib.hid (J_2.out.kept b7)
    replace L_a0 := Lib.hid (L_a0.out.kept b7 L_a0.out.inside)
    replace L_a1 := Lib.hid (L_a1.out.kept b7 L_a1.out.inside)
    replace L_w0 := Lib.hid (L_w0.out.kept b7 L_w0.out.inside)
    replace L_v0 := Lib.hid (L_v0.out.kept b7 L_v0.out.inside)
    replace O_t0x := Lib.hid (O_t0x.out.kept b7)
    replace O_t0y := Lib.hid (O_t0y.out.kept b7)
    replace B := Lib.hid (B.out.trans (b7.mono B.out.size))
    clear b7
    have O_t1x := Lib.hid ot1x
    clear ot1x
    have O_t1y := Lib.hid ot1y
    clear ot1y
    have in_t1x := O_t1x.out.inside
    try simp only [World.size_alloc] at in_t1x
    have in_t1y := O_t1y.out.inside
    try simp only [World.size_alloc] at in_t1y
    try simp only [World.size_alloc] at lt1x
    replace J_1 := Lib.hid (J_1.out.kept (below_alloc _ (.cells #[.slice (some ⟨gt1x, 0, none⟩) n1 n1, .slice (some ⟨gt1y, 0, none⟩) m1 m1] 26)))
    replace J_2 := Lib.hid (J_2.out.kept (below_alloc _ (.cells #[.slice (some ⟨gt1x, 0, none⟩) n1 n1, .slice (some ⟨gt1y, 0, none⟩) m1 m1] 26)))
    replace L_a0 := Lib.hid (L_a0.out.alloc (.cells #[.slice (some ⟨gt1x, 0, none⟩) n1 n1, .slice (some ⟨gt1y, 0, none⟩) m1 m1] 26))
    replace L_a1 := Lib.hid (L_a1.out.alloc (.cells #[.slice (some ⟨gt1x, 0, none⟩) n1 n1, .slice (some ⟨gt1y, 0, none⟩) m1 m1] 26))
    replace L_w0 := Lib.hid (L_w0.out.alloc (.cells #[.slice (some ⟨gt1x, 0, none⟩) n1 n1, .slice (some ⟨gt1y, 0, none⟩) m1 m1] 26))
    replace L_v0 := Lib.hid (L_v0.out.alloc (.cells #[.slice (some ⟨gt1x, 0, none⟩) n1 n1, .slice (some ⟨gt1y, 0, none⟩) m1 m1] 26))
    replace O_t0x := Lib.hid (O_t0x.out.kept (below_alloc _ (.cells #[.slice (some ⟨gt1x, 0, none⟩) n1 n1, .slice (some ⟨gt1y, 0, none⟩) m1 m1] 26)))
    replace O_t0y := Lib.hid (O_t0y.out.kept (below_alloc _ (.cells #[.slice (some ⟨gt1x, 0, none⟩) n1 n1, .slice (some ⟨gt1y, 0, none⟩) m1 m1] 26)))
    replace O_t1x := Lib.hid (O_t1x.out.kept (below_alloc _ (.cells #[.slice (some ⟨gt1x, 0, none⟩) n1 n1, .slice (some ⟨gt1y, 0, none⟩) m1 m1] 26)))
    replace O_t1y := Lib.hid (O_t1y.out.kept (below_alloc _ (.cells #[.slice (some ⟨gt1x, 0, none⟩) n1 n1, .slice (some ⟨gt1y, 0, none⟩) m1 m1] 26)))
    have L_v1 := Lib.hid (Lies.new W7 26 #[.slice (some ⟨gt1x, 0, none⟩) n1 n1, .slice (some ⟨gt1y, 0, none⟩) m1 m1])
    replace B := Lib.hid (B.out.alloc B.out.size (.cells #[.slice (some ⟨gt1x, 0, none⟩) n1 n1, .slice (some ⟨gt1y, 0, none⟩) m1 m1] 26))
    have c_v00 : (W7.alloc (.cells #[.slice (some ⟨gt1x, 0, none⟩) n1 n1, .slice (some ⟨gt1y, 0, none⟩) m1 m1] 26)).cell? ⟨W6.heap.size, 0, none⟩ = some (.slice (some ⟨gt0x, 0, none⟩) n0 n0) := L_v0.out.cell 0
    have c_v01 : (W7.alloc (.cells #[.slice (some ⟨gt1x, 0, none⟩) n1 n1, .slice (some ⟨gt1y, 0, none⟩) m1 m1] 26)).cell? ⟨W6.heap.size, 1, none⟩ = some (.slice (some ⟨gt0y, 0, none⟩) m0 m0) := L_v0.out.cell 1
    go_wp2_with fail
    clear c_v00 c_v01
    refine (implUnionOf_yes _ _ _ _ _ _ _ _ _ _ _ _ _ _ _ _ xs0 ys0 xs1 ys1 _ (O_t0x.out.ints (Nat.zero_le _)) (O_t0y.out.ints (Nat.zero_le _)) (O_t1x.out.ints (Nat.zero_le _)) (O_t1y.out.ints (Nat.zero_le _)) hn0 hm0 hn1 hm1 HR.out).mono ?_
    rintro e W8 ⟨gx, gy, rfl, lx, ly, ox, oy, hn3, b8⟩
    have sz_W8 := b8.size
    try simp only [World.size_alloc] at sz_W8
    replace J_1 := Lib.hid (J_1.out.kept b8)
    replace J_2 := Lib.hid (J_2.out.kept b8)
    replace L_a0 := Lib.hid (L_a0.out.kept b8 L_a0.out.inside)
    replace L_a1 := Lib.hid (L_a1.out.kept b8 L_a1.out.inside)
    replace L_w0 := Lib.hid (L_w0.out.kept b8 L_w0.out.inside)
    replace L_v0 := Lib.hid (L_v0.out.kept b8 L_v0.out.inside)
    replace L_v1 := Lib.hid (L_v1.out.kept b8 L_v1.out.inside)
    replace O_t0x := Lib.hid (O_t0x.out.kept b8)
    replace O_t0y := Lib.hid (O_t0y.out.kept b8)
    replace O_t1x := Lib.hid (O_t1x.out.kept b8)
    replace O_t1y := Lib.hid (O_t1y.out.kept b8)
    replace B := Lib.hid (B.out.trans (b8.mono B.out.size))
    clear b8
    have O_x := Lib.hid ox
    clear ox
    have O_y := Lib.hid oy
    clear oy
    have in_x := O_x.out.inside
    try simp only [World.size_alloc] at in_x
    have in_y := O_y.out.inside
    try simp only [World.size_alloc] at in_y
    try simp only [World.size_alloc] at lx
    replace J_1 := Lib.hid (J_1.out.kept (below_alloc _ (.cells #[.int .i64 0, .slice (some ⟨gx, 0, none⟩) n0 n0, .slice (some ⟨gy, 0, none⟩) n0 n0] 28)))
    replace J_2 := Lib.hid (J_2.out.kept (below_alloc _ (.cells #[.int .i64 0, .slice (some ⟨gx, 0, none⟩) n0 n0, .slice (some ⟨gy, 0, none⟩) n0 n0] 28)))
    replace L_a0 := Lib.hid (L_a0.out.alloc (.cells #[.int .i64 0, .slice (some ⟨gx, 0, none⟩) n0 n0, .slice (some ⟨gy, 0, none⟩) n0 n0] 28))
    replace L_a1 := Lib.hid (L_a1.out.alloc (.cells #[.int .i64 0, .slice (some ⟨gx, 0, none⟩) n0 n0, .slice (some ⟨gy, 0, none⟩) n0 n0] 28))
    replace L_w0 := Lib.hid (L_w0.out.alloc (.cells #[.int .i64 0, .slice (some ⟨gx, 0, none⟩) n0 n0, .slice (some ⟨gy, 0, none⟩) n0 n0] 28))
    replace L_v0 := Lib.hid (L_v0.out.alloc (.cells #[.int .i64 0, .slice (some ⟨gx, 0, none⟩) n0 n0, .slice (some ⟨gy, 0, none⟩) n0 n0] 28))
    replace L_v1 := Lib.hid (L_v1.out.alloc (.cells #[.int .i64 0, .slice (some ⟨gx, 0, none⟩) n0 n0, .slice (some ⟨gy, 0, none⟩) n0 n0] 28))
    replace O_t0x := Lib.hid (O_t0x.out.kept (below_alloc _ (.cells #[.int .i64 0, .slice (some ⟨gx, 0, none⟩) n0 n0, .slice (some ⟨gy, 0, none⟩) n0 n0] 28)))
    replace O_t0y := Lib.hid (O_t0y.out.kept (below_alloc _ (.cells #[.int .i64 0, .slice (some ⟨gx, 0, none⟩) n0 n0, .slice (some ⟨gy, 0, none⟩) n0 n0] 28)))
    replace O_t1x := Lib.hid (O_t1x.out.kept (below_alloc _ (.cells #[.int .i64 0, .slice (some ⟨gx, 0, none⟩) n0 n0, .slice (some ⟨gy, 0, none⟩) n0 n0] 28)))
    replace O_t1y := Lib.hid (O_t1y.out.kept (below_alloc _ (.cells #[.int .i64 0, .slice (some ⟨gx, 0, none⟩) n0 n0, .slice (some ⟨gy, 0, none⟩) n0 n0] 28)))
    replace O_x := Lib.hid (O_x.out.kept (below_alloc _ (.cells #[.int .i64 0, .slice (some ⟨gx, 0, none⟩) n0 n0, .slice (some ⟨gy, 0, none⟩) n0 n0] 28)))
    replace O_y := Lib.hid (O_y.out.kept (below_alloc _ (.cells #[.int .i64 0, .slice (some ⟨gx, 0, none⟩) n0 n0, .slice (some ⟨gy, 0, none⟩) n0 n0] 28)))
    have L_g0 := Lib.hid (Lies.new W8 28 #[.int .i64 0, .slice (some ⟨gx, 0, none⟩) n0 n0, .slice (some ⟨gy, 0, none⟩) n0 n0])
    replace B := Lib.hid (B.out.alloc B.out.size (.cells #[.int .i64 0, .slice (some ⟨gx, 0, none⟩) n0 n0, .slice (some ⟨gy, 0, none⟩) n0 n0] 28))
    have c_w00 : (W8.alloc (.cells #[.int .i64 0, .slice (some ⟨gx, 0, none⟩) n0 n0, .slice (some ⟨gy, 0, none⟩) n0 n0] 28)).cell? ⟨n_w0, 0, none⟩ = some (.int .i64 0) := L_w0.out.cell 0
    have c_w01 : (W8.alloc (.cells #[.int .i64 0, .slice (some ⟨gx, 0, none⟩) n0 n0, .slice (some ⟨gy, 0, none⟩) n0 n0] 28)).cell? ⟨n_w0, 1, none⟩ = some (.slice (some ⟨bw, ow, none⟩) n0 cw) := L_w0.out.cell 1
    have c_w02 : (W8.alloc (.cells #[.int .i64 0, .slice (some ⟨gx, 0, none⟩) n0 n0, .slice (some ⟨gy, 0, none⟩) n0 n0] 28)).cell? ⟨n_w0, 2, none⟩ = some (.slice (some ⟨bw', ow', none⟩) n0 cw') := L_w0.out.cell 2
    go_wp2_with fail
    clear c_w00 c_w01 c_w02
    refine (eqRectResult_same _ _ _ _ _ _ _ _ _ _ _ _ _ _ _ (mins xs0 xs1) (maxs ys0 ys1) _ (O_x.out.ints (Nat.zero_le _)) (O_y.out.ints (Nat.zero_le _)) J_1.out J_2.out hn0 hn0).mono ?_
    rintro e W9 ⟨rfl, b9⟩
    have sz_W9 := b9.size
    try simp only [World.size_alloc] at sz_W9
    replace J_1 := Lib.hid (J_1.out.kept b9)
    replace J_2 := Lib.hid (J_2.out.kept b9)
    replace L_a0 := Lib.hid (L_a0.out.kept b9 L_a0.out.inside)
    replace L_a1 := Lib.hid (L_a1.out.kept b9 L_a1.out.inside)
    replace L_w0 := Lib.hid (L_w0.out.kept b9 L_w0.out.inside)
    replace L_v0 := Lib.hid (L_v0.out.kept b9 L_v0.out.inside)
    replace L_v1 := Lib.hid (L_v1.out.kept b9 L_v1.out.inside)
    replace L_g0 := Lib.hid (L_g0.out.kept b9 L_g0.out.inside)
    replace O_t0x := Lib.hid (O_t0x.out.kept b9)
    replace O_t0y := Lib.hid (O_t0y.out.kept b9)
    replace O_t1x := Lib.hid (O_t1x.out.kept b9)
    replace O_t1y := Lib.hid (O_t1y.out.kept b9)
    replace O_x := Lib.hid (O_x.out.kept b9)
    replace O_y := Lib.hid (O_y.out.kept b9)
    replace B := Lib.hid (B.out.trans (b9.mono B.out.size))
    clear b9
    go_wp2_with fail
    have k_0 : W9.cell? ⟨W6.heap.size, 0, none⟩ = some (.slice (some ⟨gt0x, 0, none⟩) n0 n0) ∧ W9.cell? ⟨W6.heap.size, 1, none⟩ = some (.slice (some ⟨gt0y, 0, none⟩) m0 m0) ∧ W9.cell? ⟨w.heap.size, 0, none⟩ = some (.slice A0 n0 c0) ∧ W9.cell? ⟨w.heap.size, 1, none⟩ = some (.slice B0 m0 e0) := ⟨L_v0.out.cell 0, L_v0.out.cell 1, L_a0.out.cell 0, L_a0.out.cell 1⟩
    go_region_held3 (fun w' => w'.cell? ⟨W6.heap.size, 0, none⟩ = some (.slice (some ⟨gt0x, 0, none⟩) n0 n0) ∧ w'.cell? ⟨W6.heap.size, 1, none⟩ = some (.slice (some ⟨gt0y, 0, none⟩) m0 m0) ∧ w'.cell? ⟨w.heap.size, 0, none⟩ = some (.slice A0 n0 c0) ∧ w'.cell? ⟨w.heap.size, 1, none⟩ = some (.slice B0 m0 e0))
      (first | (simp [go_sem, k_0]; done) | with_reducible exact k_1 | with_reducible exact k_2)
      (first
        | (go_at_call 12; refine (toRect_any _ _ _ _ _ _ _ _ xs0 ys0 _ (I_x0.out.kept B.out.drew) (I_y0.out.kept B.out.drew) (by omega) (by omega)).mono ?_
           rintro e W10 ⟨gu0x, gu0y, rfl, ou0x, ou0y, lu0x, lu0y, b10d⟩
           have b10 := below_drawn b10d
           have k_1 : W10.cell? ⟨W6.heap.size, 0, none⟩ = some (.slice (some ⟨gt0x, 0, none⟩) n0 n0) ∧ W10.cell? ⟨W6.heap.size, 1, none⟩ = some (.slice (some ⟨gt0y, 0, none⟩) m0 m0) ∧ W10.cell? ⟨w.heap.size, 0, none⟩ = some (.slice A0 n0 c0) ∧ W10.cell? ⟨w.heap.size, 1, none⟩ = some (.slice B0 m0 e0) := ⟨(L_v0.out.kept b10 L_v0.out.inside).cell 0, (L_v0.out.kept b10 L_v0.out.inside).cell 1, (L_a0.out.kept b10 L_a0.out.inside).cell 0, (L_a0.out.kept b10 L_a0.out.inside).cell 1⟩
           clear b10d)
        | (go_at_call 15; refine (eqRect_is true _ _ _ _ _ _ _ _ _ _ _ _ _ _ _ _ xs0 ys0 xs0 ys0 _ (by simp) ((O_t0x.out.kept b10).ints (Nat.zero_le _)) ((O_t0y.out.kept b10).ints (Nat.zero_le _)) (ou0x.ints (Nat.zero_le _)) (ou0y.ints (Nat.zero_le _)) hn0 hm0).mono ?_
           rintro e W11 ⟨rfl, b11⟩
           have k_2 : W11.cell? ⟨W6.heap.size, 0, none⟩ = some (.slice (some ⟨gt0x, 0, none⟩) n0 n0) ∧ W11.cell? ⟨W6.heap.size, 1, none⟩ = some (.slice (some ⟨gt0y, 0, none⟩) m0 m0) ∧ W11.cell? ⟨w.heap.size, 0, none⟩ = some (.slice A0 n0 c0) ∧ W11.cell? ⟨w.heap.size, 1, none⟩ = some (.slice B0 m0 e0) := ⟨((L_v0.out.kept b10 L_v0.out.inside).kept b11 (L_v0.out.kept b10 L_v0.out.inside).inside).cell 0, ((L_v0.out.kept b10 L_v0.out.inside).kept b11 (L_v0.out.kept b10 L_v0.out.inside).inside).cell 1, ((L_a0.out.kept b10 L_a0.out.inside).kept b11 (L_a0.out.kept b10 L_a0.out.inside).inside).cell 0, ((L_a0.out.kept b10 L_a0.out.inside).kept b11 (L_a0.out.kept b10 L_a0.out.inside).inside).cell 1⟩))
    clear k_0 k_1 k_2
    have sz_W10 := b10.size
    try simp only [World.size_alloc] at sz_W10
    replace J_1 := Lib.hid (J_1.out.kept b10)
    replace J_2 := Lib.hid (J_2.out.kept b10)
    replace L_a0 := Lib.hid (L_a0.out.kept b10 L_a0.out.inside)
    replace L_a1 := Lib.hid (L_a1.out.kept b10 L_a1.out.inside)
    replace L_w0 := Lib.hid (L_w0.out.kept b10 L_w0.out.inside)
    replace L_v0 := Lib.hid (L_v0.out.kept b10 L_v0.out.inside)
    replace L_v1 := Lib.hid (L_v1.out.kept b10 L_v1.out.inside)
    replace L_g0 := Lib.hid (L_g0.out.kept b10 L_g0.out.inside)
    replace O_t0x := Lib.hid (O_t0x.out.kept b10)
    replace O_t0y := Lib.hid (O_t0y.out.kept b10)
    replace O_t1x := Lib.hid (O_t1x.out.kept b10)
    replace O_t1y := Lib.hid (O_t1y.out.kept b10)
    replace O_x := Lib.hid (O_x.out.kept b10)
    replace O_y := Lib.hid (O_y.out.kept b10)
    replace B := Lib.hid (B.out.trans (b10.mono B.out.size))
    clear b10
    have O_u0x := Lib.hid ou0x
    clear ou0x
    have O_u0y := Lib.hid ou0y
    clear ou0y
    have sz_W11 := b11.size
    try simp only [World.size_alloc] at sz_W11
    replace J_1 := Lib.hid (J_1.out.kept b11)
    replace J_2 := Lib.hid (J_2.out.kept b11)
    replace L_a0 := Lib.hid (L_a0.out.kept b11 L_a0.out.inside)
    replace L_a1 := Lib.hid (L_a1.out.kept b11 L_a1.out.inside)
    replace L_w0 := Lib.hid (L_w0.out.kept b11 L_w0.out.inside)
    replace L_v0 := Lib.hid (L_v0.out.kept b11 L_v0.out.inside)
    replace L_v1 := Lib.hid (L_v1.out.kept b11 L_v1.out.inside)
    replace L_g0 := Lib.hid (L_g0.out.kept b11 L_g0.out.inside)
    replace O_t0x := Lib.hid (O_t0x.out.kept b11)
    replace O_t0y := Lib.hid (O_t0y.out.kept b11)
    replace O_t1x := Lib.hid (O_t1x.out.kept b11)
    replace O_t1y := Lib.hid (O_t1y.out.kept b11)
    replace O_x := Lib.hid (O_x.out.kept b11)
    replace O_y := Lib.hid (O_y.out.kept b11)
    replace O_u0x := Lib.hid (O_u0x.out.kept b11)
    replace O_u0y := Lib.hid (O_u0y.out.kept b11)
    replace B := Lib.hid (B.out.trans (b11.mono B.out.size))
    clear b11
    clear O_u0x
    clear O_u0y
    go_wp2_with fail
    have k_0 : W11.cell? ⟨W7.heap.size, 0, none⟩ = some (.slice (some ⟨gt1x, 0, none⟩) n1 n1) ∧ W11.cell? ⟨W7.heap.size, 1, none⟩ = some (.slice (some ⟨gt1y, 0, none⟩) m1 m1) ∧ W11.cell? ⟨w.heap.size + 1, 0, none⟩ = some (.slice A1 n1 c1) ∧ W11.cell? ⟨w.heap.size + 1, 1, none⟩ = some (.slice B1 m1 e1) := ⟨L_v1.out.cell 0, L_v1.out.cell 1, L_a1.out.cell 0, L_a1.out.cell 1⟩
    go_region_held3 (fun w' => w'.cell? ⟨W7.heap.size, 0, none⟩ = some (.slice (some ⟨gt1x, 0, none⟩) n1 n1) ∧ w'.cell? ⟨W7.heap.size, 1, none⟩ = some (.slice (some ⟨gt1y, 0, none⟩) m1 m1) ∧ w'.cell? ⟨w.heap.size + 1, 0, none⟩ = some (.slice A1 n1 c1) ∧ w'.cell? ⟨w.heap.size + 1, 1, none⟩ = some (.slice B1 m1 e1))
      (first | (simp [go_sem, k_0]; done) | with_reducible exact k_1 | with_reducible exact k_2)
      (first
        | (go_at_call 12; refine (toRect_any _ _ _ _ _ _ _ _ xs1 ys1 _ (I_x1.out.kept B.out.drew) (I_y1.out.kept B.out.drew) (by omega) (by omega)).mono ?_
           rintro e W12 ⟨gu1x, gu1y, rfl, ou1x, ou1y, lu1x, lu1y, b12d⟩
           have b12 := below_drawn b12d
           have k_1 : W12.cell? ⟨W7.heap.size, 0, none⟩ = some (.slice (some ⟨gt1x, 0, none⟩) n1 n1) ∧ W12.cell? ⟨W7.heap.size, 1, none⟩ = some (.slice (some ⟨gt1y, 0, none⟩) m1 m1) ∧ W12.cell? ⟨w.heap.size + 1, 0, none⟩ = some (.slice A1 n1 c1) ∧ W12.cell? ⟨w.heap.size + 1, 1, none⟩ = some (.slice B1 m1 e1) := ⟨(L_v1.out.kept b12 L_v1.out.inside).cell 0, (L_v1.out.kept b12 L_v1.out.inside).cell 1, (L_a1.out.kept b12 L_a1.out.inside).cell 0, (L_a1.out.kept b12 L_a1.out.inside).cell 1⟩
           clear b12d)
        | (go_at_call 15; refine (eqRect_is true _ _ _ _ _ _ _ _ _ _ _ _ _ _ _ _ xs1 ys1 xs1 ys1 _ (by simp) ((O_t1x.out.kept b12).ints (Nat.zero_le _)) ((O_t1y.out.kept b12).ints (Nat.zero_le _)) (ou1x.ints (Nat.zero_le _)) (ou1y.ints (Nat.zero_le _)) hn1 hm1).mono ?_
           rintro e W13 ⟨rfl, b13⟩
           have k_2 : W13.cell? ⟨W7.heap.size, 0, none⟩ = some (.slice (some ⟨gt1x, 0, none⟩) n1 n1) ∧ W13.cell? ⟨W7.heap.size, 1, none⟩ = some (.slice (some ⟨gt1y, 0, none⟩) m1 m1) ∧ W13.cell? ⟨w.heap.size + 1, 0, none⟩ = some (.slice A1 n1 c1) ∧ W13.cell? ⟨w.heap.size + 1, 1, none⟩ = some (.slice B1 m1 e1) := ⟨((L_v1.out.kept b12 L_v1.out.inside).kept b13 (L_v1.out.kept b12 L_v1.out.inside).inside).cell 0, ((L_v1.out.kept b12 L_v1.out.inside).kept b13 (L_v1.out.kept b12 L_v1.out.inside).inside).cell 1, ((L_a1.out.kept b12 L_a1.out.inside).kept b13 (L_a1.out.kept b12 L_a1.out.inside).inside).cell 0, ((L_a1.out.kept b12 L_a1.out.inside).kept b13 (L_a1.out.kept b12 L_a1.out.inside).inside).cell 1⟩))
    clear k_0 k_1 k_2
    have sz_W12 := b12.size
    try simp only [World.size_alloc] at sz_W12
    replace J_1 := Lib.hid (J_1.out.kept b12)
    replace J_2 := Lib.hid (J_2.out.kept b12)
    replace L_a0 := Lib.hid (L_a0.out.kept b12 L_a0.out.inside)
    replace L_a1 := Lib.hid (L_a1.out.kept b12 L_a1.out.inside)
    replace L_w0 := Lib.hid (L_w0.out.kept b12 L_w0.out.inside)
    replace L_v0 := Lib.hid (L_v0.out.kept b12 L_v0.out.inside)
    replace L_v1 := Lib.hid (L_v1.out.kept b12 L_v1.out.inside)
    replace L_g0 := Lib.hid (L_g0.out.kept b12 L_g0.out.inside)
    replace O_t0x := Lib.hid (O_t0x.out.kept b12)
    replace O_t0y := Lib.hid (O_t0y.out.kept b12)
    replace O_t1x := Lib.hid (O_t1x.out.kept b12)
    replace O_t1y := Lib.hid (O_t1y.out.kept b12)
    replace O_x := Lib.hid (O_x.out.kept b12)
    replace O_y := Lib.hid (O_y.out.kept b12)
    replace B := Lib.hid (B.out.trans (b12.mono B.out.size))
    clear b12
    have O_u1x := Lib.hid ou1x
    clear ou1x
    have O_u1y := Lib.hid ou1y
    clear ou1y
    have sz_W13 := b13.size
    try simp only [World.size_alloc] at sz_W13
    replace J_1 := Lib.hid (J_1.out.kept b13)
    replace J_2 := Lib.hid (J_2.out.kept b13)
    replace L_a0 := Lib.hid (L_a0.out.kept b13 L_a0.out.inside)
    replace L_a1 := Lib.hid (L_a1.out.kept b13 L_a1.out.inside)
    replace L_w0 := Lib.hid (L_w0.out.kept b13 L_w0.out.inside)
    replace L_v0 := Lib.hid (L_v0.out.kept b13 L_v0.out.inside)
    replace L_v1 := Lib.hid (L_v1.out.kept b13 L_v1.out.inside)
    replace L_g0 := Lib.hid (L_g0.out.kept b13 L_g0.out.inside)
    replace O_t0x := Lib.hid (O_t0x.out.kept b13)
    replace O_t0y := Lib.hid (O_t0y.out.kept b13)
    replace O_t1x := Lib.hid (O_t1x.out.kept b13)
    replace O_t1y := Lib.hid (O_t1y.out.kept b13)
    replace O_x := Lib.hid (O_x.out.kept b13)
    replace O_y := Lib.hid (O_y.out.kept b13)
    replace O_u1x := Lib.hid (O_u1x.out.kept b13)
    replace O_u1y := Lib.hid (O_u1y.out.kept b13)
    replace B := Lib.hid (B.out.trans (b13.mono B.out.size))
    clear b13
    clear O_u1x
    clear O_u1y
    have c_v00 : W13.cell? ⟨W6.heap.size, 0, none⟩ = some (.slice (some ⟨gt0x, 0, none⟩) n0 n0) := L_v0.out.cell 0
    have c_v01 : W13.cell? ⟨W6.heap.size, 1, none⟩ = some (.slice (some ⟨gt0y, 0, none⟩) m0 m0) := L_v0.out.cell 1
    go_wp2_with fail
    clear c_v00 c_v01
    refine (markRect_any _ _ _ _ _ _ _ xs0 ys0 _ O_t0x.out O_t0y.out (by omega) (by omega) (by omega) (by omega) (by omega)).mono ?_
    rintro e W14 ⟨rfl, om1, om2, b14⟩
    have sz_W14 := b14.2.1
    try simp only [World.size_alloc] at sz_W14
    replace L_a0 := Lib.hid (b14.lies L_a0.out (by show ¬ (w.heap.size = gt0x ∨ w.heap.size = gt0y); omega))
    replace L_a1 := Lib.hid (b14.lies L_a1.out (by show ¬ (w.heap.size + 1 = gt0x ∨ w.heap.size + 1 = gt0y); omega))
    replace L_w0 := Lib.hid (b14.lies L_w0.out (by show ¬ (n_w0 = gt0x ∨ n_w0 = gt0y); omega))
    replace L_v0 := Lib.hid (b14.lies L_v0.out (by show ¬ (W6.heap.size = gt0x ∨ W6.heap.size = gt0y); omega))
    replace L_v1 := Lib.hid (b14.lies L_v1.out (by show ¬ (W7.heap.size = gt0x ∨ W7.heap.size = gt0y); omega))
    replace L_g0 := Lib.hid (b14.lies L_g0.out (by show ¬ (W8.heap.size = gt0x ∨ W8.heap.size = gt0y); omega))
    replace O_t1x := Lib.hid (b14.own O_t1x.out (by show ¬ (gt1x = gt0x ∨ gt1x = gt0y); omega))
    replace O_t1y := Lib.hid (b14.own O_t1y.out (by show ¬ (gt1y = gt0x ∨ gt1y = gt0y); omega))
    replace O_x := Lib.hid (b14.own O_x.out (by show ¬ (gx = gt0x ∨ gx = gt0y); omega))
    replace O_y := Lib.hid (b14.own O_y.out (by show ¬ (gy = gt0x ∨ gy = gt0y); omega))
    replace O_t0x := Lib.hid om1
    replace O_t0y := Lib.hid om2
    replace J_1 := Lib.hid (b14.ints J_1.out (by intro b o e; injection e with e; injection e with e1 e2; subst e1; show ¬ (bw = gt0x ∨ bw = gt0y); omega))
    replace J_2 := Lib.hid (b14.ints J_2.out (by intro b o e; injection e with e; injection e with e1 e2; subst e1; show ¬ (bw' = gt0x ∨ bw' = gt0y); omega))
    replace B := Lib.hid (b14.below B.out (by intro k hk; show w.heap.size ≤ k; rcases hk with rfl | rfl <;> omega))
    clear b14 om1 om2
    have c_v10 : W14.cell? ⟨W7.heap.size, 0, none⟩ = some (.slice (some ⟨gt1x, 0, none⟩) n1 n1) := L_v1.out.cell 0
    have c_v11 : W14.cell? ⟨W7.heap.size, 1, none⟩ = some (.slice (some ⟨gt1y, 0, none⟩) m1 m1) := L_v1.out.cell 1
    go_wp2_with fail
    clear c_v10 c_v11
    refine (markRect_any _ _ _ _ _ _ _ xs1 ys1 _ O_t1x.out O_t1y.out (by omega) (by omega) (by omega) (by omega) (by omega)).mono ?_
    rintro e W15 ⟨rfl, om1, om2, b15⟩
    have sz_W15 := b15.2.1
    try simp only [World.size_alloc] at sz_W15
    replace L_a0 := Lib.hid (b15.lies L_a0.out (by show ¬ (w.heap.size = gt1x ∨ w.heap.size = gt1y); omega))
    replace L_a1 := Lib.hid (b15.lies L_a1.out (by show ¬ (w.heap.size + 1 = gt1x ∨ w.heap.size + 1 = gt1y); omega))
    replace L_w0 := Lib.hid (b15.lies L_w0.out (by show ¬ (n_w0 = gt1x ∨ n_w0 = gt1y); omega))
    replace L_v0 := Lib.hid (b15.lies L_v0.out (by show ¬ (W6.heap.size = gt1x ∨ W6.heap.size = gt1y); omega))
    replace L_v1 := Lib.hid (b15.lies L_v1.out (by show ¬ (W7.heap.size = gt1x ∨ W7.heap.size = gt1y); omega))
    replace L_g0 := Lib.hid (b15.lies L_g0.out (by show ¬ (W8.heap.size = gt1x ∨ W8.heap.size = gt1y); omega))
    replace O_t0x := Lib.hid (b15.own O_t0x.out (by show ¬ (gt0x = gt1x ∨ gt0x = gt1y); omega))
    replace O_t0y := Lib.hid (b15.own O_t0y.out (by show ¬ (gt0y = gt1x ∨ gt0y = gt1y); omega))
    replace O_x := Lib.hid (b15.own O_x.out (by show ¬ (gx = gt1x ∨ gx = gt1y); omega))
    replace O_y := Lib.hid (b15.own O_y.out (by show ¬ (gy = gt1x ∨ gy = gt1y); omega))
    replace O_t1x := Lib.hid om1
    replace O_t1y := Lib.hid om2
    replace J_1 := Lib.hid (b15.ints J_1.out (by intro b o e; injection e with e; injection e with e1 e2; subst e1; show ¬ (bw = gt1x ∨ bw = gt1y); omega))
    replace J_2 := Lib.hid (b15.ints J_2.out (by intro b o e; injection e with e; injection e with e1 e2; subst e1; show ¬ (bw' = gt1x ∨ bw' = gt1y); omega))
    replace B := Lib.hid (b15.below B.out (by intro k hk; show w.heap.size ≤ k; rcases hk with rfl | rfl <;> omega))
    clear b15 om1 om2
    have kpos : ¬ ((1 : Int) + n0 + m0 + n1 + m1 < 0) := by omega
    have c_g00 : W15.cell? ⟨W8.heap.size, 0, none⟩ = some (.int .i64 0) := L_g0.out.cell 0
    have c_g01 : W15.cell? ⟨W8.heap.size, 1, none⟩ = some (.slice (some ⟨gx, 0, none⟩) n0 n0) := L_g0.out.cell 1
    have c_g02 : W15.cell? ⟨W8.heap.size, 2, none⟩ = some (.slice (some ⟨gy, 0, none⟩) n0 n0) := L_g0.out.cell 2
    have c_w00 : W15.cell? ⟨n_w0, 0, none⟩ = some (.int .i64 0) := L_w0.out.cell 0
    have c_w01 : W15.cell? ⟨n_w0, 1, none⟩ = some (.slice (some ⟨bw, ow, none⟩) n0 cw) := L_w0.out.cell 1
    have c_w02 : W15.cell? ⟨n_w0, 2, none⟩ = some (.slice (some ⟨bw', ow', none⟩) n0 cw') := L_w0.out.cell 2
    go_wp2_with fail
    clear c_g00 c_g01 c_g02 c_w00 c_w01 c_w02
    refine (eqRectResult_same _ _ _ _ _ _ _ _ _ _ _ _ _ _ _ (mins xs0 xs1) (maxs ys0 ys1) _ (O_x.out.ints (Nat.zero_le _)) (O_y.out.ints (Nat.zero_le _)) J_1.out J_2.out hn0 hn0).mono ?_
    rintro e W16 ⟨rfl, b16⟩
    have sz_W16 := b16.size
    try simp only [World.size_alloc] at sz_W16
    replace J_1 := Lib.hid (J_1.out.kept b16)
    replace J_2 := Lib.hid (J_2.out.kept b16)
    replace L_a0 := Lib.hid (L_a0.out.kept b16 L_a0.out.inside)
    replace L_a1 := Lib.hid (L_a1.out.kept b16 L_a1.out.inside)
    replace L_w0 := Lib.hid (L_w0.out.kept b16 L_w0.out.inside)
    replace L_v0 := Lib.hid (L_v0.out.kept b16 L_v0.out.inside)
    replace L_v1 := Lib.hid (L_v1.out.kept b16 L_v1.out.inside)
    replace L_g0 := Lib.hid (L_g0.out.kept b16 L_g0.out.inside)
    replace O_t0x := Lib.hid (O_t0x.out.kept b16)
    replace O_t0y := Lib.hid (O_t0y.out.kept b16)
    replace O_t1x := Lib.hid (O_t1x.out.kept b16)
    replace O_t1y := Lib.hid (O_t1y.out.kept b16)
    replace O_x := Lib.hid (O_x.out.kept b16)
    replace O_y := Lib.hid (O_y.out.kept b16)
    replace B := Lib.hid (B.out.trans (b16.mono B.out.size))
    clear b16
    have c_g00 : W16.cell? ⟨W8.heap.size, 0, none⟩ = some (.int .i64 0) := L_g0.out.cell 0
    have c_g01 : W16.cell? ⟨W8.heap.size, 1, none⟩ = some (.slice (some ⟨gx, 0, none⟩) n0 n0) := L_g0.out.cell 1
    have c_g02 : W16.cell? ⟨W8.heap.size, 2, none⟩ = some (.slice (some ⟨gy, 0, none⟩) n0 n0) := L_g0.out.cell 2
    go_wp2_with fail
    clear c_g00 c_g01 c_g02
    refine (markRectResult_any _ _ _ _ _ _ _ _ (mins xs0 xs1) (maxs ys0 ys1) _ O_x.out O_y.out (by omega) (by omega) (by omega) (by omega) (by omega)).mono ?_
    rintro e W17 ⟨rfl, om1, om2, b17⟩
    have sz_W17 := b17.2.1
    try simp only [World.size_alloc] at sz_W17
    replace L_a0 := Lib.hid (b17.lies L_a0.out (by show ¬ (w.heap.size = gx ∨ w.heap.size = gy); omega))
    replace L_a1 := Lib.hid (b17.lies L_a1.out (by show ¬ (w.heap.size + 1 = gx ∨ w.heap.size + 1 = gy); omega))
    replace L_w0 := Lib.hid (b17.lies L_w0.out (by show ¬ (n_w0 = gx ∨ n_w0 = gy); omega))
    replace L_v0 := Lib.hid (b17.lies L_v0.out (by show ¬ (W6.heap.size = gx ∨ W6.heap.size = gy); omega))
    replace L_v1 := Lib.hid (b17.lies L_v1.out (by show ¬ (W7.heap.size = gx ∨ W7.heap.size = gy); omega))
    replace L_g0 := Lib.hid (b17.lies L_g0.out (by show ¬ (W8.heap.size = gx ∨ W8.heap.size = gy); omega))
    replace O_t0x := Lib.hid (b17.own O_t0x.out (by show ¬ (gt0x = gx ∨ gt0x = gy); omega))
    replace O_t0y := Lib.hid (b17.own O_t0y.out (by show ¬ (gt0y = gx ∨ gt0y = gy); omega))
    replace O_t1x := Lib.hid (b17.own O_t1x.out (by show ¬ (gt1x = gx ∨ gt1x = gy); omega))
    replace O_t1y := Lib.hid (b17.own O_t1y.out (by show ¬ (gt1y = gx ∨ gt1y = gy); omega))
    replace O_x := Lib.hid om1
    replace O_y := Lib.hid om2
    replace J_1 := Lib.hid (b17.ints J_1.out (by intro b o e; injection e with e; injection e with e1 e2; subst e1; show ¬ (bw = gx ∨ bw = gy); omega))
    replace J_2 := Lib.hid (b17.ints J_2.out (by intro b o e; injection e with e; injection e with e1 e2; subst e1; show ¬ (bw' = gx ∨ bw' = gy); omega))
    replace B := Lib.hid (b17.below B.out (by intro k hk; show w.heap.size ≤ k; rcases hk with rfl | rfl <;> omega))
    clear b17 om1 om2
    have qpos : ¬ ((1 : Int) + n0 + n0 < 0) := by omega
    have qeq : (((1 : Int) + n0 + n0) != (1 + n0 + n0)) = false := by simp
    have c_g00 : W17.cell? ⟨W8.heap.size, 0, none⟩ = some (.int .i64 0) := L_g0.out.cell 0
    have c_g01 : W17.cell? ⟨W8.heap.size, 1, none⟩ = some (.slice (some ⟨gx, 0, none⟩) n0 n0) := L_g0.out.cell 1
    have c_g02 : W17.cell? ⟨W8.heap.size, 2, none⟩ = some (.slice (some ⟨gy, 0, none⟩) n0 n0) := L_g0.out.cell 2
    go_wp2_with fail
    clear c_g00 c_g01 c_g02
    refine (heldRectResult_any _ _ _ _ _ _ _ _ _ _ _ (O_x.out.ints (Nat.zero_le _)) (O_y.out.ints (Nat.zero_le _)) (by omega) (by omega) (by omega) (by omega)).mono ?_
    rintro e W18 ⟨rfl, b18⟩
    have sz_W18 := b18.size
    try simp only [World.size_alloc] at sz_W18
    replace J_1 := Lib.hid (J_1.out.kept b18)
    replace J_2 := Lib.hid (J_2.out.kept b18)
    replace L_a0 := Lib.hid (L_a0.out.kept b18 L_a0.out.inside)
    replace L_a1 := Lib.hid (L_a1.out.kept b18 L_a1.out.inside)
    replace L_w0 := Lib.hid (L_w0.out.kept b18 L_w0.out.inside)
    replace L_v0 := Lib.hid (L_v0.out.kept b18 L_v0.out.inside)
    replace L_v1 := Lib.hid (L_v1.out.kept b18 L_v1.out.inside)
    replace L_g0 := Lib.hid (L_g0.out.kept b18 L_g0.out.inside)
    replace O_t0x := Lib.hid (O_t0x.out.kept b18)
    replace O_t0y := Lib.hid (O_t0y.out.kept b18)
    replace O_t1x := Lib.hid (O_t1x.out.kept b18)
    replace O_t1y := Lib.hid (O_t1y.out.kept b18)
    replace O_x := Lib.hid (O_x.out.kept b18)
    replace O_y := Lib.hid (O_y.out.kept b18)
    replace B := Lib.hid (B.out.trans (b18.mono B.out.size))
    clear b18
    go_upto_region 31 with fail
    go_cut [13] (fun s13 wx => ∃ (n_h0 : Nat) (gp gq : Nat), s13 = .pointer (some ⟨n_h0, 0, none⟩) ∧ Hid (Lies wx n_h0 28 #[.int .i64 0, .slice (some ⟨gp, 0, none⟩) n0 n0, .slice (some ⟨gq, 0, none⟩) n0 n0]) ∧ W18.heap.size ≤ n_h0 ∧ Hid (Ints wx 0 (some ⟨gp, 0, none⟩) n0 (mins xs0 xs1)) ∧ Hid (Ints wx 0 (some ⟨gq, 0, none⟩) n0 (maxs ys0 ys1)) ∧ Hid (Since W18 wx))
    case first =>
      have c_a00 : W18.cell? ⟨w.heap.size, 0, none⟩ = some (.slice A0 n0 c0) := L_a0.out.cell 0
      have c_a01 : W18.cell? ⟨w.heap.size, 1, none⟩ = some (.slice B0 m0 e0) := L_a0.out.cell 1
      have c_a10 : W18.cell? ⟨w.heap.size + 1, 0, none⟩ = some (.slice A1 n1 c1) := L_a1.out.cell 0
      have c_a11 : W18.cell? ⟨w.heap.size + 1, 1, none⟩ = some (.slice B1 m1 e1) := L_a1.out.cell 1
      have i_a0 := L_a0.out.inside
      have l_a0 := Nat.le_of_lt i_a0
      have i_a1 := L_a1.out.inside
      have l_a1 := Nat.le_of_lt i_a1
      have zd := size_of_drew
      go_region_held3 (fun w' => w'.cell? ⟨w.heap.size, 0, none⟩ = some (.slice A0 n0 c0) ∧ w'.cell? ⟨w.heap.size, 1, none⟩ = some (.slice B0 m0 e0) ∧ w'.cell? ⟨w.heap.size + 1, 0, none⟩ = some (.slice A1 n1 c1) ∧ w'.cell? ⟨w.heap.size + 1, 1, none⟩ = some (.slice B1 m1 e1))
        (exact ⟨Lies.cell (t := 24) (cs := #[.slice A0 n0 c0, .slice B0 m0 e0]) (by with_reducible (repeat (first | refine Lies.far ?_ ?_ _ | refine Lies.alloc ?_ _ | refine Lies.drew ?_ | refine Lies.call ?_ b21 | refine Lies.call ?_ b20 | refine Lies.call ?_ b19 | exact L_a0.out | exact L_a1.out)); all_goals (simp only [size_of_drew, size_of_setCell, World.size_alloc]; omega)) 0, Lies.cell (t := 24) (cs := #[.slice A0 n0 c0, .slice B0 m0 e0]) (by with_reducible (repeat (first | refine Lies.far ?_ ?_ _ | refine Lies.alloc ?_ _ | refine Lies.drew ?_ | refine Lies.call ?_ b21 | refine Lies.call ?_ b20 | refine Lies.call ?_ b19 | exact L_a0.out | exact L_a1.out)); all_goals (simp only [size_of_drew, size_of_setCell, World.size_alloc]; omega)) 1, Lies.cell (t := 24) (cs := #[.slice A1 n1 c1, .slice B1 m1 e1]) (by with_reducible (repeat (first | refine Lies.far ?_ ?_ _ | refine Lies.alloc ?_ _ | refine Lies.drew ?_ | refine Lies.call ?_ b21 | refine Lies.call ?_ b20 | refine Lies.call ?_ b19 | exact L_a0.out | exact L_a1.out)); all_goals (simp only [size_of_drew, size_of_setCell, World.size_alloc]; omega)) 0, Lies.cell (t := 24) (cs := #[.slice A1 n1 c1, .slice B1 m1 e1]) (by with_reducible (repeat (first | refine Lies.far ?_ ?_ _ | refine Lies.alloc ?_ _ | refine Lies.drew ?_ | refine Lies.call ?_ b21 | refine Lies.call ?_ b20 | refine Lies.call ?_ b19 | exact L_a0.out | exact L_a1.out)); all_goals (simp only [size_of_drew, size_of_setCell, World.size_alloc]; omega)) 1⟩)
        (first
          | (go_at_call_of 12 (Value.agg #[.slice A0 n0 c0, .slice B0 m0 e0]); refine (toRect_any _ _ _ _ _ _ _ _ xs0 ys0 _ (I_x0.out.kept (by with_reducible (repeat (first | refine Since.below ?_ | refine Since.drew ?_ | refine Since.alloc ?_ _ | exact Since.of B.out)))) (I_y0.out.kept (by with_reducible (repeat (first | refine Since.below ?_ | refine Since.drew ?_ | refine Since.alloc ?_ _ | exact Since.of B.out)))) (by omega) (by omega)).mono ?_
             rintro e W19 ⟨gr0x, gr0y, rfl, or0x, or0y, lr0x, lr0y, b19⟩
             have q_W19 := cells_kept b19
             have u_W19 := frozen_kept b19
             have z_W19 := sizes_kept b19
             try simp only [size_of_drew, World.size_alloc] at z_W19
             have le_W18_W19 : W18.heap.size ≤ W19.heap.size := by omega
             try (have lt_W18_W19 : W18.heap.size < W19.heap.size := by omega))
          | (go_at_call_of 12 (Value.agg #[.slice A1 n1 c1, .slice B1 m1 e1]); refine (toRect_any _ _ _ _ _ _ _ _ xs1 ys1 _ (I_x1.out.kept (by with_reducible (repeat (first | refine Since.below ?_ | refine Since.drew ?_ | refine Since.alloc ?_ _ | refine Since.call ?_ b19 | exact Since.of B.out)))) (I_y1.out.kept (by with_reducible (repeat (first | refine Since.below ?_ | refine Since.drew ?_ | refine Since.alloc ?_ _ | refine Since.call ?_ b19 | exact Since.of B.out)))) (by omega) (by omega)).mono ?_
             rintro e W20 ⟨gr1x, gr1y, rfl, or1x, or1y, lr1x, lr1y, b20⟩
             have q_W20 := cells_kept b20
             have u_W20 := frozen_kept b20
             have z_W20 := sizes_kept b20
             try simp only [size_of_drew, World.size_alloc] at z_W20
             have le_W18_W20 : W18.heap.size ≤ W20.heap.size := by omega
             try (have lt_W18_W20 : W18.heap.size < W20.heap.size := by omega)
             have le_W19_W20 : W19.heap.size ≤ W20.heap.size := by omega
             try (have lt_W19_W20 : W19.heap.size < W20.heap.size := by omega))
          | (go_at_call 13; refine (implUnionOf_yes _ _ _ _ _ _ _ _ _ _ _ _ _ _ _ _ xs0 ys0 xs1 ys1 _ (Own.ints (by with_reducible (repeat (first | exact or0x | refine Own.drew' ?_ | refine Own.alloc ?_ _ | refine Own.call ?_ b20 | refine Own.call ?_ b19))) (Nat.zero_le _)) (Own.ints (by with_reducible (repeat (first | exact or0y | refine Own.drew' ?_ | refine Own.alloc ?_ _ | refine Own.call ?_ b20 | refine Own.call ?_ b19))) (Nat.zero_le _)) (Own.ints (by with_reducible (repeat (first | exact or1x | refine Own.drew' ?_ | refine Own.alloc ?_ _ | refine Own.call ?_ b20 | refine Own.call ?_ b19))) (Nat.zero_le _)) (Own.ints (by with_reducible (repeat (first | exact or1y | refine Own.drew' ?_ | refine Own.alloc ?_ _ | refine Own.call ?_ b20 | refine Own.call ?_ b19))) (Nat.zero_le _)) hn0 hm0 hn1 hm1 HR.out).mono ?_
             rintro e W21 ⟨gp, gq, rfl, lp, lq, op, oq, hn3', b21⟩
             have q_W21 := cells_kept b21
             have u_W21 := frozen_kept b21
             have z_W21 := sizes_kept b21
             try simp only [size_of_drew, World.size_alloc] at z_W21
             have le_W18_W21 : W18.heap.size ≤ W21.heap.size := by omega
             try (have lt_W18_W21 : W18.heap.size < W21.heap.size := by omega)
             have le_W19_W21 : W19.heap.size ≤ W21.heap.size := by omega
             try (have lt_W19_W21 : W19.heap.size < W21.heap.size := by omega)
             have le_W20_W21 : W20.heap.size ≤ W21.heap.size := by omega
             try (have lt_W20_W21 : W20.heap.size < W21.heap.size := by omega)))
      all_goals
        rename_i hH
        clear hH zd q_W19 u_W19 q_W20 u_W20 q_W21 u_W21 c_a00 c_a01 c_a10 c_a11
        go_wp2_with fail
        go_meet
        refine ⟨_, gp, gq, rfl, ?_, ?_, ?_, ?_, ?_⟩
        · refine Lib.hid ?_
          first
            | (refine Lies.as (cs := (((#[.int .i64 0, .slice none 0 0, .slice none 0 0].setIfInBounds 0 (.int .i64 0)).setIfInBounds 1 (.slice (some ⟨gp, 0, none⟩) n0 n0)).setIfInBounds 2 (.slice (some ⟨gq, 0, none⟩) n0 n0))) ?_ (by simp)
               with_reducible (repeat (first | refine Lies.set ?_ _ _ | refine Lies.far ?_ ?_ _ | (refine Lies.laid ?_; (simp only [size_of_drew, size_of_setCell, World.size_alloc]; done)) | exact Lies.new _ _ _ | exact Lies.laid2 _ _ _ _ | refine Lies.alloc ?_ _ | refine Lies.drew ?_ | refine Lies.call ?_ b21 | refine Lies.call ?_ b20 | refine Lies.call ?_ b19))
               all_goals first | exact Nat.ne_of_lt (Nat.lt_succ_self _) | exact Nat.ne_of_gt (Nat.lt_succ_self _) | exact Nat.ne_of_lt lt_W18_W19 | exact Nat.ne_of_gt lt_W18_W19 | exact Nat.ne_of_lt lt_W18_W20 | exact Nat.ne_of_gt lt_W18_W20 | exact Nat.ne_of_lt lt_W18_W21 | exact Nat.ne_of_gt lt_W18_W21 | exact Nat.ne_of_lt lt_W19_W20 | exact Nat.ne_of_gt lt_W19_W20 | exact Nat.ne_of_lt lt_W19_W21 | exact Nat.ne_of_gt lt_W19_W21 | exact Nat.ne_of_lt lt_W20_W21 | exact Nat.ne_of_gt lt_W20_W21 | (show ¬ _ = _; (try simp only [size_of_drew, size_of_setCell, World.size_alloc]); omega)
               done)
            | (with_reducible (repeat (first | refine Lies.far ?_ ?_ _ | (refine Lies.laid ?_; (simp only [size_of_drew, size_of_setCell, World.size_alloc]; done)) | exact Lies.new _ _ _ | exact Lies.laid2 _ _ _ _ | refine Lies.alloc ?_ _ | refine Lies.drew ?_ | refine Lies.call ?_ b21 | refine Lies.call ?_ b20 | refine Lies.call ?_ b19))
               all_goals first | exact Nat.ne_of_lt (Nat.lt_succ_self _) | exact Nat.ne_of_gt (Nat.lt_succ_self _) | exact Nat.ne_of_lt lt_W18_W19 | exact Nat.ne_of_gt lt_W18_W19 | exact Nat.ne_of_lt lt_W18_W20 | exact Nat.ne_of_gt lt_W18_W20 | exact Nat.ne_of_lt lt_W18_W21 | exact Nat.ne_of_gt lt_W18_W21 | exact Nat.ne_of_lt lt_W19_W20 | exact Nat.ne_of_gt lt_W19_W20 | exact Nat.ne_of_lt lt_W19_W21 | exact Nat.ne_of_gt lt_W19_W21 | exact Nat.ne_of_lt lt_W20_W21 | exact Nat.ne_of_gt lt_W20_W21 | (show ¬ _ = _; (try simp only [size_of_drew, size_of_setCell, World.size_alloc]); omega)
               done)
        · first | exact Nat.le_refl _ | exact Nat.le_succ _ | exact le_W18_W19 | exact Nat.le_succ_of_le le_W18_W19 | exact le_W18_W20 | exact Nat.le_succ_of_le le_W18_W20 | exact le_W18_W21 | exact Nat.le_succ_of_le le_W18_W21 | omega
        · refine Lib.hid ?_
          have k5 := op.inside
          have k6 := oq.inside
          have k7 := lp
          (try simp only [size_of_drew, size_of_setCell, World.size_alloc] at k7)
          with_reducible (repeat (first | refine Ints.farB ?_ ?_ _ | refine Ints.allocB ?_ _ | refine Ints.drew ?_))
          · exact Ints.lower (op.ints (Nat.zero_le _)) (Nat.zero_le _)
          all_goals ((try dsimp only); (try simp only [size_of_drew, size_of_setCell, World.size_alloc]); omega)
        · refine Lib.hid ?_
          have k5 := op.inside
          have k6 := oq.inside
          have k7 := lp
          (try simp only [size_of_drew, size_of_setCell, World.size_alloc] at k7)
          with_reducible (repeat (first | refine Ints.farB ?_ ?_ _ | refine Ints.allocB ?_ _ | refine Ints.drew ?_))
          · exact Ints.lower (oq.ints (Nat.zero_le _)) (Nat.zero_le _)
          all_goals ((try dsimp only); (try simp only [size_of_drew, size_of_setCell, World.size_alloc]); omega)
        · refine Lib.hid ?_
          with_reducible (repeat (first | refine Since.setCell ?_ ?_ _ | refine Since.alloc ?_ _ | refine Since.drew ?_ | refine Since.call ?_ b21 | refine Since.call ?_ b20 | refine Since.call ?_ b19))
          · exact Since.of (Below.refl _ _)
          all_goals first | exact Nat.le_refl _ | exact Nat.le_succ _ | exact le_W18_W19 | exact Nat.le_succ_of_le le_W18_W19 | exact le_W18_W20 | exact Nat.le_succ_of_le le_W18_W20 | exact le_W18_W21 | exact Nat.le_succ_of_le le_W18_W21 | (show _ ≤ _; (try simp only [size_of_drew, size_of_setCell, World.size_alloc]); omega)
    case' rest =>
      obtain ⟨n_h0, gp, gq, rfl, L_h0, g_h0, J_3, J_4, S⟩ := hcut
      have bS := S.out.below
      clear S
    have d_h0_a0 : ¬ n_h0 = w.heap.size := by have := L_a0.out.inside; omega
    have e_h0_a0 : ¬ w.heap.size = n_h0 := fun e => d_h0_a0 e.symm
    have d_h0_a1 : ¬ n_h0 = w.heap.size + 1 := by have := L_a1.out.inside; omega
    have e_h0_a1 : ¬ w.heap.size + 1 = n_h0 := fun e => d_h0_a1 e.symm
    have d_h0_w0 : ¬ n_h0 = n_w0 := by have := L_w0.out.inside; omega
    have e_h0_w0 : ¬ n_w0 = n_h0 := fun e => d_h0_w0 e.symm
    have d_h0_v0 : ¬ n_h0 = W6.heap.size := by have := L_v0.out.inside; omega
    have e_h0_v0 : ¬ W6.heap.size = n_h0 := fun e => d_h0_v0 e.symm
    have d_h0_v1 : ¬ n_h0 = W7.heap.size := by have := L_v1.out.inside; omega
    have e_h0_v1 : ¬ W7.heap.size = n_h0 := fun e => d_h0_v1 e.symm
    have d_h0_g0 : ¬ n_h0 = W8.heap.size := by have := L_g0.out.inside; omega
    have e_h0_g0 : ¬ W8.heap.size = n_h0 := fun e => d_h0_g0 e.symm
    skip
    have sz_wc := bS.size
    try simp only [World.size_alloc] at sz_wc
    replace J_1 := Lib.hid (J_1.out.kept bS)
    replace J_2 := Lib.hid (J_2.out.kept bS)
    replace L_a0 := Lib.hid (L_a0.out.kept bS L_a0.out.inside)
    replace L_a1 := Lib.hid (L_a1.out.kept bS L_a1.out.inside)
    replace L_w0 := Lib.hid (L_w0.out.kept bS L_w0.out.inside)
    replace L_v0 := Lib.hid (L_v0.out.kept bS L_v0.out.inside)
    replace L_v1 := Lib.hid (L_v1.out.kept bS L_v1.out.inside)
    replace L_g0 := Lib.hid (L_g0.out.kept bS L_g0.out.inside)
    replace O_t0x := Lib.hid (O_t0x.out.kept bS)
    replace O_t0y := Lib.hid (O_t0y.out.kept bS)
    replace O_t1x := Lib.hid (O_t1x.out.kept bS)
    replace O_t1y := Lib.hid (O_t1y.out.kept bS)
    replace O_x := Lib.hid (O_x.out.kept bS)
    replace O_y := Lib.hid (O_y.out.kept bS)
    replace B := Lib.hid (B.out.trans (bS.mono B.out.size))
    clear bS
    have c_h00 : wc.cell? ⟨n_h0, 0, none⟩ = some (.int .i64 0) := L_h0.out.cell 0
    have c_h01 : wc.cell? ⟨n_h0, 1, none⟩ = some (.slice (some ⟨gp, 0, none⟩) n0 n0) := L_h0.out.cell 1
    have c_h02 : wc.cell? ⟨n_h0, 2, none⟩ = some (.slice (some ⟨gq, 0, none⟩) n0 n0) := L_h0.out.cell 2
    have c_w00 : wc.cell? ⟨n_w0, 0, none⟩ = some (.int .i64 0) := L_w0.out.cell 0
    have c_w01 : wc.cell? ⟨n_w0, 1, none⟩ = some (.slice (some ⟨bw, ow, none⟩) n0 cw) := L_w0.out.cell 1
    have c_w02 : wc.cell? ⟨n_w0, 2, none⟩ = some (.slice (some ⟨bw', ow', none⟩) n0 cw') := L_w0.out.cell 2
    go_wp2_with fail
    clear c_h00 c_h01 c_h02 c_w00 c_w01 c_w02
    refine (eqRectResult_same _ _ _ _ _ _ _ _ _ _ _ _ _ _ _ (mins xs0 xs1) (maxs ys0 ys1) _ J_3.out J_4.out J_1.out J_2.out hn0 hn0).mono ?_
    rintro e W22 ⟨rfl, b22⟩
    have sz_W22 := b22.size
    try simp only [World.size_alloc] at sz_W22
    replace J_1 := Lib.hid (J_1.out.kept b22)
    replace J_2 := Lib.hid (J_2.out.kept b22)
    replace L_a0 := Lib.hid (L_a0.out.kept b22 L_a0.out.inside)
    replace L_a1 := Lib.hid (L_a1.out.kept b22 L_a1.out.inside)
    replace L_w0 := Lib.hid (L_w0.out.kept b22 L_w0.out.inside)
    replace L_v0 := Lib.hid (L_v0.out.kept b22 L_v0.out.inside)
    replace L_v1 := Lib.hid (L_v1.out.kept b22 L_v1.out.inside)
    replace L_g0 := Lib.hid (L_g0.out.kept b22 L_g0.out.inside)
    replace L_h0 := Lib.hid (L_h0.out.kept b22 L_h0.out.inside)
    replace O_t0x := Lib.hid (O_t0x.out.kept b22)
    replace O_t0y := Lib.hid (O_t0y.out.kept b22)
    replace O_t1x := Lib.hid (O_t1x.out.kept b22)
    replace O_t1y := Lib.hid (O_t1y.out.kept b22)
    replace O_x := Lib.hid (O_x.out.kept b22)
    replace O_y := Lib.hid (O_y.out.kept b22)
    replace B := Lib.hid (B.out.trans (b22.mono B.out.size))
    clear b22
    have c_g00 : W22.cell? ⟨W8.heap.size, 0, none⟩ = some (.int .i64 0) := L_g0.out.cell 0
    have c_g01 : W22.cell? ⟨W8.heap.size, 1, none⟩ = some (.slice (some ⟨gx, 0, none⟩) n0 n0) := L_g0.out.cell 1
    have c_g02 : W22.cell? ⟨W8.heap.size, 2, none⟩ = some (.slice (some ⟨gy, 0, none⟩) n0 n0) := L_g0.out.cell 2
    go_wp2_with fail
    clear c_g00 c_g01 c_g02
    refine (heldRectResult_any _ _ _ _ _ _ _ _ _ _ _ (O_x.out.ints (Nat.zero_le _)) (O_y.out.ints (Nat.zero_le _)) (by omega) (by omega) (by omega) (by omega)).mono ?_
    rintro e W23 ⟨rfl, b23⟩
    have sz_W23 := b23.size
    try simp only [World.size_alloc] at sz_W23
    replace J_1 := Lib.hid (J_1.out.kept b23)
    replace J_2 := Lib.hid (J_2.out.kept b23)
    replace L_a0 := Lib.hid (L_a0.out.kept b23 L_a0.out.inside)
    replace L_a1 := Lib.hid (L_a1.out.kept b23 L_a1.out.inside)
    replace L_w0 := Lib.hid (L_w0.out.kept b23 L_w0.out.inside)
    replace L_v0 := Lib.hid (L_v0.out.kept b23 L_v0.out.inside)
    replace L_v1 := Lib.hid (L_v1.out.kept b23 L_v1.out.inside)
    replace L_g0 := Lib.hid (L_g0.out.kept b23 L_g0.out.inside)
    replace L_h0 := Lib.hid (L_h0.out.kept b23 L_h0.out.inside)
    replace O_t0x := Lib.hid (O_t0x.out.kept b23)
    replace O_t0y := Lib.hid (O_t0y.out.kept b23)
    replace O_t1x := Lib.hid (O_t1x.out.kept b23)
    replace O_t1y := Lib.hid (O_t1y.out.kept b23)
    replace O_x := Lib.hid (O_x.out.kept b23)
    replace O_y := Lib.hid (O_y.out.kept b23)
    replace B := Lib.hid (B.out.trans (b23.mono B.out.size))
    clear b23
    go_wp2
    go_ret
    exact ⟨rfl, B.out⟩
  · have HR := Lib.hid hr
    clear hr
    go_enter Try.func3, Try.ntmps3
    go_wp2_with fail
    refine (szRect_yes _ _ _ _ _ _ _ _ (by omega) hn0 hm0 (by omega)).mono ?_
    rintro e W1 ⟨rfl, b1⟩
    have sz_W1 := b1.size
    try simp only [World.size_alloc] at sz_W1
    replace L_a0 := Lib.hid (L_a0.out.kept b1 L_a0.out.inside)
    replace L_a1 := Lib.hid (L_a1.out.kept b1 L_a1.out.inside)
    replace B := Lib.hid (B.out.trans (b1.mono B.out.size))
    clear b1
    have c_a00 : W1.cell? ⟨w.heap.size, 0, none⟩ = some (.slice A0 n0 c0) := L_a0.out.cell 0
    have c_a01 : W1.cell? ⟨w.heap.size, 1, none⟩ = some (.slice B0 m0 e0) := L_a0.out.cell 1
    have c_a10 : W1.cell? ⟨w.heap.size + 1, 0, none⟩ = some (.slice A1 n1 c1) := L_a1.out.cell 0
    have c_a11 : W1.cell? ⟨w.heap.size + 1, 1, none⟩ = some (.slice B1 m1 e1) := L_a1.out.cell 1
    go_wp2_with fail
    clear c_a00 c_a01 c_a10 c_a11
    refine (szRect_yes _ _ _ _ _ _ _ _ (by omega) hn1 hm1 (by omega)).mono ?_
    rintro e W2 ⟨rfl, b2⟩
    have sz_W2 := b2.size
    try simp only [World.size_alloc] at sz_W2
    replace L_a0 := Lib.hid (L_a0.out.kept b2 L_a0.out.inside)
    replace L_a1 := Lib.hid (L_a1.out.kept b2 L_a1.out.inside)
    replace B := Lib.hid (B.out.trans (b2.mono B.out.size))
    clear b2
    have szB := B.out.size
    go_upto_region 8 with fail
    go_cut [6] (fun s6 wx => ∃ n_w0 : Nat, s6 = .pointer (some ⟨n_w0, 0, none⟩) ∧ Hid (Lies wx n_w0 28 #[.int .i64 (rf2 xs0 ys0 xs1 ys1), .slice none 0 0, .slice none 0 0]) ∧ W2.heap.size ≤ n_w0 ∧ Hid (Since W2 wx))
    case first =>
      have c_a00 : W2.cell? ⟨w.heap.size, 0, none⟩ = some (.slice A0 n0 c0) := L_a0.out.cell 0
      have c_a01 : W2.cell? ⟨w.heap.size, 1, none⟩ = some (.slice B0 m0 e0) := L_a0.out.cell 1
      have c_a10 : W2.cell? ⟨w.heap.size + 1, 0, none⟩ = some (.slice A1 n1 c1) := L_a1.out.cell 0
      have c_a11 : W2.cell? ⟨w.heap.size + 1, 1, none⟩ = some (.slice B1 m1 e1) := L_a1.out.cell 1
      have i_a0 := L_a0.out.inside
      have l_a0 := Nat.le_of_lt i_a0
      have i_a1 := L_a1.out.inside
      have l_a1 := Nat.le_of_lt i_a1
      have zd := size_of_drew
      go_region_held3 (fun w' => w'.cell? ⟨w.heap.size, 0, none⟩ = some (.slice A0 n0 c0) ∧ w'.cell? ⟨w.heap.size, 1, none⟩ = some (.slice B0 m0 e0) ∧ w'.cell? ⟨w.heap.size + 1, 0, none⟩ = some (.slice A1 n1 c1) ∧ w'.cell? ⟨w.heap.size + 1, 1, none⟩ = some (.slice B1 m1 e1))
        (exact ⟨Lies.cell (t := 24) (cs := #[.slice A0 n0 c0, .slice B0 m0 e0]) (by with_reducible (repeat (first | refine Lies.far ?_ ?_ _ | refine Lies.alloc ?_ _ | refine Lies.drew ?_ | refine Lies.call ?_ b5 | refine Lies.call ?_ b4 | refine Lies.call ?_ b3 | exact L_a0.out | exact L_a1.out)); all_goals (simp only [size_of_drew, size_of_setCell, World.size_alloc]; omega)) 0, Lies.cell (t := 24) (cs := #[.slice A0 n0 c0, .slice B0 m0 e0]) (by with_reducible (repeat (first | refine Lies.far ?_ ?_ _ | refine Lies.alloc ?_ _ | refine Lies.drew ?_ | refine Lies.call ?_ b5 | refine Lies.call ?_ b4 | refine Lies.call ?_ b3 | exact L_a0.out | exact L_a1.out)); all_goals (simp only [size_of_drew, size_of_setCell, World.size_alloc]; omega)) 1, Lies.cell (t := 24) (cs := #[.slice A1 n1 c1, .slice B1 m1 e1]) (by with_reducible (repeat (first | refine Lies.far ?_ ?_ _ | refine Lies.alloc ?_ _ | refine Lies.drew ?_ | refine Lies.call ?_ b5 | refine Lies.call ?_ b4 | refine Lies.call ?_ b3 | exact L_a0.out | exact L_a1.out)); all_goals (simp only [size_of_drew, size_of_setCell, World.size_alloc]; omega)) 0, Lies.cell (t := 24) (cs := #[.slice A1 n1 c1, .slice B1 m1 e1]) (by with_reducible (repeat (first | refine Lies.far ?_ ?_ _ | refine Lies.alloc ?_ _ | refine Lies.drew ?_ | refine Lies.call ?_ b5 | refine Lies.call ?_ b4 | refine Lies.call ?_ b3 | exact L_a0.out | exact L_a1.out)); all_goals (simp only [size_of_drew, size_of_setCell, World.size_alloc]; omega)) 1⟩)
        (first
          | (go_at_call_of 12 (Value.agg #[.slice A0 n0 c0, .slice B0 m0 e0]); refine (toRect_any _ _ _ _ _ _ _ _ xs0 ys0 _ (I_x0.out.kept (by with_reducible (repeat (first | refine Since.below ?_ | refine Since.drew ?_ | refine Since.alloc ?_ _ | exact Since.of B.out)))) (I_y0.out.kept (by with_reducible (repeat (first | refine Since.below ?_ | refine Since.drew ?_ | refine Since.alloc ?_ _ | exact Since.of B.out)))) (by omega) (by omega)).mono ?_
             rintro e W3 ⟨gs0x, gs0y, rfl, os0x, os0y, ls0x, ls0y, b3⟩
             have q_W3 := cells_kept b3
             have u_W3 := frozen_kept b3
             have z_W3 := sizes_kept b3
             try simp only [size_of_drew, World.size_alloc] at z_W3
             have le_W2_W3 : W2.heap.size ≤ W3.heap.size := by omega
             try (have lt_W2_W3 : W2.heap.size < W3.heap.size := by omega))
          | (go_at_call_of 12 (Value.agg #[.slice A1 n1 c1, .slice B1 m1 e1]); refine (toRect_any _ _ _ _ _ _ _ _ xs1 ys1 _ (I_x1.out.kept (by with_reducible (repeat (first | refine Since.below ?_ | refine Since.drew ?_ | refine Since.alloc ?_ _ | refine Since.call ?_ b3 | exact Since.of B.out)))) (I_y1.out.kept (by with_reducible (repeat (first | refine Since.below ?_ | refine Since.drew ?_ | refine Since.alloc ?_ _ | refine Since.call ?_ b3 | exact Since.of B.out)))) (by omega) (by omega)).mono ?_
             rintro e W4 ⟨gs1x, gs1y, rfl, os1x, os1y, ls1x, ls1y, b4⟩
             have q_W4 := cells_kept b4
             have u_W4 := frozen_kept b4
             have z_W4 := sizes_kept b4
             try simp only [size_of_drew, World.size_alloc] at z_W4
             have le_W2_W4 : W2.heap.size ≤ W4.heap.size := by omega
             try (have lt_W2_W4 : W2.heap.size < W4.heap.size := by omega)
             have le_W3_W4 : W3.heap.size ≤ W4.heap.size := by omega
             try (have lt_W3_W4 : W3.heap.size < W4.heap.size := by omega))
          | (go_at_call 11; refine (specUnionOf_no _ _ _ _ _ _ _ _ _ _ _ _ _ _ _ _ xs0 ys0 xs1 ys1 _ (Own.ints (by with_reducible (repeat (first | exact os0x | refine Own.drew' ?_ | refine Own.alloc ?_ _ | refine Own.call ?_ b4 | refine Own.call ?_ b3))) (Nat.zero_le _)) (Own.ints (by with_reducible (repeat (first | exact os0y | refine Own.drew' ?_ | refine Own.alloc ?_ _ | refine Own.call ?_ b4 | refine Own.call ?_ b3))) (Nat.zero_le _)) (Own.ints (by with_reducible (repeat (first | exact os1x | refine Own.drew' ?_ | refine Own.alloc ?_ _ | refine Own.call ?_ b4 | refine Own.call ?_ b3))) (Nat.zero_le _)) (Own.ints (by with_reducible (repeat (first | exact os1y | refine Own.drew' ?_ | refine Own.alloc ?_ _ | refine Own.call ?_ b4 | refine Own.call ?_ b3))) (Nat.zero_le _)) hn0 hm0 hn1 hm1 HR.out).mono ?_
             rintro e W5 ⟨rfl, b5⟩
             have q_W5 := cells_kept b5
             have u_W5 := frozen_kept b5
             have z_W5 := sizes_kept b5
             try simp only [size_of_drew, World.size_alloc] at z_W5
             have le_W2_W5 : W2.heap.size ≤ W5.heap.size := by omega
             try (have lt_W2_W5 : W2.heap.size < W5.heap.size := by omega)
             have le_W3_W5 : W3.heap.size ≤ W5.heap.size := by omega
             try (have lt_W3_W5 : W3.heap.size < W5.heap.size := by omega)
             have le_W4_W5 : W4.heap.size ≤ W5.heap.size := by omega
             try (have lt_W4_W5 : W4.heap.size < W5.heap.size := by omega)))
      all_goals
        rename_i hH
        clear hH zd q_W3 u_W3 q_W4 u_W4 q_W5 u_W5 c_a00 c_a01 c_a10 c_a11
        go_wp2_with fail
        go_meet
        refine ⟨_, rfl, ?_, ?_, ?_⟩
        · refine Lib.hid ?_
          first
            | (refine Lies.as (cs := (((#[.int .i64 0, .slice none 0 0, .slice none 0 0].setIfInBounds 0 (.int .i64 (rf2 xs0 ys0 xs1 ys1))).setIfInBounds 1 (.slice none 0 0)).setIfInBounds 2 (.slice none 0 0))) ?_ (by simp)
               with_reducible (repeat (first | refine Lies.set ?_ _ _ | refine Lies.far ?_ ?_ _ | (refine Lies.laid ?_; (simp only [size_of_drew, size_of_setCell, World.size_alloc]; done)) | exact Lies.new _ _ _ | exact Lies.laid2 _ _ _ _ | refine Lies.alloc ?_ _ | refine Lies.drew ?_ | refine Lies.call ?_ b5 | refine Lies.call ?_ b4 | refine Lies.call ?_ b3))
               all_goals first | exact Nat.ne_of_lt (Nat.lt_succ_self _) | exact Nat.ne_of_gt (Nat.lt_succ_self _) | exact Nat.ne_of_lt lt_W2_W3 | exact Nat.ne_of_gt lt_W2_W3 | exact Nat.ne_of_lt lt_W2_W4 | exact Nat.ne_of_gt lt_W2_W4 | exact Nat.ne_of_lt lt_W2_W5 | exact Nat.ne_of_gt lt_W2_W5 | exact Nat.ne_of_lt lt_W3_W4 | exact Nat.ne_of_gt lt_W3_W4 | exact Nat.ne_of_lt lt_W3_W5 | exact Nat.ne_of_gt lt_W3_W5 | exact Nat.ne_of_lt lt_W4_W5 | exact Nat.ne_of_gt lt_W4_W5 | (show ¬ _ = _; (try simp only [size_of_drew, size_of_setCell, World.size_alloc]); omega)
               done)
            | (with_reducible (repeat (first | refine Lies.far ?_ ?_ _ | (refine Lies.laid ?_; (simp only [size_of_drew, size_of_setCell, World.size_alloc]; done)) | exact Lies.new _ _ _ | exact Lies.laid2 _ _ _ _ | refine Lies.alloc ?_ _ | refine Lies.drew ?_ | refine Lies.call ?_ b5 | refine Lies.call ?_ b4 | refine Lies.call ?_ b3))
               all_goals first | exact Nat.ne_of_lt (Nat.lt_succ_self _) | exact Nat.ne_of_gt (Nat.lt_succ_self _) | exact Nat.ne_of_lt lt_W2_W3 | exact Nat.ne_of_gt lt_W2_W3 | exact Nat.ne_of_lt lt_W2_W4 | exact Nat.ne_of_gt lt_W2_W4 | exact Nat.ne_of_lt lt_W2_W5 | exact Nat.ne_of_gt lt_W2_W5 | exact Nat.ne_of_lt lt_W3_W4 | exact Nat.ne_of_gt lt_W3_W4 | exact Nat.ne_of_lt lt_W3_W5 | exact Nat.ne_of_gt lt_W3_W5 | exact Nat.ne_of_lt lt_W4_W5 | exact Nat.ne_of_gt lt_W4_W5 | (show ¬ _ = _; (try simp only [size_of_drew, size_of_setCell, World.size_alloc]); omega)
               done)
        · first | exact Nat.le_refl _ | exact Nat.le_succ _ | exact le_W2_W3 | exact Nat.le_succ_of_le le_W2_W3 | exact le_W2_W4 | exact Nat.le_succ_of_le le_W2_W4 | exact le_W2_W5 | exact Nat.le_succ_of_le le_W2_W5 | omega
        · refine Lib.hid ?_
          with_reducible (repeat (first | refine Since.setCell ?_ ?_ _ | refine Since.alloc ?_ _ | refine Since.drew ?_ | refine Since.call ?_ b5 | refine Since.call ?_ b4 | refine Since.call ?_ b3))
          · exact Since.of (Below.refl _ _)
          all_goals first | exact Nat.le_refl _ | exact Nat.le_succ _ | exact le_W2_W3 | exact Nat.le_succ_of_le le_W2_W3 | exact le_W2_W4 | exact Nat.le_succ_of_le le_W2_W4 | exact le_W2_W5 | exact Nat.le_succ_of_le le_W2_W5 | (show _ ≤ _; (try simp only [size_of_drew, size_of_setCell, World.size_alloc]); omega)
    case' rest =>
      obtain ⟨n_w0, rfl, L_w0, g_w0, S⟩ := hcut
      have bS := S.out.below
      clear S
    have d_w0_a0 : ¬ n_w0 = w.heap.size := by have := L_a0.out.inside; omega
    have e_w0_a0 : ¬ w.heap.size = n_w0 := fun e => d_w0_a0 e.symm
    have d_w0_a1 : ¬ n_w0 = w.heap.size + 1 := by have := L_a1.out.inside; omega
    have e_w0_a1 : ¬ w.heap.size + 1 = n_w0 := fun e => d_w0_a1 e.symm
    clear g_w0
    have sz_wc := bS.size
    try simp only [World.size_alloc] at sz_wc
    replace L_a0 := Lib.hid (L_a0.out.kept bS L_a0.out.inside)
    replace L_a1 := Lib.hid (L_a1.out.kept bS L_a1.out.inside)
    replace B := Lib.hid (B.out.trans (bS.mono B.out.size))
    clear bS
    generalize hWA : wc = WA at *
    clear hWA
    have in_w0 := L_w0.out.inside
    have c_a00 : WA.cell? ⟨w.heap.size, 0, none⟩ = some (.slice A0 n0 c0) := L_a0.out.cell 0
    have c_a01 : WA.cell? ⟨w.heap.size, 1, none⟩ = some (.slice B0 m0 e0) := L_a0.out.cell 1
    go_wp2_with fail
    clear c_a00 c_a01
    refine (toRect_any _ _ _ _ _ _ _ _ xs0 ys0 _ (I_x0.out.kept B.out) (I_y0.out.kept B.out) (by omega) (by omega)).mono ?_
    rintro e W6 ⟨gt0x, gt0y, rfl, ot0x, ot0y, lt0x, lt0y, b6⟩
    have sz_W6 := b6.size
    try simp only [World.size_alloc] at sz_W6
    replace L_a0 := Lib.hid (L_a0.out.kept b6 L_a0.out.inside)
    replace L_a1 := Lib.hid (L_a1.out.kept b6 L_a1.out.inside)
    replace L_w0 := Lib.hid (L_w0.out.kept b6 L_w0.out.inside)
    replace B := Lib.hid (B.out.trans (b6.mono B.out.size))
    clear b6
    have O_t0x := Lib.hid ot0x
    clear ot0x
    have O_t0y := Lib.hid ot0y
    clear ot0y
    have in_t0x := O_t0x.out.inside
    try simp only [World.size_alloc] at in_t0x
    have in_t0y := O_t0y.out.inside
    try simp only [World.size_alloc] at in_t0y
    try simp only [World.size_alloc] at lt0x
    replace L_a0 := Lib.hid (L_a0.out.alloc (.cells #[.slice (some ⟨gt0x, 0, none⟩) n0 n0, .slice (some ⟨gt0y, 0, none⟩) m0 m0] 26))
    replace L_a1 := Lib.hid (L_a1.out.alloc (.cells #[.slice (some ⟨gt0x, 0, none⟩) n0 n0, .slice (some ⟨gt0y, 0, none⟩) m0 m0] 26))
    replace L_w0 := Lib.hid (L_w0.out.alloc (.cells #[.slice (some ⟨gt0x, 0, none⟩) n0 n0, .slice (some ⟨gt0y, 0, none⟩) m0 m0] 26))
    replace O_t0x := Lib.hid (O_t0x.out.kept (below_alloc _ (.cells #[.slice (some ⟨gt0x, 0, none⟩) n0 n0, .slice (some ⟨gt0y, 0, none⟩) m0 m0] 26)))
    replace O_t0y := Lib.hid (O_t0y.out.kept (below_alloc _ (.cells #[.slice (some ⟨gt0x, 0, none⟩) n0 n0, .slice (some ⟨gt0y, 0, none⟩) m0 m0] 26)))
    have L_v0 := Lib.hid (Lies.new W6 26 #[.slice (some ⟨gt0x, 0, none⟩) n0 n0, .slice (some ⟨gt0y, 0, none⟩) m0 m0])
    replace B := Lib.hid (B.out.alloc B.out.size (.cells #[.slice (some ⟨gt0x, 0, none⟩) n0 n0, .slice (some ⟨gt0y, 0, none⟩) m0 m0] 26))
    have c_a10 : (W6.alloc (.cells #[.slice (some ⟨gt0x, 0, none⟩) n0 n0, .slice (some ⟨gt0y, 0, none⟩) m0 m0] 26)).cell? ⟨w.heap.size + 1, 0, none⟩ = some (.slice A1 n1 c1) := L_a1.out.cell 0
    have c_a11 : (W6.alloc (.cells #[.slice (some ⟨gt0x, 0, none⟩) n0 n0, .slice (some ⟨gt0y, 0, none⟩) m0 m0] 26)).cell? ⟨w.heap.size + 1, 1, none⟩ = some (.slice B1 m1 e1) := L_a1.out.cell 1
    go_wp2_with fail
    clear c_a10 c_a11
    refine (toRect_any _ _ _ _ _ _ _ _ xs1 ys1 _ (I_x1.out.kept B.out) (I_y1.out.kept B.out) (by omega) (by omega)).mono ?_
    rintro e W7 ⟨gt1x, gt1y, rfl, ot1x, ot1y, lt1x, lt1y, b7⟩
    have sz_W7 := b7.size
    try simp only [World.size_alloc] at sz_W7
    replace L_a0 := Lib.hid (L_a0.out.kept b7 L_a0.out.inside)
    replace L_a1 := Lib.hid (L_a1.out.kept b7 L_a1.out.inside)
    replace L_w0 := Lib.hid (L_w0.out.kept b7 L_w0.out.inside)
    replace L_v0 := Lib.hid (L_v0.out.kept b7 L_v0.out.inside)
    replace O_t0x := Lib.hid (O_t0x.out.kept b7)
    replace O_t0y := Lib.hid (O_t0y.out.kept b7)
    replace B := Lib.hid (B.out.trans (b7.mono B.out.size))
    clear b7
    have O_t1x := Lib.hid ot1x
    clear ot1x
    have O_t1y := Lib.hid ot1y
    clear ot1y
    have in_t1x := O_t1x.out.inside
    try simp only [World.size_alloc] at in_t1x
    have in_t1y := O_t1y.out.inside
    try simp only [World.size_alloc] at in_t1y
    try simp only [World.size_alloc] at lt1x
    replace L_a0 := Lib.hid (L_a0.out.alloc (.cells #[.slice (some ⟨gt1x, 0, none⟩) n1 n1, .slice (some ⟨gt1y, 0, none⟩) m1 m1] 26))
    replace L_a1 := Lib.hid (L_a1.out.alloc (.cells #[.slice (some ⟨gt1x, 0, none⟩) n1 n1, .slice (some ⟨gt1y, 0, none⟩) m1 m1] 26))
    replace L_w0 := Lib.hid (L_w0.out.alloc (.cells #[.slice (some ⟨gt1x, 0, none⟩) n1 n1, .slice (some ⟨gt1y, 0, none⟩) m1 m1] 26))
    replace L_v0 := Lib.hid (L_v0.out.alloc (.cells #[.slice (some ⟨gt1x, 0, none⟩) n1 n1, .slice (some ⟨gt1y, 0, none⟩) m1 m1] 26))
    replace O_t0x := Lib.hid (O_t0x.out.kept (below_alloc _ (.cells #[.slice (some ⟨gt1x, 0, none⟩) n1 n1, .slice (some ⟨gt1y, 0, none⟩) m1 m1] 26)))
    replace O_t0y := Lib.hid (O_t0y.out.kept (below_alloc _ (.cells #[.slice (some ⟨gt1x, 0, none⟩) n1 n1, .slice (some ⟨gt1y, 0, none⟩) m1 m1] 26)))
    replace O_t1x := Lib.hid (O_t1x.out.kept (below_alloc _ (.cells #[.slice (some ⟨gt1x, 0, none⟩) n1 n1, .slice (some ⟨gt1y, 0, none⟩) m1 m1] 26)))
    replace O_t1y := Lib.hid (O_t1y.out.kept (below_alloc _ (.cells #[.slice (some ⟨gt1x, 0, none⟩) n1 n1, .slice (some ⟨gt1y, 0, none⟩) m1 m1] 26)))
    have L_v1 := Lib.hid (Lies.new W7 26 #[.slice (some ⟨gt1x, 0, none⟩) n1 n1, .slice (some ⟨gt1y, 0, none⟩) m1 m1])
    replace B := Lib.hid (B.out.alloc B.out.size (.cells #[.slice (some ⟨gt1x, 0, none⟩) n1 n1, .slice (some ⟨gt1y, 0, none⟩) m1 m1] 26))
    have c_v00 : (W7.alloc (.cells #[.slice (some ⟨gt1x, 0, none⟩) n1 n1, .slice (some ⟨gt1y, 0, none⟩) m1 m1] 26)).cell? ⟨W6.heap.size, 0, none⟩ = some (.slice (some ⟨gt0x, 0, none⟩) n0 n0) := L_v0.out.cell 0
    have c_v01 : (W7.alloc (.cells #[.slice (some ⟨gt1x, 0, none⟩) n1 n1, .slice (some ⟨gt1y, 0, none⟩) m1 m1] 26)).cell? ⟨W6.heap.size, 1, none⟩ = some (.slice (some ⟨gt0y, 0, none⟩) m0 m0) := L_v0.out.cell 1
    go_wp2_with fail
    clear c_v00 c_v01
    refine (implUnionOf_no _ _ _ _ _ _ _ _ _ _ _ _ _ _ _ _ xs0 ys0 xs1 ys1 _ (O_t0x.out.ints (Nat.zero_le _)) (O_t0y.out.ints (Nat.zero_le _)) (O_t1x.out.ints (Nat.zero_le _)) (O_t1y.out.ints (Nat.zero_le _)) hn0 hm0 hn1 hm1 HR.out).mono ?_
    rintro e W8 ⟨rfl, b8⟩
    have sz_W8 := b8.size
    try simp only [World.size_alloc] at sz_W8
    replace L_a0 := Lib.hid (L_a0.out.kept b8 L_a0.out.inside)
    replace L_a1 := Lib.hid (L_a1.out.kept b8 L_a1.out.inside)
    replace L_w0 := Lib.hid (L_w0.out.kept b8 L_w0.out.inside)
    replace L_v0 := Lib.hid (L_v0.out.kept b8 L_v0.out.inside)
    replace L_v1 := Lib.hid (L_v1.out.kept b8 L_v1.out.inside)
    replace O_t0x := Lib.hid (O_t0x.out.kept b8)
    replace O_t0y := Lib.hid (O_t0y.out.kept b8)
    replace O_t1x := Lib.hid (O_t1x.out.kept b8)
    replace O_t1y := Lib.hid (O_t1y.out.kept b8)
    replace B := Lib.hid (B.out.trans (b8.mono B.out.size))
    clear b8
    replace L_a0 := Lib.hid (L_a0.out.alloc (.cells #[.int .i64 (rf2 xs0 ys0 xs1 ys1), .slice none 0 0, .slice none 0 0] 28))
    replace L_a1 := Lib.hid (L_a1.out.alloc (.cells #[.int .i64 (rf2 xs0 ys0 xs1 ys1), .slice none 0 0, .slice none 0 0] 28))
    replace L_w0 := Lib.hid (L_w0.out.alloc (.cells #[.int .i64 (rf2 xs0 ys0 xs1 ys1), .slice none 0 0, .slice none 0 0] 28))
    replace L_v0 := Lib.hid (L_v0.out.alloc (.cells #[.int .i64 (rf2 xs0 ys0 xs1 ys1), .slice none 0 0, .slice none 0 0] 28))
    replace L_v1 := Lib.hid (L_v1.out.alloc (.cells #[.int .i64 (rf2 xs0 ys0 xs1 ys1), .slice none 0 0, .slice none 0 0] 28))
    replace O_t0x := Lib.hid (O_t0x.out.kept (below_alloc _ (.cells #[.int .i64 (rf2 xs0 ys0 xs1 ys1), .slice none 0 0, .slice none 0 0] 28)))
    replace O_t0y := Lib.hid (O_t0y.out.kept (below_alloc _ (.cells #[.int .i64 (rf2 xs0 ys0 xs1 ys1), .slice none 0 0, .slice none 0 0] 28)))
    replace O_t1x := Lib.hid (O_t1x.out.kept (below_alloc _ (.cells #[.int .i64 (rf2 xs0 ys0 xs1 ys1), .slice none 0 0, .slice none 0 0] 28)))
    replace O_t1y := Lib.hid (O_t1y.out.kept (below_alloc _ (.cells #[.int .i64 (rf2 xs0 ys0 xs1 ys1), .slice none 0 0, .slice none 0 0] 28)))
    have L_g0 := Lib.hid (Lies.new W8 28 #[.int .i64 (rf2 xs0 ys0 xs1 ys1), .slice none 0 0, .slice none 0 0])
    replace B := Lib.hid (B.out.alloc B.out.size (.cells #[.int .i64 (rf2 xs0 ys0 xs1 ys1), .slice none 0 0, .slice none 0 0] 28))
    have c_w00 : (W8.alloc (.cells #[.int .i64 (rf2 xs0 ys0 xs1 ys1), .slice none 0 0, .slice none 0 0] 28)).cell? ⟨n_w0, 0, none⟩ = some (.int .i64 (rf2 xs0 ys0 xs1 ys1)) := L_w0.out.cell 0
    have c_w01 : (W8.alloc (.cells #[.int .i64 (rf2 xs0 ys0 xs1 ys1), .slice none 0 0, .slice none 0 0] 28)).cell? ⟨n_w0, 1, none⟩ = some (.slice none 0 0) := L_w0.out.cell 1
    have c_w02 : (W8.alloc (.cells #[.int .i64 (rf2 xs0 ys0 xs1 ys1), .slice none 0 0, .slice none 0 0] 28)).cell? ⟨n_w0, 2, none⟩ = some (.slice none 0 0) := L_w0.out.cell 2
    go_wp2_with fail
    clear c_w00 c_w01 c_w02
    refine (eqRectResult_same _ _ _ _ _ _ _ _ _ _ _ _ _ _ _ ([]) ([]) _ (Ints.empty _ 0 _) (Ints.empty _ 0 _) (Ints.empty _ 0 _) (Ints.empty _ 0 _) (Nat.zero_le _) (Nat.zero_le _)).mono ?_
    rintro e W9 ⟨rfl, b9⟩
    have sz_W9 := b9.size
    try simp only [World.size_alloc] at sz_W9
    replace L_a0 := Lib.hid (L_a0.out.kept b9 L_a0.out.inside)
    replace L_a1 := Lib.hid (L_a1.out.kept b9 L_a1.out.inside)
    replace L_w0 := Lib.hid (L_w0.out.kept b9 L_w0.out.inside)
    replace L_v0 := Lib.hid (L_v0.out.kept b9 L_v0.out.inside)
    replace L_v1 := Lib.hid (L_v1.out.kept b9 L_v1.out.inside)
    replace L_g0 := Lib.hid (L_g0.out.kept b9 L_g0.out.inside)
    replace O_t0x := Lib.hid (O_t0x.out.kept b9)
    replace O_t0y := Lib.hid (O_t0y.out.kept b9)
    replace O_t1x := Lib.hid (O_t1x.out.kept b9)
    replace O_t1y := Lib.hid (O_t1y.out.kept b9)
    replace B := Lib.hid (B.out.trans (b9.mono B.out.size))
    clear b9
    go_wp2_with fail
    have k_0 : W9.cell? ⟨W6.heap.size, 0, none⟩ = some (.slice (some ⟨gt0x, 0, none⟩) n0 n0) ∧ W9.cell? ⟨W6.heap.size, 1, none⟩ = some (.slice (some ⟨gt0y, 0, none⟩) m0 m0) ∧ W9.cell? ⟨w.heap.size, 0, none⟩ = some (.slice A0 n0 c0) ∧ W9.cell? ⟨w.heap.size, 1, none⟩ = some (.slice B0 m0 e0) := ⟨L_v0.out.cell 0, L_v0.out.cell 1, L_a0.out.cell 0, L_a0.out.cell 1⟩
    go_region_held3 (fun w' => w'.cell? ⟨W6.heap.size, 0, none⟩ = some (.slice (some ⟨gt0x, 0, none⟩) n0 n0) ∧ w'.cell? ⟨W6.heap.size, 1, none⟩ = some (.slice (some ⟨gt0y, 0, none⟩) m0 m0) ∧ w'.cell? ⟨w.heap.size, 0, none⟩ = some (.slice A0 n0 c0) ∧ w'.cell? ⟨w.heap.size, 1, none⟩ = some (.slice B0 m0 e0))
      (first | (simp [go_sem, k_0]; done) | with_reducible exact k_1 | with_reducible exact k_2)
      (first
        | (go_at_call 12; refine (toRect_any _ _ _ _ _ _ _ _ xs0 ys0 _ (I_x0.out.kept B.out.drew) (I_y0.out.kept B.out.drew) (by omega) (by omega)).mono ?_
           rintro e W10 ⟨gu0x, gu0y, rfl, ou0x, ou0y, lu0x, lu0y, b10d⟩
           have b10 := below_drawn b10d
           have k_1 : W10.cell? ⟨W6.heap.size, 0, none⟩ = some (.slice (some ⟨gt0x, 0, none⟩) n0 n0) ∧ W10.cell? ⟨W6.heap.size, 1, none⟩ = some (.slice (some ⟨gt0y, 0, none⟩) m0 m0) ∧ W10.cell? ⟨w.heap.size, 0, none⟩ = some (.slice A0 n0 c0) ∧ W10.cell? ⟨w.heap.size, 1, none⟩ = some (.slice B0 m0 e0) := ⟨(L_v0.out.kept b10 L_v0.out.inside).cell 0, (L_v0.out.kept b10 L_v0.out.inside).cell 1, (L_a0.out.kept b10 L_a0.out.inside).cell 0, (L_a0.out.kept b10 L_a0.out.inside).cell 1⟩
           clear b10d)
        | (go_at_call 15; refine (eqRect_is true _ _ _ _ _ _ _ _ _ _ _ _ _ _ _ _ xs0 ys0 xs0 ys0 _ (by simp) ((O_t0x.out.kept b10).ints (Nat.zero_le _)) ((O_t0y.out.kept b10).ints (Nat.zero_le _)) (ou0x.ints (Nat.zero_le _)) (ou0y.ints (Nat.zero_le _)) hn0 hm0).mono ?_
           rintro e W11 ⟨rfl, b11⟩
           have k_2 : W11.cell? ⟨W6.heap.size, 0, none⟩ = some (.slice (some ⟨gt0x, 0, none⟩) n0 n0) ∧ W11.cell? ⟨W6.heap.size, 1, none⟩ = some (.slice (some ⟨gt0y, 0, none⟩) m0 m0) ∧ W11.cell? ⟨w.heap.size, 0, none⟩ = some (.slice A0 n0 c0) ∧ W11.cell? ⟨w.heap.size, 1, none⟩ = some (.slice B0 m0 e0) := ⟨((L_v0.out.kept b10 L_v0.out.inside).kept b11 (L_v0.out.kept b10 L_v0.out.inside).inside).cell 0, ((L_v0.out.kept b10 L_v0.out.inside).kept b11 (L_v0.out.kept b10 L_v0.out.inside).inside).cell 1, ((L_a0.out.kept b10 L_a0.out.inside).kept b11 (L_a0.out.kept b10 L_a0.out.inside).inside).cell 0, ((L_a0.out.kept b10 L_a0.out.inside).kept b11 (L_a0.out.kept b10 L_a0.out.inside).inside).cell 1⟩))
    clear k_0 k_1 k_2
    have sz_W10 := b10.size
    try simp only [World.size_alloc] at sz_W10
    replace L_a0 := Lib.hid (L_a0.out.kept b10 L_a0.out.inside)
    replace L_a1 := Lib.hid (L_a1.out.kept b10 L_a1.out.inside)
    replace L_w0 := Lib.hid (L_w0.out.kept b10 L_w0.out.inside)
    replace L_v0 := Lib.hid (L_v0.out.kept b10 L_v0.out.inside)
    replace L_v1 := Lib.hid (L_v1.out.kept b10 L_v1.out.inside)
    replace L_g0 := Lib.hid (L_g0.out.kept b10 L_g0.out.inside)
    replace O_t0x := Lib.hid (O_t0x.out.kept b10)
    replace O_t0y := Lib.hid (O_t0y.out.kept b10)
    replace O_t1x := Lib.hid (O_t1x.out.kept b10)
    replace O_t1y := Lib.hid (O_t1y.out.kept b10)
    replace B := Lib.hid (B.out.trans (b10.mono B.out.size))
    clear b10
    have O_u0x := Lib.hid ou0x
    clear ou0x
    have O_u0y := Lib.hid ou0y
    clear ou0y
    have sz_W11 := b11.size
    try simp only [World.size_alloc] at sz_W11
    replace L_a0 := Lib.hid (L_a0.out.kept b11 L_a0.out.inside)
    replace L_a1 := Lib.hid (L_a1.out.kept b11 L_a1.out.inside)
    replace L_w0 := Lib.hid (L_w0.out.kept b11 L_w0.out.inside)
    replace L_v0 := Lib.hid (L_v0.out.kept b11 L_v0.out.inside)
    replace L_v1 := Lib.hid (L_v1.out.kept b11 L_v1.out.inside)
    replace L_g0 := Lib.hid (L_g0.out.kept b11 L_g0.out.inside)
    replace O_t0x := Lib.hid (O_t0x.out.kept b11)
    replace O_t0y := Lib.hid (O_t0y.out.kept b11)
    replace O_t1x := Lib.hid (O_t1x.out.kept b11)
    replace O_t1y := Lib.hid (O_t1y.out.kept b11)
    replace O_u0x := Lib.hid (O_u0x.out.kept b11)
    replace O_u0y := Lib.hid (O_u0y.out.kept b11)
    replace B := Lib.hid (B.out.trans (b11.mono B.out.size))
    clear b11
    clear O_u0x
    clear O_u0y
    go_wp2_with fail
    have k_0 : W11.cell? ⟨W7.heap.size, 0, none⟩ = some (.slice (some ⟨gt1x, 0, none⟩) n1 n1) ∧ W11.cell? ⟨W7.heap.size, 1, none⟩ = some (.slice (some ⟨gt1y, 0, none⟩) m1 m1) ∧ W11.cell? ⟨w.heap.size + 1, 0, none⟩ = some (.slice A1 n1 c1) ∧ W11.cell? ⟨w.heap.size + 1, 1, none⟩ = some (.slice B1 m1 e1) := ⟨L_v1.out.cell 0, L_v1.out.cell 1, L_a1.out.cell 0, L_a1.out.cell 1⟩
    go_region_held3 (fun w' => w'.cell? ⟨W7.heap.size, 0, none⟩ = some (.slice (some ⟨gt1x, 0, none⟩) n1 n1) ∧ w'.cell? ⟨W7.heap.size, 1, none⟩ = some (.slice (some ⟨gt1y, 0, none⟩) m1 m1) ∧ w'.cell? ⟨w.heap.size + 1, 0, none⟩ = some (.slice A1 n1 c1) ∧ w'.cell? ⟨w.heap.size + 1, 1, none⟩ = some (.slice B1 m1 e1))
      (first | (simp [go_sem, k_0]; done) | with_reducible exact k_1 | with_reducible exact k_2)
      (first
        | (go_at_call 12; refine (toRect_any _ _ _ _ _ _ _ _ xs1 ys1 _ (I_x1.out.kept B.out.drew) (I_y1.out.kept B.out.drew) (by omega) (by omega)).mono ?_
           rintro e W12 ⟨gu1x, gu1y, rfl, ou1x, ou1y, lu1x, lu1y, b12d⟩
           have b12 := below_drawn b12d
           have k_1 : W12.cell? ⟨W7.heap.size, 0, none⟩ = some (.slice (some ⟨gt1x, 0, none⟩) n1 n1) ∧ W12.cell? ⟨W7.heap.size, 1, none⟩ = some (.slice (some ⟨gt1y, 0, none⟩) m1 m1) ∧ W12.cell? ⟨w.heap.size + 1, 0, none⟩ = some (.slice A1 n1 c1) ∧ W12.cell? ⟨w.heap.size + 1, 1, none⟩ = some (.slice B1 m1 e1) := ⟨(L_v1.out.kept b12 L_v1.out.inside).cell 0, (L_v1.out.kept b12 L_v1.out.inside).cell 1, (L_a1.out.kept b12 L_a1.out.inside).cell 0, (L_a1.out.kept b12 L_a1.out.inside).cell 1⟩
           clear b12d)
        | (go_at_call 15; refine (eqRect_is true _ _ _ _ _ _ _ _ _ _ _ _ _ _ _ _ xs1 ys1 xs1 ys1 _ (by simp) ((O_t1x.out.kept b12).ints (Nat.zero_le _)) ((O_t1y.out.kept b12).ints (Nat.zero_le _)) (ou1x.ints (Nat.zero_le _)) (ou1y.ints (Nat.zero_le _)) hn1 hm1).mono ?_
           rintro e W13 ⟨rfl, b13⟩
           have k_2 : W13.cell? ⟨W7.heap.size, 0, none⟩ = some (.slice (some ⟨gt1x, 0, none⟩) n1 n1) ∧ W13.cell? ⟨W7.heap.size, 1, none⟩ = some (.slice (some ⟨gt1y, 0, none⟩) m1 m1) ∧ W13.cell? ⟨w.heap.size + 1, 0, none⟩ = some (.slice A1 n1 c1) ∧ W13.cell? ⟨w.heap.size + 1, 1, none⟩ = some (.slice B1 m1 e1) := ⟨((L_v1.out.kept b12 L_v1.out.inside).kept b13 (L_v1.out.kept b12 L_v1.out.inside).inside).cell 0, ((L_v1.out.kept b12 L_v1.out.inside).kept b13 (L_v1.out.kept b12 L_v1.out.inside).inside).cell 1, ((L_a1.out.kept b12 L_a1.out.inside).kept b13 (L_a1.out.kept b12 L_a1.out.inside).inside).cell 0, ((L_a1.out.kept b12 L_a1.out.inside).kept b13 (L_a1.out.kept b12 L_a1.out.inside).inside).cell 1⟩))
    clear k_0 k_1 k_2
    have sz_W12 := b12.size
    try simp only [World.size_alloc] at sz_W12
    replace L_a0 := Lib.hid (L_a0.out.kept b12 L_a0.out.inside)
    replace L_a1 := Lib.hid (L_a1.out.kept b12 L_a1.out.inside)
    replace L_w0 := Lib.hid (L_w0.out.kept b12 L_w0.out.inside)
    replace L_v0 := Lib.hid (L_v0.out.kept b12 L_v0.out.inside)
    replace L_v1 := Lib.hid (L_v1.out.kept b12 L_v1.out.inside)
    replace L_g0 := Lib.hid (L_g0.out.kept b12 L_g0.out.inside)
    replace O_t0x := Lib.hid (O_t0x.out.kept b12)
    replace O_t0y := Lib.hid (O_t0y.out.kept b12)
    replace O_t1x := Lib.hid (O_t1x.out.kept b12)
    replace O_t1y := Lib.hid (O_t1y.out.kept b12)
    replace B := Lib.hid (B.out.trans (b12.mono B.out.size))
    clear b12
    have O_u1x := Lib.hid ou1x
    clear ou1x
    have O_u1y := Lib.hid ou1y
    clear ou1y
    have sz_W13 := b13.size
    try simp only [World.size_alloc] at sz_W13
    replace L_a0 := Lib.hid (L_a0.out.kept b13 L_a0.out.inside)
    replace L_a1 := Lib.hid (L_a1.out.kept b13 L_a1.out.inside)
    replace L_w0 := Lib.hid (L_w0.out.kept b13 L_w0.out.inside)
    replace L_v0 := Lib.hid (L_v0.out.kept b13 L_v0.out.inside)
    replace L_v1 := Lib.hid (L_v1.out.kept b13 L_v1.out.inside)
    replace L_g0 := Lib.hid (L_g0.out.kept b13 L_g0.out.inside)
    replace O_t0x := Lib.hid (O_t0x.out.kept b13)
    replace O_t0y := Lib.hid (O_t0y.out.kept b13)
    replace O_t1x := Lib.hid (O_t1x.out.kept b13)
    replace O_t1y := Lib.hid (O_t1y.out.kept b13)
    replace O_u1x := Lib.hid (O_u1x.out.kept b13)
    replace O_u1y := Lib.hid (O_u1y.out.kept b13)
    replace B := Lib.hid (B.out.trans (b13.mono B.out.size))
    clear b13
    clear O_u1x
    clear O_u1y
    have c_v00 : W13.cell? ⟨W6.heap.size, 0, none⟩ = some (.slice (some ⟨gt0x, 0, none⟩) n0 n0) := L_v0.out.cell 0
    have c_v01 : W13.cell? ⟨W6.heap.size, 1, none⟩ = some (.slice (some ⟨gt0y, 0, none⟩) m0 m0) := L_v0.out.cell 1
    go_wp2_with fail
    clear c_v00 c_v01
    refine (markRect_any _ _ _ _ _ _ _ xs0 ys0 _ O_t0x.out O_t0y.out (by omega) (by omega) (by omega) (by omega) (by omega)).mono ?_
    rintro e W14 ⟨rfl, om1, om2, b14⟩
    have sz_W14 := b14.2.1
    try simp only [World.size_alloc] at sz_W14
    replace L_a0 := Lib.hid (b14.lies L_a0.out (by show ¬ (w.heap.size = gt0x ∨ w.heap.size = gt0y); omega))
    replace L_a1 := Lib.hid (b14.lies L_a1.out (by show ¬ (w.heap.size + 1 = gt0x ∨ w.heap.size + 1 = gt0y); omega))
    replace L_w0 := Lib.hid (b14.lies L_w0.out (by show ¬ (n_w0 = gt0x ∨ n_w0 = gt0y); omega))
    replace L_v0 := Lib.hid (b14.lies L_v0.out (by show ¬ (W6.heap.size = gt0x ∨ W6.heap.size = gt0y); omega))
    replace L_v1 := Lib.hid (b14.lies L_v1.out (by show ¬ (W7.heap.size = gt0x ∨ W7.heap.size = gt0y); omega))
    replace L_g0 := Lib.hid (b14.lies L_g0.out (by show ¬ (W8.heap.size = gt0x ∨ W8.heap.size = gt0y); omega))
    replace O_t1x := Lib.hid (b14.own O_t1x.out (by show ¬ (gt1x = gt0x ∨ gt1x = gt0y); omega))
    replace O_t1y := Lib.hid (b14.own O_t1y.out (by show ¬ (gt1y = gt0x ∨ gt1y = gt0y); omega))
    replace O_t0x := Lib.hid om1
    replace O_t0y := Lib.hid om2
    replace B := Lib.hid (b14.below B.out (by intro k hk; show w.heap.size ≤ k; rcases hk with rfl | rfl <;> omega))
    clear b14 om1 om2
    have c_v10 : W14.cell? ⟨W7.heap.size, 0, none⟩ = some (.slice (some ⟨gt1x, 0, none⟩) n1 n1) := L_v1.out.cell 0
    have c_v11 : W14.cell? ⟨W7.heap.size, 1, none⟩ = some (.slice (some ⟨gt1y, 0, none⟩) m1 m1) := L_v1.out.cell 1
    go_wp2_with fail
    clear c_v10 c_v11
    refine (markRect_any _ _ _ _ _ _ _ xs1 ys1 _ O_t1x.out O_t1y.out (by omega) (by omega) (by omega) (by omega) (by omega)).mono ?_
    rintro e W15 ⟨rfl, om1, om2, b15⟩
    have sz_W15 := b15.2.1
    try simp only [World.size_alloc] at sz_W15
    replace L_a0 := Lib.hid (b15.lies L_a0.out (by show ¬ (w.heap.size = gt1x ∨ w.heap.size = gt1y); omega))
    replace L_a1 := Lib.hid (b15.lies L_a1.out (by show ¬ (w.heap.size + 1 = gt1x ∨ w.heap.size + 1 = gt1y); omega))
    replace L_w0 := Lib.hid (b15.lies L_w0.out (by show ¬ (n_w0 = gt1x ∨ n_w0 = gt1y); omega))
    replace L_v0 := Lib.hid (b15.lies L_v0.out (by show ¬ (W6.heap.size = gt1x ∨ W6.heap.size = gt1y); omega))
    replace L_v1 := Lib.hid (b15.lies L_v1.out (by show ¬ (W7.heap.size = gt1x ∨ W7.heap.size = gt1y); omega))
    replace L_g0 := Lib.hid (b15.lies L_g0.out (by show ¬ (W8.heap.size = gt1x ∨ W8.heap.size = gt1y); omega))
    replace O_t0x := Lib.hid (b15.own O_t0x.out (by show ¬ (gt0x = gt1x ∨ gt0x = gt1y); omega))
    replace O_t0y := Lib.hid (b15.own O_t0y.out (by show ¬ (gt0y = gt1x ∨ gt0y = gt1y); omega))
    replace O_t1x := Lib.hid om1
    replace O_t1y := Lib.hid om2
    replace B := Lib.hid (b15.below B.out (by intro k hk; show w.heap.size ≤ k; rcases hk with rfl | rfl <;> omega))
    clear b15 om1 om2
    have kpos : ¬ ((1 : Int) + n0 + m0 + n1 + m1 < 0) := by omega
    have c_g00 : W15.cell? ⟨W8.heap.size, 0, none⟩ = some (.int .i64 (rf2 xs0 ys0 xs1 ys1)) := L_g0.out.cell 0
    have c_g01 : W15.cell? ⟨W8.heap.size, 1, none⟩ = some (.slice none 0 0) := L_g0.out.cell 1
    have c_g02 : W15.cell? ⟨W8.heap.size, 2, none⟩ = some (.slice none 0 0) := L_g0.out.cell 2
    have c_w00 : W15.cell? ⟨n_w0, 0, none⟩ = some (.int .i64 (rf2 xs0 ys0 xs1 ys1)) := L_w0.out.cell 0
    have c_w01 : W15.cell? ⟨n_w0, 1, none⟩ = some (.slice none 0 0) := L_w0.out.cell 1
    have c_w02 : W15.cell? ⟨n_w0, 2, none⟩ = some (.slice none 0 0) := L_w0.out.cell 2
    go_wp2_with fail
    clear c_g00 c_g01 c_g02 c_w00 c_w01 c_w02
    refine (eqRectResult_same _ _ _ _ _ _ _ _ _ _ _ _ _ _ _ ([]) ([]) _ (Ints.empty _ 0 _) (Ints.empty _ 0 _) (Ints.empty _ 0 _) (Ints.empty _ 0 _) (Nat.zero_le _) (Nat.zero_le _)).mono ?_
    rintro e W16 ⟨rfl, b16⟩
    have sz_W16 := b16.size
    try simp only [World.size_alloc] at sz_W16
    replace L_a0 := Lib.hid (L_a0.out.kept b16 L_a0.out.inside)
    replace L_a1 := Lib.hid (L_a1.out.kept b16 L_a1.out.inside)
    replace L_w0 := Lib.hid (L_w0.out.kept b16 L_w0.out.inside)
    replace L_v0 := Lib.hid (L_v0.out.kept b16 L_v0.out.inside)
    replace L_v1 := Lib.hid (L_v1.out.kept b16 L_v1.out.inside)
    replace L_g0 := Lib.hid (L_g0.out.kept b16 L_g0.out.inside)
    replace O_t0x := Lib.hid (O_t0x.out.kept b16)
    replace O_t0y := Lib.hid (O_t0y.out.kept b16)
    replace O_t1x := Lib.hid (O_t1x.out.kept b16)
    replace O_t1y := Lib.hid (O_t1y.out.kept b16)
    replace B := Lib.hid (B.out.trans (b16.mono B.out.size))
    clear b16
    have c_g00 : W16.cell? ⟨W8.heap.size, 0, none⟩ = some (.int .i64 (rf2 xs0 ys0 xs1 ys1)) := L_g0.out.cell 0
    have c_g01 : W16.cell? ⟨W8.heap.size, 1, none⟩ = some (.slice none 0 0) := L_g0.out.cell 1
    have c_g02 : W16.cell? ⟨W8.heap.size, 2, none⟩ = some (.slice none 0 0) := L_g0.out.cell 2
    go_wp2_with fail
    clear c_g00 c_g01 c_g02
    refine (markRectResult_none _ _ _).mono ?_
    rintro e W17 ⟨rfl, b17⟩
    have sz_W17 := b17.size
    try simp only [World.size_alloc] at sz_W17
    replace L_a0 := Lib.hid (L_a0.out.kept b17 L_a0.out.inside)
    replace L_a1 := Lib.hid (L_a1.out.kept b17 L_a1.out.inside)
    replace L_w0 := Lib.hid (L_w0.out.kept b17 L_w0.out.inside)
    replace L_v0 := Lib.hid (L_v0.out.kept b17 L_v0.out.inside)
    replace L_v1 := Lib.hid (L_v1.out.kept b17 L_v1.out.inside)
    replace L_g0 := Lib.hid (L_g0.out.kept b17 L_g0.out.inside)
    replace O_t0x := Lib.hid (O_t0x.out.kept b17)
    replace O_t0y := Lib.hid (O_t0y.out.kept b17)
    replace O_t1x := Lib.hid (O_t1x.out.kept b17)
    replace O_t1y := Lib.hid (O_t1y.out.kept b17)
    replace B := Lib.hid (B.out.trans (b17.mono B.out.size))
    clear b17
    have qeq : ((1 : Int) != 1) = false := by decide
    have c_g00 : W17.cell? ⟨W8.heap.size, 0, none⟩ = some (.int .i64 (rf2 xs0 ys0 xs1 ys1)) := L_g0.out.cell 0
    have c_g01 : W17.cell? ⟨W8.heap.size, 1, none⟩ = some (.slice none 0 0) := L_g0.out.cell 1
    have c_g02 : W17.cell? ⟨W8.heap.size, 2, none⟩ = some (.slice none 0 0) := L_g0.out.cell 2
    go_wp2_with fail
    clear c_g00 c_g01 c_g02
    refine (heldRectResult_none _ _ _ (by decide) (by decide)).mono ?_
    rintro e W18 ⟨rfl, b18⟩
    have sz_W18 := b18.size
    try simp only [World.size_alloc] at sz_W18
    replace L_a0 := Lib.hid (L_a0.out.kept b18 L_a0.out.inside)
    replace L_a1 := Lib.hid (L_a1.out.kept b18 L_a1.out.inside)
    replace L_w0 := Lib.hid (L_w0.out.kept b18 L_w0.out.inside)
    replace L_v0 := Lib.hid (L_v0.out.kept b18 L_v0.out.inside)
    replace L_v1 := Lib.hid (L_v1.out.kept b18 L_v1.out.inside)
    replace L_g0 := Lib.hid (L_g0.out.kept b18 L_g0.out.inside)
    replace O_t0x := Lib.hid (O_t0x.out.kept b18)
    replace O_t0y := Lib.hid (O_t0y.out.kept b18)
    replace O_t1x := Lib.hid (O_t1x.out.kept b18)
    replace O_t1y := Lib.hid (O_t1y.out.kept b18)
    replace B := Lib.hid (B.out.trans (b18.mono B.out.size))
    clear b18
    go_upto_region 31 with fail
    go_cut [13] (fun s13 wx => ∃ n_h0 : Nat, s13 = .pointer (some ⟨n_h0, 0, none⟩) ∧ Hid (Lies wx n_h0 28 #[.int .i64 (rf2 xs0 ys0 xs1 ys1), .slice none 0 0, .slice none 0 0]) ∧ W18.heap.size ≤ n_h0 ∧ Hid (Since W18 wx))
    case first =>
      have c_a00 : W18.cell? ⟨w.heap.size, 0, none⟩ = some (.slice A0 n0 c0) := L_a0.out.cell 0
      have c_a01 : W18.cell? ⟨w.heap.size, 1, none⟩ = some (.slice B0 m0 e0) := L_a0.out.cell 1
      have c_a10 : W18.cell? ⟨w.heap.size + 1, 0, none⟩ = some (.slice A1 n1 c1) := L_a1.out.cell 0
      have c_a11 : W18.cell? ⟨w.heap.size + 1, 1, none⟩ = some (.slice B1 m1 e1) := L_a1.out.cell 1
      have i_a0 := L_a0.out.inside
      have l_a0 := Nat.le_of_lt i_a0
      have i_a1 := L_a1.out.inside
      have l_a1 := Nat.le_of_lt i_a1
      have zd := size_of_drew
      go_region_held3 (fun w' => w'.cell? ⟨w.heap.size, 0, none⟩ = some (.slice A0 n0 c0) ∧ w'.cell? ⟨w.heap.size, 1, none⟩ = some (.slice B0 m0 e0) ∧ w'.cell? ⟨w.heap.size + 1, 0, none⟩ = some (.slice A1 n1 c1) ∧ w'.cell? ⟨w.heap.size + 1, 1, none⟩ = some (.slice B1 m1 e1))
        (exact ⟨Lies.cell (t := 24) (cs := #[.slice A0 n0 c0, .slice B0 m0 e0]) (by with_reducible (repeat (first | refine Lies.far ?_ ?_ _ | refine Lies.alloc ?_ _ | refine Lies.drew ?_ | refine Lies.call ?_ b21 | refine Lies.call ?_ b20 | refine Lies.call ?_ b19 | exact L_a0.out | exact L_a1.out)); all_goals (simp only [size_of_drew, size_of_setCell, World.size_alloc]; omega)) 0, Lies.cell (t := 24) (cs := #[.slice A0 n0 c0, .slice B0 m0 e0]) (by with_reducible (repeat (first | refine Lies.far ?_ ?_ _ | refine Lies.alloc ?_ _ | refine Lies.drew ?_ | refine Lies.call ?_ b21 | refine Lies.call ?_ b20 | refine Lies.call ?_ b19 | exact L_a0.out | exact L_a1.out)); all_goals (simp only [size_of_drew, size_of_setCell, World.size_alloc]; omega)) 1, Lies.cell (t := 24) (cs := #[.slice A1 n1 c1, .slice B1 m1 e1]) (by with_reducible (repeat (first | refine Lies.far ?_ ?_ _ | refine Lies.alloc ?_ _ | refine Lies.drew ?_ | refine Lies.call ?_ b21 | refine Lies.call ?_ b20 | refine Lies.call ?_ b19 | exact L_a0.out | exact L_a1.out)); all_goals (simp only [size_of_drew, size_of_setCell, World.size_alloc]; omega)) 0, Lies.cell (t := 24) (cs := #[.slice A1 n1 c1, .slice B1 m1 e1]) (by with_reducible (repeat (first | refine Lies.far ?_ ?_ _ | refine Lies.alloc ?_ _ | refine Lies.drew ?_ | refine Lies.call ?_ b21 | refine Lies.call ?_ b20 | refine Lies.call ?_ b19 | exact L_a0.out | exact L_a1.out)); all_goals (simp only [size_of_drew, size_of_setCell, World.size_alloc]; omega)) 1⟩)
        (first
          | (go_at_call_of 12 (Value.agg #[.slice A0 n0 c0, .slice B0 m0 e0]); refine (toRect_any _ _ _ _ _ _ _ _ xs0 ys0 _ (I_x0.out.kept (by with_reducible (repeat (first | refine Since.below ?_ | refine Since.drew ?_ | refine Since.alloc ?_ _ | exact Since.of B.out)))) (I_y0.out.kept (by with_reducible (repeat (first | refine Since.below ?_ | refine Since.drew ?_ | refine Since.alloc ?_ _ | exact Since.of B.out)))) (by omega) (by omega)).mono ?_
             rintro e W19 ⟨gr0x, gr0y, rfl, or0x, or0y, lr0x, lr0y, b19⟩
             have q_W19 := cells_kept b19
             have u_W19 := frozen_kept b19
             have z_W19 := sizes_kept b19
             try simp only [size_of_drew, World.size_alloc] at z_W19
             have le_W18_W19 : W18.heap.size ≤ W19.heap.size := by omega
             try (have lt_W18_W19 : W18.heap.size < W19.heap.size := by omega))
          | (go_at_call_of 12 (Value.agg #[.slice A1 n1 c1, .slice B1 m1 e1]); refine (toRect_any _ _ _ _ _ _ _ _ xs1 ys1 _ (I_x1.out.kept (by with_reducible (repeat (first | refine Since.below ?_ | refine Since.drew ?_ | refine Since.alloc ?_ _ | refine Since.call ?_ b19 | exact Since.of B.out)))) (I_y1.out.kept (by with_reducible (repeat (first | refine Since.below ?_ | refine Since.drew ?_ | refine Since.alloc ?_ _ | refine Since.call ?_ b19 | exact Since.of B.out)))) (by omega) (by omega)).mono ?_
             rintro e W20 ⟨gr1x, gr1y, rfl, or1x, or1y, lr1x, lr1y, b20⟩
             have q_W20 := cells_kept b20
             have u_W20 := frozen_kept b20
             have z_W20 := sizes_kept b20
             try simp only [size_of_drew, World.size_alloc] at z_W20
             have le_W18_W20 : W18.heap.size ≤ W20.heap.size := by omega
             try (have lt_W18_W20 : W18.heap.size < W20.heap.size := by omega)
             have le_W19_W20 : W19.heap.size ≤ W20.heap.size := by omega
             try (have lt_W19_W20 : W19.heap.size < W20.heap.size := by omega))
          | (go_at_call 13; refine (implUnionOf_no _ _ _ _ _ _ _ _ _ _ _ _ _ _ _ _ xs0 ys0 xs1 ys1 _ (Own.ints (by with_reducible (repeat (first | exact or0x | refine Own.drew' ?_ | refine Own.alloc ?_ _ | refine Own.call ?_ b20 | refine Own.call ?_ b19))) (Nat.zero_le _)) (Own.ints (by with_reducible (repeat (first | exact or0y | refine Own.drew' ?_ | refine Own.alloc ?_ _ | refine Own.call ?_ b20 | refine Own.call ?_ b19))) (Nat.zero_le _)) (Own.ints (by with_reducible (repeat (first | exact or1x | refine Own.drew' ?_ | refine Own.alloc ?_ _ | refine Own.call ?_ b20 | refine Own.call ?_ b19))) (Nat.zero_le _)) (Own.ints (by with_reducible (repeat (first | exact or1y | refine Own.drew' ?_ | refine Own.alloc ?_ _ | refine Own.call ?_ b20 | refine Own.call ?_ b19))) (Nat.zero_le _)) hn0 hm0 hn1 hm1 HR.out).mono ?_
             rintro e W21 ⟨rfl, b21⟩
             have q_W21 := cells_kept b21
             have u_W21 := frozen_kept b21
             have z_W21 := sizes_kept b21
             try simp only [size_of_drew, World.size_alloc] at z_W21
             have le_W18_W21 : W18.heap.size ≤ W21.heap.size := by omega
             try (have lt_W18_W21 : W18.heap.size < W21.heap.size := by omega)
             have le_W19_W21 : W19.heap.size ≤ W21.heap.size := by omega
             try (have lt_W19_W21 : W19.heap.size < W21.heap.size := by omega)
             have le_W20_W21 : W20.heap.size ≤ W21.heap.size := by omega
             try (have lt_W20_W21 : W20.heap.size < W21.heap.size := by omega)))
      all_goals
        rename_i hH
        clear hH zd q_W19 u_W19 q_W20 u_W20 q_W21 u_W21 c_a00 c_a01 c_a10 c_a11
        go_wp2_with fail
        go_meet
        refine ⟨_, rfl, ?_, ?_, ?_⟩
        · refine Lib.hid ?_
          first
            | (refine Lies.as (cs := (((#[.int .i64 0, .slice none 0 0, .slice none 0 0].setIfInBounds 0 (.int .i64 (rf2 xs0 ys0 xs1 ys1))).setIfInBounds 1 (.slice none 0 0)).setIfInBounds 2 (.slice none 0 0))) ?_ (by simp)
               with_reducible (repeat (first | refine Lies.set ?_ _ _ | refine Lies.far ?_ ?_ _ | (refine Lies.laid ?_; (simp only [size_of_drew, size_of_setCell, World.size_alloc]; done)) | exact Lies.new _ _ _ | exact Lies.laid2 _ _ _ _ | refine Lies.alloc ?_ _ | refine Lies.drew ?_ | refine Lies.call ?_ b21 | refine Lies.call ?_ b20 | refine Lies.call ?_ b19))
               all_goals first | exact Nat.ne_of_lt (Nat.lt_succ_self _) | exact Nat.ne_of_gt (Nat.lt_succ_self _) | exact Nat.ne_of_lt lt_W18_W19 | exact Nat.ne_of_gt lt_W18_W19 | exact Nat.ne_of_lt lt_W18_W20 | exact Nat.ne_of_gt lt_W18_W20 | exact Nat.ne_of_lt lt_W18_W21 | exact Nat.ne_of_gt lt_W18_W21 | exact Nat.ne_of_lt lt_W19_W20 | exact Nat.ne_of_gt lt_W19_W20 | exact Nat.ne_of_lt lt_W19_W21 | exact Nat.ne_of_gt lt_W19_W21 | exact Nat.ne_of_lt lt_W20_W21 | exact Nat.ne_of_gt lt_W20_W21 | (show ¬ _ = _; (try simp only [size_of_drew, size_of_setCell, World.size_alloc]); omega)
               done)
            | (with_reducible (repeat (first | refine Lies.far ?_ ?_ _ | (refine Lies.laid ?_; (simp only [size_of_drew, size_of_setCell, World.size_alloc]; done)) | exact Lies.new _ _ _ | exact Lies.laid2 _ _ _ _ | refine Lies.alloc ?_ _ | refine Lies.drew ?_ | refine Lies.call ?_ b21 | refine Lies.call ?_ b20 | refine Lies.call ?_ b19))
               all_goals first | exact Nat.ne_of_lt (Nat.lt_succ_self _) | exact Nat.ne_of_gt (Nat.lt_succ_self _) | exact Nat.ne_of_lt lt_W18_W19 | exact Nat.ne_of_gt lt_W18_W19 | exact Nat.ne_of_lt lt_W18_W20 | exact Nat.ne_of_gt lt_W18_W20 | exact Nat.ne_of_lt lt_W18_W21 | exact Nat.ne_of_gt lt_W18_W21 | exact Nat.ne_of_lt lt_W19_W20 | exact Nat.ne_of_gt lt_W19_W20 | exact Nat.ne_of_lt lt_W19_W21 | exact Nat.ne_of_gt lt_W19_W21 | exact Nat.ne_of_lt lt_W20_W21 | exact Nat.ne_of_gt lt_W20_W21 | (show ¬ _ = _; (try simp only [size_of_drew, size_of_setCell, World.size_alloc]); omega)
               done)
        · first | exact Nat.le_refl _ | exact Nat.le_succ _ | exact le_W18_W19 | exact Nat.le_succ_of_le le_W18_W19 | exact le_W18_W20 | exact Nat.le_succ_of_le le_W18_W20 | exact le_W18_W21 | exact Nat.le_succ_of_le le_W18_W21 | omega
        · refine Lib.hid ?_
          with_reducible (repeat (first | refine Since.setCell ?_ ?_ _ | refine Since.alloc ?_ _ | refine Since.drew ?_ | refine Since.call ?_ b21 | refine Since.call ?_ b20 | refine Since.call ?_ b19))
          · exact Since.of (Below.refl _ _)
          all_goals first | exact Nat.le_refl _ | exact Nat.le_succ _ | exact le_W18_W19 | exact Nat.le_succ_of_le le_W18_W19 | exact le_W18_W20 | exact Nat.le_succ_of_le le_W18_W20 | exact le_W18_W21 | exact Nat.le_succ_of_le le_W18_W21 | (show _ ≤ _; (try simp only [size_of_drew, size_of_setCell, World.size_alloc]); omega)
    case' rest =>
      obtain ⟨n_h0, rfl, L_h0, g_h0, S⟩ := hcut
      have bS := S.out.below
      clear S
    have d_h0_a0 : ¬ n_h0 = w.heap.size := by have := L_a0.out.inside; omega
    have e_h0_a0 : ¬ w.heap.size = n_h0 := fun e => d_h0_a0 e.symm
    have d_h0_a1 : ¬ n_h0 = w.heap.size + 1 := by have := L_a1.out.inside; omega
    have e_h0_a1 : ¬ w.heap.size + 1 = n_h0 := fun e => d_h0_a1 e.symm
    have d_h0_w0 : ¬ n_h0 = n_w0 := by have := L_w0.out.inside; omega
    have e_h0_w0 : ¬ n_w0 = n_h0 := fun e => d_h0_w0 e.symm
    have d_h0_v0 : ¬ n_h0 = W6.heap.size := by have := L_v0.out.inside; omega
    have e_h0_v0 : ¬ W6.heap.size = n_h0 := fun e => d_h0_v0 e.symm
    have d_h0_v1 : ¬ n_h0 = W7.heap.size := by have := L_v1.out.inside; omega
    have e_h0_v1 : ¬ W7.heap.size = n_h0 := fun e => d_h0_v1 e.symm
    have d_h0_g0 : ¬ n_h0 = W8.heap.size := by have := L_g0.out.inside; omega
    have e_h0_g0 : ¬ W8.heap.size = n_h0 := fun e => d_h0_g0 e.symm
    clear g_h0
    have sz_wc := bS.size
    try simp only [World.size_alloc] at sz_wc
    replace L_a0 := Lib.hid (L_a0.out.kept bS L_a0.out.inside)
    replace L_a1 := Lib.hid (L_a1.out.kept bS L_a1.out.inside)
    replace L_w0 := Lib.hid (L_w0.out.kept bS L_w0.out.inside)
    replace L_v0 := Lib.hid (L_v0.out.kept bS L_v0.out.inside)
    replace L_v1 := Lib.hid (L_v1.out.kept bS L_v1.out.inside)
    replace L_g0 := Lib.hid (L_g0.out.kept bS L_g0.out.inside)
    replace O_t0x := Lib.hid (O_t0x.out.kept bS)
    replace O_t0y := Lib.hid (O_t0y.out.kept bS)
    replace O_t1x := Lib.hid (O_t1x.out.kept bS)
    replace O_t1y := Lib.hid (O_t1y.out.kept bS)
    replace B := Lib.hid (B.out.trans (bS.mono B.out.size))
    clear bS
    have c_h00 : wc.cell? ⟨n_h0, 0, none⟩ = some (.int .i64 (rf2 xs0 ys0 xs1 ys1)) := L_h0.out.cell 0
    have c_h01 : wc.cell? ⟨n_h0, 1, none⟩ = some (.slice none 0 0) := L_h0.out.cell 1
    have c_h02 : wc.cell? ⟨n_h0, 2, none⟩ = some (.slice none 0 0) := L_h0.out.cell 2
    have c_w00 : wc.cell? ⟨n_w0, 0, none⟩ = some (.int .i64 (rf2 xs0 ys0 xs1 ys1)) := L_w0.out.cell 0
    have c_w01 : wc.cell? ⟨n_w0, 1, none⟩ = some (.slice none 0 0) := L_w0.out.cell 1
    have c_w02 : wc.cell? ⟨n_w0, 2, none⟩ = some (.slice none 0 0) := L_w0.out.cell 2
    go_wp2_with fail
    clear c_h00 c_h01 c_h02 c_w00 c_w01 c_w02
    refine (eqRectResult_same _ _ _ _ _ _ _ _ _ _ _ _ _ _ _ ([]) ([]) _ (Ints.empty _ 0 _) (Ints.empty _ 0 _) (Ints.empty _ 0 _) (Ints.empty _ 0 _) (Nat.zero_le _) (Nat.zero_le _)).mono ?_
    rintro e W22 ⟨rfl, b22⟩
    have sz_W22 := b22.size
    try simp only [World.size_alloc] at sz_W22
    replace L_a0 := Lib.hid (L_a0.out.kept b22 L_a0.out.inside)
    replace L_a1 := Lib.hid (L_a1.out.kept b22 L_a1.out.inside)
    replace L_w0 := Lib.hid (L_w0.out.kept b22 L_w0.out.inside)
    replace L_v0 := Lib.hid (L_v0.out.kept b22 L_v0.out.inside)
    replace L_v1 := Lib.hid (L_v1.out.kept b22 L_v1.out.inside)
    replace L_g0 := Lib.hid (L_g0.out.kept b22 L_g0.out.inside)
    replace L_h0 := Lib.hid (L_h0.out.kept b22 L_h0.out.inside)
    replace O_t0x := Lib.hid (O_t0x.out.kept b22)
    replace O_t0y := Lib.hid (O_t0y.out.kept b22)
    replace O_t1x := Lib.hid (O_t1x.out.kept b22)
    replace O_t1y := Lib.hid (O_t1y.out.kept b22)
    replace B := Lib.hid (B.out.trans (b22.mono B.out.size))
    clear b22
    have c_g00 : W22.cell? ⟨W8.heap.size, 0, none⟩ = some (.int .i64 (rf2 xs0 ys0 xs1 ys1)) := L_g0.out.cell 0
    have c_g01 : W22.cell? ⟨W8.heap.size, 1, none⟩ = some (.slice none 0 0) := L_g0.out.cell 1
    have c_g02 : W22.cell? ⟨W8.heap.size, 2, none⟩ = some (.slice none 0 0) := L_g0.out.cell 2
    go_wp2_with fail
    clear c_g00 c_g01 c_g02
    refine (heldRectResult_none _ _ _ (by decide) (by decide)).mono ?_
    rintro e W23 ⟨rfl, b23⟩
    have sz_W23 := b23.size
    try simp only [World.size_alloc] at sz_W23
    replace L_a0 := Lib.hid (L_a0.out.kept b23 L_a0.out.inside)
    replace L_a1 := Lib.hid (L_a1.out.kept b23 L_a1.out.inside)
    replace L_w0 := Lib.hid (L_w0.out.kept b23 L_w0.out.inside)
    replace L_v0 := Lib.hid (L_v0.out.kept b23 L_v0.out.inside)
    replace L_v1 := Lib.hid (L_v1.out.kept b23 L_v1.out.inside)
    replace L_g0 := Lib.hid (L_g0.out.kept b23 L_g0.out.inside)
    replace L_h0 := Lib.hid (L_h0.out.kept b23 L_h0.out.inside)
    replace O_t0x := Lib.hid (O_t0x.out.kept b23)
    replace O_t0y := Lib.hid (O_t0y.out.kept b23)
    replace O_t1x := Lib.hid (O_t1x.out.kept b23)
    replace O_t1y := Lib.hid (O_t1y.out.kept b23)
    replace B := Lib.hid (B.out.trans (b23.mono B.out.size))
    clear b23
    go_wp2
    go_ret
    exact ⟨rfl, B.out⟩

end Go.Proofs.Ytbonpmgbcdknbab
