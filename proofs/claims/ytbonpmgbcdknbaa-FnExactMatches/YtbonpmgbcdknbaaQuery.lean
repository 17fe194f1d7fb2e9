/- The laws' helpers on queries: szQuery, toQuery, eqQuery; what is wrong with a query. No condition but lengths. -/
import Derived.Test.YtbonpmgbcdknbaaRects
namespace Go.Proofs.Ytbonpmgbcdknbaa
open Go.RowKit

theorem szI_no (n c : Nat) (A : Option Addr) (l : Int) (w : World) (h0 : 0 ≤ l) (h1 : l ≤ 1048576) (hn : n ≤ maxLen) (h : l < n) :
    Calls Try.prog 66 #[.slice A n c, .int .i64 l] w fun e w' => e = .returned (.int .i64 (-1)) ∧ Below w.heap.size w w' :=
  (szInt64S_no n c A l w h0 h1 hn h).mono fun _ _ ⟨a, b⟩ => ⟨a, b ▸ Below.refl _ _⟩
theorem szI_yes (n c : Nat) (A : Option Addr) (l : Int) (w : World) (h1 : l ≤ 1048576) (hn : n ≤ maxLen) (h : n ≤ l) :
    Calls Try.prog 66 #[.slice A n c, .int .i64 l] w fun e w' => e = .returned (.int .i64 (l - n)) ∧ Below w.heap.size w w' :=
  (szInt64S_yes n c A l w (by omega) h1 hn h).mono fun _ _ ⟨a, b⟩ => ⟨a, b ▸ Below.refl _ _⟩

set_option maxHeartbeats 800000 in
theorem szQuery_yes (kd kk : Int) (n1 c1 n2 c2 n3 c3 : Nat) (A1 A2 A3 : Option Addr) (l : Int) (w : World) (h1 : l ≤ 1048576) (m1 : n1 ≤ maxLen) (m2 : n2 ≤ maxLen) (m3 : n3 ≤ maxLen) (h : n1 + n2 + n3 ≤ l) :
    Calls Try.prog 32 #[.agg #[.int .i64 kd, .slice A1 n1 c1, .slice A2 n2 c2, .slice A3 n3 c3, .int .i64 kk], .int .i64 l] w fun e w' => e = .returned (.int .i64 (l - n1 - n2 - n3)) ∧ Below w.heap.size w w' := by
  have hk : ¬ (l - n1 - n2 < 0) := by omega
  have hk2 : ¬ (l - n1 - n2 - n3 < 0) := by omega
  have B := Lib.hid (Below.refl w.heap.size w)
  have L_a := Lib.hid (Lies.new w 55 #[.int .i64 kd, .slice A1 n1 c1, .slice A2 n2 c2, .slice A3 n3 c3, .int .i64 kk])
  replace B := Lib.hid (B.out.alloc B.out.size (.cells #[.int .i64 kd, .slice A1 n1 c1, .slice A2 n2 c2, .slice A3 n3 c3, .int .i64 kk] 55))
  go_enter Try.func32, Try.ntmps32
  go_wp2_with fail
  refine (szRect_yes _ _ _ _ _ _ _ _ h1 m1 m2 (by omega)).mono ?_
  rintro e W1 ⟨rfl, b1⟩
  replace L_a := Lib.hid (L_a.out.kept b1 L_a.out.inside)
  replace B := Lib.hid (B.out.trans (b1.mono B.out.size))
  clear b1
  have c_a3 : W1.cell? ⟨w.heap.size, 3, none⟩ = some (.slice A3 n3 c3) := L_a.out.cell 3
  go_wp2_with fail
  clear c_a3
  refine (szI_yes _ _ _ _ _ (by omega) m3 (by omega)).mono ?_
  rintro e W2 ⟨rfl, b2⟩
  replace B := Lib.hid (B.out.trans (b2.mono B.out.size))
  clear b2 L_a
  go_wp2
  go_ret
  exact ⟨rfl, B.out⟩

set_option maxHeartbeats 800000 in
theorem szQuery_no (kd kk : Int) (n1 c1 n2 c2 n3 c3 : Nat) (A1 A2 A3 : Option Addr) (l : Int) (w : World) (h0 : 0 ≤ l) (h1 : l ≤ 1048576) (m1 : n1 ≤ maxLen) (m2 : n2 ≤ maxLen) (m3 : n3 ≤ maxLen) (h : l < n1 + n2 + n3) :
    Calls Try.prog 32 #[.agg #[.int .i64 kd, .slice A1 n1 c1, .slice A2 n2 c2, .slice A3 n3 c3, .int .i64 kk], .int .i64 l] w fun e w' => e = .returned (.int .i64 (-1)) ∧ Below w.heap.size w w' := by
  have B := Lib.hid (Below.refl w.heap.size w)
  have L_a := Lib.hid (Lies.new w 55 #[.int .i64 kd, .slice A1 n1 c1, .slice A2 n2 c2, .slice A3 n3 c3, .int .i64 kk])
  replace B := Lib.hid (B.out.alloc B.out.size (.cells #[.int .i64 kd, .slice A1 n1 c1, .slice A2 n2 c2, .slice A3 n3 c3, .int .i64 kk] 55))
  by_cases hh : l < n1 + n2
  · go_enter Try.func32, Try.ntmps32
    go_wp2_with fail
    refine (szRect_no _ _ _ _ _ _ _ _ h0 h1 m1 m2 (by omega)).mono ?_
    rintro e W1 ⟨rfl, b1⟩
    replace B := Lib.hid (B.out.trans (b1.mono B.out.size))
    clear b1 L_a
    go_wp2
    go_ret
    exact ⟨rfl, B.out⟩
  · have hk : ¬ (l - n1 - n2 < 0) := by omega
    go_enter Try.func32, Try.ntmps32
    go_wp2_with fail
    refine (szRect_yes _ _ _ _ _ _ _ _ h1 m1 m2 (by omega)).mono ?_
    rintro e W1 ⟨rfl, b1⟩
    replace L_a := Lib.hid (L_a.out.kept b1 L_a.out.inside)
    replace B := Lib.hid (B.out.trans (b1.mono B.out.size))
    clear b1
    have c_a3 : W1.cell? ⟨w.heap.size, 3, none⟩ = some (.slice A3 n3 c3) := L_a.out.cell 3
    go_wp2_with fail
    clear c_a3
    refine (szI_no _ _ _ _ _ (by omega) (by omega) m3 (by omega)).mono ?_
    rintro e W2 ⟨rfl, b2⟩
    replace B := Lib.hid (B.out.trans (b2.mono B.out.size))
    clear b2 L_a
    go_wp2
    go_ret
    exact ⟨rfl, B.out⟩

set_option maxHeartbeats 1600000 in
theorem eqQuery_same (kd kk : Int) (n1 c1 n2 c2 n3 c3 d1 d2 d3 lo1 lo2 lo3 lo4 lo5 lo6 : Nat) (A1 A2 A3 B1 B2 B3 : Option Addr) (x1 x2 x3 : List Int) (w : World)
    (h1 : Ints w lo1 A1 n1 x1) (h2 : Ints w lo2 A2 n2 x2) (h3 : Ints w lo3 A3 n3 x3) (k1 : Ints w lo4 B1 n1 x1) (k2 : Ints w lo5 B2 n2 x2) (k3 : Ints w lo6 B3 n3 x3) (m1 : n1 ≤ maxLen) (m2 : n2 ≤ maxLen) (m3 : n3 ≤ maxLen) :
    Calls Try.prog 36 #[.agg #[.int .i64 kd, .slice A1 n1 c1, .slice A2 n2 c2, .slice A3 n3 c3, .int .i64 kk], .agg #[.int .i64 kd, .slice B1 n1 d1, .slice B2 n2 d2, .slice B3 n3 d3, .int .i64 kk]] w fun e w' => e = .returned (.bool true) ∧ Below w.heap.size w w' := by
  have e1 : (kd != kd) = false := by simp
  have e2 : (kk != kk) = false := by simp
  have I_1 := Lib.hid h1
  have I_2 := Lib.hid h2
  have I_3 := Lib.hid h3
  have J_1 := Lib.hid k1
  have J_2 := Lib.hid k2
  have J_3 := Lib.hid k3
  clear h1 h2 h3 k1 k2 k3
  have B := Lib.hid (Below.refl w.heap.size w)
  have L_a := Lib.hid (Lies.new w 59 #[.int .i64 kd, .slice A1 n1 c1, .slice A2 n2 c2, .slice A3 n3 c3, .int .i64 kk])
  replace B := Lib.hid (B.out.alloc B.out.size (.cells #[.int .i64 kd, .slice A1 n1 c1, .slice A2 n2 c2, .slice A3 n3 c3, .int .i64 kk] 59))
  replace L_a := Lib.hid (L_a.out.alloc (.cells #[.int .i64 kd, .slice B1 n1 d1, .slice B2 n2 d2, .slice B3 n3 d3, .int .i64 kk] 59))
  have L_b := Lib.hid (Lies.new (w.alloc (.cells #[.int .i64 kd, .slice A1 n1 c1, .slice A2 n2 c2, .slice A3 n3 c3, .int .i64 kk] 59)) 59 #[.int .i64 kd, .slice B1 n1 d1, .slice B2 n2 d2, .slice B3 n3 d3, .int .i64 kk])
  replace B := Lib.hid (B.out.alloc B.out.size (.cells #[.int .i64 kd, .slice B1 n1 d1, .slice B2 n2 d2, .slice B3 n3 d3, .int .i64 kk] 59))
  simp only [World.size_alloc] at L_b
  go_enter Try.func36, Try.ntmps36
  go_wp2_with fail
  refine (eqRect_is true _ _ _ _ _ _ _ _ _ _ _ _ _ _ _ _ x1 x2 x1 x2 _ (by simp) (I_1.out.kept B.out) (I_2.out.kept B.out) (J_1.out.kept B.out) (J_2.out.kept B.out) m1 m2).mono ?_
  rintro e W1 ⟨rfl, b1⟩
  replace L_a := Lib.hid (L_a.out.kept b1 L_a.out.inside)
  replace L_b := Lib.hid (L_b.out.kept b1 L_b.out.inside)
  replace B := Lib.hid (B.out.trans (b1.mono B.out.size))
  clear b1
  have c_a3 : W1.cell? ⟨w.heap.size, 3, none⟩ = some (.slice A3 n3 c3) := L_a.out.cell 3
  have c_b3 : W1.cell? ⟨w.heap.size + 1, 3, none⟩ = some (.slice B3 n3 d3) := L_b.out.cell 3
  go_wp2_with fail
  clear c_a3 c_b3
  refine (eqInt64S_is true _ _ _ _ _ _ _ _ x3 x3 _ (by simp) (I_3.out.kept B.out) (J_3.out.kept B.out) m3).mono ?_
  rintro e W2 ⟨rfl, q, rfl⟩
  have c_a4 : (W1.drewN q).cell? ⟨w.heap.size, 4, none⟩ = some (.int .i64 kk) := L_a.out.cell 4
  have c_b4 : (W1.drewN q).cell? ⟨w.heap.size + 1, 4, none⟩ = some (.int .i64 kk) := L_b.out.cell 4
  go_wp2
  go_ret
  exact ⟨rfl, below_draws B.out _⟩

/-- What a query of its kind may name, and nothing else. -/
def qform (kd : Int) (x1 x2 x3 : List Int) (kk : Int) : Bool :=
  if kd = 1 ∨ kd = 2 then decide (x3.length = 0) && decide (kk = 0) else if kd = 3 then (decide (x1.length = 0) && decide (x2.length = 0)) && decide (kk = 0) else if kd = 4 then decide (x1.length = 0) && decide (x2.length = 0) else false
/-- What is wrong with a query of the right form. -/
def qin (kd : Int) (x1 x2 x3 : List Int) (kk d : Int) : Int :=
  if kd = 1 ∨ kd = 2 then rf x1 x2 d else if pf x3 d ≠ 0 then pf x3 d else if kd = 4 ∧ ¬ (1 ≤ kk ∧ kk ≤ 20) then 3 else 0
/-- What is wrong with a query. -/
def qf (kd : Int) (x1 x2 x3 : List Int) (kk d : Int) : Int :=
  if 2 ≤ d ∧ d ≤ 3 then if qform kd x1 x2 x3 kk then qin kd x1 x2 x3 kk d else 1 else 3

set_option maxHeartbeats 1600000 in
theorem toQuery_any (kd kk : Int) (n1 c1 n2 c2 n3 c3 lo1 lo2 lo3 : Nat) (A1 A2 A3 : Option Addr) (x1 x2 x3 : List Int) (w : World) (h1 : Ints w lo1 A1 n1 x1) (h2 : Ints w lo2 A2 n2 x2) (h3 : Ints w lo3 A3 n3 x3) (m1 : n1 ≤ 1048576) (m2 : n2 ≤ 1048576) (m3 : n3 ≤ 1048576) :
    Calls Try.prog 34 #[.agg #[.int .i64 kd, .slice A1 n1 c1, .slice A2 n2 c2, .slice A3 n3 c3, .int .i64 kk]] w fun e w' => ∃ g1 g2 g3, e = .returned (.agg #[.int .i64 kd, .slice (some ⟨g1, 0, none⟩) n1 n1, .slice (some ⟨g2, 0, none⟩) n2 n2, .slice (some ⟨g3, 0, none⟩) n3 n3, .int .i64 kk]) ∧
      Own w' g1 n1 x1 ∧ Own w' g2 n2 x2 ∧ Own w' g3 n3 x3 ∧ Below w.heap.size w w' := by
  have I_1 := Lib.hid h1
  have I_2 := Lib.hid h2
  have I_3 := Lib.hid h3
  clear h1 h2 h3
  have B := Lib.hid (((below_alloc w (.cells #[.int .i64 kd, .slice A1 n1 c1, .slice A2 n2 c2, .slice A3 n3 c3, .int .i64 kk] 55)).alloc (below_alloc w (.cells #[.int .i64 kd, .slice A1 n1 c1, .slice A2 n2 c2, .slice A3 n3 c3, .int .i64 kk] 55)).size (.cells #[.int .i64 0, .slice none 0 0, .slice none 0 0, .slice none 0 0, .int .i64 0] 59)).alloc ((below_alloc w (.cells #[.int .i64 kd, .slice A1 n1 c1, .slice A2 n2 c2, .slice A3 n3 c3, .int .i64 kk] 55)).alloc (below_alloc w (.cells #[.int .i64 kd, .slice A1 n1 c1, .slice A2 n2 c2, .slice A3 n3 c3, .int .i64 kk] 55)).size (.cells #[.int .i64 0, .slice none 0 0, .slice none 0 0, .slice none 0 0, .int .i64 0] 59)).size (.cells #[.int .i64 kd, .slice none 0 0, .slice none 0 0, .slice none 0 0, .int .i64 0] 59))
  have L_a := Lib.hid (((Lies.new w 55 #[.int .i64 kd, .slice A1 n1 c1, .slice A2 n2 c2, .slice A3 n3 c3, .int .i64 kk]).alloc (.cells #[.int .i64 0, .slice none 0 0, .slice none 0 0, .slice none 0 0, .int .i64 0] 59)).alloc (.cells #[.int .i64 kd, .slice none 0 0, .slice none 0 0, .slice none 0 0, .int .i64 0] 59))
  have L_r := Lib.hid ((Lies.new (w.alloc (.cells #[.int .i64 kd, .slice A1 n1 c1, .slice A2 n2 c2, .slice A3 n3 c3, .int .i64 kk] 55)) 59 #[.int .i64 0, .slice none 0 0, .slice none 0 0, .slice none 0 0, .int .i64 0]).alloc (.cells #[.int .i64 kd, .slice none 0 0, .slice none 0 0, .slice none 0 0, .int .i64 0] 59))
  have L_o := Lib.hid (Lies.new ((w.alloc (.cells #[.int .i64 kd, .slice A1 n1 c1, .slice A2 n2 c2, .slice A3 n3 c3, .int .i64 kk] 55)).alloc (.cells #[.int .i64 0, .slice none 0 0, .slice none 0 0, .slice none 0 0, .int .i64 0] 59)) 59 #[.int .i64 kd, .slice none 0 0, .slice none 0 0, .slice none 0 0, .int .i64 0])
  simp only [World.size_alloc] at L_r L_o
  go_enter Try.func34, Try.ntmps34
  go_wp2_with fail
  refine (toRect_any _ _ _ _ _ _ _ _ x1 x2 _ (I_1.out.kept B.out) (I_2.out.kept B.out) m1 m2).mono ?_
  rintro e W1 ⟨g1, g2, rfl, o1, o2, hg1, hg2, b1⟩
  simp only [World.size_alloc] at hg1
  replace L_a := Lib.hid (L_a.out.kept b1 L_a.out.inside)
  replace L_r := Lib.hid (L_r.out.kept b1 L_r.out.inside)
  replace L_o := Lib.hid (L_o.out.kept b1 L_o.out.inside)
  replace B := Lib.hid (B.out.trans (b1.mono B.out.size))
  have O_1 := Lib.hid o1
  have O_2 := Lib.hid o2
  clear b1 o1 o2
  have c_a3 : W1.cell? ⟨w.heap.size, 3, none⟩ = some (.slice A3 n3 c3) := L_a.out.cell 3
  have c_o1 : W1.cell? ⟨w.heap.size + 1 + 1, 1, none⟩ = some (.slice none 0 0) := L_o.out.cell 1
  have c_o2 : W1.cell? ⟨w.heap.size + 1 + 1, 2, none⟩ = some (.slice none 0 0) := L_o.out.cell 2
  have f_o1 : W1.frozen? ⟨w.heap.size + 1 + 1, 1, none⟩ = false := L_o.out.thawed 1
  have f_o2 : W1.frozen? ⟨w.heap.size + 1 + 1, 2, none⟩ = false := L_o.out.thawed 2
  go_wp2_with fail
  clear c_a3 c_o1 c_o2 f_o1 f_o2
  replace L_a := Lib.hid ((L_a.out.far (a := ⟨w.heap.size + 1 + 1, 1, none⟩) (by show w.heap.size ≠ w.heap.size + 1 + 1; omega) (.slice (some ⟨g1, 0, none⟩) n1 n1)).far (a := ⟨w.heap.size + 1 + 1, 2, none⟩) (by show w.heap.size ≠ w.heap.size + 1 + 1; omega) (.slice (some ⟨g2, 0, none⟩) n2 n2))
  replace L_r := Lib.hid ((L_r.out.far (a := ⟨w.heap.size + 1 + 1, 1, none⟩) (by show w.heap.size + 1 ≠ w.heap.size + 1 + 1; omega) (.slice (some ⟨g1, 0, none⟩) n1 n1)).far (a := ⟨w.heap.size + 1 + 1, 2, none⟩) (by show w.heap.size + 1 ≠ w.heap.size + 1 + 1; omega) (.slice (some ⟨g2, 0, none⟩) n2 n2))
  replace L_o : Hid (Lies ((W1.setCell ⟨w.heap.size + 1 + 1, 1, none⟩ (.slice (some ⟨g1, 0, none⟩) n1 n1)).setCell ⟨w.heap.size + 1 + 1, 2, none⟩ (.slice (some ⟨g2, 0, none⟩) n2 n2)) (w.heap.size + 1 + 1) 59 #[.int .i64 kd, .slice (some ⟨g1, 0, none⟩) n1 n1, .slice (some ⟨g2, 0, none⟩) n2 n2, .slice none 0 0, .int .i64 0]) := Lib.hid ((L_o.out.set 1 (.slice (some ⟨g1, 0, none⟩) n1 n1)).set 2 (.slice (some ⟨g2, 0, none⟩) n2 n2))
  replace O_1 := Lib.hid ((O_1.out.far (a := ⟨w.heap.size + 1 + 1, 1, none⟩) (by show g1 ≠ w.heap.size + 1 + 1; omega) (.slice (some ⟨g1, 0, none⟩) n1 n1)).far (a := ⟨w.heap.size + 1 + 1, 2, none⟩) (by show g1 ≠ w.heap.size + 1 + 1; omega) (.slice (some ⟨g2, 0, none⟩) n2 n2))
  replace O_2 := Lib.hid ((O_2.out.far (a := ⟨w.heap.size + 1 + 1, 1, none⟩) (by show g2 ≠ w.heap.size + 1 + 1; omega) (.slice (some ⟨g1, 0, none⟩) n1 n1)).far (a := ⟨w.heap.size + 1 + 1, 2, none⟩) (by show g2 ≠ w.heap.size + 1 + 1; omega) (.slice (some ⟨g2, 0, none⟩) n2 n2))
  replace B := Lib.hid ((B.out.setCell (p := ⟨w.heap.size + 1 + 1, 1, none⟩) (by show w.heap.size ≤ w.heap.size + 1 + 1; omega) (.slice (some ⟨g1, 0, none⟩) n1 n1)).setCell (p := ⟨w.heap.size + 1 + 1, 2, none⟩) (by show w.heap.size ≤ w.heap.size + 1 + 1; omega) (.slice (some ⟨g2, 0, none⟩) n2 n2))
  generalize hW : (W1.setCell ⟨w.heap.size + 1 + 1, 1, none⟩ (.slice (some ⟨g1, 0, none⟩) n1 n1)).setCell ⟨w.heap.size + 1 + 1, 2, none⟩ (.slice (some ⟨g2, 0, none⟩) n2 n2) = W0 at *
  clear hW
  refine (toInt64S_new _ _ _ _ x3 _ (I_3.out.kept B.out) m3).mono ?_
  rintro e W2 ⟨g3, rfl, hg3, o3, b2⟩
  have i_o := L_o.out.inside
  have ho3 : g3 ≠ w.heap.size + 1 + 1 := by omega
  have ho4 : g3 ≠ w.heap.size + 1 := by omega
  clear hg3 i_o
  replace L_a := Lib.hid (L_a.out.kept b2 L_a.out.inside)
  replace L_r := Lib.hid (L_r.out.kept b2 L_r.out.inside)
  replace L_o := Lib.hid (L_o.out.kept b2 L_o.out.inside)
  replace O_1 := Lib.hid (O_1.out.kept b2)
  replace O_2 := Lib.hid (O_2.out.kept b2)
  replace B := Lib.hid (B.out.trans (b2.mono B.out.size))
  have O_3 := Lib.hid o3
  clear b2 o3 I_1 I_2 I_3
  have c_a4 : W2.cell? ⟨w.heap.size, 4, none⟩ = some (.int .i64 kk) := L_a.out.cell 4
  have c_o0 : W2.cell? ⟨w.heap.size + 1 + 1, 0, none⟩ = some (.int .i64 kd) := L_o.out.cell 0
  have c_o1 : W2.cell? ⟨w.heap.size + 1 + 1, 1, none⟩ = some (.slice (some ⟨g1, 0, none⟩) n1 n1) := L_o.out.cell 1
  have c_o2 : W2.cell? ⟨w.heap.size + 1 + 1, 2, none⟩ = some (.slice (some ⟨g2, 0, none⟩) n2 n2) := L_o.out.cell 2
  have c_o3 : W2.cell? ⟨w.heap.size + 1 + 1, 3, none⟩ = some (.slice none 0 0) := L_o.out.cell 3
  have c_o4 : W2.cell? ⟨w.heap.size + 1 + 1, 4, none⟩ = some (.int .i64 0) := L_o.out.cell 4
  have f_o3 : W2.frozen? ⟨w.heap.size + 1 + 1, 3, none⟩ = false := L_o.out.thawed 3
  have f_o4 : W2.frozen? ⟨w.heap.size + 1 + 1, 4, none⟩ = false := L_o.out.thawed 4
  have c_r0 : W2.cell? ⟨w.heap.size + 1, 0, none⟩ = some (.int .i64 0) := L_r.out.cell 0
  have f_r0 : W2.frozen? ⟨w.heap.size + 1, 0, none⟩ = false := L_r.out.thawed 0
  have c_r1 : W2.cell? ⟨w.heap.size + 1, 1, none⟩ = some (.slice none 0 0) := L_r.out.cell 1
  have f_r1 : W2.frozen? ⟨w.heap.size + 1, 1, none⟩ = false := L_r.out.thawed 1
  have c_r2 : W2.cell? ⟨w.heap.size + 1, 2, none⟩ = some (.slice none 0 0) := L_r.out.cell 2
  have f_r2 : W2.frozen? ⟨w.heap.size + 1, 2, none⟩ = false := L_r.out.thawed 2
  have c_r3 : W2.cell? ⟨w.heap.size + 1, 3, none⟩ = some (.slice none 0 0) := L_r.out.cell 3
  have f_r3 : W2.frozen? ⟨w.heap.size + 1, 3, none⟩ = false := L_r.out.thawed 3
  have c_r4 : W2.cell? ⟨w.heap.size + 1, 4, none⟩ = some (.int .i64 0) := L_r.out.cell 4
  have f_r4 : W2.frozen? ⟨w.heap.size + 1, 4, none⟩ = false := L_r.out.thawed 4
  go_wp2
  refine bodyPost_ret (v := .agg #[.int .i64 kd, .slice (some ⟨g1, 0, none⟩) n1 n1, .slice (some ⟨g2, 0, none⟩) n2 n2, .slice (some ⟨g3, 0, none⟩) n3 n3, .int .i64 kk]) (by simp [results, Try.results34, go_sem, c_r0, c_r1, c_r2, c_r3, c_r4]) rfl ⟨g1, g2, g3, rfl, ?_, ?_, ?_, ?_⟩
  · with_reducible (repeat (first | exact O_1.out | refine Own.far ?_ ?_ _))
    all_goals (first | (show g1 ≠ w.heap.size + 1 + 1; omega) | (show g1 ≠ w.heap.size + 1; omega))
  · with_reducible (repeat (first | exact O_2.out | refine Own.far ?_ ?_ _))
    all_goals (first | (show g2 ≠ w.heap.size + 1 + 1; omega) | (show g2 ≠ w.heap.size + 1; omega))
  · with_reducible (repeat (first | exact O_3.out | refine Own.far ?_ ?_ _))
    all_goals (first | exact ho3 | exact ho4)
  · with_reducible (repeat (first | exact B.out | refine Below.setCell ?_ ?_ _))
    all_goals (first | (show w.heap.size ≤ w.heap.size + 1 + 1; omega) | (show w.heap.size ≤ w.heap.size + 1; omega))

end Go.Proofs.Ytbonpmgbcdknbaa
