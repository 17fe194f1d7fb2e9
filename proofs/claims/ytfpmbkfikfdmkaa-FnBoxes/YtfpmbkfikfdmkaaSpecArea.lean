/- The walks of spec.AreaOf and spec.MarginOf: for every box. -/
import Derived.Test.YtfpmbkfikfdmkaaSpecLoops2
namespace Go.Proofs.Ytfpmbkfikfdmkaa
open Go.RowKit

/-- The area of a box, with its code. -/
def areaF (xs ys : List Int) : Int × Int := if rf xs ys xs.length = 0 then (0, areaTo xs ys xs.length) else (rf xs ys xs.length, 0)

/-- The margin of a box, with its code. -/
def marginF (xs ys : List Int) : Int × Int := if rf xs ys xs.length = 0 then (0, marginTo xs ys xs.length) else (rf xs ys xs.length, 0)

set_option maxHeartbeats 3200000 in
theorem specAreaOf_any (n1 c1 n2 c2 lo1 lo2 : Nat) (A1 A2 : Option Addr) (x1 x2 : List Int) (w : World)
    (h1 : Ints w lo1 A1 n1 x1) (h2 : Ints w lo2 A2 n2 x2) (m1 : n1 ≤ maxLen) (m2 : n2 ≤ maxLen) :
    Calls Try.prog 26 #[.agg #[.slice A1 n1 c1, .slice A2 n2 c2]] w fun e w' => e = .returned (.agg #[.int .i64 (areaF x1 x2).1, .int .i64 (areaF x1 x2).2]) ∧ Below w.heap.size w w' := by
  have I_1 := Lib.hid h1
  have I_2 := Lib.hid h2
  have HL := Lib.hid h1.1
  clear h1 h2
  have B := Lib.hid (Below.refl w.heap.size w)
  have L_a := Lib.hid (Lies.new w 26 #[.slice A1 n1 c1, .slice A2 n2 c2])
  replace B := Lib.hid (B.out.alloc B.out.size (.cells #[.slice A1 n1 c1, .slice A2 n2 c2] 26))
  replace L_a := Lib.hid (L_a.out.alloc (.cells #[.int .i64 0, .int .i64 0] 35))
  have L_r := Lib.hid (Lies.new (w.alloc (.cells #[.slice A1 n1 c1, .slice A2 n2 c2] 26)) 35 #[.int .i64 0, .int .i64 0])
  replace B := Lib.hid (B.out.alloc B.out.size (.cells #[.int .i64 0, .int .i64 0] 35))
  simp only [World.size_alloc] at L_r
  by_cases hr : rf x1 x2 x1.length = 0
  · have HF : Hid (areaF x1 x2 = (0, areaTo x1 x2 n1)) := by show areaF x1 x2 = _; rw [← HL.out]; simp [areaF, hr]
    have hR := right_of_rf (n := x1.length) hr
    rw [HL.out] at hR hr
    have HR := Lib.hid hR
    have e2 : n2 = n1 := by rw [← I_2.out.1]; exact hR.len'
    subst e2
    have hq : (rf x1 x2 (n2 : Int) != 0) = false := by simp [hr]
    clear hr hR
    go_enter Try.func26, Try.ntmps26
    go_wp2_with fail
    refine (specRectFault_any _ _ _ _ _ _ _ _ _ x1 x2 _ (I_1.out.kept B.out) (I_2.out.kept B.out) m1 m2).mono ?_
    rintro e W1 ⟨rfl, b1⟩
    replace L_a := Lib.hid (L_a.out.kept b1 L_a.out.inside)
    replace L_r := Lib.hid (L_r.out.kept b1 L_r.out.inside)
    replace B := Lib.hid (B.out.trans (b1.mono B.out.size))
    clear b1
    have c_a0 : W1.cell? ⟨w.heap.size, 0, none⟩ = some (.slice A1 n2 c1) := L_a.out.cell 0
    have c_a1 : W1.cell? ⟨w.heap.size, 1, none⟩ = some (.slice A2 n2 c2) := L_a.out.cell 1
    go_wp2_with fail
    clear c_a0 c_a1
    refine (l1Area_any _ _ _ _ _ _ _ _ x1 x2 _ (L_a.out.cell 0) (L_a.out.cell 1) (I_1.out.kept B.out) (I_2.out.kept B.out) HR.out).mono ?_
    rintro e W9 ⟨rfl, b9d⟩
    have b9 := b9d.below
    clear b9d
    replace L_a := Lib.hid (L_a.out.kept b9 L_a.out.inside)
    replace L_r := Lib.hid (L_r.out.kept b9 L_r.out.inside)
    replace B := Lib.hid (B.out.trans (b9.mono B.out.size))
    clear b9
    have c_r0 : W9.cell? ⟨w.heap.size + 1, 0, none⟩ = some (.int .i64 0) := L_r.out.cell 0
    have f_r0 : W9.frozen? ⟨w.heap.size + 1, 0, none⟩ = false := L_r.out.thawed 0
    have c_r1 : W9.cell? ⟨w.heap.size + 1, 1, none⟩ = some (.int .i64 0) := L_r.out.cell 1
    have f_r1 : W9.frozen? ⟨w.heap.size + 1, 1, none⟩ = false := L_r.out.thawed 1
    go_wp2
    refine bodyPost_ret (v := .agg #[.int .i64 0, .int .i64 (areaTo x1 x2 n2)]) (by simp [results, Try.results26, go_sem, c_r0, c_r1]) rfl ⟨by rw [HF.out], ?_⟩
    exact ((B.out.setCell (by show w.heap.size ≤ w.heap.size + 1; omega) _).setCell (by show w.heap.size ≤ w.heap.size + 1; omega) _)
  · have HF : Hid (areaF x1 x2 = (rf x1 x2 x1.length, 0)) := by show areaF x1 x2 = _; simp [areaF, hr]
    rw [HL.out] at HF hr
    have hq : (rf x1 x2 (n1 : Int) != 0) = true := by simpa using hr
    clear hr
    go_enter Try.func26, Try.ntmps26
    go_wp2_with fail
    refine (specRectFault_any _ _ _ _ _ _ _ _ _ x1 x2 _ (I_1.out.kept B.out) (I_2.out.kept B.out) m1 m2).mono ?_
    rintro e W1 ⟨rfl, b1⟩
    replace L_a := Lib.hid (L_a.out.kept b1 L_a.out.inside)
    replace L_r := Lib.hid (L_r.out.kept b1 L_r.out.inside)
    replace B := Lib.hid (B.out.trans (b1.mono B.out.size))
    clear b1
    have c_r0 : W1.cell? ⟨w.heap.size + 1, 0, none⟩ = some (.int .i64 0) := L_r.out.cell 0
    have f_r0 : W1.frozen? ⟨w.heap.size + 1, 0, none⟩ = false := L_r.out.thawed 0
    have c_r1 : W1.cell? ⟨w.heap.size + 1, 1, none⟩ = some (.int .i64 0) := L_r.out.cell 1
    have f_r1 : W1.frozen? ⟨w.heap.size + 1, 1, none⟩ = false := L_r.out.thawed 1
    go_wp2
    refine bodyPost_ret (v := .agg #[.int .i64 (rf x1 x2 (n1 : Int)), .int .i64 0]) (by simp [results, Try.results26, go_sem, c_r0, c_r1]) rfl ⟨by rw [HF.out], ?_⟩
    exact ((B.out.setCell (by show w.heap.size ≤ w.heap.size + 1; omega) _).setCell (by show w.heap.size ≤ w.heap.size + 1; omega) _)

set_option maxHeartbeats 3200000 in
theorem specMarginOf_any (n1 c1 n2 c2 lo1 lo2 : Nat) (A1 A2 : Option Addr) (x1 x2 : List Int) (w : World)
    (h1 : Ints w lo1 A1 n1 x1) (h2 : Ints w lo2 A2 n2 x2) (m1 : n1 ≤ maxLen) (m2 : n2 ≤ maxLen) :
    Calls Try.prog 28 #[.agg #[.slice A1 n1 c1, .slice A2 n2 c2]] w fun e w' => e = .returned (.agg #[.int .i64 (marginF x1 x2).1, .int .i64 (marginF x1 x2).2]) ∧ Below w.heap.size w w' := by
  have I_1 := Lib.hid h1
  have I_2 := Lib.hid h2
  have HL := Lib.hid h1.1
  clear h1 h2
  have B := Lib.hid (Below.refl w.heap.size w)
  have L_a := Lib.hid (Lies.new w 26 #[.slice A1 n1 c1, .slice A2 n2 c2])
  replace B := Lib.hid (B.out.alloc B.out.size (.cells #[.slice A1 n1 c1, .slice A2 n2 c2] 26))
  replace L_a := Lib.hid (L_a.out.alloc (.cells #[.int .i64 0, .int .i64 0] 35))
  have L_r := Lib.hid (Lies.new (w.alloc (.cells #[.slice A1 n1 c1, .slice A2 n2 c2] 26)) 35 #[.int .i64 0, .int .i64 0])
  replace B := Lib.hid (B.out.alloc B.out.size (.cells #[.int .i64 0, .int .i64 0] 35))
  simp only [World.size_alloc] at L_r
  by_cases hr : rf x1 x2 x1.length = 0
  · have HF : Hid (marginF x1 x2 = (0, marginTo x1 x2 n1)) := by show marginF x1 x2 = _; rw [← HL.out]; simp [marginF, hr]
    have hR := right_of_rf (n := x1.length) hr
    rw [HL.out] at hR hr
    have HR := Lib.hid hR
    have e2 : n2 = n1 := by rw [← I_2.out.1]; exact hR.len'
    subst e2
    have hq : (rf x1 x2 (n2 : Int) != 0) = false := by simp [hr]
    clear hr hR
    go_enter Try.func28, Try.ntmps28
    go_wp2_with fail
    refine (specRectFault_any _ _ _ _ _ _ _ _ _ x1 x2 _ (I_1.out.kept B.out) (I_2.out.kept B.out) m1 m2).mono ?_
    rintro e W1 ⟨rfl, b1⟩
    replace L_a := Lib.hid (L_a.out.kept b1 L_a.out.inside)
    replace L_r := Lib.hid (L_r.out.kept b1 L_r.out.inside)
    replace B := Lib.hid (B.out.trans (b1.mono B.out.size))
    clear b1
    have c_a0 : W1.cell? ⟨w.heap.size, 0, none⟩ = some (.slice A1 n2 c1) := L_a.out.cell 0
    have c_a1 : W1.cell? ⟨w.heap.size, 1, none⟩ = some (.slice A2 n2 c2) := L_a.out.cell 1
    go_wp2_with fail
    clear c_a0 c_a1
    refine (l1Margin_any _ _ _ _ _ _ _ _ x1 x2 _ (L_a.out.cell 0) (L_a.out.cell 1) (I_1.out.kept B.out) (I_2.out.kept B.out) HR.out).mono ?_
    rintro e W9 ⟨rfl, b9d⟩
    have b9 := b9d.below
    clear b9d
    replace L_a := Lib.hid (L_a.out.kept b9 L_a.out.inside)
    replace L_r := Lib.hid (L_r.out.kept b9 L_r.out.inside)
    replace B := Lib.hid (B.out.trans (b9.mono B.out.size))
    clear b9
    have c_r0 : W9.cell? ⟨w.heap.size + 1, 0, none⟩ = some (.int .i64 0) := L_r.out.cell 0
    have f_r0 : W9.frozen? ⟨w.heap.size + 1, 0, none⟩ = false := L_r.out.thawed 0
    have c_r1 : W9.cell? ⟨w.heap.size + 1, 1, none⟩ = some (.int .i64 0) := L_r.out.cell 1
    have f_r1 : W9.frozen? ⟨w.heap.size + 1, 1, none⟩ = false := L_r.out.thawed 1
    go_wp2
    refine bodyPost_ret (v := .agg #[.int .i64 0, .int .i64 (marginTo x1 x2 n2)]) (by simp [results, Try.results28, go_sem, c_r0, c_r1]) rfl ⟨by rw [HF.out], ?_⟩
    exact ((B.out.setCell (by show w.heap.size ≤ w.heap.size + 1; omega) _).setCell (by show w.heap.size ≤ w.heap.size + 1; omega) _)
  · have HF : Hid (marginF x1 x2 = (rf x1 x2 x1.length, 0)) := by show marginF x1 x2 = _; simp [marginF, hr]
    rw [HL.out] at HF hr
    have hq : (rf x1 x2 (n1 : Int) != 0) = true := by simpa using hr
    clear hr
    go_enter Try.func28, Try.ntmps28
    go_wp2_with fail
    refine (specRectFault_any _ _ _ _ _ _ _ _ _ x1 x2 _ (I_1.out.kept B.out) (I_2.out.kept B.out) m1 m2).mono ?_
    rintro e W1 ⟨rfl, b1⟩
    replace L_a := Lib.hid (L_a.out.kept b1 L_a.out.inside)
    replace L_r := Lib.hid (L_r.out.kept b1 L_r.out.inside)
    replace B := Lib.hid (B.out.trans (b1.mono B.out.size))
    clear b1
    have c_r0 : W1.cell? ⟨w.heap.size + 1, 0, none⟩ = some (.int .i64 0) := L_r.out.cell 0
    have f_r0 : W1.frozen? ⟨w.heap.size + 1, 0, none⟩ = false := L_r.out.thawed 0
    have c_r1 : W1.cell? ⟨w.heap.size + 1, 1, none⟩ = some (.int .i64 0) := L_r.out.cell 1
    have f_r1 : W1.frozen? ⟨w.heap.size + 1, 1, none⟩ = false := L_r.out.thawed 1
    go_wp2
    refine bodyPost_ret (v := .agg #[.int .i64 (rf x1 x2 (n1 : Int)), .int .i64 0]) (by simp [results, Try.results28, go_sem, c_r0, c_r1]) rfl ⟨by rw [HF.out], ?_⟩
    exact ((B.out.setCell (by show w.heap.size ≤ w.heap.size + 1; omega) _).setCell (by show w.heap.size ≤ w.heap.size + 1; omega) _)

end Go.Proofs.Ytfpmbkfikfdmkaa
