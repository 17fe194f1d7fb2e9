/- The walks of spec.OverlapOf and impl.OverlapOf: for every two boxes. -/
import Derived.Test.YtfpmbkfikfdmkaaBoxVals
import Derived.Test.YtfpmbkfikfdmkaaOrders
namespace Go.Proofs.Ytfpmbkfikfdmkaa
open Go.RowKit

/-- How much two boxes have in common, with its code. -/
def overF (x1 x2 x3 x4 : List Int) : Int × Int := if rf2 x1 x2 x3 x4 = 0 then (0, overTo x1 x2 x3 x4 x1.length) else (rf2 x1 x2 x3 x4, 0)

set_option maxHeartbeats 16000000 in
theorem specOverlapOf_any (n1 c1 n2 c2 n3 c3 n4 c4 lo1 lo2 lo3 lo4 : Nat) (A1 A2 A3 A4 : Option Addr) (x1 x2 x3 x4 : List Int) (w : World)
    (h1 : Ints w lo1 A1 n1 x1) (h2 : Ints w lo2 A2 n2 x2) (h3 : Ints w lo3 A3 n3 x3) (h4 : Ints w lo4 A4 n4 x4) (m1 : n1 ≤ maxLen) (m2 : n2 ≤ maxLen) (m3 : n3 ≤ maxLen) (m4 : n4 ≤ maxLen) :
    Calls Try.prog 24 #[.agg #[.slice A1 n1 c1, .slice A2 n2 c2], .agg #[.slice A3 n3 c3, .slice A4 n4 c4]] w fun e w' => e = .returned (.agg #[.int .i64 (overF x1 x2 x3 x4).1, .int .i64 (overF x1 x2 x3 x4).2]) ∧ Below w.heap.size w w' := by
  have I_1 := Lib.hid h1
  have I_2 := Lib.hid h2
  have I_3 := Lib.hid h3
  have I_4 := Lib.hid h4
  have HL := Lib.hid h1.1
  clear h1 h2 h3 h4
  have B := Lib.hid (Below.refl w.heap.size w)
  have L_a := Lib.hid (Lies.new w 26 #[.slice A1 n1 c1, .slice A2 n2 c2])
  replace B := Lib.hid (B.out.alloc B.out.size (.cells #[.slice A1 n1 c1, .slice A2 n2 c2] 26))
  replace L_a := Lib.hid (L_a.out.alloc (.cells #[.slice A3 n3 c3, .slice A4 n4 c4] 26))
  have L_b := Lib.hid (Lies.new (w.alloc (.cells #[.slice A1 n1 c1, .slice A2 n2 c2] 26)) 26 #[.slice A3 n3 c3, .slice A4 n4 c4])
  replace B := Lib.hid (B.out.alloc B.out.size (.cells #[.slice A3 n3 c3, .slice A4 n4 c4] 26))
  replace L_a := Lib.hid (L_a.out.alloc (.cells #[.int .i64 0, .int .i64 0] 35))
  replace L_b := Lib.hid (L_b.out.alloc (.cells #[.int .i64 0, .int .i64 0] 35))
  have L_r := Lib.hid (Lies.new ((w.alloc (.cells #[.slice A1 n1 c1, .slice A2 n2 c2] 26)).alloc (.cells #[.slice A3 n3 c3, .slice A4 n4 c4] 26)) 35 #[.int .i64 0, .int .i64 0])
  replace B := Lib.hid (B.out.alloc B.out.size (.cells #[.int .i64 0, .int .i64 0] 35))
  simp only [World.size_alloc] at L_b
  simp only [World.size_alloc] at L_r
  by_cases hr : rf2 x1 x2 x3 x4 = 0
  · have HF : Hid (overF x1 x2 x3 x4 = (0, overTo x1 x2 x3 x4 n1)) := by show overF x1 x2 x3 x4 = _; rw [← HL.out]; simp [overF, hr]
    obtain ⟨hR, hR'⟩ := right_of_rf2 hr
    rw [HL.out] at hR hR'
    have HR := Lib.hid hR
    have HR' := Lib.hid hR'
    have e2 : n2 = n1 := by rw [← I_2.out.1]; exact hR.len'
    have e3 : n3 = n1 := by rw [← I_3.out.1]; exact hR'.len
    have e4 : n4 = n1 := by rw [← I_4.out.1]; exact hR'.len'
    have hn3 : n1 ≤ 3 := by have := hR.dim; omega
    have hq : (rf2 x1 x2 x3 x4 != 0) = false := by simp [hr]
    clear hr hR hR'
    subst e2 e3 e4
    go_enter Try.func24, Try.ntmps24
    go_wp2_with fail
    refine (l1Two_any _ _ _ _ _ _ _ _ _ _ _ _ _ _ _ _ _ _ x1 x2 x3 x4 _ L_a.out.inside L_b.out.inside ⟨L_a.out.cell 0, L_a.out.cell 1, L_b.out.cell 0, L_b.out.cell 1⟩ (I_1.out.kept B.out) (I_2.out.kept B.out) (I_3.out.kept B.out) (I_4.out.kept B.out) m1 m2 m3 m4).mono ?_
    rintro e W1 ⟨rfl, b1⟩
    replace L_a := Lib.hid (L_a.out.kept b1 L_a.out.inside)
    replace L_b := Lib.hid (L_b.out.kept b1 L_b.out.inside)
    replace L_r := Lib.hid (L_r.out.kept b1 L_r.out.inside)
    replace B := Lib.hid (B.out.trans (b1.mono B.out.size))
    clear b1
    go_wp2_with fail
    refine (l1Overlap_any _ _ _ _ _ _ _ _ _ _ _ _ _ _ _ x1 x2 x3 x4 _ ⟨L_a.out.cell 0, L_a.out.cell 1, L_b.out.cell 0, L_b.out.cell 1⟩ (I_1.out.kept B.out) (I_2.out.kept B.out) (I_3.out.kept B.out) (I_4.out.kept B.out) HR.out HR'.out).mono ?_
    rintro e W9 ⟨rfl, b9d⟩
    have b9 := b9d.below
    clear b9d
    replace L_a := Lib.hid (L_a.out.kept b9 L_a.out.inside)
    replace L_b := Lib.hid (L_b.out.kept b9 L_b.out.inside)
    replace L_r := Lib.hid (L_r.out.kept b9 L_r.out.inside)
    replace B := Lib.hid (B.out.trans (b9.mono B.out.size))
    clear b9
    have c_r0 : W9.cell? ⟨w.heap.size + 1 + 1, 0, none⟩ = some (.int .i64 0) := L_r.out.cell 0
    have f_r0 : W9.frozen? ⟨w.heap.size + 1 + 1, 0, none⟩ = false := L_r.out.thawed 0
    have c_r1 : W9.cell? ⟨w.heap.size + 1 + 1, 1, none⟩ = some (.int .i64 0) := L_r.out.cell 1
    have f_r1 : W9.frozen? ⟨w.heap.size + 1 + 1, 1, none⟩ = false := L_r.out.thawed 1
    go_wp2
    refine bodyPost_ret (v := .agg #[.int .i64 0, .int .i64 (overTo x1 x2 x3 x4 n4)]) (by simp [results, Try.results24, go_sem, c_r0, c_r1]) rfl ⟨by rw [HF.out], ?_⟩
    exact ((B.out.setCell (by show w.heap.size ≤ w.heap.size + 1 + 1; omega) _).setCell (by show w.heap.size ≤ w.heap.size + 1 + 1; omega) _)
  · have HF : Hid (overF x1 x2 x3 x4 = (rf2 x1 x2 x3 x4, 0)) := by show overF x1 x2 x3 x4 = _; simp [overF, hr]
    have hq : (rf2 x1 x2 x3 x4 != 0) = true := by simpa using hr
    clear hr
    go_enter Try.func24, Try.ntmps24
    go_wp2_with fail
    refine (l1Two_any _ _ _ _ _ _ _ _ _ _ _ _ _ _ _ _ _ _ x1 x2 x3 x4 _ L_a.out.inside L_b.out.inside ⟨L_a.out.cell 0, L_a.out.cell 1, L_b.out.cell 0, L_b.out.cell 1⟩ (I_1.out.kept B.out) (I_2.out.kept B.out) (I_3.out.kept B.out) (I_4.out.kept B.out) m1 m2 m3 m4).mono ?_
    rintro e W1 ⟨rfl, b1⟩
    replace L_a := Lib.hid (L_a.out.kept b1 L_a.out.inside)
    replace L_b := Lib.hid (L_b.out.kept b1 L_b.out.inside)
    replace L_r := Lib.hid (L_r.out.kept b1 L_r.out.inside)
    replace B := Lib.hid (B.out.trans (b1.mono B.out.size))
    clear b1
    have c_r0 : W1.cell? ⟨w.heap.size + 1 + 1, 0, none⟩ = some (.int .i64 0) := L_r.out.cell 0
    have f_r0 : W1.frozen? ⟨w.heap.size + 1 + 1, 0, none⟩ = false := L_r.out.thawed 0
    have c_r1 : W1.cell? ⟨w.heap.size + 1 + 1, 1, none⟩ = some (.int .i64 0) := L_r.out.cell 1
    have f_r1 : W1.frozen? ⟨w.heap.size + 1 + 1, 1, none⟩ = false := L_r.out.thawed 1
    go_wp2
    refine bodyPost_ret (v := .agg #[.int .i64 (rf2 x1 x2 x3 x4), .int .i64 0]) (by simp [results, Try.results24, go_sem, c_r0, c_r1]) rfl ⟨by rw [HF.out], ?_⟩
    exact ((B.out.setCell (by show w.heap.size ≤ w.heap.size + 1 + 1; omega) _).setCell (by show w.heap.size ≤ w.heap.size + 1 + 1; omega) _)

end Go.Proofs.Ytfpmbkfikfdmkaa
