/- The walk of spec.UnionOf: for every two boxes. -/
import Derived.Test.YtfpmbkfikfdmkaaUnion
namespace Go.Proofs.Ytfpmbkfikfdmkaa
open Go.RowKit

set_option maxRecDepth 100000 in
set_option maxHeartbeats 16000000 in
theorem specUnionOf_any (n1 c1 n2 c2 n3 c3 n4 c4 lo1 lo2 lo3 lo4 : Nat) (A1 A2 A3 A4 : Option Addr) (x1 x2 x3 x4 : List Int) (w : World)
    (h1 : Ints w lo1 A1 n1 x1) (h2 : Ints w lo2 A2 n2 x2) (h3 : Ints w lo3 A3 n3 x3) (h4 : Ints w lo4 A4 n4 x4) (m1 : n1 ≤ maxLen) (m2 : n2 ≤ maxLen) (m3 : n3 ≤ maxLen) (m4 : n4 ≤ maxLen) :
    Calls Try.prog 13 #[.agg #[.slice A1 n1 c1, .slice A2 n2 c2], .agg #[.slice A3 n3 c3, .slice A4 n4 c4]] w fun e w' => (rf2 x1 x2 x3 x4 = 0 → ∃ b o c b' o' c', e = .returned (.agg #[.int .i64 0, .slice (some ⟨b, o, none⟩) n1 c, .slice (some ⟨b', o', none⟩) n1 c']) ∧ Ints w' w.heap.size (some ⟨b, o, none⟩) n1 (mins x1 x3) ∧ Ints w' w.heap.size (some ⟨b', o', none⟩) n1 (maxs x2 x4) ∧ b < w'.heap.size ∧ b' < w'.heap.size ∧ w.heap.size ≤ b ∧ w.heap.size ≤ b') ∧ (rf2 x1 x2 x3 x4 ≠ 0 → e = .returned (.agg #[.int .i64 (rf2 x1 x2 x3 x4), .slice none 0 0, .slice none 0 0])) ∧ Below w.heap.size w w' := by
  have I_1 := Lib.hid h1
  have I_2 := Lib.hid h2
  have I_3 := Lib.hid h3
  have I_4 := Lib.hid h4
  have HL := Lib.hid h1.1
  clear h1 h2 h3 h4
  have B := Lib.hid (Below.refl w.heap.size w)
  have L_a := Lib.hid (Lies.new w 26 #[.slice A1 n1 c1, .slice A2 n2 c2])
  replace B := Lib.hid (B.out.alloc B.out.size (.cells #[.slice A1 n1 c1, .slice A2 n2 c2] 26))
  replace L_a := Lib.hid (L_a.out.alloc (.cells #[.slice A3 n3 c3, .slice A4 n4 c4] 26))
  have L_b := Lib.hid (Lies.new (w.alloc (.cells #[.slice A1 n1 c1, .slice A2 n2 c2] 26)) 26 #[.slice A3 n3 c3, .slice A4 n4 c4])
  replace B := Lib.hid (B.out.alloc B.out.size (.cells #[.slice A3 n3 c3, .slice A4 n4 c4] 26))
  replace L_a := Lib.hid (L_a.out.alloc (.cells #[.int .i64 0, .slice none 0 0, .slice none 0 0] 30))
  replace L_b := Lib.hid (L_b.out.alloc (.cells #[.int .i64 0, .slice none 0 0, .slice none 0 0] 30))
  have L_r := Lib.hid (Lies.new ((w.alloc (.cells #[.slice A1 n1 c1, .slice A2 n2 c2] 26)).alloc (.cells #[.slice A3 n3 c3, .slice A4 n4 c4] 26)) 30 #[.int .i64 0, .slice none 0 0, .slice none 0 0])
  replace B := Lib.hid (B.out.alloc B.out.size (.cells #[.int .i64 0, .slice none 0 0, .slice none 0 0] 30))
  simp only [World.size_alloc] at L_b
  simp only [World.size_alloc] at L_r
  by_cases hr : rf2 x1 x2 x3 x4 = 0
  · obtain ⟨hR, hR'⟩ := right_of_rf2 hr
    rw [HL.out] at hR hR'
    have e2 : n1 = n2 := by rw [← I_2.out.1]; exact hR.len'.symm
    have e3 : n1 = n3 := by rw [← I_3.out.1]; exact hR'.len.symm
    have e4 : n1 = n4 := by rw [← I_4.out.1]; exact hR'.len'.symm
    have hn3 : n1 ≤ 3 := by rcases hR.dim with e | e <;> omega
    have hn0 : 0 < n1 := by rcases hR.dim with e | e <;> omega
    have hq : (rf2 x1 x2 x3 x4 != 0) = false := by simp [hr]
    have HRF := Lib.hid hr
    clear hr hR hR'
    subst e2 e3 e4
    go_enter Try.func13, Try.ntmps13
    go_wp2_with fail
    refine (l1Two_any _ _ _ _ _ _ _ _ _ _ _ _ _ _ _ _ _ _ x1 x2 x3 x4 _ L_a.out.inside L_b.out.inside ⟨L_a.out.cell 0, L_a.out.cell 1, L_b.out.cell 0, L_b.out.cell 1⟩ (I_1.out.kept B.out) (I_2.out.kept B.out) (I_3.out.kept B.out) (I_4.out.kept B.out) m1 m2 m3 m4).mono ?_
    rintro e W1 ⟨rfl, b1⟩
    replace L_a := Lib.hid (L_a.out.kept b1 L_a.out.inside)
    replace L_b := Lib.hid (L_b.out.kept b1 L_b.out.inside)
    replace L_r := Lib.hid (L_r.out.kept b1 L_r.out.inside)
    replace B := Lib.hid (B.out.trans (b1.mono B.out.size))
    clear b1
    go_wp2_with fail
    refine (l1Union_any _ _ _ _ _ _ _ _ _ _ _ _ _ _ _ x1 x2 x3 x4 _ L_a.out.inside L_b.out.inside ⟨L_a.out.cell 0, L_a.out.cell 1, L_b.out.cell 0, L_b.out.cell 1⟩ (I_1.out.kept B.out) (I_2.out.kept B.out) (I_3.out.kept B.out) (I_4.out.kept B.out) hn3).mono ?_
    rintro e W9 ⟨A, c, A', c', rfl, j1, j2, b9⟩
    have hw9 := B.out.size
    have hr9 := L_r.out.inside
    obtain ⟨bb, oo, rfl, kk1, kk2, _⟩ := j1.2 (by omega)
    obtain ⟨bb', oo', rfl, kk3, kk4, _⟩ := j2.2 (by omega)
    have J1 := Lib.hid j1
    have J2 := Lib.hid j2
    clear j1 j2
    replace L_a := Lib.hid (L_a.out.kept b9 L_a.out.inside)
    replace L_b := Lib.hid (L_b.out.kept b9 L_b.out.inside)
    replace L_r := Lib.hid (L_r.out.kept b9 L_r.out.inside)
    replace B := Lib.hid (B.out.trans (b9.mono B.out.size))
    clear b9
    have c_r0 : W9.cell? ⟨w.heap.size + 1 + 1, 0, none⟩ = some (.int .i64 0) := L_r.out.cell 0
    have f_r0 : W9.frozen? ⟨w.heap.size + 1 + 1, 0, none⟩ = false := L_r.out.thawed 0
    have c_r1 : W9.cell? ⟨w.heap.size + 1 + 1, 1, none⟩ = some (.slice none 0 0) := L_r.out.cell 1
    have f_r1 : W9.frozen? ⟨w.heap.size + 1 + 1, 1, none⟩ = false := L_r.out.thawed 1
    have c_r2 : W9.cell? ⟨w.heap.size + 1 + 1, 2, none⟩ = some (.slice none 0 0) := L_r.out.cell 2
    have f_r2 : W9.frozen? ⟨w.heap.size + 1 + 1, 2, none⟩ = false := L_r.out.thawed 2
    go_wp2
    refine bodyPost_ret (v := .agg #[.int .i64 0, .slice (some ⟨bb, oo, none⟩) n1 c, .slice (some ⟨bb', oo', none⟩) n1 c']) (by simp [results, Try.results13, go_sem, c_r0, c_r1, c_r2]) rfl ⟨fun _ => ⟨bb, oo, c, bb', oo', c', rfl, ?_, ?_, ?_, ?_, ?_, ?_⟩, fun h => absurd HRF.out h, ?_⟩
    · exact (((J1.out.far (by show w.heap.size + 1 + 1 < _; omega) _).far (by show w.heap.size + 1 + 1 < _; omega) _).far (by show w.heap.size + 1 + 1 < _; omega) _).lower hw9
    · exact (((J2.out.far (by show w.heap.size + 1 + 1 < _; omega) _).far (by show w.heap.size + 1 + 1 < _; omega) _).far (by show w.heap.size + 1 + 1 < _; omega) _).lower hw9
    · simp only [size_of_setCell]; exact kk2
    · simp only [size_of_setCell]; exact kk4
    · omega
    · omega
    · exact (((B.out.setCell (by show w.heap.size ≤ w.heap.size + 1 + 1; omega) _).setCell (by show w.heap.size ≤ w.heap.size + 1 + 1; omega) _).setCell (by show w.heap.size ≤ w.heap.size + 1 + 1; omega) _)
  · have hq : (rf2 x1 x2 x3 x4 != 0) = true := by simpa using hr
    have HRF := Lib.hid hr
    clear hr
    go_enter Try.func13, Try.ntmps13
    go_wp2_with fail
    refine (l1Two_any _ _ _ _ _ _ _ _ _ _ _ _ _ _ _ _ _ _ x1 x2 x3 x4 _ L_a.out.inside L_b.out.inside ⟨L_a.out.cell 0, L_a.out.cell 1, L_b.out.cell 0, L_b.out.cell 1⟩ (I_1.out.kept B.out) (I_2.out.kept B.out) (I_3.out.kept B.out) (I_4.out.kept B.out) m1 m2 m3 m4).mono ?_
    rintro e W1 ⟨rfl, b1⟩
    replace L_a := Lib.hid (L_a.out.kept b1 L_a.out.inside)
    replace L_b := Lib.hid (L_b.out.kept b1 L_b.out.inside)
    replace L_r := Lib.hid (L_r.out.kept b1 L_r.out.inside)
    replace B := Lib.hid (B.out.trans (b1.mono B.out.size))
    clear b1
    have c_r0 : W1.cell? ⟨w.heap.size + 1 + 1, 0, none⟩ = some (.int .i64 0) := L_r.out.cell 0
    have f_r0 : W1.frozen? ⟨w.heap.size + 1 + 1, 0, none⟩ = false := L_r.out.thawed 0
    have c_r1 : W1.cell? ⟨w.heap.size + 1 + 1, 1, none⟩ = some (.slice none 0 0) := L_r.out.cell 1
    have f_r1 : W1.frozen? ⟨w.heap.size + 1 + 1, 1, none⟩ = false := L_r.out.thawed 1
    have c_r2 : W1.cell? ⟨w.heap.size + 1 + 1, 2, none⟩ = some (.slice none 0 0) := L_r.out.cell 2
    have f_r2 : W1.frozen? ⟨w.heap.size + 1 + 1, 2, none⟩ = false := L_r.out.thawed 2
    go_wp2
    refine bodyPost_ret (v := .agg #[.int .i64 (rf2 x1 x2 x3 x4), .slice none 0 0, .slice none 0 0]) (by simp [results, Try.results13, go_sem, c_r0, c_r1, c_r2]) rfl ⟨fun h => absurd h HRF.out, fun _ => rfl, ?_⟩
    exact (((B.out.setCell (by show w.heap.size ≤ w.heap.size + 1 + 1; omega) _).setCell (by show w.heap.size ≤ w.heap.size + 1 + 1; omega) _).setCell (by show w.heap.size ≤ w.heap.size + 1 + 1; omega) _)

end Go.Proofs.Ytfpmbkfikfdmkaa
