/- The walks of impl.AreaOf and impl.MarginOf: for every box. -/
import Derived.Test.YtfpmbkfikfdmkaaSpecArea
import Derived.Test.YtfpmbkfikfdmkaaBoxVals
namespace Go.Proofs.Ytfpmbkfikfdmkaa
open Go.RowKit

set_option maxHeartbeats 3200000 in
theorem implAreaOf_any (n1 c1 n2 c2 lo1 lo2 : Nat) (A1 A2 : Option Addr) (x1 x2 : List Int) (w : World)
    (h1 : Ints w lo1 A1 n1 x1) (h2 : Ints w lo2 A2 n2 x2) (m1 : n1 ≤ maxLen) (m2 : n2 ≤ maxLen) :
    Calls Try.prog 25 #[.agg #[.slice A1 n1 c1, .slice A2 n2 c2]] w fun e w' => e = .returned (.agg #[.int .i64 (areaF x1 x2).1, .int .i64 (areaF x1 x2).2]) ∧ Below w.heap.size w w' := by
  have I_1 := Lib.hid h1
  have I_2 := Lib.hid h2
  have HL := Lib.hid h1.1
  clear h1 h2
  have B := Lib.hid (Below.refl w.heap.size w)
  have L_a := Lib.hid (Lies.new w 26 #[.slice A1 n1 c1, .slice A2 n2 c2])
  replace B := Lib.hid (B.out.alloc B.out.size (.cells #[.slice A1 n1 c1, .slice A2 n2 c2] 26))
  replace L_a := Lib.hid (L_a.out.alloc (.cells #[.int .i64 0, .int .i64 0] 35))
  have L_r := Lib.hid (Lies.new (w.alloc (.cells #[.slice A1 n1 c1, .slice A2 n2 c2] 26)) 35 #[.int .i64 0, .int .i64 0])
  replace B := Lib.hid (B.out.alloc B.out.size (.cells #[.int .i64 0, .int .i64 0] 35))
  simp only [World.size_alloc] at L_r
  by_cases hr : rf x1 x2 x1.length = 0
  · have HF : Hid (areaF x1 x2 = (0, areaTo x1 x2 n1)) := by show areaF x1 x2 = _; rw [← HL.out]; simp [areaF, hr]
    have hR := right_of_rf (n := x1.length) hr
    obtain ⟨p0, p1, p2, hp1⟩ := pad_of (xs := x1) hR.dim
    obtain ⟨q0, q1, q2, hp2⟩ := pad_of (xs := x2) (by rw [hR.len']; exact hR.dim)
    have P1 := Lib.hid hp1
    clear hp1
    have P2 := Lib.hid hp2
    clear hp2
    rw [HL.out] at hR hr
    have HR := Lib.hid hR
    have hq : (rf x1 x2 (n1 : Int) != 0) = false := by simp [hr]
    clear hr hR
    go_enter Try.func25, Try.ntmps25
    go_wp2
    generalize hW : ((w.alloc (.cells #[.slice A1 n1 c1, .slice A2 n2 c2] 26)).alloc (.cells #[.int .i64 0, .int .i64 0] 35)) = W0 at *
    clear hW
    have k_0 : W0.cell? ⟨w.heap.size, 0, none⟩ = some (.slice A1 n1 c1) ∧ W0.cell? ⟨w.heap.size, 1, none⟩ = some (.slice A2 n2 c2) := ⟨L_a.out.cell 0, L_a.out.cell 1⟩
    go_region_held3 (fun w' => w'.cell? ⟨w.heap.size, 0, none⟩ = some (.slice A1 n1 c1) ∧ w'.cell? ⟨w.heap.size, 1, none⟩ = some (.slice A2 n2 c2))
      (first | (simp [go_sem, k_0]; done) | with_reducible exact k_1 | with_reducible exact k_2)
      (first
        | (go_at_call 72; refine (dimsOf_any _ _ _ _ _ _ _).mono ?_
           rintro e W1 ⟨rfl, b1d⟩
           have b1 := below_drawn b1d
           have k_1 : W1.cell? ⟨w.heap.size, 0, none⟩ = some (.slice A1 n1 c1) ∧ W1.cell? ⟨w.heap.size, 1, none⟩ = some (.slice A2 n2 c2) := ⟨(L_a.out.kept b1 L_a.out.inside).cell 0, (L_a.out.kept b1 L_a.out.inside).cell 1⟩
           clear b1d)
        | (go_at_call 18; refine (implRectFault_any _ _ _ _ _ _ _ _ _ x1 x2 _ (I_1.out.kept (B.out.trans (b1.mono B.out.size))) (I_2.out.kept (B.out.trans (b1.mono B.out.size))) m1 m2).mono ?_
           rintro e W2 ⟨rfl, b2⟩
           have k_2 : W2.cell? ⟨w.heap.size, 0, none⟩ = some (.slice A1 n1 c1) ∧ W2.cell? ⟨w.heap.size, 1, none⟩ = some (.slice A2 n2 c2) := ⟨((L_a.out.kept b1 L_a.out.inside).kept b2 (L_a.out.kept b1 L_a.out.inside).inside).cell 0, ((L_a.out.kept b1 L_a.out.inside).kept b2 (L_a.out.kept b1 L_a.out.inside).inside).cell 1⟩))
    clear k_0 k_1 k_2
    replace L_a := Lib.hid (L_a.out.kept b1 L_a.out.inside)
    replace L_r := Lib.hid (L_r.out.kept b1 L_r.out.inside)
    replace B := Lib.hid (B.out.trans (b1.mono B.out.size))
    clear b1
    replace L_a := Lib.hid (L_a.out.kept b2 L_a.out.inside)
    replace L_r := Lib.hid (L_r.out.kept b2 L_r.out.inside)
    replace B := Lib.hid (B.out.trans (b2.mono B.out.size))
    clear b2
    go_wp2
    have k_0 : W2.cell? ⟨w.heap.size, 0, none⟩ = some (.slice A1 n1 c1) ∧ W2.cell? ⟨w.heap.size, 1, none⟩ = some (.slice A2 n2 c2) := ⟨L_a.out.cell 0, L_a.out.cell 1⟩
    go_region_held3 (fun w' => w'.cell? ⟨w.heap.size, 0, none⟩ = some (.slice A1 n1 c1) ∧ w'.cell? ⟨w.heap.size, 1, none⟩ = some (.slice A2 n2 c2))
      (first | (simp [go_sem, k_0]; done) | with_reducible exact k_1 | with_reducible exact k_2 | with_reducible exact k_3 | (simp [go_sem, k_3]; done))
      (first
        | (go_at_call 69; refine (boxFrom_any _ _ _ _ _ _ _ _ x1 x2 _ _ _ _ _ _ _ P1.out P2.out (I_1.out.kept B.out.drew) (I_2.out.kept B.out.drew)).mono ?_
           rintro e W3 ⟨rfl, b3d⟩
           have b3 := below_drawn b3d
           have k_1 : W3.cell? ⟨w.heap.size, 0, none⟩ = some (.slice A1 n1 c1) ∧ W3.cell? ⟨w.heap.size, 1, none⟩ = some (.slice A2 n2 c2) := ⟨(L_a.out.kept b3 L_a.out.inside).cell 0, (L_a.out.kept b3 L_a.out.inside).cell 1⟩
           clear b3d)
        | (go_at_call 72; refine (dimsOf_any _ _ _ _ _ _ _).mono ?_
           rintro e W4 ⟨rfl, b4⟩
           have k_2 : W4.cell? ⟨w.heap.size, 0, none⟩ = some (.slice A1 n1 c1) ∧ W4.cell? ⟨w.heap.size, 1, none⟩ = some (.slice A2 n2 c2) := ⟨((L_a.out.kept b3 L_a.out.inside).kept b4 (L_a.out.kept b3 L_a.out.inside).inside).cell 0, ((L_a.out.kept b3 L_a.out.inside).kept b4 (L_a.out.kept b3 L_a.out.inside).inside).cell 1⟩)
        | (go_at_call 86; refine (area_any _ _ _ _ _ _ _ _ x1 x2 _ P1.out P2.out HR.out rfl).mono ?_
           rintro e W5 ⟨rfl, b5⟩
           have k_3 : W5.cell? ⟨w.heap.size, 0, none⟩ = some (.slice A1 n1 c1) ∧ W5.cell? ⟨w.heap.size, 1, none⟩ = some (.slice A2 n2 c2) := ⟨(((L_a.out.kept b3 L_a.out.inside).kept b4 (L_a.out.kept b3 L_a.out.inside).inside).kept b5 ((L_a.out.kept b3 L_a.out.inside).kept b4 (L_a.out.kept b3 L_a.out.inside).inside).inside).cell 0, (((L_a.out.kept b3 L_a.out.inside).kept b4 (L_a.out.kept b3 L_a.out.inside).inside).kept b5 ((L_a.out.kept b3 L_a.out.inside).kept b4 (L_a.out.kept b3 L_a.out.inside).inside).inside).cell 1⟩
           have c_r0 : W5.cell? ⟨w.heap.size + 1, 0, none⟩ = some (.int .i64 0) := (((L_r.out.kept b3 L_r.out.inside).kept b4 (L_r.out.kept b3 L_r.out.inside).inside).kept b5 ((L_r.out.kept b3 L_r.out.inside).kept b4 (L_r.out.kept b3 L_r.out.inside).inside).inside).cell 0
           have f_r0 : W5.frozen? ⟨w.heap.size + 1, 0, none⟩ = false := (((L_r.out.kept b3 L_r.out.inside).kept b4 (L_r.out.kept b3 L_r.out.inside).inside).kept b5 ((L_r.out.kept b3 L_r.out.inside).kept b4 (L_r.out.kept b3 L_r.out.inside).inside).inside).thawed 0
           have c_r1 : W5.cell? ⟨w.heap.size + 1, 1, none⟩ = some (.int .i64 0) := (((L_r.out.kept b3 L_r.out.inside).kept b4 (L_r.out.kept b3 L_r.out.inside).inside).kept b5 ((L_r.out.kept b3 L_r.out.inside).kept b4 (L_r.out.kept b3 L_r.out.inside).inside).inside).cell 1
           have f_r1 : W5.frozen? ⟨w.heap.size + 1, 1, none⟩ = false := (((L_r.out.kept b3 L_r.out.inside).kept b4 (L_r.out.kept b3 L_r.out.inside).inside).kept b5 ((L_r.out.kept b3 L_r.out.inside).kept b4 (L_r.out.kept b3 L_r.out.inside).inside).inside).thawed 1))
    clear k_0 k_1 k_2 k_3
    replace L_a := Lib.hid (L_a.out.kept b3 L_a.out.inside)
    replace L_r := Lib.hid (L_r.out.kept b3 L_r.out.inside)
    replace B := Lib.hid (B.out.trans (b3.mono B.out.size))
    clear b3
    replace L_a := Lib.hid (L_a.out.kept b4 L_a.out.inside)
    replace L_r := Lib.hid (L_r.out.kept b4 L_r.out.inside)
    replace B := Lib.hid (B.out.trans (b4.mono B.out.size))
    clear b4
    replace L_a := Lib.hid (L_a.out.kept b5 L_a.out.inside)
    replace L_r := Lib.hid (L_r.out.kept b5 L_r.out.inside)
    replace B := Lib.hid (B.out.trans (b5.mono B.out.size))
    clear b5
    go_wp2
    refine bodyPost_ret (v := .agg #[.int .i64 0, .int .i64 (areaTo x1 x2 n1)]) (by simp [results, Try.results25, go_sem, c_r0, c_r1]) rfl ⟨by rw [HF.out], ?_⟩
    exact ((B.out.setCell (by show w.heap.size ≤ w.heap.size + 1; omega) _).setCell (by show w.heap.size ≤ w.heap.size + 1; omega) _)
  · have HF : Hid (areaF x1 x2 = (rf x1 x2 x1.length, 0)) := by show areaF x1 x2 = _; simp [areaF, hr]
    rw [HL.out] at HF hr
    have hq : (rf x1 x2 (n1 : Int) != 0) = true := by simpa using hr
    clear hr
    go_enter Try.func25, Try.ntmps25
    go_wp2
    generalize hW : ((w.alloc (.cells #[.slice A1 n1 c1, .slice A2 n2 c2] 26)).alloc (.cells #[.int .i64 0, .int .i64 0] 35)) = W0 at *
    clear hW
    have k_0 : W0.cell? ⟨w.heap.size, 0, none⟩ = some (.slice A1 n1 c1) ∧ W0.cell? ⟨w.heap.size, 1, none⟩ = some (.slice A2 n2 c2) := ⟨L_a.out.cell 0, L_a.out.cell 1⟩
    go_region_held3 (fun w' => w'.cell? ⟨w.heap.size, 0, none⟩ = some (.slice A1 n1 c1) ∧ w'.cell? ⟨w.heap.size, 1, none⟩ = some (.slice A2 n2 c2))
      (first | (simp [go_sem, k_0]; done) | with_reducible exact k_1 | with_reducible exact k_2)
      (first
        | (go_at_call 72; refine (dimsOf_any _ _ _ _ _ _ _).mono ?_
           rintro e W1 ⟨rfl, b1d⟩
           have b1 := below_drawn b1d
           have k_1 : W1.cell? ⟨w.heap.size, 0, none⟩ = some (.slice A1 n1 c1) ∧ W1.cell? ⟨w.heap.size, 1, none⟩ = some (.slice A2 n2 c2) := ⟨(L_a.out.kept b1 L_a.out.inside).cell 0, (L_a.out.kept b1 L_a.out.inside).cell 1⟩
           clear b1d)
        | (go_at_call 18; refine (implRectFault_any _ _ _ _ _ _ _ _ _ x1 x2 _ (I_1.out.kept (B.out.trans (b1.mono B.out.size))) (I_2.out.kept (B.out.trans (b1.mono B.out.size))) m1 m2).mono ?_
           rintro e W2 ⟨rfl, b2⟩
           have k_2 : W2.cell? ⟨w.heap.size, 0, none⟩ = some (.slice A1 n1 c1) ∧ W2.cell? ⟨w.heap.size, 1, none⟩ = some (.slice A2 n2 c2) := ⟨((L_a.out.kept b1 L_a.out.inside).kept b2 (L_a.out.kept b1 L_a.out.inside).inside).cell 0, ((L_a.out.kept b1 L_a.out.inside).kept b2 (L_a.out.kept b1 L_a.out.inside).inside).cell 1⟩))
    clear k_0 k_1 k_2
    replace L_a := Lib.hid (L_a.out.kept b1 L_a.out.inside)
    replace L_r := Lib.hid (L_r.out.kept b1 L_r.out.inside)
    replace B := Lib.hid (B.out.trans (b1.mono B.out.size))
    clear b1
    replace L_a := Lib.hid (L_a.out.kept b2 L_a.out.inside)
    replace L_r := Lib.hid (L_r.out.kept b2 L_r.out.inside)
    replace B := Lib.hid (B.out.trans (b2.mono B.out.size))
    clear b2
    have c_r0 : W2.cell? ⟨w.heap.size + 1, 0, none⟩ = some (.int .i64 0) := L_r.out.cell 0
    have f_r0 : W2.frozen? ⟨w.heap.size + 1, 0, none⟩ = false := L_r.out.thawed 0
    have c_r1 : W2.cell? ⟨w.heap.size + 1, 1, none⟩ = some (.int .i64 0) := L_r.out.cell 1
    have f_r1 : W2.frozen? ⟨w.heap.size + 1, 1, none⟩ = false := L_r.out.thawed 1
    go_wp2
    refine bodyPost_ret (v := .agg #[.int .i64 (rf x1 x2 (n1 : Int)), .int .i64 0]) (by simp [results, Try.results25, go_sem, c_r0, c_r1]) rfl ⟨by rw [HF.out], ?_⟩
    exact ((B.out.setCell (by show w.heap.size ≤ w.heap.size + 1; omega) _).setCell (by show w.heap.size ≤ w.heap.size + 1; omega) _)

set_option maxHeartbeats 3200000 in
theorem implMarginOf_any (n1 c1 n2 c2 lo1 lo2 : Nat) (A1 A2 : Option Addr) (x1 x2 : List Int) (w : World)
    (h1 : Ints w lo1 A1 n1 x1) (h2 : Ints w lo2 A2 n2 x2) (m1 : n1 ≤ maxLen) (m2 : n2 ≤ maxLen) :
    Calls Try.prog 27 #[.agg #[.slice A1 n1 c1, .slice A2 n2 c2]] w fun e w' => e = .returned (.agg #[.int .i64 (marginF x1 x2).1, .int .i64 (marginF x1 x2).2]) ∧ Below w.heap.size w w' := by
  have I_1 := Lib.hid h1
  have I_2 := Lib.hid h2
  have HL := Lib.hid h1.1
  clear h1 h2
  have B := Lib.hid (Below.refl w.heap.size w)
  have L_a := Lib.hid (Lies.new w 26 #[.slice A1 n1 c1, .slice A2 n2 c2])
  replace B := Lib.hid (B.out.alloc B.out.size (.cells #[.slice A1 n1 c1, .slice A2 n2 c2] 26))
  replace L_a := Lib.hid (L_a.out.alloc (.cells #[.int .i64 0, .int .i64 0] 35))
  have L_r := Lib.hid (Lies.new (w.alloc (.cells #[.slice A1 n1 c1, .slice A2 n2 c2] 26)) 35 #[.int .i64 0, .int .i64 0])
  replace B := Lib.hid (B.out.alloc B.out.size (.cells #[.int .i64 0, .int .i64 0] 35))
  simp only [World.size_alloc] at L_r
  by_cases hr : rf x1 x2 x1.length = 0
  · have HF : Hid (marginF x1 x2 = (0, marginTo x1 x2 n1)) := by show marginF x1 x2 = _; rw [← HL.out]; simp [marginF, hr]
    have hR := right_of_rf (n := x1.length) hr
    obtain ⟨p0, p1, p2, hp1⟩ := pad_of (xs := x1) hR.dim
    obtain ⟨q0, q1, q2, hp2⟩ := pad_of (xs := x2) (by rw [hR.len']; exact hR.dim)
    have P1 := Lib.hid hp1
    clear hp1
    have P2 := Lib.hid hp2
    clear hp2
    rw [HL.out] at hR hr
    have HR := Lib.hid hR
    have hq : (rf x1 x2 (n1 : Int) != 0) = false := by simp [hr]
    clear hr hR
    go_enter Try.func27, Try.ntmps27
    go_wp2
    generalize hW : ((w.alloc (.cells #[.slice A1 n1 c1, .slice A2 n2 c2] 26)).alloc (.cells #[.int .i64 0, .int .i64 0] 35)) = W0 at *
    clear hW
    have k_0 : W0.cell? ⟨w.heap.size, 0, none⟩ = some (.slice A1 n1 c1) ∧ W0.cell? ⟨w.heap.size, 1, none⟩ = some (.slice A2 n2 c2) := ⟨L_a.out.cell 0, L_a.out.cell 1⟩
    go_region_held3 (fun w' => w'.cell? ⟨w.heap.size, 0, none⟩ = some (.slice A1 n1 c1) ∧ w'.cell? ⟨w.heap.size, 1, none⟩ = some (.slice A2 n2 c2))
      (first | (simp [go_sem, k_0]; done) | with_reducible exact k_1 | with_reducible exact k_2)
      (first
        | (go_at_call 72; refine (dimsOf_any _ _ _ _ _ _ _).mono ?_
           rintro e W1 ⟨rfl, b1d⟩
           have b1 := below_drawn b1d
           have k_1 : W1.cell? ⟨w.heap.size, 0, none⟩ = some (.slice A1 n1 c1) ∧ W1.cell? ⟨w.heap.size, 1, none⟩ = some (.slice A2 n2 c2) := ⟨(L_a.out.kept b1 L_a.out.inside).cell 0, (L_a.out.kept b1 L_a.out.inside).cell 1⟩
           clear b1d)
        | (go_at_call 18; refine (implRectFault_any _ _ _ _ _ _ _ _ _ x1 x2 _ (I_1.out.kept (B.out.trans (b1.mono B.out.size))) (I_2.out.kept (B.out.trans (b1.mono B.out.size))) m1 m2).mono ?_
           rintro e W2 ⟨rfl, b2⟩
           have k_2 : W2.cell? ⟨w.heap.size, 0, none⟩ = some (.slice A1 n1 c1) ∧ W2.cell? ⟨w.heap.size, 1, none⟩ = some (.slice A2 n2 c2) := ⟨((L_a.out.kept b1 L_a.out.inside).kept b2 (L_a.out.kept b1 L_a.out.inside).inside).cell 0, ((L_a.out.kept b1 L_a.out.inside).kept b2 (L_a.out.kept b1 L_a.out.inside).inside).cell 1⟩))
    clear k_0 k_1 k_2
    replace L_a := Lib.hid (L_a.out.kept b1 L_a.out.inside)
    replace L_r := Lib.hid (L_r.out.kept b1 L_r.out.inside)
    replace B := Lib.hid (B.out.trans (b1.mono B.out.size))
    clear b1
    replace L_a := Lib.hid (L_a.out.kept b2 L_a.out.inside)
    replace L_r := Lib.hid (L_r.out.kept b2 L_r.out.inside)
    replace B := Lib.hid (B.out.trans (b2.mono B.out.size))
    clear b2
    have c_a0 : W2.cell? ⟨w.heap.size, 0, none⟩ = some (.slice A1 n1 c1) := L_a.out.cell 0
    have c_a1 : W2.cell? ⟨w.heap.size, 1, none⟩ = some (.slice A2 n2 c2) := L_a.out.cell 1
    go_wp2_with fail
    clear c_a0 c_a1
    refine (boxFrom_any _ _ _ _ _ _ _ _ x1 x2 _ _ _ _ _ _ _ P1.out P2.out (I_1.out.kept B.out) (I_2.out.kept B.out)).mono ?_
    rintro e W3 ⟨rfl, b3⟩
    replace L_a := Lib.hid (L_a.out.kept b3 L_a.out.inside)
    replace L_r := Lib.hid (L_r.out.kept b3 L_r.out.inside)
    replace B := Lib.hid (B.out.trans (b3.mono B.out.size))
    clear b3
    go_wp2_with fail
    refine (marginM_any _ _ _ _ _ _ _ x1 x2 _ P1.out P2.out HR.out).mono ?_
    rintro e W4 ⟨rfl, b4⟩
    replace L_a := Lib.hid (L_a.out.kept b4 L_a.out.inside)
    replace L_r := Lib.hid (L_r.out.kept b4 L_r.out.inside)
    replace B := Lib.hid (B.out.trans (b4.mono B.out.size))
    clear b4
    have c_r0 : W4.cell? ⟨w.heap.size + 1, 0, none⟩ = some (.int .i64 0) := L_r.out.cell 0
    have f_r0 : W4.frozen? ⟨w.heap.size + 1, 0, none⟩ = false := L_r.out.thawed 0
    have c_r1 : W4.cell? ⟨w.heap.size + 1, 1, none⟩ = some (.int .i64 0) := L_r.out.cell 1
    have f_r1 : W4.frozen? ⟨w.heap.size + 1, 1, none⟩ = false := L_r.out.thawed 1
    go_wp2
    refine bodyPost_ret (v := .agg #[.int .i64 0, .int .i64 (marginTo x1 x2 n1)]) (by simp [results, Try.results27, go_sem, c_r0, c_r1]) rfl ⟨by rw [HF.out], ?_⟩
    exact ((B.out.setCell (by show w.heap.size ≤ w.heap.size + 1; omega) _).setCell (by show w.heap.size ≤ w.heap.size + 1; omega) _)
  · have HF : Hid (marginF x1 x2 = (rf x1 x2 x1.length, 0)) := by show marginF x1 x2 = _; simp [marginF, hr]
    rw [HL.out] at HF hr
    have hq : (rf x1 x2 (n1 : Int) != 0) = true := by simpa using hr
    clear hr
    go_enter Try.func27, Try.ntmps27
    go_wp2
    generalize hW : ((w.alloc (.cells #[.slice A1 n1 c1, .slice A2 n2 c2] 26)).alloc (.cells #[.int .i64 0, .int .i64 0] 35)) = W0 at *
    clear hW
    have k_0 : W0.cell? ⟨w.heap.size, 0, none⟩ = some (.slice A1 n1 c1) ∧ W0.cell? ⟨w.heap.size, 1, none⟩ = some (.slice A2 n2 c2) := ⟨L_a.out.cell 0, L_a.out.cell 1⟩
    go_region_held3 (fun w' => w'.cell? ⟨w.heap.size, 0, none⟩ = some (.slice A1 n1 c1) ∧ w'.cell? ⟨w.heap.size, 1, none⟩ = some (.slice A2 n2 c2))
      (first | (simp [go_sem, k_0]; done) | with_reducible exact k_1 | with_reducible exact k_2)
      (first
        | (go_at_call 72; refine (dimsOf_any _ _ _ _ _ _ _).mono ?_
           rintro e W1 ⟨rfl, b1d⟩
           have b1 := below_drawn b1d
           have k_1 : W1.cell? ⟨w.heap.size, 0, none⟩ = some (.slice A1 n1 c1) ∧ W1.cell? ⟨w.heap.size, 1, none⟩ = some (.slice A2 n2 c2) := ⟨(L_a.out.kept b1 L_a.out.inside).cell 0, (L_a.out.kept b1 L_a.out.inside).cell 1⟩
           clear b1d)
        | (go_at_call 18; refine (implRectFault_any _ _ _ _ _ _ _ _ _ x1 x2 _ (I_1.out.kept (B.out.trans (b1.mono B.out.size))) (I_2.out.kept (B.out.trans (b1.mono B.out.size))) m1 m2).mono ?_
           rintro e W2 ⟨rfl, b2⟩
           have k_2 : W2.cell? ⟨w.heap.size, 0, none⟩ = some (.slice A1 n1 c1) ∧ W2.cell? ⟨w.heap.size, 1, none⟩ = some (.slice A2 n2 c2) := ⟨((L_a.out.kept b1 L_a.out.inside).kept b2 (L_a.out.kept b1 L_a.out.inside).inside).cell 0, ((L_a.out.kept b1 L_a.out.inside).kept b2 (L_a.out.kept b1 L_a.out.inside).inside).cell 1⟩))
    clear k_0 k_1 k_2
    replace L_a := Lib.hid (L_a.out.kept b1 L_a.out.inside)
    replace L_r := Lib.hid (L_r.out.kept b1 L_r.out.inside)
    replace B := Lib.hid (B.out.trans (b1.mono B.out.size))
    clear b1
    replace L_a := Lib.hid (L_a.out.kept b2 L_a.out.inside)
    replace L_r := Lib.hid (L_r.out.kept b2 L_r.out.inside)
    replace B := Lib.hid (B.out.trans (b2.mono B.out.size))
    clear b2
    have c_r0 : W2.cell? ⟨w.heap.size + 1, 0, none⟩ = some (.int .i64 0) := L_r.out.cell 0
    have f_r0 : W2.frozen? ⟨w.heap.size + 1, 0, none⟩ = false := L_r.out.thawed 0
    have c_r1 : W2.cell? ⟨w.heap.size + 1, 1, none⟩ = some (.int .i64 0) := L_r.out.cell 1
    have f_r1 : W2.frozen? ⟨w.heap.size + 1, 1, none⟩ = false := L_r.out.thawed 1
    go_wp2
    refine bodyPost_ret (v := .agg #[.int .i64 (rf x1 x2 (n1 : Int)), .int .i64 0]) (by simp [results, Try.results27, go_sem, c_r0, c_r1]) rfl ⟨by rw [HF.out], ?_⟩
    exact ((B.out.setCell (by show w.heap.size ≤ w.heap.size + 1; omega) _).setCell (by show w.heap.size ≤ w.heap.size + 1; omega) _)

end Go.Proofs.Ytfpmbkfikfdmkaa
