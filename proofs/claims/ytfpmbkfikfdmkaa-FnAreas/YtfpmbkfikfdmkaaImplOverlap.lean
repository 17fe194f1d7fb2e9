/- The walk of impl.OverlapOf: for every two boxes. -/
import Derived.Test.YtfpmbkfikfdmkaaBoxOverlap
import Derived.Test.YtfpmbkfikfdmkaaOverlap
namespace Go.Proofs.Ytfpmbkfikfdmkaa
open Go.RowKit

set_option maxRecDepth 100000 in
set_option maxHeartbeats 16000000 in
theorem implOverlapOf_any (n1 c1 n2 c2 n3 c3 n4 c4 lo1 lo2 lo3 lo4 : Nat) (A1 A2 A3 A4 : Option Addr) (x1 x2 x3 x4 : List Int) (w : World)
    (h1 : Ints w lo1 A1 n1 x1) (h2 : Ints w lo2 A2 n2 x2) (h3 : Ints w lo3 A3 n3 x3) (h4 : Ints w lo4 A4 n4 x4) (m1 : n1 ≤ maxLen) (m2 : n2 ≤ maxLen) (m3 : n3 ≤ maxLen) (m4 : n4 ≤ maxLen) :
    Calls Try.prog 22 #[.agg #[.slice A1 n1 c1, .slice A2 n2 c2], .agg #[.slice A3 n3 c3, .slice A4 n4 c4]] w fun e w' => e = .returned (.agg #[.int .i64 (overF x1 x2 x3 x4).1, .int .i64 (overF x1 x2 x3 x4).2]) ∧ Below w.heap.size w w' := by
  have I_1 := Lib.hid h1
  have I_2 := Lib.hid h2
  have I_3 := Lib.hid h3
  have I_4 := Lib.hid h4
  have HL := Lib.hid h1.1
  clear h1 h2 h3 h4
  have B := Lib.hid (below_alloc w (.cells #[.slice A1 n1 c1, .slice A2 n2 c2] 26))
  have L_a := Lib.hid (((Lies.new w 26 #[.slice A1 n1 c1, .slice A2 n2 c2]).alloc (.cells #[.slice A3 n3 c3, .slice A4 n4 c4] 26)).alloc (.cells #[.int .i64 0, .int .i64 0] 35))
  have L_b := Lib.hid ((Lies.new (w.alloc (.cells #[.slice A1 n1 c1, .slice A2 n2 c2] 26)) 26 #[.slice A3 n3 c3, .slice A4 n4 c4]).alloc (.cells #[.int .i64 0, .int .i64 0] 35))
  replace B := Lib.hid (B.out.alloc B.out.size (.cells #[.slice A3 n3 c3, .slice A4 n4 c4] 26))
  have L_r := Lib.hid (Lies.new ((w.alloc (.cells #[.slice A1 n1 c1, .slice A2 n2 c2] 26)).alloc (.cells #[.slice A3 n3 c3, .slice A4 n4 c4] 26)) 35 #[.int .i64 0, .int .i64 0])
  replace B := Lib.hid (B.out.alloc B.out.size (.cells #[.int .i64 0, .int .i64 0] 35))
  simp only [World.size_alloc] at L_b L_r
  have lr : w.heap.size ≤ w.heap.size + 1 + 1 := by omega
  by_cases hr : rf2 x1 x2 x3 x4 = 0
  rotate_left
  · have HF : Hid (overF x1 x2 x3 x4 = (rf2 x1 x2 x3 x4, 0)) := by show overF x1 x2 x3 x4 = _; simp [overF, hr]
    have hq : (rf2 x1 x2 x3 x4 != 0) = true := by simpa using hr
    clear hr
    go_enter Try.func22, Try.ntmps22
    go_wp2_with fail
    refine (rectsFault_any _ _ _ _ _ _ _ _ _ _ _ _ _ _ _ _ x1 x2 x3 x4 _ (I_1.out.kept B.out) (I_2.out.kept B.out) (I_3.out.kept B.out) (I_4.out.kept B.out) m1 m2 m3 m4).mono ?_
    rintro e W1 ⟨rfl, b1⟩
    replace L_r := Lib.hid (L_r.out.kept b1 L_r.out.inside)
    replace B := Lib.hid (B.out.trans (b1.mono B.out.size))
    clear b1
    have c_r0 : W1.cell? ⟨w.heap.size + 1 + 1, 0, none⟩ = some (.int .i64 0) := L_r.out.cell 0
    have f_r0 : W1.frozen? ⟨w.heap.size + 1 + 1, 0, none⟩ = false := L_r.out.thawed 0
    have c_r1 : W1.cell? ⟨w.heap.size + 1 + 1, 1, none⟩ = some (.int .i64 0) := L_r.out.cell 1
    have f_r1 : W1.frozen? ⟨w.heap.size + 1 + 1, 1, none⟩ = false := L_r.out.thawed 1
    go_wp2
    refine bodyPost_ret (v := .agg #[.int .i64 (rf2 x1 x2 x3 x4), .int .i64 0]) (by simp [results, Try.results22, go_sem, c_r0, c_r1]) rfl ⟨by rw [HF.out], ?_⟩
    exact (B.out.setCell lr _).setCell lr _
  obtain ⟨hR, hR'⟩ := right_of_rf2 hr
  obtain ⟨p0, p1, p2, hp1⟩ := pad_of (xs := x1) hR.dim
  obtain ⟨q0, q1, q2, hp2⟩ := pad_of (xs := x2) (by rw [hR.len']; exact hR.dim)
  obtain ⟨r0, r1, r2, hp3⟩ := pad_of (xs := x3) (by rw [hR'.len]; exact hR'.dim)
  obtain ⟨s0, s1, s2, hp4⟩ := pad_of (xs := x4) (by rw [hR'.len']; exact hR'.dim)
  obtain ⟨V, hV⟩ : ∃ V, V = overTo x1 x2 x3 x4 x1.length := ⟨_, rfl⟩
  have HF : Hid (overF x1 x2 x3 x4 = (0, V)) := by show overF x1 x2 x3 x4 = _; rw [hV]; simp [overF, hr]
  have P1 := Lib.hid hp1
  have P2 := Lib.hid hp2
  have P3 := Lib.hid hp3
  have P4 := Lib.hid hp4
  have hq : (rf2 x1 x2 x3 x4 != 0) = false := by simp [hr]
  have HR := Lib.hid hR
  have HR' := Lib.hid hR'
  have HV := Lib.hid hV
  clear hr hR hR' hp1 hp2 hp3 hp4 hV
  go_enter Try.func22, Try.ntmps22
  go_wp2_with fail
  refine (rectsFault_any _ _ _ _ _ _ _ _ _ _ _ _ _ _ _ _ x1 x2 x3 x4 _ (I_1.out.kept B.out) (I_2.out.kept B.out) (I_3.out.kept B.out) (I_4.out.kept B.out) m1 m2 m3 m4).mono ?_
  rintro e W1 ⟨rfl, b1⟩
  replace L_a := Lib.hid (L_a.out.kept b1 L_a.out.inside)
  replace L_b := Lib.hid (L_b.out.kept b1 L_b.out.inside)
  replace L_r := Lib.hid (L_r.out.kept b1 L_r.out.inside)
  replace B := Lib.hid (B.out.trans (b1.mono B.out.size))
  clear b1
  have k_0 : W1.cell? ⟨w.heap.size, 0, none⟩ = some (.slice A1 n1 c1) ∧ W1.cell? ⟨w.heap.size, 1, none⟩ = some (.slice A2 n2 c2) ∧ W1.cell? ⟨w.heap.size + 1, 0, none⟩ = some (.slice A3 n3 c3) ∧ W1.cell? ⟨w.heap.size + 1, 1, none⟩ = some (.slice A4 n4 c4) := ⟨L_a.out.cell 0, L_a.out.cell 1, L_b.out.cell 0, L_b.out.cell 1⟩
  go_wp2
  go_region_held3 (fun w' => w'.cell? ⟨w.heap.size, 0, none⟩ = some (.slice A1 n1 c1) ∧ w'.cell? ⟨w.heap.size, 1, none⟩ = some (.slice A2 n2 c2) ∧ w'.cell? ⟨w.heap.size + 1, 0, none⟩ = some (.slice A3 n3 c3) ∧ w'.cell? ⟨w.heap.size + 1, 1, none⟩ = some (.slice A4 n4 c4))
    (first | (simp [go_sem, k_0]; done) | with_reducible exact k_1 | with_reducible exact k_2 | with_reducible exact k_3 | with_reducible exact k_4 | (simp [go_sem, k_4]; done))
    (first
      | (go_at_call_of 69 (Value.agg #[.slice A1 n1 c1, .slice A2 n2 c2]); refine (boxFrom_any _ _ _ _ _ _ _ _ x1 x2 _ _ _ _ _ _ _ P1.out P2.out (I_1.out.kept B.out.drew) (I_2.out.kept B.out.drew)).mono ?_
         rintro e W2 ⟨rfl, b2d⟩
         have b2 := below_drawn b2d
         have B2 := Lib.hid (B.out.trans (b2.mono B.out.size))
         have k_1 : W2.cell? ⟨w.heap.size, 0, none⟩ = some (.slice A1 n1 c1) ∧ W2.cell? ⟨w.heap.size, 1, none⟩ = some (.slice A2 n2 c2) ∧ W2.cell? ⟨w.heap.size + 1, 0, none⟩ = some (.slice A3 n3 c3) ∧ W2.cell? ⟨w.heap.size + 1, 1, none⟩ = some (.slice A4 n4 c4) := ⟨(L_a.out.kept b2 L_a.out.inside).cell 0, (L_a.out.kept b2 L_a.out.inside).cell 1, (L_b.out.kept b2 L_b.out.inside).cell 0, (L_b.out.kept b2 L_b.out.inside).cell 1⟩
         clear b2d)
      | (go_at_call_of 69 (Value.agg #[.slice A3 n3 c3, .slice A4 n4 c4]); refine (boxFrom_any _ _ _ _ _ _ _ _ x3 x4 _ _ _ _ _ _ _ P3.out P4.out (I_3.out.kept B2.out) (I_4.out.kept B2.out)).mono ?_
         rintro e W3 ⟨rfl, b3⟩
         have k_2 : W3.cell? ⟨w.heap.size, 0, none⟩ = some (.slice A1 n1 c1) ∧ W3.cell? ⟨w.heap.size, 1, none⟩ = some (.slice A2 n2 c2) ∧ W3.cell? ⟨w.heap.size + 1, 0, none⟩ = some (.slice A3 n3 c3) ∧ W3.cell? ⟨w.heap.size + 1, 1, none⟩ = some (.slice A4 n4 c4) := ⟨((L_a.out.kept b2 L_a.out.inside).kept b3 (L_a.out.kept b2 L_a.out.inside).inside).cell 0, ((L_a.out.kept b2 L_a.out.inside).kept b3 (L_a.out.kept b2 L_a.out.inside).inside).cell 1, ((L_b.out.kept b2 L_b.out.inside).kept b3 (L_b.out.kept b2 L_b.out.inside).inside).cell 0, ((L_b.out.kept b2 L_b.out.inside).kept b3 (L_b.out.kept b2 L_b.out.inside).inside).cell 1⟩)
      | (go_at_call 72; refine (dimsOf_any _ _ _ _ _ _ _).mono ?_
         rintro e W4 ⟨rfl, b4⟩
         have k_3 : W4.cell? ⟨w.heap.size, 0, none⟩ = some (.slice A1 n1 c1) ∧ W4.cell? ⟨w.heap.size, 1, none⟩ = some (.slice A2 n2 c2) ∧ W4.cell? ⟨w.heap.size + 1, 0, none⟩ = some (.slice A3 n3 c3) ∧ W4.cell? ⟨w.heap.size + 1, 1, none⟩ = some (.slice A4 n4 c4) := ⟨(((L_a.out.kept b2 L_a.out.inside).kept b3 (L_a.out.kept b2 L_a.out.inside).inside).kept b4 ((L_a.out.kept b2 L_a.out.inside).kept b3 (L_a.out.kept b2 L_a.out.inside).inside).inside).cell 0, (((L_a.out.kept b2 L_a.out.inside).kept b3 (L_a.out.kept b2 L_a.out.inside).inside).kept b4 ((L_a.out.kept b2 L_a.out.inside).kept b3 (L_a.out.kept b2 L_a.out.inside).inside).inside).cell 1, (((L_b.out.kept b2 L_b.out.inside).kept b3 (L_b.out.kept b2 L_b.out.inside).inside).kept b4 ((L_b.out.kept b2 L_b.out.inside).kept b3 (L_b.out.kept b2 L_b.out.inside).inside).inside).cell 0, (((L_b.out.kept b2 L_b.out.inside).kept b3 (L_b.out.kept b2 L_b.out.inside).inside).kept b4 ((L_b.out.kept b2 L_b.out.inside).kept b3 (L_b.out.kept b2 L_b.out.inside).inside).inside).cell 1⟩)
      | (go_at_call 83; refine (overlap_isV V _ _ _ _ _ _ _ _ _ _ _ _ _ x1.length x1 x2 x3 x4 _ P1.out P2.out P3.out P4.out HR.out HR'.out (by rw [HL.out]) HV.out).mono ?_
         rintro e W5 ⟨rfl, b5⟩
         have k_4 : W5.cell? ⟨w.heap.size, 0, none⟩ = some (.slice A1 n1 c1) ∧ W5.cell? ⟨w.heap.size, 1, none⟩ = some (.slice A2 n2 c2) ∧ W5.cell? ⟨w.heap.size + 1, 0, none⟩ = some (.slice A3 n3 c3) ∧ W5.cell? ⟨w.heap.size + 1, 1, none⟩ = some (.slice A4 n4 c4) := ⟨((((L_a.out.kept b2 L_a.out.inside).kept b3 (L_a.out.kept b2 L_a.out.inside).inside).kept b4 ((L_a.out.kept b2 L_a.out.inside).kept b3 (L_a.out.kept b2 L_a.out.inside).inside).inside).kept b5 (((L_a.out.kept b2 L_a.out.inside).kept b3 (L_a.out.kept b2 L_a.out.inside).inside).kept b4 ((L_a.out.kept b2 L_a.out.inside).kept b3 (L_a.out.kept b2 L_a.out.inside).inside).inside).inside).cell 0, ((((L_a.out.kept b2 L_a.out.inside).kept b3 (L_a.out.kept b2 L_a.out.inside).inside).kept b4 ((L_a.out.kept b2 L_a.out.inside).kept b3 (L_a.out.kept b2 L_a.out.inside).inside).inside).kept b5 (((L_a.out.kept b2 L_a.out.inside).kept b3 (L_a.out.kept b2 L_a.out.inside).inside).kept b4 ((L_a.out.kept b2 L_a.out.inside).kept b3 (L_a.out.kept b2 L_a.out.inside).inside).inside).inside).cell 1, ((((L_b.out.kept b2 L_b.out.inside).kept b3 (L_b.out.kept b2 L_b.out.inside).inside).kept b4 ((L_b.out.kept b2 L_b.out.inside).kept b3 (L_b.out.kept b2 L_b.out.inside).inside).inside).kept b5 (((L_b.out.kept b2 L_b.out.inside).kept b3 (L_b.out.kept b2 L_b.out.inside).inside).kept b4 ((L_b.out.kept b2 L_b.out.inside).kept b3 (L_b.out.kept b2 L_b.out.inside).inside).inside).inside).cell 0, ((((L_b.out.kept b2 L_b.out.inside).kept b3 (L_b.out.kept b2 L_b.out.inside).inside).kept b4 ((L_b.out.kept b2 L_b.out.inside).kept b3 (L_b.out.kept b2 L_b.out.inside).inside).inside).kept b5 (((L_b.out.kept b2 L_b.out.inside).kept b3 (L_b.out.kept b2 L_b.out.inside).inside).kept b4 ((L_b.out.kept b2 L_b.out.inside).kept b3 (L_b.out.kept b2 L_b.out.inside).inside).inside).inside).cell 1⟩
         have c_r0 : W5.cell? ⟨w.heap.size + 1 + 1, 0, none⟩ = some (.int .i64 0) := ((((L_r.out.kept b2 L_r.out.inside).kept b3 (L_r.out.kept b2 L_r.out.inside).inside).kept b4 ((L_r.out.kept b2 L_r.out.inside).kept b3 (L_r.out.kept b2 L_r.out.inside).inside).inside).kept b5 (((L_r.out.kept b2 L_r.out.inside).kept b3 (L_r.out.kept b2 L_r.out.inside).inside).kept b4 ((L_r.out.kept b2 L_r.out.inside).kept b3 (L_r.out.kept b2 L_r.out.inside).inside).inside).inside).cell 0
         have f_r0 : W5.frozen? ⟨w.heap.size + 1 + 1, 0, none⟩ = false := ((((L_r.out.kept b2 L_r.out.inside).kept b3 (L_r.out.kept b2 L_r.out.inside).inside).kept b4 ((L_r.out.kept b2 L_r.out.inside).kept b3 (L_r.out.kept b2 L_r.out.inside).inside).inside).kept b5 (((L_r.out.kept b2 L_r.out.inside).kept b3 (L_r.out.kept b2 L_r.out.inside).inside).kept b4 ((L_r.out.kept b2 L_r.out.inside).kept b3 (L_r.out.kept b2 L_r.out.inside).inside).inside).inside).thawed 0
         have c_r1 : W5.cell? ⟨w.heap.size + 1 + 1, 1, none⟩ = some (.int .i64 0) := ((((L_r.out.kept b2 L_r.out.inside).kept b3 (L_r.out.kept b2 L_r.out.inside).inside).kept b4 ((L_r.out.kept b2 L_r.out.inside).kept b3 (L_r.out.kept b2 L_r.out.inside).inside).inside).kept b5 (((L_r.out.kept b2 L_r.out.inside).kept b3 (L_r.out.kept b2 L_r.out.inside).inside).kept b4 ((L_r.out.kept b2 L_r.out.inside).kept b3 (L_r.out.kept b2 L_r.out.inside).inside).inside).inside).cell 1
         have f_r1 : W5.frozen? ⟨w.heap.size + 1 + 1, 1, none⟩ = false := ((((L_r.out.kept b2 L_r.out.inside).kept b3 (L_r.out.kept b2 L_r.out.inside).inside).kept b4 ((L_r.out.kept b2 L_r.out.inside).kept b3 (L_r.out.kept b2 L_r.out.inside).inside).inside).kept b5 (((L_r.out.kept b2 L_r.out.inside).kept b3 (L_r.out.kept b2 L_r.out.inside).inside).kept b4 ((L_r.out.kept b2 L_r.out.inside).kept b3 (L_r.out.kept b2 L_r.out.inside).inside).inside).inside).thawed 1))
  clear k_0 k_1 k_2 k_3 k_4
  have BE := Lib.hid (((B2.out.trans (b3.mono B2.out.size)).trans (b4.mono (B2.out.trans (b3.mono B2.out.size)).size)).trans (b5.mono ((B2.out.trans (b3.mono B2.out.size)).trans (b4.mono (B2.out.trans (b3.mono B2.out.size)).size)).size))
  go_wp2
  refine bodyPost_ret (v := .agg #[.int .i64 0, .int .i64 V]) (by simp [results, Try.results22, go_sem, c_r0, c_r1]) rfl ⟨by rw [HF.out], ?_⟩
  exact (BE.out.setCell lr _).setCell lr _

end Go.Proofs.Ytfpmbkfikfdmkaa
