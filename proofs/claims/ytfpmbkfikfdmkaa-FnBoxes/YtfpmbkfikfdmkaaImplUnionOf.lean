/- The walk of impl.UnionOf: for every two boxes. -/
import Derived.Test.YtfpmbkfikfdmkaaBoxVals
import Derived.Test.YtfpmbkfikfdmkaaOrders
namespace Go.Proofs.Ytfpmbkfikfdmkaa
open Go.RowKit

theorem union_is (a0 a1 a2 a3 a4 a5 b0 b1 b2 b3 b4 b5 t0 t1 t2 t3 t4 t5 : Int) (w : World) (h : t0 = min a0 b0 ∧ t1 = min a1 b1 ∧ t2 = min a2 b2 ∧ t3 = max a3 b3 ∧ t4 = max a4 b4 ∧ t5 = max a5 b5) :
    Calls Try.prog 70 #[.agg #[.int .i64 a0, .int .i64 a1, .int .i64 a2, .int .i64 a3, .int .i64 a4, .int .i64 a5], .agg #[.int .i64 b0, .int .i64 b1, .int .i64 b2, .int .i64 b3, .int .i64 b4, .int .i64 b5]] w
      fun e w' => e = .returned (.agg #[.int .i64 t0, .int .i64 t1, .int .i64 t2, .int .i64 t3, .int .i64 t4, .int .i64 t5]) ∧ Below w.heap.size w w' := by
  obtain ⟨rfl, rfl, rfl, rfl, rfl, rfl⟩ := h
  exact union_any _ _ _ _ _ _ _ _ _ _ _ _ _

set_option maxRecDepth 100000 in
set_option maxHeartbeats 16000000 in
theorem implUnionOf_any (n1 c1 n2 c2 n3 c3 n4 c4 lo1 lo2 lo3 lo4 : Nat) (A1 A2 A3 A4 : Option Addr) (x1 x2 x3 x4 : List Int) (w : World)
    (h1 : Ints w lo1 A1 n1 x1) (h2 : Ints w lo2 A2 n2 x2) (h3 : Ints w lo3 A3 n3 x3) (h4 : Ints w lo4 A4 n4 x4) (m1 : n1 ≤ maxLen) (m2 : n2 ≤ maxLen) (m3 : n3 ≤ maxLen) (m4 : n4 ≤ maxLen) :
    Calls Try.prog 11 #[.agg #[.slice A1 n1 c1, .slice A2 n2 c2], .agg #[.slice A3 n3 c3, .slice A4 n4 c4]] w fun e w' => (rf2 x1 x2 x3 x4 = 0 → ∃ g g', e = .returned (.agg #[.int .i64 0, .slice (some ⟨g, 0, none⟩) n1 n1, .slice (some ⟨g', 0, none⟩) n1 n1]) ∧ w.heap.size ≤ g ∧ g < g' ∧ Own w' g n1 (mins x1 x3) ∧ Own w' g' n1 (maxs x2 x4) ∧ n1 ≤ 3) ∧ (rf2 x1 x2 x3 x4 ≠ 0 → e = .returned (.agg #[.int .i64 (rf2 x1 x2 x3 x4), .slice none 0 0, .slice none 0 0])) ∧ Below w.heap.size w w' := by
  have I_1 := Lib.hid h1
  have I_2 := Lib.hid h2
  have I_3 := Lib.hid h3
  have I_4 := Lib.hid h4
  have HL := Lib.hid h1.1
  clear h1 h2 h3 h4
  have B := Lib.hid (Below.refl w.heap.size w)
  have L_a := Lib.hid (Lies.new w 26 #[.slice A1 n1 c1, .slice A2 n2 c2])
  replace B := Lib.hid (B.out.alloc B.out.size (.cells #[.slice A1 n1 c1, .slice A2 n2 c2] 26))
  replace L_a := Lib.hid (L_a.out.alloc (.cells #[.slice A3 n3 c3, .slice A4 n4 c4] 26))
  have L_b := Lib.hid (Lies.new (w.alloc (.cells #[.slice A1 n1 c1, .slice A2 n2 c2] 26)) 26 #[.slice A3 n3 c3, .slice A4 n4 c4])
  replace B := Lib.hid (B.out.alloc B.out.size (.cells #[.slice A3 n3 c3, .slice A4 n4 c4] 26))
  replace L_a := Lib.hid (L_a.out.alloc (.cells #[.int .i64 0, .slice none 0 0, .slice none 0 0] 30))
  replace L_b := Lib.hid (L_b.out.alloc (.cells #[.int .i64 0, .slice none 0 0, .slice none 0 0] 30))
  have L_r := Lib.hid (Lies.new ((w.alloc (.cells #[.slice A1 n1 c1, .slice A2 n2 c2] 26)).alloc (.cells #[.slice A3 n3 c3, .slice A4 n4 c4] 26)) 30 #[.int .i64 0, .slice none 0 0, .slice none 0 0])
  replace B := Lib.hid (B.out.alloc B.out.size (.cells #[.int .i64 0, .slice none 0 0, .slice none 0 0] 30))
  simp only [World.size_alloc] at L_b
  simp only [World.size_alloc] at L_r
  by_cases hr : rf2 x1 x2 x3 x4 = 0
  · obtain ⟨hR, hR'⟩ := right_of_rf2 hr
    obtain ⟨p0, p1, p2, hp1⟩ := pad_of (xs := x1) hR.dim
    obtain ⟨q0, q1, q2, hp2⟩ := pad_of (xs := x2) (by rw [hR.len']; exact hR.dim)
    obtain ⟨r0, r1, r2, hp3⟩ := pad_of (xs := x3) (by rw [hR'.len]; exact hR'.dim)
    obtain ⟨s0, s1, s2, hp4⟩ := pad_of (xs := x4) (by rw [hR'.len']; exact hR'.dim)
    obtain ⟨t0, ht0⟩ : ∃ t, t = min p0 r0 := ⟨_, rfl⟩
    obtain ⟨t1, ht1⟩ : ∃ t, t = min p1 r1 := ⟨_, rfl⟩
    obtain ⟨t2, ht2⟩ : ∃ t, t = min p2 r2 := ⟨_, rfl⟩
    obtain ⟨t3, ht3⟩ : ∃ t, t = max q0 s0 := ⟨_, rfl⟩
    obtain ⟨t4, ht4⟩ : ∃ t, t = max q1 s1 := ⟨_, rfl⟩
    obtain ⟨t5, ht5⟩ : ∃ t, t = max q2 s2 := ⟨_, rfl⟩
    have pL := pad_mins (hR'.len.symm) hp1 hp3
    have pH := pad_maxs (hR.len'.trans hR'.len'.symm) hp2 hp4
    rw [← ht0, ← ht1, ← ht2] at pL
    rw [← ht3, ← ht4, ← ht5] at pH
    have PL := Lib.hid pL
    have PH := Lib.hid pH
    have HX := Lib.hid (And.intro ht0 (And.intro ht1 (And.intro ht2 (And.intro ht3 (And.intro ht4 ht5)))))
    clear pL pH ht0 ht1 ht2 ht3 ht4 ht5
    have HU := Lib.hid (right_union hR hR')
    have hn3 : n1 ≤ 3 := by have := HL.out; rcases hR.dim with e | e <;> omega
    have P1 := Lib.hid hp1
    clear hp1
    have P2 := Lib.hid hp2
    clear hp2
    have P3 := Lib.hid hp3
    clear hp3
    have P4 := Lib.hid hp4
    clear hp4
    have hq : (rf2 x1 x2 x3 x4 != 0) = false := by simp [hr]
    have HRF := Lib.hid hr
    clear hr hR hR'
    go_enter Try.func11, Try.ntmps11
    go_wp2_with fail
    refine (rectsFault_any _ _ _ _ _ _ _ _ _ _ _ _ _ _ _ _ x1 x2 x3 x4 _ (I_1.out.kept B.out) (I_2.out.kept B.out) (I_3.out.kept B.out) (I_4.out.kept B.out) m1 m2 m3 m4).mono ?_
    rintro e W1 ⟨rfl, b1⟩
    replace L_a := Lib.hid (L_a.out.kept b1 L_a.out.inside)
    replace L_b := Lib.hid (L_b.out.kept b1 L_b.out.inside)
    replace L_r := Lib.hid (L_r.out.kept b1 L_r.out.inside)
    replace B := Lib.hid (B.out.trans (b1.mono B.out.size))
    clear b1
    go_wp2
    have k_0 : W1.cell? ⟨w.heap.size, 0, none⟩ = some (.slice A1 n1 c1) ∧ W1.cell? ⟨w.heap.size, 1, none⟩ = some (.slice A2 n2 c2) ∧ W1.cell? ⟨w.heap.size + 1, 0, none⟩ = some (.slice A3 n3 c3) ∧ W1.cell? ⟨w.heap.size + 1, 1, none⟩ = some (.slice A4 n4 c4) := ⟨L_a.out.cell 0, L_a.out.cell 1, L_b.out.cell 0, L_b.out.cell 1⟩
    go_region_held3 (fun w' => w'.cell? ⟨w.heap.size, 0, none⟩ = some (.slice A1 n1 c1) ∧ w'.cell? ⟨w.heap.size, 1, none⟩ = some (.slice A2 n2 c2) ∧ w'.cell? ⟨w.heap.size + 1, 0, none⟩ = some (.slice A3 n3 c3) ∧ w'.cell? ⟨w.heap.size + 1, 1, none⟩ = some (.slice A4 n4 c4))
      (first | (simp [go_sem, k_0]; done) | with_reducible exact k_1 | with_reducible exact k_2 | with_reducible exact k_3 | with_reducible exact k_4 | with_reducible exact k_5 | (simp [go_sem, k_5]; done))
      (first
        | (go_at_call_of 69 (Value.agg #[.slice A1 n1 c1, .slice A2 n2 c2]); refine (boxFrom_any _ _ _ _ _ _ _ _ x1 x2 _ _ _ _ _ _ _ P1.out P2.out (I_1.out.kept B.out.drew) (I_2.out.kept B.out.drew)).mono ?_
           rintro e W2 ⟨rfl, b2d⟩
           have b2 := below_drawn b2d
           have k_1 : W2.cell? ⟨w.heap.size, 0, none⟩ = some (.slice A1 n1 c1) ∧ W2.cell? ⟨w.heap.size, 1, none⟩ = some (.slice A2 n2 c2) ∧ W2.cell? ⟨w.heap.size + 1, 0, none⟩ = some (.slice A3 n3 c3) ∧ W2.cell? ⟨w.heap.size + 1, 1, none⟩ = some (.slice A4 n4 c4) := ⟨(L_a.out.kept b2 L_a.out.inside).cell 0, (L_a.out.kept b2 L_a.out.inside).cell 1, (L_b.out.kept b2 L_b.out.inside).cell 0, (L_b.out.kept b2 L_b.out.inside).cell 1⟩
           clear b2d)
        | (go_at_call_of 69 (Value.agg #[.slice A3 n3 c3, .slice A4 n4 c4]); refine (boxFrom_any _ _ _ _ _ _ _ _ x3 x4 _ _ _ _ _ _ _ P3.out P4.out (I_3.out.kept (B.out.trans (b2.mono B.out.size))) (I_4.out.kept (B.out.trans (b2.mono B.out.size)))).mono ?_
           rintro e W3 ⟨rfl, b3⟩
           have k_2 : W3.cell? ⟨w.heap.size, 0, none⟩ = some (.slice A1 n1 c1) ∧ W3.cell? ⟨w.heap.size, 1, none⟩ = some (.slice A2 n2 c2) ∧ W3.cell? ⟨w.heap.size + 1, 0, none⟩ = some (.slice A3 n3 c3) ∧ W3.cell? ⟨w.heap.size + 1, 1, none⟩ = some (.slice A4 n4 c4) := ⟨((L_a.out.kept b2 L_a.out.inside).kept b3 (L_a.out.kept b2 L_a.out.inside).inside).cell 0, ((L_a.out.kept b2 L_a.out.inside).kept b3 (L_a.out.kept b2 L_a.out.inside).inside).cell 1, ((L_b.out.kept b2 L_b.out.inside).kept b3 (L_b.out.kept b2 L_b.out.inside).inside).cell 0, ((L_b.out.kept b2 L_b.out.inside).kept b3 (L_b.out.kept b2 L_b.out.inside).inside).cell 1⟩)
        | (go_at_call 70; refine (union_is _ _ _ _ _ _ _ _ _ _ _ _ t0 t1 t2 t3 t4 t5 _ HX.out).mono ?_
           rintro e W4 ⟨rfl, b4⟩
           have k_3 : W4.cell? ⟨w.heap.size, 0, none⟩ = some (.slice A1 n1 c1) ∧ W4.cell? ⟨w.heap.size, 1, none⟩ = some (.slice A2 n2 c2) ∧ W4.cell? ⟨w.heap.size + 1, 0, none⟩ = some (.slice A3 n3 c3) ∧ W4.cell? ⟨w.heap.size + 1, 1, none⟩ = some (.slice A4 n4 c4) := ⟨(((L_a.out.kept b2 L_a.out.inside).kept b3 (L_a.out.kept b2 L_a.out.inside).inside).kept b4 ((L_a.out.kept b2 L_a.out.inside).kept b3 (L_a.out.kept b2 L_a.out.inside).inside).inside).cell 0, (((L_a.out.kept b2 L_a.out.inside).kept b3 (L_a.out.kept b2 L_a.out.inside).inside).kept b4 ((L_a.out.kept b2 L_a.out.inside).kept b3 (L_a.out.kept b2 L_a.out.inside).inside).inside).cell 1, (((L_b.out.kept b2 L_b.out.inside).kept b3 (L_b.out.kept b2 L_b.out.inside).inside).kept b4 ((L_b.out.kept b2 L_b.out.inside).kept b3 (L_b.out.kept b2 L_b.out.inside).inside).inside).cell 0, (((L_b.out.kept b2 L_b.out.inside).kept b3 (L_b.out.kept b2 L_b.out.inside).inside).kept b4 ((L_b.out.kept b2 L_b.out.inside).kept b3 (L_b.out.kept b2 L_b.out.inside).inside).inside).cell 1⟩)
        | (go_at_call 72; refine (dimsOf_any _ _ _ _ _ _ _).mono ?_
           rintro e W5 ⟨rfl, b5⟩
           have k_4 : W5.cell? ⟨w.heap.size, 0, none⟩ = some (.slice A1 n1 c1) ∧ W5.cell? ⟨w.heap.size, 1, none⟩ = some (.slice A2 n2 c2) ∧ W5.cell? ⟨w.heap.size + 1, 0, none⟩ = some (.slice A3 n3 c3) ∧ W5.cell? ⟨w.heap.size + 1, 1, none⟩ = some (.slice A4 n4 c4) := ⟨((((L_a.out.kept b2 L_a.out.inside).kept b3 (L_a.out.kept b2 L_a.out.inside).inside).kept b4 ((L_a.out.kept b2 L_a.out.inside).kept b3 (L_a.out.kept b2 L_a.out.inside).inside).inside).kept b5 (((L_a.out.kept b2 L_a.out.inside).kept b3 (L_a.out.kept b2 L_a.out.inside).inside).kept b4 ((L_a.out.kept b2 L_a.out.inside).kept b3 (L_a.out.kept b2 L_a.out.inside).inside).inside).inside).cell 0, ((((L_a.out.kept b2 L_a.out.inside).kept b3 (L_a.out.kept b2 L_a.out.inside).inside).kept b4 ((L_a.out.kept b2 L_a.out.inside).kept b3 (L_a.out.kept b2 L_a.out.inside).inside).inside).kept b5 (((L_a.out.kept b2 L_a.out.inside).kept b3 (L_a.out.kept b2 L_a.out.inside).inside).kept b4 ((L_a.out.kept b2 L_a.out.inside).kept b3 (L_a.out.kept b2 L_a.out.inside).inside).inside).inside).cell 1, ((((L_b.out.kept b2 L_b.out.inside).kept b3 (L_b.out.kept b2 L_b.out.inside).inside).kept b4 ((L_b.out.kept b2 L_b.out.inside).kept b3 (L_b.out.kept b2 L_b.out.inside).inside).inside).kept b5 (((L_b.out.kept b2 L_b.out.inside).kept b3 (L_b.out.kept b2 L_b.out.inside).inside).kept b4 ((L_b.out.kept b2 L_b.out.inside).kept b3 (L_b.out.kept b2 L_b.out.inside).inside).inside).inside).cell 0, ((((L_b.out.kept b2 L_b.out.inside).kept b3 (L_b.out.kept b2 L_b.out.inside).inside).kept b4 ((L_b.out.kept b2 L_b.out.inside).kept b3 (L_b.out.kept b2 L_b.out.inside).inside).inside).kept b5 (((L_b.out.kept b2 L_b.out.inside).kept b3 (L_b.out.kept b2 L_b.out.inside).inside).kept b4 ((L_b.out.kept b2 L_b.out.inside).kept b3 (L_b.out.kept b2 L_b.out.inside).inside).inside).inside).cell 1⟩)
        | (go_at_call 71; refine (rect_any _ _ _ _ _ _ _ n1 (mins x1 x3) (maxs x2 x4) _ PL.out PH.out (HU.out.len.trans HL.out) (HU.out.len'.trans HL.out) rfl).mono ?_
           rintro e W6 ⟨gx, gy, rfl, ox, oy, lx, ly, b6⟩
           have k_5 : W6.cell? ⟨w.heap.size, 0, none⟩ = some (.slice A1 n1 c1) ∧ W6.cell? ⟨w.heap.size, 1, none⟩ = some (.slice A2 n2 c2) ∧ W6.cell? ⟨w.heap.size + 1, 0, none⟩ = some (.slice A3 n3 c3) ∧ W6.cell? ⟨w.heap.size + 1, 1, none⟩ = some (.slice A4 n4 c4) := ⟨(((((L_a.out.kept b2 L_a.out.inside).kept b3 (L_a.out.kept b2 L_a.out.inside).inside).kept b4 ((L_a.out.kept b2 L_a.out.inside).kept b3 (L_a.out.kept b2 L_a.out.inside).inside).inside).kept b5 (((L_a.out.kept b2 L_a.out.inside).kept b3 (L_a.out.kept b2 L_a.out.inside).inside).kept b4 ((L_a.out.kept b2 L_a.out.inside).kept b3 (L_a.out.kept b2 L_a.out.inside).inside).inside).inside).kept b6 ((((L_a.out.kept b2 L_a.out.inside).kept b3 (L_a.out.kept b2 L_a.out.inside).inside).kept b4 ((L_a.out.kept b2 L_a.out.inside).kept b3 (L_a.out.kept b2 L_a.out.inside).inside).inside).kept b5 (((L_a.out.kept b2 L_a.out.inside).kept b3 (L_a.out.kept b2 L_a.out.inside).inside).kept b4 ((L_a.out.kept b2 L_a.out.inside).kept b3 (L_a.out.kept b2 L_a.out.inside).inside).inside).inside).inside).cell 0, (((((L_a.out.kept b2 L_a.out.inside).kept b3 (L_a.out.kept b2 L_a.out.inside).inside).kept b4 ((L_a.out.kept b2 L_a.out.inside).kept b3 (L_a.out.kept b2 L_a.out.inside).inside).inside).kept b5 (((L_a.out.kept b2 L_a.out.inside).kept b3 (L_a.out.kept b2 L_a.out.inside).inside).kept b4 ((L_a.out.kept b2 L_a.out.inside).kept b3 (L_a.out.kept b2 L_a.out.inside).inside).inside).inside).kept b6 ((((L_a.out.kept b2 L_a.out.inside).kept b3 (L_a.out.kept b2 L_a.out.inside).inside).kept b4 ((L_a.out.kept b2 L_a.out.inside).kept b3 (L_a.out.kept b2 L_a.out.inside).inside).inside).kept b5 (((L_a.out.kept b2 L_a.out.inside).kept b3 (L_a.out.kept b2 L_a.out.inside).inside).kept b4 ((L_a.out.kept b2 L_a.out.inside).kept b3 (L_a.out.kept b2 L_a.out.inside).inside).inside).inside).inside).cell 1, (((((L_b.out.kept b2 L_b.out.inside).kept b3 (L_b.out.kept b2 L_b.out.inside).inside).kept b4 ((L_b.out.kept b2 L_b.out.inside).kept b3 (L_b.out.kept b2 L_b.out.inside).inside).inside).kept b5 (((L_b.out.kept b2 L_b.out.inside).kept b3 (L_b.out.kept b2 L_b.out.inside).inside).kept b4 ((L_b.out.kept b2 L_b.out.inside).kept b3 (L_b.out.kept b2 L_b.out.inside).inside).inside).inside).kept b6 ((((L_b.out.kept b2 L_b.out.inside).kept b3 (L_b.out.kept b2 L_b.out.inside).inside).kept b4 ((L_b.out.kept b2 L_b.out.inside).kept b3 (L_b.out.kept b2 L_b.out.inside).inside).inside).kept b5 (((L_b.out.kept b2 L_b.out.inside).kept b3 (L_b.out.kept b2 L_b.out.inside).inside).kept b4 ((L_b.out.kept b2 L_b.out.inside).kept b3 (L_b.out.kept b2 L_b.out.inside).inside).inside).inside).inside).cell 0, (((((L_b.out.kept b2 L_b.out.inside).kept b3 (L_b.out.kept b2 L_b.out.inside).inside).kept b4 ((L_b.out.kept b2 L_b.out.inside).kept b3 (L_b.out.kept b2 L_b.out.inside).inside).inside).kept b5 (((L_b.out.kept b2 L_b.out.inside).kept b3 (L_b.out.kept b2 L_b.out.inside).inside).kept b4 ((L_b.out.kept b2 L_b.out.inside).kept b3 (L_b.out.kept b2 L_b.out.inside).inside).inside).inside).kept b6 ((((L_b.out.kept b2 L_b.out.inside).kept b3 (L_b.out.kept b2 L_b.out.inside).inside).kept b4 ((L_b.out.kept b2 L_b.out.inside).kept b3 (L_b.out.kept b2 L_b.out.inside).inside).inside).kept b5 (((L_b.out.kept b2 L_b.out.inside).kept b3 (L_b.out.kept b2 L_b.out.inside).inside).kept b4 ((L_b.out.kept b2 L_b.out.inside).kept b3 (L_b.out.kept b2 L_b.out.inside).inside).inside).inside).inside).cell 1⟩
           have c_r0 : W6.cell? ⟨w.heap.size + 1 + 1, 0, none⟩ = some (.int .i64 0) := (((((L_r.out.kept b2 L_r.out.inside).kept b3 (L_r.out.kept b2 L_r.out.inside).inside).kept b4 ((L_r.out.kept b2 L_r.out.inside).kept b3 (L_r.out.kept b2 L_r.out.inside).inside).inside).kept b5 (((L_r.out.kept b2 L_r.out.inside).kept b3 (L_r.out.kept b2 L_r.out.inside).inside).kept b4 ((L_r.out.kept b2 L_r.out.inside).kept b3 (L_r.out.kept b2 L_r.out.inside).inside).inside).inside).kept b6 ((((L_r.out.kept b2 L_r.out.inside).kept b3 (L_r.out.kept b2 L_r.out.inside).inside).kept b4 ((L_r.out.kept b2 L_r.out.inside).kept b3 (L_r.out.kept b2 L_r.out.inside).inside).inside).kept b5 (((L_r.out.kept b2 L_r.out.inside).kept b3 (L_r.out.kept b2 L_r.out.inside).inside).kept b4 ((L_r.out.kept b2 L_r.out.inside).kept b3 (L_r.out.kept b2 L_r.out.inside).inside).inside).inside).inside).cell 0
           have f_r0 : W6.frozen? ⟨w.heap.size + 1 + 1, 0, none⟩ = false := (((((L_r.out.kept b2 L_r.out.inside).kept b3 (L_r.out.kept b2 L_r.out.inside).inside).kept b4 ((L_r.out.kept b2 L_r.out.inside).kept b3 (L_r.out.kept b2 L_r.out.inside).inside).inside).kept b5 (((L_r.out.kept b2 L_r.out.inside).kept b3 (L_r.out.kept b2 L_r.out.inside).inside).kept b4 ((L_r.out.kept b2 L_r.out.inside).kept b3 (L_r.out.kept b2 L_r.out.inside).inside).inside).inside).kept b6 ((((L_r.out.kept b2 L_r.out.inside).kept b3 (L_r.out.kept b2 L_r.out.inside).inside).kept b4 ((L_r.out.kept b2 L_r.out.inside).kept b3 (L_r.out.kept b2 L_r.out.inside).inside).inside).kept b5 (((L_r.out.kept b2 L_r.out.inside).kept b3 (L_r.out.kept b2 L_r.out.inside).inside).kept b4 ((L_r.out.kept b2 L_r.out.inside).kept b3 (L_r.out.kept b2 L_r.out.inside).inside).inside).inside).inside).thawed 0
           have c_r1 : W6.cell? ⟨w.heap.size + 1 + 1, 1, none⟩ = some (.slice none 0 0) := (((((L_r.out.kept b2 L_r.out.inside).kept b3 (L_r.out.kept b2 L_r.out.inside).inside).kept b4 ((L_r.out.kept b2 L_r.out.inside).kept b3 (L_r.out.kept b2 L_r.out.inside).inside).inside).kept b5 (((L_r.out.kept b2 L_r.out.inside).kept b3 (L_r.out.kept b2 L_r.out.inside).inside).kept b4 ((L_r.out.kept b2 L_r.out.inside).kept b3 (L_r.out.kept b2 L_r.out.inside).inside).inside).inside).kept b6 ((((L_r.out.kept b2 L_r.out.inside).kept b3 (L_r.out.kept b2 L_r.out.inside).inside).kept b4 ((L_r.out.kept b2 L_r.out.inside).kept b3 (L_r.out.kept b2 L_r.out.inside).inside).inside).kept b5 (((L_r.out.kept b2 L_r.out.inside).kept b3 (L_r.out.kept b2 L_r.out.inside).inside).kept b4 ((L_r.out.kept b2 L_r.out.inside).kept b3 (L_r.out.kept b2 L_r.out.inside).inside).inside).inside).inside).cell 1
           have f_r1 : W6.frozen? ⟨w.heap.size + 1 + 1, 1, none⟩ = false := (((((L_r.out.kept b2 L_r.out.inside).kept b3 (L_r.out.kept b2 L_r.out.inside).inside).kept b4 ((L_r.out.kept b2 L_r.out.inside).kept b3 (L_r.out.kept b2 L_r.out.inside).inside).inside).kept b5 (((L_r.out.kept b2 L_r.out.inside).kept b3 (L_r.out.kept b2 L_r.out.inside).inside).kept b4 ((L_r.out.kept b2 L_r.out.inside).kept b3 (L_r.out.kept b2 L_r.out.inside).inside).inside).inside).kept b6 ((((L_r.out.kept b2 L_r.out.inside).kept b3 (L_r.out.kept b2 L_r.out.inside).inside).kept b4 ((L_r.out.kept b2 L_r.out.inside).kept b3 (L_r.out.kept b2 L_r.out.inside).inside).inside).kept b5 (((L_r.out.kept b2 L_r.out.inside).kept b3 (L_r.out.kept b2 L_r.out.inside).inside).kept b4 ((L_r.out.kept b2 L_r.out.inside).kept b3 (L_r.out.kept b2 L_r.out.inside).inside).inside).inside).inside).thawed 1
           have c_r2 : W6.cell? ⟨w.heap.size + 1 + 1, 2, none⟩ = some (.slice none 0 0) := (((((L_r.out.kept b2 L_r.out.inside).kept b3 (L_r.out.kept b2 L_r.out.inside).inside).kept b4 ((L_r.out.kept b2 L_r.out.inside).kept b3 (L_r.out.kept b2 L_r.out.inside).inside).inside).kept b5 (((L_r.out.kept b2 L_r.out.inside).kept b3 (L_r.out.kept b2 L_r.out.inside).inside).kept b4 ((L_r.out.kept b2 L_r.out.inside).kept b3 (L_r.out.kept b2 L_r.out.inside).inside).inside).inside).kept b6 ((((L_r.out.kept b2 L_r.out.inside).kept b3 (L_r.out.kept b2 L_r.out.inside).inside).kept b4 ((L_r.out.kept b2 L_r.out.inside).kept b3 (L_r.out.kept b2 L_r.out.inside).inside).inside).kept b5 (((L_r.out.kept b2 L_r.out.inside).kept b3 (L_r.out.kept b2 L_r.out.inside).inside).kept b4 ((L_r.out.kept b2 L_r.out.inside).kept b3 (L_r.out.kept b2 L_r.out.inside).inside).inside).inside).inside).cell 2
           have f_r2 : W6.frozen? ⟨w.heap.size + 1 + 1, 2, none⟩ = false := (((((L_r.out.kept b2 L_r.out.inside).kept b3 (L_r.out.kept b2 L_r.out.inside).inside).kept b4 ((L_r.out.kept b2 L_r.out.inside).kept b3 (L_r.out.kept b2 L_r.out.inside).inside).inside).kept b5 (((L_r.out.kept b2 L_r.out.inside).kept b3 (L_r.out.kept b2 L_r.out.inside).inside).kept b4 ((L_r.out.kept b2 L_r.out.inside).kept b3 (L_r.out.kept b2 L_r.out.inside).inside).inside).inside).kept b6 ((((L_r.out.kept b2 L_r.out.inside).kept b3 (L_r.out.kept b2 L_r.out.inside).inside).kept b4 ((L_r.out.kept b2 L_r.out.inside).kept b3 (L_r.out.kept b2 L_r.out.inside).inside).inside).kept b5 (((L_r.out.kept b2 L_r.out.inside).kept b3 (L_r.out.kept b2 L_r.out.inside).inside).kept b4 ((L_r.out.kept b2 L_r.out.inside).kept b3 (L_r.out.kept b2 L_r.out.inside).inside).inside).inside).inside).thawed 2))
    clear k_0 k_1 k_2 k_3 k_4 k_5
    replace L_a := Lib.hid (L_a.out.kept b2 L_a.out.inside)
    replace L_b := Lib.hid (L_b.out.kept b2 L_b.out.inside)
    replace L_r := Lib.hid (L_r.out.kept b2 L_r.out.inside)
    replace B := Lib.hid (B.out.trans (b2.mono B.out.size))
    clear b2
    have in_W2 : w.heap.size + 1 + 1 < W2.heap.size := L_r.out.inside
    replace L_a := Lib.hid (L_a.out.kept b3 L_a.out.inside)
    replace L_b := Lib.hid (L_b.out.kept b3 L_b.out.inside)
    replace L_r := Lib.hid (L_r.out.kept b3 L_r.out.inside)
    replace B := Lib.hid (B.out.trans (b3.mono B.out.size))
    clear b3
    have in_W3 : w.heap.size + 1 + 1 < W3.heap.size := L_r.out.inside
    replace L_a := Lib.hid (L_a.out.kept b4 L_a.out.inside)
    replace L_b := Lib.hid (L_b.out.kept b4 L_b.out.inside)
    replace L_r := Lib.hid (L_r.out.kept b4 L_r.out.inside)
    replace B := Lib.hid (B.out.trans (b4.mono B.out.size))
    clear b4
    have in_W4 : w.heap.size + 1 + 1 < W4.heap.size := L_r.out.inside
    replace L_a := Lib.hid (L_a.out.kept b5 L_a.out.inside)
    replace L_b := Lib.hid (L_b.out.kept b5 L_b.out.inside)
    replace L_r := Lib.hid (L_r.out.kept b5 L_r.out.inside)
    replace B := Lib.hid (B.out.trans (b5.mono B.out.size))
    clear b5
    have in_W5 : w.heap.size + 1 + 1 < W5.heap.size := L_r.out.inside
    replace L_a := Lib.hid (L_a.out.kept b6 L_a.out.inside)
    replace L_b := Lib.hid (L_b.out.kept b6 L_b.out.inside)
    replace L_r := Lib.hid (L_r.out.kept b6 L_r.out.inside)
    replace B := Lib.hid (B.out.trans (b6.mono B.out.size))
    clear b6
    have in_W6 : w.heap.size + 1 + 1 < W6.heap.size := L_r.out.inside
    have O_x := Lib.hid ox
    clear ox
    have O_y := Lib.hid oy
    clear oy
    go_wp2
    refine bodyPost_ret (v := .agg #[.int .i64 0, .slice (some ⟨gx, 0, none⟩) n1 n1, .slice (some ⟨gy, 0, none⟩) n1 n1]) (by simp [results, Try.results11, go_sem, c_r0, c_r1, c_r2]) rfl ⟨fun _ => ⟨gx, gy, rfl, ?_, ?_, ?_, ?_, hn3⟩, fun h => absurd HRF.out h, ?_⟩
    · omega
    · exact ly
    · exact ((O_x.out.far (by show gx ≠ w.heap.size + 1 + 1; omega) _).far (by show gx ≠ w.heap.size + 1 + 1; omega) _).far (by show gx ≠ w.heap.size + 1 + 1; omega) _
    · exact ((O_y.out.far (by show gy ≠ w.heap.size + 1 + 1; omega) _).far (by show gy ≠ w.heap.size + 1 + 1; omega) _).far (by show gy ≠ w.heap.size + 1 + 1; omega) _
    · exact (((B.out.setCell (by show w.heap.size ≤ w.heap.size + 1 + 1; omega) _).setCell (by show w.heap.size ≤ w.heap.size + 1 + 1; omega) _).setCell (by show w.heap.size ≤ w.heap.size + 1 + 1; omega) _)
  · have hq : (rf2 x1 x2 x3 x4 != 0) = true := by simpa using hr
    have HRF := Lib.hid hr
    clear hr
    go_enter Try.func11, Try.ntmps11
    go_wp2_with fail
    refine (rectsFault_any _ _ _ _ _ _ _ _ _ _ _ _ _ _ _ _ x1 x2 x3 x4 _ (I_1.out.kept B.out) (I_2.out.kept B.out) (I_3.out.kept B.out) (I_4.out.kept B.out) m1 m2 m3 m4).mono ?_
    rintro e W1 ⟨rfl, b1⟩
    replace L_a := Lib.hid (L_a.out.kept b1 L_a.out.inside)
    replace L_b := Lib.hid (L_b.out.kept b1 L_b.out.inside)
    replace L_r := Lib.hid (L_r.out.kept b1 L_r.out.inside)
    replace B := Lib.hid (B.out.trans (b1.mono B.out.size))
    clear b1
    have c_r0 : W1.cell? ⟨w.heap.size + 1 + 1, 0, none⟩ = some (.int .i64 0) := L_r.out.cell 0
    have f_r0 : W1.frozen? ⟨w.heap.size + 1 + 1, 0, none⟩ = false := L_r.out.thawed 0
    have c_r1 : W1.cell? ⟨w.heap.size + 1 + 1, 1, none⟩ = some (.slice none 0 0) := L_r.out.cell 1
    have f_r1 : W1.frozen? ⟨w.heap.size + 1 + 1, 1, none⟩ = false := L_r.out.thawed 1
    have c_r2 : W1.cell? ⟨w.heap.size + 1 + 1, 2, none⟩ = some (.slice none 0 0) := L_r.out.cell 2
    have f_r2 : W1.frozen? ⟨w.heap.size + 1 + 1, 2, none⟩ = false := L_r.out.thawed 2
    go_wp2
    refine bodyPost_ret (v := .agg #[.int .i64 (rf2 x1 x2 x3 x4), .slice none 0 0, .slice none 0 0]) (by simp [results, Try.results11, go_sem, c_r0, c_r1, c_r2]) rfl ⟨fun h => absurd h HRF.out, fun _ => rfl, ?_⟩
    exact (((B.out.setCell (by show w.heap.size ≤ w.heap.size + 1 + 1; omega) _).setCell (by show w.heap.size ≤ w.heap.size + 1 + 1; omega) _).setCell (by show w.heap.size ≤ w.heap.size + 1 + 1; omega) _)

end Go.Proofs.Ytfpmbkfikfdmkaa
