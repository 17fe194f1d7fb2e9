/- The walks of spec.Covers and impl.Covers: for every two boxes. -/
import Derived.Test.YtfpmbkfikfdmkaaBoxVals
namespace Go.Proofs.Ytfpmbkfikfdmkaa
open Go.RowKit

/-- Whether the second box is in the first. -/
def coversF (x1 x2 x3 x4 : List Int) : Bool := decide (rf2 x1 x2 x3 x4 = 0) && coverTo x1 x2 x3 x4 x1.length

/-- That a box is its union with another one, as the program asks it. -/
def boxCovers (p0 p1 p2 q0 q1 q2 r0 r1 r2 s0 s1 s2 : Int) : Bool := (min p0 r0 == p0) && (min p1 r1 == p1) && (min p2 r2 == p2) && ((max q0 s0 == q0) && (max q1 s1 == q1) && (max q2 s2 == q2))

theorem coverTo_box {x1 x2 x3 x4 : List Int} {n : Nat} {p0 p1 p2 q0 q1 q2 r0 r1 r2 s0 s1 s2 : Int} (h1 : Pad x1 p0 p1 p2) (h2 : Pad x2 q0 q1 q2) (h3 : Pad x3 r0 r1 r2) (h4 : Pad x4 s0 s1 s2)
    (l1 : x1.length = n) (l2 : x2.length = n) (l3 : x3.length = n) (l4 : x4.length = n) : boxCovers p0 p1 p2 q0 q1 q2 r0 r1 r2 s0 s1 s2 = coverTo x1 x2 x3 x4 n := by
  obtain ⟨a0, a1, a2, ad, az⟩ := pad_get h1
  obtain ⟨b0, b1, b2, _, bz⟩ := pad_get h2
  obtain ⟨c0, c1, c2, _, cz⟩ := pad_get h3
  obtain ⟨d0, d1, d2, _, dz⟩ := pad_get h4
  rw [Bool.eq_iff_iff]
  rcases ad with e | e
  · have hn : n = 2 := by omega
    have za := az e
    have zb := bz (by omega)
    have zc := cz (by omega)
    have zd := dz (by omega)
    rw [hn]
    simp only [boxCovers, coverTo, a0, a1, b0, b1, c0, c1, d0, d1, Bool.true_and, Bool.and_eq_true, decide_eq_true_eq, beq_iff_eq]
    omega
  · have hn : n = 3 := by omega
    rw [hn]
    simp only [boxCovers, coverTo, a0, a1, a2, b0, b1, b2, c0, c1, c2, d0, d1, d2, Bool.true_and, Bool.and_eq_true, decide_eq_true_eq, beq_iff_eq]
    omega

theorem size_of_i64 (w : World) : (sizeOf 2).run Try.prog w = .ok 1 w := by kernel_rfl
theorem size_of_corner (w : World) : (sizeOf 92).run Try.prog w = .ok 3 w := by kernel_rfl

theorem eql_corner (d : Nat) (u0 u1 u2 p0 p1 p2 : Int) (w : World) :
    (Op.equalIn (d + 2) 92 (.agg #[.int .i64 u0, .int .i64 u1, .int .i64 u2]) (.agg #[.int .i64 p0, .int .i64 p1, .int .i64 p2])).run Try.prog w = .ok ((u0 == p0) && (u1 == p1) && (u2 == p2)) w := by
  have h0 : ∀ (a b c : Int) w, (part 2 #[.int .i64 a, .int .i64 b, .int .i64 c] 0).run Try.prog w = .ok (.int .i64 a) w := fun _ _ _ _ => by kernel_rfl
  have h1 : ∀ (a b c : Int) w, (part 2 #[.int .i64 a, .int .i64 b, .int .i64 c] 1).run Try.prog w = .ok (.int .i64 b) w := fun _ _ _ _ => by kernel_rfl
  have h2 : ∀ (a b c : Int) w, (part 2 #[.int .i64 a, .int .i64 b, .int .i64 c] 2).run Try.prog w = .ok (.int .i64 c) w := fun _ _ _ _ => by kernel_rfl
  have he := fun (a b : Int) w => run_equalIn_int (P := Try.prog) w d 2 .i64 .i64 a b Try.underlying2
  rw [Op.equalIn]
  simp only [Sem.run_bind, run_underlying Try.underlying92, Result.andThen_ok, size_of_i64, Std.Legacy.Range.forIn_eq_forIn_range', Std.Legacy.Range.size]
  simp [List.range', h0, h1, h2, he]
  by_cases e0 : u0 = p0 <;> by_cases e1 : u1 = p1 <;> by_cases e2 : u2 = p2 <;> simp [e0, e1, e2]

theorem eql_box (p0 p1 p2 q0 q1 q2 u0 u1 u2 v0 v1 v2 : Int) (w : World) :
    (binOp .eql 94 (.agg #[.int .i64 u0, .int .i64 u1, .int .i64 u2, .int .i64 v0, .int .i64 v1, .int .i64 v2]) (.agg #[.int .i64 p0, .int .i64 p1, .int .i64 p2, .int .i64 q0, .int .i64 q1, .int .i64 q2])).run Try.prog w =
      .ok (.bool ((u0 == p0) && (u1 == p1) && (u2 == p2) && ((v0 == q0) && (v1 == q1) && (v2 == q2)))) w := by
  have h0 : ∀ (a b c d e f : Int) w, (part 92 #[.int .i64 a, .int .i64 b, .int .i64 c, .int .i64 d, .int .i64 e, .int .i64 f] 0).run Try.prog w = .ok (.agg #[.int .i64 a, .int .i64 b, .int .i64 c]) w := fun _ _ _ _ _ _ _ => by kernel_rfl
  have h1 : ∀ (a b c d e f : Int) w, (part 92 #[.int .i64 a, .int .i64 b, .int .i64 c, .int .i64 d, .int .i64 e, .int .i64 f] 3).run Try.prog w = .ok (.agg #[.int .i64 d, .int .i64 e, .int .i64 f]) w := fun _ _ _ _ _ _ _ => by kernel_rfl
  rw [run_eql_struct, show (10000 : Nat) = 9999 + 1 from rfl, Op.equalIn]
  simp only [Sem.run_bind, run_underlying Try.underlying94, Result.andThen_ok, size_of_corner, Std.Legacy.Range.forIn_eq_forIn_range', Std.Legacy.Range.size]
  have he := fun (u0 u1 u2 p0 p1 p2 : Int) w => eql_corner 9997 u0 u1 u2 p0 p1 p2 w
  simp only [show 9997 + 2 = 9999 from rfl] at he
  simp [List.range', h0, h1, he]
  cases h : ((u0 == p0) && (u1 == p1) && (u2 == p2)) <;> cases h' : ((v0 == q0) && (v1 == q1) && (v2 == q2)) <;> simp_all

set_option maxHeartbeats 3200000 in
theorem specCovers_any (n1 c1 n2 c2 n3 c3 n4 c4 lo1 lo2 lo3 lo4 : Nat) (A1 A2 A3 A4 : Option Addr) (x1 x2 x3 x4 : List Int) (w : World)
    (h1 : Ints w lo1 A1 n1 x1) (h2 : Ints w lo2 A2 n2 x2) (h3 : Ints w lo3 A3 n3 x3) (h4 : Ints w lo4 A4 n4 x4) (m1 : n1 ≤ maxLen) (m2 : n2 ≤ maxLen) (m3 : n3 ≤ maxLen) (m4 : n4 ≤ maxLen) :
    Calls Try.prog 17 #[.agg #[.slice A1 n1 c1, .slice A2 n2 c2], .agg #[.slice A3 n3 c3, .slice A4 n4 c4]] w fun e w' => e = .returned (.bool (coversF x1 x2 x3 x4)) ∧ Below w.heap.size w w' := by
  have I_1 := Lib.hid h1
  have I_2 := Lib.hid h2
  have I_3 := Lib.hid h3
  have I_4 := Lib.hid h4
  have HL := Lib.hid h1.1
  clear h1 h2 h3 h4
  have B := Lib.hid (Below.refl w.heap.size w)
  have L_a := Lib.hid (Lies.new w 26 #[.slice A1 n1 c1, .slice A2 n2 c2])
  replace B := Lib.hid (B.out.alloc B.out.size (.cells #[.slice A1 n1 c1, .slice A2 n2 c2] 26))
  replace L_a := Lib.hid (L_a.out.alloc (.cells #[.slice A3 n3 c3, .slice A4 n4 c4] 26))
  have L_b := Lib.hid (Lies.new (w.alloc (.cells #[.slice A1 n1 c1, .slice A2 n2 c2] 26)) 26 #[.slice A3 n3 c3, .slice A4 n4 c4])
  replace B := Lib.hid (B.out.alloc B.out.size (.cells #[.slice A3 n3 c3, .slice A4 n4 c4] 26))
  simp only [World.size_alloc] at L_b
  by_cases hr : rf2 x1 x2 x3 x4 = 0
  · have HF : Hid (coversF x1 x2 x3 x4 = coverTo x1 x2 x3 x4 n1) := by show coversF x1 x2 x3 x4 = _; rw [← HL.out]; simp [coversF, hr]
    obtain ⟨hR, hR'⟩ := right_of_rf2 hr
    rw [HL.out] at hR hR'
    have HR := Lib.hid hR
    have HR' := Lib.hid hR'
    have e2 : n2 = n1 := by rw [← I_2.out.1]; exact hR.len'
    have e3 : n3 = n1 := by rw [← I_3.out.1]; exact hR'.len
    have e4 : n4 = n1 := by rw [← I_4.out.1]; exact hR'.len'
    have hn3 : n1 ≤ 3 := by have := hR.dim; omega
    have hq : (rf2 x1 x2 x3 x4 == 0) = true := by simp [hr]
    clear hr hR hR'
    subst e2 e3 e4
    go_enter Try.func17, Try.ntmps17
    go_wp2_with fail
    refine (l1Two_any _ _ _ _ _ _ _ _ _ _ _ _ _ _ _ _ _ _ x1 x2 x3 x4 _ L_a.out.inside L_b.out.inside ⟨L_a.out.cell 0, L_a.out.cell 1, L_b.out.cell 0, L_b.out.cell 1⟩ (I_1.out.kept B.out) (I_2.out.kept B.out) (I_3.out.kept B.out) (I_4.out.kept B.out) m1 m2 m3 m4).mono ?_
    rintro e W1 ⟨rfl, b1⟩
    replace L_a := Lib.hid (L_a.out.kept b1 L_a.out.inside)
    replace L_b := Lib.hid (L_b.out.kept b1 L_b.out.inside)
    replace B := Lib.hid (B.out.trans (b1.mono B.out.size))
    clear b1
    go_wp2_with fail
    refine (l1Covers_any _ _ _ _ _ _ _ _ _ _ _ _ _ _ _ x1 x2 x3 x4 _ ⟨L_a.out.cell 0, L_a.out.cell 1, L_b.out.cell 0, L_b.out.cell 1⟩ (I_1.out.kept B.out) (I_2.out.kept B.out) (I_3.out.kept B.out) (I_4.out.kept B.out) hn3).mono ?_
    rintro e W9 ⟨rfl, b9d⟩
    have b9 := b9d.below
    clear b9d
    replace L_a := Lib.hid (L_a.out.kept b9 L_a.out.inside)
    replace L_b := Lib.hid (L_b.out.kept b9 L_b.out.inside)
    replace B := Lib.hid (B.out.trans (b9.mono B.out.size))
    clear b9
    go_wp2
    go_ret
    exact ⟨ret_bool HF.out.symm, B.out⟩
  · have HF : Hid (coversF x1 x2 x3 x4 = false) := by show coversF x1 x2 x3 x4 = _; simp [coversF, hr]
    have hq : (rf2 x1 x2 x3 x4 == 0) = false := by simpa using hr
    clear hr
    go_enter Try.func17, Try.ntmps17
    go_wp2_with fail
    refine (l1Two_any _ _ _ _ _ _ _ _ _ _ _ _ _ _ _ _ _ _ x1 x2 x3 x4 _ L_a.out.inside L_b.out.inside ⟨L_a.out.cell 0, L_a.out.cell 1, L_b.out.cell 0, L_b.out.cell 1⟩ (I_1.out.kept B.out) (I_2.out.kept B.out) (I_3.out.kept B.out) (I_4.out.kept B.out) m1 m2 m3 m4).mono ?_
    rintro e W1 ⟨rfl, b1⟩
    replace L_a := Lib.hid (L_a.out.kept b1 L_a.out.inside)
    replace L_b := Lib.hid (L_b.out.kept b1 L_b.out.inside)
    replace B := Lib.hid (B.out.trans (b1.mono B.out.size))
    clear b1
    go_wp2
    go_ret
    exact ⟨ret_bool HF.out.symm, B.out⟩

set_option maxHeartbeats 1600000 in
theorem coversM_any (p0 p1 p2 q0 q1 q2 r0 r1 r2 s0 s1 s2 : Int) (w : World) :
    Calls Try.prog 78 #[.agg #[.int .i64 p0, .int .i64 p1, .int .i64 p2, .int .i64 q0, .int .i64 q1, .int .i64 q2], .agg #[.int .i64 r0, .int .i64 r1, .int .i64 r2, .int .i64 s0, .int .i64 s1, .int .i64 s2]] w
      fun e w' => e = .returned (.bool (boxCovers p0 p1 p2 q0 q1 q2 r0 r1 r2 s0 s1 s2)) ∧ Below w.heap.size w w' := by
  have hE := fun W => eql_box p0 p1 p2 q0 q1 q2 (min p0 r0) (min p1 r1) (min p2 r2) (max q0 s0) (max q1 s1) (max q2 s2) W
  have B := Lib.hid (Below.refl w.heap.size w)
  have L_v := Lib.hid (Lies.new w 94 #[.int .i64 p0, .int .i64 p1, .int .i64 p2, .int .i64 q0, .int .i64 q1, .int .i64 q2])
  replace B := Lib.hid (B.out.alloc B.out.size (.cells #[.int .i64 p0, .int .i64 p1, .int .i64 p2, .int .i64 q0, .int .i64 q1, .int .i64 q2] 94))
  replace L_v := Lib.hid (L_v.out.alloc (.cells #[.int .i64 r0, .int .i64 r1, .int .i64 r2, .int .i64 s0, .int .i64 s1, .int .i64 s2] 94))
  have L_u := Lib.hid (Lies.new (w.alloc (.cells #[.int .i64 p0, .int .i64 p1, .int .i64 p2, .int .i64 q0, .int .i64 q1, .int .i64 q2] 94)) 94 #[.int .i64 r0, .int .i64 r1, .int .i64 r2, .int .i64 s0, .int .i64 s1, .int .i64 s2])
  replace B := Lib.hid (B.out.alloc B.out.size (.cells #[.int .i64 r0, .int .i64 r1, .int .i64 r2, .int .i64 s0, .int .i64 s1, .int .i64 s2] 94))
  simp only [World.size_alloc] at L_u
  go_enter Try.func78, Try.ntmps78
  go_wp2
  generalize hW : ((w.alloc (.cells #[.int .i64 p0, .int .i64 p1, .int .i64 p2, .int .i64 q0, .int .i64 q1, .int .i64 q2] 94)).alloc (.cells #[.int .i64 r0, .int .i64 r1, .int .i64 r2, .int .i64 s0, .int .i64 s1, .int .i64 s2] 94)) = W0 at *
  clear hW
  have k_0 : W0.cell? ⟨w.heap.size, 0, none⟩ = some (.int .i64 p0) ∧ W0.cell? ⟨w.heap.size, 1, none⟩ = some (.int .i64 p1) ∧ W0.cell? ⟨w.heap.size, 2, none⟩ = some (.int .i64 p2) ∧ W0.cell? ⟨w.heap.size, 3, none⟩ = some (.int .i64 q0) ∧ W0.cell? ⟨w.heap.size, 4, none⟩ = some (.int .i64 q1) ∧ W0.cell? ⟨w.heap.size, 5, none⟩ = some (.int .i64 q2) ∧ W0.cell? ⟨w.heap.size + 1, 0, none⟩ = some (.int .i64 r0) ∧ W0.cell? ⟨w.heap.size + 1, 1, none⟩ = some (.int .i64 r1) ∧ W0.cell? ⟨w.heap.size + 1, 2, none⟩ = some (.int .i64 r2) ∧ W0.cell? ⟨w.heap.size + 1, 3, none⟩ = some (.int .i64 s0) ∧ W0.cell? ⟨w.heap.size + 1, 4, none⟩ = some (.int .i64 s1) ∧ W0.cell? ⟨w.heap.size + 1, 5, none⟩ = some (.int .i64 s2) := ⟨L_v.out.cell 0, L_v.out.cell 1, L_v.out.cell 2, L_v.out.cell 3, L_v.out.cell 4, L_v.out.cell 5, L_u.out.cell 0, L_u.out.cell 1, L_u.out.cell 2, L_u.out.cell 3, L_u.out.cell 4, L_u.out.cell 5⟩
  go_region_held3 (fun w' => w'.cell? ⟨w.heap.size, 0, none⟩ = some (.int .i64 p0) ∧ w'.cell? ⟨w.heap.size, 1, none⟩ = some (.int .i64 p1) ∧ w'.cell? ⟨w.heap.size, 2, none⟩ = some (.int .i64 p2) ∧ w'.cell? ⟨w.heap.size, 3, none⟩ = some (.int .i64 q0) ∧ w'.cell? ⟨w.heap.size, 4, none⟩ = some (.int .i64 q1) ∧ w'.cell? ⟨w.heap.size, 5, none⟩ = some (.int .i64 q2) ∧ w'.cell? ⟨w.heap.size + 1, 0, none⟩ = some (.int .i64 r0) ∧ w'.cell? ⟨w.heap.size + 1, 1, none⟩ = some (.int .i64 r1) ∧ w'.cell? ⟨w.heap.size + 1, 2, none⟩ = some (.int .i64 r2) ∧ w'.cell? ⟨w.heap.size + 1, 3, none⟩ = some (.int .i64 s0) ∧ w'.cell? ⟨w.heap.size + 1, 4, none⟩ = some (.int .i64 s1) ∧ w'.cell? ⟨w.heap.size + 1, 5, none⟩ = some (.int .i64 s2))
    (first | (simp [go_sem, k_0]; done) | with_reducible exact k_1)
    (first
      | (go_at_call 70; refine (union_any _ _ _ _ _ _ _ _ _ _ _ _ _).mono ?_
         rintro e W1 ⟨rfl, b1d⟩
         have b1 := below_drawn b1d
         have k_1 : W1.cell? ⟨w.heap.size, 0, none⟩ = some (.int .i64 p0) ∧ W1.cell? ⟨w.heap.size, 1, none⟩ = some (.int .i64 p1) ∧ W1.cell? ⟨w.heap.size, 2, none⟩ = some (.int .i64 p2) ∧ W1.cell? ⟨w.heap.size, 3, none⟩ = some (.int .i64 q0) ∧ W1.cell? ⟨w.heap.size, 4, none⟩ = some (.int .i64 q1) ∧ W1.cell? ⟨w.heap.size, 5, none⟩ = some (.int .i64 q2) ∧ W1.cell? ⟨w.heap.size + 1, 0, none⟩ = some (.int .i64 r0) ∧ W1.cell? ⟨w.heap.size + 1, 1, none⟩ = some (.int .i64 r1) ∧ W1.cell? ⟨w.heap.size + 1, 2, none⟩ = some (.int .i64 r2) ∧ W1.cell? ⟨w.heap.size + 1, 3, none⟩ = some (.int .i64 s0) ∧ W1.cell? ⟨w.heap.size + 1, 4, none⟩ = some (.int .i64 s1) ∧ W1.cell? ⟨w.heap.size + 1, 5, none⟩ = some (.int .i64 s2) := ⟨(L_v.out.kept b1 L_v.out.inside).cell 0, (L_v.out.kept b1 L_v.out.inside).cell 1, (L_v.out.kept b1 L_v.out.inside).cell 2, (L_v.out.kept b1 L_v.out.inside).cell 3, (L_v.out.kept b1 L_v.out.inside).cell 4, (L_v.out.kept b1 L_v.out.inside).cell 5, (L_u.out.kept b1 L_u.out.inside).cell 0, (L_u.out.kept b1 L_u.out.inside).cell 1, (L_u.out.kept b1 L_u.out.inside).cell 2, (L_u.out.kept b1 L_u.out.inside).cell 3, (L_u.out.kept b1 L_u.out.inside).cell 4, (L_u.out.kept b1 L_u.out.inside).cell 5⟩
         clear b1d))
  clear k_0 k_1
  replace L_v := Lib.hid (L_v.out.kept b1 L_v.out.inside)
  replace L_u := Lib.hid (L_u.out.kept b1 L_u.out.inside)
  replace B := Lib.hid (B.out.trans (b1.mono B.out.size))
  clear b1
  go_wp2
  go_ret
  exact ⟨ret_bool rfl, B.out⟩

theorem coversM_is (v : Bool) (p0 p1 p2 q0 q1 q2 r0 r1 r2 s0 s1 s2 : Int) (w : World) (h : boxCovers p0 p1 p2 q0 q1 q2 r0 r1 r2 s0 s1 s2 = v) :
    Calls Try.prog 78 #[.agg #[.int .i64 p0, .int .i64 p1, .int .i64 p2, .int .i64 q0, .int .i64 q1, .int .i64 q2], .agg #[.int .i64 r0, .int .i64 r1, .int .i64 r2, .int .i64 s0, .int .i64 s1, .int .i64 s2]] w
      fun e w' => e = .returned (.bool v) ∧ Below w.heap.size w w' := by
  subst h; exact coversM_any _ _ _ _ _ _ _ _ _ _ _ _ _

set_option maxHeartbeats 3200000 in
theorem implCovers_any (n1 c1 n2 c2 n3 c3 n4 c4 lo1 lo2 lo3 lo4 : Nat) (A1 A2 A3 A4 : Option Addr) (x1 x2 x3 x4 : List Int) (w : World)
    (h1 : Ints w lo1 A1 n1 x1) (h2 : Ints w lo2 A2 n2 x2) (h3 : Ints w lo3 A3 n3 x3) (h4 : Ints w lo4 A4 n4 x4) (m1 : n1 ≤ maxLen) (m2 : n2 ≤ maxLen) (m3 : n3 ≤ maxLen) (m4 : n4 ≤ maxLen) :
    Calls Try.prog 16 #[.agg #[.slice A1 n1 c1, .slice A2 n2 c2], .agg #[.slice A3 n3 c3, .slice A4 n4 c4]] w fun e w' => e = .returned (.bool (coversF x1 x2 x3 x4)) ∧ Below w.heap.size w w' := by
  have B0 : Hid (Below w.heap.size w ((w.alloc (.cells #[.slice A1 n1 c1, .slice A2 n2 c2] 26)).alloc (.cells #[.slice A3 n3 c3, .slice A4 n4 c4] 26))) := (below_alloc _ _).alloc (by simp) _
  have H1 := Lib.hid (h1.kept B0.out)
  have H2 := Lib.hid (h2.kept B0.out)
  have H3 := Lib.hid (h3.kept B0.out)
  have H4 := Lib.hid (h4.kept B0.out)
  have HL := Lib.hid h1.1
  have L0 := Lib.hid ((Lies.new w 26 #[.slice A1 n1 c1, .slice A2 n2 c2]).alloc (.cells #[.slice A3 n3 c3, .slice A4 n4 c4] 26))
  have L1 := Lib.hid (Lies.new (w.alloc (.cells #[.slice A1 n1 c1, .slice A2 n2 c2] 26)) 26 #[.slice A3 n3 c3, .slice A4 n4 c4])
  simp only [World.size_alloc] at L1
  have HT : Hid (Two w.heap.size (w.heap.size + 1) (.slice A1 n1 c1) (.slice A2 n2 c2) (.slice A3 n3 c3) (.slice A4 n4 c4) ((w.alloc (.cells #[.slice A1 n1 c1, .slice A2 n2 c2] 26)).alloc (.cells #[.slice A3 n3 c3, .slice A4 n4 c4] 26))) :=
    ⟨L0.out.cell 0, L0.out.cell 1, L1.out.cell 0, L1.out.cell 1⟩
  clear h1 h2 h3 h4
  by_cases hr : rf2 x1 x2 x3 x4 = 0
  · have hq : (rf2 x1 x2 x3 x4 == 0) = true := by simp [hr]
    obtain ⟨hR, hR'⟩ := right_of_rf2 hr
    obtain ⟨p0, p1, p2, hp⟩ := pad_of (xs := x1) hR.dim
    obtain ⟨q0, q1, q2, hqq⟩ := pad_of (xs := x2) (by rw [hR.len']; exact hR.dim)
    obtain ⟨r0, r1, r2, hrr⟩ := pad_of (xs := x3) (by rw [hR'.len]; exact hR'.dim)
    obtain ⟨s0, s1, s2, hss⟩ := pad_of (xs := x4) (by rw [hR'.len']; exact hR'.dim)
    have HM := Lib.hid (coverTo_box hp hqq hrr hss rfl hR.len' hR'.len hR'.len')
    have HF : Hid (coversF x1 x2 x3 x4 = coverTo x1 x2 x3 x4 x1.length) := by show coversF x1 x2 x3 x4 = _; simp [coversF, hr]
    have P1 := Lib.hid hp
    have P2 := Lib.hid hqq
    have P3 := Lib.hid hrr
    have P4 := Lib.hid hss
    clear hR hR' hr hp hqq hrr hss
    go_enter Try.func16, Try.ntmps16
    go_wp2
    generalize hW : ((w.alloc (.cells #[.slice A1 n1 c1, .slice A2 n2 c2] 26)).alloc (.cells #[.slice A3 n3 c3, .slice A4 n4 c4] 26)) = W0 at *
    clear hW
    have k0 := HT.out
    unfold Two at k0
    go_region_held3 (fun w' => w'.cell? ⟨w.heap.size, 0, none⟩ = some (.slice A1 n1 c1) ∧ w'.cell? ⟨w.heap.size, 1, none⟩ = some (.slice A2 n2 c2) ∧ w'.cell? ⟨w.heap.size + 1, 0, none⟩ = some (.slice A3 n3 c3) ∧ w'.cell? ⟨w.heap.size + 1, 1, none⟩ = some (.slice A4 n4 c4))
      (first | (simp [go_sem, k0]; done) | with_reducible exact k1 | with_reducible exact k2 | with_reducible exact k3 | with_reducible exact k4)
      (first
        | (go_at_call 68; refine (rectsFault_any _ _ _ _ _ _ _ _ _ _ _ _ _ _ _ _ x1 x2 x3 x4 _ H1.out.drew H2.out.drew H3.out.drew H4.out.drew m1 m2 m3 m4).mono ?_
           rintro e W1 ⟨rfl, b1d⟩
           have b1 := below_drawn b1d
           have k1 := two_kept b1 L0.out.inside L1.out.inside HT.out
           clear b1d
           unfold Two at k1)
        | (go_at_call_of 69 (Value.agg #[.slice A1 n1 c1, .slice A2 n2 c2]); refine (boxFrom_any _ _ _ _ _ _ _ _ x1 x2 _ _ _ _ _ _ _ P1.out P2.out (H1.out.kept b1) (H2.out.kept b1)).mono ?_
           rintro e W2 ⟨rfl, b2d⟩
           have b2 := b1.trans (b2d.mono b1.size)
           have k2 := two_kept b2 L0.out.inside L1.out.inside HT.out
           clear b2d
           unfold Two at k2)
        | (go_at_call_of 69 (Value.agg #[.slice A3 n3 c3, .slice A4 n4 c4]); refine (boxFrom_any _ _ _ _ _ _ _ _ x3 x4 _ _ _ _ _ _ _ P3.out P4.out (H3.out.kept b2) (H4.out.kept b2)).mono ?_
           rintro e W3 ⟨rfl, b3d⟩
           have b3 := b2.trans (b3d.mono b2.size)
           have k3 := two_kept b3 L0.out.inside L1.out.inside HT.out
           clear b3d
           unfold Two at k3)
        | (go_at_call 78; refine (coversM_is _ _ _ _ _ _ _ _ _ _ _ _ _ _ HM.out).mono ?_
           rintro e W4 ⟨rfl, b4d⟩
           have b4 := b3.trans (b4d.mono b3.size)
           have k4 := two_kept b4 L0.out.inside L1.out.inside HT.out
           clear b4d
           unfold Two at k4))
    go_wp2
    go_ret
    exact ⟨ret_bool HF.out.symm, B0.out.trans (b4.mono B0.out.size)⟩
  · have hq : (rf2 x1 x2 x3 x4 == 0) = false := by simpa using hr
    have HF : Hid (coversF x1 x2 x3 x4 = false) := by show coversF x1 x2 x3 x4 = _; simp [coversF, hr]
    clear hr
    go_enter Try.func16, Try.ntmps16
    go_wp2
    generalize hW : ((w.alloc (.cells #[.slice A1 n1 c1, .slice A2 n2 c2] 26)).alloc (.cells #[.slice A3 n3 c3, .slice A4 n4 c4] 26)) = W0 at *
    clear hW
    obtain ⟨k0, k1, k2, k3⟩ := HT.out
    go_region_with (first
      | (go_at_call 68; refine (rectsFault_any _ _ _ _ _ _ _ _ _ _ _ _ _ _ _ _ x1 x2 x3 x4 _ H1.out.drew H2.out.drew H3.out.drew H4.out.drew m1 m2 m3 m4).mono ?_
         rintro e W1 ⟨rfl, b1d⟩
         have b1 := below_drawn b1d
         clear b1d))
    all_goals
      go_wp2
      go_ret
      exact ⟨ret_bool HF.out.symm, B0.out.trans (b1.mono B0.out.size)⟩

end Go.Proofs.Ytfpmbkfikfdmkaa
