/- The walks of spec.Covers and impl.Covers: for every two boxes. -/
import Derived.Test.YtbonpmgbcdknbaaBoxVals
namespace Go.Proofs.Ytbonpmgbcdknbaa
open Go.RowKit

/-- Whether the second box is in the first. -/
def coversF (x1 x2 x3 x4 : List Int) : Bool := decide (rf2 x1 x2 x3 x4 = 0) && coverTo x1 x2 x3 x4 x1.length

/-- That a box is its union with another one, as the program asks it. -/
def boxCovers (p0 p1 p2 q0 q1 q2 r0 r1 r2 s0 s1 s2 : Int) : Bool := (min p0 r0 == p0) && (min p1 r1 == p1) && (min p2 r2 == p2) && ((max q0 s0 == q0) && (max q1 s1 == q1) && (max q2 s2 == q2))

theorem coverTo_box {x1 x2 x3 x4 : List Int} {n : Nat} {p0 p1 p2 q0 q1 q2 r0 r1 r2 s0 s1 s2 : Int} (h1 : Pad x1 p0 p1 p2) (h2 : Pad x2 q0 q1 q2) (h3 : Pad x3 r0 r1 r2) (h4 : Pad x4 s0 s1 s2)
    (l1 : x1.length = n) (l2 : x2.length = n) (l3 : x3.length = n) (l4 : x4.length = n) : boxCovers p0 p1 p2 q0 q1 q2 r0 r1 r2 s0 s1 s2 = coverTo x1 x2 x3 x4 n := by
  obtain ⟨a0, a1, a2, ad, az⟩ := pad_get h1
  obtain ⟨b0, b1, b2, _, bz⟩ := pad_get h2
  obtain ⟨c0, c1, c2, _, cz⟩ := pad_get h3
  obtain ⟨d0, d1, d2, _, dz⟩ := pad_get h4
  rw [Bool.eq_iff_iff]
  rcases ad with e | e
  · have hn : n = 2 := by omega
    have za := az e
    have zb := bz (by omega)
    have zc := cz (by omega)
    have zd := dz (by omega)
    rw [hn]
    simp only [boxCovers, coverTo, a0, a1, b0, b1, c0, c1, d0, d1, Bool.true_and, Bool.and_eq_true, decide_eq_true_eq, beq_iff_eq]
    omega
  · have hn : n = 3 := by omega
    rw [hn]
    simp only [boxCovers, coverTo, a0, a1, a2, b0, b1, b2, c0, c1, c2, d0, d1, d2, Bool.true_and, Bool.and_eq_true, decide_eq_true_eq, beq_iff_eq]
    omega

theorem size_of_i64 (w : World) : (sizeOf 2).run Try.prog w = .ok 1 w := by kernel_rfl
theorem size_of_corner (w : World) : (sizeOf 81).run Try.prog w = .ok 3 w := by kernel_rfl

theorem eql_corner (d : Nat) (u0 u1 u2 p0 p1 p2 : Int) (w : World) :
    (Op.equalIn (d + 2) 81 (.agg #[.int .i64 u0, .int .i64 u1, .int .i64 u2]) (.agg #[.int .i64 p0, .int .i64 p1, .int .i64 p2])).run Try.prog w = .ok ((u0 == p0) && (u1 == p1) && (u2 == p2)) w := by
  have h0 : ∀ (a b c : Int) w, (part 2 #[.int .i64 a, .int .i64 b, .int .i64 c] 0).run Try.prog w = .ok (.int .i64 a) w := fun _ _ _ _ => by kernel_rfl
  have h1 : ∀ (a b c : Int) w, (part 2 #[.int .i64 a, .int .i64 b, .int .i64 c] 1).run Try.prog w = .ok (.int .i64 b) w := fun _ _ _ _ => by kernel_rfl
  have h2 : ∀ (a b c : Int) w, (part 2 #[.int .i64 a, .int .i64 b, .int .i64 c] 2).run Try.prog w = .ok (.int .i64 c) w := fun _ _ _ _ => by kernel_rfl
  have he := fun (a b : Int) w => run_equalIn_int (P := Try.prog) w d 2 .i64 .i64 a b Try.underlying2
  rw [Op.equalIn]
  simp only [Sem.run_bind, run_underlying Try.underlying81, Result.andThen_ok, size_of_i64, Std.Legacy.Range.forIn_eq_forIn_range', Std.Legacy.Range.size]
  simp [List.range', h0, h1, h2, he]
  by_cases e0 : u0 = p0 <;> by_cases e1 : u1 = p1 <;> by_cases e2 : u2 = p2 <;> simp [e0, e1, e2]

theorem eql_box (p0 p1 p2 q0 q1 q2 u0 u1 u2 v0 v1 v2 : Int) (w : World) :
    (binOp .eql 83 (.agg #[.int .i64 u0, .int .i64 u1, .int .i64 u2, .int .i64 v0, .int .i64 v1, .int .i64 v2]) (.agg #[.int .i64 p0, .int .i64 p1, .int .i64 p2, .int .i64 q0, .int .i64 q1, .int .i64 q2])).run Try.prog w =
      .ok (.bool ((u0 == p0) && (u1 == p1) && (u2 == p2) && ((v0 == q0) && (v1 == q1) && (v2 == q2)))) w := by
  have h0 : ∀ (a b c d e f : Int) w, (part 81 #[.int .i64 a, .int .i64 b, .int .i64 c, .int .i64 d, .int .i64 e, .int .i64 f] 0).run Try.prog w = .ok (.agg #[.int .i64 a, .int .i64 b, .int .i64 c]) w := fun _ _ _ _ _ _ _ => by kernel_rfl
  have h1 : ∀ (a b c d e f : Int) w, (part 81 #[.int .i64 a, .int .i64 b, .int .i64 c, .int .i64 d, .int .i64 e, .int .i64 f] 3).run Try.prog w = .ok (.agg #[.int .i64 d, .int .i64 e, .int .i64 f]) w := fun _ _ _ _ _ _ _ => by kernel_rfl
  rw [run_eql_struct, show (10000 : Nat) = 9999 + 1 from rfl, Op.equalIn]
  simp only [Sem.run_bind, run_underlying Try.underlying83, Result.andThen_ok, size_of_corner, Std.Legacy.Range.forIn_eq_forIn_range', Std.Legacy.Range.size]
  have he := fun (u0 u1 u2 p0 p1 p2 : Int) w => eql_corner 9997 u0 u1 u2 p0 p1 p2 w
  simp only [show 9997 + 2 = 9999 from rfl] at he
  simp [List.range', h0, h1, he]
  cases h : ((u0 == p0) && (u1 == p1) && (u2 == p2)) <;> cases h' : ((v0 == q0) && (v1 == q1) && (v2 == q2)) <;> simp_all


set_option maxHeartbeats 1600000 in
theorem coversM_any (p0 p1 p2 q0 q1 q2 r0 r1 r2 s0 s1 s2 : Int) (w : World) :
    Calls Try.prog 92 #[.agg #[.int .i64 p0, .int .i64 p1, .int .i64 p2, .int .i64 q0, .int .i64 q1, .int .i64 q2], .agg #[.int .i64 r0, .int .i64 r1, .int .i64 r2, .int .i64 s0, .int .i64 s1, .int .i64 s2]] w
      fun e w' => e = .returned (.bool (boxCovers p0 p1 p2 q0 q1 q2 r0 r1 r2 s0 s1 s2)) ∧ Below w.heap.size w w' := by
  have hE := fun W => eql_box p0 p1 p2 q0 q1 q2 (min p0 r0) (min p1 r1) (min p2 r2) (max q0 s0) (max q1 s1) (max q2 s2) W
  have B := Lib.hid (Below.refl w.heap.size w)
  have L_v := Lib.hid (Lies.new w 83 #[.int .i64 p0, .int .i64 p1, .int .i64 p2, .int .i64 q0, .int .i64 q1, .int .i64 q2])
  replace B := Lib.hid (B.out.alloc B.out.size (.cells #[.int .i64 p0, .int .i64 p1, .int .i64 p2, .int .i64 q0, .int .i64 q1, .int .i64 q2] 83))
  replace L_v := Lib.hid (L_v.out.alloc (.cells #[.int .i64 r0, .int .i64 r1, .int .i64 r2, .int .i64 s0, .int .i64 s1, .int .i64 s2] 83))
  have L_u := Lib.hid (Lies.new (w.alloc (.cells #[.int .i64 p0, .int .i64 p1, .int .i64 p2, .int .i64 q0, .int .i64 q1, .int .i64 q2] 83)) 83 #[.int .i64 r0, .int .i64 r1, .int .i64 r2, .int .i64 s0, .int .i64 s1, .int .i64 s2])
  replace B := Lib.hid (B.out.alloc B.out.size (.cells #[.int .i64 r0, .int .i64 r1, .int .i64 r2, .int .i64 s0, .int .i64 s1, .int .i64 s2] 83))
  simp only [World.size_alloc] at L_u
  go_enter Try.func92, Try.ntmps92
  go_wp2
  generalize hW : ((w.alloc (.cells #[.int .i64 p0, .int .i64 p1, .int .i64 p2, .int .i64 q0, .int .i64 q1, .int .i64 q2] 83)).alloc (.cells #[.int .i64 r0, .int .i64 r1, .int .i64 r2, .int .i64 s0, .int .i64 s1, .int .i64 s2] 83)) = W0 at *
  clear hW
  have k_0 : W0.cell? ⟨w.heap.size, 0, none⟩ = some (.int .i64 p0) ∧ W0.cell? ⟨w.heap.size, 1, none⟩ = some (.int .i64 p1) ∧ W0.cell? ⟨w.heap.size, 2, none⟩ = some (.int .i64 p2) ∧ W0.cell? ⟨w.heap.size, 3, none⟩ = some (.int .i64 q0) ∧ W0.cell? ⟨w.heap.size, 4, none⟩ = some (.int .i64 q1) ∧ W0.cell? ⟨w.heap.size, 5, none⟩ = some (.int .i64 q2) ∧ W0.cell? ⟨w.heap.size + 1, 0, none⟩ = some (.int .i64 r0) ∧ W0.cell? ⟨w.heap.size + 1, 1, none⟩ = some (.int .i64 r1) ∧ W0.cell? ⟨w.heap.size + 1, 2, none⟩ = some (.int .i64 r2) ∧ W0.cell? ⟨w.heap.size + 1, 3, none⟩ = some (.int .i64 s0) ∧ W0.cell? ⟨w.heap.size + 1, 4, none⟩ = some (.int .i64 s1) ∧ W0.cell? ⟨w.heap.size + 1, 5, none⟩ = some (.int .i64 s2) := ⟨L_v.out.cell 0, L_v.out.cell 1, L_v.out.cell 2, L_v.out.cell 3, L_v.out.cell 4, L_v.out.cell 5, L_u.out.cell 0, L_u.out.cell 1, L_u.out.cell 2, L_u.out.cell 3, L_u.out.cell 4, L_u.out.cell 5⟩
  go_region_held3 (fun w' => w'.cell? ⟨w.heap.size, 0, none⟩ = some (.int .i64 p0) ∧ w'.cell? ⟨w.heap.size, 1, none⟩ = some (.int .i64 p1) ∧ w'.cell? ⟨w.heap.size, 2, none⟩ = some (.int .i64 p2) ∧ w'.cell? ⟨w.heap.size, 3, none⟩ = some (.int .i64 q0) ∧ w'.cell? ⟨w.heap.size, 4, none⟩ = some (.int .i64 q1) ∧ w'.cell? ⟨w.heap.size, 5, none⟩ = some (.int .i64 q2) ∧ w'.cell? ⟨w.heap.size + 1, 0, none⟩ = some (.int .i64 r0) ∧ w'.cell? ⟨w.heap.size + 1, 1, none⟩ = some (.int .i64 r1) ∧ w'.cell? ⟨w.heap.size + 1, 2, none⟩ = some (.int .i64 r2) ∧ w'.cell? ⟨w.heap.size + 1, 3, none⟩ = some (.int .i64 s0) ∧ w'.cell? ⟨w.heap.size + 1, 4, none⟩ = some (.int .i64 s1) ∧ w'.cell? ⟨w.heap.size + 1, 5, none⟩ = some (.int .i64 s2))
    (first | (simp [go_sem, k_0]; done) | with_reducible exact k_1)
    (first
      | (go_at_call 101; refine (union_any _ _ _ _ _ _ _ _ _ _ _ _ _).mono ?_
         rintro e W1 ⟨rfl, b1d⟩
         have b1 := below_drawn b1d
         have k_1 : W1.cell? ⟨w.heap.size, 0, none⟩ = some (.int .i64 p0) ∧ W1.cell? ⟨w.heap.size, 1, none⟩ = some (.int .i64 p1) ∧ W1.cell? ⟨w.heap.size, 2, none⟩ = some (.int .i64 p2) ∧ W1.cell? ⟨w.heap.size, 3, none⟩ = some (.int .i64 q0) ∧ W1.cell? ⟨w.heap.size, 4, none⟩ = some (.int .i64 q1) ∧ W1.cell? ⟨w.heap.size, 5, none⟩ = some (.int .i64 q2) ∧ W1.cell? ⟨w.heap.size + 1, 0, none⟩ = some (.int .i64 r0) ∧ W1.cell? ⟨w.heap.size + 1, 1, none⟩ = some (.int .i64 r1) ∧ W1.cell? ⟨w.heap.size + 1, 2, none⟩ = some (.int .i64 r2) ∧ W1.cell? ⟨w.heap.size + 1, 3, none⟩ = some (.int .i64 s0) ∧ W1.cell? ⟨w.heap.size + 1, 4, none⟩ = some (.int .i64 s1) ∧ W1.cell? ⟨w.heap.size + 1, 5, none⟩ = some (.int .i64 s2) := ⟨(L_v.out.kept b1 L_v.out.inside).cell 0, (L_v.out.kept b1 L_v.out.inside).cell 1, (L_v.out.kept b1 L_v.out.inside).cell 2, (L_v.out.kept b1 L_v.out.inside).cell 3, (L_v.out.kept b1 L_v.out.inside).cell 4, (L_v.out.kept b1 L_v.out.inside).cell 5, (L_u.out.kept b1 L_u.out.inside).cell 0, (L_u.out.kept b1 L_u.out.inside).cell 1, (L_u.out.kept b1 L_u.out.inside).cell 2, (L_u.out.kept b1 L_u.out.inside).cell 3, (L_u.out.kept b1 L_u.out.inside).cell 4, (L_u.out.kept b1 L_u.out.inside).cell 5⟩
         clear b1d))
  clear k_0 k_1
  replace L_v := Lib.hid (L_v.out.kept b1 L_v.out.inside)
  replace L_u := Lib.hid (L_u.out.kept b1 L_u.out.inside)
  replace B := Lib.hid (B.out.trans (b1.mono B.out.size))
  clear b1
  go_wp2
  go_ret
  exact ⟨ret_bool rfl, B.out⟩

theorem coversM_is (v : Bool) (p0 p1 p2 q0 q1 q2 r0 r1 r2 s0 s1 s2 : Int) (w : World) (h : boxCovers p0 p1 p2 q0 q1 q2 r0 r1 r2 s0 s1 s2 = v) :
    Calls Try.prog 92 #[.agg #[.int .i64 p0, .int .i64 p1, .int .i64 p2, .int .i64 q0, .int .i64 q1, .int .i64 q2], .agg #[.int .i64 r0, .int .i64 r1, .int .i64 r2, .int .i64 s0, .int .i64 s1, .int .i64 s2]] w
      fun e w' => e = .returned (.bool v) ∧ Below w.heap.size w w' := by
  subst h; exact coversM_any _ _ _ _ _ _ _ _ _ _ _ _ _


end Go.Proofs.Ytbonpmgbcdknbaa
