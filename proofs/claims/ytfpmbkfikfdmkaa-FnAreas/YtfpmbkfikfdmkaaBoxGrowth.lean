/- The walk of impl.box's growth: for every two boxes. -/
import Derived.Test.YtfpmbkfikfdmkaaGrowth
namespace Go.Proofs.Ytfpmbkfikfdmkaa
open Go.RowKit

theorem union_is (a0 a1 a2 a3 a4 a5 b0 b1 b2 b3 b4 b5 t0 t1 t2 t3 t4 t5 : Int) (w : World) (h : t0 = min a0 b0 ∧ t1 = min a1 b1 ∧ t2 = min a2 b2 ∧ t3 = max a3 b3 ∧ t4 = max a4 b4 ∧ t5 = max a5 b5) :
    Calls Try.prog 70 #[.agg #[.int .i64 a0, .int .i64 a1, .int .i64 a2, .int .i64 a3, .int .i64 a4, .int .i64 a5], .agg #[.int .i64 b0, .int .i64 b1, .int .i64 b2, .int .i64 b3, .int .i64 b4, .int .i64 b5]] w
      fun e w' => e = .returned (.agg #[.int .i64 t0, .int .i64 t1, .int .i64 t2, .int .i64 t3, .int .i64 t4, .int .i64 t5]) ∧ Below w.heap.size w w' := by
  obtain ⟨rfl, rfl, rfl, rfl, rfl, rfl⟩ := h
  exact union_any _ _ _ _ _ _ _ _ _ _ _ _ _
theorem area_is (U p0 p1 p2 q0 q1 q2 d : Int) (n : Nat) (xs ys : List Int) (w : World) (hp : Pad xs p0 p1 p2) (hq : Pad ys q0 q1 q2) (hr : Right xs ys n) (hd : d = n) (hU : U = areaTo xs ys n) :
    Calls Try.prog 86 #[.agg #[.int .i64 p0, .int .i64 p1, .int .i64 p2, .int .i64 q0, .int .i64 q1, .int .i64 q2], .int .i64 d] w fun e w' => e = .returned (.int .i64 U) ∧ Below w.heap.size w w' := by
  subst hU; exact area_any _ _ _ _ _ _ _ _ _ _ _ hp hq hr hd

set_option maxRecDepth 100000 in
set_option maxHeartbeats 6400000 in
theorem growth_any (p0 p1 p2 q0 q1 q2 r0 r1 r2 s0 s1 s2 d : Int) (n : Nat) (x1 x2 x3 x4 : List Int) (w : World) (hp1 : Pad x1 p0 p1 p2) (hp2 : Pad x2 q0 q1 q2) (hp3 : Pad x3 r0 r1 r2) (hp4 : Pad x4 s0 s1 s2) (hR : Right x1 x2 n) (hR' : Right x3 x4 n) (hd : d = n) :
    Calls Try.prog 82 #[.agg #[.int .i64 p0, .int .i64 p1, .int .i64 p2, .int .i64 q0, .int .i64 q1, .int .i64 q2], .agg #[.int .i64 r0, .int .i64 r1, .int .i64 r2, .int .i64 s0, .int .i64 s1, .int .i64 s2], .int .i64 d] w fun e w' => e = .returned (.int .i64 (areaTo (mins x1 x3) (maxs x2 x4) n - areaTo x1 x2 n)) ∧ Below w.heap.size w w' := by
  obtain ⟨t0, ht0⟩ : ∃ t, t = min p0 r0 := ⟨_, rfl⟩
  obtain ⟨t1, ht1⟩ : ∃ t, t = min p1 r1 := ⟨_, rfl⟩
  obtain ⟨t2, ht2⟩ : ∃ t, t = min p2 r2 := ⟨_, rfl⟩
  obtain ⟨t3, ht3⟩ : ∃ t, t = max q0 s0 := ⟨_, rfl⟩
  obtain ⟨t4, ht4⟩ : ∃ t, t = max q1 s1 := ⟨_, rfl⟩
  obtain ⟨t5, ht5⟩ : ∃ t, t = max q2 s2 := ⟨_, rfl⟩
  have pL := pad_mins (hR.len.trans hR'.len.symm) hp1 hp3
  have pH := pad_maxs (hR.len'.trans hR'.len'.symm) hp2 hp4
  rw [← ht0, ← ht1, ← ht2] at pL
  rw [← ht3, ← ht4, ← ht5] at pH
  have PL := Lib.hid pL
  have PH := Lib.hid pH
  have HX := Lib.hid (And.intro ht0 (And.intro ht1 (And.intro ht2 (And.intro ht3 (And.intro ht4 ht5)))))
  clear pL pH ht0 ht1 ht2 ht3 ht4 ht5
  have HU := Lib.hid (right_union hR hR')
  obtain ⟨u0, u1⟩ := area_small HU.out
  obtain ⟨a0, a1⟩ := area_small hR
  have P1 := Lib.hid hp1
  have P2 := Lib.hid hp2
  have HR := Lib.hid hR
  have HD := Lib.hid hd
  have HW : Hid (IntKind.i64.wrap (areaTo (mins x1 x3) (maxs x2 x4) n - areaTo x1 x2 n) = areaTo (mins x1 x3) (maxs x2 x4) n - areaTo x1 x2 n) := by show IntKind.i64.wrap _ = _; rw [IntKind.wrap_i64]; omega
  clear hp1 hp2 hp3 hp4 hR hR' hd u0 u1 a0 a1
  obtain ⟨U, hU⟩ : ∃ U, U = areaTo (mins x1 x3) (maxs x2 x4) n := ⟨_, rfl⟩
  obtain ⟨V, hV⟩ : ∃ V, V = areaTo x1 x2 n := ⟨_, rfl⟩
  rw [← hU, ← hV] at HW ⊢
  replace hU := Lib.hid hU
  replace hV := Lib.hid hV
  have B := Lib.hid (below_alloc w (.cells #[.int .i64 p0, .int .i64 p1, .int .i64 p2, .int .i64 q0, .int .i64 q1, .int .i64 q2] 94))
  have L0 := Lib.hid ((Lies.new w 94 #[.int .i64 p0, .int .i64 p1, .int .i64 p2, .int .i64 q0, .int .i64 q1, .int .i64 q2]).alloc (.cells #[.int .i64 r0, .int .i64 r1, .int .i64 r2, .int .i64 s0, .int .i64 s1, .int .i64 s2] 94))
  have L1 := Lib.hid (Lies.new (w.alloc (.cells #[.int .i64 p0, .int .i64 p1, .int .i64 p2, .int .i64 q0, .int .i64 q1, .int .i64 q2] 94)) 94 #[.int .i64 r0, .int .i64 r1, .int .i64 r2, .int .i64 s0, .int .i64 s1, .int .i64 s2])
  replace B := Lib.hid (B.out.alloc B.out.size (.cells #[.int .i64 r0, .int .i64 r1, .int .i64 r2, .int .i64 s0, .int .i64 s1, .int .i64 s2] 94))
  simp only [World.size_alloc] at L1
  go_enter Try.func82, Try.ntmps82
  go_wp2
  generalize hW : ((w.alloc (.cells #[.int .i64 p0, .int .i64 p1, .int .i64 p2, .int .i64 q0, .int .i64 q1, .int .i64 q2] 94)).alloc (.cells #[.int .i64 r0, .int .i64 r1, .int .i64 r2, .int .i64 s0, .int .i64 s1, .int .i64 s2] 94)) = W0 at *
  clear hW
  have k_0 : W0.cell? ⟨w.heap.size, 0, none⟩ = some (.int .i64 p0) ∧ W0.cell? ⟨w.heap.size, 1, none⟩ = some (.int .i64 p1) ∧ W0.cell? ⟨w.heap.size, 2, none⟩ = some (.int .i64 p2) ∧ W0.cell? ⟨w.heap.size, 3, none⟩ = some (.int .i64 q0) ∧ W0.cell? ⟨w.heap.size, 4, none⟩ = some (.int .i64 q1) ∧ W0.cell? ⟨w.heap.size, 5, none⟩ = some (.int .i64 q2) ∧ W0.cell? ⟨w.heap.size + 1, 0, none⟩ = some (.int .i64 r0) ∧ W0.cell? ⟨w.heap.size + 1, 1, none⟩ = some (.int .i64 r1) ∧ W0.cell? ⟨w.heap.size + 1, 2, none⟩ = some (.int .i64 r2) ∧ W0.cell? ⟨w.heap.size + 1, 3, none⟩ = some (.int .i64 s0) ∧ W0.cell? ⟨w.heap.size + 1, 4, none⟩ = some (.int .i64 s1) ∧ W0.cell? ⟨w.heap.size + 1, 5, none⟩ = some (.int .i64 s2) := ⟨L0.out.cell 0, L0.out.cell 1, L0.out.cell 2, L0.out.cell 3, L0.out.cell 4, L0.out.cell 5, L1.out.cell 0, L1.out.cell 1, L1.out.cell 2, L1.out.cell 3, L1.out.cell 4, L1.out.cell 5⟩
  go_region_held3 (fun w' => w'.cell? ⟨w.heap.size, 0, none⟩ = some (.int .i64 p0) ∧ w'.cell? ⟨w.heap.size, 1, none⟩ = some (.int .i64 p1) ∧ w'.cell? ⟨w.heap.size, 2, none⟩ = some (.int .i64 p2) ∧ w'.cell? ⟨w.heap.size, 3, none⟩ = some (.int .i64 q0) ∧ w'.cell? ⟨w.heap.size, 4, none⟩ = some (.int .i64 q1) ∧ w'.cell? ⟨w.heap.size, 5, none⟩ = some (.int .i64 q2) ∧ w'.cell? ⟨w.heap.size + 1, 0, none⟩ = some (.int .i64 r0) ∧ w'.cell? ⟨w.heap.size + 1, 1, none⟩ = some (.int .i64 r1) ∧ w'.cell? ⟨w.heap.size + 1, 2, none⟩ = some (.int .i64 r2) ∧ w'.cell? ⟨w.heap.size + 1, 3, none⟩ = some (.int .i64 s0) ∧ w'.cell? ⟨w.heap.size + 1, 4, none⟩ = some (.int .i64 s1) ∧ w'.cell? ⟨w.heap.size + 1, 5, none⟩ = some (.int .i64 s2))
    (first | (simp [go_sem, k_0]; done) | with_reducible exact k_1 | with_reducible exact k_2 | with_reducible exact k_3 | (simp [go_sem, k_1]; done) | (simp [go_sem, k_2]; done) | (simp [go_sem, k_3]; done))
    (first
      | (go_at_call 70; refine (union_is _ _ _ _ _ _ _ _ _ _ _ _ t0 t1 t2 t3 t4 t5 _ HX.out).mono ?_
         rintro e W1 ⟨rfl, b1d⟩
         have b1 := below_drawn b1d
         have k_1 : W1.cell? ⟨w.heap.size, 0, none⟩ = some (.int .i64 p0) ∧ W1.cell? ⟨w.heap.size, 1, none⟩ = some (.int .i64 p1) ∧ W1.cell? ⟨w.heap.size, 2, none⟩ = some (.int .i64 p2) ∧ W1.cell? ⟨w.heap.size, 3, none⟩ = some (.int .i64 q0) ∧ W1.cell? ⟨w.heap.size, 4, none⟩ = some (.int .i64 q1) ∧ W1.cell? ⟨w.heap.size, 5, none⟩ = some (.int .i64 q2) ∧ W1.cell? ⟨w.heap.size + 1, 0, none⟩ = some (.int .i64 r0) ∧ W1.cell? ⟨w.heap.size + 1, 1, none⟩ = some (.int .i64 r1) ∧ W1.cell? ⟨w.heap.size + 1, 2, none⟩ = some (.int .i64 r2) ∧ W1.cell? ⟨w.heap.size + 1, 3, none⟩ = some (.int .i64 s0) ∧ W1.cell? ⟨w.heap.size + 1, 4, none⟩ = some (.int .i64 s1) ∧ W1.cell? ⟨w.heap.size + 1, 5, none⟩ = some (.int .i64 s2) := ⟨(L0.out.kept b1 L0.out.inside).cell 0, (L0.out.kept b1 L0.out.inside).cell 1, (L0.out.kept b1 L0.out.inside).cell 2, (L0.out.kept b1 L0.out.inside).cell 3, (L0.out.kept b1 L0.out.inside).cell 4, (L0.out.kept b1 L0.out.inside).cell 5, (L1.out.kept b1 L1.out.inside).cell 0, (L1.out.kept b1 L1.out.inside).cell 1, (L1.out.kept b1 L1.out.inside).cell 2, (L1.out.kept b1 L1.out.inside).cell 3, (L1.out.kept b1 L1.out.inside).cell 4, (L1.out.kept b1 L1.out.inside).cell 5⟩
         clear b1d)
      | (go_at_call_of 86 (Value.agg #[.int .i64 t0, .int .i64 t1, .int .i64 t2, .int .i64 t3, .int .i64 t4, .int .i64 t5]); refine (area_is U _ _ _ _ _ _ _ _ _ _ _ PL.out PH.out HU.out HD.out hU.out).mono ?_
         rintro e W2 ⟨rfl, b2⟩
         have k_2 : W2.cell? ⟨w.heap.size, 0, none⟩ = some (.int .i64 p0) ∧ W2.cell? ⟨w.heap.size, 1, none⟩ = some (.int .i64 p1) ∧ W2.cell? ⟨w.heap.size, 2, none⟩ = some (.int .i64 p2) ∧ W2.cell? ⟨w.heap.size, 3, none⟩ = some (.int .i64 q0) ∧ W2.cell? ⟨w.heap.size, 4, none⟩ = some (.int .i64 q1) ∧ W2.cell? ⟨w.heap.size, 5, none⟩ = some (.int .i64 q2) ∧ W2.cell? ⟨w.heap.size + 1, 0, none⟩ = some (.int .i64 r0) ∧ W2.cell? ⟨w.heap.size + 1, 1, none⟩ = some (.int .i64 r1) ∧ W2.cell? ⟨w.heap.size + 1, 2, none⟩ = some (.int .i64 r2) ∧ W2.cell? ⟨w.heap.size + 1, 3, none⟩ = some (.int .i64 s0) ∧ W2.cell? ⟨w.heap.size + 1, 4, none⟩ = some (.int .i64 s1) ∧ W2.cell? ⟨w.heap.size + 1, 5, none⟩ = some (.int .i64 s2) := ⟨((L0.out.kept b1 L0.out.inside).kept b2 (L0.out.kept b1 L0.out.inside).inside).cell 0, ((L0.out.kept b1 L0.out.inside).kept b2 (L0.out.kept b1 L0.out.inside).inside).cell 1, ((L0.out.kept b1 L0.out.inside).kept b2 (L0.out.kept b1 L0.out.inside).inside).cell 2, ((L0.out.kept b1 L0.out.inside).kept b2 (L0.out.kept b1 L0.out.inside).inside).cell 3, ((L0.out.kept b1 L0.out.inside).kept b2 (L0.out.kept b1 L0.out.inside).inside).cell 4, ((L0.out.kept b1 L0.out.inside).kept b2 (L0.out.kept b1 L0.out.inside).inside).cell 5, ((L1.out.kept b1 L1.out.inside).kept b2 (L1.out.kept b1 L1.out.inside).inside).cell 0, ((L1.out.kept b1 L1.out.inside).kept b2 (L1.out.kept b1 L1.out.inside).inside).cell 1, ((L1.out.kept b1 L1.out.inside).kept b2 (L1.out.kept b1 L1.out.inside).inside).cell 2, ((L1.out.kept b1 L1.out.inside).kept b2 (L1.out.kept b1 L1.out.inside).inside).cell 3, ((L1.out.kept b1 L1.out.inside).kept b2 (L1.out.kept b1 L1.out.inside).inside).cell 4, ((L1.out.kept b1 L1.out.inside).kept b2 (L1.out.kept b1 L1.out.inside).inside).cell 5⟩)
      | (go_at_call_of 86 (Value.agg #[.int .i64 p0, .int .i64 p1, .int .i64 p2, .int .i64 q0, .int .i64 q1, .int .i64 q2]); refine (area_is V _ _ _ _ _ _ _ _ _ _ _ P1.out P2.out HR.out HD.out hV.out).mono ?_
         rintro e W3 ⟨rfl, b3⟩
         have k_3 : W3.cell? ⟨w.heap.size, 0, none⟩ = some (.int .i64 p0) ∧ W3.cell? ⟨w.heap.size, 1, none⟩ = some (.int .i64 p1) ∧ W3.cell? ⟨w.heap.size, 2, none⟩ = some (.int .i64 p2) ∧ W3.cell? ⟨w.heap.size, 3, none⟩ = some (.int .i64 q0) ∧ W3.cell? ⟨w.heap.size, 4, none⟩ = some (.int .i64 q1) ∧ W3.cell? ⟨w.heap.size, 5, none⟩ = some (.int .i64 q2) ∧ W3.cell? ⟨w.heap.size + 1, 0, none⟩ = some (.int .i64 r0) ∧ W3.cell? ⟨w.heap.size + 1, 1, none⟩ = some (.int .i64 r1) ∧ W3.cell? ⟨w.heap.size + 1, 2, none⟩ = some (.int .i64 r2) ∧ W3.cell? ⟨w.heap.size + 1, 3, none⟩ = some (.int .i64 s0) ∧ W3.cell? ⟨w.heap.size + 1, 4, none⟩ = some (.int .i64 s1) ∧ W3.cell? ⟨w.heap.size + 1, 5, none⟩ = some (.int .i64 s2) := ⟨(((L0.out.kept b1 L0.out.inside).kept b2 (L0.out.kept b1 L0.out.inside).inside).kept b3 ((L0.out.kept b1 L0.out.inside).kept b2 (L0.out.kept b1 L0.out.inside).inside).inside).cell 0, (((L0.out.kept b1 L0.out.inside).kept b2 (L0.out.kept b1 L0.out.inside).inside).kept b3 ((L0.out.kept b1 L0.out.inside).kept b2 (L0.out.kept b1 L0.out.inside).inside).inside).cell 1, (((L0.out.kept b1 L0.out.inside).kept b2 (L0.out.kept b1 L0.out.inside).inside).kept b3 ((L0.out.kept b1 L0.out.inside).kept b2 (L0.out.kept b1 L0.out.inside).inside).inside).cell 2, (((L0.out.kept b1 L0.out.inside).kept b2 (L0.out.kept b1 L0.out.inside).inside).kept b3 ((L0.out.kept b1 L0.out.inside).kept b2 (L0.out.kept b1 L0.out.inside).inside).inside).cell 3, (((L0.out.kept b1 L0.out.inside).kept b2 (L0.out.kept b1 L0.out.inside).inside).kept b3 ((L0.out.kept b1 L0.out.inside).kept b2 (L0.out.kept b1 L0.out.inside).inside).inside).cell 4, (((L0.out.kept b1 L0.out.inside).kept b2 (L0.out.kept b1 L0.out.inside).inside).kept b3 ((L0.out.kept b1 L0.out.inside).kept b2 (L0.out.kept b1 L0.out.inside).inside).inside).cell 5, (((L1.out.kept b1 L1.out.inside).kept b2 (L1.out.kept b1 L1.out.inside).inside).kept b3 ((L1.out.kept b1 L1.out.inside).kept b2 (L1.out.kept b1 L1.out.inside).inside).inside).cell 0, (((L1.out.kept b1 L1.out.inside).kept b2 (L1.out.kept b1 L1.out.inside).inside).kept b3 ((L1.out.kept b1 L1.out.inside).kept b2 (L1.out.kept b1 L1.out.inside).inside).inside).cell 1, (((L1.out.kept b1 L1.out.inside).kept b2 (L1.out.kept b1 L1.out.inside).inside).kept b3 ((L1.out.kept b1 L1.out.inside).kept b2 (L1.out.kept b1 L1.out.inside).inside).inside).cell 2, (((L1.out.kept b1 L1.out.inside).kept b2 (L1.out.kept b1 L1.out.inside).inside).kept b3 ((L1.out.kept b1 L1.out.inside).kept b2 (L1.out.kept b1 L1.out.inside).inside).inside).cell 3, (((L1.out.kept b1 L1.out.inside).kept b2 (L1.out.kept b1 L1.out.inside).inside).kept b3 ((L1.out.kept b1 L1.out.inside).kept b2 (L1.out.kept b1 L1.out.inside).inside).inside).cell 4, (((L1.out.kept b1 L1.out.inside).kept b2 (L1.out.kept b1 L1.out.inside).inside).kept b3 ((L1.out.kept b1 L1.out.inside).kept b2 (L1.out.kept b1 L1.out.inside).inside).inside).cell 5⟩))
  clear k_0 k_1 k_2 k_3
  replace B := Lib.hid (B.out.trans (b1.mono B.out.size))
  replace B := Lib.hid (B.out.trans (b2.mono B.out.size))
  replace B := Lib.hid (B.out.trans (b3.mono B.out.size))
  go_wp2
  go_ret
  exact ⟨ret_i64 HW.out, B.out⟩

end Go.Proofs.Ytfpmbkfikfdmkaa
