/- The walk of impl.GrowthOf: for every two boxes. -/
import Derived.Test.YtbonpmgbcdknbabGrowth
namespace Go.Proofs.Ytbonpmgbcdknbab
open Go.RowKit

theorem union_is (a0 a1 a2 a3 a4 a5 b0 b1 b2 b3 b4 b5 t0 t1 t2 t3 t4 t5 : Int) (w : World) (h : t0 = min a0 b0 ∧ t1 = min a1 b1 ∧ t2 = min a2 b2 ∧ t3 = max a3 b3 ∧ t4 = max a4 b4 ∧ t5 = max a5 b5) :
    Calls Try.prog 60 #[.agg #[.int .i64 a0, .int .i64 a1, .int .i64 a2, .int .i64 a3, .int .i64 a4, .int .i64 a5], .agg #[.int .i64 b0, .int .i64 b1, .int .i64 b2, .int .i64 b3, .int .i64 b4, .int .i64 b5]] w
      fun e w' => e = .returned (.agg #[.int .i64 t0, .int .i64 t1, .int .i64 t2, .int .i64 t3, .int .i64 t4, .int .i64 t5]) ∧ Below w.heap.size w w' := by
  obtain ⟨rfl, rfl, rfl, rfl, rfl, rfl⟩ := h
  exact union_any _ _ _ _ _ _ _ _ _ _ _ _ _
theorem area_is (U p0 p1 p2 q0 q1 q2 d : Int) (n : Nat) (xs ys : List Int) (w : World) (hp : Pad xs p0 p1 p2) (hq : Pad ys q0 q1 q2) (hr : Right xs ys n) (hd : d = n) (hU : U = areaTo xs ys n) :
    Calls Try.prog 67 #[.agg #[.int .i64 p0, .int .i64 p1, .int .i64 p2, .int .i64 q0, .int .i64 q1, .int .i64 q2], .int .i64 d] w fun e w' => e = .returned (.int .i64 U) ∧ Below w.heap.size w w' := by
  subst hU; exact area_any _ _ _ _ _ _ _ _ _ _ _ hp hq hr hd

set_option maxRecDepth 100000 in
set_option maxHeartbeats 16000000 in
theorem implGrowthOf_any (n1 c1 n2 c2 n3 c3 n4 c4 lo1 lo2 lo3 lo4 : Nat) (A1 A2 A3 A4 : Option Addr) (x1 x2 x3 x4 : List Int) (w : World)
    (h1 : Ints w lo1 A1 n1 x1) (h2 : Ints w lo2 A2 n2 x2) (h3 : Ints w lo3 A3 n3 x3) (h4 : Ints w lo4 A4 n4 x4) (m1 : n1 ≤ maxLen) (m2 : n2 ≤ maxLen) (m3 : n3 ≤ maxLen) (m4 : n4 ≤ maxLen) :
    Calls Try.prog 20 #[.agg #[.slice A1 n1 c1, .slice A2 n2 c2], .agg #[.slice A3 n3 c3, .slice A4 n4 c4]] w fun e w' => e = .returned (.agg #[.int .i64 (growF x1 x2 x3 x4).1, .int .i64 (growF x1 x2 x3 x4).2]) ∧ Below w.heap.size w w' := by
  have I_1 := Lib.hid h1
  have I_2 := Lib.hid h2
  have I_3 := Lib.hid h3
  have I_4 := Lib.hid h4
  have HL := Lib.hid h1.1
  clear h1 h2 h3 h4
  have B := Lib.hid (Below.refl w.heap.size w)
  have L_a := Lib.hid (Lies.new w 26 #[.slice A1 n1 c1, .slice A2 n2 c2])
  replace B := Lib.hid (B.out.alloc B.out.size (.cells #[.slice A1 n1 c1, .slice A2 n2 c2] 26))
  replace L_a := Lib.hid (L_a.out.alloc (.cells #[.slice A3 n3 c3, .slice A4 n4 c4] 26))
  have L_b := Lib.hid (Lies.new (w.alloc (.cells #[.slice A1 n1 c1, .slice A2 n2 c2] 26)) 26 #[.slice A3 n3 c3, .slice A4 n4 c4])
  replace B := Lib.hid (B.out.alloc B.out.size (.cells #[.slice A3 n3 c3, .slice A4 n4 c4] 26))
  replace L_a := Lib.hid (L_a.out.alloc (.cells #[.int .i64 0, .int .i64 0] 37))
  replace L_b := Lib.hid (L_b.out.alloc (.cells #[.int .i64 0, .int .i64 0] 37))
  have L_r := Lib.hid (Lies.new ((w.alloc (.cells #[.slice A1 n1 c1, .slice A2 n2 c2] 26)).alloc (.cells #[.slice A3 n3 c3, .slice A4 n4 c4] 26)) 37 #[.int .i64 0, .int .i64 0])
  replace B := Lib.hid (B.out.alloc B.out.size (.cells #[.int .i64 0, .int .i64 0] 37))
  simp only [World.size_alloc] at L_b
  simp only [World.size_alloc] at L_r
  by_cases hr : rf2 x1 x2 x3 x4 = 0
  · obtain ⟨hR, hR'⟩ := right_of_rf2 hr
    obtain ⟨p0, p1, p2, hp1⟩ := pad_of (xs := x1) hR.dim
    obtain ⟨q0, q1, q2, hp2⟩ := pad_of (xs := x2) (by rw [hR.len']; exact hR.dim)
    obtain ⟨r0, r1, r2, hp3⟩ := pad_of (xs := x3) (by rw [hR'.len]; exact hR'.dim)
    obtain ⟨s0, s1, s2, hp4⟩ := pad_of (xs := x4) (by rw [hR'.len']; exact hR'.dim)
    obtain ⟨t0, ht0⟩ : ∃ t, t = min p0 r0 := ⟨_, rfl⟩
    obtain ⟨t1, ht1⟩ : ∃ t, t = min p1 r1 := ⟨_, rfl⟩
    obtain ⟨t2, ht2⟩ : ∃ t, t = min p2 r2 := ⟨_, rfl⟩
    obtain ⟨t3, ht3⟩ : ∃ t, t = max q0 s0 := ⟨_, rfl⟩
    obtain ⟨t4, ht4⟩ : ∃ t, t = max q1 s1 := ⟨_, rfl⟩
    obtain ⟨t5, ht5⟩ : ∃ t, t = max q2 s2 := ⟨_, rfl⟩
    have pL := pad_mins (hR'.len.symm) hp1 hp3
    have pH := pad_maxs (hR.len'.trans hR'.len'.symm) hp2 hp4
    rw [← ht0, ← ht1, ← ht2] at pL
    rw [← ht3, ← ht4, ← ht5] at pH
    have PL := Lib.hid pL
    have PH := Lib.hid pH
    have HX := Lib.hid (And.intro ht0 (And.intro ht1 (And.intro ht2 (And.intro ht3 (And.intro ht4 ht5)))))
    clear pL pH ht0 ht1 ht2 ht3 ht4 ht5
    have HU := Lib.hid (right_union hR hR')
    obtain ⟨u0, u1⟩ := area_small HU.out
    obtain ⟨a0, a1⟩ := area_small hR
    have HF : Hid (growF x1 x2 x3 x4 = (0, areaTo (mins x1 x3) (maxs x2 x4) x1.length - areaTo x1 x2 x1.length)) := by show growF x1 x2 x3 x4 = _; simp [growF, hr]
    have P1 := Lib.hid hp1
    clear hp1
    have P2 := Lib.hid hp2
    clear hp2
    have P3 := Lib.hid hp3
    clear hp3
    have P4 := Lib.hid hp4
    clear hp4
    have hq : (rf2 x1 x2 x3 x4 != 0) = false := by simp [hr]
    have HR := Lib.hid hR
    clear hr hR hR'
    have HW : Hid (IntKind.i64.wrap (areaTo (mins x1 x3) (maxs x2 x4) x1.length - areaTo x1 x2 x1.length) = areaTo (mins x1 x3) (maxs x2 x4) x1.length - areaTo x1 x2 x1.length) := by show IntKind.i64.wrap _ = _; rw [IntKind.wrap_i64]; omega
    clear u0 u1 a0 a1
    obtain ⟨U, hU⟩ : ∃ U, U = areaTo (mins x1 x3) (maxs x2 x4) x1.length := ⟨_, rfl⟩
    obtain ⟨V, hV⟩ : ∃ V, V = areaTo x1 x2 x1.length := ⟨_, rfl⟩
    rw [← hU, ← hV] at HW HF
    replace hU := Lib.hid hU
    replace hV := Lib.hid hV
    go_enter Try.func20, Try.ntmps20
    go_wp2_with fail
    refine (rectsFault_any _ _ _ _ _ _ _ _ _ _ _ _ _ _ _ _ x1 x2 x3 x4 _ (I_1.out.kept B.out) (I_2.out.kept B.out) (I_3.out.kept B.out) (I_4.out.kept B.out) m1 m2 m3 m4).mono ?_
    rintro e W1 ⟨rfl, b1⟩
    replace L_a := Lib.hid (L_a.out.kept b1 L_a.out.inside)
    replace L_b := Lib.hid (L_b.out.kept b1 L_b.out.inside)
    replace L_r := Lib.hid (L_r.out.kept b1 L_r.out.inside)
    replace B := Lib.hid (B.out.trans (b1.mono B.out.size))
    clear b1
    go_upto_region 4 with fail
    go_cut [6, 7] (fun s6 s7 wx => ∃ n_v : Nat, s6 = .pointer (some ⟨n_v, 0, none⟩) ∧ s7 = .int .i64 n1 ∧ Hid (Lies wx n_v 72 #[.int .i64 p0, .int .i64 p1, .int .i64 p2, .int .i64 q0, .int .i64 q1, .int .i64 q2]) ∧ W1.heap.size ≤ n_v ∧ Hid (Since W1 wx))
    case first =>
      have c_a0 : W1.cell? ⟨w.heap.size, 0, none⟩ = some (.slice A1 n1 c1) := L_a.out.cell 0
      have c_a1 : W1.cell? ⟨w.heap.size, 1, none⟩ = some (.slice A2 n2 c2) := L_a.out.cell 1
      have i_a := L_a.out.inside
      have l_a := Nat.le_of_lt i_a
      have zd := size_of_drew
      go_region_held3 (fun w' => w'.cell? ⟨w.heap.size, 0, none⟩ = some (.slice A1 n1 c1) ∧ w'.cell? ⟨w.heap.size, 1, none⟩ = some (.slice A2 n2 c2))
        (exact ⟨Lies.cell (t := 26) (cs := #[.slice A1 n1 c1, .slice A2 n2 c2]) (by with_reducible (repeat (first | refine Lies.far ?_ ?_ _ | refine Lies.alloc ?_ _ | refine Lies.drew ?_ | refine Lies.call ?_ b3 | refine Lies.call ?_ b2 | exact L_a.out)); all_goals (simp only [size_of_drew, size_of_setCell, World.size_alloc]; omega)) 0, Lies.cell (t := 26) (cs := #[.slice A1 n1 c1, .slice A2 n2 c2]) (by with_reducible (repeat (first | refine Lies.far ?_ ?_ _ | refine Lies.alloc ?_ _ | refine Lies.drew ?_ | refine Lies.call ?_ b3 | refine Lies.call ?_ b2 | exact L_a.out)); all_goals (simp only [size_of_drew, size_of_setCell, World.size_alloc]; omega)) 1⟩)
        (first
          | (go_at_call_of 59 (Value.agg #[.slice A1 n1 c1, .slice A2 n2 c2]); refine (boxFrom_any _ _ _ _ _ _ _ _ x1 x2 _ _ _ _ _ _ _ P1.out P2.out (I_1.out.kept (by with_reducible (repeat (first | refine Since.below ?_ | refine Since.drew ?_ | refine Since.alloc ?_ _ | exact Since.of B.out)))) (I_2.out.kept (by with_reducible (repeat (first | refine Since.below ?_ | refine Since.drew ?_ | refine Since.alloc ?_ _ | exact Since.of B.out))))).mono ?_
             rintro e W2 ⟨rfl, b2⟩
             have q_W2 := cells_kept b2
             have u_W2 := frozen_kept b2
             have z_W2 := sizes_kept b2
             try simp only [size_of_drew, World.size_alloc] at z_W2
             have le_W1_W2 : W1.heap.size ≤ W2.heap.size := by omega
             try (have lt_W1_W2 : W1.heap.size < W2.heap.size := by omega))
          | (go_at_call 62; refine (dimsOf_any _ _ _ _ _ _ _).mono ?_
             rintro e W3 ⟨rfl, b3⟩
             have q_W3 := cells_kept b3
             have u_W3 := frozen_kept b3
             have z_W3 := sizes_kept b3
             try simp only [size_of_drew, World.size_alloc] at z_W3
             have le_W1_W3 : W1.heap.size ≤ W3.heap.size := by omega
             try (have lt_W1_W3 : W1.heap.size < W3.heap.size := by omega)
             have le_W2_W3 : W2.heap.size ≤ W3.heap.size := by omega
             try (have lt_W2_W3 : W2.heap.size < W3.heap.size := by omega)))
      all_goals
        rename_i hH
        clear hH zd q_W2 u_W2 q_W3 u_W3 c_a0 c_a1
        go_wp2_with fail
        go_meet
        refine ⟨_, rfl, rfl, ?_, ?_, ?_⟩
        · refine Lib.hid ?_
          first
            | (refine Lies.as (cs := ((((((#[.int .i64 0, .int .i64 0, .int .i64 0, .int .i64 0, .int .i64 0, .int .i64 0].setIfInBounds 0 (.int .i64 p0)).setIfInBounds 1 (.int .i64 p1)).setIfInBounds 2 (.int .i64 p2)).setIfInBounds 3 (.int .i64 q0)).setIfInBounds 4 (.int .i64 q1)).setIfInBounds 5 (.int .i64 q2))) ?_ (by simp)
               with_reducible (repeat (first | refine Lies.set ?_ _ _ | refine Lies.far ?_ ?_ _ | (refine Lies.laid ?_; (simp only [size_of_drew, size_of_setCell, World.size_alloc]; done)) | exact Lies.new _ _ _ | exact Lies.laid2 _ _ _ _ | refine Lies.alloc ?_ _ | refine Lies.drew ?_ | refine Lies.call ?_ b3 | refine Lies.call ?_ b2))
               all_goals first | exact Nat.ne_of_lt (Nat.lt_succ_self _) | exact Nat.ne_of_gt (Nat.lt_succ_self _) | exact Nat.ne_of_lt lt_W1_W2 | exact Nat.ne_of_gt lt_W1_W2 | exact Nat.ne_of_lt lt_W1_W3 | exact Nat.ne_of_gt lt_W1_W3 | exact Nat.ne_of_lt lt_W2_W3 | exact Nat.ne_of_gt lt_W2_W3 | (show ¬ _ = _; (try simp only [size_of_drew, size_of_setCell, World.size_alloc]); omega)
               done)
            | (with_reducible (repeat (first | refine Lies.far ?_ ?_ _ | (refine Lies.laid ?_; (simp only [size_of_drew, size_of_setCell, World.size_alloc]; done)) | exact Lies.new _ _ _ | exact Lies.laid2 _ _ _ _ | refine Lies.alloc ?_ _ | refine Lies.drew ?_ | refine Lies.call ?_ b3 | refine Lies.call ?_ b2))
               all_goals first | exact Nat.ne_of_lt (Nat.lt_succ_self _) | exact Nat.ne_of_gt (Nat.lt_succ_self _) | exact Nat.ne_of_lt lt_W1_W2 | exact Nat.ne_of_gt lt_W1_W2 | exact Nat.ne_of_lt lt_W1_W3 | exact Nat.ne_of_gt lt_W1_W3 | exact Nat.ne_of_lt lt_W2_W3 | exact Nat.ne_of_gt lt_W2_W3 | (show ¬ _ = _; (try simp only [size_of_drew, size_of_setCell, World.size_alloc]); omega)
               done)
        · first | exact Nat.le_refl _ | exact Nat.le_succ _ | exact le_W1_W2 | exact Nat.le_succ_of_le le_W1_W2 | exact le_W1_W3 | exact Nat.le_succ_of_le le_W1_W3 | omega
        · refine Lib.hid ?_
          with_reducible (repeat (first | refine Since.setCell ?_ ?_ _ | refine Since.alloc ?_ _ | refine Since.drew ?_ | refine Since.call ?_ b3 | refine Since.call ?_ b2))
          · exact Since.of (Below.refl _ _)
          all_goals first | exact Nat.le_refl _ | exact Nat.le_succ _ | exact le_W1_W2 | exact Nat.le_succ_of_le le_W1_W2 | exact le_W1_W3 | exact Nat.le_succ_of_le le_W1_W3 | (show _ ≤ _; (try simp only [size_of_drew, size_of_setCell, World.size_alloc]); omega)
    case' rest =>
      obtain ⟨n_v, rfl, rfl, L_v, g_v, S⟩ := hcut
      have bS := S.out.below
      clear S
    have d_v_a : ¬ n_v = w.heap.size := by have := L_a.out.inside; omega
    have e_v_a : ¬ w.heap.size = n_v := fun e => d_v_a e.symm
    have d_v_b : ¬ n_v = w.heap.size + 1 := by have := L_b.out.inside; omega
    have e_v_b : ¬ w.heap.size + 1 = n_v := fun e => d_v_b e.symm
    have d_v_r : ¬ n_v = w.heap.size + 1 + 1 := by have := L_r.out.inside; omega
    have e_v_r : ¬ w.heap.size + 1 + 1 = n_v := fun e => d_v_r e.symm
    clear g_v
    replace L_a := Lib.hid (L_a.out.kept bS L_a.out.inside)
    replace L_b := Lib.hid (L_b.out.kept bS L_b.out.inside)
    replace L_r := Lib.hid (L_r.out.kept bS L_r.out.inside)
    replace B := Lib.hid (B.out.trans (bS.mono B.out.size))
    clear bS
    go_wp2
    have k_0 : wc.cell? ⟨n_v, 0, none⟩ = some (.int .i64 p0) ∧ wc.cell? ⟨n_v, 1, none⟩ = some (.int .i64 p1) ∧ wc.cell? ⟨n_v, 2, none⟩ = some (.int .i64 p2) ∧ wc.cell? ⟨n_v, 3, none⟩ = some (.int .i64 q0) ∧ wc.cell? ⟨n_v, 4, none⟩ = some (.int .i64 q1) ∧ wc.cell? ⟨n_v, 5, none⟩ = some (.int .i64 q2) ∧ wc.cell? ⟨w.heap.size + 1, 0, none⟩ = some (.slice A3 n3 c3) ∧ wc.cell? ⟨w.heap.size + 1, 1, none⟩ = some (.slice A4 n4 c4) := ⟨L_v.out.cell 0, L_v.out.cell 1, L_v.out.cell 2, L_v.out.cell 3, L_v.out.cell 4, L_v.out.cell 5, L_b.out.cell 0, L_b.out.cell 1⟩
    go_region_held3 (fun w' => w'.cell? ⟨n_v, 0, none⟩ = some (.int .i64 p0) ∧ w'.cell? ⟨n_v, 1, none⟩ = some (.int .i64 p1) ∧ w'.cell? ⟨n_v, 2, none⟩ = some (.int .i64 p2) ∧ w'.cell? ⟨n_v, 3, none⟩ = some (.int .i64 q0) ∧ w'.cell? ⟨n_v, 4, none⟩ = some (.int .i64 q1) ∧ w'.cell? ⟨n_v, 5, none⟩ = some (.int .i64 q2) ∧ w'.cell? ⟨w.heap.size + 1, 0, none⟩ = some (.slice A3 n3 c3) ∧ w'.cell? ⟨w.heap.size + 1, 1, none⟩ = some (.slice A4 n4 c4))
      (first | (simp [go_sem, k_0]; done) | with_reducible exact k_1 | with_reducible exact k_2 | with_reducible exact k_3 | with_reducible exact k_4 | (simp [go_sem, k_4, d_v_r, e_v_r]; done))
      (first
        | (go_at_call_of 59 (Value.agg #[.slice A3 n3 c3, .slice A4 n4 c4]); refine (boxFrom_any _ _ _ _ _ _ _ _ x3 x4 _ _ _ _ _ _ _ P3.out P4.out (I_3.out.kept B.out.drew) (I_4.out.kept B.out.drew)).mono ?_
           rintro e W4 ⟨rfl, b4d⟩
           have b4 := below_drawn b4d
           have k_1 : W4.cell? ⟨n_v, 0, none⟩ = some (.int .i64 p0) ∧ W4.cell? ⟨n_v, 1, none⟩ = some (.int .i64 p1) ∧ W4.cell? ⟨n_v, 2, none⟩ = some (.int .i64 p2) ∧ W4.cell? ⟨n_v, 3, none⟩ = some (.int .i64 q0) ∧ W4.cell? ⟨n_v, 4, none⟩ = some (.int .i64 q1) ∧ W4.cell? ⟨n_v, 5, none⟩ = some (.int .i64 q2) ∧ W4.cell? ⟨w.heap.size + 1, 0, none⟩ = some (.slice A3 n3 c3) ∧ W4.cell? ⟨w.heap.size + 1, 1, none⟩ = some (.slice A4 n4 c4) := ⟨(L_v.out.kept b4 L_v.out.inside).cell 0, (L_v.out.kept b4 L_v.out.inside).cell 1, (L_v.out.kept b4 L_v.out.inside).cell 2, (L_v.out.kept b4 L_v.out.inside).cell 3, (L_v.out.kept b4 L_v.out.inside).cell 4, (L_v.out.kept b4 L_v.out.inside).cell 5, (L_b.out.kept b4 L_b.out.inside).cell 0, (L_b.out.kept b4 L_b.out.inside).cell 1⟩
           clear b4d)
        | (go_at_call 60; refine (union_is _ _ _ _ _ _ _ _ _ _ _ _ t0 t1 t2 t3 t4 t5 _ HX.out).mono ?_
           rintro e W5 ⟨rfl, b5⟩
           have k_2 : W5.cell? ⟨n_v, 0, none⟩ = some (.int .i64 p0) ∧ W5.cell? ⟨n_v, 1, none⟩ = some (.int .i64 p1) ∧ W5.cell? ⟨n_v, 2, none⟩ = some (.int .i64 p2) ∧ W5.cell? ⟨n_v, 3, none⟩ = some (.int .i64 q0) ∧ W5.cell? ⟨n_v, 4, none⟩ = some (.int .i64 q1) ∧ W5.cell? ⟨n_v, 5, none⟩ = some (.int .i64 q2) ∧ W5.cell? ⟨w.heap.size + 1, 0, none⟩ = some (.slice A3 n3 c3) ∧ W5.cell? ⟨w.heap.size + 1, 1, none⟩ = some (.slice A4 n4 c4) := ⟨((L_v.out.kept b4 L_v.out.inside).kept b5 (L_v.out.kept b4 L_v.out.inside).inside).cell 0, ((L_v.out.kept b4 L_v.out.inside).kept b5 (L_v.out.kept b4 L_v.out.inside).inside).cell 1, ((L_v.out.kept b4 L_v.out.inside).kept b5 (L_v.out.kept b4 L_v.out.inside).inside).cell 2, ((L_v.out.kept b4 L_v.out.inside).kept b5 (L_v.out.kept b4 L_v.out.inside).inside).cell 3, ((L_v.out.kept b4 L_v.out.inside).kept b5 (L_v.out.kept b4 L_v.out.inside).inside).cell 4, ((L_v.out.kept b4 L_v.out.inside).kept b5 (L_v.out.kept b4 L_v.out.inside).inside).cell 5, ((L_b.out.kept b4 L_b.out.inside).kept b5 (L_b.out.kept b4 L_b.out.inside).inside).cell 0, ((L_b.out.kept b4 L_b.out.inside).kept b5 (L_b.out.kept b4 L_b.out.inside).inside).cell 1⟩)
        | (go_at_call_of 67 (Value.agg #[.int .i64 t0, .int .i64 t1, .int .i64 t2, .int .i64 t3, .int .i64 t4, .int .i64 t5]); refine (area_is U _ _ _ _ _ _ _ _ _ _ _ PL.out PH.out HU.out (by rw [HL.out]) hU.out).mono ?_
           rintro e W6 ⟨rfl, b6⟩
           have k_3 : W6.cell? ⟨n_v, 0, none⟩ = some (.int .i64 p0) ∧ W6.cell? ⟨n_v, 1, none⟩ = some (.int .i64 p1) ∧ W6.cell? ⟨n_v, 2, none⟩ = some (.int .i64 p2) ∧ W6.cell? ⟨n_v, 3, none⟩ = some (.int .i64 q0) ∧ W6.cell? ⟨n_v, 4, none⟩ = some (.int .i64 q1) ∧ W6.cell? ⟨n_v, 5, none⟩ = some (.int .i64 q2) ∧ W6.cell? ⟨w.heap.size + 1, 0, none⟩ = some (.slice A3 n3 c3) ∧ W6.cell? ⟨w.heap.size + 1, 1, none⟩ = some (.slice A4 n4 c4) := ⟨(((L_v.out.kept b4 L_v.out.inside).kept b5 (L_v.out.kept b4 L_v.out.inside).inside).kept b6 ((L_v.out.kept b4 L_v.out.inside).kept b5 (L_v.out.kept b4 L_v.out.inside).inside).inside).cell 0, (((L_v.out.kept b4 L_v.out.inside).kept b5 (L_v.out.kept b4 L_v.out.inside).inside).kept b6 ((L_v.out.kept b4 L_v.out.inside).kept b5 (L_v.out.kept b4 L_v.out.inside).inside).inside).cell 1, (((L_v.out.kept b4 L_v.out.inside).kept b5 (L_v.out.kept b4 L_v.out.inside).inside).kept b6 ((L_v.out.kept b4 L_v.out.inside).kept b5 (L_v.out.kept b4 L_v.out.inside).inside).inside).cell 2, (((L_v.out.kept b4 L_v.out.inside).kept b5 (L_v.out.kept b4 L_v.out.inside).inside).kept b6 ((L_v.out.kept b4 L_v.out.inside).kept b5 (L_v.out.kept b4 L_v.out.inside).inside).inside).cell 3, (((L_v.out.kept b4 L_v.out.inside).kept b5 (L_v.out.kept b4 L_v.out.inside).inside).kept b6 ((L_v.out.kept b4 L_v.out.inside).kept b5 (L_v.out.kept b4 L_v.out.inside).inside).inside).cell 4, (((L_v.out.kept b4 L_v.out.inside).kept b5 (L_v.out.kept b4 L_v.out.inside).inside).kept b6 ((L_v.out.kept b4 L_v.out.inside).kept b5 (L_v.out.kept b4 L_v.out.inside).inside).inside).cell 5, (((L_b.out.kept b4 L_b.out.inside).kept b5 (L_b.out.kept b4 L_b.out.inside).inside).kept b6 ((L_b.out.kept b4 L_b.out.inside).kept b5 (L_b.out.kept b4 L_b.out.inside).inside).inside).cell 0, (((L_b.out.kept b4 L_b.out.inside).kept b5 (L_b.out.kept b4 L_b.out.inside).inside).kept b6 ((L_b.out.kept b4 L_b.out.inside).kept b5 (L_b.out.kept b4 L_b.out.inside).inside).inside).cell 1⟩)
        | (go_at_call_of 67 (Value.agg #[.int .i64 p0, .int .i64 p1, .int .i64 p2, .int .i64 q0, .int .i64 q1, .int .i64 q2]); refine (area_is V _ _ _ _ _ _ _ _ _ _ _ P1.out P2.out HR.out (by rw [HL.out]) hV.out).mono ?_
           rintro e W7 ⟨rfl, b7⟩
           have k_4 : W7.cell? ⟨n_v, 0, none⟩ = some (.int .i64 p0) ∧ W7.cell? ⟨n_v, 1, none⟩ = some (.int .i64 p1) ∧ W7.cell? ⟨n_v, 2, none⟩ = some (.int .i64 p2) ∧ W7.cell? ⟨n_v, 3, none⟩ = some (.int .i64 q0) ∧ W7.cell? ⟨n_v, 4, none⟩ = some (.int .i64 q1) ∧ W7.cell? ⟨n_v, 5, none⟩ = some (.int .i64 q2) ∧ W7.cell? ⟨w.heap.size + 1, 0, none⟩ = some (.slice A3 n3 c3) ∧ W7.cell? ⟨w.heap.size + 1, 1, none⟩ = some (.slice A4 n4 c4) := ⟨((((L_v.out.kept b4 L_v.out.inside).kept b5 (L_v.out.kept b4 L_v.out.inside).inside).kept b6 ((L_v.out.kept b4 L_v.out.inside).kept b5 (L_v.out.kept b4 L_v.out.inside).inside).inside).kept b7 (((L_v.out.kept b4 L_v.out.inside).kept b5 (L_v.out.kept b4 L_v.out.inside).inside).kept b6 ((L_v.out.kept b4 L_v.out.inside).kept b5 (L_v.out.kept b4 L_v.out.inside).inside).inside).inside).cell 0, ((((L_v.out.kept b4 L_v.out.inside).kept b5 (L_v.out.kept b4 L_v.out.inside).inside).kept b6 ((L_v.out.kept b4 L_v.out.inside).kept b5 (L_v.out.kept b4 L_v.out.inside).inside).inside).kept b7 (((L_v.out.kept b4 L_v.out.inside).kept b5 (L_v.out.kept b4 L_v.out.inside).inside).kept b6 ((L_v.out.kept b4 L_v.out.inside).kept b5 (L_v.out.kept b4 L_v.out.inside).inside).inside).inside).cell 1, ((((L_v.out.kept b4 L_v.out.inside).kept b5 (L_v.out.kept b4 L_v.out.inside).inside).kept b6 ((L_v.out.kept b4 L_v.out.inside).kept b5 (L_v.out.kept b4 L_v.out.inside).inside).inside).kept b7 (((L_v.out.kept b4 L_v.out.inside).kept b5 (L_v.out.kept b4 L_v.out.inside).inside).kept b6 ((L_v.out.kept b4 L_v.out.inside).kept b5 (L_v.out.kept b4 L_v.out.inside).inside).inside).inside).cell 2, ((((L_v.out.kept b4 L_v.out.inside).kept b5 (L_v.out.kept b4 L_v.out.inside).inside).kept b6 ((L_v.out.kept b4 L_v.out.inside).kept b5 (L_v.out.kept b4 L_v.out.inside).inside).inside).kept b7 (((L_v.out.kept b4 L_v.out.inside).kept b5 (L_v.out.kept b4 L_v.out.inside).inside).kept b6 ((L_v.out.kept b4 L_v.out.inside).kept b5 (L_v.out.kept b4 L_v.out.inside).inside).inside).inside).cell 3, ((((L_v.out.kept b4 L_v.out.inside).kept b5 (L_v.out.kept b4 L_v.out.inside).inside).kept b6 ((L_v.out.kept b4 L_v.out.inside).kept b5 (L_v.out.kept b4 L_v.out.inside).inside).inside).kept b7 (((L_v.out.kept b4 L_v.out.inside).kept b5 (L_v.out.kept b4 L_v.out.inside).inside).kept b6 ((L_v.out.kept b4 L_v.out.inside).kept b5 (L_v.out.kept b4 L_v.out.inside).inside).inside).inside).cell 4, ((((L_v.out.kept b4 L_v.out.inside).kept b5 (L_v.out.kept b4 L_v.out.inside).inside).kept b6 ((L_v.out.kept b4 L_v.out.inside).kept b5 (L_v.out.kept b4 L_v.out.inside).inside).inside).kept b7 (((L_v.out.kept b4 L_v.out.inside).kept b5 (L_v.out.kept b4 L_v.out.inside).inside).kept b6 ((L_v.out.kept b4 L_v.out.inside).kept b5 (L_v.out.kept b4 L_v.out.inside).inside).inside).inside).cell 5, ((((L_b.out.kept b4 L_b.out.inside).kept b5 (L_b.out.kept b4 L_b.out.inside).inside).kept b6 ((L_b.out.kept b4 L_b.out.inside).kept b5 (L_b.out.kept b4 L_b.out.inside).inside).inside).kept b7 (((L_b.out.kept b4 L_b.out.inside).kept b5 (L_b.out.kept b4 L_b.out.inside).inside).kept b6 ((L_b.out.kept b4 L_b.out.inside).kept b5 (L_b.out.kept b4 L_b.out.inside).inside).inside).inside).cell 0, ((((L_b.out.kept b4 L_b.out.inside).kept b5 (L_b.out.kept b4 L_b.out.inside).inside).kept b6 ((L_b.out.kept b4 L_b.out.inside).kept b5 (L_b.out.kept b4 L_b.out.inside).inside).inside).kept b7 (((L_b.out.kept b4 L_b.out.inside).kept b5 (L_b.out.kept b4 L_b.out.inside).inside).kept b6 ((L_b.out.kept b4 L_b.out.inside).kept b5 (L_b.out.kept b4 L_b.out.inside).inside).inside).inside).cell 1⟩
           have c_r0 : W7.cell? ⟨w.heap.size + 1 + 1, 0, none⟩ = some (.int .i64 0) := ((((L_r.out.kept b4 L_r.out.inside).kept b5 (L_r.out.kept b4 L_r.out.inside).inside).kept b6 ((L_r.out.kept b4 L_r.out.inside).kept b5 (L_r.out.kept b4 L_r.out.inside).inside).inside).kept b7 (((L_r.out.kept b4 L_r.out.inside).kept b5 (L_r.out.kept b4 L_r.out.inside).inside).kept b6 ((L_r.out.kept b4 L_r.out.inside).kept b5 (L_r.out.kept b4 L_r.out.inside).inside).inside).inside).cell 0
           have f_r0 : W7.frozen? ⟨w.heap.size + 1 + 1, 0, none⟩ = false := ((((L_r.out.kept b4 L_r.out.inside).kept b5 (L_r.out.kept b4 L_r.out.inside).inside).kept b6 ((L_r.out.kept b4 L_r.out.inside).kept b5 (L_r.out.kept b4 L_r.out.inside).inside).inside).kept b7 (((L_r.out.kept b4 L_r.out.inside).kept b5 (L_r.out.kept b4 L_r.out.inside).inside).kept b6 ((L_r.out.kept b4 L_r.out.inside).kept b5 (L_r.out.kept b4 L_r.out.inside).inside).inside).inside).thawed 0
           have c_r1 : W7.cell? ⟨w.heap.size + 1 + 1, 1, none⟩ = some (.int .i64 0) := ((((L_r.out.kept b4 L_r.out.inside).kept b5 (L_r.out.kept b4 L_r.out.inside).inside).kept b6 ((L_r.out.kept b4 L_r.out.inside).kept b5 (L_r.out.kept b4 L_r.out.inside).inside).inside).kept b7 (((L_r.out.kept b4 L_r.out.inside).kept b5 (L_r.out.kept b4 L_r.out.inside).inside).kept b6 ((L_r.out.kept b4 L_r.out.inside).kept b5 (L_r.out.kept b4 L_r.out.inside).inside).inside).inside).cell 1
           have f_r1 : W7.frozen? ⟨w.heap.size + 1 + 1, 1, none⟩ = false := ((((L_r.out.kept b4 L_r.out.inside).kept b5 (L_r.out.kept b4 L_r.out.inside).inside).kept b6 ((L_r.out.kept b4 L_r.out.inside).kept b5 (L_r.out.kept b4 L_r.out.inside).inside).inside).kept b7 (((L_r.out.kept b4 L_r.out.inside).kept b5 (L_r.out.kept b4 L_r.out.inside).inside).kept b6 ((L_r.out.kept b4 L_r.out.inside).kept b5 (L_r.out.kept b4 L_r.out.inside).inside).inside).inside).thawed 1))
    clear k_0 k_1 k_2 k_3 k_4
    replace L_a := Lib.hid (L_a.out.kept b4 L_a.out.inside)
    replace L_b := Lib.hid (L_b.out.kept b4 L_b.out.inside)
    replace L_r := Lib.hid (L_r.out.kept b4 L_r.out.inside)
    replace L_v := Lib.hid (L_v.out.kept b4 L_v.out.inside)
    replace B := Lib.hid (B.out.trans (b4.mono B.out.size))
    clear b4
    replace L_a := Lib.hid (L_a.out.kept b5 L_a.out.inside)
    replace L_b := Lib.hid (L_b.out.kept b5 L_b.out.inside)
    replace L_r := Lib.hid (L_r.out.kept b5 L_r.out.inside)
    replace L_v := Lib.hid (L_v.out.kept b5 L_v.out.inside)
    replace B := Lib.hid (B.out.trans (b5.mono B.out.size))
    clear b5
    replace L_a := Lib.hid (L_a.out.kept b6 L_a.out.inside)
    replace L_b := Lib.hid (L_b.out.kept b6 L_b.out.inside)
    replace L_r := Lib.hid (L_r.out.kept b6 L_r.out.inside)
    replace L_v := Lib.hid (L_v.out.kept b6 L_v.out.inside)
    replace B := Lib.hid (B.out.trans (b6.mono B.out.size))
    clear b6
    replace L_a := Lib.hid (L_a.out.kept b7 L_a.out.inside)
    replace L_b := Lib.hid (L_b.out.kept b7 L_b.out.inside)
    replace L_r := Lib.hid (L_r.out.kept b7 L_r.out.inside)
    replace L_v := Lib.hid (L_v.out.kept b7 L_v.out.inside)
    replace B := Lib.hid (B.out.trans (b7.mono B.out.size))
    clear b7
    go_wp2
    refine bodyPost_ret (v := .agg #[.int .i64 0, .int .i64 (IntKind.i64.wrap (U - V))]) (by simp [results, Try.results20, go_sem, c_r0, c_r1]) rfl ⟨by rw [HF.out, HW.out], ?_⟩
    exact ((B.out.setCell (by show w.heap.size ≤ w.heap.size + 1 + 1; omega) _).setCell (by show w.heap.size ≤ w.heap.size + 1 + 1; omega) _)
  · have HF : Hid (growF x1 x2 x3 x4 = (rf2 x1 x2 x3 x4, 0)) := by show growF x1 x2 x3 x4 = _; simp [growF, hr]
    have hq : (rf2 x1 x2 x3 x4 != 0) = true := by simpa using hr
    clear hr
    go_enter Try.func20, Try.ntmps20
    go_wp2_with fail
    refine (rectsFault_any _ _ _ _ _ _ _ _ _ _ _ _ _ _ _ _ x1 x2 x3 x4 _ (I_1.out.kept B.out) (I_2.out.kept B.out) (I_3.out.kept B.out) (I_4.out.kept B.out) m1 m2 m3 m4).mono ?_
    rintro e W1 ⟨rfl, b1⟩
    replace L_a := Lib.hid (L_a.out.kept b1 L_a.out.inside)
    replace L_b := Lib.hid (L_b.out.kept b1 L_b.out.inside)
    replace L_r := Lib.hid (L_r.out.kept b1 L_r.out.inside)
    replace B := Lib.hid (B.out.trans (b1.mono B.out.size))
    clear b1
    have c_r0 : W1.cell? ⟨w.heap.size + 1 + 1, 0, none⟩ = some (.int .i64 0) := L_r.out.cell 0
    have f_r0 : W1.frozen? ⟨w.heap.size + 1 + 1, 0, none⟩ = false := L_r.out.thawed 0
    have c_r1 : W1.cell? ⟨w.heap.size + 1 + 1, 1, none⟩ = some (.int .i64 0) := L_r.out.cell 1
    have f_r1 : W1.frozen? ⟨w.heap.size + 1 + 1, 1, none⟩ = false := L_r.out.thawed 1
    go_wp2
    refine bodyPost_ret (v := .agg #[.int .i64 (rf2 x1 x2 x3 x4), .int .i64 0]) (by simp [results, Try.results20, go_sem, c_r0, c_r1]) rfl ⟨by rw [HF.out], ?_⟩
    exact ((B.out.setCell (by show w.heap.size ≤ w.heap.size + 1 + 1; omega) _).setCell (by show w.heap.size ≤ w.heap.size + 1 + 1; omega) _)

end Go.Proofs.Ytbonpmgbcdknbab
