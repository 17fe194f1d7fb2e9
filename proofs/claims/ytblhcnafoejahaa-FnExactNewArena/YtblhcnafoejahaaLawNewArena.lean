/- FnExactNewArena: for every two numbers impl.NewArena answers as the model does, and in memory of its own. No condition. -/
import Derived.Test.YtblhcnafoejahaaNewRes
namespace Go.Proofs.Ytblhcnafoejahaa
open Go.RowKit

section
variable {w w' : World} {k : Int} {cs : List Addr}
theorem Passed.slice (hp : Passed k cs w w') (hW : Writ w cs) {a : Addr} {v : Value} (h : w.cell? a = some v) (hv : ∀ x, v ≠ .int .i64 x) : w'.cell? a = some v :=
  (hp.o a (cell_in h) (fun hm => by obtain ⟨x, hx⟩ := (hW a hm).1; rw [h] at hx; injection hx with hx; exact hv x hx)).trans h
theorem EntSh.passed {A : Option Addr} {n : Nat} {es : List EV} (h : EntSh w A n es) (hp : Passed k cs w w') (hW : Writ w cs) : EntSh w' A n es := by
  refine ⟨h.1, fun h0 => ?_, h.2.2⟩
  obtain ⟨b, o, e, h1⟩ := h.2.1 h0
  exact ⟨b, o, e, fun k x hk => ⟨hp.slice hW (h1 k x hk).1 (fun _ e => by simp at e), hp.slice hW (h1 k x hk).2 (fun _ e => by simp at e)⟩⟩
theorem NodeSh.passed {A : Option Addr} {n : Nat} {es : List NV} (h : NodeSh w A n es) (hp : Passed k cs w w') (hW : Writ w cs) : NodeSh w' A n es := by
  refine ⟨h.1, fun h0 => ?_, fun e he => ⟨(h.2.2 e he).1.passed hp hW, (h.2.2 e he).2⟩⟩
  obtain ⟨b, o, e, h1⟩ := h.2.1 h0
  exact ⟨b, o, e, fun k x hk => hp.slice hW (h1 k x hk) (fun _ e => by simp at e)⟩
theorem RetSh.passed {A : Option Addr} {n : Nat} {es : List RV} (h : RetSh w A n es) (hp : Passed k cs w w') (hW : Writ w cs) : RetSh w' A n es := by
  refine ⟨h.1, fun h0 => ?_, h.2.2⟩
  obtain ⟨b, o, e, h1⟩ := h.2.1 h0
  exact ⟨b, o, e, fun k x hk => hp.slice hW (h1 k x hk) (fun _ e => by simp at e)⟩
theorem ArSh.passed {A1 A2 A3 : Option Addr} {n1 n2 n3 : Nat} {ns : List NV} {rs : List RV} (h : ArSh w A1 A2 A3 n1 n2 n3 ns rs) (hp : Passed k cs w w') (hW : Writ w cs) : ArSh w' A1 A2 A3 n1 n2 n3 ns rs :=
  ⟨h.N.passed hp hW, h.F, h.R.passed hp hW, h.b1, h.b2, h.b3⟩
end

set_option maxRecDepth 100000 in
set_option maxHeartbeats 6400000 in
theorem lawNewArena_walk (d r : Int) (w : World) :
    Calls Try.prog 7 #[.int .i64 d, .int .i64 r] w fun e w' => e = .returned (.bool true) ∧ Below w.heap.size w w' := by
  obtain ⟨cd, D, N, hI⟩ := newIs_ex d r
  have HI := Lib.hid hI
  clear hI
  go_enter Try.func7, Try.ntmps7
  go_wp2_with fail
  refine (specNew_is d r cd D N _ HI.out).mono ?_
  rintro e W1 ⟨A1w, c1w, A2w, c2w, rfl, Lw, b1⟩
  have B := Lib.hid b1
  clear b1
  have M_w := Lib.hid (Lw.kept (below_alloc W1 (.cells #[.int .i64 cd, .int .i64 D, .slice A1w N c1w, .slice A2w N c2w, .slice none 0 0, .int .i64 0] 57)))
  replace B := Lib.hid (B.out.alloc B.out.size (.cells #[.int .i64 cd, .int .i64 D, .slice A1w N c1w, .slice A2w N c2w, .slice none 0 0, .int .i64 0] 57))
  have L_w := Lib.hid (Lies.new W1 57 #[.int .i64 cd, .int .i64 D, .slice A1w N c1w, .slice A2w N c2w, .slice none 0 0, .int .i64 0])
  clear Lw
  go_wp2_with fail
  refine (implNew_is d r cd D N _ HI.out).mono ?_
  rintro e W2 ⟨A1g, c1g, A2g, c2g, qs, rfl, Vg, vg, b2⟩
  have V_e := Lib.hid vg
  have hs := b2.size
  simp only [World.size_alloc] at hs
  have H_g : Hid (∀ c ∈ arCells A1g A2g none N qs [], W1.heap.size + 1 ≤ c.block ∧ c.block < W2.heap.size) := Lib.hid (by intro c hc; have := Vg.H c hc; simp only [World.size_alloc] at this; exact this)
  have JB := Lib.hid (b2.alloc b2.size (.cells #[.int .i64 cd, .int .i64 D, .slice A1g N c1g, .slice A2g N c2g, .slice none 0 0, .int .i64 0] 57))
  have V_g := Lib.hid (Vg.kept (below_alloc W2 (.cells #[.int .i64 cd, .int .i64 D, .slice A1g N c1g, .slice A2g N c2g, .slice none 0 0, .int .i64 0] 57)))
  have L_g := Lib.hid (Lies.new W2 57 #[.int .i64 cd, .int .i64 D, .slice A1g N c1g, .slice A2g N c2g, .slice none 0 0, .int .i64 0])
  clear vg b2 Vg
  have f_g0 : (W2.alloc (.cells #[.int .i64 cd, .int .i64 D, .slice A1g N c1g, .slice A2g N c2g, .slice none 0 0, .int .i64 0] 57)).cell? ⟨W2.heap.size, 0, none⟩ = some (.int .i64 cd) := (L_g.out).cell 0
  have f_g1 : (W2.alloc (.cells #[.int .i64 cd, .int .i64 D, .slice A1g N c1g, .slice A2g N c2g, .slice none 0 0, .int .i64 0] 57)).cell? ⟨W2.heap.size, 1, none⟩ = some (.int .i64 D) := (L_g.out).cell 1
  have f_g2 : (W2.alloc (.cells #[.int .i64 cd, .int .i64 D, .slice A1g N c1g, .slice A2g N c2g, .slice none 0 0, .int .i64 0] 57)).cell? ⟨W2.heap.size, 2, none⟩ = some (.slice A1g N c1g) := (L_g.out).cell 2
  have f_g3 : (W2.alloc (.cells #[.int .i64 cd, .int .i64 D, .slice A1g N c1g, .slice A2g N c2g, .slice none 0 0, .int .i64 0] 57)).cell? ⟨W2.heap.size, 3, none⟩ = some (.slice A2g N c2g) := (L_g.out).cell 3
  have f_g4 : (W2.alloc (.cells #[.int .i64 cd, .int .i64 D, .slice A1g N c1g, .slice A2g N c2g, .slice none 0 0, .int .i64 0] 57)).cell? ⟨W2.heap.size, 4, none⟩ = some (.slice none 0 0) := (L_g.out).cell 4
  have f_g5 : (W2.alloc (.cells #[.int .i64 cd, .int .i64 D, .slice A1g N c1g, .slice A2g N c2g, .slice none 0 0, .int .i64 0] 57)).cell? ⟨W2.heap.size, 5, none⟩ = some (.int .i64 0) := (L_g.out).cell 5
  have f_w0 : (W2.alloc (.cells #[.int .i64 cd, .int .i64 D, .slice A1g N c1g, .slice A2g N c2g, .slice none 0 0, .int .i64 0] 57)).cell? ⟨W1.heap.size, 0, none⟩ = some (.int .i64 cd) := (L_w.out.kept JB.out L_w.out.inside).cell 0
  have f_w1 : (W2.alloc (.cells #[.int .i64 cd, .int .i64 D, .slice A1g N c1g, .slice A2g N c2g, .slice none 0 0, .int .i64 0] 57)).cell? ⟨W1.heap.size, 1, none⟩ = some (.int .i64 D) := (L_w.out.kept JB.out L_w.out.inside).cell 1
  have f_w2 : (W2.alloc (.cells #[.int .i64 cd, .int .i64 D, .slice A1g N c1g, .slice A2g N c2g, .slice none 0 0, .int .i64 0] 57)).cell? ⟨W1.heap.size, 2, none⟩ = some (.slice A1w N c1w) := (L_w.out.kept JB.out L_w.out.inside).cell 2
  have f_w3 : (W2.alloc (.cells #[.int .i64 cd, .int .i64 D, .slice A1g N c1g, .slice A2g N c2g, .slice none 0 0, .int .i64 0] 57)).cell? ⟨W1.heap.size, 3, none⟩ = some (.slice A2w N c2w) := (L_w.out.kept JB.out L_w.out.inside).cell 3
  have f_w4 : (W2.alloc (.cells #[.int .i64 cd, .int .i64 D, .slice A1g N c1g, .slice A2g N c2g, .slice none 0 0, .int .i64 0] 57)).cell? ⟨W1.heap.size, 4, none⟩ = some (.slice none 0 0) := (L_w.out.kept JB.out L_w.out.inside).cell 4
  have f_w5 : (W2.alloc (.cells #[.int .i64 cd, .int .i64 D, .slice A1g N c1g, .slice A2g N c2g, .slice none 0 0, .int .i64 0] 57)).cell? ⟨W1.heap.size, 5, none⟩ = some (.int .i64 0) := (L_w.out.kept JB.out L_w.out.inside).cell 5
  go_wp2_with fail
  refine (eqArenaResult_same cd D 0 _ _ _ _ _ _ _ _ _ _ _ _ _ _ _ _ _ _ _ _ _ V_g.out.L (M_w.out.kept JB.out) V_e.out rfl).mono ?_
  rintro e W3 ⟨rfl, b3⟩
  clear f_g0 f_g1 f_g2 f_g3 f_g4 f_g5 f_w0 f_w1 f_w2 f_w3 f_w4 f_w5
  clear V_e
  replace V_g := Lib.hid (V_g.out.kept b3)
  replace L_g := Lib.hid (L_g.out.kept b3 L_g.out.inside)
  replace JB := Lib.hid (JB.out.trans (b3.mono JB.out.size))
  clear b3
  obtain ⟨K, hK⟩ : ∃ K, (arCells A1g A2g none N qs []).length = K := ⟨_, rfl⟩
  have hK1 := V_g.out.s
  rw [hK] at hK1
  have f_g0 : (W3).cell? ⟨W2.heap.size, 0, none⟩ = some (.int .i64 cd) := (L_g.out).cell 0
  have f_g1 : (W3).cell? ⟨W2.heap.size, 1, none⟩ = some (.int .i64 D) := (L_g.out).cell 1
  have f_g2 : (W3).cell? ⟨W2.heap.size, 2, none⟩ = some (.slice A1g N c1g) := (L_g.out).cell 2
  have f_g3 : (W3).cell? ⟨W2.heap.size, 3, none⟩ = some (.slice A2g N c2g) := (L_g.out).cell 3
  have f_g4 : (W3).cell? ⟨W2.heap.size, 4, none⟩ = some (.slice none 0 0) := (L_g.out).cell 4
  have f_g5 : (W3).cell? ⟨W2.heap.size, 5, none⟩ = some (.int .i64 0) := (L_g.out).cell 5
  go_wp2_with fail
  refine (markArenaResult_any 1 cd D 0 _ _ _ _ _ _ _ _ _ qs [] _ V_g.out.S V_g.out.W V_g.out.D (by decide) (by rw [hK]; omega)).mono ?_
  rintro e W4 ⟨rfl, p4⟩
  rw [hK]
  clear f_g0 f_g1 f_g2 f_g3 f_g4 f_g5
  have S_g := Lib.hid (V_g.out.S.passed p4 V_g.out.W)
  have K_g := Lib.hid p4.M
  replace L_g := Lib.hid (p4.T.lies L_g.out (by rintro ⟨c, hc, e⟩; have := (H_g.out c hc).2; omega))
  replace JB := Lib.hid (p4.T.below JB.out (by rintro x ⟨c, hc, rfl⟩; have := (H_g.out c hc).1; simp only [World.size_alloc]; exact this))
  clear V_g p4
  have kng : ¬ (1 : Int) + K < 0 := by omega
  have qeq : (((1 : Int) + K) != (1 + K)) = false := by simp
  have f_g0 : (W4).cell? ⟨W2.heap.size, 0, none⟩ = some (.int .i64 cd) := (L_g.out).cell 0
  have f_g1 : (W4).cell? ⟨W2.heap.size, 1, none⟩ = some (.int .i64 D) := (L_g.out).cell 1
  have f_g2 : (W4).cell? ⟨W2.heap.size, 2, none⟩ = some (.slice A1g N c1g) := (L_g.out).cell 2
  have f_g3 : (W4).cell? ⟨W2.heap.size, 3, none⟩ = some (.slice A2g N c2g) := (L_g.out).cell 3
  have f_g4 : (W4).cell? ⟨W2.heap.size, 4, none⟩ = some (.slice none 0 0) := (L_g.out).cell 4
  have f_g5 : (W4).cell? ⟨W2.heap.size, 5, none⟩ = some (.int .i64 0) := (L_g.out).cell 5
  go_wp2_with fail
  refine (heldArenaResult_any 1 cd D 0 _ _ _ _ _ _ _ _ _ qs [] _ S_g.out K_g.out (by decide) (by rw [hK]; omega)).mono ?_
  rintro e W5 ⟨rfl, b⟩
  rw [hK]
  clear f_g0 f_g1 f_g2 f_g3 f_g4 f_g5
  replace S_g := Lib.hid (S_g.out.kept b)
  replace K_g := Lib.hid (K_g.out.kept b)
  replace L_g := Lib.hid (L_g.out.kept b L_g.out.inside)
  replace JB := Lib.hid (JB.out.trans (b.mono JB.out.size))
  clear b
  go_wp2_with fail
  refine (implNew_is d r cd D N _ HI.out).mono ?_
  rintro e W6 ⟨A1h, c1h, A2h, c2h, qh, rfl, Vh, vh, b⟩
  replace S_g := Lib.hid (S_g.out.kept b)
  replace K_g := Lib.hid (K_g.out.kept b)
  replace L_g := Lib.hid (L_g.out.kept b L_g.out.inside)
  replace JB := Lib.hid (JB.out.trans (b.mono JB.out.size))
  clear b
  have V_h := Lib.hid (Vh.L.kept (below_alloc W6 (.cells #[.int .i64 cd, .int .i64 D, .slice A1h N c1h, .slice A2h N c2h, .slice none 0 0, .int .i64 0] 57)))
  have V_e := Lib.hid vh
  have b := below_alloc W6 (.cells #[.int .i64 cd, .int .i64 D, .slice A1h N c1h, .slice A2h N c2h, .slice none 0 0, .int .i64 0] 57)
  clear Vh vh
  replace S_g := Lib.hid (S_g.out.kept b)
  replace K_g := Lib.hid (K_g.out.kept b)
  replace L_g := Lib.hid (L_g.out.kept b L_g.out.inside)
  replace JB := Lib.hid (JB.out.trans (b.mono JB.out.size))
  clear b
  have L_h := Lib.hid (Lies.new W6 57 #[.int .i64 cd, .int .i64 D, .slice A1h N c1h, .slice A2h N c2h, .slice none 0 0, .int .i64 0])
  have f_h0 : (W6.alloc (.cells #[.int .i64 cd, .int .i64 D, .slice A1h N c1h, .slice A2h N c2h, .slice none 0 0, .int .i64 0] 57)).cell? ⟨W6.heap.size, 0, none⟩ = some (.int .i64 cd) := (L_h.out).cell 0
  have f_h1 : (W6.alloc (.cells #[.int .i64 cd, .int .i64 D, .slice A1h N c1h, .slice A2h N c2h, .slice none 0 0, .int .i64 0] 57)).cell? ⟨W6.heap.size, 1, none⟩ = some (.int .i64 D) := (L_h.out).cell 1
  have f_h2 : (W6.alloc (.cells #[.int .i64 cd, .int .i64 D, .slice A1h N c1h, .slice A2h N c2h, .slice none 0 0, .int .i64 0] 57)).cell? ⟨W6.heap.size, 2, none⟩ = some (.slice A1h N c1h) := (L_h.out).cell 2
  have f_h3 : (W6.alloc (.cells #[.int .i64 cd, .int .i64 D, .slice A1h N c1h, .slice A2h N c2h, .slice none 0 0, .int .i64 0] 57)).cell? ⟨W6.heap.size, 3, none⟩ = some (.slice A2h N c2h) := (L_h.out).cell 3
  have f_h4 : (W6.alloc (.cells #[.int .i64 cd, .int .i64 D, .slice A1h N c1h, .slice A2h N c2h, .slice none 0 0, .int .i64 0] 57)).cell? ⟨W6.heap.size, 4, none⟩ = some (.slice none 0 0) := (L_h.out).cell 4
  have f_h5 : (W6.alloc (.cells #[.int .i64 cd, .int .i64 D, .slice A1h N c1h, .slice A2h N c2h, .slice none 0 0, .int .i64 0] 57)).cell? ⟨W6.heap.size, 5, none⟩ = some (.int .i64 0) := (L_h.out).cell 5
  have f_w0 : (W6.alloc (.cells #[.int .i64 cd, .int .i64 D, .slice A1h N c1h, .slice A2h N c2h, .slice none 0 0, .int .i64 0] 57)).cell? ⟨W1.heap.size, 0, none⟩ = some (.int .i64 cd) := (L_w.out.kept JB.out L_w.out.inside).cell 0
  have f_w1 : (W6.alloc (.cells #[.int .i64 cd, .int .i64 D, .slice A1h N c1h, .slice A2h N c2h, .slice none 0 0, .int .i64 0] 57)).cell? ⟨W1.heap.size, 1, none⟩ = some (.int .i64 D) := (L_w.out.kept JB.out L_w.out.inside).cell 1
  have f_w2 : (W6.alloc (.cells #[.int .i64 cd, .int .i64 D, .slice A1h N c1h, .slice A2h N c2h, .slice none 0 0, .int .i64 0] 57)).cell? ⟨W1.heap.size, 2, none⟩ = some (.slice A1w N c1w) := (L_w.out.kept JB.out L_w.out.inside).cell 2
  have f_w3 : (W6.alloc (.cells #[.int .i64 cd, .int .i64 D, .slice A1h N c1h, .slice A2h N c2h, .slice none 0 0, .int .i64 0] 57)).cell? ⟨W1.heap.size, 3, none⟩ = some (.slice A2w N c2w) := (L_w.out.kept JB.out L_w.out.inside).cell 3
  have f_w4 : (W6.alloc (.cells #[.int .i64 cd, .int .i64 D, .slice A1h N c1h, .slice A2h N c2h, .slice none 0 0, .int .i64 0] 57)).cell? ⟨W1.heap.size, 4, none⟩ = some (.slice none 0 0) := (L_w.out.kept JB.out L_w.out.inside).cell 4
  have f_w5 : (W6.alloc (.cells #[.int .i64 cd, .int .i64 D, .slice A1h N c1h, .slice A2h N c2h, .slice none 0 0, .int .i64 0] 57)).cell? ⟨W1.heap.size, 5, none⟩ = some (.int .i64 0) := (L_w.out.kept JB.out L_w.out.inside).cell 5
  go_wp2_with fail
  refine (eqArenaResult_same cd D 0 _ _ _ _ _ _ _ _ _ _ _ _ _ _ _ _ _ _ _ _ _ V_h.out (M_w.out.kept JB.out) V_e.out rfl).mono ?_
  rintro e W7 ⟨rfl, b⟩
  clear f_h0 f_h1 f_h2 f_h3 f_h4 f_h5 f_w0 f_w1 f_w2 f_w3 f_w4 f_w5
  clear V_h V_e L_h
  replace S_g := Lib.hid (S_g.out.kept b)
  replace K_g := Lib.hid (K_g.out.kept b)
  replace L_g := Lib.hid (L_g.out.kept b L_g.out.inside)
  replace JB := Lib.hid (JB.out.trans (b.mono JB.out.size))
  clear b
  have f_g0 : (W7).cell? ⟨W2.heap.size, 0, none⟩ = some (.int .i64 cd) := (L_g.out).cell 0
  have f_g1 : (W7).cell? ⟨W2.heap.size, 1, none⟩ = some (.int .i64 D) := (L_g.out).cell 1
  have f_g2 : (W7).cell? ⟨W2.heap.size, 2, none⟩ = some (.slice A1g N c1g) := (L_g.out).cell 2
  have f_g3 : (W7).cell? ⟨W2.heap.size, 3, none⟩ = some (.slice A2g N c2g) := (L_g.out).cell 3
  have f_g4 : (W7).cell? ⟨W2.heap.size, 4, none⟩ = some (.slice none 0 0) := (L_g.out).cell 4
  have f_g5 : (W7).cell? ⟨W2.heap.size, 5, none⟩ = some (.int .i64 0) := (L_g.out).cell 5
  go_wp2_with fail
  refine (heldArenaResult_any 1 cd D 0 _ _ _ _ _ _ _ _ _ qs [] _ S_g.out K_g.out (by decide) (by rw [hK]; omega)).mono ?_
  rintro e W8 ⟨rfl, b⟩
  rw [hK]
  clear f_g0 f_g1 f_g2 f_g3 f_g4 f_g5
  replace JB := Lib.hid (JB.out.trans (b.mono JB.out.size))
  clear b S_g K_g L_g
  go_wp2
  go_ret
  exact ⟨rfl, B.out.trans (JB.out.mono B.out.size)⟩

end Go.Proofs.Ytblhcnafoejahaa
