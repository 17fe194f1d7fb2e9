/- An entry that is widened, said plainly; slots of which one is written anew. -/
import Derived.Test.YtfpmbkfikfdmkaaClone
import Derived.Test.YtfpmbkfikfdmkaaSlotSwap
import Derived.Test.YtfpmbkfikfdmkaaBodyNode
import Derived.Test.YtfpmbkfikfdmkaaWithout
import Derived.Test.YtfpmbkfikfdmkaaImplBoxOf
import Derived.Test.YtfpmbkfikfdmkaaUnion
import Derived.Test.YtfpmbkfikfdmkaaImplWithout
namespace Go.Proofs.Ytfpmbkfikfdmkaa
open Go.RowKit

/-- An entry that is widened by a box. -/
def widE (x1 x2 : List Int) (v : EVal) : EVal := (mins v.1 x1, maxs v.2.1 x2, v.2.2.1, v.2.2.2)
/-- The i-th of the entries is widened. -/
def widL (x1 x2 : List Int) (i : Nat) (vs : List EVal) : List EVal := match vs[i]? with | some v => vs.set i (widE x1 x2 v) | none => vs
theorem widL_at {x1 x2 : List Int} {i : Nat} {vs : List EVal} {v : EVal} (h : vs[i]? = some v) : widL x1 x2 i vs = vs.set i (widE x1 x2 v) := by unfold widL; rw [h]

theorem SlotsOf.put {vs : List EVal} {ss : List SL} (h : SlotsOf vs ss) {i : Nat} {v' : EVal} {s' : SL} (hs : SlotOf v' s') : SlotsOf (vs.set i v') (ss.set i s') := by
  refine ⟨by simp [h.1], fun k u t hu ht => ?_⟩
  rw [List.getElem?_set] at hu ht
  by_cases hk : i = k
  · subst hk
    rw [if_pos rfl] at hu ht
    split at hu
    · split at ht
      · injection hu with hu; injection ht with ht; subst hu ht; exact hs
      · simp at ht
    · simp at hu
  · rw [if_neg hk] at hu ht
    exact h.2 k u t hu ht
theorem LensE.put {dd : Nat} {vs : List EVal} (h : LensE dd vs) {i : Nat} {v' : EVal} (hv : v'.1.length = dd ∧ v'.2.1.length = dd) : LensE dd (vs.set i v') := by
  intro k u hu
  rw [List.getElem?_set] at hu
  by_cases hk : i = k
  · rw [if_pos hk] at hu
    split at hu
    · injection hu with hu; subst hu; exact hv
    · simp at hu
  · rw [if_neg hk] at hu
    exact h k u hu
theorem widE_lens {x1 x2 : List Int} {v : EVal} {dd : Nat} (h : v.1.length = dd ∧ v.2.1.length = dd) (h1 : x1.length = dd) (h2 : x2.length = dd) : (widE x1 x2 v).1.length = dd ∧ (widE x1 x2 v).2.1.length = dd := by
  simp [widE, mins, maxs, h.1, h.2, h1, h2]

/-- One number of a slot's box is written anew. -/
def SL.put (s : SL) (j : Nat) (m : Int) : SL := match j with | 0 => { s with p0 := m } | 1 => { s with p1 := m } | 2 => { s with p2 := m } | 3 => { s with q0 := m } | 4 => { s with q1 := m } | _ => { s with q2 := m }
theorem SL.put_cells (s : SL) {j : Nat} (m : Int) (hj : j < 6) : (s.put j m).cells = s.cells.set j (.int .i64 m) := by
  match j, hj with
  | 0, _ => rfl
  | 1, _ => rfl
  | 2, _ => rfl
  | 3, _ => rfl
  | 4, _ => rfl
  | 5, _ => rfl
theorem Slots.put {w : World} {g o n i j : Nat} {ss : List SL} {s : SL} (h : Slots w (some ⟨g, o, none⟩) n ss) (hi : ss[i]? = some s) (hj : j < 6) (m : Int) : Slots (w.setCell ⟨g, o + i * 8 + j, none⟩ (.int .i64 m)) (some ⟨g, o, none⟩) n (ss.set i (s.put j m)) := by
  obtain ⟨hl, hr⟩ := h
  have hin : i < ss.length := (List.getElem?_eq_some_iff.1 hi).1
  obtain ⟨b, o', e, h2, h3⟩ := hr (by omega)
  injection e with e; injection e with e1 e2; subst e1 e2
  refine ⟨by rw [List.length_set]; exact hl, fun _ => ⟨g, o, rfl, by rw [size_of_setCell]; exact h2, fun k t ht jj v hv => ?_⟩⟩
  have hj8 : jj < 8 := (List.getElem?_eq_some_iff.1 hv).1
  rw [List.getElem?_set] at ht
  by_cases hk : i = k
  · subst hk
    rw [if_pos rfl, if_pos hin] at ht
    injection ht with ht
    subst ht
    rw [SL.put_cells s m hj, List.getElem?_set] at hv
    have hs8 : s.cells.length = 8 := rfl
    by_cases hjj : j = jj
    · subst hjj
      rw [if_pos rfl, if_pos (by rw [hs8]; omega)] at hv
      injection hv with hv
      subst hv
      obtain ⟨u, hu⟩ : ∃ u, s.cells[j]? = some u := ⟨_, List.getElem?_eq_getElem (by rw [hs8]; omega)⟩
      exact World.cell?_setCell_same _ _ _ (h3 i s hi j u hu)
    · rw [if_neg hjj] at hv
      rw [World.cell?_setCell_other _ _ _ _ (fun e' => hjj (by injection e' with _ e'; omega))]
      exact h3 i s hi jj v hv
  · rw [if_neg hk] at ht
    rw [World.cell?_setCell_other _ _ _ _ (fun e' => hk (by injection e' with _ e'; omega))]
    exact h3 k t ht jj v hv
theorem set_at {ss : List SL} {i : Nat} {s t : SL} (h : ss[i]? = some s) : (ss.set i t)[i]? = some t := by
  rw [List.getElem?_set, if_pos rfl, if_pos (List.getElem?_eq_some_iff.1 h).1]
theorem Slots.wid {w : World} {g o n i : Nat} {ss : List SL} {s : SL} (h : Slots w (some ⟨g, o, none⟩) n ss) (hi : ss[i]? = some s) (m0 m1 m2 m3 m4 m5 : Int) :
    Slots ((((((w.setCell ⟨g, o + i * 8, none⟩ (.int .i64 m0)).setCell ⟨g, o + i * 8 + 1, none⟩ (.int .i64 m1)).setCell ⟨g, o + i * 8 + 2, none⟩ (.int .i64 m2)).setCell ⟨g, o + i * 8 + 3, none⟩ (.int .i64 m3)).setCell ⟨g, o + i * 8 + 4, none⟩ (.int .i64 m4)).setCell ⟨g, o + i * 8 + 5, none⟩ (.int .i64 m5)) (some ⟨g, o, none⟩) n (ss.set i ⟨m0, m1, m2, m3, m4, m5, s.ref, s.nsn⟩) := by
  have h0 := h.put hi (j := 0) (by decide) m0
  have h1 := h0.put (set_at hi) (j := 1) (by decide) m1
  rw [List.set_set] at h1
  have h2 := h1.put (set_at hi) (j := 2) (by decide) m2
  rw [List.set_set] at h2
  have h3 := h2.put (set_at hi) (j := 3) (by decide) m3
  rw [List.set_set] at h3
  have h4 := h3.put (set_at hi) (j := 4) (by decide) m4
  rw [List.set_set] at h4
  have h5 := h4.put (set_at hi) (j := 5) (by decide) m5
  rw [List.set_set] at h5
  exact h5

theorem clone_at (n c : Nat) (A : Option Addr) (ss : List SL) (w : World) (hp : Slots w A n ss) (h0 : 0 < n) (hn : n ≤ 6) :
    Calls Try.prog 128 #[.slice A n c] w fun e w' => ∃ g o cap cur, e = .returned (.slice (some ⟨g, o, none⟩) n cap) ∧ Slots w' (some ⟨g, o, none⟩) n ss ∧ w.heap.size ≤ g ∧ Lies w' g 136 cur ∧ Below w.heap.size w w' := by
  refine (clone_any n c A ss w hp h0 hn).mono ?_
  rintro e w' ⟨g, cap, rfl, ho, hb⟩
  obtain ⟨A', c', e', hs⟩ := slots_of_owns ho
  injection e' with e1 e2 e3
  subst e1
  have hg := (ownsRow_block2 ho g rfl).1
  rcases ho.2 with ⟨e1, _⟩ | ⟨g', cap', cur, e1, _, h3, _⟩
  · simp at e1
  · injection e1 with e1; injection e1 with e1; injection e1 with e1
    subst e1
    exact ⟨g, 0, cap, cur, rfl, hs, hg, h3, hb⟩

set_option maxRecDepth 100000 in
set_option maxHeartbeats 6400000 in
theorem replaced_any (d lv ns rt : Int) (n c i : Nat) (A : Option Addr) (ss : List SL) (s : SL) (p0 p1 p2 q0 q1 q2 ref nsn : Int) (w : World) (hp : Slots w A n ss) (hn : n ≤ 6) (hi : ss[i]? = some s) :
    Calls Try.prog 176 #[.agg #[.int .i64 d, .slice A n c, .int .i64 lv, .int .i64 ns, .int .i64 rt], .int .i64 (i : Int), .agg #[.int .i64 p0, .int .i64 p1, .int .i64 p2, .int .i64 q0, .int .i64 q1, .int .i64 q2, .int .i64 ref, .int .i64 nsn]] w fun e w' => ∃ g o cap, e = .returned (.agg #[.int .i64 d, .slice (some ⟨g, o, none⟩) n cap, .int .i64 lv, .int .i64 ns, .int .i64 rt]) ∧ w.heap.size ≤ g ∧ Slots w' (some ⟨g, o, none⟩) n (ss.set i ⟨p0, p1, p2, q0, q1, q2, ref, nsn⟩) ∧ Below w.heap.size w w' := by
  have hin : i < n := by have h1 := (List.getElem?_eq_some_iff.1 hi).1; have h3 := hp.1; omega
  have HP := Lib.hid hp
  have HI := Lib.hid hi
  clear hp hi
  have B := Lib.hid (below_alloc w (.cells #[.int .i64 d, .slice A n c, .int .i64 lv, .int .i64 ns, .int .i64 rt] 142))
  replace B := Lib.hid (B.out.alloc B.out.size (.cells #[.int .i64 p0, .int .i64 p1, .int .i64 p2, .int .i64 q0, .int .i64 q1, .int .i64 q2, .int .i64 ref, .int .i64 nsn] 136))
  replace B := Lib.hid (B.out.alloc B.out.size (.cells #[.int .i64 0, .slice none 0 0, .int .i64 0, .int .i64 0, .int .i64 0] 142))
  have L_b := Lib.hid (((Lies.new w 142 #[.int .i64 d, .slice A n c, .int .i64 lv, .int .i64 ns, .int .i64 rt]).alloc (.cells #[.int .i64 p0, .int .i64 p1, .int .i64 p2, .int .i64 q0, .int .i64 q1, .int .i64 q2, .int .i64 ref, .int .i64 nsn] 136)).alloc (.cells #[.int .i64 0, .slice none 0 0, .int .i64 0, .int .i64 0, .int .i64 0] 142))
  have L_y := Lib.hid ((Lies.new (w.alloc (.cells #[.int .i64 d, .slice A n c, .int .i64 lv, .int .i64 ns, .int .i64 rt] 142)) 136 #[.int .i64 p0, .int .i64 p1, .int .i64 p2, .int .i64 q0, .int .i64 q1, .int .i64 q2, .int .i64 ref, .int .i64 nsn]).alloc (.cells #[.int .i64 0, .slice none 0 0, .int .i64 0, .int .i64 0, .int .i64 0] 142))
  have L_r := Lib.hid (Lies.new ((w.alloc (.cells #[.int .i64 d, .slice A n c, .int .i64 lv, .int .i64 ns, .int .i64 rt] 142)).alloc (.cells #[.int .i64 p0, .int .i64 p1, .int .i64 p2, .int .i64 q0, .int .i64 q1, .int .i64 q2, .int .i64 ref, .int .i64 nsn] 136)) 142 #[.int .i64 0, .slice none 0 0, .int .i64 0, .int .i64 0, .int .i64 0])
  simp only [World.size_alloc] at L_r L_y
  go_enter Try.func176, Try.ntmps176
  go_wp2_with fail
  refine (clone_at _ _ _ ss _ (HP.out.kept B.out) (by omega) hn).mono ?_
  rintro e W1 ⟨g, o, cap, cur, rfl, hs, hg, lg, b1⟩
  simp only [World.size_alloc] at hg
  replace L_b := Lib.hid (L_b.out.kept b1 L_b.out.inside)
  replace L_y := Lib.hid (L_y.out.kept b1 L_y.out.inside)
  replace L_r := Lib.hid (L_r.out.kept b1 L_r.out.inside)
  replace B := Lib.hid (B.out.trans (b1.mono B.out.size))
  have HS := Lib.hid hs
  have L_g := Lib.hid lg
  clear b1 hs lg
  have c4 : W1.cell? ⟨w.heap.size, 1, none⟩ = some (.slice A n c) := L_b.out.cell 1
  have f4 : W1.frozen? ⟨w.heap.size, 1, none⟩ = false := L_b.out.thawed 1
  go_upto_region 2 with fail
  clear c4 f4
  replace HS := Lib.hid (HS.out.far (a := ⟨w.heap.size, 1, none⟩) (by show g ≠ w.heap.size; omega) (.slice (some ⟨g, o, none⟩) n cap))
  replace L_g := Lib.hid (L_g.out.far (a := ⟨w.heap.size, 1, none⟩) (by show g ≠ w.heap.size; omega) (.slice (some ⟨g, o, none⟩) n cap))
  replace L_y := Lib.hid (L_y.out.far (a := ⟨w.heap.size, 1, none⟩) (by show w.heap.size + 1 ≠ w.heap.size; omega) (.slice (some ⟨g, o, none⟩) n cap))
  replace L_r := Lib.hid (L_r.out.far (a := ⟨w.heap.size, 1, none⟩) (by show w.heap.size + 1 + 1 ≠ w.heap.size; omega) (.slice (some ⟨g, o, none⟩) n cap))
  replace L_b : Hid (Lies (W1.setCell ⟨w.heap.size, 1, none⟩ (.slice (some ⟨g, o, none⟩) n cap)) w.heap.size 142 #[.int .i64 d, .slice (some ⟨g, o, none⟩) n cap, .int .i64 lv, .int .i64 ns, .int .i64 rt]) := Lib.hid (L_b.out.set 1 (.slice (some ⟨g, o, none⟩) n cap))
  replace B := Lib.hid (B.out.setCell (p := ⟨w.heap.size, 1, none⟩) (Nat.le_refl _) (.slice (some ⟨g, o, none⟩) n cap))
  generalize hW : W1.setCell ⟨w.heap.size, 1, none⟩ (.slice (some ⟨g, o, none⟩) n cap) = W0 at *
  clear hW
  obtain ⟨b', o', a0, a1, a2, a3, a4, a5, a6, a7, hA, hb', d0, d1, d2, d3, d4, d5, d6, d7, _⟩ := HS.out.cellAt hin
  injection hA with hA
  injection hA with hA1 hA2
  subst hA1 hA2
  have hin' : (i : Int) < (n : Int) := by omega
  have k4 : W0.cell? ⟨w.heap.size, 1, none⟩ = some (.slice (some ⟨g, o, none⟩) n cap) := L_b.out.cell 1
  have y0 : W0.cell? ⟨w.heap.size + 1, 0, none⟩ = some (.int .i64 p0) := L_y.out.cell 0
  have y1 : W0.cell? ⟨w.heap.size + 1, 1, none⟩ = some (.int .i64 p1) := L_y.out.cell 1
  have y2 : W0.cell? ⟨w.heap.size + 1, 2, none⟩ = some (.int .i64 p2) := L_y.out.cell 2
  have y3 : W0.cell? ⟨w.heap.size + 1, 3, none⟩ = some (.int .i64 q0) := L_y.out.cell 3
  have y4 : W0.cell? ⟨w.heap.size + 1, 4, none⟩ = some (.int .i64 q1) := L_y.out.cell 4
  have y5 : W0.cell? ⟨w.heap.size + 1, 5, none⟩ = some (.int .i64 q2) := L_y.out.cell 5
  have y6 : W0.cell? ⟨w.heap.size + 1, 6, none⟩ = some (.int .i64 ref) := L_y.out.cell 6
  have y7 : W0.cell? ⟨w.heap.size + 1, 7, none⟩ = some (.int .i64 nsn) := L_y.out.cell 7
  have fz0 : W0.frozen? ⟨g, o + i * 8, none⟩ = false := L_g.out.thawed _
  have fz1 : W0.frozen? ⟨g, o + i * 8 + 1, none⟩ = false := L_g.out.thawed _
  have fz2 : W0.frozen? ⟨g, o + i * 8 + 2, none⟩ = false := L_g.out.thawed _
  have fz3 : W0.frozen? ⟨g, o + i * 8 + 3, none⟩ = false := L_g.out.thawed _
  have fz4 : W0.frozen? ⟨g, o + i * 8 + 4, none⟩ = false := L_g.out.thawed _
  have fz5 : W0.frozen? ⟨g, o + i * 8 + 5, none⟩ = false := L_g.out.thawed _
  have fz6 : W0.frozen? ⟨g, o + i * 8 + 6, none⟩ = false := L_g.out.thawed _
  have fz7 : W0.frozen? ⟨g, o + i * 8 + 7, none⟩ = false := L_g.out.thawed _
  go_upto_region 3 with fail
  have HSL := Lib.hid (HS.out.put8 HI.out ⟨p0, p1, p2, q0, q1, q2, ref, nsn⟩)
  have BB := Lib.hid (putSlot_below (g := g) (p := o + i * 8) B.out (by omega) ⟨p0, p1, p2, q0, q1, q2, ref, nsn⟩)
  have LR : Hid (Lies (putSlot W0 g (o + i * 8) ⟨p0, p1, p2, q0, q1, q2, ref, nsn⟩) (w.heap.size + 1 + 1) 142 #[.int .i64 0, .slice none 0 0, .int .i64 0, .int .i64 0, .int .i64 0]) := by
    show Lies _ _ _ _
    unfold putSlot
    with_reducible (repeat (first | exact L_r.out | refine Lies.far ?_ ?_ _))
    all_goals (show w.heap.size + 1 + 1 ≠ g; omega)
  have LB : Hid (Lies (putSlot W0 g (o + i * 8) ⟨p0, p1, p2, q0, q1, q2, ref, nsn⟩) w.heap.size 142 #[.int .i64 d, .slice (some ⟨g, o, none⟩) n cap, .int .i64 lv, .int .i64 ns, .int .i64 rt]) := by
    show Lies _ _ _ _
    unfold putSlot
    with_reducible (repeat (first | exact L_b.out | refine Lies.far ?_ ?_ _))
    all_goals (show w.heap.size ≠ g; omega)
  have hPW : Hid (putSlot W0 g (o + i * 8) ⟨p0, p1, p2, q0, q1, q2, ref, nsn⟩ = ((((((((W0.setCell ⟨g, o + i * 8, none⟩ (.int .i64 p0)).setCell ⟨g, o + i * 8 + 1, none⟩ (.int .i64 p1)).setCell ⟨g, o + i * 8 + 2, none⟩ (.int .i64 p2)).setCell ⟨g, o + i * 8 + 3, none⟩ (.int .i64 q0)).setCell ⟨g, o + i * 8 + 4, none⟩ (.int .i64 q1)).setCell ⟨g, o + i * 8 + 5, none⟩ (.int .i64 q2)).setCell ⟨g, o + i * 8 + 6, none⟩ (.int .i64 ref)).setCell ⟨g, o + i * 8 + 7, none⟩ (.int .i64 nsn))) := rfl
  rw [hPW.out] at HSL BB LR LB
  clear L_b L_y L_r L_g HS B k4 y0 y1 y2 y3 y4 y5 y6 y7 d0 d1 d2 d3 d4 d5 d6 d7 fz0 fz1 fz2 fz3 fz4 fz5 fz6 fz7 hPW
  generalize hW : ((((((((W0.setCell ⟨g, o + i * 8, none⟩ (.int .i64 p0)).setCell ⟨g, o + i * 8 + 1, none⟩ (.int .i64 p1)).setCell ⟨g, o + i * 8 + 2, none⟩ (.int .i64 p2)).setCell ⟨g, o + i * 8 + 3, none⟩ (.int .i64 q0)).setCell ⟨g, o + i * 8 + 4, none⟩ (.int .i64 q1)).setCell ⟨g, o + i * 8 + 5, none⟩ (.int .i64 q2)).setCell ⟨g, o + i * 8 + 6, none⟩ (.int .i64 ref)).setCell ⟨g, o + i * 8 + 7, none⟩ (.int .i64 nsn)) = W5 at *
  clear hW
  have c0 : W5.cell? ⟨w.heap.size, 0, none⟩ = some (.int .i64 d) := LB.out.cell 0
  have c1 : W5.cell? ⟨w.heap.size, 1, none⟩ = some (.slice (some ⟨g, o, none⟩) n cap) := LB.out.cell 1
  have c2 : W5.cell? ⟨w.heap.size, 2, none⟩ = some (.int .i64 lv) := LB.out.cell 2
  have c3 : W5.cell? ⟨w.heap.size, 3, none⟩ = some (.int .i64 ns) := LB.out.cell 3
  have c4 : W5.cell? ⟨w.heap.size, 4, none⟩ = some (.int .i64 rt) := LB.out.cell 4
  have z0 : W5.cell? ⟨w.heap.size + 1 + 1, 0, none⟩ = some (.int .i64 0) := LR.out.cell 0
  have z1 : W5.cell? ⟨w.heap.size + 1 + 1, 1, none⟩ = some (.slice none 0 0) := LR.out.cell 1
  have z2 : W5.cell? ⟨w.heap.size + 1 + 1, 2, none⟩ = some (.int .i64 0) := LR.out.cell 2
  have z3 : W5.cell? ⟨w.heap.size + 1 + 1, 3, none⟩ = some (.int .i64 0) := LR.out.cell 3
  have z4 : W5.cell? ⟨w.heap.size + 1 + 1, 4, none⟩ = some (.int .i64 0) := LR.out.cell 4
  have y0 : W5.frozen? ⟨w.heap.size + 1 + 1, 0, none⟩ = false := LR.out.thawed 0
  have y1 : W5.frozen? ⟨w.heap.size + 1 + 1, 1, none⟩ = false := LR.out.thawed 1
  have y2 : W5.frozen? ⟨w.heap.size + 1 + 1, 2, none⟩ = false := LR.out.thawed 2
  have y3 : W5.frozen? ⟨w.heap.size + 1 + 1, 3, none⟩ = false := LR.out.thawed 3
  have y4 : W5.frozen? ⟨w.heap.size + 1 + 1, 4, none⟩ = false := LR.out.thawed 4
  have gn : g ≠ w.heap.size + 1 + 1 := by omega
  go_wp2
  refine bodyPost_ret (v := .agg #[.int .i64 d, .slice (some ⟨g, o, none⟩) n cap, .int .i64 lv, .int .i64 ns, .int .i64 rt]) (by simp [results, Try.results176, go_sem, z0, z1, z2, z3, z4]) rfl ⟨g, o, ⟨cap, rfl⟩, by omega, ?_, ?_⟩
  · with_reducible (repeat (first | exact HSL.out | refine Slots.far ?_ ?_ _))
    all_goals exact gn
  · with_reducible (repeat (first | exact BB.out | refine Below.setCell ?_ ?_ _))
    all_goals (show w.heap.size ≤ w.heap.size + 1 + 1; omega)

set_option maxRecDepth 100000 in
set_option maxHeartbeats 3200000 in
theorem widened_any (d lv ns rt : Int) (n c dd i : Nat) (A : Option Addr) (vs : List EVal) (ss : List SL) (v : EVal) (r0 r1 r2 t0 t1 t2 : Int) (x1 x2 : List Int) (w : World) (hp : Slots w A n ss) (ho : SlotsOf vs ss) (hn : n ≤ 6) (hv : vs[i]? = some v) (hl : LensE dd vs) (hx1 : Pad x1 r0 r1 r2) (hx2 : Pad x2 t0 t1 t2) (l1 : x1.length = dd) (l2 : x2.length = dd) :
    Calls Try.prog 173 #[.agg #[.int .i64 d, .slice A n c, .int .i64 lv, .int .i64 ns, .int .i64 rt], .int .i64 (i : Int), .agg #[.int .i64 r0, .int .i64 r1, .int .i64 r2, .int .i64 t0, .int .i64 t1, .int .i64 t2]] w fun e w' => ∃ g o cap s', e = .returned (.agg #[.int .i64 d, .slice (some ⟨g, o, none⟩) n cap, .int .i64 lv, .int .i64 ns, .int .i64 rt]) ∧ Slots w' (some ⟨g, o, none⟩) n (ss.set i s') ∧ SlotsOf (vs.set i (widE x1 x2 v)) (ss.set i s') ∧ Below w.heap.size w w' := by
  have hin : i < n := by have h1 := (List.getElem?_eq_some_iff.1 hv).1; have h2 := ho.1; have h3 := hp.1; omega
  have LV := Lib.hid (hl i v hv)
  have HO := Lib.hid ho
  have HV := Lib.hid hv
  have HX1 := Lib.hid hx1
  have HX2 := Lib.hid hx2
  have L1 := Lib.hid l1
  have L2 := Lib.hid l2
  have B := Lib.hid (below_alloc w (.cells #[.int .i64 d, .slice A n c, .int .i64 lv, .int .i64 ns, .int .i64 rt] 142))
  replace B := Lib.hid (B.out.alloc B.out.size (.cells #[.int .i64 r0, .int .i64 r1, .int .i64 r2, .int .i64 t0, .int .i64 t1, .int .i64 t2] 94))
  replace B := Lib.hid (B.out.alloc B.out.size (.cells #[.int .i64 0, .slice none 0 0, .int .i64 0, .int .i64 0, .int .i64 0] 142))
  have L_b := Lib.hid (((Lies.new w 142 #[.int .i64 d, .slice A n c, .int .i64 lv, .int .i64 ns, .int .i64 rt]).alloc (.cells #[.int .i64 r0, .int .i64 r1, .int .i64 r2, .int .i64 t0, .int .i64 t1, .int .i64 t2] 94)).alloc (.cells #[.int .i64 0, .slice none 0 0, .int .i64 0, .int .i64 0, .int .i64 0] 142))
  have L_y := Lib.hid ((Lies.new (w.alloc (.cells #[.int .i64 d, .slice A n c, .int .i64 lv, .int .i64 ns, .int .i64 rt] 142)) 94 #[.int .i64 r0, .int .i64 r1, .int .i64 r2, .int .i64 t0, .int .i64 t1, .int .i64 t2]).alloc (.cells #[.int .i64 0, .slice none 0 0, .int .i64 0, .int .i64 0, .int .i64 0] 142))
  have L_r := Lib.hid (Lies.new ((w.alloc (.cells #[.int .i64 d, .slice A n c, .int .i64 lv, .int .i64 ns, .int .i64 rt] 142)).alloc (.cells #[.int .i64 r0, .int .i64 r1, .int .i64 r2, .int .i64 t0, .int .i64 t1, .int .i64 t2] 94)) 142 #[.int .i64 0, .slice none 0 0, .int .i64 0, .int .i64 0, .int .i64 0])
  simp only [World.size_alloc] at L_r L_y
  have HS := Lib.hid (hp.kept B.out)
  clear hp ho hl hv hx1 hx2 l1 l2
  go_enter Try.func173, Try.ntmps173
  go_upto_region 1 with fail
  generalize hW : (((w.alloc (.cells #[.int .i64 d, .slice A n c, .int .i64 lv, .int .i64 ns, .int .i64 rt] 142)).alloc (.cells #[.int .i64 r0, .int .i64 r1, .int .i64 r2, .int .i64 t0, .int .i64 t1, .int .i64 t2] 94)).alloc (.cells #[.int .i64 0, .slice none 0 0, .int .i64 0, .int .i64 0, .int .i64 0] 142)) = W0 at *
  have hW0 : W0.heap.size = w.heap.size + 1 + 1 + 1 := by rw [← hW]; simp only [World.size_alloc]
  have hW1 : w.heap.size + 1 + 1 < W0.heap.size := by omega
  clear hW hW0
  obtain ⟨b', o', p0, p1, p2, q0, q1, q2, ref, nsn, rfl, hb', d0, d1, d2, d3, d4, d5, d6, d7, hx⟩ := HS.out.cellAt hin
  have SO := Lib.hid (HO.out.2 i v _ HV.out hx.out)
  have hin' : (i : Int) < (n : Int) := by omega
  have k4 : W0.cell? ⟨w.heap.size, 1, none⟩ = some (.slice (some ⟨b', o', none⟩) n c) := L_b.out.cell 1
  go_upto_region 2 with fail
  have LS := Lib.hid (Lies.new W0 136 #[.int .i64 p0, .int .i64 p1, .int .i64 p2, .int .i64 q0, .int .i64 q1, .int .i64 q2, .int .i64 ref, .int .i64 nsn])
  have HS1 := Lib.hid (HS.out.kept (below_alloc W0 (.cells #[.int .i64 p0, .int .i64 p1, .int .i64 p2, .int .i64 q0, .int .i64 q1, .int .i64 q2, .int .i64 ref, .int .i64 nsn] 136)))
  replace L_b := Lib.hid (L_b.out.alloc (.cells #[.int .i64 p0, .int .i64 p1, .int .i64 p2, .int .i64 q0, .int .i64 q1, .int .i64 q2, .int .i64 ref, .int .i64 nsn] 136))
  replace L_y := Lib.hid (L_y.out.alloc (.cells #[.int .i64 p0, .int .i64 p1, .int .i64 p2, .int .i64 q0, .int .i64 q1, .int .i64 q2, .int .i64 ref, .int .i64 nsn] 136))
  replace L_r := Lib.hid (L_r.out.alloc (.cells #[.int .i64 p0, .int .i64 p1, .int .i64 p2, .int .i64 q0, .int .i64 q1, .int .i64 q2, .int .i64 ref, .int .i64 nsn] 136))
  replace B := Lib.hid (B.out.alloc B.out.size (.cells #[.int .i64 p0, .int .i64 p1, .int .i64 p2, .int .i64 q0, .int .i64 q1, .int .i64 q2, .int .i64 ref, .int .i64 nsn] 136))
  clear k4 d0 d1 d2 d3 d4 d5 d6 d7 HS
  generalize hW : W0.alloc (.cells #[.int .i64 p0, .int .i64 p1, .int .i64 p2, .int .i64 q0, .int .i64 q1, .int .i64 q2, .int .i64 ref, .int .i64 nsn] 136) = W1 at *
  have hW2 : W0.heap.size < W1.heap.size := LS.out.inside
  clear hW
  have nb := Nat.ne_of_lt hb'
  have y0 : W1.cell? ⟨w.heap.size + 1, 0, none⟩ = some (.int .i64 r0) := L_y.out.cell 0
  have y1 : W1.cell? ⟨w.heap.size + 1, 1, none⟩ = some (.int .i64 r1) := L_y.out.cell 1
  have y2 : W1.cell? ⟨w.heap.size + 1, 2, none⟩ = some (.int .i64 r2) := L_y.out.cell 2
  have y3 : W1.cell? ⟨w.heap.size + 1, 3, none⟩ = some (.int .i64 t0) := L_y.out.cell 3
  have y4 : W1.cell? ⟨w.heap.size + 1, 4, none⟩ = some (.int .i64 t1) := L_y.out.cell 4
  have y5 : W1.cell? ⟨w.heap.size + 1, 5, none⟩ = some (.int .i64 t2) := L_y.out.cell 5
  have s0 : W1.cell? ⟨W0.heap.size, 0, none⟩ = some (.int .i64 p0) := LS.out.cell 0
  have s1 : W1.cell? ⟨W0.heap.size, 1, none⟩ = some (.int .i64 p1) := LS.out.cell 1
  have s2 : W1.cell? ⟨W0.heap.size, 2, none⟩ = some (.int .i64 p2) := LS.out.cell 2
  have s3 : W1.cell? ⟨W0.heap.size, 3, none⟩ = some (.int .i64 q0) := LS.out.cell 3
  have s4 : W1.cell? ⟨W0.heap.size, 4, none⟩ = some (.int .i64 q1) := LS.out.cell 4
  have s5 : W1.cell? ⟨W0.heap.size, 5, none⟩ = some (.int .i64 q2) := LS.out.cell 5
  have s6 : W1.cell? ⟨W0.heap.size, 6, none⟩ = some (.int .i64 ref) := LS.out.cell 6
  have s7 : W1.cell? ⟨W0.heap.size, 7, none⟩ = some (.int .i64 nsn) := LS.out.cell 7
  go_wp2_with fail
  refine (union_any p0 p1 p2 q0 q1 q2 r0 r1 r2 t0 t1 t2 _).mono ?_
  rintro e W2 ⟨rfl, b2⟩
  clear y0 y1 y2 y3 y4 y5 s0 s1 s2 s3 s4 s5 s6 s7
  replace L_b := Lib.hid (L_b.out.kept b2 L_b.out.inside)
  replace L_r := Lib.hid (L_r.out.kept b2 L_r.out.inside)
  replace LS := Lib.hid (LS.out.kept b2 LS.out.inside)
  have HS2 := Lib.hid (HS1.out.kept b2)
  replace B := Lib.hid (B.out.trans (b2.mono B.out.size))
  clear b2 HS1
  have s0 : W2.cell? ⟨W0.heap.size, 0, none⟩ = some (.int .i64 p0) := LS.out.cell 0
  have s1 : W2.cell? ⟨W0.heap.size, 1, none⟩ = some (.int .i64 p1) := LS.out.cell 1
  have s2 : W2.cell? ⟨W0.heap.size, 2, none⟩ = some (.int .i64 p2) := LS.out.cell 2
  have s3 : W2.cell? ⟨W0.heap.size, 3, none⟩ = some (.int .i64 q0) := LS.out.cell 3
  have s4 : W2.cell? ⟨W0.heap.size, 4, none⟩ = some (.int .i64 q1) := LS.out.cell 4
  have s5 : W2.cell? ⟨W0.heap.size, 5, none⟩ = some (.int .i64 q2) := LS.out.cell 5
  have s6 : W2.cell? ⟨W0.heap.size, 6, none⟩ = some (.int .i64 ref) := LS.out.cell 6
  have s7 : W2.cell? ⟨W0.heap.size, 7, none⟩ = some (.int .i64 nsn) := LS.out.cell 7
  have f0 : W2.frozen? ⟨W0.heap.size, 0, none⟩ = false := LS.out.thawed 0
  have f1 : W2.frozen? ⟨W0.heap.size, 1, none⟩ = false := LS.out.thawed 1
  have f2 : W2.frozen? ⟨W0.heap.size, 2, none⟩ = false := LS.out.thawed 2
  have f3 : W2.frozen? ⟨W0.heap.size, 3, none⟩ = false := LS.out.thawed 3
  have f4 : W2.frozen? ⟨W0.heap.size, 4, none⟩ = false := LS.out.thawed 4
  have f5 : W2.frozen? ⟨W0.heap.size, 5, none⟩ = false := LS.out.thawed 5
  go_upto_region 3 with fail
  clear s0 s1 s2 s3 s4 s5 s6 s7 f0 f1 f2 f3 f4 f5
  replace LS := Lib.hid ((((((LS.out.set 0 (.int .i64 (min p0 r0))).set 1 (.int .i64 (min p1 r1))).set 2 (.int .i64 (min p2 r2))).set 3 (.int .i64 (max q0 t0))).set 4 (.int .i64 (max q1 t1))).set 5 (.int .i64 (max q2 t2)))
  have HS3 : Hid (Slots (((((((W2.setCell ⟨W0.heap.size, 0, none⟩ (.int .i64 (min p0 r0))).setCell ⟨W0.heap.size, 1, none⟩ (.int .i64 (min p1 r1))).setCell ⟨W0.heap.size, 2, none⟩ (.int .i64 (min p2 r2))).setCell ⟨W0.heap.size, 3, none⟩ (.int .i64 (max q0 t0))).setCell ⟨W0.heap.size, 4, none⟩ (.int .i64 (max q1 t1))).setCell ⟨W0.heap.size, 5, none⟩ (.int .i64 (max q2 t2)))) (some ⟨b', o', none⟩) n ss) := by
    show Slots _ _ _ _
    with_reducible (repeat (first | exact HS2.out | refine Slots.far ?_ ?_ _))
    all_goals exact nb
  replace L_b : Hid (Lies (((((((W2.setCell ⟨W0.heap.size, 0, none⟩ (.int .i64 (min p0 r0))).setCell ⟨W0.heap.size, 1, none⟩ (.int .i64 (min p1 r1))).setCell ⟨W0.heap.size, 2, none⟩ (.int .i64 (min p2 r2))).setCell ⟨W0.heap.size, 3, none⟩ (.int .i64 (max q0 t0))).setCell ⟨W0.heap.size, 4, none⟩ (.int .i64 (max q1 t1))).setCell ⟨W0.heap.size, 5, none⟩ (.int .i64 (max q2 t2)))) w.heap.size 142 #[.int .i64 d, .slice (some ⟨b', o', none⟩) n c, .int .i64 lv, .int .i64 ns, .int .i64 rt]) := by
    show Lies _ _ _ _
    with_reducible (repeat (first | exact L_b.out | refine Lies.far ?_ ?_ _))
    all_goals (show w.heap.size ≠ W0.heap.size; omega)
  replace L_r : Hid (Lies (((((((W2.setCell ⟨W0.heap.size, 0, none⟩ (.int .i64 (min p0 r0))).setCell ⟨W0.heap.size, 1, none⟩ (.int .i64 (min p1 r1))).setCell ⟨W0.heap.size, 2, none⟩ (.int .i64 (min p2 r2))).setCell ⟨W0.heap.size, 3, none⟩ (.int .i64 (max q0 t0))).setCell ⟨W0.heap.size, 4, none⟩ (.int .i64 (max q1 t1))).setCell ⟨W0.heap.size, 5, none⟩ (.int .i64 (max q2 t2)))) (w.heap.size + 1 + 1) 142 #[.int .i64 0, .slice none 0 0, .int .i64 0, .int .i64 0, .int .i64 0]) := by
    show Lies _ _ _ _
    with_reducible (repeat (first | exact L_r.out | refine Lies.far ?_ ?_ _))
    all_goals (show w.heap.size + 1 + 1 ≠ W0.heap.size; omega)
  replace B : Hid (Below w.heap.size w (((((((W2.setCell ⟨W0.heap.size, 0, none⟩ (.int .i64 (min p0 r0))).setCell ⟨W0.heap.size, 1, none⟩ (.int .i64 (min p1 r1))).setCell ⟨W0.heap.size, 2, none⟩ (.int .i64 (min p2 r2))).setCell ⟨W0.heap.size, 3, none⟩ (.int .i64 (max q0 t0))).setCell ⟨W0.heap.size, 4, none⟩ (.int .i64 (max q1 t1))).setCell ⟨W0.heap.size, 5, none⟩ (.int .i64 (max q2 t2))))) := by
    show Below _ _ _
    with_reducible (repeat (first | exact B.out | refine Below.setCell ?_ ?_ _))
    all_goals (show w.heap.size ≤ W0.heap.size; omega)
  clear HS2
  generalize hW : ((((((W2.setCell ⟨W0.heap.size, 0, none⟩ (.int .i64 (min p0 r0))).setCell ⟨W0.heap.size, 1, none⟩ (.int .i64 (min p1 r1))).setCell ⟨W0.heap.size, 2, none⟩ (.int .i64 (min p2 r2))).setCell ⟨W0.heap.size, 3, none⟩ (.int .i64 (max q0 t0))).setCell ⟨W0.heap.size, 4, none⟩ (.int .i64 (max q1 t1))).setCell ⟨W0.heap.size, 5, none⟩ (.int .i64 (max q2 t2))) = W3 at *
  clear hW
  have c0 : W3.cell? ⟨w.heap.size, 0, none⟩ = some (.int .i64 d) := L_b.out.cell 0
  have c1 : W3.cell? ⟨w.heap.size, 1, none⟩ = some (.slice (some ⟨b', o', none⟩) n c) := L_b.out.cell 1
  have c2 : W3.cell? ⟨w.heap.size, 2, none⟩ = some (.int .i64 lv) := L_b.out.cell 2
  have c3 : W3.cell? ⟨w.heap.size, 3, none⟩ = some (.int .i64 ns) := L_b.out.cell 3
  have c4 : W3.cell? ⟨w.heap.size, 4, none⟩ = some (.int .i64 rt) := L_b.out.cell 4
  have s0 : W3.cell? ⟨W0.heap.size, 0, none⟩ = some (.int .i64 (min p0 r0)) := LS.out.cell 0
  have s1 : W3.cell? ⟨W0.heap.size, 1, none⟩ = some (.int .i64 (min p1 r1)) := LS.out.cell 1
  have s2 : W3.cell? ⟨W0.heap.size, 2, none⟩ = some (.int .i64 (min p2 r2)) := LS.out.cell 2
  have s3 : W3.cell? ⟨W0.heap.size, 3, none⟩ = some (.int .i64 (max q0 t0)) := LS.out.cell 3
  have s4 : W3.cell? ⟨W0.heap.size, 4, none⟩ = some (.int .i64 (max q1 t1)) := LS.out.cell 4
  have s5 : W3.cell? ⟨W0.heap.size, 5, none⟩ = some (.int .i64 (max q2 t2)) := LS.out.cell 5
  have s6 : W3.cell? ⟨W0.heap.size, 6, none⟩ = some (.int .i64 ref) := LS.out.cell 6
  have s7 : W3.cell? ⟨W0.heap.size, 7, none⟩ = some (.int .i64 nsn) := LS.out.cell 7
  go_wp2_with fail
  refine (replaced_any d lv ns rt n c i (some ⟨b', o', none⟩) ss _ (min p0 r0) (min p1 r1) (min p2 r2) (max q0 t0) (max q1 t1) (max q2 t2) ref nsn _ HS3.out hn hx.out).mono ?_
  rintro e W4 ⟨g, o, cap, rfl, hg4, hs4, b4⟩
  have hlr := L_r.out.inside
  have gn : g ≠ w.heap.size + 1 + 1 := by omega
  have hgs := B.out.size
  have HSL := Lib.hid hs4
  have HO2 : Hid (SlotsOf (vs.set i (widE x1 x2 v)) (ss.set i ⟨min p0 r0, min p1 r1, min p2 r2, max q0 t0, max q1 t1, max q2 t2, ref, nsn⟩)) :=
    HO.out.put ⟨pad_mins (by rw [LV.out.1, L1.out]) SO.out.1 HX1.out, pad_maxs (by rw [LV.out.2, L2.out]) SO.out.2.1 HX2.out, SO.out.2.2.1, SO.out.2.2.2⟩
  have LR := Lib.hid (L_r.out.kept b4 L_r.out.inside)
  have BB := Lib.hid (B.out.trans (b4.mono B.out.size))
  clear b4 hs4 c0 c1 c2 c3 c4 s0 s1 s2 s3 s4 s5 s6 s7
  have z0 : W4.cell? ⟨w.heap.size + 1 + 1, 0, none⟩ = some (.int .i64 0) := LR.out.cell 0
  have z1 : W4.cell? ⟨w.heap.size + 1 + 1, 1, none⟩ = some (.slice none 0 0) := LR.out.cell 1
  have z2 : W4.cell? ⟨w.heap.size + 1 + 1, 2, none⟩ = some (.int .i64 0) := LR.out.cell 2
  have z3 : W4.cell? ⟨w.heap.size + 1 + 1, 3, none⟩ = some (.int .i64 0) := LR.out.cell 3
  have z4 : W4.cell? ⟨w.heap.size + 1 + 1, 4, none⟩ = some (.int .i64 0) := LR.out.cell 4
  have y0 : W4.frozen? ⟨w.heap.size + 1 + 1, 0, none⟩ = false := LR.out.thawed 0
  have y1 : W4.frozen? ⟨w.heap.size + 1 + 1, 1, none⟩ = false := LR.out.thawed 1
  have y2 : W4.frozen? ⟨w.heap.size + 1 + 1, 2, none⟩ = false := LR.out.thawed 2
  have y3 : W4.frozen? ⟨w.heap.size + 1 + 1, 3, none⟩ = false := LR.out.thawed 3
  have y4 : W4.frozen? ⟨w.heap.size + 1 + 1, 4, none⟩ = false := LR.out.thawed 4
  go_wp2
  refine bodyPost_ret (v := .agg #[.int .i64 d, .slice (some ⟨g, o, none⟩) n cap, .int .i64 lv, .int .i64 ns, .int .i64 rt]) (by simp [results, Try.results173, go_sem, z0, z1, z2, z3, z4]) rfl ⟨g, o, cap, _, rfl, ?_, HO2.out, ?_⟩
  · with_reducible (repeat (first | exact HSL.out | refine Slots.far ?_ ?_ _))
    all_goals exact gn
  · with_reducible (repeat (first | exact BB.out | refine Below.setCell ?_ ?_ _))
    all_goals (show w.heap.size ≤ w.heap.size + 1 + 1; omega)

end Go.Proofs.Ytfpmbkfikfdmkaa

/- The walk of impl.WidenEntry. No condition but lengths. -/
namespace Go.Proofs.Ytfpmbkfikfdmkaa
open Go.RowKit

/-- WidenEntry's code. -/
def widenC (f g fd : Int) : Int := if f ≠ 0 then f else if g ≠ 0 then g else if fd < 0 then 4 else 0
/-- What WidenEntry answers. -/
def widenR (lv ns rt : Int) (vs : List EVal) (d r : Int) (x1 x2 : List Int) : Int × Int × Int × Int × List EVal := nrOf (widenC (nodeF lv ns rt vs d) (rf x1 x2 d) (findE r vs)) lv ns rt (widL x1 x2 (findE r vs).toNat vs)
theorem widenR_no {lv ns rt d r cd : Int} {vs : List EVal} {x1 x2 : List Int} (h : widenC (nodeF lv ns rt vs d) (rf x1 x2 d) (findE r vs) = cd) (hc : cd ≠ 0) : widenR lv ns rt vs d r x1 x2 = (cd, 0, 0, 0, []) := by unfold widenR; rw [h]; exact nrOf_no hc
theorem widenR_yes {lv ns rt d r : Int} {vs : List EVal} {x1 x2 : List Int} {i : Nat} {v : EVal} (h : widenC (nodeF lv ns rt vs d) (rf x1 x2 d) (findE r vs) = 0) (hi : findE r vs = (i : Int)) (hv : vs[i]? = some v) : widenR lv ns rt vs d r x1 x2 = (0, lv, ns, rt, vs.set i (widE x1 x2 v)) := by
  unfold widenR; rw [h, nrOf_yes rfl, hi, Int.toNat_natCast, widL_at hv]

set_option maxRecDepth 100000 in
set_option maxHeartbeats 6400000 in
theorem implWidenEntry_any (lv ns rt d r : Int) (n c n1 c1 n2 c2 lo1 lo2 : Nat) (A A1 A2 : Option Addr) (ps : List EV) (x1 x2 : List Int) (w : World) (hp : Entries w A n ps) (h1 : Ints w lo1 A1 n1 x1) (h2 : Ints w lo2 A2 n2 x2) (hn : n ≤ maxLen) (m1 : n1 ≤ maxLen) (m2 : n2 ≤ maxLen) :
    Calls Try.prog 57 #[.agg #[.int .i64 lv, .int .i64 ns, .int .i64 rt, .slice A n c], .int .i64 d, .int .i64 r, .agg #[.slice A1 n1 c1, .slice A2 n2 c2]] w (ResPost (widenR lv ns rt (ps.map EV.val) d r x1 x2) w) := by
  have HP := Lib.hid hp
  have I_1 := Lib.hid h1
  have I_2 := Lib.hid h2
  have HL : Hid ((ps.map EV.val).length = n) := by show List.length _ = n; rw [List.length_map]; exact hp.1
  clear hp h1 h2
  have B := Lib.hid (below_alloc w (.cells #[.int .i64 lv, .int .i64 ns, .int .i64 rt, .slice A n c] 61))
  replace B := Lib.hid (B.out.alloc B.out.size (.cells #[.slice A1 n1 c1, .slice A2 n2 c2] 26))
  replace B := Lib.hid (B.out.alloc B.out.size (.cells #[.int .i64 0, .int .i64 0, .int .i64 0, .int .i64 0, .slice none 0 0] 63))
  have L_e := Lib.hid ((Lies.new (w.alloc (.cells #[.int .i64 lv, .int .i64 ns, .int .i64 rt, .slice A n c] 61)) 26 #[.slice A1 n1 c1, .slice A2 n2 c2]).alloc (.cells #[.int .i64 0, .int .i64 0, .int .i64 0, .int .i64 0, .slice none 0 0] 63))
  have L_r := Lib.hid (Lies.new ((w.alloc (.cells #[.int .i64 lv, .int .i64 ns, .int .i64 rt, .slice A n c] 61)).alloc (.cells #[.slice A1 n1 c1, .slice A2 n2 c2] 26)) 63 #[.int .i64 0, .int .i64 0, .int .i64 0, .int .i64 0, .slice none 0 0])
  simp only [World.size_alloc] at L_e L_r
  have hmf := run_makeFunc
  go_enter Try.func57, Try.ntmps57
  go_wp2_with fail
  refine (readNode_any _ _ _ _ _ _ _ ps _ (HP.out.kept B.out) hn).mono ?_
  rintro e W1 ⟨b1, h⟩
  replace L_e := Lib.hid (L_e.out.kept b1 L_e.out.inside)
  replace L_r := Lib.hid (L_r.out.kept b1 L_r.out.inside)
  replace B := Lib.hid (B.out.trans (b1.mono B.out.size))
  clear b1
  rcases h with ⟨hz, rfl⟩ | ⟨hz, A', c', ss, rfl, hS, hO⟩
  · have hz1 : (nodeF lv ns rt (ps.map EV.val) d != 0) = true := by simpa using hz
    have HR : Hid (widenR lv ns rt (ps.map EV.val) d r x1 x2 = (nodeF lv ns rt (ps.map EV.val) d, 0, 0, 0, [])) := widenR_no (by unfold widenC; rw [if_pos hz]) hz
    clear hz
    have z0 : W1.cell? ⟨w.heap.size + 1 + 1, 0, none⟩ = some (.int .i64 0) := L_r.out.cell 0
    have y0 : W1.frozen? ⟨w.heap.size + 1 + 1, 0, none⟩ = false := L_r.out.thawed 0
    have z1 : W1.cell? ⟨w.heap.size + 1 + 1, 1, none⟩ = some (.int .i64 0) := L_r.out.cell 1
    have y1 : W1.frozen? ⟨w.heap.size + 1 + 1, 1, none⟩ = false := L_r.out.thawed 1
    have z2 : W1.cell? ⟨w.heap.size + 1 + 1, 2, none⟩ = some (.int .i64 0) := L_r.out.cell 2
    have y2 : W1.frozen? ⟨w.heap.size + 1 + 1, 2, none⟩ = false := L_r.out.thawed 2
    have z3 : W1.cell? ⟨w.heap.size + 1 + 1, 3, none⟩ = some (.int .i64 0) := L_r.out.cell 3
    have y3 : W1.frozen? ⟨w.heap.size + 1 + 1, 3, none⟩ = false := L_r.out.thawed 3
    have z4 : W1.cell? ⟨w.heap.size + 1 + 1, 4, none⟩ = some (.slice none 0 0) := L_r.out.cell 4
    have y4 : W1.frozen? ⟨w.heap.size + 1 + 1, 4, none⟩ = false := L_r.out.thawed 4
    go_wp2
    refine bodyPost_ret (v := .agg #[.int .i64 (nodeF lv ns rt (ps.map EV.val) d), .int .i64 0, .int .i64 0, .int .i64 0, .slice none 0 0]) (by simp [results, Try.results57, go_sem, z0, z1, z2, z3, z4]) rfl ?_
    refine ⟨none, 0, 0, [], by rw [HR.out], EntriesRes.nil _ _, by rw [HR.out]; rfl, by decide, ?_⟩
    with_reducible (repeat (first | exact B.out | refine Below.setCell ?_ ?_ _))
    all_goals (show w.heap.size ≤ w.heap.size + 1 + 1; omega)
  have HS := Lib.hid hS
  have HO := Lib.hid hO
  have HZ := Lib.hid hz
  obtain ⟨hok, hn5, hent, _, _⟩ := nodeF_zero hz
  have HE := Lib.hid (lens_of hent)
  have hd2 : 2 ≤ d := hok.1.1
  have hd3 : d ≤ 3 := hok.1.2
  have hn5' : n ≤ 5 := by rw [HL.out] at hn5; exact hn5
  clear hS hO hz hok hent hn5
  have q0 : W1.cell? ⟨w.heap.size + 1, 0, none⟩ = some (.slice A1 n1 c1) := L_e.out.cell 0
  have q1 : W1.cell? ⟨w.heap.size + 1, 1, none⟩ = some (.slice A2 n2 c2) := L_e.out.cell 1
  by_cases hg : rf x1 x2 d = 0
  rotate_left
  · have hg1 : (rf x1 x2 d != 0) = true := by simpa using hg
    have HR : Hid (widenR lv ns rt (ps.map EV.val) d r x1 x2 = (rf x1 x2 d, 0, 0, 0, [])) := widenR_no (by unfold widenC; rw [if_neg (by simp [HZ.out]), if_pos hg]) hg
    clear hg
    go_wp2_with fail
    refine (implRectFault_any _ _ _ _ _ _ _ _ _ x1 x2 _ (I_1.out.kept B.out) (I_2.out.kept B.out) m1 m2).mono ?_
    rintro e W2 ⟨rfl, b2⟩
    replace L_e := Lib.hid (L_e.out.kept b2 L_e.out.inside)
    replace L_r := Lib.hid (L_r.out.kept b2 L_r.out.inside)
    replace HS := Lib.hid (HS.out.kept b2)
    replace B := Lib.hid (B.out.trans (b2.mono B.out.size))
    clear b2 q0 q1
    have z0 : W2.cell? ⟨w.heap.size + 1 + 1, 0, none⟩ = some (.int .i64 0) := L_r.out.cell 0
    have y0 : W2.frozen? ⟨w.heap.size + 1 + 1, 0, none⟩ = false := L_r.out.thawed 0
    have z1 : W2.cell? ⟨w.heap.size + 1 + 1, 1, none⟩ = some (.int .i64 0) := L_r.out.cell 1
    have y1 : W2.frozen? ⟨w.heap.size + 1 + 1, 1, none⟩ = false := L_r.out.thawed 1
    have z2 : W2.cell? ⟨w.heap.size + 1 + 1, 2, none⟩ = some (.int .i64 0) := L_r.out.cell 2
    have y2 : W2.frozen? ⟨w.heap.size + 1 + 1, 2, none⟩ = false := L_r.out.thawed 2
    have z3 : W2.cell? ⟨w.heap.size + 1 + 1, 3, none⟩ = some (.int .i64 0) := L_r.out.cell 3
    have y3 : W2.frozen? ⟨w.heap.size + 1 + 1, 3, none⟩ = false := L_r.out.thawed 3
    have z4 : W2.cell? ⟨w.heap.size + 1 + 1, 4, none⟩ = some (.slice none 0 0) := L_r.out.cell 4
    have y4 : W2.frozen? ⟨w.heap.size + 1 + 1, 4, none⟩ = false := L_r.out.thawed 4
    go_wp2
    refine bodyPost_ret (v := .agg #[.int .i64 (rf x1 x2 d), .int .i64 0, .int .i64 0, .int .i64 0, .slice none 0 0]) (by simp [results, Try.results57, go_sem, z0, z1, z2, z3, z4]) rfl ?_
    refine ⟨none, 0, 0, [], by rw [HR.out], EntriesRes.nil _ _, by rw [HR.out]; rfl, by decide, ?_⟩
    with_reducible (repeat (first | exact B.out | refine Below.setCell ?_ ?_ _))
    all_goals (show w.heap.size ≤ w.heap.size + 1 + 1; omega)
  have hg1 : (rf x1 x2 d != 0) = false := by simp [hg]
  have HG := Lib.hid hg
  have hle := rf_len hg
  have HLE : Hid (x1.length = d.toNat ∧ x2.length = d.toNat) := ⟨by omega, by omega⟩
  clear hg
  go_wp2_with fail
  refine (implRectFault_any _ _ _ _ _ _ _ _ _ x1 x2 _ (I_1.out.kept B.out) (I_2.out.kept B.out) m1 m2).mono ?_
  rintro e W2 ⟨rfl, b2⟩
  replace L_e := Lib.hid (L_e.out.kept b2 L_e.out.inside)
  replace L_r := Lib.hid (L_r.out.kept b2 L_r.out.inside)
  replace HS := Lib.hid (HS.out.kept b2)
  replace B := Lib.hid (B.out.trans (b2.mono B.out.size))
  clear b2 q0 q1
  obtain ⟨r0, r1, r2, hp1⟩ := pad_of (xs := x1) (by omega)
  obtain ⟨t0, t1, t2, hp2⟩ := pad_of (xs := x2) (by omega)
  have P1 := Lib.hid hp1
  have P2 := Lib.hid hp2
  clear hp1 hp2 hle
  by_cases hl0 : lv = 0
  · have hm1 : ∀ w : World, (method 306 182 (.agg #[.int .i64 d, .slice A' n c', .int .i64 lv, .int .i64 ns, .int .i64 rt]) "loop.example/g00680/impl.place").run Try.prog w = .ok (142, .agg #[.int .i64 d, .slice A' n c']) w := fun _ => by kernel_rfl
    have hm2 : ∀ w : World, (method 306 182 (.agg #[.int .i64 d, .slice A' n c', .int .i64 lv, .int .i64 ns, .int .i64 rt]) "loop.example/g00680/impl.widened").run Try.prog w = .ok (173, .agg #[.int .i64 d, .slice A' n c', .int .i64 lv, .int .i64 ns, .int .i64 rt]) w := fun _ => by kernel_rfl
    have hm3 : ∀ w : World, (nilAhead 306 182 (.agg #[.int .i64 d, .slice A' n c', .int .i64 lv, .int .i64 ns, .int .i64 rt]) "loop.example/g00680/impl.widened").run Try.prog w = .ok (some false) w := fun _ => by kernel_rfl
    have HV : Hid (holderV d lv ns rt A' n c' = .iface 182 (.agg #[.int .i64 d, .slice A' n c', .int .i64 lv, .int .i64 ns, .int .i64 rt])) := by show holderV _ _ _ _ _ _ _ = _; unfold holderV; rw [if_pos hl0]
    clear hl0
    rw [HV.out]
    by_cases hf : findE r (ps.map EV.val) < 0
    · have HR : Hid (widenR lv ns rt (ps.map EV.val) d r x1 x2 = (4, 0, 0, 0, [])) := widenR_no (by unfold widenC; rw [if_neg (by simp [HZ.out]), if_neg (by simp [HG.out]), if_pos hf]) (by decide)
      go_wp2_with fail
      refine (place_any _ r _ _ _ (ps.map EV.val) ss _ HS.out HO.out hn).mono ?_
      rintro e W3 ⟨rfl, b3⟩
      replace L_e := Lib.hid (L_e.out.kept b3 L_e.out.inside)
      replace L_r := Lib.hid (L_r.out.kept b3 L_r.out.inside)
      replace HS := Lib.hid (HS.out.kept b3)
      replace B := Lib.hid (B.out.trans (b3.mono B.out.size))
      clear b3
      have z0 : W3.cell? ⟨w.heap.size + 1 + 1, 0, none⟩ = some (.int .i64 0) := L_r.out.cell 0
      have y0 : W3.frozen? ⟨w.heap.size + 1 + 1, 0, none⟩ = false := L_r.out.thawed 0
      have z1 : W3.cell? ⟨w.heap.size + 1 + 1, 1, none⟩ = some (.int .i64 0) := L_r.out.cell 1
      have y1 : W3.frozen? ⟨w.heap.size + 1 + 1, 1, none⟩ = false := L_r.out.thawed 1
      have z2 : W3.cell? ⟨w.heap.size + 1 + 1, 2, none⟩ = some (.int .i64 0) := L_r.out.cell 2
      have y2 : W3.frozen? ⟨w.heap.size + 1 + 1, 2, none⟩ = false := L_r.out.thawed 2
      have z3 : W3.cell? ⟨w.heap.size + 1 + 1, 3, none⟩ = some (.int .i64 0) := L_r.out.cell 3
      have y3 : W3.frozen? ⟨w.heap.size + 1 + 1, 3, none⟩ = false := L_r.out.thawed 3
      have z4 : W3.cell? ⟨w.heap.size + 1 + 1, 4, none⟩ = some (.slice none 0 0) := L_r.out.cell 4
      have y4 : W3.frozen? ⟨w.heap.size + 1 + 1, 4, none⟩ = false := L_r.out.thawed 4
      go_wp2
      refine bodyPost_ret (v := .agg #[.int .i64 (4), .int .i64 0, .int .i64 0, .int .i64 0, .slice none 0 0]) (by simp [results, Try.results57, go_sem, z0, z1, z2, z3, z4]) rfl ?_
      refine ⟨none, 0, 0, [], by rw [HR.out], EntriesRes.nil _ _, by rw [HR.out]; rfl, by decide, ?_⟩
      with_reducible (repeat (first | exact B.out | refine Below.setCell ?_ ?_ _))
      all_goals (show w.heap.size ≤ w.heap.size + 1 + 1; omega)
    · obtain ⟨i, hi⟩ : ∃ i : Nat, findE r (ps.map EV.val) = (i : Int) := ⟨(findE r (ps.map EV.val)).toNat, by omega⟩
      obtain ⟨v, hv, _⟩ := findE_at hi
      have HR : Hid (widenR lv ns rt (ps.map EV.val) d r x1 x2 = (0, lv, ns, rt, (ps.map EV.val).set i (widE x1 x2 v))) := widenR_yes (by unfold widenC; rw [if_neg (by simp [HZ.out]), if_neg (by simp [HG.out]), if_neg hf]) hi hv
      have HI := Lib.hid hi
      have HVV := Lib.hid hv
      clear hi hf hv
      have hnn : ¬ ((i : Int) < 0) := by omega
      go_wp2_with fail
      refine (place_any _ r _ _ _ (ps.map EV.val) ss _ HS.out HO.out hn).mono ?_
      rintro e W3 ⟨rfl, b3⟩
      rw [HI.out]
      replace L_e := Lib.hid (L_e.out.kept b3 L_e.out.inside)
      replace L_r := Lib.hid (L_r.out.kept b3 L_r.out.inside)
      replace HS := Lib.hid (HS.out.kept b3)
      replace B := Lib.hid (B.out.trans (b3.mono B.out.size))
      clear b3
      have k_0 : W3.cell? ⟨w.heap.size + 1, 0, none⟩ = some (.slice A1 n1 c1) ∧ W3.cell? ⟨w.heap.size + 1, 1, none⟩ = some (.slice A2 n2 c2) := ⟨L_e.out.cell 0, L_e.out.cell 1⟩
      have hr3 := L_r.out.inside
      go_wp2_with fail
      go_region_held3 (fun w' => w'.cell? ⟨w.heap.size + 1, 0, none⟩ = some (.slice A1 n1 c1) ∧ w'.cell? ⟨w.heap.size + 1, 1, none⟩ = some (.slice A2 n2 c2))
        (first | (simp [go_sem, k_0]; done) | with_reducible exact k_1 | with_reducible exact k_2 | with_reducible exact k_3 | (simp [go_sem, k_3]; done))
        (first
          | (go_at_call 69; refine (boxFrom_any _ _ _ _ _ _ _ _ x1 x2 r0 r1 r2 t0 t1 t2 _ P1.out P2.out (I_1.out.kept B.out.drew) (I_2.out.kept B.out.drew)).mono ?_
             rintro e W4 ⟨rfl, b4d⟩
             have b4 := below_drawn b4d
             have k_1 : W4.cell? ⟨w.heap.size + 1, 0, none⟩ = some (.slice A1 n1 c1) ∧ W4.cell? ⟨w.heap.size + 1, 1, none⟩ = some (.slice A2 n2 c2) := ⟨(L_e.out.kept b4 L_e.out.inside).cell 0, (L_e.out.kept b4 L_e.out.inside).cell 1⟩
             clear b4d)
          | (go_at_call 173; refine (widened_any d lv ns rt n c' d.toNat i A' (ps.map EV.val) ss v r0 r1 r2 t0 t1 t2 x1 x2 _ (HS.out.kept b4) HO.out (by omega) HVV.out HE.out P1.out P2.out HLE.out.1 HLE.out.2).mono ?_
             rintro e W6 ⟨g6, o6, k6, s6, rfl, hs6, ho6, b6⟩
             have hs4 := b4.size
             have hs5 := b6.size
             have b6' := b4.trans (b6.mono b4.size)
             have k_2 : W6.cell? ⟨w.heap.size + 1, 0, none⟩ = some (.slice A1 n1 c1) ∧ W6.cell? ⟨w.heap.size + 1, 1, none⟩ = some (.slice A2 n2 c2) := ⟨(L_e.out.kept b6' L_e.out.inside).cell 0, (L_e.out.kept b6' L_e.out.inside).cell 1⟩
             clear b6)
          | (go_at_call 112; refine (bodyNode_any d lv ns rt n k6 d.toNat (some ⟨g6, o6, none⟩) _ _ _ hs6 ho6 (by omega) (HE.out.put (i := i) (widE_lens (HE.out i v HVV.out) HLE.out.1 HLE.out.2)) (by omega) (by omega)).mono ?_
             rintro e W5 ⟨A5, c5, qs, rfl, rs, vq, b5⟩
             have b5' := b6'.trans (b5.mono b6'.size)
             have L_r5 := Lib.hid (L_r.out.kept b5' L_r.out.inside)
             have k_3 : W5.cell? ⟨w.heap.size + 1, 0, none⟩ = some (.slice A1 n1 c1) ∧ W5.cell? ⟨w.heap.size + 1, 1, none⟩ = some (.slice A2 n2 c2) := ⟨(L_e.out.kept b5' L_e.out.inside).cell 0, (L_e.out.kept b5' L_e.out.inside).cell 1⟩
             have z0 : W5.cell? ⟨w.heap.size + 1 + 1, 0, none⟩ = some (.int .i64 0) := L_r5.out.cell 0
             have y0 : W5.frozen? ⟨w.heap.size + 1 + 1, 0, none⟩ = false := L_r5.out.thawed 0
             have z1 : W5.cell? ⟨w.heap.size + 1 + 1, 1, none⟩ = some (.int .i64 0) := L_r5.out.cell 1
             have y1 : W5.frozen? ⟨w.heap.size + 1 + 1, 1, none⟩ = false := L_r5.out.thawed 1
             have z2 : W5.cell? ⟨w.heap.size + 1 + 1, 2, none⟩ = some (.int .i64 0) := L_r5.out.cell 2
             have y2 : W5.frozen? ⟨w.heap.size + 1 + 1, 2, none⟩ = false := L_r5.out.thawed 2
             have z3 : W5.cell? ⟨w.heap.size + 1 + 1, 3, none⟩ = some (.int .i64 0) := L_r5.out.cell 3
             have y3 : W5.frozen? ⟨w.heap.size + 1 + 1, 3, none⟩ = false := L_r5.out.thawed 3
             have z4 : W5.cell? ⟨w.heap.size + 1 + 1, 4, none⟩ = some (.slice none 0 0) := L_r5.out.cell 4
             have y4 : W5.frozen? ⟨w.heap.size + 1 + 1, 4, none⟩ = false := L_r5.out.thawed 4
             clear b5))
      all_goals
        replace B := Lib.hid (B.out.trans (b5'.mono B.out.size))
        have RS := Lib.hid rs
        have VQ := Lib.hid vq
        clear rs vq
        go_wp2
        refine bodyPost_ret (v := .agg #[.int .i64 0, .int .i64 lv, .int .i64 ns, .int .i64 rt, .slice A5 n c5]) (by simp [results, Try.results57, go_sem, z0, z1, z2, z3, z4]) rfl ?_
        refine ⟨A5, n, c5, qs, by rw [HR.out], ?_, by rw [HR.out]; exact VQ.out, by omega, ?_⟩
        · exact (((((RS.out.farLow (by show w.heap.size + 1 + 1 < _; omega) _).farLow (by show w.heap.size + 1 + 1 < _; omega) _).farLow (by show w.heap.size + 1 + 1 < _; omega) _).farLow (by show w.heap.size + 1 + 1 < _; omega) _).farLow (by show w.heap.size + 1 + 1 < _; omega) _).lower (by omega)
        · with_reducible (repeat (first | exact B.out | refine Below.setCell ?_ ?_ _))
          all_goals (show w.heap.size ≤ w.heap.size + 1 + 1; omega)
  · have hm1 : ∀ w : World, (method 306 183 (.agg #[.int .i64 d, .slice A' n c', .int .i64 lv, .int .i64 ns, .int .i64 rt]) "loop.example/g00680/impl.place").run Try.prog w = .ok (142, .agg #[.int .i64 d, .slice A' n c']) w := fun _ => by kernel_rfl
    have hm2 : ∀ w : World, (method 306 183 (.agg #[.int .i64 d, .slice A' n c', .int .i64 lv, .int .i64 ns, .int .i64 rt]) "loop.example/g00680/impl.widened").run Try.prog w = .ok (173, .agg #[.int .i64 d, .slice A' n c', .int .i64 lv, .int .i64 ns, .int .i64 rt]) w := fun _ => by kernel_rfl
    have hm3 : ∀ w : World, (nilAhead 306 183 (.agg #[.int .i64 d, .slice A' n c', .int .i64 lv, .int .i64 ns, .int .i64 rt]) "loop.example/g00680/impl.widened").run Try.prog w = .ok (some false) w := fun _ => by kernel_rfl
    have HV : Hid (holderV d lv ns rt A' n c' = .iface 183 (.agg #[.int .i64 d, .slice A' n c', .int .i64 lv, .int .i64 ns, .int .i64 rt])) := by show holderV _ _ _ _ _ _ _ = _; unfold holderV; rw [if_neg hl0]
    clear hl0
    rw [HV.out]
    by_cases hf : findE r (ps.map EV.val) < 0
    · have HR : Hid (widenR lv ns rt (ps.map EV.val) d r x1 x2 = (4, 0, 0, 0, [])) := widenR_no (by unfold widenC; rw [if_neg (by simp [HZ.out]), if_neg (by simp [HG.out]), if_pos hf]) (by decide)
      go_wp2_with fail
      refine (place_any _ r _ _ _ (ps.map EV.val) ss _ HS.out HO.out hn).mono ?_
      rintro e W3 ⟨rfl, b3⟩
      replace L_e := Lib.hid (L_e.out.kept b3 L_e.out.inside)
      replace L_r := Lib.hid (L_r.out.kept b3 L_r.out.inside)
      replace HS := Lib.hid (HS.out.kept b3)
      replace B := Lib.hid (B.out.trans (b3.mono B.out.size))
      clear b3
      have z0 : W3.cell? ⟨w.heap.size + 1 + 1, 0, none⟩ = some (.int .i64 0) := L_r.out.cell 0
      have y0 : W3.frozen? ⟨w.heap.size + 1 + 1, 0, none⟩ = false := L_r.out.thawed 0
      have z1 : W3.cell? ⟨w.heap.size + 1 + 1, 1, none⟩ = some (.int .i64 0) := L_r.out.cell 1
      have y1 : W3.frozen? ⟨w.heap.size + 1 + 1, 1, none⟩ = false := L_r.out.thawed 1
      have z2 : W3.cell? ⟨w.heap.size + 1 + 1, 2, none⟩ = some (.int .i64 0) := L_r.out.cell 2
      have y2 : W3.frozen? ⟨w.heap.size + 1 + 1, 2, none⟩ = false := L_r.out.thawed 2
      have z3 : W3.cell? ⟨w.heap.size + 1 + 1, 3, none⟩ = some (.int .i64 0) := L_r.out.cell 3
      have y3 : W3.frozen? ⟨w.heap.size + 1 + 1, 3, none⟩ = false := L_r.out.thawed 3
      have z4 : W3.cell? ⟨w.heap.size + 1 + 1, 4, none⟩ = some (.slice none 0 0) := L_r.out.cell 4
      have y4 : W3.frozen? ⟨w.heap.size + 1 + 1, 4, none⟩ = false := L_r.out.thawed 4
      go_wp2
      refine bodyPost_ret (v := .agg #[.int .i64 (4), .int .i64 0, .int .i64 0, .int .i64 0, .slice none 0 0]) (by simp [results, Try.results57, go_sem, z0, z1, z2, z3, z4]) rfl ?_
      refine ⟨none, 0, 0, [], by rw [HR.out], EntriesRes.nil _ _, by rw [HR.out]; rfl, by decide, ?_⟩
      with_reducible (repeat (first | exact B.out | refine Below.setCell ?_ ?_ _))
      all_goals (show w.heap.size ≤ w.heap.size + 1 + 1; omega)
    · obtain ⟨i, hi⟩ : ∃ i : Nat, findE r (ps.map EV.val) = (i : Int) := ⟨(findE r (ps.map EV.val)).toNat, by omega⟩
      obtain ⟨v, hv, _⟩ := findE_at hi
      have HR : Hid (widenR lv ns rt (ps.map EV.val) d r x1 x2 = (0, lv, ns, rt, (ps.map EV.val).set i (widE x1 x2 v))) := widenR_yes (by unfold widenC; rw [if_neg (by simp [HZ.out]), if_neg (by simp [HG.out]), if_neg hf]) hi hv
      have HI := Lib.hid hi
      have HVV := Lib.hid hv
      clear hi hf hv
      have hnn : ¬ ((i : Int) < 0) := by omega
      go_wp2_with fail
      refine (place_any _ r _ _ _ (ps.map EV.val) ss _ HS.out HO.out hn).mono ?_
      rintro e W3 ⟨rfl, b3⟩
      rw [HI.out]
      replace L_e := Lib.hid (L_e.out.kept b3 L_e.out.inside)
      replace L_r := Lib.hid (L_r.out.kept b3 L_r.out.inside)
      replace HS := Lib.hid (HS.out.kept b3)
      replace B := Lib.hid (B.out.trans (b3.mono B.out.size))
      clear b3
      have k_0 : W3.cell? ⟨w.heap.size + 1, 0, none⟩ = some (.slice A1 n1 c1) ∧ W3.cell? ⟨w.heap.size + 1, 1, none⟩ = some (.slice A2 n2 c2) := ⟨L_e.out.cell 0, L_e.out.cell 1⟩
      have hr3 := L_r.out.inside
      go_wp2_with fail
      go_region_held3 (fun w' => w'.cell? ⟨w.heap.size + 1, 0, none⟩ = some (.slice A1 n1 c1) ∧ w'.cell? ⟨w.heap.size + 1, 1, none⟩ = some (.slice A2 n2 c2))
        (first | (simp [go_sem, k_0]; done) | with_reducible exact k_1 | with_reducible exact k_2 | with_reducible exact k_3 | (simp [go_sem, k_3]; done))
        (first
          | (go_at_call 69; refine (boxFrom_any _ _ _ _ _ _ _ _ x1 x2 r0 r1 r2 t0 t1 t2 _ P1.out P2.out (I_1.out.kept B.out.drew) (I_2.out.kept B.out.drew)).mono ?_
             rintro e W4 ⟨rfl, b4d⟩
             have b4 := below_drawn b4d
             have k_1 : W4.cell? ⟨w.heap.size + 1, 0, none⟩ = some (.slice A1 n1 c1) ∧ W4.cell? ⟨w.heap.size + 1, 1, none⟩ = some (.slice A2 n2 c2) := ⟨(L_e.out.kept b4 L_e.out.inside).cell 0, (L_e.out.kept b4 L_e.out.inside).cell 1⟩
             clear b4d)
          | (go_at_call 173; refine (widened_any d lv ns rt n c' d.toNat i A' (ps.map EV.val) ss v r0 r1 r2 t0 t1 t2 x1 x2 _ (HS.out.kept b4) HO.out (by omega) HVV.out HE.out P1.out P2.out HLE.out.1 HLE.out.2).mono ?_
             rintro e W6 ⟨g6, o6, k6, s6, rfl, hs6, ho6, b6⟩
             have hs4 := b4.size
             have hs5 := b6.size
             have b6' := b4.trans (b6.mono b4.size)
             have k_2 : W6.cell? ⟨w.heap.size + 1, 0, none⟩ = some (.slice A1 n1 c1) ∧ W6.cell? ⟨w.heap.size + 1, 1, none⟩ = some (.slice A2 n2 c2) := ⟨(L_e.out.kept b6' L_e.out.inside).cell 0, (L_e.out.kept b6' L_e.out.inside).cell 1⟩
             clear b6)
          | (go_at_call 112; refine (bodyNode_any d lv ns rt n k6 d.toNat (some ⟨g6, o6, none⟩) _ _ _ hs6 ho6 (by omega) (HE.out.put (i := i) (widE_lens (HE.out i v HVV.out) HLE.out.1 HLE.out.2)) (by omega) (by omega)).mono ?_
             rintro e W5 ⟨A5, c5, qs, rfl, rs, vq, b5⟩
             have b5' := b6'.trans (b5.mono b6'.size)
             have L_r5 := Lib.hid (L_r.out.kept b5' L_r.out.inside)
             have k_3 : W5.cell? ⟨w.heap.size + 1, 0, none⟩ = some (.slice A1 n1 c1) ∧ W5.cell? ⟨w.heap.size + 1, 1, none⟩ = some (.slice A2 n2 c2) := ⟨(L_e.out.kept b5' L_e.out.inside).cell 0, (L_e.out.kept b5' L_e.out.inside).cell 1⟩
             have z0 : W5.cell? ⟨w.heap.size + 1 + 1, 0, none⟩ = some (.int .i64 0) := L_r5.out.cell 0
             have y0 : W5.frozen? ⟨w.heap.size + 1 + 1, 0, none⟩ = false := L_r5.out.thawed 0
             have z1 : W5.cell? ⟨w.heap.size + 1 + 1, 1, none⟩ = some (.int .i64 0) := L_r5.out.cell 1
             have y1 : W5.frozen? ⟨w.heap.size + 1 + 1, 1, none⟩ = false := L_r5.out.thawed 1
             have z2 : W5.cell? ⟨w.heap.size + 1 + 1, 2, none⟩ = some (.int .i64 0) := L_r5.out.cell 2
             have y2 : W5.frozen? ⟨w.heap.size + 1 + 1, 2, none⟩ = false := L_r5.out.thawed 2
             have z3 : W5.cell? ⟨w.heap.size + 1 + 1, 3, none⟩ = some (.int .i64 0) := L_r5.out.cell 3
             have y3 : W5.frozen? ⟨w.heap.size + 1 + 1, 3, none⟩ = false := L_r5.out.thawed 3
             have z4 : W5.cell? ⟨w.heap.size + 1 + 1, 4, none⟩ = some (.slice none 0 0) := L_r5.out.cell 4
             have y4 : W5.frozen? ⟨w.heap.size + 1 + 1, 4, none⟩ = false := L_r5.out.thawed 4
             clear b5))
      all_goals
        replace B := Lib.hid (B.out.trans (b5'.mono B.out.size))
        have RS := Lib.hid rs
        have VQ := Lib.hid vq
        clear rs vq
        go_wp2
        refine bodyPost_ret (v := .agg #[.int .i64 0, .int .i64 lv, .int .i64 ns, .int .i64 rt, .slice A5 n c5]) (by simp [results, Try.results57, go_sem, z0, z1, z2, z3, z4]) rfl ?_
        refine ⟨A5, n, c5, qs, by rw [HR.out], ?_, by rw [HR.out]; exact VQ.out, by omega, ?_⟩
        · exact (((((RS.out.farLow (by show w.heap.size + 1 + 1 < _; omega) _).farLow (by show w.heap.size + 1 + 1 < _; omega) _).farLow (by show w.heap.size + 1 + 1 < _; omega) _).farLow (by show w.heap.size + 1 + 1 < _; omega) _).farLow (by show w.heap.size + 1 + 1 < _; omega) _).lower (by omega)
        · with_reducible (repeat (first | exact B.out | refine Below.setCell ?_ ?_ _))
          all_goals (show w.heap.size ≤ w.heap.size + 1 + 1; omega)

end Go.Proofs.Ytfpmbkfikfdmkaa
