/- The walk of impl.nodeBody's without. -/
import Derived.Test.YtblhcnafoejahaaDelete
import Derived.Test.YtblhcnafoejahaaBodyNode
namespace Go.Proofs.Ytblhcnafoejahaa
open Go.RowKit

theorem getElem?_erase_map {α : Type} (l : List α) (i k : Nat) : (l.eraseIdx i)[k]? = if k < i then l[k]? else l[k + 1]? := List.getElem?_eraseIdx
theorem SlotsOf.erase {vs : List EVal} {ss : List SL} (h : SlotsOf vs ss) (i : Nat) : SlotsOf (vs.eraseIdx i) (ss.eraseIdx i) := by
  refine ⟨by rw [List.length_eraseIdx, List.length_eraseIdx, h.1], fun k v s hv hs => ?_⟩
  rw [List.getElem?_eraseIdx] at hv hs
  split at hv
  · exact h.2 k v s hv (by simpa [*] using hs)
  · exact h.2 (k + 1) v s hv (by simpa [*] using hs)
theorem LensE.erase {dd : Nat} {vs : List EVal} (h : LensE dd vs) (i : Nat) : LensE dd (vs.eraseIdx i) := by
  intro k u hu
  rw [List.getElem?_eraseIdx] at hu
  split at hu
  · exact h k u hu
  · exact h (k + 1) u hu

theorem Slots.far {w : World} {g o n : Nat} {ss : List SL} (h : Slots w (some ⟨g, o, none⟩) n ss) {a : Addr} (hne : g ≠ a.block) (v : Value) : Slots (w.setCell a v) (some ⟨g, o, none⟩) n ss := by
  obtain ⟨hl, hr⟩ := h
  refine ⟨hl, fun hn => ?_⟩
  obtain ⟨b, o', e, h2, h3⟩ := hr hn
  injection e with e; injection e with e1 e2; subst e1 e2
  refine ⟨g, o, rfl, by rw [size_of_setCell]; exact h2, fun k s hs j u hu => ?_⟩
  rw [World.cell?_of_block (w := w) (a := ⟨g, o + k * 8 + j, none⟩) (heap_setCell_other w a g v hne)]
  exact h3 k s hs j u hu

set_option maxRecDepth 100000 in
set_option maxHeartbeats 3200000 in
theorem without_any (d lv ns rt : Int) (m c i : Nat) (A : Option Addr) (vs : List EVal) (ss : List SL) (w : World) (hp : Slots w A (m + 1) ss) (ho : SlotsOf vs ss) (hn : m + 1 ≤ 6) (hi : i < m + 1) :
    Calls Try.prog 128 #[.agg #[.int .i64 d, .slice A (m + 1) c, .int .i64 lv, .int .i64 ns, .int .i64 rt], .int .i64 (i : Int)] w fun e w' => ∃ g cap, e = .returned (.agg #[.int .i64 d, .slice (some ⟨g, 0, none⟩) m cap, .int .i64 lv, .int .i64 ns, .int .i64 rt]) ∧ Slots w' (some ⟨g, 0, none⟩) m (ss.eraseIdx i) ∧ SlotsOf (vs.eraseIdx i) (ss.eraseIdx i) ∧ Below w.heap.size w w' := by
  have HP := Lib.hid hp
  have HO := Lib.hid (ho.erase i)
  clear hp ho
  have B := Lib.hid (below_alloc w (.cells #[.int .i64 d, .slice A (m + 1) c, .int .i64 lv, .int .i64 ns, .int .i64 rt] 95))
  replace B := Lib.hid (B.out.alloc B.out.size (.cells #[.int .i64 0, .slice none 0 0, .int .i64 0, .int .i64 0, .int .i64 0] 95))
  have L_b := Lib.hid ((Lies.new w 95 #[.int .i64 d, .slice A (m + 1) c, .int .i64 lv, .int .i64 ns, .int .i64 rt]).alloc (.cells #[.int .i64 0, .slice none 0 0, .int .i64 0, .int .i64 0, .int .i64 0] 95))
  have L_r := Lib.hid (Lies.new (w.alloc (.cells #[.int .i64 d, .slice A (m + 1) c, .int .i64 lv, .int .i64 ns, .int .i64 rt] 95)) 95 #[.int .i64 0, .slice none 0 0, .int .i64 0, .int .i64 0, .int .i64 0])
  simp only [World.size_alloc] at L_r
  go_enter Try.func128, Try.ntmps128
  go_wp2_with fail
  refine (clone_any _ _ _ ss _ (HP.out.kept B.out) (by omega) hn).mono ?_
  rintro e W1 ⟨g, cap, rfl, hown, b1⟩
  simp only [World.size_alloc] at hown
  replace L_b := Lib.hid (L_b.out.kept b1 L_b.out.inside)
  replace L_r := Lib.hid (L_r.out.kept b1 L_r.out.inside)
  replace B := Lib.hid (B.out.trans (b1.mono B.out.size))
  have HOW := Lib.hid hown
  clear b1 hown
  go_wp2_with fail
  refine (delete_m g m cap i _ ss _ HOW.out hi hn).mono ?_
  rintro e W2 ⟨rfl, hsl, b2⟩
  have hgb := (ownsRow_block2 HOW.out g rfl).1
  replace L_b := Lib.hid (L_b.out.kept b2 (by omega))
  replace L_r := Lib.hid (L_r.out.kept b2 (by omega))
  replace B := Lib.hid (B.out.trans (b2.mono (by omega)))
  have HSL2 := Lib.hid (hsl.far (a := ⟨w.heap.size, 1, none⟩) (by show g ≠ w.heap.size; omega) (.slice (some ⟨g, 0, none⟩) m cap))
  have LB := Lib.hid (L_b.out.set 1 (.slice (some ⟨g, 0, none⟩) m cap))
  have LR := Lib.hid (L_r.out.far (a := ⟨w.heap.size, 1, none⟩) (by show w.heap.size + 1 ≠ w.heap.size; omega) (.slice (some ⟨g, 0, none⟩) m cap))
  have BB := Lib.hid (B.out.setCell (p := ⟨w.heap.size, 1, none⟩) (Nat.le_refl _) (.slice (some ⟨g, 0, none⟩) m cap))
  have c4 : W2.cell? ⟨w.heap.size, 1, none⟩ = some (.slice A (m + 1) c) := L_b.out.cell 1
  have f4 : W2.frozen? ⟨w.heap.size, 1, none⟩ = false := L_b.out.thawed 1
  clear b2 hsl HOW L_b L_r B
  go_upto_region 2 with fail
  generalize hWW : (W2.setCell ⟨w.heap.size, 1, none⟩ (.slice (some ⟨g, 0, none⟩) m cap)) = W3 at *
  clear hWW c4 f4
  have c0 : W3.cell? ⟨w.heap.size, 0, none⟩ = some (.int .i64 d) := LB.out.cell 0
  have c1 : W3.cell? ⟨w.heap.size, 1, none⟩ = some (.slice (some ⟨g, 0, none⟩) m cap) := LB.out.cell 1
  have c2 : W3.cell? ⟨w.heap.size, 2, none⟩ = some (.int .i64 lv) := LB.out.cell 2
  have c3 : W3.cell? ⟨w.heap.size, 3, none⟩ = some (.int .i64 ns) := LB.out.cell 3
  have c4 : W3.cell? ⟨w.heap.size, 4, none⟩ = some (.int .i64 rt) := LB.out.cell 4
  have z0 : W3.cell? ⟨w.heap.size + 1, 0, none⟩ = some (.int .i64 0) := LR.out.cell 0
  have z1 : W3.cell? ⟨w.heap.size + 1, 1, none⟩ = some (.slice none 0 0) := LR.out.cell 1
  have z2 : W3.cell? ⟨w.heap.size + 1, 2, none⟩ = some (.int .i64 0) := LR.out.cell 2
  have z3 : W3.cell? ⟨w.heap.size + 1, 3, none⟩ = some (.int .i64 0) := LR.out.cell 3
  have z4 : W3.cell? ⟨w.heap.size + 1, 4, none⟩ = some (.int .i64 0) := LR.out.cell 4
  have y0 : W3.frozen? ⟨w.heap.size + 1, 0, none⟩ = false := LR.out.thawed 0
  have y1 : W3.frozen? ⟨w.heap.size + 1, 1, none⟩ = false := LR.out.thawed 1
  have y2 : W3.frozen? ⟨w.heap.size + 1, 2, none⟩ = false := LR.out.thawed 2
  have y3 : W3.frozen? ⟨w.heap.size + 1, 3, none⟩ = false := LR.out.thawed 3
  have y4 : W3.frozen? ⟨w.heap.size + 1, 4, none⟩ = false := LR.out.thawed 4
  have gn : g ≠ w.heap.size + 1 := by omega
  go_wp2
  refine bodyPost_ret (v := .agg #[.int .i64 d, .slice (some ⟨g, 0, none⟩) m cap, .int .i64 lv, .int .i64 ns, .int .i64 rt]) (by simp [results, Try.results128, go_sem, z0, z1, z2, z3, z4]) rfl ⟨g, cap, rfl, ?_, HO.out, ?_⟩
  · with_reducible (repeat (first | exact HSL2.out | refine Slots.far ?_ ?_ _))
    all_goals exact gn
  · with_reducible (repeat (first | exact BB.out | refine Below.setCell ?_ ?_ _))
    all_goals (show w.heap.size ≤ w.heap.size + 1; omega)

end Go.Proofs.Ytblhcnafoejahaa
