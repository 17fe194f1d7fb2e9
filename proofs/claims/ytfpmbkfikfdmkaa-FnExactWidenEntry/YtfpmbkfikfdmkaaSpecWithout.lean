/- The walks of spec.l3Copy, spec.l3Without, spec.WithoutEntry. -/
import Derived.Test.YtfpmbkfikfdmkaaSpecCopy
import Derived.Test.YtfpmbkfikfdmkaaSpecNodeFault
import Derived.Test.YtfpmbkfikfdmkaaImplWithout
namespace Go.Proofs.Ytfpmbkfikfdmkaa
open Go.RowKit

/-- A row that holds the entries qs, all from block base on. -/
structure Rows4 (w : World) (base n : Nat) (qs : List EV) (v : Value) : Prop where
  S : w.ownsRow base 67 4 v n (qs.flatMap EV.cells)
  R : ReadE w base v qs
theorem Copied.rows {w wr : World} {k : Nat} {qs : List EV} {v : Value} (h : Copied w wr k qs v) : Rows4 wr w.heap.size k qs v := ⟨h.S, h.R⟩
theorem Rows4.far {w : World} {base n : Nat} {qs : List EV} {v : Value} (h : Rows4 w base n qs v) {a : Addr} (ha : a.block < base) (u : Value) : Rows4 (w.setCell a u) base n qs v := by
  refine ⟨ownsRow_far2 h.S ha u, h.R.far (fun q hq => ?_) u⟩
  obtain ⟨g1, g2, a1, a2, a3, a4, _⟩ := h.R q hq
  rw [a1, a2]
  exact ⟨by show g1 ≠ _; omega, by show g2 ≠ _; omega⟩
theorem Rows4.entries {w : World} {base n : Nat} {qs : List EV} {v : Value} (h : Rows4 w base n qs v) : ∃ A c, v = .slice A n c ∧ Entries w A n qs := by
  refine entries_of_owns h.S fun q hq => ?_
  obtain ⟨g1, g2, a1, a2, a3, a4, a5, a6, a7, a8, a9, a10, i1, i2⟩ := h.R q hq
  exact ⟨i1, i2, a9, a10⟩

set_option maxHeartbeats 1600000 in
theorem l3Copy_any (lv ns rt : Int) (b n c dd : Nat) (A : Option Addr) (ps : List EV) (w : World) (hb : b < w.heap.size) (k0 : w.cell? ⟨b, 0, none⟩ = some (.int .i64 lv)) (k1 : w.cell? ⟨b, 1, none⟩ = some (.int .i64 ns)) (k2 : w.cell? ⟨b, 2, none⟩ = some (.int .i64 rt)) (k3 : w.cell? ⟨b, 3, none⟩ = some (.slice A n c))
    (hp : Entries w A n ps) (hn : n ≤ 6) (hd : 0 < dd) (hd3 : dd ≤ 3) (hl : LensE dd (ps.map EV.val)) :
    Calls Try.prog 108 #[.pointer (some ⟨b, 0, none⟩)] w fun e w' => ∃ A' c' qs, e = .returned (.agg #[.int .i64 lv, .int .i64 ns, .int .i64 rt, .slice A' n c']) ∧ Rows4 w' (w.heap.size + 1 + 1) n qs (.slice A' n c') ∧ qs.map EV.val = ps.map EV.val ∧ Below w.heap.size w w' := by
  have HP := Lib.hid hp
  have HE := Lib.hid hl
  clear hp hl
  have B := Lib.hid (below_alloc w (.cells #[.int .i64 0, .int .i64 0, .int .i64 0, .slice none 0 0] 61))
  have e0 : (w.alloc (.cells #[.int .i64 0, .int .i64 0, .int .i64 0, .slice none 0 0] 61)).cell? ⟨b, 0, none⟩ = some (.int .i64 lv) := (B.out.cell (p := ⟨b, 0, none⟩) hb).trans k0
  have e1 : (w.alloc (.cells #[.int .i64 0, .int .i64 0, .int .i64 0, .slice none 0 0] 61)).cell? ⟨b, 1, none⟩ = some (.int .i64 ns) := (B.out.cell (p := ⟨b, 1, none⟩) hb).trans k1
  have e2 : (w.alloc (.cells #[.int .i64 0, .int .i64 0, .int .i64 0, .slice none 0 0] 61)).cell? ⟨b, 2, none⟩ = some (.int .i64 rt) := (B.out.cell (p := ⟨b, 2, none⟩) hb).trans k2
  have e3 : (w.alloc (.cells #[.int .i64 0, .int .i64 0, .int .i64 0, .slice none 0 0] 61)).cell? ⟨b, 3, none⟩ = some (.slice A n c) := (B.out.cell (p := ⟨b, 3, none⟩) hb).trans k3
  replace B := Lib.hid (B.out.alloc B.out.size (.cells #[.int .i64 lv, .int .i64 ns, .int .i64 rt, .slice A n c] 61))
  have g3 : ((w.alloc (.cells #[.int .i64 0, .int .i64 0, .int .i64 0, .slice none 0 0] 61)).alloc (.cells #[.int .i64 lv, .int .i64 ns, .int .i64 rt, .slice A n c] 61)).cell? ⟨b, 3, none⟩ = some (.slice A n c) := (B.out.cell (p := ⟨b, 3, none⟩) hb).trans k3
  clear k0 k1 k2 k3
  have L_r := Lib.hid ((Lies.new w 61 #[.int .i64 0, .int .i64 0, .int .i64 0, .slice none 0 0]).alloc (.cells #[.int .i64 lv, .int .i64 ns, .int .i64 rt, .slice A n c] 61))
  have L_o := Lib.hid (Lies.new (w.alloc (.cells #[.int .i64 0, .int .i64 0, .int .i64 0, .slice none 0 0] 61)) 61 #[.int .i64 lv, .int .i64 ns, .int .i64 rt, .slice A n c])
  simp only [World.size_alloc] at L_o
  go_enter Try.func108, Try.ntmps108
  go_wp2_with fail
  refine (l3Entries_any n c dd A ps _ (HP.out.kept B.out) hn hd hd3 HE.out).mono ?_
  rintro e W1 ⟨v, qs, rfl, hC, vq⟩
  have hcb := hC.b
  have hrow := hC.rows
  simp only [World.size_alloc] at hrow
  replace L_r := Lib.hid (L_r.out.kept hcb L_r.out.inside)
  replace L_o := Lib.hid (L_o.out.kept hcb L_o.out.inside)
  replace B := Lib.hid (B.out.trans (hcb.mono B.out.size))
  obtain ⟨A', c', rfl, _⟩ := hrow.entries
  have RW := Lib.hid hrow
  have VQ := Lib.hid vq
  clear hC hcb hrow vq e0 e1 e2 e3 g3
  have y0 : W1.cell? ⟨w.heap.size + 1, 0, none⟩ = some (.int .i64 lv) := L_o.out.cell 0
  have u0 : W1.frozen? ⟨w.heap.size + 1, 0, none⟩ = false := L_o.out.thawed 0
  have y1 : W1.cell? ⟨w.heap.size + 1, 1, none⟩ = some (.int .i64 ns) := L_o.out.cell 1
  have u1 : W1.frozen? ⟨w.heap.size + 1, 1, none⟩ = false := L_o.out.thawed 1
  have y2 : W1.cell? ⟨w.heap.size + 1, 2, none⟩ = some (.int .i64 rt) := L_o.out.cell 2
  have u2 : W1.frozen? ⟨w.heap.size + 1, 2, none⟩ = false := L_o.out.thawed 2
  have y3 : W1.cell? ⟨w.heap.size + 1, 3, none⟩ = some (.slice A n c) := L_o.out.cell 3
  have u3 : W1.frozen? ⟨w.heap.size + 1, 3, none⟩ = false := L_o.out.thawed 3
  have z0 : W1.cell? ⟨w.heap.size, 0, none⟩ = some (.int .i64 0) := L_r.out.cell 0
  have f0 : W1.frozen? ⟨w.heap.size, 0, none⟩ = false := L_r.out.thawed 0
  have z1 : W1.cell? ⟨w.heap.size, 1, none⟩ = some (.int .i64 0) := L_r.out.cell 1
  have f1 : W1.frozen? ⟨w.heap.size, 1, none⟩ = false := L_r.out.thawed 1
  have z2 : W1.cell? ⟨w.heap.size, 2, none⟩ = some (.int .i64 0) := L_r.out.cell 2
  have f2 : W1.frozen? ⟨w.heap.size, 2, none⟩ = false := L_r.out.thawed 2
  have z3 : W1.cell? ⟨w.heap.size, 3, none⟩ = some (.slice none 0 0) := L_r.out.cell 3
  have f3 : W1.frozen? ⟨w.heap.size, 3, none⟩ = false := L_r.out.thawed 3
  go_wp2
  refine bodyPost_ret (v := .agg #[.int .i64 lv, .int .i64 ns, .int .i64 rt, .slice A' n c']) (by simp [results, Try.results108, go_sem, z0, z1, z2, z3]) rfl ⟨A', c', qs, rfl, ?_, VQ.out, ?_⟩
  · with_reducible (repeat (first | exact RW.out | refine Rows4.far ?_ ?_ _))
    all_goals (first | (show w.heap.size + 1 < _; omega) | (show w.heap.size < _; omega))
  · with_reducible (repeat (first | exact B.out | refine Below.setCell ?_ ?_ _))
    all_goals (first | (show w.heap.size ≤ w.heap.size + 1; omega) | (show w.heap.size ≤ w.heap.size; omega))

/-- What stays of the entries. -/
def keepE (r : Int) (ps : List EV) : List EV := ps.filter fun p => p.ref != r
theorem keepE_take_no {r : Int} {ps : List EV} {k : Nat} {p : EV} (h : ps[k]? = some p) (hr : p.ref = r) : keepE r (ps.take (k + 1)) = keepE r (ps.take k) := by
  unfold keepE; rw [List.take_add_one, h, List.filter_append]; simp [hr]
theorem keepE_take_yes {r : Int} {ps : List EV} {k : Nat} {p : EV} (h : ps[k]? = some p) (hr : p.ref ≠ r) : keepE r (ps.take (k + 1)) = keepE r (ps.take k) ++ [p] := by
  unfold keepE; rw [List.take_add_one, h, List.filter_append]; simp [hr]
theorem keepE_len (r : Int) (ps : List EV) : (keepE r ps).length ≤ ps.length := List.length_filter_le _ _
theorem keepE_mem {r : Int} {ps : List EV} {p : EV} (h : p ∈ keepE r ps) : p ∈ ps := (List.mem_filter.1 h).1


end Go.Proofs.Ytfpmbkfikfdmkaa
