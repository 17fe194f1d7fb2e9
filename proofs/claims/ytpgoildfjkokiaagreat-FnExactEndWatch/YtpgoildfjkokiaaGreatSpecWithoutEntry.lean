/- The walks of spec.l3Copy, spec.l3Without, spec.WithoutEntry. -/
import Derived.Test.YtpgoildfjkokiaaGreatSpecNodeFault
import Derived.Test.YtpgoildfjkokiaaGreatImplWithout
namespace Go.Proofs.YtpgoildfjkokiaaGreat
open Go.RowKit

/-- A row that holds the entries qs, all from block base on. -/
structure Rows4 (w : World) (base n : Nat) (qs : List EV) (v : Value) : Prop where
  S : w.ownsRow base 150 4 v n (qs.flatMap EV.cells)
  R : ReadE w base v qs
theorem Copied.rows {w wr : World} {k : Nat} {qs : List EV} {v : Value} (h : Copied w wr k qs v) : Rows4 wr w.heap.size k qs v := ⟨h.S, h.R⟩
theorem Rows4.far {w : World} {base n : Nat} {qs : List EV} {v : Value} (h : Rows4 w base n qs v) {a : Addr} (ha : a.block < base) (u : Value) : Rows4 (w.setCell a u) base n qs v := by
  refine ⟨ownsRow_far2 h.S ha u, h.R.far (fun q hq => ?_) u⟩
  obtain ⟨g1, g2, a1, a2, a3, a4, _⟩ := h.R q hq
  rw [a1, a2]
  exact ⟨by show g1 ≠ _; omega, by show g2 ≠ _; omega⟩
theorem Rows4.entries {w : World} {base n : Nat} {qs : List EV} {v : Value} (h : Rows4 w base n qs v) : ∃ A c, v = .slice A n c ∧ Entries w A n qs := by
  refine entries_of_owns h.S fun q hq => ?_
  obtain ⟨g1, g2, a1, a2, a3, a4, a5, a6, a7, a8, a9, a10, i1, i2⟩ := h.R q hq
  exact ⟨i1, i2, a9, a10⟩

set_option maxHeartbeats 1600000 in
theorem l3Copy_any (lv ns rt : Int) (b n c dd : Nat) (A : Option Addr) (ps : List EV) (w : World) (hb : b < w.heap.size) (k0 : w.cell? ⟨b, 0, none⟩ = some (.int .i64 lv)) (k1 : w.cell? ⟨b, 1, none⟩ = some (.int .i64 ns)) (k2 : w.cell? ⟨b, 2, none⟩ = some (.int .i64 rt)) (k3 : w.cell? ⟨b, 3, none⟩ = some (.slice A n c))
    (hp : Entries w A n ps) (hn : n ≤ 6) (hd : 0 < dd) (hd3 : dd ≤ 3) (hl : LensE dd (ps.map EV.val)) :
    Calls Tryz.prog 46 #[.pointer (some ⟨b, 0, none⟩)] w fun e w' => ∃ A' c' qs, e = .returned (.agg #[.int .i64 lv, .int .i64 ns, .int .i64 rt, .slice A' n c']) ∧ Rows4 w' (w.heap.size + 1 + 1) n qs (.slice A' n c') ∧ qs.map EV.val = ps.map EV.val ∧ Below w.heap.size w w' := by
  have HP := Lib.hid hp
  have HE := Lib.hid hl
  clear hp hl
  have B := Lib.hid (below_alloc w (.cells #[.int .i64 0, .int .i64 0, .int .i64 0, .slice none 0 0] 42))
  have e0 : (w.alloc (.cells #[.int .i64 0, .int .i64 0, .int .i64 0, .slice none 0 0] 42)).cell? ⟨b, 0, none⟩ = some (.int .i64 lv) := (B.out.cell (p := ⟨b, 0, none⟩) hb).trans k0
  have e1 : (w.alloc (.cells #[.int .i64 0, .int .i64 0, .int .i64 0, .slice none 0 0] 42)).cell? ⟨b, 1, none⟩ = some (.int .i64 ns) := (B.out.cell (p := ⟨b, 1, none⟩) hb).trans k1
  have e2 : (w.alloc (.cells #[.int .i64 0, .int .i64 0, .int .i64 0, .slice none 0 0] 42)).cell? ⟨b, 2, none⟩ = some (.int .i64 rt) := (B.out.cell (p := ⟨b, 2, none⟩) hb).trans k2
  have e3 : (w.alloc (.cells #[.int .i64 0, .int .i64 0, .int .i64 0, .slice none 0 0] 42)).cell? ⟨b, 3, none⟩ = some (.slice A n c) := (B.out.cell (p := ⟨b, 3, none⟩) hb).trans k3
  replace B := Lib.hid (B.out.alloc B.out.size (.cells #[.int .i64 lv, .int .i64 ns, .int .i64 rt, .slice A n c] 42))
  have g3 : ((w.alloc (.cells #[.int .i64 0, .int .i64 0, .int .i64 0, .slice none 0 0] 42)).alloc (.cells #[.int .i64 lv, .int .i64 ns, .int .i64 rt, .slice A n c] 42)).cell? ⟨b, 3, none⟩ = some (.slice A n c) := (B.out.cell (p := ⟨b, 3, none⟩) hb).trans k3
  clear k0 k1 k2 k3
  have L_r := Lib.hid ((Lies.new w 42 #[.int .i64 0, .int .i64 0, .int .i64 0, .slice none 0 0]).alloc (.cells #[.int .i64 lv, .int .i64 ns, .int .i64 rt, .slice A n c] 42))
  have L_o := Lib.hid (Lies.new (w.alloc (.cells #[.int .i64 0, .int .i64 0, .int .i64 0, .slice none 0 0] 42)) 42 #[.int .i64 lv, .int .i64 ns, .int .i64 rt, .slice A n c])
  simp only [World.size_alloc] at L_o
  go_enter Tryz.func46, Tryz.ntmps46
  go_wp2_with fail
  refine (l3Entries_any n c dd A ps _ (HP.out.kept B.out) hn hd hd3 HE.out).mono ?_
  rintro e W1 ⟨v, qs, rfl, hC, vq⟩
  have hcb := hC.b
  have hrow := hC.rows
  simp only [World.size_alloc] at hrow
  replace L_r := Lib.hid (L_r.out.kept hcb L_r.out.inside)
  replace L_o := Lib.hid (L_o.out.kept hcb L_o.out.inside)
  replace B := Lib.hid (B.out.trans (hcb.mono B.out.size))
  obtain ⟨A', c', rfl, _⟩ := hrow.entries
  have RW := Lib.hid hrow
  have VQ := Lib.hid vq
  clear hC hcb hrow vq e0 e1 e2 e3 g3
  have y0 : W1.cell? ⟨w.heap.size + 1, 0, none⟩ = some (.int .i64 lv) := L_o.out.cell 0
  have u0 : W1.frozen? ⟨w.heap.size + 1, 0, none⟩ = false := L_o.out.thawed 0
  have y1 : W1.cell? ⟨w.heap.size + 1, 1, none⟩ = some (.int .i64 ns) := L_o.out.cell 1
  have u1 : W1.frozen? ⟨w.heap.size + 1, 1, none⟩ = false := L_o.out.thawed 1
  have y2 : W1.cell? ⟨w.heap.size + 1, 2, none⟩ = some (.int .i64 rt) := L_o.out.cell 2
  have u2 : W1.frozen? ⟨w.heap.size + 1, 2, none⟩ = false := L_o.out.thawed 2
  have y3 : W1.cell? ⟨w.heap.size + 1, 3, none⟩ = some (.slice A n c) := L_o.out.cell 3
  have u3 : W1.frozen? ⟨w.heap.size + 1, 3, none⟩ = false := L_o.out.thawed 3
  have z0 : W1.cell? ⟨w.heap.size, 0, none⟩ = some (.int .i64 0) := L_r.out.cell 0
  have f0 : W1.frozen? ⟨w.heap.size, 0, none⟩ = false := L_r.out.thawed 0
  have z1 : W1.cell? ⟨w.heap.size, 1, none⟩ = some (.int .i64 0) := L_r.out.cell 1
  have f1 : W1.frozen? ⟨w.heap.size, 1, none⟩ = false := L_r.out.thawed 1
  have z2 : W1.cell? ⟨w.heap.size, 2, none⟩ = some (.int .i64 0) := L_r.out.cell 2
  have f2 : W1.frozen? ⟨w.heap.size, 2, none⟩ = false := L_r.out.thawed 2
  have z3 : W1.cell? ⟨w.heap.size, 3, none⟩ = some (.slice none 0 0) := L_r.out.cell 3
  have f3 : W1.frozen? ⟨w.heap.size, 3, none⟩ = false := L_r.out.thawed 3
  go_wp2
  refine bodyPost_ret (v := .agg #[.int .i64 lv, .int .i64 ns, .int .i64 rt, .slice A' n c']) (by simp [results, Tryz.results46, go_sem, z0, z1, z2, z3]) rfl ⟨A', c', qs, rfl, ?_, VQ.out, ?_⟩
  · with_reducible (repeat (first | exact RW.out | refine Rows4.far ?_ ?_ _))
    all_goals (first | (show w.heap.size + 1 < _; omega) | (show w.heap.size < _; omega))
  · with_reducible (repeat (first | exact B.out | refine Below.setCell ?_ ?_ _))
    all_goals (first | (show w.heap.size ≤ w.heap.size + 1; omega) | (show w.heap.size ≤ w.heap.size; omega))

/-- What stays of the entries. -/
def keepE (r : Int) (ps : List EV) : List EV := ps.filter fun p => p.ref != r
theorem keepE_take_no {r : Int} {ps : List EV} {k : Nat} {p : EV} (h : ps[k]? = some p) (hr : p.ref = r) : keepE r (ps.take (k + 1)) = keepE r (ps.take k) := by
  unfold keepE; rw [List.take_add_one, h, List.filter_append]; simp [hr]
theorem keepE_take_yes {r : Int} {ps : List EV} {k : Nat} {p : EV} (h : ps[k]? = some p) (hr : p.ref ≠ r) : keepE r (ps.take (k + 1)) = keepE r (ps.take k) ++ [p] := by
  unfold keepE; rw [List.take_add_one, h, List.filter_append]; simp [hr]
theorem keepE_len (r : Int) (ps : List EV) : (keepE r ps).length ≤ ps.length := List.length_filter_le _ _
theorem keepE_mem {r : Int} {ps : List EV} {p : EV} (h : p ∈ keepE r ps) : p ∈ ps := (List.mem_filter.1 h).1


end Go.Proofs.YtpgoildfjkokiaaGreat

/- The walk of spec.WithoutEntry. No condition but the length. -/
namespace Go.Proofs.YtpgoildfjkokiaaGreat
open Go.RowKit

theorem filter_erase {α : Type} {p : α → Bool} : ∀ {l : List α} {i : Nat}, (∀ (j : Nat) (x : α), l[j]? = some x → (p x = false ↔ j = i)) → l.filter p = l.eraseIdx i
  | [], i, _ => by simp
  | a :: t, 0, h => by
    have h0 : p a = false := (h 0 a (by simp)).2 rfl
    rw [List.filter_cons, if_neg (by simp [h0]), List.eraseIdx_cons_zero]
    rw [List.filter_eq_self]
    intro x hx
    obtain ⟨j, hj, rfl⟩ := List.getElem_of_mem hx
    have := h (j + 1) t[j] (by simp)
    cases hp : p t[j]
    · exact absurd (this.1 hp) (by omega)
    · rfl
  | a :: t, i + 1, h => by
    have h0 : p a = true := by
      cases hp : p a
      · exact absurd ((h 0 a (by simp)).1 hp) (by omega)
      · rfl
    rw [List.filter_cons, if_pos h0, List.eraseIdx_cons_succ, filter_erase (l := t) (i := i) (fun j x hx => by have := h (j + 1) x (by simpa using hx); rw [this]; omega)]
theorem keepE_val (r : Int) (qs : List EV) : (keepE r qs).map EV.val = (qs.map EV.val).filter (fun v => v.2.2.1 != r) := by
  unfold keepE; rw [List.filter_map]; rfl
theorem keep_erase {vs : List EVal} {r : Int} {i : Nat} (h1 : twiceE vs = false) (hi : findE r vs = (i : Int)) : vs.filter (fun v => v.2.2.1 != r) = vs.eraseIdx i := by
  refine filter_erase fun j x hx => ?_
  have hj := twiceE_once h1 j x hx
  constructor
  · intro hp
    have e : x.2.2.1 = r := by simpa using hp
    rw [e, hi] at hj
    omega
  · rintro rfl
    obtain ⟨v, hv, hr⟩ := findE_at hi
    rw [hx] at hv
    injection hv with hv; subst hv
    simp [hr]
theorem Entries.farOf {w : World} {A : Option Addr} {n : Nat} {qs : List EV} (h : Entries w A n qs) {a : Addr} (hA : 0 < n → ∃ g, A = some ⟨g, 0, none⟩ ∧ g ≠ a.block) (hq : ∀ q ∈ qs, ∃ g1 g2, q.A1 = some ⟨g1, 0, none⟩ ∧ q.A2 = some ⟨g2, 0, none⟩ ∧ g1 ≠ a.block ∧ g2 ≠ a.block) (v : Value) : Entries (w.setCell a v) A n qs := by
  obtain ⟨hl, hr, hp⟩ := h
  refine ⟨hl, fun hn => ?_, fun q hm => ?_⟩
  · obtain ⟨b, o, e, h2, h3⟩ := hr hn
    obtain ⟨g, e', hne⟩ := hA hn
    rw [e'] at e
    injection e with e; injection e with e1 e2; subst e1 e2
    refine ⟨g, 0, e', by rw [size_of_setCell]; exact h2, fun k q hk => ?_⟩
    have cl : ∀ x, (w.setCell a v).cell? ⟨g, x, none⟩ = w.cell? ⟨g, x, none⟩ := fun x => World.cell?_of_block (w := w) (a := ⟨g, x, none⟩) (heap_setCell_other w a g v hne)
    rw [cl, cl, cl, cl]
    exact h3 k q hk
  · obtain ⟨g1, g2, a1, a2, n1, n2⟩ := hq q hm
    obtain ⟨i1, i2, m1, m2⟩ := hp q hm
    rw [a1] at i1; rw [a2] at i2
    exact ⟨by rw [a1]; exact i1.block (Nat.le_of_eq (size_of_setCell _ _ _).symm) (heap_setCell_other w a g1 v n1), by rw [a2]; exact i2.block (Nat.le_of_eq (size_of_setCell _ _ _).symm) (heap_setCell_other w a g2 v n2), m1, m2⟩

/-- The answer R is read from memory. -/
def ReadPost2 (R : Int × Int × Int × Int × List EVal) (w : World) (e : Ending) (w' : World) : Prop :=
  ∃ A' n' c' qs, e = .returned (.agg #[.int .i64 R.1, .int .i64 R.2.1, .int .i64 R.2.2.1, .int .i64 R.2.2.2.1, .slice A' n' c']) ∧ Entries w' A' n' qs ∧ qs.map EV.val = R.2.2.2.2 ∧ n' ≤ 6 ∧ Below w.heap.size w w'
theorem entries_nil (w : World) (A : Option Addr) : Entries w A 0 [] := ⟨rfl, fun h => absurd h (Nat.lt_irrefl 0), fun q hq => by simp at hq⟩


end Go.Proofs.YtpgoildfjkokiaaGreat
