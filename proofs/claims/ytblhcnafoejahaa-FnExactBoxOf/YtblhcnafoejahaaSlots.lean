/- What a list of slots is in memory; the walks of impl.nodeBody's all, place, refTwice, of slices.IndexFunc at slots, and of fits and sound. -/
import Derived.Test.YtblhcnafoejahaaImplNode
import Derived.Test.YtblhcnafoejahaaOrders
namespace Go.Proofs.Ytblhcnafoejahaa
open Go.RowKit

/-- One slot: a box's six numbers, a Ref, a Nsn. -/
structure SL where
  p0 : Int
  p1 : Int
  p2 : Int
  q0 : Int
  q1 : Int
  q2 : Int
  ref : Int
  nsn : Int
def SL.cells (s : SL) : List Value := [.int .i64 s.p0, .int .i64 s.p1, .int .i64 s.p2, .int .i64 s.q0, .int .i64 s.q1, .int .i64 s.q2, .int .i64 s.ref, .int .i64 s.nsn]
/-- The slot is made of the entry. -/
def SlotOf (v : EVal) (s : SL) : Prop := Pad v.1 s.p0 s.p1 s.p2 ∧ Pad v.2.1 s.q0 s.q1 s.q2 ∧ s.ref = v.2.2.1 ∧ s.nsn = v.2.2.2
/-- The slots are made of the entries, one by one. -/
def SlotsOf (vs : List EVal) (ss : List SL) : Prop := ss.length = vs.length ∧ ∀ (k : Nat) (v : EVal) (s : SL), vs[k]? = some v → ss[k]? = some s → SlotOf v s

/-- The slice value '.slice A n c' reads as the slots ss. -/
def Slots (w : World) (A : Option Addr) (n : Nat) (ss : List SL) : Prop :=
  ss.length = n ∧ (0 < n → ∃ b o, A = some ⟨b, o, none⟩ ∧ b < w.heap.size ∧ ∀ (k : Nat) (s : SL), ss[k]? = some s → ∀ (j : Nat) (v : Value), s.cells[j]? = some v → w.cell? ⟨b, o + k * 8 + j, none⟩ = some v)
theorem Slots.kept {w w' : World} {n : Nat} {A : Option Addr} {ss : List SL} (h : Slots w A n ss) (hb : Below w.heap.size w w') : Slots w' A n ss := by
  obtain ⟨hl, hr⟩ := h
  refine ⟨hl, fun hn => ?_⟩
  obtain ⟨b, o, e, h2, h3⟩ := hr hn
  exact ⟨b, o, e, Nat.lt_of_lt_of_le h2 hb.size, fun k s hs j v hv => (hb.cell (p := ⟨b, o + k * 8 + j, none⟩) h2).trans (h3 k s hs j v hv)⟩
/-- The cells of the k-th slot. -/
theorem Slots.cellAt {w : World} {n k : Nat} {A : Option Addr} {ss : List SL} (h : Slots w A n ss) (hk : k < n) :
    ∃ b o p0 p1 p2 q0 q1 q2 ref nsn, A = some ⟨b, o, none⟩ ∧ b < w.heap.size ∧ w.cell? ⟨b, o + k * 8, none⟩ = some (.int .i64 p0) ∧ w.cell? ⟨b, o + k * 8 + 1, none⟩ = some (.int .i64 p1) ∧ w.cell? ⟨b, o + k * 8 + 2, none⟩ = some (.int .i64 p2) ∧ w.cell? ⟨b, o + k * 8 + 3, none⟩ = some (.int .i64 q0) ∧ w.cell? ⟨b, o + k * 8 + 4, none⟩ = some (.int .i64 q1) ∧ w.cell? ⟨b, o + k * 8 + 5, none⟩ = some (.int .i64 q2) ∧ w.cell? ⟨b, o + k * 8 + 6, none⟩ = some (.int .i64 ref) ∧ w.cell? ⟨b, o + k * 8 + 7, none⟩ = some (.int .i64 nsn) ∧
      Hid (ss[k]? = some ⟨p0, p1, p2, q0, q1, q2, ref, nsn⟩) := by
  obtain ⟨hl, hr⟩ := h
  obtain ⟨b, o, e, h2, h3⟩ := hr (by omega)
  have hx : ss[k]? = some (ss[k]'(by omega)) := List.getElem?_eq_getElem (by omega)
  have c := h3 k _ hx
  exact ⟨b, o, _, _, _, _, _, _, _, _, e, h2, c 0 _ rfl, c 1 _ rfl, c 2 _ rfl, c 3 _ rfl, c 4 _ rfl, c 5 _ rfl, c 6 _ rfl, c 7 _ rfl, hx⟩

theorem slotCells_len : ∀ ss : List SL, (ss.flatMap SL.cells).length = ss.length * 8
  | [] => rfl
  | s :: ss => by simp only [List.flatMap_cons, List.length_append, slotCells_len ss, List.length_cons]; simp [SL.cells]; omega
theorem slotCells_at : ∀ {ss : List SL} {k j : Nat} {s : SL} {v : Value}, ss[k]? = some s → s.cells[j]? = some v → (ss.flatMap SL.cells)[k * 8 + j]? = some v
  | [], k, j, s, v, hs, _ => by simp at hs
  | t :: ss, 0, j, s, v, hs, hv => by
    simp at hs; subst hs
    have hj : j < 8 := by have := (List.getElem?_eq_some_iff.1 hv).1; simpa [SL.cells] using this
    rw [List.flatMap_cons, Nat.zero_mul, Nat.zero_add, List.getElem?_append_left (by simpa [SL.cells] using hj)]; exact hv
  | t :: ss, k + 1, j, s, v, hs, hv => by
    rw [List.flatMap_cons, List.getElem?_append_right (by simp [SL.cells]; omega)]
    have he : (k + 1) * 8 + j - t.cells.length = k * 8 + j := by simp [SL.cells]; omega
    rw [he]
    exact slotCells_at (by simpa using hs) hv
/-- A row that the call owns reads as slots. -/
theorem slots_of_owns {w : World} {base n : Nat} {v : Value} {ss : List SL} (h : w.ownsRow base 145 8 v n (ss.flatMap SL.cells)) : ∃ A c, v = .slice A n c ∧ Slots w A n ss := by
  obtain ⟨hl, h⟩ := h
  rw [slotCells_len] at hl
  have hl' : ss.length = n := by omega
  rcases h with ⟨rfl, rfl⟩ | ⟨g, cap, cur, rfl, h2, h3, h4, h5, h6, h7⟩
  · exact ⟨none, 0, rfl, hl', fun h => absurd h (Nat.lt_irrefl 0)⟩
  · refine ⟨_, _, rfl, hl', fun _ => ⟨g, 0, rfl, ?_, fun k s hk j v hv => ?_⟩⟩
    · rcases Nat.lt_or_ge g w.heap.size with h' | h'
      · exact h'
      · exact absurd (h3.symm.trans (Array.getElem?_eq_none h')) (by simp)
    · have hj : j < 8 := by have := (List.getElem?_eq_some_iff.1 hv).1; simpa [SL.cells] using this
      have hk2 : k < n := by rw [← hl']; exact (List.getElem?_eq_some_iff.1 hk).1
      rw [Nat.zero_add, cell_of_row w g (k * 8 + j) cur 145 (0, 0) h3]
      have h8 : (cur.toList.take (n * 8))[k * 8 + j]? = some v := by rw [h7]; exact slotCells_at hk hv
      rw [List.getElem?_take, if_pos (by omega)] at h8
      simpa using h8

theorem info_slot : ∃ i, Try.prog.info? 145 = some i ∧ i.zero = some (.agg #[.int .i64 0, .int .i64 0, .int .i64 0, .int .i64 0, .int .i64 0, .int .i64 0, .int .i64 0, .int .i64 0]) ∧ i.size = 8 ∧ i.bytes = 64 := by
  have h : (Try.prog.info? 145).map (fun i => (i.zero, i.size, i.bytes)) = some (some (.agg #[.int .i64 0, .int .i64 0, .int .i64 0, .int .i64 0, .int .i64 0, .int .i64 0, .int .i64 0, .int .i64 0]), 8, 64) := by kernel_rfl
  obtain ⟨i, hi, h⟩ := Option.map_eq_some_iff.1 h
  simp only [Prod.mk.injEq] at h
  exact ⟨i, hi, h.1, h.2.1, h.2.2⟩

theorem SlotsOf.at {vs : List EVal} {ss : List SL} (h : SlotsOf vs ss) {k : Nat} {s : SL} (hs : ss[k]? = some s) : ∃ v, vs[k]? = some v ∧ SlotOf v s := by
  have hk := (List.getElem?_eq_some_iff.1 hs).1
  rw [h.1] at hk
  exact ⟨vs[k], List.getElem?_eq_getElem hk, h.2 k _ s (List.getElem?_eq_getElem hk) hs⟩
theorem SlotsOf.next {vs : List EVal} {ss : List SL} {k : Nat} {v : EVal} {s : SL} (h : SlotsOf (vs.take k) ss) (hv : vs[k]? = some v) (hs : SlotOf v s) : SlotsOf (vs.take (k + 1)) (ss ++ [s]) := by
  have hk := (List.getElem?_eq_some_iff.1 hv).1
  have hl : ss.length = k := by rw [h.1]; simp; omega
  refine ⟨by simp [hl]; omega, fun j u t hu ht => ?_⟩
  rcases Nat.lt_or_ge j k with hj | hj
  · rw [List.getElem?_take, if_pos (by omega)] at hu
    rw [List.getElem?_append_left (by omega)] at ht
    exact h.2 j u t (by rw [List.getElem?_take, if_pos hj]; exact hu) ht
  · rw [List.getElem?_append_right (by omega)] at ht
    have hj0 : j = k := by
      have := (List.getElem?_eq_some_iff.1 ht).1
      simp at this; omega
    subst hj0
    rw [hl, Nat.sub_self] at ht
    simp at ht; subst ht
    rw [List.getElem?_take, if_pos (by omega), hv] at hu
    injection hu with hu; subst hu; exact hs

end Go.Proofs.Ytblhcnafoejahaa
