/- The walk of spec.l1Ints: a copy of a list that is not empty, in new memory. -/
import Derived.Test.YtblhcnafoejahaaGreatCorners
import Derived.Deep.AppendLies
namespace Go.Proofs.YtblhcnafoejahaaGreat
open Go.RowKit

theorem info_parts' : ∃ i, Tryz.prog.info? 2 = some i ∧ i.zero = some (.int .i64 0) ∧ i.size = 1 ∧ i.bytes = 8 := by
  obtain ⟨i, hi, h⟩ := Option.map_eq_some_iff.1 info_i64
  simp only [Prod.mk.injEq] at h
  exact ⟨i, hi, h.1, h.2.1, h.2.2⟩
theorem below_grown' {B : Nat} {a w w' : World} {row : Option Nat} (h : Below B a w) (hg : w.grownBy w' row) (hrow : ∀ r, row = some r → B ≤ r) (hs : B ≤ w.heap.size) : Below B a w' :=
  ⟨hg.os.trans h.os, hg.tape.trans h.tape, hg.output.trans h.output, Nat.le_trans h.size hg.size, fun g hgB => (hg.block g (Nat.lt_of_lt_of_le hgB hs) (fun e => by have := hrow g e.symm; omega)).trans (h.block g hgB)⟩
theorem ints_of_owns' {w : World} {base n : Nat} {v : Value} {xs : List Int} (h : w.ownsRow base 2 1 v n (xs.map (Value.int .i64))) : ∃ A c, v = .slice A n c ∧ Ints w base A n xs := by
  obtain ⟨hl, h⟩ := h
  simp only [List.length_map, Nat.mul_one] at hl
  rcases h with ⟨rfl, rfl⟩ | ⟨g, cap, cur, rfl, h2, h3, h4, h5, h6, h7⟩
  · exact ⟨none, 0, rfl, hl, fun h => absurd h (Nat.lt_irrefl 0)⟩
  · refine ⟨_, _, rfl, hl, fun _ => ⟨g, 0, rfl, h2, ?_, fun k x hk => ?_⟩⟩
    · rcases Nat.lt_or_ge g w.heap.size with h' | h'
      · exact h'
      · exact absurd (h3.symm.trans (Array.getElem?_eq_none h')) (by simp)
    · rw [Nat.zero_add, cell_of_row w g k cur 2 (0, 0) h3]
      have hk2 : k < n := by rw [← hl]; exact (List.getElem?_eq_some_iff.1 hk).1
      have h8 : (cur.toList.take (n * 1))[k]? = some (.int .i64 x) := by rw [h7]; simp [hk]
      rw [List.getElem?_take, if_pos (by omega)] at h8
      simpa using h8

theorem owns_far2 {w : World} {base : Nat} {e : TypeId} {size : Nat} {v : Value} {n : Nat} {xs : List Value} (h : w.ownsRow base e size v n xs) {a : Addr} (ha : a.block < base) (u : Value) : (w.setCell a u).ownsRow base e size v n xs := by
  obtain ⟨hl, h1⟩ := h
  refine ⟨hl, ?_⟩
  rcases h1 with h1 | ⟨g, cap, cur, rfl, h2, h3, h4⟩
  · exact Or.inl h1
  · exact Or.inr ⟨g, cap, cur, rfl, h2, (heap_setCell_other w a g u (by omega)).trans h3, h4⟩
theorem owns_base2 {w : World} {base g n cap : Nat} {e : TypeId} {size : Nat} {xs : List Value} (h : w.ownsRow base e size (.slice (some ⟨g, 0, none⟩) n cap) n xs) : base ≤ g ∧ g < w.heap.size := by
  obtain ⟨hl, h1⟩ := h
  rcases h1 with ⟨h1, _⟩ | ⟨q, cap', cur, e1, h2, h3, h4⟩
  · injection h1 with h1; cases h1
  · injection e1 with e1; injection e1 with e1; injection e1 with e1; subst e1
    refine ⟨h2, ?_⟩
    rcases Nat.lt_or_ge g w.heap.size with h' | h'
    · exact h'
    · exact absurd (h3.symm.trans (Array.getElem?_eq_none h')) (by simp)
theorem owns_low2 {w : World} {base base' : Nat} {e : TypeId} {size : Nat} {v : Value} {n : Nat} {xs : List Value} (h : w.ownsRow base e size v n xs) (hb : base' ≤ base) : w.ownsRow base' e size v n xs := by
  obtain ⟨hl, h1⟩ := h
  refine ⟨hl, ?_⟩
  rcases h1 with h1 | ⟨g, cap, cur, rfl, h2, h3⟩
  · exact Or.inl h1
  · exact Or.inr ⟨g, cap, cur, rfl, by omega, h3⟩

theorem Ints.far2 {w : World} {lo n : Nat} {A : Option Addr} {xs : List Int} (h : Ints w lo A n xs) {a : Addr} (ha : a.block < lo) (v : Value) : Ints (w.setCell a v) lo A n xs := by
  obtain ⟨hl, hr⟩ := h
  refine ⟨hl, fun hn => ?_⟩
  obtain ⟨b, o, e, h1, h2, h3⟩ := hr hn
  refine ⟨b, o, e, h1, by simpa [World.setCell] using h2, fun k x hx => ?_⟩
  rw [World.cell?_of_block (w := w) (a := ⟨b, o + k, none⟩) (heap_setCell_other w a b v (by omega))]
  exact h3 k x hx


end Go.Proofs.YtblhcnafoejahaaGreat
