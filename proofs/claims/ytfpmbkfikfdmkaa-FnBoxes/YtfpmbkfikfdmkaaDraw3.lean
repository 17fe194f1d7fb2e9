/- The draws: points and boxes. -/
import Derived.Test.YtfpmbkfikfdmkaaDraw2
import Derived.Test.YtfpmbkfikfdmkaaUnion
import Derived.Deep.AppendLies
namespace Go.Proofs.Ytfpmbkfikfdmkaa
open Go.RowKit

theorem Drew1.owns {w w' : World} {lo g base n size : Nat} {M : Int} {e : TypeId} {v : Value} {xs : List Value} (h : Drew1 w w' lo g M) (ho : w.ownsRow base e size v n xs) (hg : g < base) : w'.ownsRow base e size v n xs := by
  obtain ⟨hl, h1⟩ := ho
  refine ⟨hl, ?_⟩
  rcases h1 with h1 | ⟨q, cap, cur, rfl, h2, h3, h4⟩
  · exact Or.inl h1
  · have hq : q < w.heap.size := by
      rcases Nat.lt_or_ge q w.heap.size with h' | h'
      · exact h'
      · exact absurd (h3.symm.trans (Array.getElem?_eq_none h')) (by simp)
    exact Or.inr ⟨q, cap, cur, rfl, h2, (h.T.2.2 q hq (by show q ≠ g; omega)).trans h3, h4⟩
theorem Drew1.lies {w w' : World} {lo g b : Nat} {M : Int} {t : TypeId} {cs : Array Value} (h : Drew1 w w' lo g M) (hl : Lies w b t cs) (hb : b ≠ g) : Lies w' b t cs := h.T.lies hl hb
/-- What was put behind a row of one's own, or stored in a block that is new, turns nothing else. -/
theorem Drew1.grown {w w1 w2 : World} {lo g : Nat} {M : Int} {row : Option Nat} (h : Drew1 w w1 lo g M) (hg : w1.grownBy w2 row) (hr : ∀ r, row = some r → w.heap.size ≤ r) (hgw : g < w.heap.size) : Drew1 w w2 lo g M := by
  have hi := h.s.inside
  have hs := hg.size
  have hlow : Below w.heap.size w1 w2 := ⟨hg.os, hg.tape, hg.output, hg.size, fun b hb => hg.block b (Nat.lt_of_lt_of_le hb h.T.2.1) (fun e => by have := hr b e.symm; omega)⟩
  refine ⟨h.s.low (hlow.mono (by omega)) (hg.block g hi.2 (fun e => by have := hr g e.symm; omega)) (Int.le_refl _), ⟨fun B hG hB => (h.T.1 B hG hB).trans (hlow.mono hB), Nat.le_trans h.T.2.1 hs, fun k hk hn => (hlow.block k hk).trans (h.T.2.2 k hk hn)⟩⟩
theorem Drew1.put {w w1 : World} {lo g : Nat} {M : Int} (h : Drew1 w w1 lo g M) {a : Addr} (ha : w.heap.size ≤ a.block) (hgw : g < w.heap.size) (v : Value) : Drew1 w (w1.setCell a v) lo g M := by
  have hi := h.s.inside
  have hlow : Below w.heap.size w1 (w1.setCell a v) := (Below.refl _ _).setCell ha v
  refine ⟨h.s.low (hlow.mono (by omega)) (heap_setCell_other w1 a g v (by omega)) (Int.le_refl _), ⟨fun B hG hB => (h.T.1 B hG hB).setCell (Nat.le_trans hB ha) v, Nat.le_trans h.T.2.1 (by rw [size_of_setCell]; exact Nat.le_refl _), fun k hk hn => (hlow.block k hk).trans (h.T.2.2 k hk hn)⟩⟩


end Go.Proofs.Ytfpmbkfikfdmkaa
