/- The walk of impl.nodeBody's with, of a node that has an entry. -/
import Derived.Test.YtmoogdlbfadnaaaClone
import Derived.Test.YtmoogdlbfadnaaaBodyNode
namespace Go.Proofs.Ytmoogdlbfadnaaa
open Go.RowKit

/-- What stands while a slot is put behind the others. -/
structure BW (w wr : World) (bd zn : Array Value) : Prop where
  m : Lies wr w.heap.size 199 bd
  r : Lies wr (w.heap.size + 1 + 1) 32 zn
  b : Below w.heap.size w wr
section
variable {w wr : World} {bd zn : Array Value}
theorem BW.drew (h : BW w wr bd zn) : BW w wr.drew bd zn := ⟨h.m, h.r, h.b.drew⟩
theorem BW.alloc (h : BW w wr bd zn) (o : Obj) : BW w (wr.alloc o) bd zn := ⟨h.m.alloc o, h.r.alloc o, h.b.alloc h.b.size o⟩
theorem BW.call {W : World} (h : BW w wr bd zn) (hb : Below wr.heap.size wr W) : BW w W bd zn := ⟨h.m.kept hb h.m.inside, h.r.kept hb h.r.inside, h.b.trans (hb.mono h.b.size)⟩
theorem BW.grown {w1 : World} {g n cap : Nat} (h : BW w wr bd zn) (hg : wr.grownBy w1 (Value.slice (some ⟨g, 0, none⟩) n cap).ownBlock) (hb : w.heap.size + 1 + 1 + 1 ≤ g) : Lies w1 w.heap.size 199 bd ∧ Lies w1 (w.heap.size + 1 + 1) 32 zn ∧ Below w.heap.size w w1 := by
  refine ⟨(hg.block _ h.m.inside (fun e => ?_)).trans h.m, (hg.block _ h.r.inside (fun e => ?_)).trans h.r, below_grown2 h.b hg (fun r e => ?_) h.b.size⟩
  · simp only [Value.ownBlock, Option.some.injEq] at e; omega
  · simp only [Value.ownBlock, Option.some.injEq] at e; omega
  · simp only [Value.ownBlock, Option.some.injEq] at e; omega
end
theorem ownsRow_lower {w : World} {base base' : Nat} {e : TypeId} {size : Nat} {v : Value} {n : Nat} {xs : List Value} (h : w.ownsRow base e size v n xs) (hb : base' ≤ base) : w.ownsRow base' e size v n xs := by
  obtain ⟨hl, h⟩ := h
  refine ⟨hl, ?_⟩
  rcases h with h | ⟨g, cap, cur, h1, h2, h3⟩
  · exact Or.inl h
  · exact Or.inr ⟨g, cap, cur, h1, by omega, h3⟩
theorem SlotsOf.snoc {vs : List EVal} {ss : List SL} {v : EVal} {s : SL} (h : SlotsOf vs ss) (hs : SlotOf v s) : SlotsOf (vs ++ [v]) (ss ++ [s]) := by
  have h1 : SlotsOf ((vs ++ [v]).take vs.length) ss := by rw [List.take_left']; exact h; rfl
  have h2 := h1.next (k := vs.length) (v := v) (s := s) (by simp) hs
  rwa [List.take_of_length_le (by simp)] at h2
theorem LensE.snoc {dd : Nat} {vs : List EVal} {v : EVal} (h : LensE dd vs) (hv : v.1.length = dd ∧ v.2.1.length = dd) : LensE dd (vs ++ [v]) := by
  intro k u hu
  rcases Nat.lt_or_ge k vs.length with hk | hk
  · rw [List.getElem?_append_left hk] at hu; exact h k u hu
  · rw [List.getElem?_append_right hk] at hu
    have : k - vs.length = 0 := by have := (List.getElem?_eq_some_iff.1 hu).1; simp at this; omega
    rw [this] at hu; simp at hu; subst hu; exact hv


end Go.Proofs.Ytmoogdlbfadnaaa
