/- The walks of spec.l3Box and spec.BoxOf. -/
import Derived.Test.YtmoogdlbfadnaaaSpecNodeFault
import Derived.Test.YtmoogdlbfadnaaaBoxMath
import Derived.Test.YtmoogdlbfadnaaaUnion
import Derived.Test.YtmoogdlbfadnaaaCopy2
namespace Go.Proofs.Ytmoogdlbfadnaaa
open Go.RowKit

theorem Ints.form {w : World} {lo n : Nat} {A : Option Addr} {xs : List Int} (h : Ints w lo A n xs) (hn : 0 < n) : ∃ b o, A = some ⟨b, o, none⟩ ∧ lo ≤ b ∧ b < w.heap.size := by
  obtain ⟨b, o, e, h1, h2, _⟩ := h.2 hn
  exact ⟨b, o, e, h1, h2⟩
theorem Ints.farC {w : World} {lo n b o : Nat} {xs : List Int} (h : Ints w lo (some ⟨b, o, none⟩) n xs) {a : Addr} (ha : ¬ a.block = b) (v : Value) : Ints (w.setCell a v) lo (some ⟨b, o, none⟩) n xs := by
  obtain ⟨hl, hr⟩ := h
  refine ⟨hl, fun hn => ?_⟩
  obtain ⟨b', o', e, h1, h2, h3⟩ := hr hn
  injection e with e
  injection e with e1 e2
  subst e1 e2
  refine ⟨b, o, rfl, h1, by rw [size_of_setCell]; exact h2, fun k x hx => ?_⟩
  rw [World.cell?_of_block (w := w) (a := ⟨b, o + k, none⟩) (heap_setCell_other w a b v (fun e => ha e.symm))]
  exact h3 k x hx

/-- Where the loop stands: the answer's box, the box so far and its two rows. -/
structure Boxed (w wr : World) (ob dd : Nat) (b1 o1 c1 b2 o2 c2 : Nat) (xs ys : List Int) : Prop where
  b : Below w.heap.size w wr
  r : Lies wr w.heap.size 37 #[.slice none 0 0, .slice none 0 0]
  o : Lies wr ob 37 #[.slice (some ⟨b1, o1, none⟩) dd c1, .slice (some ⟨b2, o2, none⟩) dd c2]
  x : Ints wr 0 (some ⟨b1, o1, none⟩) dd xs
  y : Ints wr 0 (some ⟨b2, o2, none⟩) dd ys
  n1 : b1 ≠ ob ∧ w.heap.size < b1 ∧ b1 < wr.heap.size
  n2 : b2 ≠ ob ∧ w.heap.size < b2 ∧ b2 < wr.heap.size
  no : w.heap.size < ob



end Go.Proofs.Ytmoogdlbfadnaaa
