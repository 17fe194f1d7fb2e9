/- Small words for a region whose order Go leaves open and in which blocks are laid: what is kept from step to step, whatever the order. No condition. -/
import Derived.Test.YtpgoildfjkokiabCopies
import Derived.Deep.RegionHeld3
import Derived.Deep.RegionWith
import Derived.Deep.DeepCutAuto
namespace Go.Proofs.Ytpgoildfjkokiab
open Go.RowKit

/-- All that was there in w is as it was. -/
def Since (w W : World) : Prop := Below w.heap.size w W
theorem Since.of {w W : World} (h : Below w.heap.size w W) : Since w W := h
theorem Since.below {w W : World} (h : Since w W) : Below w.heap.size w W := h
theorem Since.alloc {w W : World} (h : Since w W) (o : Obj) : Since w (W.alloc o) := Below.alloc h (Below.size h) o
theorem Since.drew {w W : World} (h : Since w W) : Since w W.drew := Below.drew h
theorem Since.call {w W W' : World} (h : Since w W) (b : Below W.heap.size W W') : Since w W' := Below.trans h (b.mono (Below.size h))
theorem Since.setCell {w W : World} (h : Since w W) {a : Addr} (hp : w.heap.size ≤ a.block) (v : Value) : Since w (W.setCell a v) := Below.setCell h hp v
theorem Lies.call {W W' : World} {g : Nat} {t : TypeId} {cs : Array Value} (h : Lies W g t cs) (b : Below W.heap.size W W') : Lies W' g t cs := h.kept b h.inside
theorem Own.far' {w : World} {g n : Nat} {xs : List Int} (h : Own w g n xs) {a : Addr} (hne : g ≠ a.block) (v : Value) : Own (w.setCell a v) g n xs := ⟨h.1, h.2.setOther hne v⟩
theorem Own.call {W W' : World} {g n : Nat} {xs : List Int} (h : Own W g n xs) (b : Below W.heap.size W W') : Own W' g n xs := h.kept b
theorem Own.alloc {W : World} {g n : Nat} {xs : List Int} (h : Own W g n xs) (o : Obj) : Own (W.alloc o) g n xs := h.kept ((Below.refl _ _).alloc (Nat.le_refl _) o)
theorem Own.drew' {w : World} {g n : Nat} {xs : List Int} (h : Own w g n xs) : Own w.drew g n xs := h

theorem Lies.as {w : World} {g : Nat} {t : TypeId} {cs cs' : Array Value} (h : Lies w g t cs) (e : cs = cs') : Lies w g t cs' := e ▸ h

theorem Lies.laid {W : World} {g : Nat} {t : TypeId} {cs : Array Value} (e : g = W.heap.size) : Lies (W.alloc (.cells cs t)) g t cs := e ▸ Lies.new W t cs

theorem Lies.laid2 (W : World) (o : Obj) (t : TypeId) (cs : Array Value) : Lies ((W.alloc o).alloc (.cells cs t)) (W.heap.size + 1) t cs := by
  have h := Lies.new (W.alloc o) t cs
  simpa only [World.size_alloc] using h

theorem size_of_drew (w : World) : w.drew.heap.size = w.heap.size := rfl
theorem size_of_setCell (w : World) (a : Addr) (v : Value) : (w.setCell a v).heap.size = w.heap.size := by simp [World.setCell]
/-- A callee leaves every old cell as it was: two rules for the walk. -/
theorem cells_kept {W W' : World} (b : Below W.heap.size W W') : ∀ g o, g < W.heap.size → W'.cell? ⟨g, o, none⟩ = W.cell? ⟨g, o, none⟩ := fun g o h => b.cell (p := ⟨g, o, none⟩) h
theorem frozen_kept {W W' : World} (b : Below W.heap.size W W') : ∀ g o, g < W.heap.size → W'.frozen? ⟨g, o, none⟩ = W.frozen? ⟨g, o, none⟩ := fun g o h => b.frozen (p := ⟨g, o, none⟩) h
theorem sizes_kept {W W' : World} (b : Below W.heap.size W W') : W.heap.size ≤ W'.heap.size := b.size

end Go.Proofs.Ytpgoildfjkokiab
