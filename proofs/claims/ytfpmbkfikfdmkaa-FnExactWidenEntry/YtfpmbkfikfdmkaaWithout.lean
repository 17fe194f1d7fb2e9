/- The walk of impl.nodeBody's without. -/
import Derived.Test.YtfpmbkfikfdmkaaDelete
import Derived.Test.YtfpmbkfikfdmkaaBodyNode
namespace Go.Proofs.Ytfpmbkfikfdmkaa
open Go.RowKit

theorem getElem?_erase_map {α : Type} (l : List α) (i k : Nat) : (l.eraseIdx i)[k]? = if k < i then l[k]? else l[k + 1]? := List.getElem?_eraseIdx
theorem SlotsOf.erase {vs : List EVal} {ss : List SL} (h : SlotsOf vs ss) (i : Nat) : SlotsOf (vs.eraseIdx i) (ss.eraseIdx i) := by
  refine ⟨by rw [List.length_eraseIdx, List.length_eraseIdx, h.1], fun k v s hv hs => ?_⟩
  rw [List.getElem?_eraseIdx] at hv hs
  split at hv
  · exact h.2 k v s hv (by simpa [*] using hs)
  · exact h.2 (k + 1) v s hv (by simpa [*] using hs)
theorem LensE.erase {dd : Nat} {vs : List EVal} (h : LensE dd vs) (i : Nat) : LensE dd (vs.eraseIdx i) := by
  intro k u hu
  rw [List.getElem?_eraseIdx] at hu
  split at hu
  · exact h k u hu
  · exact h (k + 1) u hu

theorem Slots.far {w : World} {g o n : Nat} {ss : List SL} (h : Slots w (some ⟨g, o, none⟩) n ss) {a : Addr} (hne : g ≠ a.block) (v : Value) : Slots (w.setCell a v) (some ⟨g, o, none⟩) n ss := by
  obtain ⟨hl, hr⟩ := h
  refine ⟨hl, fun hn => ?_⟩
  obtain ⟨b, o', e, h2, h3⟩ := hr hn
  injection e with e; injection e with e1 e2; subst e1 e2
  refine ⟨g, o, rfl, by rw [size_of_setCell]; exact h2, fun k s hs j u hu => ?_⟩
  rw [World.cell?_of_block (w := w) (a := ⟨g, o + k * 8 + j, none⟩) (heap_setCell_other w a g v hne)]
  exact h3 k s hs j u hu


end Go.Proofs.Ytfpmbkfikfdmkaa
