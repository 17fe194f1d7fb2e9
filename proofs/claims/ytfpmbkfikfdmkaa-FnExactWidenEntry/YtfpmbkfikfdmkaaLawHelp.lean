/- Entries of the call's own, and those of an answer, through draws and new blocks. -/
import Derived.Test.YtfpmbkfikfdmkaaSpecOne
namespace Go.Proofs.Ytfpmbkfikfdmkaa
open Go.RowKit

theorem EntriesOwn.drew' {w : World} {g n : Nat} {qs : List EV} (h : EntriesOwn w g n qs) : EntriesOwn w.drew g n qs := h
theorem EntriesOwn.alloc' {w : World} {g n : Nat} {qs : List EV} (h : EntriesOwn w g n qs) (o : Obj) : EntriesOwn (w.alloc o) g n qs := h.kept (below_alloc w o)
theorem EntriesOwn.call {w w' : World} {g n : Nat} {qs : List EV} (h : EntriesOwn w g n qs) (hb : Below w.heap.size w w') : EntriesOwn w' g n qs := h.kept hb
theorem EntriesRes.fresh {w : World} {base n c : Nat} {A : Option Addr} {qs : List EV} (h : EntriesRes w base A n c qs) : EntF w base w.heap.size A n qs := by
  refine ⟨h.entries, fun hn => ?_, fun q hq => ?_⟩
  · rcases h.S.2 with ⟨e1, e2⟩ | ⟨g, cap, cur, e1, h2, h3, _⟩
    · simp at e1; omega
    · have hb := ownsRow_block2 h.S
      injection e1 with e1 e2 e3
      subst e1
      exact ⟨g, rfl, hb g rfl⟩
  · obtain ⟨ga, gb, a1, a2, a3, a4, a5, a6, oa, ob⟩ := h.C q hq
    exact ⟨ga, gb, a1, a2, ⟨by omega, oa.inside⟩, ⟨by omega, ob.inside⟩⟩

end Go.Proofs.Ytfpmbkfikfdmkaa
