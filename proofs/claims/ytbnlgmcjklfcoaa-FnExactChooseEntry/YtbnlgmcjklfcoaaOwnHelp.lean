/- Entries of the call's own through draws, new blocks and calls. -/
import Derived.Test.YtbnlgmcjklfcoaaEntryLists
namespace Go.Proofs.Ytbnlgmcjklfcoaa
open Go.RowKit

theorem EntriesOwn.drewO {w : World} {g n : Nat} {qs : List EV} (h : EntriesOwn w g n qs) : EntriesOwn w.drew g n qs := h
theorem EntriesOwn.allocO {w : World} {g n : Nat} {qs : List EV} (h : EntriesOwn w g n qs) (o : Obj) : EntriesOwn (w.alloc o) g n qs := h.kept (below_alloc _ _)
theorem EntriesOwn.callO {w w' : World} {g n : Nat} {qs : List EV} (h : EntriesOwn w g n qs) (hb : Below w.heap.size w w') : EntriesOwn w' g n qs := h.kept hb

end Go.Proofs.Ytbnlgmcjklfcoaa
