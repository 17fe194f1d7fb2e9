/- Entries of the call's own through draws, new blocks and calls. -/
import Derived.Test.YtpgoildfjkokiaaGreatEntryLists
import Derived.Test.YtpgoildfjkokiaaGreatArenaArg
import Derived.Test.YtpgoildfjkokiaaGreatNodeRes
namespace Go.Proofs.YtpgoildfjkokiaaGreat
open Go.RowKit

theorem EntriesOwn.drewO {w : World} {g n : Nat} {qs : List EV} (h : EntriesOwn w g n qs) : EntriesOwn w.drew g n qs := h
theorem EntriesOwn.allocO {w : World} {g n : Nat} {qs : List EV} (h : EntriesOwn w g n qs) (o : Obj) : EntriesOwn (w.alloc o) g n qs := h.kept (below_alloc _ _)
theorem EntriesOwn.callO {w w' : World} {g n : Nat} {qs : List EV} (h : EntriesOwn w g n qs) (hb : Below w.heap.size w w') : EntriesOwn w' g n qs := h.kept hb

end Go.Proofs.YtpgoildfjkokiaaGreat

/- A node that is an argument: how high it lies, that it stays where nothing of it is written; arenas of the call's own through draws and new blocks. -/
namespace Go.Proofs.YtpgoildfjkokiaaGreat
open Go.RowKit

def NHi (hi g : Nat) (qs : List EV) : Prop := g < hi ∧ ∀ q ∈ qs, ∀ b o, q.A2 = some ⟨b, o, none⟩ → b < hi
section
variable {w w' : World} {g n hi : Nat} {qs : List EV}
theorem EntriesOwn.high (h : EntriesOwn w g n qs) : NHi w.heap.size g qs := by
  refine ⟨h.inside, fun q hq b o e => ?_⟩
  obtain ⟨_, _, _, _, g1, g2, k5, k6, k7, k8, k9, k10⟩ := h.2.2 q hq
  rw [k6] at e; injection e with e; injection e with e
  have := k10.inside; omega
theorem EntriesOwn.anyH (h : EntriesOwn w g n qs) (hh : NHi hi g qs) : EntriesAny w g n hi qs := by
  obtain ⟨⟨f, h1, h2⟩, hl, h3⟩ := h
  refine ⟨⟨f, h1, fun j q hq => ⟨(h2 j q hq).1, (h2 j q hq).2.1⟩⟩, hh.1, fun q hq => ?_⟩
  obtain ⟨k1, k2, k3, k4, g1, g2, k5, k6, k7, k8, k9, k10⟩ := h3 q hq
  exact ⟨g1, g2, k5, k6, k7, k8, hh.2 q hq g2 0 k6, ⟨_, k9⟩, _, k10⟩
theorem EntriesOwn.others (h : EntriesOwn w g n qs) (hk : ∀ b, g ≤ b → b < w.heap.size → w'.heap[b]? = w.heap[b]?) : EntriesOwn w' g n qs := by
  obtain ⟨⟨f, h1, h2⟩, hl, h3⟩ := h
  refine ⟨⟨f, h1.of_block (hk g (Nat.le_refl _) h1.lt), h2⟩, hl, fun q hq => ?_⟩
  obtain ⟨k1, k2, k3, k4, g1, g2, k5, k6, k7, k8, k9, k10⟩ := h3 q hq
  exact ⟨k1, k2, k3, k4, g1, g2, k5, k6, k7, k8, ⟨k9.1, k9.2.of_block (hk g1 (by omega) k9.inside)⟩, ⟨k10.1, k10.2.of_block (hk g2 (by omega) k10.inside)⟩⟩
end
section
variable {w w' : World} {base g1 g2 g3 n1 n2 n3 : Nat} {ns : List NV} {fs : List Int} {rs : List RV}
/-- An arena of the call's own, wherever it lies. -/
def ArenaAt (w : World) (g1 g2 g3 n1 n2 n3 : Nat) (ns : List NV) (fs : List Int) (rs : List RV) : Prop := ∃ base, ArenaOwn w base g1 g2 g3 n1 n2 n3 ns fs rs
theorem ArenaAt.of (h : ArenaOwn w base g1 g2 g3 n1 n2 n3 ns fs rs) : ArenaAt w g1 g2 g3 n1 n2 n3 ns fs rs := ⟨base, h⟩
theorem ArenaAt.call' (h : ArenaAt w g1 g2 g3 n1 n2 n3 ns fs rs) (hb : Below w.heap.size w w') : ArenaAt w' g1 g2 g3 n1 n2 n3 ns fs rs := by obtain ⟨b, h⟩ := h; exact ⟨b, h.kept hb⟩
theorem ArenaAt.drew' (h : ArenaAt w g1 g2 g3 n1 n2 n3 ns fs rs) : ArenaAt w.drew g1 g2 g3 n1 n2 n3 ns fs rs := h.call' (Below.refl _ _).drew
theorem ArenaAt.alloc' (h : ArenaAt w g1 g2 g3 n1 n2 n3 ns fs rs) (o : Obj) : ArenaAt (w.alloc o) g1 g2 g3 n1 n2 n3 ns fs rs := h.call' (below_alloc w o)
theorem ArenaAt.arena (h : ArenaAt w g1 g2 g3 n1 n2 n3 ns fs rs) (s1 : n1 ≤ 1048576) (s2 : n2 ≤ 1048576) (s3 : n3 ≤ 1048576) : ArenaL w (some ⟨g1, 0, none⟩) (some ⟨g2, 0, none⟩) (some ⟨g3, 0, none⟩) n1 n2 n3 ns fs rs := by obtain ⟨b, h⟩ := h; exact h.arena s1 s2 s3
end

end Go.Proofs.YtpgoildfjkokiaaGreat
