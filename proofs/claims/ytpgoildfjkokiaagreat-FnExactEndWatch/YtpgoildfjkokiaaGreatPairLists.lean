/- Nodes that an answer owns: a row of nodes, each with entries of its own; no two share a block. -/
import Derived.Test.YtpgoildfjkokiaaGreatNodeRes
import Derived.Test.YtpgoildfjkokiaaGreatNodeLists
import Derived.Test.YtpgoildfjkokiaaGreatBoxes2
import Derived.Test.YtpgoildfjkokiaaGreatHolder
import Derived.Test.YtpgoildfjkokiaaGreatRects
import Derived.Deep.RegionHeld3
namespace Go.Proofs.YtpgoildfjkokiaaGreat
open Go.RowKit

def NV.cells (q : NV) : List Value := [.int .i64 q.lv, .int .i64 q.ns, .int .i64 q.rt, .slice q.A1 q.n1 q.c1]
/-- The blocks of a node's entries. -/
def nodeB (q : NV) : List Nat := ((Value.slice q.A1 q.n1 q.c1).ownBlock).toList ++ coords q.es
def nodesB (qs : List NV) : List Nat := qs.flatMap nodeB
section
variable {w w' : World} {base : Nat} {q : NV} {qs : List NV}
theorem EntriesRes.inB (h : EntriesRes w base q.A1 q.n1 q.c1 q.es) : ∀ b ∈ nodeB q, base ≤ b ∧ b < w.heap.size := by
  intro b hb
  rcases List.mem_append.1 hb with hb | hb
  · exact ownsRow_block2 h.S b (by simpa using hb)
  · exact h.C.inside b hb
theorem EntriesRes.nodupB (h : EntriesRes w base q.A1 q.n1 q.c1 q.es) : (nodeB q).Nodup := by
  unfold nodeB
  cases hv : (Value.slice q.A1 q.n1 q.c1).ownBlock with
  | none => simpa using h.D
  | some g => simpa using ⟨h.E g hv, h.D⟩
theorem EntriesRes.others (h : EntriesRes w base q.A1 q.n1 q.c1 q.es) (hk : ∀ b ∈ nodeB q, w'.heap[b]? = w.heap[b]?) : EntriesRes w' base q.A1 q.n1 q.c1 q.es := by
  refine ⟨⟨h.S.1, ?_⟩, h.C.others (fun x hx => hk x (List.mem_append_right _ hx)), h.D, h.E⟩
  rcases h.S.2 with h1 | ⟨g, cap, cur, h1, h2, h3, h4⟩
  · exact Or.inl h1
  · refine Or.inr ⟨g, cap, cur, h1, h2, (hk g (List.mem_append_left _ ?_)).trans h3, h4⟩
    rw [h1]; simp [Value.ownBlock]
end

/-- The value v is a row of the nodes qs that an answer owns. -/
structure NodesOut (w : World) (base : Nat) (v : Value) (n : Nat) (qs : List NV) : Prop where
  S : w.ownsRow base 42 4 v n (qs.flatMap NV.cells)
  Q : ∀ q ∈ qs, EntriesRes w base q.A1 q.n1 q.c1 q.es
  D : (nodesB qs).Nodup
  X : ∀ b, v.ownBlock = some b → b ∉ nodesB qs
section
variable {w w' w1 : World} {base n : Nat} {v : Value} {qs : List NV}
theorem nodesB_in (h : NodesOut w base v n qs) : ∀ b ∈ nodesB qs, base ≤ b ∧ b < w.heap.size := by
  intro b hb
  obtain ⟨q, hq, hb⟩ := List.mem_flatMap.1 hb
  exact (h.Q q hq).inB b hb
theorem NodesOut.others (h : NodesOut w base v n qs) (hv : ∀ b, v.ownBlock = some b → w'.heap[b]? = w.heap[b]?) (hk : ∀ b ∈ nodesB qs, w'.heap[b]? = w.heap[b]?) : NodesOut w' base v n qs := by
  refine ⟨⟨h.S.1, ?_⟩, fun q hq => (h.Q q hq).others (fun b hb => hk b (List.mem_flatMap.2 ⟨q, hq, hb⟩)), h.D, h.X⟩
  rcases h.S.2 with h1 | ⟨g, cap, cur, h1, h2, h3, h4⟩
  · exact Or.inl h1
  · exact Or.inr ⟨g, cap, cur, h1, h2, (hv g (by rw [h1]; rfl)).trans h3, h4⟩
theorem NodesOut.kept (h : NodesOut w base v n qs) (hb : Below w.heap.size w w') : NodesOut w' base v n qs :=
  h.others (fun b e => hb.block b (ownsRow_block2 h.S b e).2) (fun b hb' => hb.block b (nodesB_in h b hb').2)
theorem NodesOut.far (h : NodesOut w base v n qs) {a : Addr} (ha : a.block < base) (u : Value) : NodesOut (w.setCell a u) base v n qs :=
  h.others (fun b e => heap_setCell_other w a b u (by have := (ownsRow_block2 h.S b e).1; omega)) (fun b hb' => heap_setCell_other w a b u (by have := (nodesB_in h b hb').1; omega))
/-- One node more, whose entries lie in blocks that are new since w. -/
theorem NodesOut.put {W : World} {q : NV} {g cap : Nat} (h : NodesOut w base v n qs) (hb : Below w.heap.size w W) (hq : EntriesRes W w.heap.size q.A1 q.n1 q.c1 q.es) (hlo : base ≤ w.heap.size)
    (ho : w1.ownsRow base 42 4 (.slice (some ⟨g, 0, none⟩) (n + 1) cap) (n + 1) (qs.flatMap NV.cells ++ NV.cells q)) (hw : W.grownBy w1 v.ownBlock) (hat : v.ownBlock = some g ∨ W.heap.size ≤ g) :
    NodesOut w1 base (.slice (some ⟨g, 0, none⟩) (n + 1) cap) (n + 1) (qs ++ [q]) := by
  have h' := h.kept hb
  have old := nodesB_in h
  have new := hq.inB
  have vold : ∀ b, v.ownBlock = some b → b < w.heap.size := fun b e => (ownsRow_block2 h.S b e).2
  have nb : nodesB (qs ++ [q]) = nodesB qs ++ nodeB q := by simp [nodesB]
  have vno : ∀ b, v.ownBlock = some b → b ∉ nodesB (qs ++ [q]) := by
    intro b e hm
    rw [nb] at hm
    rcases List.mem_append.1 hm with hm | hm
    · exact h.X b e hm
    · have := (new b hm).1; have := vold b e; omega
  have keep : ∀ b ∈ nodesB (qs ++ [q]), w1.heap[b]? = W.heap[b]? := by
    intro b hm
    refine hw.block b ?_ (fun e => vno b e.symm hm)
    rw [nb] at hm
    rcases List.mem_append.1 hm with hm | hm
    · exact Nat.lt_of_lt_of_le (old b hm).2 hb.size
    · exact (new b hm).2
  refine ⟨by rw [List.flatMap_append]; simpa using ho, fun p hp => ?_, ?_, fun b e hm => ?_⟩
  · rcases List.mem_append.1 hp with hp' | hp'
    · exact (h'.Q p hp').others (fun b hb' => keep b (List.mem_flatMap.2 ⟨p, hp, hb'⟩))
    · simp only [List.mem_singleton] at hp'; subst hp'
      have hq2 : EntriesRes W base p.A1 p.n1 p.c1 p.es := by
        refine ⟨⟨hq.S.1, ?_⟩, fun x hx => ?_, hq.D, hq.E⟩
        · rcases hq.S.2 with h1 | ⟨g, cap, cur, h1, h2, h3⟩
          · exact Or.inl h1
          · exact Or.inr ⟨g, cap, cur, h1, by omega, h3⟩
        · obtain ⟨g1, g2, a1, a2, a3, a4, r⟩ := hq.C x hx
          exact ⟨g1, g2, a1, a2, by omega, by omega, r⟩
      exact hq2.others (fun b hb' => keep b (List.mem_flatMap.2 ⟨p, hp, hb'⟩))
  · rw [nb, List.nodup_append]
    refine ⟨h.D, hq.nodupB, fun a ha b hb' e => ?_⟩
    subst e
    have := (old a ha).2; have := (new a hb').1; omega
  · have e' : g = b := by simpa [Value.ownBlock] using e
    subst e'
    rcases hat with hat | hat
    · exact vno g hat hm
    · rw [nb] at hm
      rcases List.mem_append.1 hm with hm | hm
      · have := (old g hm).2; have := hb.size; omega
      · have := (new g hm).2; omega
end

end Go.Proofs.YtpgoildfjkokiaaGreat

/- What a list of pairs is in memory; the laws' helpers on one pair: szPair, toPair, eqPair. -/
namespace Go.Proofs.YtpgoildfjkokiaaGreat
open Go.RowKit

/-- One pair as it lies: its number, its two slices, what they read. -/
structure PV where
  id : Int
  A1 : Option Addr
  n1 : Nat
  c1 : Nat
  A2 : Option Addr
  n2 : Nat
  c2 : Nat
  x1 : List Int
  x2 : List Int

/-- What a pair says. -/
def PV.val (p : PV) : Int × List Int × List Int := (p.id, p.x1, p.x2)

def PairOk (w : World) (p : PV) : Prop := Ints w 0 p.A1 p.n1 p.x1 ∧ Ints w 0 p.A2 p.n2 p.x2 ∧ p.n1 ≤ maxLen ∧ p.n2 ≤ maxLen
theorem PairOk.kept {w w' : World} {p : PV} (h : PairOk w p) (hb : Below w.heap.size w w') : PairOk w' p := ⟨h.1.kept hb, h.2.1.kept hb, h.2.2⟩

/-- The slice value '.slice A n c' reads as the pairs ps. -/
def Pairs (w : World) (A : Option Addr) (n : Nat) (ps : List PV) : Prop :=
  ps.length = n ∧ (0 < n → ∃ b o, A = some ⟨b, o, none⟩ ∧ b < w.heap.size ∧ ∀ k p, ps[k]? = some p →
    w.cell? ⟨b, o + k * 3, none⟩ = some (.int .i64 p.id) ∧ w.cell? ⟨b, o + k * 3 + 1, none⟩ = some (.slice p.A1 p.n1 p.c1) ∧ w.cell? ⟨b, o + k * 3 + 2, none⟩ = some (.slice p.A2 p.n2 p.c2)) ∧ ∀ p ∈ ps, PairOk w p

theorem Pairs.kept {w w' : World} {n : Nat} {A : Option Addr} {ps : List PV} (h : Pairs w A n ps) (hb : Below w.heap.size w w') : Pairs w' A n ps := by
  obtain ⟨hl, hr, hp⟩ := h
  refine ⟨hl, fun hn => ?_, fun p hm => (hp p hm).kept hb⟩
  obtain ⟨b, o, e, h2, h3⟩ := hr hn
  refine ⟨b, o, e, Nat.lt_of_lt_of_le h2 hb.size, fun k x hx => ?_⟩
  obtain ⟨c0, c1, c2⟩ := h3 k x hx
  exact ⟨(hb.cell (p := ⟨b, o + k * 3, none⟩) h2).trans c0, (hb.cell (p := ⟨b, o + k * 3 + 1, none⟩) h2).trans c1, (hb.cell (p := ⟨b, o + k * 3 + 2, none⟩) h2).trans c2⟩

/-- The cells of the k-th pair. -/
theorem Pairs.cellAt {w : World} {n k : Nat} {A : Option Addr} {ps : List PV} (h : Pairs w A n ps) (hk : k < n) :
    ∃ b o id A1 n1 c1 A2 n2 c2 x1 x2, A = some ⟨b, o, none⟩ ∧ b < w.heap.size ∧ w.cell? ⟨b, o + k * 3, none⟩ = some (.int .i64 id) ∧ w.cell? ⟨b, o + k * 3 + 1, none⟩ = some (.slice A1 n1 c1) ∧ w.cell? ⟨b, o + k * 3 + 2, none⟩ = some (.slice A2 n2 c2) ∧
      Hid (ps[k]? = some ⟨id, A1, n1, c1, A2, n2, c2, x1, x2⟩) ∧ Hid (Ints w 0 A1 n1 x1) ∧ Hid (Ints w 0 A2 n2 x2) ∧ n1 ≤ maxLen ∧ n2 ≤ maxLen := by
  obtain ⟨hl, hr, hp⟩ := h
  obtain ⟨b, o, e, h2, h3⟩ := hr (by omega)
  have hx : ps[k]? = some (ps[k]'(by omega)) := List.getElem?_eq_getElem (by omega)
  have hq := hp _ (List.mem_of_getElem? hx)
  obtain ⟨c0, c1, c2⟩ := h3 k _ hx
  exact ⟨b, o, _, _, _, _, _, _, _, _, _, e, h2, c0, c1, c2, hx, hq.1, hq.2.1, hq.2.2.1, hq.2.2.2⟩





end Go.Proofs.YtpgoildfjkokiaaGreat

/- The laws' helpers on lists of pairs: szPairS, toPairS, eqPairS. -/
namespace Go.Proofs.YtpgoildfjkokiaaGreat
open Go.RowKit


theorem val_at {ps qs : List PV} {k : Nat} {p q : PV} (h : ps.map PV.val = qs.map PV.val) (hp : ps[k]? = some p) (hq : qs[k]? = some q) : p.val = q.val := by
  have h1 : (ps.map PV.val)[k]? = some p.val := by simp [hp]
  have h2 : (qs.map PV.val)[k]? = some q.val := by simp [hq]
  rw [h, h2] at h1
  injection h1 with h1; exact h1.symm





end Go.Proofs.YtpgoildfjkokiaaGreat
