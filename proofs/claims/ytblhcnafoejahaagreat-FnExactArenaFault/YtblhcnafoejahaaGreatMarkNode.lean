/- The marks on a node of the call's own: markEntryS, markNode. Nothing but its own blocks turns. -/
import Derived.Test.YtblhcnafoejahaaGreatGround
import Derived.Test.YtblhcnafoejahaaGreatNodes
namespace Go.Proofs.YtblhcnafoejahaaGreat
open Go.RowKit

theorem Own.size_eq {w : World} {g n m : Nat} {xs ys : List Int} (h : Own w g n xs) (h' : Own w g m ys) : n = m := by
  obtain ⟨_, c, h1, h2, _⟩ := h
  obtain ⟨_, c', h1', h2', _⟩ := h'
  rw [h1] at h1'
  injection h1' with h1'; injection h1' with h1'
  subst h1'; omega
/-- A row stays a row of as many numbers when some row is marked. -/
theorem Turned.ownAny {w w' : World} {g1 n1 gx m : Nat} {xs xs' zs : List Int} (h : Turned (fun x => x = g1) w w') (h0 : Own w g1 n1 xs) (h1 : Own w' g1 n1 xs') (hz : Own w gx m zs) : ∃ zs', Own w' gx m zs' := by
  by_cases e : gx = g1
  · subst e
    have := h0.size_eq hz
    subst this
    exact ⟨_, h1⟩
  · exact ⟨_, h.own hz e⟩

/-- A row of entries, whatever their numbers are, below hi. -/
def EntriesAny (w : World) (g n hi : Nat) (qs : List EV) : Prop :=
  (∃ f, w.rowIs g 71 (n * 4) f ∧ ∀ (j : Nat) (q : EV), qs[j]? = some q → f (j * 4) = .slice q.A1 q.n1 q.c1 ∧ f (j * 4 + 1) = .slice q.A2 q.n2 q.c2) ∧ g < hi ∧
  ∀ q ∈ qs, ∃ g1 g2, q.A1 = some ⟨g1, 0, none⟩ ∧ q.A2 = some ⟨g2, 0, none⟩ ∧ g < g1 ∧ g1 < g2 ∧ g2 < hi ∧ (∃ xs, Own w g1 q.n1 xs) ∧ ∃ ys, Own w g2 q.n2 ys
theorem EntriesOwn.any {w : World} {g n : Nat} {qs : List EV} (h : EntriesOwn w g n qs) : EntriesAny w g n w.heap.size qs := by
  obtain ⟨⟨f, h1, h2⟩, hl, h3⟩ := h
  refine ⟨⟨f, h1, fun j q hq => ⟨(h2 j q hq).1, (h2 j q hq).2.1⟩⟩, h1.lt, fun q hq => ?_⟩
  obtain ⟨k1, k2, k3, k4, g1, g2, k5, k6, k7, k8, k9, k10⟩ := h3 q hq
  exact ⟨g1, g2, k5, k6, k7, k8, k10.inside, ⟨_, k9⟩, _, k10⟩
theorem EntriesAny.kept {w w' : World} {g n hi : Nat} {qs : List EV} (h : EntriesAny w g n hi qs) (hb : Below w.heap.size w w') : EntriesAny w' g n hi qs := by
  obtain ⟨⟨f, h1, h2⟩, hg, h3⟩ := h
  refine ⟨⟨f, h1.of_block (hb.block g h1.lt), h2⟩, hg, fun q hq => ?_⟩
  obtain ⟨g1, g2, k5, k6, k7, k8, k9, ⟨xs, o1⟩, ys, o2⟩ := h3 q hq
  exact ⟨g1, g2, k5, k6, k7, k8, k9, ⟨xs, o1.kept hb⟩, ys, o2.kept hb⟩
theorem EntriesAny.mark {w w' : World} {g n hi g1 n1 : Nat} {qs : List EV} {xs xs' : List Int} (h : EntriesAny w g n hi qs) (hne : g < g1) (ht : Turned (fun x => x = g1) w w') (h0 : Own w g1 n1 xs) (h1 : Own w' g1 n1 xs') : EntriesAny w' g n hi qs := by
  obtain ⟨⟨f, r1, r2⟩, hg, h3⟩ := h
  refine ⟨⟨f, r1.of_block (ht.2.2 g r1.lt (by omega)), r2⟩, hg, fun q hq => ?_⟩
  obtain ⟨ga, gb, k5, k6, k7, k8, k9, ⟨ys, o1⟩, zs, o2⟩ := h3 q hq
  exact ⟨ga, gb, k5, k6, k7, k8, k9, ht.ownAny h0 h1 o1, ht.ownAny h0 h1 o2⟩
theorem EntriesAny.put {w : World} {g n hi k : Nat} {qs : List EV} (h : EntriesAny w g n hi qs) (hk : k % 4 = 2 ∨ k % 4 = 3) (v : Value) : EntriesAny (w.setCell ⟨g, k, none⟩ v) g n hi qs := by
  obtain ⟨⟨f, r1, r2⟩, hg, h3⟩ := h
  refine ⟨⟨_, r1.set k v, fun j q hq => ?_⟩, hg, fun q hq => ?_⟩
  · rw [if_neg (by omega), if_neg (by omega)]; exact r2 j q hq
  · obtain ⟨ga, gb, k5, k6, k7, k8, k9, ⟨ys, o1⟩, zs, o2⟩ := h3 q hq
    exact ⟨ga, gb, k5, k6, k7, k8, k9, ⟨ys, o1.far (by show ga ≠ g; omega) _⟩, zs, o2.far (by show gb ≠ g; omega) _⟩




/-- The lists of entries that say the same are as small. -/
theorem small_own {l : Int} {w w' : World} {A : Option Addr} {n g : Nat} {ps qs : List EV} (hp : Entries w A n ps) (hs : SmallE l ps) (hq : EntriesOwn w' g n qs) (hv : qs.map EV.val = ps.map EV.val) (hl : l ≤ 1048576) : ∀ q ∈ qs, q.n1 + q.n2 ≤ 1048576 := by
  intro q hm
  obtain ⟨k, hk, rfl⟩ := List.getElem_of_mem hm
  have hk' : k < ps.length := by have := congrArg List.length hv; simp only [List.length_map] at this; omega
  have e := eval_at hv (List.getElem?_eq_getElem hk) (List.getElem?_eq_getElem hk')
  simp only [EV.val, Prod.mk.injEq] at e
  have h1 := hs k _ (List.getElem?_eq_getElem hk')
  obtain ⟨i1, i2, _⟩ := hp.2.2 _ (List.getElem_mem hk')
  obtain ⟨_, _, _, _, g1, g2, _, _, _, _, o1, o2⟩ := hq.2.2 _ (List.getElem_mem hk)
  have a1 := i1.1; have a2 := i2.1; have b1 := o1.1; have b2 := o2.1
  rw [e.1] at b1; rw [e.2.1] at b2
  omega

end Go.Proofs.YtblhcnafoejahaaGreat
