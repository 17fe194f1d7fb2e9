/- The marks on a node of the call's own: markEntryS, markNode. Nothing but its own blocks turns. -/
import Derived.Test.YtblhcnafoejahaaMarks
import Derived.Test.YtblhcnafoejahaaNodes
namespace Go.Proofs.Ytblhcnafoejahaa
open Go.RowKit

theorem Own.size_eq {w : World} {g n m : Nat} {xs ys : List Int} (h : Own w g n xs) (h' : Own w g m ys) : n = m := by
  obtain ⟨_, c, h1, h2, _⟩ := h
  obtain ⟨_, c', h1', h2', _⟩ := h'
  rw [h1] at h1'
  injection h1' with h1'; injection h1' with h1'
  subst h1'; omega
/-- A row stays a row of as many numbers when some row is marked. -/
theorem Turned.ownAny {w w' : World} {g1 n1 gx m : Nat} {xs xs' zs : List Int} (h : Turned (fun x => x = g1) w w') (h0 : Own w g1 n1 xs) (h1 : Own w' g1 n1 xs') (hz : Own w gx m zs) : ∃ zs', Own w' gx m zs' := by
  by_cases e : gx = g1
  · subst e
    have := h0.size_eq hz
    subst this
    exact ⟨_, h1⟩
  · exact ⟨_, h.own hz e⟩

/-- A row of entries, whatever their numbers are, below hi. -/
def EntriesAny (w : World) (g n hi : Nat) (qs : List EV) : Prop :=
  (∃ f, w.rowIs g 67 (n * 4) f ∧ ∀ (j : Nat) (q : EV), qs[j]? = some q → f (j * 4) = .slice q.A1 q.n1 q.c1 ∧ f (j * 4 + 1) = .slice q.A2 q.n2 q.c2) ∧ g < hi ∧
  ∀ q ∈ qs, ∃ g1 g2, q.A1 = some ⟨g1, 0, none⟩ ∧ q.A2 = some ⟨g2, 0, none⟩ ∧ g < g1 ∧ g1 < g2 ∧ g2 < hi ∧ (∃ xs, Own w g1 q.n1 xs) ∧ ∃ ys, Own w g2 q.n2 ys
theorem EntriesOwn.any {w : World} {g n : Nat} {qs : List EV} (h : EntriesOwn w g n qs) : EntriesAny w g n w.heap.size qs := by
  obtain ⟨⟨f, h1, h2⟩, hl, h3⟩ := h
  refine ⟨⟨f, h1, fun j q hq => ⟨(h2 j q hq).1, (h2 j q hq).2.1⟩⟩, h1.lt, fun q hq => ?_⟩
  obtain ⟨k1, k2, k3, k4, g1, g2, k5, k6, k7, k8, k9, k10⟩ := h3 q hq
  exact ⟨g1, g2, k5, k6, k7, k8, k10.inside, ⟨_, k9⟩, _, k10⟩
theorem EntriesAny.kept {w w' : World} {g n hi : Nat} {qs : List EV} (h : EntriesAny w g n hi qs) (hb : Below w.heap.size w w') : EntriesAny w' g n hi qs := by
  obtain ⟨⟨f, h1, h2⟩, hg, h3⟩ := h
  refine ⟨⟨f, h1.of_block (hb.block g h1.lt), h2⟩, hg, fun q hq => ?_⟩
  obtain ⟨g1, g2, k5, k6, k7, k8, k9, ⟨xs, o1⟩, ys, o2⟩ := h3 q hq
  exact ⟨g1, g2, k5, k6, k7, k8, k9, ⟨xs, o1.kept hb⟩, ys, o2.kept hb⟩
theorem EntriesAny.mark {w w' : World} {g n hi g1 n1 : Nat} {qs : List EV} {xs xs' : List Int} (h : EntriesAny w g n hi qs) (hne : g < g1) (ht : Turned (fun x => x = g1) w w') (h0 : Own w g1 n1 xs) (h1 : Own w' g1 n1 xs') : EntriesAny w' g n hi qs := by
  obtain ⟨⟨f, r1, r2⟩, hg, h3⟩ := h
  refine ⟨⟨f, r1.of_block (ht.2.2 g r1.lt (by omega)), r2⟩, hg, fun q hq => ?_⟩
  obtain ⟨ga, gb, k5, k6, k7, k8, k9, ⟨ys, o1⟩, zs, o2⟩ := h3 q hq
  exact ⟨ga, gb, k5, k6, k7, k8, k9, ht.ownAny h0 h1 o1, ht.ownAny h0 h1 o2⟩
theorem EntriesAny.put {w : World} {g n hi k : Nat} {qs : List EV} (h : EntriesAny w g n hi qs) (hk : k % 4 = 2 ∨ k % 4 = 3) (v : Value) : EntriesAny (w.setCell ⟨g, k, none⟩ v) g n hi qs := by
  obtain ⟨⟨f, r1, r2⟩, hg, h3⟩ := h
  refine ⟨⟨_, r1.set k v, fun j q hq => ?_⟩, hg, fun q hq => ?_⟩
  · rw [if_neg (by omega), if_neg (by omega)]; exact r2 j q hq
  · obtain ⟨ga, gb, k5, k6, k7, k8, k9, ⟨ys, o1⟩, zs, o2⟩ := h3 q hq
    exact ⟨ga, gb, k5, k6, k7, k8, k9, ⟨ys, o1.far (by show ga ≠ g; omega) _⟩, zs, o2.far (by show gb ≠ g; omega) _⟩

set_option maxHeartbeats 3200000 in
theorem markEntryS_all (k0 : Int) (g n c hi : Nat) (qs : List EV) (w : World) (ho : EntriesAny w g n hi qs) (hl : qs.length = n) (h0 : 0 ≤ k0) (h1 : k0 ≤ 8388608) (hn : n ≤ 1048576) (hs : ∀ q ∈ qs, q.n1 + q.n2 ≤ 1048576) :
    Calls Try.prog 43 #[.slice (some ⟨g, 0, none⟩) n c, .int .i64 k0] w fun e w' => ∃ r : Int, e = .returned (.int .i64 r) ∧ (0 ≤ r ∧ r ≤ k0 + n * 1048578) ∧ Turned (fun x => g ≤ x ∧ x < hi) w w' := by
  have HO := Lib.hid ho
  have HL := Lib.hid hl
  have HS := Lib.hid hs
  clear ho hl hs
  go_enter Try.func43, Try.ntmps43
  go_wp2
  go_loopw [1, 5] (fun kv i wr => ∃ (j : Nat) (m : Int), j ≤ n ∧ i = .int .i64 j ∧ kv = .int .i64 m ∧ 0 ≤ m ∧ m ≤ k0 + j * 1048578 ∧ Hid (EntriesAny wr g n hi qs) ∧ Hid (Turned (fun x => g ≤ x ∧ x < hi) w wr)) (fun _ i _ => n - (intOf i).toNat)
  case atStart => exact ⟨0, k0, Nat.zero_le _, rfl, rfl, h0, by omega, HO, Turned.refl _ _⟩
  case round =>
    obtain ⟨j, m, hj, rfl, rfl, hm0, hm1, hE, hT⟩ := hrel
    by_cases hlt : j < n
    · have hq : qs[j]? = some (qs[j]'(by rw [HL.out]; exact hlt)) := List.getElem?_eq_getElem _
      obtain ⟨g1, g2, e1, e2, l1, l2, l3, ⟨xs, o1⟩, ys, o2⟩ := hE.out.2.2 _ (List.mem_of_getElem? hq)
      have hs := HS.out _ (List.mem_of_getElem? hq)
      obtain ⟨⟨f, hrow, hf⟩, hgi, _⟩ := hE.out
      have d0 : wr.cell? ⟨g, j * 4, none⟩ = some (f (j * 4)) := hrow.cell (by omega)
      have d1 : wr.cell? ⟨g, j * 4 + 1, none⟩ = some (f (j * 4 + 1)) := hrow.cell (by omega)
      rw [(hf j _ hq).1, e1] at d0
      rw [(hf j _ hq).2, e2] at d1
      generalize (qs[j]'(by rw [HL.out]; exact hlt)).n1 = n1 at *
      generalize (qs[j]'(by rw [HL.out]; exact hlt)).c1 = c1 at *
      generalize (qs[j]'(by rw [HL.out]; exact hlt)).n2 = n2 at *
      generalize (qs[j]'(by rw [HL.out]; exact hlt)).c2 = c2 at *
      clear hq e1 e2 hf hrow f
      have O_1 := Lib.hid o1
      have O_2 := Lib.hid o2
      clear o1 o2
      go_wp2_with fail
      refine (markInt64S_any m n1 c1 g1 xs _ O_1.out hm0 (by omega) (by omega)).mono ?_
      rintro e W1 ⟨rfl, om1, t1⟩
      replace O_2 := Lib.hid (t1.own O_2.out (show ¬ g2 = g1 by omega))
      replace hE := Lib.hid (hE.out.mark l1 t1 O_1.out om1)
      replace hT := Lib.hid (hT.out.trans (t1.wider (fun x hx => by show g ≤ x ∧ x < hi; have hx' : x = g1 := hx; omega)))
      have d1' : W1.cell? ⟨g, j * 4 + 1, none⟩ = some (.slice (some ⟨g2, 0, none⟩) n2 c2) := by
        rw [World.cell?_of_block (w := wr) (a := ⟨g, j * 4 + 1, none⟩) (t1.2.2 g (by have := hE.out.1; rcases Nat.lt_or_ge g wr.heap.size with h | h; exact h; exact absurd d1 (by simp [World.cell?, Array.getElem?_eq_none h])) (by omega))]; exact d1
      clear om1 t1 d0 d1 O_1
      go_wp2_with fail
      refine (markInt64S_any (m + n1) n2 c2 g2 ys _ O_2.out (by omega) (by omega) (by omega)).mono ?_
      rintro e W2 ⟨rfl, om2, t2⟩
      replace hE := Lib.hid (hE.out.mark (by omega) t2 O_2.out om2)
      replace hT := Lib.hid (hT.out.trans (t2.wider (fun x hx => by show g ≤ x ∧ x < hi; have hx' : x = g2 := hx; omega)))
      clear om2 t2 d1' O_2
      obtain ⟨⟨f, hrow, _⟩, _⟩ := hE.out
      have c2' : W2.cell? ⟨g, j * 4 + 2, none⟩ = some (f (j * 4 + 2)) := hrow.cell (by omega)
      have c3' : W2.cell? ⟨g, j * 4 + 3, none⟩ = some (f (j * 4 + 3)) := hrow.cell (by omega)
      have f2' : W2.frozen? ⟨g, j * 4 + 2, none⟩ = false := hrow.frozen _
      have f3' : W2.frozen? ⟨g, j * 4 + 3, none⟩ = false := hrow.frozen _
      have hE' := Lib.hid ((hE.out.put (k := j * 4 + 2) (by omega) (.int .i64 (m + n1 + n2))).put (k := j * 4 + 3) (by omega) (.int .i64 (m + n1 + n2 + 1)))
      have hT' := Lib.hid ((hT.out.setCell (a := ⟨g, j * 4 + 2, none⟩) ⟨Nat.le_refl _, hgi⟩ (.int .i64 (m + n1 + n2))).setCell (a := ⟨g, j * 4 + 3, none⟩) ⟨Nat.le_refl _, hgi⟩ (.int .i64 (m + n1 + n2 + 1)))
      clear hE hT hrow
      go_wp2
      go_roundw
      case rel => exact ⟨j + 1, _, by omega, by go_num, rfl, by omega, by omega, hE', hT'⟩
      case measure => simp [intOf]; omega
    · go_wp2
      go_ret
      exact ⟨m, rfl, ⟨hm0, by omega⟩, hT.out⟩

set_option maxHeartbeats 800000 in
theorem markNode_all (k0 lv ns rt : Int) (g n c hi : Nat) (qs : List EV) (w : World) (ho : EntriesAny w g n hi qs) (hl : qs.length = n) (h0 : 0 ≤ k0) (h1 : k0 ≤ 8388608) (hn : n ≤ 1048576) (hs : ∀ q ∈ qs, q.n1 + q.n2 ≤ 1048576) :
    Calls Try.prog 16 #[.agg #[.int .i64 lv, .int .i64 ns, .int .i64 rt, .slice (some ⟨g, 0, none⟩) n c], .int .i64 k0] w fun e w' => ∃ r : Int, e = .returned (.int .i64 r) ∧ (0 ≤ r ∧ r ≤ k0 + n * 1048578) ∧ Turned (fun x => g ≤ x ∧ x < hi) w w' := by
  have HO := Lib.hid ho
  have HL := Lib.hid hl
  have HS := Lib.hid hs
  clear ho hl hs
  have B := Lib.hid (below_alloc w (.cells #[.int .i64 lv, .int .i64 ns, .int .i64 rt, .slice (some ⟨g, 0, none⟩) n c] 29))
  go_enter Try.func16, Try.ntmps16
  go_wp2_with fail
  refine (markEntryS_all k0 g n c hi qs _ (HO.out.kept B.out) HL.out h0 h1 hn HS.out).mono ?_
  rintro e W1 ⟨r, rfl, hr, t1⟩
  have T := Lib.hid ((Turned.of_below B.out).trans t1)
  clear t1
  go_wp2
  go_ret
  exact ⟨r, rfl, hr, T.out⟩

theorem markNode_any (k0 lv ns rt : Int) (g n c hi : Nat) (qs : List EV) (w : World) (ho : EntriesAny w g n hi qs) (hl : qs.length = n) (h0 : 0 ≤ k0) (h1 : k0 ≤ 8388608) (hn : n ≤ 1048576) (hs : ∀ q ∈ qs, q.n1 + q.n2 ≤ 1048576) :
    Calls Try.prog 16 #[.agg #[.int .i64 lv, .int .i64 ns, .int .i64 rt, .slice (some ⟨g, 0, none⟩) n c], .int .i64 k0] w fun e w' => ∃ r : Int, e = .returned (.int .i64 r) ∧ 0 ≤ r ∧ Turned (fun x => g ≤ x ∧ x < hi) w w' :=
  (markNode_all k0 lv ns rt g n c hi qs w ho hl h0 h1 hn hs).mono fun _ _ ⟨r, e, h, t⟩ => ⟨r, e, h.1, t⟩

/-- The lists of entries that say the same are as small. -/
theorem small_own {l : Int} {w w' : World} {A : Option Addr} {n g : Nat} {ps qs : List EV} (hp : Entries w A n ps) (hs : SmallE l ps) (hq : EntriesOwn w' g n qs) (hv : qs.map EV.val = ps.map EV.val) (hl : l ≤ 1048576) : ∀ q ∈ qs, q.n1 + q.n2 ≤ 1048576 := by
  intro q hm
  obtain ⟨k, hk, rfl⟩ := List.getElem_of_mem hm
  have hk' : k < ps.length := by have := congrArg List.length hv; simp only [List.length_map] at this; omega
  have e := eval_at hv (List.getElem?_eq_getElem hk) (List.getElem?_eq_getElem hk')
  simp only [EV.val, Prod.mk.injEq] at e
  have h1 := hs k _ (List.getElem?_eq_getElem hk')
  obtain ⟨i1, i2, _⟩ := hp.2.2 _ (List.getElem_mem hk')
  obtain ⟨_, _, _, _, g1, g2, _, _, _, _, o1, o2⟩ := hq.2.2 _ (List.getElem_mem hk)
  have a1 := i1.1; have a2 := i2.1; have b1 := o1.1; have b2 := o2.1
  rw [e.1] at b1; rw [e.2.1] at b2
  omega

end Go.Proofs.Ytblhcnafoejahaa
