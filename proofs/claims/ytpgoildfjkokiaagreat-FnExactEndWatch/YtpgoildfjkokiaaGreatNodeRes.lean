/- The laws' helpers on one node: szNode, toNode, eqNode. -/
import Derived.Test.YtpgoildfjkokiaaGreatEntryLists
import Derived.Test.YtpgoildfjkokiaaGreatRects
import Derived.Deep.RegionHeld3
import Derived.Deep.RegionWith
import Derived.Deep.DeepCutAuto
import Derived.Deep.AppendLies
namespace Go.Proofs.YtpgoildfjkokiaaGreat
open Go.RowKit

/-- Each entry of the list is small. -/
def SmallE (l : Int) (ps : List EV) : Prop := ∀ (k : Nat) (p : EV), ps[k]? = some p → (p.n1 : Int) + p.n2 ≤ l
theorem SmallE.two {l : Int} {ps : List EV} (h : SmallE l ps) (hl : l ≤ 1048576) : ∀ (k : Nat) (p : EV), ps[k]? = some p → p.n1 ≤ 1048576 ∧ p.n2 ≤ 1048576 := by
  intro k p hk
  have := h k p hk
  exact ⟨by omega, by omega⟩

set_option maxHeartbeats 800000 in
theorem szNode_any (lv ns rt l : Int) (n c : Nat) (A : Option Addr) (ps : List EV) (w : World) (hp : Entries w A n ps) (hn : n ≤ maxLen) (h0 : 0 ≤ l) (h1 : l ≤ 1048576) :
    Calls Tryz.prog 78 #[.agg #[.int .i64 lv, .int .i64 ns, .int .i64 rt, .slice A n c], .int .i64 l] w fun e w' => ∃ r : Int, e = .returned (.int .i64 r) ∧ (r = -1 ∨ (0 ≤ r ∧ r ≤ l ∧ (n : Int) ≤ l ∧ SmallE l ps)) ∧ Below w.heap.size w w' := by
  have HP := Lib.hid hp
  clear hp
  have B := Lib.hid (below_alloc w (.cells #[.int .i64 lv, .int .i64 ns, .int .i64 rt, .slice A n c] 117))
  go_enter Tryz.func78, Tryz.ntmps78
  go_wp2_with fail
  refine (szEntryS_any l _ _ _ ps _ (HP.out.kept B.out) hn h0 h1).mono ?_
  rintro e W1 ⟨r, rfl, hr, b1⟩
  replace B := Lib.hid (B.out.trans (b1.mono B.out.size))
  clear b1
  rcases hr with rfl | ⟨r0, r1, hn1, hs⟩
  · go_wp2
    go_ret
    exact ⟨-1, rfl, Or.inl rfl, B.out⟩
  · have hr0 : ¬ r < 0 := by omega
    have HS := Lib.hid hs
    clear hs
    go_wp2
    go_ret
    exact ⟨r, rfl, Or.inr ⟨r0, r1, hn1, HS.out⟩, B.out⟩

set_option maxHeartbeats 1600000 in
theorem eqNode_same (lv ns rt : Int) (n c c' : Nat) (A A' : Option Addr) (ps qs : List EV) (w : World) (hp : Entries w A n ps) (hq : Entries w A' n qs) (hv : ps.map EV.val = qs.map EV.val) (hn : n ≤ maxLen) :
    Calls Tryz.prog 51 #[.agg #[.int .i64 lv, .int .i64 ns, .int .i64 rt, .slice A n c], .agg #[.int .i64 lv, .int .i64 ns, .int .i64 rt, .slice A' n c']] w fun e w' => e = .returned (.bool true) ∧ Below w.heap.size w w' := by
  have e1 : (lv != lv) = false := by simp
  have e2 : (ns != ns) = false := by simp
  have e3 : (rt != rt) = false := by simp
  have HP := Lib.hid hp
  have HQ := Lib.hid hq
  have HV := Lib.hid hv
  clear hp hq hv
  have B := Lib.hid (below_alloc w (.cells #[.int .i64 lv, .int .i64 ns, .int .i64 rt, .slice A n c] 42))
  replace B := Lib.hid (B.out.alloc B.out.size (.cells #[.int .i64 lv, .int .i64 ns, .int .i64 rt, .slice A' n c'] 42))
  go_enter Tryz.func51, Tryz.ntmps51
  go_wp2_with fail
  refine (eqEntryS_same _ _ _ _ _ ps qs _ (HP.out.kept B.out) (HQ.out.kept B.out) HV.out hn).mono ?_
  rintro e W1 ⟨rfl, b1⟩
  replace B := Lib.hid (B.out.trans (b1.mono B.out.size))
  clear b1
  go_wp2
  go_ret
  exact ⟨rfl, B.out⟩

set_option maxHeartbeats 1600000 in
theorem toNode_any (lv ns rt : Int) (n c : Nat) (A : Option Addr) (ps : List EV) (w : World) (hp : Entries w A n ps) (hn : n ≤ 1048576) (hs : ∀ (k : Nat) (p : EV), ps[k]? = some p → p.n1 ≤ 1048576 ∧ p.n2 ≤ 1048576) :
    Calls Tryz.prog 85 #[.agg #[.int .i64 lv, .int .i64 ns, .int .i64 rt, .slice A n c]] w fun e w' => ∃ (g : Nat) (qs : List EV), e = .returned (.agg #[.int .i64 lv, .int .i64 ns, .int .i64 rt, .slice (some ⟨g, 0, none⟩) n n]) ∧ w.heap.size ≤ g ∧ EntriesOwn w' g n qs ∧ qs.length = n ∧ qs.map EV.val = ps.map EV.val ∧ Below w.heap.size w w' := by
  have HP := Lib.hid hp
  have HS := Lib.hid hs
  clear hp hs
  have B := Lib.hid (below_alloc w (.cells #[.int .i64 lv, .int .i64 ns, .int .i64 rt, .slice A n c] 117))
  replace B := Lib.hid (B.out.alloc B.out.size (.cells #[.int .i64 0, .int .i64 0, .int .i64 0, .slice none 0 0] 42))
  replace B := Lib.hid (B.out.alloc B.out.size (.cells #[.int .i64 lv, .int .i64 ns, .int .i64 rt, .slice none 0 0] 42))
  have L_r := Lib.hid ((Lies.new (w.alloc (.cells #[.int .i64 lv, .int .i64 ns, .int .i64 rt, .slice A n c] 117)) 42 #[.int .i64 0, .int .i64 0, .int .i64 0, .slice none 0 0]).alloc (.cells #[.int .i64 lv, .int .i64 ns, .int .i64 rt, .slice none 0 0] 42))
  have L_o := Lib.hid (Lies.new ((w.alloc (.cells #[.int .i64 lv, .int .i64 ns, .int .i64 rt, .slice A n c] 117)).alloc (.cells #[.int .i64 0, .int .i64 0, .int .i64 0, .slice none 0 0] 42)) 42 #[.int .i64 lv, .int .i64 ns, .int .i64 rt, .slice none 0 0])
  simp only [World.size_alloc] at L_r L_o
  go_enter Tryz.func85, Tryz.ntmps85
  go_wp2_with fail
  refine (toEntryS_any _ _ _ ps _ (HP.out.kept B.out) hn HS.out).mono ?_
  rintro e W1 ⟨g, qs, rfl, hg, og, lq, vq, b1⟩
  simp only [World.size_alloc] at hg
  replace L_r := Lib.hid (L_r.out.kept b1 L_r.out.inside)
  replace L_o := Lib.hid (L_o.out.kept b1 L_o.out.inside)
  replace B := Lib.hid (B.out.trans (b1.mono B.out.size))
  have O_g := Lib.hid og
  have LQ := Lib.hid lq
  have VQ := Lib.hid vq
  clear b1 og lq vq
  have c_o0 : W1.cell? ⟨w.heap.size + 1 + 1, 0, none⟩ = some (.int .i64 lv) := L_o.out.cell 0
  have f_o0 : W1.frozen? ⟨w.heap.size + 1 + 1, 0, none⟩ = false := L_o.out.thawed 0
  have c_o1 : W1.cell? ⟨w.heap.size + 1 + 1, 1, none⟩ = some (.int .i64 ns) := L_o.out.cell 1
  have f_o1 : W1.frozen? ⟨w.heap.size + 1 + 1, 1, none⟩ = false := L_o.out.thawed 1
  have c_o2 : W1.cell? ⟨w.heap.size + 1 + 1, 2, none⟩ = some (.int .i64 rt) := L_o.out.cell 2
  have f_o2 : W1.frozen? ⟨w.heap.size + 1 + 1, 2, none⟩ = false := L_o.out.thawed 2
  have c_o3 : W1.cell? ⟨w.heap.size + 1 + 1, 3, none⟩ = some (.slice none 0 0) := L_o.out.cell 3
  have f_o3 : W1.frozen? ⟨w.heap.size + 1 + 1, 3, none⟩ = false := L_o.out.thawed 3
  have c_r0 : W1.cell? ⟨w.heap.size + 1, 0, none⟩ = some (.int .i64 0) := L_r.out.cell 0
  have f_r0 : W1.frozen? ⟨w.heap.size + 1, 0, none⟩ = false := L_r.out.thawed 0
  have c_r1 : W1.cell? ⟨w.heap.size + 1, 1, none⟩ = some (.int .i64 0) := L_r.out.cell 1
  have f_r1 : W1.frozen? ⟨w.heap.size + 1, 1, none⟩ = false := L_r.out.thawed 1
  have c_r2 : W1.cell? ⟨w.heap.size + 1, 2, none⟩ = some (.int .i64 0) := L_r.out.cell 2
  have f_r2 : W1.frozen? ⟨w.heap.size + 1, 2, none⟩ = false := L_r.out.thawed 2
  have c_r3 : W1.cell? ⟨w.heap.size + 1, 3, none⟩ = some (.slice none 0 0) := L_r.out.cell 3
  have f_r3 : W1.frozen? ⟨w.heap.size + 1, 3, none⟩ = false := L_r.out.thawed 3
  go_wp2
  refine bodyPost_ret (v := .agg #[.int .i64 lv, .int .i64 ns, .int .i64 rt, .slice (some ⟨g, 0, none⟩) n n]) (by simp [results, Tryz.results85, go_sem, c_r0, c_r1, c_r2, c_r3]) rfl ⟨g, qs, rfl, by omega, ?_, LQ.out, VQ.out, ?_⟩
  · with_reducible (repeat (first | exact O_g.out | refine EntriesOwn.far ?_ ?_ _))
    all_goals (first | (show w.heap.size + 1 + 1 < g; omega) | (show w.heap.size + 1 < g; omega))
  · with_reducible (repeat (first | exact B.out | refine Below.setCell ?_ ?_ _))
    all_goals (first | (show w.heap.size ≤ w.heap.size + 1 + 1; omega) | (show w.heap.size ≤ w.heap.size + 1; omega))

end Go.Proofs.YtpgoildfjkokiaaGreat

/- The marks on a node of the call's own: markEntryS, markNode. Nothing but its own blocks turns. -/
namespace Go.Proofs.YtpgoildfjkokiaaGreat
open Go.RowKit

theorem Own.size_eq {w : World} {g n m : Nat} {xs ys : List Int} (h : Own w g n xs) (h' : Own w g m ys) : n = m := by
  obtain ⟨_, c, h1, h2, _⟩ := h
  obtain ⟨_, c', h1', h2', _⟩ := h'
  rw [h1] at h1'
  injection h1' with h1'; injection h1' with h1'
  subst h1'; omega
/-- A row stays a row of as many numbers when some row is marked. -/
theorem Turned.ownAny {w w' : World} {g1 n1 gx m : Nat} {xs xs' zs : List Int} (h : Turned (fun x => x = g1) w w') (h0 : Own w g1 n1 xs) (h1 : Own w' g1 n1 xs') (hz : Own w gx m zs) : ∃ zs', Own w' gx m zs' := by
  by_cases e : gx = g1
  · subst e
    have := h0.size_eq hz
    subst this
    exact ⟨_, h1⟩
  · exact ⟨_, h.own hz e⟩

/-- A row of entries, whatever their numbers are, below hi. -/
def EntriesAny (w : World) (g n hi : Nat) (qs : List EV) : Prop :=
  (∃ f, w.rowIs g 150 (n * 4) f ∧ ∀ (j : Nat) (q : EV), qs[j]? = some q → f (j * 4) = .slice q.A1 q.n1 q.c1 ∧ f (j * 4 + 1) = .slice q.A2 q.n2 q.c2) ∧ g < hi ∧
  ∀ q ∈ qs, ∃ g1 g2, q.A1 = some ⟨g1, 0, none⟩ ∧ q.A2 = some ⟨g2, 0, none⟩ ∧ g < g1 ∧ g1 < g2 ∧ g2 < hi ∧ (∃ xs, Own w g1 q.n1 xs) ∧ ∃ ys, Own w g2 q.n2 ys
theorem EntriesOwn.any {w : World} {g n : Nat} {qs : List EV} (h : EntriesOwn w g n qs) : EntriesAny w g n w.heap.size qs := by
  obtain ⟨⟨f, h1, h2⟩, hl, h3⟩ := h
  refine ⟨⟨f, h1, fun j q hq => ⟨(h2 j q hq).1, (h2 j q hq).2.1⟩⟩, h1.lt, fun q hq => ?_⟩
  obtain ⟨k1, k2, k3, k4, g1, g2, k5, k6, k7, k8, k9, k10⟩ := h3 q hq
  exact ⟨g1, g2, k5, k6, k7, k8, k10.inside, ⟨_, k9⟩, _, k10⟩
theorem EntriesAny.kept {w w' : World} {g n hi : Nat} {qs : List EV} (h : EntriesAny w g n hi qs) (hb : Below w.heap.size w w') : EntriesAny w' g n hi qs := by
  obtain ⟨⟨f, h1, h2⟩, hg, h3⟩ := h
  refine ⟨⟨f, h1.of_block (hb.block g h1.lt), h2⟩, hg, fun q hq => ?_⟩
  obtain ⟨g1, g2, k5, k6, k7, k8, k9, ⟨xs, o1⟩, ys, o2⟩ := h3 q hq
  exact ⟨g1, g2, k5, k6, k7, k8, k9, ⟨xs, o1.kept hb⟩, ys, o2.kept hb⟩
theorem EntriesAny.mark {w w' : World} {g n hi g1 n1 : Nat} {qs : List EV} {xs xs' : List Int} (h : EntriesAny w g n hi qs) (hne : g < g1) (ht : Turned (fun x => x = g1) w w') (h0 : Own w g1 n1 xs) (h1 : Own w' g1 n1 xs') : EntriesAny w' g n hi qs := by
  obtain ⟨⟨f, r1, r2⟩, hg, h3⟩ := h
  refine ⟨⟨f, r1.of_block (ht.2.2 g r1.lt (by omega)), r2⟩, hg, fun q hq => ?_⟩
  obtain ⟨ga, gb, k5, k6, k7, k8, k9, ⟨ys, o1⟩, zs, o2⟩ := h3 q hq
  exact ⟨ga, gb, k5, k6, k7, k8, k9, ht.ownAny h0 h1 o1, ht.ownAny h0 h1 o2⟩
theorem EntriesAny.put {w : World} {g n hi k : Nat} {qs : List EV} (h : EntriesAny w g n hi qs) (hk : k % 4 = 2 ∨ k % 4 = 3) (v : Value) : EntriesAny (w.setCell ⟨g, k, none⟩ v) g n hi qs := by
  obtain ⟨⟨f, r1, r2⟩, hg, h3⟩ := h
  refine ⟨⟨_, r1.set k v, fun j q hq => ?_⟩, hg, fun q hq => ?_⟩
  · rw [if_neg (by omega), if_neg (by omega)]; exact r2 j q hq
  · obtain ⟨ga, gb, k5, k6, k7, k8, k9, ⟨ys, o1⟩, zs, o2⟩ := h3 q hq
    exact ⟨ga, gb, k5, k6, k7, k8, k9, ⟨ys, o1.far (by show ga ≠ g; omega) _⟩, zs, o2.far (by show gb ≠ g; omega) _⟩

set_option maxHeartbeats 3200000 in
theorem markEntryS_all (k0 : Int) (g n c hi : Nat) (qs : List EV) (w : World) (ho : EntriesAny w g n hi qs) (hl : qs.length = n) (h0 : 0 ≤ k0) (h1 : k0 ≤ 8388608) (hn : n ≤ 1048576) (hs : ∀ q ∈ qs, q.n1 + q.n2 ≤ 1048576) :
    Calls Tryz.prog 93 #[.slice (some ⟨g, 0, none⟩) n c, .int .i64 k0] w fun e w' => ∃ r : Int, e = .returned (.int .i64 r) ∧ (0 ≤ r ∧ r ≤ k0 + n * 1048578) ∧ Turned (fun x => g ≤ x ∧ x < hi) w w' := by
  have HO := Lib.hid ho
  have HL := Lib.hid hl
  have HS := Lib.hid hs
  clear ho hl hs
  go_enter Tryz.func93, Tryz.ntmps93
  go_wp2
  go_loopw [1, 5] (fun kv i wr => ∃ (j : Nat) (m : Int), j ≤ n ∧ i = .int .i64 j ∧ kv = .int .i64 m ∧ 0 ≤ m ∧ m ≤ k0 + j * 1048578 ∧ Hid (EntriesAny wr g n hi qs) ∧ Hid (Turned (fun x => g ≤ x ∧ x < hi) w wr)) (fun _ i _ => n - (intOf i).toNat)
  case atStart => exact ⟨0, k0, Nat.zero_le _, rfl, rfl, h0, by omega, HO, Turned.refl _ _⟩
  case round =>
    obtain ⟨j, m, hj, rfl, rfl, hm0, hm1, hE, hT⟩ := hrel
    by_cases hlt : j < n
    · have hq : qs[j]? = some (qs[j]'(by rw [HL.out]; exact hlt)) := List.getElem?_eq_getElem _
      obtain ⟨g1, g2, e1, e2, l1, l2, l3, ⟨xs, o1⟩, ys, o2⟩ := hE.out.2.2 _ (List.mem_of_getElem? hq)
      have hs := HS.out _ (List.mem_of_getElem? hq)
      obtain ⟨⟨f, hrow, hf⟩, hgi, _⟩ := hE.out
      have d0 : wr.cell? ⟨g, j * 4, none⟩ = some (f (j * 4)) := hrow.cell (by omega)
      have d1 : wr.cell? ⟨g, j * 4 + 1, none⟩ = some (f (j * 4 + 1)) := hrow.cell (by omega)
      rw [(hf j _ hq).1, e1] at d0
      rw [(hf j _ hq).2, e2] at d1
      generalize (qs[j]'(by rw [HL.out]; exact hlt)).n1 = n1 at *
      generalize (qs[j]'(by rw [HL.out]; exact hlt)).c1 = c1 at *
      generalize (qs[j]'(by rw [HL.out]; exact hlt)).n2 = n2 at *
      generalize (qs[j]'(by rw [HL.out]; exact hlt)).c2 = c2 at *
      clear hq e1 e2 hf hrow f
      have O_1 := Lib.hid o1
      have O_2 := Lib.hid o2
      clear o1 o2
      go_wp2_with fail
      refine (markInt64S_any m n1 c1 g1 xs _ O_1.out hm0 (by omega) (by omega)).mono ?_
      rintro e W1 ⟨rfl, om1, t1⟩
      replace O_2 := Lib.hid (t1.own O_2.out (show ¬ g2 = g1 by omega))
      replace hE := Lib.hid (hE.out.mark l1 t1 O_1.out om1)
      replace hT := Lib.hid (hT.out.trans (t1.wider (fun x hx => by show g ≤ x ∧ x < hi; have hx' : x = g1 := hx; omega)))
      have d1' : W1.cell? ⟨g, j * 4 + 1, none⟩ = some (.slice (some ⟨g2, 0, none⟩) n2 c2) := by
        rw [World.cell?_of_block (w := wr) (a := ⟨g, j * 4 + 1, none⟩) (t1.2.2 g (by have := hE.out.1; rcases Nat.lt_or_ge g wr.heap.size with h | h; exact h; exact absurd d1 (by simp [World.cell?, Array.getElem?_eq_none h])) (by omega))]; exact d1
      clear om1 t1 d0 d1 O_1
      go_wp2_with fail
      refine (markInt64S_any (m + n1) n2 c2 g2 ys _ O_2.out (by omega) (by omega) (by omega)).mono ?_
      rintro e W2 ⟨rfl, om2, t2⟩
      replace hE := Lib.hid (hE.out.mark (by omega) t2 O_2.out om2)
      replace hT := Lib.hid (hT.out.trans (t2.wider (fun x hx => by show g ≤ x ∧ x < hi; have hx' : x = g2 := hx; omega)))
      clear om2 t2 d1' O_2
      obtain ⟨⟨f, hrow, _⟩, _⟩ := hE.out
      have c2' : W2.cell? ⟨g, j * 4 + 2, none⟩ = some (f (j * 4 + 2)) := hrow.cell (by omega)
      have c3' : W2.cell? ⟨g, j * 4 + 3, none⟩ = some (f (j * 4 + 3)) := hrow.cell (by omega)
      have f2' : W2.frozen? ⟨g, j * 4 + 2, none⟩ = false := hrow.frozen _
      have f3' : W2.frozen? ⟨g, j * 4 + 3, none⟩ = false := hrow.frozen _
      have hE' := Lib.hid ((hE.out.put (k := j * 4 + 2) (by omega) (.int .i64 (m + n1 + n2))).put (k := j * 4 + 3) (by omega) (.int .i64 (m + n1 + n2 + 1)))
      have hT' := Lib.hid ((hT.out.setCell (a := ⟨g, j * 4 + 2, none⟩) ⟨Nat.le_refl _, hgi⟩ (.int .i64 (m + n1 + n2))).setCell (a := ⟨g, j * 4 + 3, none⟩) ⟨Nat.le_refl _, hgi⟩ (.int .i64 (m + n1 + n2 + 1)))
      clear hE hT hrow
      go_wp2
      go_roundw
      case rel => exact ⟨j + 1, _, by omega, by go_num, rfl, by omega, by omega, hE', hT'⟩
      case measure => simp [intOf]; omega
    · go_wp2
      go_ret
      exact ⟨m, rfl, ⟨hm0, by omega⟩, hT.out⟩

set_option maxHeartbeats 800000 in
theorem markNode_all (k0 lv ns rt : Int) (g n c hi : Nat) (qs : List EV) (w : World) (ho : EntriesAny w g n hi qs) (hl : qs.length = n) (h0 : 0 ≤ k0) (h1 : k0 ≤ 8388608) (hn : n ≤ 1048576) (hs : ∀ q ∈ qs, q.n1 + q.n2 ≤ 1048576) :
    Calls Tryz.prog 56 #[.agg #[.int .i64 lv, .int .i64 ns, .int .i64 rt, .slice (some ⟨g, 0, none⟩) n c], .int .i64 k0] w fun e w' => ∃ r : Int, e = .returned (.int .i64 r) ∧ (0 ≤ r ∧ r ≤ k0 + n * 1048578) ∧ Turned (fun x => g ≤ x ∧ x < hi) w w' := by
  have HO := Lib.hid ho
  have HL := Lib.hid hl
  have HS := Lib.hid hs
  clear ho hl hs
  have B := Lib.hid (below_alloc w (.cells #[.int .i64 lv, .int .i64 ns, .int .i64 rt, .slice (some ⟨g, 0, none⟩) n c] 42))
  go_enter Tryz.func56, Tryz.ntmps56
  go_wp2_with fail
  refine (markEntryS_all k0 g n c hi qs _ (HO.out.kept B.out) HL.out h0 h1 hn HS.out).mono ?_
  rintro e W1 ⟨r, rfl, hr, t1⟩
  have T := Lib.hid ((Turned.of_below B.out).trans t1)
  clear t1
  go_wp2
  go_ret
  exact ⟨r, rfl, hr, T.out⟩

theorem markNode_any (k0 lv ns rt : Int) (g n c hi : Nat) (qs : List EV) (w : World) (ho : EntriesAny w g n hi qs) (hl : qs.length = n) (h0 : 0 ≤ k0) (h1 : k0 ≤ 8388608) (hn : n ≤ 1048576) (hs : ∀ q ∈ qs, q.n1 + q.n2 ≤ 1048576) :
    Calls Tryz.prog 56 #[.agg #[.int .i64 lv, .int .i64 ns, .int .i64 rt, .slice (some ⟨g, 0, none⟩) n c], .int .i64 k0] w fun e w' => ∃ r : Int, e = .returned (.int .i64 r) ∧ 0 ≤ r ∧ Turned (fun x => g ≤ x ∧ x < hi) w w' :=
  (markNode_all k0 lv ns rt g n c hi qs w ho hl h0 h1 hn hs).mono fun _ _ ⟨r, e, h, t⟩ => ⟨r, e, h.1, t⟩

/-- The lists of entries that say the same are as small. -/
theorem small_own {l : Int} {w w' : World} {A : Option Addr} {n g : Nat} {ps qs : List EV} (hp : Entries w A n ps) (hs : SmallE l ps) (hq : EntriesOwn w' g n qs) (hv : qs.map EV.val = ps.map EV.val) (hl : l ≤ 1048576) : ∀ q ∈ qs, q.n1 + q.n2 ≤ 1048576 := by
  intro q hm
  obtain ⟨k, hk, rfl⟩ := List.getElem_of_mem hm
  have hk' : k < ps.length := by have := congrArg List.length hv; simp only [List.length_map] at this; omega
  have e := eval_at hv (List.getElem?_eq_getElem hk) (List.getElem?_eq_getElem hk')
  simp only [EV.val, Prod.mk.injEq] at e
  have h1 := hs k _ (List.getElem?_eq_getElem hk')
  obtain ⟨i1, i2, _⟩ := hp.2.2 _ (List.getElem_mem hk')
  obtain ⟨_, _, _, _, g1, g2, _, _, _, _, o1, o2⟩ := hq.2.2 _ (List.getElem_mem hk)
  have a1 := i1.1; have a2 := i2.1; have b1 := o1.1; have b2 := o2.1
  rw [e.1] at b1; rw [e.2.1] at b2
  omega

end Go.Proofs.YtpgoildfjkokiaaGreat

/- Small words for a region whose order Go leaves open and in which blocks are laid: what is kept from step to step, whatever the order. No condition. -/
namespace Go.Proofs.YtpgoildfjkokiaaGreat
open Go.RowKit

/-- All that was there in w is as it was. -/
def Since (w W : World) : Prop := Below w.heap.size w W
theorem Since.of {w W : World} (h : Below w.heap.size w W) : Since w W := h
theorem Since.below {w W : World} (h : Since w W) : Below w.heap.size w W := h
theorem Since.alloc {w W : World} (h : Since w W) (o : Obj) : Since w (W.alloc o) := Below.alloc h (Below.size h) o
theorem Since.drew {w W : World} (h : Since w W) : Since w W.drew := Below.drew h
theorem Since.call {w W W' : World} (h : Since w W) (b : Below W.heap.size W W') : Since w W' := Below.trans h (b.mono (Below.size h))
theorem Since.setCell {w W : World} (h : Since w W) {a : Addr} (hp : w.heap.size ≤ a.block) (v : Value) : Since w (W.setCell a v) := Below.setCell h hp v
theorem Lies.call {W W' : World} {g : Nat} {t : TypeId} {cs : Array Value} (h : Lies W g t cs) (b : Below W.heap.size W W') : Lies W' g t cs := h.kept b h.inside
theorem Own.far' {w : World} {g n : Nat} {xs : List Int} (h : Own w g n xs) {a : Addr} (hne : g ≠ a.block) (v : Value) : Own (w.setCell a v) g n xs := ⟨h.1, h.2.setOther hne v⟩
theorem Own.call {W W' : World} {g n : Nat} {xs : List Int} (h : Own W g n xs) (b : Below W.heap.size W W') : Own W' g n xs := h.kept b
theorem Own.alloc {W : World} {g n : Nat} {xs : List Int} (h : Own W g n xs) (o : Obj) : Own (W.alloc o) g n xs := h.kept ((Below.refl _ _).alloc (Nat.le_refl _) o)
theorem Own.drew' {w : World} {g n : Nat} {xs : List Int} (h : Own w g n xs) : Own w.drew g n xs := h

theorem Lies.as {w : World} {g : Nat} {t : TypeId} {cs cs' : Array Value} (h : Lies w g t cs) (e : cs = cs') : Lies w g t cs' := e ▸ h

theorem Lies.laid {W : World} {g : Nat} {t : TypeId} {cs : Array Value} (e : g = W.heap.size) : Lies (W.alloc (.cells cs t)) g t cs := e ▸ Lies.new W t cs

theorem Lies.laid2 (W : World) (o : Obj) (t : TypeId) (cs : Array Value) : Lies ((W.alloc o).alloc (.cells cs t)) (W.heap.size + 1) t cs := by
  have h := Lies.new (W.alloc o) t cs
  simpa only [World.size_alloc] using h

theorem size_of_drew (w : World) : w.drew.heap.size = w.heap.size := rfl
theorem size_of_setCell (w : World) (a : Addr) (v : Value) : (w.setCell a v).heap.size = w.heap.size := by simp [World.setCell]
/-- A callee leaves every old cell as it was: two rules for the walk. -/
theorem cells_kept {W W' : World} (b : Below W.heap.size W W') : ∀ g o, g < W.heap.size → W'.cell? ⟨g, o, none⟩ = W.cell? ⟨g, o, none⟩ := fun g o h => b.cell (p := ⟨g, o, none⟩) h
theorem frozen_kept {W W' : World} (b : Below W.heap.size W W') : ∀ g o, g < W.heap.size → W'.frozen? ⟨g, o, none⟩ = W.frozen? ⟨g, o, none⟩ := fun g o h => b.frozen (p := ⟨g, o, none⟩) h
theorem sizes_kept {W W' : World} (b : Below W.heap.size W W') : W.heap.size ≤ W'.heap.size := b.size

end Go.Proofs.YtpgoildfjkokiaaGreat

/- A row of entries that an answer owns: each row of numbers its own, no two the same; what append gives, what marks make of it, and what is held afterwards: markEntryS, heldEntryS, markNode, heldNode, markNodeResult, heldNodeResult, eqNodeResult. -/
namespace Go.Proofs.YtpgoildfjkokiaaGreat
open Go.RowKit

def EV.cells (q : EV) : List Value := [.slice q.A1 q.n1 q.c1, .slice q.A2 q.n2 q.c2, .int .i64 q.ref, .int .i64 q.nsn]
theorem eCells_len : ∀ qs : List EV, (qs.flatMap EV.cells).length = qs.length * 4
  | [] => rfl
  | s :: ss => by simp only [List.flatMap_cons, List.length_append, eCells_len ss, List.length_cons]; simp [EV.cells]; omega
theorem eCells_at : ∀ {ss : List EV} {k j : Nat} {s : EV} {v : Value}, ss[k]? = some s → s.cells[j]? = some v → (ss.flatMap EV.cells)[k * 4 + j]? = some v
  | [], k, j, s, v, hs, _ => by simp at hs
  | t :: ss, 0, j, s, v, hs, hv => by
    simp at hs; subst hs
    have hj : j < 4 := by have := (List.getElem?_eq_some_iff.1 hv).1; simpa [EV.cells] using this
    rw [List.flatMap_cons, Nat.zero_mul, Nat.zero_add, List.getElem?_append_left (by simpa [EV.cells] using hj)]; exact hv
  | t :: ss, k + 1, j, s, v, hs, hv => by
    rw [List.flatMap_cons, List.getElem?_append_right (by simp [EV.cells]; omega)]
    have he : (k + 1) * 4 + j - t.cells.length = k * 4 + j := by simp [EV.cells]; omega
    rw [he]
    exact eCells_at (by simpa using hs) hv
theorem info_entry4 : ∃ i, Tryz.prog.info? 150 = some i ∧ i.zero = some (.agg #[.slice none 0 0, .slice none 0 0, .int .i64 0, .int .i64 0]) ∧ i.size = 4 ∧ i.bytes = 64 := by
  obtain ⟨i, hi, h⟩ := Option.map_eq_some_iff.1 info_entry
  simp only [Prod.mk.injEq] at h
  exact ⟨i, hi, h.1, h.2.1, h.2.2⟩

def blk : Option Addr → Nat
  | some a => a.block
  | none => 0
/-- The blocks of the entries' numbers. -/
def coords (qs : List EV) : List Nat := qs.flatMap fun q => [blk q.A1, blk q.A2]
/-- Each entry's numbers lie in two rows of the call's own. -/
def Coords (w : World) (base : Nat) (qs : List EV) : Prop := ∀ q ∈ qs, ∃ g1 g2, q.A1 = some ⟨g1, 0, none⟩ ∧ q.A2 = some ⟨g2, 0, none⟩ ∧ base ≤ g1 ∧ base ≤ g2 ∧ q.n1 ≤ 3 ∧ q.n2 ≤ 3 ∧ Own w g1 q.n1 q.x1 ∧ Own w g2 q.n2 q.x2
theorem Coords.kept {w w' : World} {base : Nat} {qs : List EV} (h : Coords w base qs) (hb : Below w.heap.size w w') : Coords w' base qs := by
  intro q hq
  obtain ⟨g1, g2, a1, a2, a3, a4, a5, a6, o1, o2⟩ := h q hq
  exact ⟨g1, g2, a1, a2, a3, a4, a5, a6, o1.kept hb, o2.kept hb⟩
theorem Coords.inside {w : World} {base : Nat} {qs : List EV} (h : Coords w base qs) : ∀ x ∈ coords qs, base ≤ x ∧ x < w.heap.size := by
  intro x hx
  obtain ⟨q, hq, hm⟩ := List.mem_flatMap.1 hx
  obtain ⟨g1, g2, a1, a2, a3, a4, a5, a6, o1, o2⟩ := h q hq
  rw [a1, a2] at hm
  simp only [blk, List.mem_cons, List.not_mem_nil, or_false] at hm
  have := o1.inside; have := o2.inside
  rcases hm with rfl | rfl <;> exact ⟨by omega, by omega⟩
theorem coords_mem {qs : List EV} {q : EV} (hq : q ∈ qs) : blk q.A1 ∈ coords qs ∧ blk q.A2 ∈ coords qs :=
  ⟨List.mem_flatMap.2 ⟨q, hq, by simp⟩, List.mem_flatMap.2 ⟨q, hq, by simp⟩⟩
/-- Kept where nothing but other blocks has turned. -/
theorem Coords.others {w w' : World} {base : Nat} {qs : List EV} (h : Coords w base qs) (hk : ∀ x ∈ coords qs, w'.heap[x]? = w.heap[x]?) : Coords w' base qs := by
  intro q hq
  obtain ⟨g1, g2, a1, a2, a3, a4, a5, a6, o1, o2⟩ := h q hq
  have hm := coords_mem hq
  rw [a1, a2] at hm
  exact ⟨g1, g2, a1, a2, a3, a4, a5, a6, ⟨o1.1, o1.2.of_block (hk _ hm.1)⟩, ⟨o2.1, o2.2.of_block (hk _ hm.2)⟩⟩

/-- The slice value '.slice A n c' owns the entries qs. -/
structure EntriesRes (w : World) (base : Nat) (A : Option Addr) (n c : Nat) (qs : List EV) : Prop where
  S : w.ownsRow base 150 4 (.slice A n c) n (qs.flatMap EV.cells)
  C : Coords w base qs
  D : (coords qs).Nodup
  E : ∀ g, (Value.slice A n c).ownBlock = some g → g ∉ coords qs

section
variable {w w' : World} {base n c : Nat} {A : Option Addr} {qs : List EV}
theorem EntriesRes.len (h : EntriesRes w base A n c qs) : qs.length = n := by have := h.S.1; rw [eCells_len] at this; omega
theorem EntriesRes.form (h : EntriesRes w base A n c qs) (hn : 0 < n) : ∃ g cur, A = some ⟨g, 0, none⟩ ∧ base ≤ g ∧ w.heap[g]? = some (.cells cur 150 (0, 0)) ∧ cur.size = c * 4 ∧ n ≤ c ∧ cur.toList.take (n * 4) = qs.flatMap EV.cells ∧ g ∉ coords qs ∧ c ≤ maxLen := by
  obtain ⟨hl, h1⟩ := h.S
  rcases h1 with ⟨_, h2⟩ | ⟨g, cap, cur, e, h2, h3, h4, h5, h6, h7⟩
  · omega
  · injection e with e1 e2 e3
    subst e1 e3
    exact ⟨g, cur, rfl, h2, h3, h6, h4, h7, h.E g rfl, h5⟩
theorem EntriesRes.entries (h : EntriesRes w base A n c qs) : Entries w A n qs := by
  refine ⟨h.len, fun hn => ?_, fun q hq => ?_⟩
  · obtain ⟨g, cur, rfl, h1, h2, h3, h4, h5, _⟩ := h.form hn
    have hg : g < w.heap.size := by
      rcases Nat.lt_or_ge g w.heap.size with h' | h'
      · exact h'
      · exact absurd (h2.symm.trans (Array.getElem?_eq_none h')) (by simp)
    refine ⟨g, 0, rfl, hg, fun k q hk => ?_⟩
    have hkn : k < n := by have := (List.getElem?_eq_some_iff.1 hk).1; rw [h.len] at this; exact this
    have cell : ∀ j v, q.cells[j]? = some v → w.cell? ⟨g, 0 + k * 4 + j, none⟩ = some v := by
      intro j v hv
      have hj : j < 4 := by have := (List.getElem?_eq_some_iff.1 hv).1; simpa [EV.cells] using this
      rw [Nat.zero_add, cell_of_row w g (k * 4 + j) cur 150 (0, 0) h2]
      have h8 : (cur.toList.take (n * 4))[k * 4 + j]? = some v := by rw [h5]; exact eCells_at hk hv
      rw [List.getElem?_take, if_pos (by omega)] at h8
      simpa using h8
    exact ⟨cell 0 _ rfl, cell 1 _ rfl, cell 2 _ rfl, cell 3 _ rfl⟩
  · obtain ⟨g1, g2, a1, a2, a3, a4, a5, a6, o1, o2⟩ := h.C q hq
    exact ⟨by rw [a1]; exact o1.ints (Nat.zero_le _), by rw [a2]; exact o2.ints (Nat.zero_le _), Nat.le_trans a5 (by decide), Nat.le_trans a6 (by decide)⟩
theorem EntriesRes.kept (h : EntriesRes w base A n c qs) (hb : Below w.heap.size w w') : EntriesRes w' base A n c qs := by
  refine ⟨?_, h.C.kept hb, h.D, h.E⟩
  obtain ⟨hl, h1⟩ := h.S
  refine ⟨hl, ?_⟩
  rcases h1 with h1 | ⟨g, cap, cur, h1, h2, h3, h4⟩
  · exact Or.inl h1
  · have hg : g < w.heap.size := by
      rcases Nat.lt_or_ge g w.heap.size with h' | h'
      · exact h'
      · exact absurd (h3.symm.trans (Array.getElem?_eq_none h')) (by simp)
    exact Or.inr ⟨g, cap, cur, h1, h2, (hb.block g hg).trans h3, h4⟩
/-- Kept where only blocks below its base turn. -/
theorem EntriesRes.turned {G : Nat → Prop} (h : EntriesRes w base A n c qs) (ht : Turned G w w') (hG : ∀ x, G x → x < base) : EntriesRes w' base A n c qs := by
  refine ⟨?_, h.C.others (fun x hx => ht.2.2 x (h.C.inside x hx).2 (fun hg => by have := hG x hg; have := (h.C.inside x hx).1; omega)), h.D, h.E⟩
  obtain ⟨hl, h1⟩ := h.S
  refine ⟨hl, ?_⟩
  rcases h1 with h1 | ⟨g, cap, cur, h1, h2, h3, h4⟩
  · exact Or.inl h1
  · have hg : g < w.heap.size := by
      rcases Nat.lt_or_ge g w.heap.size with h' | h'
      · exact h'
      · exact absurd (h3.symm.trans (Array.getElem?_eq_none h')) (by simp)
    exact Or.inr ⟨g, cap, cur, h1, h2, (ht.2.2 g hg (fun hg' => by have := hG g hg'; omega)).trans h3, h4⟩
end

/-- The marks that stand ahead of the i-th entry's. -/
def sumK (qs : List EV) : Int := (qs.map fun q => (q.n1 : Int) + q.n2 + 2).sum
theorem sumK_snoc (qs : List EV) (q : EV) : sumK (qs ++ [q]) = sumK qs + ((q.n1 : Int) + q.n2 + 2) := by simp [sumK]
theorem sumK_take {qs : List EV} {j : Nat} {q : EV} (h : qs[j]? = some q) : sumK (qs.take (j + 1)) = sumK (qs.take j) + ((q.n1 : Int) + q.n2 + 2) := by
  rw [List.take_add_one, h]; exact sumK_snoc _ _
/-- The entry bears the marks from k on. -/
def Marked (k : Int) (q : EV) : Prop := q.x1 = marks k q.n1 ∧ q.x2 = marks (k + q.n1) q.n2 ∧ q.ref = k + q.n1 + q.n2 ∧ q.nsn = k + q.n1 + q.n2 + 1
def MarkedTo (k0 : Int) (qs : List EV) (j : Nat) : Prop := ∀ (i : Nat) (q : EV), i < j → qs[i]? = some q → Marked (k0 + sumK (qs.take i)) q
/-- What does not turn by marks. -/
def EV.frame (q : EV) : Option Addr × Nat × Nat × Option Addr × Nat × Nat := (q.A1, q.n1, q.c1, q.A2, q.n2, q.c2)
theorem coords_frame {qs qs' : List EV} (h : qs'.map EV.frame = qs.map EV.frame) : coords qs' = coords qs := by
  have e : ∀ l : List EV, coords l = (l.map EV.frame).flatMap fun f => [blk f.1, blk f.2.2.2.1] := by
    intro l; induction l with
    | nil => rfl
    | cons a t ih => simp only [coords, List.flatMap_cons, List.map_cons, EV.frame] at ih ⊢; rw [ih]
  rw [e, e, h]
theorem small_sum {qs : List EV} (h : ∀ q ∈ qs, q.n1 ≤ 3 ∧ q.n2 ≤ 3) : 0 ≤ sumK qs ∧ sumK qs ≤ 8 * qs.length := by
  induction qs with
  | nil => simp [sumK]
  | cons a t ih =>
    have h1 := h a (by simp)
    have h2 := ih (fun q hq => h q (by simp [hq]))
    simp only [sumK, List.map_cons, List.sum_cons, List.length_cons] at h2 ⊢
    omega

set_option maxHeartbeats 1600000 in
theorem heldEntryS_any (k0 : Int) (n c : Nat) (A : Option Addr) (qs : List EV) (w : World) (hp : Entries w A n qs) (hm : MarkedTo k0 qs n) (h0 : 0 ≤ k0) (h1 : k0 ≤ 1048576) (hn : n ≤ 1048576) (hs : ∀ q ∈ qs, q.n1 ≤ 3 ∧ q.n2 ≤ 3) :
    Calls Tryz.prog 94 #[.slice A n c, .int .i64 k0] w fun e w' => e = .returned (.int .i64 (k0 + sumK qs)) ∧ Below w.heap.size w w' := by
  have HP := Lib.hid hp
  have HM := Lib.hid hm
  have HS := Lib.hid hs
  clear hp hm hs
  go_enter Tryz.func94, Tryz.ntmps94
  go_wp2
  go_loopw [1, 5] (fun kv i wr => ∃ (j : Nat) (m : Int), j ≤ n ∧ i = .int .i64 j ∧ kv = .int .i64 m ∧ Hid (m = k0 + sumK (qs.take j)) ∧ Hid (Below w.heap.size w wr)) (fun _ i _ => n - (intOf i).toNat)
  case atStart => exact ⟨0, k0, Nat.zero_le _, rfl, rfl, by show k0 = _; simp [sumK], Below.refl _ _⟩
  case round =>
    obtain ⟨j, m, hj, rfl, rfl, hmm, hB⟩ := hrel
    have hsum := small_sum (qs := qs.take j) (fun q hq => HS.out q (List.mem_of_mem_take hq))
    have hlen : (qs.take j).length ≤ j := List.length_take_le _ _
    have hm0 : 0 ≤ m := by have := hmm.out; omega
    have hm1 : m ≤ 10485760 := by have := hmm.out; omega
    by_cases hlt : j < n
    · obtain ⟨b, o, A1, n1, c1, A2, n2, c2, ref, nsn, x1, x2, rfl, hb, d0, d1, d2, d3, hx, i1, i2, m1, m2⟩ := HP.out.cellAt hlt
      obtain ⟨q1, q2, q3, q4⟩ := HM.out j _ hlt hx.out
      rw [← hmm.out] at q1 q2 q3 q4
      simp only at q1 q2 q3 q4
      obtain ⟨s1, s2⟩ := HS.out _ (List.mem_of_getElem? hx.out)
      simp only at s1 s2
      have hmm' : Hid (m + n1 + n2 + 1 + 1 = k0 + sumK (qs.take (j + 1))) := by
        show _ = _; rw [sumK_take hx.out, ← Int.add_assoc, ← hmm.out]; simp only; omega
      subst q1 q2 q3 q4
      have kb := Nat.lt_of_lt_of_le hb hB.out.size
      have e0 : wr.cell? ⟨b, o + j * 4, none⟩ = some (.slice A1 n1 c1) := (hB.out.cell (p := ⟨b, o + j * 4, none⟩) hb).trans d0
      have E1 := Lib.hid ((hB.out.cell (p := ⟨b, o + j * 4 + 1, none⟩) hb).trans d1)
      have E2 := Lib.hid ((hB.out.cell (p := ⟨b, o + j * 4 + 2, none⟩) hb).trans d2)
      have E3 := Lib.hid ((hB.out.cell (p := ⟨b, o + j * 4 + 3, none⟩) hb).trans d3)
      clear d0 d1 d2 d3 hx hsum hlen
      have p1 : ¬ (m + n1 < 0) := by omega
      have p2 : ¬ (m + n1 + n2 < 0) := by omega
      have z1 : (m + n1 + n2 != m + n1 + n2) = false := by simp
      have z2 : (m + n1 + n2 + 1 != m + n1 + n2 + 1) = false := by simp
      go_wp2_with fail
      refine (heldInt64S_any m n1 c1 _ A1 _ (i1.out.kept hB.out) hm0 (by omega) (by omega)).mono ?_
      rintro e W1 ⟨rfl, b1⟩
      have f1 : W1.cell? ⟨b, o + j * 4 + 1, none⟩ = some (.slice A2 n2 c2) := (b1.cell (p := ⟨b, o + j * 4 + 1, none⟩) kb).trans E1.out
      replace E2 := Lib.hid ((b1.cell (p := ⟨b, o + j * 4 + 2, none⟩) kb).trans E2.out)
      replace E3 := Lib.hid ((b1.cell (p := ⟨b, o + j * 4 + 3, none⟩) kb).trans E3.out)
      replace kb := Nat.lt_of_lt_of_le kb b1.size
      replace hB := Lib.hid (hB.out.trans (b1.mono hB.out.size))
      clear b1 e0
      go_wp2_with fail
      refine (heldInt64S_any (m + n1) n2 c2 _ A2 _ (i2.out.kept hB.out) (by omega) (by omega) (by omega)).mono ?_
      rintro e W2 ⟨rfl, b2⟩
      have f2 : W2.cell? ⟨b, o + j * 4 + 2, none⟩ = some (.int .i64 (m + n1 + n2)) := (b2.cell (p := ⟨b, o + j * 4 + 2, none⟩) kb).trans E2.out
      have f3 : W2.cell? ⟨b, o + j * 4 + 3, none⟩ = some (.int .i64 (m + n1 + n2 + 1)) := (b2.cell (p := ⟨b, o + j * 4 + 3, none⟩) kb).trans E3.out
      replace hB := Lib.hid (hB.out.trans (b2.mono hB.out.size))
      clear b2 f1 E1 E2 E3 i1 i2
      go_wp2
      go_roundw
      case rel => exact ⟨j + 1, _, by omega, by go_num, rfl, hmm', hB⟩
      case measure => simp [intOf]; omega
    · have hq : Hid (m = k0 + sumK qs) := by
        have := hmm.out
        rwa [List.take_of_length_le (by have := HP.out.1; omega)] at this
      go_wp2
      go_ret
      exact ⟨ret_i64 hq.out, hB.out⟩

end Go.Proofs.YtpgoildfjkokiaaGreat
