/- The marks on entries that an answer owns: markEntryS, markNode, markNodeResult; what is held of them: heldNode, heldNodeResult; eqNodeResult. -/
import Derived.Test.YtpgoildfjkokiaaGreatNodeRes
import Derived.Test.YtpgoildfjkokiaaGreatEntryFor
namespace Go.Proofs.YtpgoildfjkokiaaGreat
open Go.RowKit

theorem blk_some (a : Addr) : blk (some a) = a.block := rfl
theorem coords_mid (l1 l2 : List EV) (q : EV) : coords (l1 ++ q :: l2) = coords l1 ++ (blk q.A1 :: blk q.A2 :: coords l2) := by simp [coords]
section
variable {w w' : World} {base n c : Nat} {A : Option Addr} {l1 l2 : List EV} {q : EV}
theorem EntriesRes.row (h : EntriesRes w base A n c (l1 ++ q :: l2)) : ∃ g cur, A = some ⟨g, 0, none⟩ ∧ base ≤ g ∧ w.heap[g]? = some (.cells cur 150 (0, 0)) ∧ cur.size = c * 4 ∧ n ≤ c ∧ cur.toList.take (n * 4) = (l1 ++ q :: l2).flatMap EV.cells ∧ g ∉ coords (l1 ++ q :: l2) ∧ c ≤ maxLen :=
  h.form (by have := h.len; simp at this; omega)
theorem EntriesRes.mark1 {g1 : Nat} {xs' : List Int} (h : EntriesRes w base A n c (l1 ++ q :: l2)) (e1 : q.A1 = some ⟨g1, 0, none⟩) (ht : Turned (fun x => x = g1) w w') (ho : Own w' g1 q.n1 xs') : EntriesRes w' base A n c (l1 ++ { q with x1 := xs' } :: l2) := by
  obtain ⟨g, cur, rfl, b1, b2, b3, b4, b5, b6, b7⟩ := h.row
  have hg : g < w.heap.size := by
    rcases Nat.lt_or_ge g w.heap.size with h' | h'
    · exact h'
    · exact absurd (b2.symm.trans (Array.getElem?_eq_none h')) (by simp)
  have hD := h.D
  rw [coords_mid, e1] at hD b6
  simp only [blk_some] at hD b6
  rw [List.nodup_append] at hD
  obtain ⟨_, hD2, hD3⟩ := hD
  rw [List.nodup_cons] at hD2
  have hne1 : ∀ x ∈ coords l1, x ≠ g1 := fun x hx => hD3 x hx g1 (by simp)
  have hne2 : ∀ x ∈ coords l2, x ≠ g1 := fun x hx e => hD2.1 (by subst e; simp [hx])
  have hne3 : blk q.A2 ≠ g1 := fun e => hD2.1 (by rw [e]; simp)
  refine ⟨⟨by simpa [EV.cells] using h.S.1, Or.inr ⟨g, c, cur, rfl, b1, (ht.2.2 g hg (fun e => b6 (by simp [show g = g1 from e]))).trans b2, b4, b7, b3, by rw [b5]; simp [EV.cells]⟩⟩, ?_, ?_, ?_⟩
  · intro p hp
    have keep : ∀ p ∈ l1 ++ q :: l2, blk p.A1 ≠ g1 → blk p.A2 ≠ g1 → ∃ ga gb, p.A1 = some ⟨ga, 0, none⟩ ∧ p.A2 = some ⟨gb, 0, none⟩ ∧ base ≤ ga ∧ base ≤ gb ∧ p.n1 ≤ 3 ∧ p.n2 ≤ 3 ∧ Own w' ga p.n1 p.x1 ∧ Own w' gb p.n2 p.x2 := by
      intro p hp na nb
      obtain ⟨ga, gb, a1, a2, a3, a4, a5, a6, o1, o2⟩ := h.C p hp
      rw [a1] at na; rw [a2] at nb
      exact ⟨ga, gb, a1, a2, a3, a4, a5, a6, ht.own o1 na, ht.own o2 nb⟩
    rcases List.mem_append.1 hp with hp1 | hp1
    · exact keep p (by simp [hp1]) (hne1 _ (coords_mem hp1).1) (hne1 _ (coords_mem hp1).2)
    · rcases List.mem_cons.1 hp1 with rfl | hp2
      · obtain ⟨ga, gb, a1, a2, a3, a4, a5, a6, o1, o2⟩ := h.C q (by simp)
        rw [a1] at e1
        injection e1 with e1; injection e1 with e1; subst e1
        rw [a2] at hne3
        exact ⟨ga, gb, a1, a2, a3, a4, a5, a6, ho, ht.own o2 hne3⟩
      · exact keep p (by simp [hp2]) (hne2 _ (coords_mem hp2).1) (hne2 _ (coords_mem hp2).2)
  · have := h.D; rw [coords_mid] at this ⊢; exact this
  · have := h.E; rw [coords_mid] at this ⊢; exact this
theorem EntriesRes.mark2 {g2 : Nat} {xs' : List Int} (h : EntriesRes w base A n c (l1 ++ q :: l2)) (e2 : q.A2 = some ⟨g2, 0, none⟩) (ht : Turned (fun x => x = g2) w w') (ho : Own w' g2 q.n2 xs') : EntriesRes w' base A n c (l1 ++ { q with x2 := xs' } :: l2) := by
  obtain ⟨g, cur, rfl, b1, b2, b3, b4, b5, b6, b7⟩ := h.row
  have hg : g < w.heap.size := by
    rcases Nat.lt_or_ge g w.heap.size with h' | h'
    · exact h'
    · exact absurd (b2.symm.trans (Array.getElem?_eq_none h')) (by simp)
  have hD := h.D
  rw [coords_mid, e2] at hD b6
  simp only [blk_some] at hD b6
  rw [List.nodup_append] at hD
  obtain ⟨_, hD2, hD3⟩ := hD
  rw [List.nodup_cons, List.nodup_cons] at hD2
  have hne1 : ∀ x ∈ coords l1, x ≠ g2 := fun x hx => hD3 x hx g2 (by simp)
  have hne2 : ∀ x ∈ coords l2, x ≠ g2 := fun x hx e => hD2.2.1 (by subst e; exact hx)
  have hne3 : blk q.A1 ≠ g2 := fun e => hD2.1 (by show blk q.A1 ∈ _; rw [e]; simp)
  refine ⟨⟨by simpa [EV.cells] using h.S.1, Or.inr ⟨g, c, cur, rfl, b1, (ht.2.2 g hg (fun e => b6 (by simp [show g = g2 from e]))).trans b2, b4, b7, b3, by rw [b5]; simp [EV.cells]⟩⟩, ?_, ?_, ?_⟩
  · intro p hp
    have keep : ∀ p ∈ l1 ++ q :: l2, blk p.A1 ≠ g2 → blk p.A2 ≠ g2 → ∃ ga gb, p.A1 = some ⟨ga, 0, none⟩ ∧ p.A2 = some ⟨gb, 0, none⟩ ∧ base ≤ ga ∧ base ≤ gb ∧ p.n1 ≤ 3 ∧ p.n2 ≤ 3 ∧ Own w' ga p.n1 p.x1 ∧ Own w' gb p.n2 p.x2 := by
      intro p hp na nb
      obtain ⟨ga, gb, a1, a2, a3, a4, a5, a6, o1, o2⟩ := h.C p hp
      rw [a1] at na; rw [a2] at nb
      exact ⟨ga, gb, a1, a2, a3, a4, a5, a6, ht.own o1 na, ht.own o2 nb⟩
    rcases List.mem_append.1 hp with hp1 | hp1
    · exact keep p (by simp [hp1]) (hne1 _ (coords_mem hp1).1) (hne1 _ (coords_mem hp1).2)
    · rcases List.mem_cons.1 hp1 with rfl | hp2
      · obtain ⟨ga, gb, a1, a2, a3, a4, a5, a6, o1, o2⟩ := h.C q (by simp)
        rw [a2] at e2
        injection e2 with e2; injection e2 with e2; subst e2
        rw [a1] at hne3
        exact ⟨ga, gb, a1, a2, a3, a4, a5, a6, ht.own o1 hne3, ho⟩
      · exact keep p (by simp [hp2]) (hne2 _ (coords_mem hp2).1) (hne2 _ (coords_mem hp2).2)
  · have := h.D; rw [coords_mid] at this ⊢; exact this
  · have := h.E; rw [coords_mid] at this ⊢; exact this
theorem EntriesRes.put {g i : Nat} {v : Value} {q' : EV} (h : EntriesRes w base (some ⟨g, 0, none⟩) n c (l1 ++ q :: l2)) (hi : i < 4) (hc : q.cells.set i v = q'.cells) (hf : q'.frame = q.frame) (hx : q'.x1 = q.x1 ∧ q'.x2 = q.x2) :
    EntriesRes (w.setCell ⟨g, l1.length * 4 + i, none⟩ v) base (some ⟨g, 0, none⟩) n c (l1 ++ q' :: l2) := by
  obtain ⟨g', cur, e, b1, b2, b3, b4, b5, b6, b7⟩ := h.row
  injection e with e; injection e with e; subst e
  have hln := h.len
  simp only [List.length_append, List.length_cons] at hln
  simp only [EV.frame, Prod.mk.injEq] at hf
  obtain ⟨f1, f2, f3, f4, f5, f6⟩ := hf
  have hco : coords (l1 ++ q' :: l2) = coords (l1 ++ q :: l2) := by rw [coords_mid, coords_mid, f1, f4]
  refine ⟨⟨by rw [eCells_len]; simp; omega, Or.inr ⟨g, c, cur.setIfInBounds (l1.length * 4 + i) v, rfl, b1, heap_setCell_same w g _ cur _ v b2, b4, b7, by simp [b3], ?_⟩⟩, ?_, ?_, ?_⟩
  · rw [Array.toList_setIfInBounds, List.take_set, b5, List.flatMap_append, List.flatMap_cons, List.set_append_right _ _ (by rw [eCells_len]; omega), eCells_len, Nat.add_sub_cancel_left, List.set_append_left _ _ (by simpa [EV.cells] using hi), hc, List.flatMap_append, List.flatMap_cons]
  · intro p hp
    have keep : ∀ p ∈ l1 ++ q :: l2, ∃ ga gb, p.A1 = some ⟨ga, 0, none⟩ ∧ p.A2 = some ⟨gb, 0, none⟩ ∧ base ≤ ga ∧ base ≤ gb ∧ p.n1 ≤ 3 ∧ p.n2 ≤ 3 ∧ Own (w.setCell ⟨g, l1.length * 4 + i, none⟩ v) ga p.n1 p.x1 ∧ Own (w.setCell ⟨g, l1.length * 4 + i, none⟩ v) gb p.n2 p.x2 := by
      intro p hp
      obtain ⟨ga, gb, a1, a2, a3, a4, a5, a6, o1, o2⟩ := h.C p hp
      have hm := coords_mem hp
      rw [a1, a2] at hm
      simp only [blk_some] at hm
      exact ⟨ga, gb, a1, a2, a3, a4, a5, a6, o1.far (fun e => b6 (by rw [← show ga = g from e]; exact hm.1)) _, o2.far (fun e => b6 (by rw [← show gb = g from e]; exact hm.2)) _⟩
    rcases List.mem_append.1 hp with hp1 | hp1
    · exact keep p (by simp [hp1])
    · rcases List.mem_cons.1 hp1 with rfl | hp2
      · obtain ⟨ga, gb, a1, a2, a3, a4, a5, a6, o1, o2⟩ := keep q (by simp)
        exact ⟨ga, gb, f1.trans a1, f4.trans a2, a3, a4, by omega, by omega, by rw [f2, hx.1]; exact o1, by rw [f5, hx.2]; exact o2⟩
      · exact keep p (by simp [hp2])
  · rw [hco]; exact h.D
  · rw [hco]; exact h.E
end

theorem split_at {qs : List EV} {j : Nat} {q : EV} (h : qs[j]? = some q) : qs = qs.take j ++ q :: qs.drop (j + 1) := by
  obtain ⟨hj, rfl⟩ := List.getElem?_eq_some_iff.1 h
  rw [← List.drop_eq_getElem_cons hj, List.take_append_drop]
theorem markedTo_next {k0 : Int} {qs : List EV} {j : Nat} {q q' : EV} (h : MarkedTo k0 qs j) (hq : qs[j]? = some q) (hm : Marked (k0 + sumK (qs.take j)) q') : MarkedTo k0 (qs.take j ++ q' :: qs.drop (j + 1)) (j + 1) := by
  have hj := (List.getElem?_eq_some_iff.1 hq).1
  have hl : (qs.take j).length = j := by simp; omega
  intro i p hi hp
  have ht : (qs.take j ++ q' :: qs.drop (j + 1)).take i = qs.take i := by
    rw [List.take_append_of_le_length (by omega), List.take_take, Nat.min_eq_left (by omega)]
  rw [ht]
  rcases Nat.lt_or_ge i j with h' | h'
  · rw [List.getElem?_append_left (by omega), List.getElem?_take, if_pos h'] at hp
    exact h i p h' hp
  · obtain rfl : i = j := by omega
    rw [List.getElem?_append_right (by omega), hl, Nat.sub_self] at hp
    simp at hp; subst hp; exact hm
theorem sumK_mid {qs : List EV} {j : Nat} {q q' : EV} (hq : qs[j]? = some q) (hf : q'.frame = q.frame) : sumK ((qs.take j ++ q' :: qs.drop (j + 1)).take (j + 1)) = sumK (qs.take (j + 1)) := by
  have hj := (List.getElem?_eq_some_iff.1 hq).1
  have hl : (qs.take j).length = j := by simp; omega
  simp only [EV.frame, Prod.mk.injEq] at hf
  have h1 : (qs.take j ++ q' :: qs.drop (j + 1))[j]? = some q' := by rw [List.getElem?_append_right (by omega), hl, Nat.sub_self]; rfl
  rw [sumK_take h1, sumK_take hq, hf.2.1, hf.2.2.2.2.1, List.take_append_of_le_length (by omega), List.take_take, Nat.min_self]
theorem frame_mid {qs : List EV} {j : Nat} {q q' : EV} (hq : qs[j]? = some q) (hf : q'.frame = q.frame) : (qs.take j ++ q' :: qs.drop (j + 1)).map EV.frame = qs.map EV.frame := by
  conv => rhs; rw [split_at hq]
  simp [hf]

set_option maxRecDepth 100000 in
set_option maxHeartbeats 3200000 in
theorem markRes_any (k0 : Int) (n c base hi : Nat) (A : Option Addr) (qs : List EV) (w : World) (ho : EntriesRes w base A n c qs) (hh : ∀ x ∈ coords qs, x < hi) (hg : ∀ g, (Value.slice A n c).ownBlock = some g → g < hi) (h0 : 0 ≤ k0) (h1 : k0 ≤ 1048576) (hn : n ≤ 1048576) :
    Calls Tryz.prog 93 #[.slice A n c, .int .i64 k0] w fun e w' => ∃ qs', e = .returned (.int .i64 (k0 + sumK qs')) ∧ EntriesRes w' base A n c qs' ∧ MarkedTo k0 qs' n ∧ Turned (fun x => base ≤ x ∧ x < hi) w w' := by
  have HO := Lib.hid ho
  have HH := Lib.hid hh
  have HG := Lib.hid hg
  clear ho hh hg
  go_enter Tryz.func93, Tryz.ntmps93
  go_wp2
  go_loopw [1, 5] (fun kv i wr => ∃ (j : Nat) (m : Int) (ps : List EV), j ≤ n ∧ i = .int .i64 j ∧ kv = .int .i64 m ∧ Hid (m = k0 + sumK (ps.take j)) ∧ Hid (EntriesRes wr base A n c ps) ∧ Hid (MarkedTo k0 ps j) ∧ Hid (ps.map EV.frame = qs.map EV.frame) ∧ Hid (Turned (fun x => base ≤ x ∧ x < hi) w wr)) (fun _ i _ => n - (intOf i).toNat)
  case atStart => exact ⟨0, k0, qs, Nat.zero_le _, rfl, rfl, by show k0 = _; simp [sumK], HO, fun i q hi => absurd hi (Nat.not_lt_zero _), rfl, Turned.refl _ _⟩
  case round =>
    obtain ⟨j, m, ps, hj, rfl, rfl, hmm, hE, hM, hF, hT⟩ := hrel
    have hsm : ∀ q ∈ ps, q.n1 ≤ 3 ∧ q.n2 ≤ 3 := fun q hq => by obtain ⟨_, _, _, _, _, _, a5, a6, _⟩ := hE.out.C q hq; exact ⟨a5, a6⟩
    have hsum := small_sum (qs := ps.take j) (fun q hq => hsm q (List.mem_of_mem_take hq))
    have hlen : (ps.take j).length ≤ j := List.length_take_le _ _
    have hm0 : 0 ≤ m := by have := hmm.out; omega
    have hm1 : m ≤ 10485760 := by have := hmm.out; omega
    clear hsum hlen
    by_cases hlt : j < n
    · have hpl := hE.out.len
      have hq : ps[j]? = some (ps[j]'(by omega)) := List.getElem?_eq_getElem _
      obtain ⟨q, hqe⟩ : ∃ q, ps[j]'(by omega) = q := ⟨_, rfl⟩
      rw [hqe] at hq
      clear hqe
      have hmem := List.mem_of_getElem? hq
      obtain ⟨g1, g2, a1, a2, a3, a4, a5, a6, o1, o2⟩ := hE.out.C q hmem
      have hcm := coords_mem hmem
      have hco := coords_frame hF.out
      rw [a1, a2, hco] at hcm
      simp only [blk_some] at hcm
      have hh1 := HH.out _ hcm.1
      have hh2 := HH.out _ hcm.2
      clear hcm hsm
      obtain ⟨A1, n1, c1, A2, n2, c2, ref, nsn, x1, x2⟩ := q
      simp only at a1 a2 a5 a6 o1 o2
      subst a1 a2
      have hE1 : Hid (EntriesRes wr base A n c (ps.take j ++ ⟨some ⟨g1, 0, none⟩, n1, c1, some ⟨g2, 0, none⟩, n2, c2, ref, nsn, x1, x2⟩ :: ps.drop (j + 1))) := by
        show EntriesRes _ _ _ _ _ _; rw [← split_at hq]; exact hE.out
      obtain ⟨g, cur, rfl, r1, r2, r3, r4, r5, r6, r7⟩ := hE.out.form (by omega)
      have gin : g < wr.heap.size := by
        rcases Nat.lt_or_ge g wr.heap.size with h' | h'
        · exact h'
        · exact absurd (r2.symm.trans (Array.getElem?_eq_none h')) (by simp)
      have ghi := HG.out g rfl
      obtain ⟨b', o', e', _, hcell⟩ := hE.out.entries.2.1 (by omega)
      injection e' with e'; injection e' with e1' e2'; subst e1' e2'
      obtain ⟨d0, d1, d2, d3⟩ := hcell j _ hq
      rw [Nat.zero_add] at d0 d1 d2 d3
      clear hcell r1 r2 r3 r4 r5 r7 cur
      have hn12 : g1 ≠ g2 := by
        have := hE1.out.D
        rw [coords_mid, List.nodup_append] at this
        simp only [blk_some, List.nodup_cons, List.mem_cons, not_or] at this
        exact this.2.1.1.1
      have HQ := Lib.hid hq
      have O_1 := Lib.hid o1
      have O_2 := Lib.hid o2
      have L_j : Hid ((ps.take j).length = j) := by show List.length _ = _; simp; omega
      have ngg1 : g ≠ g1 := fun e => r6 (by rw [e]; exact (coords_mem (List.mem_of_getElem? hq)).1)
      have ngg2 : g ≠ g2 := fun e => r6 (by rw [e]; exact (coords_mem (List.mem_of_getElem? hq)).2)
      have D1 := Lib.hid d1
      clear hq o1 o2 hmem hE r6 hpl d1 d2 d3 hco
      go_wp2_with fail
      refine (markInt64S_any m n1 c1 g1 x1 _ O_1.out hm0 (by omega) (by omega)).mono ?_
      rintro e W1 ⟨rfl, om1, t1⟩
      replace O_2 := Lib.hid (t1.own O_2.out (show ¬ g2 = g1 from fun e => hn12 e.symm))
      have hE2 := Lib.hid (hE1.out.mark1 rfl t1 om1)
      replace hT := Lib.hid (hT.out.trans (t1.wider (fun x hx => by show base ≤ x ∧ x < hi; have hx' : x = g1 := hx; omega)))
      have f1 : W1.cell? ⟨g, j * 4 + 1, none⟩ = some (.slice (some ⟨g2, 0, none⟩) n2 c2) := by
        rw [World.cell?_of_block (w := wr) (a := ⟨g, j * 4 + 1, none⟩) (t1.2.2 g gin ngg1)]; exact D1.out
      clear om1 t1 d0 O_1 hE1 D1 gin
      go_wp2_with fail
      refine (markInt64S_any (m + n1) n2 c2 g2 x2 _ O_2.out (by omega) (by omega) (by omega)).mono ?_
      rintro e W2 ⟨rfl, om2, t2⟩
      have hE3 := Lib.hid (hE2.out.mark2 rfl t2 om2)
      replace hT := Lib.hid (hT.out.trans (t2.wider (fun x hx => by show base ≤ x ∧ x < hi; have hx' : x = g2 := hx; omega)))
      clear om2 t2 f1 O_2 hE2
      have hE4 := Lib.hid (hE3.out.put (i := 2) (v := .int .i64 (m + n1 + n2)) (q' := ⟨some ⟨g1, 0, none⟩, n1, c1, some ⟨g2, 0, none⟩, n2, c2, m + n1 + n2, nsn, marks m n1, marks (m + n1) n2⟩) (by decide) rfl rfl ⟨rfl, rfl⟩)
      have hE5 := Lib.hid (hE4.out.put (i := 3) (v := .int .i64 (m + n1 + n2 + 1)) (q' := ⟨some ⟨g1, 0, none⟩, n1, c1, some ⟨g2, 0, none⟩, n2, c2, m + n1 + n2, m + n1 + n2 + 1, marks m n1, marks (m + n1) n2⟩) (by decide) rfl rfl ⟨rfl, rfl⟩)
      rw [L_j.out] at hE4 hE5
      obtain ⟨g', cur, e', r1, r2, r3, r4, _⟩ := hE3.out.row
      injection e' with e'; injection e' with e1'; subst e1'
      obtain ⟨v2, hv2⟩ : ∃ v, cur[j * 4 + 2]? = some v := ⟨_, Array.getElem?_eq_getElem (by omega)⟩
      have c2' : W2.cell? ⟨g, j * 4 + 2, none⟩ = some v2 := (cell_of_row W2 g _ cur _ (0, 0) r2).trans hv2
      clear hv2
      obtain ⟨v3, hv3⟩ : ∃ v, cur[j * 4 + 3]? = some v := ⟨_, Array.getElem?_eq_getElem (by omega)⟩
      have c3' : W2.cell? ⟨g, j * 4 + 3, none⟩ = some v3 := (cell_of_row W2 g _ cur _ (0, 0) r2).trans hv3
      clear hv3
      have f2' : W2.frozen? ⟨g, j * 4 + 2, none⟩ = false := frozen_of_row W2 g _ cur _ r2
      have f3' : W2.frozen? ⟨g, j * 4 + 3, none⟩ = false := frozen_of_row W2 g _ cur _ r2
      have hT' := Lib.hid ((hT.out.setCell (a := ⟨g, j * 4 + 2, none⟩) ⟨r1, ghi⟩ (.int .i64 (m + n1 + n2))).setCell (a := ⟨g, j * 4 + 3, none⟩) ⟨r1, ghi⟩ (.int .i64 (m + n1 + n2 + 1)))
      have hM' := Lib.hid (markedTo_next (q' := ⟨some ⟨g1, 0, none⟩, n1, c1, some ⟨g2, 0, none⟩, n2, c2, m + n1 + n2, m + n1 + n2 + 1, marks m n1, marks (m + n1) n2⟩) hM.out HQ.out (by rw [← hmm.out]; exact ⟨rfl, rfl, rfl, rfl⟩))
      have hF' := Lib.hid ((frame_mid (q' := ⟨some ⟨g1, 0, none⟩, n1, c1, some ⟨g2, 0, none⟩, n2, c2, m + n1 + n2, m + n1 + n2 + 1, marks m n1, marks (m + n1) n2⟩) HQ.out rfl).trans hF.out)
      have hmm' : Hid (m + n1 + n2 + 1 + 1 = k0 + sumK ((ps.take j ++ ⟨some ⟨g1, 0, none⟩, n1, c1, some ⟨g2, 0, none⟩, n2, c2, m + n1 + n2, m + n1 + n2 + 1, marks m n1, marks (m + n1) n2⟩ :: ps.drop (j + 1)).take (j + 1))) := by
        show _ = _; rw [sumK_mid (q' := ⟨some ⟨g1, 0, none⟩, n1, c1, some ⟨g2, 0, none⟩, n2, c2, m + n1 + n2, m + n1 + n2 + 1, marks m n1, marks (m + n1) n2⟩) HQ.out rfl, sumK_take HQ.out, ← Int.add_assoc, ← hmm.out]; simp only; omega
      clear hE3 hE4 hT hM hF hmm HQ r2 r3 r4
      go_wp2
      go_roundw
      case rel => exact ⟨j + 1, _, _, by omega, by go_num, rfl, hmm', hE5, hM', hF', hT'⟩
      case measure => simp [intOf]; omega
    · have hjn : j = n := by omega
      have hq : Hid (m = k0 + sumK ps) := by
        have := hmm.out
        rwa [List.take_of_length_le (by have := hE.out.len; omega)] at this
      have hM' : Hid (MarkedTo k0 ps n) := hjn ▸ hM.out
      clear hjn
      go_wp2
      go_ret
      exact ⟨ps, ret_i64 hq.out, hE.out, hM'.out, hT.out⟩

end Go.Proofs.YtpgoildfjkokiaaGreat

/- The laws' helpers on an answer that is a node: markNode, markNodeResult, heldNode, heldNodeResult, eqNodeResult. -/
namespace Go.Proofs.YtpgoildfjkokiaaGreat
open Go.RowKit

theorem EntriesRes.nil (w : World) (base : Nat) : EntriesRes w base none 0 0 [] := ⟨⟨rfl, Or.inl ⟨rfl, rfl⟩⟩, fun q hq => by simp at hq, List.nodup_nil, fun g h => by simp [Value.ownBlock] at h⟩
theorem EntriesRes.small {w : World} {base n c : Nat} {A : Option Addr} {qs : List EV} (h : EntriesRes w base A n c qs) : ∀ q ∈ qs, q.n1 ≤ 3 ∧ q.n2 ≤ 3 := fun q hq => by obtain ⟨_, _, _, _, _, _, a5, a6, _⟩ := h.C q hq; exact ⟨a5, a6⟩
/-- All its blocks lie below the heap's end. -/
theorem EntriesRes.bound {w : World} {base n c : Nat} {A : Option Addr} {qs : List EV} (h : EntriesRes w base A n c qs) : (∀ x ∈ coords qs, x < w.heap.size) ∧ ∀ g, (Value.slice A n c).ownBlock = some g → g < w.heap.size := by
  refine ⟨fun x hx => (h.C.inside x hx).2, fun g hg => ?_⟩
  obtain ⟨hl, h1⟩ := h.S
  rcases h1 with ⟨e, _⟩ | ⟨g', cap, cur, e, h2, h3, _⟩
  · rw [e] at hg; simp [Value.ownBlock] at hg
  · rw [e] at hg
    simp only [Value.ownBlock, Option.some.injEq] at hg
    subst hg
    rcases Nat.lt_or_ge g' w.heap.size with h' | h'
    · exact h'
    · exact absurd (h3.symm.trans (Array.getElem?_eq_none h')) (by simp)

set_option maxHeartbeats 800000 in
theorem markNodeR_any (k0 lv ns rt : Int) (n c base hi : Nat) (A : Option Addr) (qs : List EV) (w : World) (ho : EntriesRes w base A n c qs) (hh : ∀ x ∈ coords qs, x < hi) (hg : ∀ g, (Value.slice A n c).ownBlock = some g → g < hi) (h0 : 0 ≤ k0) (h1 : k0 ≤ 1048576) (hn : n ≤ 1048576) :
    Calls Tryz.prog 56 #[.agg #[.int .i64 lv, .int .i64 ns, .int .i64 rt, .slice A n c], .int .i64 k0] w fun e w' => ∃ qs', e = .returned (.int .i64 (k0 + sumK qs')) ∧ EntriesRes w' base A n c qs' ∧ MarkedTo k0 qs' n ∧ Turned (fun x => base ≤ x ∧ x < hi) w w' := by
  have HO := Lib.hid ho
  have HH := Lib.hid hh
  have HG := Lib.hid hg
  clear ho hh hg
  have B := Lib.hid (below_alloc w (.cells #[.int .i64 lv, .int .i64 ns, .int .i64 rt, .slice A n c] 42))
  go_enter Tryz.func56, Tryz.ntmps56
  go_wp2_with fail
  refine (markRes_any k0 n c base hi A qs _ (HO.out.kept B.out) HH.out HG.out h0 h1 hn).mono ?_
  rintro e W1 ⟨qs', rfl, o1, m1, t1⟩
  have T := Lib.hid ((Turned.of_below B.out).trans t1)
  have O := Lib.hid o1
  have M := Lib.hid m1
  clear t1 o1 m1
  go_wp2
  go_ret
  exact ⟨qs', rfl, O.out, M.out, T.out⟩
set_option maxHeartbeats 800000 in
theorem markNodeResult_any (k0 cd lv ns rt : Int) (n c base hi : Nat) (A : Option Addr) (qs : List EV) (w : World) (ho : EntriesRes w base A n c qs) (hh : ∀ x ∈ coords qs, x < hi) (hg : ∀ g, (Value.slice A n c).ownBlock = some g → g < hi) (h0 : 0 ≤ k0) (h1 : k0 ≤ 1048576) (hn : n ≤ 1048576) :
    Calls Tryz.prog 19 #[.agg #[.int .i64 cd, .int .i64 lv, .int .i64 ns, .int .i64 rt, .slice A n c], .int .i64 k0] w fun e w' => ∃ qs', e = .returned (.int .i64 (k0 + sumK qs')) ∧ EntriesRes w' base A n c qs' ∧ MarkedTo k0 qs' n ∧ Turned (fun x => base ≤ x ∧ x < hi) w w' := by
  have HO := Lib.hid ho
  have HH := Lib.hid hh
  have HG := Lib.hid hg
  clear ho hh hg
  have B := Lib.hid (below_alloc w (.cells #[.int .i64 cd, .int .i64 lv, .int .i64 ns, .int .i64 rt, .slice A n c] 44))
  go_enter Tryz.func19, Tryz.ntmps19
  go_wp2_with fail
  refine (markNodeR_any k0 _ _ _ n c base hi A qs _ (HO.out.kept B.out) HH.out HG.out h0 h1 hn).mono ?_
  rintro e W1 ⟨qs', rfl, o1, m1, t1⟩
  have T := Lib.hid ((Turned.of_below B.out).trans t1)
  have O := Lib.hid o1
  have M := Lib.hid m1
  clear t1 o1 m1
  go_wp2
  go_ret
  exact ⟨qs', rfl, O.out, M.out, T.out⟩

set_option maxHeartbeats 800000 in
theorem heldNode_any (k0 lv ns rt : Int) (n c : Nat) (A : Option Addr) (qs : List EV) (w : World) (hp : Entries w A n qs) (hm : MarkedTo k0 qs n) (h0 : 0 ≤ k0) (h1 : k0 ≤ 1048576) (hn : n ≤ 1048576) (hs : ∀ q ∈ qs, q.n1 ≤ 3 ∧ q.n2 ≤ 3) :
    Calls Tryz.prog 57 #[.agg #[.int .i64 lv, .int .i64 ns, .int .i64 rt, .slice A n c], .int .i64 k0] w fun e w' => e = .returned (.int .i64 (k0 + sumK qs)) ∧ Below w.heap.size w w' := by
  have HP := Lib.hid hp
  have HM := Lib.hid hm
  have HS := Lib.hid hs
  have hpos : ¬ (k0 + sumK qs < 0) := by have := (small_sum hs).1; omega
  clear hp hm hs
  have B := Lib.hid (below_alloc w (.cells #[.int .i64 lv, .int .i64 ns, .int .i64 rt, .slice A n c] 42))
  go_enter Tryz.func57, Tryz.ntmps57
  go_wp2_with fail
  refine (heldEntryS_any k0 n c A qs _ (HP.out.kept B.out) HM.out h0 h1 hn HS.out).mono ?_
  rintro e W1 ⟨rfl, b1⟩
  replace B := Lib.hid (B.out.trans (b1.mono B.out.size))
  clear b1
  go_wp2
  go_ret
  exact ⟨rfl, B.out⟩
set_option maxHeartbeats 800000 in
theorem heldNodeResult_any (k0 cd lv ns rt : Int) (n c : Nat) (A : Option Addr) (qs : List EV) (w : World) (hp : Entries w A n qs) (hm : MarkedTo k0 qs n) (h0 : 0 ≤ k0) (h1 : k0 ≤ 1048576) (hn : n ≤ 1048576) (hs : ∀ q ∈ qs, q.n1 ≤ 3 ∧ q.n2 ≤ 3) :
    Calls Tryz.prog 20 #[.agg #[.int .i64 cd, .int .i64 lv, .int .i64 ns, .int .i64 rt, .slice A n c], .int .i64 k0] w fun e w' => e = .returned (.int .i64 (k0 + sumK qs)) ∧ Below w.heap.size w w' := by
  have HP := Lib.hid hp
  have HM := Lib.hid hm
  have HS := Lib.hid hs
  have hpos : ¬ (k0 + sumK qs < 0) := by have := (small_sum hs).1; omega
  clear hp hm hs
  have B := Lib.hid (below_alloc w (.cells #[.int .i64 cd, .int .i64 lv, .int .i64 ns, .int .i64 rt, .slice A n c] 44))
  go_enter Tryz.func20, Tryz.ntmps20
  go_wp2_with fail
  refine (heldNode_any k0 _ _ _ n c A qs _ (HP.out.kept B.out) HM.out h0 h1 hn HS.out).mono ?_
  rintro e W1 ⟨rfl, b1⟩
  replace B := Lib.hid (B.out.trans (b1.mono B.out.size))
  clear b1
  go_wp2
  go_ret
  exact ⟨rfl, B.out⟩

set_option maxHeartbeats 1600000 in
theorem eqNodeResult_same (cd lv ns rt : Int) (n c c' : Nat) (A A' : Option Addr) (ps qs : List EV) (w : World) (hp : Entries w A n ps) (hq : Entries w A' n qs) (hv : ps.map EV.val = qs.map EV.val) (hn : n ≤ maxLen) :
    Calls Tryz.prog 16 #[.agg #[.int .i64 cd, .int .i64 lv, .int .i64 ns, .int .i64 rt, .slice A n c], .agg #[.int .i64 cd, .int .i64 lv, .int .i64 ns, .int .i64 rt, .slice A' n c']] w fun e w' => e = .returned (.bool true) ∧ Below w.heap.size w w' := by
  have e1 : (cd != cd) = false := by simp
  have HP := Lib.hid hp
  have HQ := Lib.hid hq
  have HV := Lib.hid hv
  clear hp hq hv
  have B := Lib.hid (below_alloc w (.cells #[.int .i64 cd, .int .i64 lv, .int .i64 ns, .int .i64 rt, .slice A n c] 44))
  replace B := Lib.hid (B.out.alloc B.out.size (.cells #[.int .i64 cd, .int .i64 lv, .int .i64 ns, .int .i64 rt, .slice A' n c'] 44))
  go_enter Tryz.func16, Tryz.ntmps16
  go_wp2_with fail
  refine (eqNode_same _ _ _ _ _ _ _ _ ps qs _ (HP.out.kept B.out) (HQ.out.kept B.out) HV.out hn).mono ?_
  rintro e W1 ⟨rfl, b1⟩
  replace B := Lib.hid (B.out.trans (b1.mono B.out.size))
  clear b1
  go_wp2
  go_ret
  exact ⟨rfl, B.out⟩

end Go.Proofs.YtpgoildfjkokiaaGreat

/- The walk of impl.WithoutEntry. No condition but the length. -/
namespace Go.Proofs.YtpgoildfjkokiaaGreat
open Go.RowKit

/-- An answer that is a node: with a code that is not 0 all else is zero. -/
def nrOf (cd lv ns rt : Int) (vs : List EVal) : Int × Int × Int × Int × List EVal := if cd = 0 then (0, lv, ns, rt, vs) else (cd, 0, 0, 0, [])
theorem nrOf_no {cd lv ns rt : Int} {vs : List EVal} (h : cd ≠ 0) : nrOf cd lv ns rt vs = (cd, 0, 0, 0, []) := by unfold nrOf; rw [if_neg h]
theorem nrOf_yes {cd lv ns rt : Int} {vs : List EVal} (h : cd = 0) : nrOf cd lv ns rt vs = (0, lv, ns, rt, vs) := by unfold nrOf; rw [if_pos h]
/-- What WithoutEntry answers. -/
def withoutR (lv ns rt : Int) (vs : List EVal) (d r : Int) : Int × Int × Int × Int × List EVal := nrOf (efC (nodeF lv ns rt vs d) (findE r vs)) lv ns rt (vs.eraseIdx (findE r vs).toNat)
/-- The answer R lies in memory, and owns its rows. -/
def ResPost (R : Int × Int × Int × Int × List EVal) (w : World) (e : Ending) (w' : World) : Prop :=
  ∃ A' n' c' qs, e = .returned (.agg #[.int .i64 R.1, .int .i64 R.2.1, .int .i64 R.2.2.1, .int .i64 R.2.2.2.1, .slice A' n' c']) ∧ EntriesRes w' w.heap.size A' n' c' qs ∧ qs.map EV.val = R.2.2.2.2 ∧ n' ≤ 6 ∧ Below w.heap.size w w'


end Go.Proofs.YtpgoildfjkokiaaGreat
