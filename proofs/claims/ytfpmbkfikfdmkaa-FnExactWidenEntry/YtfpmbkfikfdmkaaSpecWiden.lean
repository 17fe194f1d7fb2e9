/- The walk of spec.WidenEntry. No condition but lengths. -/
import Derived.Test.YtfpmbkfikfdmkaaSpecOne
import Derived.Test.YtfpmbkfikfdmkaaImplWiden
import Derived.Test.YtfpmbkfikfdmkaaSpecBoxOf
namespace Go.Proofs.Ytfpmbkfikfdmkaa
open Go.RowKit

theorem EntF.mono {w : World} {lo hi lo' hi' n : Nat} {A : Option Addr} {qs : List EV} (h : EntF w lo hi A n qs) (h1 : lo' ≤ lo) (h2 : hi ≤ hi') : EntF w lo' hi' A n qs := by
  refine ⟨h.E, fun hn => ?_, fun q hq => ?_⟩
  · obtain ⟨g, e, h3, h4⟩ := h.A' hn
    exact ⟨g, e, by omega, by omega⟩
  · obtain ⟨g1, g2, a1, a2, a3, a4⟩ := h.Q q hq
    exact ⟨g1, g2, a1, a2, ⟨by omega, by omega⟩, ⟨by omega, by omega⟩⟩
theorem Ints.span {w : World} {lo n g : Nat} {xs : List Int} (h : Ints w lo (some ⟨g, 0, none⟩) n xs) (h0 : 0 < n) : lo ≤ g ∧ g < w.heap.size := by
  obtain ⟨b, o, e, h1, h2⟩ := h.form h0
  injection e with e; injection e with e
  omega
/-- The box of one entry is written anew. -/
theorem EntF.wid {w : World} {lo hi g o n i g8 g9 dd c8 c9 : Nat} {qs : List EV} {q : EV} {y1 y2 : List Int} (h : EntF w lo hi (some ⟨g, o, none⟩) n qs) (hi' : qs[i]? = some q) (hne : ∀ p ∈ qs, blk p.A1 ≠ g ∧ blk p.A2 ≠ g) (b8 : lo ≤ g8 ∧ g8 < hi) (b9 : lo ≤ g9 ∧ g9 < hi) (n8 : g8 ≠ g) (n9 : g9 ≠ g) (I8 : Ints w 0 (some ⟨g8, 0, none⟩) dd y1) (I9 : Ints w 0 (some ⟨g9, 0, none⟩) dd y2) (hm : dd ≤ maxLen) :
    EntF ((w.setCell ⟨g, o + i * 4, none⟩ (.slice (some ⟨g8, 0, none⟩) dd c8)).setCell ⟨g, o + i * 4 + 1, none⟩ (.slice (some ⟨g9, 0, none⟩) dd c9)) lo hi (some ⟨g, o, none⟩) n (qs.set i ⟨some ⟨g8, 0, none⟩, dd, c8, some ⟨g9, 0, none⟩, dd, c9, q.ref, q.nsn, y1, y2⟩) := by
  have hin : i < qs.length := (List.getElem?_eq_some_iff.1 hi').1
  have hl := h.E.1
  obtain ⟨hl1, hr, hp⟩ := h.E
  obtain ⟨b, o', e, h2, h3⟩ := hr (by omega)
  injection e with e; injection e with e1 e2; subst e1 e2
  have mem : ∀ p ∈ qs.set i ⟨some ⟨g8, 0, none⟩, dd, c8, some ⟨g9, 0, none⟩, dd, c9, q.ref, q.nsn, y1, y2⟩, p ∈ qs ∨ p = ⟨some ⟨g8, 0, none⟩, dd, c8, some ⟨g9, 0, none⟩, dd, c9, q.ref, q.nsn, y1, y2⟩ := fun p hp => List.mem_or_eq_of_mem_set hp
  have far : ∀ (x m : Nat) (zs : List Int), x ≠ g → Ints w 0 (some ⟨x, 0, none⟩) m zs → Ints ((w.setCell ⟨g, o + i * 4, none⟩ (.slice (some ⟨g8, 0, none⟩) dd c8)).setCell ⟨g, o + i * 4 + 1, none⟩ (.slice (some ⟨g9, 0, none⟩) dd c9)) 0 (some ⟨x, 0, none⟩) m zs := fun x m zs hx hz =>
    (hz.block (Nat.le_of_eq (size_of_setCell _ _ _).symm) (heap_setCell_other w ⟨g, o + i * 4, none⟩ x _ hx)).block (Nat.le_of_eq (size_of_setCell _ _ _).symm) (heap_setCell_other _ ⟨g, o + i * 4 + 1, none⟩ x _ hx)
  refine ⟨⟨by rw [List.length_set]; exact hl1, fun _ => ⟨g, o, rfl, by rw [size_of_setCell, size_of_setCell]; exact h2, fun k p hk => ?_⟩, fun p hm' => ?_⟩, h.A', fun p hm' => ?_⟩
  · rw [List.getElem?_set] at hk
    by_cases hki : i = k
    · subst hki
      rw [if_pos rfl, if_pos hin] at hk
      injection hk with hk
      subst hk
      obtain ⟨c0, c1, c2, c3⟩ := h3 i q hi'
      refine ⟨?_, ?_, ?_, ?_⟩
      · rw [World.cell?_setCell_other _ _ _ _ (fun e => by injection e with _ e; omega)]
        exact World.cell?_setCell_same _ _ _ c0
      · refine World.cell?_setCell_same _ _ _ (u := .slice q.A2 q.n2 q.c2) ?_
        rw [World.cell?_setCell_other _ _ _ _ (fun e => by injection e with _ e; omega)]; exact c1
      · rw [World.cell?_setCell_other _ _ _ _ (fun e => by injection e with _ e; omega), World.cell?_setCell_other _ _ _ _ (fun e => by injection e with _ e; omega)]; exact c2
      · rw [World.cell?_setCell_other _ _ _ _ (fun e => by injection e with _ e; omega), World.cell?_setCell_other _ _ _ _ (fun e => by injection e with _ e; omega)]; exact c3
    · rw [if_neg hki] at hk
      obtain ⟨c0, c1, c2, c3⟩ := h3 k p hk
      refine ⟨?_, ?_, ?_, ?_⟩ <;> rw [World.cell?_setCell_other _ _ _ _ (fun e => by injection e with _ e; omega), World.cell?_setCell_other _ _ _ _ (fun e => by injection e with _ e; omega)]
      · exact c0
      · exact c1
      · exact c2
      · exact c3
  · rcases mem p hm' with hq | rfl
    · obtain ⟨g1, g2, a1, a2, _, _⟩ := h.Q p hq
      obtain ⟨i1, i2, m1, m2⟩ := hp p hq
      have hn := hne p hq
      rw [a1] at i1; rw [a2] at i2
      rw [a1, a2] at hn
      exact ⟨by rw [a1]; exact far g1 _ _ hn.1 i1, by rw [a2]; exact far g2 _ _ hn.2 i2, m1, m2⟩
    · exact ⟨far g8 _ _ n8 I8, far g9 _ _ n9 I9, hm, hm⟩
  · rcases mem p hm' with hq | rfl
    · exact h.Q p hq
    · exact ⟨g8, g9, rfl, rfl, b8, b9⟩

set_option maxRecDepth 100000 in
set_option maxHeartbeats 6400000 in
theorem specWidenEntry_any (lv ns rt d r : Int) (n c n1 c1 n2 c2 lo1 lo2 : Nat) (A A1 A2 : Option Addr) (ps : List EV) (x1 x2 : List Int) (w : World) (hp : Entries w A n ps) (h1 : Ints w lo1 A1 n1 x1) (h2 : Ints w lo2 A2 n2 x2) (hn : n ≤ maxLen) (m1 : n1 ≤ maxLen) (m2 : n2 ≤ maxLen) :
    Calls Try.prog 55 #[.agg #[.int .i64 lv, .int .i64 ns, .int .i64 rt, .slice A n c], .int .i64 d, .int .i64 r, .agg #[.slice A1 n1 c1, .slice A2 n2 c2]] w (ReadPost3 (widenR lv ns rt (ps.map EV.val) d r x1 x2) w) := by
  have HP := Lib.hid hp
  have I_1 := Lib.hid h1
  have I_2 := Lib.hid h2
  have HL : Hid ((ps.map EV.val).length = n) := by show List.length _ = n; rw [List.length_map]; exact hp.1
  clear hp h1 h2
  have B := Lib.hid (below_alloc w (.cells #[.int .i64 lv, .int .i64 ns, .int .i64 rt, .slice A n c] 61))
  replace B := Lib.hid (B.out.alloc B.out.size (.cells #[.slice A1 n1 c1, .slice A2 n2 c2] 26))
  replace B := Lib.hid (B.out.alloc B.out.size (.cells #[.int .i64 0, .int .i64 0, .int .i64 0, .int .i64 0, .slice none 0 0] 63))
  have L_n := Lib.hid (((Lies.new w 61 #[.int .i64 lv, .int .i64 ns, .int .i64 rt, .slice A n c]).alloc (.cells #[.slice A1 n1 c1, .slice A2 n2 c2] 26)).alloc (.cells #[.int .i64 0, .int .i64 0, .int .i64 0, .int .i64 0, .slice none 0 0] 63))
  have L_e := Lib.hid ((Lies.new (w.alloc (.cells #[.int .i64 lv, .int .i64 ns, .int .i64 rt, .slice A n c] 61)) 26 #[.slice A1 n1 c1, .slice A2 n2 c2]).alloc (.cells #[.int .i64 0, .int .i64 0, .int .i64 0, .int .i64 0, .slice none 0 0] 63))
  have L_r := Lib.hid (Lies.new ((w.alloc (.cells #[.int .i64 lv, .int .i64 ns, .int .i64 rt, .slice A n c] 61)).alloc (.cells #[.slice A1 n1 c1, .slice A2 n2 c2] 26)) 63 #[.int .i64 0, .int .i64 0, .int .i64 0, .int .i64 0, .slice none 0 0])
  simp only [World.size_alloc] at L_e L_r
  go_enter Try.func55, Try.ntmps55
  go_wp2_with fail
  refine (specNodeFault_any _ _ _ _ _ _ _ ps _ (HP.out.kept B.out) hn).mono ?_
  rintro e W1 ⟨rfl, b1⟩
  replace L_n := Lib.hid (L_n.out.kept b1 L_n.out.inside)
  replace L_e := Lib.hid (L_e.out.kept b1 L_e.out.inside)
  replace L_r := Lib.hid (L_r.out.kept b1 L_r.out.inside)
  replace B := Lib.hid (B.out.trans (b1.mono B.out.size))
  clear b1
  by_cases hz : nodeF lv ns rt (ps.map EV.val) d = 0
  rotate_left
  · have hz1 : (nodeF lv ns rt (ps.map EV.val) d != 0) = true := by simpa using hz
    have HR : Hid (widenR lv ns rt (ps.map EV.val) d r x1 x2 = (nodeF lv ns rt (ps.map EV.val) d, 0, 0, 0, [])) := widenR_no (by unfold widenC; rw [if_pos hz]) hz
    clear hz
    have z0 : W1.cell? ⟨w.heap.size + 1 + 1, 0, none⟩ = some (.int .i64 0) := L_r.out.cell 0
    have y0 : W1.frozen? ⟨w.heap.size + 1 + 1, 0, none⟩ = false := L_r.out.thawed 0
    have z1 : W1.cell? ⟨w.heap.size + 1 + 1, 1, none⟩ = some (.int .i64 0) := L_r.out.cell 1
    have y1 : W1.frozen? ⟨w.heap.size + 1 + 1, 1, none⟩ = false := L_r.out.thawed 1
    have z2 : W1.cell? ⟨w.heap.size + 1 + 1, 2, none⟩ = some (.int .i64 0) := L_r.out.cell 2
    have y2 : W1.frozen? ⟨w.heap.size + 1 + 1, 2, none⟩ = false := L_r.out.thawed 2
    have z3 : W1.cell? ⟨w.heap.size + 1 + 1, 3, none⟩ = some (.int .i64 0) := L_r.out.cell 3
    have y3 : W1.frozen? ⟨w.heap.size + 1 + 1, 3, none⟩ = false := L_r.out.thawed 3
    have z4 : W1.cell? ⟨w.heap.size + 1 + 1, 4, none⟩ = some (.slice none 0 0) := L_r.out.cell 4
    have y4 : W1.frozen? ⟨w.heap.size + 1 + 1, 4, none⟩ = false := L_r.out.thawed 4
    go_wp2
    refine bodyPost_ret (v := .agg #[.int .i64 (nodeF lv ns rt (ps.map EV.val) d), .int .i64 0, .int .i64 0, .int .i64 0, .slice none 0 0]) (by simp [results, Try.results55, go_sem, z0, z1, z2, z3, z4]) rfl ?_
    refine ⟨none, 0, 0, [], by rw [HR.out], EntF.nil _ _ _ _, by rw [HR.out]; rfl, by decide, ?_⟩
    with_reducible (repeat (first | exact B.out | refine Below.setCell ?_ ?_ _))
    all_goals (show w.heap.size ≤ w.heap.size + 1 + 1; omega)
  have hz1 : (nodeF lv ns rt (ps.map EV.val) d != 0) = false := by simp [hz]
  have HZ := Lib.hid hz
  obtain ⟨hok, hn5, hent, _, htw⟩ := nodeF_zero hz
  have HE := Lib.hid (lens_of hent)
  have hd2 : 2 ≤ d := hok.1.1
  have hd3 : d ≤ 3 := hok.1.2
  have hn5' : n ≤ 5 := by rw [HL.out] at hn5; exact hn5
  clear hz hok hent hn5 htw
  have q0 : W1.cell? ⟨w.heap.size + 1, 0, none⟩ = some (.slice A1 n1 c1) := L_e.out.cell 0
  have q1 : W1.cell? ⟨w.heap.size + 1, 1, none⟩ = some (.slice A2 n2 c2) := L_e.out.cell 1
  go_wp2_with fail
  refine (specRectFault_any _ _ _ _ _ _ _ _ _ x1 x2 _ (I_1.out.kept B.out) (I_2.out.kept B.out) m1 m2).mono ?_
  rintro e W2 ⟨rfl, b2⟩
  replace L_n := Lib.hid (L_n.out.kept b2 L_n.out.inside)
  replace L_e := Lib.hid (L_e.out.kept b2 L_e.out.inside)
  replace L_r := Lib.hid (L_r.out.kept b2 L_r.out.inside)
  replace B := Lib.hid (B.out.trans (b2.mono B.out.size))
  clear b2
  clear q0 q1
  by_cases hg : rf x1 x2 d = 0
  rotate_left
  · have hg1 : (rf x1 x2 d != 0) = true := by simpa using hg
    have HR : Hid (widenR lv ns rt (ps.map EV.val) d r x1 x2 = (rf x1 x2 d, 0, 0, 0, [])) := widenR_no (by unfold widenC; rw [if_neg (by simp [HZ.out]), if_pos hg]) hg
    clear hg
    have z0 : W2.cell? ⟨w.heap.size + 1 + 1, 0, none⟩ = some (.int .i64 0) := L_r.out.cell 0
    have y0 : W2.frozen? ⟨w.heap.size + 1 + 1, 0, none⟩ = false := L_r.out.thawed 0
    have z1 : W2.cell? ⟨w.heap.size + 1 + 1, 1, none⟩ = some (.int .i64 0) := L_r.out.cell 1
    have y1 : W2.frozen? ⟨w.heap.size + 1 + 1, 1, none⟩ = false := L_r.out.thawed 1
    have z2 : W2.cell? ⟨w.heap.size + 1 + 1, 2, none⟩ = some (.int .i64 0) := L_r.out.cell 2
    have y2 : W2.frozen? ⟨w.heap.size + 1 + 1, 2, none⟩ = false := L_r.out.thawed 2
    have z3 : W2.cell? ⟨w.heap.size + 1 + 1, 3, none⟩ = some (.int .i64 0) := L_r.out.cell 3
    have y3 : W2.frozen? ⟨w.heap.size + 1 + 1, 3, none⟩ = false := L_r.out.thawed 3
    have z4 : W2.cell? ⟨w.heap.size + 1 + 1, 4, none⟩ = some (.slice none 0 0) := L_r.out.cell 4
    have y4 : W2.frozen? ⟨w.heap.size + 1 + 1, 4, none⟩ = false := L_r.out.thawed 4
    go_wp2
    refine bodyPost_ret (v := .agg #[.int .i64 (rf x1 x2 d), .int .i64 0, .int .i64 0, .int .i64 0, .slice none 0 0]) (by simp [results, Try.results55, go_sem, z0, z1, z2, z3, z4]) rfl ?_
    refine ⟨none, 0, 0, [], by rw [HR.out], EntF.nil _ _ _ _, by rw [HR.out]; rfl, by decide, ?_⟩
    with_reducible (repeat (first | exact B.out | refine Below.setCell ?_ ?_ _))
    all_goals (show w.heap.size ≤ w.heap.size + 1 + 1; omega)
  have hg1 : (rf x1 x2 d != 0) = false := by simp [hg]
  have HG := Lib.hid hg
  have hle := rf_len hg
  have hx1 : x1.length = d.toNat := by omega
  have hx2 : x2.length = d.toNat := by omega
  have hk1 := I_1.out.1
  have hk2 := I_2.out.1
  obtain ⟨dd, hdd⟩ : ∃ dd : Nat, d.toNat = dd := ⟨_, rfl⟩
  obtain rfl : n1 = dd := by omega
  obtain rfl : n2 = n1 := by omega
  have hdd2 : 0 < n2 := by omega
  have hdd3 : n2 ≤ 3 := by omega
  have HX : Hid (x1.length = n2 ∧ x2.length = n2) := ⟨hk1, hk2⟩
  replace HE : Hid (LensE n2 (ps.map EV.val)) := by have := HE.out; rwa [hdd] at this
  clear hg hle hx1 hx2 hk1 hk2 hdd
  have k0 : W2.cell? ⟨w.heap.size, 0, none⟩ = some (.int .i64 lv) := L_n.out.cell 0
  have k1 : W2.cell? ⟨w.heap.size, 1, none⟩ = some (.int .i64 ns) := L_n.out.cell 1
  have k2 : W2.cell? ⟨w.heap.size, 2, none⟩ = some (.int .i64 rt) := L_n.out.cell 2
  have k3 : W2.cell? ⟨w.heap.size, 3, none⟩ = some (.slice A n c) := L_n.out.cell 3
  go_wp2_with fail
  refine (l3Find_any _ _ _ _ ps _ (HP.out.kept B.out) hn).mono ?_
  rintro e w' ⟨rfl, rfl⟩
  by_cases hf : findE r (ps.map EV.val) < 0
  · have HR : Hid (widenR lv ns rt (ps.map EV.val) d r x1 x2 = (4, 0, 0, 0, [])) := widenR_no (by unfold widenC; rw [if_neg (by simp [HZ.out]), if_neg (by simp [HG.out]), if_pos hf]) (by decide)
    have z0 : W2.cell? ⟨w.heap.size + 1 + 1, 0, none⟩ = some (.int .i64 0) := L_r.out.cell 0
    have y0 : W2.frozen? ⟨w.heap.size + 1 + 1, 0, none⟩ = false := L_r.out.thawed 0
    have z1 : W2.cell? ⟨w.heap.size + 1 + 1, 1, none⟩ = some (.int .i64 0) := L_r.out.cell 1
    have y1 : W2.frozen? ⟨w.heap.size + 1 + 1, 1, none⟩ = false := L_r.out.thawed 1
    have z2 : W2.cell? ⟨w.heap.size + 1 + 1, 2, none⟩ = some (.int .i64 0) := L_r.out.cell 2
    have y2 : W2.frozen? ⟨w.heap.size + 1 + 1, 2, none⟩ = false := L_r.out.thawed 2
    have z3 : W2.cell? ⟨w.heap.size + 1 + 1, 3, none⟩ = some (.int .i64 0) := L_r.out.cell 3
    have y3 : W2.frozen? ⟨w.heap.size + 1 + 1, 3, none⟩ = false := L_r.out.thawed 3
    have z4 : W2.cell? ⟨w.heap.size + 1 + 1, 4, none⟩ = some (.slice none 0 0) := L_r.out.cell 4
    have y4 : W2.frozen? ⟨w.heap.size + 1 + 1, 4, none⟩ = false := L_r.out.thawed 4
    go_wp2
    refine bodyPost_ret (v := .agg #[.int .i64 4, .int .i64 0, .int .i64 0, .int .i64 0, .slice none 0 0]) (by simp [results, Try.results55, go_sem, z0, z1, z2, z3, z4]) rfl ?_
    refine ⟨none, 0, 0, [], by rw [HR.out], EntF.nil _ _ _ _, by rw [HR.out]; rfl, by decide, ?_⟩
    with_reducible (repeat (first | exact B.out | refine Below.setCell ?_ ?_ _))
    all_goals (show w.heap.size ≤ w.heap.size + 1 + 1; omega)
  obtain ⟨i, hi⟩ : ∃ i : Nat, findE r (ps.map EV.val) = (i : Int) := ⟨(findE r (ps.map EV.val)).toNat, by omega⟩
  obtain ⟨v, hv, _⟩ := findE_at hi
  have HR : Hid (widenR lv ns rt (ps.map EV.val) d r x1 x2 = (0, lv, ns, rt, (ps.map EV.val).set i (widE x1 x2 v))) := widenR_yes (by unfold widenC; rw [if_neg (by simp [HZ.out]), if_neg (by simp [HG.out]), if_neg hf]) hi hv
  have hin : i < n := by have := (List.getElem?_eq_some_iff.1 hv).1; rw [HL.out] at this; exact this
  have HVV := Lib.hid hv
  rw [hi]
  have hnn : ¬ ((i : Int) < 0) := by omega
  have hin' : (i : Int) < (n : Int) := by omega
  clear hi hf hv
  go_wp2_with fail
  refine (l3Copy_any lv ns rt w.heap.size n c n2 A ps _ L_n.out.inside k0 k1 k2 k3 (HP.out.kept B.out) (by omega) (by omega) (by omega) HE.out).mono ?_
  rintro e W3 ⟨A3, c3, qs, rfl, hrow, vq, b3⟩
  have b3s := b3.size
  have hr2 := L_r.out.inside
  obtain ⟨A', c', e', hen⟩ := hrow.entries
  injection e' with e1 e2 e3
  subst e1 e3
  obtain ⟨gr, hA⟩ := ownsRow_form hrow.S (by omega)
  subst hA
  have hgr := ownsRow_block2 hrow.S gr rfl
  have EF : Hid (EntF W3 (W2.heap.size + 1 + 1) W3.heap.size (some ⟨gr, 0, none⟩) n qs) := by
    refine ⟨hen, fun _ => ⟨gr, rfl, hgr⟩, fun q hq => ?_⟩
    obtain ⟨g1, g2, a1, a2, a3, a4, a5, a6, _⟩ := hrow.R q hq
    exact ⟨g1, g2, a1, a2, ⟨a3, a5⟩, ⟨a4, a6⟩⟩
  have NE : Hid (∀ p ∈ qs, blk p.A1 ≠ gr ∧ blk p.A2 ≠ gr) := by
    intro q hq
    obtain ⟨g1, g2, a1, a2, _, _, _, _, a7, a8, _⟩ := hrow.R q hq
    rw [a1, a2]
    exact ⟨fun e => a7 (by rw [← e]; rfl), fun e => a8 (by rw [← e]; rfl)⟩
  have L_g : Hid (∃ cur, Lies W3 gr 67 cur) := by
    rcases hrow.S.2 with ⟨e1, _⟩ | ⟨g', cap', cur, e1, _, h3, _⟩
    · simp at e1
    · injection e1 with e1; injection e1 with e1; injection e1 with e1
      subst e1
      exact ⟨cur, h3⟩
  have VQ := Lib.hid vq
  obtain ⟨oo, hoo⟩ : ∃ oo : Nat, 0 = oo := ⟨_, rfl⟩
  rw [hoo] at EF
  replace L_e := Lib.hid ((L_e.out.kept b3 L_e.out.inside).alloc (.cells #[.int .i64 lv, .int .i64 ns, .int .i64 rt, .slice (some ⟨gr, oo, none⟩) n c3] 61))
  replace L_r := Lib.hid ((L_r.out.kept b3 L_r.out.inside).alloc (.cells #[.int .i64 lv, .int .i64 ns, .int .i64 rt, .slice (some ⟨gr, oo, none⟩) n c3] 61))
  have L_o := Lib.hid (Lies.new W3 61 #[.int .i64 lv, .int .i64 ns, .int .i64 rt, .slice (some ⟨gr, oo, none⟩) n c3])
  obtain ⟨cur, hcur⟩ := L_g.out
  replace L_g := Lib.hid (hcur.alloc (.cells #[.int .i64 lv, .int .i64 ns, .int .i64 rt, .slice (some ⟨gr, oo, none⟩) n c3] 61))
  replace EF := Lib.hid (EF.out.alloc (.cells #[.int .i64 lv, .int .i64 ns, .int .i64 rt, .slice (some ⟨gr, oo, none⟩) n c3] 61))
  replace B := Lib.hid ((B.out.trans (b3.mono B.out.size)).alloc (by have := B.out.size; omega) (.cells #[.int .i64 lv, .int .i64 ns, .int .i64 rt, .slice (some ⟨gr, oo, none⟩) n c3] 61))
  clear hrow vq b3 hen hcur k0 k1 k2 k3 L_n
  rw [show (some (⟨gr, 0, none⟩ : Addr)) = some ⟨gr, oo, none⟩ by rw [hoo]]
  clear hoo
  go_wp2
  generalize hW : (W3.alloc (.cells #[.int .i64 lv, .int .i64 ns, .int .i64 rt, .slice (some ⟨gr, oo, none⟩) n c3] 61)) = W0 at *
  have hW0 : W0.heap.size = W3.heap.size + 1 := by rw [← hW]; simp only [World.size_alloc]
  clear hW
  obtain ⟨b', o', qA1, qn1, qc1, qA2, qn2, qc2, qref, qnsn, qx1, qx2, hA, hb', d0, d1, d2, d3, hx, hI1, hI2, hm1, hm2⟩ := EF.out.E.cellAt hin
  injection hA with hA
  injection hA with hA1 hA2
  subst hA1 hA2
  have hvq : (qs.map EV.val)[i]? = some (qx1, qx2, qref, qnsn) := by rw [List.getElem?_map, hx.out]; rfl
  rw [VQ.out, HVV.out] at hvq
  injection hvq with hvq
  have hlen := HE.out i v HVV.out
  rw [hvq] at hlen
  obtain rfl : qn1 = n2 := hI1.out.1.symm.trans hlen.1
  obtain rfl : qn2 = qn1 := hI2.out.1.symm.trans hlen.2
  have k3 : W0.cell? ⟨W3.heap.size, 3, none⟩ = some (.slice (some ⟨gr, oo, none⟩) n c3) := L_o.out.cell 3
  have k_0 : W0.cell? ⟨W3.heap.size, 3, none⟩ = some (.slice (some ⟨gr, oo, none⟩) n c3) := k3
  have LVQ := Lib.hid hvq
  clear hlen hvq d2 d3
  have TT : Hid (TwoAt gr (oo + i * 4) (w.heap.size + 1) 0 (.slice qA1 qn2 qc1) (.slice qA2 qn2 qc2) (.slice A1 qn2 c1) (.slice A2 qn2 c2) W0) := ⟨d0, d1, L_e.out.cell 0, L_e.out.cell 1⟩
  have J1 := Lib.hid (I_1.out.kept B.out)
  have J2 := Lib.hid (I_2.out.kept B.out)
  have UN := Lib.hid (l1UnionFF_any gr (oo + i * 4) (w.heap.size + 1) 0 qn2 qc1 qc2 c1 c2 0 0 lo1 lo2 qA1 qA2 A1 A2 qx1 qx2 x1 x2 W0.drew hb' L_e.out.inside TT.out hI1.out hI2.out J1.out J2.out hdd3)
  go_region_held3 (fun w' => w'.cell? ⟨W3.heap.size, 3, none⟩ = some (.slice (some ⟨gr, oo, none⟩) n c3))
    (first | (simp [go_sem, k_0]; done) | with_reducible exact k_1 | (simp [go_sem, k_1, hne3]; done))
    (first
      | (go_at_call 75; refine UN.out.mono ?_
         rintro e W8 ⟨A8, c8, A9, c9, rfl, j8, j9, hfo, b8d⟩
         have b8 := below_drawn b8d
         obtain ⟨g8, g9, e8, e9⟩ := hfo hdd2
         subst e8 e9
         obtain ⟨l8, u8⟩ := j8.span hdd2
         obtain ⟨l9, u9⟩ := j9.span hdd2
         simp only [size_of_drew] at l8 l9
         have b8s := b8.size
         have L_o8 := Lib.hid (L_o.out.kept b8 L_o.out.inside)
         have L_r8 := Lib.hid (L_r.out.kept b8 L_r.out.inside)
         have L_g8 := Lib.hid (L_g.out.kept b8 L_g.out.inside)
         have EF8 : Hid (EntF W8 (W2.heap.size + 1 + 1) W8.heap.size (some ⟨gr, oo, none⟩) n qs) := by
           refine ⟨EF.out.E.kept b8, fun h => ?_, fun q hq => ?_⟩
           · obtain ⟨g, h1, h2, h3⟩ := EF.out.A' h
             exact ⟨g, h1, h2, by omega⟩
           · obtain ⟨g1, g2, a1, a2, a3, a4⟩ := EF.out.Q q hq
             exact ⟨g1, g2, a1, a2, ⟨a3.1, by omega⟩, ⟨a4.1, by omega⟩⟩
         have EW := Lib.hid (EF8.out.wid (c8 := c8) (c9 := c9) hx.out NE.out ⟨by omega, u8⟩ ⟨by omega, u9⟩ (by omega) (by omega) (j8.lower (Nat.zero_le _)) (j9.lower (Nat.zero_le _)) hm1)
         have B8 := Lib.hid (B.out.trans (b8.mono B.out.size))
         have k_1 : W8.cell? ⟨W3.heap.size, 3, none⟩ = some (.slice (some ⟨gr, oo, none⟩) n c3) := L_o8.out.cell 3
         have hne3 : ¬ W3.heap.size = gr := by omega
         have u0 : W8.cell? ⟨gr, oo + i * 4, none⟩ = some (.slice qA1 qn2 qc1) := (b8.cell (p := ⟨gr, oo + i * 4, none⟩) hb').trans d0
         have u1 : W8.cell? ⟨gr, oo + i * 4 + 1, none⟩ = some (.slice qA2 qn2 qc2) := (b8.cell (p := ⟨gr, oo + i * 4 + 1, none⟩) hb').trans d1
         have fz0 : W8.frozen? ⟨gr, oo + i * 4, none⟩ = false := L_g8.out.thawed _
         have fz1 : W8.frozen? ⟨gr, oo + i * 4 + 1, none⟩ = false := L_g8.out.thawed _
         clear b8d j8 j9))
  all_goals
    have HVQ : Hid ((qs.set i ⟨some ⟨g8, 0, none⟩, qn2, c8, some ⟨g9, 0, none⟩, qn2, c9, qref, qnsn, mins qx1 x1, maxs qx2 x2⟩).map EV.val = (ps.map EV.val).set i (widE x1 x2 v)) := by
      show List.map _ _ = _
      rw [List.map_set, VQ.out, LVQ.out]; rfl
    have LR : Hid (Lies ((W8.setCell ⟨gr, oo + i * 4, none⟩ (.slice (some ⟨g8, 0, none⟩) qn2 c8)).setCell ⟨gr, oo + i * 4 + 1, none⟩ (.slice (some ⟨g9, 0, none⟩) qn2 c9)) (w.heap.size + 1 + 1) 63 #[.int .i64 0, .int .i64 0, .int .i64 0, .int .i64 0, .slice none 0 0]) := (L_r8.out.far (by show w.heap.size + 1 + 1 ≠ gr; omega) _).far (by show w.heap.size + 1 + 1 ≠ gr; omega) _
    have LO : Hid (Lies ((W8.setCell ⟨gr, oo + i * 4, none⟩ (.slice (some ⟨g8, 0, none⟩) qn2 c8)).setCell ⟨gr, oo + i * 4 + 1, none⟩ (.slice (some ⟨g9, 0, none⟩) qn2 c9)) W3.heap.size 61 #[.int .i64 lv, .int .i64 ns, .int .i64 rt, .slice (some ⟨gr, oo, none⟩) n c3]) := (L_o8.out.far (by show W3.heap.size ≠ gr; omega) _).far (by show W3.heap.size ≠ gr; omega) _
    have BB : Hid (Below w.heap.size w ((W8.setCell ⟨gr, oo + i * 4, none⟩ (.slice (some ⟨g8, 0, none⟩) qn2 c8)).setCell ⟨gr, oo + i * 4 + 1, none⟩ (.slice (some ⟨g9, 0, none⟩) qn2 c9))) := (B8.out.setCell (by show w.heap.size ≤ gr; omega) _).setCell (by show w.heap.size ≤ gr; omega) _
    have hs5 : ((W8.setCell ⟨gr, oo + i * 4, none⟩ (.slice (some ⟨g8, 0, none⟩) qn2 c8)).setCell ⟨gr, oo + i * 4 + 1, none⟩ (.slice (some ⟨g9, 0, none⟩) qn2 c9)).heap.size = W8.heap.size := by rw [size_of_setCell, size_of_setCell]
    have HS5 := Lib.hid hs5
    clear hs5 L_o L_r L_g L_e EF EF8 L_o8 L_r8 L_g8 B B8 u0 u1 fz0 fz1 k_0 k_1 k3 d0 d1
    generalize hW5 : ((W8.setCell ⟨gr, oo + i * 4, none⟩ (.slice (some ⟨g8, 0, none⟩) qn2 c8)).setCell ⟨gr, oo + i * 4 + 1, none⟩ (.slice (some ⟨g9, 0, none⟩) qn2 c9)) = W5 at *
    clear hW5
    have o0 : W5.cell? ⟨W3.heap.size, 0, none⟩ = some (.int .i64 lv) := LO.out.cell 0
    have o1 : W5.cell? ⟨W3.heap.size, 1, none⟩ = some (.int .i64 ns) := LO.out.cell 1
    have o2 : W5.cell? ⟨W3.heap.size, 2, none⟩ = some (.int .i64 rt) := LO.out.cell 2
    have o3 : W5.cell? ⟨W3.heap.size, 3, none⟩ = some (.slice (some ⟨gr, oo, none⟩) n c3) := LO.out.cell 3
    have z0 : W5.cell? ⟨w.heap.size + 1 + 1, 0, none⟩ = some (.int .i64 0) := LR.out.cell 0
    have y0 : W5.frozen? ⟨w.heap.size + 1 + 1, 0, none⟩ = false := LR.out.thawed 0
    have z1 : W5.cell? ⟨w.heap.size + 1 + 1, 1, none⟩ = some (.int .i64 0) := LR.out.cell 1
    have y1 : W5.frozen? ⟨w.heap.size + 1 + 1, 1, none⟩ = false := LR.out.thawed 1
    have z2 : W5.cell? ⟨w.heap.size + 1 + 1, 2, none⟩ = some (.int .i64 0) := LR.out.cell 2
    have y2 : W5.frozen? ⟨w.heap.size + 1 + 1, 2, none⟩ = false := LR.out.thawed 2
    have z3 : W5.cell? ⟨w.heap.size + 1 + 1, 3, none⟩ = some (.int .i64 0) := LR.out.cell 3
    have y3 : W5.frozen? ⟨w.heap.size + 1 + 1, 3, none⟩ = false := LR.out.thawed 3
    have z4 : W5.cell? ⟨w.heap.size + 1 + 1, 4, none⟩ = some (.slice none 0 0) := LR.out.cell 4
    have y4 : W5.frozen? ⟨w.heap.size + 1 + 1, 4, none⟩ = false := LR.out.thawed 4
    go_wp2
    refine bodyPost_ret (v := .agg #[.int .i64 0, .int .i64 lv, .int .i64 ns, .int .i64 rt, .slice (some ⟨gr, oo, none⟩) n c3]) (by simp [results, Try.results55, go_sem, z0, z1, z2, z3, z4]) rfl ?_
    refine ⟨some ⟨gr, oo, none⟩, n, c3, _, by rw [HR.out], ?_, by rw [HR.out]; exact HVQ.out, by omega, ?_⟩
    · simp only [size_of_setCell]
      have hs := HS5.out
      refine EntF.mono (lo := W2.heap.size + 1 + 1) (hi := W8.heap.size) ?_ (by omega) (by omega)
      with_reducible (repeat (first | exact EW.out | refine EntF.far ?_ ?_ _))
      all_goals (refine Or.inl ?_; show w.heap.size + 1 + 1 < W2.heap.size + 1 + 1; omega)
    · with_reducible (repeat (first | exact BB.out | refine Below.setCell ?_ ?_ _))
      all_goals (show w.heap.size ≤ w.heap.size + 1 + 1; omega)

end Go.Proofs.Ytfpmbkfikfdmkaa
