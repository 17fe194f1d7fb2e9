/- The walk of spec.WidenEntry. No condition but lengths. -/
import Derived.Test.YtbnlgmcjklfcoaaSpecOne
import Derived.Test.YtbnlgmcjklfcoaaImplWiden
import Derived.Test.YtbnlgmcjklfcoaaSpecBoxOf
import Derived.Test.YtbnlgmcjklfcoaaMarkEntry
namespace Go.Proofs.Ytbnlgmcjklfcoaa
open Go.RowKit

theorem EntF.mono {w : World} {lo hi lo' hi' n : Nat} {A : Option Addr} {qs : List EV} (h : EntF w lo hi A n qs) (h1 : lo' ≤ lo) (h2 : hi ≤ hi') : EntF w lo' hi' A n qs := by
  refine ⟨h.E, fun hn => ?_, fun q hq => ?_⟩
  · obtain ⟨g, e, h3, h4⟩ := h.A' hn
    exact ⟨g, e, by omega, by omega⟩
  · obtain ⟨g1, g2, a1, a2, a3, a4⟩ := h.Q q hq
    exact ⟨g1, g2, a1, a2, ⟨by omega, by omega⟩, ⟨by omega, by omega⟩⟩
theorem Ints.span {w : World} {lo n g : Nat} {xs : List Int} (h : Ints w lo (some ⟨g, 0, none⟩) n xs) (h0 : 0 < n) : lo ≤ g ∧ g < w.heap.size := by
  obtain ⟨b, o, e, h1, h2⟩ := h.form h0
  injection e with e; injection e with e
  omega
/-- The box of one entry is written anew. -/
theorem EntF.wid {w : World} {lo hi g o n i g8 g9 dd c8 c9 : Nat} {qs : List EV} {q : EV} {y1 y2 : List Int} (h : EntF w lo hi (some ⟨g, o, none⟩) n qs) (hi' : qs[i]? = some q) (hne : ∀ p ∈ qs, blk p.A1 ≠ g ∧ blk p.A2 ≠ g) (b8 : lo ≤ g8 ∧ g8 < hi) (b9 : lo ≤ g9 ∧ g9 < hi) (n8 : g8 ≠ g) (n9 : g9 ≠ g) (I8 : Ints w 0 (some ⟨g8, 0, none⟩) dd y1) (I9 : Ints w 0 (some ⟨g9, 0, none⟩) dd y2) (hm : dd ≤ maxLen) :
    EntF ((w.setCell ⟨g, o + i * 4, none⟩ (.slice (some ⟨g8, 0, none⟩) dd c8)).setCell ⟨g, o + i * 4 + 1, none⟩ (.slice (some ⟨g9, 0, none⟩) dd c9)) lo hi (some ⟨g, o, none⟩) n (qs.set i ⟨some ⟨g8, 0, none⟩, dd, c8, some ⟨g9, 0, none⟩, dd, c9, q.ref, q.nsn, y1, y2⟩) := by
  have hin : i < qs.length := (List.getElem?_eq_some_iff.1 hi').1
  have hl := h.E.1
  obtain ⟨hl1, hr, hp⟩ := h.E
  obtain ⟨b, o', e, h2, h3⟩ := hr (by omega)
  injection e with e; injection e with e1 e2; subst e1 e2
  have mem : ∀ p ∈ qs.set i ⟨some ⟨g8, 0, none⟩, dd, c8, some ⟨g9, 0, none⟩, dd, c9, q.ref, q.nsn, y1, y2⟩, p ∈ qs ∨ p = ⟨some ⟨g8, 0, none⟩, dd, c8, some ⟨g9, 0, none⟩, dd, c9, q.ref, q.nsn, y1, y2⟩ := fun p hp => List.mem_or_eq_of_mem_set hp
  have far : ∀ (x m : Nat) (zs : List Int), x ≠ g → Ints w 0 (some ⟨x, 0, none⟩) m zs → Ints ((w.setCell ⟨g, o + i * 4, none⟩ (.slice (some ⟨g8, 0, none⟩) dd c8)).setCell ⟨g, o + i * 4 + 1, none⟩ (.slice (some ⟨g9, 0, none⟩) dd c9)) 0 (some ⟨x, 0, none⟩) m zs := fun x m zs hx hz =>
    (hz.block (Nat.le_of_eq (size_of_setCell _ _ _).symm) (heap_setCell_other w ⟨g, o + i * 4, none⟩ x _ hx)).block (Nat.le_of_eq (size_of_setCell _ _ _).symm) (heap_setCell_other _ ⟨g, o + i * 4 + 1, none⟩ x _ hx)
  refine ⟨⟨by rw [List.length_set]; exact hl1, fun _ => ⟨g, o, rfl, by rw [size_of_setCell, size_of_setCell]; exact h2, fun k p hk => ?_⟩, fun p hm' => ?_⟩, h.A', fun p hm' => ?_⟩
  · rw [List.getElem?_set] at hk
    by_cases hki : i = k
    · subst hki
      rw [if_pos rfl, if_pos hin] at hk
      injection hk with hk
      subst hk
      obtain ⟨c0, c1, c2, c3⟩ := h3 i q hi'
      refine ⟨?_, ?_, ?_, ?_⟩
      · rw [World.cell?_setCell_other _ _ _ _ (fun e => by injection e with _ e; omega)]
        exact World.cell?_setCell_same _ _ _ c0
      · refine World.cell?_setCell_same _ _ _ (u := .slice q.A2 q.n2 q.c2) ?_
        rw [World.cell?_setCell_other _ _ _ _ (fun e => by injection e with _ e; omega)]; exact c1
      · rw [World.cell?_setCell_other _ _ _ _ (fun e => by injection e with _ e; omega), World.cell?_setCell_other _ _ _ _ (fun e => by injection e with _ e; omega)]; exact c2
      · rw [World.cell?_setCell_other _ _ _ _ (fun e => by injection e with _ e; omega), World.cell?_setCell_other _ _ _ _ (fun e => by injection e with _ e; omega)]; exact c3
    · rw [if_neg hki] at hk
      obtain ⟨c0, c1, c2, c3⟩ := h3 k p hk
      refine ⟨?_, ?_, ?_, ?_⟩ <;> rw [World.cell?_setCell_other _ _ _ _ (fun e => by injection e with _ e; omega), World.cell?_setCell_other _ _ _ _ (fun e => by injection e with _ e; omega)]
      · exact c0
      · exact c1
      · exact c2
      · exact c3
  · rcases mem p hm' with hq | rfl
    · obtain ⟨g1, g2, a1, a2, _, _⟩ := h.Q p hq
      obtain ⟨i1, i2, m1, m2⟩ := hp p hq
      have hn := hne p hq
      rw [a1] at i1; rw [a2] at i2
      rw [a1, a2] at hn
      exact ⟨by rw [a1]; exact far g1 _ _ hn.1 i1, by rw [a2]; exact far g2 _ _ hn.2 i2, m1, m2⟩
    · exact ⟨far g8 _ _ n8 I8, far g9 _ _ n9 I9, hm, hm⟩
  · rcases mem p hm' with hq | rfl
    · exact h.Q p hq
    · exact ⟨g8, g9, rfl, rfl, b8, b9⟩

set_option maxRecDepth 100000 in
set_option maxHeartbeats 6400000 in
theorem specWidenEntry_any (lv ns rt d r : Int) (n c n1 c1 n2 c2 lo1 lo2 : Nat) (A A1 A2 : Option Addr) (ps : List EV) (x1 x2 : List Int) (w : World) (hp : Entries w A n ps) (h1 : Ints w lo1 A1 n1 x1) (h2 : Ints w lo2 A2 n2 x2) (hn : n ≤ maxLen) (m1 : n1 ≤ maxLen) (m2 : n2 ≤ maxLen) :
    Calls Try.prog 61 #[.agg #[.int .i64 lv, .int .i64 ns, .int .i64 rt, .slice A n c], .int .i64 d, .int .i64 r, .agg #[.slice A1 n1 c1, .slice A2 n2 c2]] w (ReadPost3 (widenR lv ns rt (ps.map EV.val) d r x1 x2) w) := by
  have HP := Lib.hid hp
  have I_1 := Lib.hid h1
  have I_2 := Lib.hid h2
  have HL : Hid ((ps.map EV.val).length = n) := by show List.length _ = n; rw [List.length_map]; exact hp.1
  clear hp h1 h2
  have B := Lib.hid (below_alloc w (.cells #[.int .i64 lv, .int .i64 ns, .int .i64 rt, .slice A n c] 58))
  replace B := Lib.hid (B.out.alloc B.out.size (.cells #[.slice A1 n1 c1, .slice A2 n2 c2] 36))
  replace B := Lib.hid (B.out.alloc B.out.size (.cells #[.int .i64 0, .int .i64 0, .int .i64 0, .int .i64 0, .slice none 0 0] 74))
  have L_n := Lib.hid (((Lies.new w 58 #[.int .i64 lv, .int .i64 ns, .int .i64 rt, .slice A n c]).alloc (.cells #[.slice A1 n1 c1, .slice A2 n2 c2] 36)).alloc (.cells #[.int .i64 0, .int .i64 0, .int .i64 0, .int .i64 0, .slice none 0 0] 74))
  have L_e := Lib.hid ((Lies.new (w.alloc (.cells #[.int .i64 lv, .int .i64 ns, .int .i64 rt, .slice A n c] 58)) 36 #[.slice A1 n1 c1, .slice A2 n2 c2]).alloc (.cells #[.int .i64 0, .int .i64 0, .int .i64 0, .int .i64 0, .slice none 0 0] 74))
  have L_r := Lib.hid (Lies.new ((w.alloc (.cells #[.int .i64 lv, .int .i64 ns, .int .i64 rt, .slice A n c] 58)).alloc (.cells #[.slice A1 n1 c1, .slice A2 n2 c2] 36)) 74 #[.int .i64 0, .int .i64 0, .int .i64 0, .int .i64 0, .slice none 0 0])
  simp only [World.size_alloc] at L_e L_r
  go_enter Try.func61, Try.ntmps61
  go_wp2_with fail
  refine (specNodeFault_any _ _ _ _ _ _ _ ps _ (HP.out.kept B.out) hn).mono ?_
  rintro e W1 ⟨rfl, b1⟩
  replace L_n := Lib.hid (L_n.out.kept b1 L_n.out.inside)
  replace L_e := Lib.hid (L_e.out.kept b1 L_e.out.inside)
  replace L_r := Lib.hid (L_r.out.kept b1 L_r.out.inside)
  replace B := Lib.hid (B.out.trans (b1.mono B.out.size))
  clear b1
  by_cases hz : nodeF lv ns rt (ps.map EV.val) d = 0
  rotate_left
  · have hz1 : (nodeF lv ns rt (ps.map EV.val) d != 0) = true := by simpa using hz
    have HR : Hid (widenR lv ns rt (ps.map EV.val) d r x1 x2 = (nodeF lv ns rt (ps.map EV.val) d, 0, 0, 0, [])) := widenR_no (by unfold widenC; rw [if_pos hz]) hz
    clear hz
    have z0 : W1.cell? ⟨w.heap.size + 1 + 1, 0, none⟩ = some (.int .i64 0) := L_r.out.cell 0
    have y0 : W1.frozen? ⟨w.heap.size + 1 + 1, 0, none⟩ = false := L_r.out.thawed 0
    have z1 : W1.cell? ⟨w.heap.size + 1 + 1, 1, none⟩ = some (.int .i64 0) := L_r.out.cell 1
    have y1 : W1.frozen? ⟨w.heap.size + 1 + 1, 1, none⟩ = false := L_r.out.thawed 1
    have z2 : W1.cell? ⟨w.heap.size + 1 + 1, 2, none⟩ = some (.int .i64 0) := L_r.out.cell 2
    have y2 : W1.frozen? ⟨w.heap.size + 1 + 1, 2, none⟩ = false := L_r.out.thawed 2
    have z3 : W1.cell? ⟨w.heap.size + 1 + 1, 3, none⟩ = some (.int .i64 0) := L_r.out.cell 3
    have y3 : W1.frozen? ⟨w.heap.size + 1 + 1, 3, none⟩ = false := L_r.out.thawed 3
    have z4 : W1.cell? ⟨w.heap.size + 1 + 1, 4, none⟩ = some (.slice none 0 0) := L_r.out.cell 4
    have y4 : W1.frozen? ⟨w.heap.size + 1 + 1, 4, none⟩ = false := L_r.out.thawed 4
    go_wp2
    refine bodyPost_ret (v := .agg #[.int .i64 (nodeF lv ns rt (ps.map EV.val) d), .int .i64 0, .int .i64 0, .int .i64 0, .slice none 0 0]) (by simp [results, Try.results61, go_sem, z0, z1, z2, z3, z4]) rfl ?_
    refine ⟨none, 0, 0, [], by rw [HR.out], EntF.nil _ _ _ _, by rw [HR.out]; rfl, by decide, ?_⟩
    with_reducible (repeat (first | exact B.out | refine Below.setCell ?_ ?_ _))
    all_goals (show w.heap.size ≤ w.heap.size + 1 + 1; omega)
  have hz1 : (nodeF lv ns rt (ps.map EV.val) d != 0) = false := by simp [hz]
  have HZ := Lib.hid hz
  obtain ⟨hok, hn5, hent, _, htw⟩ := nodeF_zero hz
  have HE := Lib.hid (lens_of hent)
  have hd2 : 2 ≤ d := hok.1.1
  have hd3 : d ≤ 3 := hok.1.2
  have hn5' : n ≤ 5 := by rw [HL.out] at hn5; exact hn5
  clear hz hok hent hn5 htw
  have q0 : W1.cell? ⟨w.heap.size + 1, 0, none⟩ = some (.slice A1 n1 c1) := L_e.out.cell 0
  have q1 : W1.cell? ⟨w.heap.size + 1, 1, none⟩ = some (.slice A2 n2 c2) := L_e.out.cell 1
  go_wp2_with fail
  refine (specRectFault_any _ _ _ _ _ _ _ _ _ x1 x2 _ (I_1.out.kept B.out) (I_2.out.kept B.out) m1 m2).mono ?_
  rintro e W2 ⟨rfl, b2⟩
  replace L_n := Lib.hid (L_n.out.kept b2 L_n.out.inside)
  replace L_e := Lib.hid (L_e.out.kept b2 L_e.out.inside)
  replace L_r := Lib.hid (L_r.out.kept b2 L_r.out.inside)
  replace B := Lib.hid (B.out.trans (b2.mono B.out.size))
  clear b2
  clear q0 q1
  by_cases hg : rf x1 x2 d = 0
  rotate_left
  · have hg1 : (rf x1 x2 d != 0) = true := by simpa using hg
    have HR : Hid (widenR lv ns rt (ps.map EV.val) d r x1 x2 = (rf x1 x2 d, 0, 0, 0, [])) := widenR_no (by unfold widenC; rw [if_neg (by simp [HZ.out]), if_pos hg]) hg
    clear hg
    have z0 : W2.cell? ⟨w.heap.size + 1 + 1, 0, none⟩ = some (.int .i64 0) := L_r.out.cell 0
    have y0 : W2.frozen? ⟨w.heap.size + 1 + 1, 0, none⟩ = false := L_r.out.thawed 0
    have z1 : W2.cell? ⟨w.heap.size + 1 + 1, 1, none⟩ = some (.int .i64 0) := L_r.out.cell 1
    have y1 : W2.frozen? ⟨w.heap.size + 1 + 1, 1, none⟩ = false := L_r.out.thawed 1
    have z2 : W2.cell? ⟨w.heap.size + 1 + 1, 2, none⟩ = some (.int .i64 0) := L_r.out.cell 2
    have y2 : W2.frozen? ⟨w.heap.size + 1 + 1, 2, none⟩ = false := L_r.out.thawed 2
    have z3 : W2.cell? ⟨w.heap.size + 1 + 1, 3, none⟩ = some (.int .i64 0) := L_r.out.cell 3
    have y3 : W2.frozen? ⟨w.heap.size + 1 + 1, 3, none⟩ = false := L_r.out.thawed 3
    have z4 : W2.cell? ⟨w.heap.size + 1 + 1, 4, none⟩ = some (.slice none 0 0) := L_r.out.cell 4
    have y4 : W2.frozen? ⟨w.heap.size + 1 + 1, 4, none⟩ = false := L_r.out.thawed 4
    go_wp2
    refine bodyPost_ret (v := .agg #[.int .i64 (rf x1 x2 d), .int .i64 0, .int .i64 0, .int .i64 0, .slice none 0 0]) (by simp [results, Try.results61, go_sem, z0, z1, z2, z3, z4]) rfl ?_
    refine ⟨none, 0, 0, [], by rw [HR.out], EntF.nil _ _ _ _, by rw [HR.out]; rfl, by decide, ?_⟩
    with_reducible (repeat (first | exact B.out | refine Below.setCell ?_ ?_ _))
    all_goals (show w.heap.size ≤ w.heap.size + 1 + 1; omega)
  have hg1 : (rf x1 x2 d != 0) = false := by simp [hg]
  have HG := Lib.hid hg
  have hle := rf_len hg
  have hx1 : x1.length = d.toNat := by omega
  have hx2 : x2.length = d.toNat := by omega
  have hk1 := I_1.out.1
  have hk2 := I_2.out.1
  obtain ⟨dd, hdd⟩ : ∃ dd : Nat, d.toNat = dd := ⟨_, rfl⟩
  obtain rfl : n1 = dd := by omega
  obtain rfl : n2 = n1 := by omega
  have hdd2 : 0 < n2 := by omega
  have hdd3 : n2 ≤ 3 := by omega
  have HX : Hid (x1.length = n2 ∧ x2.length = n2) := ⟨hk1, hk2⟩
  replace HE : Hid (LensE n2 (ps.map EV.val)) := by have := HE.out; rwa [hdd] at this
  clear hg hle hx1 hx2 hk1 hk2 hdd
  have k0 : W2.cell? ⟨w.heap.size, 0, none⟩ = some (.int .i64 lv) := L_n.out.cell 0
  have k1 : W2.cell? ⟨w.heap.size, 1, none⟩ = some (.int .i64 ns) := L_n.out.cell 1
  have k2 : W2.cell? ⟨w.heap.size, 2, none⟩ = some (.int .i64 rt) := L_n.out.cell 2
  have k3 : W2.cell? ⟨w.heap.size, 3, none⟩ = some (.slice A n c) := L_n.out.cell 3
  go_wp2_with fail
  refine (l3Find_any _ _ _ _ ps _ (HP.out.kept B.out) hn).mono ?_
  rintro e w' ⟨rfl, rfl⟩
  by_cases hf : findE r (ps.map EV.val) < 0
  · have HR : Hid (widenR lv ns rt (ps.map EV.val) d r x1 x2 = (4, 0, 0, 0, [])) := widenR_no (by unfold widenC; rw [if_neg (by simp [HZ.out]), if_neg (by simp [HG.out]), if_pos hf]) (by decide)
    have z0 : W2.cell? ⟨w.heap.size + 1 + 1, 0, none⟩ = some (.int .i64 0) := L_r.out.cell 0
    have y0 : W2.frozen? ⟨w.heap.size + 1 + 1, 0, none⟩ = false := L_r.out.thawed 0
    have z1 : W2.cell? ⟨w.heap.size + 1 + 1, 1, none⟩ = some (.int .i64 0) := L_r.out.cell 1
    have y1 : W2.frozen? ⟨w.heap.size + 1 + 1, 1, none⟩ = false := L_r.out.thawed 1
    have z2 : W2.cell? ⟨w.heap.size + 1 + 1, 2, none⟩ = some (.int .i64 0) := L_r.out.cell 2
    have y2 : W2.frozen? ⟨w.heap.size + 1 + 1, 2, none⟩ = false := L_r.out.thawed 2
    have z3 : W2.cell? ⟨w.heap.size + 1 + 1, 3, none⟩ = some (.int .i64 0) := L_r.out.cell 3
    have y3 : W2.frozen? ⟨w.heap.size + 1 + 1, 3, none⟩ = false := L_r.out.thawed 3
    have z4 : W2.cell? ⟨w.heap.size + 1 + 1, 4, none⟩ = some (.slice none 0 0) := L_r.out.cell 4
    have y4 : W2.frozen? ⟨w.heap.size + 1 + 1, 4, none⟩ = false := L_r.out.thawed 4
    go_wp2
    refine bodyPost_ret (v := .agg #[.int .i64 4, .int .i64 0, .int .i64 0, .int .i64 0, .slice none 0 0]) (by simp [results, Try.results61, go_sem, z0, z1, z2, z3, z4]) rfl ?_
    refine ⟨none, 0, 0, [], by rw [HR.out], EntF.nil _ _ _ _, by rw [HR.out]; rfl, by decide, ?_⟩
    with_reducible (repeat (first | exact B.out | refine Below.setCell ?_ ?_ _))
    all_goals (show w.heap.size ≤ w.heap.size + 1 + 1; omega)
  obtain ⟨i, hi⟩ : ∃ i : Nat, findE r (ps.map EV.val) = (i : Int) := ⟨(findE r (ps.map EV.val)).toNat, by omega⟩
  obtain ⟨v, hv, _⟩ := findE_at hi
  have HR : Hid (widenR lv ns rt (ps.map EV.val) d r x1 x2 = (0, lv, ns, rt, (ps.map EV.val).set i (widE x1 x2 v))) := widenR_yes (by unfold widenC; rw [if_neg (by simp [HZ.out]), if_neg (by simp [HG.out]), if_neg hf]) hi hv
  have hin : i < n := by have := (List.getElem?_eq_some_iff.1 hv).1; rw [HL.out] at this; exact this
  have HVV := Lib.hid hv
  rw [hi]
  have hnn : ¬ ((i : Int) < 0) := by omega
  have hin' : (i : Int) < (n : Int) := by omega
  clear hi hf hv
  go_wp2_with fail
  refine (l3Copy_any lv ns rt w.heap.size n c n2 A ps _ L_n.out.inside k0 k1 k2 k3 (HP.out.kept B.out) (by omega) (by omega) (by omega) HE.out).mono ?_
  rintro e W3 ⟨A3, c3, qs, rfl, hrow, vq, b3⟩
  have b3s := b3.size
  have hr2 := L_r.out.inside
  obtain ⟨A', c', e', hen⟩ := hrow.entries
  injection e' with e1 e2 e3
  subst e1 e3
  obtain ⟨gr, hA⟩ := ownsRow_form hrow.S (by omega)
  subst hA
  have hgr := ownsRow_block2 hrow.S gr rfl
  have EF : Hid (EntF W3 (W2.heap.size + 1 + 1) W3.heap.size (some ⟨gr, 0, none⟩) n qs) := by
    refine ⟨hen, fun _ => ⟨gr, rfl, hgr⟩, fun q hq => ?_⟩
    obtain ⟨g1, g2, a1, a2, a3, a4, a5, a6, _⟩ := hrow.R q hq
    exact ⟨g1, g2, a1, a2, ⟨a3, a5⟩, ⟨a4, a6⟩⟩
  have NE : Hid (∀ p ∈ qs, blk p.A1 ≠ gr ∧ blk p.A2 ≠ gr) := by
    intro q hq
    obtain ⟨g1, g2, a1, a2, _, _, _, _, a7, a8, _⟩ := hrow.R q hq
    rw [a1, a2]
    exact ⟨fun e => a7 (by rw [← e]; rfl), fun e => a8 (by rw [← e]; rfl)⟩
  have L_g : Hid (∃ cur, Lies W3 gr 77 cur) := by
    rcases hrow.S.2 with ⟨e1, _⟩ | ⟨g', cap', cur, e1, _, h3, _⟩
    · simp at e1
    · injection e1 with e1; injection e1 with e1; injection e1 with e1
      subst e1
      exact ⟨cur, h3⟩
  have VQ := Lib.hid vq
  obtain ⟨oo, hoo⟩ : ∃ oo : Nat, 0 = oo := ⟨_, rfl⟩
  rw [hoo] at EF
  replace L_e := Lib.hid ((L_e.out.kept b3 L_e.out.inside).alloc (.cells #[.int .i64 lv, .int .i64 ns, .int .i64 rt, .slice (some ⟨gr, oo, none⟩) n c3] 58))
  replace L_r := Lib.hid ((L_r.out.kept b3 L_r.out.inside).alloc (.cells #[.int .i64 lv, .int .i64 ns, .int .i64 rt, .slice (some ⟨gr, oo, none⟩) n c3] 58))
  have L_o := Lib.hid (Lies.new W3 58 #[.int .i64 lv, .int .i64 ns, .int .i64 rt, .slice (some ⟨gr, oo, none⟩) n c3])
  obtain ⟨cur, hcur⟩ := L_g.out
  replace L_g := Lib.hid (hcur.alloc (.cells #[.int .i64 lv, .int .i64 ns, .int .i64 rt, .slice (some ⟨gr, oo, none⟩) n c3] 58))
  replace EF := Lib.hid (EF.out.alloc (.cells #[.int .i64 lv, .int .i64 ns, .int .i64 rt, .slice (some ⟨gr, oo, none⟩) n c3] 58))
  replace B := Lib.hid ((B.out.trans (b3.mono B.out.size)).alloc (by have := B.out.size; omega) (.cells #[.int .i64 lv, .int .i64 ns, .int .i64 rt, .slice (some ⟨gr, oo, none⟩) n c3] 58))
  clear hrow vq b3 hen hcur k0 k1 k2 k3 L_n
  rw [show (some (⟨gr, 0, none⟩ : Addr)) = some ⟨gr, oo, none⟩ by rw [hoo]]
  clear hoo
  go_wp2
  generalize hW : (W3.alloc (.cells #[.int .i64 lv, .int .i64 ns, .int .i64 rt, .slice (some ⟨gr, oo, none⟩) n c3] 58)) = W0 at *
  have hW0 : W0.heap.size = W3.heap.size + 1 := by rw [← hW]; simp only [World.size_alloc]
  clear hW
  obtain ⟨b', o', qA1, qn1, qc1, qA2, qn2, qc2, qref, qnsn, qx1, qx2, hA, hb', d0, d1, d2, d3, hx, hI1, hI2, hm1, hm2⟩ := EF.out.E.cellAt hin
  injection hA with hA
  injection hA with hA1 hA2
  subst hA1 hA2
  have hvq : (qs.map EV.val)[i]? = some (qx1, qx2, qref, qnsn) := by rw [List.getElem?_map, hx.out]; rfl
  rw [VQ.out, HVV.out] at hvq
  injection hvq with hvq
  have hlen := HE.out i v HVV.out
  rw [hvq] at hlen
  obtain rfl : qn1 = n2 := hI1.out.1.symm.trans hlen.1
  obtain rfl : qn2 = qn1 := hI2.out.1.symm.trans hlen.2
  have k3 : W0.cell? ⟨W3.heap.size, 3, none⟩ = some (.slice (some ⟨gr, oo, none⟩) n c3) := L_o.out.cell 3
  have k_0 : W0.cell? ⟨W3.heap.size, 3, none⟩ = some (.slice (some ⟨gr, oo, none⟩) n c3) := k3
  have LVQ := Lib.hid hvq
  clear hlen hvq d2 d3
  have TT : Hid (TwoAt gr (oo + i * 4) (w.heap.size + 1) 0 (.slice qA1 qn2 qc1) (.slice qA2 qn2 qc2) (.slice A1 qn2 c1) (.slice A2 qn2 c2) W0) := ⟨d0, d1, L_e.out.cell 0, L_e.out.cell 1⟩
  have J1 := Lib.hid (I_1.out.kept B.out)
  have J2 := Lib.hid (I_2.out.kept B.out)
  have UN := Lib.hid (l1UnionFF_any gr (oo + i * 4) (w.heap.size + 1) 0 qn2 qc1 qc2 c1 c2 0 0 lo1 lo2 qA1 qA2 A1 A2 qx1 qx2 x1 x2 W0.drew hb' L_e.out.inside TT.out hI1.out hI2.out J1.out J2.out hdd3)
  go_region_held3 (fun w' => w'.cell? ⟨W3.heap.size, 3, none⟩ = some (.slice (some ⟨gr, oo, none⟩) n c3))
    (first | (simp [go_sem, k_0]; done) | with_reducible exact k_1 | (simp [go_sem, k_1, hne3]; done))
    (first
      | (go_at_call 109; refine UN.out.mono ?_
         rintro e W8 ⟨A8, c8, A9, c9, rfl, j8, j9, hfo, b8d⟩
         have b8 := below_drawn b8d
         obtain ⟨g8, g9, e8, e9⟩ := hfo hdd2
         subst e8 e9
         obtain ⟨l8, u8⟩ := j8.span hdd2
         obtain ⟨l9, u9⟩ := j9.span hdd2
         simp only [size_of_drew] at l8 l9
         have b8s := b8.size
         have L_o8 := Lib.hid (L_o.out.kept b8 L_o.out.inside)
         have L_r8 := Lib.hid (L_r.out.kept b8 L_r.out.inside)
         have L_g8 := Lib.hid (L_g.out.kept b8 L_g.out.inside)
         have EF8 : Hid (EntF W8 (W2.heap.size + 1 + 1) W8.heap.size (some ⟨gr, oo, none⟩) n qs) := by
           refine ⟨EF.out.E.kept b8, fun h => ?_, fun q hq => ?_⟩
           · obtain ⟨g, h1, h2, h3⟩ := EF.out.A' h
             exact ⟨g, h1, h2, by omega⟩
           · obtain ⟨g1, g2, a1, a2, a3, a4⟩ := EF.out.Q q hq
             exact ⟨g1, g2, a1, a2, ⟨a3.1, by omega⟩, ⟨a4.1, by omega⟩⟩
         have EW := Lib.hid (EF8.out.wid (c8 := c8) (c9 := c9) hx.out NE.out ⟨by omega, u8⟩ ⟨by omega, u9⟩ (by omega) (by omega) (j8.lower (Nat.zero_le _)) (j9.lower (Nat.zero_le _)) hm1)
         have B8 := Lib.hid (B.out.trans (b8.mono B.out.size))
         have k_1 : W8.cell? ⟨W3.heap.size, 3, none⟩ = some (.slice (some ⟨gr, oo, none⟩) n c3) := L_o8.out.cell 3
         have hne3 : ¬ W3.heap.size = gr := by omega
         have u0 : W8.cell? ⟨gr, oo + i * 4, none⟩ = some (.slice qA1 qn2 qc1) := (b8.cell (p := ⟨gr, oo + i * 4, none⟩) hb').trans d0
         have u1 : W8.cell? ⟨gr, oo + i * 4 + 1, none⟩ = some (.slice qA2 qn2 qc2) := (b8.cell (p := ⟨gr, oo + i * 4 + 1, none⟩) hb').trans d1
         have fz0 : W8.frozen? ⟨gr, oo + i * 4, none⟩ = false := L_g8.out.thawed _
         have fz1 : W8.frozen? ⟨gr, oo + i * 4 + 1, none⟩ = false := L_g8.out.thawed _
         clear b8d j8 j9))
  all_goals
    have HVQ : Hid ((qs.set i ⟨some ⟨g8, 0, none⟩, qn2, c8, some ⟨g9, 0, none⟩, qn2, c9, qref, qnsn, mins qx1 x1, maxs qx2 x2⟩).map EV.val = (ps.map EV.val).set i (widE x1 x2 v)) := by
      show List.map _ _ = _
      rw [List.map_set, VQ.out, LVQ.out]; rfl
    have LR : Hid (Lies ((W8.setCell ⟨gr, oo + i * 4, none⟩ (.slice (some ⟨g8, 0, none⟩) qn2 c8)).setCell ⟨gr, oo + i * 4 + 1, none⟩ (.slice (some ⟨g9, 0, none⟩) qn2 c9)) (w.heap.size + 1 + 1) 74 #[.int .i64 0, .int .i64 0, .int .i64 0, .int .i64 0, .slice none 0 0]) := (L_r8.out.far (by show w.heap.size + 1 + 1 ≠ gr; omega) _).far (by show w.heap.size + 1 + 1 ≠ gr; omega) _
    have LO : Hid (Lies ((W8.setCell ⟨gr, oo + i * 4, none⟩ (.slice (some ⟨g8, 0, none⟩) qn2 c8)).setCell ⟨gr, oo + i * 4 + 1, none⟩ (.slice (some ⟨g9, 0, none⟩) qn2 c9)) W3.heap.size 58 #[.int .i64 lv, .int .i64 ns, .int .i64 rt, .slice (some ⟨gr, oo, none⟩) n c3]) := (L_o8.out.far (by show W3.heap.size ≠ gr; omega) _).far (by show W3.heap.size ≠ gr; omega) _
    have BB : Hid (Below w.heap.size w ((W8.setCell ⟨gr, oo + i * 4, none⟩ (.slice (some ⟨g8, 0, none⟩) qn2 c8)).setCell ⟨gr, oo + i * 4 + 1, none⟩ (.slice (some ⟨g9, 0, none⟩) qn2 c9))) := (B8.out.setCell (by show w.heap.size ≤ gr; omega) _).setCell (by show w.heap.size ≤ gr; omega) _
    have hs5 : ((W8.setCell ⟨gr, oo + i * 4, none⟩ (.slice (some ⟨g8, 0, none⟩) qn2 c8)).setCell ⟨gr, oo + i * 4 + 1, none⟩ (.slice (some ⟨g9, 0, none⟩) qn2 c9)).heap.size = W8.heap.size := by rw [size_of_setCell, size_of_setCell]
    have HS5 := Lib.hid hs5
    clear hs5 L_o L_r L_g L_e EF EF8 L_o8 L_r8 L_g8 B B8 u0 u1 fz0 fz1 k_0 k_1 k3 d0 d1
    generalize hW5 : ((W8.setCell ⟨gr, oo + i * 4, none⟩ (.slice (some ⟨g8, 0, none⟩) qn2 c8)).setCell ⟨gr, oo + i * 4 + 1, none⟩ (.slice (some ⟨g9, 0, none⟩) qn2 c9)) = W5 at *
    clear hW5
    have o0 : W5.cell? ⟨W3.heap.size, 0, none⟩ = some (.int .i64 lv) := LO.out.cell 0
    have o1 : W5.cell? ⟨W3.heap.size, 1, none⟩ = some (.int .i64 ns) := LO.out.cell 1
    have o2 : W5.cell? ⟨W3.heap.size, 2, none⟩ = some (.int .i64 rt) := LO.out.cell 2
    have o3 : W5.cell? ⟨W3.heap.size, 3, none⟩ = some (.slice (some ⟨gr, oo, none⟩) n c3) := LO.out.cell 3
    have z0 : W5.cell? ⟨w.heap.size + 1 + 1, 0, none⟩ = some (.int .i64 0) := LR.out.cell 0
    have y0 : W5.frozen? ⟨w.heap.size + 1 + 1, 0, none⟩ = false := LR.out.thawed 0
    have z1 : W5.cell? ⟨w.heap.size + 1 + 1, 1, none⟩ = some (.int .i64 0) := LR.out.cell 1
    have y1 : W5.frozen? ⟨w.heap.size + 1 + 1, 1, none⟩ = false := LR.out.thawed 1
    have z2 : W5.cell? ⟨w.heap.size + 1 + 1, 2, none⟩ = some (.int .i64 0) := LR.out.cell 2
    have y2 : W5.frozen? ⟨w.heap.size + 1 + 1, 2, none⟩ = false := LR.out.thawed 2
    have z3 : W5.cell? ⟨w.heap.size + 1 + 1, 3, none⟩ = some (.int .i64 0) := LR.out.cell 3
    have y3 : W5.frozen? ⟨w.heap.size + 1 + 1, 3, none⟩ = false := LR.out.thawed 3
    have z4 : W5.cell? ⟨w.heap.size + 1 + 1, 4, none⟩ = some (.slice none 0 0) := LR.out.cell 4
    have y4 : W5.frozen? ⟨w.heap.size + 1 + 1, 4, none⟩ = false := LR.out.thawed 4
    go_wp2
    refine bodyPost_ret (v := .agg #[.int .i64 0, .int .i64 lv, .int .i64 ns, .int .i64 rt, .slice (some ⟨gr, oo, none⟩) n c3]) (by simp [results, Try.results61, go_sem, z0, z1, z2, z3, z4]) rfl ?_
    refine ⟨some ⟨gr, oo, none⟩, n, c3, _, by rw [HR.out], ?_, by rw [HR.out]; exact HVQ.out, by omega, ?_⟩
    · simp only [size_of_setCell]
      have hs := HS5.out
      refine EntF.mono (lo := W2.heap.size + 1 + 1) (hi := W8.heap.size) ?_ (by omega) (by omega)
      with_reducible (repeat (first | exact EW.out | refine EntF.far ?_ ?_ _))
      all_goals (refine Or.inl ?_; show w.heap.size + 1 + 1 < W2.heap.size + 1 + 1; omega)
    · with_reducible (repeat (first | exact BB.out | refine Below.setCell ?_ ?_ _))
      all_goals (show w.heap.size ≤ w.heap.size + 1 + 1; omega)

end Go.Proofs.Ytbnlgmcjklfcoaa

/- Entries of the call's own, and those of an answer, through draws and new blocks. -/
namespace Go.Proofs.Ytbnlgmcjklfcoaa
open Go.RowKit

theorem EntriesOwn.drew' {w : World} {g n : Nat} {qs : List EV} (h : EntriesOwn w g n qs) : EntriesOwn w.drew g n qs := h
theorem EntriesOwn.alloc' {w : World} {g n : Nat} {qs : List EV} (h : EntriesOwn w g n qs) (o : Obj) : EntriesOwn (w.alloc o) g n qs := h.kept (below_alloc w o)
theorem EntriesOwn.call {w w' : World} {g n : Nat} {qs : List EV} (h : EntriesOwn w g n qs) (hb : Below w.heap.size w w') : EntriesOwn w' g n qs := h.kept hb
theorem EntriesRes.fresh {w : World} {base n c : Nat} {A : Option Addr} {qs : List EV} (h : EntriesRes w base A n c qs) : EntF w base w.heap.size A n qs := by
  refine ⟨h.entries, fun hn => ?_, fun q hq => ?_⟩
  · rcases h.S.2 with ⟨e1, e2⟩ | ⟨g, cap, cur, e1, h2, h3, _⟩
    · simp at e1; omega
    · have hb := ownsRow_block2 h.S
      injection e1 with e1 e2 e3
      subst e1
      exact ⟨g, rfl, hb g rfl⟩
  · obtain ⟨ga, gb, a1, a2, a3, a4, a5, a6, oa, ob⟩ := h.C q hq
    exact ⟨ga, gb, a1, a2, ⟨by omega, oa.inside⟩, ⟨by omega, ob.inside⟩⟩

end Go.Proofs.Ytbnlgmcjklfcoaa

/- FnExactWidenEntry: for every node, Ref and box impl.WidenEntry answers as the model does, leaves its arguments alone and answers in memory of its own. No condition. -/
namespace Go.Proofs.Ytbnlgmcjklfcoaa
open Go.RowKit

theorem markRect_turn (k : Int) (n m c c' g g' : Nat) (xs ys : List Int) (w : World) (hx : Own w g n xs) (hy : Own w g' m ys) (hne : g ≠ g') (h0 : 0 ≤ k) (h1 : k ≤ 2199023255552) (hn : n ≤ 1048576) (hm : m ≤ 1048576) :
    Calls Try.prog 63 #[.agg #[.slice (some ⟨g, 0, none⟩) n c, .slice (some ⟨g', 0, none⟩) m c'], .int .i64 k] w fun e w' => e = .returned (.int .i64 (k + n + m)) ∧ Turned (fun x => x = g ∨ x = g') w w' :=
  (markRect_wide k n m c c' g g' xs ys w hx hy hne h0 h1 hn hm).mono fun _ _ h => ⟨h.1, h.2.2.2⟩

theorem specWidenEntry_is (lv ns rt d rr : Int) (n c n1 c1 n2 c2 lo1 lo2 : Nat) (A A1 A2 : Option Addr) (ps : List EV) (vs : List EVal) (x1 x2 : List Int) (w : World) (hp : Entries w A n ps) (h1 : Ints w lo1 A1 n1 x1) (h2 : Ints w lo2 A2 n2 x2) (hn : n ≤ maxLen) (m1 : n1 ≤ maxLen) (m2 : n2 ≤ maxLen) (hv : ps.map EV.val = vs) {cd l1 s1 r1 : Int} {V : List EVal} (hR : widenR lv ns rt vs d rr x1 x2 = (cd, l1, s1, r1, V)) :
    Calls Try.prog 61 #[.agg #[.int .i64 lv, .int .i64 ns, .int .i64 rt, .slice A n c], .int .i64 d, .int .i64 rr, .agg #[.slice A1 n1 c1, .slice A2 n2 c2]] w fun e w' => ∃ A' n' c' qs, e = .returned (.agg #[.int .i64 cd, .int .i64 l1, .int .i64 s1, .int .i64 r1, .slice A' n' c']) ∧ EntF w' w.heap.size w'.heap.size A' n' qs ∧ qs.map EV.val = V ∧ n' ≤ 6 ∧ Below w.heap.size w w' := by
  subst hv
  refine (specWidenEntry_any lv ns rt d rr n c n1 c1 n2 c2 lo1 lo2 A A1 A2 ps x1 x2 w hp h1 h2 hn m1 m2).mono fun e w' h => ?_
  obtain ⟨A', n', c', qs, k1, k2, k3, k4, k5⟩ := h
  rw [hR] at k1 k3
  exact ⟨A', n', c', qs, k1, k2, k3, k4, k5⟩

theorem implWidenEntry_is (lv ns rt d rr : Int) (n c n1 c1 n2 c2 lo1 lo2 : Nat) (A A1 A2 : Option Addr) (ps : List EV) (vs : List EVal) (x1 x2 : List Int) (w : World) (hp : Entries w A n ps) (h1 : Ints w lo1 A1 n1 x1) (h2 : Ints w lo2 A2 n2 x2) (hn : n ≤ maxLen) (m1 : n1 ≤ maxLen) (m2 : n2 ≤ maxLen) (hv : ps.map EV.val = vs) {cd l1 s1 r1 : Int} {V : List EVal} (hR : widenR lv ns rt vs d rr x1 x2 = (cd, l1, s1, r1, V)) :
    Calls Try.prog 62 #[.agg #[.int .i64 lv, .int .i64 ns, .int .i64 rt, .slice A n c], .int .i64 d, .int .i64 rr, .agg #[.slice A1 n1 c1, .slice A2 n2 c2]] w fun e w' => ∃ A' n' c' qs, e = .returned (.agg #[.int .i64 cd, .int .i64 l1, .int .i64 s1, .int .i64 r1, .slice A' n' c']) ∧ EntriesRes w' w.heap.size A' n' c' qs ∧ qs.map EV.val = V ∧ n' ≤ 6 ∧ Below w.heap.size w w' := by
  subst hv
  refine (implWidenEntry_any lv ns rt d rr n c n1 c1 n2 c2 lo1 lo2 A A1 A2 ps x1 x2 w hp h1 h2 hn m1 m2).mono fun e w' h => ?_
  obtain ⟨A', n', c', qs, k1, k2, k3, k4, k5⟩ := h
  rw [hR] at k1 k3
  exact ⟨A', n', c', qs, k1, k2, k3, k4, k5⟩

set_option maxRecDepth 100000 in
set_option maxHeartbeats 6400000 in
theorem lawWidenEntry_walk (lv ns rt : Int) (n c : Nat) (A : Option Addr) (ps : List EV) (d rr : Int) (k1 e1 k2 e2 : Nat) (E1 E2 : Option Addr) (u1 u2 : List Int) (w : World) (hp : Entries w A n ps) (hn : n ≤ maxLen) (he1 : Ints w 0 E1 k1 u1) (he2 : Ints w 0 E2 k2 u2) (mk1 : k1 ≤ maxLen) (mk2 : k2 ≤ maxLen) :
    Calls Try.prog 12 #[.agg #[.int .i64 lv, .int .i64 ns, .int .i64 rt, .slice A n c], .int .i64 d, .int .i64 rr, .agg #[.slice E1 k1 e1, .slice E2 k2 e2]] w fun e w' => e = .returned (.bool true) ∧ Below w.heap.size w w' := by
  have HP := Lib.hid hp
  have I_1 := Lib.hid he1
  have I_2 := Lib.hid he2
  clear hp he1 he2
  obtain ⟨⟨cd, l1, s1, r1, V⟩, hR⟩ : ∃ R, widenR lv ns rt (ps.map EV.val) d rr u1 u2 = R := ⟨_, rfl⟩
  have HR := Lib.hid hR
  clear hR
  have B := Lib.hid (below_alloc w (.cells #[.int .i64 lv, .int .i64 ns, .int .i64 rt, .slice A n c] 54))
  replace B := Lib.hid (B.out.alloc B.out.size (.cells #[.slice E1 k1 e1, .slice E2 k2 e2] 31))
  have L_a := Lib.hid ((Lies.new w 54 #[.int .i64 lv, .int .i64 ns, .int .i64 rt, .slice A n c]).alloc (.cells #[.slice E1 k1 e1, .slice E2 k2 e2] 31))
  have L_e := Lib.hid (Lies.new (w.alloc (.cells #[.int .i64 lv, .int .i64 ns, .int .i64 rt, .slice A n c] 54)) 31 #[.slice E1 k1 e1, .slice E2 k2 e2])
  simp only [World.size_alloc] at L_e
  go_enter Try.func12, Try.ntmps12
  go_wp2_with fail
  refine (szNode_any _ _ _ 1048576 _ _ _ ps _ (HP.out.kept B.out) hn (by decide) (by decide)).mono ?_
  rintro e W1 ⟨r, rfl, hr, b1⟩
  have sz_W1 := b1.size
  try simp only [World.size_alloc] at sz_W1
  replace L_a := Lib.hid (L_a.out.kept b1 L_a.out.inside)
  replace L_e := Lib.hid (L_e.out.kept b1 L_e.out.inside)
  replace B := Lib.hid (B.out.trans (b1.mono B.out.size))
  clear b1
  rcases hr with rfl | ⟨r0, r2, hn1, hs⟩
  · go_wp2
    go_ret
    exact ⟨rfl, B.out⟩
  have HM := Lib.hid hs
  have HS := Lib.hid (hs.two (by decide))
  have hr0 : ¬ r < 0 := by omega
  clear hs
  have c_e0 : W1.cell? ⟨w.heap.size + 1, 0, none⟩ = some (.slice E1 k1 e1) := L_e.out.cell 0
  have c_e1 : W1.cell? ⟨w.heap.size + 1, 1, none⟩ = some (.slice E2 k2 e2) := L_e.out.cell 1
  by_cases hz : r < k1 + k2
  · go_wp2_with fail
    refine (szRect_no _ _ _ _ _ _ _ _ r0 r2 mk1 mk2 hz).mono ?_
    rintro e W2 ⟨rfl, b2⟩
    replace B := Lib.hid (B.out.trans (b2.mono B.out.size))
    clear b2
    go_wp2
    go_ret
    exact ⟨rfl, B.out⟩
  go_wp2_with fail
  refine (szRect_yes _ _ _ _ _ _ _ _ r2 mk1 mk2 (by omega)).mono ?_
  rintro e W2 ⟨rfl, b2⟩
  have sz_W2 := b2.size
  try simp only [World.size_alloc] at sz_W2
  replace L_a := Lib.hid (L_a.out.kept b2 L_a.out.inside)
  replace L_e := Lib.hid (L_e.out.kept b2 L_e.out.inside)
  replace B := Lib.hid (B.out.trans (b2.mono B.out.size))
  clear b2
  clear c_e0 c_e1
  have hr1 : ¬ r - k1 - k2 < 0 := by omega
  have kk1 : k1 ≤ 1048576 := by omega
  have kk2 : k2 ≤ 1048576 := by omega
  have szB := B.out.size
  go_upto_region 8 with fail
  go_cut [10] (fun s10 wx => ∃ (n_w0 : Nat) (A0 : Option Addr) (n0 c0 : Nat) (q0 : List EV), s10 = .pointer (some ⟨n_w0, 0, none⟩) ∧ Hid (Lies wx n_w0 74 #[.int .i64 cd, .int .i64 l1, .int .i64 s1, .int .i64 r1, .slice A0 n0 c0]) ∧ W2.heap.size ≤ n_w0 ∧ Hid (Entries wx A0 n0 q0) ∧ Hid (q0.map EV.val = V) ∧ n0 ≤ 6 ∧ Hid (Since W2 wx))
  case first =>
    have c_a0 : W2.cell? ⟨w.heap.size, 0, none⟩ = some (.int .i64 lv) := L_a.out.cell 0
    have c_a1 : W2.cell? ⟨w.heap.size, 1, none⟩ = some (.int .i64 ns) := L_a.out.cell 1
    have c_a2 : W2.cell? ⟨w.heap.size, 2, none⟩ = some (.int .i64 rt) := L_a.out.cell 2
    have c_a3 : W2.cell? ⟨w.heap.size, 3, none⟩ = some (.slice A n c) := L_a.out.cell 3
    have c_e0 : W2.cell? ⟨w.heap.size + 1, 0, none⟩ = some (.slice E1 k1 e1) := L_e.out.cell 0
    have c_e1 : W2.cell? ⟨w.heap.size + 1, 1, none⟩ = some (.slice E2 k2 e2) := L_e.out.cell 1
    have i_a := L_a.out.inside
    have l_a := Nat.le_of_lt i_a
    have i_e := L_e.out.inside
    have l_e := Nat.le_of_lt i_e
    have zd := size_of_drew
    go_region_held3 (fun w' => w'.cell? ⟨w.heap.size, 0, none⟩ = some (.int .i64 lv) ∧ w'.cell? ⟨w.heap.size, 1, none⟩ = some (.int .i64 ns) ∧ w'.cell? ⟨w.heap.size, 2, none⟩ = some (.int .i64 rt) ∧ w'.cell? ⟨w.heap.size, 3, none⟩ = some (.slice A n c) ∧ w'.cell? ⟨w.heap.size + 1, 0, none⟩ = some (.slice E1 k1 e1) ∧ w'.cell? ⟨w.heap.size + 1, 1, none⟩ = some (.slice E2 k2 e2))
      (exact ⟨Lies.cell (t := 54) (cs := #[.int .i64 lv, .int .i64 ns, .int .i64 rt, .slice A n c]) (by with_reducible (repeat (first | refine Lies.far ?_ ?_ _ | refine Lies.alloc ?_ _ | refine Lies.drew ?_ | refine Lies.call ?_ b5 | refine Lies.call ?_ b4 | refine Lies.call ?_ b3 | exact L_a.out | exact L_e.out)); all_goals (simp only [size_of_drew, size_of_setCell, World.size_alloc]; omega)) 0, Lies.cell (t := 54) (cs := #[.int .i64 lv, .int .i64 ns, .int .i64 rt, .slice A n c]) (by with_reducible (repeat (first | refine Lies.far ?_ ?_ _ | refine Lies.alloc ?_ _ | refine Lies.drew ?_ | refine Lies.call ?_ b5 | refine Lies.call ?_ b4 | refine Lies.call ?_ b3 | exact L_a.out | exact L_e.out)); all_goals (simp only [size_of_drew, size_of_setCell, World.size_alloc]; omega)) 1, Lies.cell (t := 54) (cs := #[.int .i64 lv, .int .i64 ns, .int .i64 rt, .slice A n c]) (by with_reducible (repeat (first | refine Lies.far ?_ ?_ _ | refine Lies.alloc ?_ _ | refine Lies.drew ?_ | refine Lies.call ?_ b5 | refine Lies.call ?_ b4 | refine Lies.call ?_ b3 | exact L_a.out | exact L_e.out)); all_goals (simp only [size_of_drew, size_of_setCell, World.size_alloc]; omega)) 2, Lies.cell (t := 54) (cs := #[.int .i64 lv, .int .i64 ns, .int .i64 rt, .slice A n c]) (by with_reducible (repeat (first | refine Lies.far ?_ ?_ _ | refine Lies.alloc ?_ _ | refine Lies.drew ?_ | refine Lies.call ?_ b5 | refine Lies.call ?_ b4 | refine Lies.call ?_ b3 | exact L_a.out | exact L_e.out)); all_goals (simp only [size_of_drew, size_of_setCell, World.size_alloc]; omega)) 3, Lies.cell (t := 31) (cs := #[.slice E1 k1 e1, .slice E2 k2 e2]) (by with_reducible (repeat (first | refine Lies.far ?_ ?_ _ | refine Lies.alloc ?_ _ | refine Lies.drew ?_ | refine Lies.call ?_ b5 | refine Lies.call ?_ b4 | refine Lies.call ?_ b3 | exact L_a.out | exact L_e.out)); all_goals (simp only [size_of_drew, size_of_setCell, World.size_alloc]; omega)) 0, Lies.cell (t := 31) (cs := #[.slice E1 k1 e1, .slice E2 k2 e2]) (by with_reducible (repeat (first | refine Lies.far ?_ ?_ _ | refine Lies.alloc ?_ _ | refine Lies.drew ?_ | refine Lies.call ?_ b5 | refine Lies.call ?_ b4 | refine Lies.call ?_ b3 | exact L_a.out | exact L_e.out)); all_goals (simp only [size_of_drew, size_of_setCell, World.size_alloc]; omega)) 1⟩)
      (first
        | (go_at_call 39; refine (toNode_any _ _ _ _ _ _ ps _ (HP.out.kept (by with_reducible (repeat (first | refine Since.below ?_ | refine Since.drew ?_ | refine Since.alloc ?_ _ | exact Since.of B.out)))) (by omega) HS.out).mono ?_
           rintro e W3 ⟨gs, qss, rfl, hgs, os, ls, vs, b3⟩
           have q_W3 := cells_kept b3
           have u_W3 := frozen_kept b3
           have z_W3 := sizes_kept b3
           try simp only [size_of_drew, World.size_alloc] at z_W3
           have le_W2_W3 : W2.heap.size ≤ W3.heap.size := by omega
           try (have lt_W2_W3 : W2.heap.size < W3.heap.size := by omega))
        | (go_at_call 22; refine (toRect_any _ _ _ _ _ _ _ _ u1 u2 _ (I_1.out.kept (by with_reducible (repeat (first | refine Since.below ?_ | refine Since.drew ?_ | refine Since.alloc ?_ _ | refine Since.call ?_ b3 | exact Since.of B.out)))) (I_2.out.kept (by with_reducible (repeat (first | refine Since.below ?_ | refine Since.drew ?_ | refine Since.alloc ?_ _ | refine Since.call ?_ b3 | exact Since.of B.out)))) (by omega) (by omega)).mono ?_
           rintro e W4 ⟨h1s, h2s, rfl, p1s, p2s, i1s, i2s, b4⟩
           have q_W4 := cells_kept b4
           have u_W4 := frozen_kept b4
           have z_W4 := sizes_kept b4
           try simp only [size_of_drew, World.size_alloc] at z_W4
           have le_W2_W4 : W2.heap.size ≤ W4.heap.size := by omega
           try (have lt_W2_W4 : W2.heap.size < W4.heap.size := by omega)
           have le_W3_W4 : W3.heap.size ≤ W4.heap.size := by omega
           try (have lt_W3_W4 : W3.heap.size < W4.heap.size := by omega))
        | (go_at_call 61; refine (specWidenEntry_is _ _ _ _ _ _ _ _ _ _ _ _ _ _ _ _ qss (ps.map EV.val) u1 u2 _ (EntriesOwn.entries (by with_reducible (repeat (first | exact os | refine EntriesOwn.drew' ?_ | refine EntriesOwn.alloc' ?_ _ | refine EntriesOwn.call ?_ b4 | refine EntriesOwn.call ?_ b3))) ls) (Own.ints (by with_reducible (repeat (first | exact p1s | refine Own.drew' ?_ | refine Own.alloc ?_ _ | refine Own.call ?_ b4 | refine Own.call ?_ b3))) (Nat.zero_le _)) (Own.ints (by with_reducible (repeat (first | exact p2s | refine Own.drew' ?_ | refine Own.alloc ?_ _ | refine Own.call ?_ b4 | refine Own.call ?_ b3))) (Nat.zero_le _)) hn mk1 mk2 vs HR.out).mono ?_
           rintro e W5 ⟨A0, n0, c0, q0, rfl, ef, vj, nj', b5⟩
           have q_W5 := cells_kept b5
           have u_W5 := frozen_kept b5
           have z_W5 := sizes_kept b5
           try simp only [size_of_drew, World.size_alloc] at z_W5
           have le_W2_W5 : W2.heap.size ≤ W5.heap.size := by omega
           try (have lt_W2_W5 : W2.heap.size < W5.heap.size := by omega)
           have le_W3_W5 : W3.heap.size ≤ W5.heap.size := by omega
           try (have lt_W3_W5 : W3.heap.size < W5.heap.size := by omega)
           have le_W4_W5 : W4.heap.size ≤ W5.heap.size := by omega
           try (have lt_W4_W5 : W4.heap.size < W5.heap.size := by omega)))
    all_goals
      rename_i hH
      clear hH zd q_W3 u_W3 q_W4 u_W4 q_W5 u_W5 c_a0 c_a1 c_a2 c_a3 c_e0 c_e1
      go_wp2_with fail
      go_meet
      refine ⟨_, A0, n0, c0, q0, rfl, ?_, ?_, ?_, ?_, ?_, ?_⟩
      · refine Lib.hid ?_
        first
          | (refine Lies.as (cs := (((((#[.int .i64 0, .int .i64 0, .int .i64 0, .int .i64 0, .slice none 0 0].setIfInBounds 0 (.int .i64 cd)).setIfInBounds 1 (.int .i64 l1)).setIfInBounds 2 (.int .i64 s1)).setIfInBounds 3 (.int .i64 r1)).setIfInBounds 4 (.slice A0 n0 c0))) ?_ (by simp)
             with_reducible (repeat (first | refine Lies.set ?_ _ _ | refine Lies.far ?_ ?_ _ | (refine Lies.laid ?_; (simp only [size_of_drew, size_of_setCell, World.size_alloc]; done)) | exact Lies.new _ _ _ | exact Lies.laid2 _ _ _ _ | refine Lies.alloc ?_ _ | refine Lies.drew ?_ | refine Lies.call ?_ b5 | refine Lies.call ?_ b4 | refine Lies.call ?_ b3))
             all_goals first | exact Nat.ne_of_lt (Nat.lt_succ_self _) | exact Nat.ne_of_gt (Nat.lt_succ_self _) | exact Nat.ne_of_lt lt_W2_W3 | exact Nat.ne_of_gt lt_W2_W3 | exact Nat.ne_of_lt lt_W2_W4 | exact Nat.ne_of_gt lt_W2_W4 | exact Nat.ne_of_lt lt_W2_W5 | exact Nat.ne_of_gt lt_W2_W5 | exact Nat.ne_of_lt lt_W3_W4 | exact Nat.ne_of_gt lt_W3_W4 | exact Nat.ne_of_lt lt_W3_W5 | exact Nat.ne_of_gt lt_W3_W5 | exact Nat.ne_of_lt lt_W4_W5 | exact Nat.ne_of_gt lt_W4_W5 | (show ¬ _ = _; (try simp only [size_of_drew, size_of_setCell, World.size_alloc]); omega)
             done)
          | (with_reducible (repeat (first | refine Lies.far ?_ ?_ _ | (refine Lies.laid ?_; (simp only [size_of_drew, size_of_setCell, World.size_alloc]; done)) | exact Lies.new _ _ _ | exact Lies.laid2 _ _ _ _ | refine Lies.alloc ?_ _ | refine Lies.drew ?_ | refine Lies.call ?_ b5 | refine Lies.call ?_ b4 | refine Lies.call ?_ b3))
             all_goals first | exact Nat.ne_of_lt (Nat.lt_succ_self _) | exact Nat.ne_of_gt (Nat.lt_succ_self _) | exact Nat.ne_of_lt lt_W2_W3 | exact Nat.ne_of_gt lt_W2_W3 | exact Nat.ne_of_lt lt_W2_W4 | exact Nat.ne_of_gt lt_W2_W4 | exact Nat.ne_of_lt lt_W2_W5 | exact Nat.ne_of_gt lt_W2_W5 | exact Nat.ne_of_lt lt_W3_W4 | exact Nat.ne_of_gt lt_W3_W4 | exact Nat.ne_of_lt lt_W3_W5 | exact Nat.ne_of_gt lt_W3_W5 | exact Nat.ne_of_lt lt_W4_W5 | exact Nat.ne_of_gt lt_W4_W5 | (show ¬ _ = _; (try simp only [size_of_drew, size_of_setCell, World.size_alloc]); omega)
             done)
      · first | exact Nat.le_refl _ | exact Nat.le_succ _ | exact le_W2_W3 | exact Nat.le_succ_of_le le_W2_W3 | exact le_W2_W4 | exact Nat.le_succ_of_le le_W2_W4 | exact le_W2_W5 | exact Nat.le_succ_of_le le_W2_W5 | omega
      · refine Lib.hid ?_
        refine EntF.E (lo := ?_) (hi := W5.heap.size) ?_
        rotate_left
        with_reducible (repeat (first | refine EntF.far ?_ ?_ _ | refine EntF.alloc ?_ _ | refine EntF.drew ?_))
        · exact ef
        all_goals ((try dsimp only); (try simp only [size_of_drew, size_of_setCell, World.size_alloc]); omega)
      · exact Lib.hid vj
      · exact nj'
      · refine Lib.hid ?_
        with_reducible (repeat (first | refine Since.setCell ?_ ?_ _ | refine Since.alloc ?_ _ | refine Since.drew ?_ | refine Since.call ?_ b5 | refine Since.call ?_ b4 | refine Since.call ?_ b3))
        · exact Since.of (Below.refl _ _)
        all_goals first | exact Nat.le_refl _ | exact Nat.le_succ _ | exact le_W2_W3 | exact Nat.le_succ_of_le le_W2_W3 | exact le_W2_W4 | exact Nat.le_succ_of_le le_W2_W4 | exact le_W2_W5 | exact Nat.le_succ_of_le le_W2_W5 | (show _ ≤ _; (try simp only [size_of_drew, size_of_setCell, World.size_alloc]); omega)
  case' rest =>
    obtain ⟨n_w0, A0, n0, c0, q0, rfl, L_w0, g_w0, J, VJ, nj, S⟩ := hcut
    have bS := S.out.below
    clear S
  have d_w0_a : ¬ n_w0 = w.heap.size := by have := L_a.out.inside; omega
  have e_w0_a : ¬ w.heap.size = n_w0 := fun e => d_w0_a e.symm
  have d_w0_e : ¬ n_w0 = w.heap.size + 1 := by have := L_e.out.inside; omega
  have e_w0_e : ¬ w.heap.size + 1 = n_w0 := fun e => d_w0_e e.symm
  skip
  have sz_wc := bS.size
  try simp only [World.size_alloc] at sz_wc
  replace L_a := Lib.hid (L_a.out.kept bS L_a.out.inside)
  replace L_e := Lib.hid (L_e.out.kept bS L_e.out.inside)
  replace B := Lib.hid (B.out.trans (bS.mono B.out.size))
  clear bS
  generalize hWA : wc = WA at *
  clear hWA
  have in_w0 := L_w0.out.inside
  have JB := Lib.hid (Below.refl WA.heap.size WA)
  have c_a0 : WA.cell? ⟨w.heap.size, 0, none⟩ = some (.int .i64 lv) := L_a.out.cell 0
  have c_a1 : WA.cell? ⟨w.heap.size, 1, none⟩ = some (.int .i64 ns) := L_a.out.cell 1
  have c_a2 : WA.cell? ⟨w.heap.size, 2, none⟩ = some (.int .i64 rt) := L_a.out.cell 2
  have c_a3 : WA.cell? ⟨w.heap.size, 3, none⟩ = some (.slice A n c) := L_a.out.cell 3
  go_wp2_with fail
  refine (toNode_any _ _ _ _ _ _ ps _ (HP.out.kept B.out) (by omega) HS.out).mono ?_
  rintro e W6 ⟨gt, qst, rfl, hgt, ot, lt, vt, b6⟩
  replace JB := Lib.hid (JB.out.trans (b6.mono JB.out.size))
  have sz_W6 := b6.size
  try simp only [World.size_alloc] at sz_W6
  replace L_a := Lib.hid (L_a.out.kept b6 L_a.out.inside)
  replace L_e := Lib.hid (L_e.out.kept b6 L_e.out.inside)
  replace L_w0 := Lib.hid (L_w0.out.kept b6 L_w0.out.inside)
  replace B := Lib.hid (B.out.trans (b6.mono B.out.size))
  clear b6
  try simp only [World.size_alloc] at hgt
  have O_t := Lib.hid ot
  have K_t := Lib.hid lt
  have V_t := Lib.hid vt
  have A_t := Lib.hid ot.any
  have SQ_t := Lib.hid (small_own HP.out HM.out ot vt (by decide))
  have in_t := O_t.out.inside
  clear ot lt vt
  clear c_a0 c_a1 c_a2 c_a3
  replace JB := Lib.hid (JB.out.alloc JB.out.size (.cells #[.int .i64 lv, .int .i64 ns, .int .i64 rt, .slice (some ⟨gt, 0, none⟩) n n] 58))
  replace A_t := Lib.hid (A_t.out.kept (below_alloc _ (.cells #[.int .i64 lv, .int .i64 ns, .int .i64 rt, .slice (some ⟨gt, 0, none⟩) n n] 58)))
  replace L_a := Lib.hid (L_a.out.alloc (.cells #[.int .i64 lv, .int .i64 ns, .int .i64 rt, .slice (some ⟨gt, 0, none⟩) n n] 58))
  replace L_e := Lib.hid (L_e.out.alloc (.cells #[.int .i64 lv, .int .i64 ns, .int .i64 rt, .slice (some ⟨gt, 0, none⟩) n n] 58))
  replace L_w0 := Lib.hid (L_w0.out.alloc (.cells #[.int .i64 lv, .int .i64 ns, .int .i64 rt, .slice (some ⟨gt, 0, none⟩) n n] 58))
  replace O_t := Lib.hid (O_t.out.kept (below_alloc _ (.cells #[.int .i64 lv, .int .i64 ns, .int .i64 rt, .slice (some ⟨gt, 0, none⟩) n n] 58)))
  have L_x := Lib.hid (Lies.new W6 58 #[.int .i64 lv, .int .i64 ns, .int .i64 rt, .slice (some ⟨gt, 0, none⟩) n n])
  replace B := Lib.hid (B.out.alloc B.out.size (.cells #[.int .i64 lv, .int .i64 ns, .int .i64 rt, .slice (some ⟨gt, 0, none⟩) n n] 58))
  have c_e0 : (W6.alloc (.cells #[.int .i64 lv, .int .i64 ns, .int .i64 rt, .slice (some ⟨gt, 0, none⟩) n n] 58)).cell? ⟨w.heap.size + 1, 0, none⟩ = some (.slice E1 k1 e1) := L_e.out.cell 0
  have c_e1 : (W6.alloc (.cells #[.int .i64 lv, .int .i64 ns, .int .i64 rt, .slice (some ⟨gt, 0, none⟩) n n] 58)).cell? ⟨w.heap.size + 1, 1, none⟩ = some (.slice E2 k2 e2) := L_e.out.cell 1
  go_wp2_with fail
  refine (toRect_any _ _ _ _ _ _ _ _ u1 u2 _ (I_1.out.kept B.out) (I_2.out.kept B.out) (by omega) (by omega)).mono ?_
  rintro e W7 ⟨y1, y2, rfl, oy1, oy2, ly1, ly2, b7⟩
  replace JB := Lib.hid (JB.out.trans (b7.mono JB.out.size))
  have sz_W7 := b7.size
  try simp only [World.size_alloc] at sz_W7
  replace A_t := Lib.hid (A_t.out.kept b7)
  replace L_a := Lib.hid (L_a.out.kept b7 L_a.out.inside)
  replace L_e := Lib.hid (L_e.out.kept b7 L_e.out.inside)
  replace L_w0 := Lib.hid (L_w0.out.kept b7 L_w0.out.inside)
  replace L_x := Lib.hid (L_x.out.kept b7 L_x.out.inside)
  replace O_t := Lib.hid (O_t.out.kept b7)
  replace B := Lib.hid (B.out.trans (b7.mono B.out.size))
  clear b7
  clear c_e0 c_e1
  try simp only [World.size_alloc] at ly1
  have R_1 := Lib.hid oy1
  have R_2 := Lib.hid oy2
  clear oy1 oy2
  have in_1 := R_1.out.inside
  have in_2 := R_2.out.inside
  replace JB := Lib.hid (JB.out.alloc JB.out.size (.cells #[.slice (some ⟨y1, 0, none⟩) k1 k1, .slice (some ⟨y2, 0, none⟩) k2 k2] 36))
  replace R_1 := Lib.hid (R_1.out.kept (below_alloc _ (.cells #[.slice (some ⟨y1, 0, none⟩) k1 k1, .slice (some ⟨y2, 0, none⟩) k2 k2] 36)))
  replace R_2 := Lib.hid (R_2.out.kept (below_alloc _ (.cells #[.slice (some ⟨y1, 0, none⟩) k1 k1, .slice (some ⟨y2, 0, none⟩) k2 k2] 36)))
  replace A_t := Lib.hid (A_t.out.kept (below_alloc _ (.cells #[.slice (some ⟨y1, 0, none⟩) k1 k1, .slice (some ⟨y2, 0, none⟩) k2 k2] 36)))
  replace L_a := Lib.hid (L_a.out.alloc (.cells #[.slice (some ⟨y1, 0, none⟩) k1 k1, .slice (some ⟨y2, 0, none⟩) k2 k2] 36))
  replace L_e := Lib.hid (L_e.out.alloc (.cells #[.slice (some ⟨y1, 0, none⟩) k1 k1, .slice (some ⟨y2, 0, none⟩) k2 k2] 36))
  replace L_w0 := Lib.hid (L_w0.out.alloc (.cells #[.slice (some ⟨y1, 0, none⟩) k1 k1, .slice (some ⟨y2, 0, none⟩) k2 k2] 36))
  replace L_x := Lib.hid (L_x.out.alloc (.cells #[.slice (some ⟨y1, 0, none⟩) k1 k1, .slice (some ⟨y2, 0, none⟩) k2 k2] 36))
  replace O_t := Lib.hid (O_t.out.kept (below_alloc _ (.cells #[.slice (some ⟨y1, 0, none⟩) k1 k1, .slice (some ⟨y2, 0, none⟩) k2 k2] 36)))
  have L_y := Lib.hid (Lies.new W7 36 #[.slice (some ⟨y1, 0, none⟩) k1 k1, .slice (some ⟨y2, 0, none⟩) k2 k2])
  replace B := Lib.hid (B.out.alloc B.out.size (.cells #[.slice (some ⟨y1, 0, none⟩) k1 k1, .slice (some ⟨y2, 0, none⟩) k2 k2] 36))
  have c_x0 : (W7.alloc (.cells #[.slice (some ⟨y1, 0, none⟩) k1 k1, .slice (some ⟨y2, 0, none⟩) k2 k2] 36)).cell? ⟨W6.heap.size, 0, none⟩ = some (.int .i64 lv) := L_x.out.cell 0
  have c_x1 : (W7.alloc (.cells #[.slice (some ⟨y1, 0, none⟩) k1 k1, .slice (some ⟨y2, 0, none⟩) k2 k2] 36)).cell? ⟨W6.heap.size, 1, none⟩ = some (.int .i64 ns) := L_x.out.cell 1
  have c_x2 : (W7.alloc (.cells #[.slice (some ⟨y1, 0, none⟩) k1 k1, .slice (some ⟨y2, 0, none⟩) k2 k2] 36)).cell? ⟨W6.heap.size, 2, none⟩ = some (.int .i64 rt) := L_x.out.cell 2
  have c_x3 : (W7.alloc (.cells #[.slice (some ⟨y1, 0, none⟩) k1 k1, .slice (some ⟨y2, 0, none⟩) k2 k2] 36)).cell? ⟨W6.heap.size, 3, none⟩ = some (.slice (some ⟨gt, 0, none⟩) n n) := L_x.out.cell 3
  have c_y0 : (W7.alloc (.cells #[.slice (some ⟨y1, 0, none⟩) k1 k1, .slice (some ⟨y2, 0, none⟩) k2 k2] 36)).cell? ⟨W7.heap.size, 0, none⟩ = some (.slice (some ⟨y1, 0, none⟩) k1 k1) := L_y.out.cell 0
  have c_y1 : (W7.alloc (.cells #[.slice (some ⟨y1, 0, none⟩) k1 k1, .slice (some ⟨y2, 0, none⟩) k2 k2] 36)).cell? ⟨W7.heap.size, 1, none⟩ = some (.slice (some ⟨y2, 0, none⟩) k2 k2) := L_y.out.cell 1
  go_wp2_with fail
  refine (implWidenEntry_is _ _ _ _ _ _ _ _ _ _ _ _ _ _ _ _ qst (ps.map EV.val) u1 u2 _ (O_t.out.entries K_t.out) (R_1.out.ints (Nat.zero_le _)) (R_2.out.ints (Nat.zero_le _)) hn mk1 mk2 V_t.out HR.out).mono ?_
  rintro e W8 ⟨A1, n1, c1, q1, rfl, he, ve, ne, b8⟩
  replace JB := Lib.hid (JB.out.trans (b8.mono JB.out.size))
  have sz_W8 := b8.size
  try simp only [World.size_alloc] at sz_W8
  replace R_1 := Lib.hid (R_1.out.kept b8)
  replace R_2 := Lib.hid (R_2.out.kept b8)
  replace A_t := Lib.hid (A_t.out.kept b8)
  replace L_a := Lib.hid (L_a.out.kept b8 L_a.out.inside)
  replace L_e := Lib.hid (L_e.out.kept b8 L_e.out.inside)
  replace L_w0 := Lib.hid (L_w0.out.kept b8 L_w0.out.inside)
  replace L_x := Lib.hid (L_x.out.kept b8 L_x.out.inside)
  replace L_y := Lib.hid (L_y.out.kept b8 L_y.out.inside)
  replace O_t := Lib.hid (O_t.out.kept b8)
  replace B := Lib.hid (B.out.trans (b8.mono B.out.size))
  clear b8
  clear c_x0 c_x1 c_x2 c_x3
  clear c_y0 c_y1
  simp only [World.size_alloc] at he
  obtain rfl : n0 = n1 := by have h1 := J.out.1; have h2 := he.len; have h3 := congrArg List.length (VJ.out.trans ve.symm); simp only [List.length_map] at h3; omega
  have hb5 := Lib.hid he.bound
  have E_g := Lib.hid he
  have VE := Lib.hid ve
  clear he ve
  replace JB := Lib.hid (JB.out.alloc JB.out.size (.cells #[.int .i64 cd, .int .i64 l1, .int .i64 s1, .int .i64 r1, .slice A1 n0 c1] 74))
  replace E_g := Lib.hid (E_g.out.kept (below_alloc _ (.cells #[.int .i64 cd, .int .i64 l1, .int .i64 s1, .int .i64 r1, .slice A1 n0 c1] 74)))
  replace R_1 := Lib.hid (R_1.out.kept (below_alloc _ (.cells #[.int .i64 cd, .int .i64 l1, .int .i64 s1, .int .i64 r1, .slice A1 n0 c1] 74)))
  replace R_2 := Lib.hid (R_2.out.kept (below_alloc _ (.cells #[.int .i64 cd, .int .i64 l1, .int .i64 s1, .int .i64 r1, .slice A1 n0 c1] 74)))
  replace A_t := Lib.hid (A_t.out.kept (below_alloc _ (.cells #[.int .i64 cd, .int .i64 l1, .int .i64 s1, .int .i64 r1, .slice A1 n0 c1] 74)))
  replace L_a := Lib.hid (L_a.out.alloc (.cells #[.int .i64 cd, .int .i64 l1, .int .i64 s1, .int .i64 r1, .slice A1 n0 c1] 74))
  replace L_e := Lib.hid (L_e.out.alloc (.cells #[.int .i64 cd, .int .i64 l1, .int .i64 s1, .int .i64 r1, .slice A1 n0 c1] 74))
  replace L_w0 := Lib.hid (L_w0.out.alloc (.cells #[.int .i64 cd, .int .i64 l1, .int .i64 s1, .int .i64 r1, .slice A1 n0 c1] 74))
  replace L_x := Lib.hid (L_x.out.alloc (.cells #[.int .i64 cd, .int .i64 l1, .int .i64 s1, .int .i64 r1, .slice A1 n0 c1] 74))
  replace L_y := Lib.hid (L_y.out.alloc (.cells #[.int .i64 cd, .int .i64 l1, .int .i64 s1, .int .i64 r1, .slice A1 n0 c1] 74))
  replace O_t := Lib.hid (O_t.out.kept (below_alloc _ (.cells #[.int .i64 cd, .int .i64 l1, .int .i64 s1, .int .i64 r1, .slice A1 n0 c1] 74)))
  have L_g0 := Lib.hid (Lies.new W8 74 #[.int .i64 cd, .int .i64 l1, .int .i64 s1, .int .i64 r1, .slice A1 n0 c1])
  replace B := Lib.hid (B.out.alloc B.out.size (.cells #[.int .i64 cd, .int .i64 l1, .int .i64 s1, .int .i64 r1, .slice A1 n0 c1] 74))
  have c_w00 : (W8.alloc (.cells #[.int .i64 cd, .int .i64 l1, .int .i64 s1, .int .i64 r1, .slice A1 n0 c1] 74)).cell? ⟨n_w0, 0, none⟩ = some (.int .i64 cd) := L_w0.out.cell 0
  have c_w01 : (W8.alloc (.cells #[.int .i64 cd, .int .i64 l1, .int .i64 s1, .int .i64 r1, .slice A1 n0 c1] 74)).cell? ⟨n_w0, 1, none⟩ = some (.int .i64 l1) := L_w0.out.cell 1
  have c_w02 : (W8.alloc (.cells #[.int .i64 cd, .int .i64 l1, .int .i64 s1, .int .i64 r1, .slice A1 n0 c1] 74)).cell? ⟨n_w0, 2, none⟩ = some (.int .i64 s1) := L_w0.out.cell 2
  have c_w03 : (W8.alloc (.cells #[.int .i64 cd, .int .i64 l1, .int .i64 s1, .int .i64 r1, .slice A1 n0 c1] 74)).cell? ⟨n_w0, 3, none⟩ = some (.int .i64 r1) := L_w0.out.cell 3
  have c_w04 : (W8.alloc (.cells #[.int .i64 cd, .int .i64 l1, .int .i64 s1, .int .i64 r1, .slice A1 n0 c1] 74)).cell? ⟨n_w0, 4, none⟩ = some (.slice A0 n0 c0) := L_w0.out.cell 4
  have c_g00 : (W8.alloc (.cells #[.int .i64 cd, .int .i64 l1, .int .i64 s1, .int .i64 r1, .slice A1 n0 c1] 74)).cell? ⟨W8.heap.size, 0, none⟩ = some (.int .i64 cd) := L_g0.out.cell 0
  have c_g01 : (W8.alloc (.cells #[.int .i64 cd, .int .i64 l1, .int .i64 s1, .int .i64 r1, .slice A1 n0 c1] 74)).cell? ⟨W8.heap.size, 1, none⟩ = some (.int .i64 l1) := L_g0.out.cell 1
  have c_g02 : (W8.alloc (.cells #[.int .i64 cd, .int .i64 l1, .int .i64 s1, .int .i64 r1, .slice A1 n0 c1] 74)).cell? ⟨W8.heap.size, 2, none⟩ = some (.int .i64 s1) := L_g0.out.cell 2
  have c_g03 : (W8.alloc (.cells #[.int .i64 cd, .int .i64 l1, .int .i64 s1, .int .i64 r1, .slice A1 n0 c1] 74)).cell? ⟨W8.heap.size, 3, none⟩ = some (.int .i64 r1) := L_g0.out.cell 3
  have c_g04 : (W8.alloc (.cells #[.int .i64 cd, .int .i64 l1, .int .i64 s1, .int .i64 r1, .slice A1 n0 c1] 74)).cell? ⟨W8.heap.size, 4, none⟩ = some (.slice A1 n0 c1) := L_g0.out.cell 4
  go_wp2_with fail
  refine (eqNodeResult_same _ _ _ _ _ _ _ _ _ q1 q0 _ E_g.out.entries (J.out.kept JB.out) (VE.out.trans VJ.out.symm) (Nat.le_trans nj (by decide))).mono ?_
  rintro e W9 ⟨rfl, b9⟩
  replace JB := Lib.hid (JB.out.trans (b9.mono JB.out.size))
  replace E_g := Lib.hid (E_g.out.kept b9)
  have sz_W9 := b9.size
  try simp only [World.size_alloc] at sz_W9
  replace R_1 := Lib.hid (R_1.out.kept b9)
  replace R_2 := Lib.hid (R_2.out.kept b9)
  replace A_t := Lib.hid (A_t.out.kept b9)
  replace L_a := Lib.hid (L_a.out.kept b9 L_a.out.inside)
  replace L_e := Lib.hid (L_e.out.kept b9 L_e.out.inside)
  replace L_w0 := Lib.hid (L_w0.out.kept b9 L_w0.out.inside)
  replace L_x := Lib.hid (L_x.out.kept b9 L_x.out.inside)
  replace L_y := Lib.hid (L_y.out.kept b9 L_y.out.inside)
  replace L_g0 := Lib.hid (L_g0.out.kept b9 L_g0.out.inside)
  replace O_t := Lib.hid (O_t.out.kept b9)
  replace B := Lib.hid (B.out.trans (b9.mono B.out.size))
  clear b9
  clear c_w00 c_w01 c_w02 c_w03 c_w04
  clear c_g00 c_g01 c_g02 c_g03 c_g04
  go_wp2_with fail
  have k_0 : W9.cell? ⟨W6.heap.size, 0, none⟩ = some (.int .i64 lv) ∧ W9.cell? ⟨W6.heap.size, 1, none⟩ = some (.int .i64 ns) ∧ W9.cell? ⟨W6.heap.size, 2, none⟩ = some (.int .i64 rt) ∧ W9.cell? ⟨W6.heap.size, 3, none⟩ = some (.slice (some ⟨gt, 0, none⟩) n n) ∧ W9.cell? ⟨w.heap.size, 0, none⟩ = some (.int .i64 lv) ∧ W9.cell? ⟨w.heap.size, 1, none⟩ = some (.int .i64 ns) ∧ W9.cell? ⟨w.heap.size, 2, none⟩ = some (.int .i64 rt) ∧ W9.cell? ⟨w.heap.size, 3, none⟩ = some (.slice A n c) := ⟨L_x.out.cell 0, L_x.out.cell 1, L_x.out.cell 2, L_x.out.cell 3, L_a.out.cell 0, L_a.out.cell 1, L_a.out.cell 2, L_a.out.cell 3⟩
  go_region_held3 (fun w' => w'.cell? ⟨W6.heap.size, 0, none⟩ = some (.int .i64 lv) ∧ w'.cell? ⟨W6.heap.size, 1, none⟩ = some (.int .i64 ns) ∧ w'.cell? ⟨W6.heap.size, 2, none⟩ = some (.int .i64 rt) ∧ w'.cell? ⟨W6.heap.size, 3, none⟩ = some (.slice (some ⟨gt, 0, none⟩) n n) ∧ w'.cell? ⟨w.heap.size, 0, none⟩ = some (.int .i64 lv) ∧ w'.cell? ⟨w.heap.size, 1, none⟩ = some (.int .i64 ns) ∧ w'.cell? ⟨w.heap.size, 2, none⟩ = some (.int .i64 rt) ∧ w'.cell? ⟨w.heap.size, 3, none⟩ = some (.slice A n c))
    (first | (simp [go_sem, k_0]; done) | with_reducible exact k_1 | with_reducible exact k_2)
    (first
      | (go_at_call 39; refine (toNode_any _ _ _ _ _ _ ps _ (HP.out.kept B.out.drew) (by omega) HS.out).mono ?_
         rintro e Wx ⟨gz, qsz, rfl, hgz, oz, lz, vz, bxd⟩
         have bx := below_drawn bxd
         have k_1 : Wx.cell? ⟨W6.heap.size, 0, none⟩ = some (.int .i64 lv) ∧ Wx.cell? ⟨W6.heap.size, 1, none⟩ = some (.int .i64 ns) ∧ Wx.cell? ⟨W6.heap.size, 2, none⟩ = some (.int .i64 rt) ∧ Wx.cell? ⟨W6.heap.size, 3, none⟩ = some (.slice (some ⟨gt, 0, none⟩) n n) ∧ Wx.cell? ⟨w.heap.size, 0, none⟩ = some (.int .i64 lv) ∧ Wx.cell? ⟨w.heap.size, 1, none⟩ = some (.int .i64 ns) ∧ Wx.cell? ⟨w.heap.size, 2, none⟩ = some (.int .i64 rt) ∧ Wx.cell? ⟨w.heap.size, 3, none⟩ = some (.slice A n c) := ⟨(L_x.out.kept bx L_x.out.inside).cell 0, (L_x.out.kept bx L_x.out.inside).cell 1, (L_x.out.kept bx L_x.out.inside).cell 2, (L_x.out.kept bx L_x.out.inside).cell 3, (L_a.out.kept bx L_a.out.inside).cell 0, (L_a.out.kept bx L_a.out.inside).cell 1, (L_a.out.kept bx L_a.out.inside).cell 2, (L_a.out.kept bx L_a.out.inside).cell 3⟩
         clear bxd hgz)
      | (go_at_call 41; refine (eqNode_same _ _ _ _ _ _ _ _ qst qsz _ ((O_t.out.kept bx).entries K_t.out) (oz.entries lz) (V_t.out.trans vz.symm) hn).mono ?_
         rintro e Wy ⟨rfl, by1⟩
         have k_2 : Wy.cell? ⟨W6.heap.size, 0, none⟩ = some (.int .i64 lv) ∧ Wy.cell? ⟨W6.heap.size, 1, none⟩ = some (.int .i64 ns) ∧ Wy.cell? ⟨W6.heap.size, 2, none⟩ = some (.int .i64 rt) ∧ Wy.cell? ⟨W6.heap.size, 3, none⟩ = some (.slice (some ⟨gt, 0, none⟩) n n) ∧ Wy.cell? ⟨w.heap.size, 0, none⟩ = some (.int .i64 lv) ∧ Wy.cell? ⟨w.heap.size, 1, none⟩ = some (.int .i64 ns) ∧ Wy.cell? ⟨w.heap.size, 2, none⟩ = some (.int .i64 rt) ∧ Wy.cell? ⟨w.heap.size, 3, none⟩ = some (.slice A n c) := ⟨((L_x.out.kept bx L_x.out.inside).kept by1 (L_x.out.kept bx L_x.out.inside).inside).cell 0, ((L_x.out.kept bx L_x.out.inside).kept by1 (L_x.out.kept bx L_x.out.inside).inside).cell 1, ((L_x.out.kept bx L_x.out.inside).kept by1 (L_x.out.kept bx L_x.out.inside).inside).cell 2, ((L_x.out.kept bx L_x.out.inside).kept by1 (L_x.out.kept bx L_x.out.inside).inside).cell 3, ((L_a.out.kept bx L_a.out.inside).kept by1 (L_a.out.kept bx L_a.out.inside).inside).cell 0, ((L_a.out.kept bx L_a.out.inside).kept by1 (L_a.out.kept bx L_a.out.inside).inside).cell 1, ((L_a.out.kept bx L_a.out.inside).kept by1 (L_a.out.kept bx L_a.out.inside).inside).cell 2, ((L_a.out.kept bx L_a.out.inside).kept by1 (L_a.out.kept bx L_a.out.inside).inside).cell 3⟩))
  clear k_0 k_1 k_2 oz lz vz
  replace JB := Lib.hid (JB.out.trans (bx.mono JB.out.size))
  replace E_g := Lib.hid (E_g.out.kept bx)
  have sz_Wx := bx.size
  try simp only [World.size_alloc] at sz_Wx
  replace R_1 := Lib.hid (R_1.out.kept bx)
  replace R_2 := Lib.hid (R_2.out.kept bx)
  replace A_t := Lib.hid (A_t.out.kept bx)
  replace L_a := Lib.hid (L_a.out.kept bx L_a.out.inside)
  replace L_e := Lib.hid (L_e.out.kept bx L_e.out.inside)
  replace L_w0 := Lib.hid (L_w0.out.kept bx L_w0.out.inside)
  replace L_x := Lib.hid (L_x.out.kept bx L_x.out.inside)
  replace L_y := Lib.hid (L_y.out.kept bx L_y.out.inside)
  replace L_g0 := Lib.hid (L_g0.out.kept bx L_g0.out.inside)
  replace O_t := Lib.hid (O_t.out.kept bx)
  replace B := Lib.hid (B.out.trans (bx.mono B.out.size))
  clear bx
  replace JB := Lib.hid (JB.out.trans (by1.mono JB.out.size))
  replace E_g := Lib.hid (E_g.out.kept by1)
  have sz_Wy := by1.size
  try simp only [World.size_alloc] at sz_Wy
  replace R_1 := Lib.hid (R_1.out.kept by1)
  replace R_2 := Lib.hid (R_2.out.kept by1)
  replace A_t := Lib.hid (A_t.out.kept by1)
  replace L_a := Lib.hid (L_a.out.kept by1 L_a.out.inside)
  replace L_e := Lib.hid (L_e.out.kept by1 L_e.out.inside)
  replace L_w0 := Lib.hid (L_w0.out.kept by1 L_w0.out.inside)
  replace L_x := Lib.hid (L_x.out.kept by1 L_x.out.inside)
  replace L_y := Lib.hid (L_y.out.kept by1 L_y.out.inside)
  replace L_g0 := Lib.hid (L_g0.out.kept by1 L_g0.out.inside)
  replace O_t := Lib.hid (O_t.out.kept by1)
  replace B := Lib.hid (B.out.trans (by1.mono B.out.size))
  clear by1
  go_wp2_with fail
  have k_0 : Wy.cell? ⟨W7.heap.size, 0, none⟩ = some (.slice (some ⟨y1, 0, none⟩) k1 k1) ∧ Wy.cell? ⟨W7.heap.size, 1, none⟩ = some (.slice (some ⟨y2, 0, none⟩) k2 k2) ∧ Wy.cell? ⟨w.heap.size + 1, 0, none⟩ = some (.slice E1 k1 e1) ∧ Wy.cell? ⟨w.heap.size + 1, 1, none⟩ = some (.slice E2 k2 e2) := ⟨L_y.out.cell 0, L_y.out.cell 1, L_e.out.cell 0, L_e.out.cell 1⟩
  go_region_held3 (fun w' => w'.cell? ⟨W7.heap.size, 0, none⟩ = some (.slice (some ⟨y1, 0, none⟩) k1 k1) ∧ w'.cell? ⟨W7.heap.size, 1, none⟩ = some (.slice (some ⟨y2, 0, none⟩) k2 k2) ∧ w'.cell? ⟨w.heap.size + 1, 0, none⟩ = some (.slice E1 k1 e1) ∧ w'.cell? ⟨w.heap.size + 1, 1, none⟩ = some (.slice E2 k2 e2))
    (first | (simp [go_sem, k_0]; done) | with_reducible exact k_1 | with_reducible exact k_2)
    (first
      | (go_at_call 22; refine (toRect_any _ _ _ _ _ _ _ _ u1 u2 _ (I_1.out.kept B.out.drew) (I_2.out.kept B.out.drew) (by omega) (by omega)).mono ?_
         rintro e Wx2 ⟨gz, gz', rfl, oz, oz', lz, lz', bxd⟩
         have bx := below_drawn bxd
         have k_1 : Wx2.cell? ⟨W7.heap.size, 0, none⟩ = some (.slice (some ⟨y1, 0, none⟩) k1 k1) ∧ Wx2.cell? ⟨W7.heap.size, 1, none⟩ = some (.slice (some ⟨y2, 0, none⟩) k2 k2) ∧ Wx2.cell? ⟨w.heap.size + 1, 0, none⟩ = some (.slice E1 k1 e1) ∧ Wx2.cell? ⟨w.heap.size + 1, 1, none⟩ = some (.slice E2 k2 e2) := ⟨(L_y.out.kept bx L_y.out.inside).cell 0, (L_y.out.kept bx L_y.out.inside).cell 1, (L_e.out.kept bx L_e.out.inside).cell 0, (L_e.out.kept bx L_e.out.inside).cell 1⟩
         clear bxd lz lz')
      | (go_at_call 25; refine (eqRect_is true _ _ _ _ _ _ _ _ _ _ _ _ _ _ _ _ u1 u2 u1 u2 _ (by simp) ((R_1.out.kept bx).ints (Nat.zero_le _)) ((R_2.out.kept bx).ints (Nat.zero_le _)) (oz.ints (Nat.zero_le _)) (oz'.ints (Nat.zero_le _)) mk1 mk2).mono ?_
         rintro e Wy2 ⟨rfl, by1⟩
         have k_2 : Wy2.cell? ⟨W7.heap.size, 0, none⟩ = some (.slice (some ⟨y1, 0, none⟩) k1 k1) ∧ Wy2.cell? ⟨W7.heap.size, 1, none⟩ = some (.slice (some ⟨y2, 0, none⟩) k2 k2) ∧ Wy2.cell? ⟨w.heap.size + 1, 0, none⟩ = some (.slice E1 k1 e1) ∧ Wy2.cell? ⟨w.heap.size + 1, 1, none⟩ = some (.slice E2 k2 e2) := ⟨((L_y.out.kept bx L_y.out.inside).kept by1 (L_y.out.kept bx L_y.out.inside).inside).cell 0, ((L_y.out.kept bx L_y.out.inside).kept by1 (L_y.out.kept bx L_y.out.inside).inside).cell 1, ((L_e.out.kept bx L_e.out.inside).kept by1 (L_e.out.kept bx L_e.out.inside).inside).cell 0, ((L_e.out.kept bx L_e.out.inside).kept by1 (L_e.out.kept bx L_e.out.inside).inside).cell 1⟩))
  clear k_0 k_1 k_2 oz oz'
  replace JB := Lib.hid (JB.out.trans (bx.mono JB.out.size))
  replace E_g := Lib.hid (E_g.out.kept bx)
  have sz_Wx2 := bx.size
  try simp only [World.size_alloc] at sz_Wx2
  replace R_1 := Lib.hid (R_1.out.kept bx)
  replace R_2 := Lib.hid (R_2.out.kept bx)
  replace A_t := Lib.hid (A_t.out.kept bx)
  replace L_a := Lib.hid (L_a.out.kept bx L_a.out.inside)
  replace L_e := Lib.hid (L_e.out.kept bx L_e.out.inside)
  replace L_w0 := Lib.hid (L_w0.out.kept bx L_w0.out.inside)
  replace L_x := Lib.hid (L_x.out.kept bx L_x.out.inside)
  replace L_y := Lib.hid (L_y.out.kept bx L_y.out.inside)
  replace L_g0 := Lib.hid (L_g0.out.kept bx L_g0.out.inside)
  replace O_t := Lib.hid (O_t.out.kept bx)
  replace B := Lib.hid (B.out.trans (bx.mono B.out.size))
  clear bx
  replace JB := Lib.hid (JB.out.trans (by1.mono JB.out.size))
  replace E_g := Lib.hid (E_g.out.kept by1)
  have sz_Wy2 := by1.size
  try simp only [World.size_alloc] at sz_Wy2
  replace R_1 := Lib.hid (R_1.out.kept by1)
  replace R_2 := Lib.hid (R_2.out.kept by1)
  replace A_t := Lib.hid (A_t.out.kept by1)
  replace L_a := Lib.hid (L_a.out.kept by1 L_a.out.inside)
  replace L_e := Lib.hid (L_e.out.kept by1 L_e.out.inside)
  replace L_w0 := Lib.hid (L_w0.out.kept by1 L_w0.out.inside)
  replace L_x := Lib.hid (L_x.out.kept by1 L_x.out.inside)
  replace L_y := Lib.hid (L_y.out.kept by1 L_y.out.inside)
  replace L_g0 := Lib.hid (L_g0.out.kept by1 L_g0.out.inside)
  replace O_t := Lib.hid (O_t.out.kept by1)
  replace B := Lib.hid (B.out.trans (by1.mono B.out.size))
  clear by1
  have c_x0 : Wy2.cell? ⟨W6.heap.size, 0, none⟩ = some (.int .i64 lv) := L_x.out.cell 0
  have c_x1 : Wy2.cell? ⟨W6.heap.size, 1, none⟩ = some (.int .i64 ns) := L_x.out.cell 1
  have c_x2 : Wy2.cell? ⟨W6.heap.size, 2, none⟩ = some (.int .i64 rt) := L_x.out.cell 2
  have c_x3 : Wy2.cell? ⟨W6.heap.size, 3, none⟩ = some (.slice (some ⟨gt, 0, none⟩) n n) := L_x.out.cell 3
  go_wp2_with fail
  refine (markNode_all 1 _ _ _ _ _ _ W6.heap.size qst _ A_t.out K_t.out (by decide) (by decide) (by omega) SQ_t.out).mono ?_
  rintro e W10 ⟨rm, rfl, hrm, t10⟩
  have sz_W10 := t10.2.1
  try simp only [World.size_alloc] at sz_W10
  clear O_t
  clear A_t
  replace L_a := Lib.hid (t10.lies L_a.out (by show ¬ _; omega))
  replace L_e := Lib.hid (t10.lies L_e.out (by show ¬ _; omega))
  replace L_w0 := Lib.hid (t10.lies L_w0.out (by show ¬ _; omega))
  replace L_x := Lib.hid (t10.lies L_x.out (by show ¬ _; omega))
  replace L_y := Lib.hid (t10.lies L_y.out (by show ¬ _; omega))
  replace L_g0 := Lib.hid (t10.lies L_g0.out (by show ¬ _; omega))
  replace R_1 := Lib.hid (t10.own R_1.out (by show ¬ _; omega))
  replace R_2 := Lib.hid (t10.own R_2.out (by show ¬ _; omega))
  replace B := Lib.hid (t10.below B.out (by intro x hx; show w.heap.size ≤ x; have hx' : gt ≤ x := hx.1; omega))
  replace JB := Lib.hid (JB.out.trans (t10.1 _ (fun x hx => by have hx' : gt ≤ x := hx.1; omega) JB.out.size))
  replace E_g := Lib.hid (E_g.out.turned t10 (fun x hx => by have hx' := hx.2; omega))
  clear c_x0 c_x1 c_x2 c_x3
  clear t10
  have c_y0 : W10.cell? ⟨W7.heap.size, 0, none⟩ = some (.slice (some ⟨y1, 0, none⟩) k1 k1) := L_y.out.cell 0
  have c_y1 : W10.cell? ⟨W7.heap.size, 1, none⟩ = some (.slice (some ⟨y2, 0, none⟩) k2 k2) := L_y.out.cell 1
  go_wp2_with fail
  refine (markRect_turn _ _ _ _ _ _ _ u1 u2 _ R_1.out R_2.out (by omega) (by omega) (by omega) kk1 kk2).mono ?_
  rintro e W11 ⟨rfl, t11⟩
  have sz_W11 := t11.2.1
  try simp only [World.size_alloc] at sz_W11
  replace L_a := Lib.hid (t11.lies L_a.out (by show ¬ _; omega))
  replace L_e := Lib.hid (t11.lies L_e.out (by show ¬ _; omega))
  replace L_w0 := Lib.hid (t11.lies L_w0.out (by show ¬ _; omega))
  replace L_x := Lib.hid (t11.lies L_x.out (by show ¬ _; omega))
  replace L_y := Lib.hid (t11.lies L_y.out (by show ¬ _; omega))
  replace L_g0 := Lib.hid (t11.lies L_g0.out (by show ¬ _; omega))
  replace B := Lib.hid (t11.below B.out (by intro x hx; show w.heap.size ≤ x; rcases hx with rfl | rfl <;> omega))
  replace JB := Lib.hid (JB.out.trans (t11.1 _ (fun x hx => by rcases hx with rfl | rfl <;> omega) JB.out.size))
  replace E_g := Lib.hid (E_g.out.turned t11 (fun x hx => by rcases hx with rfl | rfl <;> omega))
  clear R_1 R_2 t11
  clear c_y0 c_y1
  have kpos : ¬ rm + k1 + k2 < 0 := by omega
  have c_w00 : W11.cell? ⟨n_w0, 0, none⟩ = some (.int .i64 cd) := L_w0.out.cell 0
  have c_w01 : W11.cell? ⟨n_w0, 1, none⟩ = some (.int .i64 l1) := L_w0.out.cell 1
  have c_w02 : W11.cell? ⟨n_w0, 2, none⟩ = some (.int .i64 s1) := L_w0.out.cell 2
  have c_w03 : W11.cell? ⟨n_w0, 3, none⟩ = some (.int .i64 r1) := L_w0.out.cell 3
  have c_w04 : W11.cell? ⟨n_w0, 4, none⟩ = some (.slice A0 n0 c0) := L_w0.out.cell 4
  have c_g00 : W11.cell? ⟨W8.heap.size, 0, none⟩ = some (.int .i64 cd) := L_g0.out.cell 0
  have c_g01 : W11.cell? ⟨W8.heap.size, 1, none⟩ = some (.int .i64 l1) := L_g0.out.cell 1
  have c_g02 : W11.cell? ⟨W8.heap.size, 2, none⟩ = some (.int .i64 s1) := L_g0.out.cell 2
  have c_g03 : W11.cell? ⟨W8.heap.size, 3, none⟩ = some (.int .i64 r1) := L_g0.out.cell 3
  have c_g04 : W11.cell? ⟨W8.heap.size, 4, none⟩ = some (.slice A1 n0 c1) := L_g0.out.cell 4
  go_wp2_with fail
  refine (eqNodeResult_same _ _ _ _ _ _ _ _ _ q1 q0 _ E_g.out.entries (J.out.kept JB.out) (VE.out.trans VJ.out.symm) (Nat.le_trans nj (by decide))).mono ?_
  rintro e W12 ⟨rfl, b12⟩
  replace JB := Lib.hid (JB.out.trans (b12.mono JB.out.size))
  replace E_g := Lib.hid (E_g.out.kept b12)
  have sz_W12 := b12.size
  try simp only [World.size_alloc] at sz_W12
  replace L_a := Lib.hid (L_a.out.kept b12 L_a.out.inside)
  replace L_e := Lib.hid (L_e.out.kept b12 L_e.out.inside)
  replace L_w0 := Lib.hid (L_w0.out.kept b12 L_w0.out.inside)
  replace L_x := Lib.hid (L_x.out.kept b12 L_x.out.inside)
  replace L_y := Lib.hid (L_y.out.kept b12 L_y.out.inside)
  replace L_g0 := Lib.hid (L_g0.out.kept b12 L_g0.out.inside)
  replace B := Lib.hid (B.out.trans (b12.mono B.out.size))
  clear b12
  clear c_w00 c_w01 c_w02 c_w03 c_w04
  clear c_g00 c_g01 c_g02 c_g03 c_g04
  clear kpos
  have c_g00 : W12.cell? ⟨W8.heap.size, 0, none⟩ = some (.int .i64 cd) := L_g0.out.cell 0
  have c_g01 : W12.cell? ⟨W8.heap.size, 1, none⟩ = some (.int .i64 l1) := L_g0.out.cell 1
  have c_g02 : W12.cell? ⟨W8.heap.size, 2, none⟩ = some (.int .i64 s1) := L_g0.out.cell 2
  have c_g03 : W12.cell? ⟨W8.heap.size, 3, none⟩ = some (.int .i64 r1) := L_g0.out.cell 3
  have c_g04 : W12.cell? ⟨W8.heap.size, 4, none⟩ = some (.slice A1 n0 c1) := L_g0.out.cell 4
  go_wp2_with fail
  refine (markNodeResult_any 1 _ _ _ _ _ _ _ W8.heap.size _ q1 _ E_g.out hb5.out.1 hb5.out.2 (by decide) (by decide) (by omega)).mono ?_
  rintro e W13 ⟨q2, rfl, eg2, mk2', t13⟩
  have sz_W13 := t13.2.1
  try simp only [World.size_alloc] at sz_W13
  replace L_a := Lib.hid (t13.lies L_a.out (by show ¬ _; omega))
  replace L_e := Lib.hid (t13.lies L_e.out (by show ¬ _; omega))
  replace L_w0 := Lib.hid (t13.lies L_w0.out (by show ¬ _; omega))
  replace L_x := Lib.hid (t13.lies L_x.out (by show ¬ _; omega))
  replace L_y := Lib.hid (t13.lies L_y.out (by show ¬ _; omega))
  replace L_g0 := Lib.hid (t13.lies L_g0.out (by show ¬ _; omega))
  replace B := Lib.hid (t13.below B.out (by intro x hx; show w.heap.size ≤ x; have hx' := hx.1; omega))
  replace JB := Lib.hid (JB.out.trans (t13.1 _ (fun x hx => by have hx' := hx.1; omega) JB.out.size))
  clear c_g00 c_g01 c_g02 c_g03 c_g04
  replace E_g := Lib.hid eg2
  have MK := Lib.hid mk2'
  have hps := (small_sum eg2.small).1
  clear eg2 mk2' t13
  have qpos : ¬ ((1 : Int) + sumK q2 < 0) := by omega
  have qeq : (((1 : Int) + sumK q2) != (1 + sumK q2)) = false := by simp
  have c_g00 : W13.cell? ⟨W8.heap.size, 0, none⟩ = some (.int .i64 cd) := L_g0.out.cell 0
  have c_g01 : W13.cell? ⟨W8.heap.size, 1, none⟩ = some (.int .i64 l1) := L_g0.out.cell 1
  have c_g02 : W13.cell? ⟨W8.heap.size, 2, none⟩ = some (.int .i64 s1) := L_g0.out.cell 2
  have c_g03 : W13.cell? ⟨W8.heap.size, 3, none⟩ = some (.int .i64 r1) := L_g0.out.cell 3
  have c_g04 : W13.cell? ⟨W8.heap.size, 4, none⟩ = some (.slice A1 n0 c1) := L_g0.out.cell 4
  go_wp2_with fail
  refine (heldNodeResult_any 1 _ _ _ _ _ _ _ q2 _ E_g.out.entries MK.out (by decide) (by decide) (by omega) E_g.out.small).mono ?_
  rintro e W14 ⟨rfl, b14⟩
  replace JB := Lib.hid (JB.out.trans (b14.mono JB.out.size))
  replace E_g := Lib.hid (E_g.out.kept b14)
  have sz_W14 := b14.size
  try simp only [World.size_alloc] at sz_W14
  replace L_a := Lib.hid (L_a.out.kept b14 L_a.out.inside)
  replace L_e := Lib.hid (L_e.out.kept b14 L_e.out.inside)
  replace L_w0 := Lib.hid (L_w0.out.kept b14 L_w0.out.inside)
  replace L_x := Lib.hid (L_x.out.kept b14 L_x.out.inside)
  replace L_y := Lib.hid (L_y.out.kept b14 L_y.out.inside)
  replace L_g0 := Lib.hid (L_g0.out.kept b14 L_g0.out.inside)
  replace B := Lib.hid (B.out.trans (b14.mono B.out.size))
  clear b14
  clear c_g00 c_g01 c_g02 c_g03 c_g04
  go_upto_region 31 with fail
  go_cut [17] (fun s17 wx => ∃ (n_h0 : Nat) (A2 : Option Addr) (n2 c2 : Nat) (q3 : List EV), s17 = .pointer (some ⟨n_h0, 0, none⟩) ∧ Hid (Lies wx n_h0 74 #[.int .i64 cd, .int .i64 l1, .int .i64 s1, .int .i64 r1, .slice A2 n2 c2]) ∧ W14.heap.size ≤ n_h0 ∧ Hid (Entries wx A2 n2 q3) ∧ Hid (q3.map EV.val = V) ∧ Hid (Since W14 wx))
  case first =>
    have c_a0 : W14.cell? ⟨w.heap.size, 0, none⟩ = some (.int .i64 lv) := L_a.out.cell 0
    have c_a1 : W14.cell? ⟨w.heap.size, 1, none⟩ = some (.int .i64 ns) := L_a.out.cell 1
    have c_a2 : W14.cell? ⟨w.heap.size, 2, none⟩ = some (.int .i64 rt) := L_a.out.cell 2
    have c_a3 : W14.cell? ⟨w.heap.size, 3, none⟩ = some (.slice A n c) := L_a.out.cell 3
    have c_e0 : W14.cell? ⟨w.heap.size + 1, 0, none⟩ = some (.slice E1 k1 e1) := L_e.out.cell 0
    have c_e1 : W14.cell? ⟨w.heap.size + 1, 1, none⟩ = some (.slice E2 k2 e2) := L_e.out.cell 1
    have i_a := L_a.out.inside
    have l_a := Nat.le_of_lt i_a
    have i_e := L_e.out.inside
    have l_e := Nat.le_of_lt i_e
    have zd := size_of_drew
    go_region_held3 (fun w' => w'.cell? ⟨w.heap.size, 0, none⟩ = some (.int .i64 lv) ∧ w'.cell? ⟨w.heap.size, 1, none⟩ = some (.int .i64 ns) ∧ w'.cell? ⟨w.heap.size, 2, none⟩ = some (.int .i64 rt) ∧ w'.cell? ⟨w.heap.size, 3, none⟩ = some (.slice A n c) ∧ w'.cell? ⟨w.heap.size + 1, 0, none⟩ = some (.slice E1 k1 e1) ∧ w'.cell? ⟨w.heap.size + 1, 1, none⟩ = some (.slice E2 k2 e2))
      (exact ⟨Lies.cell (t := 54) (cs := #[.int .i64 lv, .int .i64 ns, .int .i64 rt, .slice A n c]) (by with_reducible (repeat (first | refine Lies.far ?_ ?_ _ | refine Lies.alloc ?_ _ | refine Lies.drew ?_ | refine Lies.call ?_ b17 | refine Lies.call ?_ b16 | refine Lies.call ?_ b15 | exact L_a.out | exact L_e.out)); all_goals (simp only [size_of_drew, size_of_setCell, World.size_alloc]; omega)) 0, Lies.cell (t := 54) (cs := #[.int .i64 lv, .int .i64 ns, .int .i64 rt, .slice A n c]) (by with_reducible (repeat (first | refine Lies.far ?_ ?_ _ | refine Lies.alloc ?_ _ | refine Lies.drew ?_ | refine Lies.call ?_ b17 | refine Lies.call ?_ b16 | refine Lies.call ?_ b15 | exact L_a.out | exact L_e.out)); all_goals (simp only [size_of_drew, size_of_setCell, World.size_alloc]; omega)) 1, Lies.cell (t := 54) (cs := #[.int .i64 lv, .int .i64 ns, .int .i64 rt, .slice A n c]) (by with_reducible (repeat (first | refine Lies.far ?_ ?_ _ | refine Lies.alloc ?_ _ | refine Lies.drew ?_ | refine Lies.call ?_ b17 | refine Lies.call ?_ b16 | refine Lies.call ?_ b15 | exact L_a.out | exact L_e.out)); all_goals (simp only [size_of_drew, size_of_setCell, World.size_alloc]; omega)) 2, Lies.cell (t := 54) (cs := #[.int .i64 lv, .int .i64 ns, .int .i64 rt, .slice A n c]) (by with_reducible (repeat (first | refine Lies.far ?_ ?_ _ | refine Lies.alloc ?_ _ | refine Lies.drew ?_ | refine Lies.call ?_ b17 | refine Lies.call ?_ b16 | refine Lies.call ?_ b15 | exact L_a.out | exact L_e.out)); all_goals (simp only [size_of_drew, size_of_setCell, World.size_alloc]; omega)) 3, Lies.cell (t := 31) (cs := #[.slice E1 k1 e1, .slice E2 k2 e2]) (by with_reducible (repeat (first | refine Lies.far ?_ ?_ _ | refine Lies.alloc ?_ _ | refine Lies.drew ?_ | refine Lies.call ?_ b17 | refine Lies.call ?_ b16 | refine Lies.call ?_ b15 | exact L_a.out | exact L_e.out)); all_goals (simp only [size_of_drew, size_of_setCell, World.size_alloc]; omega)) 0, Lies.cell (t := 31) (cs := #[.slice E1 k1 e1, .slice E2 k2 e2]) (by with_reducible (repeat (first | refine Lies.far ?_ ?_ _ | refine Lies.alloc ?_ _ | refine Lies.drew ?_ | refine Lies.call ?_ b17 | refine Lies.call ?_ b16 | refine Lies.call ?_ b15 | exact L_a.out | exact L_e.out)); all_goals (simp only [size_of_drew, size_of_setCell, World.size_alloc]; omega)) 1⟩)
      (first
        | (go_at_call 39; refine (toNode_any _ _ _ _ _ _ ps _ (HP.out.kept (by with_reducible (repeat (first | refine Since.below ?_ | refine Since.drew ?_ | refine Since.alloc ?_ _ | exact Since.of B.out)))) (by omega) HS.out).mono ?_
           rintro e W15 ⟨gr, qsr, rfl, hgr, or, lr, vr, b15⟩
           have q_W15 := cells_kept b15
           have u_W15 := frozen_kept b15
           have z_W15 := sizes_kept b15
           try simp only [size_of_drew, World.size_alloc] at z_W15
           have le_W14_W15 : W14.heap.size ≤ W15.heap.size := by omega
           try (have lt_W14_W15 : W14.heap.size < W15.heap.size := by omega))
        | (go_at_call 22; refine (toRect_any _ _ _ _ _ _ _ _ u1 u2 _ (I_1.out.kept (by with_reducible (repeat (first | refine Since.below ?_ | refine Since.drew ?_ | refine Since.alloc ?_ _ | refine Since.call ?_ b15 | exact Since.of B.out)))) (I_2.out.kept (by with_reducible (repeat (first | refine Since.below ?_ | refine Since.drew ?_ | refine Since.alloc ?_ _ | refine Since.call ?_ b15 | exact Since.of B.out)))) (by omega) (by omega)).mono ?_
           rintro e W16 ⟨h1r, h2r, rfl, p1r, p2r, i1r, i2r, b16⟩
           have q_W16 := cells_kept b16
           have u_W16 := frozen_kept b16
           have z_W16 := sizes_kept b16
           try simp only [size_of_drew, World.size_alloc] at z_W16
           have le_W14_W16 : W14.heap.size ≤ W16.heap.size := by omega
           try (have lt_W14_W16 : W14.heap.size < W16.heap.size := by omega)
           have le_W15_W16 : W15.heap.size ≤ W16.heap.size := by omega
           try (have lt_W15_W16 : W15.heap.size < W16.heap.size := by omega))
        | (go_at_call 62; refine (implWidenEntry_is _ _ _ _ _ _ _ _ _ _ _ _ _ _ _ _ qsr (ps.map EV.val) u1 u2 _ (EntriesOwn.entries (by with_reducible (repeat (first | exact or | refine EntriesOwn.drew' ?_ | refine EntriesOwn.alloc' ?_ _ | refine EntriesOwn.call ?_ b16 | refine EntriesOwn.call ?_ b15))) lr) (Own.ints (by with_reducible (repeat (first | exact p1r | refine Own.drew' ?_ | refine Own.alloc ?_ _ | refine Own.call ?_ b16 | refine Own.call ?_ b15))) (Nat.zero_le _)) (Own.ints (by with_reducible (repeat (first | exact p2r | refine Own.drew' ?_ | refine Own.alloc ?_ _ | refine Own.call ?_ b16 | refine Own.call ?_ b15))) (Nat.zero_le _)) hn mk1 mk2 vr HR.out).mono ?_
           rintro e W17 ⟨A2, n2, c2, q3, rfl, ef2, ve2, ne2, b17⟩
           have q_W17 := cells_kept b17
           have u_W17 := frozen_kept b17
           have z_W17 := sizes_kept b17
           try simp only [size_of_drew, World.size_alloc] at z_W17
           have le_W14_W17 : W14.heap.size ≤ W17.heap.size := by omega
           try (have lt_W14_W17 : W14.heap.size < W17.heap.size := by omega)
           have le_W15_W17 : W15.heap.size ≤ W17.heap.size := by omega
           try (have lt_W15_W17 : W15.heap.size < W17.heap.size := by omega)
           have le_W16_W17 : W16.heap.size ≤ W17.heap.size := by omega
           try (have lt_W16_W17 : W16.heap.size < W17.heap.size := by omega)))
    all_goals
      rename_i hH
      clear hH zd q_W15 u_W15 q_W16 u_W16 q_W17 u_W17 c_a0 c_a1 c_a2 c_a3 c_e0 c_e1
      go_wp2_with fail
      go_meet
      refine ⟨_, A2, n2, c2, q3, rfl, ?_, ?_, ?_, ?_, ?_⟩
      · refine Lib.hid ?_
        first
          | (refine Lies.as (cs := (((((#[.int .i64 0, .int .i64 0, .int .i64 0, .int .i64 0, .slice none 0 0].setIfInBounds 0 (.int .i64 cd)).setIfInBounds 1 (.int .i64 l1)).setIfInBounds 2 (.int .i64 s1)).setIfInBounds 3 (.int .i64 r1)).setIfInBounds 4 (.slice A2 n2 c2))) ?_ (by simp)
             with_reducible (repeat (first | refine Lies.set ?_ _ _ | refine Lies.far ?_ ?_ _ | (refine Lies.laid ?_; (simp only [size_of_drew, size_of_setCell, World.size_alloc]; done)) | exact Lies.new _ _ _ | exact Lies.laid2 _ _ _ _ | refine Lies.alloc ?_ _ | refine Lies.drew ?_ | refine Lies.call ?_ b17 | refine Lies.call ?_ b16 | refine Lies.call ?_ b15))
             all_goals first | exact Nat.ne_of_lt (Nat.lt_succ_self _) | exact Nat.ne_of_gt (Nat.lt_succ_self _) | exact Nat.ne_of_lt lt_W14_W15 | exact Nat.ne_of_gt lt_W14_W15 | exact Nat.ne_of_lt lt_W14_W16 | exact Nat.ne_of_gt lt_W14_W16 | exact Nat.ne_of_lt lt_W14_W17 | exact Nat.ne_of_gt lt_W14_W17 | exact Nat.ne_of_lt lt_W15_W16 | exact Nat.ne_of_gt lt_W15_W16 | exact Nat.ne_of_lt lt_W15_W17 | exact Nat.ne_of_gt lt_W15_W17 | exact Nat.ne_of_lt lt_W16_W17 | exact Nat.ne_of_gt lt_W16_W17 | (show ¬ _ = _; (try simp only [size_of_drew, size_of_setCell, World.size_alloc]); omega)
             done)
          | (with_reducible (repeat (first | refine Lies.far ?_ ?_ _ | (refine Lies.laid ?_; (simp only [size_of_drew, size_of_setCell, World.size_alloc]; done)) | exact Lies.new _ _ _ | exact Lies.laid2 _ _ _ _ | refine Lies.alloc ?_ _ | refine Lies.drew ?_ | refine Lies.call ?_ b17 | refine Lies.call ?_ b16 | refine Lies.call ?_ b15))
             all_goals first | exact Nat.ne_of_lt (Nat.lt_succ_self _) | exact Nat.ne_of_gt (Nat.lt_succ_self _) | exact Nat.ne_of_lt lt_W14_W15 | exact Nat.ne_of_gt lt_W14_W15 | exact Nat.ne_of_lt lt_W14_W16 | exact Nat.ne_of_gt lt_W14_W16 | exact Nat.ne_of_lt lt_W14_W17 | exact Nat.ne_of_gt lt_W14_W17 | exact Nat.ne_of_lt lt_W15_W16 | exact Nat.ne_of_gt lt_W15_W16 | exact Nat.ne_of_lt lt_W15_W17 | exact Nat.ne_of_gt lt_W15_W17 | exact Nat.ne_of_lt lt_W16_W17 | exact Nat.ne_of_gt lt_W16_W17 | (show ¬ _ = _; (try simp only [size_of_drew, size_of_setCell, World.size_alloc]); omega)
             done)
      · first | exact Nat.le_refl _ | exact Nat.le_succ _ | exact le_W14_W15 | exact Nat.le_succ_of_le le_W14_W15 | exact le_W14_W16 | exact Nat.le_succ_of_le le_W14_W16 | exact le_W14_W17 | exact Nat.le_succ_of_le le_W14_W17 | omega
      · refine Lib.hid ?_
        refine EntF.E (lo := ?_) (hi := W17.heap.size) ?_
        rotate_left
        with_reducible (repeat (first | refine EntF.far ?_ ?_ _ | refine EntF.alloc ?_ _ | refine EntF.drew ?_))
        · exact ef2.fresh
        all_goals ((try dsimp only); (try simp only [size_of_drew, size_of_setCell, World.size_alloc]); omega)
      · exact Lib.hid ve2
      · refine Lib.hid ?_
        with_reducible (repeat (first | refine Since.setCell ?_ ?_ _ | refine Since.alloc ?_ _ | refine Since.drew ?_ | refine Since.call ?_ b17 | refine Since.call ?_ b16 | refine Since.call ?_ b15))
        · exact Since.of (Below.refl _ _)
        all_goals first | exact Nat.le_refl _ | exact Nat.le_succ _ | exact le_W14_W15 | exact Nat.le_succ_of_le le_W14_W15 | exact le_W14_W16 | exact Nat.le_succ_of_le le_W14_W16 | exact le_W14_W17 | exact Nat.le_succ_of_le le_W14_W17 | (show _ ≤ _; (try simp only [size_of_drew, size_of_setCell, World.size_alloc]); omega)
  case' rest =>
    obtain ⟨n_h0, A2, n2, c2, q3, rfl, L_h0, g_h0, J2, VE2, S⟩ := hcut
    have bS := S.out.below
    clear S
  have d_h0_a : ¬ n_h0 = w.heap.size := by have := L_a.out.inside; omega
  have e_h0_a : ¬ w.heap.size = n_h0 := fun e => d_h0_a e.symm
  have d_h0_e : ¬ n_h0 = w.heap.size + 1 := by have := L_e.out.inside; omega
  have e_h0_e : ¬ w.heap.size + 1 = n_h0 := fun e => d_h0_e e.symm
  have d_h0_w0 : ¬ n_h0 = n_w0 := by have := L_w0.out.inside; omega
  have e_h0_w0 : ¬ n_w0 = n_h0 := fun e => d_h0_w0 e.symm
  have d_h0_x : ¬ n_h0 = W6.heap.size := by have := L_x.out.inside; omega
  have e_h0_x : ¬ W6.heap.size = n_h0 := fun e => d_h0_x e.symm
  have d_h0_y : ¬ n_h0 = W7.heap.size := by have := L_y.out.inside; omega
  have e_h0_y : ¬ W7.heap.size = n_h0 := fun e => d_h0_y e.symm
  have d_h0_g0 : ¬ n_h0 = W8.heap.size := by have := L_g0.out.inside; omega
  have e_h0_g0 : ¬ W8.heap.size = n_h0 := fun e => d_h0_g0 e.symm
  skip
  replace JB := Lib.hid (JB.out.trans (bS.mono JB.out.size))
  replace E_g := Lib.hid (E_g.out.kept bS)
  have sz_wc := bS.size
  try simp only [World.size_alloc] at sz_wc
  replace L_a := Lib.hid (L_a.out.kept bS L_a.out.inside)
  replace L_e := Lib.hid (L_e.out.kept bS L_e.out.inside)
  replace L_w0 := Lib.hid (L_w0.out.kept bS L_w0.out.inside)
  replace L_x := Lib.hid (L_x.out.kept bS L_x.out.inside)
  replace L_y := Lib.hid (L_y.out.kept bS L_y.out.inside)
  replace L_g0 := Lib.hid (L_g0.out.kept bS L_g0.out.inside)
  replace B := Lib.hid (B.out.trans (bS.mono B.out.size))
  clear bS
  obtain rfl : n0 = n2 := by have h1 := J.out.1; have h2 := J2.out.1; have h3 := congrArg List.length (VJ.out.trans VE2.out.symm); simp only [List.length_map] at h3; omega
  have c_h00 : wc.cell? ⟨n_h0, 0, none⟩ = some (.int .i64 cd) := L_h0.out.cell 0
  have c_h01 : wc.cell? ⟨n_h0, 1, none⟩ = some (.int .i64 l1) := L_h0.out.cell 1
  have c_h02 : wc.cell? ⟨n_h0, 2, none⟩ = some (.int .i64 s1) := L_h0.out.cell 2
  have c_h03 : wc.cell? ⟨n_h0, 3, none⟩ = some (.int .i64 r1) := L_h0.out.cell 3
  have c_h04 : wc.cell? ⟨n_h0, 4, none⟩ = some (.slice A2 n0 c2) := L_h0.out.cell 4
  have c_w00 : wc.cell? ⟨n_w0, 0, none⟩ = some (.int .i64 cd) := L_w0.out.cell 0
  have c_w01 : wc.cell? ⟨n_w0, 1, none⟩ = some (.int .i64 l1) := L_w0.out.cell 1
  have c_w02 : wc.cell? ⟨n_w0, 2, none⟩ = some (.int .i64 s1) := L_w0.out.cell 2
  have c_w03 : wc.cell? ⟨n_w0, 3, none⟩ = some (.int .i64 r1) := L_w0.out.cell 3
  have c_w04 : wc.cell? ⟨n_w0, 4, none⟩ = some (.slice A0 n0 c0) := L_w0.out.cell 4
  go_wp2_with fail
  refine (eqNodeResult_same _ _ _ _ _ _ _ _ _ q3 q0 _ J2.out (J.out.kept JB.out) (VE2.out.trans VJ.out.symm) (Nat.le_trans nj (by decide))).mono ?_
  rintro e W18 ⟨rfl, b18⟩
  replace JB := Lib.hid (JB.out.trans (b18.mono JB.out.size))
  replace E_g := Lib.hid (E_g.out.kept b18)
  have sz_W18 := b18.size
  try simp only [World.size_alloc] at sz_W18
  replace L_a := Lib.hid (L_a.out.kept b18 L_a.out.inside)
  replace L_e := Lib.hid (L_e.out.kept b18 L_e.out.inside)
  replace L_w0 := Lib.hid (L_w0.out.kept b18 L_w0.out.inside)
  replace L_x := Lib.hid (L_x.out.kept b18 L_x.out.inside)
  replace L_y := Lib.hid (L_y.out.kept b18 L_y.out.inside)
  replace L_g0 := Lib.hid (L_g0.out.kept b18 L_g0.out.inside)
  replace L_h0 := Lib.hid (L_h0.out.kept b18 L_h0.out.inside)
  replace B := Lib.hid (B.out.trans (b18.mono B.out.size))
  clear b18
  clear c_h00 c_h01 c_h02 c_h03 c_h04
  clear c_w00 c_w01 c_w02 c_w03 c_w04
  have c_g00 : W18.cell? ⟨W8.heap.size, 0, none⟩ = some (.int .i64 cd) := L_g0.out.cell 0
  have c_g01 : W18.cell? ⟨W8.heap.size, 1, none⟩ = some (.int .i64 l1) := L_g0.out.cell 1
  have c_g02 : W18.cell? ⟨W8.heap.size, 2, none⟩ = some (.int .i64 s1) := L_g0.out.cell 2
  have c_g03 : W18.cell? ⟨W8.heap.size, 3, none⟩ = some (.int .i64 r1) := L_g0.out.cell 3
  have c_g04 : W18.cell? ⟨W8.heap.size, 4, none⟩ = some (.slice A1 n0 c1) := L_g0.out.cell 4
  go_wp2_with fail
  refine (heldNodeResult_any 1 _ _ _ _ _ _ _ q2 _ E_g.out.entries MK.out (by decide) (by decide) (by omega) E_g.out.small).mono ?_
  rintro e W19 ⟨rfl, b19⟩
  replace JB := Lib.hid (JB.out.trans (b19.mono JB.out.size))
  replace E_g := Lib.hid (E_g.out.kept b19)
  have sz_W19 := b19.size
  try simp only [World.size_alloc] at sz_W19
  replace L_a := Lib.hid (L_a.out.kept b19 L_a.out.inside)
  replace L_e := Lib.hid (L_e.out.kept b19 L_e.out.inside)
  replace L_w0 := Lib.hid (L_w0.out.kept b19 L_w0.out.inside)
  replace L_x := Lib.hid (L_x.out.kept b19 L_x.out.inside)
  replace L_y := Lib.hid (L_y.out.kept b19 L_y.out.inside)
  replace L_g0 := Lib.hid (L_g0.out.kept b19 L_g0.out.inside)
  replace L_h0 := Lib.hid (L_h0.out.kept b19 L_h0.out.inside)
  replace B := Lib.hid (B.out.trans (b19.mono B.out.size))
  clear b19
  clear c_g00 c_g01 c_g02 c_g03 c_g04
  go_wp2
  go_ret
  exact ⟨rfl, B.out⟩

end Go.Proofs.Ytbnlgmcjklfcoaa
