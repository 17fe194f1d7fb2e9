/- The walks of impl.ground's last and freeAll. -/
import Derived.Test.YtpgoildfjkokiaaGreatLayAll
import Derived.Test.YtpgoildfjkokiaaGreatSpecArena2
import Derived.Test.YtpgoildfjkokiaaGreatWithout
namespace Go.Proofs.YtpgoildfjkokiaaGreat
open Go.RowKit

/-- An arena that is worked at: the block G, the places, the row of their pointers. -/
structure Grd (w : World) (lo G : Nat) (d : Int) (m o : Value) (pb cp n : Nat) (ps : List LV) : Prop where
  L : Lies w G 109 #[.int .i64 d, .slice (some ⟨pb, 0, none⟩) n cp, m, o]
  P : Places w lo d ps
  R : Ptrs w lo pb n ps
  g : G < lo
section
variable {w w' : World} {lo G pb cp n : Nat} {d : Int} {m o : Value} {ps : List LV}
theorem Grd.kept (h : Grd w lo G d m o pb cp n ps) (hb : Below w.heap.size w w') : Grd w' lo G d m o pb cp n ps :=
  ⟨h.L.kept hb h.L.inside, h.P.kept hb, ⟨h.R.l, fun k p hk => (hb.cell (p := ⟨pb, k, none⟩) h.R.i.2).trans (h.R.c k p hk), ⟨h.R.i.1, Nat.lt_of_lt_of_le h.R.i.2 hb.size⟩, h.R.x⟩, h.g⟩
theorem Laid.grd {w0 : World} {v : Value} (h : Laid w0 w lo G d m o n ps v) (hn : 0 < n) : ∃ pb cp, v = .slice (some ⟨pb, 0, none⟩) n cp ∧ Grd w lo G d m o pb cp n ps := by
  obtain ⟨hl, hs⟩ := h.S
  rw [List.length_map, Nat.mul_one] at hl
  rcases hs with ⟨e1, e2⟩ | ⟨g, cap, cur, rfl, h2, h3, h4, h5, h6, h7⟩
  · omega
  · have hb := ownsRow_block2 h.S g rfl
    refine ⟨g, cap, rfl, h.G', h.P, ⟨hl, fun k p hk => ?_, hb, h.V g rfl⟩, h.g⟩
    rw [cell_of_row w g k cur 81 (0, 0) h3]
    have hk2 : k < n := by rw [← hl]; exact (List.getElem?_eq_some_iff.1 hk).1
    have h8 : (cur.toList.take (n * 1))[k]? = some p.ptr := by rw [h7]; simp [hk]
    rw [List.getElem?_take, if_pos (by omega)] at h8
    simpa using h8
/-- One place is written anew. -/
theorem Grd.put (h : Grd w lo G d m o pb cp n ps) {i : Nat} {p p' : LV} (hi : ps[i]? = some p) (hg : p'.g = p.g) (hs : w.heap.size ≤ w'.heap.size) (hk : ∀ b, b < w.heap.size → b ≠ p.g → w'.heap[b]? = w.heap[b]?) (hp : PlaceOk w' lo d p') (hr : ∀ b, p'.row b → p.row b ∨ w.heap.size ≤ b) : Grd w' lo G d m o pb cp n (ps.set i p') := by
  have hpi := h.P.P p (List.mem_of_getElem? hi)
  have hgl := hpi.g
  have hG := h.g
  have npb : pb ≠ p.g := fun e => h.R.x p (List.mem_of_getElem? hi) (Or.inl e.symm)
  refine ⟨(hk G h.L.inside (by omega)).trans h.L, h.P.put hi hg hs hk hp hr, ⟨by rw [List.length_set]; exact h.R.l, fun k q hq => ?_, ⟨h.R.i.1, Nat.lt_of_lt_of_le h.R.i.2 hs⟩, fun q hq => ?_⟩, h.g⟩
  · rw [World.cell?_of_block (w := w) (a := ⟨pb, k, none⟩) (hk pb h.R.i.2 npb)]
    rw [List.getElem?_set] at hq
    by_cases e : i = k
    · subst e
      rw [if_pos rfl, if_pos (List.getElem?_eq_some_iff.1 hi).1] at hq
      injection hq with hq; subst hq
      rw [h.R.c i p hi]; unfold LV.ptr; rw [hg]
    · rw [if_neg e] at hq; exact h.R.c k q hq
  · rcases List.mem_or_eq_of_mem_set hq with hq | rfl
    · exact h.R.x q hq
    · rintro (e | e)
      · exact npb (e.symm.trans hg)
      · rcases hr _ e with h1 | h1
        · exact h.R.x p (List.mem_of_getElem? hi) (Or.inr h1)
        · have := h.R.i.2; omega
end

theorem same_vacant {lv ns rt : Int} {qs : List EV} {vs : List EVal} (h : qs.map EV.val = vs) : ((lv == 0) && (ns == 0) && (rt == -1) && sameL EV.val qs []) = decide ((lv, ns, rt, vs) = vacV) := by
  subst h
  unfold sameL vacV
  by_cases h1 : lv = 0 <;> by_cases h2 : ns = 0 <;> by_cases h3 : rt = -1 <;> simp [h1, h2, h3]

theorem entries_none (w : World) : Entries w none 0 [] := ⟨rfl, fun h => absurd h (Nat.lt_irrefl 0), fun q hq => by simp at hq⟩

set_option maxHeartbeats 400000 in
theorem last_any (G pb cp n : Nat) (w : World) (hc : w.cell? ⟨G, 1, none⟩ = some (.slice (some ⟨pb, 0, none⟩) n cp)) (hn : n ≤ 40) :
    Calls Tryz.prog 90 #[.pointer (some ⟨G, 0, none⟩)] w fun e w' => e = .returned (.int .i64 ((n : Int) - 1)) ∧ w = w' := by
  go_enter Tryz.func90, Tryz.ntmps90
  go_wp2
  go_ret
  exact ⟨rfl, rfl⟩

theorem hty_node (lv d ns rt : Int) (A : Option Addr) (n c : Nat) (w : World) : (method 323 (hty lv) (.agg #[.int .i64 d, .slice A n c, .int .i64 lv, .int .i64 ns, .int .i64 rt]) "loop.example/g00680/impl.node").run Tryz.prog w = .ok (169, .agg #[.int .i64 d, .slice A n c, .int .i64 lv, .int .i64 ns, .int .i64 rt]) w := by
  unfold hty
  split <;> kernel_rfl

/-- The places behind the marks: free are those that are listed. -/
def Freed (ps ps' : List LV) (fs : List Int) : Prop := ps'.length = ps.length ∧ ∀ (i : Nat) (q : LV), ps'[i]? = some q → ∃ p, ps[i]? = some p ∧ q = { p with fr := fs.contains (i : Int) }
theorem Freed.vals {ps ps' : List LV} {fs : List Int} (h : Freed ps ps' fs) : ps'.map LV.val = ps.map LV.val := by
  apply List.ext_getElem?
  intro i
  rw [List.getElem?_map, List.getElem?_map]
  cases hq : ps'[i]? with
  | none =>
    have h1 := List.getElem?_eq_none_iff.1 hq
    rw [List.getElem?_eq_none_iff.2 (by rw [← h.1]; exact h1)]
  | some q =>
    obtain ⟨p, hp, rfl⟩ := h.2 i q hq
    rw [hp]; rfl
theorem Freed.start {ps : List LV} (h : ∀ p ∈ ps, p.fr = false) : Freed ps ps [] := by
  refine ⟨rfl, fun i q hq => ⟨q, hq, ?_⟩⟩
  have := h q (List.mem_of_getElem? hq)
  cases q; simp only at this; subst this; rfl
theorem Freed.next {ps ps' : List LV} {fs : List Int} {k j : Nat} {q : LV} (h : Freed ps ps' (fs.take k)) (hk : fs[k]? = some (j : Int)) (hj : ps'[j]? = some q) : Freed ps (ps'.set j { q with fr := true }) (fs.take (k + 1)) := by
  refine ⟨by rw [List.length_set]; exact h.1, fun i r hr => ?_⟩
  rw [List.take_add_one, hk]
  rw [List.getElem?_set] at hr
  by_cases e : j = i
  · subst e
    rw [if_pos rfl, if_pos (List.getElem?_eq_some_iff.1 hj).1] at hr
    injection hr with hr; subst hr
    obtain ⟨p, hp, rfl⟩ := h.2 j q hj
    refine ⟨p, hp, ?_⟩
    simp
  · rw [if_neg e] at hr
    obtain ⟨p, hp, rfl⟩ := h.2 i r hr
    refine ⟨p, hp, ?_⟩
    have hne : ¬ (i : Int) = (j : Int) := by omega
    simp [List.contains_eq_any_beq, List.any_append, hne]

set_option maxRecDepth 100000 in
set_option maxHeartbeats 6400000 in
theorem freeAll_any (d : Int) (lo G pb cp n n2 c2 : Nat) (A2 : Option Addr) (fs : List Int) (m o : Value) (ps : List LV) (w0 w : World) (hG : Grd w lo G d m o pb cp n ps) (hnew : ∀ p ∈ ps, p.fr = false) (hI : Ints w0 0 A2 n2 fs) (hb : Below w0.heap.size w0 w) (hlo : w0.heap.size ≤ lo) (hlow : lo ≤ w.heap.size) (hn : n ≤ 40) (m2 : n2 ≤ maxLen) :
    Calls Tryz.prog 88 #[.pointer (some ⟨G, 0, none⟩), .slice A2 n2 c2] w fun e w' => e = .returned (.int .i64 (freeF (ps.map LV.val) fs)) ∧ Below lo w w' ∧ (freeF (ps.map LV.val) fs = 0 → ∃ ps', Grd w' lo G d m o pb cp n ps' ∧ Freed ps ps' fs) := by
  have HG := Lib.hid hG
  have HI := Lib.hid hI
  have HL2 : Hid (fs.length = n2) := hI.1
  have HL1 : Hid ((ps.map LV.val).length = n) := by show List.length _ = n; rw [List.length_map]; exact hG.R.l
  have B := Lib.hid hb
  have FR0 := Lib.hid (Freed.start hnew)
  have g1 : w.cell? ⟨G, 1, none⟩ = some (.slice (some ⟨pb, 0, none⟩) n cp) := hG.L.cell 1
  clear hG hI hb hnew
  have m2' := m2
  unfold maxLen at m2'
  cases hr : allIn 0 ((n : Int) - 1) fs
  · have HF : Hid (freeF (ps.map LV.val) fs = 3) := freeF_out (by rw [HL1.out]; exact hr)
    have HR := Lib.hid hr
    clear hr
    go_enter Tryz.func88, Tryz.ntmps88
    go_wp2_with fail
    refine (last_any _ _ _ _ _ g1 hn).mono ?_
    rintro e w' ⟨rfl, rfl⟩
    go_wp2_with fail
    refine (within_is _ _ _ _ _ _ fs _ false HR.out (HI.out.kept B.out) m2).mono ?_
    rintro e w' ⟨rfl, rfl⟩
    go_wp2
    go_ret
    exact ⟨ret_i64 HF.out.symm, Below.refl _ _, fun h => by rw [HF.out] at h; omega⟩
  have HR := Lib.hid hr
  clear hr
  cases hs : risesL fs
  · have HF : Hid (freeF (ps.map LV.val) fs = 1) := freeF_fall (by rw [HL1.out]; exact HR.out) hs
    have HS := Lib.hid hs
    clear hs
    go_enter Tryz.func88, Tryz.ntmps88
    go_wp2_with fail
    refine (last_any _ _ _ _ _ g1 hn).mono ?_
    rintro e w' ⟨rfl, rfl⟩
    go_wp2_with fail
    refine (within_is _ _ _ _ _ _ fs _ true HR.out (HI.out.kept B.out) m2).mono ?_
    rintro e w' ⟨rfl, rfl⟩
    go_wp2_with fail
    refine (rises_any _ _ _ _ fs _ (HI.out.kept B.out) m2).mono ?_
    rintro e W1 ⟨rfl, b1⟩
    have hB1 := Lib.hid (b1.mono hlow)
    rw [HS.out]
    clear b1
    go_wp2
    go_ret
    exact ⟨ret_i64 HF.out.symm, hB1.out, fun h => by rw [HF.out] at h; omega⟩
  have HS := Lib.hid hs
  have HRN : Hid (allIn 0 (((ps.map LV.val).length : Int) - 1) fs = true) := by show allIn _ _ _ = _; rw [HL1.out]; exact HR.out
  clear hs
  go_enter Tryz.func88, Tryz.ntmps88
  go_wp2_with fail
  refine (last_any _ _ _ _ _ g1 hn).mono ?_
  rintro e w' ⟨rfl, rfl⟩
  go_wp2_with fail
  refine (within_is _ _ _ _ _ _ fs _ true HR.out (HI.out.kept B.out) m2).mono ?_
  rintro e w' ⟨rfl, rfl⟩
  go_wp2_with fail
  refine (rises_any _ _ _ _ fs _ (HI.out.kept B.out) m2).mono ?_
  rintro e W1 ⟨rfl, b1⟩
  have hB1 := Lib.hid (b1.mono hlow)
  have hG1 := Lib.hid (HG.out.kept b1)
  rw [HS.out]
  clear b1 g1
  go_wp2
  go_loopw [17] (fun i wr => ∃ (k : Nat) (qs : List LV), k ≤ n2 ∧ i = .int .i64 k ∧ Hid (Grd wr lo G d m o pb cp n qs) ∧ Hid (Freed ps qs (fs.take k)) ∧ Hid (Below lo w wr) ∧ Hid (∀ (j : Nat) (x : Int), j < k → fs[j]? = some x → vacAt (ps.map LV.val) x = true)) (fun i _ => n2 - (intOf i).toNat)
  case atStart => exact ⟨0, ps, Nat.zero_le _, rfl, hG1, FR0, hB1, fun j x hj => absurd hj (Nat.not_lt_zero _)⟩
  case round =>
    obtain ⟨k, qs, hk', rfl, hU, hF, hB, hA⟩ := hrel
    have HBr := Lib.hid (B.out.trans (hB.out.mono hlo))
    by_cases hlt : k < n2
    · obtain ⟨b, o', x, rfl, _, hb, d0, hx⟩ := HI.out.cellAt hlt
      have hxi := allIn_get HR.out hx.out
      obtain ⟨j, rfl⟩ := Int.eq_ofNat_of_zero_le hxi.1
      have hjn : j < n := by omega
      have hjn' : (j : Int) < (n : Int) := by omega
      have hlt' : (k : Int) < (n2 : Int) := by omega
      have hql := hU.out.R.l
      obtain ⟨q, hq⟩ : ∃ q, qs[j]? = some q := ⟨_, List.getElem?_eq_getElem (by omega)⟩
      have HQ := Lib.hid hq
      have HPO := Lib.hid (hU.out.P.P q (List.mem_of_getElem? hq))
      have HX := Lib.hid hx.out
      have e0 : wr.cell? ⟨b, o' + k, none⟩ = some (.int .i64 (j : Int)) := (HBr.out.cell (p := ⟨b, o' + k, none⟩) hb).trans d0
      have g1 : wr.cell? ⟨G, 1, none⟩ = some (.slice (some ⟨pb, 0, none⟩) n cp) := hU.out.L.cell 1
      have g2 : wr.cell? ⟨pb, j, none⟩ = some (.pointer (some ⟨q.g, 0, none⟩)) := hU.out.R.c j q hq
      have g3 : wr.cell? ⟨q.g, 0, none⟩ = some (.iface (hty q.lv) (.agg #[.int .i64 d, .slice q.A q.n q.c, .int .i64 q.lv, .int .i64 q.ns, .int .i64 q.rt])) := HPO.out.L.cell 0
      have hm1 := hty_node q.lv d q.ns q.rt q.A q.n q.c
      have hqg := HPO.out.g
      obtain ⟨hok, h5, hent, _, _⟩ := nodeF_zero HPO.out.N
      have hq5 : q.n ≤ 5 := by have h1 := HPO.out.O.1; have h2 := HPO.out.S.1; omega
      have HE := Lib.hid (lens_of hent)
      have hd2 : 2 ≤ d := hok.1.1
      have hd3 : d ≤ 3 := hok.1.2
      have HVA : Hid (vacAt (ps.map LV.val) (j : Int) = decide ((q.lv, q.ns, q.rt, q.vs) = vacV)) := by
        show vacAt _ _ = _
        rw [← hF.out.vals]
        exact vacAt_is (v := q.val) (by rw [List.getElem?_map, hq]; rfl)
      clear d0 hx hq hok h5 hent hxi
      go_wp2_with fail
      refine (bodyNode_any d q.lv q.ns q.rt q.n q.c d.toNat q.A q.vs q.ss _ HPO.out.S HPO.out.O (by omega) HE.out (by omega) (by omega)).mono ?_
      rintro e W2 ⟨A', c', es, rfl, rs, vq, b2⟩
      have hU2 := Lib.hid (hU.out.kept b2)
      have hB2 := Lib.hid (hB.out.trans (b2.mono (by have := hB.out.size; omega)))
      have ER := Lib.hid rs.entries
      have VQ := Lib.hid vq
      clear b2 rs vq e0 g1 g2 g3 hm1 HPO
      go_wp2_with fail
      refine (vacantNode_any _).mono ?_
      rintro e W3 ⟨rfl, b3⟩
      have hU3 := Lib.hid (hU2.out.kept b3)
      have hB3 := Lib.hid (hB2.out.trans (b3.mono (by have := hB2.out.size; omega)))
      replace ER := Lib.hid (ER.out.kept b3)
      clear b3 hU2 hB2
      go_wp2_with fail
      refine (sameNode_any q.lv q.ns q.rt 0 0 (-1) q.n c' 0 0 A' none es [] _ ER.out (entries_none _) (Nat.le_trans hq5 (by decide)) (Nat.zero_le _)).mono ?_
      rintro e W4 ⟨rfl, b4⟩
      rw [same_vacant VQ.out]
      have hU4 := Lib.hid (hU3.out.kept b4)
      have hB4 := Lib.hid (hB3.out.trans (b4.mono (by have := hB3.out.size; omega)))
      clear b4 hU3 hB3 ER
      cases hv : decide ((q.lv, q.ns, q.rt, q.vs) = vacV)
      · have HF : Hid (freeF (ps.map LV.val) fs = 1) := freeF_full HRN.out HX.out (by rw [HVA.out]; exact hv)
        clear hv hA hF hU hB
        go_wp2
        go_ret
        exact ⟨ret_i64 HF.out.symm, hB4.out, fun h => by rw [HF.out] at h; omega⟩
      · have hA' := Lib.hid (upto_next (P := fun x => vacAt (ps.map LV.val) x = true) hA.out HX.out (by rw [HVA.out]; exact hv))
        have hF' := Lib.hid (hF.out.next HX.out HQ.out)
        have hPQ := Lib.hid (hU4.out.P.P q (List.mem_of_getElem? HQ.out))
        have g1 : W4.cell? ⟨G, 1, none⟩ = some (.slice (some ⟨pb, 0, none⟩) n cp) := hU4.out.L.cell 1
        have g2 : W4.cell? ⟨pb, j, none⟩ = some (.pointer (some ⟨q.g, 0, none⟩)) := hU4.out.R.c j q HQ.out
        have g3 : W4.cell? ⟨q.g, 1, none⟩ = some (.bool q.fr) := hPQ.out.L.cell 1
        have f3 : W4.frozen? ⟨q.g, 1, none⟩ = false := hPQ.out.L.thawed 1
        have hU5 : Hid (Grd (W4.setCell ⟨q.g, 1, none⟩ (.bool true)) lo G d m o pb cp n (qs.set j { q with fr := true })) := by
          have hk5 : ∀ b, b < W4.heap.size → b ≠ q.g → (W4.setCell ⟨q.g, 1, none⟩ (.bool true)).heap[b]? = W4.heap[b]? := fun b _ hne => heap_setCell_other W4 ⟨q.g, 1, none⟩ b _ hne
          have hs5 : W4.heap.size ≤ (W4.setCell ⟨q.g, 1, none⟩ (.bool true)).heap.size := Nat.le_of_eq (size_of_setCell _ _ _).symm
          have hy := hPQ.out.Y
          refine hU4.out.put HQ.out rfl hs5 hk5 ?_ (fun b h => Or.inl h)
          refine ⟨hPQ.out.L.set 1 _, hPQ.out.S.block hPQ.out.F hs5 (fun b h0 e => hk5 b (Fresh.in_slots hPQ.out.S h0 e) (fun e' => hy (Or.inl ⟨h0, e' ▸ e⟩))), hPQ.out.O, hPQ.out.N, hPQ.out.W.blockF hPQ.out.E hs5 (fun b h0 e => hk5 b (Fresh.in_ints hPQ.out.W h0 e) (fun e' => hy (Or.inr ⟨h0, e' ▸ e⟩))), hPQ.out.g, hPQ.out.F, hPQ.out.E, hy⟩
        have hB5 := Lib.hid (hB4.out.setCell (p := ⟨q.g, 1, none⟩) hqg (.bool true))
        clear hv hA hF hU hB hPQ hU4 hB4 HVA HBr
        go_wp2
        go_roundw
        case rel => exact ⟨k + 1, _, by omega, by go_num, hU5, hF', hB5, hA'⟩
        case measure => simp [intOf]; omega
    · have HF : Hid (freeF (ps.map LV.val) fs = 0) := freeF_zero HRN.out HS.out (upto_end hA.out (by rw [HL2.out]; omega))
      have hFF : Hid (Freed ps qs fs) := by have := hF.out; rwa [List.take_of_length_le (by rw [HL2.out]; omega)] at this
      clear hA hF
      go_wp2
      go_ret
      exact ⟨ret_i64 HF.out.symm, hB.out, fun _ => ⟨qs, hU.out, hFF.out⟩⟩

end Go.Proofs.YtpgoildfjkokiaaGreat
