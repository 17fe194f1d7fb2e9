/- The walk of impl.ground's retireAll. -/
import Derived.Test.YtpgoildfjkokiaaGreatRetire3
namespace Go.Proofs.YtpgoildfjkokiaaGreat
open Go.RowKit

theorem isRetired_q (m G M k : Nat) (id : Int) (f : Int → Option Nat) (w : World) (r : Bool) (hr : (f id).isSome = r) (hc : w.cell? ⟨G, 2, none⟩ = some (.map (some M))) (hM : PMap w M k f) (hid : (Lit.int .i64 id).wf = true) :
    Calls Tryz.prog 62 #[.pointer (some ⟨G, 0, none⟩), .int .i64 id] (w.drewN m) fun e w' => e = .returned (.bool r) ∧ ∃ m', w' = w.drewN m' :=
  (isRetired_any G M k id f (w.drewN m) hc (hM.block rfl) hid).mono fun _ _ h => ⟨by rw [h.1, hr], m, h.2.symm⟩

/-- The same places, but for who watches them. -/
def Kept (ps qs : List LV) : Prop := qs.length = ps.length ∧ ∀ (i : Nat) (q : LV), qs[i]? = some q → ∃ p, ps[i]? = some p ∧ q.g = p.g ∧ q.val = p.val ∧ q.fr = p.fr
theorem Kept.refl (ps : List LV) : Kept ps ps := ⟨rfl, fun i q h => ⟨q, h, rfl, rfl, rfl⟩⟩
theorem Kept.put {ps qs : List LV} {j : Nat} {q r : LV} {xs : List Int} (h : Kept ps qs) (hj : qs[j]? = some q) (hr : q.seen r xs) : Kept ps (qs.set j r) := by
  obtain ⟨g5, n1, cap, rfl⟩ := hr
  refine ⟨by rw [List.length_set]; exact h.1, fun i t ht => ?_⟩
  rw [List.getElem?_set] at ht
  by_cases e : j = i
  · subst e
    rw [if_pos rfl, if_pos (List.getElem?_eq_some_iff.1 hj).1] at ht
    injection ht with ht; subst ht
    obtain ⟨p, h1, h2, h3, h4⟩ := h.2 j q hj
    exact ⟨p, h1, h2, h3, h4⟩
  · rw [if_neg e] at ht; exact h.2 i t ht

/-- retireAll's code. -/
def retC (n : Nat) (fs : List Int) (vs : List RVal) : Int := if firstNZ (retF n) vs ≠ 0 then firstNZ (retF n) vs else if takenF fs (vs.map (·.1)) then 6 else 0
theorem retC_stop {n : Nat} {fs : List Int} {vs : List RVal} (h : firstNZ (retF n) vs ≠ 0) : retC n fs vs = firstNZ (retF n) vs := by unfold retC; rw [if_pos h]
theorem retC_taken {n : Nat} {fs : List Int} {vs : List RVal} (h : firstNZ (retF n) vs = 0) : retC n fs vs = if takenF fs (vs.map (·.1)) then 6 else 0 := by unfold retC; rw [if_neg (by simp [h])]

theorem take_next_has {ids : List Int} {k : Nat} {id : Int} (h : ids[k]? = some id) (x : Int) : (ids.take (k + 1)).contains x = ((ids.take k).contains x || (x == id)) := by
  rw [List.take_add_one, h]
  by_cases e : x = id <;> simp [e]

/-- Each of the retired places is noted in the map, with who watches it. -/
def Watched (qs : List LV) (f : Int → Option Nat) (us : List RVal) : Prop := ∀ (i : Nat) (u : RVal), us[i]? = some u → ∃ (j : Nat) (q : LV), u.1 = (j : Int) ∧ qs[j]? = some q ∧ f u.1 = some q.g ∧ q.ws = u.2
theorem Watched.nil (qs : List LV) (f : Int → Option Nat) : Watched qs f [] := fun i u h => by simp at h
theorem Watched.put {qs : List LV} {f : Int → Option Nat} {us : List RVal} {j : Nat} {q r : LV} {ws : List Int} (h : Watched qs f us) (hq : qs[j]? = some q) (hr : q.seen r ws) (hn : (us.map (·.1)).contains (j : Int) = false) : Watched (qs.set j r) (fun x => if x = (j : Int) then some q.g else f x) (us ++ [((j : Int), ws)]) := by
  obtain ⟨g5, n1, cap, rfl⟩ := hr
  have hjl := (List.getElem?_eq_some_iff.1 hq).1
  intro i u hu
  rcases Nat.lt_or_ge i us.length with hi | hi
  · rw [List.getElem?_append_left hi] at hu
    obtain ⟨j', q', e1, e2, e3, e4⟩ := h i u hu
    have hne : u.1 ≠ (j : Int) := by
      intro e
      have : (us.map (·.1)).contains (j : Int) = true := by
        rw [List.contains_iff_mem]; exact List.mem_map.2 ⟨u, List.mem_of_getElem? hu, e⟩
      rw [hn] at this; exact absurd this (by decide)
    refine ⟨j', q', e1, ?_, by simp only [if_neg hne]; exact e3, e4⟩
    rw [List.getElem?_set, if_neg (by rintro rfl; exact hne e1)]; exact e2
  · rw [List.getElem?_append_right hi] at hu
    have hi0 : i - us.length = 0 := by have := (List.getElem?_eq_some_iff.1 hu).1; simp at this; omega
    rw [hi0] at hu
    simp only [List.getElem?_cons_zero, Option.some.injEq] at hu
    subst hu
    exact ⟨j, _, rfl, by rw [List.getElem?_set, if_pos rfl, if_pos hjl], by simp, rfl⟩

/-- Who watches stands in a row that no other place leads to, and not in the place's own slots. -/
def Apart (qs : List LV) : Prop := ∀ (i j : Nat) (p q : LV) (b : Nat), qs[i]? = some p → qs[j]? = some q → p.wrow b → (i ≠ j → ¬ q.row b) ∧ (0 < p.n → p.A ≠ some ⟨b, 0, none⟩)
theorem Apart.start {qs : List LV} (h : ∀ p ∈ qs, p.wn = 0) : Apart qs := fun i j p q b hi _ hb => by have h1 := h p (List.mem_of_getElem? hi); have h2 := hb.1; omega
theorem Apart.put {w : World} {lo : Nat} {d : Int} {qs : List LV} {j : Nat} {q r : LV} {xs : List Int} (h : Apart qs) (hP : ∀ p ∈ qs, PlaceOk w lo d p) (hq : qs[j]? = some q) (hr : q.seen r xs) (hf : ∀ b, r.wrow b → w.heap.size ≤ b) : Apart (qs.set j r) := by
  obtain ⟨g5, n1, cap, er⟩ := hr
  have hjl := (List.getElem?_eq_some_iff.1 hq).1
  have low : ∀ (i : Nat) (p : LV), qs[i]? = some p → ∀ b, p.row b → b < w.heap.size := fun i p hp b hb => ((hP p (List.mem_of_getElem? hp)).inside (Or.inr hb)).2
  have rrow : ∀ b, r.row b → q.row b ∨ r.wrow b := by
    rintro b (⟨a1, a2⟩ | ⟨a1, a2⟩)
    · rw [er] at a1 a2; exact Or.inl (Or.inl ⟨a1, a2⟩)
    · exact Or.inr ⟨a1, a2⟩
  have slot : ∀ b, (0 < r.n ∧ r.A = some ⟨b, 0, none⟩) → b < w.heap.size := by
    rintro b ⟨a1, a2⟩
    rw [er] at a1 a2
    exact low j q hq b (Or.inl ⟨a1, a2⟩)
  intro i k a c b ha hc hb
  rw [List.getElem?_set] at ha hc
  by_cases ei : j = i
  · subst ei
    rw [if_pos rfl, if_pos hjl] at ha
    injection ha with ha; subst ha
    have hbw := hf b hb
    refine ⟨fun hne hcb => ?_, fun h0 e => ?_⟩
    · rw [if_neg hne] at hc
      have := low k c hc b hcb; omega
    · have := slot b ⟨h0, e⟩; omega
  · rw [if_neg ei] at ha
    have hbl := low i a ha b (Or.inr hb)
    by_cases ek : j = k
    · subst ek
      rw [if_pos rfl, if_pos hjl] at hc
      injection hc with hc; subst hc
      refine ⟨fun hne hcb => ?_, (h i i a a b ha ha hb).2⟩
      rcases rrow b hcb with h1 | h1
      · exact (h i j a q b ha hq hb).1 hne h1
      · have := hf b h1; omega
    · rw [if_neg ek] at hc
      exact h i k a c b ha hc hb

set_option maxRecDepth 100000 in
set_option maxHeartbeats 12800000 in
theorem retireAll_any (d : Int) (lo G M pb cp n n3 c3 : Nat) (A3 : Option Addr) (rs : List RV) (fs : List Int) (o : Value) (ps : List LV) (w0 w : World) (h : Ret w lo G M d o pb cp n ps 0 0 [] (fun _ => none)) (hfr : ∀ (i : Nat) (p : LV), ps[i]? = some p → p.fr = fs.contains (i : Int)) (hR : Rets w0 A3 n3 rs) (hb : Below w0.heap.size w0 w) (hG : w0.heap.size ≤ G) (hM : w0.heap.size ≤ M) (hlo : lo ≤ w.heap.size) (hn : n ≤ 40) (hn3 : n3 ≤ 1048576) (hap : Apart ps) :
    Calls Tryz.prog 89 #[.pointer (some ⟨G, 0, none⟩), .slice A3 n3 c3] w fun e w' => e = .returned (.int .i64 (retC n fs (rs.map RV.val))) ∧ Below w0.heap.size w w' ∧ (retC n fs (rs.map RV.val) = 0 → ∃ o' qs f, Ret w' lo G M d o' pb cp n qs n3 n3 ((rs.map RV.val).map (·.1)) f ∧ Kept ps qs ∧ Watched qs f (rs.map RV.val) ∧ (∀ x : Int, (f x).isSome = ((rs.map RV.val).map (·.1)).contains x) ∧ Apart qs) := by
  have H := Lib.hid h
  have HAP := Lib.hid hap
  have HFR := Lib.hid hfr
  have HR := Lib.hid hR
  have B := Lib.hid hb
  have hglo := h.G'.g
  have hB0lo : w0.heap.size ≤ lo := by omega
  have HL3 : Hid ((rs.map RV.val).length = n3) := by show List.length _ = n3; rw [List.length_map]; exact hR.1
  clear h hfr hR hb hap
  go_enter Tryz.func89, Tryz.ntmps89
  go_wp2
  go_loopw [12] (fun i wr => ∃ k : Nat, k ≤ n3 ∧ i = .int .i64 k ∧ Hid (Below w.heap.size w wr) ∧ Hid (∀ (j : Nat) (u : RVal), j < k → (rs.map RV.val)[j]? = some u → retF n u = 0)) (fun i _ => n3 - (intOf i).toNat)
  case atStart => exact ⟨0, Nat.zero_le _, rfl, Below.refl _ _, fun j u hj => absurd hj (Nat.not_lt_zero _)⟩
  case round =>
    obtain ⟨k, hk', rfl, hB, hA⟩ := hrel
    by_cases hlt : k < n3
    · obtain ⟨b, o', id, X1, k1, e1, ws, rfl, hb, d0, d1, hx, hI, hk1⟩ := HR.out.cellAt hlt
      have hBr := Lib.hid (B.out.trans (hB.out.mono B.out.size))
      have e0 : wr.cell? ⟨b, o' + k * 2, none⟩ = some (.int .i64 id) := (hBr.out.cell (p := ⟨b, o' + k * 2, none⟩) hb).trans d0
      have e2 : wr.cell? ⟨b, o' + k * 2 + 1, none⟩ = some (.slice X1 k1 e1) := (hBr.out.cell (p := ⟨b, o' + k * 2 + 1, none⟩) hb).trans d1
      have HX := Lib.hid (rval_get hx.out)
      have hlt' : (k : Int) < (n3 : Int) := by omega
      have bA := Lib.hid (hB.out.alloc hB.out.size (.cells #[.int .i64 id, .slice X1 k1 e1] 123))
      have hc1 : Hid ((wr.alloc (.cells #[.int .i64 id, .slice X1 k1 e1] 123)).cell? ⟨G, 1, none⟩ = some (.slice (some ⟨pb, 0, none⟩) n cp)) := (H.out.kept bA.out).G'.L.cell 1
      have hGi := (H.out.kept bA.out).G'.L.inside
      have hI1 := Lib.hid (hI.out.kept (B.out.trans (bA.out.mono B.out.size)))
      clear d0 d1 hx
      go_wp2_with fail
      refine (retiredFault_any G pb cp n k1 e1 id X1 ws _ hc1.out hGi hI1.out hn hk1).mono ?_
      rintro e W1 ⟨rfl, b1⟩
      have hB1 := Lib.hid (bA.out.trans (b1.mono bA.out.size))
      clear b1 bA hc1 hI1 hB hBr e0 e2 hGi
      by_cases hz : retF n (id, ws) = 0
      · have hz1 : (retF n (id, ws) != 0) = false := by simp [hz]
        have hA' := Lib.hid (upto_next (P := fun u => retF n u = 0) hA.out HX.out hz)
        clear hA hz
        go_wp2
        go_roundw
        case rel => exact ⟨k + 1, by omega, by go_num, hB1, hA'⟩
        case measure => simp [intOf]; omega
      · have hz1 : (retF n (id, ws) != 0) = true := by simpa using hz
        have HS : Hid (firstNZ (retF n) (rs.map RV.val) = retF n (id, ws)) := firstNZ_stop (f := retF n) hA.out HX.out hz
        have HF : Hid (retC n fs (rs.map RV.val) = retF n (id, ws)) := by show retC _ _ _ = _; rw [retC_stop (by rw [HS.out]; exact hz), HS.out]
        have HNZ := Lib.hid hz
        have hBl := Lib.hid (hB1.out.mono (show w0.heap.size ≤ w.heap.size by omega))
        clear hA hz HS
        go_wp2
        go_ret
        exact ⟨ret_i64 HF.out.symm, hBl.out, fun h => absurd (HF.out ▸ h) HNZ.out⟩
    · have HN := Lib.hid (upto_end hA.out (by rw [HL3.out]; omega))
      have HZ := Lib.hid (firstNZ_all (f := retF n) HN.out)
      have HC := Lib.hid (retC_taken (fs := fs) HZ.out)
      have H1 := Lib.hid (H.out.kept hB.out)
      have hBl := Lib.hid (hB.out.mono (show w0.heap.size ≤ w.heap.size by omega))
      have hlo1 : lo ≤ wr.heap.size := by have := hB.out.size; omega
      clear hA hB
      go_wp2
      clear hk' hlt
      go_loopw [25] (fun i wq => ∃ (k : Nat) (o' : Value) (qs : List LV) (f : Int → Option Nat), k ≤ n3 ∧ i = .int .i64 k ∧ Hid (Ret wq lo G M d o' pb cp n qs k k (((rs.map RV.val).map (·.1)).take k) f) ∧ Hid (∀ x, (f x).isSome = (((rs.map RV.val).map (·.1)).take k).contains x) ∧ Hid (Kept ps qs) ∧ Hid (Watched qs f ((rs.map RV.val).take k)) ∧ Hid (Below w0.heap.size w wq) ∧ lo ≤ wq.heap.size ∧ Hid (∀ (j : Nat) (x : Int), j < k → ((rs.map RV.val).map (·.1))[j]? = some x → fs.contains x = false ∧ (((rs.map RV.val).map (·.1)).take j).contains x = false) ∧ Hid (Apart qs)) (fun i _ => n3 - (intOf i).toNat)
      case atStart => exact ⟨0, o, ps, _, Nat.zero_le _, rfl, H1, fun x => rfl, Kept.refl _, Watched.nil _ _, hBl, hlo1, fun j u hj => absurd hj (Nat.not_lt_zero _), HAP⟩
      case round =>
        obtain ⟨k, o1, qs, f, hk', rfl, hU, hFm, hK, hWa, hB, hlq, hA, hAP⟩ := hrel
        by_cases hlt : k < n3
        · obtain ⟨b, o', id, X1, k1, e1, ws, rfl, hb, d0, d1, hx, hI, hk1⟩ := HR.out.cellAt hlt
          have hBr := Lib.hid (B.out.trans (hB.out.mono (Nat.le_refl _)))
          have e0 : wr.cell? ⟨b, o' + k * 2, none⟩ = some (.int .i64 id) := (hBr.out.cell (p := ⟨b, o' + k * 2, none⟩) hb).trans d0
          have e2 : wr.cell? ⟨b, o' + k * 2 + 1, none⟩ = some (.slice X1 k1 e1) := (hBr.out.cell (p := ⟨b, o' + k * 2 + 1, none⟩) hb).trans d1
          have HX := Lib.hid (rid_get hx.out)
          have HVX := Lib.hid (rval_get hx.out)
          have hret := retF_zero (HN.out k _ (rval_get hx.out))
          have HW : ws.length = k1 := hI.out.1
          simp only [RV.val] at hret
          obtain ⟨⟨hid0, hid1⟩, hw0, hw4⟩ := hret
          obtain ⟨j, rfl⟩ := Int.eq_ofNat_of_zero_le hid0
          have hjn : j < n := by omega
          have hjn' : (j : Int) < (n : Int) := by omega
          have hlt' : (k : Int) < (n3 : Int) := by omega
          obtain ⟨q, hq⟩ : ∃ q, qs[j]? = some q := ⟨_, List.getElem?_eq_getElem (by have := hU.out.G'.R.l; omega)⟩
          have HQ := Lib.hid hq
          have HFQ : Hid (q.fr = fs.contains (j : Int)) := by
            obtain ⟨p, h1, _, _, h4⟩ := hK.out.2 j q hq
            exact h4.trans (HFR.out j p h1)
          have HWF : Hid ((Lit.int .i64 (j : Int)).wf = true) := WalkArith.wf_i64 (by omega)
          clear d0 d1 hx hq
          go_wp2
          clear e0 e2
          have bA := Lib.hid (below_alloc wr (.cells #[.int .i64 (j : Int), .slice X1 k1 e1] 123))
          have LA := Lib.hid (Lies.new wr 123 #[.int .i64 (j : Int), .slice X1 k1 e1])
          have hU1 := Lib.hid (hU.out.kept bA.out)
          have hB1 := Lib.hid (hB.out.trans (bA.out.mono (show w0.heap.size ≤ wr.heap.size by omega)))
          have hI1 := Lib.hid (hI.out.kept (hBr.out.trans (bA.out.mono hBr.out.size)))
          generalize hW : (wr.alloc (.cells #[.int .i64 (j : Int), .slice X1 k1 e1] 123)) = W0 at *
          have hW0 : lo ≤ W0.heap.size := by rw [← hW]; simp only [World.size_alloc]; omega
          clear hW hU hB hBr bA
          have a0 : W0.cell? ⟨wr.heap.size, 0, none⟩ = some (.int .i64 (j : Int)) := LA.out.cell 0
          have a1 : W0.cell? ⟨wr.heap.size, 1, none⟩ = some (.slice X1 k1 e1) := LA.out.cell 1
          have g1 : W0.cell? ⟨G, 1, none⟩ = some (.slice (some ⟨pb, 0, none⟩) n cp) := hU1.out.G'.L.cell 1
          have g2 : W0.cell? ⟨pb, j, none⟩ = some (.pointer (some ⟨q.g, 0, none⟩)) := hU1.out.G'.R.c j q HQ.out
          have g3 : W0.cell? ⟨q.g, 1, none⟩ = some (.bool q.fr) := (hU1.out.G'.P.P q (List.mem_of_getElem? HQ.out)).L.cell 1
          have g4 := Lib.hid (show W0.cell? ⟨G, 2, none⟩ = some (.map (some M)) from hU1.out.G'.L.cell 2)
          cases hc1 : fs.contains (j : Int)
          rotate_left
          · have HF : Hid (retC n fs (rs.map RV.val) = 6) := by
              show retC _ _ _ = _
              rw [HC.out, takenF_at HX.out (Or.inl hc1)]; rfl
            rw [HFQ.out, hc1] at g3
            clear hA hc1 hFm
            go_quiet (fail)
            go_wp2
            go_ret
            exact ⟨ret_i64 HF.out.symm, below_draws hB1.out _, fun h => by rw [HF.out] at h; omega⟩
          rw [HFQ.out, hc1] at g3
          cases hc2 : (((rs.map RV.val).map (·.1)).take k).contains (j : Int)
          rotate_left
          · have HF : Hid (retC n fs (rs.map RV.val) = 6) := by
              show retC _ _ _ = _
              rw [HC.out, takenF_at HX.out (Or.inr hc2)]; rfl
            have HS2 := Lib.hid ((hFm.out (j : Int)).trans hc2)
            clear hA hc1 hc2 hFm
            go_quiet ((go_at_call 62; exact isRetired_q _ _ _ _ _ f _ true HS2.out g4.out hU1.out.M' HWF.out))
            go_wp2
            go_ret
            exact ⟨ret_i64 HF.out.symm, below_draws hB1.out _, fun h => by rw [HF.out] at h; omega⟩
          have HS2 := Lib.hid ((hFm.out (j : Int)).trans hc2)
          have hA' := Lib.hid (uptoAt_next (P := fun j x => fs.contains x = false ∧ (((rs.map RV.val).map (·.1)).take j).contains x = false) hA.out HX.out ⟨hc1, hc2⟩)
          have hNo : Hid ((((rs.map RV.val).take k).map (·.1)).contains (j : Int) = false) := by show _ = _; rw [List.map_take]; exact hc2
          clear hA hc1 hc2
          go_quiet ((go_at_call 62; exact isRetired_q _ _ _ _ _ f _ false HS2.out g4.out hU1.out.M' HWF.out))
          have BD := Lib.hid (below_draws (Below.refl W0.heap.size W0) nq)
          have hU2 := Lib.hid (hU1.out.kept BD.out)
          have hB2 := Lib.hid (below_draws hB1.out nq)
          have hI2 := Lib.hid (hI1.out.kept BD.out)
          have LA2 := Lib.hid (LA.out.draws nq)
          have hW2 : lo ≤ (W0.drewN nq).heap.size := hW0
          generalize hW : W0.drewN nq = W2 at *
          clear hW hU1 hB1 hI1 LA a0 a1 g1 g2 g3 g4 BD
          have a0 : W2.cell? ⟨wr.heap.size, 0, none⟩ = some (.int .i64 (j : Int)) := LA2.out.cell 0
          have a1 : W2.cell? ⟨wr.heap.size, 1, none⟩ = some (.slice X1 k1 e1) := LA2.out.cell 1
          go_wp2_with fail
          refine (retire_any d lo w0.heap.size G M pb cp n k k j k1 e1 o1 X1 ws qs q _ f _ hU2.out HQ.out hI2.out (by omega) (by omega) hW2 (by omega) (by omega) hn hG hM hB0lo).mono ?_
          rintro e W3 ⟨rfl, b3, o2, r, hU3, hsn, hfr3⟩
          have hAP4 := Lib.hid (hAP.out.put hU2.out.G'.P.P HQ.out hsn hfr3)
          have hU4 := Lib.hid hU3
          have hK4 := Lib.hid (hK.out.put HQ.out hsn)
          have hB4 := Lib.hid (hB2.out.trans (b3.mono (Nat.le_refl _)))
          have hl4 : lo ≤ W3.heap.size := Nat.le_trans hW2 b3.size
          have HTK : Hid (((rs.map RV.val).map (·.1)).take k ++ [(j : Int)] = ((rs.map RV.val).map (·.1)).take (k + 1)) := by show List.append _ _ = _; rw [List.take_add_one, HX.out]; rfl
          have hU5 : Hid (Ret W3 lo G M d o2 pb cp n (qs.set j r) (k + 1) (k + 1) (((rs.map RV.val).map (·.1)).take (k + 1)) (fun x => if x = (j : Int) then some q.g else f x)) := by show Ret _ _ _ _ _ _ _ _ _ _ _ _ _ _; rw [← HTK.out]; exact hU4.out
          have hF5 : Hid (∀ x, ((fun x => if x = (j : Int) then some q.g else f x) x).isSome = (((rs.map RV.val).map (·.1)).take (k + 1)).contains x) := by
            intro x
            rw [take_next_has HX.out]
            by_cases e : x = (j : Int)
            · simp [e]
            · simp only [if_neg e]
              rw [hFm.out x]
              simp [e]
          have hWa5 : Hid (Watched (qs.set j r) (fun x => if x = (j : Int) then some q.g else f x) ((rs.map RV.val).take (k + 1))) := by
            have h := hWa.out.put HQ.out hsn hNo.out
            show Watched _ _ _
            rw [List.take_add_one, HVX.out]; exact h
          clear hWa hNo HVX
          clear hU3 hsn hfr3 hAP b3 hU2 hB2 hI2 LA2 a0 a1 hU4 hFm hK
          go_wp2
          go_roundw
          case rel => exact ⟨k + 1, _, _, _, by omega, by go_num, hU5, hF5, hK4, hWa5, hB4, hl4, hA', hAP4⟩
          case measure => simp [intOf]; omega
        · have hkn : k = n3 := by omega
          subst hkn
          have HF : Hid (retC n fs (rs.map RV.val) = 0) := by
            show retC _ _ _ = _
            rw [HC.out, takenF_none (fun j x hx => hA.out j x (by have := (List.getElem?_eq_some_iff.1 hx).1; rw [List.length_map, HL3.out] at this; omega) hx)]; rfl
          have hU5 : Hid (Ret wr lo G M d o1 pb cp n qs k k ((rs.map RV.val).map (·.1)) f) := by
            have := hU.out
            rwa [List.take_of_length_le (by rw [List.length_map, HL3.out]; exact Nat.le_refl _)] at this
          have HWa : Hid (Watched qs f (rs.map RV.val)) := by
            have := hWa.out
            rwa [List.take_of_length_le (by rw [HL3.out]; exact Nat.le_refl _)] at this
          have HDM : Hid (∀ x : Int, (f x).isSome = ((rs.map RV.val).map (·.1)).contains x) := by
            have := hFm.out
            rwa [List.take_of_length_le (by rw [List.length_map, HL3.out]; exact Nat.le_refl _)] at this
          clear hA hU hWa hFm
          go_wp2
          go_ret
          exact ⟨ret_i64 HF.out.symm, hB.out, fun _ => ⟨o1, qs, f, hU5.out, hK.out, HWa.out, HDM.out, hAP.out⟩⟩

end Go.Proofs.YtpgoildfjkokiaaGreat
