/- The walk of impl.ground's retireAll. -/
import Derived.Test.YtpgoildfjkokiaaGreatRetire3
import Derived.Test.YtpgoildfjkokiaaGreatArenaNone
import Derived.Test.YtpgoildfjkokiaaGreatBoxes2
import Derived.Test.YtpgoildfjkokiaaGreatArenas
namespace Go.Proofs.YtpgoildfjkokiaaGreat
open Go.RowKit

theorem isRetired_q (m G M k : Nat) (id : Int) (f : Int → Option Nat) (w : World) (r : Bool) (hr : (f id).isSome = r) (hc : w.cell? ⟨G, 2, none⟩ = some (.map (some M))) (hM : PMap w M k f) (hid : (Lit.int .i64 id).wf = true) :
    Calls Tryz.prog 62 #[.pointer (some ⟨G, 0, none⟩), .int .i64 id] (w.drewN m) fun e w' => e = .returned (.bool r) ∧ ∃ m', w' = w.drewN m' :=
  (isRetired_any G M k id f (w.drewN m) hc (hM.block rfl) hid).mono fun _ _ h => ⟨by rw [h.1, hr], m, h.2.symm⟩

/-- The same places, but for who watches them. -/
def Kept (ps qs : List LV) : Prop := qs.length = ps.length ∧ ∀ (i : Nat) (q : LV), qs[i]? = some q → ∃ p, ps[i]? = some p ∧ q.g = p.g ∧ q.val = p.val ∧ q.fr = p.fr
theorem Kept.refl (ps : List LV) : Kept ps ps := ⟨rfl, fun i q h => ⟨q, h, rfl, rfl, rfl⟩⟩
theorem Kept.put {ps qs : List LV} {j : Nat} {q r : LV} {xs : List Int} (h : Kept ps qs) (hj : qs[j]? = some q) (hr : q.seen r xs) : Kept ps (qs.set j r) := by
  obtain ⟨g5, n1, cap, rfl⟩ := hr
  refine ⟨by rw [List.length_set]; exact h.1, fun i t ht => ?_⟩
  rw [List.getElem?_set] at ht
  by_cases e : j = i
  · subst e
    rw [if_pos rfl, if_pos (List.getElem?_eq_some_iff.1 hj).1] at ht
    injection ht with ht; subst ht
    obtain ⟨p, h1, h2, h3, h4⟩ := h.2 j q hj
    exact ⟨p, h1, h2, h3, h4⟩
  · rw [if_neg e] at ht; exact h.2 i t ht

/-- retireAll's code. -/
def retC (n : Nat) (fs : List Int) (vs : List RVal) : Int := if firstNZ (retF n) vs ≠ 0 then firstNZ (retF n) vs else if takenF fs (vs.map (·.1)) then 6 else 0
theorem retC_stop {n : Nat} {fs : List Int} {vs : List RVal} (h : firstNZ (retF n) vs ≠ 0) : retC n fs vs = firstNZ (retF n) vs := by unfold retC; rw [if_pos h]
theorem retC_taken {n : Nat} {fs : List Int} {vs : List RVal} (h : firstNZ (retF n) vs = 0) : retC n fs vs = if takenF fs (vs.map (·.1)) then 6 else 0 := by unfold retC; rw [if_neg (by simp [h])]

theorem take_next_has {ids : List Int} {k : Nat} {id : Int} (h : ids[k]? = some id) (x : Int) : (ids.take (k + 1)).contains x = ((ids.take k).contains x || (x == id)) := by
  rw [List.take_add_one, h]
  by_cases e : x = id <;> simp [e]

/-- Each of the retired places is noted in the map, with who watches it. -/
def Watched (qs : List LV) (f : Int → Option Nat) (us : List RVal) : Prop := ∀ (i : Nat) (u : RVal), us[i]? = some u → ∃ (j : Nat) (q : LV), u.1 = (j : Int) ∧ qs[j]? = some q ∧ f u.1 = some q.g ∧ q.ws = u.2
theorem Watched.nil (qs : List LV) (f : Int → Option Nat) : Watched qs f [] := fun i u h => by simp at h
theorem Watched.put {qs : List LV} {f : Int → Option Nat} {us : List RVal} {j : Nat} {q r : LV} {ws : List Int} (h : Watched qs f us) (hq : qs[j]? = some q) (hr : q.seen r ws) (hn : (us.map (·.1)).contains (j : Int) = false) : Watched (qs.set j r) (fun x => if x = (j : Int) then some q.g else f x) (us ++ [((j : Int), ws)]) := by
  obtain ⟨g5, n1, cap, rfl⟩ := hr
  have hjl := (List.getElem?_eq_some_iff.1 hq).1
  intro i u hu
  rcases Nat.lt_or_ge i us.length with hi | hi
  · rw [List.getElem?_append_left hi] at hu
    obtain ⟨j', q', e1, e2, e3, e4⟩ := h i u hu
    have hne : u.1 ≠ (j : Int) := by
      intro e
      have : (us.map (·.1)).contains (j : Int) = true := by
        rw [List.contains_iff_mem]; exact List.mem_map.2 ⟨u, List.mem_of_getElem? hu, e⟩
      rw [hn] at this; exact absurd this (by decide)
    refine ⟨j', q', e1, ?_, by simp only [if_neg hne]; exact e3, e4⟩
    rw [List.getElem?_set, if_neg (by rintro rfl; exact hne e1)]; exact e2
  · rw [List.getElem?_append_right hi] at hu
    have hi0 : i - us.length = 0 := by have := (List.getElem?_eq_some_iff.1 hu).1; simp at this; omega
    rw [hi0] at hu
    simp only [List.getElem?_cons_zero, Option.some.injEq] at hu
    subst hu
    exact ⟨j, _, rfl, by rw [List.getElem?_set, if_pos rfl, if_pos hjl], by simp, rfl⟩

set_option maxRecDepth 100000 in
set_option maxHeartbeats 12800000 in
theorem retireAll_any (d : Int) (lo G M pb cp n n3 c3 : Nat) (A3 : Option Addr) (rs : List RV) (fs : List Int) (o : Value) (ps : List LV) (w0 w : World) (h : Ret w lo G M d o pb cp n ps 0 0 [] (fun _ => none)) (hfr : ∀ (i : Nat) (p : LV), ps[i]? = some p → p.fr = fs.contains (i : Int)) (hR : Rets w0 A3 n3 rs) (hb : Below w0.heap.size w0 w) (hG : w0.heap.size ≤ G) (hM : w0.heap.size ≤ M) (hlo : lo ≤ w.heap.size) (hn : n ≤ 40) (hn3 : n3 ≤ 1048576) :
    Calls Tryz.prog 89 #[.pointer (some ⟨G, 0, none⟩), .slice A3 n3 c3] w fun e w' => e = .returned (.int .i64 (retC n fs (rs.map RV.val))) ∧ Below w0.heap.size w w' ∧ (retC n fs (rs.map RV.val) = 0 → ∃ o' qs f, Ret w' lo G M d o' pb cp n qs n3 n3 ((rs.map RV.val).map (·.1)) f ∧ Kept ps qs ∧ Watched qs f (rs.map RV.val) ∧ ∀ x : Int, (f x).isSome = ((rs.map RV.val).map (·.1)).contains x) := by
  have H := Lib.hid h
  have HFR := Lib.hid hfr
  have HR := Lib.hid hR
  have B := Lib.hid hb
  have hglo := h.G'.g
  have hB0lo : w0.heap.size ≤ lo := by omega
  have HL3 : Hid ((rs.map RV.val).length = n3) := by show List.length _ = n3; rw [List.length_map]; exact hR.1
  clear h hfr hR hb
  go_enter Tryz.func89, Tryz.ntmps89
  go_wp2
  go_loopw [12] (fun i wr => ∃ k : Nat, k ≤ n3 ∧ i = .int .i64 k ∧ Hid (Below w.heap.size w wr) ∧ Hid (∀ (j : Nat) (u : RVal), j < k → (rs.map RV.val)[j]? = some u → retF n u = 0)) (fun i _ => n3 - (intOf i).toNat)
  case atStart => exact ⟨0, Nat.zero_le _, rfl, Below.refl _ _, fun j u hj => absurd hj (Nat.not_lt_zero _)⟩
  case round =>
    obtain ⟨k, hk', rfl, hB, hA⟩ := hrel
    by_cases hlt : k < n3
    · obtain ⟨b, o', id, X1, k1, e1, ws, rfl, hb, d0, d1, hx, hI, hk1⟩ := HR.out.cellAt hlt
      have hBr := Lib.hid (B.out.trans (hB.out.mono B.out.size))
      have e0 : wr.cell? ⟨b, o' + k * 2, none⟩ = some (.int .i64 id) := (hBr.out.cell (p := ⟨b, o' + k * 2, none⟩) hb).trans d0
      have e2 : wr.cell? ⟨b, o' + k * 2 + 1, none⟩ = some (.slice X1 k1 e1) := (hBr.out.cell (p := ⟨b, o' + k * 2 + 1, none⟩) hb).trans d1
      have HX := Lib.hid (rval_get hx.out)
      have hlt' : (k : Int) < (n3 : Int) := by omega
      have bA := Lib.hid (hB.out.alloc hB.out.size (.cells #[.int .i64 id, .slice X1 k1 e1] 123))
      have hc1 : Hid ((wr.alloc (.cells #[.int .i64 id, .slice X1 k1 e1] 123)).cell? ⟨G, 1, none⟩ = some (.slice (some ⟨pb, 0, none⟩) n cp)) := (H.out.kept bA.out).G'.L.cell 1
      have hGi := (H.out.kept bA.out).G'.L.inside
      have hI1 := Lib.hid (hI.out.kept (B.out.trans (bA.out.mono B.out.size)))
      clear d0 d1 hx
      go_wp2_with fail
      refine (retiredFault_any G pb cp n k1 e1 id X1 ws _ hc1.out hGi hI1.out hn hk1).mono ?_
      rintro e W1 ⟨rfl, b1⟩
      have hB1 := Lib.hid (bA.out.trans (b1.mono bA.out.size))
      clear b1 bA hc1 hI1 hB hBr e0 e2 hGi
      by_cases hz : retF n (id, ws) = 0
      · have hz1 : (retF n (id, ws) != 0) = false := by simp [hz]
        have hA' := Lib.hid (upto_next (P := fun u => retF n u = 0) hA.out HX.out hz)
        clear hA hz
        go_wp2
        go_roundw
        case rel => exact ⟨k + 1, by omega, by go_num, hB1, hA'⟩
        case measure => simp [intOf]; omega
      · have hz1 : (retF n (id, ws) != 0) = true := by simpa using hz
        have HS : Hid (firstNZ (retF n) (rs.map RV.val) = retF n (id, ws)) := firstNZ_stop (f := retF n) hA.out HX.out hz
        have HF : Hid (retC n fs (rs.map RV.val) = retF n (id, ws)) := by show retC _ _ _ = _; rw [retC_stop (by rw [HS.out]; exact hz), HS.out]
        have HNZ := Lib.hid hz
        have hBl := Lib.hid (hB1.out.mono (show w0.heap.size ≤ w.heap.size by omega))
        clear hA hz HS
        go_wp2
        go_ret
        exact ⟨ret_i64 HF.out.symm, hBl.out, fun h => absurd (HF.out ▸ h) HNZ.out⟩
    · have HN := Lib.hid (upto_end hA.out (by rw [HL3.out]; omega))
      have HZ := Lib.hid (firstNZ_all (f := retF n) HN.out)
      have HC := Lib.hid (retC_taken (fs := fs) HZ.out)
      have H1 := Lib.hid (H.out.kept hB.out)
      have hBl := Lib.hid (hB.out.mono (show w0.heap.size ≤ w.heap.size by omega))
      have hlo1 : lo ≤ wr.heap.size := by have := hB.out.size; omega
      clear hA hB
      go_wp2
      clear hk' hlt
      go_loopw [25] (fun i wq => ∃ (k : Nat) (o' : Value) (qs : List LV) (f : Int → Option Nat), k ≤ n3 ∧ i = .int .i64 k ∧ Hid (Ret wq lo G M d o' pb cp n qs k k (((rs.map RV.val).map (·.1)).take k) f) ∧ Hid (∀ x, (f x).isSome = (((rs.map RV.val).map (·.1)).take k).contains x) ∧ Hid (Kept ps qs) ∧ Hid (Watched qs f ((rs.map RV.val).take k)) ∧ Hid (Below w0.heap.size w wq) ∧ lo ≤ wq.heap.size ∧ Hid (∀ (j : Nat) (x : Int), j < k → ((rs.map RV.val).map (·.1))[j]? = some x → fs.contains x = false ∧ (((rs.map RV.val).map (·.1)).take j).contains x = false)) (fun i _ => n3 - (intOf i).toNat)
      case atStart => exact ⟨0, o, ps, _, Nat.zero_le _, rfl, H1, fun x => rfl, Kept.refl _, Watched.nil _ _, hBl, hlo1, fun j u hj => absurd hj (Nat.not_lt_zero _)⟩
      case round =>
        obtain ⟨k, o1, qs, f, hk', rfl, hU, hFm, hK, hWa, hB, hlq, hA⟩ := hrel
        by_cases hlt : k < n3
        · obtain ⟨b, o', id, X1, k1, e1, ws, rfl, hb, d0, d1, hx, hI, hk1⟩ := HR.out.cellAt hlt
          have hBr := Lib.hid (B.out.trans (hB.out.mono (Nat.le_refl _)))
          have e0 : wr.cell? ⟨b, o' + k * 2, none⟩ = some (.int .i64 id) := (hBr.out.cell (p := ⟨b, o' + k * 2, none⟩) hb).trans d0
          have e2 : wr.cell? ⟨b, o' + k * 2 + 1, none⟩ = some (.slice X1 k1 e1) := (hBr.out.cell (p := ⟨b, o' + k * 2 + 1, none⟩) hb).trans d1
          have HX := Lib.hid (rid_get hx.out)
          have HVX := Lib.hid (rval_get hx.out)
          have hret := retF_zero (HN.out k _ (rval_get hx.out))
          have HW : ws.length = k1 := hI.out.1
          simp only [RV.val] at hret
          obtain ⟨⟨hid0, hid1⟩, hw0, hw4⟩ := hret
          obtain ⟨j, rfl⟩ := Int.eq_ofNat_of_zero_le hid0
          have hjn : j < n := by omega
          have hjn' : (j : Int) < (n : Int) := by omega
          have hlt' : (k : Int) < (n3 : Int) := by omega
          obtain ⟨q, hq⟩ : ∃ q, qs[j]? = some q := ⟨_, List.getElem?_eq_getElem (by have := hU.out.G'.R.l; omega)⟩
          have HQ := Lib.hid hq
          have HFQ : Hid (q.fr = fs.contains (j : Int)) := by
            obtain ⟨p, h1, _, _, h4⟩ := hK.out.2 j q hq
            exact h4.trans (HFR.out j p h1)
          have HWF : Hid ((Lit.int .i64 (j : Int)).wf = true) := WalkArith.wf_i64 (by omega)
          clear d0 d1 hx hq
          go_wp2
          clear e0 e2
          have bA := Lib.hid (below_alloc wr (.cells #[.int .i64 (j : Int), .slice X1 k1 e1] 123))
          have LA := Lib.hid (Lies.new wr 123 #[.int .i64 (j : Int), .slice X1 k1 e1])
          have hU1 := Lib.hid (hU.out.kept bA.out)
          have hB1 := Lib.hid (hB.out.trans (bA.out.mono (show w0.heap.size ≤ wr.heap.size by omega)))
          have hI1 := Lib.hid (hI.out.kept (hBr.out.trans (bA.out.mono hBr.out.size)))
          generalize hW : (wr.alloc (.cells #[.int .i64 (j : Int), .slice X1 k1 e1] 123)) = W0 at *
          have hW0 : lo ≤ W0.heap.size := by rw [← hW]; simp only [World.size_alloc]; omega
          clear hW hU hB hBr bA
          have a0 : W0.cell? ⟨wr.heap.size, 0, none⟩ = some (.int .i64 (j : Int)) := LA.out.cell 0
          have a1 : W0.cell? ⟨wr.heap.size, 1, none⟩ = some (.slice X1 k1 e1) := LA.out.cell 1
          have g1 : W0.cell? ⟨G, 1, none⟩ = some (.slice (some ⟨pb, 0, none⟩) n cp) := hU1.out.G'.L.cell 1
          have g2 : W0.cell? ⟨pb, j, none⟩ = some (.pointer (some ⟨q.g, 0, none⟩)) := hU1.out.G'.R.c j q HQ.out
          have g3 : W0.cell? ⟨q.g, 1, none⟩ = some (.bool q.fr) := (hU1.out.G'.P.P q (List.mem_of_getElem? HQ.out)).L.cell 1
          have g4 := Lib.hid (show W0.cell? ⟨G, 2, none⟩ = some (.map (some M)) from hU1.out.G'.L.cell 2)
          cases hc1 : fs.contains (j : Int)
          rotate_left
          · have HF : Hid (retC n fs (rs.map RV.val) = 6) := by
              show retC _ _ _ = _
              rw [HC.out, takenF_at HX.out (Or.inl hc1)]; rfl
            rw [HFQ.out, hc1] at g3
            clear hA hc1 hFm
            go_quiet (fail)
            go_wp2
            go_ret
            exact ⟨ret_i64 HF.out.symm, below_draws hB1.out _, fun h => by rw [HF.out] at h; omega⟩
          rw [HFQ.out, hc1] at g3
          cases hc2 : (((rs.map RV.val).map (·.1)).take k).contains (j : Int)
          rotate_left
          · have HF : Hid (retC n fs (rs.map RV.val) = 6) := by
              show retC _ _ _ = _
              rw [HC.out, takenF_at HX.out (Or.inr hc2)]; rfl
            have HS2 := Lib.hid ((hFm.out (j : Int)).trans hc2)
            clear hA hc1 hc2 hFm
            go_quiet ((go_at_call 62; exact isRetired_q _ _ _ _ _ f _ true HS2.out g4.out hU1.out.M' HWF.out))
            go_wp2
            go_ret
            exact ⟨ret_i64 HF.out.symm, below_draws hB1.out _, fun h => by rw [HF.out] at h; omega⟩
          have HS2 := Lib.hid ((hFm.out (j : Int)).trans hc2)
          have hA' := Lib.hid (uptoAt_next (P := fun j x => fs.contains x = false ∧ (((rs.map RV.val).map (·.1)).take j).contains x = false) hA.out HX.out ⟨hc1, hc2⟩)
          have hNo : Hid ((((rs.map RV.val).take k).map (·.1)).contains (j : Int) = false) := by show _ = _; rw [List.map_take]; exact hc2
          clear hA hc1 hc2
          go_quiet ((go_at_call 62; exact isRetired_q _ _ _ _ _ f _ false HS2.out g4.out hU1.out.M' HWF.out))
          have BD := Lib.hid (below_draws (Below.refl W0.heap.size W0) nq)
          have hU2 := Lib.hid (hU1.out.kept BD.out)
          have hB2 := Lib.hid (below_draws hB1.out nq)
          have hI2 := Lib.hid (hI1.out.kept BD.out)
          have LA2 := Lib.hid (LA.out.draws nq)
          have hW2 : lo ≤ (W0.drewN nq).heap.size := hW0
          generalize hW : W0.drewN nq = W2 at *
          clear hW hU1 hB1 hI1 LA a0 a1 g1 g2 g3 g4 BD
          have a0 : W2.cell? ⟨wr.heap.size, 0, none⟩ = some (.int .i64 (j : Int)) := LA2.out.cell 0
          have a1 : W2.cell? ⟨wr.heap.size, 1, none⟩ = some (.slice X1 k1 e1) := LA2.out.cell 1
          go_wp2_with fail
          refine (retire_any d lo w0.heap.size G M pb cp n k k j k1 e1 o1 X1 ws qs q _ f _ hU2.out HQ.out hI2.out (by omega) (by omega) hW2 (by omega) (by omega) hn hG hM hB0lo).mono ?_
          rintro e W3 ⟨rfl, b3, o2, r, hU3, hsn⟩
          have hU4 := Lib.hid hU3
          have hK4 := Lib.hid (hK.out.put HQ.out hsn)
          have hB4 := Lib.hid (hB2.out.trans (b3.mono (Nat.le_refl _)))
          have hl4 : lo ≤ W3.heap.size := Nat.le_trans hW2 b3.size
          have HTK : Hid (((rs.map RV.val).map (·.1)).take k ++ [(j : Int)] = ((rs.map RV.val).map (·.1)).take (k + 1)) := by show List.append _ _ = _; rw [List.take_add_one, HX.out]; rfl
          have hU5 : Hid (Ret W3 lo G M d o2 pb cp n (qs.set j r) (k + 1) (k + 1) (((rs.map RV.val).map (·.1)).take (k + 1)) (fun x => if x = (j : Int) then some q.g else f x)) := by show Ret _ _ _ _ _ _ _ _ _ _ _ _ _ _; rw [← HTK.out]; exact hU4.out
          have hF5 : Hid (∀ x, ((fun x => if x = (j : Int) then some q.g else f x) x).isSome = (((rs.map RV.val).map (·.1)).take (k + 1)).contains x) := by
            intro x
            rw [take_next_has HX.out]
            by_cases e : x = (j : Int)
            · simp [e]
            · simp only [if_neg e]
              rw [hFm.out x]
              simp [e]
          have hWa5 : Hid (Watched (qs.set j r) (fun x => if x = (j : Int) then some q.g else f x) ((rs.map RV.val).take (k + 1))) := by
            have h := hWa.out.put HQ.out hsn hNo.out
            show Watched _ _ _
            rw [List.take_add_one, HVX.out]; exact h
          clear hWa hNo HVX
          clear hU3 hsn b3 hU2 hB2 hI2 LA2 a0 a1 hU4 hFm hK
          go_wp2
          go_roundw
          case rel => exact ⟨k + 1, _, _, _, by omega, by go_num, hU5, hF5, hK4, hWa5, hB4, hl4, hA'⟩
          case measure => simp [intOf]; omega
        · have hkn : k = n3 := by omega
          subst hkn
          have HF : Hid (retC n fs (rs.map RV.val) = 0) := by
            show retC _ _ _ = _
            rw [HC.out, takenF_none (fun j x hx => hA.out j x (by have := (List.getElem?_eq_some_iff.1 hx).1; rw [List.length_map, HL3.out] at this; omega) hx)]; rfl
          have hU5 : Hid (Ret wr lo G M d o1 pb cp n qs k k ((rs.map RV.val).map (·.1)) f) := by
            have := hU.out
            rwa [List.take_of_length_le (by rw [List.length_map, HL3.out]; exact Nat.le_refl _)] at this
          have HWa : Hid (Watched qs f (rs.map RV.val)) := by
            have := hWa.out
            rwa [List.take_of_length_le (by rw [HL3.out]; exact Nat.le_refl _)] at this
          have HDM : Hid (∀ x : Int, (f x).isSome = ((rs.map RV.val).map (·.1)).contains x) := by
            have := hFm.out
            rwa [List.take_of_length_le (by rw [List.length_map, HL3.out]; exact Nat.le_refl _)] at this
          clear hA hU hWa hFm
          go_wp2
          go_ret
          exact ⟨ret_i64 HF.out.symm, hB.out, fun _ => ⟨o1, qs, f, hU5.out, hK.out, HWa.out, HDM.out⟩⟩

end Go.Proofs.YtpgoildfjkokiaaGreat

/- Retired places that an answer owns: a row of them, each with a row of its own of who watches; no two share a block. And an arena on its way into an answer, with them. -/
namespace Go.Proofs.YtpgoildfjkokiaaGreat
open Go.RowKit

def RV.cells (q : RV) : List Value := [.int .i64 q.id, .slice q.A1 q.n1 q.c1]
def rvB (q : RV) : List Nat := ((Value.slice q.A1 q.n1 q.c1).ownBlock).toList
def rvsB (qs : List RV) : List Nat := qs.flatMap rvB
theorem rvB_mem {q : RV} {b : Nat} : b ∈ rvB q ↔ (Value.slice q.A1 q.n1 q.c1).ownBlock = some b := by unfold rvB; simp
theorem ownsRow_others {w w' : World} {base : Nat} {e : TypeId} {size : Nat} {v : Value} {n : Nat} {xs : List Value} (h : w.ownsRow base e size v n xs) (hk : ∀ b, v.ownBlock = some b → w'.heap[b]? = w.heap[b]?) : w'.ownsRow base e size v n xs := by
  obtain ⟨hl, h⟩ := h
  refine ⟨hl, ?_⟩
  rcases h with h | ⟨g, cap, cur, rfl, h2, h3, h4⟩
  · exact Or.inl h
  · exact Or.inr ⟨g, cap, cur, rfl, h2, (hk g rfl).trans h3, h4⟩
theorem ownsRow_lower {w : World} {base base' : Nat} {e : TypeId} {size : Nat} {v : Value} {n : Nat} {xs : List Value} (h : w.ownsRow base e size v n xs) (hb : base' ≤ base) : w.ownsRow base' e size v n xs := by
  obtain ⟨hl, h⟩ := h
  refine ⟨hl, ?_⟩
  rcases h with h | ⟨g, cap, cur, rfl, h2, h3⟩
  · exact Or.inl h
  · exact Or.inr ⟨g, cap, cur, rfl, by omega, h3⟩

/-- The value v is a row of the retired places qs that an answer owns. -/
structure RetsOut (w : World) (base : Nat) (v : Value) (n : Nat) (qs : List RV) : Prop where
  S : w.ownsRow base 123 2 v n (qs.flatMap RV.cells)
  Q : ∀ q ∈ qs, w.ownsRow base 2 1 (.slice q.A1 q.n1 q.c1) q.n1 (q.ws.map (Value.int .i64))
  D : (rvsB qs).Nodup
  X : ∀ b, v.ownBlock = some b → b ∉ rvsB qs
section
variable {w w' w1 : World} {base n : Nat} {v : Value} {qs : List RV}
theorem rvsB_in (h : RetsOut w base v n qs) : ∀ b ∈ rvsB qs, base ≤ b ∧ b < w.heap.size := by
  intro b hb
  obtain ⟨q, hq, hb⟩ := List.mem_flatMap.1 hb
  exact ownsRow_block2 (h.Q q hq) b (rvB_mem.1 hb)
theorem RetsOut.others (h : RetsOut w base v n qs) (hv : ∀ b, v.ownBlock = some b → w'.heap[b]? = w.heap[b]?) (hk : ∀ b ∈ rvsB qs, w'.heap[b]? = w.heap[b]?) : RetsOut w' base v n qs :=
  ⟨ownsRow_others h.S hv, fun q hq => ownsRow_others (h.Q q hq) (fun b hb => hk b (List.mem_flatMap.2 ⟨q, hq, rvB_mem.2 hb⟩)), h.D, h.X⟩
theorem RetsOut.kept (h : RetsOut w base v n qs) (hb : Below w.heap.size w w') : RetsOut w' base v n qs :=
  h.others (fun b e => hb.block b (ownsRow_block2 h.S b e).2) (fun b hb' => hb.block b (rvsB_in h b hb').2)
theorem RetsOut.far (h : RetsOut w base v n qs) {a : Addr} (ha : a.block < base) (u : Value) : RetsOut (w.setCell a u) base v n qs :=
  h.others (fun b e => heap_setCell_other w a b u (by have := (ownsRow_block2 h.S b e).1; omega)) (fun b hb' => heap_setCell_other w a b u (by have := (rvsB_in h b hb').1; omega))
theorem RetsOut.nil (w : World) (base : Nat) : RetsOut w base (.slice none 0 0) 0 [] := ⟨⟨rfl, Or.inl ⟨rfl, rfl⟩⟩, fun q hq => by simp at hq, List.nodup_nil, fun b h => by simp [Value.ownBlock] at h⟩
/-- One more, whose row lies in a block that is new since w. -/
theorem RetsOut.put {W : World} {q : RV} {g cap : Nat} (h : RetsOut w base v n qs) (hb : Below w.heap.size w W) (hq : W.ownsRow w.heap.size 2 1 (.slice q.A1 q.n1 q.c1) q.n1 (q.ws.map (Value.int .i64))) (hlo : base ≤ w.heap.size)
    (ho : w1.ownsRow base 123 2 (.slice (some ⟨g, 0, none⟩) (n + 1) cap) (n + 1) (qs.flatMap RV.cells ++ RV.cells q)) (hw : W.grownBy w1 v.ownBlock) (hat : v.ownBlock = some g ∨ W.heap.size ≤ g) :
    RetsOut w1 base (.slice (some ⟨g, 0, none⟩) (n + 1) cap) (n + 1) (qs ++ [q]) := by
  have h' := h.kept hb
  have old := rvsB_in h
  have new : ∀ b ∈ rvB q, w.heap.size ≤ b ∧ b < W.heap.size := fun b hb' => ownsRow_block2 hq b (rvB_mem.1 hb')
  have vold : ∀ b, v.ownBlock = some b → b < w.heap.size := fun b e => (ownsRow_block2 h.S b e).2
  have nb : rvsB (qs ++ [q]) = rvsB qs ++ rvB q := by simp [rvsB]
  have vno : ∀ b, v.ownBlock = some b → b ∉ rvsB (qs ++ [q]) := by
    intro b e hm
    rw [nb] at hm
    rcases List.mem_append.1 hm with hm | hm
    · exact h.X b e hm
    · have := (new b hm).1; have := vold b e; omega
  have keep : ∀ b ∈ rvsB (qs ++ [q]), w1.heap[b]? = W.heap[b]? := by
    intro b hm
    refine hw.block b ?_ (fun e => vno b e.symm hm)
    rw [nb] at hm
    rcases List.mem_append.1 hm with hm | hm
    · exact Nat.lt_of_lt_of_le (old b hm).2 hb.size
    · exact (new b hm).2
  refine ⟨by rw [List.flatMap_append]; simpa using ho, fun p hp => ?_, ?_, fun b e hm => ?_⟩
  · rcases List.mem_append.1 hp with hp' | hp'
    · exact ownsRow_others (h'.Q p hp') (fun b hb' => keep b (List.mem_flatMap.2 ⟨p, hp, rvB_mem.2 hb'⟩))
    · simp only [List.mem_singleton] at hp'; subst hp'
      exact ownsRow_others (ownsRow_lower hq hlo) (fun b hb' => keep b (List.mem_flatMap.2 ⟨p, hp, rvB_mem.2 hb'⟩))
  · rw [nb, List.nodup_append]
    refine ⟨h.D, by unfold rvB; cases (Value.slice q.A1 q.n1 q.c1).ownBlock <;> simp, fun a ha b hb' e => ?_⟩
    subst e
    have := (old a ha).2; have := (new a hb').1; omega
  · have e' : g = b := by simpa [Value.ownBlock] using e
    subst e'
    rcases hat with hat | hat
    · exact vno g hat hm
    · rw [nb] at hm
      rcases List.mem_append.1 hm with hm | hm
      · have := (old g hm).2; have := hb.size; omega
      · have := (new g hm).2; omega
end

/-- Where arena's second loop stands. -/
structure ArX (w wr : World) (d : Int) (n kf k : Nat) (vN vF vR : Value) (qs : List NV) (fs : List Int) (ts : List RV) : Prop where
  b : Below w.heap.size w wr
  r : Lies wr w.heap.size 26 #[.int .i64 0, .slice none 0 0, .slice none 0 0, .slice none 0 0]
  o : Lies wr (w.heap.size + 1) 26 #[.int .i64 d, vN, vF, vR]
  N : NodesOut wr (w.heap.size + 1 + 1) vN n qs
  F : wr.ownsRow (w.heap.size + 1 + 1) 2 1 vF kf (fs.map (Value.int .i64))
  d : ∀ b, vF.ownBlock = some b → vN.ownBlock ≠ some b ∧ b ∉ nodesB qs
  R : RetsOut wr (w.heap.size + 1 + 1) vR k ts
  e : ∀ b, (vR.ownBlock = some b ∨ b ∈ rvsB ts) → vN.ownBlock ≠ some b ∧ vF.ownBlock ≠ some b ∧ b ∉ nodesB qs
section
variable {w wr W w1 : World} {d : Int} {n k kf g cap : Nat} {vN vF vR : Value} {qs : List NV} {fs : List Int} {ts : List RV}
theorem ArW.more (h : ArW w wr d n kf vN vF qs fs) : ArX w wr d n kf 0 vN vF (.slice none 0 0) qs fs [] :=
  ⟨h.b, h.r, h.o, h.N, h.F, h.d, RetsOut.nil _ _, fun b hb => by rcases hb with hb | hb <;> simp [Value.ownBlock, rvsB] at hb⟩
theorem ArX.call (h : ArX w wr d n kf k vN vF vR qs fs ts) (hb : Below wr.heap.size wr W) : ArX w W d n kf k vN vF vR qs fs ts := ⟨h.b.trans (hb.mono h.b.size), h.r.kept hb h.r.inside, h.o.kept hb h.o.inside, h.N.kept hb, ownsRow_below h.F hb, h.d, h.R.kept hb, h.e⟩
theorem ArX.drew (h : ArX w wr d n kf k vN vF vR qs fs ts) : ArX w wr.drew d n kf k vN vF vR qs fs ts := h.call (Below.refl _ _).drew
theorem ArX.alloc (h : ArX w wr d n kf k vN vF vR qs fs ts) (o : Obj) : ArX w (wr.alloc o) d n kf k vN vF vR qs fs ts := h.call (below_alloc wr o)
theorem ArX.mid (h : ArX w wr d n kf k vN vF vR qs fs ts) (hg : wr.grownBy w1 vR.ownBlock) : Lies w1 (w.heap.size + 1) 26 #[.int .i64 d, vN, vF, vR] :=
  (hg.block _ h.o.inside (fun e => by have := (ownsRow_block2 h.R.S _ e.symm).1; omega)).trans h.o
theorem ArX.put {q : RV} (h : ArX w wr d n kf k vN vF vR qs fs ts) (hb : Below wr.heap.size wr W) (hq : W.ownsRow wr.heap.size 2 1 (.slice q.A1 q.n1 q.c1) q.n1 (q.ws.map (Value.int .i64)))
    (ho : w1.ownsRow (w.heap.size + 1 + 1) 123 2 (.slice (some ⟨g, 0, none⟩) (k + 1) cap) (k + 1) (ts.flatMap RV.cells ++ RV.cells q)) (hw : W.grownBy w1 vR.ownBlock) (hat : vR.ownBlock = some g ∨ W.heap.size ≤ g) :
    ArX w (w1.setCell ⟨w.heap.size + 1, 3, none⟩ (.slice (some ⟨g, 0, none⟩) (k + 1) cap)) d n kf (k + 1) vN vF (.slice (some ⟨g, 0, none⟩) (k + 1) cap) qs fs (ts ++ [q]) := by
  have h' := h.call hb
  have hlo : w.heap.size + 1 + 1 ≤ wr.heap.size := h.o.inside
  have hbk := ownsRow_block2 h.R.S
  have hF := ownsRow_block2 h.F
  have hN := ownsRow_block2 h.N.S
  have hB := nodesB_in h.N
  have hs := hb.size
  have R1 := h.R.put (q := q) hb hq hlo ho hw hat
  have nr : ∀ y, y < w.heap.size + 1 + 1 → some y ≠ vR.ownBlock := fun y hy e => by have := (hbk y e.symm).1; omega
  have keep : ∀ y, y < wr.heap.size → some y ≠ vR.ownBlock → w1.heap[y]? = W.heap[y]? := fun y h1 h2 => hw.block y (Nat.lt_of_lt_of_le h1 hs) h2
  have N1 : NodesOut w1 (w.heap.size + 1 + 1) vN n qs := h'.N.others (fun b e => keep b (hN b e).2 (fun e2 => (h.e b (Or.inl e2.symm)).1 e)) (fun b hb => keep b (hB b hb).2 (fun e2 => (h.e b (Or.inl e2.symm)).2.2 hb))
  have F1 := ownsRow_others (w' := w1) h'.F (fun b e => keep b (hF b e).2 (fun e2 => (h.e b (Or.inl e2.symm)).2.1 e))
  refine ⟨(below_grown2 h'.b hw (fun r e => by have := (hbk r e).1; omega) h'.b.size).setCell (by show w.heap.size ≤ w.heap.size + 1; omega) _, Lies.far ((hw.block _ h'.r.inside (nr _ (by omega))).trans h'.r) (by show w.heap.size ≠ w.heap.size + 1; omega) _, Lies.set (w := w1) ((hw.block _ h'.o.inside (nr _ (by omega))).trans h'.o) 3 _, N1.far (by show w.heap.size + 1 < _; omega) _, ownsRow_far2 F1 (by show w.heap.size + 1 < _; omega) _, h.d, R1.far (by show w.heap.size + 1 < _; omega) _, fun b e => ?_⟩
  have new : ∀ b, wr.heap.size ≤ b → vN.ownBlock ≠ some b ∧ vF.ownBlock ≠ some b ∧ b ∉ nodesB qs := fun b hb1 => ⟨fun e => by have := (hN b e).2; omega, fun e => by have := (hF b e).2; omega, fun e => by have := (hB b e).2; omega⟩
  rcases e with e | e
  · have e2' : g = b := by simpa [Value.ownBlock] using e
    subst e2'
    rcases hat with hat | hat
    · exact h.e g (Or.inl hat)
    · exact new g (by omega)
  · have nb : rvsB (ts ++ [q]) = rvsB ts ++ rvB q := by simp [rvsB]
    rw [nb] at e
    rcases List.mem_append.1 e with e | e
    · exact h.e b (Or.inr e)
    · exact new b (ownsRow_block2 hq b (rvB_mem.1 e)).1
end

end Go.Proofs.YtpgoildfjkokiaaGreat

/- Answers that are arenas: the walks of the laws' markArenaResult, heldArenaResult, eqArenaResult. -/
namespace Go.Proofs.YtpgoildfjkokiaaGreat
open Go.RowKit

set_option maxHeartbeats 1600000 in
theorem markArenaResult_any (k cd d id : Int) (n1 c1 n2 c2 n3 c3 : Nat) (A1 A2 A3 : Option Addr) (ns : List NV) (rs : List RV) (w : World) (hS : ArSh w A1 A2 A3 n1 n2 n3 ns rs) (hw : Writ w (arCells A1 A2 A3 n2 ns rs)) (hd : (arCells A1 A2 A3 n2 ns rs).Nodup) (h0 : 0 ≤ k) (h1 : k + (arCells A1 A2 A3 n2 ns rs).length ≤ 4398046511104) :
    Calls Tryz.prog 27 #[.agg #[.int .i64 cd, .int .i64 d, .slice A1 n1 c1, .slice A2 n2 c2, .slice A3 n3 c3, .int .i64 id], .int .i64 k] w fun e w' => e = .returned (.int .i64 (k + (arCells A1 A2 A3 n2 ns rs).length)) ∧ Passed k (arCells A1 A2 A3 n2 ns rs) w w' := by
  have B := Lib.hid (below_alloc w (.cells #[.int .i64 cd, .int .i64 d, .slice A1 n1 c1, .slice A2 n2 c2, .slice A3 n3 c3, .int .i64 id] 53))
  have SH := Lib.hid (hS.kept B.out)
  have HW := Lib.hid (hw.kept B.out)
  have HD := Lib.hid hd
  clear hS hw hd
  go_enter Tryz.func27, Tryz.ntmps27
  go_wp2_with fail
  refine (markArena_any k d n1 c1 n2 c2 n3 c3 A1 A2 A3 ns rs _ SH.out HW.out HD.out h0 h1).mono ?_
  rintro e W1 ⟨rfl, p1⟩
  have P1 := Lib.hid (p1.before B.out)
  clear p1
  go_wp2
  go_ret
  exact ⟨rfl, P1.out⟩

set_option maxHeartbeats 1600000 in
theorem heldArenaResult_any (k cd d id : Int) (n1 c1 n2 c2 n3 c3 : Nat) (A1 A2 A3 : Option Addr) (ns : List NV) (rs : List RV) (w : World) (hS : ArSh w A1 A2 A3 n1 n2 n3 ns rs) (hm : MarkAt w k (arCells A1 A2 A3 n2 ns rs)) (h0 : 0 ≤ k) (h1 : k + (arCells A1 A2 A3 n2 ns rs).length ≤ 4398046511104) :
    Calls Tryz.prog 28 #[.agg #[.int .i64 cd, .int .i64 d, .slice A1 n1 c1, .slice A2 n2 c2, .slice A3 n3 c3, .int .i64 id], .int .i64 k] w fun e w' => e = .returned (.int .i64 (k + (arCells A1 A2 A3 n2 ns rs).length)) ∧ Below w.heap.size w w' := by
  have B := Lib.hid (below_alloc w (.cells #[.int .i64 cd, .int .i64 d, .slice A1 n1 c1, .slice A2 n2 c2, .slice A3 n3 c3, .int .i64 id] 53))
  have SH := Lib.hid (hS.kept B.out)
  have HM := Lib.hid (hm.kept B.out)
  have g : ¬ (k + ((arCells A1 A2 A3 n2 ns rs).length : Int) < 0) := by omega
  clear hS hm
  go_enter Tryz.func28, Tryz.ntmps28
  go_wp2_with fail
  refine (heldArena_any k d n1 c1 n2 c2 n3 c3 A1 A2 A3 ns rs _ SH.out HM.out h0 h1).mono ?_
  rintro e W1 ⟨rfl, b1⟩
  have B1 := Lib.hid (B.out.trans (b1.mono B.out.size))
  clear b1
  go_wp2
  go_ret
  exact ⟨rfl, B1.out⟩

set_option maxHeartbeats 1600000 in
theorem eqArenaResult_same (cd d id : Int) (c4 c5 c6 : Nat) (A4 A5 A6 : Option Addr) (ns' : List NV) (rs' : List RV) (A1 A2 A3 : Option Addr) (n1 c1 n2 c2 n3 c3 : Nat) (ns : List NV) (fs : List Int) (rs : List RV) (w : World) (hp : ArenaL w A1 A2 A3 n1 n2 n3 ns fs rs) (hq : ArenaL w A4 A5 A6 n1 n2 n3 ns' fs rs') (hv : ns.map NV.val = ns'.map NV.val) (hr : rs.map RV.val = rs'.map RV.val) :
    Calls Tryz.prog 24 #[.agg #[.int .i64 cd, .int .i64 d, .slice A1 n1 c1, .slice A2 n2 c2, .slice A3 n3 c3, .int .i64 id], .agg #[.int .i64 cd, .int .i64 d, .slice A4 n1 c4, .slice A5 n2 c5, .slice A6 n3 c6, .int .i64 id]] w fun e w' => e = .returned (.bool true) ∧ Below w.heap.size w w' := by
  have e1 : (cd != cd) = false := by simp
  have e2 : (id != id) = false := by simp
  have HP := Lib.hid hp
  have HQ := Lib.hid hq
  have HV := Lib.hid hv
  have HR := Lib.hid hr
  clear hp hq hv hr
  have B := Lib.hid (below_alloc w (.cells #[.int .i64 cd, .int .i64 d, .slice A1 n1 c1, .slice A2 n2 c2, .slice A3 n3 c3, .int .i64 id] 53))
  replace B := Lib.hid (B.out.alloc B.out.size (.cells #[.int .i64 cd, .int .i64 d, .slice A4 n1 c4, .slice A5 n2 c5, .slice A6 n3 c6, .int .i64 id] 53))
  have L_a := Lib.hid ((Lies.new w 53 #[.int .i64 cd, .int .i64 d, .slice A1 n1 c1, .slice A2 n2 c2, .slice A3 n3 c3, .int .i64 id]).alloc (.cells #[.int .i64 cd, .int .i64 d, .slice A4 n1 c4, .slice A5 n2 c5, .slice A6 n3 c6, .int .i64 id] 53))
  have L_b := Lib.hid (Lies.new (w.alloc (.cells #[.int .i64 cd, .int .i64 d, .slice A1 n1 c1, .slice A2 n2 c2, .slice A3 n3 c3, .int .i64 id] 53)) 53 #[.int .i64 cd, .int .i64 d, .slice A4 n1 c4, .slice A5 n2 c5, .slice A6 n3 c6, .int .i64 id])
  simp only [World.size_alloc] at L_b
  go_enter Tryz.func24, Tryz.ntmps24
  go_wp2_with fail
  refine (eqArena_same d c4 c5 c6 A4 A5 A6 ns' rs' A1 A2 A3 n1 c1 n2 c2 n3 c3 ns fs rs _ (HP.out.kept B.out) (HQ.out.kept B.out) HV.out HR.out).mono ?_
  rintro e W1 ⟨rfl, b1⟩
  replace L_a := Lib.hid (L_a.out.kept b1 L_a.out.inside)
  replace L_b := Lib.hid (L_b.out.kept b1 L_b.out.inside)
  replace B := Lib.hid (B.out.trans (b1.mono B.out.size))
  clear b1
  have a5 : W1.cell? ⟨w.heap.size, 5, none⟩ = some (.int .i64 id) := L_a.out.cell 5
  have b5 : W1.cell? ⟨w.heap.size + 1, 5, none⟩ = some (.int .i64 id) := L_b.out.cell 5
  go_wp2
  go_ret
  exact ⟨rfl, B.out⟩

end Go.Proofs.YtpgoildfjkokiaaGreat

/- Trees: what they are in memory, and the laws' helpers szTree, eqTree, toTree. -/
namespace Go.Proofs.YtpgoildfjkokiaaGreat
open Go.RowKit


set_option maxHeartbeats 1600000 in
theorem eqTree_same (st d rt rn ct : Int) (c4 c5 c6 : Nat) (A4 A5 A6 : Option Addr) (ns' : List NV) (rs' : List RV) (A1 A2 A3 : Option Addr) (n1 c1 n2 c2 n3 c3 : Nat) (ns : List NV) (fs : List Int) (rs : List RV) (w : World) (hp : ArenaL w A1 A2 A3 n1 n2 n3 ns fs rs) (hq : ArenaL w A4 A5 A6 n1 n2 n3 ns' fs rs') (hv : ns.map NV.val = ns'.map NV.val) (hr : rs.map RV.val = rs'.map RV.val) :
    Calls Tryz.prog 38 #[.agg #[.int .i64 st, .int .i64 d, .slice A1 n1 c1, .slice A2 n2 c2, .slice A3 n3 c3, .int .i64 rt, .int .i64 rn, .int .i64 ct], .agg #[.int .i64 st, .int .i64 d, .slice A4 n1 c4, .slice A5 n2 c5, .slice A6 n3 c6, .int .i64 rt, .int .i64 rn, .int .i64 ct]] w fun e w' => e = .returned (.bool true) ∧ Below w.heap.size w w' := by
  have e1 : (st != st) = false := by simp
  have e2 : (rt != rt) = false := by simp
  have e3 : (rn != rn) = false := by simp
  have e4 : (ct != ct) = false := by simp
  have HP := Lib.hid hp
  have HQ := Lib.hid hq
  have HV := Lib.hid hv
  have HR := Lib.hid hr
  clear hp hq hv hr
  have B := Lib.hid (below_alloc w (.cells #[.int .i64 st, .int .i64 d, .slice A1 n1 c1, .slice A2 n2 c2, .slice A3 n3 c3, .int .i64 rt, .int .i64 rn, .int .i64 ct] 28))
  replace B := Lib.hid (B.out.alloc B.out.size (.cells #[.int .i64 st, .int .i64 d, .slice A4 n1 c4, .slice A5 n2 c5, .slice A6 n3 c6, .int .i64 rt, .int .i64 rn, .int .i64 ct] 28))
  have L_a := Lib.hid ((Lies.new w 28 #[.int .i64 st, .int .i64 d, .slice A1 n1 c1, .slice A2 n2 c2, .slice A3 n3 c3, .int .i64 rt, .int .i64 rn, .int .i64 ct]).alloc (.cells #[.int .i64 st, .int .i64 d, .slice A4 n1 c4, .slice A5 n2 c5, .slice A6 n3 c6, .int .i64 rt, .int .i64 rn, .int .i64 ct] 28))
  have L_b := Lib.hid (Lies.new (w.alloc (.cells #[.int .i64 st, .int .i64 d, .slice A1 n1 c1, .slice A2 n2 c2, .slice A3 n3 c3, .int .i64 rt, .int .i64 rn, .int .i64 ct] 28)) 28 #[.int .i64 st, .int .i64 d, .slice A4 n1 c4, .slice A5 n2 c5, .slice A6 n3 c6, .int .i64 rt, .int .i64 rn, .int .i64 ct])
  simp only [World.size_alloc] at L_b
  go_enter Tryz.func38, Tryz.ntmps38
  go_wp2_with fail
  refine (eqArena_same d _ _ _ _ _ _ ns' rs' _ _ _ _ _ _ _ _ _ ns fs rs _ (HP.out.kept B.out) (HQ.out.kept B.out) HV.out HR.out).mono ?_
  rintro e W1 ⟨rfl, b1⟩
  replace L_a := Lib.hid (L_a.out.kept b1 L_a.out.inside)
  replace L_b := Lib.hid (L_b.out.kept b1 L_b.out.inside)
  replace B := Lib.hid (B.out.trans (b1.mono B.out.size))
  clear b1
  have a5 : W1.cell? ⟨w.heap.size, 5, none⟩ = some (.int .i64 rt) := L_a.out.cell 5
  have a6 : W1.cell? ⟨w.heap.size, 6, none⟩ = some (.int .i64 rn) := L_a.out.cell 6
  have a7 : W1.cell? ⟨w.heap.size, 7, none⟩ = some (.int .i64 ct) := L_a.out.cell 7
  have b5 : W1.cell? ⟨w.heap.size + 1, 5, none⟩ = some (.int .i64 rt) := L_b.out.cell 5
  have b6 : W1.cell? ⟨w.heap.size + 1, 6, none⟩ = some (.int .i64 rn) := L_b.out.cell 6
  have b7 : W1.cell? ⟨w.heap.size + 1, 7, none⟩ = some (.int .i64 ct) := L_b.out.cell 7
  go_wp2
  go_ret
  exact ⟨rfl, B.out⟩


end Go.Proofs.YtpgoildfjkokiaaGreat
