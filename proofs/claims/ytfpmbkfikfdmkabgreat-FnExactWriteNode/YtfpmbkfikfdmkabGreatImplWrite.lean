/- The walk of impl.WriteNode. -/
import Derived.Test.YtfpmbkfikfdmkabGreatImplTake
namespace Go.Proofs.YtfpmbkfikfdmkabGreat
open Go.RowKit

/-- A place whose node is another. -/
def LV.held (p : LV) (lv ns rt : Int) (A : Option Addr) (n c : Nat) (ss : List SL) (vs : List EVal) : LV := ⟨p.g, lv, ns, rt, A, n, c, ss, vs, p.fr, p.wA, p.wn, p.wc, p.ws⟩
theorem freeL_held : ∀ {ps : List LV} {i k : Nat} {p p' : LV}, ps[k]? = some p → p'.fr = p.fr → freeL i (ps.set k p') = freeL i ps
  | [], i, k, p, p', h, _ => by simp at h
  | a :: t, i, 0, p, p', h, hf => by
    simp at h; subst h
    simp only [List.set_cons_zero, freeL, hf]
  | a :: t, i, k + 1, p, p', h, hf => by
    simp only [List.set_cons_succ, freeL]
    rw [freeL_held (ps := t) (i := i + 1) (k := k) (by simpa using h) hf]
theorem Ret.hold {w0 w : World} {lo G M pb cp n km k j hn hc : Nat} {d lv ns rt : Int} {o : Value} {ps : List LV} {ids : List Int} {f : Int → Option Nat} {p : LV} {hA : Option Addr} {ss : List SL} {vs : List EVal} (h : Ret w0 lo G M d o pb cp n ps km k ids f) (hb : Below w0.heap.size w0 w) (hi : ps[j]? = some p) (hS : Slots w hA hn ss) (hO : SlotsOf vs ss) (hN : nodeF lv ns rt vs d = 0) (hF : Fresh w0.heap.size hA hn) (hlo : lo ≤ w0.heap.size) :
    Ret (w.setCell ⟨p.g, 0, none⟩ (holderV d lv ns rt hA hn hc)) lo G M d o pb cp n (ps.set j (p.held lv ns rt hA hn hc ss vs)) km k ids f := by
  have hok0 := h.G'.P.P p (List.mem_of_getElem? hi)
  have hok := (h.kept hb).G'.P.P p (List.mem_of_getElem? hi)
  have hg0 := hok0.L.inside
  have bs := hb.size
  have hsz : w.heap.size ≤ (w.setCell ⟨p.g, 0, none⟩ (holderV d lv ns rt hA hn hc)).heap.size := Nat.le_of_eq (size_of_setCell _ _ _).symm
  have keep : ∀ b, b ≠ p.g → (w.setCell ⟨p.g, 0, none⟩ (holderV d lv ns rt hA hn hc)).heap[b]? = w.heap[b]? := fun b hne => heap_setCell_other w ⟨p.g, 0, none⟩ b _ hne
  have rowp : ∀ b, (p.held lv ns rt hA hn hc ss vs).row b → (w0.heap.size ≤ b) ∨ (0 < p.wn ∧ p.wA = some ⟨b, 0, none⟩) := by
    rintro b (⟨a1, a2⟩ | ⟨a1, a2⟩)
    · simp only [LV.held] at a1 a2
      obtain ⟨g, e1, e2⟩ := hF a1
      rw [a2] at e1; injection e1 with e1; injection e1 with e1
      exact Or.inl (by omega)
    · exact Or.inr ⟨a1, a2⟩
  refine h.place hi rfl (by omega) (fun b h1 h2 => (keep b h2).trans (hb.block b h1)) ?_ (fun b hb' => ?_)
  · refine ⟨hok.L.set 0 _, hS.block hF hsz (fun b h0 e => keep b ?_), hO, hN, hok.W.blockF hok.E hsz (fun b h0 e => keep b (fun e' => hok.Y (Or.inr ⟨h0, e' ▸ e⟩))), hok.g, hF.lower hlo, hok.E, fun hy => ?_⟩
    · obtain ⟨g, e1, e2⟩ := hF h0
      rw [e] at e1; injection e1 with e1; injection e1 with e1; omega
    · rcases rowp _ hy with h2 | h2
      · simp only [LV.held] at h2; omega
      · exact hok.Y (Or.inr h2)
  · rcases rowp b hb' with h2 | h2
    · exact Or.inr h2
    · exact Or.inl (Or.inr h2)

set_option maxRecDepth 100000 in
set_option maxHeartbeats 6400000 in
theorem implWriteNode_any (d lv nn rt : Int) (n1 c1 n2 c2 n3 c3 n c : Nat) (A1 A2 A3 A : Option Addr) (ns : List NV) (id : Int) (fs : List Int) (rs : List RV) (es : List EV) (w : World) (hp : ArenaL w A1 A2 A3 n1 n2 n3 ns fs rs) (hn3 : n3 ≤ 1048576) (he : Entries w A n es) (hn : n ≤ maxLen) :
    Calls Tryz.prog 23 #[.agg #[.int .i64 d, .slice A1 n1 c1, .slice A2 n2 c2, .slice A3 n3 c3], .int .i64 id, .agg #[.int .i64 lv, .int .i64 nn, .int .i64 rt, .slice A n c]] w (ImPost (writeR d (ns.map NV.val) fs (rs.map RV.val) id (lv, nn, rt, es.map EV.val)) w) := by
  have HP := Lib.hid hp
  have HE := Lib.hid he
  have HL : Hid ((ns.map NV.val).length = n1) := by show List.length _ = n1; rw [List.length_map]; exact hp.N.1
  clear hp he
  have B := Lib.hid (below_alloc w (.cells #[.int .i64 d, .slice A1 n1 c1, .slice A2 n2 c2, .slice A3 n3 c3] 35))
  replace B := Lib.hid (B.out.alloc B.out.size (.cells #[.int .i64 lv, .int .i64 nn, .int .i64 rt, .slice A n c] 42))
  replace B := Lib.hid (B.out.alloc B.out.size (.cells #[.int .i64 0, .int .i64 0, .slice none 0 0, .slice none 0 0, .slice none 0 0, .int .i64 0] 37))
  have L_r := Lib.hid (Lies.new ((w.alloc (.cells #[.int .i64 d, .slice A1 n1 c1, .slice A2 n2 c2, .slice A3 n3 c3] 35)).alloc (.cells #[.int .i64 lv, .int .i64 nn, .int .i64 rt, .slice A n c] 42)) 37 #[.int .i64 0, .int .i64 0, .slice none 0 0, .slice none 0 0, .slice none 0 0, .int .i64 0])
  simp only [World.size_alloc] at L_r
  go_enter Tryz.func23, Tryz.ntmps23
  go_wp2_with fail
  refine (openBoth_any d lv nn rt n1 c1 n2 c2 n3 c3 n c A1 A2 A3 A ns fs rs es _ (HP.out.kept B.out) hn3 (HE.out.kept B.out) hn).mono ?_
  rintro e W1 ⟨b1, h⟩
  have sW1 := b1.size
  simp only [World.size_alloc] at sW1
  replace L_r := Lib.hid (L_r.out.kept b1 L_r.out.inside)
  replace B := Lib.hid (B.out.trans (b1.mono B.out.size))
  clear b1
  rcases h with ⟨hz, u1, u2, rfl⟩ | ⟨hz, hzn, u1, u2, rfl⟩ | ⟨hz, hzn, G, hA, hc, ss, w1, rfl, hO, hb1, hS, hSO, hF⟩
  · have hz1 : (arenaF d (ns.map NV.val) fs (rs.map RV.val) != 0) = true := by simpa using hz
    have HR := Lib.hid (writeR_arena (id := id) (v := (lv, nn, rt, es.map EV.val)) hz)
    clear hz
    have z0 : W1.cell? ⟨w.heap.size + 1 + 1, 0, none⟩ = some (.int .i64 0) := L_r.out.cell 0
    have y0 : W1.frozen? ⟨w.heap.size + 1 + 1, 0, none⟩ = false := L_r.out.thawed 0
    have z1 : W1.cell? ⟨w.heap.size + 1 + 1, 1, none⟩ = some (.int .i64 0) := L_r.out.cell 1
    have y1 : W1.frozen? ⟨w.heap.size + 1 + 1, 1, none⟩ = false := L_r.out.thawed 1
    have z2 : W1.cell? ⟨w.heap.size + 1 + 1, 2, none⟩ = some (.slice none 0 0) := L_r.out.cell 2
    have y2 : W1.frozen? ⟨w.heap.size + 1 + 1, 2, none⟩ = false := L_r.out.thawed 2
    have z3 : W1.cell? ⟨w.heap.size + 1 + 1, 3, none⟩ = some (.slice none 0 0) := L_r.out.cell 3
    have y3 : W1.frozen? ⟨w.heap.size + 1 + 1, 3, none⟩ = false := L_r.out.thawed 3
    have z4 : W1.cell? ⟨w.heap.size + 1 + 1, 4, none⟩ = some (.slice none 0 0) := L_r.out.cell 4
    have y4 : W1.frozen? ⟨w.heap.size + 1 + 1, 4, none⟩ = false := L_r.out.thawed 4
    have z5 : W1.cell? ⟨w.heap.size + 1 + 1, 5, none⟩ = some (.int .i64 0) := L_r.out.cell 5
    have y5 : W1.frozen? ⟨w.heap.size + 1 + 1, 5, none⟩ = false := L_r.out.thawed 5
    go_wp2
    refine bodyPost_ret (v := .agg #[.int .i64 (arenaF d (ns.map NV.val) fs (rs.map RV.val)), .int .i64 0, .slice none 0 0, .slice none 0 0, .slice none 0 0, .int .i64 0]) (by simp [results, Tryz.results23, go_sem, z0, z1, z2, z3, z4, z5]) rfl ?_
    with_reducible refine ImPost.no HR.out ?_
    with_reducible (repeat (first | exact B.out | refine Below.setCell ?_ ?_ _))
    all_goals (show w.heap.size ≤ w.heap.size + 1 + 1; omega)
  · have hz1 : (nodeFv d (lv, nn, rt, es.map EV.val) != 0) = true := by simpa using hzn
    have HR := Lib.hid (writeR_node (id := id) (v := (lv, nn, rt, es.map EV.val)) hz hzn)
    clear hz hzn
    have z0 : W1.cell? ⟨w.heap.size + 1 + 1, 0, none⟩ = some (.int .i64 0) := L_r.out.cell 0
    have y0 : W1.frozen? ⟨w.heap.size + 1 + 1, 0, none⟩ = false := L_r.out.thawed 0
    have z1 : W1.cell? ⟨w.heap.size + 1 + 1, 1, none⟩ = some (.int .i64 0) := L_r.out.cell 1
    have y1 : W1.frozen? ⟨w.heap.size + 1 + 1, 1, none⟩ = false := L_r.out.thawed 1
    have z2 : W1.cell? ⟨w.heap.size + 1 + 1, 2, none⟩ = some (.slice none 0 0) := L_r.out.cell 2
    have y2 : W1.frozen? ⟨w.heap.size + 1 + 1, 2, none⟩ = false := L_r.out.thawed 2
    have z3 : W1.cell? ⟨w.heap.size + 1 + 1, 3, none⟩ = some (.slice none 0 0) := L_r.out.cell 3
    have y3 : W1.frozen? ⟨w.heap.size + 1 + 1, 3, none⟩ = false := L_r.out.thawed 3
    have z4 : W1.cell? ⟨w.heap.size + 1 + 1, 4, none⟩ = some (.slice none 0 0) := L_r.out.cell 4
    have y4 : W1.frozen? ⟨w.heap.size + 1 + 1, 4, none⟩ = false := L_r.out.thawed 4
    have z5 : W1.cell? ⟨w.heap.size + 1 + 1, 5, none⟩ = some (.int .i64 0) := L_r.out.cell 5
    have y5 : W1.frozen? ⟨w.heap.size + 1 + 1, 5, none⟩ = false := L_r.out.thawed 5
    go_wp2
    refine bodyPost_ret (v := .agg #[.int .i64 (nodeFv d (lv, nn, rt, es.map EV.val)), .int .i64 0, .slice none 0 0, .slice none 0 0, .slice none 0 0, .int .i64 0]) (by simp [results, Tryz.results23, go_sem, z0, z1, z2, z3, z4, z5]) rfl ?_
    with_reducible refine ImPost.no HR.out ?_
    with_reducible (repeat (first | exact B.out | refine Below.setCell ?_ ?_ _))
    all_goals (show w.heap.size ≤ w.heap.size + 1 + 1; omega)
  · have HZ := Lib.hid hz
    have HZN := Lib.hid hzn
    obtain ⟨lo, M, o, pb, cp, qs, f, hRet, hvals, hfr, hG0, hM0, hlo1, hWa, hwlo⟩ := hO
    obtain ⟨s1, s2, s3, s4⟩ := opened_say hz hvals hfr
    obtain ⟨hdd, hnn, _⟩ := arenaF_zero hz
    have hn40 : n1 ≤ 40 := by rw [HL.out] at hnn; exact hnn.2
    have hlenq : qs.length = n1 := hRet.G'.R.l
    simp only [World.size_alloc] at hG0 hM0 hwlo
    have HRT := Lib.hid hRet
    have HB1 := Lib.hid hb1
    have HS := Lib.hid hS
    have HSO := Lib.hid hSO
    have HF := Lib.hid hF
    have HWA := Lib.hid hWa
    have HVL := Lib.hid hvals
    have S1 := Lib.hid s1
    have S2 := Lib.hid s2
    have S4 := Lib.hid s4
    have S3 := Lib.hid s3
    have HFRQ := Lib.hid hfr
    have hw1 := hb1.size
    clear hz hzn hRet hvals hfr hWa hS hSO hF s1 s2 s3 s4 hb1 hdd hnn
    have k1 : W1.cell? ⟨G, 1, none⟩ = some (.slice (some ⟨pb, 0, none⟩) n1 cp) := (HRT.out.kept HB1.out).G'.L.cell 1
    have hGi := (HRT.out.kept HB1.out).G'.L.inside
    by_cases hin : 0 ≤ id ∧ id ≤ (n1 : Int) - 1
    rotate_left
    · have HR : Hid (writeR d (ns.map NV.val) fs (rs.map RV.val) id (lv, nn, rt, es.map EV.val) = arNo 3) := by
        show _ = _
        have e : readF (ns.map NV.val).length fs id = 3 := readF_out (by rw [HL.out]; exact hin)
        have h1 := writeR_read (v := (lv, nn, rt, es.map EV.val)) HZ.out HZN.out (by rw [e]; decide)
        rw [e] at h1; exact h1
      go_wp2_with fail
      refine (at_out G pb cp n1 id _ k1 hGi hn40 hin).mono ?_
      rintro e W2 ⟨rfl, b2⟩
      replace L_r := Lib.hid (L_r.out.kept b2 L_r.out.inside)
      replace B := Lib.hid (B.out.trans (b2.mono B.out.size))
      clear b2 k1 hin
      have z0 : W2.cell? ⟨w.heap.size + 1 + 1, 0, none⟩ = some (.int .i64 0) := L_r.out.cell 0
      have y0 : W2.frozen? ⟨w.heap.size + 1 + 1, 0, none⟩ = false := L_r.out.thawed 0
      have z1 : W2.cell? ⟨w.heap.size + 1 + 1, 1, none⟩ = some (.int .i64 0) := L_r.out.cell 1
      have y1 : W2.frozen? ⟨w.heap.size + 1 + 1, 1, none⟩ = false := L_r.out.thawed 1
      have z2 : W2.cell? ⟨w.heap.size + 1 + 1, 2, none⟩ = some (.slice none 0 0) := L_r.out.cell 2
      have y2 : W2.frozen? ⟨w.heap.size + 1 + 1, 2, none⟩ = false := L_r.out.thawed 2
      have z3 : W2.cell? ⟨w.heap.size + 1 + 1, 3, none⟩ = some (.slice none 0 0) := L_r.out.cell 3
      have y3 : W2.frozen? ⟨w.heap.size + 1 + 1, 3, none⟩ = false := L_r.out.thawed 3
      have z4 : W2.cell? ⟨w.heap.size + 1 + 1, 4, none⟩ = some (.slice none 0 0) := L_r.out.cell 4
      have y4 : W2.frozen? ⟨w.heap.size + 1 + 1, 4, none⟩ = false := L_r.out.thawed 4
      have z5 : W2.cell? ⟨w.heap.size + 1 + 1, 5, none⟩ = some (.int .i64 0) := L_r.out.cell 5
      have y5 : W2.frozen? ⟨w.heap.size + 1 + 1, 5, none⟩ = false := L_r.out.thawed 5
      go_wp2
      refine bodyPost_ret (v := .agg #[.int .i64 (3), .int .i64 0, .slice none 0 0, .slice none 0 0, .slice none 0 0, .int .i64 0]) (by simp [results, Tryz.results23, go_sem, z0, z1, z2, z3, z4, z5]) rfl ?_
      with_reducible refine ImPost.no HR.out ?_
      with_reducible (repeat (first | exact B.out | refine Below.setCell ?_ ?_ _))
      all_goals (show w.heap.size ≤ w.heap.size + 1 + 1; omega)
    obtain ⟨k, rfl⟩ := Int.eq_ofNat_of_zero_le hin.1
    have hkn : k < n1 := by omega
    obtain ⟨q, hq⟩ : ∃ q, qs[k]? = some q := ⟨_, List.getElem?_eq_getElem (by omega)⟩
    have hpb := (HRT.out.kept HB1.out).G'.R.i.2
    have j0 := (HRT.out.kept HB1.out).G'.R.c k q hq
    have hok := (HRT.out.kept HB1.out).G'.P.P q (List.mem_of_getElem? hq)
    have hqg : q.g < W1.heap.size := hok.L.inside
    have l1 : W1.cell? ⟨q.g, 1, none⟩ = some (.bool q.fr) := hok.L.cell 1
    have hfq := HFRQ.out k q hq
    clear hok hin
    cases hfe : q.fr
    rotate_left
    · have HR : Hid (writeR d (ns.map NV.val) fs (rs.map RV.val) (k : Int) (lv, nn, rt, es.map EV.val) = arNo 4) := by
        show _ = _
        have e : readF (ns.map NV.val).length fs (k : Int) = 4 := by rw [readF_in (by rw [HL.out]; omega), ← hfq, hfe]; rfl
        have h1 := writeR_read (v := (lv, nn, rt, es.map EV.val)) HZ.out HZN.out (by rw [e]; decide)
        rw [e] at h1; exact h1
      rw [hfe] at l1
      clear hfe hfq
      go_wp2_with fail
      refine (at_in G pb cp n1 q.g true k _ k1 hGi hn40 hkn hpb j0 hqg l1).mono ?_
      rintro e W2 ⟨rfl, b2⟩
      replace L_r := Lib.hid (L_r.out.kept b2 L_r.out.inside)
      replace B := Lib.hid (B.out.trans (b2.mono B.out.size))
      clear b2 k1 j0 l1
      have z0 : W2.cell? ⟨w.heap.size + 1 + 1, 0, none⟩ = some (.int .i64 0) := L_r.out.cell 0
      have y0 : W2.frozen? ⟨w.heap.size + 1 + 1, 0, none⟩ = false := L_r.out.thawed 0
      have z1 : W2.cell? ⟨w.heap.size + 1 + 1, 1, none⟩ = some (.int .i64 0) := L_r.out.cell 1
      have y1 : W2.frozen? ⟨w.heap.size + 1 + 1, 1, none⟩ = false := L_r.out.thawed 1
      have z2 : W2.cell? ⟨w.heap.size + 1 + 1, 2, none⟩ = some (.slice none 0 0) := L_r.out.cell 2
      have y2 : W2.frozen? ⟨w.heap.size + 1 + 1, 2, none⟩ = false := L_r.out.thawed 2
      have z3 : W2.cell? ⟨w.heap.size + 1 + 1, 3, none⟩ = some (.slice none 0 0) := L_r.out.cell 3
      have y3 : W2.frozen? ⟨w.heap.size + 1 + 1, 3, none⟩ = false := L_r.out.thawed 3
      have z4 : W2.cell? ⟨w.heap.size + 1 + 1, 4, none⟩ = some (.slice none 0 0) := L_r.out.cell 4
      have y4 : W2.frozen? ⟨w.heap.size + 1 + 1, 4, none⟩ = false := L_r.out.thawed 4
      have z5 : W2.cell? ⟨w.heap.size + 1 + 1, 5, none⟩ = some (.int .i64 0) := L_r.out.cell 5
      have y5 : W2.frozen? ⟨w.heap.size + 1 + 1, 5, none⟩ = false := L_r.out.thawed 5
      go_wp2
      refine bodyPost_ret (v := .agg #[.int .i64 (4), .int .i64 0, .slice none 0 0, .slice none 0 0, .slice none 0 0, .int .i64 0]) (by simp [results, Tryz.results23, go_sem, z0, z1, z2, z3, z4, z5]) rfl ?_
      with_reducible refine ImPost.no HR.out ?_
      with_reducible (repeat (first | exact B.out | refine Below.setCell ?_ ?_ _))
      all_goals (show w.heap.size ≤ w.heap.size + 1 + 1; omega)
    have HR : Hid (writeR d (ns.map NV.val) fs (rs.map RV.val) (k : Int) (lv, nn, rt, es.map EV.val) = (0, d, (ns.map NV.val).set k (lv, nn, rt, es.map EV.val), fs, rs.map RV.val, 0)) := by
      show _ = _
      rw [writeR_yes HZ.out HZN.out (by rw [readF_in (by rw [HL.out]; omega), ← hfq, hfe]; rfl), Int.toNat_natCast]
    rw [hfe] at l1
    have HQ := Lib.hid hq
    have HFE := Lib.hid hfe
    clear hfe hfq hq
    go_wp2_with fail
    refine (at_in G pb cp n1 q.g false k _ k1 hGi hn40 hkn hpb j0 hqg l1).mono ?_
    rintro e W2 ⟨rfl, b2⟩
    replace L_r := Lib.hid (L_r.out.kept b2 L_r.out.inside)
    replace B := Lib.hid (B.out.trans (b2.mono B.out.size))
    have HB2 := Lib.hid (HB1.out.trans (b2.mono HB1.out.size))
    have HS2 := Lib.hid (HS.out.kept b2)
    have sW2 := b2.size
    clear b2 k1 j0 l1
    have hok2 := (HRT.out.kept HB2.out).G'.P.P q (List.mem_of_getElem? HQ.out)
    have s0 : W2.cell? ⟨q.g, 0, none⟩ = some (holderV d q.lv q.ns q.rt q.A q.n q.c) := hok2.L.cell 0
    have f0 : W2.frozen? ⟨q.g, 0, none⟩ = false := hok2.L.thawed 0
    have hpg0 := (HRT.out.G'.P.P q (List.mem_of_getElem? HQ.out)).g
    have hpg1 := (HRT.out.G'.P.P q (List.mem_of_getElem? HQ.out)).L.inside
    have HR2 := Lib.hid (HRT.out.hold (hc := hc) HB2.out HQ.out HS2.out HSO.out HZN.out HF.out hlo1)
    have T2 : Hid (Turned (fun x => x = q.g) W2 (W2.setCell ⟨q.g, 0, none⟩ (holderV d lv nn rt hA n hc))) := (Turned.refl (fun x => x = q.g) W2).setCell (a := ⟨q.g, 0, none⟩) rfl _
    have sT := T2.out.2.1
    replace L_r := Lib.hid (T2.out.lies L_r.out (by show ¬ w.heap.size + 1 + 1 = q.g; omega))
    replace B := Lib.hid (T2.out.below B.out (fun x hx => by subst hx; omega))
    have HWN := Lib.hid (HWA.out.place HQ.out (p' := q.held lv nn rt hA n hc ss (es.map EV.val)) rfl (Or.inl rfl))
    have HFL : Hid (freeL 0 (qs.set k (q.held lv nn rt hA n hc ss (es.map EV.val))) = fs) := by show _ = _; rw [freeL_held (p' := q.held lv nn rt hA n hc ss (es.map EV.val)) HQ.out rfl]; exact S3.out
    have HVN : Hid ((qs.set k (q.held lv nn rt hA n hc ss (es.map EV.val))).map LV.val = (ns.map NV.val).set k (lv, nn, rt, es.map EV.val)) := by show _ = _; rw [List.map_set, HVL.out]; rfl
    have HHV : Hid (holderV d lv nn rt hA n hc = .iface (hty lv) (.agg #[.int .i64 d, .slice hA n hc, .int .i64 lv, .int .i64 nn, .int .i64 rt])) := rfl
    clear hok2
    rw [HHV.out] at HR2 T2 L_r B sT
    rw [HHV.out]
    go_wp2_with fail
    refine (arena_any lo G M pb cp n1 n3 n3 d o _ _ f (rs.map RV.val) _ HR2.out HWN.out rfl S4.out hn40 hn3).mono ?_
    rintro e W3 ⟨A1', c1', kf, A2', c2', A3', c3', qn, rn, rfl, hAn, hvn, hun, b3⟩
    rw [HFL.out] at hAn
    have sW3 := b3.size
    replace L_r := Lib.hid (L_r.out.kept b3 L_r.out.inside)
    replace B := Lib.hid (B.out.trans (b3.mono B.out.size))
    have HAN := Lib.hid hAn
    have HVA : Hid (qn.map NV.val = (ns.map NV.val).set k (lv, nn, rt, es.map EV.val)) := hvn.trans HVN.out
    have HUA := Lib.hid hun
    clear hAn hvn hun b3 s0 f0
    have z0 : W3.cell? ⟨w.heap.size + 1 + 1, 0, none⟩ = some (.int .i64 0) := L_r.out.cell 0
    have y0 : W3.frozen? ⟨w.heap.size + 1 + 1, 0, none⟩ = false := L_r.out.thawed 0
    have z1 : W3.cell? ⟨w.heap.size + 1 + 1, 1, none⟩ = some (.int .i64 0) := L_r.out.cell 1
    have y1 : W3.frozen? ⟨w.heap.size + 1 + 1, 1, none⟩ = false := L_r.out.thawed 1
    have z2 : W3.cell? ⟨w.heap.size + 1 + 1, 2, none⟩ = some (.slice none 0 0) := L_r.out.cell 2
    have y2 : W3.frozen? ⟨w.heap.size + 1 + 1, 2, none⟩ = false := L_r.out.thawed 2
    have z3 : W3.cell? ⟨w.heap.size + 1 + 1, 3, none⟩ = some (.slice none 0 0) := L_r.out.cell 3
    have y3 : W3.frozen? ⟨w.heap.size + 1 + 1, 3, none⟩ = false := L_r.out.thawed 3
    have z4 : W3.cell? ⟨w.heap.size + 1 + 1, 4, none⟩ = some (.slice none 0 0) := L_r.out.cell 4
    have y4 : W3.frozen? ⟨w.heap.size + 1 + 1, 4, none⟩ = false := L_r.out.thawed 4
    have z5 : W3.cell? ⟨w.heap.size + 1 + 1, 5, none⟩ = some (.int .i64 0) := L_r.out.cell 5
    have y5 : W3.frozen? ⟨w.heap.size + 1 + 1, 5, none⟩ = false := L_r.out.thawed 5
    go_wp2
    refine bodyPost_ret (v := .agg #[.int .i64 0, .int .i64 d, .slice A1' n1 c1', .slice A2' kf c2', .slice A3' n3 c3', .int .i64 0]) (by simp [results, Tryz.results23, go_sem, z0, z1, z2, z3, z4, z5]) rfl ?_
    with_reducible refine ImPost.yes HR.out ?_ HVA.out HUA.out ?_
    · refine AnsAr.lower (lo := (W2.setCell ⟨q.g, 0, none⟩ (.iface (hty lv) (.agg #[.int .i64 d, .slice hA n hc, .int .i64 lv, .int .i64 nn, .int .i64 rt]))).heap.size) ?_ (by rw [size_of_setCell]; omega)
      with_reducible (repeat (first | exact HAN.out | refine AnsAr.far ?_ ?_ _))
      all_goals (rw [size_of_setCell]; show w.heap.size + 1 + 1 < _; omega)
    · with_reducible (repeat (first | exact B.out | refine Below.setCell ?_ ?_ _))
      all_goals (show w.heap.size ≤ w.heap.size + 1 + 1; omega)

end Go.Proofs.YtfpmbkfikfdmkabGreat
