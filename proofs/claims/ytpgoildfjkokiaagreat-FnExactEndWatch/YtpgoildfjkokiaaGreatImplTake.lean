/- The walks of impl.ground's take, of impl.openBoth, impl.TakeNode and impl.WriteNode. -/
import Derived.Test.YtpgoildfjkokiaaGreatFilters
import Derived.Test.YtpgoildfjkokiaaGreatHeldLast
namespace Go.Proofs.YtpgoildfjkokiaaGreat
open Go.RowKit

set_option maxHeartbeats 400000 in
theorem takeOne_any (g : Nat) (fr : Bool) (w : World) (hc : w.cell? ⟨g, 1, none⟩ = some (.bool fr)) :
    Calls Tryz.prog 110 #[.pointer (some ⟨g, 0, none⟩)] w fun e w' => e = .returned (.bool fr) ∧ w = w' := by
  go_enter Tryz.func110, Tryz.ntmps110
  go_wp2
  go_ret
  exact ⟨rfl, rfl⟩

/-- The first free place. -/
def firstFree (ps : List LV) (i : Nat) : Prop := (∃ p, ps[i]? = some p ∧ p.fr = true) ∧ ∀ (j : Nat) (q : LV), j < i → ps[j]? = some q → q.fr = false

set_option maxRecDepth 100000 in
set_option maxHeartbeats 1600000 in
theorem indexFree_any (lo pb cp n : Nat) (d : Int) (ps : List LV) (w : World) (hP : ∀ p ∈ ps, PlaceOk w lo d p) (hR : ∀ (k : Nat) (p : LV), ps[k]? = some p → w.cell? ⟨pb, k, none⟩ = some p.ptr) (hlen : ps.length = n) (hn : n ≤ 40) :
    Calls Tryz.prog 109 #[.slice (some ⟨pb, 0, none⟩) n cp, .func (.func 110) #[] #[]] w fun e w' => w = w' ∧ ((∃ i : Nat, firstFree ps i ∧ e = .returned (.int .i64 (i : Int))) ∨ ((∀ q ∈ ps, q.fr = false) ∧ e = .returned (.int .i64 (-1)))) := by
  have HP := Lib.hid hP
  have HR := Lib.hid hR
  have HL := Lib.hid hlen
  clear hP hR hlen
  go_enter Tryz.func109, Tryz.ntmps109
  go_wp2
  go_loopw [8] (fun i wr => ∃ k : Nat, k ≤ n ∧ i = .int .i64 (k : Int) ∧ wr = w ∧ Hid (∀ (j : Nat) (q : LV), j < k → ps[j]? = some q → q.fr = false)) (fun i _ => n - (intOf i).toNat)
  case atStart => exact ⟨0, Nat.zero_le _, rfl, rfl, fun j u hj => absurd hj (Nat.not_lt_zero _)⟩
  case round =>
    obtain ⟨k, hk, rfl, rfl, hA⟩ := hrel
    by_cases hlt : k < n
    · obtain ⟨p, hp⟩ : ∃ p, ps[k]? = some p := ⟨_, List.getElem?_eq_getElem (by rw [HL.out]; exact hlt)⟩
      have HPK := Lib.hid hp
      have hok := HP.out p (List.mem_of_getElem? hp)
      have l1 : wr.cell? ⟨p.g, 1, none⟩ = some (.bool p.fr) := hok.L.cell 1
      have pc : wr.cell? ⟨pb, k, none⟩ = some (.pointer (some ⟨p.g, 0, none⟩)) := HR.out k p hp
      have hlt' : (k : Int) < (n : Int) := by omega
      clear hok hp
      cases hf : p.fr
      · rw [hf] at l1
        have hA' : Hid (∀ (j : Nat) (q : LV), j < k + 1 → ps[j]? = some q → q.fr = false) := by
          intro j q hj hq
          by_cases e : j = k
          · subst e; rw [HPK.out] at hq; injection hq with hq; rw [← hq]; exact hf
          · exact hA.out j q (by omega) hq
        clear hf hA
        go_wp2_with fail
        refine (takeOne_any p.g false _ l1).mono ?_
        rintro e w' ⟨rfl, rfl⟩
        go_wp2
        go_roundw
        case rel => exact ⟨k + 1, by omega, by go_num, by trivial, hA'⟩
        case measure => simp [intOf]; omega
      · rw [hf] at l1
        have HF : Hid (firstFree ps k) := ⟨⟨p, HPK.out, hf⟩, hA.out⟩
        clear hf hA
        go_wp2_with fail
        refine (takeOne_any p.g true _ l1).mono ?_
        rintro e w' ⟨rfl, rfl⟩
        go_wp2
        go_ret
        exact ⟨rfl, Or.inl ⟨k, HF.out, rfl⟩⟩
    · have hkn : k = n := by omega
      subst hkn
      have HF : Hid (∀ q ∈ ps, q.fr = false) := by
        intro q hq
        obtain ⟨j, hj⟩ := List.getElem?_of_mem hq
        exact hA.out j q (by rw [← HL.out]; exact (List.getElem?_eq_some_iff.1 hj).1) hj
      clear hA
      go_wp2
      go_ret
      exact ⟨rfl, Or.inr ⟨HF.out, rfl⟩⟩

/-- A place with a node in it. -/
def LV.laid (p : LV) (lv ns rt : Int) (A : Option Addr) (n c : Nat) (ss : List SL) (vs : List EVal) : LV := ⟨p.g, lv, ns, rt, A, n, c, ss, vs, false, none, 0, 0, []⟩

set_option maxRecDepth 100000 in
set_option maxHeartbeats 3200000 in
theorem take_any (d lv ns rt : Int) (lo G M pb cp n km k1 hn hc : Nat) (o : Value) (ps : List LV) (ids : List Int) (f : Int → Option Nat) (hA : Option Addr) (ss : List SL) (vs : List EVal) (w0 w : World) (h : Ret w0 lo G M d o pb cp n ps km k1 ids f) (hb : Below w0.heap.size w0 w) (hS : Slots w hA hn ss) (hO : SlotsOf vs ss) (hN : nodeF lv ns rt vs d = 0) (hF : Fresh w0.heap.size hA hn) (hlo : lo ≤ w0.heap.size) (hn40 : n ≤ 40) :
    Calls Tryz.prog 77 #[.pointer (some ⟨G, 0, none⟩), holderV d lv ns rt hA hn hc] w fun e w' => ((∃ (i : Nat) (p : LV), firstFree ps i ∧ ps[i]? = some p ∧ e = .returned (.tuple #[.int .i64 (i : Int), .int .i64 0]) ∧ Ret w' lo G M d o pb cp n (ps.set i (p.laid lv ns rt hA hn hc ss vs)) km k1 ids f ∧ Turned (fun x => x = p.g) w w') ∨ ((∀ q ∈ ps, q.fr = false) ∧ e = .returned (.tuple #[.int .i64 0, .int .i64 7]) ∧ w = w')) := by
  have H := Lib.hid h
  have H2 := Lib.hid (h.kept hb)
  have B := Lib.hid hb
  have HS := Lib.hid hS
  have HO := Lib.hid hO
  have HN := Lib.hid hN
  have HF := Lib.hid hF
  have g1 : w.cell? ⟨G, 1, none⟩ = some (.slice (some ⟨pb, 0, none⟩) n cp) := H2.out.G'.L.cell 1
  clear h hb hS hO hN hF
  have HV : Hid (holderV d lv ns rt hA hn hc = .iface (hty lv) (.agg #[.int .i64 d, .slice hA hn hc, .int .i64 lv, .int .i64 ns, .int .i64 rt])) := rfl
  rw [HV.out]
  go_enter Tryz.func77, Tryz.ntmps77
  go_wp2_with fail
  refine (indexFree_any lo pb cp n d ps _ H2.out.G'.P.P H2.out.G'.R.c H2.out.G'.R.l hn40).mono ?_
  rintro e w' ⟨rfl, ⟨i, hi, rfl⟩ | ⟨hno, rfl⟩⟩
  · obtain ⟨⟨p, hp, hpf⟩, hlow⟩ := hi
    have hin : i < n := by have := (List.getElem?_eq_some_iff.1 hp).1; rw [H.out.G'.R.l] at this; exact this
    have hin' : (i : Int) < (n : Int) := by omega
    have hi0 : ¬ ((i : Int) < 0) := by omega
    have hok0 := H.out.G'.P.P p (List.mem_of_getElem? hp)
    have hok := H2.out.G'.P.P p (List.mem_of_getElem? hp)
    have pc : w.cell? ⟨pb, i, none⟩ = some (.pointer (some ⟨p.g, 0, none⟩)) := H2.out.G'.R.c i p hp
    have s0 : w.cell? ⟨p.g, 0, none⟩ = some (holderV d p.lv p.ns p.rt p.A p.n p.c) := hok.L.cell 0
    have s1 : w.cell? ⟨p.g, 1, none⟩ = some (.bool p.fr) := hok.L.cell 1
    have s2 : w.cell? ⟨p.g, 2, none⟩ = some (.slice p.wA p.wn p.wc) := hok.L.cell 2
    have f0 : w.frozen? ⟨p.g, 0, none⟩ = false := hok.L.thawed 0
    have f1 : w.frozen? ⟨p.g, 1, none⟩ = false := hok.L.thawed 1
    have f2 : w.frozen? ⟨p.g, 2, none⟩ = false := hok.L.thawed 2
    have hgi0 := hok0.L.inside
    have hgi := hok.L.inside
    have FF : Hid (firstFree ps i) := ⟨⟨p, hp, hpf⟩, hlow⟩
    have HPI := Lib.hid hp
    have L3 := Lib.hid (((hok.L.set 0 (.iface (hty lv) (.agg #[.int .i64 d, .slice hA hn hc, .int .i64 lv, .int .i64 ns, .int .i64 rt]))).set 1 (.bool false)).set 2 (.slice none 0 0))
    have TT : Hid (Turned (fun x => x = p.g) w (((w.setCell ⟨p.g, 0, none⟩ (.iface (hty lv) (.agg #[.int .i64 d, .slice hA hn hc, .int .i64 lv, .int .i64 ns, .int .i64 rt]))).setCell ⟨p.g, 1, none⟩ (.bool false)).setCell ⟨p.g, 2, none⟩ (.slice none 0 0))) :=
      (((Turned.refl (fun x => x = p.g) w).setCell (a := ⟨p.g, 0, none⟩) rfl _).setCell (a := ⟨p.g, 1, none⟩) rfl _).setCell (a := ⟨p.g, 2, none⟩) rfl _
    have hgl := hok.g
    have RT : Hid (Ret (((w.setCell ⟨p.g, 0, none⟩ (.iface (hty lv) (.agg #[.int .i64 d, .slice hA hn hc, .int .i64 lv, .int .i64 ns, .int .i64 rt]))).setCell ⟨p.g, 1, none⟩ (.bool false)).setCell ⟨p.g, 2, none⟩ (.slice none 0 0)) lo G M d o pb cp n (ps.set i (p.laid lv ns rt hA hn hc ss vs)) km k1 ids f) := by
      have bs := B.out.size
      have ts := TT.out.2.1
      have rowp : ∀ b, (p.laid lv ns rt hA hn hc ss vs).row b → w0.heap.size ≤ b ∧ b < w.heap.size := by
        rintro b (⟨a1, a2⟩ | ⟨a1, a2⟩)
        · obtain ⟨g, e1, e2⟩ := HF.out a1
          simp only [LV.laid] at a1 a2
          have := Fresh.in_slots HS.out a1 a2
          rw [a2] at e1; injection e1 with e1; injection e1 with e1
          exact ⟨by omega, this⟩
        · simp only [LV.laid] at a1; omega
      refine H.out.place HPI.out rfl (by omega) (fun b h1 h2 => (TT.out.2.2 b (by omega) h2).trans (B.out.block b h1)) ?_ (fun b hb => Or.inr (rowp b hb).1)
      refine ⟨L3.out, HS.out.block HF.out ts (fun b h0 e => TT.out.2.2 b (Fresh.in_slots HS.out h0 e) ?_), HO.out, HN.out, Ints.empty _ _ _, hgl, HF.out.lower hlo, fun h => absurd h (Nat.lt_irrefl 0), fun hy => ?_, fun h => absurd h (Nat.lt_irrefl 0)⟩
      · have := (rowp b (Or.inl ⟨h0, e⟩)).1; omega
      · have := (rowp _ hy).1
        simp only [LV.laid] at this; omega
    clear hok hok0 hp hlow L3 hpf
    go_wp2
    go_ret2
    exact Or.inl ⟨i, p, FF.out, HPI.out, rfl, RT.out, TT.out⟩
  · have HNO := Lib.hid hno
    clear hno
    go_wp2
    go_ret2
    exact Or.inr ⟨HNO.out, rfl, rfl⟩

/-- What openBoth answers. -/
def BothPost (d lv nn rt : Int) (n : Nat) (es : List EVal) (n1 n3 : Nat) (vs : List NVal) (fs : List Int) (us : List RVal) (w : World) (e : Ending) (w' : World) : Prop :=
  Below w.heap.size w w' ∧ ((arenaF d vs fs us ≠ 0 ∧ ∃ u1 u2, e = .returned (.tuple #[u1, u2, .int .i64 (arenaF d vs fs us)])) ∨
    (arenaF d vs fs us = 0 ∧ nodeFv d (lv, nn, rt, es) ≠ 0 ∧ ∃ u1 u2, e = .returned (.tuple #[u1, u2, .int .i64 (nodeFv d (lv, nn, rt, es))])) ∨
    (arenaF d vs fs us = 0 ∧ nodeFv d (lv, nn, rt, es) = 0 ∧ ∃ (G : Nat) (A : Option Addr) (c : Nat) (ss : List SL) (w1 : World), e = .returned (.tuple #[.pointer (some ⟨G, 0, none⟩), holderV d lv nn rt A n c, .int .i64 0]) ∧ Opened w w1 d n1 n3 vs fs us G ∧ Below w1.heap.size w1 w' ∧ Slots w' A n ss ∧ SlotsOf es ss ∧ Fresh w1.heap.size A n))
theorem Opened.from' {w w0 w' : World} {d : Int} {n1 n3 : Nat} {ns : List NVal} {fs : List Int} {rs : List RVal} {G : Nat} (h : Opened w0 w' d n1 n3 ns fs rs G) (hs : w.heap.size ≤ w0.heap.size) : Opened w w' d n1 n3 ns fs rs G := by
  obtain ⟨lo, M, o, pb, cp, qs, f, h1, h2, h3, h4, h5, h6, h7, h8, h9⟩ := h
  exact ⟨lo, M, o, pb, cp, qs, f, h1, h2, h3, by omega, by omega, h6, h7, by omega, h9⟩

theorem openNode_bad (lv nn rt d : Int) (n c : Nat) (A : Option Addr) (ps : List EV) (w : World) (hp : Entries w A n ps) (hn : n ≤ maxLen) (hz : nodeFv d (lv, nn, rt, ps.map EV.val) ≠ 0) :
    Calls Tryz.prog 108 #[.agg #[.int .i64 lv, .int .i64 nn, .int .i64 rt, .slice A n c], .int .i64 d] w fun e w' => e = .returned (.tuple #[.nilIface, .int .i64 (nodeFv d (lv, nn, rt, ps.map EV.val))]) ∧ Below w.heap.size w w' :=
  (readNode_fresh lv nn rt d n c A ps w hp hn).mono fun e w' h => by
    rcases h with ⟨hb, ⟨_, h⟩ | ⟨h, _⟩⟩
    · exact ⟨h, hb⟩
    · exact absurd h hz
theorem openNode_good (lv nn rt d : Int) (n c : Nat) (A : Option Addr) (ps : List EV) (w : World) (hp : Entries w A n ps) (hn : n ≤ maxLen) (hz : nodeFv d (lv, nn, rt, ps.map EV.val) = 0) :
    Calls Tryz.prog 108 #[.agg #[.int .i64 lv, .int .i64 nn, .int .i64 rt, .slice A n c], .int .i64 d] w fun e w' => ∃ A' c' ss, e = .returned (.tuple #[holderV d lv nn rt A' n c', .int .i64 0]) ∧ Slots w' A' n ss ∧ SlotsOf (ps.map EV.val) ss ∧ Fresh w.heap.size A' n ∧ Below w.heap.size w w' :=
  (readNode_fresh lv nn rt d n c A ps w hp hn).mono fun e w' h => by
    rcases h with ⟨hb, ⟨h, _⟩ | ⟨_, A', c', ss, h1, h2, h3, h4⟩⟩
    · exact absurd hz h
    · exact ⟨A', c', ss, h1, h2, h3, h4, hb⟩

set_option maxRecDepth 100000 in
set_option maxHeartbeats 3200000 in
theorem openBoth_any (d lv nn rt : Int) (n1 c1 n2 c2 n3 c3 n c : Nat) (A1 A2 A3 A : Option Addr) (ns : List NV) (fs : List Int) (rs : List RV) (es : List EV) (w : World) (hp : ArenaL w A1 A2 A3 n1 n2 n3 ns fs rs) (hn3 : n3 ≤ 1048576) (he : Entries w A n es) (hn : n ≤ maxLen) :
    Calls Tryz.prog 76 #[.agg #[.int .i64 d, .slice A1 n1 c1, .slice A2 n2 c2, .slice A3 n3 c3], .agg #[.int .i64 lv, .int .i64 nn, .int .i64 rt, .slice A n c]] w (BothPost d lv nn rt n (es.map EV.val) n1 n3 (ns.map NV.val) fs (rs.map RV.val) w) := by
  have HP := Lib.hid hp
  have HE := Lib.hid he
  clear hp he
  have B := Lib.hid (below_alloc w (.cells #[.int .i64 d, .slice A1 n1 c1, .slice A2 n2 c2, .slice A3 n3 c3] 26))
  replace B := Lib.hid (B.out.alloc B.out.size (.cells #[.int .i64 lv, .int .i64 nn, .int .i64 rt, .slice A n c] 42))
  have L_n := Lib.hid (Lies.new (w.alloc (.cells #[.int .i64 d, .slice A1 n1 c1, .slice A2 n2 c2, .slice A3 n3 c3] 26)) 42 #[.int .i64 lv, .int .i64 nn, .int .i64 rt, .slice A n c])
  simp only [World.size_alloc] at L_n
  go_enter Tryz.func76, Tryz.ntmps76
  go_wp2_with fail
  refine (openArena_any d n1 c1 n2 c2 n3 c3 A1 A2 A3 ns fs rs _ (HP.out.kept B.out) hn3).mono ?_
  rintro e W1 ⟨b1, h⟩
  have B1 := Lib.hid (B.out.trans (b1.mono B.out.size))
  have L1 := Lib.hid (L_n.out.kept b1 L_n.out.inside)
  clear b1
  rcases h with ⟨hz, rfl⟩ | ⟨hz, G, rfl, hO⟩
  · have hz1 : (arenaF d (ns.map NV.val) fs (rs.map RV.val) != 0) = true := by simpa using hz
    have HZ := Lib.hid hz
    clear hz
    go_wp2
    refine bodyPost_ret (v := .tuple #[.pointer none, .nilIface, .int .i64 (arenaF d (ns.map NV.val) fs (rs.map RV.val))]) (by simp [results, Tryz.results76, go_sem]) rfl ⟨B1.out, Or.inl ⟨HZ.out, _, _, rfl⟩⟩
  have HZ := Lib.hid hz
  have HO : Hid (Opened w W1 d n1 n3 (ns.map NV.val) fs (rs.map RV.val) G) := hO.from' (by simp only [World.size_alloc]; omega)
  obtain ⟨lo, M, o, pb, cp, qs, f, hRet, _⟩ := hO
  have g0 : W1.cell? ⟨G, 0, none⟩ = some (.int .i64 d) := hRet.G'.L.cell 0
  have hGi := hRet.G'.L.inside
  clear hz hRet
  have k_0 : W1.cell? ⟨w.heap.size + 1, 0, none⟩ = some (.int .i64 lv) ∧ W1.cell? ⟨w.heap.size + 1, 1, none⟩ = some (.int .i64 nn) ∧ W1.cell? ⟨w.heap.size + 1, 2, none⟩ = some (.int .i64 rt) ∧ W1.cell? ⟨w.heap.size + 1, 3, none⟩ = some (.slice A n c) ∧ W1.cell? ⟨G, 0, none⟩ = some (.int .i64 d) := ⟨L1.out.cell 0, L1.out.cell 1, L1.out.cell 2, L1.out.cell 3, g0⟩
  have HE1 := Lib.hid (HE.out.kept B1.out)
  go_upto_region 4 with fail
  by_cases hzn : nodeFv d (lv, nn, rt, es.map EV.val) = 0
  rotate_left
  · have HZN := Lib.hid hzn
    clear hzn
    go_region_held3 (fun w' => w'.cell? ⟨w.heap.size + 1, 0, none⟩ = some (.int .i64 lv) ∧ w'.cell? ⟨w.heap.size + 1, 1, none⟩ = some (.int .i64 nn) ∧ w'.cell? ⟨w.heap.size + 1, 2, none⟩ = some (.int .i64 rt) ∧ w'.cell? ⟨w.heap.size + 1, 3, none⟩ = some (.slice A n c) ∧ w'.cell? ⟨G, 0, none⟩ = some (.int .i64 d))
      (first | (simp [go_sem, k_0]; done) | with_reducible exact k_1)
      (first
        | (go_at_call 108; refine (openNode_bad lv nn rt d n c A es _ (HE1.out.kept (Below.refl _ _).drew) hn HZN.out).mono ?_
           rintro e W2 ⟨rfl, b2d⟩
           have b2 := below_drawn b2d
           have k_1 : W2.cell? ⟨w.heap.size + 1, 0, none⟩ = some (.int .i64 lv) ∧ W2.cell? ⟨w.heap.size + 1, 1, none⟩ = some (.int .i64 nn) ∧ W2.cell? ⟨w.heap.size + 1, 2, none⟩ = some (.int .i64 rt) ∧ W2.cell? ⟨w.heap.size + 1, 3, none⟩ = some (.slice A n c) ∧ W2.cell? ⟨G, 0, none⟩ = some (.int .i64 d) := ⟨(L1.out.kept b2 L1.out.inside).cell 0, (L1.out.kept b2 L1.out.inside).cell 1, (L1.out.kept b2 L1.out.inside).cell 2, (L1.out.kept b2 L1.out.inside).cell 3, (b2.cell (p := ⟨G, 0, none⟩) hGi).trans g0⟩
           clear b2d))
    have B2 := Lib.hid (B1.out.trans (b2.mono B1.out.size))
    clear k_0 k_1 b2 g0
    go_wp2
    refine bodyPost_ret (v := .tuple #[.pointer (some ⟨G, 0, none⟩), .nilIface, .int .i64 (nodeFv d (lv, nn, rt, es.map EV.val))]) (by simp [results, Tryz.results76, go_sem]) rfl ⟨B2.out, Or.inr (Or.inl ⟨HZ.out, HZN.out, _, _, rfl⟩)⟩
  · have HZN := Lib.hid hzn
    clear hzn
    go_region_held3 (fun w' => w'.cell? ⟨w.heap.size + 1, 0, none⟩ = some (.int .i64 lv) ∧ w'.cell? ⟨w.heap.size + 1, 1, none⟩ = some (.int .i64 nn) ∧ w'.cell? ⟨w.heap.size + 1, 2, none⟩ = some (.int .i64 rt) ∧ w'.cell? ⟨w.heap.size + 1, 3, none⟩ = some (.slice A n c) ∧ w'.cell? ⟨G, 0, none⟩ = some (.int .i64 d))
      (first | (simp [go_sem, k_0]; done) | with_reducible exact k_1)
      (first
        | (go_at_call 108; refine (openNode_good lv nn rt d n c A es _ (HE1.out.kept (Below.refl _ _).drew) hn HZN.out).mono ?_
           rintro e W2 ⟨A', c', ss, rfl, hS2, hO2, hF2, b2d⟩
           have b2 := below_drawn b2d
           have k_1 : W2.cell? ⟨w.heap.size + 1, 0, none⟩ = some (.int .i64 lv) ∧ W2.cell? ⟨w.heap.size + 1, 1, none⟩ = some (.int .i64 nn) ∧ W2.cell? ⟨w.heap.size + 1, 2, none⟩ = some (.int .i64 rt) ∧ W2.cell? ⟨w.heap.size + 1, 3, none⟩ = some (.slice A n c) ∧ W2.cell? ⟨G, 0, none⟩ = some (.int .i64 d) := ⟨(L1.out.kept b2 L1.out.inside).cell 0, (L1.out.kept b2 L1.out.inside).cell 1, (L1.out.kept b2 L1.out.inside).cell 2, (L1.out.kept b2 L1.out.inside).cell 3, (b2.cell (p := ⟨G, 0, none⟩) hGi).trans g0⟩
           clear b2d))
    have B2 := Lib.hid (B1.out.trans (b2.mono B1.out.size))
    have B12 := Lib.hid b2
    have HS2 := Lib.hid hS2
    have HO2 := Lib.hid hO2
    have HF2 := Lib.hid hF2
    clear k_0 k_1 b2 g0 hS2 hO2 hF2
    go_wp2
    refine bodyPost_ret (v := .tuple #[.pointer (some ⟨G, 0, none⟩), holderV d lv nn rt A' n c', .int .i64 0]) (by simp [results, Tryz.results76, go_sem]) rfl ⟨B2.out, Or.inr (Or.inr ⟨HZ.out, HZN.out, G, A', c', ss, W1, rfl, HO.out, B12.out, HS2.out, HO2.out, HF2.out⟩)⟩

/-- What stands of an arena that was opened without a fault. -/
theorem opened_say {d : Int} {vs : List NVal} {fs : List Int} {us : List RVal} {qs : List LV} (hz : arenaF d vs fs us = 0) (hv : qs.map LV.val = vs) (hfr : ∀ (i : Nat) (q : LV), qs[i]? = some q → q.fr = fs.contains (i : Int)) :
    (∀ i, firstFree qs i → ∃ t, fs = (i : Int) :: t ∧ (∀ p' : LV, p'.fr = false → freeL 0 (qs.set i p') = t) ∧ ∀ u ∈ us, u.1 ≠ (i : Int)) ∧ ((∀ q ∈ qs, q.fr = false) → fs = []) ∧ freeL 0 qs = fs ∧ (∀ u ∈ us, 0 < u.2.length ∧ u.2.length ≤ 4) := by
  obtain ⟨_, _, _, hff, hrf, htk⟩ := arenaF_zero hz
  obtain ⟨hin, hri⟩ := freeF_rises hff
  have hlen : vs.length = qs.length := by rw [← hv, List.length_map]
  have bnd : ∀ x ∈ fs, 0 ≤ x ∧ x < (qs.length : Int) := fun x hx => by have := allIn_mem hin hx; rw [hlen] at this; omega
  have at' : ∀ x ∈ fs, ∃ (k : Nat) (q : LV), x = (k : Int) ∧ qs[k]? = some q ∧ q.fr = true := by
    intro x hx
    obtain ⟨h0, h1⟩ := bnd x hx
    obtain ⟨k, rfl⟩ := Int.eq_ofNat_of_zero_le h0
    have hk : k < qs.length := by omega
    exact ⟨k, qs[k], rfl, List.getElem?_eq_getElem hk, by rw [hfr k _ (List.getElem?_eq_getElem hk), List.contains_iff_mem]; exact hx⟩
  refine ⟨fun i hi => ?_, fun hno => ?_, ?_, fun u hu => ?_⟩
  · obtain ⟨⟨p, hp, hpf⟩, hlow⟩ := hi
    have hc : fs.contains (i : Int) = true := by rw [← hfr i p hp]; exact hpf
    cases fs with
    | nil => simp at hc
    | cons a t =>
      obtain ⟨h1, h2⟩ := risesL_head hri
      have ha : a = (i : Int) := by
        obtain ⟨k, q, e1, e2, e3⟩ := at' a (by simp)
        have hki : ¬ k < i := fun h => by rw [hlow k q h e2] at e3; cases e3
        rw [List.contains_iff_mem] at hc
        rcases List.mem_cons.1 hc with e | e
        · exact e.symm
        · have := h1 _ e; omega
      subst ha
      refine ⟨t, rfl, fun p' hp' => ?_, fun u hu e => ?_⟩
      · refine freeL_is h2 (fun x hx => ?_) (fun k q hq => ?_)
        · have := bnd x (by simp [hx]); rw [List.length_set]; omega
        · rw [List.getElem?_set] at hq
          have e0 : (((0 : Nat) : Int) + (k : Int)) = (k : Int) := by omega
          rw [e0]
          by_cases e : i = k
          · subst e
            rw [if_pos rfl, if_pos (List.getElem?_eq_some_iff.1 hp).1] at hq
            injection hq with hq
            rw [← hq, hp']
            cases hct : t.contains (i : Int)
            · rfl
            · rw [List.contains_iff_mem] at hct; have := h1 _ hct; omega
          · rw [if_neg e] at hq
            rw [hfr k q hq, List.contains_cons]
            have e2 : ((k : Int) == (i : Int)) = false := by simp; omega
            rw [e2, Bool.false_or]
      · have := takenF_free htk (List.mem_map.2 ⟨u, hu, e⟩)
        rw [hc] at this; cases this
  · cases fs with
    | nil => rfl
    | cons a t =>
      obtain ⟨k, q, _, e2, e3⟩ := at' a (by simp)
      rw [hno q (List.mem_of_getElem? e2)] at e3; cases e3
  · refine freeL_is hri (fun x hx => ?_) (fun k q hq => ?_)
    · have := bnd x hx; omega
    · rw [hfr k q hq, show (((0 : Nat) : Int) + (k : Int)) = (k : Int) by omega]
  · obtain ⟨k, hk⟩ := List.getElem?_of_mem hu
    have := retF_zero (firstNZ_zero hrf k u hk)
    exact ⟨this.2.1, this.2.2⟩

set_option maxRecDepth 100000 in
set_option maxHeartbeats 6400000 in
theorem implTakeNode_any (d lv nn rt : Int) (n1 c1 n2 c2 n3 c3 n c : Nat) (A1 A2 A3 A : Option Addr) (ns : List NV) (fs : List Int) (rs : List RV) (es : List EV) (w : World) (hp : ArenaL w A1 A2 A3 n1 n2 n3 ns fs rs) (hn3 : n3 ≤ 1048576) (he : Entries w A n es) (hn : n ≤ maxLen) :
    Calls Tryz.prog 36 #[.agg #[.int .i64 d, .slice A1 n1 c1, .slice A2 n2 c2, .slice A3 n3 c3], .agg #[.int .i64 lv, .int .i64 nn, .int .i64 rt, .slice A n c]] w (ImPost (takeR d (ns.map NV.val) fs (rs.map RV.val) (lv, nn, rt, es.map EV.val)) w) := by
  have HP := Lib.hid hp
  have HE := Lib.hid he
  have HL : Hid ((ns.map NV.val).length = n1) := by show List.length _ = n1; rw [List.length_map]; exact hp.N.1
  clear hp he
  have B := Lib.hid (below_alloc w (.cells #[.int .i64 d, .slice A1 n1 c1, .slice A2 n2 c2, .slice A3 n3 c3] 26))
  replace B := Lib.hid (B.out.alloc B.out.size (.cells #[.int .i64 lv, .int .i64 nn, .int .i64 rt, .slice A n c] 42))
  replace B := Lib.hid (B.out.alloc B.out.size (.cells #[.int .i64 0, .int .i64 0, .slice none 0 0, .slice none 0 0, .slice none 0 0, .int .i64 0] 53))
  have L_r := Lib.hid (Lies.new ((w.alloc (.cells #[.int .i64 d, .slice A1 n1 c1, .slice A2 n2 c2, .slice A3 n3 c3] 26)).alloc (.cells #[.int .i64 lv, .int .i64 nn, .int .i64 rt, .slice A n c] 42)) 53 #[.int .i64 0, .int .i64 0, .slice none 0 0, .slice none 0 0, .slice none 0 0, .int .i64 0])
  simp only [World.size_alloc] at L_r
  go_enter Tryz.func36, Tryz.ntmps36
  go_wp2_with fail
  refine (openBoth_any d lv nn rt n1 c1 n2 c2 n3 c3 n c A1 A2 A3 A ns fs rs es _ (HP.out.kept B.out) hn3 (HE.out.kept B.out) hn).mono ?_
  rintro e W1 ⟨b1, h⟩
  have sW1 := b1.size
  simp only [World.size_alloc] at sW1
  replace L_r := Lib.hid (L_r.out.kept b1 L_r.out.inside)
  replace B := Lib.hid (B.out.trans (b1.mono B.out.size))
  clear b1
  rcases h with ⟨hz, u1, u2, rfl⟩ | ⟨hz, hzn, u1, u2, rfl⟩ | ⟨hz, hzn, G, hA, hc, ss, w1, rfl, hO, hb1, hS, hSO, hF⟩
  · have hz1 : (arenaF d (ns.map NV.val) fs (rs.map RV.val) != 0) = true := by simpa using hz
    have HR := Lib.hid (takeR_arena (v := (lv, nn, rt, es.map EV.val)) hz)
    clear hz
    have z0 : W1.cell? ⟨w.heap.size + 1 + 1, 0, none⟩ = some (.int .i64 0) := L_r.out.cell 0
    have y0 : W1.frozen? ⟨w.heap.size + 1 + 1, 0, none⟩ = false := L_r.out.thawed 0
    have z1 : W1.cell? ⟨w.heap.size + 1 + 1, 1, none⟩ = some (.int .i64 0) := L_r.out.cell 1
    have y1 : W1.frozen? ⟨w.heap.size + 1 + 1, 1, none⟩ = false := L_r.out.thawed 1
    have z2 : W1.cell? ⟨w.heap.size + 1 + 1, 2, none⟩ = some (.slice none 0 0) := L_r.out.cell 2
    have y2 : W1.frozen? ⟨w.heap.size + 1 + 1, 2, none⟩ = false := L_r.out.thawed 2
    have z3 : W1.cell? ⟨w.heap.size + 1 + 1, 3, none⟩ = some (.slice none 0 0) := L_r.out.cell 3
    have y3 : W1.frozen? ⟨w.heap.size + 1 + 1, 3, none⟩ = false := L_r.out.thawed 3
    have z4 : W1.cell? ⟨w.heap.size + 1 + 1, 4, none⟩ = some (.slice none 0 0) := L_r.out.cell 4
    have y4 : W1.frozen? ⟨w.heap.size + 1 + 1, 4, none⟩ = false := L_r.out.thawed 4
    have z5 : W1.cell? ⟨w.heap.size + 1 + 1, 5, none⟩ = some (.int .i64 0) := L_r.out.cell 5
    have y5 : W1.frozen? ⟨w.heap.size + 1 + 1, 5, none⟩ = false := L_r.out.thawed 5
    go_wp2
    refine bodyPost_ret (v := .agg #[.int .i64 (arenaF d (ns.map NV.val) fs (rs.map RV.val)), .int .i64 0, .slice none 0 0, .slice none 0 0, .slice none 0 0, .int .i64 0]) (by simp [results, Tryz.results36, go_sem, z0, z1, z2, z3, z4, z5]) rfl ?_
    with_reducible refine ImPost.no HR.out ?_
    with_reducible (repeat (first | exact B.out | refine Below.setCell ?_ ?_ _))
    all_goals (show w.heap.size ≤ w.heap.size + 1 + 1; omega)
  · have hz1 : (nodeFv d (lv, nn, rt, es.map EV.val) != 0) = true := by simpa using hzn
    have HR := Lib.hid (takeR_node (v := (lv, nn, rt, es.map EV.val)) hz hzn)
    clear hz hzn
    have z0 : W1.cell? ⟨w.heap.size + 1 + 1, 0, none⟩ = some (.int .i64 0) := L_r.out.cell 0
    have y0 : W1.frozen? ⟨w.heap.size + 1 + 1, 0, none⟩ = false := L_r.out.thawed 0
    have z1 : W1.cell? ⟨w.heap.size + 1 + 1, 1, none⟩ = some (.int .i64 0) := L_r.out.cell 1
    have y1 : W1.frozen? ⟨w.heap.size + 1 + 1, 1, none⟩ = false := L_r.out.thawed 1
    have z2 : W1.cell? ⟨w.heap.size + 1 + 1, 2, none⟩ = some (.slice none 0 0) := L_r.out.cell 2
    have y2 : W1.frozen? ⟨w.heap.size + 1 + 1, 2, none⟩ = false := L_r.out.thawed 2
    have z3 : W1.cell? ⟨w.heap.size + 1 + 1, 3, none⟩ = some (.slice none 0 0) := L_r.out.cell 3
    have y3 : W1.frozen? ⟨w.heap.size + 1 + 1, 3, none⟩ = false := L_r.out.thawed 3
    have z4 : W1.cell? ⟨w.heap.size + 1 + 1, 4, none⟩ = some (.slice none 0 0) := L_r.out.cell 4
    have y4 : W1.frozen? ⟨w.heap.size + 1 + 1, 4, none⟩ = false := L_r.out.thawed 4
    have z5 : W1.cell? ⟨w.heap.size + 1 + 1, 5, none⟩ = some (.int .i64 0) := L_r.out.cell 5
    have y5 : W1.frozen? ⟨w.heap.size + 1 + 1, 5, none⟩ = false := L_r.out.thawed 5
    go_wp2
    refine bodyPost_ret (v := .agg #[.int .i64 (nodeFv d (lv, nn, rt, es.map EV.val)), .int .i64 0, .slice none 0 0, .slice none 0 0, .slice none 0 0, .int .i64 0]) (by simp [results, Tryz.results36, go_sem, z0, z1, z2, z3, z4, z5]) rfl ?_
    with_reducible refine ImPost.no HR.out ?_
    with_reducible (repeat (first | exact B.out | refine Below.setCell ?_ ?_ _))
    all_goals (show w.heap.size ≤ w.heap.size + 1 + 1; omega)
  · have HZ := Lib.hid hz
    have HZN := Lib.hid hzn
    obtain ⟨lo, M, o, pb, cp, qs, f, hRet, hvals, hfr, hG0, hM0, hlo1, hWa, hwlo, _⟩ := hO
    obtain ⟨s1, s2, s3, s4⟩ := opened_say hz hvals hfr
    obtain ⟨hdd, hnn, _⟩ := arenaF_zero hz
    have hn40 : n1 ≤ 40 := by rw [HL.out] at hnn; exact hnn.2
    have hlenq : qs.length = n1 := hRet.G'.R.l
    simp only [World.size_alloc] at hG0 hM0 hwlo
    have HRT := Lib.hid hRet
    have HB1 := Lib.hid hb1
    have HS := Lib.hid hS
    have HSO := Lib.hid hSO
    have HF := Lib.hid hF
    have HWA := Lib.hid hWa
    have HVL := Lib.hid hvals
    have S1 := Lib.hid s1
    have S2 := Lib.hid s2
    have S4 := Lib.hid s4
    have hw1 := hb1.size
    clear hz hzn hRet hvals hfr hWa hS hSO hF s1 s2 s3 s4 hb1 hdd hnn
    go_wp2_with fail
    refine (take_any d lv nn rt lo G M pb cp n1 n3 n3 n hc o qs _ f hA ss (es.map EV.val) w1 _ HRT.out HB1.out HS.out HSO.out HZN.out HF.out hlo1 hn40).mono ?_
    rintro e W2 (⟨i, p, hfi, hip, rfl, hR2, hT2⟩ | ⟨hno, rfl, rfl⟩)
    rotate_left
    · have hfs : fs = [] := S2.out hno
      have HR : Hid (takeR d (ns.map NV.val) fs (rs.map RV.val) (lv, nn, rt, es.map EV.val) = arNo 7) := by show _ = _; have h1 := HZ.out; rw [hfs] at h1 ⊢; exact takeR_full h1 HZN.out
      clear hno hfs
      have z0 : W1.cell? ⟨w.heap.size + 1 + 1, 0, none⟩ = some (.int .i64 0) := L_r.out.cell 0
      have y0 : W1.frozen? ⟨w.heap.size + 1 + 1, 0, none⟩ = false := L_r.out.thawed 0
      have z1 : W1.cell? ⟨w.heap.size + 1 + 1, 1, none⟩ = some (.int .i64 0) := L_r.out.cell 1
      have y1 : W1.frozen? ⟨w.heap.size + 1 + 1, 1, none⟩ = false := L_r.out.thawed 1
      have z2 : W1.cell? ⟨w.heap.size + 1 + 1, 2, none⟩ = some (.slice none 0 0) := L_r.out.cell 2
      have y2 : W1.frozen? ⟨w.heap.size + 1 + 1, 2, none⟩ = false := L_r.out.thawed 2
      have z3 : W1.cell? ⟨w.heap.size + 1 + 1, 3, none⟩ = some (.slice none 0 0) := L_r.out.cell 3
      have y3 : W1.frozen? ⟨w.heap.size + 1 + 1, 3, none⟩ = false := L_r.out.thawed 3
      have z4 : W1.cell? ⟨w.heap.size + 1 + 1, 4, none⟩ = some (.slice none 0 0) := L_r.out.cell 4
      have y4 : W1.frozen? ⟨w.heap.size + 1 + 1, 4, none⟩ = false := L_r.out.thawed 4
      have z5 : W1.cell? ⟨w.heap.size + 1 + 1, 5, none⟩ = some (.int .i64 0) := L_r.out.cell 5
      have y5 : W1.frozen? ⟨w.heap.size + 1 + 1, 5, none⟩ = false := L_r.out.thawed 5
      go_wp2
      refine bodyPost_ret (v := .agg #[.int .i64 (7), .int .i64 0, .slice none 0 0, .slice none 0 0, .slice none 0 0, .int .i64 0]) (by simp [results, Tryz.results36, go_sem, z0, z1, z2, z3, z4, z5]) rfl ?_
      with_reducible refine ImPost.no HR.out ?_
      with_reducible (repeat (first | exact B.out | refine Below.setCell ?_ ?_ _))
      all_goals (show w.heap.size ≤ w.heap.size + 1 + 1; omega)
    · obtain ⟨t, hft, hfl, hus⟩ := S1.out i hfi
      have hiq : i < n1 := by have := (List.getElem?_eq_some_iff.1 hip).1; omega
      have hpg0 := (HRT.out.G'.P.P p (List.mem_of_getElem? hip)).g
      have hpg1 := (HRT.out.G'.P.P p (List.mem_of_getElem? hip)).L.inside
      have sT := hT2.2.1
      replace L_r := Lib.hid (hT2.lies L_r.out (by show ¬ w.heap.size + 1 + 1 = p.g; omega))
      replace B := Lib.hid (hT2.below B.out (fun x hx => by subst hx; omega))
      have HR2 := Lib.hid hR2
      have HWN := Lib.hid (HWA.out.place hip (p' := p.laid lv nn rt hA n hc ss (es.map EV.val)) rfl (Or.inr hus))
      have HFL := Lib.hid (hfl (p.laid lv nn rt hA n hc ss (es.map EV.val)) rfl)
      have HVN : Hid ((qs.set i (p.laid lv nn rt hA n hc ss (es.map EV.val))).map LV.val = (ns.map NV.val).set i (lv, nn, rt, es.map EV.val)) := by show _ = _; rw [List.map_set, HVL.out]; rfl
      have HR : Hid (takeR d (ns.map NV.val) fs (rs.map RV.val) (lv, nn, rt, es.map EV.val) = (0, d, (ns.map NV.val).set i (lv, nn, rt, es.map EV.val), t, rs.map RV.val, (i : Int))) := by
        show _ = _
        have h1 := HZ.out
        rw [hft] at h1 ⊢
        rw [takeR_yes h1 HZN.out, Int.toNat_natCast]
      clear hR2 hT2 hfi hip hft hfl hus
      go_wp2_with fail
      refine (arena_any lo G M pb cp n1 n3 n3 d o _ _ f (rs.map RV.val) _ HR2.out HWN.out rfl S4.out hn40 hn3).mono ?_
      rintro e W3 ⟨A1', c1', kf, A2', c2', A3', c3', qn, rn, rfl, hAn, hvn, hun, b3⟩
      rw [HFL.out] at hAn
      have sW3 := b3.size
      replace L_r := Lib.hid (L_r.out.kept b3 L_r.out.inside)
      replace B := Lib.hid (B.out.trans (b3.mono B.out.size))
      have HAN := Lib.hid hAn
      have HVA : Hid (qn.map NV.val = (ns.map NV.val).set i (lv, nn, rt, es.map EV.val)) := hvn.trans HVN.out
      have HUA := Lib.hid hun
      clear hAn hvn hun b3
      have z0 : W3.cell? ⟨w.heap.size + 1 + 1, 0, none⟩ = some (.int .i64 0) := L_r.out.cell 0
      have y0 : W3.frozen? ⟨w.heap.size + 1 + 1, 0, none⟩ = false := L_r.out.thawed 0
      have z1 : W3.cell? ⟨w.heap.size + 1 + 1, 1, none⟩ = some (.int .i64 0) := L_r.out.cell 1
      have y1 : W3.frozen? ⟨w.heap.size + 1 + 1, 1, none⟩ = false := L_r.out.thawed 1
      have z2 : W3.cell? ⟨w.heap.size + 1 + 1, 2, none⟩ = some (.slice none 0 0) := L_r.out.cell 2
      have y2 : W3.frozen? ⟨w.heap.size + 1 + 1, 2, none⟩ = false := L_r.out.thawed 2
      have z3 : W3.cell? ⟨w.heap.size + 1 + 1, 3, none⟩ = some (.slice none 0 0) := L_r.out.cell 3
      have y3 : W3.frozen? ⟨w.heap.size + 1 + 1, 3, none⟩ = false := L_r.out.thawed 3
      have z4 : W3.cell? ⟨w.heap.size + 1 + 1, 4, none⟩ = some (.slice none 0 0) := L_r.out.cell 4
      have y4 : W3.frozen? ⟨w.heap.size + 1 + 1, 4, none⟩ = false := L_r.out.thawed 4
      have z5 : W3.cell? ⟨w.heap.size + 1 + 1, 5, none⟩ = some (.int .i64 0) := L_r.out.cell 5
      have y5 : W3.frozen? ⟨w.heap.size + 1 + 1, 5, none⟩ = false := L_r.out.thawed 5
      go_wp2
      refine bodyPost_ret (v := .agg #[.int .i64 0, .int .i64 d, .slice A1' n1 c1', .slice A2' kf c2', .slice A3' n3 c3', .int .i64 (i : Int)]) (by simp [results, Tryz.results36, go_sem, z0, z1, z2, z3, z4, z5]) rfl ?_
      with_reducible refine ImPost.yes HR.out ?_ HVA.out HUA.out ?_
      · refine AnsAr.lower (lo := W2.heap.size) ?_ (by omega)
        with_reducible (repeat (first | exact HAN.out | refine AnsAr.far ?_ ?_ _))
        all_goals (show w.heap.size + 1 + 1 < _; omega)
      · with_reducible (repeat (first | exact B.out | refine Below.setCell ?_ ?_ _))
        all_goals (show w.heap.size ≤ w.heap.size + 1 + 1; omega)

end Go.Proofs.YtpgoildfjkokiaaGreat
