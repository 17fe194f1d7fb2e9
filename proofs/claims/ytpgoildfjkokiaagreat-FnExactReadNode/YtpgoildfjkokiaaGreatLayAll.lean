/- The walk of impl.ground's layAll: each node is opened, and a place is laid for it. -/
import Derived.Test.YtpgoildfjkokiaaGreatGround
import Derived.Deep.AppendLies
namespace Go.Proofs.YtpgoildfjkokiaaGreat
open Go.RowKit

theorem info_ptr : ∃ i, Tryz.prog.info? 81 = some i ∧ i.zero = some (.pointer none) ∧ i.size = 1 ∧ i.bytes = 8 := by
  have h : (Tryz.prog.info? 81).map (fun i => (i.zero, i.size, i.bytes)) = some (some (.pointer none), 1, 8) := by kernel_rfl
  obtain ⟨i, hi, h⟩ := Option.map_eq_some_iff.1 h
  simp only [Prod.mk.injEq] at h
  exact ⟨i, hi, h.1, h.2.1, h.2.2⟩

/-- Where layAll's loop stands. -/
structure Laid (w wr : World) (lo G : Nat) (d : Int) (m o : Value) (k : Nat) (ps : List LV) (v : Value) : Prop where
  T : Turned (fun x => x = G) w wr
  G' : Lies wr G 109 #[.int .i64 d, v, m, o]
  S : wr.ownsRow lo 81 1 v k (ps.map LV.ptr)
  P : Places wr lo d ps
  V : ∀ b, v.ownBlock = some b → ∀ p ∈ ps, ¬ p.has b
  g : G < lo
section
variable {w wr W : World} {lo G k : Nat} {d : Int} {m o v : Value} {ps : List LV}
theorem Turned.drew {X : Nat → Prop} (h : Turned X w wr) : Turned X w wr.drew := ⟨fun B h1 h2 => (h.1 B h1 h2).drew, h.2.1, h.2.2⟩
theorem Turned.call {X : Nat → Prop} (h : Turned X w wr) (hb : Below wr.heap.size wr W) : Turned X w W := h.trans (Turned.of_below hb)
theorem Laid.call (h : Laid w wr lo G d m o k ps v) (hb : Below wr.heap.size wr W) : Laid w W lo G d m o k ps v :=
  ⟨h.T.call hb, h.G'.kept hb h.G'.inside, ownsRow_below h.S hb, h.P.kept hb, h.V, h.g⟩
/-- One place more. -/
theorem Laid.put {w1 : World} {gg cap g0 : Nat} {p : LV} (h : Laid w wr lo G d m o k ps v) (hb : Below wr.heap.size wr W) (hp : PlaceOk W lo d p) (hg : wr.heap.size ≤ p.g) (hF : Fresh wr.heap.size p.A p.n) (hE : p.wn = 0) (hwl : w.heap.size ≤ lo)
    (ho : w1.ownsRow lo 81 1 (.slice (some ⟨gg, 0, none⟩) (k + 1) cap) (k + 1) (ps.map LV.ptr ++ [p.ptr])) (hw : W.grownBy w1 v.ownBlock) (hat : v.ownBlock = some gg ∨ gg = g0) (hg0 : W.heap.size = g0) :
    Laid w (w1.setCell ⟨G, 1, none⟩ (.slice (some ⟨gg, 0, none⟩) (k + 1) cap)) lo G d m o (k + 1) (ps ++ [p]) (.slice (some ⟨gg, 0, none⟩) (k + 1) cap) := by
  have h' := h.call hb
  have hbk := ownsRow_block2 h.S
  have hbk' := ownsRow_block2 h'.S
  have hGlo := h.g
  have oldb : ∀ q ∈ ps, ∀ b, q.has b → b < wr.heap.size := fun q hq b hb' => ((h.P.P q hq).inside hb').2
  have pin : ∀ b, p.has b → wr.heap.size ≤ b ∧ b < W.heap.size := by
    intro b hb'
    refine ⟨?_, (hp.inside hb').2⟩
    rcases hb' with rfl | ⟨h0, e⟩ | ⟨h0, e⟩
    · exact hg
    · obtain ⟨x, e', h1⟩ := hF h0
      rw [e] at e'; injection e' with e'; injection e' with e'; omega
    · omega
  have PS : Places W lo d (ps ++ [p]) := h'.P.snoc hp (fun q hq hb' => by have := oldb q hq _ hb'; omega) (fun q hq hb' => by have := (pin _ hb').1; have := oldb q hq _ (Or.inl rfl); omega)
  have far : ∀ q ∈ ps ++ [p], ∀ b, q.has b → some b ≠ v.ownBlock := by
    intro q hq b hb' e
    rcases List.mem_append.1 hq with hq | hq
    · exact h.V b e.symm q hq hb'
    · simp only [List.mem_singleton] at hq; subst hq
      have := (hbk b e.symm).2; have := (pin b hb').1; omega
  have Gv : some G ≠ v.ownBlock := fun e => by have := (hbk G e.symm).1; omega
  have keepB : ∀ b, b < W.heap.size → some b ≠ v.ownBlock → b ≠ G → (w1.setCell ⟨G, 1, none⟩ (.slice (some ⟨gg, 0, none⟩) (k + 1) cap)).heap[b]? = W.heap[b]? := fun b h1 h2 h3 =>
    (heap_setCell_other w1 ⟨G, 1, none⟩ b _ h3).trans (hw.block b h1 h2)
  have inL : ∀ q ∈ ps ++ [p], ∀ b, q.has b → lo ≤ b ∧ b < W.heap.size := fun q hq b hb' => (PS.P q hq).inside hb'
  refine ⟨?_, (Lies.set (w := w1) ((hw.block G h'.G'.inside Gv).trans h'.G') 1 _), ownsRow_far2 (by simpa using ho) (by show G < lo; exact hGlo) _, PS.others (by rw [size_of_setCell]; exact hw.size) (fun q hq b hb' => keepB b (inL q hq b hb').2 (far q hq b hb') (by have := (inL q hq b hb').1; omega)), ?_, hGlo⟩
  · refine ⟨fun B h1 h2 => ?_, ?_, fun b h1 h2 => ?_⟩
    · exact (below_grown2 (h'.T.1 B h1 h2) hw (fun r e => by have := (hbk r e).1; omega) (Nat.le_trans h2 h'.T.2.1)).setCell (h1 G rfl) _
    · rw [size_of_setCell]; exact Nat.le_trans h'.T.2.1 hw.size
    · have hbW := Nat.lt_of_lt_of_le h1 h'.T.2.1
      exact (keepB b hbW (fun e => by have := (hbk b e.symm).1; omega) h2).trans (h'.T.2.2 b h1 h2)
  · intro b e q hq hb'
    have e' : gg = b := by simpa [Value.ownBlock] using e
    subst e'
    rcases hat with hat | hat
    · exact far q hq _ hb' hat.symm
    · have := (inL q hq _ hb').2; omega
end

/-- The type of a holder. -/
def hty (lv : Int) : TypeId := if lv = 0 then 184 else 185
theorem openNode_yes (lv ns rt d : Int) (n c : Nat) (A : Option Addr) (ps : List EV) (w : World) (hp : Entries w A n ps) (hn : n ≤ maxLen) (hz : nodeF lv ns rt (ps.map EV.val) d = 0) :
    Calls Tryz.prog 108 #[.agg #[.int .i64 lv, .int .i64 ns, .int .i64 rt, .slice A n c], .int .i64 d] w fun e w' => ∃ A' c' ss, e = .returned (.tuple #[.iface (hty lv) (.agg #[.int .i64 d, .slice A' n c', .int .i64 lv, .int .i64 ns, .int .i64 rt]), .int .i64 0]) ∧ Slots w' A' n ss ∧ SlotsOf (ps.map EV.val) ss ∧ Fresh w.heap.size A' n ∧ Below w.heap.size w w' := by
  refine (readNode_fresh lv ns rt d n c A ps w hp hn).mono ?_
  rintro e w' ⟨hb, h⟩
  rcases h with h | ⟨h0, A', c', ss, h1, h2, h3, h4⟩
  · exact absurd hz h.1
  · exact ⟨A', c', ss, h1, h2, h3, h4, hb⟩
theorem openNode_no (lv ns rt d : Int) (n c : Nat) (A : Option Addr) (ps : List EV) (w : World) (hp : Entries w A n ps) (hn : n ≤ maxLen) (hz : nodeF lv ns rt (ps.map EV.val) d ≠ 0) :
    Calls Tryz.prog 108 #[.agg #[.int .i64 lv, .int .i64 ns, .int .i64 rt, .slice A n c], .int .i64 d] w fun e w' => e = .returned (.tuple #[.nilIface, .int .i64 (nodeF lv ns rt (ps.map EV.val) d)]) ∧ Below w.heap.size w w' := by
  refine (readNode_fresh lv ns rt d n c A ps w hp hn).mono ?_
  rintro e w' ⟨hb, h⟩
  rcases h with h | ⟨h0, _⟩
  · exact ⟨h.2, hb⟩
  · exact absurd h0 hz
/-- A place that was just laid: not free, watched by nobody. -/
def LV.new (p : LV) : Prop := p.fr = false ∧ p.wA = none ∧ p.wn = 0 ∧ p.wc = 0 ∧ p.ws = []

set_option maxRecDepth 100000 in
set_option maxHeartbeats 6400000 in
theorem layAll_any (d : Int) (G n c : Nat) (A : Option Addr) (ns : List NV) (m o : Value) (w0 w : World) (hG : Lies w G 109 #[.int .i64 d, .slice none 0 0, m, o]) (hp : NodesL w0 A n ns) (hb : Below w0.heap.size w0 w) (hG0 : w0.heap.size ≤ G) (hn : n ≤ 40) :
    Calls Tryz.prog 87 #[.pointer (some ⟨G, 0, none⟩), .slice A n c] w fun e w' => e = .returned (.int .i64 (firstNZ (nodeFv d) (ns.map NV.val))) ∧ Turned (fun x => x = G) w w' ∧ (firstNZ (nodeFv d) (ns.map NV.val) = 0 → ∃ ps v, Laid w w' w.heap.size G d m o n ps v ∧ ps.map LV.val = ns.map NV.val ∧ ∀ p ∈ ps, p.new) := by
  have HP := Lib.hid hp
  have HL1 : Hid ((ns.map NV.val).length = n) := by show List.length _ = n; rw [List.length_map]; exact hp.1
  have B := Lib.hid hb
  have LG := Lib.hid hG
  have hGi := hG.inside
  obtain ⟨i0, hi0, hz0, hz1, hz2⟩ := info_ptr
  have IP := Lib.hid (And.intro hi0 (And.intro hz0 (And.intro hz1 hz2)))
  clear hp hb hG hi0 hz0 hz1 hz2
  have L0 : Hid (Laid w w w.heap.size G d m o 0 [] (.slice none 0 0)) := ⟨Turned.refl _ _, LG.out, ⟨rfl, Or.inl ⟨rfl, rfl⟩⟩, Places.nil _ _ _, fun b e => by simp [Value.ownBlock] at e, hGi⟩
  go_enter Tryz.func87, Tryz.ntmps87
  go_wp2
  go_loopw [11] (fun i wr => ∃ (k : Nat) (ps : List LV) (v : Value), k ≤ n ∧ i = .int .i64 k ∧ Hid (Laid w wr w.heap.size G d m o k ps v) ∧ Hid (ps.map LV.val = (ns.map NV.val).take k ∧ ∀ p ∈ ps, p.new) ∧ Hid (∀ (j : Nat) (u : NVal), j < k → (ns.map NV.val)[j]? = some u → nodeFv d u = 0)) (fun i _ => n - (intOf i).toNat)
  case atStart => exact ⟨0, [], .slice none 0 0, Nat.zero_le _, rfl, L0, ⟨rfl, fun p hp => by simp at hp⟩, fun j u hj => absurd hj (Nat.not_lt_zero _)⟩
  case round =>
    obtain ⟨k, ps, v, hk', rfl, hU, hV, hA⟩ := hrel
    by_cases hlt : k < n
    · obtain ⟨b, o', lv, nn, rt, X1, k1, e1, es, rfl, hb, d0, d1, d2, d3, hx, hE, hk1⟩ := HP.out.cellAt hlt
      have hBr := Lib.hid (B.out.trans (hU.out.T.1 _ (fun x hx => by subst hx; exact hG0) B.out.size))
      have e0 : wr.cell? ⟨b, o' + k * 4, none⟩ = some (.int .i64 lv) := (hBr.out.cell (p := ⟨b, o' + k * 4, none⟩) hb).trans d0
      have e2 : wr.cell? ⟨b, o' + k * 4 + 1, none⟩ = some (.int .i64 nn) := (hBr.out.cell (p := ⟨b, o' + k * 4 + 1, none⟩) hb).trans d1
      have e3 : wr.cell? ⟨b, o' + k * 4 + 2, none⟩ = some (.int .i64 rt) := (hBr.out.cell (p := ⟨b, o' + k * 4 + 2, none⟩) hb).trans d2
      have e4 : wr.cell? ⟨b, o' + k * 4 + 3, none⟩ = some (.slice X1 k1 e1) := (hBr.out.cell (p := ⟨b, o' + k * 4 + 3, none⟩) hb).trans d3
      have HX := Lib.hid (nval_get hx.out)
      have hlt' : (k : Int) < (n : Int) := by omega
      clear d0 d1 d2 d3 hx
      go_wp2
      clear e0 e2 e3 e4
      have hB1 := Lib.hid (hBr.out.alloc hBr.out.size (.cells #[.int .i64 lv, .int .i64 nn, .int .i64 rt, .slice X1 k1 e1] 42))
      have L_n := Lib.hid (Lies.new wr 42 #[.int .i64 lv, .int .i64 nn, .int .i64 rt, .slice X1 k1 e1])
      have hU1 := Lib.hid (hU.out.call (below_alloc wr (.cells #[.int .i64 lv, .int .i64 nn, .int .i64 rt, .slice X1 k1 e1] 42)))
      have bw0 := Lib.hid (below_alloc wr (.cells #[.int .i64 lv, .int .i64 nn, .int .i64 rt, .slice X1 k1 e1] 42))
      generalize hW : (wr.alloc (.cells #[.int .i64 lv, .int .i64 nn, .int .i64 rt, .slice X1 k1 e1] 42)) = W0 at *
      have hW0 : W0.heap.size = wr.heap.size + 1 := by rw [← hW]; simp only [World.size_alloc]
      clear hW hBr
      have k_0 : W0.cell? ⟨wr.heap.size, 0, none⟩ = some (.int .i64 lv) ∧ W0.cell? ⟨wr.heap.size, 1, none⟩ = some (.int .i64 nn) ∧ W0.cell? ⟨wr.heap.size, 2, none⟩ = some (.int .i64 rt) ∧ W0.cell? ⟨wr.heap.size, 3, none⟩ = some (.slice X1 k1 e1) ∧ W0.cell? ⟨G, 0, none⟩ = some (.int .i64 d) := ⟨L_n.out.cell 0, L_n.out.cell 1, L_n.out.cell 2, L_n.out.cell 3, hU1.out.G'.cell 0⟩
      by_cases hz : nodeF lv nn rt (es.map EV.val) d = 0
      rotate_left
      · have HS := Lib.hid (firstNZ_stop (f := nodeFv d) hA.out HX.out hz)
        have hz1 : (nodeF lv nn rt (es.map EV.val) d != 0) = true := by simpa using hz
        have HF : Hid (firstNZ (nodeFv d) (ns.map NV.val) = nodeF lv nn rt (es.map EV.val) d) := HS.out
        have HNZ := Lib.hid hz
        clear hA hz HS
        go_region_held3 (fun w' => w'.cell? ⟨wr.heap.size, 0, none⟩ = some (.int .i64 lv) ∧ w'.cell? ⟨wr.heap.size, 1, none⟩ = some (.int .i64 nn) ∧ w'.cell? ⟨wr.heap.size, 2, none⟩ = some (.int .i64 rt) ∧ w'.cell? ⟨wr.heap.size, 3, none⟩ = some (.slice X1 k1 e1) ∧ w'.cell? ⟨G, 0, none⟩ = some (.int .i64 d))
          (first | (simp [go_sem, k_0]; done) | with_reducible exact k_1)
          (first
            | (go_at_call 108; refine (openNode_no lv nn rt d k1 e1 X1 es _ (hE.out.kept hB1.out.drew) hk1 HNZ.out).mono ?_
               rintro e W1 ⟨rfl, b1d⟩
               have b1 := below_drawn b1d
               have k_1 : W1.cell? ⟨wr.heap.size, 0, none⟩ = some (.int .i64 lv) ∧ W1.cell? ⟨wr.heap.size, 1, none⟩ = some (.int .i64 nn) ∧ W1.cell? ⟨wr.heap.size, 2, none⟩ = some (.int .i64 rt) ∧ W1.cell? ⟨wr.heap.size, 3, none⟩ = some (.slice X1 k1 e1) ∧ W1.cell? ⟨G, 0, none⟩ = some (.int .i64 d) := ⟨(L_n.out.kept b1 L_n.out.inside).cell 0, (L_n.out.kept b1 L_n.out.inside).cell 1, (L_n.out.kept b1 L_n.out.inside).cell 2, (L_n.out.kept b1 L_n.out.inside).cell 3, (hU1.out.call b1).G'.cell 0⟩
               clear b1d))
        have hT := Lib.hid (hU1.out.call b1).T
        clear k_0 k_1 b1
        go_wp2
        go_ret
        exact ⟨ret_i64 HF.out.symm, hT.out, fun h => absurd (HF.out ▸ h) HNZ.out⟩
      have hA' := Lib.hid (upto_next (P := fun u => nodeFv d u = 0) hA.out HX.out hz)
      have HZ := Lib.hid hz
      clear hA hz
      go_region_held3 (fun w' => w'.cell? ⟨wr.heap.size, 0, none⟩ = some (.int .i64 lv) ∧ w'.cell? ⟨wr.heap.size, 1, none⟩ = some (.int .i64 nn) ∧ w'.cell? ⟨wr.heap.size, 2, none⟩ = some (.int .i64 rt) ∧ w'.cell? ⟨wr.heap.size, 3, none⟩ = some (.slice X1 k1 e1) ∧ w'.cell? ⟨G, 0, none⟩ = some (.int .i64 d))
        (first | (simp [go_sem, k_0]; done) | with_reducible exact k_1)
        (first
          | (go_at_call 108; refine (openNode_yes lv nn rt d k1 e1 X1 es _ (hE.out.kept hB1.out.drew) hk1 HZ.out).mono ?_
             rintro e W1 ⟨A', c', ss, rfl, hS, hO, hF, b1d⟩
             have b1 := below_drawn b1d
             have k_1 : W1.cell? ⟨wr.heap.size, 0, none⟩ = some (.int .i64 lv) ∧ W1.cell? ⟨wr.heap.size, 1, none⟩ = some (.int .i64 nn) ∧ W1.cell? ⟨wr.heap.size, 2, none⟩ = some (.int .i64 rt) ∧ W1.cell? ⟨wr.heap.size, 3, none⟩ = some (.slice X1 k1 e1) ∧ W1.cell? ⟨G, 0, none⟩ = some (.int .i64 d) := ⟨(L_n.out.kept b1 L_n.out.inside).cell 0, (L_n.out.kept b1 L_n.out.inside).cell 1, (L_n.out.kept b1 L_n.out.inside).cell 2, (L_n.out.kept b1 L_n.out.inside).cell 3, (hU1.out.call b1).G'.cell 0⟩
             clear b1d))
      have hU2 := Lib.hid (hU1.out.call b1)
      have bw1 := Lib.hid (bw0.out.trans (b1.mono bw0.out.size))
      have HSS := Lib.hid hS
      have HO := Lib.hid hO
      have HF0 := Lib.hid (hF.lower (show wr.heap.size + 1 ≤ _ by simp only [size_of_drew]; omega))
      have hU0s : w.heap.size ≤ wr.heap.size + 1 := by have := hU.out.T.2.1; omega
      have b1s := b1.size
      clear k_0 k_1 b1 hS hO hF hU1 bw0 L_n hB1
      have g1 : W1.cell? ⟨G, 1, none⟩ = some v := hU2.out.G'.cell 1
      have hGW : G < W1.heap.size := hU2.out.G'.inside
      have hlo1 : w.heap.size ≤ W1.heap.size := hU2.out.T.2.1
      have bP := Lib.hid (below_alloc W1 (.cells #[.iface (hty lv) (.agg #[.int .i64 d, .slice A' k1 c', .int .i64 lv, .int .i64 nn, .int .i64 rt]), .bool false, .slice none 0 0] 87))
      have LP := Lib.hid (Lies.new W1 87 #[.iface (hty lv) (.agg #[.int .i64 d, .slice A' k1 c', .int .i64 lv, .int .i64 nn, .int .i64 rt]), .bool false, .slice none 0 0])
      have bQ := Lib.hid (bP.out.alloc bP.out.size (.cells #[.pointer (some ⟨W1.heap.size, 0, none⟩)] 81))
      have HS7 := Lib.hid (ownsRow_below hU2.out.S bQ.out)
      have LQ := Lib.hid (Lies.laid2 W1 (.cells #[.iface (hty lv) (.agg #[.int .i64 d, .slice A' k1 c', .int .i64 lv, .int .i64 nn, .int .i64 rt]), .bool false, .slice none 0 0] 87) 81 #[.pointer (some ⟨W1.heap.size, 0, none⟩)])
      have NEWS : Hid (∀ j u, ([.pointer (some ⟨W1.heap.size, 0, none⟩)] : List Value)[j]? = some u → ((W1.alloc (.cells #[.iface (hty lv) (.agg #[.int .i64 d, .slice A' k1 c', .int .i64 lv, .int .i64 nn, .int .i64 rt]), .bool false, .slice none 0 0] 87)).alloc (.cells #[.pointer (some ⟨W1.heap.size, 0, none⟩)] 81)).cell? ((⟨W1.heap.size + 1, 0, none⟩ : Addr).add j) = some u) := World.news_of_block (cs := #[.pointer (some ⟨W1.heap.size, 0, none⟩)]) (t := 81) (fr := (0, 0)) LQ.out
      have POK : Hid (PlaceOk ((W1.alloc (.cells #[.iface (hty lv) (.agg #[.int .i64 d, .slice A' k1 c', .int .i64 lv, .int .i64 nn, .int .i64 rt]), .bool false, .slice none 0 0] 87)).alloc (.cells #[.pointer (some ⟨W1.heap.size, 0, none⟩)] 81)) w.heap.size d ⟨W1.heap.size, lv, nn, rt, A', k1, c', ss, es.map EV.val, false, none, 0, 0, []⟩) := by
        refine ⟨(LP.out.alloc _), HSS.out.kept bQ.out, HO.out, HZ.out, Ints.empty _ _ _, hlo1, HF0.out.lower hU0s, fun h => absurd h (Nat.lt_irrefl 0), ?_⟩
        rintro (⟨h0, e⟩ | ⟨h0, _⟩)
        · have := Fresh.in_slots HSS.out h0 e
          simp only at this; omega
        · exact absurd h0 (Nat.lt_irrefl 0)
      go_wp2_with (with_reducible refine wpList_append_lies _ rfl (.tmp 31) (.tmp 35) 106 rfl w.heap.size 81 i0 (.pointer none) 1 8 Tryz.underlying106 IP.out.1 IP.out.2.1 IP.out.2.2.1 IP.out.2.2.2 rfl (by omega) v k (ps.map LV.ptr) rfl HS7.out ⟨W1.heap.size + 1, 0, none⟩ 1 1 [.pointer (some ⟨W1.heap.size, 0, none⟩)] rfl rfl NEWS.out ?q2 (by omega) ?q3 ?q4 ?q5 (W1.heap.size + 1 + 1) ?q6 ?_)
      case q2 => simp [Value.oneCell']
      case q3 => unfold maxLen; omega
      case q4 => omega
      case q5 => simp only [World.size_alloc]; omega
      case q6 => simp only [World.size_alloc]
      intro gg cap w1 ho hw hat hlt1
      have hU3 := Lib.hid (Laid.put (p := ⟨W1.heap.size, lv, nn, rt, A', k1, c', ss, es.map EV.val, false, none, 0, 0, []⟩) (W := ((W1.alloc (.cells #[.iface (hty lv) (.agg #[.int .i64 d, .slice A' k1 c', .int .i64 lv, .int .i64 nn, .int .i64 rt]), .bool false, .slice none 0 0] 87)).alloc (.cells #[.pointer (some ⟨W1.heap.size, 0, none⟩)] 81))) hU.out (bw1.out.trans (bQ.out.mono bw1.out.size)) POK.out bw1.out.size (HF0.out.lower (Nat.le_succ _)) rfl (Nat.le_refl _) ho hw hat (by simp only [World.size_alloc]))
      have hGm : Hid (Lies w1 G 109 #[.int .i64 d, v, m, o]) := by
        have h2 := hU2.out.call bQ.out
        exact (hw.block G h2.G'.inside (fun e => by have := (ownsRow_block2 h2.S G e.symm).1; have := h2.g; omega)).trans h2.G'
      have s1 : w1.cell? ⟨G, 1, none⟩ = some v := hGm.out.cell 1
      have f1 : w1.frozen? ⟨G, 1, none⟩ = false := hGm.out.thawed 1
      have hV2 : Hid ((ps ++ [(⟨W1.heap.size, lv, nn, rt, A', k1, c', ss, es.map EV.val, false, none, 0, 0, []⟩ : LV)]).map LV.val = (ns.map NV.val).take (k + 1) ∧ ∀ p ∈ ps ++ [(⟨W1.heap.size, lv, nn, rt, A', k1, c', ss, es.map EV.val, false, none, 0, 0, []⟩ : LV)], p.new) := by
        refine ⟨?_, fun p hp => ?_⟩
        · rw [List.map_append, hV.out.1, List.take_add_one, HX.out]; rfl
        · rcases List.mem_append.1 hp with hp | hp
          · exact hV.out.2 p hp
          · simp only [List.mem_singleton] at hp; subst hp; exact ⟨rfl, rfl, rfl, rfl, rfl⟩
      clear ho hw hat hlt1 POK NEWS LQ HS7 bQ bP LP hU2 g1 hV hU bw1
      go_wp2
      go_roundw
      case rel => exact ⟨k + 1, _, _, by omega, by go_num, hU3, hV2, hA'⟩
      case measure => simp [intOf]; omega
    · have HN1 := Lib.hid (firstNZ_all (f := nodeFv d) (upto_end hA.out (by rw [HL1.out]; omega)))
      have hkn : k = n := by omega
      subst hkn
      have HV : Hid (ps.map LV.val = ns.map NV.val ∧ ∀ p ∈ ps, p.new) := ⟨by have := hV.out.1; rwa [List.take_of_length_le (by rw [HL1.out]; omega)] at this, hV.out.2⟩
      clear hA
      go_wp2
      go_ret
      exact ⟨ret_i64 HN1.out.symm, hU.out.T, fun _ => ⟨ps, v, hU.out, HV.out⟩⟩

end Go.Proofs.YtpgoildfjkokiaaGreat
