/- Retired places that an answer owns: a row of them, each with a row of its own of who watches; no two share a block. And an arena on its way into an answer, with them. -/
import Derived.Test.YtpgoildfjkokiaaGreatArenaNone
import Derived.Test.YtpgoildfjkokiaaGreatRetireAll
import Derived.Test.YtpgoildfjkokiaaGreatBoxes2
import Derived.Test.YtpgoildfjkokiaaGreatArenas
namespace Go.Proofs.YtpgoildfjkokiaaGreat
open Go.RowKit

def RV.cells (q : RV) : List Value := [.int .i64 q.id, .slice q.A1 q.n1 q.c1]
def rvB (q : RV) : List Nat := ((Value.slice q.A1 q.n1 q.c1).ownBlock).toList
def rvsB (qs : List RV) : List Nat := qs.flatMap rvB
theorem rvB_mem {q : RV} {b : Nat} : b ∈ rvB q ↔ (Value.slice q.A1 q.n1 q.c1).ownBlock = some b := by unfold rvB; simp
theorem ownsRow_others {w w' : World} {base : Nat} {e : TypeId} {size : Nat} {v : Value} {n : Nat} {xs : List Value} (h : w.ownsRow base e size v n xs) (hk : ∀ b, v.ownBlock = some b → w'.heap[b]? = w.heap[b]?) : w'.ownsRow base e size v n xs := by
  obtain ⟨hl, h⟩ := h
  refine ⟨hl, ?_⟩
  rcases h with h | ⟨g, cap, cur, rfl, h2, h3, h4⟩
  · exact Or.inl h
  · exact Or.inr ⟨g, cap, cur, rfl, h2, (hk g rfl).trans h3, h4⟩
theorem ownsRow_lower {w : World} {base base' : Nat} {e : TypeId} {size : Nat} {v : Value} {n : Nat} {xs : List Value} (h : w.ownsRow base e size v n xs) (hb : base' ≤ base) : w.ownsRow base' e size v n xs := by
  obtain ⟨hl, h⟩ := h
  refine ⟨hl, ?_⟩
  rcases h with h | ⟨g, cap, cur, rfl, h2, h3⟩
  · exact Or.inl h
  · exact Or.inr ⟨g, cap, cur, rfl, by omega, h3⟩

/-- The value v is a row of the retired places qs that an answer owns. -/
structure RetsOut (w : World) (base : Nat) (v : Value) (n : Nat) (qs : List RV) : Prop where
  S : w.ownsRow base 123 2 v n (qs.flatMap RV.cells)
  Q : ∀ q ∈ qs, w.ownsRow base 2 1 (.slice q.A1 q.n1 q.c1) q.n1 (q.ws.map (Value.int .i64))
  D : (rvsB qs).Nodup
  X : ∀ b, v.ownBlock = some b → b ∉ rvsB qs
section
variable {w w' w1 : World} {base n : Nat} {v : Value} {qs : List RV}
theorem rvsB_in (h : RetsOut w base v n qs) : ∀ b ∈ rvsB qs, base ≤ b ∧ b < w.heap.size := by
  intro b hb
  obtain ⟨q, hq, hb⟩ := List.mem_flatMap.1 hb
  exact ownsRow_block2 (h.Q q hq) b (rvB_mem.1 hb)
theorem RetsOut.others (h : RetsOut w base v n qs) (hv : ∀ b, v.ownBlock = some b → w'.heap[b]? = w.heap[b]?) (hk : ∀ b ∈ rvsB qs, w'.heap[b]? = w.heap[b]?) : RetsOut w' base v n qs :=
  ⟨ownsRow_others h.S hv, fun q hq => ownsRow_others (h.Q q hq) (fun b hb => hk b (List.mem_flatMap.2 ⟨q, hq, rvB_mem.2 hb⟩)), h.D, h.X⟩
theorem RetsOut.kept (h : RetsOut w base v n qs) (hb : Below w.heap.size w w') : RetsOut w' base v n qs :=
  h.others (fun b e => hb.block b (ownsRow_block2 h.S b e).2) (fun b hb' => hb.block b (rvsB_in h b hb').2)
theorem RetsOut.far (h : RetsOut w base v n qs) {a : Addr} (ha : a.block < base) (u : Value) : RetsOut (w.setCell a u) base v n qs :=
  h.others (fun b e => heap_setCell_other w a b u (by have := (ownsRow_block2 h.S b e).1; omega)) (fun b hb' => heap_setCell_other w a b u (by have := (rvsB_in h b hb').1; omega))
theorem RetsOut.nil (w : World) (base : Nat) : RetsOut w base (.slice none 0 0) 0 [] := ⟨⟨rfl, Or.inl ⟨rfl, rfl⟩⟩, fun q hq => by simp at hq, List.nodup_nil, fun b h => by simp [Value.ownBlock] at h⟩
/-- One more, whose row lies in a block that is new since w. -/
theorem RetsOut.put {W : World} {q : RV} {g cap : Nat} (h : RetsOut w base v n qs) (hb : Below w.heap.size w W) (hq : W.ownsRow w.heap.size 2 1 (.slice q.A1 q.n1 q.c1) q.n1 (q.ws.map (Value.int .i64))) (hlo : base ≤ w.heap.size)
    (ho : w1.ownsRow base 123 2 (.slice (some ⟨g, 0, none⟩) (n + 1) cap) (n + 1) (qs.flatMap RV.cells ++ RV.cells q)) (hw : W.grownBy w1 v.ownBlock) (hat : v.ownBlock = some g ∨ W.heap.size ≤ g) :
    RetsOut w1 base (.slice (some ⟨g, 0, none⟩) (n + 1) cap) (n + 1) (qs ++ [q]) := by
  have h' := h.kept hb
  have old := rvsB_in h
  have new : ∀ b ∈ rvB q, w.heap.size ≤ b ∧ b < W.heap.size := fun b hb' => ownsRow_block2 hq b (rvB_mem.1 hb')
  have vold : ∀ b, v.ownBlock = some b → b < w.heap.size := fun b e => (ownsRow_block2 h.S b e).2
  have nb : rvsB (qs ++ [q]) = rvsB qs ++ rvB q := by simp [rvsB]
  have vno : ∀ b, v.ownBlock = some b → b ∉ rvsB (qs ++ [q]) := by
    intro b e hm
    rw [nb] at hm
    rcases List.mem_append.1 hm with hm | hm
    · exact h.X b e hm
    · have := (new b hm).1; have := vold b e; omega
  have keep : ∀ b ∈ rvsB (qs ++ [q]), w1.heap[b]? = W.heap[b]? := by
    intro b hm
    refine hw.block b ?_ (fun e => vno b e.symm hm)
    rw [nb] at hm
    rcases List.mem_append.1 hm with hm | hm
    · exact Nat.lt_of_lt_of_le (old b hm).2 hb.size
    · exact (new b hm).2
  refine ⟨by rw [List.flatMap_append]; simpa using ho, fun p hp => ?_, ?_, fun b e hm => ?_⟩
  · rcases List.mem_append.1 hp with hp' | hp'
    · exact ownsRow_others (h'.Q p hp') (fun b hb' => keep b (List.mem_flatMap.2 ⟨p, hp, rvB_mem.2 hb'⟩))
    · simp only [List.mem_singleton] at hp'; subst hp'
      exact ownsRow_others (ownsRow_lower hq hlo) (fun b hb' => keep b (List.mem_flatMap.2 ⟨p, hp, rvB_mem.2 hb'⟩))
  · rw [nb, List.nodup_append]
    refine ⟨h.D, by unfold rvB; cases (Value.slice q.A1 q.n1 q.c1).ownBlock <;> simp, fun a ha b hb' e => ?_⟩
    subst e
    have := (old a ha).2; have := (new a hb').1; omega
  · have e' : g = b := by simpa [Value.ownBlock] using e
    subst e'
    rcases hat with hat | hat
    · exact vno g hat hm
    · rw [nb] at hm
      rcases List.mem_append.1 hm with hm | hm
      · have := (old g hm).2; have := hb.size; omega
      · have := (new g hm).2; omega
end

/-- Where arena's second loop stands. -/
structure ArX (w wr : World) (d : Int) (n kf k : Nat) (vN vF vR : Value) (qs : List NV) (fs : List Int) (ts : List RV) : Prop where
  b : Below w.heap.size w wr
  r : Lies wr w.heap.size 26 #[.int .i64 0, .slice none 0 0, .slice none 0 0, .slice none 0 0]
  o : Lies wr (w.heap.size + 1) 26 #[.int .i64 d, vN, vF, vR]
  N : NodesOut wr (w.heap.size + 1 + 1) vN n qs
  F : wr.ownsRow (w.heap.size + 1 + 1) 2 1 vF kf (fs.map (Value.int .i64))
  d : ∀ b, vF.ownBlock = some b → vN.ownBlock ≠ some b ∧ b ∉ nodesB qs
  R : RetsOut wr (w.heap.size + 1 + 1) vR k ts
  e : ∀ b, (vR.ownBlock = some b ∨ b ∈ rvsB ts) → vN.ownBlock ≠ some b ∧ vF.ownBlock ≠ some b ∧ b ∉ nodesB qs
section
variable {w wr W w1 : World} {d : Int} {n k kf g cap : Nat} {vN vF vR : Value} {qs : List NV} {fs : List Int} {ts : List RV}
theorem ArW.more (h : ArW w wr d n kf vN vF qs fs) : ArX w wr d n kf 0 vN vF (.slice none 0 0) qs fs [] :=
  ⟨h.b, h.r, h.o, h.N, h.F, h.d, RetsOut.nil _ _, fun b hb => by rcases hb with hb | hb <;> simp [Value.ownBlock, rvsB] at hb⟩
theorem ArX.call (h : ArX w wr d n kf k vN vF vR qs fs ts) (hb : Below wr.heap.size wr W) : ArX w W d n kf k vN vF vR qs fs ts := ⟨h.b.trans (hb.mono h.b.size), h.r.kept hb h.r.inside, h.o.kept hb h.o.inside, h.N.kept hb, ownsRow_below h.F hb, h.d, h.R.kept hb, h.e⟩
theorem ArX.drew (h : ArX w wr d n kf k vN vF vR qs fs ts) : ArX w wr.drew d n kf k vN vF vR qs fs ts := h.call (Below.refl _ _).drew
theorem ArX.alloc (h : ArX w wr d n kf k vN vF vR qs fs ts) (o : Obj) : ArX w (wr.alloc o) d n kf k vN vF vR qs fs ts := h.call (below_alloc wr o)
theorem ArX.mid (h : ArX w wr d n kf k vN vF vR qs fs ts) (hg : wr.grownBy w1 vR.ownBlock) : Lies w1 (w.heap.size + 1) 26 #[.int .i64 d, vN, vF, vR] :=
  (hg.block _ h.o.inside (fun e => by have := (ownsRow_block2 h.R.S _ e.symm).1; omega)).trans h.o
theorem ArX.put {q : RV} (h : ArX w wr d n kf k vN vF vR qs fs ts) (hb : Below wr.heap.size wr W) (hq : W.ownsRow wr.heap.size 2 1 (.slice q.A1 q.n1 q.c1) q.n1 (q.ws.map (Value.int .i64)))
    (ho : w1.ownsRow (w.heap.size + 1 + 1) 123 2 (.slice (some ⟨g, 0, none⟩) (k + 1) cap) (k + 1) (ts.flatMap RV.cells ++ RV.cells q)) (hw : W.grownBy w1 vR.ownBlock) (hat : vR.ownBlock = some g ∨ W.heap.size ≤ g) :
    ArX w (w1.setCell ⟨w.heap.size + 1, 3, none⟩ (.slice (some ⟨g, 0, none⟩) (k + 1) cap)) d n kf (k + 1) vN vF (.slice (some ⟨g, 0, none⟩) (k + 1) cap) qs fs (ts ++ [q]) := by
  have h' := h.call hb
  have hlo : w.heap.size + 1 + 1 ≤ wr.heap.size := h.o.inside
  have hbk := ownsRow_block2 h.R.S
  have hF := ownsRow_block2 h.F
  have hN := ownsRow_block2 h.N.S
  have hB := nodesB_in h.N
  have hs := hb.size
  have R1 := h.R.put (q := q) hb hq hlo ho hw hat
  have nr : ∀ y, y < w.heap.size + 1 + 1 → some y ≠ vR.ownBlock := fun y hy e => by have := (hbk y e.symm).1; omega
  have keep : ∀ y, y < wr.heap.size → some y ≠ vR.ownBlock → w1.heap[y]? = W.heap[y]? := fun y h1 h2 => hw.block y (Nat.lt_of_lt_of_le h1 hs) h2
  have N1 : NodesOut w1 (w.heap.size + 1 + 1) vN n qs := h'.N.others (fun b e => keep b (hN b e).2 (fun e2 => (h.e b (Or.inl e2.symm)).1 e)) (fun b hb => keep b (hB b hb).2 (fun e2 => (h.e b (Or.inl e2.symm)).2.2 hb))
  have F1 := ownsRow_others (w' := w1) h'.F (fun b e => keep b (hF b e).2 (fun e2 => (h.e b (Or.inl e2.symm)).2.1 e))
  refine ⟨(below_grown2 h'.b hw (fun r e => by have := (hbk r e).1; omega) h'.b.size).setCell (by show w.heap.size ≤ w.heap.size + 1; omega) _, Lies.far ((hw.block _ h'.r.inside (nr _ (by omega))).trans h'.r) (by show w.heap.size ≠ w.heap.size + 1; omega) _, Lies.set (w := w1) ((hw.block _ h'.o.inside (nr _ (by omega))).trans h'.o) 3 _, N1.far (by show w.heap.size + 1 < _; omega) _, ownsRow_far2 F1 (by show w.heap.size + 1 < _; omega) _, h.d, R1.far (by show w.heap.size + 1 < _; omega) _, fun b e => ?_⟩
  have new : ∀ b, wr.heap.size ≤ b → vN.ownBlock ≠ some b ∧ vF.ownBlock ≠ some b ∧ b ∉ nodesB qs := fun b hb1 => ⟨fun e => by have := (hN b e).2; omega, fun e => by have := (hF b e).2; omega, fun e => by have := (hB b e).2; omega⟩
  rcases e with e | e
  · have e2' : g = b := by simpa [Value.ownBlock] using e
    subst e2'
    rcases hat with hat | hat
    · exact h.e g (Or.inl hat)
    · exact new g (by omega)
  · have nb : rvsB (ts ++ [q]) = rvsB ts ++ rvB q := by simp [rvsB]
    rw [nb] at e
    rcases List.mem_append.1 e with e | e
    · exact h.e b (Or.inr e)
    · exact new b (ownsRow_block2 hq b (rvB_mem.1 e)).1
end

end Go.Proofs.YtpgoildfjkokiaaGreat

/- Answers that are arenas: the walks of the laws' markArenaResult, heldArenaResult, eqArenaResult. -/
namespace Go.Proofs.YtpgoildfjkokiaaGreat
open Go.RowKit

set_option maxHeartbeats 1600000 in
theorem markArenaResult_any (k cd d id : Int) (n1 c1 n2 c2 n3 c3 : Nat) (A1 A2 A3 : Option Addr) (ns : List NV) (rs : List RV) (w : World) (hS : ArSh w A1 A2 A3 n1 n2 n3 ns rs) (hw : Writ w (arCells A1 A2 A3 n2 ns rs)) (hd : (arCells A1 A2 A3 n2 ns rs).Nodup) (h0 : 0 ≤ k) (h1 : k + (arCells A1 A2 A3 n2 ns rs).length ≤ 4398046511104) :
    Calls Tryz.prog 27 #[.agg #[.int .i64 cd, .int .i64 d, .slice A1 n1 c1, .slice A2 n2 c2, .slice A3 n3 c3, .int .i64 id], .int .i64 k] w fun e w' => e = .returned (.int .i64 (k + (arCells A1 A2 A3 n2 ns rs).length)) ∧ Passed k (arCells A1 A2 A3 n2 ns rs) w w' := by
  have B := Lib.hid (below_alloc w (.cells #[.int .i64 cd, .int .i64 d, .slice A1 n1 c1, .slice A2 n2 c2, .slice A3 n3 c3, .int .i64 id] 53))
  have SH := Lib.hid (hS.kept B.out)
  have HW := Lib.hid (hw.kept B.out)
  have HD := Lib.hid hd
  clear hS hw hd
  go_enter Tryz.func27, Tryz.ntmps27
  go_wp2_with fail
  refine (markArena_any k d n1 c1 n2 c2 n3 c3 A1 A2 A3 ns rs _ SH.out HW.out HD.out h0 h1).mono ?_
  rintro e W1 ⟨rfl, p1⟩
  have P1 := Lib.hid (p1.before B.out)
  clear p1
  go_wp2
  go_ret
  exact ⟨rfl, P1.out⟩

set_option maxHeartbeats 1600000 in
theorem heldArenaResult_any (k cd d id : Int) (n1 c1 n2 c2 n3 c3 : Nat) (A1 A2 A3 : Option Addr) (ns : List NV) (rs : List RV) (w : World) (hS : ArSh w A1 A2 A3 n1 n2 n3 ns rs) (hm : MarkAt w k (arCells A1 A2 A3 n2 ns rs)) (h0 : 0 ≤ k) (h1 : k + (arCells A1 A2 A3 n2 ns rs).length ≤ 4398046511104) :
    Calls Tryz.prog 28 #[.agg #[.int .i64 cd, .int .i64 d, .slice A1 n1 c1, .slice A2 n2 c2, .slice A3 n3 c3, .int .i64 id], .int .i64 k] w fun e w' => e = .returned (.int .i64 (k + (arCells A1 A2 A3 n2 ns rs).length)) ∧ Below w.heap.size w w' := by
  have B := Lib.hid (below_alloc w (.cells #[.int .i64 cd, .int .i64 d, .slice A1 n1 c1, .slice A2 n2 c2, .slice A3 n3 c3, .int .i64 id] 53))
  have SH := Lib.hid (hS.kept B.out)
  have HM := Lib.hid (hm.kept B.out)
  have g : ¬ (k + ((arCells A1 A2 A3 n2 ns rs).length : Int) < 0) := by omega
  clear hS hm
  go_enter Tryz.func28, Tryz.ntmps28
  go_wp2_with fail
  refine (heldArena_any k d n1 c1 n2 c2 n3 c3 A1 A2 A3 ns rs _ SH.out HM.out h0 h1).mono ?_
  rintro e W1 ⟨rfl, b1⟩
  have B1 := Lib.hid (B.out.trans (b1.mono B.out.size))
  clear b1
  go_wp2
  go_ret
  exact ⟨rfl, B1.out⟩

set_option maxHeartbeats 1600000 in
theorem eqArenaResult_same (cd d id : Int) (c4 c5 c6 : Nat) (A4 A5 A6 : Option Addr) (ns' : List NV) (rs' : List RV) (A1 A2 A3 : Option Addr) (n1 c1 n2 c2 n3 c3 : Nat) (ns : List NV) (fs : List Int) (rs : List RV) (w : World) (hp : ArenaL w A1 A2 A3 n1 n2 n3 ns fs rs) (hq : ArenaL w A4 A5 A6 n1 n2 n3 ns' fs rs') (hv : ns.map NV.val = ns'.map NV.val) (hr : rs.map RV.val = rs'.map RV.val) :
    Calls Tryz.prog 24 #[.agg #[.int .i64 cd, .int .i64 d, .slice A1 n1 c1, .slice A2 n2 c2, .slice A3 n3 c3, .int .i64 id], .agg #[.int .i64 cd, .int .i64 d, .slice A4 n1 c4, .slice A5 n2 c5, .slice A6 n3 c6, .int .i64 id]] w fun e w' => e = .returned (.bool true) ∧ Below w.heap.size w w' := by
  have e1 : (cd != cd) = false := by simp
  have e2 : (id != id) = false := by simp
  have HP := Lib.hid hp
  have HQ := Lib.hid hq
  have HV := Lib.hid hv
  have HR := Lib.hid hr
  clear hp hq hv hr
  have B := Lib.hid (below_alloc w (.cells #[.int .i64 cd, .int .i64 d, .slice A1 n1 c1, .slice A2 n2 c2, .slice A3 n3 c3, .int .i64 id] 53))
  replace B := Lib.hid (B.out.alloc B.out.size (.cells #[.int .i64 cd, .int .i64 d, .slice A4 n1 c4, .slice A5 n2 c5, .slice A6 n3 c6, .int .i64 id] 53))
  have L_a := Lib.hid ((Lies.new w 53 #[.int .i64 cd, .int .i64 d, .slice A1 n1 c1, .slice A2 n2 c2, .slice A3 n3 c3, .int .i64 id]).alloc (.cells #[.int .i64 cd, .int .i64 d, .slice A4 n1 c4, .slice A5 n2 c5, .slice A6 n3 c6, .int .i64 id] 53))
  have L_b := Lib.hid (Lies.new (w.alloc (.cells #[.int .i64 cd, .int .i64 d, .slice A1 n1 c1, .slice A2 n2 c2, .slice A3 n3 c3, .int .i64 id] 53)) 53 #[.int .i64 cd, .int .i64 d, .slice A4 n1 c4, .slice A5 n2 c5, .slice A6 n3 c6, .int .i64 id])
  simp only [World.size_alloc] at L_b
  go_enter Tryz.func24, Tryz.ntmps24
  go_wp2_with fail
  refine (eqArena_same d c4 c5 c6 A4 A5 A6 ns' rs' A1 A2 A3 n1 c1 n2 c2 n3 c3 ns fs rs _ (HP.out.kept B.out) (HQ.out.kept B.out) HV.out HR.out).mono ?_
  rintro e W1 ⟨rfl, b1⟩
  replace L_a := Lib.hid (L_a.out.kept b1 L_a.out.inside)
  replace L_b := Lib.hid (L_b.out.kept b1 L_b.out.inside)
  replace B := Lib.hid (B.out.trans (b1.mono B.out.size))
  clear b1
  have a5 : W1.cell? ⟨w.heap.size, 5, none⟩ = some (.int .i64 id) := L_a.out.cell 5
  have b5 : W1.cell? ⟨w.heap.size + 1, 5, none⟩ = some (.int .i64 id) := L_b.out.cell 5
  go_wp2
  go_ret
  exact ⟨rfl, B.out⟩

end Go.Proofs.YtpgoildfjkokiaaGreat

/- Trees: what they are in memory, and the laws' helpers szTree, eqTree, toTree. -/
namespace Go.Proofs.YtpgoildfjkokiaaGreat
open Go.RowKit


set_option maxHeartbeats 1600000 in
theorem eqTree_same (st d rt rn ct : Int) (c4 c5 c6 : Nat) (A4 A5 A6 : Option Addr) (ns' : List NV) (rs' : List RV) (A1 A2 A3 : Option Addr) (n1 c1 n2 c2 n3 c3 : Nat) (ns : List NV) (fs : List Int) (rs : List RV) (w : World) (hp : ArenaL w A1 A2 A3 n1 n2 n3 ns fs rs) (hq : ArenaL w A4 A5 A6 n1 n2 n3 ns' fs rs') (hv : ns.map NV.val = ns'.map NV.val) (hr : rs.map RV.val = rs'.map RV.val) :
    Calls Tryz.prog 38 #[.agg #[.int .i64 st, .int .i64 d, .slice A1 n1 c1, .slice A2 n2 c2, .slice A3 n3 c3, .int .i64 rt, .int .i64 rn, .int .i64 ct], .agg #[.int .i64 st, .int .i64 d, .slice A4 n1 c4, .slice A5 n2 c5, .slice A6 n3 c6, .int .i64 rt, .int .i64 rn, .int .i64 ct]] w fun e w' => e = .returned (.bool true) ∧ Below w.heap.size w w' := by
  have e1 : (st != st) = false := by simp
  have e2 : (rt != rt) = false := by simp
  have e3 : (rn != rn) = false := by simp
  have e4 : (ct != ct) = false := by simp
  have HP := Lib.hid hp
  have HQ := Lib.hid hq
  have HV := Lib.hid hv
  have HR := Lib.hid hr
  clear hp hq hv hr
  have B := Lib.hid (below_alloc w (.cells #[.int .i64 st, .int .i64 d, .slice A1 n1 c1, .slice A2 n2 c2, .slice A3 n3 c3, .int .i64 rt, .int .i64 rn, .int .i64 ct] 28))
  replace B := Lib.hid (B.out.alloc B.out.size (.cells #[.int .i64 st, .int .i64 d, .slice A4 n1 c4, .slice A5 n2 c5, .slice A6 n3 c6, .int .i64 rt, .int .i64 rn, .int .i64 ct] 28))
  have L_a := Lib.hid ((Lies.new w 28 #[.int .i64 st, .int .i64 d, .slice A1 n1 c1, .slice A2 n2 c2, .slice A3 n3 c3, .int .i64 rt, .int .i64 rn, .int .i64 ct]).alloc (.cells #[.int .i64 st, .int .i64 d, .slice A4 n1 c4, .slice A5 n2 c5, .slice A6 n3 c6, .int .i64 rt, .int .i64 rn, .int .i64 ct] 28))
  have L_b := Lib.hid (Lies.new (w.alloc (.cells #[.int .i64 st, .int .i64 d, .slice A1 n1 c1, .slice A2 n2 c2, .slice A3 n3 c3, .int .i64 rt, .int .i64 rn, .int .i64 ct] 28)) 28 #[.int .i64 st, .int .i64 d, .slice A4 n1 c4, .slice A5 n2 c5, .slice A6 n3 c6, .int .i64 rt, .int .i64 rn, .int .i64 ct])
  simp only [World.size_alloc] at L_b
  go_enter Tryz.func38, Tryz.ntmps38
  go_wp2_with fail
  refine (eqArena_same d _ _ _ _ _ _ ns' rs' _ _ _ _ _ _ _ _ _ ns fs rs _ (HP.out.kept B.out) (HQ.out.kept B.out) HV.out HR.out).mono ?_
  rintro e W1 ⟨rfl, b1⟩
  replace L_a := Lib.hid (L_a.out.kept b1 L_a.out.inside)
  replace L_b := Lib.hid (L_b.out.kept b1 L_b.out.inside)
  replace B := Lib.hid (B.out.trans (b1.mono B.out.size))
  clear b1
  have a5 : W1.cell? ⟨w.heap.size, 5, none⟩ = some (.int .i64 rt) := L_a.out.cell 5
  have a6 : W1.cell? ⟨w.heap.size, 6, none⟩ = some (.int .i64 rn) := L_a.out.cell 6
  have a7 : W1.cell? ⟨w.heap.size, 7, none⟩ = some (.int .i64 ct) := L_a.out.cell 7
  have b5 : W1.cell? ⟨w.heap.size + 1, 5, none⟩ = some (.int .i64 rt) := L_b.out.cell 5
  have b6 : W1.cell? ⟨w.heap.size + 1, 6, none⟩ = some (.int .i64 rn) := L_b.out.cell 6
  have b7 : W1.cell? ⟨w.heap.size + 1, 7, none⟩ = some (.int .i64 ct) := L_b.out.cell 7
  go_wp2
  go_ret
  exact ⟨rfl, B.out⟩


end Go.Proofs.YtpgoildfjkokiaaGreat
