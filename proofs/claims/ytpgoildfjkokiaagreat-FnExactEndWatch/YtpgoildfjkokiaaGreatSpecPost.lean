/- The walk of spec.l4Copy: an arena is copied. -/
import Derived.Test.YtpgoildfjkokiaaGreatSpecArena4
import Derived.Test.YtpgoildfjkokiaaGreatArenaAll
import Derived.Test.YtpgoildfjkokiaaGreatHeldLast
import Derived.Test.YtpgoildfjkokiaaGreatFilters
namespace Go.Proofs.YtpgoildfjkokiaaGreat
open Go.RowKit

/-- An arena of the model's own: three rows that share no block. -/
structure SpV (w : World) (base : Nat) (A1 : Option Addr) (n1 c1 : Nat) (A2 : Option Addr) (n2 c2 : Nat) (A3 : Option Addr) (n3 c3 : Nat) (ns : List NV) (fs : List Int) (rs : List RV) : Prop where
  N : NodesS w base (.slice A1 n1 c1) n1 ns
  F : w.ownsRow base 2 1 (.slice A2 n2 c2) n2 (fs.map (Value.int .i64))
  R : RetsOut w base (.slice A3 n3 c3) n3 rs
  d : ∀ b, (Value.slice A2 n2 c2).ownBlock = some b → (Value.slice A1 n1 c1).ownBlock ≠ some b ∧ b ∉ nodesB ns
  e : ∀ b, ((Value.slice A3 n3 c3).ownBlock = some b ∨ b ∈ rvsB rs) → (Value.slice A1 n1 c1).ownBlock ≠ some b ∧ (Value.slice A2 n2 c2).ownBlock ≠ some b ∧ b ∉ nodesB ns
/-- Block b is one of the arena's. -/
def SpV.has (A1 : Option Addr) (n1 c1 : Nat) (A2 : Option Addr) (n2 c2 : Nat) (A3 : Option Addr) (n3 c3 : Nat) (ns : List NV) (rs : List RV) (b : Nat) : Prop :=
  (Value.slice A1 n1 c1).ownBlock = some b ∨ b ∈ nodesB ns ∨ (Value.slice A2 n2 c2).ownBlock = some b ∨ (Value.slice A3 n3 c3).ownBlock = some b ∨ b ∈ rvsB rs
section
variable {w w' W w1 : World} {base n1 c1 n2 c2 n3 c3 : Nat} {A1 A2 A3 : Option Addr} {ns : List NV} {fs : List Int} {rs : List RV}
theorem SpV.inB (h : SpV w base A1 n1 c1 A2 n2 c2 A3 n3 c3 ns fs rs) : ∀ b, SpV.has A1 n1 c1 A2 n2 c2 A3 n3 c3 ns rs b → base ≤ b ∧ b < w.heap.size := by
  rintro b (e | e | e | e | e)
  · exact ownsRow_block2 h.N.S b e
  · exact h.N.inB b e
  · exact ownsRow_block2 h.F b e
  · exact ownsRow_block2 h.R.S b e
  · exact rvsB_in h.R b e
theorem SpV.others (h : SpV w base A1 n1 c1 A2 n2 c2 A3 n3 c3 ns fs rs) (hs : w.heap.size ≤ w'.heap.size) (hk : ∀ b, SpV.has A1 n1 c1 A2 n2 c2 A3 n3 c3 ns rs b → w'.heap[b]? = w.heap[b]?) : SpV w' base A1 n1 c1 A2 n2 c2 A3 n3 c3 ns fs rs :=
  ⟨h.N.others hs (fun b e => hk b (Or.inl e)) (fun b e => hk b (Or.inr (Or.inl e))), ownsRow_others h.F (fun b e => hk b (Or.inr (Or.inr (Or.inl e)))), h.R.others (fun b e => hk b (Or.inr (Or.inr (Or.inr (Or.inl e))))) (fun b e => hk b (Or.inr (Or.inr (Or.inr (Or.inr e))))), h.d, h.e⟩
theorem SpV.kept (h : SpV w base A1 n1 c1 A2 n2 c2 A3 n3 c3 ns fs rs) (hb : Below w.heap.size w w') : SpV w' base A1 n1 c1 A2 n2 c2 A3 n3 c3 ns fs rs := h.others hb.size fun b hb' => hb.block b (h.inB b hb').2
theorem SpV.far (h : SpV w base A1 n1 c1 A2 n2 c2 A3 n3 c3 ns fs rs) {a : Addr} (ha : a.block < base) (v : Value) : SpV (w.setCell a v) base A1 n1 c1 A2 n2 c2 A3 n3 c3 ns fs rs :=
  h.others (Nat.le_of_eq (size_of_setCell _ _ _).symm) fun b hb' => heap_setCell_other w a b v (by have := (h.inB b hb').1; omega)
theorem SpV.lower {base' : Nat} (h : SpV w base A1 n1 c1 A2 n2 c2 A3 n3 c3 ns fs rs) (hl : base' ≤ base) : SpV w base' A1 n1 c1 A2 n2 c2 A3 n3 c3 ns fs rs :=
  ⟨h.N.lower hl, ownsRow_lower h.F hl, ⟨ownsRow_lower h.R.S hl, fun q hq => ownsRow_lower (h.R.Q q hq) hl, h.R.D, h.R.X⟩, h.d, h.e⟩
theorem SpV.arena (h : SpV w base A1 n1 c1 A2 n2 c2 A3 n3 c3 ns fs rs) (m1 : n1 ≤ 1048576) (m2 : n2 ≤ 1048576) (m3 : n3 ≤ 1048576) (ht : ∀ q ∈ rs, q.n1 ≤ 10) : ArenaL w A1 A2 A3 n1 n2 n3 ns fs rs := by
  refine ⟨h.N.nodes, ?_, h.R.rets ht, Nat.le_trans m1 (by decide), Nat.le_trans m2 (by decide), Nat.le_trans m3 (by decide)⟩
  obtain ⟨A', c', e, hI⟩ := ints_of_owns h.F
  injection e with e1 e2 e3
  rw [e1]; exact hI.lower (Nat.zero_le _)
end

/-- .. that lies in block B. -/
structure SpAr (w : World) (base B : Nat) (d : Int) (A1 : Option Addr) (n1 c1 : Nat) (A2 : Option Addr) (n2 c2 : Nat) (A3 : Option Addr) (n3 c3 : Nat) (ns : List NV) (fs : List Int) (rs : List RV) : Prop where
  o : Lies w B 26 #[.int .i64 d, .slice A1 n1 c1, .slice A2 n2 c2, .slice A3 n3 c3]
  V : SpV w base A1 n1 c1 A2 n2 c2 A3 n3 c3 ns fs rs
  x : ∀ b, SpV.has A1 n1 c1 A2 n2 c2 A3 n3 c3 ns rs b → b ≠ B
section
variable {w w' W w1 : World} {base B n1 c1 n2 c2 n3 c3 g cap : Nat} {d : Int} {A1 A2 A3 : Option Addr} {ns : List NV} {fs : List Int} {rs : List RV}
theorem SpAr.kept (h : SpAr w base B d A1 n1 c1 A2 n2 c2 A3 n3 c3 ns fs rs) (hb : Below w.heap.size w w') : SpAr w' base B d A1 n1 c1 A2 n2 c2 A3 n3 c3 ns fs rs := ⟨h.o.kept hb h.o.inside, h.V.kept hb, h.x⟩
theorem SpAr.drew (h : SpAr w base B d A1 n1 c1 A2 n2 c2 A3 n3 c3 ns fs rs) : SpAr w.drew base B d A1 n1 c1 A2 n2 c2 A3 n3 c3 ns fs rs := h.kept (Below.refl _ _).drew
theorem SpAr.alloc (h : SpAr w base B d A1 n1 c1 A2 n2 c2 A3 n3 c3 ns fs rs) (o : Obj) : SpAr (w.alloc o) base B d A1 n1 c1 A2 n2 c2 A3 n3 c3 ns fs rs := h.kept (below_alloc w o)
theorem SpAr.mid (h : SpAr w base B d A1 n1 c1 A2 n2 c2 A3 n3 c3 ns fs rs) (hg : w.grownBy w1 (Value.slice A3 n3 c3).ownBlock) : Lies w1 B 26 #[.int .i64 d, .slice A1 n1 c1, .slice A2 n2 c2, .slice A3 n3 c3] :=
  (hg.block _ h.o.inside (fun e => h.x B (Or.inr (Or.inr (Or.inr (Or.inl e.symm)))) rfl)).trans h.o
/-- One more is put behind the retired ones. -/
theorem SpAr.put {q : RV} (h : SpAr w base B d A1 n1 c1 A2 n2 c2 A3 n3 c3 ns fs rs) (hb : Below w.heap.size w W) (hq : W.ownsRow w.heap.size 2 1 (.slice q.A1 q.n1 q.c1) q.n1 (q.ws.map (Value.int .i64))) (hlo : base ≤ w.heap.size)
    (ho : w1.ownsRow base 123 2 (.slice (some ⟨g, 0, none⟩) (n3 + 1) cap) (n3 + 1) (rs.flatMap RV.cells ++ RV.cells q)) (hw : W.grownBy w1 (Value.slice A3 n3 c3).ownBlock) (hat : (Value.slice A3 n3 c3).ownBlock = some g ∨ W.heap.size ≤ g) :
    SpAr (w1.setCell ⟨B, 3, none⟩ (.slice (some ⟨g, 0, none⟩) (n3 + 1) cap)) base B d A1 n1 c1 A2 n2 c2 (some ⟨g, 0, none⟩) (n3 + 1) cap ns fs (rs ++ [q]) := by
  have h' := h.kept hb
  have hB := h.o.inside
  have hs := hb.size
  have hin := h.V.inB
  have old : ∀ b, SpV.has A1 n1 c1 A2 n2 c2 A3 n3 c3 ns rs b → b < w.heap.size := fun b e => (hin b e).2
  have qnew : ∀ b ∈ rvB q, w.heap.size ≤ b ∧ b < W.heap.size := fun b hb' => ownsRow_block2 hq b (rvB_mem.1 hb')
  have keep : ∀ b, b < w.heap.size → (Value.slice A3 n3 c3).ownBlock ≠ some b → b ≠ B → (w1.setCell ⟨B, 3, none⟩ (.slice (some ⟨g, 0, none⟩) (n3 + 1) cap)).heap[b]? = W.heap[b]? := fun b e1 e2 e3 =>
    (heap_setCell_other w1 ⟨B, 3, none⟩ b _ e3).trans (hw.block b (Nat.lt_of_lt_of_le e1 hs) (fun e => e2 e.symm))
  have hsz : W.heap.size ≤ (w1.setCell ⟨B, 3, none⟩ (.slice (some ⟨g, 0, none⟩) (n3 + 1) cap)).heap.size := by rw [size_of_setCell]; exact hw.size
  have gB : g ≠ B := by
    rcases hat with e | e
    · exact h.x g (Or.inr (Or.inr (Or.inr (Or.inl e))))
    · omega
  have nb : rvsB (rs ++ [q]) = rvsB rs ++ rvB q := by simp [rvsB]
  have R1 := h.V.R.put (q := q) hb hq hlo ho hw hat
  have gown : ∀ b, (Value.slice (some (⟨g, 0, none⟩ : Addr)) (n3 + 1) cap).ownBlock = some b → b = g := fun b e => by simpa [Value.ownBlock] using e.symm
  have rB : ∀ b ∈ rvsB (rs ++ [q]), b ≠ B := by
    intro b hm
    rw [nb] at hm
    rcases List.mem_append.1 hm with hm | hm
    · exact h.x b (Or.inr (Or.inr (Or.inr (Or.inr hm))))
    · have := (qnew b hm).1; omega
  have newE : ∀ b, w.heap.size ≤ b → (Value.slice A1 n1 c1).ownBlock ≠ some b ∧ (Value.slice A2 n2 c2).ownBlock ≠ some b ∧ b ∉ nodesB ns := fun b hb1 =>
    ⟨fun e => by have := old b (Or.inl e); omega, fun e => by have := old b (Or.inr (Or.inr (Or.inl e))); omega, fun e => by have := old b (Or.inr (Or.inl e)); omega⟩
  refine ⟨Lies.set (w := w1) (h'.mid hw) 3 _, ⟨?_, ?_, ?_, h.V.d, fun b e => ?_⟩, fun b e => ?_⟩
  · exact h'.V.N.others hsz (fun b e => keep b (old b (Or.inl e)) (fun e2 => (h.V.e b (Or.inl e2)).1 e) (h.x b (Or.inl e))) (fun b e => keep b (old b (Or.inr (Or.inl e))) (fun e2 => (h.V.e b (Or.inl e2)).2.2 e) (h.x b (Or.inr (Or.inl e))))
  · exact ownsRow_others h'.V.F (fun b e => keep b (old b (Or.inr (Or.inr (Or.inl e)))) (fun e2 => (h.V.e b (Or.inl e2)).2.1 e) (h.x b (Or.inr (Or.inr (Or.inl e)))))
  · exact R1.others (fun b e => heap_setCell_other w1 ⟨B, 3, none⟩ b _ (by rw [gown b e]; exact gB)) (fun b e => heap_setCell_other w1 ⟨B, 3, none⟩ b _ (rB b e))
  · rcases e with e | e
    · rw [gown b e]
      rcases hat with hat | hat
      · exact h.V.e g (Or.inl hat)
      · exact newE g (by omega)
    · rw [nb] at e
      rcases List.mem_append.1 e with e | e
      · exact h.V.e b (Or.inr e)
      · exact newE b (qnew b e).1
  · rcases e with e | e | e | e | e
    · exact h.x b (Or.inl e)
    · exact h.x b (Or.inr (Or.inl e))
    · exact h.x b (Or.inr (Or.inr (Or.inl e)))
    · rw [gown b e]; exact gB
    · exact rB b e
end
/-- .. and what stands besides. -/
theorem SpAr.step {w0 wr W w1 : World} {nb n1 c1 n2 c2 n3 c3 g cap : Nat} {d : Int} {A1 A2 A3 : Option Addr} {ns : List NV} {fs : List Int} {rs : List RV} {q : RV} {t : TypeId} {zr : Array Value} (h : SpAr wr (w0.heap.size + 1) nb d A1 n1 c1 A2 n2 c2 A3 n3 c3 ns fs rs) (hB : Below w0.heap.size w0 wr) (hr : Lies wr w0.heap.size t zr) (hnb : w0.heap.size + 1 ≤ nb)
    (hb : Below wr.heap.size wr W) (hq : W.ownsRow wr.heap.size 2 1 (.slice q.A1 q.n1 q.c1) q.n1 (q.ws.map (Value.int .i64)))
    (ho : w1.ownsRow (w0.heap.size + 1) 123 2 (.slice (some ⟨g, 0, none⟩) (n3 + 1) cap) (n3 + 1) (rs.flatMap RV.cells ++ RV.cells q)) (hw : W.grownBy w1 (Value.slice A3 n3 c3).ownBlock) (hat : (Value.slice A3 n3 c3).ownBlock = some g ∨ W.heap.size ≤ g) :
    SpAr (w1.setCell ⟨nb, 3, none⟩ (.slice (some ⟨g, 0, none⟩) (n3 + 1) cap)) (w0.heap.size + 1) nb d A1 n1 c1 A2 n2 c2 (some ⟨g, 0, none⟩) (n3 + 1) cap ns fs (rs ++ [q]) ∧ Below w0.heap.size w0 (w1.setCell ⟨nb, 3, none⟩ (.slice (some ⟨g, 0, none⟩) (n3 + 1) cap)) ∧ Lies (w1.setCell ⟨nb, 3, none⟩ (.slice (some ⟨g, 0, none⟩) (n3 + 1) cap)) w0.heap.size t zr ∧ Lies w1 nb 26 #[.int .i64 d, .slice A1 n1 c1, .slice A2 n2 c2, .slice A3 n3 c3] := by
  have hnbi := h.o.inside
  have h' := h.kept hb
  have hk := ownsRow_block2 h'.V.R.S
  have hs := hB.size
  have hs2 := hb.size
  refine ⟨h.put (q := q) hb hq (by omega) ho hw hat, ?_, ?_, h'.mid hw⟩
  · exact (below_grown2 (hB.trans (hb.mono hs)) hw (fun r e => by have := (hk r e).1; omega) (by omega)).setCell (by show w0.heap.size ≤ nb; omega) _
  · have h1 : Lies w1 w0.heap.size t zr := (hw.block _ (by omega) (fun e => by have := (hk _ e.symm).1; omega)).trans (hr.kept hb hr.inside)
    exact h1.far (by show w0.heap.size ≠ nb; omega) _

theorem Turned.alloc2 {G : Nat → Prop} {w w' : World} (h : Turned G w w') (o : Obj) : Turned G w (w'.alloc o) := h.trans (Turned.of_below (below_alloc w' o))
theorem Turned.drew2 {G : Nat → Prop} {w w' : World} (h : Turned G w w') : Turned G w w'.drew := h.trans (Turned.of_below (Below.refl _ _).drew)
theorem Turned.call2 {G : Nat → Prop} {w w1 w2 : World} (h : Turned G w w1) (hb : Below w1.heap.size w1 w2) : Turned G w w2 := h.trans (Turned.of_below hb)

/-- A copy whose rows were laid in W1 and W2, and its block, which was laid some time between. -/
theorem SpAr.made {W1 W2 wx : World} {base nb b1 b2 n1 c1 n2 c2 : Nat} {d : Int} {A1 A2 : Option Addr} {qs : List NV} {fs : List Int} (o : Lies wx nb 26 #[.int .i64 d, .slice A1 n1 c1, .slice A2 n2 c2, .slice none 0 0]) (hN : NodesS W1 b1 (.slice A1 n1 c1) n1 qs) (hF : W2.ownsRow b2 2 1 (.slice A2 n2 c2) n2 (fs.map (Value.int .i64)))
    (h1 : base ≤ b1) (h2 : base ≤ b2) (h12 : W1.heap.size ≤ b2) (T1 : Turned (fun x => x = nb) W1 wx) (T2 : Turned (fun x => x = nb) W2 wx) (hx : ∀ b, (b1 ≤ b ∧ b < W1.heap.size) ∨ (b2 ≤ b ∧ b < W2.heap.size) → b ≠ nb) : SpAr wx base nb d A1 n1 c1 A2 n2 c2 none 0 0 qs fs [] := by
  have iN := fun b e => ownsRow_block2 hN.S b e
  have iF := fun b e => ownsRow_block2 hF b e
  refine ⟨o, ⟨?_, ?_, RetsOut.nil _ _, fun b e => ⟨fun e2 => ?_, fun e2 => ?_⟩, fun b e => by rcases e with e | e <;> simp [Value.ownBlock, rvsB] at e⟩, fun b e => ?_⟩
  · exact (hN.others T1.2.1 (fun b e => T1.2.2 b (iN b e).2 (hx b (Or.inl (iN b e)))) (fun b e => T1.2.2 b (hN.inB b e).2 (hx b (Or.inl (hN.inB b e))))).lower h1
  · exact ownsRow_lower (ownsRow_others hF (fun b e => T2.2.2 b (iF b e).2 (hx b (Or.inr (iF b e))))) h2
  · have := (iN b e2).2; have := (iF b e).1; omega
  · have := (hN.inB b e2).2; have := (iF b e).1; omega
  · rcases e with e | e | e | e | e
    · exact hx b (Or.inl (iN b e))
    · exact hx b (Or.inl (hN.inB b e))
    · exact hx b (Or.inr (iF b e))
    · simp [Value.ownBlock] at e
    · simp [rvsB] at e

set_option maxRecDepth 100000 in
set_option maxHeartbeats 12800000 in
theorem l4Copy_any (b dd n1 c1 n2 c2 n3 c3 : Nat) (d : Int) (A1 A2 A3 : Option Addr) (ns : List NV) (fs : List Int) (rs : List RV) (w : World) (ha : Lies w b 26 #[.int .i64 d, .slice A1 n1 c1, .slice A2 n2 c2, .slice A3 n3 c3]) (hp : ArenaL w A1 A2 A3 n1 n2 n3 ns fs rs) (hd : 0 < dd) (hd3 : dd ≤ 3) (hl : ∀ q ∈ ns, q.n1 ≤ 6 ∧ LensE dd (q.es.map EV.val)) (hr : ∀ q ∈ rs, q.n1 ≤ 10) (m1 : n1 ≤ 1048576) (m2 : n2 ≤ 1048576) (m3 : n3 ≤ 1048576) :
    Calls Tryz.prog 60 #[.pointer (some ⟨b, 0, none⟩)] w fun e w' => ∃ A1' c1' A2' c2' A3' c3' qs ts, e = .returned (.agg #[.int .i64 d, .slice A1' n1 c1', .slice A2' n2 c2', .slice A3' n3 c3']) ∧ SpV w' w.heap.size A1' n1 c1' A2' n2 c2' A3' n3 c3' qs fs ts ∧ qs.map NV.val = ns.map NV.val ∧ ts.map RV.val = rs.map RV.val ∧ Below w.heap.size w w' := by
  have HA := Lib.hid ha
  have HP := Lib.hid hp
  have HLN := Lib.hid hl
  have HRR := Lib.hid hr
  have hb := ha.inside
  have HL3 : Hid (rs.length = n3) := hp.R.1
  clear ha hp hl hr
  have B := Lib.hid (below_alloc w (.cells #[.int .i64 0, .slice none 0 0, .slice none 0 0, .slice none 0 0] 26))
  have L_r := Lib.hid (Lies.new w 26 #[.int .i64 0, .slice none 0 0, .slice none 0 0, .slice none 0 0])
  have L_a := Lib.hid (HA.out.alloc (.cells #[.int .i64 0, .slice none 0 0, .slice none 0 0, .slice none 0 0] 26))
  obtain ⟨l0, hl0, hy0, hy1, hy2⟩ := info_ret
  have LP := Lib.hid (And.intro hl0 (And.intro hy0 (And.intro hy1 hy2)))
  clear hl0 hy0 hy1 hy2
  go_enter Tryz.func60, Tryz.ntmps60
  go_upto_region 1 with fail
  generalize hW : w.alloc (.cells #[.int .i64 0, .slice none 0 0, .slice none 0 0, .slice none 0 0] 26) = W0 at *
  have hW0 : W0.heap.size = w.heap.size + 1 := by rw [← hW]; simp only [World.size_alloc]
  have HW0 := Lib.hid hW0
  clear hW hW0
  go_cut [3] (fun s3 wx => ∃ (nb : Nat) (A1' : Option Addr) (c1' : Nat) (A2' : Option Addr) (c2' : Nat) (qs : List NV), s3 = .pointer (some ⟨nb, 0, none⟩) ∧ Hid (SpAr wx (w.heap.size + 1) nb d A1' n1 c1' A2' n2 c2' none 0 0 qs fs []) ∧ Hid (qs.map NV.val = ns.map NV.val) ∧ w.heap.size + 1 ≤ nb ∧ Hid (Since W0 wx))
  case first =>
    have k_0 : W0.cell? ⟨b, 0, none⟩ = some (.int .i64 d) ∧ W0.cell? ⟨b, 1, none⟩ = some (.slice A1 n1 c1) ∧ W0.cell? ⟨b, 2, none⟩ = some (.slice A2 n2 c2) := ⟨L_a.out.cell 0, L_a.out.cell 1, L_a.out.cell 2⟩
    have zd := size_of_drew
    have i_a := L_a.out.inside
    go_region_held3 (fun w' => w'.cell? ⟨b, 0, none⟩ = some (.int .i64 d) ∧ w'.cell? ⟨b, 1, none⟩ = some (.slice A1 n1 c1) ∧ w'.cell? ⟨b, 2, none⟩ = some (.slice A2 n2 c2))
      (exact ⟨Lies.cell (t := 26) (cs := #[.int .i64 d, .slice A1 n1 c1, .slice A2 n2 c2, .slice A3 n3 c3]) (by with_reducible (repeat (first | refine Lies.far ?_ ?_ _ | refine Lies.alloc ?_ _ | refine Lies.drew ?_ | refine Lies.call ?_ b1 | refine Lies.call ?_ b2 | exact L_a.out)); all_goals ((try simp only [size_of_drew, size_of_setCell, World.size_alloc]); omega)) 0, Lies.cell (t := 26) (cs := #[.int .i64 d, .slice A1 n1 c1, .slice A2 n2 c2, .slice A3 n3 c3]) (by with_reducible (repeat (first | refine Lies.far ?_ ?_ _ | refine Lies.alloc ?_ _ | refine Lies.drew ?_ | refine Lies.call ?_ b1 | refine Lies.call ?_ b2 | exact L_a.out)); all_goals ((try simp only [size_of_drew, size_of_setCell, World.size_alloc]); omega)) 1, Lies.cell (t := 26) (cs := #[.int .i64 d, .slice A1 n1 c1, .slice A2 n2 c2, .slice A3 n3 c3]) (by with_reducible (repeat (first | refine Lies.far ?_ ?_ _ | refine Lies.alloc ?_ _ | refine Lies.drew ?_ | refine Lies.call ?_ b1 | refine Lies.call ?_ b2 | exact L_a.out)); all_goals ((try simp only [size_of_drew, size_of_setCell, World.size_alloc]); omega)) 2⟩)
      (first
        | (go_at_call 95; refine (l3Copies_any n1 c1 dd A1 ns _ (HP.out.N.kept (by with_reducible (repeat (first | refine Since.below ?_ | refine Since.drew ?_ | refine Since.alloc ?_ _ | exact Since.of B.out)))) m1 hd hd3 HLN.out).mono ?_
           rintro e W1 ⟨A1', c1', qs, rfl, hN, hV, b1⟩
           have hN1 := hN
           try simp only [size_of_drew, World.size_alloc] at hN1
           have q_W1 := cells_kept b1
           have u_W1 := frozen_kept b1
           have z_W1 := sizes_kept b1
           try simp only [size_of_drew, World.size_alloc] at z_W1
           have le_01 : W0.heap.size ≤ W1.heap.size := by omega
           try (have lt_01 : W0.heap.size < W1.heap.size := by omega))
        | (go_at_call 96; refine (l1Ints_all n2 c2 0 A2 fs _ (HP.out.F.kept (by with_reducible (repeat (first | refine Since.below ?_ | refine Since.drew ?_ | refine Since.alloc ?_ _ | refine Since.call ?_ b1 | exact Since.of B.out)))) m2).mono ?_
           rintro e W2 ⟨A2', c2', rfl, hF, b2⟩
           have hF1 := hF
           try simp only [size_of_drew, World.size_alloc] at hF1
           have q_W2 := cells_kept b2
           have u_W2 := frozen_kept b2
           have z_W2 := sizes_kept b2
           try simp only [size_of_drew, World.size_alloc] at z_W2
           have le_12 : W1.heap.size ≤ W2.heap.size := by omega
           have le_02 : W0.heap.size ≤ W2.heap.size := by omega
           try (have lt_02 : W0.heap.size < W2.heap.size := by omega)
           try (have lt_12 : W1.heap.size < W2.heap.size := by omega)))
    all_goals
      rename_i hH
      clear hH zd q_W1 u_W1 q_W2 u_W2 k_0
      have hw00 := HW0.out
      go_wp2_with fail
      go_meet
      refine ⟨_, A1', c1', A2', c2', qs, rfl, Lib.hid (SpAr.made ?_ hN1 hF1 ?_ ?_ ?_ ?_ ?_ ?_), Lib.hid hV, ?_, Lib.hid ?_⟩
      · first
          | (refine Lies.as (cs := ((((#[.int .i64 0, .slice none 0 0, .slice none 0 0, .slice none 0 0].setIfInBounds 0 (.int .i64 d)).setIfInBounds 1 (.slice A1' n1 c1')).setIfInBounds 2 (.slice A2' n2 c2')).setIfInBounds 3 (.slice none 0 0))) ?_ (by simp)
             with_reducible (repeat (first | refine Lies.set ?_ _ _ | first | refine Lies.far ?_ ?_ _ | (refine Lies.laid ?_; (simp only [size_of_drew, size_of_setCell, World.size_alloc]; done)) | exact Lies.new _ _ _ | exact Lies.laid2 _ _ _ _ | refine Lies.alloc ?_ _ | refine Lies.drew ?_ | refine Lies.call ?_ b1 | refine Lies.call ?_ b2))
             all_goals first | exact Nat.ne_of_lt (Nat.lt_succ_self _) | exact Nat.ne_of_gt (Nat.lt_succ_self _) | (show ¬ _ = _; (try simp only [size_of_drew, size_of_setCell, World.size_alloc]); omega)
             done)
          | (with_reducible (repeat (first | refine Lies.far ?_ ?_ _ | (refine Lies.laid ?_; (simp only [size_of_drew, size_of_setCell, World.size_alloc]; done)) | exact Lies.new _ _ _ | exact Lies.laid2 _ _ _ _ | refine Lies.alloc ?_ _ | refine Lies.drew ?_ | refine Lies.call ?_ b1 | refine Lies.call ?_ b2))
             all_goals first | exact Nat.ne_of_lt (Nat.lt_succ_self _) | exact Nat.ne_of_gt (Nat.lt_succ_self _) | (show ¬ _ = _; (try simp only [size_of_drew, size_of_setCell, World.size_alloc]); omega)
             done)
      · omega
      · omega
      · omega
      · with_reducible (repeat (first | refine Turned.setCell ?_ ?_ _ | refine Turned.alloc2 ?_ _ | refine Turned.drew2 ?_ | refine Turned.call2 ?_ b2 | exact Turned.refl _ _))
        all_goals exact rfl
      · with_reducible (repeat (first | refine Turned.setCell ?_ ?_ _ | refine Turned.alloc2 ?_ _ | refine Turned.drew2 ?_ | exact Turned.refl _ _))
        all_goals exact rfl
      · rintro x (⟨h1, h2⟩ | ⟨h1, h2⟩) <;> (try simp only [size_of_drew, size_of_setCell, World.size_alloc]) <;> omega
      · (try simp only [size_of_drew, size_of_setCell, World.size_alloc]); omega
      · with_reducible (repeat (first | refine Since.setCell ?_ ?_ _ | refine Since.alloc ?_ _ | refine Since.drew ?_ | refine Since.call ?_ b1 | refine Since.call ?_ b2))
        · exact Since.of (Below.refl _ _)
        all_goals ((try dsimp only); (try simp only [size_of_drew, size_of_setCell, World.size_alloc]); omega)
  case' rest =>
    obtain ⟨nb, A1', c1', A2', c2', qs, rfl, hS, hV, hnb, hsi⟩ := hcut
    have bS := hsi.out.below
  replace L_r := Lib.hid (L_r.out.kept bS (by have := HW0.out; omega))
  replace L_a := Lib.hid (L_a.out.kept bS L_a.out.inside)
  replace B := Lib.hid (B.out.trans (bS.mono B.out.size))
  have hnb2 : nb < wc.heap.size := hS.out.o.inside
  clear bS hsi
  go_wp2
  go_loopw [4] (fun i wr => ∃ (j : Nat) (A3' : Option Addr) (c3' : Nat) (ts : List RV), j ≤ n3 ∧ i = .int .i64 (j : Int) ∧ Hid (SpAr wr (w.heap.size + 1) nb d A1' n1 c1' A2' n2 c2' A3' j c3' qs fs ts) ∧ Hid (Below w.heap.size w wr) ∧ Hid (Lies wr w.heap.size 26 #[.int .i64 0, .slice none 0 0, .slice none 0 0, .slice none 0 0]) ∧ Hid (Lies wr b 26 #[.int .i64 d, .slice A1 n1 c1, .slice A2 n2 c2, .slice A3 n3 c3]) ∧ Hid (ts.map RV.val = (rs.take j).map RV.val)) (fun i _ => n3 - (intOf i).toNat)
  case atStart => exact ⟨0, none, 0, [], Nat.zero_le _, rfl, hS, B, L_r, L_a, rfl⟩
  case round =>
    obtain ⟨j, A3', c3', ts, hj, rfl, hX, hB, hLr, hLa, hT⟩ := hrel
    clear hS B L_r L_a
    by_cases hlt : j < n3
    · obtain ⟨rb, ro, id, X1, k1, e1, ws, rfl, hrb, d0, d1, hx, hI, hk1⟩ := HP.out.R.cellAt hlt
      have HRX := Lib.hid hx.out
      have hk10 : k1 ≤ 10 := HRR.out _ (List.mem_of_getElem? hx.out)
      have hjlt : (j : Int) < (n3 : Int) := by omega
      have oc3 : wr.cell? ⟨nb, 3, none⟩ = some (.slice A3' j c3') := hX.out.o.cell 3
      have ac3 : wr.cell? ⟨b, 3, none⟩ = some (.slice (some ⟨rb, ro, none⟩) n3 c3) := hLa.out.cell 3
      have rc0 : wr.cell? ⟨rb, ro + j * 2, none⟩ = some (.int .i64 id) := (hB.out.cell (p := ⟨rb, ro + j * 2, none⟩) hrb).trans d0
      have rc1 : wr.cell? ⟨rb, ro + j * 2 + 1, none⟩ = some (.slice X1 k1 e1) := (hB.out.cell (p := ⟨rb, ro + j * 2 + 1, none⟩) hrb).trans d1
      have hbi := hLa.out.inside
      have hri : rb < wr.heap.size := Nat.lt_of_lt_of_le hrb hB.out.size
      have hnbi : nb < wr.heap.size := hX.out.o.inside
      have hsz : w.heap.size + 1 ≤ wr.heap.size := by omega
      clear d0 d1 hx
      go_upto_region 5 with fail
      refine wp_region_last 23 (fun w' => w'.cell? ⟨nb, 3, none⟩ = some (.slice A3' j c3') ∧ w'.cell? ⟨b, 3, none⟩ = some (.slice (some ⟨rb, ro, none⟩) n3 c3) ∧ w'.cell? ⟨rb, ro + j * 2, none⟩ = some (.int .i64 id) ∧ w'.cell? ⟨rb, ro + j * 2 + 1, none⟩ = some (.slice X1 k1 e1)) (by kernel_rfl) (⟨oc3, ac3, rc0, rc1⟩) (fun hHeld => ?_)
      apply wpAnyL_take (i := 0)
      · simp only [List.getElem?_toArray, List.getElem?_cons_succ, List.getElem?_cons_zero]; exact rfl
      refine ⟨⟨by kernel_rfl, by kernel_rfl, by kernel_rfl, by kernel_rfl, by kernel_rfl⟩, fun _ _ _ h => h, ?_, hHeld, ?_⟩
      · intro w hSw; (try dsimp only at hSw); go_simp; all_goals (with_reducible rfl)
      (try simp only [Act.put, List.setIfInBounds_toArray, List.set_cons_zero, List.set_cons_succ])
      apply wpAnyL_take (i := 1)
      · simp only [List.getElem?_toArray, List.getElem?_cons_succ, List.getElem?_cons_zero]; exact rfl
      refine ⟨⟨by kernel_rfl, by kernel_rfl, by kernel_rfl, by kernel_rfl, by kernel_rfl⟩, fun _ _ _ h => h, ?_, hHeld, ?_⟩
      · intro w hSw; (try dsimp only at hSw); go_simp; all_goals (with_reducible rfl)
      (try simp only [Act.put, List.setIfInBounds_toArray, List.set_cons_zero, List.set_cons_succ])
      apply wpAnyL_take (i := 2)
      · simp only [List.getElem?_toArray, List.getElem?_cons_succ, List.getElem?_cons_zero]; exact rfl
      refine ⟨⟨by kernel_rfl, by kernel_rfl, by kernel_rfl, by kernel_rfl, by kernel_rfl⟩, fun _ _ _ h => h, ?_, hHeld, ?_⟩
      · intro w hSw; (try dsimp only at hSw); go_simp; all_goals (with_reducible rfl)
      (try simp only [Act.put, List.setIfInBounds_toArray, List.set_cons_zero, List.set_cons_succ])
      apply wpAnyL_take (i := 3)
      · simp only [List.getElem?_toArray, List.getElem?_cons_succ, List.getElem?_cons_zero]; exact rfl
      refine ⟨⟨by kernel_rfl, by kernel_rfl, by kernel_rfl, by kernel_rfl, by kernel_rfl⟩, fun _ _ _ h => h, ?_, hHeld, ?_⟩
      · intro w hSw; (try dsimp only at hSw); go_simp; all_goals (with_reducible rfl)
      (try simp only [Act.put, List.setIfInBounds_toArray, List.set_cons_zero, List.set_cons_succ])
      apply wpAnyL_take (i := 4)
      · simp only [List.getElem?_toArray, List.getElem?_cons_succ, List.getElem?_cons_zero]; exact rfl
      refine ⟨⟨by kernel_rfl, by kernel_rfl, by kernel_rfl, by kernel_rfl, by kernel_rfl⟩, fun _ _ _ h => h, ?_, hHeld, ?_⟩
      · intro w hSw; (try dsimp only at hSw); go_simp; all_goals (with_reducible rfl)
      (try simp only [Act.put, List.setIfInBounds_toArray, List.set_cons_zero, List.set_cons_succ])
      apply wpAnyL_take (i := 5)
      · simp only [List.getElem?_toArray, List.getElem?_cons_succ, List.getElem?_cons_zero]; exact rfl
      refine ⟨⟨by kernel_rfl, by kernel_rfl, by kernel_rfl, by kernel_rfl, by kernel_rfl⟩, fun _ _ _ h => h, ?_, hHeld, ?_⟩
      · intro w hSw; (try dsimp only at hSw); go_simp; all_goals (with_reducible rfl)
      (try simp only [Act.put, List.setIfInBounds_toArray, List.set_cons_zero, List.set_cons_succ])
      apply wpAnyL_take (i := 6)
      · simp only [List.getElem?_toArray, List.getElem?_cons_succ, List.getElem?_cons_zero]; exact rfl
      refine ⟨⟨by kernel_rfl, by kernel_rfl, by kernel_rfl, by kernel_rfl, by kernel_rfl⟩, fun _ _ _ h => h, ?_, hHeld, ?_⟩
      · intro w hSw; (try dsimp only at hSw); go_simp; all_goals (with_reducible rfl)
      (try simp only [Act.put, List.setIfInBounds_toArray, List.set_cons_zero, List.set_cons_succ])
      apply wpAnyL_take (i := 7)
      · simp only [List.getElem?_toArray, List.getElem?_cons_succ, List.getElem?_cons_zero]; exact rfl
      refine ⟨⟨by kernel_rfl, by kernel_rfl, by kernel_rfl, by kernel_rfl, by kernel_rfl⟩, fun _ _ _ h => h, ?_, hHeld, ?_⟩
      · intro w hSw; (try dsimp only at hSw); go_simp; all_goals (with_reducible rfl)
      (try simp only [Act.put, List.setIfInBounds_toArray, List.set_cons_zero, List.set_cons_succ])
      apply wpAnyL_take (i := 8)
      · simp only [List.getElem?_toArray, List.getElem?_cons_succ, List.getElem?_cons_zero]; exact rfl
      refine ⟨⟨by kernel_rfl, by kernel_rfl, by kernel_rfl, by kernel_rfl, by kernel_rfl⟩, fun _ _ _ h => h, ?_, hHeld, ?_⟩
      · intro w hSw; (try dsimp only at hSw); go_simp; all_goals (with_reducible rfl)
      (try simp only [Act.put, List.setIfInBounds_toArray, List.set_cons_zero, List.set_cons_succ])
      apply wpAnyL_take (i := 9)
      · simp only [List.getElem?_toArray, List.getElem?_cons_succ, List.getElem?_cons_zero]; exact rfl
      refine ⟨⟨by kernel_rfl, by kernel_rfl, by kernel_rfl, by kernel_rfl, by kernel_rfl⟩, fun _ _ _ h => h, ?_, hHeld, ?_⟩
      · intro w hSw; (try dsimp only at hSw); go_simp; all_goals (with_reducible rfl)
      (try simp only [Act.put, List.setIfInBounds_toArray, List.set_cons_zero, List.set_cons_succ])
      apply wpAnyL_take (i := 10)
      · simp only [List.getElem?_toArray, List.getElem?_cons_succ, List.getElem?_cons_zero]; exact rfl
      refine ⟨⟨by kernel_rfl, by kernel_rfl, by kernel_rfl, by kernel_rfl, by kernel_rfl⟩, fun _ _ _ h => h, ?_, hHeld, ?_⟩
      · intro w hSw; (try dsimp only at hSw); go_simp; all_goals (with_reducible rfl)
      (try simp only [Act.put, List.setIfInBounds_toArray, List.set_cons_zero, List.set_cons_succ])
      apply wpAnyL_take (i := 11)
      · simp only [List.getElem?_toArray, List.getElem?_cons_succ, List.getElem?_cons_zero]; exact rfl
      refine ⟨⟨by kernel_rfl, by kernel_rfl, by kernel_rfl, by kernel_rfl, by kernel_rfl⟩, fun _ _ _ h => h, ?_, hHeld, ?_⟩
      · intro w hSw; (try dsimp only at hSw); go_simp; all_goals (with_reducible rfl)
      (try simp only [Act.put, List.setIfInBounds_toArray, List.set_cons_zero, List.set_cons_succ])
      apply wpAnyL_take (i := 12)
      · simp only [List.getElem?_toArray, List.getElem?_cons_succ, List.getElem?_cons_zero]; exact rfl
      refine ⟨⟨by kernel_rfl, by kernel_rfl, by kernel_rfl, by kernel_rfl, by kernel_rfl⟩, fun _ _ _ h => h, ?_, hHeld, ?_⟩
      · intro w hSw; (try dsimp only at hSw); go_simp; all_goals (with_reducible rfl)
      (try simp only [Act.put, List.setIfInBounds_toArray, List.set_cons_zero, List.set_cons_succ])
      apply wpAnyL_take (i := 13)
      · simp only [List.getElem?_toArray, List.getElem?_cons_succ, List.getElem?_cons_zero]; exact rfl
      refine ⟨⟨by kernel_rfl, by kernel_rfl, by kernel_rfl, by kernel_rfl, by kernel_rfl⟩, fun _ _ _ h => h, ?_, hHeld, ?_⟩
      · intro w hSw; (try dsimp only at hSw); go_simp; all_goals (with_reducible rfl)
      (try simp only [Act.put, List.setIfInBounds_toArray, List.set_cons_zero, List.set_cons_succ])
      apply wpAnyL_take (i := 14)
      · simp only [List.getElem?_toArray, List.getElem?_cons_succ, List.getElem?_cons_zero]; exact rfl
      refine ⟨⟨by kernel_rfl, by kernel_rfl, by kernel_rfl, by kernel_rfl, by kernel_rfl⟩, fun _ _ _ h => h, ?_, hHeld, ?_⟩
      · intro w hSw; (try dsimp only at hSw); go_simp; all_goals (with_reducible rfl)
      (try simp only [Act.put, List.setIfInBounds_toArray, List.set_cons_zero, List.set_cons_succ])
      apply wpAnyL_take (i := 15)
      · simp only [List.getElem?_toArray, List.getElem?_cons_succ, List.getElem?_cons_zero]; exact rfl
      refine ⟨⟨by kernel_rfl, by kernel_rfl, by kernel_rfl, by kernel_rfl, by kernel_rfl⟩, fun _ _ _ h => h, ?_, hHeld, ?_⟩
      · intro w hSw; (try dsimp only at hSw); go_simp; all_goals (with_reducible rfl)
      (try simp only [Act.put, List.setIfInBounds_toArray, List.set_cons_zero, List.set_cons_succ])
      apply wpAnyL_take (i := 16)
      · simp only [List.getElem?_toArray, List.getElem?_cons_succ, List.getElem?_cons_zero]; exact rfl
      refine ⟨⟨by kernel_rfl, by kernel_rfl, by kernel_rfl, by kernel_rfl, by kernel_rfl⟩, fun _ _ _ h => h, ?_, hHeld, ?_⟩
      · intro w hSw; (try dsimp only at hSw); go_simp; all_goals (with_reducible rfl)
      (try simp only [Act.put, List.setIfInBounds_toArray, List.set_cons_zero, List.set_cons_succ])
      apply wpAnyL_take (i := 17)
      · simp only [List.getElem?_toArray, List.getElem?_cons_succ, List.getElem?_cons_zero]; exact rfl
      refine ⟨⟨by kernel_rfl, by kernel_rfl, by kernel_rfl, by kernel_rfl, by kernel_rfl⟩, fun _ _ _ h => h, ?_, hHeld, ?_⟩
      · intro w hSw; (try dsimp only at hSw); go_simp; all_goals (with_reducible rfl)
      (try simp only [Act.put, List.setIfInBounds_toArray, List.set_cons_zero, List.set_cons_succ])
      apply wpAnyL_one (i := 18)
      · simp only [List.getElem?_toArray, List.getElem?_cons_succ, List.getElem?_cons_zero]; exact rfl
      refine ⟨by kernel_rfl, fun K hK => ?_⟩
      go_simp
      go_at_call 96
      refine (l1Ints_all k1 e1 0 X1 ws _ (hI.out.kept hB.out.drew) (by omega)).mono ?_
      rintro e W1 ⟨A9, c9, rfl, hcr, b1d⟩
      have b1 := below_drawn b1d
      have hCR : Hid (W1.ownsRow wr.heap.size 2 1 (.slice A9 k1 c9) k1 (ws.map (Value.int .i64))) := hcr
      have hbW := Lib.hid b1
      have hbS := b1.size
      have hX1 := Lib.hid (hX.out.kept b1)
      have bA := below_alloc W1 (.cells #[.int .i64 id, .slice A9 k1 c9] 123)
      have k_1 : W1.cell? ⟨nb, 3, none⟩ = some (.slice A3' j c3') ∧ W1.cell? ⟨b, 3, none⟩ = some (.slice (some ⟨rb, ro, none⟩) n3 c3) ∧ W1.cell? ⟨rb, ro + j * 2, none⟩ = some (.int .i64 id) ∧ W1.cell? ⟨rb, ro + j * 2 + 1, none⟩ = some (.slice X1 k1 e1) := ⟨(b1.cell (p := ⟨nb, 3, none⟩) hnbi).trans oc3, (b1.cell (p := ⟨b, 3, none⟩) hbi).trans ac3, (b1.cell (p := ⟨rb, ro + j * 2, none⟩) hri).trans rc0, (b1.cell (p := ⟨rb, ro + j * 2 + 1, none⟩) hri).trans rc1⟩
      clear b1 b1d hcr
      have hS_18 := k_1
      refine hK.out _ _ (fun _ => hS_18) ?_
      clear hK K
      (try simp only [Act.put, List.setIfInBounds_toArray, List.set_cons_zero, List.set_cons_succ])
      apply wpAnyL_take (i := 19)
      · simp only [List.getElem?_toArray, List.getElem?_cons_succ, List.getElem?_cons_zero]; exact rfl
      refine ⟨⟨by kernel_rfl, by kernel_rfl, by kernel_rfl, by kernel_rfl, by kernel_rfl⟩, fun _ _ _ h => h, ?_, hS_18, ?_⟩
      · intro w hSw; (try dsimp only at hSw); go_simp; all_goals (with_reducible rfl)
      (try simp only [Act.put, List.setIfInBounds_toArray, List.set_cons_zero, List.set_cons_succ])
      apply wpAnyL_one (i := 20)
      · simp only [List.getElem?_toArray, List.getElem?_cons_succ, List.getElem?_cons_zero]; exact rfl
      refine ⟨by kernel_rfl, fun K hK => ?_⟩
      go_simp
      have hS_20 := (⟨(bA.cell (p := ⟨nb, 3, none⟩) (by show nb < _; omega)).trans k_1.1, (bA.cell (p := ⟨b, 3, none⟩) (by show b < _; omega)).trans k_1.2.1, (bA.cell (p := ⟨rb, ro + j * 2, none⟩) (by show rb < _; omega)).trans k_1.2.2.1, (bA.cell (p := ⟨rb, ro + j * 2 + 1, none⟩) (by show rb < _; omega)).trans k_1.2.2.2⟩ : (W1.alloc (.cells #[.int .i64 id, .slice A9 k1 c9] 123)).cell? ⟨nb, 3, none⟩ = some (.slice A3' j c3') ∧ (W1.alloc (.cells #[.int .i64 id, .slice A9 k1 c9] 123)).cell? ⟨b, 3, none⟩ = some (.slice (some ⟨rb, ro, none⟩) n3 c3) ∧ (W1.alloc (.cells #[.int .i64 id, .slice A9 k1 c9] 123)).cell? ⟨rb, ro + j * 2, none⟩ = some (.int .i64 id) ∧ (W1.alloc (.cells #[.int .i64 id, .slice A9 k1 c9] 123)).cell? ⟨rb, ro + j * 2 + 1, none⟩ = some (.slice X1 k1 e1))
      refine hK.out _ _ (fun _ => hS_20) ?_
      clear hK K
      (try simp only [Act.put, List.setIfInBounds_toArray, List.set_cons_zero, List.set_cons_succ])
      apply wpAnyL_one (i := 21)
      · simp only [List.getElem?_toArray, List.getElem?_cons_succ, List.getElem?_cons_zero]; exact rfl
      refine ⟨by kernel_rfl, fun K hK => ?_⟩
      apply step_append_lies (s := .tmp 30) (x := .tmp 49) (t := 24) (base := w.heap.size + 1) (e := 123) (i := l0) (z := .agg #[.int .i64 0, .slice none 0 0]) (size := 2) (bytes := 32) (v := .slice A3' j c3') (n := j) (xs := ts.flatMap RV.cells) (ad := ⟨W1.heap.size, 0, none⟩) (m := 1) (c := 1) (news := [.int .i64 id, .slice A9 k1 c9]) (H := W1.heap.size + 1)
      case hgd => rfl
      case ho => rfl
      case ht => exact Tryz.underlying24
      case hi => exact LP.out.1
      case hz => exact LP.out.2.1
      case hsize => exact LP.out.2.2.1
      case hby => exact LP.out.2.2.2
      case hzs => rfl
      case hsz => omega
      case hs => rfl
      case hown => exact hX1.out.V.R.S.alloc _
      case hx => rfl
      case hl => rfl
      case hnews => exact World.news_of_block (cs := #[.int .i64 id, .slice A9 k1 c9]) (t := 123) (fr := (0, 0)) (Lies.new W1 123 #[.int .i64 id, .slice A9 k1 c9])
      case h1 => simp [Value.oneCell']
      case hm => omega
      case h63 => unfold maxLen; omega
      case hbytes => omega
      case hbase => simp only [World.size_alloc]; omega
      case hH => simp only [World.size_alloc]
      intro gg cap w1 hown1 hgrow hat hlt1
      obtain ⟨hS2', hB2', hLr2', hS1⟩ := SpAr.step (q := ⟨id, A9, k1, c9, ws⟩) hX.out hB.out hLr.out hnb (hbW.out.alloc hbS (.cells #[.int .i64 id, .slice A9 k1 c9] 123)) (hCR.out.alloc _) hown1 hgrow (hat.imp _root_.id fun h => by (try simp only [World.size_alloc]); omega)
      have hS2 := Lib.hid hS2'
      have hB2 := Lib.hid hB2'
      have hLr2 := Lib.hid hLr2'
      have hbr := Lib.hid (ownsRow_block2 hX1.out.V.R.S)
      have hgz := hgrow.size
      have s0 : w1.cell? ⟨nb, 3, none⟩ = some (.slice A3' j c3') := hS1.cell 3
      have s1 : w1.frozen? ⟨nb, 3, none⟩ = false := hS1.thawed 3
      clear hS2' hB2' hLr2'
      have hS_21 := (⟨s0, (World.grownBy.cell_far hgrow ⟨b, 3, none⟩ (by simp only [World.size_alloc]; show b < _; omega) (fun e => by have := (hbr.out _ e.symm).1; simp only at this; omega)).trans hS_20.2.1, (World.grownBy.cell_far hgrow ⟨rb, ro + j * 2, none⟩ (by simp only [World.size_alloc]; show rb < _; omega) (fun e => by have := (hbr.out _ e.symm).1; simp only at this; omega)).trans hS_20.2.2.1, (World.grownBy.cell_far hgrow ⟨rb, ro + j * 2 + 1, none⟩ (by simp only [World.size_alloc]; show rb < _; omega) (fun e => by have := (hbr.out _ e.symm).1; simp only at this; omega)).trans hS_20.2.2.2⟩ : w1.cell? ⟨nb, 3, none⟩ = some (.slice A3' j c3') ∧ w1.cell? ⟨b, 3, none⟩ = some (.slice (some ⟨rb, ro, none⟩) n3 c3) ∧ w1.cell? ⟨rb, ro + j * 2, none⟩ = some (.int .i64 id) ∧ w1.cell? ⟨rb, ro + j * 2 + 1, none⟩ = some (.slice X1 k1 e1))
      refine hK.out _ _ (fun _ => hS_21) ?_
      clear hK K
      (try simp only [Act.put, List.setIfInBounds_toArray, List.set_cons_zero, List.set_cons_succ])
      apply wpAnyL_take (i := 22)
      · simp only [List.getElem?_toArray, List.getElem?_cons_succ, List.getElem?_cons_zero]; exact rfl
      refine ⟨⟨by kernel_rfl, by kernel_rfl, by kernel_rfl, by kernel_rfl, by kernel_rfl⟩, fun _ _ _ h => h, ?_, hS_21, ?_⟩
      · intro w hSw; (try dsimp only at hSw); go_simp; all_goals (with_reducible rfl)
      (try simp only [Act.put, List.setIfInBounds_toArray, List.set_cons_zero, List.set_cons_succ])
      apply wpAnyL_one (i := 23)
      · simp only [List.getElem?_toArray, List.getElem?_cons_succ, List.getElem?_cons_zero]; exact rfl
      refine ⟨by kernel_rfl, fun K hK => ?_⟩
      go_simp
      refine hK.out _ _ (fun h => absurd rfl h) ?_
      clear hK K
      refine wpAnyL_done (by kernel_rfl) ?_ _
      -- HAND END
      have hTN : Hid ((ts ++ [(⟨id, A9, k1, c9, ws⟩ : RV)]).map RV.val = (rs.take (j + 1)).map RV.val) := by
        show _ = _
        rw [List.map_append, hT.out, List.take_add_one, HRX.out, List.map_append]
        rfl
      have hLa2 : Hid (Lies (w1.setCell ⟨nb, 3, none⟩ (.slice (some ⟨gg, 0, none⟩) (j + 1) cap)) b 26 #[.int .i64 d, .slice A1 n1 c1, .slice A2 n2 c2, .slice (some ⟨rb, ro, none⟩) n3 c3]) := HA.out.kept hB2.out hb
      clear hX hB hLr hLa hT oc3 ac3 rc0 rc1 hS_18 hS_20 hS_21 k_1 s0 s1 bA hCR hbW hX1 hHeld
      go_wp2
      go_roundw
      case rel => exact ⟨j + 1, _, _, _, by omega, by go_num, hS2, hB2, hLr2, hLa2, hTN⟩
      case measure => simp [intOf]; omega
    · have hjn : j = n3 := by omega
      subst hjn
      have HT2 : Hid (ts.map RV.val = rs.map RV.val) := by
        have h1 := hT.out
        rwa [List.take_of_length_le (by rw [HL3.out]; exact Nat.le_refl _)] at h1
      have ac3 : wr.cell? ⟨b, 3, none⟩ = some (.slice A3 j c3) := hLa.out.cell 3
      have q0 : wr.cell? ⟨nb, 0, none⟩ = some (.int .i64 d) := hX.out.o.cell 0
      have q1 : wr.cell? ⟨nb, 1, none⟩ = some (.slice A1' n1 c1') := hX.out.o.cell 1
      have q2 : wr.cell? ⟨nb, 2, none⟩ = some (.slice A2' n2 c2') := hX.out.o.cell 2
      have q3 : wr.cell? ⟨nb, 3, none⟩ = some (.slice A3' j c3') := hX.out.o.cell 3
      have r0 : wr.cell? ⟨w.heap.size, 0, none⟩ = some (.int .i64 0) := hLr.out.cell 0
      have r1 : wr.cell? ⟨w.heap.size, 1, none⟩ = some (.slice none 0 0) := hLr.out.cell 1
      have r2 : wr.cell? ⟨w.heap.size, 2, none⟩ = some (.slice none 0 0) := hLr.out.cell 2
      have r3 : wr.cell? ⟨w.heap.size, 3, none⟩ = some (.slice none 0 0) := hLr.out.cell 3
      have f0 : wr.frozen? ⟨w.heap.size, 0, none⟩ = false := hLr.out.thawed 0
      have f1 : wr.frozen? ⟨w.heap.size, 1, none⟩ = false := hLr.out.thawed 1
      have f2 : wr.frozen? ⟨w.heap.size, 2, none⟩ = false := hLr.out.thawed 2
      have f3 : wr.frozen? ⟨w.heap.size, 3, none⟩ = false := hLr.out.thawed 3
      have lt2 : w.heap.size < w.heap.size + 1 := by omega
      have AN := Lib.hid ((((hX.out.V.far (a := ⟨w.heap.size, 0, none⟩) lt2 (.int .i64 d)).far (a := ⟨w.heap.size, 1, none⟩) lt2 (.slice A1' n1 c1')).far (a := ⟨w.heap.size, 2, none⟩) lt2 (.slice A2' n2 c2')).far (a := ⟨w.heap.size, 3, none⟩) lt2 (.slice A3' j c3'))
      have BB := Lib.hid ((((hB.out.setCell (p := ⟨w.heap.size, 0, none⟩) (Nat.le_refl _) (.int .i64 d)).setCell (p := ⟨w.heap.size, 1, none⟩) (Nat.le_refl _) (.slice A1' n1 c1')).setCell (p := ⟨w.heap.size, 2, none⟩) (Nat.le_refl _) (.slice A2' n2 c2')).setCell (p := ⟨w.heap.size, 3, none⟩) (Nat.le_refl _) (.slice A3' j c3'))
      clear hX hB hLr hLa hT
      go_wp2
      refine bodyPost_ret (v := .agg #[.int .i64 d, .slice A1' n1 c1', .slice A2' n2 c2', .slice A3' j c3']) (by simp [results, Tryz.results60, go_sem, r0, r1, r2, r3]) rfl ⟨A1', c1', A2', c2', A3', c3', qs, ts, rfl, ?_, hV.out, HT2.out, ?_⟩
      · exact AN.out.lower (by omega)
      · exact BB.out

end Go.Proofs.YtpgoildfjkokiaaGreat

/- What the model answers when it answers an arena: it lies in memory that the call laid; that a world left some blocks alone. -/
namespace Go.Proofs.YtpgoildfjkokiaaGreat
open Go.RowKit

/-- The blocks of W from lo on stand in w as they were. -/
def Stay (W w : World) (lo : Nat) : Prop := W.heap.size ≤ w.heap.size ∧ ∀ b, lo ≤ b → b < W.heap.size → w.heap[b]? = W.heap[b]?
theorem Stay.refl (W : World) (lo : Nat) : Stay W W lo := ⟨Nat.le_refl _, fun _ _ _ => rfl⟩
theorem Stay.far {W w : World} {lo : Nat} {a : Addr} (h : Stay W w lo) (ha : a.block < lo ∨ W.heap.size ≤ a.block) (v : Value) : Stay W (w.setCell a v) lo :=
  ⟨Nat.le_trans h.1 (Nat.le_of_eq (size_of_setCell _ _ _).symm), fun b h1 h2 => (heap_setCell_other w a b v (by omega)).trans (h.2 b h1 h2)⟩
theorem Stay.call {W w w' : World} {lo : Nat} (h : Stay W w lo) (hb : Below w.heap.size w w') : Stay W w' lo :=
  ⟨Nat.le_trans h.1 hb.size, fun b h1 h2 => (hb.block b (Nat.lt_of_lt_of_le h2 h.1)).trans (h.2 b h1 h2)⟩
theorem Stay.alloc {W w : World} {lo : Nat} (h : Stay W w lo) (o : Obj) : Stay W (w.alloc o) lo := h.call (below_alloc w o)
theorem Stay.drew {W w : World} {lo : Nat} (h : Stay W w lo) : Stay W w.drew lo := h.call (Below.refl _ _).drew

/-- An arena of the model's own, not too long. -/
structure SpA (w : World) (lo : Nat) (A1 : Option Addr) (n1 c1 : Nat) (A2 : Option Addr) (n2 c2 : Nat) (A3 : Option Addr) (n3 c3 : Nat) (ns : List NV) (fs : List Int) (rs : List RV) : Prop where
  V : SpV w lo A1 n1 c1 A2 n2 c2 A3 n3 c3 ns fs rs
  m1 : n1 ≤ 1048576
  m2 : n2 ≤ 1048576
  m3 : n3 ≤ 1048576
  t : ∀ q ∈ rs, q.n1 ≤ 10
section
variable {w W : World} {lo n1 c1 n2 c2 n3 c3 : Nat} {A1 A2 A3 : Option Addr} {ns : List NV} {fs : List Int} {rs : List RV}
theorem SpA.of {base : Nat} (h : SpV w base A1 n1 c1 A2 n2 c2 A3 n3 c3 ns fs rs) (m1 : n1 ≤ 1048576) (m2 : n2 ≤ 1048576) (m3 : n3 ≤ 1048576) (ht : ∀ q ∈ rs, q.n1 ≤ 10) (hl : lo ≤ base) : SpA w lo A1 n1 c1 A2 n2 c2 A3 n3 c3 ns fs rs := ⟨h.lower hl, m1, m2, m3, ht⟩
theorem SpA.stay (h : SpA W lo A1 n1 c1 A2 n2 c2 A3 n3 c3 ns fs rs) (hs : Stay W w lo) : SpA w lo A1 n1 c1 A2 n2 c2 A3 n3 c3 ns fs rs :=
  ⟨h.V.others hs.1 fun b hb => hs.2 b (h.V.inB b hb).1 (h.V.inB b hb).2, h.m1, h.m2, h.m3, h.t⟩
theorem SpA.kept (h : SpA W lo A1 n1 c1 A2 n2 c2 A3 n3 c3 ns fs rs) (hb : Below W.heap.size W w) : SpA w lo A1 n1 c1 A2 n2 c2 A3 n3 c3 ns fs rs := h.stay ((Stay.refl _ _).call hb)
theorem SpA.arena (h : SpA w lo A1 n1 c1 A2 n2 c2 A3 n3 c3 ns fs rs) : ArenaL w A1 A2 A3 n1 n2 n3 ns fs rs := h.V.arena h.m1 h.m2 h.m3 h.t
theorem SpA.none (w : World) (lo : Nat) : SpA w lo none 0 0 none 0 0 none 0 0 [] [] [] :=
  ⟨⟨⟨⟨rfl, Or.inl ⟨rfl, rfl⟩⟩, fun q hq => by simp at hq, fun b h => by simp [Value.ownBlock] at h⟩, ⟨rfl, Or.inl ⟨rfl, rfl⟩⟩, RetsOut.nil _ _, fun b h => by simp [Value.ownBlock] at h, fun b h => by simp [Value.ownBlock, rvsB] at h⟩, by decide, by decide, by decide, fun q hq => by simp at hq⟩
theorem AnsAr.stay (h : AnsAr W lo A1 n1 c1 A2 n2 c2 A3 n3 c3 ns fs rs) (hs : Stay W w lo) : AnsAr w lo A1 n1 c1 A2 n2 c2 A3 n3 c3 ns fs rs := h.others hs.2
end

/-- The model's answer. -/
def SpPost (R : ArVal) (w : World) (e : Ending) (w' : World) : Prop :=
  ∃ A1 c1 A2 c2 A3 c3 ns rs, e = .returned (.agg #[.int .i64 R.1, .int .i64 R.2.1, .slice A1 R.2.2.1.length c1, .slice A2 R.2.2.2.1.length c2, .slice A3 R.2.2.2.2.1.length c3, .int .i64 R.2.2.2.2.2]) ∧ SpA w' w.heap.size A1 R.2.2.1.length c1 A2 R.2.2.2.1.length c2 A3 R.2.2.2.2.1.length c3 ns R.2.2.2.1 rs ∧ ns.map NV.val = R.2.2.1 ∧ rs.map RV.val = R.2.2.2.2.1 ∧ Below w.heap.size w w'
theorem SpPost.no {c : Int} {R : ArVal} {w w' : World} (hR : R = arNo c) (hb : Below w.heap.size w w') : SpPost R w (.returned (.agg #[.int .i64 c, .int .i64 0, .slice none 0 0, .slice none 0 0, .slice none 0 0, .int .i64 0])) w' := by
  subst hR
  exact ⟨none, 0, none, 0, none, 0, [], [], rfl, SpA.none _ _, rfl, rfl, hb⟩
theorem SpPost.yes {d id : Int} {V : List NVal} {F : List Int} {U : List RVal} {R : ArVal} {w w' : World} {A1 A2 A3 : Option Addr} {n1 n2 n3 c1 c2 c3 : Nat} {ns : List NV} {rs : List RV} (hR : R = (0, d, V, F, U, id)) (hA : SpA w' w.heap.size A1 n1 c1 A2 n2 c2 A3 n3 c3 ns F rs) (hv : ns.map NV.val = V) (hu : rs.map RV.val = U) (hb : Below w.heap.size w w') :
    SpPost R w (.returned (.agg #[.int .i64 0, .int .i64 d, .slice A1 n1 c1, .slice A2 n2 c2, .slice A3 n3 c3, .int .i64 id])) w' := by
  subst hR
  obtain rfl : V.length = n1 := by rw [← hv, List.length_map]; exact hA.arena.N.1
  obtain rfl : F.length = n2 := hA.arena.F.1
  obtain rfl : U.length = n3 := by rw [← hu, List.length_map]; exact hA.arena.R.1
  exact ⟨A1, c1, A2, c2, A3, c3, ns, rs, rfl, hA, hv, hu, hb⟩

end Go.Proofs.YtpgoildfjkokiaaGreat
