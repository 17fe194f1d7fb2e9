/- The walks of impl.ground's retiredFault and retire. -/
import Derived.Test.YtblhcnafoejahaaRetire1
import Derived.Maps.OwnOps
namespace Go.Proofs.Ytblhcnafoejahaa
open Go.RowKit

theorem Ints.drew' {w : World} {lo n : Nat} {A : Option Addr} {xs : List Int} (h : Ints w lo A n xs) : Ints w.drew lo A n xs := h
theorem ownsRow_away {w : World} {base : Nat} {e : TypeId} {size : Nat} {v : Value} {n : Nat} {xs : List Value} (h : w.ownsRow base e size v n xs) {a : Addr} (ha : ∀ r, v.ownBlock = some r → r ≠ a.block) (u : Value) : (w.setCell a u).ownsRow base e size v n xs := by
  obtain ⟨hl, h⟩ := h
  refine ⟨hl, ?_⟩
  rcases h with h | ⟨g, cap, cur, rfl, h2, h3, h4⟩
  · exact Or.inl h
  · exact Or.inr ⟨g, cap, cur, rfl, h2, (heap_setCell_other w a g u (ha g rfl)).trans h3, h4⟩
theorem allIn_two {l h x : Int} : allIn l h [x] = decide (l ≤ x ∧ x ≤ h) := by
  unfold allIn; simp


section
variable {w w' : World} {lo G pb cp n : Nat} {d : Int} {m o : Value} {ps : List LV}
theorem Grd.others (h : Grd w lo G d m o pb cp n ps) (hs : w.heap.size ≤ w'.heap.size) (hG : w'.heap[G]? = w.heap[G]?) (hpb : w'.heap[pb]? = w.heap[pb]?) (hp : ∀ p ∈ ps, ∀ b, p.has b → w'.heap[b]? = w.heap[b]?) : Grd w' lo G d m o pb cp n ps :=
  ⟨hG.trans h.L, h.P.others hs hp, ⟨h.R.l, fun k p hk => (World.cell?_of_block (w := w) (a := ⟨pb, k, none⟩) hpb).trans (h.R.c k p hk), ⟨h.R.i.1, Nat.lt_of_lt_of_le h.R.i.2 hs⟩, h.R.x⟩, h.g⟩
end

/-- An arena that is worked at, with its map of the retired places and their order. -/
structure Ret (w : World) (lo G M : Nat) (d : Int) (o : Value) (pb cp n : Nat) (ps : List LV) (km k : Nat) (ids : List Int) (f : Int → Option Nat) : Prop where
  G' : Grd w lo G d (.map (some M)) o pb cp n ps
  S : w.ownsRow lo 2 1 o k (ids.map (Value.int .i64))
  V : ∀ b, o.ownBlock = some b → b ≠ pb ∧ ∀ p ∈ ps, ¬ p.has b
  M' : PMap w M km f
  m : M < lo
  ne : M ≠ G
section
variable {w w' W1 : World} {lo G M pb cp n km k : Nat} {d : Int} {o : Value} {ps : List LV} {ids : List Int} {f : Int → Option Nat}
theorem Ret.kept (h : Ret w lo G M d o pb cp n ps km k ids f) (hb : Below w.heap.size w w') : Ret w' lo G M d o pb cp n ps km k ids f :=
  ⟨h.G'.kept hb, ownsRow_below h.S hb, h.V, h.M'.kept hb, h.m, h.ne⟩
/-- Who watches is written into a place. -/
theorem Ret.watch {j g5 n1 cap : Nat} {p : LV} {xs : List Int} (h : Ret w lo G M d o pb cp n ps km k ids f) (hb : Below w.heap.size w W1) (hi : ps[j]? = some p) (hI : Ints W1 w.heap.size (some ⟨g5, 0, none⟩) n1 xs) (h0 : 0 < n1) (hlo : lo ≤ w.heap.size) :
    Ret (W1.setCell ⟨p.g, 2, none⟩ (.slice (some ⟨g5, 0, none⟩) n1 cap)) lo G M d o pb cp n (ps.set j { p with wA := some ⟨g5, 0, none⟩, wn := n1, wc := cap, ws := xs }) km k ids f := by
  have h1 := h.kept hb
  have hp0 := h.G'.P.P p (List.mem_of_getElem? hi)
  have hp := h1.G'.P.P p (List.mem_of_getElem? hi)
  have hpg := hp.g
  have hpi := hp0.L.inside
  have hm := h.m
  have hg5 : w.heap.size ≤ g5 ∧ g5 < W1.heap.size := by
    obtain ⟨b, o', e, h2, h3, _⟩ := hI.2 h0
    injection e with e; injection e with e
    omega
  have hs5 : W1.heap.size ≤ (W1.setCell ⟨p.g, 2, none⟩ (.slice (some ⟨g5, 0, none⟩) n1 cap)).heap.size := Nat.le_of_eq (size_of_setCell _ _ _).symm
  have hk5 : ∀ b, b < W1.heap.size → b ≠ p.g → (W1.setCell ⟨p.g, 2, none⟩ (.slice (some ⟨g5, 0, none⟩) n1 cap)).heap[b]? = W1.heap[b]? := fun b _ hne => heap_setCell_other W1 ⟨p.g, 2, none⟩ b _ hne
  have rowp : ∀ b, LV.row { p with wA := some ⟨g5, 0, none⟩, wn := n1, wc := cap, ws := xs } b → p.row b ∨ b = g5 := by
    rintro b (⟨a1, a2⟩ | ⟨a1, a2⟩)
    · exact Or.inl (Or.inl ⟨a1, a2⟩)
    · injection a2 with a2; injection a2 with a2; exact Or.inr a2.symm
  have hF5 : Fresh lo (some ⟨g5, 0, none⟩) n1 := fun _ => ⟨g5, rfl, by omega⟩
  have POK : PlaceOk (W1.setCell ⟨p.g, 2, none⟩ (.slice (some ⟨g5, 0, none⟩) n1 cap)) lo d { p with wA := some ⟨g5, 0, none⟩, wn := n1, wc := cap, ws := xs } := by
    refine ⟨hp.L.set 2 _, hp.S.block hp.F hs5 (fun b h0 e => hk5 b (Fresh.in_slots hp.S h0 e) (fun e' => hp.Y (Or.inl ⟨h0, e' ▸ e⟩))), hp.O, hp.N, ?_, hp.g, hp.F, hF5, fun hy => ?_⟩
    · exact (hI.lower (Nat.zero_le _)).blockF hF5 hs5 (fun b _ e => hk5 b (by injection e with e; injection e with e; omega) (by injection e with e; injection e with e; omega))
    · rcases rowp _ hy with h2 | h2
      · exact hp.Y h2
      · simp only at h2; omega
  have vb : ∀ b, o.ownBlock = some b → b ≠ p.g := fun b e e' => (h.V b e).2 p (List.mem_of_getElem? hi) (Or.inl e'.symm)
  refine ⟨?_, ownsRow_away h1.S (fun r e => by show r ≠ p.g; exact vb r e) _, fun b e => ⟨(h.V b e).1, fun q hq => ?_⟩, h1.M'.block (hk5 M h1.M'.inside (by omega)), h.m, h.ne⟩
  · refine h.G'.put hi rfl (Nat.le_trans hb.size hs5) (fun b h2 h3 => (hk5 b (Nat.lt_of_lt_of_le h2 hb.size) h3).trans (hb.block b h2)) POK (fun b hb' => ?_)
    rcases rowp b hb' with h2 | h2
    · exact Or.inl h2
    · exact Or.inr (by omega)
  · have hbs := (ownsRow_block2 h.S b e).2
    rcases List.mem_or_eq_of_mem_set hq with hq | rfl
    · exact (h.V b e).2 q hq
    · rintro (e' | e')
      · exact vb b e e'.symm
      · rcases rowp _ e' with h2 | h2
        · exact (h.V b e).2 p (List.mem_of_getElem? hi) (Or.inr h2)
        · omega
end
end Go.Proofs.Ytblhcnafoejahaa

/- The walk of impl.ground's retire. -/
namespace Go.Proofs.Ytblhcnafoejahaa
open Go.RowKit

section
variable {w w' W w1 : World} {lo G M pb cp n km k : Nat} {d : Int} {o : Value} {ps : List LV} {ids : List Int} {f f' : Int → Option Nat}
/-- A place is noted in the map. -/
theorem Ret.mapped (h : Ret w lo G M d o pb cp n ps km k ids f) (hM : PMap w' M (km + 1) f') (hg : w.grownBy w' (some M)) : Ret w' lo G M d o pb cp n ps (km + 1) k ids f' := by
  have hm := h.m
  have hk : ∀ b, b < w.heap.size → b ≠ M → w'.heap[b]? = w.heap[b]? := fun b h1 h2 => hg.block b h1 (fun e => h2 (by injection e))
  refine ⟨h.G'.others hg.size (hk G h.G'.L.inside (fun e => h.ne e.symm)) (hk pb h.G'.R.i.2 (by have := h.G'.R.i.1; omega)) (fun p hp b hb => hk b ((h.G'.P.P p hp).inside hb).2 (by have := ((h.G'.P.P p hp).inside hb).1; omega)), h.S.kept hg (Or.inr fun e => by have := (ownsRow_block2 h.S M e).1; omega), h.V, hM, h.m, h.ne⟩
/-- Its number is put behind the others. -/
theorem Ret.ordered {gg cap : Nat} {id : Int} (h : Ret w lo G M d o pb cp n ps km k ids f) (hb : Below w.heap.size w W) (ho : w1.ownsRow lo 2 1 (.slice (some ⟨gg, 0, none⟩) (k + 1) cap) (k + 1) (ids.map (Value.int .i64) ++ [.int .i64 id])) (hw : W.grownBy w1 o.ownBlock) (hat : o.ownBlock = some gg ∨ gg = W.heap.size) :
    Ret (w1.setCell ⟨G, 3, none⟩ (.slice (some ⟨gg, 0, none⟩) (k + 1) cap)) lo G M d (.slice (some ⟨gg, 0, none⟩) (k + 1) cap) pb cp n ps km (k + 1) (ids ++ [id]) f := by
  have h' := h.kept hb
  have hbk := ownsRow_block2 h'.S
  have hgl := h.G'.g
  have hml := h.m
  have Gv : some G ≠ o.ownBlock := fun e => by have := (hbk G e.symm).1; omega
  have keepB : ∀ b, b < W.heap.size → some b ≠ o.ownBlock → b ≠ G → (w1.setCell ⟨G, 3, none⟩ (.slice (some ⟨gg, 0, none⟩) (k + 1) cap)).heap[b]? = W.heap[b]? := fun b h1 h2 h3 =>
    (heap_setCell_other w1 ⟨G, 3, none⟩ b _ h3).trans (hw.block b h1 h2)
  have hs : W.heap.size ≤ (w1.setCell ⟨G, 3, none⟩ (.slice (some ⟨gg, 0, none⟩) (k + 1) cap)).heap.size := by rw [size_of_setCell]; exact hw.size
  have hpb : (w1.setCell ⟨G, 3, none⟩ (.slice (some ⟨gg, 0, none⟩) (k + 1) cap)).heap[pb]? = W.heap[pb]? := keepB pb h'.G'.R.i.2 (fun e => (h.V pb e.symm).1 rfl) (by have := h'.G'.R.i.1; omega)
  have hpp : ∀ p ∈ ps, ∀ b, p.has b → (w1.setCell ⟨G, 3, none⟩ (.slice (some ⟨gg, 0, none⟩) (k + 1) cap)).heap[b]? = W.heap[b]? := fun p hp b hb' => keepB b ((h'.G'.P.P p hp).inside hb').2 (fun e => (h.V b e.symm).2 p hp hb') (by have := ((h'.G'.P.P p hp).inside hb').1; omega)
  refine ⟨⟨Lies.set (w := w1) ((hw.block G h'.G'.L.inside Gv).trans h'.G'.L) 3 _, h'.G'.P.others hs hpp, ⟨h'.G'.R.l, fun j p hj => (World.cell?_of_block (w := W) (a := ⟨pb, j, none⟩) hpb).trans (h'.G'.R.c j p hj), ⟨h'.G'.R.i.1, Nat.lt_of_lt_of_le h'.G'.R.i.2 hs⟩, h'.G'.R.x⟩, hgl⟩, ?_, fun b e => ?_, h'.M'.block (keepB M h'.M'.inside (fun e => by have := (hbk M e.symm).1; omega) h.ne), h.m, h.ne⟩
  · exact ownsRow_far2 (by simpa using ho) (by show G < lo; exact hgl) _
  · have e' : gg = b := by simpa [Value.ownBlock] using e
    subst e'
    rcases hat with hat | hat
    · exact h.V gg hat
    · refine ⟨by have := h'.G'.R.i.2; omega, fun p hp hb' => ?_⟩
      have := ((h'.G'.P.P p hp).inside hb').2; omega
end

/-- 'm[id] = p' at the operation. -/
theorem wpList_pmap (w : World) {ops : Array Oper} {rest : List Oper} {o : Oper} {a : Act} {Q : Exit → Act → World → Prop} (hg : o.guard = none) (m x v : Operand) (hop : o.op = Op.mapUpdate 102 m x v) (M km : Nat) (f : Int → Option Nat) (hm : a.eval m = .map (some M)) (hM : PMap w M km f) (hk : km < maxLen) (id : Int) (hx : a.eval x = .int .i64 id) (hid : (Lit.int .i64 id).wf = true) (g : Nat) (hv : a.eval v = .pointer (some ⟨g, 0, none⟩))
    (hK : ∀ w', PMap w' M (km + 1) (fun x => if x = id then some g else f x) → w.grownBy w' (some M) → wpList Try.prog ops Q rest (a.put o.dst undef) w') : wpList Try.prog ops Q (o :: rest) a w := by
  refine wpList_plain hg fun K' hK' => ?_
  obtain ⟨w', hrun, r1, r2⟩ := hM.store hk hid g
  unfold Oper.wp
  simp [execOp, hop, hm, hx, hv, hrun, Result.andThen]
  exact hK' _ _ (hK w' r1 r2)

/-- A place that is watched by xs. -/
def LV.seen (p q : LV) (xs : List Int) : Prop := ∃ g5 n1 cap, q = { p with wA := some ⟨g5, 0, none⟩, wn := n1, wc := cap, ws := xs }


end Go.Proofs.Ytblhcnafoejahaa
