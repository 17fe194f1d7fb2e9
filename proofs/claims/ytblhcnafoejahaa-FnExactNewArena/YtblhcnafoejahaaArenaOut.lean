/- The walks of impl.ground's last and freeAll. -/
import Derived.Test.YtblhcnafoejahaaBoxMath
import Derived.Test.YtblhcnafoejahaaSpecArena1
import Derived.Test.YtblhcnafoejahaaBodyNode
import Derived.Test.YtblhcnafoejahaaPairs
import Derived.Test.YtblhcnafoejahaaSpecNew
namespace Go.Proofs.Ytblhcnafoejahaa
open Go.RowKit

/-- An arena that is worked at: the block G, the places, the row of their pointers. -/
structure Grd (w : World) (lo G : Nat) (d : Int) (m o : Value) (pb cp n : Nat) (ps : List LV) : Prop where
  L : Lies w G 104 #[.int .i64 d, .slice (some ⟨pb, 0, none⟩) n cp, m, o]
  P : Places w lo d ps
  R : Ptrs w lo pb n ps
  g : G < lo
section
variable {w w' : World} {lo G pb cp n : Nat} {d : Int} {m o : Value} {ps : List LV}
theorem Grd.kept (h : Grd w lo G d m o pb cp n ps) (hb : Below w.heap.size w w') : Grd w' lo G d m o pb cp n ps :=
  ⟨h.L.kept hb h.L.inside, h.P.kept hb, ⟨h.R.l, fun k p hk => (hb.cell (p := ⟨pb, k, none⟩) h.R.i.2).trans (h.R.c k p hk), ⟨h.R.i.1, Nat.lt_of_lt_of_le h.R.i.2 hb.size⟩, h.R.x⟩, h.g⟩
theorem Laid.grd {w0 : World} {v : Value} (h : Laid w0 w lo G d m o n ps v) (hn : 0 < n) : ∃ pb cp, v = .slice (some ⟨pb, 0, none⟩) n cp ∧ Grd w lo G d m o pb cp n ps := by
  obtain ⟨hl, hs⟩ := h.S
  rw [List.length_map, Nat.mul_one] at hl
  rcases hs with ⟨e1, e2⟩ | ⟨g, cap, cur, rfl, h2, h3, h4, h5, h6, h7⟩
  · omega
  · have hb := ownsRow_block2 h.S g rfl
    refine ⟨g, cap, rfl, h.G', h.P, ⟨hl, fun k p hk => ?_, hb, h.V g rfl⟩, h.g⟩
    rw [cell_of_row w g k cur 105 (0, 0) h3]
    have hk2 : k < n := by rw [← hl]; exact (List.getElem?_eq_some_iff.1 hk).1
    have h8 : (cur.toList.take (n * 1))[k]? = some p.ptr := by rw [h7]; simp [hk]
    rw [List.getElem?_take, if_pos (by omega)] at h8
    simpa using h8
/-- One place is written anew. -/
theorem Grd.put (h : Grd w lo G d m o pb cp n ps) {i : Nat} {p p' : LV} (hi : ps[i]? = some p) (hg : p'.g = p.g) (hs : w.heap.size ≤ w'.heap.size) (hk : ∀ b, b < w.heap.size → b ≠ p.g → w'.heap[b]? = w.heap[b]?) (hp : PlaceOk w' lo d p') (hr : ∀ b, p'.row b → p.row b ∨ w.heap.size ≤ b) : Grd w' lo G d m o pb cp n (ps.set i p') := by
  have hpi := h.P.P p (List.mem_of_getElem? hi)
  have hgl := hpi.g
  have hG := h.g
  have npb : pb ≠ p.g := fun e => h.R.x p (List.mem_of_getElem? hi) (Or.inl e.symm)
  refine ⟨(hk G h.L.inside (by omega)).trans h.L, h.P.put hi hg hs hk hp hr, ⟨by rw [List.length_set]; exact h.R.l, fun k q hq => ?_, ⟨h.R.i.1, Nat.lt_of_lt_of_le h.R.i.2 hs⟩, fun q hq => ?_⟩, h.g⟩
  · rw [World.cell?_of_block (w := w) (a := ⟨pb, k, none⟩) (hk pb h.R.i.2 npb)]
    rw [List.getElem?_set] at hq
    by_cases e : i = k
    · subst e
      rw [if_pos rfl, if_pos (List.getElem?_eq_some_iff.1 hi).1] at hq
      injection hq with hq; subst hq
      rw [h.R.c i p hi]; unfold LV.ptr; rw [hg]
    · rw [if_neg e] at hq; exact h.R.c k q hq
  · rcases List.mem_or_eq_of_mem_set hq with hq | rfl
    · exact h.R.x q hq
    · rintro (e | e)
      · exact npb (e.symm.trans hg)
      · rcases hr _ e with h1 | h1
        · exact h.R.x p (List.mem_of_getElem? hi) (Or.inr h1)
        · have := h.R.i.2; omega
end

theorem same_vacant {lv ns rt : Int} {qs : List EV} {vs : List EVal} (h : qs.map EV.val = vs) : ((lv == 0) && (ns == 0) && (rt == -1) && sameL EV.val qs []) = decide ((lv, ns, rt, vs) = vacV) := by
  subst h
  unfold sameL vacV
  by_cases h1 : lv = 0 <;> by_cases h2 : ns = 0 <;> by_cases h3 : rt = -1 <;> simp [h1, h2, h3]

theorem entries_none (w : World) : Entries w none 0 [] := ⟨rfl, fun h => absurd h (Nat.lt_irrefl 0), fun q hq => by simp at hq⟩


theorem hty_node (lv d ns rt : Int) (A : Option Addr) (n c : Nat) (w : World) : (method 281 (hty lv) (.agg #[.int .i64 d, .slice A n c, .int .i64 lv, .int .i64 ns, .int .i64 rt]) "loop.example/g00680/impl.node").run Try.prog w = .ok (48, .agg #[.int .i64 d, .slice A n c, .int .i64 lv, .int .i64 ns, .int .i64 rt]) w := by
  unfold hty
  split <;> kernel_rfl

/-- The places behind the marks: free are those that are listed. -/
def Freed (ps ps' : List LV) (fs : List Int) : Prop := ps'.length = ps.length ∧ ∀ (i : Nat) (q : LV), ps'[i]? = some q → ∃ p, ps[i]? = some p ∧ q = { p with fr := fs.contains (i : Int) }
theorem Freed.vals {ps ps' : List LV} {fs : List Int} (h : Freed ps ps' fs) : ps'.map LV.val = ps.map LV.val := by
  apply List.ext_getElem?
  intro i
  rw [List.getElem?_map, List.getElem?_map]
  cases hq : ps'[i]? with
  | none =>
    have h1 := List.getElem?_eq_none_iff.1 hq
    rw [List.getElem?_eq_none_iff.2 (by rw [← h.1]; exact h1)]
  | some q =>
    obtain ⟨p, hp, rfl⟩ := h.2 i q hq
    rw [hp]; rfl
theorem Freed.start {ps : List LV} (h : ∀ p ∈ ps, p.fr = false) : Freed ps ps [] := by
  refine ⟨rfl, fun i q hq => ⟨q, hq, ?_⟩⟩
  have := h q (List.mem_of_getElem? hq)
  cases q; simp only at this; subst this; rfl
theorem Freed.next {ps ps' : List LV} {fs : List Int} {k j : Nat} {q : LV} (h : Freed ps ps' (fs.take k)) (hk : fs[k]? = some (j : Int)) (hj : ps'[j]? = some q) : Freed ps (ps'.set j { q with fr := true }) (fs.take (k + 1)) := by
  refine ⟨by rw [List.length_set]; exact h.1, fun i r hr => ?_⟩
  rw [List.take_add_one, hk]
  rw [List.getElem?_set] at hr
  by_cases e : j = i
  · subst e
    rw [if_pos rfl, if_pos (List.getElem?_eq_some_iff.1 hj).1] at hr
    injection hr with hr; subst hr
    obtain ⟨p, hp, rfl⟩ := h.2 j q hj
    refine ⟨p, hp, ?_⟩
    simp
  · rw [if_neg e] at hr
    obtain ⟨p, hp, rfl⟩ := h.2 i r hr
    refine ⟨p, hp, ?_⟩
    have hne : ¬ (i : Int) = (j : Int) := by omega
    simp [List.contains_eq_any_beq, List.any_append, hne]


end Go.Proofs.Ytblhcnafoejahaa

/- The walk of impl.ground's arena, where nothing is retired. -/
namespace Go.Proofs.Ytblhcnafoejahaa
open Go.RowKit

/-- The free ones among the places, from i on. -/
def freeL : Nat → List LV → List Int
  | _, [] => []
  | i, p :: t => if p.fr then (i : Int) :: freeL (i + 1) t else freeL (i + 1) t
theorem freeL_next : ∀ {ps : List LV} {i k : Nat} {p : LV}, ps[k]? = some p → freeL i (ps.take (k + 1)) = freeL i (ps.take k) ++ (if p.fr then [((i + k : Nat) : Int)] else [])
  | [], i, k, p, h => by simp at h
  | a :: t, i, 0, p, h => by simp at h; subst h; simp only [List.take_succ_cons, List.take_zero, freeL, Nat.add_zero]; split <;> rfl
  | a :: t, i, k + 1, p, h => by
    have ih := freeL_next (ps := t) (i := i + 1) (k := k) (p := p) (by simpa using h)
    simp only [List.take_succ_cons, freeL]
    rw [ih, show i + 1 + k = i + (k + 1) by omega]
    split <;> simp

/-- Where arena's first loop stands. -/
structure ArW (w wr : World) (d : Int) (k kf : Nat) (vN vF : Value) (qs : List NV) (fs : List Int) : Prop where
  b : Below w.heap.size w wr
  r : Lies wr w.heap.size 55 #[.int .i64 0, .slice none 0 0, .slice none 0 0, .slice none 0 0]
  o : Lies wr (w.heap.size + 1) 55 #[.int .i64 d, vN, vF, .slice none 0 0]
  N : NodesOut wr (w.heap.size + 1 + 1) vN k qs
  F : wr.ownsRow (w.heap.size + 1 + 1) 2 1 vF kf (fs.map (Value.int .i64))
  d : ∀ b, vF.ownBlock = some b → vN.ownBlock ≠ some b ∧ b ∉ nodesB qs
section
variable {w wr W w1 : World} {d : Int} {k kf g cap : Nat} {vN vF : Value} {qs : List NV} {fs : List Int}
theorem ArW.drew (h : ArW w wr d k kf vN vF qs fs) : ArW w wr.drew d k kf vN vF qs fs := ⟨h.b.drew, h.r, h.o, h.N.others (fun _ _ => rfl) (fun _ _ => rfl), h.F.drew, h.d⟩
theorem ArW.call (h : ArW w wr d k kf vN vF qs fs) (hb : Below wr.heap.size wr W) : ArW w W d k kf vN vF qs fs := ⟨h.b.trans (hb.mono h.b.size), h.r.kept hb h.r.inside, h.o.kept hb h.o.inside, h.N.kept hb, ownsRow_below h.F hb, h.d⟩
theorem ArW.alloc (h : ArW w wr d k kf vN vF qs fs) (o : Obj) : ArW w (wr.alloc o) d k kf vN vF qs fs := h.call (below_alloc wr o)
theorem ArW.node {q : NV} (h : ArW w wr d k kf vN vF qs fs) (hb : Below wr.heap.size wr W) (hq : EntriesRes W wr.heap.size q.A1 q.n1 q.c1 q.es)
    (ho : w1.ownsRow (w.heap.size + 1 + 1) 29 4 (.slice (some ⟨g, 0, none⟩) (k + 1) cap) (k + 1) (qs.flatMap NV.cells ++ NV.cells q)) (hw : W.grownBy w1 vN.ownBlock) (hat : vN.ownBlock = some g ∨ W.heap.size ≤ g) :
    ArW w (w1.setCell ⟨w.heap.size + 1, 1, none⟩ (.slice (some ⟨g, 0, none⟩) (k + 1) cap)) d (k + 1) kf (.slice (some ⟨g, 0, none⟩) (k + 1) cap) vF (qs ++ [q]) fs := by
  have h' := h.call hb
  have hlo : w.heap.size + 1 + 1 ≤ wr.heap.size := h.o.inside
  have hbk := ownsRow_block2 h'.N.S
  have hF := ownsRow_block2 h.F
  have nr : ∀ x, x < w.heap.size + 1 + 1 → some x ≠ vN.ownBlock := fun x hx e => by have := (hbk x e.symm).1; omega
  have N1 := h.N.put (q := q) hb hq hlo ho hw hat
  refine ⟨(below_grown2 h'.b hw (fun r e => by have := (hbk r e).1; omega) h'.b.size).setCell (by show w.heap.size ≤ w.heap.size + 1; omega) _, Lies.far ((hw.block _ h'.r.inside (nr _ (by omega))).trans h'.r) (by show w.heap.size ≠ w.heap.size + 1; omega) _, Lies.set (w := w1) ((hw.block _ h'.o.inside (nr _ (by omega))).trans h'.o) 1 _, N1.far (by show w.heap.size + 1 < _; omega) _, ownsRow_far2 (h'.F.kept hw ?_) (by show w.heap.size + 1 < _; omega) _, fun b e => ⟨fun e2 => ?_, fun hm => ?_⟩⟩
  · cases hv : vF.ownBlock with
    | none => exact Or.inl rfl
    | some b => exact Or.inr fun e => (h.d b hv).1 e.symm
  · have e2' : g = b := by simpa [Value.ownBlock] using e2
    subst e2'
    rcases hat with hat | hat
    · exact (h.d g e).1 hat
    · have := (hF g e).2; have := hb.size; omega
  · have nb : nodesB (qs ++ [q]) = nodesB qs ++ nodeB q := by simp [nodesB]
    rw [nb] at hm
    rcases List.mem_append.1 hm with hm | hm
    · exact (h.d b e).2 hm
    · have := (hq.inB b hm).1; have := (hF b e).2; omega
theorem ArW.free {x : Int} (h : ArW w wr d k kf vN vF qs fs) (ho : w1.ownsRow (w.heap.size + 1 + 1) 2 1 (.slice (some ⟨g, 0, none⟩) (kf + 1) cap) (kf + 1) (fs.map (Value.int .i64) ++ [.int .i64 x])) (hw : wr.grownBy w1 vF.ownBlock) (hat : vF.ownBlock = some g ∨ g = wr.heap.size) :
    ArW w (w1.setCell ⟨w.heap.size + 1, 2, none⟩ (.slice (some ⟨g, 0, none⟩) (kf + 1) cap)) d k (kf + 1) vN (.slice (some ⟨g, 0, none⟩) (kf + 1) cap) qs (fs ++ [x]) := by
  have hbk := ownsRow_block2 h.F
  have nr : ∀ y, y < w.heap.size + 1 + 1 → some y ≠ vF.ownBlock := fun y hy e => by have := (hbk y e.symm).1; omega
  have hN := ownsRow_block2 h.N.S
  have hB := nodesB_in h.N
  have N1 : NodesOut w1 (w.heap.size + 1 + 1) vN k qs := h.N.others (fun b e => hw.block b (hN b e).2 (fun e2 => (h.d b e2.symm).1 e)) (fun b hb => hw.block b (hB b hb).2 (fun e2 => (h.d b e2.symm).2 hb))
  refine ⟨(below_grown2 h.b hw (fun r e => by have := (hbk r e).1; omega) h.b.size).setCell (by show w.heap.size ≤ w.heap.size + 1; omega) _, Lies.far ((hw.block _ h.r.inside (nr _ (by omega))).trans h.r) (by show w.heap.size ≠ w.heap.size + 1; omega) _, Lies.set (w := w1) ((hw.block _ h.o.inside (nr _ (by omega))).trans h.o) 2 _, N1.far (by show w.heap.size + 1 < _; omega) _, ownsRow_far2 (by rw [List.map_append]; exact ho) (by show w.heap.size + 1 < _; omega) _, fun b e => ?_⟩
  have e2' : g = b := by simpa [Value.ownBlock] using e
  subst e2'
  rcases hat with hat | hat
  · exact h.d g hat
  · exact ⟨fun e2 => by have := (hN g e2).2; omega, fun hm => by have := (hB g hm).2; omega⟩
theorem ArW.mid {row : Option Nat} (h : ArW w wr d k kf vN vF qs fs) (hg : wr.grownBy w1 row) (hr : row = vN.ownBlock ∨ row = vF.ownBlock) : Lies w1 (w.heap.size + 1) 55 #[.int .i64 d, vN, vF, .slice none 0 0] := by
  have hb : ∀ r, row = some r → w.heap.size + 1 + 1 ≤ r := fun r e => by
    rcases hr with h' | h'
    · exact (ownsRow_block2 h.N.S r (h' ▸ e)).1
    · exact (ownsRow_block2 h.F r (h' ▸ e)).1
  exact (hg.block _ h.o.inside (fun e => by have := hb _ e.symm; omega)).trans h.o
end

end Go.Proofs.Ytblhcnafoejahaa
