/- The walk of impl.ground's layAll: each node is opened, and a place is laid for it. -/
import Derived.Test.YtblhcnafoejahaaGround
import Derived.Deep.AppendLies
import Derived.Test.YtblhcnafoejahaaSpecNode
import Derived.Test.YtblhcnafoejahaaBoxVals
namespace Go.Proofs.Ytblhcnafoejahaa
open Go.RowKit

theorem info_ptr : ∃ i, Try.prog.info? 105 = some i ∧ i.zero = some (.pointer none) ∧ i.size = 1 ∧ i.bytes = 8 := by
  have h : (Try.prog.info? 105).map (fun i => (i.zero, i.size, i.bytes)) = some (some (.pointer none), 1, 8) := by kernel_rfl
  obtain ⟨i, hi, h⟩ := Option.map_eq_some_iff.1 h
  simp only [Prod.mk.injEq] at h
  exact ⟨i, hi, h.1, h.2.1, h.2.2⟩

/-- Where layAll's loop stands. -/
structure Laid (w wr : World) (lo G : Nat) (d : Int) (m o : Value) (k : Nat) (ps : List LV) (v : Value) : Prop where
  T : Turned (fun x => x = G) w wr
  G' : Lies wr G 104 #[.int .i64 d, v, m, o]
  S : wr.ownsRow lo 105 1 v k (ps.map LV.ptr)
  P : Places wr lo d ps
  V : ∀ b, v.ownBlock = some b → ∀ p ∈ ps, ¬ p.has b
  g : G < lo
section
variable {w wr W : World} {lo G k : Nat} {d : Int} {m o v : Value} {ps : List LV}
theorem Turned.drew {X : Nat → Prop} (h : Turned X w wr) : Turned X w wr.drew := ⟨fun B h1 h2 => (h.1 B h1 h2).drew, h.2.1, h.2.2⟩
theorem Turned.call {X : Nat → Prop} (h : Turned X w wr) (hb : Below wr.heap.size wr W) : Turned X w W := h.trans (Turned.of_below hb)
theorem Laid.call (h : Laid w wr lo G d m o k ps v) (hb : Below wr.heap.size wr W) : Laid w W lo G d m o k ps v :=
  ⟨h.T.call hb, h.G'.kept hb h.G'.inside, ownsRow_below h.S hb, h.P.kept hb, h.V, h.g⟩
/-- One place more. -/
theorem Laid.put {w1 : World} {gg cap g0 : Nat} {p : LV} (h : Laid w wr lo G d m o k ps v) (hb : Below wr.heap.size wr W) (hp : PlaceOk W lo d p) (hg : wr.heap.size ≤ p.g) (hF : Fresh wr.heap.size p.A p.n) (hE : p.wn = 0) (hwl : w.heap.size ≤ lo)
    (ho : w1.ownsRow lo 105 1 (.slice (some ⟨gg, 0, none⟩) (k + 1) cap) (k + 1) (ps.map LV.ptr ++ [p.ptr])) (hw : W.grownBy w1 v.ownBlock) (hat : v.ownBlock = some gg ∨ gg = g0) (hg0 : W.heap.size = g0) :
    Laid w (w1.setCell ⟨G, 1, none⟩ (.slice (some ⟨gg, 0, none⟩) (k + 1) cap)) lo G d m o (k + 1) (ps ++ [p]) (.slice (some ⟨gg, 0, none⟩) (k + 1) cap) := by
  have h' := h.call hb
  have hbk := ownsRow_block2 h.S
  have hbk' := ownsRow_block2 h'.S
  have hGlo := h.g
  have oldb : ∀ q ∈ ps, ∀ b, q.has b → b < wr.heap.size := fun q hq b hb' => ((h.P.P q hq).inside hb').2
  have pin : ∀ b, p.has b → wr.heap.size ≤ b ∧ b < W.heap.size := by
    intro b hb'
    refine ⟨?_, (hp.inside hb').2⟩
    rcases hb' with rfl | ⟨h0, e⟩ | ⟨h0, e⟩
    · exact hg
    · obtain ⟨x, e', h1⟩ := hF h0
      rw [e] at e'; injection e' with e'; injection e' with e'; omega
    · omega
  have PS : Places W lo d (ps ++ [p]) := h'.P.snoc hp (fun q hq hb' => by have := oldb q hq _ hb'; omega) (fun q hq hb' => by have := (pin _ hb').1; have := oldb q hq _ (Or.inl rfl); omega)
  have far : ∀ q ∈ ps ++ [p], ∀ b, q.has b → some b ≠ v.ownBlock := by
    intro q hq b hb' e
    rcases List.mem_append.1 hq with hq | hq
    · exact h.V b e.symm q hq hb'
    · simp only [List.mem_singleton] at hq; subst hq
      have := (hbk b e.symm).2; have := (pin b hb').1; omega
  have Gv : some G ≠ v.ownBlock := fun e => by have := (hbk G e.symm).1; omega
  have keepB : ∀ b, b < W.heap.size → some b ≠ v.ownBlock → b ≠ G → (w1.setCell ⟨G, 1, none⟩ (.slice (some ⟨gg, 0, none⟩) (k + 1) cap)).heap[b]? = W.heap[b]? := fun b h1 h2 h3 =>
    (heap_setCell_other w1 ⟨G, 1, none⟩ b _ h3).trans (hw.block b h1 h2)
  have inL : ∀ q ∈ ps ++ [p], ∀ b, q.has b → lo ≤ b ∧ b < W.heap.size := fun q hq b hb' => (PS.P q hq).inside hb'
  refine ⟨?_, (Lies.set (w := w1) ((hw.block G h'.G'.inside Gv).trans h'.G') 1 _), ownsRow_far2 (by simpa using ho) (by show G < lo; exact hGlo) _, PS.others (by rw [size_of_setCell]; exact hw.size) (fun q hq b hb' => keepB b (inL q hq b hb').2 (far q hq b hb') (by have := (inL q hq b hb').1; omega)), ?_, hGlo⟩
  · refine ⟨fun B h1 h2 => ?_, ?_, fun b h1 h2 => ?_⟩
    · exact (below_grown2 (h'.T.1 B h1 h2) hw (fun r e => by have := (hbk r e).1; omega) (Nat.le_trans h2 h'.T.2.1)).setCell (h1 G rfl) _
    · rw [size_of_setCell]; exact Nat.le_trans h'.T.2.1 hw.size
    · have hbW := Nat.lt_of_lt_of_le h1 h'.T.2.1
      exact (keepB b hbW (fun e => by have := (hbk b e.symm).1; omega) h2).trans (h'.T.2.2 b h1 h2)
  · intro b e q hq hb'
    have e' : gg = b := by simpa [Value.ownBlock] using e
    subst e'
    rcases hat with hat | hat
    · exact far q hq _ hb' hat.symm
    · have := (inL q hq _ hb').2; omega
end

/-- The type of a holder. -/
def hty (lv : Int) : TypeId := if lv = 0 then 150 else 151
theorem openNode_yes (lv ns rt d : Int) (n c : Nat) (A : Option Addr) (ps : List EV) (w : World) (hp : Entries w A n ps) (hn : n ≤ maxLen) (hz : nodeF lv ns rt (ps.map EV.val) d = 0) :
    Calls Try.prog 38 #[.agg #[.int .i64 lv, .int .i64 ns, .int .i64 rt, .slice A n c], .int .i64 d] w fun e w' => ∃ A' c' ss, e = .returned (.tuple #[.iface (hty lv) (.agg #[.int .i64 d, .slice A' n c', .int .i64 lv, .int .i64 ns, .int .i64 rt]), .int .i64 0]) ∧ Slots w' A' n ss ∧ SlotsOf (ps.map EV.val) ss ∧ Fresh w.heap.size A' n ∧ Below w.heap.size w w' := by
  refine (readNode_fresh lv ns rt d n c A ps w hp hn).mono ?_
  rintro e w' ⟨hb, h⟩
  rcases h with h | ⟨h0, A', c', ss, h1, h2, h3, h4⟩
  · exact absurd hz h.1
  · exact ⟨A', c', ss, h1, h2, h3, h4, hb⟩
theorem openNode_no (lv ns rt d : Int) (n c : Nat) (A : Option Addr) (ps : List EV) (w : World) (hp : Entries w A n ps) (hn : n ≤ maxLen) (hz : nodeF lv ns rt (ps.map EV.val) d ≠ 0) :
    Calls Try.prog 38 #[.agg #[.int .i64 lv, .int .i64 ns, .int .i64 rt, .slice A n c], .int .i64 d] w fun e w' => e = .returned (.tuple #[.nilIface, .int .i64 (nodeF lv ns rt (ps.map EV.val) d)]) ∧ Below w.heap.size w w' := by
  refine (readNode_fresh lv ns rt d n c A ps w hp hn).mono ?_
  rintro e w' ⟨hb, h⟩
  rcases h with h | ⟨h0, _⟩
  · exact ⟨h.2, hb⟩
  · exact absurd h0 hz
/-- A place that was just laid: not free, watched by nobody. -/
def LV.new (p : LV) : Prop := p.fr = false ∧ p.wA = none ∧ p.wn = 0 ∧ p.wc = 0 ∧ p.ws = []


end Go.Proofs.Ytblhcnafoejahaa

/- The plain mathematics of the smallest box in which all entries are. No Go text. -/
namespace Go.Proofs.Ytblhcnafoejahaa
open Go.RowKit

/-- The least corner, and the greatest, of all entries. -/
def lowB : List EVal → List Int
  | [] => []
  | v :: vs => vs.foldl (fun a u => mins a u.1) v.1
def highB : List EVal → List Int
  | [] => []
  | v :: vs => vs.foldl (fun a u => maxs a u.2.1) v.2.1
theorem lowB_one {vs : List EVal} {v : EVal} (h : vs[0]? = some v) : lowB (vs.take 1) = v.1 := by
  cases vs with
  | nil => simp at h
  | cons u us => simp at h; subst h; rfl
theorem highB_one {vs : List EVal} {v : EVal} (h : vs[0]? = some v) : highB (vs.take 1) = v.2.1 := by
  cases vs with
  | nil => simp at h
  | cons u us => simp at h; subst h; rfl
theorem lowB_next {vs : List EVal} {k : Nat} {v : EVal} (hk : 1 ≤ k) (h : vs[k]? = some v) : lowB (vs.take (k + 1)) = mins (lowB (vs.take k)) v.1 := by
  cases vs with
  | nil => simp at h
  | cons u us =>
    obtain ⟨k, rfl⟩ : ∃ j, k = j + 1 := ⟨k - 1, by omega⟩
    simp only [List.getElem?_cons_succ] at h
    simp only [List.take_succ_cons, lowB]
    rw [List.take_add_one, h, List.foldl_append]; rfl
theorem highB_next {vs : List EVal} {k : Nat} {v : EVal} (hk : 1 ≤ k) (h : vs[k]? = some v) : highB (vs.take (k + 1)) = maxs (highB (vs.take k)) v.2.1 := by
  cases vs with
  | nil => simp at h
  | cons u us =>
    obtain ⟨k, rfl⟩ : ∃ j, k = j + 1 := ⟨k - 1, by omega⟩
    simp only [List.getElem?_cons_succ] at h
    simp only [List.take_succ_cons, highB]
    rw [List.take_add_one, h, List.foldl_append]; rfl
/-- All entries' corners are n numbers long. -/
def LensE (n : Nat) (vs : List EVal) : Prop := ∀ (j : Nat) (u : EVal), vs[j]? = some u → u.1.length = n ∧ u.2.1.length = n
theorem lowB_len {n : Nat} : ∀ {vs : List EVal} {k : Nat}, LensE n vs → 1 ≤ k → k ≤ vs.length → (lowB (vs.take k)).length = n
  | vs, 0, _, h, _ => by omega
  | vs, 1, hl, _, h1 => by
    have hv : vs[0]? = some (vs[0]'(by omega)) := List.getElem?_eq_getElem _
    rw [lowB_one hv]; exact (hl 0 _ hv).1
  | vs, k + 2, hl, _, h1 => by
    have hv : vs[k + 1]? = some (vs[k + 1]'(by omega)) := List.getElem?_eq_getElem _
    rw [lowB_next (by omega) hv]
    have h2 := lowB_len (vs := vs) (k := k + 1) hl (by omega) (by omega)
    simp [mins, h2, (hl _ _ hv).1]
theorem highB_len {n : Nat} : ∀ {vs : List EVal} {k : Nat}, LensE n vs → 1 ≤ k → k ≤ vs.length → (highB (vs.take k)).length = n
  | vs, 0, _, h, _ => by omega
  | vs, 1, hl, _, h1 => by
    have hv : vs[0]? = some (vs[0]'(by omega)) := List.getElem?_eq_getElem _
    rw [highB_one hv]; exact (hl 0 _ hv).2
  | vs, k + 2, hl, _, h1 => by
    have hv : vs[k + 1]? = some (vs[k + 1]'(by omega)) := List.getElem?_eq_getElem _
    rw [highB_next (by omega) hv]
    have h2 := highB_len (vs := vs) (k := k + 1) hl (by omega) (by omega)
    simp [maxs, h2, (hl _ _ hv).2]
theorem rf_len {x1 x2 : List Int} {d : Int} (h : rf x1 x2 d = 0) : (2 ≤ d ∧ d ≤ 3) ∧ (x1.length : Int) = d ∧ (x2.length : Int) = d := by
  have h1 : pf x1 d = 0 := by
    unfold rf at h
    by_cases h1 : pf x1 d = 0
    · exact h1
    · rw [if_pos h1] at h; exact absurd h h1
  have h2 : pf x2 d = 0 := by
    unfold rf at h
    rw [if_neg (by simp [h1])] at h
    by_cases h2 : pf x2 d = 0
    · exact h2
    · rw [if_pos h2] at h; exact absurd h h2
  exact ⟨(pf_zero h1).1, (pf_zero h1).2.1, (pf_zero h2).2.1⟩
theorem lens_of {vs : List EVal} {d : Int} (h : ∀ (j : Nat) (u : EVal), vs[j]? = some u → entF d u = 0) : LensE d.toNat vs := by
  intro j u hu
  obtain ⟨h1, h2, h3⟩ := rf_len (entF_zero (h j u hu)).1
  omega

/-- BoxOf's code. -/
def boxC (f : Int) (n : Nat) : Int := if f ≠ 0 then f else if n = 0 then 4 else 0
theorem boxC_zero {f : Int} {n : Nat} (h : boxC f n = 0) : f = 0 ∧ 0 < n := by
  unfold boxC at h
  by_cases h1 : f = 0
  · rw [if_neg (by simp [h1])] at h
    by_cases h2 : n = 0
    · rw [if_pos h2] at h; omega
    · exact ⟨h1, by omega⟩
  · rw [if_pos h1] at h; exact absurd h h1

theorem mins_self (xs : List Int) : mins xs xs = xs := by
  unfold mins
  induction xs with
  | nil => rfl
  | cons x xs ih => simp [ih]
theorem maxs_self (xs : List Int) : maxs xs xs = xs := by
  unfold maxs
  induction xs with
  | nil => rfl
  | cons x xs ih => simp [ih]

end Go.Proofs.Ytblhcnafoejahaa
