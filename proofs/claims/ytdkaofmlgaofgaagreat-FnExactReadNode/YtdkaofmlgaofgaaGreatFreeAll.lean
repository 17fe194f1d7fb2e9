/- Places, and an arena that is worked at: what they are in memory, and what a store into one leaves of the others. -/
import Derived.Test.YtdkaofmlgaofgaaGreatArenaMath
import Derived.Test.YtdkaofmlgaofgaaGreatReadNode
import Derived.Test.YtdkaofmlgaofgaaGreatMarkNode
import Derived.Deep.AppendLies
import Derived.Test.YtdkaofmlgaofgaaGreatSpecArena3
import Derived.Test.YtdkaofmlgaofgaaGreatBodyNode
namespace Go.Proofs.YtdkaofmlgaofgaaGreat
open Go.RowKit

/-- A place as it lies: its block, its node's numbers, its slots, whether it is free, who watches it. -/
structure LV where
  g : Nat
  lv : Int
  ns : Int
  rt : Int
  A : Option Addr
  n : Nat
  c : Nat
  ss : List SL
  vs : List EVal
  fr : Bool
  wA : Option Addr
  wn : Nat
  wc : Nat
  ws : List Int
def LV.val (p : LV) : NVal := (p.lv, p.ns, p.rt, p.vs)
def LV.cells (d : Int) (p : LV) : Array Value := #[holderV d p.lv p.ns p.rt p.A p.n p.c, .bool p.fr, .slice p.wA p.wn p.wc]
def LV.ptr (p : LV) : Value := .pointer (some ⟨p.g, 0, none⟩)
/-- The row that the place leads to lies in block b. -/
def LV.row (p : LV) (b : Nat) : Prop := (0 < p.n ∧ p.A = some ⟨b, 0, none⟩) ∨ (0 < p.wn ∧ p.wA = some ⟨b, 0, none⟩)
/-- Block b belongs to the place. -/
def LV.has (p : LV) (b : Nat) : Prop := p.g = b ∨ p.row b
structure PlaceOk (w : World) (lo : Nat) (d : Int) (p : LV) : Prop where
  L : Lies w p.g 127 (p.cells d)
  S : Slots w p.A p.n p.ss
  O : SlotsOf p.vs p.ss
  N : nodeF p.lv p.ns p.rt p.vs d = 0
  W : Ints w 0 p.wA p.wn p.ws
  g : lo ≤ p.g
  F : Fresh lo p.A p.n
  E : Fresh lo p.wA p.wn
  Y : ¬ p.row p.g
section
variable {w w' : World} {lo : Nat} {d : Int} {p : LV}
theorem Fresh.in_slots {A : Option Addr} {n b : Nat} {ss : List SL} (h : Slots w A n ss) (h0 : 0 < n) (e : A = some ⟨b, 0, none⟩) : b < w.heap.size := by
  obtain ⟨b', o, e', h2, _⟩ := h.2 h0
  rw [e] at e'; injection e' with e'; injection e' with e'; omega
theorem Fresh.in_ints {lo : Nat} {A : Option Addr} {n b : Nat} {xs : List Int} (h : Ints w lo A n xs) (h0 : 0 < n) (e : A = some ⟨b, 0, none⟩) : b < w.heap.size := by
  obtain ⟨b', o, e', _, h2, _⟩ := h.2 h0
  rw [e] at e'; injection e' with e'; injection e' with e'; omega
theorem PlaceOk.inside (h : PlaceOk w lo d p) {b : Nat} (hb : p.has b) : lo ≤ b ∧ b < w.heap.size := by
  rcases hb with rfl | ⟨h0, e⟩ | ⟨h0, e⟩
  · exact ⟨h.g, h.L.inside⟩
  · obtain ⟨g, e', h1⟩ := h.F h0
    rw [e] at e'; injection e' with e'; injection e' with e'
    exact ⟨by omega, Fresh.in_slots h.S h0 e⟩
  · obtain ⟨g, e', h1⟩ := h.E h0
    rw [e] at e'; injection e' with e'; injection e' with e'
    exact ⟨by omega, Fresh.in_ints h.W h0 e⟩
theorem Slots.block {A : Option Addr} {n : Nat} {ss : List SL} (h : Slots w A n ss) (hF : Fresh lo A n) (hs : w.heap.size ≤ w'.heap.size) (hk : ∀ b, 0 < n → A = some ⟨b, 0, none⟩ → w'.heap[b]? = w.heap[b]?) : Slots w' A n ss := by
  obtain ⟨hl, hr⟩ := h
  refine ⟨hl, fun hn => ?_⟩
  obtain ⟨b, o, e, h2, h3⟩ := hr hn
  obtain ⟨g, e', _⟩ := hF hn
  have e2 := e
  rw [e'] at e2; injection e2 with e2; injection e2 with e2 e3
  subst e2 e3
  refine ⟨g, 0, e, by omega, fun k s hs' j v hv => ?_⟩
  rw [World.cell?_of_block (w := w) (a := ⟨g, 0 + k * 8 + j, none⟩) (hk g hn e')]
  exact h3 k s hs' j v hv
theorem Ints.blockF {lo0 : Nat} {A : Option Addr} {n : Nat} {xs : List Int} (h : Ints w lo0 A n xs) (hF : Fresh lo A n) (hs : w.heap.size ≤ w'.heap.size) (hk : ∀ b, 0 < n → A = some ⟨b, 0, none⟩ → w'.heap[b]? = w.heap[b]?) : Ints w' lo0 A n xs := by
  obtain ⟨hl, hr⟩ := h
  refine ⟨hl, fun hn => ?_⟩
  obtain ⟨b, o, e, h1, h2, h3⟩ := hr hn
  obtain ⟨g, e', _⟩ := hF hn
  have e2 := e
  rw [e'] at e2; injection e2 with e2; injection e2 with e2 e3
  subst e2 e3
  refine ⟨g, 0, e, h1, by omega, fun k x hx => ?_⟩
  rw [World.cell?_of_block (w := w) (a := ⟨g, 0 + k, none⟩) (hk g hn e')]
  exact h3 k x hx
/-- What holds of a place holds where none of its blocks has turned. -/
theorem PlaceOk.others (h : PlaceOk w lo d p) (hs : w.heap.size ≤ w'.heap.size) (hk : ∀ b, p.has b → w'.heap[b]? = w.heap[b]?) : PlaceOk w' lo d p :=
  ⟨(hk _ (Or.inl rfl)).trans h.L, h.S.block h.F hs (fun b h0 e => hk b (Or.inr (Or.inl ⟨h0, e⟩))), h.O, h.N, h.W.blockF h.E hs (fun b h0 e => hk b (Or.inr (Or.inr ⟨h0, e⟩))), h.g, h.F, h.E, h.Y⟩
theorem PlaceOk.kept (h : PlaceOk w lo d p) (hb : Below w.heap.size w w') : PlaceOk w' lo d p := h.others hb.size fun b hp => hb.block b (h.inside hp).2
end

/-- Places that share no block. -/
structure Places (w : World) (lo : Nat) (d : Int) (ps : List LV) : Prop where
  P : ∀ p ∈ ps, PlaceOk w lo d p
  X : ∀ (i j : Nat) (p q : LV), ps[i]? = some p → ps[j]? = some q → i ≠ j → ¬ q.has p.g
section
variable {w w' : World} {lo : Nat} {d : Int} {ps : List LV}
theorem Places.kept (h : Places w lo d ps) (hb : Below w.heap.size w w') : Places w' lo d ps := ⟨fun p hp => (h.P p hp).kept hb, h.X⟩
theorem Places.others (h : Places w lo d ps) (hs : w.heap.size ≤ w'.heap.size) (hk : ∀ p ∈ ps, ∀ b, p.has b → w'.heap[b]? = w.heap[b]?) : Places w' lo d ps := ⟨fun p hp => (h.P p hp).others hs (hk p hp), h.X⟩
theorem Places.nil (w : World) (lo : Nat) (d : Int) : Places w lo d [] := ⟨fun p hp => by simp at hp, fun i j p q hi => by simp at hi⟩
theorem Places.snoc (h : Places w lo d ps) {p : LV} (hp : PlaceOk w lo d p) (h1 : ∀ q ∈ ps, ¬ q.has p.g) (h2 : ∀ q ∈ ps, ¬ p.has q.g) : Places w lo d (ps ++ [p]) := by
  refine ⟨fun q hq => ?_, fun i j a b ha hb hne => ?_⟩
  · rcases List.mem_append.1 hq with hq | hq
    · exact h.P q hq
    · simp only [List.mem_singleton] at hq; subst hq; exact hp
  · rcases Nat.lt_or_ge i ps.length with hi | hi <;> rcases Nat.lt_or_ge j ps.length with hj | hj
    · rw [List.getElem?_append_left hi] at ha
      rw [List.getElem?_append_left hj] at hb
      exact h.X i j a b ha hb hne
    · rw [List.getElem?_append_left hi] at ha
      rw [List.getElem?_append_right hj] at hb
      have : j - ps.length = 0 := by have := (List.getElem?_eq_some_iff.1 hb).1; simp at this; omega
      rw [this] at hb; simp at hb; subst hb
      exact h2 a (List.mem_of_getElem? ha)
    · rw [List.getElem?_append_right hi] at ha
      rw [List.getElem?_append_left hj] at hb
      have : i - ps.length = 0 := by have := (List.getElem?_eq_some_iff.1 ha).1; simp at this; omega
      rw [this] at ha; simp at ha; subst ha
      exact h1 b (List.mem_of_getElem? hb)
    · rw [List.getElem?_append_right hi] at ha
      rw [List.getElem?_append_right hj] at hb
      have h3 := (List.getElem?_eq_some_iff.1 ha).1
      have h4 := (List.getElem?_eq_some_iff.1 hb).1
      simp at h3 h4; omega
/-- One place is written anew: its block alone has turned. -/
theorem Places.put (h : Places w lo d ps) {i : Nat} {p p' : LV} (hi : ps[i]? = some p) (hg : p'.g = p.g) (hs : w.heap.size ≤ w'.heap.size) (hk : ∀ b, b < w.heap.size → b ≠ p.g → w'.heap[b]? = w.heap[b]?) (hp : PlaceOk w' lo d p') (hr : ∀ b, p'.row b → p.row b ∨ w.heap.size ≤ b) : Places w' lo d (ps.set i p') := by
  have hin := (List.getElem?_eq_some_iff.1 hi).1
  have old : ∀ j q, j ≠ i → ps[j]? = some q → PlaceOk w' lo d q := fun j q hj hq => (h.P q (List.mem_of_getElem? hq)).others hs fun b hb => hk b ((h.P q (List.mem_of_getElem? hq)).inside hb).2 (fun e => h.X i j p q hi hq (fun e' => hj e'.symm) (e ▸ hb))
  refine ⟨fun q hq => ?_, fun j k a b ha hb hne => ?_⟩
  · obtain ⟨j, hj⟩ := List.getElem?_of_mem hq
    rw [List.getElem?_set] at hj
    by_cases e : i = j
    · rw [if_pos e] at hj; subst e; rw [if_pos hin] at hj; injection hj with hj; subst hj; exact hp
    · rw [if_neg e] at hj; exact old j q (fun e' => e e'.symm) hj
  · rw [List.getElem?_set] at ha hb
    by_cases ej : i = j
    · subst ej
      rw [if_pos rfl, if_pos hin] at ha
      injection ha with ha; subst ha
      rw [if_neg hne] at hb
      rw [hg]; exact h.X i k p b hi hb hne
    · rw [if_neg ej] at ha
      by_cases ek : i = k
      · subst ek
        rw [if_pos rfl, if_pos hin] at hb
        injection hb with hb; subst hb
        have hx := h.X j i a p ha hi (fun e => hne e)
        rintro (e | e)
        · exact hx (Or.inl (hg ▸ e))
        · rcases hr _ e with h1 | h1
          · exact hx (Or.inr h1)
          · have := (h.P a (List.mem_of_getElem? ha)).L.inside; omega
      · rw [if_neg ek] at hb
        exact h.X j k a b ha hb hne
end

/-- The row of the places' pointers. -/
structure Ptrs (w : World) (lo b n : Nat) (ps : List LV) : Prop where
  l : ps.length = n
  c : ∀ (k : Nat) (p : LV), ps[k]? = some p → w.cell? ⟨b, k, none⟩ = some p.ptr
  i : lo ≤ b ∧ b < w.heap.size
  x : ∀ p ∈ ps, ¬ p.has b

end Go.Proofs.YtdkaofmlgaofgaaGreat

/- The walk of impl.ground's layAll: each node is opened, and a place is laid for it. -/
namespace Go.Proofs.YtdkaofmlgaofgaaGreat
open Go.RowKit

theorem info_ptr : ∃ i, Tryz.prog.info? 121 = some i ∧ i.zero = some (.pointer none) ∧ i.size = 1 ∧ i.bytes = 8 := by
  have h : (Tryz.prog.info? 121).map (fun i => (i.zero, i.size, i.bytes)) = some (some (.pointer none), 1, 8) := by kernel_rfl
  obtain ⟨i, hi, h⟩ := Option.map_eq_some_iff.1 h
  simp only [Prod.mk.injEq] at h
  exact ⟨i, hi, h.1, h.2.1, h.2.2⟩

/-- Where layAll's loop stands. -/
structure Laid (w wr : World) (lo G : Nat) (d : Int) (m o : Value) (k : Nat) (ps : List LV) (v : Value) : Prop where
  T : Turned (fun x => x = G) w wr
  G' : Lies wr G 144 #[.int .i64 d, v, m, o]
  S : wr.ownsRow lo 121 1 v k (ps.map LV.ptr)
  P : Places wr lo d ps
  V : ∀ b, v.ownBlock = some b → ∀ p ∈ ps, ¬ p.has b
  g : G < lo
section
variable {w wr W : World} {lo G k : Nat} {d : Int} {m o v : Value} {ps : List LV}
theorem Turned.drew {X : Nat → Prop} (h : Turned X w wr) : Turned X w wr.drew := ⟨fun B h1 h2 => (h.1 B h1 h2).drew, h.2.1, h.2.2⟩
theorem Turned.call {X : Nat → Prop} (h : Turned X w wr) (hb : Below wr.heap.size wr W) : Turned X w W := h.trans (Turned.of_below hb)
theorem Laid.call (h : Laid w wr lo G d m o k ps v) (hb : Below wr.heap.size wr W) : Laid w W lo G d m o k ps v :=
  ⟨h.T.call hb, h.G'.kept hb h.G'.inside, ownsRow_below h.S hb, h.P.kept hb, h.V, h.g⟩
/-- One place more. -/
theorem Laid.put {w1 : World} {gg cap g0 : Nat} {p : LV} (h : Laid w wr lo G d m o k ps v) (hb : Below wr.heap.size wr W) (hp : PlaceOk W lo d p) (hg : wr.heap.size ≤ p.g) (hF : Fresh wr.heap.size p.A p.n) (hE : p.wn = 0) (hwl : w.heap.size ≤ lo)
    (ho : w1.ownsRow lo 121 1 (.slice (some ⟨gg, 0, none⟩) (k + 1) cap) (k + 1) (ps.map LV.ptr ++ [p.ptr])) (hw : W.grownBy w1 v.ownBlock) (hat : v.ownBlock = some gg ∨ gg = g0) (hg0 : W.heap.size = g0) :
    Laid w (w1.setCell ⟨G, 1, none⟩ (.slice (some ⟨gg, 0, none⟩) (k + 1) cap)) lo G d m o (k + 1) (ps ++ [p]) (.slice (some ⟨gg, 0, none⟩) (k + 1) cap) := by
  have h' := h.call hb
  have hbk := ownsRow_block2 h.S
  have hbk' := ownsRow_block2 h'.S
  have hGlo := h.g
  have oldb : ∀ q ∈ ps, ∀ b, q.has b → b < wr.heap.size := fun q hq b hb' => ((h.P.P q hq).inside hb').2
  have pin : ∀ b, p.has b → wr.heap.size ≤ b ∧ b < W.heap.size := by
    intro b hb'
    refine ⟨?_, (hp.inside hb').2⟩
    rcases hb' with rfl | ⟨h0, e⟩ | ⟨h0, e⟩
    · exact hg
    · obtain ⟨x, e', h1⟩ := hF h0
      rw [e] at e'; injection e' with e'; injection e' with e'; omega
    · omega
  have PS : Places W lo d (ps ++ [p]) := h'.P.snoc hp (fun q hq hb' => by have := oldb q hq _ hb'; omega) (fun q hq hb' => by have := (pin _ hb').1; have := oldb q hq _ (Or.inl rfl); omega)
  have far : ∀ q ∈ ps ++ [p], ∀ b, q.has b → some b ≠ v.ownBlock := by
    intro q hq b hb' e
    rcases List.mem_append.1 hq with hq | hq
    · exact h.V b e.symm q hq hb'
    · simp only [List.mem_singleton] at hq; subst hq
      have := (hbk b e.symm).2; have := (pin b hb').1; omega
  have Gv : some G ≠ v.ownBlock := fun e => by have := (hbk G e.symm).1; omega
  have keepB : ∀ b, b < W.heap.size → some b ≠ v.ownBlock → b ≠ G → (w1.setCell ⟨G, 1, none⟩ (.slice (some ⟨gg, 0, none⟩) (k + 1) cap)).heap[b]? = W.heap[b]? := fun b h1 h2 h3 =>
    (heap_setCell_other w1 ⟨G, 1, none⟩ b _ h3).trans (hw.block b h1 h2)
  have inL : ∀ q ∈ ps ++ [p], ∀ b, q.has b → lo ≤ b ∧ b < W.heap.size := fun q hq b hb' => (PS.P q hq).inside hb'
  refine ⟨?_, (Lies.set (w := w1) ((hw.block G h'.G'.inside Gv).trans h'.G') 1 _), ownsRow_far2 (by simpa using ho) (by show G < lo; exact hGlo) _, PS.others (by rw [size_of_setCell]; exact hw.size) (fun q hq b hb' => keepB b (inL q hq b hb').2 (far q hq b hb') (by have := (inL q hq b hb').1; omega)), ?_, hGlo⟩
  · refine ⟨fun B h1 h2 => ?_, ?_, fun b h1 h2 => ?_⟩
    · exact (below_grown2 (h'.T.1 B h1 h2) hw (fun r e => by have := (hbk r e).1; omega) (Nat.le_trans h2 h'.T.2.1)).setCell (h1 G rfl) _
    · rw [size_of_setCell]; exact Nat.le_trans h'.T.2.1 hw.size
    · have hbW := Nat.lt_of_lt_of_le h1 h'.T.2.1
      exact (keepB b hbW (fun e => by have := (hbk b e.symm).1; omega) h2).trans (h'.T.2.2 b h1 h2)
  · intro b e q hq hb'
    have e' : gg = b := by simpa [Value.ownBlock] using e
    subst e'
    rcases hat with hat | hat
    · exact far q hq _ hb' hat.symm
    · have := (inL q hq _ hb').2; omega
end

/-- The type of a holder. -/
def hty (lv : Int) : TypeId := if lv = 0 then 304 else 305
theorem openNode_yes (lv ns rt d : Int) (n c : Nat) (A : Option Addr) (ps : List EV) (w : World) (hp : Entries w A n ps) (hn : n ≤ maxLen) (hz : nodeF lv ns rt (ps.map EV.val) d = 0) :
    Calls Tryz.prog 166 #[.agg #[.int .i64 lv, .int .i64 ns, .int .i64 rt, .slice A n c], .int .i64 d] w fun e w' => ∃ A' c' ss, e = .returned (.tuple #[.iface (hty lv) (.agg #[.int .i64 d, .slice A' n c', .int .i64 lv, .int .i64 ns, .int .i64 rt]), .int .i64 0]) ∧ Slots w' A' n ss ∧ SlotsOf (ps.map EV.val) ss ∧ Fresh w.heap.size A' n ∧ Below w.heap.size w w' := by
  refine (readNode_fresh lv ns rt d n c A ps w hp hn).mono ?_
  rintro e w' ⟨hb, h⟩
  rcases h with h | ⟨h0, A', c', ss, h1, h2, h3, h4⟩
  · exact absurd hz h.1
  · exact ⟨A', c', ss, h1, h2, h3, h4, hb⟩
theorem openNode_no (lv ns rt d : Int) (n c : Nat) (A : Option Addr) (ps : List EV) (w : World) (hp : Entries w A n ps) (hn : n ≤ maxLen) (hz : nodeF lv ns rt (ps.map EV.val) d ≠ 0) :
    Calls Tryz.prog 166 #[.agg #[.int .i64 lv, .int .i64 ns, .int .i64 rt, .slice A n c], .int .i64 d] w fun e w' => e = .returned (.tuple #[.nilIface, .int .i64 (nodeF lv ns rt (ps.map EV.val) d)]) ∧ Below w.heap.size w w' := by
  refine (readNode_fresh lv ns rt d n c A ps w hp hn).mono ?_
  rintro e w' ⟨hb, h⟩
  rcases h with h | ⟨h0, _⟩
  · exact ⟨h.2, hb⟩
  · exact absurd h0 hz
/-- A place that was just laid: not free, watched by nobody. -/
def LV.new (p : LV) : Prop := p.fr = false ∧ p.wA = none ∧ p.wn = 0 ∧ p.wc = 0 ∧ p.ws = []

set_option maxRecDepth 100000 in
set_option maxHeartbeats 6400000 in
theorem layAll_any (d : Int) (G n c : Nat) (A : Option Addr) (ns : List NV) (m o : Value) (w0 w : World) (hG : Lies w G 144 #[.int .i64 d, .slice none 0 0, m, o]) (hp : NodesL w0 A n ns) (hb : Below w0.heap.size w0 w) (hG0 : w0.heap.size ≤ G) (hn : n ≤ 40) :
    Calls Tryz.prog 153 #[.pointer (some ⟨G, 0, none⟩), .slice A n c] w fun e w' => e = .returned (.int .i64 (firstNZ (nodeFv d) (ns.map NV.val))) ∧ Turned (fun x => x = G) w w' ∧ (firstNZ (nodeFv d) (ns.map NV.val) = 0 → ∃ ps v, Laid w w' w.heap.size G d m o n ps v ∧ ps.map LV.val = ns.map NV.val ∧ ∀ p ∈ ps, p.new) := by
  have HP := Lib.hid hp
  have HL1 : Hid ((ns.map NV.val).length = n) := by show List.length _ = n; rw [List.length_map]; exact hp.1
  have B := Lib.hid hb
  have LG := Lib.hid hG
  have hGi := hG.inside
  obtain ⟨i0, hi0, hz0, hz1, hz2⟩ := info_ptr
  have IP := Lib.hid (And.intro hi0 (And.intro hz0 (And.intro hz1 hz2)))
  clear hp hb hG hi0 hz0 hz1 hz2
  have L0 : Hid (Laid w w w.heap.size G d m o 0 [] (.slice none 0 0)) := ⟨Turned.refl _ _, LG.out, ⟨rfl, Or.inl ⟨rfl, rfl⟩⟩, Places.nil _ _ _, fun b e => by simp [Value.ownBlock] at e, hGi⟩
  go_enter Tryz.func153, Tryz.ntmps153
  go_wp2
  go_loopw [11] (fun i wr => ∃ (k : Nat) (ps : List LV) (v : Value), k ≤ n ∧ i = .int .i64 k ∧ Hid (Laid w wr w.heap.size G d m o k ps v) ∧ Hid (ps.map LV.val = (ns.map NV.val).take k ∧ ∀ p ∈ ps, p.new) ∧ Hid (∀ (j : Nat) (u : NVal), j < k → (ns.map NV.val)[j]? = some u → nodeFv d u = 0)) (fun i _ => n - (intOf i).toNat)
  case atStart => exact ⟨0, [], .slice none 0 0, Nat.zero_le _, rfl, L0, ⟨rfl, fun p hp => by simp at hp⟩, fun j u hj => absurd hj (Nat.not_lt_zero _)⟩
  case round =>
    obtain ⟨k, ps, v, hk', rfl, hU, hV, hA⟩ := hrel
    by_cases hlt : k < n
    · obtain ⟨b, o', lv, nn, rt, X1, k1, e1, es, rfl, hb, d0, d1, d2, d3, hx, hE, hk1⟩ := HP.out.cellAt hlt
      have hBr := Lib.hid (B.out.trans (hU.out.T.1 _ (fun x hx => by subst hx; exact hG0) B.out.size))
      have e0 : wr.cell? ⟨b, o' + k * 4, none⟩ = some (.int .i64 lv) := (hBr.out.cell (p := ⟨b, o' + k * 4, none⟩) hb).trans d0
      have e2 : wr.cell? ⟨b, o' + k * 4 + 1, none⟩ = some (.int .i64 nn) := (hBr.out.cell (p := ⟨b, o' + k * 4 + 1, none⟩) hb).trans d1
      have e3 : wr.cell? ⟨b, o' + k * 4 + 2, none⟩ = some (.int .i64 rt) := (hBr.out.cell (p := ⟨b, o' + k * 4 + 2, none⟩) hb).trans d2
      have e4 : wr.cell? ⟨b, o' + k * 4 + 3, none⟩ = some (.slice X1 k1 e1) := (hBr.out.cell (p := ⟨b, o' + k * 4 + 3, none⟩) hb).trans d3
      have HX := Lib.hid (nval_get hx.out)
      have hlt' : (k : Int) < (n : Int) := by omega
      clear d0 d1 d2 d3 hx
      go_wp2
      clear e0 e2 e3 e4
      have hB1 := Lib.hid (hBr.out.alloc hBr.out.size (.cells #[.int .i64 lv, .int .i64 nn, .int .i64 rt, .slice X1 k1 e1] 30))
      have L_n := Lib.hid (Lies.new wr 30 #[.int .i64 lv, .int .i64 nn, .int .i64 rt, .slice X1 k1 e1])
      have hU1 := Lib.hid (hU.out.call (below_alloc wr (.cells #[.int .i64 lv, .int .i64 nn, .int .i64 rt, .slice X1 k1 e1] 30)))
      have bw0 := Lib.hid (below_alloc wr (.cells #[.int .i64 lv, .int .i64 nn, .int .i64 rt, .slice X1 k1 e1] 30))
      generalize hW : (wr.alloc (.cells #[.int .i64 lv, .int .i64 nn, .int .i64 rt, .slice X1 k1 e1] 30)) = W0 at *
      have hW0 : W0.heap.size = wr.heap.size + 1 := by rw [← hW]; simp only [World.size_alloc]
      clear hW hBr
      have k_0 : W0.cell? ⟨wr.heap.size, 0, none⟩ = some (.int .i64 lv) ∧ W0.cell? ⟨wr.heap.size, 1, none⟩ = some (.int .i64 nn) ∧ W0.cell? ⟨wr.heap.size, 2, none⟩ = some (.int .i64 rt) ∧ W0.cell? ⟨wr.heap.size, 3, none⟩ = some (.slice X1 k1 e1) ∧ W0.cell? ⟨G, 0, none⟩ = some (.int .i64 d) := ⟨L_n.out.cell 0, L_n.out.cell 1, L_n.out.cell 2, L_n.out.cell 3, hU1.out.G'.cell 0⟩
      by_cases hz : nodeF lv nn rt (es.map EV.val) d = 0
      rotate_left
      · have HS := Lib.hid (firstNZ_stop (f := nodeFv d) hA.out HX.out hz)
        have hz1 : (nodeF lv nn rt (es.map EV.val) d != 0) = true := by simpa using hz
        have HF : Hid (firstNZ (nodeFv d) (ns.map NV.val) = nodeF lv nn rt (es.map EV.val) d) := HS.out
        have HNZ := Lib.hid hz
        clear hA hz HS
        go_region_held3 (fun w' => w'.cell? ⟨wr.heap.size, 0, none⟩ = some (.int .i64 lv) ∧ w'.cell? ⟨wr.heap.size, 1, none⟩ = some (.int .i64 nn) ∧ w'.cell? ⟨wr.heap.size, 2, none⟩ = some (.int .i64 rt) ∧ w'.cell? ⟨wr.heap.size, 3, none⟩ = some (.slice X1 k1 e1) ∧ w'.cell? ⟨G, 0, none⟩ = some (.int .i64 d))
          (first | (simp [go_sem, k_0]; done) | with_reducible exact k_1)
          (first
            | (go_at_call 166; refine (openNode_no lv nn rt d k1 e1 X1 es _ (hE.out.kept hB1.out.drew) hk1 HNZ.out).mono ?_
               rintro e W1 ⟨rfl, b1d⟩
               have b1 := below_drawn b1d
               have k_1 : W1.cell? ⟨wr.heap.size, 0, none⟩ = some (.int .i64 lv) ∧ W1.cell? ⟨wr.heap.size, 1, none⟩ = some (.int .i64 nn) ∧ W1.cell? ⟨wr.heap.size, 2, none⟩ = some (.int .i64 rt) ∧ W1.cell? ⟨wr.heap.size, 3, none⟩ = some (.slice X1 k1 e1) ∧ W1.cell? ⟨G, 0, none⟩ = some (.int .i64 d) := ⟨(L_n.out.kept b1 L_n.out.inside).cell 0, (L_n.out.kept b1 L_n.out.inside).cell 1, (L_n.out.kept b1 L_n.out.inside).cell 2, (L_n.out.kept b1 L_n.out.inside).cell 3, (hU1.out.call b1).G'.cell 0⟩
               clear b1d))
        have hT := Lib.hid (hU1.out.call b1).T
        clear k_0 k_1 b1
        go_wp2
        go_ret
        exact ⟨ret_i64 HF.out.symm, hT.out, fun h => absurd (HF.out ▸ h) HNZ.out⟩
      have hA' := Lib.hid (upto_next (P := fun u => nodeFv d u = 0) hA.out HX.out hz)
      have HZ := Lib.hid hz
      clear hA hz
      go_region_held3 (fun w' => w'.cell? ⟨wr.heap.size, 0, none⟩ = some (.int .i64 lv) ∧ w'.cell? ⟨wr.heap.size, 1, none⟩ = some (.int .i64 nn) ∧ w'.cell? ⟨wr.heap.size, 2, none⟩ = some (.int .i64 rt) ∧ w'.cell? ⟨wr.heap.size, 3, none⟩ = some (.slice X1 k1 e1) ∧ w'.cell? ⟨G, 0, none⟩ = some (.int .i64 d))
        (first | (simp [go_sem, k_0]; done) | with_reducible exact k_1)
        (first
          | (go_at_call 166; refine (openNode_yes lv nn rt d k1 e1 X1 es _ (hE.out.kept hB1.out.drew) hk1 HZ.out).mono ?_
             rintro e W1 ⟨A', c', ss, rfl, hS, hO, hF, b1d⟩
             have b1 := below_drawn b1d
             have k_1 : W1.cell? ⟨wr.heap.size, 0, none⟩ = some (.int .i64 lv) ∧ W1.cell? ⟨wr.heap.size, 1, none⟩ = some (.int .i64 nn) ∧ W1.cell? ⟨wr.heap.size, 2, none⟩ = some (.int .i64 rt) ∧ W1.cell? ⟨wr.heap.size, 3, none⟩ = some (.slice X1 k1 e1) ∧ W1.cell? ⟨G, 0, none⟩ = some (.int .i64 d) := ⟨(L_n.out.kept b1 L_n.out.inside).cell 0, (L_n.out.kept b1 L_n.out.inside).cell 1, (L_n.out.kept b1 L_n.out.inside).cell 2, (L_n.out.kept b1 L_n.out.inside).cell 3, (hU1.out.call b1).G'.cell 0⟩
             clear b1d))
      have hU2 := Lib.hid (hU1.out.call b1)
      have bw1 := Lib.hid (bw0.out.trans (b1.mono bw0.out.size))
      have HSS := Lib.hid hS
      have HO := Lib.hid hO
      have HF0 := Lib.hid (hF.lower (show wr.heap.size + 1 ≤ _ by simp only [size_of_drew]; omega))
      have hU0s : w.heap.size ≤ wr.heap.size + 1 := by have := hU.out.T.2.1; omega
      have b1s := b1.size
      clear k_0 k_1 b1 hS hO hF hU1 bw0 L_n hB1
      have g1 : W1.cell? ⟨G, 1, none⟩ = some v := hU2.out.G'.cell 1
      have hGW : G < W1.heap.size := hU2.out.G'.inside
      have hlo1 : w.heap.size ≤ W1.heap.size := hU2.out.T.2.1
      have bP := Lib.hid (below_alloc W1 (.cells #[.iface (hty lv) (.agg #[.int .i64 d, .slice A' k1 c', .int .i64 lv, .int .i64 nn, .int .i64 rt]), .bool false, .slice none 0 0] 127))
      have LP := Lib.hid (Lies.new W1 127 #[.iface (hty lv) (.agg #[.int .i64 d, .slice A' k1 c', .int .i64 lv, .int .i64 nn, .int .i64 rt]), .bool false, .slice none 0 0])
      have bQ := Lib.hid (bP.out.alloc bP.out.size (.cells #[.pointer (some ⟨W1.heap.size, 0, none⟩)] 121))
      have HS7 := Lib.hid (ownsRow_below hU2.out.S bQ.out)
      have LQ := Lib.hid (Lies.laid2 W1 (.cells #[.iface (hty lv) (.agg #[.int .i64 d, .slice A' k1 c', .int .i64 lv, .int .i64 nn, .int .i64 rt]), .bool false, .slice none 0 0] 127) 121 #[.pointer (some ⟨W1.heap.size, 0, none⟩)])
      have NEWS : Hid (∀ j u, ([.pointer (some ⟨W1.heap.size, 0, none⟩)] : List Value)[j]? = some u → ((W1.alloc (.cells #[.iface (hty lv) (.agg #[.int .i64 d, .slice A' k1 c', .int .i64 lv, .int .i64 nn, .int .i64 rt]), .bool false, .slice none 0 0] 127)).alloc (.cells #[.pointer (some ⟨W1.heap.size, 0, none⟩)] 121)).cell? ((⟨W1.heap.size + 1, 0, none⟩ : Addr).add j) = some u) := World.news_of_block (cs := #[.pointer (some ⟨W1.heap.size, 0, none⟩)]) (t := 121) (fr := (0, 0)) LQ.out
      have POK : Hid (PlaceOk ((W1.alloc (.cells #[.iface (hty lv) (.agg #[.int .i64 d, .slice A' k1 c', .int .i64 lv, .int .i64 nn, .int .i64 rt]), .bool false, .slice none 0 0] 127)).alloc (.cells #[.pointer (some ⟨W1.heap.size, 0, none⟩)] 121)) w.heap.size d ⟨W1.heap.size, lv, nn, rt, A', k1, c', ss, es.map EV.val, false, none, 0, 0, []⟩) := by
        refine ⟨(LP.out.alloc _), HSS.out.kept bQ.out, HO.out, HZ.out, Ints.empty _ _ _, hlo1, HF0.out.lower hU0s, fun h => absurd h (Nat.lt_irrefl 0), ?_⟩
        rintro (⟨h0, e⟩ | ⟨h0, _⟩)
        · have := Fresh.in_slots HSS.out h0 e
          simp only at this; omega
        · exact absurd h0 (Nat.lt_irrefl 0)
      go_wp2_with (with_reducible refine wpList_append_lies _ rfl (.tmp 31) (.tmp 35) 141 rfl w.heap.size 121 i0 (.pointer none) 1 8 Tryz.underlying141 IP.out.1 IP.out.2.1 IP.out.2.2.1 IP.out.2.2.2 rfl (by omega) v k (ps.map LV.ptr) rfl HS7.out ⟨W1.heap.size + 1, 0, none⟩ 1 1 [.pointer (some ⟨W1.heap.size, 0, none⟩)] rfl rfl NEWS.out ?q2 (by omega) ?q3 ?q4 ?q5 (W1.heap.size + 1 + 1) ?q6 ?_)
      case q2 => simp [Value.oneCell']
      case q3 => unfold maxLen; omega
      case q4 => omega
      case q5 => simp only [World.size_alloc]; omega
      case q6 => simp only [World.size_alloc]
      intro gg cap w1 ho hw hat hlt1
      have hU3 := Lib.hid (Laid.put (p := ⟨W1.heap.size, lv, nn, rt, A', k1, c', ss, es.map EV.val, false, none, 0, 0, []⟩) (W := ((W1.alloc (.cells #[.iface (hty lv) (.agg #[.int .i64 d, .slice A' k1 c', .int .i64 lv, .int .i64 nn, .int .i64 rt]), .bool false, .slice none 0 0] 127)).alloc (.cells #[.pointer (some ⟨W1.heap.size, 0, none⟩)] 121))) hU.out (bw1.out.trans (bQ.out.mono bw1.out.size)) POK.out bw1.out.size (HF0.out.lower (Nat.le_succ _)) rfl (Nat.le_refl _) ho hw hat (by simp only [World.size_alloc]))
      have hGm : Hid (Lies w1 G 144 #[.int .i64 d, v, m, o]) := by
        have h2 := hU2.out.call bQ.out
        exact (hw.block G h2.G'.inside (fun e => by have := (ownsRow_block2 h2.S G e.symm).1; have := h2.g; omega)).trans h2.G'
      have s1 : w1.cell? ⟨G, 1, none⟩ = some v := hGm.out.cell 1
      have f1 : w1.frozen? ⟨G, 1, none⟩ = false := hGm.out.thawed 1
      have hV2 : Hid ((ps ++ [(⟨W1.heap.size, lv, nn, rt, A', k1, c', ss, es.map EV.val, false, none, 0, 0, []⟩ : LV)]).map LV.val = (ns.map NV.val).take (k + 1) ∧ ∀ p ∈ ps ++ [(⟨W1.heap.size, lv, nn, rt, A', k1, c', ss, es.map EV.val, false, none, 0, 0, []⟩ : LV)], p.new) := by
        refine ⟨?_, fun p hp => ?_⟩
        · rw [List.map_append, hV.out.1, List.take_add_one, HX.out]; rfl
        · rcases List.mem_append.1 hp with hp | hp
          · exact hV.out.2 p hp
          · simp only [List.mem_singleton] at hp; subst hp; exact ⟨rfl, rfl, rfl, rfl, rfl⟩
      clear ho hw hat hlt1 POK NEWS LQ HS7 bQ bP LP hU2 g1 hV hU bw1
      go_wp2
      go_roundw
      case rel => exact ⟨k + 1, _, _, by omega, by go_num, hU3, hV2, hA'⟩
      case measure => simp [intOf]; omega
    · have HN1 := Lib.hid (firstNZ_all (f := nodeFv d) (upto_end hA.out (by rw [HL1.out]; omega)))
      have hkn : k = n := by omega
      subst hkn
      have HV : Hid (ps.map LV.val = ns.map NV.val ∧ ∀ p ∈ ps, p.new) := ⟨by have := hV.out.1; rwa [List.take_of_length_le (by rw [HL1.out]; omega)] at this, hV.out.2⟩
      clear hA
      go_wp2
      go_ret
      exact ⟨ret_i64 HN1.out.symm, hU.out.T, fun _ => ⟨ps, v, hU.out, HV.out⟩⟩

end Go.Proofs.YtdkaofmlgaofgaaGreat

/- The walks of impl.ground's last and freeAll. -/
namespace Go.Proofs.YtdkaofmlgaofgaaGreat
open Go.RowKit

/-- An arena that is worked at: the block G, the places, the row of their pointers. -/
structure Grd (w : World) (lo G : Nat) (d : Int) (m o : Value) (pb cp n : Nat) (ps : List LV) : Prop where
  L : Lies w G 144 #[.int .i64 d, .slice (some ⟨pb, 0, none⟩) n cp, m, o]
  P : Places w lo d ps
  R : Ptrs w lo pb n ps
  g : G < lo
section
variable {w w' : World} {lo G pb cp n : Nat} {d : Int} {m o : Value} {ps : List LV}
theorem Grd.kept (h : Grd w lo G d m o pb cp n ps) (hb : Below w.heap.size w w') : Grd w' lo G d m o pb cp n ps :=
  ⟨h.L.kept hb h.L.inside, h.P.kept hb, ⟨h.R.l, fun k p hk => (hb.cell (p := ⟨pb, k, none⟩) h.R.i.2).trans (h.R.c k p hk), ⟨h.R.i.1, Nat.lt_of_lt_of_le h.R.i.2 hb.size⟩, h.R.x⟩, h.g⟩
theorem Laid.grd {w0 : World} {v : Value} (h : Laid w0 w lo G d m o n ps v) (hn : 0 < n) : ∃ pb cp, v = .slice (some ⟨pb, 0, none⟩) n cp ∧ Grd w lo G d m o pb cp n ps := by
  obtain ⟨hl, hs⟩ := h.S
  rw [List.length_map, Nat.mul_one] at hl
  rcases hs with ⟨e1, e2⟩ | ⟨g, cap, cur, rfl, h2, h3, h4, h5, h6, h7⟩
  · omega
  · have hb := ownsRow_block2 h.S g rfl
    refine ⟨g, cap, rfl, h.G', h.P, ⟨hl, fun k p hk => ?_, hb, h.V g rfl⟩, h.g⟩
    rw [cell_of_row w g k cur 121 (0, 0) h3]
    have hk2 : k < n := by rw [← hl]; exact (List.getElem?_eq_some_iff.1 hk).1
    have h8 : (cur.toList.take (n * 1))[k]? = some p.ptr := by rw [h7]; simp [hk]
    rw [List.getElem?_take, if_pos (by omega)] at h8
    simpa using h8
/-- One place is written anew. -/
theorem Grd.put (h : Grd w lo G d m o pb cp n ps) {i : Nat} {p p' : LV} (hi : ps[i]? = some p) (hg : p'.g = p.g) (hs : w.heap.size ≤ w'.heap.size) (hk : ∀ b, b < w.heap.size → b ≠ p.g → w'.heap[b]? = w.heap[b]?) (hp : PlaceOk w' lo d p') (hr : ∀ b, p'.row b → p.row b ∨ w.heap.size ≤ b) : Grd w' lo G d m o pb cp n (ps.set i p') := by
  have hpi := h.P.P p (List.mem_of_getElem? hi)
  have hgl := hpi.g
  have hG := h.g
  have npb : pb ≠ p.g := fun e => h.R.x p (List.mem_of_getElem? hi) (Or.inl e.symm)
  refine ⟨(hk G h.L.inside (by omega)).trans h.L, h.P.put hi hg hs hk hp hr, ⟨by rw [List.length_set]; exact h.R.l, fun k q hq => ?_, ⟨h.R.i.1, Nat.lt_of_lt_of_le h.R.i.2 hs⟩, fun q hq => ?_⟩, h.g⟩
  · rw [World.cell?_of_block (w := w) (a := ⟨pb, k, none⟩) (hk pb h.R.i.2 npb)]
    rw [List.getElem?_set] at hq
    by_cases e : i = k
    · subst e
      rw [if_pos rfl, if_pos (List.getElem?_eq_some_iff.1 hi).1] at hq
      injection hq with hq; subst hq
      rw [h.R.c i p hi]; unfold LV.ptr; rw [hg]
    · rw [if_neg e] at hq; exact h.R.c k q hq
  · rcases List.mem_or_eq_of_mem_set hq with hq | rfl
    · exact h.R.x q hq
    · rintro (e | e)
      · exact npb (e.symm.trans hg)
      · rcases hr _ e with h1 | h1
        · exact h.R.x p (List.mem_of_getElem? hi) (Or.inr h1)
        · have := h.R.i.2; omega
end

theorem same_vacant {lv ns rt : Int} {qs : List EV} {vs : List EVal} (h : qs.map EV.val = vs) : ((lv == 0) && (ns == 0) && (rt == -1) && sameL EV.val qs []) = decide ((lv, ns, rt, vs) = vacV) := by
  subst h
  unfold sameL vacV
  by_cases h1 : lv = 0 <;> by_cases h2 : ns = 0 <;> by_cases h3 : rt = -1 <;> simp [h1, h2, h3]

theorem entries_none (w : World) : Entries w none 0 [] := ⟨rfl, fun h => absurd h (Nat.lt_irrefl 0), fun q hq => by simp at hq⟩

set_option maxHeartbeats 400000 in
theorem last_any (G pb cp n : Nat) (w : World) (hc : w.cell? ⟨G, 1, none⟩ = some (.slice (some ⟨pb, 0, none⟩) n cp)) (hn : n ≤ 40) :
    Calls Tryz.prog 156 #[.pointer (some ⟨G, 0, none⟩)] w fun e w' => e = .returned (.int .i64 ((n : Int) - 1)) ∧ w = w' := by
  go_enter Tryz.func156, Tryz.ntmps156
  go_wp2
  go_ret
  exact ⟨rfl, rfl⟩

theorem hty_node (lv d ns rt : Int) (A : Option Addr) (n c : Nat) (w : World) : (method 464 (hty lv) (.agg #[.int .i64 d, .slice A n c, .int .i64 lv, .int .i64 ns, .int .i64 rt]) "loop.example/g00680/impl.node").run Tryz.prog w = .ok (305, .agg #[.int .i64 d, .slice A n c, .int .i64 lv, .int .i64 ns, .int .i64 rt]) w := by
  unfold hty
  split <;> kernel_rfl

/-- The places behind the marks: free are those that are listed. -/
def Freed (ps ps' : List LV) (fs : List Int) : Prop := ps'.length = ps.length ∧ ∀ (i : Nat) (q : LV), ps'[i]? = some q → ∃ p, ps[i]? = some p ∧ q = { p with fr := fs.contains (i : Int) }
theorem Freed.vals {ps ps' : List LV} {fs : List Int} (h : Freed ps ps' fs) : ps'.map LV.val = ps.map LV.val := by
  apply List.ext_getElem?
  intro i
  rw [List.getElem?_map, List.getElem?_map]
  cases hq : ps'[i]? with
  | none =>
    have h1 := List.getElem?_eq_none_iff.1 hq
    rw [List.getElem?_eq_none_iff.2 (by rw [← h.1]; exact h1)]
  | some q =>
    obtain ⟨p, hp, rfl⟩ := h.2 i q hq
    rw [hp]; rfl
theorem Freed.start {ps : List LV} (h : ∀ p ∈ ps, p.fr = false) : Freed ps ps [] := by
  refine ⟨rfl, fun i q hq => ⟨q, hq, ?_⟩⟩
  have := h q (List.mem_of_getElem? hq)
  cases q; simp only at this; subst this; rfl
theorem Freed.next {ps ps' : List LV} {fs : List Int} {k j : Nat} {q : LV} (h : Freed ps ps' (fs.take k)) (hk : fs[k]? = some (j : Int)) (hj : ps'[j]? = some q) : Freed ps (ps'.set j { q with fr := true }) (fs.take (k + 1)) := by
  refine ⟨by rw [List.length_set]; exact h.1, fun i r hr => ?_⟩
  rw [List.take_add_one, hk]
  rw [List.getElem?_set] at hr
  by_cases e : j = i
  · subst e
    rw [if_pos rfl, if_pos (List.getElem?_eq_some_iff.1 hj).1] at hr
    injection hr with hr; subst hr
    obtain ⟨p, hp, rfl⟩ := h.2 j q hj
    refine ⟨p, hp, ?_⟩
    simp
  · rw [if_neg e] at hr
    obtain ⟨p, hp, rfl⟩ := h.2 i r hr
    refine ⟨p, hp, ?_⟩
    have hne : ¬ (i : Int) = (j : Int) := by omega
    simp [List.contains_eq_any_beq, List.any_append, hne]

set_option maxRecDepth 100000 in
set_option maxHeartbeats 6400000 in
theorem freeAll_any (d : Int) (lo G pb cp n n2 c2 : Nat) (A2 : Option Addr) (fs : List Int) (m o : Value) (ps : List LV) (w0 w : World) (hG : Grd w lo G d m o pb cp n ps) (hnew : ∀ p ∈ ps, p.fr = false) (hI : Ints w0 0 A2 n2 fs) (hb : Below w0.heap.size w0 w) (hlo : w0.heap.size ≤ lo) (hlow : lo ≤ w.heap.size) (hn : n ≤ 40) (m2 : n2 ≤ maxLen) :
    Calls Tryz.prog 154 #[.pointer (some ⟨G, 0, none⟩), .slice A2 n2 c2] w fun e w' => e = .returned (.int .i64 (freeF (ps.map LV.val) fs)) ∧ Below lo w w' ∧ (freeF (ps.map LV.val) fs = 0 → ∃ ps', Grd w' lo G d m o pb cp n ps' ∧ Freed ps ps' fs) := by
  have HG := Lib.hid hG
  have HI := Lib.hid hI
  have HL2 : Hid (fs.length = n2) := hI.1
  have HL1 : Hid ((ps.map LV.val).length = n) := by show List.length _ = n; rw [List.length_map]; exact hG.R.l
  have B := Lib.hid hb
  have FR0 := Lib.hid (Freed.start hnew)
  have g1 : w.cell? ⟨G, 1, none⟩ = some (.slice (some ⟨pb, 0, none⟩) n cp) := hG.L.cell 1
  clear hG hI hb hnew
  have m2' := m2
  unfold maxLen at m2'
  cases hr : allIn 0 ((n : Int) - 1) fs
  · have HF : Hid (freeF (ps.map LV.val) fs = 3) := freeF_out (by rw [HL1.out]; exact hr)
    have HR := Lib.hid hr
    clear hr
    go_enter Tryz.func154, Tryz.ntmps154
    go_wp2_with fail
    refine (last_any _ _ _ _ _ g1 hn).mono ?_
    rintro e w' ⟨rfl, rfl⟩
    go_wp2_with fail
    refine (within_is _ _ _ _ _ _ fs _ false HR.out (HI.out.kept B.out) m2).mono ?_
    rintro e w' ⟨rfl, rfl⟩
    go_wp2
    go_ret
    exact ⟨ret_i64 HF.out.symm, Below.refl _ _, fun h => by rw [HF.out] at h; omega⟩
  have HR := Lib.hid hr
  clear hr
  cases hs : risesL fs
  · have HF : Hid (freeF (ps.map LV.val) fs = 1) := freeF_fall (by rw [HL1.out]; exact HR.out) hs
    have HS := Lib.hid hs
    clear hs
    go_enter Tryz.func154, Tryz.ntmps154
    go_wp2_with fail
    refine (last_any _ _ _ _ _ g1 hn).mono ?_
    rintro e w' ⟨rfl, rfl⟩
    go_wp2_with fail
    refine (within_is _ _ _ _ _ _ fs _ true HR.out (HI.out.kept B.out) m2).mono ?_
    rintro e w' ⟨rfl, rfl⟩
    go_wp2_with fail
    refine (rises_any _ _ _ _ fs _ (HI.out.kept B.out) m2).mono ?_
    rintro e W1 ⟨rfl, b1⟩
    have hB1 := Lib.hid (b1.mono hlow)
    rw [HS.out]
    clear b1
    go_wp2
    go_ret
    exact ⟨ret_i64 HF.out.symm, hB1.out, fun h => by rw [HF.out] at h; omega⟩
  have HS := Lib.hid hs
  have HRN : Hid (allIn 0 (((ps.map LV.val).length : Int) - 1) fs = true) := by show allIn _ _ _ = _; rw [HL1.out]; exact HR.out
  clear hs
  go_enter Tryz.func154, Tryz.ntmps154
  go_wp2_with fail
  refine (last_any _ _ _ _ _ g1 hn).mono ?_
  rintro e w' ⟨rfl, rfl⟩
  go_wp2_with fail
  refine (within_is _ _ _ _ _ _ fs _ true HR.out (HI.out.kept B.out) m2).mono ?_
  rintro e w' ⟨rfl, rfl⟩
  go_wp2_with fail
  refine (rises_any _ _ _ _ fs _ (HI.out.kept B.out) m2).mono ?_
  rintro e W1 ⟨rfl, b1⟩
  have hB1 := Lib.hid (b1.mono hlow)
  have hG1 := Lib.hid (HG.out.kept b1)
  rw [HS.out]
  clear b1 g1
  go_wp2
  go_loopw [17] (fun i wr => ∃ (k : Nat) (qs : List LV), k ≤ n2 ∧ i = .int .i64 k ∧ Hid (Grd wr lo G d m o pb cp n qs) ∧ Hid (Freed ps qs (fs.take k)) ∧ Hid (Below lo w wr) ∧ Hid (∀ (j : Nat) (x : Int), j < k → fs[j]? = some x → vacAt (ps.map LV.val) x = true)) (fun i _ => n2 - (intOf i).toNat)
  case atStart => exact ⟨0, ps, Nat.zero_le _, rfl, hG1, FR0, hB1, fun j x hj => absurd hj (Nat.not_lt_zero _)⟩
  case round =>
    obtain ⟨k, qs, hk', rfl, hU, hF, hB, hA⟩ := hrel
    have HBr := Lib.hid (B.out.trans (hB.out.mono hlo))
    by_cases hlt : k < n2
    · obtain ⟨b, o', x, rfl, _, hb, d0, hx⟩ := HI.out.cellAt hlt
      have hxi := allIn_get HR.out hx.out
      obtain ⟨j, rfl⟩ := Int.eq_ofNat_of_zero_le hxi.1
      have hjn : j < n := by omega
      have hjn' : (j : Int) < (n : Int) := by omega
      have hlt' : (k : Int) < (n2 : Int) := by omega
      have hql := hU.out.R.l
      obtain ⟨q, hq⟩ : ∃ q, qs[j]? = some q := ⟨_, List.getElem?_eq_getElem (by omega)⟩
      have HQ := Lib.hid hq
      have HPO := Lib.hid (hU.out.P.P q (List.mem_of_getElem? hq))
      have HX := Lib.hid hx.out
      have e0 : wr.cell? ⟨b, o' + k, none⟩ = some (.int .i64 (j : Int)) := (HBr.out.cell (p := ⟨b, o' + k, none⟩) hb).trans d0
      have g1 : wr.cell? ⟨G, 1, none⟩ = some (.slice (some ⟨pb, 0, none⟩) n cp) := hU.out.L.cell 1
      have g2 : wr.cell? ⟨pb, j, none⟩ = some (.pointer (some ⟨q.g, 0, none⟩)) := hU.out.R.c j q hq
      have g3 : wr.cell? ⟨q.g, 0, none⟩ = some (.iface (hty q.lv) (.agg #[.int .i64 d, .slice q.A q.n q.c, .int .i64 q.lv, .int .i64 q.ns, .int .i64 q.rt])) := HPO.out.L.cell 0
      have hm1 := hty_node q.lv d q.ns q.rt q.A q.n q.c
      have hqg := HPO.out.g
      obtain ⟨hok, h5, hent, _, _⟩ := nodeF_zero HPO.out.N
      have hq5 : q.n ≤ 5 := by have h1 := HPO.out.O.1; have h2 := HPO.out.S.1; omega
      have HE := Lib.hid (lens_of hent)
      have hd2 : 2 ≤ d := hok.1.1
      have hd3 : d ≤ 3 := hok.1.2
      have HVA : Hid (vacAt (ps.map LV.val) (j : Int) = decide ((q.lv, q.ns, q.rt, q.vs) = vacV)) := by
        show vacAt _ _ = _
        rw [← hF.out.vals]
        exact vacAt_is (v := q.val) (by rw [List.getElem?_map, hq]; rfl)
      clear d0 hx hq hok h5 hent hxi
      go_wp2_with fail
      refine (bodyNode_any d q.lv q.ns q.rt q.n q.c d.toNat q.A q.vs q.ss _ HPO.out.S HPO.out.O (by omega) HE.out (by omega) (by omega)).mono ?_
      rintro e W2 ⟨A', c', es, rfl, rs, vq, b2⟩
      have hU2 := Lib.hid (hU.out.kept b2)
      have hB2 := Lib.hid (hB.out.trans (b2.mono (by have := hB.out.size; omega)))
      have ER := Lib.hid rs.entries
      have VQ := Lib.hid vq
      clear b2 rs vq e0 g1 g2 g3 hm1 HPO
      go_wp2_with fail
      refine (vacantNode_any _).mono ?_
      rintro e W3 ⟨rfl, b3⟩
      have hU3 := Lib.hid (hU2.out.kept b3)
      have hB3 := Lib.hid (hB2.out.trans (b3.mono (by have := hB2.out.size; omega)))
      replace ER := Lib.hid (ER.out.kept b3)
      clear b3 hU2 hB2
      go_wp2_with fail
      refine (sameNode_any q.lv q.ns q.rt 0 0 (-1) q.n c' 0 0 A' none es [] _ ER.out (entries_none _) (Nat.le_trans hq5 (by decide)) (Nat.zero_le _)).mono ?_
      rintro e W4 ⟨rfl, b4⟩
      rw [same_vacant VQ.out]
      have hU4 := Lib.hid (hU3.out.kept b4)
      have hB4 := Lib.hid (hB3.out.trans (b4.mono (by have := hB3.out.size; omega)))
      clear b4 hU3 hB3 ER
      cases hv : decide ((q.lv, q.ns, q.rt, q.vs) = vacV)
      · have HF : Hid (freeF (ps.map LV.val) fs = 1) := freeF_full HRN.out HX.out (by rw [HVA.out]; exact hv)
        clear hv hA hF hU hB
        go_wp2
        go_ret
        exact ⟨ret_i64 HF.out.symm, hB4.out, fun h => by rw [HF.out] at h; omega⟩
      · have hA' := Lib.hid (upto_next (P := fun x => vacAt (ps.map LV.val) x = true) hA.out HX.out (by rw [HVA.out]; exact hv))
        have hF' := Lib.hid (hF.out.next HX.out HQ.out)
        have hPQ := Lib.hid (hU4.out.P.P q (List.mem_of_getElem? HQ.out))
        have g1 : W4.cell? ⟨G, 1, none⟩ = some (.slice (some ⟨pb, 0, none⟩) n cp) := hU4.out.L.cell 1
        have g2 : W4.cell? ⟨pb, j, none⟩ = some (.pointer (some ⟨q.g, 0, none⟩)) := hU4.out.R.c j q HQ.out
        have g3 : W4.cell? ⟨q.g, 1, none⟩ = some (.bool q.fr) := hPQ.out.L.cell 1
        have f3 : W4.frozen? ⟨q.g, 1, none⟩ = false := hPQ.out.L.thawed 1
        have hU5 : Hid (Grd (W4.setCell ⟨q.g, 1, none⟩ (.bool true)) lo G d m o pb cp n (qs.set j { q with fr := true })) := by
          have hk5 : ∀ b, b < W4.heap.size → b ≠ q.g → (W4.setCell ⟨q.g, 1, none⟩ (.bool true)).heap[b]? = W4.heap[b]? := fun b _ hne => heap_setCell_other W4 ⟨q.g, 1, none⟩ b _ hne
          have hs5 : W4.heap.size ≤ (W4.setCell ⟨q.g, 1, none⟩ (.bool true)).heap.size := Nat.le_of_eq (size_of_setCell _ _ _).symm
          have hy := hPQ.out.Y
          refine hU4.out.put HQ.out rfl hs5 hk5 ?_ (fun b h => Or.inl h)
          refine ⟨hPQ.out.L.set 1 _, hPQ.out.S.block hPQ.out.F hs5 (fun b h0 e => hk5 b (Fresh.in_slots hPQ.out.S h0 e) (fun e' => hy (Or.inl ⟨h0, e' ▸ e⟩))), hPQ.out.O, hPQ.out.N, hPQ.out.W.blockF hPQ.out.E hs5 (fun b h0 e => hk5 b (Fresh.in_ints hPQ.out.W h0 e) (fun e' => hy (Or.inr ⟨h0, e' ▸ e⟩))), hPQ.out.g, hPQ.out.F, hPQ.out.E, hy⟩
        have hB5 := Lib.hid (hB4.out.setCell (p := ⟨q.g, 1, none⟩) hqg (.bool true))
        clear hv hA hF hU hB hPQ hU4 hB4 HVA HBr
        go_wp2
        go_roundw
        case rel => exact ⟨k + 1, _, by omega, by go_num, hU5, hF', hB5, hA'⟩
        case measure => simp [intOf]; omega
    · have HF : Hid (freeF (ps.map LV.val) fs = 0) := freeF_zero HRN.out HS.out (upto_end hA.out (by rw [HL2.out]; omega))
      have hFF : Hid (Freed ps qs fs) := by have := hF.out; rwa [List.take_of_length_le (by rw [HL2.out]; omega)] at this
      clear hA hF
      go_wp2
      go_ret
      exact ⟨ret_i64 HF.out.symm, hB.out, fun _ => ⟨qs, hU.out, hFF.out⟩⟩

end Go.Proofs.YtdkaofmlgaofgaaGreat
