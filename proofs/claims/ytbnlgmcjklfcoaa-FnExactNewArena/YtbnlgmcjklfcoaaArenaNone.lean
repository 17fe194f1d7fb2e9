/- Places, and an arena that is worked at: what they are in memory, and what a store into one leaves of the others. -/
import Derived.Test.YtbnlgmcjklfcoaaSpecArena2
import Derived.Test.YtbnlgmcjklfcoaaReadNode
import Derived.Test.YtbnlgmcjklfcoaaMarks
import Derived.Deep.AppendLies
import Derived.Test.YtbnlgmcjklfcoaaSlotWalks
import Derived.Test.YtbnlgmcjklfcoaaNodeRes
import Derived.Test.YtbnlgmcjklfcoaaBoxMath
import Derived.Test.YtbnlgmcjklfcoaaNodesOut
import Derived.Test.YtbnlgmcjklfcoaaSpecNew
namespace Go.Proofs.Ytbnlgmcjklfcoaa
open Go.RowKit

/-- A place as it lies: its block, its node's numbers, its slots, whether it is free, who watches it. -/
structure LV where
  g : Nat
  lv : Int
  ns : Int
  rt : Int
  A : Option Addr
  n : Nat
  c : Nat
  ss : List SL
  vs : List EVal
  fr : Bool
  wA : Option Addr
  wn : Nat
  wc : Nat
  ws : List Int
def LV.val (p : LV) : NVal := (p.lv, p.ns, p.rt, p.vs)
def LV.cells (d : Int) (p : LV) : Array Value := #[holderV d p.lv p.ns p.rt p.A p.n p.c, .bool p.fr, .slice p.wA p.wn p.wc]
def LV.ptr (p : LV) : Value := .pointer (some ⟨p.g, 0, none⟩)
/-- The row that the place leads to lies in block b. -/
def LV.row (p : LV) (b : Nat) : Prop := (0 < p.n ∧ p.A = some ⟨b, 0, none⟩) ∨ (0 < p.wn ∧ p.wA = some ⟨b, 0, none⟩)
/-- Block b belongs to the place. -/
def LV.has (p : LV) (b : Nat) : Prop := p.g = b ∨ p.row b
structure PlaceOk (w : World) (lo : Nat) (d : Int) (p : LV) : Prop where
  L : Lies w p.g 181 (p.cells d)
  S : Slots w p.A p.n p.ss
  O : SlotsOf p.vs p.ss
  N : nodeF p.lv p.ns p.rt p.vs d = 0
  W : Ints w 0 p.wA p.wn p.ws
  g : lo ≤ p.g
  F : Fresh lo p.A p.n
  E : Fresh lo p.wA p.wn
  Y : ¬ p.row p.g
section
variable {w w' : World} {lo : Nat} {d : Int} {p : LV}
theorem Fresh.in_slots {A : Option Addr} {n b : Nat} {ss : List SL} (h : Slots w A n ss) (h0 : 0 < n) (e : A = some ⟨b, 0, none⟩) : b < w.heap.size := by
  obtain ⟨b', o, e', h2, _⟩ := h.2 h0
  rw [e] at e'; injection e' with e'; injection e' with e'; omega
theorem Fresh.in_ints {lo : Nat} {A : Option Addr} {n b : Nat} {xs : List Int} (h : Ints w lo A n xs) (h0 : 0 < n) (e : A = some ⟨b, 0, none⟩) : b < w.heap.size := by
  obtain ⟨b', o, e', _, h2, _⟩ := h.2 h0
  rw [e] at e'; injection e' with e'; injection e' with e'; omega
theorem PlaceOk.inside (h : PlaceOk w lo d p) {b : Nat} (hb : p.has b) : lo ≤ b ∧ b < w.heap.size := by
  rcases hb with rfl | ⟨h0, e⟩ | ⟨h0, e⟩
  · exact ⟨h.g, h.L.inside⟩
  · obtain ⟨g, e', h1⟩ := h.F h0
    rw [e] at e'; injection e' with e'; injection e' with e'
    exact ⟨by omega, Fresh.in_slots h.S h0 e⟩
  · obtain ⟨g, e', h1⟩ := h.E h0
    rw [e] at e'; injection e' with e'; injection e' with e'
    exact ⟨by omega, Fresh.in_ints h.W h0 e⟩
theorem Slots.block {A : Option Addr} {n : Nat} {ss : List SL} (h : Slots w A n ss) (hF : Fresh lo A n) (hs : w.heap.size ≤ w'.heap.size) (hk : ∀ b, 0 < n → A = some ⟨b, 0, none⟩ → w'.heap[b]? = w.heap[b]?) : Slots w' A n ss := by
  obtain ⟨hl, hr⟩ := h
  refine ⟨hl, fun hn => ?_⟩
  obtain ⟨b, o, e, h2, h3⟩ := hr hn
  obtain ⟨g, e', _⟩ := hF hn
  have e2 := e
  rw [e'] at e2; injection e2 with e2; injection e2 with e2 e3
  subst e2 e3
  refine ⟨g, 0, e, by omega, fun k s hs' j v hv => ?_⟩
  rw [World.cell?_of_block (w := w) (a := ⟨g, 0 + k * 8 + j, none⟩) (hk g hn e')]
  exact h3 k s hs' j v hv
theorem Ints.blockF {lo0 : Nat} {A : Option Addr} {n : Nat} {xs : List Int} (h : Ints w lo0 A n xs) (hF : Fresh lo A n) (hs : w.heap.size ≤ w'.heap.size) (hk : ∀ b, 0 < n → A = some ⟨b, 0, none⟩ → w'.heap[b]? = w.heap[b]?) : Ints w' lo0 A n xs := by
  obtain ⟨hl, hr⟩ := h
  refine ⟨hl, fun hn => ?_⟩
  obtain ⟨b, o, e, h1, h2, h3⟩ := hr hn
  obtain ⟨g, e', _⟩ := hF hn
  have e2 := e
  rw [e'] at e2; injection e2 with e2; injection e2 with e2 e3
  subst e2 e3
  refine ⟨g, 0, e, h1, by omega, fun k x hx => ?_⟩
  rw [World.cell?_of_block (w := w) (a := ⟨g, 0 + k, none⟩) (hk g hn e')]
  exact h3 k x hx
/-- What holds of a place holds where none of its blocks has turned. -/
theorem PlaceOk.others (h : PlaceOk w lo d p) (hs : w.heap.size ≤ w'.heap.size) (hk : ∀ b, p.has b → w'.heap[b]? = w.heap[b]?) : PlaceOk w' lo d p :=
  ⟨(hk _ (Or.inl rfl)).trans h.L, h.S.block h.F hs (fun b h0 e => hk b (Or.inr (Or.inl ⟨h0, e⟩))), h.O, h.N, h.W.blockF h.E hs (fun b h0 e => hk b (Or.inr (Or.inr ⟨h0, e⟩))), h.g, h.F, h.E, h.Y⟩
theorem PlaceOk.kept (h : PlaceOk w lo d p) (hb : Below w.heap.size w w') : PlaceOk w' lo d p := h.others hb.size fun b hp => hb.block b (h.inside hp).2
end

/-- Places that share no block. -/
structure Places (w : World) (lo : Nat) (d : Int) (ps : List LV) : Prop where
  P : ∀ p ∈ ps, PlaceOk w lo d p
  X : ∀ (i j : Nat) (p q : LV), ps[i]? = some p → ps[j]? = some q → i ≠ j → ¬ q.has p.g
section
variable {w w' : World} {lo : Nat} {d : Int} {ps : List LV}
theorem Places.kept (h : Places w lo d ps) (hb : Below w.heap.size w w') : Places w' lo d ps := ⟨fun p hp => (h.P p hp).kept hb, h.X⟩
theorem Places.others (h : Places w lo d ps) (hs : w.heap.size ≤ w'.heap.size) (hk : ∀ p ∈ ps, ∀ b, p.has b → w'.heap[b]? = w.heap[b]?) : Places w' lo d ps := ⟨fun p hp => (h.P p hp).others hs (hk p hp), h.X⟩
theorem Places.nil (w : World) (lo : Nat) (d : Int) : Places w lo d [] := ⟨fun p hp => by simp at hp, fun i j p q hi => by simp at hi⟩
theorem Places.snoc (h : Places w lo d ps) {p : LV} (hp : PlaceOk w lo d p) (h1 : ∀ q ∈ ps, ¬ q.has p.g) (h2 : ∀ q ∈ ps, ¬ p.has q.g) : Places w lo d (ps ++ [p]) := by
  refine ⟨fun q hq => ?_, fun i j a b ha hb hne => ?_⟩
  · rcases List.mem_append.1 hq with hq | hq
    · exact h.P q hq
    · simp only [List.mem_singleton] at hq; subst hq; exact hp
  · rcases Nat.lt_or_ge i ps.length with hi | hi <;> rcases Nat.lt_or_ge j ps.length with hj | hj
    · rw [List.getElem?_append_left hi] at ha
      rw [List.getElem?_append_left hj] at hb
      exact h.X i j a b ha hb hne
    · rw [List.getElem?_append_left hi] at ha
      rw [List.getElem?_append_right hj] at hb
      have : j - ps.length = 0 := by have := (List.getElem?_eq_some_iff.1 hb).1; simp at this; omega
      rw [this] at hb; simp at hb; subst hb
      exact h2 a (List.mem_of_getElem? ha)
    · rw [List.getElem?_append_right hi] at ha
      rw [List.getElem?_append_left hj] at hb
      have : i - ps.length = 0 := by have := (List.getElem?_eq_some_iff.1 ha).1; simp at this; omega
      rw [this] at ha; simp at ha; subst ha
      exact h1 b (List.mem_of_getElem? hb)
    · rw [List.getElem?_append_right hi] at ha
      rw [List.getElem?_append_right hj] at hb
      have h3 := (List.getElem?_eq_some_iff.1 ha).1
      have h4 := (List.getElem?_eq_some_iff.1 hb).1
      simp at h3 h4; omega
/-- One place is written anew: its block alone has turned. -/
theorem Places.put (h : Places w lo d ps) {i : Nat} {p p' : LV} (hi : ps[i]? = some p) (hg : p'.g = p.g) (hs : w.heap.size ≤ w'.heap.size) (hk : ∀ b, b < w.heap.size → b ≠ p.g → w'.heap[b]? = w.heap[b]?) (hp : PlaceOk w' lo d p') (hr : ∀ b, p'.row b → p.row b ∨ w.heap.size ≤ b) : Places w' lo d (ps.set i p') := by
  have hin := (List.getElem?_eq_some_iff.1 hi).1
  have old : ∀ j q, j ≠ i → ps[j]? = some q → PlaceOk w' lo d q := fun j q hj hq => (h.P q (List.mem_of_getElem? hq)).others hs fun b hb => hk b ((h.P q (List.mem_of_getElem? hq)).inside hb).2 (fun e => h.X i j p q hi hq (fun e' => hj e'.symm) (e ▸ hb))
  refine ⟨fun q hq => ?_, fun j k a b ha hb hne => ?_⟩
  · obtain ⟨j, hj⟩ := List.getElem?_of_mem hq
    rw [List.getElem?_set] at hj
    by_cases e : i = j
    · rw [if_pos e] at hj; subst e; rw [if_pos hin] at hj; injection hj with hj; subst hj; exact hp
    · rw [if_neg e] at hj; exact old j q (fun e' => e e'.symm) hj
  · rw [List.getElem?_set] at ha hb
    by_cases ej : i = j
    · subst ej
      rw [if_pos rfl, if_pos hin] at ha
      injection ha with ha; subst ha
      rw [if_neg hne] at hb
      rw [hg]; exact h.X i k p b hi hb hne
    · rw [if_neg ej] at ha
      by_cases ek : i = k
      · subst ek
        rw [if_pos rfl, if_pos hin] at hb
        injection hb with hb; subst hb
        have hx := h.X j i a p ha hi (fun e => hne e)
        rintro (e | e)
        · exact hx (Or.inl (hg ▸ e))
        · rcases hr _ e with h1 | h1
          · exact hx (Or.inr h1)
          · have := (h.P a (List.mem_of_getElem? ha)).L.inside; omega
      · rw [if_neg ek] at hb
        exact h.X j k a b ha hb hne
end

/-- The row of the places' pointers. -/
structure Ptrs (w : World) (lo b n : Nat) (ps : List LV) : Prop where
  l : ps.length = n
  c : ∀ (k : Nat) (p : LV), ps[k]? = some p → w.cell? ⟨b, k, none⟩ = some p.ptr
  i : lo ≤ b ∧ b < w.heap.size
  x : ∀ p ∈ ps, ¬ p.has b

end Go.Proofs.Ytbnlgmcjklfcoaa

/- The walk of impl.ground's layAll: each node is opened, and a place is laid for it. -/
namespace Go.Proofs.Ytbnlgmcjklfcoaa
open Go.RowKit

theorem info_ptr : ∃ i, Try.prog.info? 179 = some i ∧ i.zero = some (.pointer none) ∧ i.size = 1 ∧ i.bytes = 8 := by
  have h : (Try.prog.info? 179).map (fun i => (i.zero, i.size, i.bytes)) = some (some (.pointer none), 1, 8) := by kernel_rfl
  obtain ⟨i, hi, h⟩ := Option.map_eq_some_iff.1 h
  simp only [Prod.mk.injEq] at h
  exact ⟨i, hi, h.1, h.2.1, h.2.2⟩

/-- Where layAll's loop stands. -/
structure Laid (w wr : World) (lo G : Nat) (d : Int) (m o : Value) (k : Nat) (ps : List LV) (v : Value) : Prop where
  T : Turned (fun x => x = G) w wr
  G' : Lies wr G 178 #[.int .i64 d, v, m, o]
  S : wr.ownsRow lo 179 1 v k (ps.map LV.ptr)
  P : Places wr lo d ps
  V : ∀ b, v.ownBlock = some b → ∀ p ∈ ps, ¬ p.has b
  g : G < lo
section
variable {w wr W : World} {lo G k : Nat} {d : Int} {m o v : Value} {ps : List LV}
theorem Turned.drew {X : Nat → Prop} (h : Turned X w wr) : Turned X w wr.drew := ⟨fun B h1 h2 => (h.1 B h1 h2).drew, h.2.1, h.2.2⟩
theorem Turned.call {X : Nat → Prop} (h : Turned X w wr) (hb : Below wr.heap.size wr W) : Turned X w W := h.trans (Turned.of_below hb)
theorem Laid.call (h : Laid w wr lo G d m o k ps v) (hb : Below wr.heap.size wr W) : Laid w W lo G d m o k ps v :=
  ⟨h.T.call hb, h.G'.kept hb h.G'.inside, ownsRow_below h.S hb, h.P.kept hb, h.V, h.g⟩
/-- One place more. -/
theorem Laid.put {w1 : World} {gg cap g0 : Nat} {p : LV} (h : Laid w wr lo G d m o k ps v) (hb : Below wr.heap.size wr W) (hp : PlaceOk W lo d p) (hg : wr.heap.size ≤ p.g) (hF : Fresh wr.heap.size p.A p.n) (hE : p.wn = 0) (hwl : w.heap.size ≤ lo)
    (ho : w1.ownsRow lo 179 1 (.slice (some ⟨gg, 0, none⟩) (k + 1) cap) (k + 1) (ps.map LV.ptr ++ [p.ptr])) (hw : W.grownBy w1 v.ownBlock) (hat : v.ownBlock = some gg ∨ gg = g0) (hg0 : W.heap.size = g0) :
    Laid w (w1.setCell ⟨G, 1, none⟩ (.slice (some ⟨gg, 0, none⟩) (k + 1) cap)) lo G d m o (k + 1) (ps ++ [p]) (.slice (some ⟨gg, 0, none⟩) (k + 1) cap) := by
  have h' := h.call hb
  have hbk := ownsRow_block2 h.S
  have hbk' := ownsRow_block2 h'.S
  have hGlo := h.g
  have oldb : ∀ q ∈ ps, ∀ b, q.has b → b < wr.heap.size := fun q hq b hb' => ((h.P.P q hq).inside hb').2
  have pin : ∀ b, p.has b → wr.heap.size ≤ b ∧ b < W.heap.size := by
    intro b hb'
    refine ⟨?_, (hp.inside hb').2⟩
    rcases hb' with rfl | ⟨h0, e⟩ | ⟨h0, e⟩
    · exact hg
    · obtain ⟨x, e', h1⟩ := hF h0
      rw [e] at e'; injection e' with e'; injection e' with e'; omega
    · omega
  have PS : Places W lo d (ps ++ [p]) := h'.P.snoc hp (fun q hq hb' => by have := oldb q hq _ hb'; omega) (fun q hq hb' => by have := (pin _ hb').1; have := oldb q hq _ (Or.inl rfl); omega)
  have far : ∀ q ∈ ps ++ [p], ∀ b, q.has b → some b ≠ v.ownBlock := by
    intro q hq b hb' e
    rcases List.mem_append.1 hq with hq | hq
    · exact h.V b e.symm q hq hb'
    · simp only [List.mem_singleton] at hq; subst hq
      have := (hbk b e.symm).2; have := (pin b hb').1; omega
  have Gv : some G ≠ v.ownBlock := fun e => by have := (hbk G e.symm).1; omega
  have keepB : ∀ b, b < W.heap.size → some b ≠ v.ownBlock → b ≠ G → (w1.setCell ⟨G, 1, none⟩ (.slice (some ⟨gg, 0, none⟩) (k + 1) cap)).heap[b]? = W.heap[b]? := fun b h1 h2 h3 =>
    (heap_setCell_other w1 ⟨G, 1, none⟩ b _ h3).trans (hw.block b h1 h2)
  have inL : ∀ q ∈ ps ++ [p], ∀ b, q.has b → lo ≤ b ∧ b < W.heap.size := fun q hq b hb' => (PS.P q hq).inside hb'
  refine ⟨?_, (Lies.set (w := w1) ((hw.block G h'.G'.inside Gv).trans h'.G') 1 _), ownsRow_far2 (by simpa using ho) (by show G < lo; exact hGlo) _, PS.others (by rw [size_of_setCell]; exact hw.size) (fun q hq b hb' => keepB b (inL q hq b hb').2 (far q hq b hb') (by have := (inL q hq b hb').1; omega)), ?_, hGlo⟩
  · refine ⟨fun B h1 h2 => ?_, ?_, fun b h1 h2 => ?_⟩
    · exact (below_grown2 (h'.T.1 B h1 h2) hw (fun r e => by have := (hbk r e).1; omega) (Nat.le_trans h2 h'.T.2.1)).setCell (h1 G rfl) _
    · rw [size_of_setCell]; exact Nat.le_trans h'.T.2.1 hw.size
    · have hbW := Nat.lt_of_lt_of_le h1 h'.T.2.1
      exact (keepB b hbW (fun e => by have := (hbk b e.symm).1; omega) h2).trans (h'.T.2.2 b h1 h2)
  · intro b e q hq hb'
    have e' : gg = b := by simpa [Value.ownBlock] using e
    subst e'
    rcases hat with hat | hat
    · exact far q hq _ hb' hat.symm
    · have := (inL q hq _ hb').2; omega
end

/-- The type of a holder. -/
def hty (lv : Int) : TypeId := if lv = 0 then 227 else 228
theorem openNode_yes (lv ns rt d : Int) (n c : Nat) (A : Option Addr) (ps : List EV) (w : World) (hp : Entries w A n ps) (hn : n ≤ maxLen) (hz : nodeF lv ns rt (ps.map EV.val) d = 0) :
    Calls Try.prog 100 #[.agg #[.int .i64 lv, .int .i64 ns, .int .i64 rt, .slice A n c], .int .i64 d] w fun e w' => ∃ A' c' ss, e = .returned (.tuple #[.iface (hty lv) (.agg #[.int .i64 d, .slice A' n c', .int .i64 lv, .int .i64 ns, .int .i64 rt]), .int .i64 0]) ∧ Slots w' A' n ss ∧ SlotsOf (ps.map EV.val) ss ∧ Fresh w.heap.size A' n ∧ Below w.heap.size w w' := by
  refine (readNode_fresh lv ns rt d n c A ps w hp hn).mono ?_
  rintro e w' ⟨hb, h⟩
  rcases h with h | ⟨h0, A', c', ss, h1, h2, h3, h4⟩
  · exact absurd hz h.1
  · exact ⟨A', c', ss, h1, h2, h3, h4, hb⟩
theorem openNode_no (lv ns rt d : Int) (n c : Nat) (A : Option Addr) (ps : List EV) (w : World) (hp : Entries w A n ps) (hn : n ≤ maxLen) (hz : nodeF lv ns rt (ps.map EV.val) d ≠ 0) :
    Calls Try.prog 100 #[.agg #[.int .i64 lv, .int .i64 ns, .int .i64 rt, .slice A n c], .int .i64 d] w fun e w' => e = .returned (.tuple #[.nilIface, .int .i64 (nodeF lv ns rt (ps.map EV.val) d)]) ∧ Below w.heap.size w w' := by
  refine (readNode_fresh lv ns rt d n c A ps w hp hn).mono ?_
  rintro e w' ⟨hb, h⟩
  rcases h with h | ⟨h0, _⟩
  · exact ⟨h.2, hb⟩
  · exact absurd h0 hz
/-- A place that was just laid: not free, watched by nobody. -/
def LV.new (p : LV) : Prop := p.fr = false ∧ p.wA = none ∧ p.wn = 0 ∧ p.wc = 0 ∧ p.ws = []

set_option maxRecDepth 100000 in
set_option maxHeartbeats 6400000 in
theorem layAll_any (d : Int) (G n c : Nat) (A : Option Addr) (ns : List NV) (m o : Value) (w0 w : World) (hG : Lies w G 178 #[.int .i64 d, .slice none 0 0, m, o]) (hp : NodesL w0 A n ns) (hb : Below w0.heap.size w0 w) (hG0 : w0.heap.size ≤ G) (hn : n ≤ 40) :
    Calls Try.prog 155 #[.pointer (some ⟨G, 0, none⟩), .slice A n c] w fun e w' => e = .returned (.int .i64 (firstNZ (nodeFv d) (ns.map NV.val))) ∧ Turned (fun x => x = G) w w' ∧ (firstNZ (nodeFv d) (ns.map NV.val) = 0 → ∃ ps v, Laid w w' w.heap.size G d m o n ps v ∧ ps.map LV.val = ns.map NV.val ∧ ∀ p ∈ ps, p.new) := by
  have HP := Lib.hid hp
  have HL1 : Hid ((ns.map NV.val).length = n) := by show List.length _ = n; rw [List.length_map]; exact hp.1
  have B := Lib.hid hb
  have LG := Lib.hid hG
  have hGi := hG.inside
  obtain ⟨i0, hi0, hz0, hz1, hz2⟩ := info_ptr
  have IP := Lib.hid (And.intro hi0 (And.intro hz0 (And.intro hz1 hz2)))
  clear hp hb hG hi0 hz0 hz1 hz2
  have L0 : Hid (Laid w w w.heap.size G d m o 0 [] (.slice none 0 0)) := ⟨Turned.refl _ _, LG.out, ⟨rfl, Or.inl ⟨rfl, rfl⟩⟩, Places.nil _ _ _, fun b e => by simp [Value.ownBlock] at e, hGi⟩
  go_enter Try.func155, Try.ntmps155
  go_wp2
  go_loopw [11] (fun i wr => ∃ (k : Nat) (ps : List LV) (v : Value), k ≤ n ∧ i = .int .i64 k ∧ Hid (Laid w wr w.heap.size G d m o k ps v) ∧ Hid (ps.map LV.val = (ns.map NV.val).take k ∧ ∀ p ∈ ps, p.new) ∧ Hid (∀ (j : Nat) (u : NVal), j < k → (ns.map NV.val)[j]? = some u → nodeFv d u = 0)) (fun i _ => n - (intOf i).toNat)
  case atStart => exact ⟨0, [], .slice none 0 0, Nat.zero_le _, rfl, L0, ⟨rfl, fun p hp => by simp at hp⟩, fun j u hj => absurd hj (Nat.not_lt_zero _)⟩
  case round =>
    obtain ⟨k, ps, v, hk', rfl, hU, hV, hA⟩ := hrel
    by_cases hlt : k < n
    · obtain ⟨b, o', lv, nn, rt, X1, k1, e1, es, rfl, hb, d0, d1, d2, d3, hx, hE, hk1⟩ := HP.out.cellAt hlt
      have hBr := Lib.hid (B.out.trans (hU.out.T.1 _ (fun x hx => by subst hx; exact hG0) B.out.size))
      have e0 : wr.cell? ⟨b, o' + k * 4, none⟩ = some (.int .i64 lv) := (hBr.out.cell (p := ⟨b, o' + k * 4, none⟩) hb).trans d0
      have e2 : wr.cell? ⟨b, o' + k * 4 + 1, none⟩ = some (.int .i64 nn) := (hBr.out.cell (p := ⟨b, o' + k * 4 + 1, none⟩) hb).trans d1
      have e3 : wr.cell? ⟨b, o' + k * 4 + 2, none⟩ = some (.int .i64 rt) := (hBr.out.cell (p := ⟨b, o' + k * 4 + 2, none⟩) hb).trans d2
      have e4 : wr.cell? ⟨b, o' + k * 4 + 3, none⟩ = some (.slice X1 k1 e1) := (hBr.out.cell (p := ⟨b, o' + k * 4 + 3, none⟩) hb).trans d3
      have HX := Lib.hid (nval_get hx.out)
      have hlt' : (k : Int) < (n : Int) := by omega
      clear d0 d1 d2 d3 hx
      go_wp2
      clear e0 e2 e3 e4
      have hB1 := Lib.hid (hBr.out.alloc hBr.out.size (.cells #[.int .i64 lv, .int .i64 nn, .int .i64 rt, .slice X1 k1 e1] 58))
      have L_n := Lib.hid (Lies.new wr 58 #[.int .i64 lv, .int .i64 nn, .int .i64 rt, .slice X1 k1 e1])
      have hU1 := Lib.hid (hU.out.call (below_alloc wr (.cells #[.int .i64 lv, .int .i64 nn, .int .i64 rt, .slice X1 k1 e1] 58)))
      have bw0 := Lib.hid (below_alloc wr (.cells #[.int .i64 lv, .int .i64 nn, .int .i64 rt, .slice X1 k1 e1] 58))
      generalize hW : (wr.alloc (.cells #[.int .i64 lv, .int .i64 nn, .int .i64 rt, .slice X1 k1 e1] 58)) = W0 at *
      have hW0 : W0.heap.size = wr.heap.size + 1 := by rw [← hW]; simp only [World.size_alloc]
      clear hW hBr
      have k_0 : W0.cell? ⟨wr.heap.size, 0, none⟩ = some (.int .i64 lv) ∧ W0.cell? ⟨wr.heap.size, 1, none⟩ = some (.int .i64 nn) ∧ W0.cell? ⟨wr.heap.size, 2, none⟩ = some (.int .i64 rt) ∧ W0.cell? ⟨wr.heap.size, 3, none⟩ = some (.slice X1 k1 e1) ∧ W0.cell? ⟨G, 0, none⟩ = some (.int .i64 d) := ⟨L_n.out.cell 0, L_n.out.cell 1, L_n.out.cell 2, L_n.out.cell 3, hU1.out.G'.cell 0⟩
      by_cases hz : nodeF lv nn rt (es.map EV.val) d = 0
      rotate_left
      · have HS := Lib.hid (firstNZ_stop (f := nodeFv d) hA.out HX.out hz)
        have hz1 : (nodeF lv nn rt (es.map EV.val) d != 0) = true := by simpa using hz
        have HF : Hid (firstNZ (nodeFv d) (ns.map NV.val) = nodeF lv nn rt (es.map EV.val) d) := HS.out
        have HNZ := Lib.hid hz
        clear hA hz HS
        go_region_held3 (fun w' => w'.cell? ⟨wr.heap.size, 0, none⟩ = some (.int .i64 lv) ∧ w'.cell? ⟨wr.heap.size, 1, none⟩ = some (.int .i64 nn) ∧ w'.cell? ⟨wr.heap.size, 2, none⟩ = some (.int .i64 rt) ∧ w'.cell? ⟨wr.heap.size, 3, none⟩ = some (.slice X1 k1 e1) ∧ w'.cell? ⟨G, 0, none⟩ = some (.int .i64 d))
          (first | (simp [go_sem, k_0]; done) | with_reducible exact k_1)
          (first
            | (go_at_call 100; refine (openNode_no lv nn rt d k1 e1 X1 es _ (hE.out.kept hB1.out.drew) hk1 HNZ.out).mono ?_
               rintro e W1 ⟨rfl, b1d⟩
               have b1 := below_drawn b1d
               have k_1 : W1.cell? ⟨wr.heap.size, 0, none⟩ = some (.int .i64 lv) ∧ W1.cell? ⟨wr.heap.size, 1, none⟩ = some (.int .i64 nn) ∧ W1.cell? ⟨wr.heap.size, 2, none⟩ = some (.int .i64 rt) ∧ W1.cell? ⟨wr.heap.size, 3, none⟩ = some (.slice X1 k1 e1) ∧ W1.cell? ⟨G, 0, none⟩ = some (.int .i64 d) := ⟨(L_n.out.kept b1 L_n.out.inside).cell 0, (L_n.out.kept b1 L_n.out.inside).cell 1, (L_n.out.kept b1 L_n.out.inside).cell 2, (L_n.out.kept b1 L_n.out.inside).cell 3, (hU1.out.call b1).G'.cell 0⟩
               clear b1d))
        have hT := Lib.hid (hU1.out.call b1).T
        clear k_0 k_1 b1
        go_wp2
        go_ret
        exact ⟨ret_i64 HF.out.symm, hT.out, fun h => absurd (HF.out ▸ h) HNZ.out⟩
      have hA' := Lib.hid (upto_next (P := fun u => nodeFv d u = 0) hA.out HX.out hz)
      have HZ := Lib.hid hz
      clear hA hz
      go_region_held3 (fun w' => w'.cell? ⟨wr.heap.size, 0, none⟩ = some (.int .i64 lv) ∧ w'.cell? ⟨wr.heap.size, 1, none⟩ = some (.int .i64 nn) ∧ w'.cell? ⟨wr.heap.size, 2, none⟩ = some (.int .i64 rt) ∧ w'.cell? ⟨wr.heap.size, 3, none⟩ = some (.slice X1 k1 e1) ∧ w'.cell? ⟨G, 0, none⟩ = some (.int .i64 d))
        (first | (simp [go_sem, k_0]; done) | with_reducible exact k_1)
        (first
          | (go_at_call 100; refine (openNode_yes lv nn rt d k1 e1 X1 es _ (hE.out.kept hB1.out.drew) hk1 HZ.out).mono ?_
             rintro e W1 ⟨A', c', ss, rfl, hS, hO, hF, b1d⟩
             have b1 := below_drawn b1d
             have k_1 : W1.cell? ⟨wr.heap.size, 0, none⟩ = some (.int .i64 lv) ∧ W1.cell? ⟨wr.heap.size, 1, none⟩ = some (.int .i64 nn) ∧ W1.cell? ⟨wr.heap.size, 2, none⟩ = some (.int .i64 rt) ∧ W1.cell? ⟨wr.heap.size, 3, none⟩ = some (.slice X1 k1 e1) ∧ W1.cell? ⟨G, 0, none⟩ = some (.int .i64 d) := ⟨(L_n.out.kept b1 L_n.out.inside).cell 0, (L_n.out.kept b1 L_n.out.inside).cell 1, (L_n.out.kept b1 L_n.out.inside).cell 2, (L_n.out.kept b1 L_n.out.inside).cell 3, (hU1.out.call b1).G'.cell 0⟩
             clear b1d))
      have hU2 := Lib.hid (hU1.out.call b1)
      have bw1 := Lib.hid (bw0.out.trans (b1.mono bw0.out.size))
      have HSS := Lib.hid hS
      have HO := Lib.hid hO
      have HF0 := Lib.hid (hF.lower (show wr.heap.size + 1 ≤ _ by simp only [size_of_drew]; omega))
      have hU0s : w.heap.size ≤ wr.heap.size + 1 := by have := hU.out.T.2.1; omega
      have b1s := b1.size
      clear k_0 k_1 b1 hS hO hF hU1 bw0 L_n hB1
      have g1 : W1.cell? ⟨G, 1, none⟩ = some v := hU2.out.G'.cell 1
      have hGW : G < W1.heap.size := hU2.out.G'.inside
      have hlo1 : w.heap.size ≤ W1.heap.size := hU2.out.T.2.1
      have bP := Lib.hid (below_alloc W1 (.cells #[.iface (hty lv) (.agg #[.int .i64 d, .slice A' k1 c', .int .i64 lv, .int .i64 nn, .int .i64 rt]), .bool false, .slice none 0 0] 181))
      have LP := Lib.hid (Lies.new W1 181 #[.iface (hty lv) (.agg #[.int .i64 d, .slice A' k1 c', .int .i64 lv, .int .i64 nn, .int .i64 rt]), .bool false, .slice none 0 0])
      have bQ := Lib.hid (bP.out.alloc bP.out.size (.cells #[.pointer (some ⟨W1.heap.size, 0, none⟩)] 179))
      have HS7 := Lib.hid (ownsRow_below hU2.out.S bQ.out)
      have LQ := Lib.hid (Lies.laid2 W1 (.cells #[.iface (hty lv) (.agg #[.int .i64 d, .slice A' k1 c', .int .i64 lv, .int .i64 nn, .int .i64 rt]), .bool false, .slice none 0 0] 181) 179 #[.pointer (some ⟨W1.heap.size, 0, none⟩)])
      have NEWS : Hid (∀ j u, ([.pointer (some ⟨W1.heap.size, 0, none⟩)] : List Value)[j]? = some u → ((W1.alloc (.cells #[.iface (hty lv) (.agg #[.int .i64 d, .slice A' k1 c', .int .i64 lv, .int .i64 nn, .int .i64 rt]), .bool false, .slice none 0 0] 181)).alloc (.cells #[.pointer (some ⟨W1.heap.size, 0, none⟩)] 179)).cell? ((⟨W1.heap.size + 1, 0, none⟩ : Addr).add j) = some u) := World.news_of_block (cs := #[.pointer (some ⟨W1.heap.size, 0, none⟩)]) (t := 179) (fr := (0, 0)) LQ.out
      have POK : Hid (PlaceOk ((W1.alloc (.cells #[.iface (hty lv) (.agg #[.int .i64 d, .slice A' k1 c', .int .i64 lv, .int .i64 nn, .int .i64 rt]), .bool false, .slice none 0 0] 181)).alloc (.cells #[.pointer (some ⟨W1.heap.size, 0, none⟩)] 179)) w.heap.size d ⟨W1.heap.size, lv, nn, rt, A', k1, c', ss, es.map EV.val, false, none, 0, 0, []⟩) := by
        refine ⟨(LP.out.alloc _), HSS.out.kept bQ.out, HO.out, HZ.out, Ints.empty _ _ _, hlo1, HF0.out.lower hU0s, fun h => absurd h (Nat.lt_irrefl 0), ?_⟩
        rintro (⟨h0, e⟩ | ⟨h0, _⟩)
        · have := Fresh.in_slots HSS.out h0 e
          simp only at this; omega
        · exact absurd h0 (Nat.lt_irrefl 0)
      go_wp2_with (with_reducible refine wpList_append_lies _ rfl (.tmp 31) (.tmp 35) 175 rfl w.heap.size 179 i0 (.pointer none) 1 8 Try.underlying175 IP.out.1 IP.out.2.1 IP.out.2.2.1 IP.out.2.2.2 rfl (by omega) v k (ps.map LV.ptr) rfl HS7.out ⟨W1.heap.size + 1, 0, none⟩ 1 1 [.pointer (some ⟨W1.heap.size, 0, none⟩)] rfl rfl NEWS.out ?q2 (by omega) ?q3 ?q4 ?q5 (W1.heap.size + 1 + 1) ?q6 ?_)
      case q2 => simp [Value.oneCell']
      case q3 => unfold maxLen; omega
      case q4 => omega
      case q5 => simp only [World.size_alloc]; omega
      case q6 => simp only [World.size_alloc]
      intro gg cap w1 ho hw hat hlt1
      have hU3 := Lib.hid (Laid.put (p := ⟨W1.heap.size, lv, nn, rt, A', k1, c', ss, es.map EV.val, false, none, 0, 0, []⟩) (W := ((W1.alloc (.cells #[.iface (hty lv) (.agg #[.int .i64 d, .slice A' k1 c', .int .i64 lv, .int .i64 nn, .int .i64 rt]), .bool false, .slice none 0 0] 181)).alloc (.cells #[.pointer (some ⟨W1.heap.size, 0, none⟩)] 179))) hU.out (bw1.out.trans (bQ.out.mono bw1.out.size)) POK.out bw1.out.size (HF0.out.lower (Nat.le_succ _)) rfl (Nat.le_refl _) ho hw hat (by simp only [World.size_alloc]))
      have hGm : Hid (Lies w1 G 178 #[.int .i64 d, v, m, o]) := by
        have h2 := hU2.out.call bQ.out
        exact (hw.block G h2.G'.inside (fun e => by have := (ownsRow_block2 h2.S G e.symm).1; have := h2.g; omega)).trans h2.G'
      have s1 : w1.cell? ⟨G, 1, none⟩ = some v := hGm.out.cell 1
      have f1 : w1.frozen? ⟨G, 1, none⟩ = false := hGm.out.thawed 1
      have hV2 : Hid ((ps ++ [(⟨W1.heap.size, lv, nn, rt, A', k1, c', ss, es.map EV.val, false, none, 0, 0, []⟩ : LV)]).map LV.val = (ns.map NV.val).take (k + 1) ∧ ∀ p ∈ ps ++ [(⟨W1.heap.size, lv, nn, rt, A', k1, c', ss, es.map EV.val, false, none, 0, 0, []⟩ : LV)], p.new) := by
        refine ⟨?_, fun p hp => ?_⟩
        · rw [List.map_append, hV.out.1, List.take_add_one, HX.out]; rfl
        · rcases List.mem_append.1 hp with hp | hp
          · exact hV.out.2 p hp
          · simp only [List.mem_singleton] at hp; subst hp; exact ⟨rfl, rfl, rfl, rfl, rfl⟩
      clear ho hw hat hlt1 POK NEWS LQ HS7 bQ bP LP hU2 g1 hV hU bw1
      go_wp2
      go_roundw
      case rel => exact ⟨k + 1, _, _, by omega, by go_num, hU3, hV2, hA'⟩
      case measure => simp [intOf]; omega
    · have HN1 := Lib.hid (firstNZ_all (f := nodeFv d) (upto_end hA.out (by rw [HL1.out]; omega)))
      have hkn : k = n := by omega
      subst hkn
      have HV : Hid (ps.map LV.val = ns.map NV.val ∧ ∀ p ∈ ps, p.new) := ⟨by have := hV.out.1; rwa [List.take_of_length_le (by rw [HL1.out]; omega)] at this, hV.out.2⟩
      clear hA
      go_wp2
      go_ret
      exact ⟨ret_i64 HN1.out.symm, hU.out.T, fun _ => ⟨ps, v, hU.out, HV.out⟩⟩

end Go.Proofs.Ytbnlgmcjklfcoaa

/- The walks of impl.slot's entry, impl.bunch's entries and impl.nodeBody's node: slots become entries in memory of their own. -/
namespace Go.Proofs.Ytbnlgmcjklfcoaa
open Go.RowKit

set_option maxHeartbeats 1600000 in
theorem slotEntry_any (p0 p1 p2 q0 q1 q2 ref nsn d : Int) (n : Nat) (xs ys : List Int) (w : World) (hp : Pad xs p0 p1 p2) (hq : Pad ys q0 q1 q2) (hn : xs.length = n) (hm : ys.length = n) (hd : d = n) :
    Calls Try.prog 145 #[.agg #[.int .i64 p0, .int .i64 p1, .int .i64 p2, .int .i64 q0, .int .i64 q1, .int .i64 q2, .int .i64 ref, .int .i64 nsn], .int .i64 d] w fun e w' => ∃ g g', e = .returned (.agg #[.slice (some ⟨g, 0, none⟩) n n, .slice (some ⟨g', 0, none⟩) n n, .int .i64 ref, .int .i64 nsn]) ∧ Own w' g n xs ∧ Own w' g' n ys ∧ w.heap.size ≤ g ∧ g < g' ∧ Below w.heap.size w w' := by
  have HP := Lib.hid hp
  have HQ := Lib.hid hq
  have HN := Lib.hid hn
  have HM := Lib.hid hm
  have HD := Lib.hid hd
  clear hp hq hn hm hd
  have B0 := Lib.hid (below_alloc w (.cells #[.int .i64 p0, .int .i64 p1, .int .i64 p2, .int .i64 q0, .int .i64 q1, .int .i64 q2, .int .i64 ref, .int .i64 nsn] 150))
  replace B0 := Lib.hid (B0.out.alloc B0.out.size (.cells #[.slice none 0 0, .slice none 0 0, .int .i64 0, .int .i64 0] 77))
  have L0 := Lib.hid ((Lies.new w 150 #[.int .i64 p0, .int .i64 p1, .int .i64 p2, .int .i64 q0, .int .i64 q1, .int .i64 q2, .int .i64 ref, .int .i64 nsn]).alloc (.cells #[.slice none 0 0, .slice none 0 0, .int .i64 0, .int .i64 0] 77))
  have L1 := Lib.hid (Lies.new (w.alloc (.cells #[.int .i64 p0, .int .i64 p1, .int .i64 p2, .int .i64 q0, .int .i64 q1, .int .i64 q2, .int .i64 ref, .int .i64 nsn] 150)) 77 #[.slice none 0 0, .slice none 0 0, .int .i64 0, .int .i64 0])
  simp only [World.size_alloc] at L1
  go_enter Try.func145, Try.ntmps145
  go_wp2
  generalize hW : ((w.alloc (.cells #[.int .i64 p0, .int .i64 p1, .int .i64 p2, .int .i64 q0, .int .i64 q1, .int .i64 q2, .int .i64 ref, .int .i64 nsn] 150)).alloc (.cells #[.slice none 0 0, .slice none 0 0, .int .i64 0, .int .i64 0] 77)) = W0 at *
  clear hW
  have K0 : W0.cell? ⟨w.heap.size, 0, none⟩ = some (.int .i64 p0) ∧ W0.cell? ⟨w.heap.size, 1, none⟩ = some (.int .i64 p1) ∧ W0.cell? ⟨w.heap.size, 2, none⟩ = some (.int .i64 p2) ∧ W0.cell? ⟨w.heap.size, 3, none⟩ = some (.int .i64 q0) ∧ W0.cell? ⟨w.heap.size, 4, none⟩ = some (.int .i64 q1) ∧ W0.cell? ⟨w.heap.size, 5, none⟩ = some (.int .i64 q2) ∧ W0.cell? ⟨w.heap.size, 6, none⟩ = some (.int .i64 ref) ∧ W0.cell? ⟨w.heap.size, 7, none⟩ = some (.int .i64 nsn) := ⟨L0.out.cell 0, L0.out.cell 1, L0.out.cell 2, L0.out.cell 3, L0.out.cell 4, L0.out.cell 5, L0.out.cell 6, L0.out.cell 7⟩
  go_region_held3 (fun w' => w'.cell? ⟨w.heap.size, 0, none⟩ = some (.int .i64 p0) ∧ w'.cell? ⟨w.heap.size, 1, none⟩ = some (.int .i64 p1) ∧ w'.cell? ⟨w.heap.size, 2, none⟩ = some (.int .i64 p2) ∧ w'.cell? ⟨w.heap.size, 3, none⟩ = some (.int .i64 q0) ∧ w'.cell? ⟨w.heap.size, 4, none⟩ = some (.int .i64 q1) ∧ w'.cell? ⟨w.heap.size, 5, none⟩ = some (.int .i64 q2) ∧ w'.cell? ⟨w.heap.size, 6, none⟩ = some (.int .i64 ref) ∧ w'.cell? ⟨w.heap.size, 7, none⟩ = some (.int .i64 nsn))
    (first | (simp [go_sem, K0]; done) | with_reducible exact K1 | (simp [go_sem, K1]; done))
    (first
      | (go_at_call 102; refine (rect_any p0 p1 p2 q0 q1 q2 d n xs ys _ HP.out HQ.out HN.out HM.out HD.out).mono ?_
         rintro e W1 ⟨g, g', rfl, o1, o2, lg, lg', b1d⟩
         have b1 := below_drawn b1d
         have K1 : W1.cell? ⟨w.heap.size, 0, none⟩ = some (.int .i64 p0) ∧ W1.cell? ⟨w.heap.size, 1, none⟩ = some (.int .i64 p1) ∧ W1.cell? ⟨w.heap.size, 2, none⟩ = some (.int .i64 p2) ∧ W1.cell? ⟨w.heap.size, 3, none⟩ = some (.int .i64 q0) ∧ W1.cell? ⟨w.heap.size, 4, none⟩ = some (.int .i64 q1) ∧ W1.cell? ⟨w.heap.size, 5, none⟩ = some (.int .i64 q2) ∧ W1.cell? ⟨w.heap.size, 6, none⟩ = some (.int .i64 ref) ∧ W1.cell? ⟨w.heap.size, 7, none⟩ = some (.int .i64 nsn) := ⟨(L0.out.kept b1 L0.out.inside).cell 0, (L0.out.kept b1 L0.out.inside).cell 1, (L0.out.kept b1 L0.out.inside).cell 2, (L0.out.kept b1 L0.out.inside).cell 3, (L0.out.kept b1 L0.out.inside).cell 4, (L0.out.kept b1 L0.out.inside).cell 5, (L0.out.kept b1 L0.out.inside).cell 6, (L0.out.kept b1 L0.out.inside).cell 7⟩
         have z0 : W1.cell? ⟨w.heap.size + 1, 0, none⟩ = some (.slice none 0 0) := (L1.out.kept b1 L1.out.inside).cell 0
         have z1 : W1.cell? ⟨w.heap.size + 1, 1, none⟩ = some (.slice none 0 0) := (L1.out.kept b1 L1.out.inside).cell 1
         have z2 : W1.cell? ⟨w.heap.size + 1, 2, none⟩ = some (.int .i64 0) := (L1.out.kept b1 L1.out.inside).cell 2
         have z3 : W1.cell? ⟨w.heap.size + 1, 3, none⟩ = some (.int .i64 0) := (L1.out.kept b1 L1.out.inside).cell 3
         have y0 : W1.frozen? ⟨w.heap.size + 1, 0, none⟩ = false := (L1.out.kept b1 L1.out.inside).thawed 0
         have y1 : W1.frozen? ⟨w.heap.size + 1, 1, none⟩ = false := (L1.out.kept b1 L1.out.inside).thawed 1
         have y2 : W1.frozen? ⟨w.heap.size + 1, 2, none⟩ = false := (L1.out.kept b1 L1.out.inside).thawed 2
         have y3 : W1.frozen? ⟨w.heap.size + 1, 3, none⟩ = false := (L1.out.kept b1 L1.out.inside).thawed 3
         have lg2 : W0.heap.size ≤ g := lg
         clear b1d lg))
  have hin := L1.out.inside
  have O1 := Lib.hid o1
  have O2 := Lib.hid o2
  clear o1 o2
  go_wp2
  refine bodyPost_ret (v := .agg #[.slice (some ⟨g, 0, none⟩) n n, .slice (some ⟨g', 0, none⟩) n n, .int .i64 ref, .int .i64 nsn]) (by simp [results, Try.results145, go_sem, z0, z1, z2, z3]) rfl ⟨g, g', rfl, ?_, ?_, by omega, lg', ?_⟩
  · with_reducible (repeat (first | exact O1.out | refine Own.far ?_ ?_ _))
    all_goals (show g ≠ w.heap.size + 1; omega)
  · with_reducible (repeat (first | exact O2.out | refine Own.far ?_ ?_ _))
    all_goals (show g' ≠ w.heap.size + 1; omega)
  · have BE := B0.out.trans (b1.mono B0.out.size)
    repeat (with_reducible refine Below.setCell ?_ (by exact Nat.le_succ _) _)
    exact BE

theorem Coords.lower {w : World} {base base' : Nat} {qs : List EV} (h : Coords w base qs) (hb : base' ≤ base) : Coords w base' qs := by
  intro q hq
  obtain ⟨g1, g2, a1, a2, a3, a4, a5, a6, o1, o2⟩ := h q hq
  exact ⟨g1, g2, a1, a2, by omega, by omega, a5, a6, o1, o2⟩
theorem EntriesRes.lower {w : World} {base base' n c : Nat} {A : Option Addr} {qs : List EV} (h : EntriesRes w base A n c qs) (hb : base' ≤ base) : EntriesRes w base' A n c qs := by
  refine ⟨⟨h.S.1, ?_⟩, h.C.lower hb, h.D, h.E⟩
  rcases h.S.2 with h1 | ⟨g, cap, cur, h1, h2, h3⟩
  · exact Or.inl h1
  · exact Or.inr ⟨g, cap, cur, h1, by omega, h3⟩
theorem EntriesRes.farLow {w : World} {base n c : Nat} {A : Option Addr} {qs : List EV} (h : EntriesRes w base A n c qs) {a : Addr} (ha : a.block < base) (v : Value) : EntriesRes (w.setCell a v) base A n c qs := by
  refine ⟨ownsRow_far2 h.S ha v, h.C.others (fun x hx => heap_setCell_other w a x v (fun e => by have := (h.C.inside x hx).1; omega)), h.D, h.E⟩

/-- Where the loop of entries stands. -/
structure Entried (w wr : World) (bd : Array Value) (k : Nat) (qs : List EV) (v : Value) : Prop where
  b : Below w.heap.size w wr
  m : Lies wr w.heap.size 113 bd
  S : wr.ownsRow (w.heap.size + 1) 77 4 v k (qs.flatMap EV.cells)
  C : Coords wr (w.heap.size + 1) qs
  D : (coords qs).Nodup
  E : ∀ g, v.ownBlock = some g → g ∉ coords qs

section
variable {w wr : World} {bd : Array Value} {k : Nat} {qs : List EV} {v : Value}
theorem Entried.drew (h : Entried w wr bd k qs v) : Entried w wr.drew bd k qs v := ⟨h.b.drew, h.m, h.S.drew, h.C, h.D, h.E⟩
theorem Entried.alloc (h : Entried w wr bd k qs v) (o : Obj) : Entried w (wr.alloc o) bd k qs v := ⟨h.b.alloc h.b.size o, h.m.alloc o, h.S.alloc o, h.C.kept (below_alloc _ _), h.D, h.E⟩
theorem Entried.call {W : World} (h : Entried w wr bd k qs v) (hb : Below wr.heap.size wr W) : Entried w W bd k qs v := ⟨h.b.trans (hb.mono h.b.size), h.m.kept hb h.m.inside, ownsRow_below h.S hb, h.C.kept hb, h.D, h.E⟩
/-- One entry more, with two rows of its own that are new. -/
theorem Entried.put {w0 w1 : World} {g cap g1 g2 dd : Nat} {ref nsn : Int} {x1 x2 : List Int} (h : Entried w w0 bd k qs v) (hb : Below w0.heap.size w0 wr) (hwr : wr.heap.size ≤ w1.heap.size) (o1 : Own wr g1 dd x1) (o2 : Own wr g2 dd x2) (l1 : w0.heap.size ≤ g1) (l2 : g1 < g2) (hd : dd ≤ 3)
    (ho : w1.ownsRow (w.heap.size + 1) 77 4 (.slice (some ⟨g, 0, none⟩) (k + 1) cap) (k + 1) (qs.flatMap EV.cells ++ EV.cells ⟨some ⟨g1, 0, none⟩, dd, dd, some ⟨g2, 0, none⟩, dd, dd, ref, nsn, x1, x2⟩)) (hg : wr.grownBy w1 v.ownBlock) (hat : v.ownBlock = some g ∨ wr.heap.size ≤ g) :
    Entried w w1 bd (k + 1) (qs ++ [⟨some ⟨g1, 0, none⟩, dd, dd, some ⟨g2, 0, none⟩, dd, dd, ref, nsn, x1, x2⟩]) (.slice (some ⟨g, 0, none⟩) (k + 1) cap) := by
  have h' := h.call hb
  have hbk := ownsRow_block2 h.S
  have hsz := h.m.inside
  have i1 := o1.inside
  have i2 := o2.inside
  have ci := h.C.inside
  have nr : ∀ x, x < w.heap.size + 1 → some x ≠ v.ownBlock := fun x hx e => by have := (hbk x e.symm).1; omega
  have keepRow : ∀ {gx m : Nat} {zs : List Int}, Own wr gx m zs → gx < wr.heap.size → some gx ≠ v.ownBlock → Own w1 gx m zs :=
    fun hz hx hne => ⟨hz.1, hz.2.of_block (hg.block _ hx hne)⟩
  have cs : coords (qs ++ [(⟨some ⟨g1, 0, none⟩, dd, dd, some ⟨g2, 0, none⟩, dd, dd, ref, nsn, x1, x2⟩ : EV)]) = coords qs ++ [g1, g2] := by simp [coords, blk]
  have nv1 : some g1 ≠ v.ownBlock := fun e => by have := (hbk g1 e.symm).2; omega
  have nv2 : some g2 ≠ v.ownBlock := fun e => by have := (hbk g2 e.symm).2; omega
  refine ⟨below_grown2 h'.b hg (fun r e => by have := (hbk r e).1; omega) h'.b.size, (hg.block _ h'.m.inside (nr _ (by omega))).trans h'.m, ?_, ?_, ?_, ?_⟩
  · rw [List.flatMap_append]
    have : ([(⟨some ⟨g1, 0, none⟩, dd, dd, some ⟨g2, 0, none⟩, dd, dd, ref, nsn, x1, x2⟩ : EV)].flatMap EV.cells) = EV.cells ⟨some ⟨g1, 0, none⟩, dd, dd, some ⟨g2, 0, none⟩, dd, dd, ref, nsn, x1, x2⟩ := by simp
    rw [this]
    exact ho
  · intro q hq
    rcases List.mem_append.1 hq with hq | hq
    · obtain ⟨ga, gb, a1, a2, a3, a4, a5, a6, oa, ob⟩ := h'.C q hq
      have hm := coords_mem hq
      rw [a1, a2] at hm
      exact ⟨ga, gb, a1, a2, a3, a4, a5, a6, keepRow oa oa.inside (fun e => h.E ga e.symm hm.1), keepRow ob ob.inside (fun e => h.E gb e.symm hm.2)⟩
    · simp only [List.mem_singleton] at hq
      subst hq
      exact ⟨g1, g2, rfl, rfl, by omega, by omega, hd, hd, keepRow o1 i1 nv1, keepRow o2 i2 nv2⟩
  · rw [cs, List.nodup_append]
    refine ⟨h.D, by simp; omega, fun a ha b hb' => ?_⟩
    have := (ci a ha).2
    simp only [List.mem_cons, List.not_mem_nil, or_false] at hb'
    rcases hb' with rfl | rfl <;> omega
  · intro gg hgg
    simp only [Value.ownBlock, Option.some.injEq] at hgg
    subst hgg
    rw [cs]
    simp only [List.mem_append, List.mem_cons, List.not_mem_nil, or_false, not_or]
    rcases hat with hat | hat
    · have := (hbk g hat).2
      exact ⟨h.E g hat, by omega, by omega⟩
    · have hs0 := hb.size
      exact ⟨fun hx => by have := (ci g hx).2; omega, by omega, by omega⟩
end
theorem Entried.start (w : World) (bd : Array Value) : Entried w (w.alloc (.cells bd 113)) bd 0 [] (.slice none 0 0) :=
  ⟨below_alloc _ _, Lies.new w _ _, ⟨rfl, Or.inl ⟨rfl, rfl⟩⟩, fun q hq => by simp at hq, List.nodup_nil, fun g h => by simp [Value.ownBlock] at h⟩

set_option maxRecDepth 100000 in
set_option maxHeartbeats 6400000 in
theorem bunchEntries_any (d : Int) (n c dd : Nat) (A : Option Addr) (vs : List EVal) (ss : List SL) (w : World) (hp : Slots w A n ss) (ho : SlotsOf vs ss) (hn : n ≤ 8) (hl : LensE dd vs) (hd : d = dd) (hd3 : dd ≤ 3) :
    Calls Try.prog 97 #[.agg #[.int .i64 d, .slice A n c]] w fun e w' => ∃ A' c' qs, e = .returned (.slice A' n c') ∧ EntriesRes w' w.heap.size A' n c' qs ∧ qs.map EV.val = vs ∧ Below w.heap.size w w' := by
  have HP := Lib.hid hp
  have HO := Lib.hid ho
  have HE := Lib.hid hl
  have HL : Hid (vs.length = n) := ho.1.symm.trans hp.1
  have HD := Lib.hid hd
  clear hp ho hl hd
  obtain ⟨i0, hi0, hz0, hz1, hz2⟩ := info_entry4
  have IP := Lib.hid (And.intro hi0 (And.intro hz0 (And.intro hz1 hz2)))
  clear hi0 hz0 hz1 hz2
  go_enter Try.func97, Try.ntmps97
  go_wp2
  go_loopw [3, 9] (fun l i wr => ∃ (k : Nat) (v : Value) (qs : List EV), k ≤ n ∧ i = .int .i64 k ∧ v = l ∧ Hid (Entried w wr #[.int .i64 d, .slice A n c] k qs v) ∧ Hid (qs.map EV.val = vs.take k)) (fun _ i _ => n - (intOf i).toNat)
  case atStart => exact ⟨0, .slice none 0 0, [], Nat.zero_le _, rfl, rfl, Entried.start w _, rfl⟩
  case round =>
    obtain ⟨k, v, qs, hk, rfl, rfl, hU, hV⟩ := hrel
    by_cases hlt : k < n
    · obtain ⟨b, o, p0, p1, p2, q0, q1, q2, ref, nsn, rfl, hb, d0, d1, d2, d3, d4, d5, d6, d7, hx⟩ := HP.out.cellAt hlt
      have e0 : wr.cell? ⟨b, o + k * 8, none⟩ = some (.int .i64 p0) := (hU.out.b.cell (p := ⟨b, o + k * 8, none⟩) hb).trans d0
      have e1 : wr.cell? ⟨b, o + k * 8 + 1, none⟩ = some (.int .i64 p1) := (hU.out.b.cell (p := ⟨b, o + k * 8 + 1, none⟩) hb).trans d1
      have e2 : wr.cell? ⟨b, o + k * 8 + 2, none⟩ = some (.int .i64 p2) := (hU.out.b.cell (p := ⟨b, o + k * 8 + 2, none⟩) hb).trans d2
      have e3 : wr.cell? ⟨b, o + k * 8 + 3, none⟩ = some (.int .i64 q0) := (hU.out.b.cell (p := ⟨b, o + k * 8 + 3, none⟩) hb).trans d3
      have e4 : wr.cell? ⟨b, o + k * 8 + 4, none⟩ = some (.int .i64 q1) := (hU.out.b.cell (p := ⟨b, o + k * 8 + 4, none⟩) hb).trans d4
      have e5 : wr.cell? ⟨b, o + k * 8 + 5, none⟩ = some (.int .i64 q2) := (hU.out.b.cell (p := ⟨b, o + k * 8 + 5, none⟩) hb).trans d5
      have e6 : wr.cell? ⟨b, o + k * 8 + 6, none⟩ = some (.int .i64 ref) := (hU.out.b.cell (p := ⟨b, o + k * 8 + 6, none⟩) hb).trans d6
      have e7 : wr.cell? ⟨b, o + k * 8 + 7, none⟩ = some (.int .i64 nsn) := (hU.out.b.cell (p := ⟨b, o + k * 8 + 7, none⟩) hb).trans d7
      clear d0 d1 d2 d3 d4 d5 d6 d7
      obtain ⟨ev, hev, hso⟩ := HO.out.at hx.out
      obtain ⟨x1, x2, ref', nsn'⟩ := ev
      obtain ⟨hp1, hq1, hr1, hn1⟩ := hso
      simp only at hr1 hn1 hp1 hq1
      subst hr1 hn1
      have hls := HE.out k _ hev
      simp only at hls
      have H1 := Lib.hid hp1
      have H2 := Lib.hid hq1
      have HLS := Lib.hid hls
      have hV' := fun (g1 g2 : Nat) => Lib.hid (show (qs ++ [(⟨some ⟨g1, 0, none⟩, dd, dd, some ⟨g2, 0, none⟩, dd, dd, ref, nsn, x1, x2⟩ : EV)]).map EV.val = vs.take (k + 1) by rw [List.map_append, hV.out, List.take_add_one, hev]; rfl)
      clear hx hev hp1 hq1 hls
      have hU0 := Lib.hid (hU.out.alloc (.cells #[.int .i64 p0, .int .i64 p1, .int .i64 p2, .int .i64 q0, .int .i64 q1, .int .i64 q2, .int .i64 ref, .int .i64 nsn] 150))
      have kd : (wr.alloc (.cells #[.int .i64 p0, .int .i64 p1, .int .i64 p2, .int .i64 q0, .int .i64 q1, .int .i64 q2, .int .i64 ref, .int .i64 nsn] 150)).cell? ⟨w.heap.size, 0, none⟩ = some (.int .i64 d) := hU0.out.m.cell 0
      clear hU hV
      go_wp2_with fail
      refine (slotEntry_any p0 p1 p2 q0 q1 q2 ref nsn d dd x1 x2 _ H1.out H2.out HLS.out.1 HLS.out.2 HD.out).mono ?_
      rintro e W1 ⟨g1, g2, rfl, o1, o2, lg1, lg2, b1⟩
      have bP := Lib.hid (below_alloc W1 (.cells #[.slice (some ⟨g1, 0, none⟩) dd dd, .slice (some ⟨g2, 0, none⟩) dd dd, .int .i64 ref, .int .i64 nsn] 77))
      have LP := Lib.hid (Lies.new W1 77 #[.slice (some ⟨g1, 0, none⟩) dd dd, .slice (some ⟨g2, 0, none⟩) dd dd, .int .i64 ref, .int .i64 nsn])
      have HS7 := Lib.hid ((hU0.out.call b1).call bP.out).S
      have NEWS : Hid (∀ j u, ([.slice (some ⟨g1, 0, none⟩) dd dd, .slice (some ⟨g2, 0, none⟩) dd dd, .int .i64 ref, .int .i64 nsn] : List Value)[j]? = some u → (W1.alloc (.cells #[.slice (some ⟨g1, 0, none⟩) dd dd, .slice (some ⟨g2, 0, none⟩) dd dd, .int .i64 ref, .int .i64 nsn] 77)).cell? ((⟨W1.heap.size, 0, none⟩ : Addr).add j) = some u) := World.news_of_block (cs := #[.slice (some ⟨g1, 0, none⟩) dd dd, .slice (some ⟨g2, 0, none⟩) dd dd, .int .i64 ref, .int .i64 nsn]) (t := 77) (fr := (0, 0)) LP.out
      have O_1 := Lib.hid (o1.alloc (.cells #[.slice (some ⟨g1, 0, none⟩) dd dd, .slice (some ⟨g2, 0, none⟩) dd dd, .int .i64 ref, .int .i64 nsn] 77))
      have O_2 := Lib.hid (o2.alloc (.cells #[.slice (some ⟨g1, 0, none⟩) dd dd, .slice (some ⟨g2, 0, none⟩) dd dd, .int .i64 ref, .int .i64 nsn] 77))
      have bW := Lib.hid (b1.alloc b1.size (.cells #[.slice (some ⟨g1, 0, none⟩) dd dd, .slice (some ⟨g2, 0, none⟩) dd dd, .int .i64 ref, .int .i64 nsn] 77))
      have hsW : w.heap.size + 1 ≤ W1.heap.size := Nat.le_trans hU0.out.m.inside b1.size
      clear o1 o2 b1 bP LP kd e0 e1 e2 e3 e4 e5 e6 e7
      go_wp2_with (with_reducible refine wpList_append_lies _ rfl (.tmp 13) (.tmp 18) 25 rfl (w.heap.size + 1) 77 i0 (.agg #[.slice none 0 0, .slice none 0 0, .int .i64 0, .int .i64 0]) 4 64 Try.underlying25 IP.out.1 IP.out.2.1 IP.out.2.2.1 IP.out.2.2.2 rfl (by omega) v k (qs.flatMap EV.cells) rfl HS7.out ⟨W1.heap.size, 0, none⟩ 1 1 [.slice (some ⟨g1, 0, none⟩) dd dd, .slice (some ⟨g2, 0, none⟩) dd dd, .int .i64 ref, .int .i64 nsn] rfl rfl NEWS.out ?q2 (by omega) ?q3 ?q4 ?q5 (W1.heap.size + 1) ?q6 ?_)
      case q2 => simp [Value.oneCell']
      case q3 => unfold maxLen; omega
      case q4 => omega
      case q5 => simp only [World.size_alloc]; omega
      case q6 => simp only [World.size_alloc]
      intro gg cap w1 ho hw hat hlt1
      have hS2 : Hid (Entried w w1 #[.int .i64 d, .slice (some ⟨b, o, none⟩) n c] (k + 1) (qs ++ [⟨some ⟨g1, 0, none⟩, dd, dd, some ⟨g2, 0, none⟩, dd, dd, ref, nsn, x1, x2⟩]) (.slice (some ⟨gg, 0, none⟩) (k + 1) cap)) :=
        Entried.put (w0 := wr.alloc (.cells #[.int .i64 p0, .int .i64 p1, .int .i64 p2, .int .i64 q0, .int .i64 q1, .int .i64 q2, .int .i64 ref, .int .i64 nsn] 150)) hU0.out bW.out hw.size O_1.out O_2.out lg1 lg2 hd3 ho hw (hat.imp id fun h => by simp only [World.size_alloc]; omega)
      have hV2 := hV' g1 g2
      clear ho hw hat hlt1 HS7 NEWS O_1 O_2 bW hU0
      go_wp2
      go_roundw
      case rel => exact ⟨k + 1, _, _, by omega, by go_num, rfl, hS2, hV2⟩
      case measure => simp [intOf]; omega
    · have hkn : k = n := by omega
      subst hkn
      have HV : Hid (qs.map EV.val = vs) := by
        have := hV.out
        rwa [List.take_of_length_le (by rw [HL.out]; omega)] at this
      obtain ⟨A', c', hv⟩ : ∃ A' c', v = .slice A' k c' := by
        rcases hU.out.S.2 with ⟨e, e2⟩ | ⟨g, cap, cur, e, _⟩
        · subst e2; exact ⟨none, 0, e⟩
        · exact ⟨_, _, e⟩
      subst hv
      have RS : Hid (EntriesRes wr (w.heap.size + 1) A' k c' qs) := ⟨hU.out.S, hU.out.C, hU.out.D, hU.out.E⟩
      go_wp2
      go_ret
      exact ⟨A', c', qs, rfl, RS.out.lower (by omega), HV.out, hU.out.b⟩

set_option maxRecDepth 100000 in
set_option maxHeartbeats 3200000 in
theorem bodyNode_any (d lv ns rt : Int) (n c dd : Nat) (A : Option Addr) (vs : List EVal) (ss : List SL) (w : World) (hp : Slots w A n ss) (ho : SlotsOf vs ss) (hn : n ≤ 8) (hl : LensE dd vs) (hd : d = dd) (hd3 : dd ≤ 3) :
    Calls Try.prog 213 #[.agg #[.int .i64 d, .slice A n c, .int .i64 lv, .int .i64 ns, .int .i64 rt]] w fun e w' => ∃ A' c' qs, e = .returned (.agg #[.int .i64 lv, .int .i64 ns, .int .i64 rt, .slice A' n c']) ∧ EntriesRes w' w.heap.size A' n c' qs ∧ qs.map EV.val = vs ∧ Below w.heap.size w w' := by
  have HP := Lib.hid hp
  have HO := Lib.hid ho
  have HE := Lib.hid hl
  have HD := Lib.hid hd
  clear hp ho hl hd
  have B0 := Lib.hid (below_alloc w (.cells #[.int .i64 d, .slice A n c, .int .i64 lv, .int .i64 ns, .int .i64 rt] 225))
  replace B0 := Lib.hid (B0.out.alloc B0.out.size (.cells #[.int .i64 0, .int .i64 0, .int .i64 0, .slice none 0 0] 58))
  have L0 := Lib.hid ((Lies.new w 225 #[.int .i64 d, .slice A n c, .int .i64 lv, .int .i64 ns, .int .i64 rt]).alloc (.cells #[.int .i64 0, .int .i64 0, .int .i64 0, .slice none 0 0] 58))
  have L1 := Lib.hid (Lies.new (w.alloc (.cells #[.int .i64 d, .slice A n c, .int .i64 lv, .int .i64 ns, .int .i64 rt] 225)) 58 #[.int .i64 0, .int .i64 0, .int .i64 0, .slice none 0 0])
  simp only [World.size_alloc] at L1
  go_enter Try.func213, Try.ntmps213
  go_wp2
  generalize hW : ((w.alloc (.cells #[.int .i64 d, .slice A n c, .int .i64 lv, .int .i64 ns, .int .i64 rt] 225)).alloc (.cells #[.int .i64 0, .int .i64 0, .int .i64 0, .slice none 0 0] 58)) = W0 at *
  clear hW
  have K0 : W0.cell? ⟨w.heap.size, 0, none⟩ = some (.int .i64 d) ∧ W0.cell? ⟨w.heap.size, 1, none⟩ = some (.slice A n c) ∧ W0.cell? ⟨w.heap.size, 2, none⟩ = some (.int .i64 lv) ∧ W0.cell? ⟨w.heap.size, 3, none⟩ = some (.int .i64 ns) ∧ W0.cell? ⟨w.heap.size, 4, none⟩ = some (.int .i64 rt) := ⟨L0.out.cell 0, L0.out.cell 1, L0.out.cell 2, L0.out.cell 3, L0.out.cell 4⟩
  go_region_held3 (fun w' => w'.cell? ⟨w.heap.size, 0, none⟩ = some (.int .i64 d) ∧ w'.cell? ⟨w.heap.size, 1, none⟩ = some (.slice A n c) ∧ w'.cell? ⟨w.heap.size, 2, none⟩ = some (.int .i64 lv) ∧ w'.cell? ⟨w.heap.size, 3, none⟩ = some (.int .i64 ns) ∧ w'.cell? ⟨w.heap.size, 4, none⟩ = some (.int .i64 rt))
    (first | (simp [go_sem, K0]; done) | with_reducible exact K1 | (simp [go_sem, K1]; done))
    (first
      | (go_at_call 97; refine (bunchEntries_any d n c dd A vs ss _ (HP.out.kept B0.out.drew) HO.out hn HE.out HD.out hd3).mono ?_
         rintro e W1 ⟨A', c', qs, rfl, hq, hv, b1d⟩
         have b1 := below_drawn b1d
         have K1 : W1.cell? ⟨w.heap.size, 0, none⟩ = some (.int .i64 d) ∧ W1.cell? ⟨w.heap.size, 1, none⟩ = some (.slice A n c) ∧ W1.cell? ⟨w.heap.size, 2, none⟩ = some (.int .i64 lv) ∧ W1.cell? ⟨w.heap.size, 3, none⟩ = some (.int .i64 ns) ∧ W1.cell? ⟨w.heap.size, 4, none⟩ = some (.int .i64 rt) := ⟨(L0.out.kept b1 L0.out.inside).cell 0, (L0.out.kept b1 L0.out.inside).cell 1, (L0.out.kept b1 L0.out.inside).cell 2, (L0.out.kept b1 L0.out.inside).cell 3, (L0.out.kept b1 L0.out.inside).cell 4⟩
         have z0 : W1.cell? ⟨w.heap.size + 1, 0, none⟩ = some (.int .i64 0) := (L1.out.kept b1 L1.out.inside).cell 0
         have z1 : W1.cell? ⟨w.heap.size + 1, 1, none⟩ = some (.int .i64 0) := (L1.out.kept b1 L1.out.inside).cell 1
         have z2 : W1.cell? ⟨w.heap.size + 1, 2, none⟩ = some (.int .i64 0) := (L1.out.kept b1 L1.out.inside).cell 2
         have z3 : W1.cell? ⟨w.heap.size + 1, 3, none⟩ = some (.slice none 0 0) := (L1.out.kept b1 L1.out.inside).cell 3
         have y0 : W1.frozen? ⟨w.heap.size + 1, 0, none⟩ = false := (L1.out.kept b1 L1.out.inside).thawed 0
         have y1 : W1.frozen? ⟨w.heap.size + 1, 1, none⟩ = false := (L1.out.kept b1 L1.out.inside).thawed 1
         have y2 : W1.frozen? ⟨w.heap.size + 1, 2, none⟩ = false := (L1.out.kept b1 L1.out.inside).thawed 2
         have y3 : W1.frozen? ⟨w.heap.size + 1, 3, none⟩ = false := (L1.out.kept b1 L1.out.inside).thawed 3
         have HQ : Hid (EntriesRes W1 W0.heap.size A' n c' qs) := hq
         have HV := Lib.hid hv
         clear b1d hq hv))
  have hin := L1.out.inside
  go_wp2
  refine bodyPost_ret (v := .agg #[.int .i64 lv, .int .i64 ns, .int .i64 rt, .slice A' n c']) (by simp [results, Try.results213, go_sem, z0, z1, z2, z3]) rfl ⟨A', c', qs, rfl, ?_, HV.out, ?_⟩
  · exact ((((HQ.out.farLow hin _).farLow hin _).farLow hin _).farLow hin _).lower (by omega)
  · have BE := B0.out.trans (b1.mono B0.out.size)
    repeat (with_reducible refine Below.setCell ?_ (by exact Nat.le_succ _) _)
    exact BE

end Go.Proofs.Ytbnlgmcjklfcoaa

/- The walks of impl.ground's last and freeAll. -/
namespace Go.Proofs.Ytbnlgmcjklfcoaa
open Go.RowKit

/-- An arena that is worked at: the block G, the places, the row of their pointers. -/
structure Grd (w : World) (lo G : Nat) (d : Int) (m o : Value) (pb cp n : Nat) (ps : List LV) : Prop where
  L : Lies w G 178 #[.int .i64 d, .slice (some ⟨pb, 0, none⟩) n cp, m, o]
  P : Places w lo d ps
  R : Ptrs w lo pb n ps
  g : G < lo
section
variable {w w' : World} {lo G pb cp n : Nat} {d : Int} {m o : Value} {ps : List LV}
theorem Grd.kept (h : Grd w lo G d m o pb cp n ps) (hb : Below w.heap.size w w') : Grd w' lo G d m o pb cp n ps :=
  ⟨h.L.kept hb h.L.inside, h.P.kept hb, ⟨h.R.l, fun k p hk => (hb.cell (p := ⟨pb, k, none⟩) h.R.i.2).trans (h.R.c k p hk), ⟨h.R.i.1, Nat.lt_of_lt_of_le h.R.i.2 hb.size⟩, h.R.x⟩, h.g⟩
theorem Laid.grd {w0 : World} {v : Value} (h : Laid w0 w lo G d m o n ps v) (hn : 0 < n) : ∃ pb cp, v = .slice (some ⟨pb, 0, none⟩) n cp ∧ Grd w lo G d m o pb cp n ps := by
  obtain ⟨hl, hs⟩ := h.S
  rw [List.length_map, Nat.mul_one] at hl
  rcases hs with ⟨e1, e2⟩ | ⟨g, cap, cur, rfl, h2, h3, h4, h5, h6, h7⟩
  · omega
  · have hb := ownsRow_block2 h.S g rfl
    refine ⟨g, cap, rfl, h.G', h.P, ⟨hl, fun k p hk => ?_, hb, h.V g rfl⟩, h.g⟩
    rw [cell_of_row w g k cur 179 (0, 0) h3]
    have hk2 : k < n := by rw [← hl]; exact (List.getElem?_eq_some_iff.1 hk).1
    have h8 : (cur.toList.take (n * 1))[k]? = some p.ptr := by rw [h7]; simp [hk]
    rw [List.getElem?_take, if_pos (by omega)] at h8
    simpa using h8
/-- One place is written anew. -/
theorem Grd.put (h : Grd w lo G d m o pb cp n ps) {i : Nat} {p p' : LV} (hi : ps[i]? = some p) (hg : p'.g = p.g) (hs : w.heap.size ≤ w'.heap.size) (hk : ∀ b, b < w.heap.size → b ≠ p.g → w'.heap[b]? = w.heap[b]?) (hp : PlaceOk w' lo d p') (hr : ∀ b, p'.row b → p.row b ∨ w.heap.size ≤ b) : Grd w' lo G d m o pb cp n (ps.set i p') := by
  have hpi := h.P.P p (List.mem_of_getElem? hi)
  have hgl := hpi.g
  have hG := h.g
  have npb : pb ≠ p.g := fun e => h.R.x p (List.mem_of_getElem? hi) (Or.inl e.symm)
  refine ⟨(hk G h.L.inside (by omega)).trans h.L, h.P.put hi hg hs hk hp hr, ⟨by rw [List.length_set]; exact h.R.l, fun k q hq => ?_, ⟨h.R.i.1, Nat.lt_of_lt_of_le h.R.i.2 hs⟩, fun q hq => ?_⟩, h.g⟩
  · rw [World.cell?_of_block (w := w) (a := ⟨pb, k, none⟩) (hk pb h.R.i.2 npb)]
    rw [List.getElem?_set] at hq
    by_cases e : i = k
    · subst e
      rw [if_pos rfl, if_pos (List.getElem?_eq_some_iff.1 hi).1] at hq
      injection hq with hq; subst hq
      rw [h.R.c i p hi]; unfold LV.ptr; rw [hg]
    · rw [if_neg e] at hq; exact h.R.c k q hq
  · rcases List.mem_or_eq_of_mem_set hq with hq | rfl
    · exact h.R.x q hq
    · rintro (e | e)
      · exact npb (e.symm.trans hg)
      · rcases hr _ e with h1 | h1
        · exact h.R.x p (List.mem_of_getElem? hi) (Or.inr h1)
        · have := h.R.i.2; omega
end

theorem same_vacant {lv ns rt : Int} {qs : List EV} {vs : List EVal} (h : qs.map EV.val = vs) : ((lv == 0) && (ns == 0) && (rt == -1) && sameL EV.val qs []) = decide ((lv, ns, rt, vs) = vacV) := by
  subst h
  unfold sameL vacV
  by_cases h1 : lv = 0 <;> by_cases h2 : ns = 0 <;> by_cases h3 : rt = -1 <;> simp [h1, h2, h3]

theorem entries_none (w : World) : Entries w none 0 [] := ⟨rfl, fun h => absurd h (Nat.lt_irrefl 0), fun q hq => by simp at hq⟩

set_option maxHeartbeats 400000 in
theorem last_any (G pb cp n : Nat) (w : World) (hc : w.cell? ⟨G, 1, none⟩ = some (.slice (some ⟨pb, 0, none⟩) n cp)) (hn : n ≤ 40) :
    Calls Try.prog 175 #[.pointer (some ⟨G, 0, none⟩)] w fun e w' => e = .returned (.int .i64 ((n : Int) - 1)) ∧ w = w' := by
  go_enter Try.func175, Try.ntmps175
  go_wp2
  go_ret
  exact ⟨rfl, rfl⟩

theorem hty_node (lv d ns rt : Int) (A : Option Addr) (n c : Nat) (w : World) : (method 357 (hty lv) (.agg #[.int .i64 d, .slice A n c, .int .i64 lv, .int .i64 ns, .int .i64 rt]) "loop.example/g00680/impl.node").run Try.prog w = .ok (213, .agg #[.int .i64 d, .slice A n c, .int .i64 lv, .int .i64 ns, .int .i64 rt]) w := by
  unfold hty
  split <;> kernel_rfl

/-- The places behind the marks: free are those that are listed. -/
def Freed (ps ps' : List LV) (fs : List Int) : Prop := ps'.length = ps.length ∧ ∀ (i : Nat) (q : LV), ps'[i]? = some q → ∃ p, ps[i]? = some p ∧ q = { p with fr := fs.contains (i : Int) }
theorem Freed.vals {ps ps' : List LV} {fs : List Int} (h : Freed ps ps' fs) : ps'.map LV.val = ps.map LV.val := by
  apply List.ext_getElem?
  intro i
  rw [List.getElem?_map, List.getElem?_map]
  cases hq : ps'[i]? with
  | none =>
    have h1 := List.getElem?_eq_none_iff.1 hq
    rw [List.getElem?_eq_none_iff.2 (by rw [← h.1]; exact h1)]
  | some q =>
    obtain ⟨p, hp, rfl⟩ := h.2 i q hq
    rw [hp]; rfl
theorem Freed.start {ps : List LV} (h : ∀ p ∈ ps, p.fr = false) : Freed ps ps [] := by
  refine ⟨rfl, fun i q hq => ⟨q, hq, ?_⟩⟩
  have := h q (List.mem_of_getElem? hq)
  cases q; simp only at this; subst this; rfl
theorem Freed.next {ps ps' : List LV} {fs : List Int} {k j : Nat} {q : LV} (h : Freed ps ps' (fs.take k)) (hk : fs[k]? = some (j : Int)) (hj : ps'[j]? = some q) : Freed ps (ps'.set j { q with fr := true }) (fs.take (k + 1)) := by
  refine ⟨by rw [List.length_set]; exact h.1, fun i r hr => ?_⟩
  rw [List.take_add_one, hk]
  rw [List.getElem?_set] at hr
  by_cases e : j = i
  · subst e
    rw [if_pos rfl, if_pos (List.getElem?_eq_some_iff.1 hj).1] at hr
    injection hr with hr; subst hr
    obtain ⟨p, hp, rfl⟩ := h.2 j q hj
    refine ⟨p, hp, ?_⟩
    simp
  · rw [if_neg e] at hr
    obtain ⟨p, hp, rfl⟩ := h.2 i r hr
    refine ⟨p, hp, ?_⟩
    have hne : ¬ (i : Int) = (j : Int) := by omega
    simp [List.contains_eq_any_beq, List.any_append, hne]

set_option maxRecDepth 100000 in
set_option maxHeartbeats 6400000 in
theorem freeAll_any (d : Int) (lo G pb cp n n2 c2 : Nat) (A2 : Option Addr) (fs : List Int) (m o : Value) (ps : List LV) (w0 w : World) (hG : Grd w lo G d m o pb cp n ps) (hnew : ∀ p ∈ ps, p.fr = false) (hI : Ints w0 0 A2 n2 fs) (hb : Below w0.heap.size w0 w) (hlo : w0.heap.size ≤ lo) (hlow : lo ≤ w.heap.size) (hn : n ≤ 40) (m2 : n2 ≤ maxLen) :
    Calls Try.prog 156 #[.pointer (some ⟨G, 0, none⟩), .slice A2 n2 c2] w fun e w' => e = .returned (.int .i64 (freeF (ps.map LV.val) fs)) ∧ Below lo w w' ∧ (freeF (ps.map LV.val) fs = 0 → ∃ ps', Grd w' lo G d m o pb cp n ps' ∧ Freed ps ps' fs) := by
  have HG := Lib.hid hG
  have HI := Lib.hid hI
  have HL2 : Hid (fs.length = n2) := hI.1
  have HL1 : Hid ((ps.map LV.val).length = n) := by show List.length _ = n; rw [List.length_map]; exact hG.R.l
  have B := Lib.hid hb
  have FR0 := Lib.hid (Freed.start hnew)
  have g1 : w.cell? ⟨G, 1, none⟩ = some (.slice (some ⟨pb, 0, none⟩) n cp) := hG.L.cell 1
  clear hG hI hb hnew
  have m2' := m2
  unfold maxLen at m2'
  cases hr : allIn 0 ((n : Int) - 1) fs
  · have HF : Hid (freeF (ps.map LV.val) fs = 3) := freeF_out (by rw [HL1.out]; exact hr)
    have HR := Lib.hid hr
    clear hr
    go_enter Try.func156, Try.ntmps156
    go_wp2_with fail
    refine (last_any _ _ _ _ _ g1 hn).mono ?_
    rintro e w' ⟨rfl, rfl⟩
    go_wp2_with fail
    refine (within_is _ _ _ _ _ _ fs _ false HR.out (HI.out.kept B.out) m2).mono ?_
    rintro e w' ⟨rfl, rfl⟩
    go_wp2
    go_ret
    exact ⟨ret_i64 HF.out.symm, Below.refl _ _, fun h => by rw [HF.out] at h; omega⟩
  have HR := Lib.hid hr
  clear hr
  cases hs : risesL fs
  · have HF : Hid (freeF (ps.map LV.val) fs = 1) := freeF_fall (by rw [HL1.out]; exact HR.out) hs
    have HS := Lib.hid hs
    clear hs
    go_enter Try.func156, Try.ntmps156
    go_wp2_with fail
    refine (last_any _ _ _ _ _ g1 hn).mono ?_
    rintro e w' ⟨rfl, rfl⟩
    go_wp2_with fail
    refine (within_is _ _ _ _ _ _ fs _ true HR.out (HI.out.kept B.out) m2).mono ?_
    rintro e w' ⟨rfl, rfl⟩
    go_wp2_with fail
    refine (rises_any _ _ _ _ fs _ (HI.out.kept B.out) m2).mono ?_
    rintro e W1 ⟨rfl, b1⟩
    have hB1 := Lib.hid (b1.mono hlow)
    rw [HS.out]
    clear b1
    go_wp2
    go_ret
    exact ⟨ret_i64 HF.out.symm, hB1.out, fun h => by rw [HF.out] at h; omega⟩
  have HS := Lib.hid hs
  have HRN : Hid (allIn 0 (((ps.map LV.val).length : Int) - 1) fs = true) := by show allIn _ _ _ = _; rw [HL1.out]; exact HR.out
  clear hs
  go_enter Try.func156, Try.ntmps156
  go_wp2_with fail
  refine (last_any _ _ _ _ _ g1 hn).mono ?_
  rintro e w' ⟨rfl, rfl⟩
  go_wp2_with fail
  refine (within_is _ _ _ _ _ _ fs _ true HR.out (HI.out.kept B.out) m2).mono ?_
  rintro e w' ⟨rfl, rfl⟩
  go_wp2_with fail
  refine (rises_any _ _ _ _ fs _ (HI.out.kept B.out) m2).mono ?_
  rintro e W1 ⟨rfl, b1⟩
  have hB1 := Lib.hid (b1.mono hlow)
  have hG1 := Lib.hid (HG.out.kept b1)
  rw [HS.out]
  clear b1 g1
  go_wp2
  go_loopw [17] (fun i wr => ∃ (k : Nat) (qs : List LV), k ≤ n2 ∧ i = .int .i64 k ∧ Hid (Grd wr lo G d m o pb cp n qs) ∧ Hid (Freed ps qs (fs.take k)) ∧ Hid (Below lo w wr) ∧ Hid (∀ (j : Nat) (x : Int), j < k → fs[j]? = some x → vacAt (ps.map LV.val) x = true)) (fun i _ => n2 - (intOf i).toNat)
  case atStart => exact ⟨0, ps, Nat.zero_le _, rfl, hG1, FR0, hB1, fun j x hj => absurd hj (Nat.not_lt_zero _)⟩
  case round =>
    obtain ⟨k, qs, hk', rfl, hU, hF, hB, hA⟩ := hrel
    have HBr := Lib.hid (B.out.trans (hB.out.mono hlo))
    by_cases hlt : k < n2
    · obtain ⟨b, o', x, rfl, _, hb, d0, hx⟩ := HI.out.cellAt hlt
      have hxi := allIn_get HR.out hx.out
      obtain ⟨j, rfl⟩ := Int.eq_ofNat_of_zero_le hxi.1
      have hjn : j < n := by omega
      have hjn' : (j : Int) < (n : Int) := by omega
      have hlt' : (k : Int) < (n2 : Int) := by omega
      have hql := hU.out.R.l
      obtain ⟨q, hq⟩ : ∃ q, qs[j]? = some q := ⟨_, List.getElem?_eq_getElem (by omega)⟩
      have HQ := Lib.hid hq
      have HPO := Lib.hid (hU.out.P.P q (List.mem_of_getElem? hq))
      have HX := Lib.hid hx.out
      have e0 : wr.cell? ⟨b, o' + k, none⟩ = some (.int .i64 (j : Int)) := (HBr.out.cell (p := ⟨b, o' + k, none⟩) hb).trans d0
      have g1 : wr.cell? ⟨G, 1, none⟩ = some (.slice (some ⟨pb, 0, none⟩) n cp) := hU.out.L.cell 1
      have g2 : wr.cell? ⟨pb, j, none⟩ = some (.pointer (some ⟨q.g, 0, none⟩)) := hU.out.R.c j q hq
      have g3 : wr.cell? ⟨q.g, 0, none⟩ = some (.iface (hty q.lv) (.agg #[.int .i64 d, .slice q.A q.n q.c, .int .i64 q.lv, .int .i64 q.ns, .int .i64 q.rt])) := HPO.out.L.cell 0
      have hm1 := hty_node q.lv d q.ns q.rt q.A q.n q.c
      have hqg := HPO.out.g
      obtain ⟨hok, h5, hent, _, _⟩ := nodeF_zero HPO.out.N
      have hq5 : q.n ≤ 5 := by have h1 := HPO.out.O.1; have h2 := HPO.out.S.1; omega
      have HE := Lib.hid (lens_of hent)
      have hd2 : 2 ≤ d := hok.1.1
      have hd3 : d ≤ 3 := hok.1.2
      have HVA : Hid (vacAt (ps.map LV.val) (j : Int) = decide ((q.lv, q.ns, q.rt, q.vs) = vacV)) := by
        show vacAt _ _ = _
        rw [← hF.out.vals]
        exact vacAt_is (v := q.val) (by rw [List.getElem?_map, hq]; rfl)
      clear d0 hx hq hok h5 hent hxi
      go_wp2_with fail
      refine (bodyNode_any d q.lv q.ns q.rt q.n q.c d.toNat q.A q.vs q.ss _ HPO.out.S HPO.out.O (by omega) HE.out (by omega) (by omega)).mono ?_
      rintro e W2 ⟨A', c', es, rfl, rs, vq, b2⟩
      have hU2 := Lib.hid (hU.out.kept b2)
      have hB2 := Lib.hid (hB.out.trans (b2.mono (by have := hB.out.size; omega)))
      have ER := Lib.hid rs.entries
      have VQ := Lib.hid vq
      clear b2 rs vq e0 g1 g2 g3 hm1 HPO
      go_wp2_with fail
      refine (vacantNode_any _).mono ?_
      rintro e W3 ⟨rfl, b3⟩
      have hU3 := Lib.hid (hU2.out.kept b3)
      have hB3 := Lib.hid (hB2.out.trans (b3.mono (by have := hB2.out.size; omega)))
      replace ER := Lib.hid (ER.out.kept b3)
      clear b3 hU2 hB2
      go_wp2_with fail
      refine (sameNode_any q.lv q.ns q.rt 0 0 (-1) q.n c' 0 0 A' none es [] _ ER.out (entries_none _) (Nat.le_trans hq5 (by decide)) (Nat.zero_le _)).mono ?_
      rintro e W4 ⟨rfl, b4⟩
      rw [same_vacant VQ.out]
      have hU4 := Lib.hid (hU3.out.kept b4)
      have hB4 := Lib.hid (hB3.out.trans (b4.mono (by have := hB3.out.size; omega)))
      clear b4 hU3 hB3 ER
      cases hv : decide ((q.lv, q.ns, q.rt, q.vs) = vacV)
      · have HF : Hid (freeF (ps.map LV.val) fs = 1) := freeF_full HRN.out HX.out (by rw [HVA.out]; exact hv)
        clear hv hA hF hU hB
        go_wp2
        go_ret
        exact ⟨ret_i64 HF.out.symm, hB4.out, fun h => by rw [HF.out] at h; omega⟩
      · have hA' := Lib.hid (upto_next (P := fun x => vacAt (ps.map LV.val) x = true) hA.out HX.out (by rw [HVA.out]; exact hv))
        have hF' := Lib.hid (hF.out.next HX.out HQ.out)
        have hPQ := Lib.hid (hU4.out.P.P q (List.mem_of_getElem? HQ.out))
        have g1 : W4.cell? ⟨G, 1, none⟩ = some (.slice (some ⟨pb, 0, none⟩) n cp) := hU4.out.L.cell 1
        have g2 : W4.cell? ⟨pb, j, none⟩ = some (.pointer (some ⟨q.g, 0, none⟩)) := hU4.out.R.c j q HQ.out
        have g3 : W4.cell? ⟨q.g, 1, none⟩ = some (.bool q.fr) := hPQ.out.L.cell 1
        have f3 : W4.frozen? ⟨q.g, 1, none⟩ = false := hPQ.out.L.thawed 1
        have hU5 : Hid (Grd (W4.setCell ⟨q.g, 1, none⟩ (.bool true)) lo G d m o pb cp n (qs.set j { q with fr := true })) := by
          have hk5 : ∀ b, b < W4.heap.size → b ≠ q.g → (W4.setCell ⟨q.g, 1, none⟩ (.bool true)).heap[b]? = W4.heap[b]? := fun b _ hne => heap_setCell_other W4 ⟨q.g, 1, none⟩ b _ hne
          have hs5 : W4.heap.size ≤ (W4.setCell ⟨q.g, 1, none⟩ (.bool true)).heap.size := Nat.le_of_eq (size_of_setCell _ _ _).symm
          have hy := hPQ.out.Y
          refine hU4.out.put HQ.out rfl hs5 hk5 ?_ (fun b h => Or.inl h)
          refine ⟨hPQ.out.L.set 1 _, hPQ.out.S.block hPQ.out.F hs5 (fun b h0 e => hk5 b (Fresh.in_slots hPQ.out.S h0 e) (fun e' => hy (Or.inl ⟨h0, e' ▸ e⟩))), hPQ.out.O, hPQ.out.N, hPQ.out.W.blockF hPQ.out.E hs5 (fun b h0 e => hk5 b (Fresh.in_ints hPQ.out.W h0 e) (fun e' => hy (Or.inr ⟨h0, e' ▸ e⟩))), hPQ.out.g, hPQ.out.F, hPQ.out.E, hy⟩
        have hB5 := Lib.hid (hB4.out.setCell (p := ⟨q.g, 1, none⟩) hqg (.bool true))
        clear hv hA hF hU hB hPQ hU4 hB4 HVA HBr
        go_wp2
        go_roundw
        case rel => exact ⟨k + 1, _, by omega, by go_num, hU5, hF', hB5, hA'⟩
        case measure => simp [intOf]; omega
    · have HF : Hid (freeF (ps.map LV.val) fs = 0) := freeF_zero HRN.out HS.out (upto_end hA.out (by rw [HL2.out]; omega))
      have hFF : Hid (Freed ps qs fs) := by have := hF.out; rwa [List.take_of_length_le (by rw [HL2.out]; omega)] at this
      clear hA hF
      go_wp2
      go_ret
      exact ⟨ret_i64 HF.out.symm, hB.out, fun _ => ⟨qs, hU.out, hFF.out⟩⟩

end Go.Proofs.Ytbnlgmcjklfcoaa

/- The walk of impl.ground's arena, where nothing is retired. -/
namespace Go.Proofs.Ytbnlgmcjklfcoaa
open Go.RowKit

/-- The free ones among the places, from i on. -/
def freeL : Nat → List LV → List Int
  | _, [] => []
  | i, p :: t => if p.fr then (i : Int) :: freeL (i + 1) t else freeL (i + 1) t
theorem freeL_next : ∀ {ps : List LV} {i k : Nat} {p : LV}, ps[k]? = some p → freeL i (ps.take (k + 1)) = freeL i (ps.take k) ++ (if p.fr then [((i + k : Nat) : Int)] else [])
  | [], i, k, p, h => by simp at h
  | a :: t, i, 0, p, h => by simp at h; subst h; simp only [List.take_succ_cons, List.take_zero, freeL, Nat.add_zero]; split <;> rfl
  | a :: t, i, k + 1, p, h => by
    have ih := freeL_next (ps := t) (i := i + 1) (k := k) (p := p) (by simpa using h)
    simp only [List.take_succ_cons, freeL]
    rw [ih, show i + 1 + k = i + (k + 1) by omega]
    split <;> simp

/-- Where arena's first loop stands. -/
structure ArW (w wr : World) (d : Int) (k kf : Nat) (vN vF : Value) (qs : List NV) (fs : List Int) : Prop where
  b : Below w.heap.size w wr
  r : Lies wr w.heap.size 97 #[.int .i64 0, .slice none 0 0, .slice none 0 0, .slice none 0 0]
  o : Lies wr (w.heap.size + 1) 97 #[.int .i64 d, vN, vF, .slice none 0 0]
  N : NodesOut wr (w.heap.size + 1 + 1) vN k qs
  F : wr.ownsRow (w.heap.size + 1 + 1) 2 1 vF kf (fs.map (Value.int .i64))
  d : ∀ b, vF.ownBlock = some b → vN.ownBlock ≠ some b ∧ b ∉ nodesB qs
section
variable {w wr W w1 : World} {d : Int} {k kf g cap : Nat} {vN vF : Value} {qs : List NV} {fs : List Int}
theorem ArW.drew (h : ArW w wr d k kf vN vF qs fs) : ArW w wr.drew d k kf vN vF qs fs := ⟨h.b.drew, h.r, h.o, h.N.others (fun _ _ => rfl) (fun _ _ => rfl), h.F.drew, h.d⟩
theorem ArW.call (h : ArW w wr d k kf vN vF qs fs) (hb : Below wr.heap.size wr W) : ArW w W d k kf vN vF qs fs := ⟨h.b.trans (hb.mono h.b.size), h.r.kept hb h.r.inside, h.o.kept hb h.o.inside, h.N.kept hb, ownsRow_below h.F hb, h.d⟩
theorem ArW.alloc (h : ArW w wr d k kf vN vF qs fs) (o : Obj) : ArW w (wr.alloc o) d k kf vN vF qs fs := h.call (below_alloc wr o)
theorem ArW.node {q : NV} (h : ArW w wr d k kf vN vF qs fs) (hb : Below wr.heap.size wr W) (hq : EntriesRes W wr.heap.size q.A1 q.n1 q.c1 q.es)
    (ho : w1.ownsRow (w.heap.size + 1 + 1) 58 4 (.slice (some ⟨g, 0, none⟩) (k + 1) cap) (k + 1) (qs.flatMap NV.cells ++ NV.cells q)) (hw : W.grownBy w1 vN.ownBlock) (hat : vN.ownBlock = some g ∨ W.heap.size ≤ g) :
    ArW w (w1.setCell ⟨w.heap.size + 1, 1, none⟩ (.slice (some ⟨g, 0, none⟩) (k + 1) cap)) d (k + 1) kf (.slice (some ⟨g, 0, none⟩) (k + 1) cap) vF (qs ++ [q]) fs := by
  have h' := h.call hb
  have hlo : w.heap.size + 1 + 1 ≤ wr.heap.size := h.o.inside
  have hbk := ownsRow_block2 h'.N.S
  have hF := ownsRow_block2 h.F
  have nr : ∀ x, x < w.heap.size + 1 + 1 → some x ≠ vN.ownBlock := fun x hx e => by have := (hbk x e.symm).1; omega
  have N1 := h.N.put (q := q) hb hq hlo ho hw hat
  refine ⟨(below_grown2 h'.b hw (fun r e => by have := (hbk r e).1; omega) h'.b.size).setCell (by show w.heap.size ≤ w.heap.size + 1; omega) _, Lies.far ((hw.block _ h'.r.inside (nr _ (by omega))).trans h'.r) (by show w.heap.size ≠ w.heap.size + 1; omega) _, Lies.set (w := w1) ((hw.block _ h'.o.inside (nr _ (by omega))).trans h'.o) 1 _, N1.far (by show w.heap.size + 1 < _; omega) _, ownsRow_far2 (h'.F.kept hw ?_) (by show w.heap.size + 1 < _; omega) _, fun b e => ⟨fun e2 => ?_, fun hm => ?_⟩⟩
  · cases hv : vF.ownBlock with
    | none => exact Or.inl rfl
    | some b => exact Or.inr fun e => (h.d b hv).1 e.symm
  · have e2' : g = b := by simpa [Value.ownBlock] using e2
    subst e2'
    rcases hat with hat | hat
    · exact (h.d g e).1 hat
    · have := (hF g e).2; have := hb.size; omega
  · have nb : nodesB (qs ++ [q]) = nodesB qs ++ nodeB q := by simp [nodesB]
    rw [nb] at hm
    rcases List.mem_append.1 hm with hm | hm
    · exact (h.d b e).2 hm
    · have := (hq.inB b hm).1; have := (hF b e).2; omega
theorem ArW.free {x : Int} (h : ArW w wr d k kf vN vF qs fs) (ho : w1.ownsRow (w.heap.size + 1 + 1) 2 1 (.slice (some ⟨g, 0, none⟩) (kf + 1) cap) (kf + 1) (fs.map (Value.int .i64) ++ [.int .i64 x])) (hw : wr.grownBy w1 vF.ownBlock) (hat : vF.ownBlock = some g ∨ g = wr.heap.size) :
    ArW w (w1.setCell ⟨w.heap.size + 1, 2, none⟩ (.slice (some ⟨g, 0, none⟩) (kf + 1) cap)) d k (kf + 1) vN (.slice (some ⟨g, 0, none⟩) (kf + 1) cap) qs (fs ++ [x]) := by
  have hbk := ownsRow_block2 h.F
  have nr : ∀ y, y < w.heap.size + 1 + 1 → some y ≠ vF.ownBlock := fun y hy e => by have := (hbk y e.symm).1; omega
  have hN := ownsRow_block2 h.N.S
  have hB := nodesB_in h.N
  have N1 : NodesOut w1 (w.heap.size + 1 + 1) vN k qs := h.N.others (fun b e => hw.block b (hN b e).2 (fun e2 => (h.d b e2.symm).1 e)) (fun b hb => hw.block b (hB b hb).2 (fun e2 => (h.d b e2.symm).2 hb))
  refine ⟨(below_grown2 h.b hw (fun r e => by have := (hbk r e).1; omega) h.b.size).setCell (by show w.heap.size ≤ w.heap.size + 1; omega) _, Lies.far ((hw.block _ h.r.inside (nr _ (by omega))).trans h.r) (by show w.heap.size ≠ w.heap.size + 1; omega) _, Lies.set (w := w1) ((hw.block _ h.o.inside (nr _ (by omega))).trans h.o) 2 _, N1.far (by show w.heap.size + 1 < _; omega) _, ownsRow_far2 (by rw [List.map_append]; exact ho) (by show w.heap.size + 1 < _; omega) _, fun b e => ?_⟩
  have e2' : g = b := by simpa [Value.ownBlock] using e
  subst e2'
  rcases hat with hat | hat
  · exact h.d g hat
  · exact ⟨fun e2 => by have := (hN g e2).2; omega, fun hm => by have := (hB g hm).2; omega⟩
theorem ArW.mid {row : Option Nat} (h : ArW w wr d k kf vN vF qs fs) (hg : wr.grownBy w1 row) (hr : row = vN.ownBlock ∨ row = vF.ownBlock) : Lies w1 (w.heap.size + 1) 97 #[.int .i64 d, vN, vF, .slice none 0 0] := by
  have hb : ∀ r, row = some r → w.heap.size + 1 + 1 ≤ r := fun r e => by
    rcases hr with h' | h'
    · exact (ownsRow_block2 h.N.S r (h' ▸ e)).1
    · exact (ownsRow_block2 h.F r (h' ▸ e)).1
  exact (hg.block _ h.o.inside (fun e => by have := hb _ e.symm; omega)).trans h.o
end

end Go.Proofs.Ytbnlgmcjklfcoaa

/- The walk of impl.ground's arena, where nothing is retired. -/
namespace Go.Proofs.Ytbnlgmcjklfcoaa
open Go.RowKit

theorem ArW.start (w : World) (d : Int) : ArW w ((w.alloc (.cells #[.int .i64 0, .slice none 0 0, .slice none 0 0, .slice none 0 0] 97)).alloc (.cells #[.int .i64 d, .slice none 0 0, .slice none 0 0, .slice none 0 0] 97)) d 0 0 (.slice none 0 0) (.slice none 0 0) [] [] := by
  have h := Lies.new (w.alloc (.cells #[.int .i64 0, .slice none 0 0, .slice none 0 0, .slice none 0 0] 97)) 97 #[.int .i64 d, .slice none 0 0, .slice none 0 0, .slice none 0 0]
  simp only [World.size_alloc] at h
  exact ⟨(below_alloc _ _).alloc (below_alloc _ _).size _, (Lies.new w _ _).alloc _, h, ⟨⟨rfl, Or.inl ⟨rfl, rfl⟩⟩, fun q hq => by simp at hq, List.nodup_nil, fun b h => by simp [Value.ownBlock] at h⟩, ⟨rfl, Or.inl ⟨rfl, rfl⟩⟩, fun b h => by simp [Value.ownBlock] at h⟩
theorem info_node6 : ∃ i, Try.prog.info? 58 = some i ∧ i.zero = some (.agg #[.int .i64 0, .int .i64 0, .int .i64 0, .slice none 0 0]) ∧ i.size = 4 ∧ i.bytes = 48 := by
  obtain ⟨i, hi, h⟩ := Option.map_eq_some_iff.1 info_node
  injection h with h1 h2
  injection h2 with h2 h3
  exact ⟨i, hi, h1, h2, h3⟩
theorem EntriesRes.drewO {w : World} {base n c : Nat} {A : Option Addr} {qs : List EV} (h : EntriesRes w base A n c qs) : EntriesRes w.drew base A n c qs := h.kept (Below.refl _ _).drew
theorem EntriesRes.allocO {w : World} {base n c : Nat} {A : Option Addr} {qs : List EV} (h : EntriesRes w base A n c qs) (o : Obj) : EntriesRes (w.alloc o) base A n c qs := h.kept (below_alloc _ _)
theorem hty_ahead (lv d ns rt : Int) (A : Option Addr) (n c : Nat) (w : World) : (nilAhead 357 (hty lv) (.agg #[.int .i64 d, .slice A n c, .int .i64 lv, .int .i64 ns, .int .i64 rt]) "loop.example/g00680/impl.node").run Try.prog w = .ok (some false) w := by
  unfold hty
  split <;> kernel_rfl

set_option maxRecDepth 100000 in
set_option maxHeartbeats 12800000 in
theorem arenaNone_any (lo G pb cp n : Nat) (d : Int) (m : Value) (ps : List LV) (w : World) (hL : Lies w G 178 #[.int .i64 d, .slice (some ⟨pb, 0, none⟩) n cp, m, .slice none 0 0]) (hP : ∀ p ∈ ps, PlaceOk w lo d p) (hR : ∀ (k : Nat) (p : LV), ps[k]? = some p → w.cell? ⟨pb, k, none⟩ = some p.ptr) (hlen : ps.length = n) (hpb : pb < w.heap.size) (hn : n ≤ 40) :
    Calls Try.prog 124 #[.pointer (some ⟨G, 0, none⟩)] w fun e w' => ∃ (kf : Nat) (vN vF : Value) (qs : List NV), e = .returned (.agg #[.int .i64 d, vN, vF, .slice none 0 0]) ∧ NodesOut w' (w.heap.size + 1 + 1) vN n qs ∧ w'.ownsRow (w.heap.size + 1 + 1) 2 1 vF kf ((freeL 0 ps).map (Value.int .i64)) ∧ (∀ b, vF.ownBlock = some b → vN.ownBlock ≠ some b ∧ b ∉ nodesB qs) ∧ qs.map NV.val = ps.map LV.val ∧ Below w.heap.size w w' := by
  have HGL := Lib.hid hL
  have HGP := Lib.hid hP
  have HGR := Lib.hid hR
  have hG := hL.inside
  clear hL hP hR
  obtain ⟨i0, hi0, hz0, hz1, hz2⟩ := info_node6
  have IP := Lib.hid (And.intro hi0 (And.intro hz0 (And.intro hz1 hz2)))
  obtain ⟨j0, hj0, hy0, hy1, hy2⟩ := info_parts_i64
  have JP := Lib.hid (And.intro hj0 (And.intro hy0 (And.intro hy1 hy2)))
  clear hi0 hz0 hz1 hz2 hj0 hy0 hy1 hy2
  have B0 := below_alloc w (.cells #[.int .i64 0, .slice none 0 0, .slice none 0 0, .slice none 0 0] 97)
  have B1 := B0.alloc B0.size (.cells #[.int .i64 d, .slice none 0 0, .slice none 0 0, .slice none 0 0] 97)
  have a0 : (w.alloc (.cells #[.int .i64 0, .slice none 0 0, .slice none 0 0, .slice none 0 0] 97)).cell? ⟨G, 0, none⟩ = some (.int .i64 d) := (B0.cell (p := ⟨G, 0, none⟩) hG).trans (HGL.out.cell 0)
  have a1 : ((w.alloc (.cells #[.int .i64 0, .slice none 0 0, .slice none 0 0, .slice none 0 0] 97)).alloc (.cells #[.int .i64 d, .slice none 0 0, .slice none 0 0, .slice none 0 0] 97)).cell? ⟨G, 1, none⟩ = some (.slice (some ⟨pb, 0, none⟩) n cp) := (B1.cell (p := ⟨G, 1, none⟩) hG).trans (HGL.out.cell 1)
  clear B0 B1
  have ST := Lib.hid (ArW.start w d)
  go_enter Try.func124, Try.ntmps124
  go_wp2
  clear a0 a1
  go_loopw [18] (fun i wr => ∃ (k kf : Nat) (vN vF : Value) (qs : List NV), k ≤ n ∧ kf ≤ k ∧ i = .int .i64 (k : Int) ∧ Hid (ArW w wr d k kf vN vF qs (freeL 0 (ps.take k))) ∧ Hid (qs.map NV.val = (ps.take k).map LV.val)) (fun i _ => n - (intOf i).toNat)
  case atStart => exact ⟨0, 0, .slice none 0 0, .slice none 0 0, [], Nat.zero_le _, Nat.le_refl _, rfl, ST, rfl⟩
  case round =>
    obtain ⟨k, kf, vN, vF, qs, hk, hkf, rfl, hU, hV⟩ := hrel
    by_cases hlt : k < n
    · have hp : ps[k]? = some (ps[k]'(by omega)) := List.getElem?_eq_getElem (by omega)
      obtain ⟨p, hpp⟩ : ∃ p, p = ps[k]'(by omega) := ⟨_, rfl⟩
      rw [← hpp] at hp
      clear hpp
      have HPk := Lib.hid hp
      have hok := HGP.out p (List.mem_of_getElem? hp)
      have hc := HGR.out k p hp
      have hgp : p.g < w.heap.size := hok.L.inside
      have l0 : w.cell? ⟨p.g, 0, none⟩ = some (.iface (hty p.lv) (.agg #[.int .i64 d, .slice p.A p.n p.c, .int .i64 p.lv, .int .i64 p.ns, .int .i64 p.rt])) := hok.L.cell 0
      have l1 : w.cell? ⟨p.g, 1, none⟩ = some (.bool p.fr) := hok.L.cell 1
      obtain ⟨hok0, hn5, hent, _, _⟩ := nodeF_zero hok.N
      have hlS : p.vs.length = p.n := hok.O.1.symm.trans hok.S.1
      have HS := Lib.hid hok.S
      have HO := Lib.hid hok.O
      have HLE := Lib.hid (lens_of hent)
      have hd2 := hok0.1.1
      have hd3 := hok0.1.2
      have hn6 : p.n ≤ 8 := by omega
      clear hok0 hent hn5 hlS hok hp
      obtain ⟨g, lv, ns, rt, pA, pn, pc, ss, vs, fr, wA, wn, wcc, ws⟩ := p
      simp only at hgp l0 l1 HS HO HLE hn6
      have hc' : wr.cell? ⟨pb, k, none⟩ = some (.pointer (some ⟨g, 0, none⟩)) := (hU.out.b.cell (p := ⟨pb, k, none⟩) hpb).trans hc
      have l0' : wr.cell? ⟨g, 0, none⟩ = some (.iface (hty lv) (.agg #[.int .i64 d, .slice pA pn pc, .int .i64 lv, .int .i64 ns, .int .i64 rt])) := (hU.out.b.cell (p := ⟨g, 0, none⟩) hgp).trans l0
      have oc1 : wr.cell? ⟨w.heap.size + 1, 1, none⟩ = some vN := hU.out.o.cell 1
      have hsz : w.heap.size + 1 + 1 ≤ wr.heap.size := hU.out.o.inside
      have hm1 := hty_node lv d ns rt pA pn pc
      have hm2 := hty_ahead lv d ns rt pA pn pc
      clear hc l0
      go_upto_region 5 with fail
      go_cut [4, 5, 18] (fun s4 s5 s18 wx => s4 = .int .i64 (k : Int) ∧ s5 = .pointer (some ⟨g, 0, none⟩) ∧ s18 = .int .i64 (k : Int) ∧ ∃ (vM : Value) (q : NV), Hid (ArW w wx d (k + 1) kf vM vF (qs ++ [q]) (freeL 0 (ps.take k))) ∧ Hid (q.val = (lv, ns, rt, vs)))
      case first =>
        go_region_law
          (first
            | (apply step_append_lies (s := .tmp 24) (x := .tmp 30) (t := 94) (base := w.heap.size + 1 + 1) (e := 58) (i := i0) (z := .agg #[.int .i64 0, .int .i64 0, .int .i64 0, .slice none 0 0]) (size := 4) (bytes := 48) (v := vN) (n := k) (xs := qs.flatMap NV.cells) (ad := ⟨W1.heap.size, 0, none⟩) (m := 1) (c := 1) (news := [.int .i64 lv, .int .i64 ns, .int .i64 rt, .slice A2 pn c2]) (H := W1.heap.size + 1)
               case hgd => rfl
               case ho => rfl
               case ht => exact Try.underlying94
               case hi => exact IP.out.1
               case hz => exact IP.out.2.1
               case hsize => exact IP.out.2.2.1
               case hby => exact IP.out.2.2.2
               case hzs => rfl
               case hsz => omega
               case hs => rfl
               case hown => with_reducible (repeat (first | exact hU1.out.N.S | refine World.ownsRow.drew ?_ | refine World.ownsRow.alloc ?_ _))
               case hx => rfl
               case hl => rfl
               case hnews => exact World.news_of_block (cs := #[.int .i64 lv, .int .i64 ns, .int .i64 rt, .slice A2 pn c2]) (t := 58) (fr := (0, 0)) (by (with_reducible (repeat (refine Lies.drew ?_))); exact Lies.laid rfl)
               case h1 => simp [Value.oneCell']
               case hm => omega
               case h63 => unfold maxLen; omega
               case hbytes => omega
               case hbase => simp only [size_of_drew, World.size_alloc]; omega
               case hH => simp only [size_of_drew, World.size_alloc]
               intro gg cap w1 hown1 hgrow hat hlt1
               have hS1 : Lies w1 (w.heap.size + 1) 97 #[.int .i64 d, vN, vF, .slice none 0 0] := by
                 refine ArW.mid (k := k) (kf := kf) (qs := qs) (fs := freeL 0 (ps.take k)) ?_ hgrow (Or.inl rfl)
                 with_reducible (repeat (first | exact hU1.out | refine ArW.drew ?_ | refine ArW.alloc ?_ _))
               have hS2 : Hid (ArW w (w1.setCell ⟨w.heap.size + 1, 1, none⟩ (.slice (some ⟨gg, 0, none⟩) (k + 1) cap)) d (k + 1) kf (.slice (some ⟨gg, 0, none⟩) (k + 1) cap) vF (qs ++ [⟨lv, ns, rt, A2, pn, c2, es⟩]) (freeL 0 (ps.take k))) := by
                 refine ArW.node hU.out ?_ ?_ hown1 hgrow (hat.imp id fun h => ?_)
                 · with_reducible (repeat (first | exact hbW.out | refine Below.drew ?_ | refine Below.alloc ?_ hbS _))
                 · with_reducible (repeat (first | exact hER.out | refine EntriesRes.drewO ?_ | refine EntriesRes.allocO ?_ _))
                 · simp only [size_of_drew, World.size_alloc]; omega
               have s0 : w1.cell? ⟨w.heap.size + 1, 1, none⟩ = some vN := hS1.cell 1
               have s1 : w1.frozen? ⟨w.heap.size + 1, 1, none⟩ = false := hS1.thawed 1)
            | (go_simp; go_at_call 213; refine (bodyNode_any d lv ns rt pn pc d.toNat pA vs ss _ (HS.out.kept hU.out.b.drew) HO.out hn6 HLE.out (by omega) (by omega)).mono ?_
               rintro e W1 ⟨A2, c2, es, rfl, her, hvs, b1d⟩
               have b1 := below_drawn b1d
               have hER : Hid (EntriesRes W1 wr.heap.size A2 pn c2 es) := her
               have hVS := Lib.hid hvs
               have hbW := Lib.hid b1
               have hbS := b1.size
               have hU1 := Lib.hid (hU.out.call b1)
               have l1a : W1.cell? ⟨w.heap.size + 1, 1, none⟩ = some vN := hU1.out.o.cell 1
               have hsz1 : w.heap.size + 1 < W1.heap.size := hU1.out.o.inside
               have ne1 : ¬ w.heap.size + 1 = W1.heap.size := by omega
               have ne2 : ¬ W1.heap.size = w.heap.size + 1 := by omega
               clear b1 b1d her hvs
               dsimp only))
        all_goals
          go_wp2_with fail
          go_meet
          exact ⟨rfl, rfl, rfl, _, _, hS2, by show (_, _, _, _) = _; rw [hVS.out]⟩
      case' rest =>
        obtain ⟨rfl, rfl, rfl, vM, q, hN, hq⟩ := hcut
        have hVN : Hid ((qs ++ [q]).map NV.val = (ps.take (k + 1)).map LV.val) := by
          show _ = _
          rw [List.map_append, hV.out, List.take_add_one, HPk.out, List.map_append]
          simp only [Option.toList, List.map_cons, List.map_nil]
          rw [hq.out]; rfl
        have hfr : wc.cell? ⟨g, 1, none⟩ = some (.bool fr) := (hN.out.b.cell (p := ⟨g, 1, none⟩) hgp).trans l1
        clear hU oc1 hsz hc' l0' hm1 hm2 hV l1
        have oc2 : wc.cell? ⟨w.heap.size + 1, 2, none⟩ = some vF := hN.out.o.cell 2
        have hsz : w.heap.size + 1 + 1 ≤ wc.heap.size := hN.out.o.inside
        have HFN := Lib.hid (freeL_next (i := 0) HPk.out)
        cases fr
        · have hFE : Hid (freeL 0 (ps.take (k + 1)) = freeL 0 (ps.take k)) := by show _ = _; rw [HFN.out]; simp
          have hN2 : Hid (ArW w wc d (k + 1) kf vM vF (qs ++ [q]) (freeL 0 (ps.take (k + 1)))) := by show ArW _ _ _ _ _ _ _ _ _; rw [hFE.out]; exact hN.out
          clear hN hFE HFN
          go_wp2
          go_roundw
          case rel => exact ⟨k + 1, kf, _, _, _, by omega, by omega, by go_num, hN2, hVN⟩
          case measure => simp [intOf]; omega
        · have hFE : Hid (freeL 0 (ps.take (k + 1)) = freeL 0 (ps.take k) ++ [(k : Int)]) := by show _ = _; rw [HFN.out]; simp
          have HS3 := Lib.hid ((hN.out.alloc (.cells #[.int .i64 (k : Int)] 2)).F)
          have NEWS : Hid (∀ i u, ([.int .i64 (k : Int)] : List Value)[i]? = some u → (wc.alloc (.cells #[.int .i64 (k : Int)] 2)).cell? ((⟨wc.heap.size, 0, none⟩ : Addr).add i) = some u) := World.news_of_block (cs := #[.int .i64 (k : Int)]) (t := 2) (fr := (0, 0)) (Lies.new wc 2 #[.int .i64 (k : Int)])
          go_wp2_with (with_reducible refine wpList_append_lies _ rfl (.tmp 38) (.tmp 40) 29 rfl (w.heap.size + 1 + 1) 2 j0 (.int .i64 0) 1 8 Try.underlying29 JP.out.1 JP.out.2.1 JP.out.2.2.1 JP.out.2.2.2 rfl (by omega) vF kf ((freeL 0 (ps.take k)).map (Value.int .i64)) rfl HS3.out ⟨wc.heap.size, 0, none⟩ 1 1 [.int .i64 (k : Int)] rfl rfl NEWS.out ?q2 (by omega) ?q3 ?q4 ?q5 (wc.heap.size + 1) ?q6 ?_)
          case q2 => simp [Value.oneCell']
          case q3 => unfold maxLen; omega
          case q4 => omega
          case q5 => (try simp only [World.size_alloc]); omega
          try (case q6 => simp only [World.size_alloc])
          intro gg cap w1 ho hw hat hlt1
          have hM := Lib.hid ((hN.out.alloc (.cells #[.int .i64 (k : Int)] 2)).mid hw (Or.inr rfl))
          have hS2 := Lib.hid ((hN.out.alloc (.cells #[.int .i64 (k : Int)] 2)).free ho hw (by simpa only [World.size_alloc] using hat))
          have hS3 : Hid (ArW w (w1.setCell ⟨w.heap.size + 1, 2, none⟩ (.slice (some ⟨gg, 0, none⟩) (kf + 1) cap)) d (k + 1) (kf + 1) vM (.slice (some ⟨gg, 0, none⟩) (kf + 1) cap) (qs ++ [q]) (freeL 0 (ps.take (k + 1)))) := by show ArW _ _ _ _ _ _ _ _ _; rw [hFE.out]; exact hS2.out
          have s0 : w1.cell? ⟨w.heap.size + 1, 2, none⟩ = some vF := hM.out.cell 2
          have s1 : w1.frozen? ⟨w.heap.size + 1, 2, none⟩ = false := hM.out.thawed 2
          clear ho hw hat hlt1 HS3 NEWS oc2 hM hN hS2 hFE HFN
          go_wp2
          go_roundw
          case rel => exact ⟨k + 1, kf + 1, _, _, _, by omega, by omega, by go_num, hS3, hVN⟩
          case measure => simp [intOf]; omega
    · have hkn : k = n := by omega
      subst hkn
      have HT : ps.take k = ps := List.take_of_length_le (by omega)
      have hU2 := hU.out
      have hV2 := hV.out
      rw [HT] at hU2 hV2
      have HU := Lib.hid hU2
      have HV := Lib.hid hV2
      clear hU hV hU2 hV2 HT
      have g3 : wr.cell? ⟨G, 3, none⟩ = some (.slice none 0 0) := (HU.out.b.cell (p := ⟨G, 3, none⟩) hG).trans (HGL.out.cell 3)
      go_wp2
      clear g3
      go_loopw [49] (fun i wr => i = .int .i64 0 ∧ Hid (ArW w wr d k kf vN vF qs (freeL 0 ps))) (fun _ _ => 0)
      case atStart => exact ⟨rfl, HU⟩
      case round =>
        obtain ⟨rfl, HU2⟩ := hrel
        clear HU
        obtain ⟨A1, k1, hv1⟩ : ∃ A c, vN = .slice A k c := by
          rcases HU2.out.N.S.2 with ⟨e, e2⟩ | ⟨g, cap, cur, e, _⟩
          · subst e2; exact ⟨none, 0, e⟩
          · exact ⟨_, _, e⟩
        obtain ⟨A2, k2, hv2⟩ : ∃ A c, vF = .slice A kf c := by
          rcases HU2.out.F.2 with ⟨e, e2⟩ | ⟨g, cap, cur, e, _⟩
          · subst e2; exact ⟨none, 0, e⟩
          · exact ⟨_, _, e⟩
        subst hv1
        subst hv2
        have c0 : wr.cell? ⟨w.heap.size + 1, 0, none⟩ = some (.int .i64 d) := HU2.out.o.cell 0
        have c1 : wr.cell? ⟨w.heap.size + 1, 1, none⟩ = some (.slice A1 k k1) := HU2.out.o.cell 1
        have c2 : wr.cell? ⟨w.heap.size + 1, 2, none⟩ = some (.slice A2 kf k2) := HU2.out.o.cell 2
        have c3 : wr.cell? ⟨w.heap.size + 1, 3, none⟩ = some (.slice none 0 0) := HU2.out.o.cell 3
        have r0 : wr.cell? ⟨w.heap.size, 0, none⟩ = some (.int .i64 0) := HU2.out.r.cell 0
        have r1 : wr.cell? ⟨w.heap.size, 1, none⟩ = some (.slice none 0 0) := HU2.out.r.cell 1
        have r2 : wr.cell? ⟨w.heap.size, 2, none⟩ = some (.slice none 0 0) := HU2.out.r.cell 2
        have r3 : wr.cell? ⟨w.heap.size, 3, none⟩ = some (.slice none 0 0) := HU2.out.r.cell 3
        have f0 : wr.frozen? ⟨w.heap.size, 0, none⟩ = false := HU2.out.r.thawed 0
        have f1 : wr.frozen? ⟨w.heap.size, 1, none⟩ = false := HU2.out.r.thawed 1
        have f2 : wr.frozen? ⟨w.heap.size, 2, none⟩ = false := HU2.out.r.thawed 2
        have f3 : wr.frozen? ⟨w.heap.size, 3, none⟩ = false := HU2.out.r.thawed 3
        have NN := HU2.out.N
        have FF := HU2.out.F
        have DD := Lib.hid HU2.out.d
        have BB := Lib.hid ((((HU2.out.b.setCell (p := ⟨w.heap.size, 0, none⟩) (Nat.le_refl _) (.int .i64 d)).setCell (p := ⟨w.heap.size, 1, none⟩) (Nat.le_refl _) (.slice A1 k k1)).setCell (p := ⟨w.heap.size, 2, none⟩) (Nat.le_refl _) (.slice A2 kf k2)).setCell (p := ⟨w.heap.size, 3, none⟩) (Nat.le_refl _) (.slice none 0 0))
        have lt2 : w.heap.size < w.heap.size + 1 + 1 := by omega
        have N4 := Lib.hid ((((NN.far (a := ⟨w.heap.size, 0, none⟩) lt2 (.int .i64 d)).far (a := ⟨w.heap.size, 1, none⟩) lt2 (.slice A1 k k1)).far (a := ⟨w.heap.size, 2, none⟩) lt2 (.slice A2 kf k2)).far (a := ⟨w.heap.size, 3, none⟩) lt2 (.slice none 0 0))
        have F4 := Lib.hid (ownsRow_far2 (ownsRow_far2 (ownsRow_far2 (ownsRow_far2 FF (a := ⟨w.heap.size, 0, none⟩) lt2 (.int .i64 d)) (a := ⟨w.heap.size, 1, none⟩) lt2 (.slice A1 k k1)) (a := ⟨w.heap.size, 2, none⟩) lt2 (.slice A2 kf k2)) (a := ⟨w.heap.size, 3, none⟩) lt2 (.slice none 0 0))
        clear NN FF HU2
        go_wp2
        refine bodyPost_ret (v := .agg #[.int .i64 d, .slice A1 k k1, .slice A2 kf k2, .slice none 0 0]) (by simp [results, Try.results124, go_sem, r0, r1, r2, r3]) rfl ⟨kf, _, _, qs, rfl, ?_, ?_, DD.out, HV.out, ?_⟩
        · first | exact N4.out | exact ((N4.out))
        · exact F4.out
        · exact BB.out

end Go.Proofs.Ytbnlgmcjklfcoaa
