/- The walk of impl.holderFrom: a node without a fault becomes a leaf or an inner node, with slots in new memory. -/
import Derived.Test.YtmoogdlbfadnaaaSlots
import Derived.Deep.RegionLaw
import Derived.Deep.AppendLies
namespace Go.Proofs.Ytmoogdlbfadnaaa
open Go.RowKit

theorem ownsRow_below {w w' : World} {base : Nat} {e : TypeId} {size : Nat} {v : Value} {n : Nat} {xs : List Value} (h : w.ownsRow base e size v n xs) (hb : Below w.heap.size w w') : w'.ownsRow base e size v n xs := by
  obtain ⟨hl, h⟩ := h
  refine ⟨hl, ?_⟩
  rcases h with h | ⟨g, cap, cur, h1, h2, h3, h4⟩
  · exact Or.inl h
  · have hg : g < w.heap.size := by
      rcases Nat.lt_or_ge g w.heap.size with h' | h'
      · exact h'
      · exact absurd (h3.symm.trans (Array.getElem?_eq_none h')) (by simp)
    exact Or.inr ⟨g, cap, cur, h1, h2, (hb.block g hg).trans h3, h4⟩
theorem ownsRow_far2 {w : World} {base : Nat} {e : TypeId} {size : Nat} {v : Value} {n : Nat} {xs : List Value} (h : w.ownsRow base e size v n xs) {a : Addr} (ha : a.block < base) (u : Value) : (w.setCell a u).ownsRow base e size v n xs := by
  obtain ⟨hl, h⟩ := h
  refine ⟨hl, ?_⟩
  rcases h with h | ⟨g, cap, cur, h1, h2, h3, h4⟩
  · exact Or.inl h
  · exact Or.inr ⟨g, cap, cur, h1, h2, (heap_setCell_other w a g u (by omega)).trans h3, h4⟩
theorem ownsRow_block2 {w : World} {base : Nat} {e : TypeId} {size : Nat} {v : Value} {n : Nat} {xs : List Value} (h : w.ownsRow base e size v n xs) : ∀ r, v.ownBlock = some r → base ≤ r ∧ r < w.heap.size := by
  intro r hr
  obtain ⟨hl, h⟩ := h
  rcases h with ⟨rfl, _⟩ | ⟨g, cap, cur, rfl, h2, h3, h4⟩
  · simp [Value.ownBlock] at hr
  · simp [Value.ownBlock] at hr
    subst hr
    refine ⟨h2, ?_⟩
    rcases Nat.lt_or_ge g w.heap.size with h' | h'
    · exact h'
    · exact absurd (h3.symm.trans (Array.getElem?_eq_none h')) (by simp)
theorem below_grown2 {B : Nat} {a w w' : World} {row : Option Nat} (h : Below B a w) (hg : w.grownBy w' row) (hrow : ∀ r, row = some r → B ≤ r) (hs : B ≤ w.heap.size) : Below B a w' :=
  ⟨hg.os.trans h.os, hg.tape.trans h.tape, hg.output.trans h.output, Nat.le_trans h.size hg.size, fun g hgB => (hg.block g (Nat.lt_of_lt_of_le hgB hs) (fun e => by have := hrow g e.symm; omega)).trans (h.block g hgB)⟩

/-- Where the loop stands: the node's box, the body's box with its slots. -/
structure Hold (w wr : World) (nd : Array Value) (d lv ns rt : Int) (k : Nat) (xs : List Value) (v : Value) : Prop where
  b : Below w.heap.size w wr
  n : Lies wr w.heap.size 32 nd
  o : Lies wr (w.heap.size + 1) 199 #[.int .i64 d, .int .i64 lv, .int .i64 ns, .int .i64 rt, v]
  S : wr.ownsRow (w.heap.size + 1 + 1) 201 8 v k xs

section
variable {w wr : World} {nd : Array Value} {d lv ns rt : Int} {k : Nat} {xs : List Value} {v : Value}
theorem Hold.drew (h : Hold w wr nd d lv ns rt k xs v) : Hold w wr.drew nd d lv ns rt k xs v := ⟨h.b.drew, h.n, h.o, h.S.drew⟩
theorem Hold.alloc (h : Hold w wr nd d lv ns rt k xs v) (o : Obj) : Hold w (wr.alloc o) nd d lv ns rt k xs v := ⟨h.b.alloc h.b.size o, h.n.alloc o, h.o.alloc o, h.S.alloc o⟩
theorem Hold.call {W : World} (h : Hold w wr nd d lv ns rt k xs v) (hb : Below wr.heap.size wr W) : Hold w W nd d lv ns rt k xs v := ⟨h.b.trans (hb.mono h.b.size), h.n.kept hb h.n.inside, h.o.kept hb h.o.inside, ownsRow_below h.S hb⟩
theorem Hold.mid {w1 : World} (h : Hold w wr nd d lv ns rt k xs v) (hg : wr.grownBy w1 v.ownBlock) : Lies w1 (w.heap.size + 1) 199 #[.int .i64 d, .int .i64 lv, .int .i64 ns, .int .i64 rt, v] :=
  (hg.block _ h.o.inside (fun e => by have := (ownsRow_block2 h.S _ e.symm).1; omega)).trans h.o
theorem Hold.put {w1 : World} {g cap : Nat} {news : List Value} (h : Hold w wr nd d lv ns rt k xs v) (ho : w1.ownsRow (w.heap.size + 1 + 1) 201 8 (.slice (some ⟨g, 0, none⟩) (k + 1) cap) (k + 1) (xs ++ news)) (hg : wr.grownBy w1 v.ownBlock) :
    Hold w (w1.setCell ⟨w.heap.size + 1, 4, none⟩ (.slice (some ⟨g, 0, none⟩) (k + 1) cap)) nd d lv ns rt (k + 1) (xs ++ news) (.slice (some ⟨g, 0, none⟩) (k + 1) cap) := by
  have hb := ownsRow_block2 h.S
  refine ⟨(below_grown2 h.b hg (fun r e => by have := (hb r e).1; omega) h.b.size).setCell (by show w.heap.size ≤ w.heap.size + 1; omega) _, ?_, ?_, ownsRow_far2 ho (by show w.heap.size + 1 < _; omega) _⟩
  · exact Lies.far ((hg.block _ h.n.inside (fun e => by have := (hb _ e.symm).1; omega)).trans h.n) (by show w.heap.size ≠ w.heap.size + 1; omega) _
  · exact (h.mid hg).set 4 _
end
theorem Hold.start (w : World) (nd : Array Value) (d lv ns rt : Int) : Hold w ((w.alloc (.cells nd 32)).alloc (.cells #[.int .i64 d, .int .i64 lv, .int .i64 ns, .int .i64 rt, .slice none 0 0] 199)) nd d lv ns rt 0 [] (.slice none 0 0) := by
  have h2 := Lies.new (w.alloc (.cells nd 32)) 199 #[.int .i64 d, .int .i64 lv, .int .i64 ns, .int .i64 rt, .slice none 0 0]
  simp only [World.size_alloc] at h2
  exact ⟨(below_alloc _ _).alloc (below_alloc _ _).size _, (Lies.new w _ _).alloc _, h2, ⟨rfl, Or.inl ⟨rfl, rfl⟩⟩⟩

theorem ret_val {a b : Value} (h : a = b) : Ending.returned a = .returned b := by rw [h]
/-- What a holder is: a leaf or an inner node. -/
def holderV (d lv ns rt : Int) (A : Option Addr) (n c : Nat) : Value := .iface (if lv = 0 then 204 else 205) (.agg #[.int .i64 d, .int .i64 lv, .int .i64 ns, .int .i64 rt, .slice A n c])

theorem pads_of {x1 x2 : List Int} {d : Int} (h : rf x1 x2 d = 0) : ∃ p0 p1 p2 q0 q1 q2, Pad x1 p0 p1 p2 ∧ Pad x2 q0 q1 q2 := by
  have h1 : pf x1 d = 0 := by
    unfold rf at h
    by_cases h1 : pf x1 d = 0
    · exact h1
    · rw [if_pos h1] at h; exact absurd h h1
  have h2 : pf x2 d = 0 := by
    unfold rf at h
    rw [if_neg (by simp [h1])] at h
    by_cases h2 : pf x2 d = 0
    · exact h2
    · rw [if_pos h2] at h; exact absurd h h2
  obtain ⟨hd, e1, _⟩ := pf_zero h1
  obtain ⟨_, e2, _⟩ := pf_zero h2
  obtain ⟨p0, p1, p2, hp⟩ := pad_of (xs := x1) (by omega)
  obtain ⟨q0, q1, q2, hq⟩ := pad_of (xs := x2) (by omega)
  exact ⟨p0, p1, p2, q0, q1, q2, hp, hq⟩

/-- A row that is not empty lies in a block from lo on. -/
def Fresh (lo : Nat) (A : Option Addr) (n : Nat) : Prop := 0 < n → ∃ g, A = some ⟨g, 0, none⟩ ∧ lo ≤ g
theorem Fresh.of_owns {w : World} {base n c : Nat} {e : TypeId} {size : Nat} {A : Option Addr} {xs : List Value} (h : w.ownsRow base e size (.slice A n c) n xs) : Fresh base A n := by
  intro h0
  rcases h.2 with ⟨e1, e2⟩ | ⟨g, cap, cur, e1, h2, _⟩
  · omega
  · injection e1 with e1
    exact ⟨g, e1, h2⟩
theorem Fresh.lower {lo lo' : Nat} {A : Option Addr} {n : Nat} (h : Fresh lo A n) (hl : lo' ≤ lo) : Fresh lo' A n := fun h0 => by
  obtain ⟨g, e, h1⟩ := h h0
  exact ⟨g, e, by omega⟩

set_option maxRecDepth 100000 in
set_option maxHeartbeats 6400000 in
theorem holderFrom_fresh (lv ns rt d : Int) (n c : Nat) (A : Option Addr) (ps : List EV) (w : World) (hp : Entries w A n ps) (hn : n ≤ 5) (hr : ∀ (j : Nat) (u : EVal), (ps.map EV.val)[j]? = some u → entF d u = 0) :
    Calls Try.prog 113 #[.agg #[.int .i64 lv, .int .i64 ns, .int .i64 rt, .slice A n c], .int .i64 d] w fun e w' => ∃ (A' : Option Addr) (c' : Nat) (ss : List SL), e = .returned (holderV d lv ns rt A' n c') ∧ Slots w' A' n ss ∧ SlotsOf (ps.map EV.val) ss ∧ Fresh w.heap.size A' n ∧ Below w.heap.size w w' := by
  have HP := Lib.hid hp
  have HR := Lib.hid hr
  have HL : Hid ((ps.map EV.val).length = n) := by show List.length _ = n; rw [List.length_map]; exact hp.1
  clear hp hr
  obtain ⟨i0, hi0, hz0, hz1, hz2⟩ := info_slot
  have IP := Lib.hid (And.intro hi0 (And.intro hz0 (And.intro hz1 hz2)))
  clear hi0 hz0 hz1 hz2
  go_enter Try.func113, Try.ntmps113
  go_wp2
  go_loopw [19] (fun i wr => ∃ (k : Nat) (v : Value) (ss : List SL), k ≤ n ∧ i = .int .i64 k ∧ Hid (Hold w wr #[.int .i64 lv, .int .i64 ns, .int .i64 rt, .slice A n c] d lv ns rt k (ss.flatMap SL.cells) v) ∧ Hid (SlotsOf ((ps.map EV.val).take k) ss)) (fun i _ => n - (intOf i).toNat)
  case atStart => exact ⟨0, .slice none 0 0, [], Nat.zero_le _, rfl, Hold.start w _ _ _ _ _, ⟨rfl, fun k v s _ hs => by simp at hs⟩⟩
  case round =>
    obtain ⟨k, v, ss, hk, rfl, hU, hS⟩ := hrel
    by_cases hlt : k < n
    · obtain ⟨b, o, A1, n1, c1, A2, n2, c2, ref, nsn, x1, x2, rfl, hb, d0, d1, d2, d3, hx, i1, i2, m1, m2⟩ := HP.out.cellAt hlt
      have e0 : wr.cell? ⟨b, o + k * 4, none⟩ = some (.slice A1 n1 c1) := (hU.out.b.cell (p := ⟨b, o + k * 4, none⟩) hb).trans d0
      have e1 : wr.cell? ⟨b, o + k * 4 + 1, none⟩ = some (.slice A2 n2 c2) := (hU.out.b.cell (p := ⟨b, o + k * 4 + 1, none⟩) hb).trans d1
      have e2 : wr.cell? ⟨b, o + k * 4 + 2, none⟩ = some (.int .i64 ref) := (hU.out.b.cell (p := ⟨b, o + k * 4 + 2, none⟩) hb).trans d2
      have e3 : wr.cell? ⟨b, o + k * 4 + 3, none⟩ = some (.int .i64 nsn) := (hU.out.b.cell (p := ⟨b, o + k * 4 + 3, none⟩) hb).trans d3
      clear d0 d1 d2 d3
      have HX := Lib.hid (eval_get hx.out)
      clear hx
      obtain ⟨p0, p1, p2, q0, q1, q2, hp, hq⟩ := pads_of (entF_zero (HR.out k _ HX.out)).1
      have hS' := Lib.hid (hS.out.next (s := ⟨p0, p1, p2, q0, q1, q2, ref, nsn⟩) HX.out ⟨hp, hq, rfl, rfl⟩)
      replace hp := Lib.hid hp
      replace hq := Lib.hid hq
      go_wp2
      clear e0 e1 e2 e3 hS
      generalize hW : (wr.alloc (.cells #[.slice A1 n1 c1, .slice A2 n2 c2, .int .i64 ref, .int .i64 nsn] 101)) = W0 at *
      have hU0 : Hid (Hold w W0 #[.int .i64 lv, .int .i64 ns, .int .i64 rt, .slice (some ⟨b, o, none⟩) n c] d lv ns rt k (ss.flatMap SL.cells) v) := by rw [← hW]; exact hU.out.alloc _
      have hE : Hid (Lies W0 wr.heap.size 101 #[.slice A1 n1 c1, .slice A2 n2 c2, .int .i64 ref, .int .i64 nsn]) := by rw [← hW]; exact Lies.new _ _ _
      clear hW hU
      have k4 : W0.cell? ⟨w.heap.size + 1, 4, none⟩ = some v := hU0.out.o.cell 4
      have kE0 : W0.cell? ⟨wr.heap.size, 0, none⟩ = some (.slice A1 n1 c1) := hE.out.cell 0
      have kE1 : W0.cell? ⟨wr.heap.size, 1, none⟩ = some (.slice A2 n2 c2) := hE.out.cell 1
      have kE2 : W0.cell? ⟨wr.heap.size, 2, none⟩ = some (.int .i64 ref) := hE.out.cell 2
      have kE3 : W0.cell? ⟨wr.heap.size, 3, none⟩ = some (.int .i64 nsn) := hE.out.cell 3
      go_region_law
        (first
          | (apply step_append_lies (s := .tmp 24) (x := .tmp 27) (t := 197) (base := w.heap.size + 1 + 1) (e := 201) (i := i0) (z := .agg #[.int .i64 0, .int .i64 0, .int .i64 0, .int .i64 0, .int .i64 0, .int .i64 0, .int .i64 0, .int .i64 0]) (size := 8) (bytes := 64) (v := v) (n := k) (xs := ss.flatMap SL.cells) (ad := ⟨W1.heap.size, 0, none⟩) (m := 1) (c := 1) (news := [.int .i64 p0, .int .i64 p1, .int .i64 p2, .int .i64 q0, .int .i64 q1, .int .i64 q2, .int .i64 ref, .int .i64 nsn]) (H := W1.heap.size + 1)
             case hgd => rfl
             case ho => rfl
             case ht => exact Try.underlying197
             case hi => exact IP.out.1
             case hz => exact IP.out.2.1
             case hsize => exact IP.out.2.2.1
             case hby => exact IP.out.2.2.2
             case hzs => rfl
             case hsz => omega
             case hs => rfl
             case hown => with_reducible (repeat (first | exact hU1.out.S | refine World.ownsRow.drew ?_ | refine World.ownsRow.alloc ?_ _))
             case hx => rfl
             case hl => rfl
             case hnews => exact World.news_of_block (cs := #[.int .i64 p0, .int .i64 p1, .int .i64 p2, .int .i64 q0, .int .i64 q1, .int .i64 q2, .int .i64 ref, .int .i64 nsn]) (t := 201) (fr := (0, 0)) (by (with_reducible (repeat (refine Lies.drew ?_))); exact Lies.laid rfl)
             case h1 => simp [Value.oneCell']
             case hm => omega
             case h63 => unfold maxLen; omega
             case hbytes => omega
             case hbase => simp only [size_of_drew, World.size_alloc]; omega
             case hH => simp only [size_of_drew, World.size_alloc]
             intro gg cap w1 hown1 hgrow hat hlt1
             have hS1 : Lies w1 (w.heap.size + 1) 199 #[.int .i64 d, .int .i64 lv, .int .i64 ns, .int .i64 rt, v] := by
               refine Hold.mid (nd := #[.int .i64 lv, .int .i64 ns, .int .i64 rt, .slice (some ⟨b, o, none⟩) n c]) (k := k) (xs := ss.flatMap SL.cells) ?_ hgrow
               with_reducible (repeat (first | exact hU1.out | refine Hold.drew ?_ | refine Hold.alloc ?_ _))
             have hS2 : Hid (Hold w (w1.setCell ⟨w.heap.size + 1, 4, none⟩ (.slice (some ⟨gg, 0, none⟩) (k + 1) cap)) #[.int .i64 lv, .int .i64 ns, .int .i64 rt, .slice (some ⟨b, o, none⟩) n c] d lv ns rt (k + 1) (ss.flatMap SL.cells ++ [.int .i64 p0, .int .i64 p1, .int .i64 p2, .int .i64 q0, .int .i64 q1, .int .i64 q2, .int .i64 ref, .int .i64 nsn]) (.slice (some ⟨gg, 0, none⟩) (k + 1) cap)) := by
               refine Hold.put ?_ hown1 hgrow
               with_reducible (repeat (first | exact hU1.out | refine Hold.drew ?_ | refine Hold.alloc ?_ _))
             have s0 : w1.cell? ⟨w.heap.size + 1, 4, none⟩ = some v := hS1.cell 4
             have s1 : w1.frozen? ⟨w.heap.size + 1, 4, none⟩ = false := hS1.thawed 4)
          | (go_simp; go_at_call 144; refine (slotFrom_any _ _ _ _ _ _ _ _ _ _ x1 x2 p0 p1 p2 q0 q1 q2 _ hp.out hq.out (i1.out.kept hU0.out.b.drew) (i2.out.kept hU0.out.b.drew)).mono ?_
             rintro e W1 ⟨rfl, b1d⟩
             have b1 := below_drawn b1d
             have hU1 := Lib.hid (hU0.out.call b1)
             have l4 : W1.cell? ⟨w.heap.size + 1, 4, none⟩ = some v := hU1.out.o.cell 4
             have hsz1 : w.heap.size + 1 < W1.heap.size := hU1.out.o.inside
             have ne1 : ¬ w.heap.size + 1 = W1.heap.size := by omega
             have ne2 : ¬ W1.heap.size = w.heap.size + 1 := by omega
             clear b1 b1d
             dsimp only))
      all_goals
        have hS3 : Hid (Hold w (w1.setCell ⟨w.heap.size + 1, 4, none⟩ (.slice (some ⟨gg, 0, none⟩) (k + 1) cap)) #[.int .i64 lv, .int .i64 ns, .int .i64 rt, .slice (some ⟨b, o, none⟩) n c] d lv ns rt (k + 1) ((ss ++ [(⟨p0, p1, p2, q0, q1, q2, ref, nsn⟩ : SL)]).flatMap SL.cells) (.slice (some ⟨gg, 0, none⟩) (k + 1) cap)) := by
          show Hold _ _ _ _ _ _ _ _ _ _
          rw [List.flatMap_append]
          exact hS2.out
        clear hS2
        go_wp2
        go_roundw
        case rel => exact ⟨k + 1, _, _, by omega, by go_num, hS3, hS'⟩
        case measure => simp [intOf]; omega
    · have hkn : k = n := by omega
      subst hkn
      have HS : Hid (SlotsOf (ps.map EV.val) ss) := by
        have := hS.out
        rwa [List.take_of_length_le (by rw [HL.out]; omega)] at this
      obtain ⟨A', c', hv, hSl⟩ := slots_of_owns hU.out.S
      subst hv
      have HSl := Lib.hid hSl
      have FR := Lib.hid ((Fresh.of_owns hU.out.S).lower (show w.heap.size ≤ _ by omega))
      clear hSl
      have z0 : wr.cell? ⟨w.heap.size, 0, none⟩ = some (.int .i64 lv) := hU.out.n.cell 0
      have y0 : wr.cell? ⟨w.heap.size + 1, 0, none⟩ = some (.int .i64 d) := hU.out.o.cell 0
      have y1 : wr.cell? ⟨w.heap.size + 1, 1, none⟩ = some (.int .i64 lv) := hU.out.o.cell 1
      have y2 : wr.cell? ⟨w.heap.size + 1, 2, none⟩ = some (.int .i64 ns) := hU.out.o.cell 2
      have y3 : wr.cell? ⟨w.heap.size + 1, 3, none⟩ = some (.int .i64 rt) := hU.out.o.cell 3
      have y4 : wr.cell? ⟨w.heap.size + 1, 4, none⟩ = some (.slice A' k c') := hU.out.o.cell 4
      by_cases hl0 : lv = 0
      · have hl1 : (lv == 0) = true := by simpa using hl0
        have HV : Hid (holderV d lv ns rt A' k c' = .iface 204 (.agg #[.int .i64 d, .int .i64 lv, .int .i64 ns, .int .i64 rt, .slice A' k c'])) := by show holderV _ _ _ _ _ _ _ = _; unfold holderV; rw [if_pos hl0]
        clear hl0
        go_wp2
        go_ret
        exact ⟨A', c', ss, ret_val HV.out.symm, HSl.out, HS.out, FR.out, hU.out.b⟩
      · have hl1 : (lv == 0) = false := by simpa using hl0
        have HV : Hid (holderV d lv ns rt A' k c' = .iface 205 (.agg #[.int .i64 d, .int .i64 lv, .int .i64 ns, .int .i64 rt, .slice A' k c'])) := by show holderV _ _ _ _ _ _ _ = _; unfold holderV; rw [if_neg hl0]
        clear hl0
        go_wp2
        go_ret
        exact ⟨A', c', ss, ret_val HV.out.symm, HSl.out, HS.out, FR.out, hU.out.b⟩

theorem holderFrom_any (lv ns rt d : Int) (n c : Nat) (A : Option Addr) (ps : List EV) (w : World) (hp : Entries w A n ps) (hn : n ≤ 5) (hr : ∀ (j : Nat) (u : EVal), (ps.map EV.val)[j]? = some u → entF d u = 0) :
    Calls Try.prog 113 #[.agg #[.int .i64 lv, .int .i64 ns, .int .i64 rt, .slice A n c], .int .i64 d] w fun e w' => ∃ (A' : Option Addr) (c' : Nat) (ss : List SL), e = .returned (holderV d lv ns rt A' n c') ∧ Slots w' A' n ss ∧ SlotsOf (ps.map EV.val) ss ∧ Below w.heap.size w w' :=
  (holderFrom_fresh lv ns rt d n c A ps w hp hn hr).mono fun _ _ ⟨A', c', ss, h1, h2, h3, _, h5⟩ => ⟨A', c', ss, h1, h2, h3, h5⟩

end Go.Proofs.Ytmoogdlbfadnaaa
