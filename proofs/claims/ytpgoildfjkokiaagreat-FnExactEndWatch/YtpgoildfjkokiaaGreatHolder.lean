/- The walk of impl.holderFrom: a node without a fault becomes a leaf or an inner node, with slots in new memory. -/
import Derived.Test.YtpgoildfjkokiaaGreatSlots
import Derived.Deep.RegionLaw
import Derived.Deep.AppendLies
namespace Go.Proofs.YtpgoildfjkokiaaGreat
open Go.RowKit

theorem ownsRow_below {w w' : World} {base : Nat} {e : TypeId} {size : Nat} {v : Value} {n : Nat} {xs : List Value} (h : w.ownsRow base e size v n xs) (hb : Below w.heap.size w w') : w'.ownsRow base e size v n xs := by
  obtain ⟨hl, h⟩ := h
  refine ⟨hl, ?_⟩
  rcases h with h | ⟨g, cap, cur, h1, h2, h3, h4⟩
  · exact Or.inl h
  · have hg : g < w.heap.size := by
      rcases Nat.lt_or_ge g w.heap.size with h' | h'
      · exact h'
      · exact absurd (h3.symm.trans (Array.getElem?_eq_none h')) (by simp)
    exact Or.inr ⟨g, cap, cur, h1, h2, (hb.block g hg).trans h3, h4⟩
theorem ownsRow_far2 {w : World} {base : Nat} {e : TypeId} {size : Nat} {v : Value} {n : Nat} {xs : List Value} (h : w.ownsRow base e size v n xs) {a : Addr} (ha : a.block < base) (u : Value) : (w.setCell a u).ownsRow base e size v n xs := by
  obtain ⟨hl, h⟩ := h
  refine ⟨hl, ?_⟩
  rcases h with h | ⟨g, cap, cur, h1, h2, h3, h4⟩
  · exact Or.inl h
  · exact Or.inr ⟨g, cap, cur, h1, h2, (heap_setCell_other w a g u (by omega)).trans h3, h4⟩
theorem ownsRow_block2 {w : World} {base : Nat} {e : TypeId} {size : Nat} {v : Value} {n : Nat} {xs : List Value} (h : w.ownsRow base e size v n xs) : ∀ r, v.ownBlock = some r → base ≤ r ∧ r < w.heap.size := by
  intro r hr
  obtain ⟨hl, h⟩ := h
  rcases h with ⟨rfl, _⟩ | ⟨g, cap, cur, rfl, h2, h3, h4⟩
  · simp [Value.ownBlock] at hr
  · simp [Value.ownBlock] at hr
    subst hr
    refine ⟨h2, ?_⟩
    rcases Nat.lt_or_ge g w.heap.size with h' | h'
    · exact h'
    · exact absurd (h3.symm.trans (Array.getElem?_eq_none h')) (by simp)
theorem below_grown2 {B : Nat} {a w w' : World} {row : Option Nat} (h : Below B a w) (hg : w.grownBy w' row) (hrow : ∀ r, row = some r → B ≤ r) (hs : B ≤ w.heap.size) : Below B a w' :=
  ⟨hg.os.trans h.os, hg.tape.trans h.tape, hg.output.trans h.output, Nat.le_trans h.size hg.size, fun g hgB => (hg.block g (Nat.lt_of_lt_of_le hgB hs) (fun e => by have := hrow g e.symm; omega)).trans (h.block g hgB)⟩

/-- Where the loop stands: the answer's box, the bunch's box with its slots. -/
structure Hold (w wr : World) (d : Int) (k : Nat) (xs : List Value) (v : Value) : Prop where
  b : Below w.heap.size w wr
  r : Lies wr w.heap.size 161 #[.int .i64 0, .slice none 0 0]
  o : Lies wr (w.heap.size + 1) 161 #[.int .i64 d, v]
  S : wr.ownsRow (w.heap.size + 1 + 1) 181 8 v k xs

section
variable {w wr : World} {d : Int} {k : Nat} {xs : List Value} {v : Value}
theorem Hold.drew (h : Hold w wr d k xs v) : Hold w wr.drew d k xs v := ⟨h.b.drew, h.r, h.o, h.S.drew⟩
theorem Hold.alloc (h : Hold w wr d k xs v) (o : Obj) : Hold w (wr.alloc o) d k xs v := ⟨h.b.alloc h.b.size o, h.r.alloc o, h.o.alloc o, h.S.alloc o⟩
theorem Hold.call {W : World} (h : Hold w wr d k xs v) (hb : Below wr.heap.size wr W) : Hold w W d k xs v := ⟨h.b.trans (hb.mono h.b.size), h.r.kept hb h.r.inside, h.o.kept hb h.o.inside, ownsRow_below h.S hb⟩
theorem Hold.mid {w1 : World} (h : Hold w wr d k xs v) (hg : wr.grownBy w1 v.ownBlock) : Lies w1 (w.heap.size + 1) 161 #[.int .i64 d, v] :=
  (hg.block _ h.o.inside (fun e => by have := (ownsRow_block2 h.S _ e.symm).1; omega)).trans h.o
theorem Hold.put {w1 : World} {g cap : Nat} {news : List Value} (h : Hold w wr d k xs v) (ho : w1.ownsRow (w.heap.size + 1 + 1) 181 8 (.slice (some ⟨g, 0, none⟩) (k + 1) cap) (k + 1) (xs ++ news)) (hg : wr.grownBy w1 v.ownBlock) :
    Hold w (w1.setCell ⟨w.heap.size + 1, 1, none⟩ (.slice (some ⟨g, 0, none⟩) (k + 1) cap)) d (k + 1) (xs ++ news) (.slice (some ⟨g, 0, none⟩) (k + 1) cap) := by
  have hb := ownsRow_block2 h.S
  refine ⟨(below_grown2 h.b hg (fun r e => by have := (hb r e).1; omega) h.b.size).setCell (by show w.heap.size ≤ w.heap.size + 1; omega) _, ?_, ?_, ownsRow_far2 ho (by show w.heap.size + 1 < _; omega) _⟩
  · exact Lies.far ((hg.block _ h.r.inside (fun e => by have := (hb _ e.symm).1; omega)).trans h.r) (by show w.heap.size ≠ w.heap.size + 1; omega) _
  · exact (h.mid hg).set 1 _
end
theorem Hold.start (w : World) (d : Int) : Hold w ((w.alloc (.cells #[.int .i64 0, .slice none 0 0] 161)).alloc (.cells #[.int .i64 d, .slice none 0 0] 161)) d 0 [] (.slice none 0 0) := by
  have h2 := Lies.new (w.alloc (.cells #[.int .i64 0, .slice none 0 0] 161)) 161 #[.int .i64 d, .slice none 0 0]
  simp only [World.size_alloc] at h2
  exact ⟨(below_alloc _ _).alloc (below_alloc _ _).size _, (Lies.new w _ _).alloc _, h2, ⟨rfl, Or.inl ⟨rfl, rfl⟩⟩⟩

theorem ret_val {a b : Value} (h : a = b) : Ending.returned a = .returned b := by rw [h]
/-- What a holder is: a leaf or an inner node. -/
def holderV (d lv ns rt : Int) (A : Option Addr) (n c : Nat) : Value := .iface (if lv = 0 then 184 else 185) (.agg #[.int .i64 d, .slice A n c, .int .i64 lv, .int .i64 ns, .int .i64 rt])

theorem pads_of {x1 x2 : List Int} {d : Int} (h : rf x1 x2 d = 0) : ∃ p0 p1 p2 q0 q1 q2, Pad x1 p0 p1 p2 ∧ Pad x2 q0 q1 q2 := by
  have h1 : pf x1 d = 0 := by
    unfold rf at h
    by_cases h1 : pf x1 d = 0
    · exact h1
    · rw [if_pos h1] at h; exact absurd h h1
  have h2 : pf x2 d = 0 := by
    unfold rf at h
    rw [if_neg (by simp [h1])] at h
    by_cases h2 : pf x2 d = 0
    · exact h2
    · rw [if_pos h2] at h; exact absurd h h2
  obtain ⟨hd, e1, _⟩ := pf_zero h1
  obtain ⟨_, e2, _⟩ := pf_zero h2
  obtain ⟨p0, p1, p2, hp⟩ := pad_of (xs := x1) (by omega)
  obtain ⟨q0, q1, q2, hq⟩ := pad_of (xs := x2) (by omega)
  exact ⟨p0, p1, p2, q0, q1, q2, hp, hq⟩

/-- A row that is not empty lies in a block from lo on. -/
def Fresh (lo : Nat) (A : Option Addr) (n : Nat) : Prop := 0 < n → ∃ g, A = some ⟨g, 0, none⟩ ∧ lo ≤ g
theorem Fresh.of_owns {w : World} {base n c : Nat} {e : TypeId} {size : Nat} {A : Option Addr} {xs : List Value} (h : w.ownsRow base e size (.slice A n c) n xs) : Fresh base A n := by
  intro h0
  rcases h.2 with ⟨e1, e2⟩ | ⟨g, cap, cur, e1, h2, _⟩
  · omega
  · injection e1 with e1
    exact ⟨g, e1, h2⟩
theorem slots_owned {w : World} {base n c : Nat} {A : Option Addr} {ss : List SL} (h : w.ownsRow base 181 8 (.slice A n c) n (ss.flatMap SL.cells)) : Slots w A n ss := by
  obtain ⟨A', c', e, h'⟩ := slots_of_owns h
  injection e with e1 e2 e3
  subst e1
  exact h'
theorem Fresh.lower {lo lo' : Nat} {A : Option Addr} {n : Nat} (h : Fresh lo A n) (hl : lo' ≤ lo) : Fresh lo' A n := fun h0 => by
  obtain ⟨g, e, h1⟩ := h h0
  exact ⟨g, e, by omega⟩

set_option maxRecDepth 100000 in
set_option maxHeartbeats 6400000 in
theorem bunchFrom_fresh (d : Int) (n c : Nat) (A : Option Addr) (ps : List EV) (w : World) (hp : Entries w A n ps) (hn : n ≤ 8) (hr : ∀ (j : Nat) (u : EVal), (ps.map EV.val)[j]? = some u → entF d u = 0) :
    Calls Tryz.prog 122 #[.slice A n c, .int .i64 d] w fun e w' => ∃ (A' : Option Addr) (c' : Nat) (ss : List SL), e = .returned (.agg #[.int .i64 d, .slice A' n c']) ∧ Slots w' A' n ss ∧ SlotsOf (ps.map EV.val) ss ∧ Fresh w.heap.size A' n ∧ Below w.heap.size w w' := by
  have HP := Lib.hid hp
  have HR := Lib.hid hr
  have HL : Hid ((ps.map EV.val).length = n) := by show List.length _ = n; rw [List.length_map]; exact hp.1
  clear hp hr
  obtain ⟨i0, hi0, hz0, hz1, hz2⟩ := info_slot
  have IP := Lib.hid (And.intro hi0 (And.intro hz0 (And.intro hz1 hz2)))
  clear hi0 hz0 hz1 hz2
  go_enter Tryz.func122, Tryz.ntmps122
  go_wp2
  go_loopw [12] (fun i wr => ∃ (k : Nat) (v : Value) (ss : List SL), k ≤ n ∧ i = .int .i64 k ∧ Hid (Hold w wr d k (ss.flatMap SL.cells) v) ∧ Hid (SlotsOf ((ps.map EV.val).take k) ss)) (fun i _ => n - (intOf i).toNat)
  case atStart => exact ⟨0, .slice none 0 0, [], Nat.zero_le _, rfl, Hold.start w _, ⟨rfl, fun k v s _ hs => by simp at hs⟩⟩
  case round =>
    obtain ⟨k, v, ss, hk, rfl, hU, hS⟩ := hrel
    by_cases hlt : k < n
    · obtain ⟨b, o, A1, n1, c1, A2, n2, c2, ref, nsn, x1, x2, rfl, hb, d0, d1, d2, d3, hx, i1, i2, m1, m2⟩ := HP.out.cellAt hlt
      have e0 : wr.cell? ⟨b, o + k * 4, none⟩ = some (.slice A1 n1 c1) := (hU.out.b.cell (p := ⟨b, o + k * 4, none⟩) hb).trans d0
      have e1 : wr.cell? ⟨b, o + k * 4 + 1, none⟩ = some (.slice A2 n2 c2) := (hU.out.b.cell (p := ⟨b, o + k * 4 + 1, none⟩) hb).trans d1
      have e2 : wr.cell? ⟨b, o + k * 4 + 2, none⟩ = some (.int .i64 ref) := (hU.out.b.cell (p := ⟨b, o + k * 4 + 2, none⟩) hb).trans d2
      have e3 : wr.cell? ⟨b, o + k * 4 + 3, none⟩ = some (.int .i64 nsn) := (hU.out.b.cell (p := ⟨b, o + k * 4 + 3, none⟩) hb).trans d3
      clear d0 d1 d2 d3
      have HX := Lib.hid (eval_get hx.out)
      clear hx
      obtain ⟨p0, p1, p2, q0, q1, q2, hp, hq⟩ := pads_of (entF_zero (HR.out k _ HX.out)).1
      have hS' := Lib.hid (hS.out.next (s := ⟨p0, p1, p2, q0, q1, q2, ref, nsn⟩) HX.out ⟨hp, hq, rfl, rfl⟩)
      replace hp := Lib.hid hp
      replace hq := Lib.hid hq
      go_wp2
      clear e0 e1 e2 e3 hS
      generalize hW : (wr.alloc (.cells #[.slice A1 n1 c1, .slice A2 n2 c2, .int .i64 ref, .int .i64 nsn] 150)) = W0 at *
      have hU0 : Hid (Hold w W0 d k (ss.flatMap SL.cells) v) := by rw [← hW]; exact hU.out.alloc _
      have hE : Hid (Lies W0 wr.heap.size 150 #[.slice A1 n1 c1, .slice A2 n2 c2, .int .i64 ref, .int .i64 nsn]) := by rw [← hW]; exact Lies.new _ _ _
      clear hW hU
      have k4 : W0.cell? ⟨w.heap.size + 1, 1, none⟩ = some v := hU0.out.o.cell 1
      have kE0 : W0.cell? ⟨wr.heap.size, 0, none⟩ = some (.slice A1 n1 c1) := hE.out.cell 0
      have kE1 : W0.cell? ⟨wr.heap.size, 1, none⟩ = some (.slice A2 n2 c2) := hE.out.cell 1
      have kE2 : W0.cell? ⟨wr.heap.size, 2, none⟩ = some (.int .i64 ref) := hE.out.cell 2
      have kE3 : W0.cell? ⟨wr.heap.size, 3, none⟩ = some (.int .i64 nsn) := hE.out.cell 3
      go_region_law
        (first
          | (apply step_append_lies (s := .tmp 17) (x := .tmp 20) (t := 159) (base := w.heap.size + 1 + 1) (e := 181) (i := i0) (z := .agg #[.int .i64 0, .int .i64 0, .int .i64 0, .int .i64 0, .int .i64 0, .int .i64 0, .int .i64 0, .int .i64 0]) (size := 8) (bytes := 64) (v := v) (n := k) (xs := ss.flatMap SL.cells) (ad := ⟨W1.heap.size, 0, none⟩) (m := 1) (c := 1) (news := [.int .i64 p0, .int .i64 p1, .int .i64 p2, .int .i64 q0, .int .i64 q1, .int .i64 q2, .int .i64 ref, .int .i64 nsn]) (H := W1.heap.size + 1)
             case hgd => rfl
             case ho => rfl
             case ht => exact Tryz.underlying159
             case hi => exact IP.out.1
             case hz => exact IP.out.2.1
             case hsize => exact IP.out.2.2.1
             case hby => exact IP.out.2.2.2
             case hzs => rfl
             case hsz => omega
             case hs => rfl
             case hown => with_reducible (repeat (first | exact hU1.out.S | refine World.ownsRow.drew ?_ | refine World.ownsRow.alloc ?_ _))
             case hx => rfl
             case hl => rfl
             case hnews => exact World.news_of_block (cs := #[.int .i64 p0, .int .i64 p1, .int .i64 p2, .int .i64 q0, .int .i64 q1, .int .i64 q2, .int .i64 ref, .int .i64 nsn]) (t := 181) (fr := (0, 0)) (by (with_reducible (repeat (refine Lies.drew ?_))); exact Lies.laid rfl)
             case h1 => simp [Value.oneCell']
             case hm => omega
             case h63 => unfold maxLen; omega
             case hbytes => omega
             case hbase => simp only [size_of_drew, World.size_alloc]; omega
             case hH => simp only [size_of_drew, World.size_alloc]
             intro gg cap w1 hown1 hgrow hat hlt1
             have hS1 : Lies w1 (w.heap.size + 1) 161 #[.int .i64 d, v] := by
               refine Hold.mid (k := k) (xs := ss.flatMap SL.cells) ?_ hgrow
               with_reducible (repeat (first | exact hU1.out | refine Hold.drew ?_ | refine Hold.alloc ?_ _))
             have hS2 : Hid (Hold w (w1.setCell ⟨w.heap.size + 1, 1, none⟩ (.slice (some ⟨gg, 0, none⟩) (k + 1) cap)) d (k + 1) (ss.flatMap SL.cells ++ [.int .i64 p0, .int .i64 p1, .int .i64 p2, .int .i64 q0, .int .i64 q1, .int .i64 q2, .int .i64 ref, .int .i64 nsn]) (.slice (some ⟨gg, 0, none⟩) (k + 1) cap)) := by
               refine Hold.put ?_ hown1 hgrow
               with_reducible (repeat (first | exact hU1.out | refine Hold.drew ?_ | refine Hold.alloc ?_ _))
             have s0 : w1.cell? ⟨w.heap.size + 1, 1, none⟩ = some v := hS1.cell 1
             have s1 : w1.frozen? ⟨w.heap.size + 1, 1, none⟩ = false := hS1.thawed 1)
          | (go_simp; go_at_call 133; refine (slotFrom_any _ _ _ _ _ _ _ _ _ _ x1 x2 p0 p1 p2 q0 q1 q2 _ hp.out hq.out (i1.out.kept hU0.out.b.drew) (i2.out.kept hU0.out.b.drew)).mono ?_
             rintro e W1 ⟨rfl, b1d⟩
             have b1 := below_drawn b1d
             have hU1 := Lib.hid (hU0.out.call b1)
             have l4 : W1.cell? ⟨w.heap.size + 1, 1, none⟩ = some v := hU1.out.o.cell 1
             have hsz1 : w.heap.size + 1 < W1.heap.size := hU1.out.o.inside
             have ne1 : ¬ w.heap.size + 1 = W1.heap.size := by omega
             have ne2 : ¬ W1.heap.size = w.heap.size + 1 := by omega
             clear b1 b1d
             dsimp only))
      all_goals
        have hS3 : Hid (Hold w (w1.setCell ⟨w.heap.size + 1, 1, none⟩ (.slice (some ⟨gg, 0, none⟩) (k + 1) cap)) d (k + 1) ((ss ++ [(⟨p0, p1, p2, q0, q1, q2, ref, nsn⟩ : SL)]).flatMap SL.cells) (.slice (some ⟨gg, 0, none⟩) (k + 1) cap)) := by
          show Hold _ _ _ _ _ _
          rw [List.flatMap_append]
          exact hS2.out
        clear hS2
        go_wp2
        go_roundw
        case rel => exact ⟨k + 1, _, _, by omega, by go_num, hS3, hS'⟩
        case measure => simp [intOf]; omega
    · have hkn : k = n := by omega
      subst hkn
      have HS : Hid (SlotsOf (ps.map EV.val) ss) := by
        have := hS.out
        rwa [List.take_of_length_le (by rw [HL.out]; omega)] at this
      obtain ⟨A', c', hv, hSl⟩ := slots_of_owns hU.out.S
      subst hv
      have HSl := Lib.hid hSl
      have FR := Lib.hid ((Fresh.of_owns hU.out.S).lower (show w.heap.size ≤ _ by omega))
      clear hSl
      have y0 : wr.cell? ⟨w.heap.size + 1, 0, none⟩ = some (.int .i64 d) := hU.out.o.cell 0
      have y1 : wr.cell? ⟨w.heap.size + 1, 1, none⟩ = some (.slice A' k c') := hU.out.o.cell 1
      have z0 : wr.cell? ⟨w.heap.size, 0, none⟩ = some (.int .i64 0) := hU.out.r.cell 0
      have z1 : wr.cell? ⟨w.heap.size, 1, none⟩ = some (.slice none 0 0) := hU.out.r.cell 1
      have f0 : wr.frozen? ⟨w.heap.size, 0, none⟩ = false := hU.out.r.thawed 0
      have f1 : wr.frozen? ⟨w.heap.size, 1, none⟩ = false := hU.out.r.thawed 1
      go_wp2
      refine bodyPost_ret (v := .agg #[.int .i64 d, .slice A' k c']) (by simp [results, Tryz.results122, go_sem, z0, z1]) rfl ⟨A', c', ss, rfl, ?_, HS.out, FR.out, ?_⟩
      · exact slots_owned (ownsRow_far2 (ownsRow_far2 hU.out.S (by show w.heap.size < _; omega) _) (by show w.heap.size < _; omega) _)
      · exact (hU.out.b.setCell (Nat.le_refl _) _).setCell (Nat.le_refl _) _

/-- Slots that lie in a block from lo on and below hi. -/
structure SlotsF (W : World) (lo hi : Nat) (A : Option Addr) (n : Nat) (ss : List SL) : Prop where
  S : Slots W A n ss
  I : ∀ b o, 0 < n → A = some ⟨b, o, none⟩ → lo ≤ b ∧ b < hi
theorem SlotsF.drew {W : World} {lo hi n : Nat} {A : Option Addr} {ss : List SL} (h : SlotsF W lo hi A n ss) : SlotsF W.drew lo hi A n ss := ⟨h.S.kept (Below.refl _ _).drew, h.I⟩
theorem SlotsF.alloc {W : World} {lo hi n : Nat} {A : Option Addr} {ss : List SL} (h : SlotsF W lo hi A n ss) (o : Obj) : SlotsF (W.alloc o) lo hi A n ss := ⟨h.S.kept (below_alloc _ _), h.I⟩
theorem SlotsF.far {W : World} {lo hi n : Nat} {A : Option Addr} {ss : List SL} (h : SlotsF W lo hi A n ss) {a : Addr} (ha : a.block < lo ∨ hi ≤ a.block) (v : Value) : SlotsF (W.setCell a v) lo hi A n ss := by
  refine ⟨⟨h.S.1, fun hn => ?_⟩, h.I⟩
  obtain ⟨b, o, e, h2, h3⟩ := h.S.2 hn
  have := h.I b o hn e
  refine ⟨b, o, e, by rw [size_of_setCell]; exact h2, fun k s hs j u hu => ?_⟩
  rw [World.cell?_of_block (w := W) (a := ⟨b, o + k * 8 + j, none⟩) (heap_setCell_other W a b v (fun e => by omega))]
  exact h3 k s hs j u hu

set_option maxHeartbeats 800000 in
/-- A body becomes a leaf or an inner node. -/
theorem bodyHolder_any (d lv ns rt : Int) (n c : Nat) (A : Option Addr) (w : World) :
    Calls Tryz.prog 123 #[.agg #[.int .i64 d, .slice A n c, .int .i64 lv, .int .i64 ns, .int .i64 rt]] w fun e w' => e = .returned (holderV d lv ns rt A n c) ∧ Below w.heap.size w w' := by
  have B := Lib.hid (below_alloc w (.cells #[.int .i64 d, .slice A n c, .int .i64 lv, .int .i64 ns, .int .i64 rt] 164))
  by_cases hl0 : lv = 0
  · have hl1 : (lv == 0) = true := by simpa using hl0
    have HV : Hid (holderV d lv ns rt A n c = .iface 184 (.agg #[.int .i64 d, .slice A n c, .int .i64 lv, .int .i64 ns, .int .i64 rt])) := by show holderV _ _ _ _ _ _ _ = _; unfold holderV; rw [if_pos hl0]
    clear hl0
    go_enter Tryz.func123, Tryz.ntmps123
    go_wp2
    go_ret
    exact ⟨ret_val HV.out.symm, B.out⟩
  · have hl1 : (lv == 0) = false := by simpa using hl0
    have HV : Hid (holderV d lv ns rt A n c = .iface 185 (.agg #[.int .i64 d, .slice A n c, .int .i64 lv, .int .i64 ns, .int .i64 rt])) := by show holderV _ _ _ _ _ _ _ = _; unfold holderV; rw [if_neg hl0]
    clear hl0
    go_enter Tryz.func123, Tryz.ntmps123
    go_wp2
    go_ret
    exact ⟨ret_val HV.out.symm, B.out⟩

set_option maxRecDepth 100000 in
set_option maxHeartbeats 3200000 in
theorem holderFrom_fresh (lv ns rt d : Int) (n c : Nat) (A : Option Addr) (ps : List EV) (w : World) (hp : Entries w A n ps) (hn : n ≤ 5) (hr : ∀ (j : Nat) (u : EVal), (ps.map EV.val)[j]? = some u → entF d u = 0) :
    Calls Tryz.prog 107 #[.agg #[.int .i64 lv, .int .i64 ns, .int .i64 rt, .slice A n c], .int .i64 d] w fun e w' => ∃ (A' : Option Addr) (c' : Nat) (ss : List SL), e = .returned (holderV d lv ns rt A' n c') ∧ Slots w' A' n ss ∧ SlotsOf (ps.map EV.val) ss ∧ Fresh w.heap.size A' n ∧ Below w.heap.size w w' := by
  have HP := Lib.hid hp
  have HR := Lib.hid hr
  clear hp hr
  have B := Lib.hid (below_alloc w (.cells #[.int .i64 lv, .int .i64 ns, .int .i64 rt, .slice A n c] 42))
  have L_n := Lib.hid (Lies.new w 42 #[.int .i64 lv, .int .i64 ns, .int .i64 rt, .slice A n c])
  have szW := B.out.size
  go_enter Tryz.func107, Tryz.ntmps107
  go_upto_region 1 with fail
  generalize hW : w.alloc (.cells #[.int .i64 lv, .int .i64 ns, .int .i64 rt, .slice A n c] 42) = W0 at *
  clear hW
  go_cut [5] (fun s5 wx => ∃ (n_b : Nat) (A' : Option Addr) (c' : Nat) (ss : List SL), s5 = .pointer (some ⟨n_b, 0, none⟩) ∧ Hid (Lies wx n_b 164 #[.int .i64 d, .slice A' n c', .int .i64 lv, .int .i64 ns, .int .i64 rt]) ∧ W0.heap.size ≤ n_b ∧ Hid (Slots wx A' n ss) ∧ Hid (SlotsOf (ps.map EV.val) ss) ∧ Hid (Fresh w.heap.size A' n) ∧ Hid (Since W0 wx))
  case first =>
    have c_n0 : W0.cell? ⟨w.heap.size, 0, none⟩ = some (.int .i64 lv) := L_n.out.cell 0
    have c_n1 : W0.cell? ⟨w.heap.size, 1, none⟩ = some (.int .i64 ns) := L_n.out.cell 1
    have c_n2 : W0.cell? ⟨w.heap.size, 2, none⟩ = some (.int .i64 rt) := L_n.out.cell 2
    have c_n3 : W0.cell? ⟨w.heap.size, 3, none⟩ = some (.slice A n c) := L_n.out.cell 3
    have i_n := L_n.out.inside
    have zd := size_of_drew
    go_region_held3 (fun w' => w'.cell? ⟨w.heap.size, 0, none⟩ = some (.int .i64 lv) ∧ w'.cell? ⟨w.heap.size, 1, none⟩ = some (.int .i64 ns) ∧ w'.cell? ⟨w.heap.size, 2, none⟩ = some (.int .i64 rt) ∧ w'.cell? ⟨w.heap.size, 3, none⟩ = some (.slice A n c))
      (exact ⟨Lies.cell (t := 42) (cs := #[.int .i64 lv, .int .i64 ns, .int .i64 rt, .slice A n c]) (by with_reducible (repeat (first | refine Lies.far ?_ ?_ _ | refine Lies.alloc ?_ _ | refine Lies.drew ?_ | refine Lies.call ?_ b1 | exact L_n.out)); all_goals (simp only [size_of_drew, size_of_setCell, World.size_alloc]; omega)) 0, Lies.cell (t := 42) (cs := #[.int .i64 lv, .int .i64 ns, .int .i64 rt, .slice A n c]) (by with_reducible (repeat (first | refine Lies.far ?_ ?_ _ | refine Lies.alloc ?_ _ | refine Lies.drew ?_ | refine Lies.call ?_ b1 | exact L_n.out)); all_goals (simp only [size_of_drew, size_of_setCell, World.size_alloc]; omega)) 1, Lies.cell (t := 42) (cs := #[.int .i64 lv, .int .i64 ns, .int .i64 rt, .slice A n c]) (by with_reducible (repeat (first | refine Lies.far ?_ ?_ _ | refine Lies.alloc ?_ _ | refine Lies.drew ?_ | refine Lies.call ?_ b1 | exact L_n.out)); all_goals (simp only [size_of_drew, size_of_setCell, World.size_alloc]; omega)) 2, Lies.cell (t := 42) (cs := #[.int .i64 lv, .int .i64 ns, .int .i64 rt, .slice A n c]) (by with_reducible (repeat (first | refine Lies.far ?_ ?_ _ | refine Lies.alloc ?_ _ | refine Lies.drew ?_ | refine Lies.call ?_ b1 | exact L_n.out)); all_goals (simp only [size_of_drew, size_of_setCell, World.size_alloc]; omega)) 3⟩)
      (first
        | (go_at_call 122; refine (bunchFrom_fresh _ _ _ _ ps _ (HP.out.kept (by with_reducible (repeat (first | refine Since.below ?_ | refine Since.drew ?_ | refine Since.alloc ?_ _ | exact Since.of B.out)))) (by omega) HR.out).mono ?_
           rintro e W1 ⟨A', c', ss, rfl, hS, hO, hF, b1⟩
           have q_W1 := cells_kept b1
           have u_W1 := frozen_kept b1
           have z_W1 := sizes_kept b1
           try simp only [size_of_drew, World.size_alloc] at z_W1
           try simp only [size_of_drew, World.size_alloc] at hF
           have le_W0_W1 : W0.heap.size ≤ W1.heap.size := by omega
           try (have lt_W0_W1 : W0.heap.size < W1.heap.size := by omega)))
    all_goals
      rename_i hH
      clear hH zd q_W1 u_W1 c_n0 c_n1 c_n2 c_n3
      go_wp2_with fail
      go_meet
      refine ⟨_, A', c', ss, rfl, ?_, ?_, ?_, ?_, ?_, ?_⟩
      · refine Lib.hid ?_
        first
          | (refine Lies.as (cs := (((((#[.int .i64 0, .slice none 0 0, .int .i64 0, .int .i64 0, .int .i64 0].setIfInBounds 0 (.int .i64 d)).setIfInBounds 1 (.slice A' n c')).setIfInBounds 2 (.int .i64 lv)).setIfInBounds 3 (.int .i64 ns)).setIfInBounds 4 (.int .i64 rt))) ?_ (by simp)
             with_reducible (repeat (first | refine Lies.set ?_ _ _ | refine Lies.far ?_ ?_ _ | (refine Lies.laid ?_; (simp only [size_of_drew, size_of_setCell, World.size_alloc]; done)) | exact Lies.new _ _ _ | exact Lies.laid2 _ _ _ _ | refine Lies.alloc ?_ _ | refine Lies.drew ?_ | refine Lies.call ?_ b1))
             all_goals first | exact Nat.ne_of_lt (Nat.lt_succ_self _) | exact Nat.ne_of_gt (Nat.lt_succ_self _) | exact Nat.ne_of_lt lt_W0_W1 | exact Nat.ne_of_gt lt_W0_W1 | (show ¬ _ = _; (try simp only [size_of_drew, size_of_setCell, World.size_alloc]); omega)
             done)
          | (with_reducible (repeat (first | refine Lies.far ?_ ?_ _ | (refine Lies.laid ?_; (simp only [size_of_drew, size_of_setCell, World.size_alloc]; done)) | exact Lies.new _ _ _ | exact Lies.laid2 _ _ _ _ | refine Lies.alloc ?_ _ | refine Lies.drew ?_ | refine Lies.call ?_ b1))
             all_goals first | exact Nat.ne_of_lt (Nat.lt_succ_self _) | exact Nat.ne_of_gt (Nat.lt_succ_self _) | exact Nat.ne_of_lt lt_W0_W1 | exact Nat.ne_of_gt lt_W0_W1 | (show ¬ _ = _; (try simp only [size_of_drew, size_of_setCell, World.size_alloc]); omega)
             done)
      · first | exact Nat.le_refl _ | exact Nat.le_succ _ | exact le_W0_W1 | exact Nat.le_succ_of_le le_W0_W1 | omega
      · refine Lib.hid ?_
        have hI : ∀ (lo : Nat), Fresh lo A' n → ∀ b o, 0 < n → A' = some ⟨b, o, none⟩ → lo ≤ b ∧ b < W1.heap.size := by
          intro lo hF b o h0 e
          obtain ⟨g, e1, h1⟩ := hF h0
          obtain ⟨b2, o2, e2, h2, _⟩ := hS.2 h0
          rw [e] at e1 e2
          injection e1 with e1
          injection e1 with e1 e3
          injection e2 with e2
          injection e2 with e2 e4
          exact ⟨by omega, by omega⟩
        have hSF : SlotsF W1 _ W1.heap.size A' n ss := ⟨hS, hI _ hF⟩
        refine SlotsF.S (lo := ?_) (hi := W1.heap.size) ?_
        rotate_left
        with_reducible (repeat (first | refine SlotsF.far ?_ ?_ _ | refine SlotsF.alloc ?_ _ | refine SlotsF.drew ?_))
        · exact hSF
        all_goals ((try dsimp only); (try simp only [size_of_drew, size_of_setCell, World.size_alloc]); omega)
      · exact Lib.hid hO
      · exact Lib.hid (hF.lower (by (try simp only [size_of_drew, World.size_alloc]); omega))
      · refine Lib.hid ?_
        with_reducible (repeat (first | refine Since.setCell ?_ ?_ _ | refine Since.alloc ?_ _ | refine Since.drew ?_ | refine Since.call ?_ b1))
        · exact Since.of (Below.refl _ _)
        all_goals first | exact Nat.le_refl _ | exact Nat.le_succ _ | exact le_W0_W1 | exact Nat.le_succ_of_le le_W0_W1 | (show _ ≤ _; (try simp only [size_of_drew, size_of_setCell, World.size_alloc]); omega)
  case' rest =>
    obtain ⟨n_b, A', c', ss, rfl, L_b, g_b, HS, HO, FR, S⟩ := hcut
    have bS := S.out.below
    clear S
  replace L_n := Lib.hid (L_n.out.kept bS L_n.out.inside)
  replace B := Lib.hid (B.out.trans (bS.mono B.out.size))
  clear bS
  have y0 : wc.cell? ⟨n_b, 0, none⟩ = some (.int .i64 d) := L_b.out.cell 0
  have y1 : wc.cell? ⟨n_b, 1, none⟩ = some (.slice A' n c') := L_b.out.cell 1
  have y2 : wc.cell? ⟨n_b, 2, none⟩ = some (.int .i64 lv) := L_b.out.cell 2
  have y3 : wc.cell? ⟨n_b, 3, none⟩ = some (.int .i64 ns) := L_b.out.cell 3
  have y4 : wc.cell? ⟨n_b, 4, none⟩ = some (.int .i64 rt) := L_b.out.cell 4
  go_wp2_with fail
  refine (bodyHolder_any d lv ns rt n c' A' _).mono ?_
  rintro e W3 ⟨rfl, b3⟩
  clear y0 y1 y2 y3 y4
  have H3 := Lib.hid (HS.out.kept b3)
  have B3 := Lib.hid (B.out.trans (b3.mono B.out.size))
  clear b3
  go_wp2
  go_ret
  exact ⟨A', c', ss, rfl, H3.out, HO.out, FR.out, B3.out⟩

theorem holderFrom_any (lv ns rt d : Int) (n c : Nat) (A : Option Addr) (ps : List EV) (w : World) (hp : Entries w A n ps) (hn : n ≤ 5) (hr : ∀ (j : Nat) (u : EVal), (ps.map EV.val)[j]? = some u → entF d u = 0) :
    Calls Tryz.prog 107 #[.agg #[.int .i64 lv, .int .i64 ns, .int .i64 rt, .slice A n c], .int .i64 d] w fun e w' => ∃ (A' : Option Addr) (c' : Nat) (ss : List SL), e = .returned (holderV d lv ns rt A' n c') ∧ Slots w' A' n ss ∧ SlotsOf (ps.map EV.val) ss ∧ Below w.heap.size w w' :=
  (holderFrom_fresh lv ns rt d n c A ps w hp hn hr).mono fun _ _ ⟨A', c', ss, h1, h2, h3, _, h5⟩ => ⟨A', c', ss, h1, h2, h3, h5⟩

end Go.Proofs.YtpgoildfjkokiaaGreat
