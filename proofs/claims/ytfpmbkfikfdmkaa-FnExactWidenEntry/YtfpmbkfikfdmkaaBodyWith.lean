/- The walk of impl.nodeBody's with, of a node that has an entry. -/
import Derived.Test.YtfpmbkfikfdmkaaWithout
import Derived.Test.YtfpmbkfikfdmkaaBodyNode
namespace Go.Proofs.Ytfpmbkfikfdmkaa
open Go.RowKit

/-- What stands while a slot is put behind the others. -/
structure BW (w wr : World) (bd zn : Array Value) : Prop where
  m : Lies wr w.heap.size 142 bd
  r : Lies wr (w.heap.size + 1 + 1) 142 zn
  b : Below w.heap.size w wr
section
variable {w wr : World} {bd zn : Array Value}
theorem BW.drew (h : BW w wr bd zn) : BW w wr.drew bd zn := ⟨h.m, h.r, h.b.drew⟩
theorem BW.alloc (h : BW w wr bd zn) (o : Obj) : BW w (wr.alloc o) bd zn := ⟨h.m.alloc o, h.r.alloc o, h.b.alloc h.b.size o⟩
theorem BW.call {W : World} (h : BW w wr bd zn) (hb : Below wr.heap.size wr W) : BW w W bd zn := ⟨h.m.kept hb h.m.inside, h.r.kept hb h.r.inside, h.b.trans (hb.mono h.b.size)⟩
theorem BW.grown {w1 : World} {g n cap : Nat} (h : BW w wr bd zn) (hg : wr.grownBy w1 (Value.slice (some ⟨g, 0, none⟩) n cap).ownBlock) (hb : w.heap.size + 1 + 1 + 1 ≤ g) : Lies w1 w.heap.size 142 bd ∧ Lies w1 (w.heap.size + 1 + 1) 142 zn ∧ Below w.heap.size w w1 := by
  refine ⟨(hg.block _ h.m.inside (fun e => ?_)).trans h.m, (hg.block _ h.r.inside (fun e => ?_)).trans h.r, below_grown2 h.b hg (fun r e => ?_) h.b.size⟩
  · simp only [Value.ownBlock, Option.some.injEq] at e; omega
  · simp only [Value.ownBlock, Option.some.injEq] at e; omega
  · simp only [Value.ownBlock, Option.some.injEq] at e; omega
end
theorem ownsRow_lower {w : World} {base base' : Nat} {e : TypeId} {size : Nat} {v : Value} {n : Nat} {xs : List Value} (h : w.ownsRow base e size v n xs) (hb : base' ≤ base) : w.ownsRow base' e size v n xs := by
  obtain ⟨hl, h⟩ := h
  refine ⟨hl, ?_⟩
  rcases h with h | ⟨g, cap, cur, h1, h2, h3⟩
  · exact Or.inl h
  · exact Or.inr ⟨g, cap, cur, h1, by omega, h3⟩
theorem SlotsOf.snoc {vs : List EVal} {ss : List SL} {v : EVal} {s : SL} (h : SlotsOf vs ss) (hs : SlotOf v s) : SlotsOf (vs ++ [v]) (ss ++ [s]) := by
  have h1 : SlotsOf ((vs ++ [v]).take vs.length) ss := by rw [List.take_left']; exact h; rfl
  have h2 := h1.next (k := vs.length) (v := v) (s := s) (by simp) hs
  rwa [List.take_of_length_le (by simp)] at h2
theorem LensE.snoc {dd : Nat} {vs : List EVal} {v : EVal} (h : LensE dd vs) (hv : v.1.length = dd ∧ v.2.1.length = dd) : LensE dd (vs ++ [v]) := by
  intro k u hu
  rcases Nat.lt_or_ge k vs.length with hk | hk
  · rw [List.getElem?_append_left hk] at hu; exact h k u hu
  · rw [List.getElem?_append_right hk] at hu
    have : k - vs.length = 0 := by have := (List.getElem?_eq_some_iff.1 hu).1; simp at this; omega
    rw [this] at hu; simp at hu; subst hu; exact hv

set_option maxRecDepth 100000 in
set_option maxHeartbeats 6400000 in
theorem with_any (d lv ns rt : Int) (n c : Nat) (A : Option Addr) (vs : List EVal) (ss : List SL) (ev : EVal) (p0 p1 p2 q0 q1 q2 ref nsn : Int) (w : World) (hp : Slots w A n ss) (ho : SlotsOf vs ss) (h0 : 0 < n) (hn : n ≤ 5) (hs : SlotOf ev ⟨p0, p1, p2, q0, q1, q2, ref, nsn⟩) :
    Calls Try.prog 174 #[.agg #[.int .i64 d, .slice A n c, .int .i64 lv, .int .i64 ns, .int .i64 rt], .agg #[.int .i64 p0, .int .i64 p1, .int .i64 p2, .int .i64 q0, .int .i64 q1, .int .i64 q2, .int .i64 ref, .int .i64 nsn]] w fun e w' => ∃ gg cap2, e = .returned (.agg #[.int .i64 d, .slice (some ⟨gg, 0, none⟩) (n + 1) cap2, .int .i64 lv, .int .i64 ns, .int .i64 rt]) ∧ Slots w' (some ⟨gg, 0, none⟩) (n + 1) (ss ++ [⟨p0, p1, p2, q0, q1, q2, ref, nsn⟩]) ∧ SlotsOf (vs ++ [ev]) (ss ++ [⟨p0, p1, p2, q0, q1, q2, ref, nsn⟩]) ∧ Below w.heap.size w w' := by
  have HP := Lib.hid hp
  have HO := Lib.hid (ho.snoc hs)
  clear hp ho hs
  obtain ⟨i0, hi0, hz0, hz1, hz2⟩ := info_slot
  have IP := Lib.hid (And.intro hi0 (And.intro hz0 (And.intro hz1 hz2)))
  clear hi0 hz0 hz1 hz2
  have B := Lib.hid (below_alloc w (.cells #[.int .i64 d, .slice A n c, .int .i64 lv, .int .i64 ns, .int .i64 rt] 142))
  replace B := Lib.hid (B.out.alloc B.out.size (.cells #[.int .i64 p0, .int .i64 p1, .int .i64 p2, .int .i64 q0, .int .i64 q1, .int .i64 q2, .int .i64 ref, .int .i64 nsn] 136))
  replace B := Lib.hid (B.out.alloc B.out.size (.cells #[.int .i64 0, .slice none 0 0, .int .i64 0, .int .i64 0, .int .i64 0] 142))
  have L_b := Lib.hid (((Lies.new w 142 #[.int .i64 d, .slice A n c, .int .i64 lv, .int .i64 ns, .int .i64 rt]).alloc (.cells #[.int .i64 p0, .int .i64 p1, .int .i64 p2, .int .i64 q0, .int .i64 q1, .int .i64 q2, .int .i64 ref, .int .i64 nsn] 136)).alloc (.cells #[.int .i64 0, .slice none 0 0, .int .i64 0, .int .i64 0, .int .i64 0] 142))
  have L_s := Lib.hid ((Lies.new (w.alloc (.cells #[.int .i64 d, .slice A n c, .int .i64 lv, .int .i64 ns, .int .i64 rt] 142)) 136 #[.int .i64 p0, .int .i64 p1, .int .i64 p2, .int .i64 q0, .int .i64 q1, .int .i64 q2, .int .i64 ref, .int .i64 nsn]).alloc (.cells #[.int .i64 0, .slice none 0 0, .int .i64 0, .int .i64 0, .int .i64 0] 142))
  have L_r := Lib.hid (Lies.new ((w.alloc (.cells #[.int .i64 d, .slice A n c, .int .i64 lv, .int .i64 ns, .int .i64 rt] 142)).alloc (.cells #[.int .i64 p0, .int .i64 p1, .int .i64 p2, .int .i64 q0, .int .i64 q1, .int .i64 q2, .int .i64 ref, .int .i64 nsn] 136)) 142 #[.int .i64 0, .slice none 0 0, .int .i64 0, .int .i64 0, .int .i64 0])
  simp only [World.size_alloc] at L_s L_r
  go_enter Try.func174, Try.ntmps174
  go_wp2
  generalize hW : (((w.alloc (.cells #[.int .i64 d, .slice A n c, .int .i64 lv, .int .i64 ns, .int .i64 rt] 142)).alloc (.cells #[.int .i64 p0, .int .i64 p1, .int .i64 p2, .int .i64 q0, .int .i64 q1, .int .i64 q2, .int .i64 ref, .int .i64 nsn] 136)).alloc (.cells #[.int .i64 0, .slice none 0 0, .int .i64 0, .int .i64 0, .int .i64 0] 142)) = W0 at *
  have hW0 : W0.heap.size = w.heap.size + 1 + 1 + 1 := by rw [← hW]; simp only [World.size_alloc]
  have HW0 := Lib.hid hW0
  clear hW hW0
  have BW0 : Hid (BW w W0 #[.int .i64 d, .slice A n c, .int .i64 lv, .int .i64 ns, .int .i64 rt] #[.int .i64 0, .slice none 0 0, .int .i64 0, .int .i64 0, .int .i64 0]) := ⟨L_b.out, L_r.out, B.out⟩
  have k4 : W0.cell? ⟨w.heap.size, 1, none⟩ = some (.slice A n c) := L_b.out.cell 1
  have k_s0 : W0.cell? ⟨w.heap.size + 1, 0, none⟩ = some (.int .i64 p0) := L_s.out.cell 0
  have k_s1 : W0.cell? ⟨w.heap.size + 1, 1, none⟩ = some (.int .i64 p1) := L_s.out.cell 1
  have k_s2 : W0.cell? ⟨w.heap.size + 1, 2, none⟩ = some (.int .i64 p2) := L_s.out.cell 2
  have k_s3 : W0.cell? ⟨w.heap.size + 1, 3, none⟩ = some (.int .i64 q0) := L_s.out.cell 3
  have k_s4 : W0.cell? ⟨w.heap.size + 1, 4, none⟩ = some (.int .i64 q1) := L_s.out.cell 4
  have k_s5 : W0.cell? ⟨w.heap.size + 1, 5, none⟩ = some (.int .i64 q2) := L_s.out.cell 5
  have k_s6 : W0.cell? ⟨w.heap.size + 1, 6, none⟩ = some (.int .i64 ref) := L_s.out.cell 6
  have k_s7 : W0.cell? ⟨w.heap.size + 1, 7, none⟩ = some (.int .i64 nsn) := L_s.out.cell 7
  have k4a : (W0.alloc (.cells #[.int .i64 p0, .int .i64 p1, .int .i64 p2, .int .i64 q0, .int .i64 q1, .int .i64 q2, .int .i64 ref, .int .i64 nsn] 136)).cell? ⟨w.heap.size, 1, none⟩ = some (.slice A n c) := (BW0.out.alloc _).m.cell 1
  have nw1 : ¬ w.heap.size = W0.heap.size := by have := HW0.out; omega
  have nw2 : ¬ W0.heap.size = w.heap.size := by have := HW0.out; omega
  go_region_law
    (first
      | (apply step_append_lies (s := .tmp 8) (x := .tmp 10) (t := 114) (base := w.heap.size + 1 + 1 + 1) (e := 136) (i := i0) (z := .agg #[.int .i64 0, .int .i64 0, .int .i64 0, .int .i64 0, .int .i64 0, .int .i64 0, .int .i64 0, .int .i64 0]) (size := 8) (bytes := 64) (v := .slice (some ⟨g, 0, none⟩) n cap) (n := n) (xs := ss.flatMap SL.cells) (ad := ⟨W1.heap.size, 0, none⟩) (m := 1) (c := 1) (news := [.int .i64 p0, .int .i64 p1, .int .i64 p2, .int .i64 q0, .int .i64 q1, .int .i64 q2, .int .i64 ref, .int .i64 nsn]) (H := W1.heap.size + 1)
         case hgd => rfl
         case ho => rfl
         case ht => exact Try.underlying114
         case hi => exact IP.out.1
         case hz => exact IP.out.2.1
         case hsize => exact IP.out.2.2.1
         case hby => exact IP.out.2.2.2
         case hzs => rfl
         case hsz => omega
         case hs => rfl
         case hx => rfl
         case hown => with_reducible (repeat (first | exact HOW.out | refine World.ownsRow.drew ?_ | refine World.ownsRow.alloc ?_ _))
         case hl => rfl
         case hnews => exact World.news_of_block (cs := #[.int .i64 p0, .int .i64 p1, .int .i64 p2, .int .i64 q0, .int .i64 q1, .int .i64 q2, .int .i64 ref, .int .i64 nsn]) (t := 136) (fr := (0, 0)) (by (with_reducible (repeat (refine Lies.drew ?_))); exact Lies.laid rfl)
         case h1 => simp [Value.oneCell']
         case hm => omega
         case h63 => unfold maxLen; omega
         case hbytes => omega
         case hbase => (try simp only [size_of_drew, World.size_alloc]); omega
         case hH => (try simp only [size_of_drew, World.size_alloc])
         intro gg cap2 w1 hown1 hgrow hat hlt1
         have hS1 : Lies w1 w.heap.size 142 #[.int .i64 d, .slice A n c, .int .i64 lv, .int .i64 ns, .int .i64 rt] ∧ Lies w1 (w.heap.size + 1 + 1) 142 #[.int .i64 0, .slice none 0 0, .int .i64 0, .int .i64 0, .int .i64 0] ∧ Below w.heap.size w w1 := by
           refine BW.grown (n := n) (cap := cap) (g := g) ?_ hgrow hgb
           with_reducible (repeat (first | exact BW1.out | refine BW.drew ?_ | refine BW.alloc ?_ _))
         have HS1 := Lib.hid hS1
         have OWN := Lib.hid hown1
         have s4 : w1.cell? ⟨w.heap.size, 1, none⟩ = some (.slice A n c) := hS1.1.cell 1
         have f4 : w1.frozen? ⟨w.heap.size, 1, none⟩ = false := hS1.1.thawed 1
         clear hS1 hown1 hgrow hat hlt1)
      | (apply step_append_lies (s := .tmp 8) (x := .tmp 10) (t := 114) (base := w.heap.size + 1 + 1 + 1) (e := 136) (i := i0) (z := .agg #[.int .i64 0, .int .i64 0, .int .i64 0, .int .i64 0, .int .i64 0, .int .i64 0, .int .i64 0, .int .i64 0]) (size := 8) (bytes := 64) (v := .slice (some ⟨g, 0, none⟩) n cap) (n := n) (xs := ss.flatMap SL.cells) (ad := ⟨W0.heap.size, 0, none⟩) (m := 1) (c := 1) (news := [.int .i64 p0, .int .i64 p1, .int .i64 p2, .int .i64 q0, .int .i64 q1, .int .i64 q2, .int .i64 ref, .int .i64 nsn]) (H := W1.heap.size)
         case hgd => rfl
         case ho => rfl
         case ht => exact Try.underlying114
         case hi => exact IP.out.1
         case hz => exact IP.out.2.1
         case hsize => exact IP.out.2.2.1
         case hby => exact IP.out.2.2.2
         case hzs => rfl
         case hsz => omega
         case hs => rfl
         case hx => rfl
         case hown => with_reducible (repeat (first | exact HOW.out | refine World.ownsRow.drew ?_ | refine World.ownsRow.alloc ?_ _))
         case hl => rfl
         case hnews => exact World.news_of_block (cs := #[.int .i64 p0, .int .i64 p1, .int .i64 p2, .int .i64 q0, .int .i64 q1, .int .i64 q2, .int .i64 ref, .int .i64 nsn]) (t := 136) (fr := (0, 0)) (by (with_reducible (repeat (refine Lies.drew ?_))); exact L_n.out)
         case h1 => simp [Value.oneCell']
         case hm => omega
         case h63 => unfold maxLen; omega
         case hbytes => omega
         case hbase => (try simp only [size_of_drew, World.size_alloc]); omega
         case hH => (try simp only [size_of_drew, World.size_alloc])
         intro gg cap2 w1 hown1 hgrow hat hlt1
         have hS1 : Lies w1 w.heap.size 142 #[.int .i64 d, .slice A n c, .int .i64 lv, .int .i64 ns, .int .i64 rt] ∧ Lies w1 (w.heap.size + 1 + 1) 142 #[.int .i64 0, .slice none 0 0, .int .i64 0, .int .i64 0, .int .i64 0] ∧ Below w.heap.size w w1 := by
           refine BW.grown (n := n) (cap := cap) (g := g) ?_ hgrow hgb
           with_reducible (repeat (first | exact BW1.out | refine BW.drew ?_ | refine BW.alloc ?_ _))
         have HS1 := Lib.hid hS1
         have OWN := Lib.hid hown1
         have s4 : w1.cell? ⟨w.heap.size, 1, none⟩ = some (.slice A n c) := hS1.1.cell 1
         have f4 : w1.frozen? ⟨w.heap.size, 1, none⟩ = false := hS1.1.thawed 1
         clear hS1 hown1 hgrow hat hlt1)
      | (go_simp; go_at_call 128; refine (clone_any n c A ss _ (HP.out.kept B.out.drew) h0 (by omega)).mono ?_
         rintro e W1 ⟨g, cap, rfl, how, b1⟩
         have HOW : Hid (W1.ownsRow (w.heap.size + 1 + 1 + 1) 136 8 (.slice (some ⟨g, 0, none⟩) n cap) n (ss.flatMap SL.cells)) := ownsRow_lower how (by (try simp only [size_of_drew, World.size_alloc]); rw [HW0.out]; omega)
         have hgb : w.heap.size + 1 + 1 + 1 ≤ g := (ownsRow_block2 HOW.out g rfl).1
         have BW1 := Lib.hid (BW0.out.drew.call b1)
         have hz1 := b1.size
         (try simp only [size_of_drew, World.size_alloc] at hz1)
         have hz0 := HW0.out
         have hsz1 : w.heap.size + 1 < W1.heap.size := by omega
         have hszm : w.heap.size < W1.heap.size := by omega
         have hszw : w.heap.size + 1 + 1 + 1 ≤ W1.heap.size := by omega
         clear hz0
         have LS1 := Lib.hid ((L_s.out.drew).kept b1 (L_s.out.drew).inside)
         have l_s0 : W1.cell? ⟨w.heap.size + 1, 0, none⟩ = some (.int .i64 p0) := LS1.out.cell 0
         have l_s1 : W1.cell? ⟨w.heap.size + 1, 1, none⟩ = some (.int .i64 p1) := LS1.out.cell 1
         have l_s2 : W1.cell? ⟨w.heap.size + 1, 2, none⟩ = some (.int .i64 p2) := LS1.out.cell 2
         have l_s3 : W1.cell? ⟨w.heap.size + 1, 3, none⟩ = some (.int .i64 q0) := LS1.out.cell 3
         have l_s4 : W1.cell? ⟨w.heap.size + 1, 4, none⟩ = some (.int .i64 q1) := LS1.out.cell 4
         have l_s5 : W1.cell? ⟨w.heap.size + 1, 5, none⟩ = some (.int .i64 q2) := LS1.out.cell 5
         have l_s6 : W1.cell? ⟨w.heap.size + 1, 6, none⟩ = some (.int .i64 ref) := LS1.out.cell 6
         have l_s7 : W1.cell? ⟨w.heap.size + 1, 7, none⟩ = some (.int .i64 nsn) := LS1.out.cell 7
         have ne1 : ¬ w.heap.size + 1 = W1.heap.size := by omega
         have ne2 : ¬ W1.heap.size = w.heap.size + 1 := by omega
         clear b1 how hz1
         dsimp only)
      | (go_simp; go_at_call 128; refine (clone_any n c A ss _ (HP.out.kept (B.out.alloc B.out.size _).drew) h0 (by omega)).mono ?_
         rintro e W1 ⟨g, cap, rfl, how, b1⟩
         have HOW : Hid (W1.ownsRow (w.heap.size + 1 + 1 + 1) 136 8 (.slice (some ⟨g, 0, none⟩) n cap) n (ss.flatMap SL.cells)) := ownsRow_lower how (by (try simp only [size_of_drew, World.size_alloc]); rw [HW0.out]; omega)
         have hgb : w.heap.size + 1 + 1 + 1 ≤ g := (ownsRow_block2 HOW.out g rfl).1
         have BW1 := Lib.hid (((BW0.out.alloc (.cells #[.int .i64 p0, .int .i64 p1, .int .i64 p2, .int .i64 q0, .int .i64 q1, .int .i64 q2, .int .i64 ref, .int .i64 nsn] 136)).drew).call b1)
         have hz1 := b1.size
         (try simp only [size_of_drew, World.size_alloc] at hz1)
         have hz0 := HW0.out
         have hsz1 : w.heap.size + 1 < W1.heap.size := by omega
         have hszm : w.heap.size < W1.heap.size := by omega
         have hszw : w.heap.size + 1 + 1 + 1 ≤ W1.heap.size := by omega
         clear hz0
         have LS1 := Lib.hid (((L_s.out.alloc (.cells #[.int .i64 p0, .int .i64 p1, .int .i64 p2, .int .i64 q0, .int .i64 q1, .int .i64 q2, .int .i64 ref, .int .i64 nsn] 136)).drew).kept b1 ((L_s.out.alloc (.cells #[.int .i64 p0, .int .i64 p1, .int .i64 p2, .int .i64 q0, .int .i64 q1, .int .i64 q2, .int .i64 ref, .int .i64 nsn] 136)).drew).inside)
         have l_s0 : W1.cell? ⟨w.heap.size + 1, 0, none⟩ = some (.int .i64 p0) := LS1.out.cell 0
         have l_s1 : W1.cell? ⟨w.heap.size + 1, 1, none⟩ = some (.int .i64 p1) := LS1.out.cell 1
         have l_s2 : W1.cell? ⟨w.heap.size + 1, 2, none⟩ = some (.int .i64 p2) := LS1.out.cell 2
         have l_s3 : W1.cell? ⟨w.heap.size + 1, 3, none⟩ = some (.int .i64 q0) := LS1.out.cell 3
         have l_s4 : W1.cell? ⟨w.heap.size + 1, 4, none⟩ = some (.int .i64 q1) := LS1.out.cell 4
         have l_s5 : W1.cell? ⟨w.heap.size + 1, 5, none⟩ = some (.int .i64 q2) := LS1.out.cell 5
         have l_s6 : W1.cell? ⟨w.heap.size + 1, 6, none⟩ = some (.int .i64 ref) := LS1.out.cell 6
         have l_s7 : W1.cell? ⟨w.heap.size + 1, 7, none⟩ = some (.int .i64 nsn) := LS1.out.cell 7
         have ne1 : ¬ w.heap.size + 1 = W1.heap.size := by omega
         have ne2 : ¬ W1.heap.size = w.heap.size + 1 := by omega
         have L_n := Lib.hid ((Lies.new W0 136 #[.int .i64 p0, .int .i64 p1, .int .i64 p2, .int .i64 q0, .int .i64 q1, .int .i64 q2, .int .i64 ref, .int .i64 nsn]).drew.kept b1 (Lies.new W0 136 #[.int .i64 p0, .int .i64 p1, .int .i64 p2, .int .i64 q0, .int .i64 q1, .int .i64 q2, .int .i64 ref, .int .i64 nsn]).drew.inside)
         (try simp only [size_of_drew] at L_n)
         clear b1 how hz1
         dsimp only))
  all_goals
    have FM : Hid ((ss ++ [(⟨p0, p1, p2, q0, q1, q2, ref, nsn⟩ : SL)]).flatMap SL.cells = ss.flatMap SL.cells ++ [.int .i64 p0, .int .i64 p1, .int .i64 p2, .int .i64 q0, .int .i64 q1, .int .i64 q2, .int .i64 ref, .int .i64 nsn]) := by show List.flatMap _ _ = _; rw [List.flatMap_append]; rfl
    have OW2 : Hid (w1.ownsRow (w.heap.size + 1 + 1 + 1) 136 8 (.slice (some ⟨gg, 0, none⟩) (n + 1) cap2) (n + 1) ((ss ++ [(⟨p0, p1, p2, q0, q1, q2, ref, nsn⟩ : SL)]).flatMap SL.cells)) := by show World.ownsRow _ _ _ _ _ _ _; rw [FM.out]; exact OWN.out
    have OW3 := Lib.hid (ownsRow_far2 OW2.out (a := ⟨w.heap.size, 1, none⟩) (by show w.heap.size < _; omega) (.slice (some ⟨gg, 0, none⟩) (n + 1) cap2))
    obtain ⟨A9, c9, e9, hsl⟩ := slots_of_owns OW3.out
    injection e9 with e91 e92 e93
    subst e91 e93
    have HSL := Lib.hid hsl
    have LR := Lib.hid (HS1.out.2.1.far (a := ⟨w.heap.size, 1, none⟩) (by show w.heap.size + 1 + 1 ≠ w.heap.size; omega) (.slice (some ⟨gg, 0, none⟩) (n + 1) cap2))
    have BB := Lib.hid (HS1.out.2.2.setCell (p := ⟨w.heap.size, 1, none⟩) (Nat.le_refl _) (.slice (some ⟨gg, 0, none⟩) (n + 1) cap2))
    have LB := Lib.hid (HS1.out.1.set 1 (.slice (some ⟨gg, 0, none⟩) (n + 1) cap2))
    have ggb := (ownsRow_block2 OWN.out gg rfl).1
    clear hsl OW2 OW3 FM OWN HS1 B L_b L_s L_r BW0
    go_upto_region 2 with fail
    generalize hWW : (w1.setCell ⟨w.heap.size, 1, none⟩ (.slice (some ⟨gg, 0, none⟩) (n + 1) cap2)) = W3 at *
    clear hWW s4 f4
    have c0 : W3.cell? ⟨w.heap.size, 0, none⟩ = some (.int .i64 d) := LB.out.cell 0
    have c1 : W3.cell? ⟨w.heap.size, 1, none⟩ = some (.slice (some ⟨gg, 0, none⟩) (n + 1) cap2) := LB.out.cell 1
    have c2 : W3.cell? ⟨w.heap.size, 2, none⟩ = some (.int .i64 lv) := LB.out.cell 2
    have c3 : W3.cell? ⟨w.heap.size, 3, none⟩ = some (.int .i64 ns) := LB.out.cell 3
    have c4 : W3.cell? ⟨w.heap.size, 4, none⟩ = some (.int .i64 rt) := LB.out.cell 4
    have z0 : W3.cell? ⟨w.heap.size + 1 + 1, 0, none⟩ = some (.int .i64 0) := LR.out.cell 0
    have z1 : W3.cell? ⟨w.heap.size + 1 + 1, 1, none⟩ = some (.slice none 0 0) := LR.out.cell 1
    have z2 : W3.cell? ⟨w.heap.size + 1 + 1, 2, none⟩ = some (.int .i64 0) := LR.out.cell 2
    have z3 : W3.cell? ⟨w.heap.size + 1 + 1, 3, none⟩ = some (.int .i64 0) := LR.out.cell 3
    have z4 : W3.cell? ⟨w.heap.size + 1 + 1, 4, none⟩ = some (.int .i64 0) := LR.out.cell 4
    have y0 : W3.frozen? ⟨w.heap.size + 1 + 1, 0, none⟩ = false := LR.out.thawed 0
    have y1 : W3.frozen? ⟨w.heap.size + 1 + 1, 1, none⟩ = false := LR.out.thawed 1
    have y2 : W3.frozen? ⟨w.heap.size + 1 + 1, 2, none⟩ = false := LR.out.thawed 2
    have y3 : W3.frozen? ⟨w.heap.size + 1 + 1, 3, none⟩ = false := LR.out.thawed 3
    have y4 : W3.frozen? ⟨w.heap.size + 1 + 1, 4, none⟩ = false := LR.out.thawed 4
    have gn : gg ≠ w.heap.size + 1 + 1 := by omega
    go_wp2
    refine bodyPost_ret (v := .agg #[.int .i64 d, .slice (some ⟨gg, 0, none⟩) (n + 1) cap2, .int .i64 lv, .int .i64 ns, .int .i64 rt]) (by simp [results, Try.results174, go_sem, z0, z1, z2, z3, z4]) rfl ⟨gg, ⟨cap2, rfl⟩, ?_, HO.out, ?_⟩
    · with_reducible (repeat (first | exact HSL.out | refine Slots.far ?_ ?_ _))
      all_goals exact gn
    · with_reducible (repeat (first | exact BB.out | refine Below.setCell ?_ ?_ _))
      all_goals (show w.heap.size ≤ w.heap.size + 1 + 1; omega)

end Go.Proofs.Ytfpmbkfikfdmkaa
