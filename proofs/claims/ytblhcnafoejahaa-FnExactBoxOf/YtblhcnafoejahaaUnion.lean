/- The walk of spec.l1Union: for boxes without a fault: the least corners and the greatest, in new memory. -/
import Derived.Test.YtblhcnafoejahaaBoxVals
import Derived.Test.YtblhcnafoejahaaOrders
import Derived.Deep.RegionLaw
import Derived.Deep.RegionHeldLaw
import Derived.BigRegion
import Derived.Deep.AppendLies
namespace Go.Proofs.Ytblhcnafoejahaa
open Go.RowKit

theorem info_parts_i64 : ∃ i, Try.prog.info? 2 = some i ∧ i.zero = some (.int .i64 0) ∧ i.size = 1 ∧ i.bytes = 8 := by
  obtain ⟨i, hi, h⟩ := Option.map_eq_some_iff.1 info_i64
  simp only [Prod.mk.injEq] at h
  exact ⟨i, hi, h.1, h.2.1, h.2.2⟩

theorem below_grown {B : Nat} {a w w' : World} {row : Option Nat} (h : Below B a w) (hg : w.grownBy w' row) (hrow : ∀ r, row = some r → B ≤ r) (hs : B ≤ w.heap.size) : Below B a w' :=
  ⟨hg.os.trans h.os, hg.tape.trans h.tape, hg.output.trans h.output, Nat.le_trans h.size hg.size, fun g hgB => (hg.block g (Nat.lt_of_lt_of_le hgB hs) (fun e => by have := hrow g e.symm; omega)).trans (h.block g hgB)⟩

theorem ownsRow_far {w : World} {base : Nat} {e : TypeId} {size : Nat} {v : Value} {n : Nat} {xs : List Value} (h : w.ownsRow base e size v n xs) {a : Addr} (ha : a.block < base) (u : Value) : (w.setCell a u).ownsRow base e size v n xs := by
  obtain ⟨hl, h⟩ := h
  refine ⟨hl, ?_⟩
  rcases h with h | ⟨g, cap, cur, h1, h2, h3, h4⟩
  · exact Or.inl h
  · exact Or.inr ⟨g, cap, cur, h1, h2, (heap_setCell_other w a g u (by omega)).trans h3, h4⟩
theorem ownsRow_block {w : World} {base : Nat} {e : TypeId} {size : Nat} {v : Value} {n : Nat} {xs : List Value} (h : w.ownsRow base e size v n xs) : ∀ r, v.ownBlock = some r → base ≤ r ∧ r < w.heap.size := by
  intro r hr
  obtain ⟨hl, h⟩ := h
  rcases h with ⟨rfl, _⟩ | ⟨g, cap, cur, rfl, h2, h3, h4⟩
  · simp [Value.ownBlock] at hr
  · simp [Value.ownBlock] at hr
    subst hr
    refine ⟨h2, ?_⟩
    rcases Nat.lt_or_ge g w.heap.size with h' | h'
    · exact h'
    · exact absurd (h3.symm.trans (Array.getElem?_eq_none h')) (by simp)

/-- Where the union's loop stands: its two lists, kL and kH numbers long. -/
structure Uni (w wr : World) (kL kH : Nat) (lo hi : List Value) (vL vH : Value) : Prop where
  b : Below w.heap.size w wr
  r : Lies wr w.heap.size 35 #[.slice none 0 0, .slice none 0 0]
  o : Lies wr (w.heap.size + 1) 35 #[vL, vH]
  L : wr.ownsRow (w.heap.size + 1 + 1) 2 1 vL kL lo
  H : wr.ownsRow (w.heap.size + 1 + 1) 2 1 vH kH hi
  d : vL.ownBlock = none ∨ vL.ownBlock ≠ vH.ownBlock

theorem Uni.drew {w wr : World} {kL kH : Nat} {lo hi : List Value} {vL vH : Value} (h : Uni w wr kL kH lo hi vL vH) : Uni w wr.drew kL kH lo hi vL vH := ⟨h.b.drew, h.r, h.o, h.L.drew, h.H.drew, h.d⟩
theorem Uni.alloc {w wr : World} {kL kH : Nat} {lo hi : List Value} {vL vH : Value} (h : Uni w wr kL kH lo hi vL vH) (o : Obj) : Uni w (wr.alloc o) kL kH lo hi vL vH := ⟨h.b.alloc h.b.size o, h.r.alloc o, h.o.alloc o, h.L.alloc o, h.H.alloc o, h.d⟩
theorem Uni.low {w wr w1 : World} {kL kH g cap : Nat} {lo hi : List Value} {vL vH z : Value} (h : Uni w wr kL kH lo hi vL vH) (ho : w1.ownsRow (w.heap.size + 1 + 1) 2 1 (.slice (some ⟨g, 0, none⟩) (kL + 1) cap) (kL + 1) (lo ++ [z])) (hg : wr.grownBy w1 vL.ownBlock) (hat : vL.ownBlock = some g ∨ g = wr.heap.size) :
    Uni w (w1.setCell ⟨w.heap.size + 1, 0, none⟩ (.slice (some ⟨g, 0, none⟩) (kL + 1) cap)) (kL + 1) kH (lo ++ [z]) hi (.slice (some ⟨g, 0, none⟩) (kL + 1) cap) vH := by
  have hb := ownsRow_block h.L
  have nr : ∀ x, x < w.heap.size + 1 + 1 → some x ≠ vL.ownBlock := fun x hx e => by have := (hb x e.symm).1; omega
  have hH1 : w1.ownsRow (w.heap.size + 1 + 1) 2 1 vH kH hi := h.H.kept hg (by
    rcases h.d with h' | h'
    · rw [h']; cases vH.ownBlock <;> simp
    · exact Or.inr fun e => h' e.symm)
  have lr : Lies w1 w.heap.size 35 #[.slice none 0 0, .slice none 0 0] := (hg.block _ h.r.inside (nr _ (by omega))).trans h.r
  have lo' : Lies w1 (w.heap.size + 1) 35 #[vL, vH] := (hg.block _ h.o.inside (nr _ (by omega))).trans h.o
  refine ⟨(below_grown h.b hg (fun r e => by have := (hb r e).1; omega) h.b.size).setCell (by show w.heap.size ≤ w.heap.size + 1; omega) _, lr.far (by show w.heap.size ≠ w.heap.size + 1; omega) _, lo'.set 0 _, ownsRow_far ho (by show w.heap.size + 1 < _; omega) _, ownsRow_far hH1 (by show w.heap.size + 1 < _; omega) _, Or.inr ?_⟩
  show some g ≠ vH.ownBlock
  intro e
  have hg2 := ownsRow_block h.H g e.symm
  rcases hat with hat | hat
  · rcases h.d with h' | h'
    · rw [h'] at hat; cases hat
    · exact h' (hat.trans e)
  · omega
theorem Uni.high {w wr w1 : World} {kL kH g cap : Nat} {lo hi : List Value} {vL vH z : Value} (h : Uni w wr kL kH lo hi vL vH) (ho : w1.ownsRow (w.heap.size + 1 + 1) 2 1 (.slice (some ⟨g, 0, none⟩) (kH + 1) cap) (kH + 1) (hi ++ [z])) (hg : wr.grownBy w1 vH.ownBlock) (hat : vH.ownBlock = some g ∨ g = wr.heap.size) :
    Uni w (w1.setCell ⟨w.heap.size + 1, 1, none⟩ (.slice (some ⟨g, 0, none⟩) (kH + 1) cap)) kL (kH + 1) lo (hi ++ [z]) vL (.slice (some ⟨g, 0, none⟩) (kH + 1) cap) := by
  have hb := ownsRow_block h.H
  have nr : ∀ x, x < w.heap.size + 1 + 1 → some x ≠ vH.ownBlock := fun x hx e => by have := (hb x e.symm).1; omega
  have hL1 : w1.ownsRow (w.heap.size + 1 + 1) 2 1 vL kL lo := h.L.kept hg h.d
  have lr : Lies w1 w.heap.size 35 #[.slice none 0 0, .slice none 0 0] := (hg.block _ h.r.inside (nr _ (by omega))).trans h.r
  have lo' : Lies w1 (w.heap.size + 1) 35 #[vL, vH] := (hg.block _ h.o.inside (nr _ (by omega))).trans h.o
  refine ⟨(below_grown h.b hg (fun r e => by have := (hb r e).1; omega) h.b.size).setCell (by show w.heap.size ≤ w.heap.size + 1; omega) _, lr.far (by show w.heap.size ≠ w.heap.size + 1; omega) _, lo'.set 1 _, ownsRow_far hL1 (by show w.heap.size + 1 < _; omega) _, ownsRow_far ho (by show w.heap.size + 1 < _; omega) _, ?_⟩
  show vL.ownBlock = none ∨ vL.ownBlock ≠ some g
  rcases hv : vL.ownBlock with _ | r
  · exact Or.inl rfl
  · refine Or.inr fun e => ?_
    injection e with e
    subst e
    have hg2 := ownsRow_block h.L r hv
    rcases hat with hat | hat
    · rcases h.d with h' | h'
      · rw [h'] at hv; cases hv
      · exact h' (hv.trans hat.symm)
    · omega

/-- Behind the append, ahead of the store. -/
theorem Uni.mid {w wr w1 : World} {kL kH : Nat} {lo hi : List Value} {vL vH : Value} {row : Option Nat} (h : Uni w wr kL kH lo hi vL vH) (hg : wr.grownBy w1 row) (hr : row = vL.ownBlock ∨ row = vH.ownBlock) : Since w w1 ∧ Lies w1 (w.heap.size + 1) 35 #[vL, vH] := by
  have hb : ∀ r, row = some r → w.heap.size + 1 + 1 ≤ r := fun r e => by
    rcases hr with h' | h'
    · exact (ownsRow_block h.L r (h' ▸ e)).1
    · exact (ownsRow_block h.H r (h' ▸ e)).1
  exact ⟨below_grown h.b hg (fun r e => by have := hb r e; omega) h.b.size, (hg.block _ h.o.inside (fun e => by have := hb _ e.symm; omega)).trans h.o⟩

theorem map_take_next {xs : List Int} {k : Nat} {x : Int} (h : xs[k]? = some x) : (xs.take k).map (Value.int .i64) ++ [.int .i64 x] = (xs.take (k + 1)).map (Value.int .i64) := by
  rw [List.take_add_one, h, List.map_append]; rfl
theorem mins_at {xs us : List Int} {k : Nat} {x u : Int} (hx : xs[k]? = some x) (hu : us[k]? = some u) : (mins xs us)[k]? = some (min x u) := by
  unfold mins; rw [List.getElem?_zipWith, hx, hu]
theorem maxs_at {xs us : List Int} {k : Nat} {x u : Int} (hx : xs[k]? = some x) (hu : us[k]? = some u) : (maxs xs us)[k]? = some (max x u) := by
  unfold maxs; rw [List.getElem?_zipWith, hx, hu]

theorem Uni.start (w : World) : Uni w ((w.alloc (.cells #[.slice none 0 0, .slice none 0 0] 35)).alloc (.cells #[.slice none 0 0, .slice none 0 0] 35)) 0 0 [] [] (.slice none 0 0) (.slice none 0 0) := by
  have h2 := Lies.new (w.alloc (.cells #[.slice none 0 0, .slice none 0 0] 35)) 35 #[.slice none 0 0, .slice none 0 0]
  simp only [World.size_alloc] at h2
  exact ⟨(below_alloc _ _).alloc (below_alloc _ _).size _, (Lies.new w _ _).alloc _, h2, ⟨rfl, Or.inl ⟨rfl, rfl⟩⟩, ⟨rfl, Or.inl ⟨rfl, rfl⟩⟩, Or.inl rfl⟩

theorem Ints.far {w : World} {lo n : Nat} {A : Option Addr} {xs : List Int} (h : Ints w lo A n xs) {a : Addr} (ha : a.block < lo) (v : Value) : Ints (w.setCell a v) lo A n xs := by
  obtain ⟨hl, hr⟩ := h
  refine ⟨hl, fun hn => ?_⟩
  obtain ⟨b, o, e, h1, h2, h3⟩ := hr hn
  refine ⟨b, o, e, h1, by rw [size_of_setCell]; exact h2, fun k x hx => ?_⟩
  rw [World.cell?_of_block (w := w) (a := ⟨b, o + k, none⟩) (heap_setCell_other w a b v (by omega))]
  exact h3 k x hx
theorem ints_of_owns {w : World} {base n : Nat} {v : Value} {xs : List Int} (h : w.ownsRow base 2 1 v n (xs.map (Value.int .i64))) : ∃ A c, v = .slice A n c ∧ Ints w base A n xs := by
  obtain ⟨hl, h⟩ := h
  simp only [List.length_map, Nat.mul_one] at hl
  rcases h with ⟨rfl, rfl⟩ | ⟨g, cap, cur, rfl, h2, h3, h4, h5, h6, h7⟩
  · exact ⟨none, 0, rfl, hl, fun h => absurd h (Nat.lt_irrefl 0)⟩
  · refine ⟨_, _, rfl, hl, fun _ => ⟨g, 0, rfl, h2, ?_, fun k x hk => ?_⟩⟩
    · rcases Nat.lt_or_ge g w.heap.size with h' | h'
      · exact h'
      · exact absurd (h3.symm.trans (Array.getElem?_eq_none h')) (by simp)
    · rw [Nat.zero_add, cell_of_row w g k cur 2 (0, 0) h3]
      have hk2 : k < n := by rw [← hl]; exact (List.getElem?_eq_some_iff.1 hk).1
      have h8 : (cur.toList.take (n * 1))[k]? = some (.int .i64 x) := by rw [h7]; simp [hk]
      rw [List.getElem?_take, if_pos (by omega)] at h8
      simpa using h8

theorem ownsRow_form {w : World} {base n c : Nat} {e : TypeId} {size : Nat} {A : Option Addr} {xs : List Value} (h : w.ownsRow base e size (.slice A n c) n xs) (h0 : 0 < n) : ∃ g, A = some ⟨g, 0, none⟩ := by
  rcases h.2 with ⟨e1, e2⟩ | ⟨g, cap, cur, e1, _⟩
  · omega
  · injection e1 with e1
    exact ⟨g, e1⟩

set_option maxRecDepth 100000 in
set_option maxHeartbeats 6400000 in
theorem l1UnionFF_any (b1 f1 b2 f2 n c1 c2 c3 c4 lo1 lo2 lo3 lo4 : Nat) (A1 A2 A3 A4 : Option Addr) (xs ys us vs : List Int) (w : World)
    (hb1 : b1 < w.heap.size) (hb2 : b2 < w.heap.size)
    (ht : TwoAt b1 f1 b2 f2 (.slice A1 n c1) (.slice A2 n c2) (.slice A3 n c3) (.slice A4 n c4) w)
    (h1 : Ints w lo1 A1 n xs) (h2 : Ints w lo2 A2 n ys) (h3 : Ints w lo3 A3 n us) (h4 : Ints w lo4 A4 n vs) (hn : n ≤ 3) :
    Calls Try.prog 65 #[.pointer (some ⟨b1, f1, none⟩), .pointer (some ⟨b2, f2, none⟩)] w fun e w' => ∃ A c A' c', e = .returned (.agg #[.slice A n c, .slice A' n c']) ∧ Ints w' w.heap.size A n (mins xs us) ∧ Ints w' w.heap.size A' n (maxs ys vs) ∧ (0 < n → ∃ g g', A = some ⟨g, 0, none⟩ ∧ A' = some ⟨g', 0, none⟩) ∧ Below w.heap.size w w' := by
  have HT := Lib.hid ht
  have H1 := Lib.hid h1
  have H2 := Lib.hid h2
  have H3 := Lib.hid h3
  have H4 := Lib.hid h4
  clear ht h1 h2 h3 h4
  obtain ⟨i0, hi0, hz0, hz1, hz2⟩ := info_parts_i64
  have IP := Lib.hid (And.intro hi0 (And.intro hz0 (And.intro hz1 hz2)))
  clear hi0 hz0 hz1 hz2
  go_enter Try.func65, Try.ntmps65
  go_wp2
  go_loopw [6] (fun i wr => ∃ (k : Nat) (vL vH : Value), k ≤ n ∧ i = .int .i64 k ∧ Hid (Uni w wr k k (((mins xs us).take k).map (Value.int .i64)) (((maxs ys vs).take k).map (Value.int .i64)) vL vH)) (fun i _ => n - (intOf i).toNat)
  case atStart => exact ⟨0, .slice none 0 0, .slice none 0 0, Nat.zero_le _, rfl, Uni.start w⟩
  case round =>
    obtain ⟨k, vL, vH, hk, rfl, hU⟩ := hrel
    have t1 : wr.cell? ⟨b1, f1, none⟩ = some (.slice A1 n c1) := (hU.out.b.cell (p := ⟨b1, f1, none⟩) hb1).trans HT.out.1
    by_cases hlt : k < n
    · obtain ⟨g1, o1, x, rfl, _, q1, e1, hx⟩ := H1.out.cellAt hlt
      obtain ⟨g3, o3, u, rfl, _, q3, e3, hu⟩ := H3.out.cellAt hlt
      obtain ⟨g2, o2, y, rfl, _, q2, e2, hy⟩ := H2.out.cellAt hlt
      obtain ⟨g4, o4, v, rfl, _, q4, e4, hv⟩ := H4.out.cellAt hlt
      replace e1 := Lib.hid e1
      replace e2 := Lib.hid e2
      replace e3 := Lib.hid e3
      replace e4 := Lib.hid e4
      have HN0 := Lib.hid (map_take_next (mins_at hx.out hu.out))
      have HN1 := Lib.hid (map_take_next (maxs_at hy.out hv.out))
      have oc0 : wr.cell? ⟨w.heap.size + 1, 0, none⟩ = some vL := hU.out.o.cell 0
      have hsz : w.heap.size + 1 + 1 ≤ wr.heap.size := hU.out.o.inside
      have hsz1 : w.heap.size + 1 < wr.heap.size := hsz
      have ne1 : ¬ w.heap.size + 1 = wr.heap.size := by omega
      have ne2 : ¬ wr.heap.size = w.heap.size + 1 := by omega
      have ta : wr.cell? ⟨b1, f1, none⟩ = some (.slice (some ⟨g1, o1, none⟩) n c1) := (hU.out.b.cell (p := ⟨b1, f1, none⟩) hb1).trans HT.out.1
      have tb : wr.cell? ⟨b2, f2, none⟩ = some (.slice (some ⟨g3, o3, none⟩) n c3) := (hU.out.b.cell (p := ⟨b2, f2, none⟩) hb2).trans HT.out.2.2.1
      have da : wr.cell? ⟨g1, o1 + k, none⟩ = some (.int .i64 x) := (hU.out.b.cell (p := ⟨g1, o1 + k, none⟩) q1).trans e1.out
      have db : wr.cell? ⟨g3, o3 + k, none⟩ = some (.int .i64 u) := (hU.out.b.cell (p := ⟨g3, o3 + k, none⟩) q3).trans e3.out
      go_upto_region 5 with fail
      go_cut [6] (fun s6 wx => s6 = .int .i64 k ∧ ∃ vN, Hid (Uni w wx (k + 1) k (((mins xs us).take (k + 1)).map (Value.int .i64)) (((maxs ys vs).take k).map (Value.int .i64)) vN vH))
      case first =>
        go_region_law
          (first
            | (apply step_append_lies (s := .tmp 18) (x := .tmp 34) (t := 33) (base := w.heap.size + 1 + 1) (e := 2) (i := i0) (z := .int .i64 0) (size := 1) (bytes := 8) (v := vL) (n := k) (xs := (((mins xs us).take k).map (Value.int .i64))) (ad := ⟨wr.heap.size, 0, none⟩) (m := 1) (c := 1) (news := [.int .i64 (min x u)]) (H := wr.heap.size + 1)
               case hgd => rfl
               case ho => rfl
               case ht => exact Try.underlying33
               case hi => exact IP.out.1
               case hz => exact IP.out.2.1
               case hsize => exact IP.out.2.2.1
               case hby => exact IP.out.2.2.2
               case hzs => rfl
               case hsz => omega
               case hs => rfl
               case hown => with_reducible (repeat (first | exact hU.out.L | refine World.ownsRow.drew ?_ | refine World.ownsRow.alloc ?_ _))
               case hx => rfl
               case hl => rfl
               case hnews => exact World.news_of_block (cs := #[.int .i64 (min x u)]) (t := 2) (fr := (0, 0)) (by (with_reducible (repeat (refine Lies.drew ?_))); exact Lies.laid rfl)
               case h1 => simp [Value.oneCell']
               case hm => omega
               case h63 => unfold maxLen; omega
               case hbytes => omega
               case hbase => simp only [size_of_drew, World.size_alloc]; omega
               case hH => simp only [size_of_drew, World.size_alloc]
               intro gg cap w1 hown1 hgrow hat hlt1
               have hS1 : Since w w1 ∧ Lies w1 (w.heap.size + 1) 35 #[vL, vH] := by
                 refine Uni.mid (kL := k) (kH := k) (lo := (((mins xs us).take k).map (Value.int .i64))) (hi := (((maxs ys vs).take k).map (Value.int .i64))) (vL := vL) (vH := vH) ?_ hgrow (Or.inl rfl)
                 with_reducible (repeat (first | exact hU.out | refine Uni.drew ?_ | refine Uni.alloc ?_ _))
               have hS2 : Hid (Uni w (w1.setCell ⟨w.heap.size + 1, 0, none⟩ (.slice (some ⟨gg, 0, none⟩) (k + 1) cap)) (k + 1) k ((((mins xs us).take k).map (Value.int .i64)) ++ [.int .i64 (min x u)]) (((maxs ys vs).take k).map (Value.int .i64)) (.slice (some ⟨gg, 0, none⟩) (k + 1) cap) vH) := by
                 refine Uni.low ?_ hown1 hgrow (hat.imp id fun h => h.trans ?_)
                 · with_reducible (repeat (first | exact hU.out | refine Uni.drew ?_ | refine Uni.alloc ?_ _))
                 · simp only [size_of_drew, World.size_alloc]
               have s0 : w1.cell? ⟨w.heap.size + 1, 0, none⟩ = some vL := hS1.2.cell 0
               have s1 : w1.frozen? ⟨w.heap.size + 1, 0, none⟩ = false := hS1.2.thawed 0)
            | (go_simp; go_at_call 90; refine (l1Min_any _ _ _).mono ?_; rintro e w' ⟨rfl, rfl⟩; dsimp only))
        all_goals
          go_wp2_with fail
          go_meet
          refine ⟨rfl, .slice (some ⟨gg, 0, none⟩) (k + 1) cap, ?_⟩
          rw [← HN0.out]
          exact hS2
      case' rest =>
        obtain ⟨rfl, vN, hN⟩ := hcut
        clear hU oc0 hsz hsz1 ne1 ne2 ta tb da db
        clear t1
        have hU := hN
        clear hN
        generalize hvv : vN = vL2 at *
        clear hvv
        have oc1 : wc.cell? ⟨w.heap.size + 1, 1, none⟩ = some vH := hU.out.o.cell 1
        have hsz : w.heap.size + 1 + 1 ≤ wc.heap.size := hU.out.o.inside
        have hsz1 : w.heap.size + 1 < wc.heap.size := hsz
        have ne1 : ¬ w.heap.size + 1 = wc.heap.size := by omega
        have ne2 : ¬ wc.heap.size = w.heap.size + 1 := by omega
        have ta : wc.cell? ⟨b1, f1 + 1, none⟩ = some (.slice (some ⟨g2, o2, none⟩) n c2) := (hU.out.b.cell (p := ⟨b1, f1 + 1, none⟩) hb1).trans HT.out.2.1
        have tb : wc.cell? ⟨b2, f2 + 1, none⟩ = some (.slice (some ⟨g4, o4, none⟩) n c4) := (hU.out.b.cell (p := ⟨b2, f2 + 1, none⟩) hb2).trans HT.out.2.2.2
        have da : wc.cell? ⟨g2, o2 + k, none⟩ = some (.int .i64 y) := (hU.out.b.cell (p := ⟨g2, o2 + k, none⟩) q2).trans e2.out
        have db : wc.cell? ⟨g4, o4 + k, none⟩ = some (.int .i64 v) := (hU.out.b.cell (p := ⟨g4, o4 + k, none⟩) q4).trans e4.out
        go_upto_region 6 with fail
        go_region_law
          (first
            | (apply step_append_lies (s := .tmp 38) (x := .tmp 54) (t := 33) (base := w.heap.size + 1 + 1) (e := 2) (i := i0) (z := .int .i64 0) (size := 1) (bytes := 8) (v := vH) (n := k) (xs := (((maxs ys vs).take k).map (Value.int .i64))) (ad := ⟨wc.heap.size, 0, none⟩) (m := 1) (c := 1) (news := [.int .i64 (max y v)]) (H := wc.heap.size + 1)
               case hgd => rfl
               case ho => rfl
               case ht => exact Try.underlying33
               case hi => exact IP.out.1
               case hz => exact IP.out.2.1
               case hsize => exact IP.out.2.2.1
               case hby => exact IP.out.2.2.2
               case hzs => rfl
               case hsz => omega
               case hs => rfl
               case hown => with_reducible (repeat (first | exact hU.out.H | refine World.ownsRow.drew ?_ | refine World.ownsRow.alloc ?_ _))
               case hx => rfl
               case hl => rfl
               case hnews => exact World.news_of_block (cs := #[.int .i64 (max y v)]) (t := 2) (fr := (0, 0)) (by (with_reducible (repeat (refine Lies.drew ?_))); exact Lies.laid rfl)
               case h1 => simp [Value.oneCell']
               case hm => omega
               case h63 => unfold maxLen; omega
               case hbytes => omega
               case hbase => simp only [size_of_drew, World.size_alloc]; omega
               case hH => simp only [size_of_drew, World.size_alloc]
               intro gg cap w1 hown1 hgrow hat hlt1
               have hS1 : Since w w1 ∧ Lies w1 (w.heap.size + 1) 35 #[vL2, vH] := by
                 refine Uni.mid (kL := k + 1) (kH := k) (lo := (((mins xs us).take (k + 1)).map (Value.int .i64))) (hi := (((maxs ys vs).take k).map (Value.int .i64))) (vL := vL2) (vH := vH) ?_ hgrow (Or.inr rfl)
                 with_reducible (repeat (first | exact hU.out | refine Uni.drew ?_ | refine Uni.alloc ?_ _))
               have hS2 : Hid (Uni w (w1.setCell ⟨w.heap.size + 1, 1, none⟩ (.slice (some ⟨gg, 0, none⟩) (k + 1) cap)) (k + 1) (k + 1) (((mins xs us).take (k + 1)).map (Value.int .i64)) ((((maxs ys vs).take k).map (Value.int .i64)) ++ [.int .i64 (max y v)]) vL2 (.slice (some ⟨gg, 0, none⟩) (k + 1) cap)) := by
                 refine Uni.high ?_ hown1 hgrow (hat.imp id fun h => h.trans ?_)
                 · with_reducible (repeat (first | exact hU.out | refine Uni.drew ?_ | refine Uni.alloc ?_ _))
                 · simp only [size_of_drew, World.size_alloc]
               have s0 : w1.cell? ⟨w.heap.size + 1, 1, none⟩ = some vH := hS1.2.cell 1
               have s1 : w1.frozen? ⟨w.heap.size + 1, 1, none⟩ = false := hS1.2.thawed 1)
            | (go_simp; go_at_call 91; refine (l1Max_any _ _ _).mono ?_; rintro e w' ⟨rfl, rfl⟩; dsimp only))
        all_goals
          have hS3 : Hid (Uni w (w1.setCell ⟨w.heap.size + 1, 1, none⟩ (.slice (some ⟨gg, 0, none⟩) (k + 1) cap)) (k + 1) (k + 1) (((mins xs us).take (k + 1)).map (Value.int .i64)) (((maxs ys vs).take (k + 1)).map (Value.int .i64)) vL2 (.slice (some ⟨gg, 0, none⟩) (k + 1) cap)) := by show Uni _ _ _ _ _ _ _ _; rw [← HN1.out]; exact hS2.out
          go_wp2
          go_roundw
          case rel => exact ⟨k + 1, vL2, _, by omega, by go_num, hS3⟩
          case measure => simp [intOf]; omega
    · have hkn : k = n := by omega
      subst hkn
      have HL : Hid ((((mins xs us).take k).map (Value.int .i64)) = (mins xs us).map (Value.int .i64)) := by show List.map _ _ = _; rw [List.take_of_length_le (by simp [mins, H1.out.1, H3.out.1])]
      have HH : Hid ((((maxs ys vs).take k).map (Value.int .i64)) = (maxs ys vs).map (Value.int .i64)) := by show List.map _ _ = _; rw [List.take_of_length_le (by simp [maxs, H2.out.1, H4.out.1])]
      obtain ⟨A, c, hvL, IL⟩ := ints_of_owns (HL.out ▸ hU.out.L)
      obtain ⟨A', c', hvH, IH⟩ := ints_of_owns (HH.out ▸ hU.out.H)
      subst hvL hvH
      have FO : Hid (0 < k → ∃ g g', A = some ⟨g, 0, none⟩ ∧ A' = some ⟨g', 0, none⟩) := by
        intro h0
        obtain ⟨g, hg⟩ := ownsRow_form hU.out.L h0
        obtain ⟨g', hg'⟩ := ownsRow_form hU.out.H h0
        exact ⟨g, g', hg, hg'⟩
      have c0 : wr.cell? ⟨w.heap.size + 1, 0, none⟩ = some (.slice A k c) := hU.out.o.cell 0
      have c1' : wr.cell? ⟨w.heap.size + 1, 1, none⟩ = some (.slice A' k c') := hU.out.o.cell 1
      have r0 : wr.cell? ⟨w.heap.size, 0, none⟩ = some (.slice none 0 0) := hU.out.r.cell 0
      have r1 : wr.cell? ⟨w.heap.size, 1, none⟩ = some (.slice none 0 0) := hU.out.r.cell 1
      have fz0 : wr.frozen? ⟨w.heap.size, 0, none⟩ = false := hU.out.r.thawed 0
      have fz1 : wr.frozen? ⟨w.heap.size, 1, none⟩ = false := hU.out.r.thawed 1
      have JL := Lib.hid IL
      have JH := Lib.hid IH
      clear IL IH
      go_wp2
      refine bodyPost_ret (v := .agg #[.slice A k c, .slice A' k c']) (by simp [results, Try.results65, go_sem, r0, r1]) rfl ⟨A, c, A', c', rfl, ?_, ?_, FO.out, ?_⟩
      · exact (((JL.out.far (by show w.heap.size < _; omega) _).far (by show w.heap.size < _; omega) _)).lower (by omega)
      · exact (((JH.out.far (by show w.heap.size < _; omega) _).far (by show w.heap.size < _; omega) _)).lower (by omega)
      · exact (hU.out.b.setCell (Nat.le_refl _) _).setCell (Nat.le_refl _) _

theorem l1UnionAt_any (b1 b2 f2 n c1 c2 c3 c4 lo1 lo2 lo3 lo4 : Nat) (A1 A2 A3 A4 : Option Addr) (xs ys us vs : List Int) (w : World)
    (hb1 : b1 < w.heap.size) (hb2 : b2 < w.heap.size)
    (ht : TwoAt b1 0 b2 f2 (.slice A1 n c1) (.slice A2 n c2) (.slice A3 n c3) (.slice A4 n c4) w)
    (h1 : Ints w lo1 A1 n xs) (h2 : Ints w lo2 A2 n ys) (h3 : Ints w lo3 A3 n us) (h4 : Ints w lo4 A4 n vs) (hn : n ≤ 3) :
    Calls Try.prog 65 #[.pointer (some ⟨b1, 0, none⟩), .pointer (some ⟨b2, f2, none⟩)] w fun e w' => ∃ A c A' c', e = .returned (.agg #[.slice A n c, .slice A' n c']) ∧ Ints w' w.heap.size A n (mins xs us) ∧ Ints w' w.heap.size A' n (maxs ys vs) ∧ Below w.heap.size w w' :=
  (l1UnionFF_any b1 0 b2 f2 n c1 c2 c3 c4 lo1 lo2 lo3 lo4 A1 A2 A3 A4 xs ys us vs w hb1 hb2 ht h1 h2 h3 h4 hn).mono fun _ _ ⟨A, c, A', c', k1, k2, k3, _, k5⟩ => ⟨A, c, A', c', k1, k2, k3, k5⟩

theorem l1Union_any (b1 b2 n c1 c2 c3 c4 lo1 lo2 lo3 lo4 : Nat) (A1 A2 A3 A4 : Option Addr) (xs ys us vs : List Int) (w : World)
    (hb1 : b1 < w.heap.size) (hb2 : b2 < w.heap.size)
    (ht : Two b1 b2 (.slice A1 n c1) (.slice A2 n c2) (.slice A3 n c3) (.slice A4 n c4) w)
    (h1 : Ints w lo1 A1 n xs) (h2 : Ints w lo2 A2 n ys) (h3 : Ints w lo3 A3 n us) (h4 : Ints w lo4 A4 n vs) (hn : n ≤ 3) :
    Calls Try.prog 65 #[.pointer (some ⟨b1, 0, none⟩), .pointer (some ⟨b2, 0, none⟩)] w fun e w' => ∃ A c A' c', e = .returned (.agg #[.slice A n c, .slice A' n c']) ∧ Ints w' w.heap.size A n (mins xs us) ∧ Ints w' w.heap.size A' n (maxs ys vs) ∧ Below w.heap.size w w' :=
  l1UnionAt_any b1 b2 0 n c1 c2 c3 c4 lo1 lo2 lo3 lo4 A1 A2 A3 A4 xs ys us vs w hb1 hb2 ht h1 h2 h3 h4 hn

end Go.Proofs.Ytblhcnafoejahaa
