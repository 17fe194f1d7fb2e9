/- The walk of spec.l1Union: for boxes without a fault: the least corners and the greatest, in new memory. -/
import Derived.Test.YtpgoildfjkokiaaGreatBoxMath
import Derived.Test.YtpgoildfjkokiaaGreatNodeRes
import Derived.Deep.RegionLaw
import Derived.Deep.RegionHeldLaw
import Derived.BigRegion
import Derived.Deep.AppendLies
namespace Go.Proofs.YtpgoildfjkokiaaGreat
open Go.RowKit

theorem info_parts_i64 : ∃ i, Tryz.prog.info? 2 = some i ∧ i.zero = some (.int .i64 0) ∧ i.size = 1 ∧ i.bytes = 8 := by
  obtain ⟨i, hi, h⟩ := Option.map_eq_some_iff.1 info_i64
  simp only [Prod.mk.injEq] at h
  exact ⟨i, hi, h.1, h.2.1, h.2.2⟩

theorem below_grown {B : Nat} {a w w' : World} {row : Option Nat} (h : Below B a w) (hg : w.grownBy w' row) (hrow : ∀ r, row = some r → B ≤ r) (hs : B ≤ w.heap.size) : Below B a w' :=
  ⟨hg.os.trans h.os, hg.tape.trans h.tape, hg.output.trans h.output, Nat.le_trans h.size hg.size, fun g hgB => (hg.block g (Nat.lt_of_lt_of_le hgB hs) (fun e => by have := hrow g e.symm; omega)).trans (h.block g hgB)⟩

theorem ownsRow_far {w : World} {base : Nat} {e : TypeId} {size : Nat} {v : Value} {n : Nat} {xs : List Value} (h : w.ownsRow base e size v n xs) {a : Addr} (ha : a.block < base) (u : Value) : (w.setCell a u).ownsRow base e size v n xs := by
  obtain ⟨hl, h⟩ := h
  refine ⟨hl, ?_⟩
  rcases h with h | ⟨g, cap, cur, h1, h2, h3, h4⟩
  · exact Or.inl h
  · exact Or.inr ⟨g, cap, cur, h1, h2, (heap_setCell_other w a g u (by omega)).trans h3, h4⟩
theorem ownsRow_block {w : World} {base : Nat} {e : TypeId} {size : Nat} {v : Value} {n : Nat} {xs : List Value} (h : w.ownsRow base e size v n xs) : ∀ r, v.ownBlock = some r → base ≤ r ∧ r < w.heap.size := by
  intro r hr
  obtain ⟨hl, h⟩ := h
  rcases h with ⟨rfl, _⟩ | ⟨g, cap, cur, rfl, h2, h3, h4⟩
  · simp [Value.ownBlock] at hr
  · simp [Value.ownBlock] at hr
    subst hr
    refine ⟨h2, ?_⟩
    rcases Nat.lt_or_ge g w.heap.size with h' | h'
    · exact h'
    · exact absurd (h3.symm.trans (Array.getElem?_eq_none h')) (by simp)

/-- Where the union's loop stands: its two lists, kL and kH numbers long. -/
structure Uni (w wr : World) (kL kH : Nat) (lo hi : List Value) (vL vH : Value) : Prop where
  b : Below w.heap.size w wr
  r : Lies wr w.heap.size 148 #[.slice none 0 0, .slice none 0 0]
  o : Lies wr (w.heap.size + 1) 148 #[vL, vH]
  L : wr.ownsRow (w.heap.size + 1 + 1) 2 1 vL kL lo
  H : wr.ownsRow (w.heap.size + 1 + 1) 2 1 vH kH hi
  d : vL.ownBlock = none ∨ vL.ownBlock ≠ vH.ownBlock

theorem Uni.drew {w wr : World} {kL kH : Nat} {lo hi : List Value} {vL vH : Value} (h : Uni w wr kL kH lo hi vL vH) : Uni w wr.drew kL kH lo hi vL vH := ⟨h.b.drew, h.r, h.o, h.L.drew, h.H.drew, h.d⟩
theorem Uni.alloc {w wr : World} {kL kH : Nat} {lo hi : List Value} {vL vH : Value} (h : Uni w wr kL kH lo hi vL vH) (o : Obj) : Uni w (wr.alloc o) kL kH lo hi vL vH := ⟨h.b.alloc h.b.size o, h.r.alloc o, h.o.alloc o, h.L.alloc o, h.H.alloc o, h.d⟩
theorem Uni.low {w wr w1 : World} {kL kH g cap : Nat} {lo hi : List Value} {vL vH z : Value} (h : Uni w wr kL kH lo hi vL vH) (ho : w1.ownsRow (w.heap.size + 1 + 1) 2 1 (.slice (some ⟨g, 0, none⟩) (kL + 1) cap) (kL + 1) (lo ++ [z])) (hg : wr.grownBy w1 vL.ownBlock) (hat : vL.ownBlock = some g ∨ g = wr.heap.size) :
    Uni w (w1.setCell ⟨w.heap.size + 1, 0, none⟩ (.slice (some ⟨g, 0, none⟩) (kL + 1) cap)) (kL + 1) kH (lo ++ [z]) hi (.slice (some ⟨g, 0, none⟩) (kL + 1) cap) vH := by
  have hb := ownsRow_block h.L
  have nr : ∀ x, x < w.heap.size + 1 + 1 → some x ≠ vL.ownBlock := fun x hx e => by have := (hb x e.symm).1; omega
  have hH1 : w1.ownsRow (w.heap.size + 1 + 1) 2 1 vH kH hi := h.H.kept hg (by
    rcases h.d with h' | h'
    · rw [h']; cases vH.ownBlock <;> simp
    · exact Or.inr fun e => h' e.symm)
  have lr : Lies w1 w.heap.size 148 #[.slice none 0 0, .slice none 0 0] := (hg.block _ h.r.inside (nr _ (by omega))).trans h.r
  have lo' : Lies w1 (w.heap.size + 1) 148 #[vL, vH] := (hg.block _ h.o.inside (nr _ (by omega))).trans h.o
  refine ⟨(below_grown h.b hg (fun r e => by have := (hb r e).1; omega) h.b.size).setCell (by show w.heap.size ≤ w.heap.size + 1; omega) _, lr.far (by show w.heap.size ≠ w.heap.size + 1; omega) _, lo'.set 0 _, ownsRow_far ho (by show w.heap.size + 1 < _; omega) _, ownsRow_far hH1 (by show w.heap.size + 1 < _; omega) _, Or.inr ?_⟩
  show some g ≠ vH.ownBlock
  intro e
  have hg2 := ownsRow_block h.H g e.symm
  rcases hat with hat | hat
  · rcases h.d with h' | h'
    · rw [h'] at hat; cases hat
    · exact h' (hat.trans e)
  · omega
theorem Uni.high {w wr w1 : World} {kL kH g cap : Nat} {lo hi : List Value} {vL vH z : Value} (h : Uni w wr kL kH lo hi vL vH) (ho : w1.ownsRow (w.heap.size + 1 + 1) 2 1 (.slice (some ⟨g, 0, none⟩) (kH + 1) cap) (kH + 1) (hi ++ [z])) (hg : wr.grownBy w1 vH.ownBlock) (hat : vH.ownBlock = some g ∨ g = wr.heap.size) :
    Uni w (w1.setCell ⟨w.heap.size + 1, 1, none⟩ (.slice (some ⟨g, 0, none⟩) (kH + 1) cap)) kL (kH + 1) lo (hi ++ [z]) vL (.slice (some ⟨g, 0, none⟩) (kH + 1) cap) := by
  have hb := ownsRow_block h.H
  have nr : ∀ x, x < w.heap.size + 1 + 1 → some x ≠ vH.ownBlock := fun x hx e => by have := (hb x e.symm).1; omega
  have hL1 : w1.ownsRow (w.heap.size + 1 + 1) 2 1 vL kL lo := h.L.kept hg h.d
  have lr : Lies w1 w.heap.size 148 #[.slice none 0 0, .slice none 0 0] := (hg.block _ h.r.inside (nr _ (by omega))).trans h.r
  have lo' : Lies w1 (w.heap.size + 1) 148 #[vL, vH] := (hg.block _ h.o.inside (nr _ (by omega))).trans h.o
  refine ⟨(below_grown h.b hg (fun r e => by have := (hb r e).1; omega) h.b.size).setCell (by show w.heap.size ≤ w.heap.size + 1; omega) _, lr.far (by show w.heap.size ≠ w.heap.size + 1; omega) _, lo'.set 1 _, ownsRow_far hL1 (by show w.heap.size + 1 < _; omega) _, ownsRow_far ho (by show w.heap.size + 1 < _; omega) _, ?_⟩
  show vL.ownBlock = none ∨ vL.ownBlock ≠ some g
  rcases hv : vL.ownBlock with _ | r
  · exact Or.inl rfl
  · refine Or.inr fun e => ?_
    injection e with e
    subst e
    have hg2 := ownsRow_block h.L r hv
    rcases hat with hat | hat
    · rcases h.d with h' | h'
      · rw [h'] at hv; cases hv
      · exact h' (hv.trans hat.symm)
    · omega

/-- Behind the append, ahead of the store. -/
theorem Uni.mid {w wr w1 : World} {kL kH : Nat} {lo hi : List Value} {vL vH : Value} {row : Option Nat} (h : Uni w wr kL kH lo hi vL vH) (hg : wr.grownBy w1 row) (hr : row = vL.ownBlock ∨ row = vH.ownBlock) : Since w w1 ∧ Lies w1 (w.heap.size + 1) 148 #[vL, vH] := by
  have hb : ∀ r, row = some r → w.heap.size + 1 + 1 ≤ r := fun r e => by
    rcases hr with h' | h'
    · exact (ownsRow_block h.L r (h' ▸ e)).1
    · exact (ownsRow_block h.H r (h' ▸ e)).1
  exact ⟨below_grown h.b hg (fun r e => by have := hb r e; omega) h.b.size, (hg.block _ h.o.inside (fun e => by have := hb _ e.symm; omega)).trans h.o⟩

theorem map_take_next {xs : List Int} {k : Nat} {x : Int} (h : xs[k]? = some x) : (xs.take k).map (Value.int .i64) ++ [.int .i64 x] = (xs.take (k + 1)).map (Value.int .i64) := by
  rw [List.take_add_one, h, List.map_append]; rfl
theorem mins_at {xs us : List Int} {k : Nat} {x u : Int} (hx : xs[k]? = some x) (hu : us[k]? = some u) : (mins xs us)[k]? = some (min x u) := by
  unfold mins; rw [List.getElem?_zipWith, hx, hu]
theorem maxs_at {xs us : List Int} {k : Nat} {x u : Int} (hx : xs[k]? = some x) (hu : us[k]? = some u) : (maxs xs us)[k]? = some (max x u) := by
  unfold maxs; rw [List.getElem?_zipWith, hx, hu]

theorem Uni.start (w : World) : Uni w ((w.alloc (.cells #[.slice none 0 0, .slice none 0 0] 148)).alloc (.cells #[.slice none 0 0, .slice none 0 0] 148)) 0 0 [] [] (.slice none 0 0) (.slice none 0 0) := by
  have h2 := Lies.new (w.alloc (.cells #[.slice none 0 0, .slice none 0 0] 148)) 148 #[.slice none 0 0, .slice none 0 0]
  simp only [World.size_alloc] at h2
  exact ⟨(below_alloc _ _).alloc (below_alloc _ _).size _, (Lies.new w _ _).alloc _, h2, ⟨rfl, Or.inl ⟨rfl, rfl⟩⟩, ⟨rfl, Or.inl ⟨rfl, rfl⟩⟩, Or.inl rfl⟩

theorem Ints.far {w : World} {lo n : Nat} {A : Option Addr} {xs : List Int} (h : Ints w lo A n xs) {a : Addr} (ha : a.block < lo) (v : Value) : Ints (w.setCell a v) lo A n xs := by
  obtain ⟨hl, hr⟩ := h
  refine ⟨hl, fun hn => ?_⟩
  obtain ⟨b, o, e, h1, h2, h3⟩ := hr hn
  refine ⟨b, o, e, h1, by rw [size_of_setCell]; exact h2, fun k x hx => ?_⟩
  rw [World.cell?_of_block (w := w) (a := ⟨b, o + k, none⟩) (heap_setCell_other w a b v (by omega))]
  exact h3 k x hx
theorem ints_of_owns {w : World} {base n : Nat} {v : Value} {xs : List Int} (h : w.ownsRow base 2 1 v n (xs.map (Value.int .i64))) : ∃ A c, v = .slice A n c ∧ Ints w base A n xs := by
  obtain ⟨hl, h⟩ := h
  simp only [List.length_map, Nat.mul_one] at hl
  rcases h with ⟨rfl, rfl⟩ | ⟨g, cap, cur, rfl, h2, h3, h4, h5, h6, h7⟩
  · exact ⟨none, 0, rfl, hl, fun h => absurd h (Nat.lt_irrefl 0)⟩
  · refine ⟨_, _, rfl, hl, fun _ => ⟨g, 0, rfl, h2, ?_, fun k x hk => ?_⟩⟩
    · rcases Nat.lt_or_ge g w.heap.size with h' | h'
      · exact h'
      · exact absurd (h3.symm.trans (Array.getElem?_eq_none h')) (by simp)
    · rw [Nat.zero_add, cell_of_row w g k cur 2 (0, 0) h3]
      have hk2 : k < n := by rw [← hl]; exact (List.getElem?_eq_some_iff.1 hk).1
      have h8 : (cur.toList.take (n * 1))[k]? = some (.int .i64 x) := by rw [h7]; simp [hk]
      rw [List.getElem?_take, if_pos (by omega)] at h8
      simpa using h8

theorem ownsRow_form {w : World} {base n c : Nat} {e : TypeId} {size : Nat} {A : Option Addr} {xs : List Value} (h : w.ownsRow base e size (.slice A n c) n xs) (h0 : 0 < n) : ∃ g, A = some ⟨g, 0, none⟩ := by
  rcases h.2 with ⟨e1, e2⟩ | ⟨g, cap, cur, e1, _⟩
  · omega
  · injection e1 with e1
    exact ⟨g, e1⟩




end Go.Proofs.YtpgoildfjkokiaaGreat
