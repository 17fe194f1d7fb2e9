/- Marks as a list of cells: arenas, and answers that are arenas; eqArenaResult. -/
import Derived.Test.YtpgoildfjkokiaaGreatCells3
import Derived.Test.YtpgoildfjkokiaaGreatRects
import Derived.LoopN
import Derived.RegionTactic
import Derived.BigRegion
import Derived.IntWalk
namespace Go.Proofs.YtpgoildfjkokiaaGreat
open Go.RowKit

theorem cell_in {w : World} {a : Addr} {v : Value} (h : w.cell? a = some v) : a.block < w.heap.size := by
  unfold World.cell? at h
  split at h
  · rename_i c e f hb
    rcases Nat.lt_or_ge a.block w.heap.size with h' | h'
    · exact h'
    · exact absurd (hb.symm.trans (Array.getElem?_eq_none h')) (by simp)
  · simp at h
section
variable {w w' : World} {A : Option Addr} {n : Nat} {cs : List Addr} {k : Int}
theorem cell_kept (hb : Below w.heap.size w w') {a : Addr} {v : Value} (h : w.cell? a = some v) : w'.cell? a = some v := (hb.cell (p := a) (cell_in h)).trans h
theorem EntSh.kept {es : List EV} (h : EntSh w A n es) (hb : Below w.heap.size w w') : EntSh w' A n es := by
  refine ⟨h.1, fun h0 => ?_, h.2.2⟩
  obtain ⟨b, o, e, h1⟩ := h.2.1 h0
  exact ⟨b, o, e, fun k x hk => ⟨cell_kept hb (h1 k x hk).1, cell_kept hb (h1 k x hk).2⟩⟩
theorem NodeSh.kept {es : List NV} (h : NodeSh w A n es) (hb : Below w.heap.size w w') : NodeSh w' A n es := by
  refine ⟨h.1, fun h0 => ?_, fun e he => ⟨(h.2.2 e he).1.kept hb, (h.2.2 e he).2⟩⟩
  obtain ⟨b, o, e, h1⟩ := h.2.1 h0
  exact ⟨b, o, e, fun k x hk => cell_kept hb (h1 k x hk)⟩
theorem RetSh.kept {es : List RV} (h : RetSh w A n es) (hb : Below w.heap.size w w') : RetSh w' A n es := by
  refine ⟨h.1, fun h0 => ?_, h.2.2⟩
  obtain ⟨b, o, e, h1⟩ := h.2.1 h0
  exact ⟨b, o, e, fun k x hk => cell_kept hb (h1 k x hk)⟩
theorem MarkAt.kept (h : MarkAt w k cs) (hb : Below w.heap.size w w') : MarkAt w' k cs := fun i c hi => cell_kept hb (h i c hi)
theorem Writ.kept (h : Writ w cs) (hb : Below w.heap.size w w') : Writ w' cs := fun c hc => by
  obtain ⟨⟨x, hx⟩, hf⟩ := h c hc
  exact ⟨⟨x, cell_kept hb hx⟩, (hb.frozen (p := c) (cell_in hx)).trans hf⟩
end

/-- Marks were written into the cells cs (where these are all different: k, k + 1 and so on); of what there was nothing else has turned. -/
structure PassedD (D : Prop) (k : Int) (cs : List Addr) (w w' : World) : Prop where
  T : Turned (fun b => ∃ c ∈ cs, c.block = b) w w'
  o : ∀ a, a.block < w.heap.size → a ∉ cs → w'.cell? a = w.cell? a
  M : D → MarkAt w' k cs
theorem Pass.passed {D : Prop} {k : Int} {cs : List Addr} {w w0 w' : World} (h : Pass D k cs w0 w') (hb : Below w.heap.size w w0) : PassedD D k cs w w' :=
  ⟨(Turned.of_below hb).trans h.1.T, fun a ha hn => (h.1.o a hn).trans (hb.cell (p := a) ha), h.2⟩
/-- The marks were written into the cells cs; of what there was nothing else has turned. -/
structure Passed (k : Int) (cs : List Addr) (w w' : World) : Prop where
  T : Turned (fun b => ∃ c ∈ cs, c.block = b) w w'
  o : ∀ a, a.block < w.heap.size → a ∉ cs → w'.cell? a = w.cell? a
  M : MarkAt w' k cs
theorem Passed.before {k : Int} {cs : List Addr} {w w0 w' : World} (h : Passed k cs w0 w') (hb : Below w.heap.size w w0) : Passed k cs w w' :=
  ⟨(Turned.of_below hb).trans h.T, fun a ha hn => (h.o a (Nat.lt_of_lt_of_le ha hb.size) hn).trans (hb.cell (p := a) ha), h.M⟩

/-- The cells of an arena; its slices. -/
def arCells (A1 A2 A3 : Option Addr) (n2 : Nat) (ns : List NV) (rs : List RV) : List Addr := (nsA A1 ns ++ intCells A2 n2) ++ rsA A3 rs
structure ArSh (w : World) (A1 A2 A3 : Option Addr) (n1 n2 n3 : Nat) (ns : List NV) (rs : List RV) : Prop where
  N : NodeSh w A1 n1 ns
  F : Formed A2 n2
  R : RetSh w A3 n3 rs
  b1 : n1 ≤ 1048576
  b2 : n2 ≤ 1048576
  b3 : n3 ≤ 1048576
theorem ArSh.kept {w w' : World} {A1 A2 A3 : Option Addr} {n1 n2 n3 : Nat} {ns : List NV} {rs : List RV} (h : ArSh w A1 A2 A3 n1 n2 n3 ns rs) (hb : Below w.heap.size w w') : ArSh w' A1 A2 A3 n1 n2 n3 ns rs := ⟨h.N.kept hb, h.F, h.R.kept hb, h.b1, h.b2, h.b3⟩

set_option maxHeartbeats 1600000 in
theorem markArenaD_any {D : Prop} (k d : Int) (n1 c1 n2 c2 n3 c3 : Nat) (A1 A2 A3 : Option Addr) (ns : List NV) (rs : List RV) (w : World) (hS : ArSh w A1 A2 A3 n1 n2 n3 ns rs) (hw : Writ w (arCells A1 A2 A3 n2 ns rs)) (hd : D → (arCells A1 A2 A3 n2 ns rs).Nodup) (h0 : 0 ≤ k) (h1 : k + (arCells A1 A2 A3 n2 ns rs).length ≤ 4398046511104) :
    Calls Tryz.prog 18 #[.agg #[.int .i64 d, .slice A1 n1 c1, .slice A2 n2 c2, .slice A3 n3 c3], .int .i64 k] w fun e w' => e = .returned (.int .i64 (k + (arCells A1 A2 A3 n2 ns rs).length)) ∧ PassedD D k (arCells A1 A2 A3 n2 ns rs) w w' := by
  have B := Lib.hid (below_alloc w (.cells #[.int .i64 d, .slice A1 n1 c1, .slice A2 n2 c2, .slice A3 n3 c3] 26))
  have L := Lib.hid (Lies.new w 26 #[.int .i64 d, .slice A1 n1 c1, .slice A2 n2 c2, .slice A3 n3 c3])
  have SH := Lib.hid (hS.kept B.out)
  have HW := Lib.hid (hw.kept B.out)
  have HD := Lib.hid hd
  have b1 := hS.b1
  have b2 := hS.b2
  have b3 := hS.b3
  unfold arCells at HW HD h1 ⊢
  have hl2 := intCells_size hS.F
  obtain ⟨l1, hl1⟩ : ∃ l : Nat, (nsA A1 ns).length = l := ⟨_, rfl⟩
  obtain ⟨l3, hl3⟩ : ∃ l : Nat, (rsA A3 rs).length = l := ⟨_, rfl⟩
  simp only [List.length_append, hl1, hl2, hl3] at h1 ⊢
  clear hS hw hd
  go_enter Tryz.func18, Tryz.ntmps18
  go_wp2_with fail
  generalize hW : (w.alloc (.cells #[.int .i64 d, .slice A1 n1 c1, .slice A2 n2 c2, .slice A3 n3 c3] 26)) = W0 at *
  clear hW
  refine (markNodesC_any k n1 c1 A1 ns W0 SH.out.N HW.out.left.left (nd_left (nd_left HD.out)) h0 (by rw [hl1]; omega) b1).mono ?_
  rintro e W1 ⟨rfl, p1⟩
  rw [hl1]
  have P1 := Lib.hid p1
  have a2 : W1.cell? ⟨w.heap.size, 2, none⟩ = some (.slice A2 n2 c2) := p1.1.other HW.out.left.left (L.out.cell 2) (fun _ e => by simp at e)
  clear p1
  go_wp2_with fail
  refine (markIntsD_any (D := D) (k + l1) n2 c2 A2 W1 SH.out.F (HW.out.left.right.wrote P1.out.1) (nd_right (nd_left HD.out)) (by omega) (by omega) b2).mono ?_
  rintro e W2 ⟨rfl, w2, k2⟩
  have P2 : Hid (Pass D k (nsA A1 ns ++ intCells A2 n2) W0 W2) := P1.out.then (by rw [hl1]; exact ⟨w2, k2⟩) (nd_left HD.out)
  have a3 : W2.cell? ⟨w.heap.size, 3, none⟩ = some (.slice A3 n3 c3) := P2.out.1.other HW.out.left (L.out.cell 3) (fun _ e => by simp at e)
  clear w2 k2 a2 P1
  have hk2 : (k + (((nsA A1 ns ++ intCells A2 n2).length : Nat) : Int)) = k + l1 + n2 := by rw [List.length_append, hl1, hl2]; omega
  go_wp2_with fail
  refine (markRetsC_any (k + l1 + n2) n3 c3 A3 rs W2 (SH.out.R.wrote P2.out.1 HW.out.left) (HW.out.right.wrote P2.out.1) (nd_right HD.out) (by omega) (by rw [hl3]; omega) b3).mono ?_
  rintro e W3 ⟨rfl, p3⟩
  rw [hl3]
  have P3 := Lib.hid ((P2.out.then (by rw [hk2]; exact p3) HD.out).passed B.out)
  clear p3 P2 a3
  go_wp2
  go_ret
  exact ⟨ret_i64 (by (try simp only [List.length_append, hl1, hl2, hl3]); omega), P3.out⟩

theorem markArena_any (k d : Int) (n1 c1 n2 c2 n3 c3 : Nat) (A1 A2 A3 : Option Addr) (ns : List NV) (rs : List RV) (w : World) (hS : ArSh w A1 A2 A3 n1 n2 n3 ns rs) (hw : Writ w (arCells A1 A2 A3 n2 ns rs)) (hd : (arCells A1 A2 A3 n2 ns rs).Nodup) (h0 : 0 ≤ k) (h1 : k + (arCells A1 A2 A3 n2 ns rs).length ≤ 4398046511104) :
    Calls Tryz.prog 18 #[.agg #[.int .i64 d, .slice A1 n1 c1, .slice A2 n2 c2, .slice A3 n3 c3], .int .i64 k] w fun e w' => e = .returned (.int .i64 (k + (arCells A1 A2 A3 n2 ns rs).length)) ∧ Passed k (arCells A1 A2 A3 n2 ns rs) w w' :=
  (markArenaD_any (D := True) k d n1 c1 n2 c2 n3 c3 A1 A2 A3 ns rs w hS hw (fun _ => hd) h0 h1).mono fun _ _ ⟨h1, h2⟩ => ⟨h1, h2.T, h2.o, h2.M trivial⟩

set_option maxHeartbeats 1600000 in
theorem heldArena_any (k d : Int) (n1 c1 n2 c2 n3 c3 : Nat) (A1 A2 A3 : Option Addr) (ns : List NV) (rs : List RV) (w : World) (hS : ArSh w A1 A2 A3 n1 n2 n3 ns rs) (hm : MarkAt w k (arCells A1 A2 A3 n2 ns rs)) (h0 : 0 ≤ k) (h1 : k + (arCells A1 A2 A3 n2 ns rs).length ≤ 4398046511104) :
    Calls Tryz.prog 67 #[.agg #[.int .i64 d, .slice A1 n1 c1, .slice A2 n2 c2, .slice A3 n3 c3], .int .i64 k] w fun e w' => e = .returned (.int .i64 (k + (arCells A1 A2 A3 n2 ns rs).length)) ∧ Below w.heap.size w w' := by
  have B := Lib.hid (below_alloc w (.cells #[.int .i64 d, .slice A1 n1 c1, .slice A2 n2 c2, .slice A3 n3 c3] 26))
  have SH := Lib.hid (hS.kept B.out)
  have hM := hm.kept B.out
  have b1 := hS.b1
  have b2 := hS.b2
  have b3 := hS.b3
  unfold arCells at hM h1 ⊢
  have hl2 := intCells_size hS.F
  obtain ⟨l1, hl1⟩ : ∃ l : Nat, (nsA A1 ns).length = l := ⟨_, rfl⟩
  obtain ⟨l3, hl3⟩ : ∃ l : Nat, (rsA A3 rs).length = l := ⟨_, rfl⟩
  have M1 := Lib.hid hM.left.left
  have m2 := hM.left.right
  have m3 := hM.right
  rw [hl1] at m2
  rw [List.length_append, hl1, hl2, show (k + ((l1 + n2 : Nat) : Int)) = k + l1 + n2 by omega] at m3
  have M2 := Lib.hid m2
  have M3 := Lib.hid m3
  simp only [List.length_append, hl1, hl2, hl3] at h1 ⊢
  clear hS hm hM m2 m3
  have g1 : ¬ (k + (l1 : Int) < 0) := by omega
  have g2 : ¬ (k + (l1 : Int) + n2 < 0) := by omega
  have g3 : ¬ (k + (l1 : Int) + n2 + l3 < 0) := by omega
  go_enter Tryz.func67, Tryz.ntmps67
  go_wp2_with fail
  refine (heldNodesC_any k n1 c1 A1 ns _ SH.out.N M1.out h0 (by rw [hl1]; omega) b1).mono ?_
  rintro e w' ⟨rfl, rfl⟩
  rw [hl1]
  go_wp2_with fail
  refine (heldInts_any (k + l1) n2 c2 A2 _ SH.out.F M2.out (by omega) (by omega) b2).mono ?_
  rintro e w' ⟨rfl, rfl⟩
  go_wp2_with fail
  refine (heldRetsC_any (k + l1 + n2) n3 c3 A3 rs _ SH.out.R M3.out (by omega) (by rw [hl3]; omega) b3).mono ?_
  rintro e w' ⟨rfl, rfl⟩
  rw [hl3]
  go_wp2
  go_ret
  exact ⟨ret_i64 (by (try simp only [List.length_append, hl1, hl2, hl3]); omega), B.out⟩

end Go.Proofs.YtpgoildfjkokiaaGreat

/- The walks of impl's boxes (arrays of two corners): union, common, meets, area, margin, distance, for every number. -/
namespace Go.Proofs.YtpgoildfjkokiaaGreat
open Go.RowKit

theorem if_min (a b : Int) : (if b < a then b else a) = min a b := by omega
theorem if_max (a b : Int) : (if a < b then b else a) = max a b := by omega



/-- In each dimension neither Low is above the other one's High. -/
def boxMeets (a0 a1 a2 a3 a4 a5 : Int) (b0 b1 b2 b3 b4 b5 : Int) : Bool := decide (a0 ≤ b3) && decide (b0 ≤ a3) && decide (a1 ≤ b4) && decide (b1 ≤ a4) && decide (a2 ≤ b5) && decide (b2 ≤ a5)


end Go.Proofs.YtpgoildfjkokiaaGreat

/- The walks of impl's boxes, further: area, margin, distance. For boxes whose numbers are from -1000 to 1000 (what the functions above them have asked). -/
namespace Go.Proofs.YtpgoildfjkokiaaGreat
open Go.RowKit

theorem wrap64_in (n : Int) (h1 : -9223372036854775808 ≤ n) (h2 : n ≤ 9223372036854775807) : wrap64 n = n := by simp only [wrap64]; omega
theorem mul_le {x y a b : Int} (hx : 0 ≤ x) (hy : 0 ≤ y) (hxa : x ≤ a) (hyb : y ≤ b) : 0 ≤ x * y ∧ x * y ≤ a * b :=
  ⟨Int.mul_nonneg hx hy, Int.mul_le_mul hxa hyb hy (Int.le_trans hx hxa)⟩




/-- How far a number is from a stretch. -/
def away (l h n : Int) : Int := max (max (l - n) (n - h)) 0


end Go.Proofs.YtpgoildfjkokiaaGreat
