/- The laws' marks on boxes: markRect, markRectResult, heldRect, heldRectResult, and eqRectResult. -/
import Derived.Test.YtpgoildfjkokiabMarks
namespace Go.Proofs.Ytpgoildfjkokiab
open Go.RowKit

set_option maxHeartbeats 1600000 in
theorem markRect_any (k : Int) (n m c c' g g' : Nat) (xs ys : List Int) (w : World) (hx : Own w g n xs) (hy : Own w g' m ys) (hne : g ≠ g') (h0 : 0 ≤ k) (h1 : k ≤ 1073741824) (hn : n ≤ 1048576) (hm : m ≤ 1048576) :
    Calls Try.prog 37 #[.agg #[.slice (some ⟨g, 0, none⟩) n c, .slice (some ⟨g', 0, none⟩) m c'], .int .i64 k] w fun e w' => e = .returned (.int .i64 (k + n + m)) ∧ Own w' g n (marks k n) ∧ Own w' g' m (marks (k + n) m) ∧ Turned (fun x => x = g ∨ x = g') w w' := by
  have B := Lib.hid (below_alloc w (.cells #[.slice (some ⟨g, 0, none⟩) n c, .slice (some ⟨g', 0, none⟩) m c'] 26))
  have L_a := Lib.hid (Lies.new w 26 #[.slice (some ⟨g, 0, none⟩) n c, .slice (some ⟨g', 0, none⟩) m c'])
  have O_x := Lib.hid (hx.kept B.out)
  have O_y := Lib.hid (hy.kept B.out)
  have T : Hid (Turned (fun x => x = g ∨ x = g') w (w.alloc (.cells #[.slice (some ⟨g, 0, none⟩) n c, .slice (some ⟨g', 0, none⟩) m c'] 26))) := Turned.of_below B.out
  have na : w.heap.size ≠ g := by have := hx.inside; omega
  have nb : w.heap.size ≠ g' := by have := hy.inside; omega
  clear hx hy B
  go_enter Try.func37, Try.ntmps37
  go_wp2_with fail
  refine (markInt64S_any _ _ _ _ xs _ O_x.out h0 (by omega) hn).mono ?_
  rintro e W1 ⟨rfl, o1, t1⟩
  replace L_a := Lib.hid (t1.lies L_a.out na)
  replace O_y := Lib.hid (t1.own O_y.out (fun h => hne h.symm))
  replace O_x := Lib.hid o1
  replace T := Lib.hid (T.out.trans (t1.wider fun x h => Or.inl h))
  clear t1 o1
  have c1' : W1.cell? ⟨w.heap.size, 1, none⟩ = some (.slice (some ⟨g', 0, none⟩) m c') := L_a.out.cell 1
  go_wp2_with fail
  clear c1'
  refine (markInt64S_any _ _ _ _ ys _ O_y.out (by omega) (by omega) hm).mono ?_
  rintro e W2 ⟨rfl, o2, t2⟩
  replace O_x := Lib.hid (t2.own O_x.out hne)
  replace O_y := Lib.hid o2
  replace T := Lib.hid (T.out.trans (t2.wider fun x h => Or.inr h))
  clear t2 o2 L_a
  go_wp2
  go_ret
  exact ⟨rfl, O_x.out, O_y.out, T.out⟩

set_option maxHeartbeats 1600000 in
theorem heldRect_any (k : Int) (n m c c' lo lo' : Nat) (A A' : Option Addr) (w : World) (hx : Ints w lo A n (marks k n)) (hy : Ints w lo' A' m (marks (k + n) m)) (h0 : 0 ≤ k) (h1 : k ≤ 1073741824) (hn : n ≤ 1048576) (hm : m ≤ 1048576) :
    Calls Try.prog 38 #[.agg #[.slice A n c, .slice A' m c'], .int .i64 k] w fun e w' => e = .returned (.int .i64 (k + n + m)) ∧ Below w.heap.size w w' := by
  have B := Lib.hid (below_alloc w (.cells #[.slice A n c, .slice A' m c'] 26))
  have L_a := Lib.hid (Lies.new w 26 #[.slice A n c, .slice A' m c'])
  have I_x := Lib.hid hx
  have I_y := Lib.hid hy
  clear hx hy
  have k1 : ¬ (k + n < 0) := by omega
  have k2 : ¬ (k + n + m < 0) := by omega
  go_enter Try.func38, Try.ntmps38
  go_wp2_with fail
  refine (heldInt64S_any _ _ _ _ _ _ (I_x.out.kept B.out) h0 (by omega) hn).mono ?_
  rintro e W1 ⟨rfl, b1⟩
  replace L_a := Lib.hid (L_a.out.kept b1 L_a.out.inside)
  replace B := Lib.hid (B.out.trans (b1.mono B.out.size))
  clear b1
  have c1' : W1.cell? ⟨w.heap.size, 1, none⟩ = some (.slice A' m c') := L_a.out.cell 1
  go_wp2_with fail
  clear c1'
  refine (heldInt64S_any _ _ _ _ _ _ (I_y.out.kept B.out) (by omega) (by omega) hm).mono ?_
  rintro e W2 ⟨rfl, b2⟩
  replace B := Lib.hid (B.out.trans (b2.mono B.out.size))
  clear b2 L_a
  go_wp2
  go_ret
  exact ⟨rfl, B.out⟩



set_option maxHeartbeats 1600000 in
theorem markInt64S_none (k : Int) (w : World) :
    Calls Try.prog 22 #[.slice none 0 0, .int .i64 k] w fun e w' => e = .returned (.int .i64 k) ∧ Below w.heap.size w w' := by
  go_enter Try.func22, Try.ntmps22
  go_wp2
  go_loopw [1, 5] (fun kv i wr => i = .int .i64 0 ∧ kv = .int .i64 k ∧ Hid (Below w.heap.size w wr)) (fun _ _ _ => 0)
  case atStart => exact ⟨rfl, rfl, Below.refl _ _⟩
  case round =>
    obtain ⟨rfl, rfl, hB⟩ := hrel
    go_wp2
    go_ret
    exact ⟨rfl, hB.out⟩

set_option maxHeartbeats 1600000 in
theorem markRect_none (k : Int) (w : World) :
    Calls Try.prog 37 #[.agg #[.slice none 0 0, .slice none 0 0], .int .i64 k] w fun e w' => e = .returned (.int .i64 k) ∧ Below w.heap.size w w' := by
  have B := Lib.hid (below_alloc w (.cells #[.slice none 0 0, .slice none 0 0] 26))
  have L_a := Lib.hid (Lies.new w 26 #[.slice none 0 0, .slice none 0 0])
  go_enter Try.func37, Try.ntmps37
  go_wp2_with fail
  refine (markInt64S_none _ _).mono ?_
  rintro e W1 ⟨rfl, b1⟩
  replace L_a := Lib.hid (L_a.out.kept b1 L_a.out.inside)
  replace B := Lib.hid (B.out.trans (b1.mono B.out.size))
  clear b1
  have c1' : W1.cell? ⟨w.heap.size, 1, none⟩ = some (.slice none 0 0) := L_a.out.cell 1
  go_wp2_with fail
  clear c1'
  refine (markInt64S_none _ _).mono ?_
  rintro e W2 ⟨rfl, b2⟩
  replace B := Lib.hid (B.out.trans (b2.mono B.out.size))
  clear b2 L_a
  go_wp2
  go_ret
  exact ⟨rfl, B.out⟩



end Go.Proofs.Ytpgoildfjkokiab
