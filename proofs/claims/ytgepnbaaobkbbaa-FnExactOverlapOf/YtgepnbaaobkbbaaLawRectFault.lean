/- FnExactRectFault: for every box and every number of dimensions, impl.RectFault answers as the model does and leaves its argument alone. No condition. -/
import Derived.Test.YtgepnbaaobkbbaaRects
import Derived.Deep.RegionHeld3
namespace Go.Proofs.Ytgepnbaaobkbbaa
open Go.RowKit

/-- Two structs of two fields each lie as they were laid. -/
def Two (b1 b2 : Nat) (p1 p2 q1 q2 : Value) (w : World) : Prop := w.cell? ⟨b1, 0, none⟩ = some p1 ∧ w.cell? ⟨b1, 1, none⟩ = some p2 ∧ w.cell? ⟨b2, 0, none⟩ = some q1 ∧ w.cell? ⟨b2, 1, none⟩ = some q2

theorem two_kept {B b1 b2 : Nat} {p1 p2 q1 q2 : Value} {w w' : World} (hb : Below B w w') (h1 : b1 < B) (h2 : b2 < B) (h : Two b1 b2 p1 p2 q1 q2 w) : Two b1 b2 p1 p2 q1 q2 w' :=
  ⟨(hb.cell (p := ⟨b1, 0, none⟩) h1).trans h.1, (hb.cell (p := ⟨b1, 1, none⟩) h1).trans h.2.1, (hb.cell (p := ⟨b2, 0, none⟩) h2).trans h.2.2.1, (hb.cell (p := ⟨b2, 1, none⟩) h2).trans h.2.2.2⟩

set_option maxHeartbeats 800000 in
theorem lawRectFault_walk (n c n' c' : Nat) (A A' : Option Addr) (xs ys : List Int) (d : Int) (w : World) (hx : Ints w 0 A n xs) (hy : Ints w 0 A' n' ys) (hn : n ≤ maxLen) (hn' : n' ≤ maxLen) :
    Calls Try.prog 7 #[.agg #[.slice A n c, .slice A' n' c'], .int .i64 d] w fun e w' => e = .returned (.bool true) ∧ Below w.heap.size w w' := by
  have B0 := Lib.hid (below_alloc w (.cells #[.slice A n c, .slice A' n' c'] 45))
  have L0 := Lib.hid (Lies.new w 45 #[.slice A n c, .slice A' n' c'])
  have HX := Lib.hid hx
  have HY := Lib.hid hy
  clear hx hy
  by_cases hbig : (1048576 : Int) < n + n'
  · go_enter Try.func7, Try.ntmps7
    go_wp2_with fail
    refine (szRect_no _ _ _ _ _ _ _ _ (by omega) (by omega) hn hn' hbig).mono ?_
    rintro e W1 ⟨rfl, b1⟩
    have B1 := Lib.hid (B0.out.trans (b1.mono (by simp)))
    clear b1
    go_wp2
    go_ret
    exact ⟨rfl, B1.out⟩
  · have hm : n ≤ 1048576 := by omega
    have hm' : n' ≤ 1048576 := by omega
    have hk : ¬ ((1048576 : Int) - n - n' < 0) := by omega
    go_enter Try.func7, Try.ntmps7
    go_wp2_with fail
    refine (szRect_yes _ _ _ _ _ _ _ _ (by omega) hn hn' (by omega)).mono ?_
    rintro e W1 ⟨rfl, b1⟩
    replace L0 := Lib.hid (L0.out.kept b1 (by simp))
    have B1 := Lib.hid (B0.out.trans (b1.mono (by simp)))
    have c0 : W1.cell? ⟨w.heap.size, 0, none⟩ = some (.slice A n c) := L0.out.cell 0
    have c1 : W1.cell? ⟨w.heap.size, 1, none⟩ = some (.slice A' n' c') := L0.out.cell 1
    clear b1 B0
    go_wp2_with fail
    clear c0 c1
    refine (toRect_any _ _ _ _ _ _ _ _ xs ys _ (HX.out.kept B1.out) (HY.out.kept B1.out) hm hm').mono ?_
    rintro e W2 ⟨g1, g1', rfl, o1, o1', hg1, hg1', b2⟩
    replace L0 := Lib.hid (L0.out.kept b2 L0.out.inside)
    have B2 := Lib.hid (B1.out.trans (b2.mono B1.out.size))
    have O1 := Lib.hid o1
    have O1' := Lib.hid o1'
    clear b2 o1 o1' B1
    go_wp2_with fail
    refine (specRectFault_any _ _ _ _ _ _ _ _ _ xs ys _ (O1.out.ints (Nat.zero_le _)) (O1'.out.ints (Nat.zero_le _)) hn hn').mono ?_
    rintro e W3 ⟨rfl, b3⟩
    replace L0 := Lib.hid (L0.out.kept b3 L0.out.inside)
    have B3 := Lib.hid (B2.out.trans (b3.mono B2.out.size))
    have c0 : W3.cell? ⟨w.heap.size, 0, none⟩ = some (.slice A n c) := L0.out.cell 0
    have c1 : W3.cell? ⟨w.heap.size, 1, none⟩ = some (.slice A' n' c') := L0.out.cell 1
    clear b3 B2 O1 O1'
    go_wp2_with fail
    clear c0 c1
    refine (toRect_any _ _ _ _ _ _ _ _ xs ys _ (HX.out.kept B3.out) (HY.out.kept B3.out) hm hm').mono ?_
    rintro e W4 ⟨g2, g2', rfl, o2, o2', hg2, hg2', b4⟩
    replace L0 := Lib.hid ((L0.out.kept b4 L0.out.inside).alloc (.cells #[.slice (some ⟨g2, 0, none⟩) n n, .slice (some ⟨g2', 0, none⟩) n' n'] 26))
    have B4 := Lib.hid ((B3.out.trans (b4.mono B3.out.size)).alloc (Nat.le_trans B3.out.size b4.size) (.cells #[.slice (some ⟨g2, 0, none⟩) n n, .slice (some ⟨g2', 0, none⟩) n' n'] 26))
    have L4 := Lib.hid (Lies.new W4 26 #[.slice (some ⟨g2, 0, none⟩) n n, .slice (some ⟨g2', 0, none⟩) n' n'])
    have O2 := Lib.hid (o2.kept (below_alloc W4 (.cells #[.slice (some ⟨g2, 0, none⟩) n n, .slice (some ⟨g2', 0, none⟩) n' n'] 26)))
    have O2' := Lib.hid (o2'.kept (below_alloc W4 (.cells #[.slice (some ⟨g2, 0, none⟩) n n, .slice (some ⟨g2', 0, none⟩) n' n'] 26)))
    clear b4 o2 o2' B3
    go_wp2_with fail
    refine (implRectFault_any _ _ _ _ _ _ _ _ _ xs ys _ (O2.out.ints (Nat.zero_le _)) (O2'.out.ints (Nat.zero_le _)) hn hn').mono ?_
    rintro e W5 ⟨rfl, b5⟩
    replace L0 := Lib.hid (L0.out.kept b5 L0.out.inside)
    replace L4 := Lib.hid (L4.out.kept b5 L4.out.inside)
    replace O2 := Lib.hid (O2.out.kept b5)
    replace O2' := Lib.hid (O2'.out.kept b5)
    have B5 := Lib.hid (B4.out.trans (b5.mono B4.out.size))
    have hp : (rf xs ys d != rf xs ys d) = false := by simp
    generalize rf xs ys d = p at *
    clear b5 B4
    generalize W4.heap.size = s4 at *
    go_wp2_with fail
    have c0 : W5.cell? ⟨w.heap.size, 0, none⟩ = some (.slice A n c) := L0.out.cell 0
    have c1 : W5.cell? ⟨w.heap.size, 1, none⟩ = some (.slice A' n' c') := L0.out.cell 1
    have c2 : W5.cell? ⟨s4, 0, none⟩ = some (.slice (some ⟨g2, 0, none⟩) n n) := L4.out.cell 0
    have c3 : W5.cell? ⟨s4, 1, none⟩ = some (.slice (some ⟨g2', 0, none⟩) n' n') := L4.out.cell 1
    go_region_held3 (fun w' => w'.cell? ⟨w.heap.size, 0, none⟩ = some (.slice A n c) ∧ w'.cell? ⟨w.heap.size, 1, none⟩ = some (.slice A' n' c') ∧ w'.cell? ⟨s4, 0, none⟩ = some (.slice (some ⟨g2, 0, none⟩) n n) ∧ w'.cell? ⟨s4, 1, none⟩ = some (.slice (some ⟨g2', 0, none⟩) n' n'))
      (first | exact ⟨c0, c1, c2, c3⟩ | exact ⟨L6.1, L6.2.1, L6.2.2.1, L6.2.2.2⟩ | exact ⟨L7.1, L7.2.1, L7.2.2.1, L7.2.2.2⟩)
      (first
        | (go_at_call 44; refine (toRect_any _ _ _ _ _ _ _ _ xs ys _ (HX.out.kept (by first | exact B5.out | exact B5.out.drew)) (HY.out.kept (by first | exact B5.out | exact B5.out.drew)) hm hm').mono ?_
           rintro e W6 ⟨g3, g3', rfl, o3, o3', hg3, hg3', b6d⟩
           have b6 := below_drawn b6d
           clear b6d
           have L6 : Two w.heap.size s4 (.slice A n c) (.slice A' n' c') (.slice (some ⟨g2, 0, none⟩) n n) (.slice (some ⟨g2', 0, none⟩) n' n') W6 := two_kept b6 L0.out.inside L4.out.inside ⟨c0, c1, c2, c3⟩)
        | (go_at_call 45; refine (eqRect_is true _ _ _ _ _ _ _ _ _ _ _ _ _ _ _ _ xs ys xs ys _ (by simp) ((O2.out.kept b6).ints (Nat.zero_le _)) ((O2'.out.kept b6).ints (Nat.zero_le _)) (o3.ints (Nat.zero_le _)) (o3'.ints (Nat.zero_le _)) hn hn').mono ?_
           rintro e W7 ⟨rfl, b7⟩
           have L7 : Two w.heap.size s4 (.slice A n c) (.slice A' n' c') (.slice (some ⟨g2, 0, none⟩) n n) (.slice (some ⟨g2', 0, none⟩) n' n') W7 := two_kept b7 (Nat.lt_of_lt_of_le L0.out.inside b6.size) (Nat.lt_of_lt_of_le L4.out.inside b6.size) L6))
    go_wp2
    go_ret
    exact ⟨rfl, (B5.out.trans (b6.mono B5.out.size)).trans (b7.mono (Nat.le_trans B5.out.size b6.size))⟩

end Go.Proofs.Ytgepnbaaobkbbaa
