/- FnExactPointFault: for every point and every number of dimensions, impl.PointFault answers as the model does and leaves its argument alone. No condition. -/
import Derived.Test.YtgepnbaaobkbbaaCopies
namespace Go.Proofs.Ytgepnbaaobkbbaa
open Go.RowKit

set_option maxHeartbeats 400000 in
theorem lawPointFault_walk (lo n c : Nat) (A : Option Addr) (xs : List Int) (d : Int) (w : World) (hx : Ints w lo A n xs) (hn : n ≤ maxLen) :
    Calls Try.prog 6 #[.slice A n c, .int .i64 d] w fun e w' => e = .returned (.bool true) ∧ Below w.heap.size w w' := by
  by_cases hbig : 1048576 < n
  · have h1 : (1048576 : Int) < (n : Int) := by omega
    clear hbig
    unfold maxLen at hn
    go_enter Try.func6, Try.ntmps6
    go_wp2
    go_ret
    exact ⟨rfl, Below.refl _ _⟩
  · have h1 : ¬ (1048576 : Int) < (n : Int) := by omega
    have hs : n ≤ 1048576 := by omega
    have HX := Lib.hid hx
    clear hx hbig
    go_enter Try.func6, Try.ntmps6
    go_wp2_with fail
    refine (toInt64S_any _ _ _ _ _ _ HX.out hs).mono ?_
    rintro e W1 ⟨rfl, o1, b1⟩
    have O1 := Lib.hid o1
    have B1 := Lib.hid b1
    clear o1 b1
    go_wp2_with fail
    refine (specPointFault_any _ _ _ _ _ xs _ (O1.out.ints (Nat.zero_le _)) hn).mono ?_
    rintro e w' ⟨rfl, rfl⟩
    have X1 := Lib.hid (HX.out.kept B1.out)
    go_wp2_with fail
    refine (toInt64S_any _ _ _ _ _ _ X1.out hs).mono ?_
    rintro e W2 ⟨rfl, o2, b2⟩
    have O2 := Lib.hid o2
    have B2 := Lib.hid b2
    clear o2 b2
    go_wp2_with fail
    refine (implPointFault_any _ _ _ _ _ xs _ (O2.out.ints (Nat.zero_le _)) hn).mono ?_
    rintro e W3 ⟨rfl, b3⟩
    have B3 := Lib.hid b3
    clear b3
    have X3 := Lib.hid ((X1.out.kept B2.out).kept B3.out)
    have hp : (pf xs d != pf xs d) = false := by simp
    generalize pf xs d = p at *
    go_wp2_with fail
    refine (toInt64S_any _ _ _ _ _ _ X3.out hs).mono ?_
    rintro e W4 ⟨rfl, o4, b4⟩
    have O4 := Lib.hid o4
    have B4 := Lib.hid b4
    clear o4 b4
    go_wp2_with fail
    refine (eqInt64S_is true _ _ _ _ _ _ _ _ xs xs _ (by simp) (((O2.out.kept B3.out).kept B4.out).ints (Nat.zero_le _)) (O4.out.ints (Nat.zero_le _)) hn).mono ?_
    rintro e w' ⟨rfl, q, rfl⟩
    go_wp2
    go_ret
    refine ⟨rfl, below_draws ?_ _⟩
    exact ((B1.out.trans (B2.out.mono B1.out.size)).trans (B3.out.mono (Nat.le_trans B1.out.size B2.out.size))).trans (B4.out.mono (Nat.le_trans (Nat.le_trans B1.out.size B2.out.size) B3.out.size))

end Go.Proofs.Ytgepnbaaobkbbaa
