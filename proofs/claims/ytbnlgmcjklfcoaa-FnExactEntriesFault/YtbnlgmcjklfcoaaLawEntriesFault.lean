/- FnExactEntriesFault: for every list of entries and every number of dimensions impl.EntriesFault answers as the model does and leaves its argument alone. No condition. -/
import Derived.Test.YtbnlgmcjklfcoaaImplEntries
namespace Go.Proofs.Ytbnlgmcjklfcoaa
open Go.RowKit

set_option maxHeartbeats 3200000 in
theorem lawEntriesFault_walk (n c : Nat) (A : Option Addr) (ps : List EV) (d : Int) (w : World) (hp : Entries w A n ps) (hn : n ≤ maxLen) :
    Calls Try.prog 3 #[.slice A n c, .int .i64 d] w fun e w' => e = .returned (.bool true) ∧ Below w.heap.size w w' := by
  have HP := Lib.hid hp
  clear hp
  go_enter Try.func3, Try.ntmps3
  go_wp2_with fail
  refine (szEntryS_any 1048576 _ _ _ ps _ HP.out hn (by decide) (by decide)).mono ?_
  rintro e W1 ⟨r, rfl, hr, b1⟩
  have B := Lib.hid b1
  clear b1
  rcases hr with rfl | ⟨r0, r1, hn1, hs⟩
  · go_wp2
    go_ret
    exact ⟨rfl, B.out⟩
  have HS := Lib.hid (SmallE.two (l := 1048576) hs (by decide))
  clear hs r1
  have hr0 : ¬ r < 0 := by omega
  clear r0
  go_wp2_with fail
  refine (toEntryS_any _ _ _ ps _ (HP.out.kept B.out) (by omega) HS.out).mono ?_
  rintro e W2 ⟨g2, qs2, rfl, hg2, o2, l2, v2, b2⟩
  replace B := Lib.hid (B.out.trans (b2.mono B.out.size))
  have O2 := Lib.hid o2
  have V2 := Lib.hid v2
  have L2 := Lib.hid l2
  clear b2 o2 v2 l2 hg2
  go_wp2_with fail
  refine (specEntriesFault_any _ _ _ _ qs2 _ (O2.out.entries L2.out) hn).mono ?_
  rintro e W3 ⟨rfl, b3⟩
  rw [V2.out]
  replace B := Lib.hid (B.out.trans (b3.mono B.out.size))
  clear b3 O2 V2 L2
  go_wp2_with fail
  refine (toEntryS_any _ _ _ ps _ (HP.out.kept B.out) (by omega) HS.out).mono ?_
  rintro e W4 ⟨g4, qs4, rfl, hg4, o4, l4, v4, b4⟩
  replace B := Lib.hid (B.out.trans (b4.mono B.out.size))
  have O4 := Lib.hid o4
  have V4 := Lib.hid v4
  have L4 := Lib.hid l4
  clear b4 o4 v4 l4 hg4
  go_wp2_with fail
  refine (implEntriesFault_any _ _ _ _ qs4 _ (O4.out.entries L4.out) hn).mono ?_
  rintro e W5 ⟨rfl, b5⟩
  rw [V4.out]
  replace O4 := Lib.hid (O4.out.kept b5)
  replace B := Lib.hid (B.out.trans (b5.mono B.out.size))
  clear b5
  generalize hval : entsF (ps.map EV.val) d = val at *
  clear hval
  have hpv : (val != val) = false := by simp
  go_wp2_with fail
  refine (toEntryS_any _ _ _ ps _ (HP.out.kept B.out) (by omega) HS.out).mono ?_
  rintro e W6 ⟨g6, qs6, rfl, hg6, o6, l6, v6, b6⟩
  replace O4 := Lib.hid (O4.out.kept b6)
  replace B := Lib.hid (B.out.trans (b6.mono B.out.size))
  have O6 := Lib.hid o6
  have V6 := Lib.hid v6
  have L6 := Lib.hid l6
  clear b6 o6 v6 l6 hg6
  go_wp2_with fail
  refine (eqEntryS_same _ _ _ _ _ qs4 qs6 _ (O4.out.entries L4.out) (O6.out.entries L6.out) (V4.out.trans V6.out.symm) hn).mono ?_
  rintro e W7 ⟨rfl, b7⟩
  replace B := Lib.hid (B.out.trans (b7.mono B.out.size))
  clear b7
  go_wp2
  go_ret
  exact ⟨rfl, B.out⟩

end Go.Proofs.Ytbnlgmcjklfcoaa
