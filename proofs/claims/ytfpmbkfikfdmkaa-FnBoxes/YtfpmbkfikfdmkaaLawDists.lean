/- FnDists: whatever the bytes, the law of distances holds of what they draw. No condition. -/
import Derived.Test.YtfpmbkfikfdmkaaDraw7
import Derived.Test.YtfpmbkfikfdmkaaDist
import Derived.Test.YtfpmbkfikfdmkaaCovers
import Derived.Test.YtfpmbkfikfdmkaaImplUnionOf
import Derived.Test.YtfpmbkfikfdmkaaBoxLaws
namespace Go.Proofs.Ytfpmbkfikfdmkaa
open Go.RowKit

theorem lwBig_any (n c : Nat) (A : Option Addr) (w : World) : Calls Try.prog 9 #[.slice A n c] w fun e w' => e = .returned (.bool (decide ((1048576 : Int) < n))) ∧ w = w' := by
  go_enter Try.func9, Try.ntmps9
  go_wp2
  go_ret
  exact ⟨rfl, rfl⟩

theorem implCovers_is (n1 c1 n2 c2 n3 c3 n4 c4 lo1 lo2 lo3 lo4 : Nat) (A1 A2 A3 A4 : Option Addr) (x1 x2 x3 x4 : List Int) (w : World) {b : Bool} (hb : coversF x1 x2 x3 x4 = b)
    (h1 : Ints w lo1 A1 n1 x1) (h2 : Ints w lo2 A2 n2 x2) (h3 : Ints w lo3 A3 n3 x3) (h4 : Ints w lo4 A4 n4 x4) (m1 : n1 ≤ maxLen) (m2 : n2 ≤ maxLen) (m3 : n3 ≤ maxLen) (m4 : n4 ≤ maxLen) :
    Calls Try.prog 16 #[.agg #[.slice A1 n1 c1, .slice A2 n2 c2], .agg #[.slice A3 n3 c3, .slice A4 n4 c4]] w fun e w' => e = .returned (.bool b) ∧ Below w.heap.size w w' :=
  (implCovers_any n1 c1 n2 c2 n3 c3 n4 c4 lo1 lo2 lo3 lo4 A1 A2 A3 A4 x1 x2 x3 x4 w h1 h2 h3 h4 m1 m2 m3 m4).mono fun _ _ h => ⟨by rw [h.1, hb], h.2⟩
theorem specPointFault_below (d : Int) (lo n c : Nat) (A : Option Addr) (xs : List Int) (w : World) (hx : Ints w lo A n xs) (hn : n ≤ maxLen) :
    Calls Try.prog 119 #[.slice A n c, .int .i64 d] w fun e w' => e = .returned (.int .i64 (pf xs d)) ∧ Below w.heap.size w w' :=
  (specPointFault_any d lo n c A xs w hx hn).mono fun _ _ h => ⟨h.1, by rw [← h.2]; exact Below.refl _ _⟩
theorem implUnionOf_is (n1 c1 n2 c2 n3 c3 n4 c4 lo1 lo2 lo3 lo4 : Nat) (A1 A2 A3 A4 : Option Addr) (x1 x2 x3 x4 : List Int) (w : World) (hr : rf2 x1 x2 x3 x4 = 0)
    (h1 : Ints w lo1 A1 n1 x1) (h2 : Ints w lo2 A2 n2 x2) (h3 : Ints w lo3 A3 n3 x3) (h4 : Ints w lo4 A4 n4 x4) (m1 : n1 ≤ maxLen) (m2 : n2 ≤ maxLen) (m3 : n3 ≤ maxLen) (m4 : n4 ≤ maxLen) (h0 : 1 ≤ n1) :
    Calls Try.prog 11 #[.agg #[.slice A1 n1 c1, .slice A2 n2 c2], .agg #[.slice A3 n3 c3, .slice A4 n4 c4]] w fun e w' => ∃ g g', e = .returned (.agg #[.int .i64 0, .slice (some ⟨g, 0, none⟩) n1 n1, .slice (some ⟨g', 0, none⟩) n1 n1]) ∧ BoxI w' w.heap.size (some ⟨g, 0, none⟩) (some ⟨g', 0, none⟩) n1 n1 (mins x1 x3) (maxs x2 x4) ∧ Below w.heap.size w w' :=
  (implUnionOf_any n1 c1 n2 c2 n3 c3 n4 c4 lo1 lo2 lo3 lo4 A1 A2 A3 A4 x1 x2 x3 x4 w h1 h2 h3 h4 m1 m2 m3 m4).mono fun _ _ h => by obtain ⟨g, g', q1, q2, q3, q4, q5, q6⟩ := h.1 hr; exact ⟨g, g', q1, ⟨q4.ints q2, q5.ints (by omega), ⟨h0, by omega⟩, ⟨h0, by omega⟩⟩, h.2.2⟩


end Go.Proofs.Ytfpmbkfikfdmkaa
