/- The walks of cmp.Compare, cmp.Or, slices.MinFunc and slices.Index at what impl.cheapest hands them, and of impl.cheapest. -/
import Derived.Test.YtbnlgmcjklfcoaaBest
import Derived.Test.YtbnlgmcjklfcoaaSlotWalks
namespace Go.Proofs.Ytbnlgmcjklfcoaa
open Go.RowKit

def cmpI (x y : Int) : Int := if x < y then -1 else if y < x then 1 else 0
theorem cmpI_lt {x y : Int} (h : x < y) : cmpI x y = -1 := if_pos h
theorem cmpI_gt {x y : Int} (h : y < x) : cmpI x y = 1 := by unfold cmpI; rw [if_neg (by omega), if_pos h]
theorem cmpI_eq {x y : Int} (h : x = y) : cmpI x y = 0 := by unfold cmpI; rw [if_neg (by omega), if_neg (by omega)]

set_option maxHeartbeats 800000 in
theorem compare_any (x y : Int) (w : World) : Calls Try.prog 144 #[.int .i64 x, .int .i64 y] w fun e w' => e = .returned (.int .i64 (cmpI x y)) ∧ w' = w := by
  have N1 : ∀ (z : Int) (w : World), Calls Try.prog 173 #[.int .i64 z] w fun e w' => e = .returned (.bool false) ∧ w' = w := by
    intro z w
    have hz : (z != z) = false := by simp
    go_enter Try.func173, Try.ntmps173
    go_wp2
    go_ret
    exact ⟨rfl, rfl⟩
  rcases Int.lt_trichotomy x y with h | h | h
  · have HF := Lib.hid (cmpI_lt h)
    go_enter Try.func144, Try.ntmps144
    go_wp2_with fail
    refine (N1 _ _).mono ?_
    rintro e w' ⟨rfl, rfl⟩
    go_wp2_with fail
    refine (N1 _ _).mono ?_
    rintro e w' ⟨rfl, rfl⟩
    go_wp2
    go_ret
    exact ⟨ret_i64 HF.out.symm, rfl⟩
  · have HF := Lib.hid (cmpI_eq h)
    have h1 : ¬ x < y := by omega
    have h2 : ¬ y < x := by omega
    clear h
    go_enter Try.func144, Try.ntmps144
    go_wp2_with fail
    refine (N1 _ _).mono ?_
    rintro e w' ⟨rfl, rfl⟩
    go_wp2_with fail
    refine (N1 _ _).mono ?_
    rintro e w' ⟨rfl, rfl⟩
    go_wp2
    go_ret
    exact ⟨ret_i64 HF.out.symm, rfl⟩
  · have HF := Lib.hid (cmpI_gt h)
    have h1 : ¬ x < y := by omega
    go_enter Try.func144, Try.ntmps144
    go_wp2_with fail
    refine (N1 _ _).mono ?_
    rintro e w' ⟨rfl, rfl⟩
    go_wp2_with fail
    refine (N1 _ _).mono ?_
    rintro e w' ⟨rfl, rfl⟩
    go_wp2
    go_ret
    exact ⟨ret_i64 HF.out.symm, rfl⟩

/-- The same world (by name). -/
def SameW (a b : World) : Prop := a = b
set_option maxHeartbeats 1600000 in
theorem cmpOr_any (lo n c : Nat) (A : Option Addr) (xs : List Int) (w : World) (hx : Ints w lo A n xs) (hn : n ≤ maxLen) :
    Calls Try.prog 143 #[.slice A n c] w fun e w' => e = .returned (.int .i64 (firstNZ id xs)) ∧ w' = w := by
  have HX := Lib.hid hx
  have HL := Lib.hid hx.1
  clear hx
  unfold maxLen at hn
  go_enter Try.func143, Try.ntmps143
  go_wp2
  go_loopw [8] (fun i wr => ∃ k : Nat, k ≤ n ∧ i = .int .i64 k ∧ Hid (SameW wr w) ∧ Hid (∀ (j : Nat) (u : Int), j < k → xs[j]? = some u → id u = 0)) (fun i _ => n - (intOf i).toNat)
  case atStart => exact ⟨0, Nat.zero_le _, rfl, (rfl : SameW _ _), fun j u hj => absurd hj (Nat.not_lt_zero _)⟩
  case round =>
    obtain ⟨k, hk', rfl, hw, hA⟩ := hrel
    have hw' : wr = w := hw.out
    subst hw'
    by_cases hlt : k < n
    · obtain ⟨g1, o1, x, rfl, _, _, e1, hx⟩ := HX.out.cellAt hlt
      by_cases hz : x = 0
      · have hz1 : (x != 0) = false := by simp [hz]
        have hA' := Lib.hid (upto_next (P := fun u : Int => id u = 0) hA.out hx.out hz)
        clear hz hA
        go_wp2
        go_roundw
        case rel => exact ⟨k + 1, by omega, by go_num, (rfl : SameW _ _), hA'⟩
        case measure => simp [intOf]; omega
      · have hz1 : (x != 0) = true := by simpa using hz
        have HF : Hid (firstNZ id xs = x) := firstNZ_stop hA.out hx.out hz
        clear hz hA
        go_wp2
        go_ret
        exact ⟨ret_i64 HF.out.symm, rfl⟩
    · have HF : Hid (firstNZ id xs = 0) := firstNZ_all (upto_end hA.out (by rw [HL.out]; omega))
      clear hA
      go_wp2
      go_ret
      exact ⟨ret_i64 HF.out.symm, rfl⟩

theorem two_ints (t : TypeId) (w : World) (a b : Int) : Ints (w.alloc (.cells #[.int .i64 a, .int .i64 b] t)) w.heap.size (some ⟨w.heap.size, 0, none⟩) 2 [a, b] := by
  refine ⟨rfl, fun _ => ⟨w.heap.size, 0, rfl, Nat.le_refl _, by simp, fun k x hk => ?_⟩⟩
  have L := Lies.new w t #[.int .i64 a, .int .i64 b]
  match k, hk with
  | 0, hk => simp at hk; subst hk; exact L.cell 0
  | 1, hk => simp at hk; subst hk; exact L.cell 1
  | k + 2, hk => simp at hk

/-- How two bids compare. -/
def cmpK (x y : Int × Int) : Int := firstNZ id [cmpI x.1 y.1, cmpI x.2 y.2]
theorem cmpK_lt {x y : Int × Int} : cmpK x y < 0 ↔ ltK x y = true := by
  rw [ltK_iff]
  unfold cmpK
  rcases Int.lt_trichotomy x.1 y.1 with h | h | h
  · rw [cmpI_lt h]; constructor
    · intro _; exact Or.inl h
    · intro _; simp [firstNZ]
  · rw [cmpI_eq h]
    rcases Int.lt_trichotomy x.2 y.2 with h2 | h2 | h2
    · rw [cmpI_lt h2]; constructor
      · intro _; exact Or.inr ⟨h, h2⟩
      · intro _; decide
    · rw [cmpI_eq h2]; constructor
      · intro e; exact absurd e (by decide)
      · intro e; omega
    · rw [cmpI_gt h2]; constructor
      · intro e; exact absurd e (by decide)
      · intro e; omega
  · rw [cmpI_gt h]; constructor
    · intro e; exact absurd e (by simp [firstNZ])
    · intro e; omega

set_option maxRecDepth 100000 in
set_option maxHeartbeats 3200000 in
theorem bidCmp_any (x1 x2 y1 y2 : Int) (w : World) :
    Calls Try.prog 168 #[.agg #[.int .i64 x1, .int .i64 x2], .agg #[.int .i64 y1, .int .i64 y2]] w fun e w' => e = .returned (.int .i64 (cmpK (x1, x2) (y1, y2))) ∧ Below w.heap.size w w' := by
  have B := Lib.hid (below_alloc w (.cells #[.int .i64 x1, .int .i64 x2] 194))
  have L0 := Lib.hid ((Lies.new w 194 #[.int .i64 x1, .int .i64 x2]).alloc (.cells #[.int .i64 y1, .int .i64 y2] 194))
  have L1 := Lib.hid (Lies.new (w.alloc (.cells #[.int .i64 x1, .int .i64 x2] 194)) 194 #[.int .i64 y1, .int .i64 y2])
  replace B := Lib.hid (B.out.alloc B.out.size (.cells #[.int .i64 y1, .int .i64 y2] 194))
  simp only [World.size_alloc] at L1
  go_enter Try.func168, Try.ntmps168
  go_wp2
  generalize hW : ((w.alloc (.cells #[.int .i64 x1, .int .i64 x2] 194)).alloc (.cells #[.int .i64 y1, .int .i64 y2] 194)) = W0 at *
  clear hW
  have k_0 : W0.cell? ⟨w.heap.size, 0, none⟩ = some (.int .i64 x1) ∧ W0.cell? ⟨w.heap.size, 1, none⟩ = some (.int .i64 x2) ∧ W0.cell? ⟨w.heap.size + 1, 0, none⟩ = some (.int .i64 y1) ∧ W0.cell? ⟨w.heap.size + 1, 1, none⟩ = some (.int .i64 y2) := ⟨L0.out.cell 0, L0.out.cell 1, L1.out.cell 0, L1.out.cell 1⟩
  go_region_held3 (fun w' => w'.cell? ⟨w.heap.size, 0, none⟩ = some (.int .i64 x1) ∧ w'.cell? ⟨w.heap.size, 1, none⟩ = some (.int .i64 x2) ∧ w'.cell? ⟨w.heap.size + 1, 0, none⟩ = some (.int .i64 y1) ∧ w'.cell? ⟨w.heap.size + 1, 1, none⟩ = some (.int .i64 y2))
    (exact ⟨Lies.cell (t := 194) (cs := #[.int .i64 x1, .int .i64 x2]) (by with_reducible (repeat (first | refine Lies.alloc ?_ _ | refine Lies.drew ?_ | exact L0.out))) 0, Lies.cell (t := 194) (cs := #[.int .i64 x1, .int .i64 x2]) (by with_reducible (repeat (first | refine Lies.alloc ?_ _ | refine Lies.drew ?_ | exact L0.out))) 1, Lies.cell (t := 194) (cs := #[.int .i64 y1, .int .i64 y2]) (by with_reducible (repeat (first | refine Lies.alloc ?_ _ | refine Lies.drew ?_ | exact L1.out))) 0, Lies.cell (t := 194) (cs := #[.int .i64 y1, .int .i64 y2]) (by with_reducible (repeat (first | refine Lies.alloc ?_ _ | refine Lies.drew ?_ | exact L1.out))) 1⟩)
    (first
      | (go_at_call 144; refine (compare_any _ _ _).mono ?_
         rintro e W1 ⟨rfl, rfl⟩)
      | (go_at_call 143; refine (cmpOr_any W0.heap.size 2 2 _ [cmpI x1 y1, cmpI x2 y2] _ (by with_reducible (repeat (refine Ints.drew ?_)); exact two_ints _ _ _ _) (by decide)).mono ?_
         rintro e W2 ⟨rfl, rfl⟩))
  go_wp2
  go_ret
  exact ⟨rfl, (B.out.alloc B.out.size _).drew⟩

end Go.Proofs.Ytbnlgmcjklfcoaa
