/- The walks of spec.l1Same, slices.Equal, spec.SameRects, impl.SameRects: for every two boxes. -/
import Derived.Test.YtfpmbkfikfdmkaaRects
namespace Go.Proofs.Ytfpmbkfikfdmkaa
open Go.RowKit

/-- Whether two boxes have the same numbers. -/
def sameF (x1 x2 x3 x4 : List Int) : Bool := decide (x1 = x3) && decide (x2 = x4)



set_option maxHeartbeats 400000 in
theorem slicesEqual_any (lo n c lo' m c' : Nat) (A A' : Option Addr) (xs ys : List Int) (w : World) (hx : Ints w lo A n xs) (hy : Ints w lo' A' m ys) (hn : n ≤ maxLen) :
    Calls Try.prog 81 #[.slice A n c, .slice A' m c'] w fun e w' => e = .returned (.bool (decide (xs = ys))) ∧ ∃ q, w' = w.drewN q := by
  unfold maxLen at hn
  have HL := Lib.hid hx.1
  have HM := Lib.hid hy.1
  by_cases hnm : n = m
  · subst hnm
    go_enter Try.func81, Try.ntmps81
    go_wp2
    go_loopw [13] (fun i wr => ∃ k q : Nat, k ≤ n ∧ i = .int .i64 k ∧ wr = w.drewN q ∧ Hid (xs.take k = ys.take k)) (fun i _ => n - (intOf i).toNat)
    case atStart => exact ⟨0, 0, Nat.zero_le _, rfl, rfl, rfl⟩
    case round =>
      obtain ⟨k, q, hk, rfl, rfl, heq⟩ := hrel
      by_cases hlt : k < n
      · obtain ⟨b, o, x, rfl, _, hbw, hc, hxk⟩ := hx.cellAt hlt
        obtain ⟨b', o', y, rfl, _, hbw', hc', hyk⟩ := hy.cellAt hlt
        clear hx hy
        by_cases hxy : x = y
        · subst hxy
          have HT := Lib.hid (take_next hxk.out hyk.out heq.out)
          have h1 : (x != x) = false := by simp
          go_wp2
          go_quiet (fail)
          go_wp2
          go_roundw
          case rel => exact ⟨k + 1, q + nq, by omega, by go_num, by simp, HT⟩
          case measure => simp [intOf]; omega
        · have HT := Lib.hid (ne_at hxk.out hyk.out hxy)
          have h1 : (x != y) = true := by simpa using hxy
          clear hxy
          go_wp2
          go_quiet (fail)
          go_wp2
          go_ret
          exact ⟨ret_bool (decide_eq_false HT.out).symm, _, World.drewN_drewN _ _ _⟩
      · have HT : Hid (xs = ys) := by
          have h := heq.out
          rwa [List.take_of_length_le (by rw [HL.out]; omega), List.take_of_length_le (by rw [HM.out]; omega)] at h
        go_wp2
        go_ret
        exact ⟨ret_bool (decide_eq_true HT.out).symm, _, rfl⟩
  · have h1 : ((n : Int) != (m : Int)) = true := by rw [bne_iff_ne]; omega
    have HT := Lib.hid (show xs ≠ ys from fun e => hnm (by rw [← HL.out, ← HM.out, e]))
    clear hnm
    go_enter Try.func81, Try.ntmps81
    go_wp2
    go_ret
    exact ⟨ret_bool (decide_eq_false HT.out).symm, 0, rfl⟩

theorem slicesEqual_is (v : Bool) (lo n c lo' m c' : Nat) (A A' : Option Addr) (xs ys : List Int) (w : World) (hv : decide (xs = ys) = v) (hx : Ints w lo A n xs) (hy : Ints w lo' A' m ys) (hn : n ≤ maxLen) :
    Calls Try.prog 81 #[.slice A n c, .slice A' m c'] w fun e w' => e = .returned (.bool v) ∧ ∃ q, w' = w.drewN q := hv ▸ slicesEqual_any lo n c lo' m c' A A' xs ys w hx hy hn


set_option maxHeartbeats 800000 in
theorem implSameRects_any (n1 c1 n2 c2 n3 c3 n4 c4 lo1 lo2 lo3 lo4 : Nat) (A1 A2 A3 A4 : Option Addr) (x1 x2 x3 x4 : List Int) (w : World)
    (h1 : Ints w lo1 A1 n1 x1) (h2 : Ints w lo2 A2 n2 x2) (h3 : Ints w lo3 A3 n3 x3) (h4 : Ints w lo4 A4 n4 x4) (m1 : n1 ≤ maxLen) (m2 : n2 ≤ maxLen) (_m3 : n3 ≤ maxLen) (_m4 : n4 ≤ maxLen) :
    Calls Try.prog 19 #[.agg #[.slice A1 n1 c1, .slice A2 n2 c2], .agg #[.slice A3 n3 c3, .slice A4 n4 c4]] w fun e w' => e = .returned (.bool (sameF x1 x2 x3 x4)) ∧ Below w.heap.size w w' := by
  have B : Hid (Below w.heap.size w ((w.alloc (.cells #[.slice A1 n1 c1, .slice A2 n2 c2] 26)).alloc (.cells #[.slice A3 n3 c3, .slice A4 n4 c4] 26))) := (below_alloc _ _).alloc (by simp) _
  have H1 := Lib.hid (h1.kept B.out)
  have H2 := Lib.hid (h2.kept B.out)
  have H3 := Lib.hid (h3.kept B.out)
  have H4 := Lib.hid (h4.kept B.out)
  clear h1 h2 h3 h4
  cases e1 : decide (x1 = x3)
  · have E1 := Lib.hid e1
    have HF : Hid (sameF x1 x2 x3 x4 = false) := by show sameF x1 x2 x3 x4 = _; unfold sameF; rw [e1]; rfl
    clear e1
    go_enter Try.func19, Try.ntmps19
    go_wp2_with fail
    refine (slicesEqual_is false _ _ _ _ _ _ _ _ x1 x3 _ E1.out H1.out H3.out m1).mono ?_
    rintro e w' ⟨rfl, q, rfl⟩
    go_wp2
    go_ret
    exact ⟨ret_bool HF.out.symm, below_draws B.out _⟩
  · have E1 := Lib.hid e1
    have HF : Hid (sameF x1 x2 x3 x4 = decide (x2 = x4)) := by show sameF x1 x2 x3 x4 = _; unfold sameF; rw [e1]; simp
    clear e1
    go_enter Try.func19, Try.ntmps19
    go_wp2_with fail
    refine (slicesEqual_is true _ _ _ _ _ _ _ _ x1 x3 _ E1.out H1.out H3.out m1).mono ?_
    rintro e w' ⟨rfl, q, rfl⟩
    go_wp2_with fail
    refine (slicesEqual_is _ _ _ _ _ _ _ _ _ x2 x4 _ rfl (H2.out.kept (below_draws (Below.refl _ _) q)) (H4.out.kept (below_draws (Below.refl _ _) q)) m2).mono ?_
    rintro e w' ⟨rfl, q', rfl⟩
    go_wp2
    go_ret
    exact ⟨ret_bool HF.out.symm, below_draws B.out _⟩

end Go.Proofs.Ytfpmbkfikfdmkaa
