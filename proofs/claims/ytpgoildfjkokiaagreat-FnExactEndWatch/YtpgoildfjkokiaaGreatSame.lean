/- The walks of impl.rises and impl.idsOf: whether numbers rise; the numbers of pairs, in a row of the call's own. -/
import Derived.Test.YtpgoildfjkokiaaGreatCopy2
import Derived.OwnWalk
import Derived.Test.YtpgoildfjkokiaaGreatRects
namespace Go.Proofs.YtpgoildfjkokiaaGreat
open Go.RowKit

/-- Whether numbers rise. -/
def risesL : List Int → Bool
  | [] => true
  | [_] => true
  | a :: b :: t => decide (a < b) && risesL (b :: t)
theorem risesL_true : ∀ {vs : List Int}, (∀ (j : Nat) (u v : Int), vs[j]? = some u → vs[j + 1]? = some v → u < v) → risesL vs = true
  | [], _ => rfl
  | [_], _ => rfl
  | a :: b :: t, h => by
    rw [risesL, decide_eq_true (h 0 a b (by simp) (by simp)), Bool.true_and]
    exact risesL_true fun j u v hu hv => h (j + 1) u v (by simpa using hu) (by simpa using hv)
theorem risesL_false : ∀ {vs : List Int} {k : Nat} {u v : Int}, vs[k]? = some u → vs[k + 1]? = some v → ¬ u < v → risesL vs = false
  | [], k, u, v, hu, _, _ => by simp at hu
  | [_], k, u, v, _, hv, _ => by simp at hv
  | a :: b :: t, 0, u, v, hu, hv, h => by
    simp at hu hv; subst hu hv
    rw [risesL, decide_eq_false h, Bool.false_and]
  | a :: b :: t, k + 1, u, v, hu, hv, h => by
    rw [risesL, risesL_false (vs := b :: t) (k := k) (by simpa using hu) (by simpa using hv) h, Bool.and_false]
theorem rises_ids : ∀ (vs : List (Int × List Int × List Int)), risesL (vs.map (·.1)) = rises vs
  | [] => rfl
  | [_] => rfl
  | a :: b :: t => by
    have := rises_ids (b :: t)
    simp only [List.map_cons] at this ⊢
    rw [risesL, rises, this]

/-- Two numbers that stand side by side. -/
theorem Ints.twoAt {w wr : World} {lo n m : Nat} {A : Option Addr} {xs : List Int} (h : Ints w lo A n xs) (hB : Below w.heap.size w wr) (hk : m + 1 < n) :
    ∃ b o x y, A = some ⟨b, o, none⟩ ∧ Hid (xs[m]? = some x) ∧ Hid (xs[m + 1]? = some y) ∧ wr.cell? ⟨b, o + m, none⟩ = some (.int .i64 x) ∧ wr.cell? ⟨b, o + (m + 1), none⟩ = some (.int .i64 y) := by
  obtain ⟨hl, hr⟩ := h
  obtain ⟨b, o, e, _, h2, h3⟩ := hr (by omega)
  have hx : xs[m]? = some (xs[m]'(by omega)) := List.getElem?_eq_getElem (by omega)
  have hy : xs[m + 1]? = some (xs[m + 1]'(by omega)) := List.getElem?_eq_getElem (by omega)
  exact ⟨b, o, _, _, e, hx, hy, (hB.cell (p := ⟨b, o + m, none⟩) h2).trans (h3 m _ hx), (hB.cell (p := ⟨b, o + (m + 1), none⟩) h2).trans (h3 (m + 1) _ hy)⟩

set_option maxHeartbeats 1600000 in
theorem rises_any (n c lo : Nat) (A : Option Addr) (xs : List Int) (w : World) (hp : Ints w lo A n xs) (hn : n ≤ maxLen) :
    Calls Tryz.prog 98 #[.slice A n c] w fun e w' => e = .returned (.bool (risesL xs)) ∧ Below w.heap.size w w' := by
  have HP := Lib.hid hp
  clear hp
  unfold maxLen at hn
  go_enter Tryz.func98, Tryz.ntmps98
  go_wp2
  go_loopw [3] (fun i wr => ∃ m : Nat, m ≤ n ∧ i = .int .i64 ((m : Int) + 1) ∧ Hid (Below w.heap.size w wr) ∧ Hid (∀ (j : Nat) (p q : Int), j < m → xs[j]? = some p → xs[j + 1]? = some q → p < q)) (fun i _ => n + 1 - (intOf i).toNat)
  case atStart => exact ⟨0, Nat.zero_le _, rfl, Below.refl _ _, fun j p q hj => absurd hj (Nat.not_lt_zero _)⟩
  case round =>
    obtain ⟨m, hm, rfl, hB, hA⟩ := hrel
    by_cases hlt : m + 1 < n
    · obtain ⟨b, o, p, q, rfl, hx, hy, d0, d1⟩ := HP.out.twoAt hB.out hlt
      have hlt' : (m : Int) + 1 < n := by omega
      by_cases hr : q ≤ p
      · have HF := Lib.hid (risesL_false hx.out hy.out (show ¬ p < q by omega))
        clear hx hy
        go_wp2
        go_quiet (fail)
        go_wp2
        go_ret
        exact ⟨ret_bool HF.out.symm, below_draws hB.out _⟩
      · have hA' : Hid (∀ (j : Nat) (p q : Int), j < m + 1 → xs[j]? = some p → xs[j + 1]? = some q → p < q) := by
          intro j p' q' hj hp' hq'
          rcases Nat.lt_succ_iff_lt_or_eq.1 hj with h | h
          · exact hA.out j p' q' h hp' hq'
          · subst h; rw [hx.out] at hp'; rw [hy.out] at hq'; injection hp' with hp'; injection hq' with hq'; subst hp' hq'; omega
        clear hx hy hA
        go_wp2
        go_quiet (fail)
        go_wp2
        go_roundw
        case rel => exact ⟨m + 1, by omega, by go_num, below_draws hB.out _, hA'⟩
        case measure => simp [intOf]; omega
    · have HF : Hid (risesL xs = true) := by
        refine risesL_true fun j u v hu hv => ?_
        have hj := (List.getElem?_eq_some_iff.1 hv).1
        have hl := HP.out.1
        exact hA.out j u v (by omega) hu hv
      have hlt' : ¬ (m : Int) + 1 < n := by omega
      clear hA
      go_wp2
      go_ret
      exact ⟨ret_bool HF.out.symm, hB.out⟩

theorem ownsRow_base {w : World} {base : Nat} {e : TypeId} {size : Nat} {v : Value} {n : Nat} {xs : List Value} (h : w.ownsRow base e size v n xs) : ∀ r, v.ownBlock = some r → base ≤ r := by
  intro r hr
  obtain ⟨hl, h⟩ := h
  rcases h with ⟨rfl, _⟩ | ⟨g, cap, cur, rfl, h2, h3, h4⟩
  · simp [Value.ownBlock] at hr
  · simp [Value.ownBlock] at hr
    subst hr
    exact h2
theorem news_one (W : World) (x : Int) (j : Nat) (u : Value) (h : [Value.int .i64 x][j]? = some u) : (W.alloc (.cells #[.int .i64 x] 2)).cell? ((⟨W.heap.size, 0, none⟩ : Addr).add j) = some u := by
  rw [add_none, Nat.zero_add, cell_new]
  simpa using h

theorem ids_take {ps : List PV} {k : Nat} {p : PV} (h : ps[k]? = some p) : (ps.take (k + 1)).map PV.id = (ps.take k).map PV.id ++ [p.id] := by
  rw [List.take_add_one, h]; simp


end Go.Proofs.YtpgoildfjkokiaaGreat

/- The walks of spec.l1Same, slices.Equal, spec.SameRects, impl.SameRects: for every two boxes. -/
namespace Go.Proofs.YtpgoildfjkokiaaGreat
open Go.RowKit

/-- Whether two boxes have the same numbers. -/
def sameF (x1 x2 x3 x4 : List Int) : Bool := decide (x1 = x3) && decide (x2 = x4)

set_option maxHeartbeats 400000 in
theorem l1Same_any (lo n c lo' m c' : Nat) (A A' : Option Addr) (xs ys : List Int) (w : World) (hx : Ints w lo A n xs) (hy : Ints w lo' A' m ys) (hn : n ≤ maxLen) :
    Calls Tryz.prog 142 #[.slice A n c, .slice A' m c'] w fun e w' => e = .returned (.bool (decide (xs = ys))) ∧ ∃ q, w' = w.drewN q := by
  unfold maxLen at hn
  have HL := Lib.hid hx.1
  have HM := Lib.hid hy.1
  by_cases hnm : n = m
  · subst hnm
    go_enter Tryz.func142, Tryz.ntmps142
    go_wp2
    go_loopw [5] (fun i wr => ∃ k q : Nat, k ≤ n ∧ i = .int .i64 k ∧ wr = w.drewN q ∧ Hid (xs.take k = ys.take k)) (fun i _ => n - (intOf i).toNat)
    case atStart => exact ⟨0, 0, Nat.zero_le _, rfl, rfl, rfl⟩
    case round =>
      obtain ⟨k, q, hk, rfl, rfl, heq⟩ := hrel
      by_cases hlt : k < n
      · obtain ⟨b, o, x, rfl, _, hbw, hc, hxk⟩ := hx.cellAt hlt
        obtain ⟨b', o', y, rfl, _, hbw', hc', hyk⟩ := hy.cellAt hlt
        clear hx hy
        by_cases hxy : x = y
        · subst hxy
          have HT := Lib.hid (take_next hxk.out hyk.out heq.out)
          have h1 : (x != x) = false := by simp
          go_wp2
          go_quiet (fail)
          go_wp2
          go_roundw
          case rel => exact ⟨k + 1, q + nq, by omega, by go_num, by simp, HT⟩
          case measure => simp [intOf]; omega
        · have HT := Lib.hid (ne_at hxk.out hyk.out hxy)
          have h1 : (x != y) = true := by simpa using hxy
          clear hxy
          go_wp2
          go_quiet (fail)
          go_wp2
          go_ret
          exact ⟨ret_bool (decide_eq_false HT.out).symm, _, World.drewN_drewN _ _ _⟩
      · have HT : Hid (xs = ys) := by
          have h := heq.out
          rwa [List.take_of_length_le (by rw [HL.out]; omega), List.take_of_length_le (by rw [HM.out]; omega)] at h
        go_wp2
        go_ret
        exact ⟨ret_bool (decide_eq_true HT.out).symm, _, rfl⟩
  · have h1 : ((n : Int) != (m : Int)) = true := by rw [bne_iff_ne]; omega
    have HT := Lib.hid (show xs ≠ ys from fun e => hnm (by rw [← HL.out, ← HM.out, e]))
    clear hnm
    go_enter Tryz.func142, Tryz.ntmps142
    go_wp2
    go_ret
    exact ⟨ret_bool (decide_eq_false HT.out).symm, 0, rfl⟩

theorem l1Same_is (v : Bool) (lo n c lo' m c' : Nat) (A A' : Option Addr) (xs ys : List Int) (w : World) (hv : decide (xs = ys) = v) (hx : Ints w lo A n xs) (hy : Ints w lo' A' m ys) (hn : n ≤ maxLen) :
    Calls Tryz.prog 142 #[.slice A n c, .slice A' m c'] w fun e w' => e = .returned (.bool v) ∧ ∃ q, w' = w.drewN q := hv ▸ l1Same_any lo n c lo' m c' A A' xs ys w hx hy hn

set_option maxHeartbeats 400000 in
theorem slicesEqual_any (lo n c lo' m c' : Nat) (A A' : Option Addr) (xs ys : List Int) (w : World) (hx : Ints w lo A n xs) (hy : Ints w lo' A' m ys) (hn : n ≤ maxLen) :
    Calls Tryz.prog 143 #[.slice A n c, .slice A' m c'] w fun e w' => e = .returned (.bool (decide (xs = ys))) ∧ ∃ q, w' = w.drewN q := by
  unfold maxLen at hn
  have HL := Lib.hid hx.1
  have HM := Lib.hid hy.1
  by_cases hnm : n = m
  · subst hnm
    go_enter Tryz.func143, Tryz.ntmps143
    go_wp2
    go_loopw [13] (fun i wr => ∃ k q : Nat, k ≤ n ∧ i = .int .i64 k ∧ wr = w.drewN q ∧ Hid (xs.take k = ys.take k)) (fun i _ => n - (intOf i).toNat)
    case atStart => exact ⟨0, 0, Nat.zero_le _, rfl, rfl, rfl⟩
    case round =>
      obtain ⟨k, q, hk, rfl, rfl, heq⟩ := hrel
      by_cases hlt : k < n
      · obtain ⟨b, o, x, rfl, _, hbw, hc, hxk⟩ := hx.cellAt hlt
        obtain ⟨b', o', y, rfl, _, hbw', hc', hyk⟩ := hy.cellAt hlt
        clear hx hy
        by_cases hxy : x = y
        · subst hxy
          have HT := Lib.hid (take_next hxk.out hyk.out heq.out)
          have h1 : (x != x) = false := by simp
          go_wp2
          go_quiet (fail)
          go_wp2
          go_roundw
          case rel => exact ⟨k + 1, q + nq, by omega, by go_num, by simp, HT⟩
          case measure => simp [intOf]; omega
        · have HT := Lib.hid (ne_at hxk.out hyk.out hxy)
          have h1 : (x != y) = true := by simpa using hxy
          clear hxy
          go_wp2
          go_quiet (fail)
          go_wp2
          go_ret
          exact ⟨ret_bool (decide_eq_false HT.out).symm, _, World.drewN_drewN _ _ _⟩
      · have HT : Hid (xs = ys) := by
          have h := heq.out
          rwa [List.take_of_length_le (by rw [HL.out]; omega), List.take_of_length_le (by rw [HM.out]; omega)] at h
        go_wp2
        go_ret
        exact ⟨ret_bool (decide_eq_true HT.out).symm, _, rfl⟩
  · have h1 : ((n : Int) != (m : Int)) = true := by rw [bne_iff_ne]; omega
    have HT := Lib.hid (show xs ≠ ys from fun e => hnm (by rw [← HL.out, ← HM.out, e]))
    clear hnm
    go_enter Tryz.func143, Tryz.ntmps143
    go_wp2
    go_ret
    exact ⟨ret_bool (decide_eq_false HT.out).symm, 0, rfl⟩

theorem slicesEqual_is (v : Bool) (lo n c lo' m c' : Nat) (A A' : Option Addr) (xs ys : List Int) (w : World) (hv : decide (xs = ys) = v) (hx : Ints w lo A n xs) (hy : Ints w lo' A' m ys) (hn : n ≤ maxLen) :
    Calls Tryz.prog 143 #[.slice A n c, .slice A' m c'] w fun e w' => e = .returned (.bool v) ∧ ∃ q, w' = w.drewN q := hv ▸ slicesEqual_any lo n c lo' m c' A A' xs ys w hx hy hn

set_option maxHeartbeats 800000 in
theorem specSameRects_any (n1 c1 n2 c2 n3 c3 n4 c4 lo1 lo2 lo3 lo4 : Nat) (A1 A2 A3 A4 : Option Addr) (x1 x2 x3 x4 : List Int) (w : World)
    (h1 : Ints w lo1 A1 n1 x1) (h2 : Ints w lo2 A2 n2 x2) (h3 : Ints w lo3 A3 n3 x3) (h4 : Ints w lo4 A4 n4 x4) (m1 : n1 ≤ maxLen) (m2 : n2 ≤ maxLen) (_m3 : n3 ≤ maxLen) (_m4 : n4 ≤ maxLen) :
    Calls Tryz.prog 137 #[.agg #[.slice A1 n1 c1, .slice A2 n2 c2], .agg #[.slice A3 n3 c3, .slice A4 n4 c4]] w fun e w' => e = .returned (.bool (sameF x1 x2 x3 x4)) ∧ Below w.heap.size w w' := by
  have B : Hid (Below w.heap.size w ((w.alloc (.cells #[.slice A1 n1 c1, .slice A2 n2 c2] 148)).alloc (.cells #[.slice A3 n3 c3, .slice A4 n4 c4] 148))) := (below_alloc _ _).alloc (by simp) _
  have H1 := Lib.hid (h1.kept B.out)
  have H2 := Lib.hid (h2.kept B.out)
  have H3 := Lib.hid (h3.kept B.out)
  have H4 := Lib.hid (h4.kept B.out)
  clear h1 h2 h3 h4
  cases e1 : decide (x1 = x3)
  · have E1 := Lib.hid e1
    have HF : Hid (sameF x1 x2 x3 x4 = false) := by show sameF x1 x2 x3 x4 = _; unfold sameF; rw [e1]; rfl
    clear e1
    go_enter Tryz.func137, Tryz.ntmps137
    go_wp2_with fail
    refine (l1Same_is false _ _ _ _ _ _ _ _ x1 x3 _ E1.out H1.out H3.out m1).mono ?_
    rintro e w' ⟨rfl, q, rfl⟩
    go_wp2
    go_ret
    exact ⟨ret_bool HF.out.symm, below_draws B.out _⟩
  · have E1 := Lib.hid e1
    have HF : Hid (sameF x1 x2 x3 x4 = decide (x2 = x4)) := by show sameF x1 x2 x3 x4 = _; unfold sameF; rw [e1]; simp
    clear e1
    go_enter Tryz.func137, Tryz.ntmps137
    go_wp2_with fail
    refine (l1Same_is true _ _ _ _ _ _ _ _ x1 x3 _ E1.out H1.out H3.out m1).mono ?_
    rintro e w' ⟨rfl, q, rfl⟩
    go_wp2_with fail
    refine (l1Same_is _ _ _ _ _ _ _ _ _ x2 x4 _ rfl (H2.out.kept (below_draws (Below.refl _ _) q)) (H4.out.kept (below_draws (Below.refl _ _) q)) m2).mono ?_
    rintro e w' ⟨rfl, q', rfl⟩
    go_wp2
    go_ret
    exact ⟨ret_bool HF.out.symm, below_draws B.out _⟩

set_option maxHeartbeats 800000 in
theorem implSameRects_any (n1 c1 n2 c2 n3 c3 n4 c4 lo1 lo2 lo3 lo4 : Nat) (A1 A2 A3 A4 : Option Addr) (x1 x2 x3 x4 : List Int) (w : World)
    (h1 : Ints w lo1 A1 n1 x1) (h2 : Ints w lo2 A2 n2 x2) (h3 : Ints w lo3 A3 n3 x3) (h4 : Ints w lo4 A4 n4 x4) (m1 : n1 ≤ maxLen) (m2 : n2 ≤ maxLen) (_m3 : n3 ≤ maxLen) (_m4 : n4 ≤ maxLen) :
    Calls Tryz.prog 139 #[.agg #[.slice A1 n1 c1, .slice A2 n2 c2], .agg #[.slice A3 n3 c3, .slice A4 n4 c4]] w fun e w' => e = .returned (.bool (sameF x1 x2 x3 x4)) ∧ Below w.heap.size w w' := by
  have B : Hid (Below w.heap.size w ((w.alloc (.cells #[.slice A1 n1 c1, .slice A2 n2 c2] 148)).alloc (.cells #[.slice A3 n3 c3, .slice A4 n4 c4] 148))) := (below_alloc _ _).alloc (by simp) _
  have H1 := Lib.hid (h1.kept B.out)
  have H2 := Lib.hid (h2.kept B.out)
  have H3 := Lib.hid (h3.kept B.out)
  have H4 := Lib.hid (h4.kept B.out)
  clear h1 h2 h3 h4
  cases e1 : decide (x1 = x3)
  · have E1 := Lib.hid e1
    have HF : Hid (sameF x1 x2 x3 x4 = false) := by show sameF x1 x2 x3 x4 = _; unfold sameF; rw [e1]; rfl
    clear e1
    go_enter Tryz.func139, Tryz.ntmps139
    go_wp2_with fail
    refine (slicesEqual_is false _ _ _ _ _ _ _ _ x1 x3 _ E1.out H1.out H3.out m1).mono ?_
    rintro e w' ⟨rfl, q, rfl⟩
    go_wp2
    go_ret
    exact ⟨ret_bool HF.out.symm, below_draws B.out _⟩
  · have E1 := Lib.hid e1
    have HF : Hid (sameF x1 x2 x3 x4 = decide (x2 = x4)) := by show sameF x1 x2 x3 x4 = _; unfold sameF; rw [e1]; simp
    clear e1
    go_enter Tryz.func139, Tryz.ntmps139
    go_wp2_with fail
    refine (slicesEqual_is true _ _ _ _ _ _ _ _ x1 x3 _ E1.out H1.out H3.out m1).mono ?_
    rintro e w' ⟨rfl, q, rfl⟩
    go_wp2_with fail
    refine (slicesEqual_is _ _ _ _ _ _ _ _ _ x2 x4 _ rfl (H2.out.kept (below_draws (Below.refl _ _) q)) (H4.out.kept (below_draws (Below.refl _ _) q)) m2).mono ?_
    rintro e w' ⟨rfl, q', rfl⟩
    go_wp2
    go_ret
    exact ⟨ret_bool HF.out.symm, below_draws B.out _⟩

end Go.Proofs.YtpgoildfjkokiaaGreat
