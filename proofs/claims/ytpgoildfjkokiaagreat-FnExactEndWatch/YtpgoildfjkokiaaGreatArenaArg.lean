/- The laws' helpers szEntryS .. szArena, szTree once more, with the sum of all lengths. -/
import Derived.Test.YtpgoildfjkokiaaGreatTrees
import Derived.Test.YtpgoildfjkokiaaGreatBoxes2
namespace Go.Proofs.YtpgoildfjkokiaaGreat
open Go.RowKit

def sumE (es : List EV) : Nat := (es.map fun p => p.n1 + p.n2).sum
def sumN (ns : List NV) : Nat := (ns.map fun p => p.n1 + sumE p.es).sum
def sumR (rs : List RV) : Nat := (rs.map fun p => p.n1).sum
theorem sumE_next {es : List EV} {k : Nat} {p : EV} (h : es[k]? = some p) : sumE (es.take (k + 1)) = sumE (es.take k) + (p.n1 + p.n2) := by
  unfold sumE; rw [List.take_add_one, h]; simp
theorem sumN_next {es : List NV} {k : Nat} {p : NV} (h : es[k]? = some p) : sumN (es.take (k + 1)) = sumN (es.take k) + (p.n1 + sumE p.es) := by
  unfold sumN; rw [List.take_add_one, h]; simp
theorem sumR_next {es : List RV} {k : Nat} {p : RV} (h : es[k]? = some p) : sumR (es.take (k + 1)) = sumR (es.take k) + p.n1 := by
  unfold sumR; rw [List.take_add_one, h]; simp

set_option maxHeartbeats 1600000 in
theorem szEntryS_sum (l : Int) (n c : Nat) (A : Option Addr) (ps : List EV) (w : World) (hp : Entries w A n ps) (hn : n ≤ maxLen) (h0 : 0 ≤ l) (h1 : l ≤ 1048576) :
    Calls Tryz.prog 111 #[.slice A n c, .int .i64 l] w fun e w' => ∃ r : Int, e = .returned (.int .i64 r) ∧ (r = -1 ∨ (0 ≤ r ∧ r ≤ l ∧ (n : Int) ≤ l ∧ r + n + sumE ps ≤ l ∧ ∀ (k : Nat) (p : EV), ps[k]? = some p → (p.n1 : Int) + p.n2 ≤ l)) ∧ Below w.heap.size w w' := by
  have HP := Lib.hid hp
  clear hp
  by_cases hs : l < n
  · unfold maxLen at hn
    go_enter Tryz.func111, Tryz.ntmps111
    go_wp2
    go_ret
    exact ⟨-1, rfl, Or.inl rfl, Below.refl _ _⟩
  have hk : ¬ (l - n < 0) := by omega
  unfold maxLen at hn
  go_enter Tryz.func111, Tryz.ntmps111
  go_wp2
  go_loopw [1, 5] (fun lv i wr => ∃ (k : Nat) (m : Int), k ≤ n ∧ i = .int .i64 k ∧ lv = .int .i64 m ∧ 0 ≤ m ∧ m ≤ l ∧ Hid (Below w.heap.size w wr) ∧ Hid (m + n + sumE (ps.take k) ≤ l) ∧ Hid (∀ (j : Nat) (p : EV), j < k → ps[j]? = some p → (p.n1 : Int) + p.n2 ≤ l)) (fun _ i _ => n - (intOf i).toNat)
  case atStart => exact ⟨0, _, Nat.zero_le _, rfl, rfl, by omega, by omega, Below.refl _ _, (by show _ ≤ _; simp [sumE]), fun j p hj => absurd hj (Nat.not_lt_zero _)⟩
  case round =>
    obtain ⟨k, m, hk', rfl, rfl, hm0, hm1, hB, hU, hA⟩ := hrel
    by_cases hlt : k < n
    · obtain ⟨b, o, A1, n1, c1, A2, n2, c2, ref, nsn, x1, x2, rfl, hb, d0, d1, d2, d3, hx, i1, i2, m1, m2⟩ := HP.out.cellAt hlt
      have e0 : wr.cell? ⟨b, o + k * 4, none⟩ = some (.slice A1 n1 c1) := (hB.out.cell (p := ⟨b, o + k * 4, none⟩) hb).trans d0
      have e1 : wr.cell? ⟨b, o + k * 4 + 1, none⟩ = some (.slice A2 n2 c2) := (hB.out.cell (p := ⟨b, o + k * 4 + 1, none⟩) hb).trans d1
      have e2 : wr.cell? ⟨b, o + k * 4 + 2, none⟩ = some (.int .i64 ref) := (hB.out.cell (p := ⟨b, o + k * 4 + 2, none⟩) hb).trans d2
      have e3 : wr.cell? ⟨b, o + k * 4 + 3, none⟩ = some (.int .i64 nsn) := (hB.out.cell (p := ⟨b, o + k * 4 + 3, none⟩) hb).trans d3
      clear d0 d1 d2 d3 i1 i2
      by_cases hz : m < n1 + n2
      · go_wp2_with fail
        refine (szEntry_no _ _ _ _ _ _ _ _ _ _ hm0 (by omega) m1 m2 hz).mono ?_
        rintro e W1 ⟨rfl, b1⟩
        go_wp2
        go_ret
        exact ⟨-1, rfl, Or.inl rfl, hB.out.trans (b1.mono hB.out.size)⟩
      · have hz2 : ¬ (m - n1 - n2 < 0) := by omega
        go_wp2_with fail
        refine (szEntry_yes _ _ _ _ _ _ _ _ _ _ (by omega) m1 m2 (by omega)).mono ?_
        rintro e W1 ⟨rfl, b1⟩
        have hB' := Lib.hid (hB.out.trans (b1.mono hB.out.size))
        have hA' : Hid (∀ (j : Nat) (p : EV), j < k + 1 → ps[j]? = some p → (p.n1 : Int) + p.n2 ≤ l) := by
          intro j p hj hp
          rcases Nat.lt_succ_iff_lt_or_eq.1 hj with h | h
          · exact hA.out j p h hp
          · subst h; rw [hx.out] at hp; injection hp with hp; subst hp; show (n1 : Int) + n2 ≤ l; omega
        have hU' : Hid (m - n1 - n2 + n + sumE (ps.take (k + 1)) ≤ l) := by
          have h1 := hU.out
          have h2 := sumE_next hx.out
          show _ ≤ _
          simp only at h2
          omega
        clear hA hB b1 hx e0 e1 e2 e3 hU
        go_wp2
        go_roundw
        case rel => exact ⟨k + 1, _, by omega, by go_num, rfl, by omega, by omega, hB', hU', hA'⟩
        case measure => simp [intOf]; omega
    · have hA' : ∀ (k : Nat) (p : EV), ps[k]? = some p → (p.n1 : Int) + p.n2 ≤ l := fun j p hp => hA.out j p (by have h1 := (List.getElem?_eq_some_iff.1 hp).1; have h2 := HP.out.1; omega) hp
      have HA := Lib.hid hA'
      have HU : Hid (m + n + sumE ps ≤ l) := by have := hU.out; rwa [List.take_of_length_le (by have := HP.out.1; omega)] at this
      clear hA' hA hU
      go_wp2
      go_ret
      exact ⟨_, rfl, Or.inr ⟨hm0, hm1, by omega, HU.out, HA.out⟩, hB.out⟩

set_option maxHeartbeats 800000 in
theorem szNode_sum (lv ns rt l : Int) (n c : Nat) (A : Option Addr) (ps : List EV) (w : World) (hp : Entries w A n ps) (hn : n ≤ maxLen) (h0 : 0 ≤ l) (h1 : l ≤ 1048576) :
    Calls Tryz.prog 78 #[.agg #[.int .i64 lv, .int .i64 ns, .int .i64 rt, .slice A n c], .int .i64 l] w fun e w' => ∃ r : Int, e = .returned (.int .i64 r) ∧ (r = -1 ∨ (0 ≤ r ∧ r ≤ l ∧ (n : Int) ≤ l ∧ r + n + sumE ps ≤ l ∧ SmallE l ps)) ∧ Below w.heap.size w w' := by
  have HP := Lib.hid hp
  clear hp
  have B := Lib.hid (below_alloc w (.cells #[.int .i64 lv, .int .i64 ns, .int .i64 rt, .slice A n c] 117))
  go_enter Tryz.func78, Tryz.ntmps78
  go_wp2_with fail
  refine (szEntryS_sum l _ _ _ ps _ (HP.out.kept B.out) hn h0 h1).mono ?_
  rintro e W1 ⟨r, rfl, hr, b1⟩
  replace B := Lib.hid (B.out.trans (b1.mono B.out.size))
  clear b1
  rcases hr with rfl | ⟨r0, r1, hn1, hu, hs⟩
  · go_wp2
    go_ret
    exact ⟨-1, rfl, Or.inl rfl, B.out⟩
  · have hr0 : ¬ r < 0 := by omega
    have HS := Lib.hid hs
    clear hs
    go_wp2
    go_ret
    exact ⟨r, rfl, Or.inr ⟨r0, r1, hn1, hu, HS.out⟩, B.out⟩

set_option maxHeartbeats 1600000 in
theorem szNodeS_sum (l : Int) (n c : Nat) (A : Option Addr) (ps : List NV) (w : World) (hp : NodesL w A n ps) (hn : n ≤ maxLen) (h0 : 0 ≤ l) (h1 : l ≤ 1048576) :
    Calls Tryz.prog 41 #[.slice A n c, .int .i64 l] w fun e w' => ∃ r : Int, e = .returned (.int .i64 r) ∧ (r = -1 ∨ (0 ≤ r ∧ r ≤ l ∧ (n : Int) ≤ l ∧ r + n + sumN ps ≤ l ∧ SmallN l ps)) ∧ Below w.heap.size w w' := by
  have HP := Lib.hid hp
  clear hp
  by_cases hs : l < n
  · unfold maxLen at hn
    go_enter Tryz.func41, Tryz.ntmps41
    go_wp2
    go_ret
    exact ⟨-1, rfl, Or.inl rfl, Below.refl _ _⟩
  have hk : ¬ (l - n < 0) := by omega
  unfold maxLen at hn
  go_enter Tryz.func41, Tryz.ntmps41
  go_wp2
  go_loopw [1, 5] (fun lv i wr => ∃ (k : Nat) (m : Int), k ≤ n ∧ i = .int .i64 k ∧ lv = .int .i64 m ∧ 0 ≤ m ∧ m ≤ l ∧ Hid (Below w.heap.size w wr) ∧ Hid (m + n + sumN (ps.take k) ≤ l) ∧ Hid (∀ (j : Nat) (p : NV), j < k → ps[j]? = some p → (p.n1 : Int) ≤ l ∧ SmallE l p.es)) (fun _ i _ => n - (intOf i).toNat)
  case atStart => exact ⟨0, _, Nat.zero_le _, rfl, rfl, by omega, by omega, Below.refl _ _, (by show _ ≤ _; simp [sumN]), fun j p hj => absurd hj (Nat.not_lt_zero _)⟩
  case round =>
    obtain ⟨k, m, hk', rfl, rfl, hm0, hm1, hB, hU, hA⟩ := hrel
    by_cases hlt : k < n
    · obtain ⟨b, o, lv, ns, rt, A1, n1, c1, es, rfl, hb, d0, d1, d2, d3, hx, i1, m1⟩ := HP.out.cellAt hlt
      have e0 : wr.cell? ⟨b, o + k * 4, none⟩ = some (.int .i64 lv) := (hB.out.cell (p := ⟨b, o + k * 4, none⟩) hb).trans d0
      have e1 : wr.cell? ⟨b, o + k * 4 + 1, none⟩ = some (.int .i64 ns) := (hB.out.cell (p := ⟨b, o + k * 4 + 1, none⟩) hb).trans d1
      have e2 : wr.cell? ⟨b, o + k * 4 + 2, none⟩ = some (.int .i64 rt) := (hB.out.cell (p := ⟨b, o + k * 4 + 2, none⟩) hb).trans d2
      have e3 : wr.cell? ⟨b, o + k * 4 + 3, none⟩ = some (.slice A1 n1 c1) := (hB.out.cell (p := ⟨b, o + k * 4 + 3, none⟩) hb).trans d3
      clear d0 d1 d2 d3
      go_wp2_with fail
      refine (szNode_sum _ _ _ m _ _ _ es _ (i1.out.kept hB.out) m1 hm0 (by omega)).mono ?_
      rintro e W1 ⟨r, rfl, hr, b1⟩
      have hB' := Lib.hid (hB.out.trans (b1.mono hB.out.size))
      clear hB b1 e0 e1 e2 e3
      rcases hr with rfl | ⟨r0, r1, r2, hu, hs⟩
      · go_wp2
        go_ret
        exact ⟨-1, rfl, Or.inl rfl, hB'.out⟩
      · have hr0 : ¬ r < 0 := by omega
        have hA' : Hid (∀ (j : Nat) (p : NV), j < k + 1 → ps[j]? = some p → (p.n1 : Int) ≤ l ∧ SmallE l p.es) := by
          intro j p hj hp
          rcases Nat.lt_succ_iff_lt_or_eq.1 hj with h | h
          · exact hA.out j p h hp
          · subst h; rw [hx.out] at hp; injection hp with hp; subst hp; exact ⟨by show (n1 : Int) ≤ l; omega, hs.mono hm1⟩
        have hU' : Hid (r + n + sumN (ps.take (k + 1)) ≤ l) := by
          have h1 := hU.out
          have h2 := sumN_next hx.out
          show _ ≤ _
          simp only at h2
          omega
        clear hA hx hs hU hu
        go_wp2
        go_roundw
        case rel => exact ⟨k + 1, r, by omega, by go_num, rfl, by omega, by omega, hB', hU', hA'⟩
        case measure => simp [intOf]; omega
    · have HA : Hid (SmallN l ps) := fun j p hp => hA.out j p (by have h1 := (List.getElem?_eq_some_iff.1 hp).1; have h2 := HP.out.1; omega) hp
      have HU : Hid (m + n + sumN ps ≤ l) := by have := hU.out; rwa [List.take_of_length_le (by have := HP.out.1; omega)] at this
      clear hA hU
      go_wp2
      go_ret
      exact ⟨_, rfl, Or.inr ⟨hm0, hm1, by omega, HU.out, HA.out⟩, hB.out⟩

set_option maxHeartbeats 800000 in
theorem szRetired_sum (id l : Int) (n c : Nat) (A : Option Addr) (w : World) (hn : n ≤ maxLen) (h0 : 0 ≤ l) (h1 : l ≤ 1048576) :
    Calls Tryz.prog 79 #[.agg #[.int .i64 id, .slice A n c], .int .i64 l] w fun e w' => ∃ r : Int, e = .returned (.int .i64 r) ∧ (r = -1 ∨ (0 ≤ r ∧ r ≤ l ∧ r + n ≤ l)) ∧ Below w.heap.size w w' := by
  have B := Lib.hid (below_alloc w (.cells #[.int .i64 id, .slice A n c] 120))
  by_cases hs : l < n
  · go_enter Tryz.func79, Tryz.ntmps79
    go_wp2_with fail
    refine (szInt64S_no _ _ _ _ _ h0 h1 hn hs).mono ?_
    rintro e W1 ⟨rfl, rfl⟩
    go_wp2
    go_ret
    exact ⟨-1, rfl, Or.inl rfl, B.out⟩
  · have hs' : (n : Int) ≤ l := by omega
    have hk : ¬ (l - n < 0) := by omega
    clear hs
    go_enter Tryz.func79, Tryz.ntmps79
    go_wp2_with fail
    refine (szInt64S_yes _ _ _ _ _ h0 h1 hn hs').mono ?_
    rintro e W1 ⟨rfl, rfl⟩
    go_wp2
    go_ret
    exact ⟨l - n, rfl, Or.inr ⟨by omega, by omega, by omega⟩, B.out⟩

set_option maxHeartbeats 1600000 in
theorem szRetiredS_sum (l : Int) (n c : Nat) (A : Option Addr) (ps : List RV) (w : World) (hp : Rets w A n ps) (hn : n ≤ maxLen) (h0 : 0 ≤ l) (h1 : l ≤ 1048576) :
    Calls Tryz.prog 43 #[.slice A n c, .int .i64 l] w fun e w' => ∃ r : Int, e = .returned (.int .i64 r) ∧ (r = -1 ∨ (0 ≤ r ∧ r ≤ l ∧ (n : Int) ≤ l ∧ r + n + sumR ps ≤ l ∧ SmallR l ps)) ∧ Below w.heap.size w w' := by
  have HP := Lib.hid hp
  clear hp
  by_cases hs : l < n
  · unfold maxLen at hn
    go_enter Tryz.func43, Tryz.ntmps43
    go_wp2
    go_ret
    exact ⟨-1, rfl, Or.inl rfl, Below.refl _ _⟩
  have hk : ¬ (l - n < 0) := by omega
  unfold maxLen at hn
  go_enter Tryz.func43, Tryz.ntmps43
  go_wp2
  go_loopw [1, 5] (fun lv i wr => ∃ (k : Nat) (m : Int), k ≤ n ∧ i = .int .i64 k ∧ lv = .int .i64 m ∧ 0 ≤ m ∧ m ≤ l ∧ Hid (Below w.heap.size w wr) ∧ Hid (m + n + sumR (ps.take k) ≤ l) ∧ Hid (∀ (j : Nat) (p : RV), j < k → ps[j]? = some p → (p.n1 : Int) ≤ l)) (fun _ i _ => n - (intOf i).toNat)
  case atStart => exact ⟨0, _, Nat.zero_le _, rfl, rfl, by omega, by omega, Below.refl _ _, (by show _ ≤ _; simp [sumR]), fun j p hj => absurd hj (Nat.not_lt_zero _)⟩
  case round =>
    obtain ⟨k, m, hk', rfl, rfl, hm0, hm1, hB, hU, hA⟩ := hrel
    by_cases hlt : k < n
    · obtain ⟨b, o, id, A1, n1, c1, es, rfl, hb, d0, d1, hx, i1, m1⟩ := HP.out.cellAt hlt
      have e0 : wr.cell? ⟨b, o + k * 2, none⟩ = some (.int .i64 id) := (hB.out.cell (p := ⟨b, o + k * 2, none⟩) hb).trans d0
      have e1 : wr.cell? ⟨b, o + k * 2 + 1, none⟩ = some (.slice A1 n1 c1) := (hB.out.cell (p := ⟨b, o + k * 2 + 1, none⟩) hb).trans d1
      clear d0 d1
      go_wp2_with fail
      refine (szRetired_sum _ m _ _ _ _ m1 hm0 (by omega)).mono ?_
      rintro e W1 ⟨r, rfl, hr, b1⟩
      have hB' := Lib.hid (hB.out.trans (b1.mono hB.out.size))
      clear hB b1 e0 e1
      rcases hr with rfl | ⟨r0, r1, r2⟩
      · go_wp2
        go_ret
        exact ⟨-1, rfl, Or.inl rfl, hB'.out⟩
      · have hr0 : ¬ r < 0 := by omega
        have hA' : Hid (∀ (j : Nat) (p : RV), j < k + 1 → ps[j]? = some p → (p.n1 : Int) ≤ l) := by
          intro j p hj hp
          rcases Nat.lt_succ_iff_lt_or_eq.1 hj with h | h
          · exact hA.out j p h hp
          · subst h; rw [hx.out] at hp; injection hp with hp; subst hp; show (n1 : Int) ≤ l; omega
        have hU' : Hid (r + n + sumR (ps.take (k + 1)) ≤ l) := by
          have h1 := hU.out
          have h2 := sumR_next hx.out
          show _ ≤ _
          simp only at h2
          omega
        clear hA hx hU
        go_wp2
        go_roundw
        case rel => exact ⟨k + 1, r, by omega, by go_num, rfl, by omega, by omega, hB', hU', hA'⟩
        case measure => simp [intOf]; omega
    · have HA : Hid (SmallR l ps) := fun j p hp => hA.out j p (by have h1 := (List.getElem?_eq_some_iff.1 hp).1; have h2 := HP.out.1; omega) hp
      have HU : Hid (m + n + sumR ps ≤ l) := by have := hU.out; rwa [List.take_of_length_le (by have := HP.out.1; omega)] at this
      clear hA hU
      go_wp2
      go_ret
      exact ⟨_, rfl, Or.inr ⟨hm0, hm1, by omega, HU.out, HA.out⟩, hB.out⟩

set_option maxHeartbeats 1600000 in
theorem szArena_sum (d l : Int) (A1 A2 A3 : Option Addr) (n1 c1 n2 c2 n3 c3 : Nat) (ns : List NV) (fs : List Int) (rs : List RV) (w : World) (hp : ArenaL w A1 A2 A3 n1 n2 n3 ns fs rs) (h0 : 0 ≤ l) (h1 : l ≤ 1048576) :
    Calls Tryz.prog 12 #[.agg #[.int .i64 d, .slice A1 n1 c1, .slice A2 n2 c2, .slice A3 n3 c3], .int .i64 l] w fun e w' => ∃ r : Int, e = .returned (.int .i64 r) ∧ (r = -1 ∨ (0 ≤ r ∧ r ≤ l ∧ SmallA n1 n2 n3 ns rs ∧ r + n1 + sumN ns + n2 + n3 + sumR rs ≤ l)) ∧ Below w.heap.size w w' := by
  have HP := Lib.hid hp
  have m1 := hp.m1
  have m2 := hp.m2
  have m3 := hp.m3
  clear hp
  have B := Lib.hid (below_alloc w (.cells #[.int .i64 d, .slice A1 n1 c1, .slice A2 n2 c2, .slice A3 n3 c3] 38))
  have L_a := Lib.hid (Lies.new w 38 #[.int .i64 d, .slice A1 n1 c1, .slice A2 n2 c2, .slice A3 n3 c3])
  go_enter Tryz.func12, Tryz.ntmps12
  go_wp2_with fail
  refine (szNodeS_sum l _ _ _ ns _ (HP.out.N.kept B.out) m1 h0 h1).mono ?_
  rintro e W1 ⟨r, rfl, hr, b1⟩
  replace L_a := Lib.hid (L_a.out.kept b1 L_a.out.inside)
  replace B := Lib.hid (B.out.trans (b1.mono B.out.size))
  clear b1
  rcases hr with rfl | ⟨r0, r1, hn1, hu1, hs1⟩
  · go_wp2
    go_ret
    exact ⟨-1, rfl, Or.inl rfl, B.out⟩
  have hr0 : ¬ r < 0 := by omega
  have HS := Lib.hid hs1
  clear hs1
  have a2 : W1.cell? ⟨w.heap.size, 2, none⟩ = some (.slice A2 n2 c2) := L_a.out.cell 2
  by_cases hs : r < n2
  · go_wp2_with fail
    refine (szInt64S_no _ _ _ _ _ r0 (by omega) m2 hs).mono ?_
    rintro e W2 ⟨rfl, rfl⟩
    go_wp2
    go_ret
    exact ⟨-1, rfl, Or.inl rfl, B.out⟩
  have hs2 : (n2 : Int) ≤ r := by omega
  have hk : ¬ (r - n2 < 0) := by omega
  clear hs
  go_wp2_with fail
  refine (szInt64S_yes _ _ _ _ _ r0 (by omega) m2 hs2).mono ?_
  rintro e W2 ⟨rfl, rfl⟩
  have a3 : W1.cell? ⟨w.heap.size, 3, none⟩ = some (.slice A3 n3 c3) := L_a.out.cell 3
  go_wp2_with fail
  refine (szRetiredS_sum (r - n2) _ _ _ rs _ (HP.out.R.kept B.out) m3 (by omega) (by omega)).mono ?_
  rintro e W2 ⟨q, rfl, hq, b2⟩
  replace B := Lib.hid (B.out.trans (b2.mono B.out.size))
  clear b2 a2 a3 hk
  rcases hq with rfl | ⟨q0, q1, hn3, hu3, hs3⟩
  · go_wp2
    go_ret
    exact ⟨-1, rfl, Or.inl rfl, B.out⟩
  have hq0 : ¬ q < 0 := by omega
  have HA : Hid (SmallA n1 n2 n3 ns rs) := ⟨by omega, by omega, by omega, HS.out.mono h1, hs3.mono (by omega)⟩
  clear hs3 HS
  go_wp2
  go_ret
  exact ⟨q, rfl, Or.inr ⟨q0, by omega, HA.out, by omega⟩, B.out⟩


end Go.Proofs.YtpgoildfjkokiaaGreat

/- Arenas of the call's own that are arguments: how many cells they have, and that these may be marked. -/
namespace Go.Proofs.YtpgoildfjkokiaaGreat
open Go.RowKit

theorem rowC_mem {α : Type} {f : Nat → α → List Addr} : ∀ {es : List α} {k : Nat} {c : Addr}, c ∈ rowC f k es → ∃ i e, es[i]? = some e ∧ c ∈ f (k + i) e
  | [], k, c, h => by simp [rowC] at h
  | a :: t, k, c, h => by
    simp only [rowC, List.mem_append] at h
    rcases h with h | h
    · exact ⟨0, a, rfl, h⟩
    · obtain ⟨i, e, h1, h2⟩ := rowC_mem h
      exact ⟨i + 1, e, by simpa using h1, by rw [show k + (i + 1) = k + 1 + i by omega]; exact h2⟩
theorem esCells_mem {b o : Nat} : ∀ {es : List EV} {k : Nat} {c : Addr}, c ∈ esCells b o k es → ∃ i e, es[i]? = some e ∧ c ∈ entCells b o (k + i) e
  | [], k, c, h => by simp [esCells] at h
  | a :: t, k, c, h => by
    simp only [esCells, List.mem_append] at h
    rcases h with h | h
    · exact ⟨0, a, rfl, h⟩
    · obtain ⟨i, e, h1, h2⟩ := esCells_mem h
      exact ⟨i + 1, e, by simpa using h1, by rw [show k + (i + 1) = k + 1 + i by omega]; exact h2⟩
theorem rowC_length {α : Type} {f : Nat → α → List Addr} {g : α → Nat} : ∀ {es : List α} {k : Nat}, (∀ k, ∀ e ∈ es, (f k e).length ≤ g e) → (rowC f k es).length ≤ (es.map g).sum
  | [], k, h => by simp [rowC]
  | a :: t, k, h => by
    have h1 := h k a (by simp)
    have h2 := rowC_length (f := f) (g := g) (es := t) (k := k + 1) (fun k e he => h k e (by simp [he]))
    simp only [rowC, List.length_append, List.map_cons, List.sum_cons]; omega
theorem esCells_length {b o : Nat} : ∀ {es : List EV} {k : Nat}, (∀ e ∈ es, Formed e.A1 e.n1 ∧ Formed e.A2 e.n2) → (esCells b o k es).length = sumE es + 2 * es.length
  | [], k, h => by simp [esCells, sumE]
  | a :: t, k, h => by
    obtain ⟨f1, f2⟩ := h a (by simp)
    have h2 := esCells_length (b := b) (o := o) (es := t) (k := k + 1) (fun e he => h e (by simp [he]))
    simp only [esCells, List.length_append, entCells, intCells_size f1, intCells_size f2, h2, List.length_cons, List.length_nil, sumE, List.map_cons, List.sum_cons]; omega

/-- A cell that holds a number, may be written, and lies from lo on. -/
def CellOk (w : World) (lo : Nat) (c : Addr) : Prop := (∃ x, w.cell? c = some (.int .i64 x)) ∧ w.frozen? c = false ∧ lo ≤ c.block ∧ c.block < w.heap.size
theorem CellOk.lower {w : World} {lo lo' : Nat} {c : Addr} (h : CellOk w lo c) (hl : lo' ≤ lo) : CellOk w lo' c := ⟨h.1, h.2.1, Nat.le_trans hl h.2.2.1, h.2.2.2⟩
theorem Own.each {w : World} {g n : Nat} {xs : List Int} (h : Own w g n xs) : ∀ c ∈ intCells (some ⟨g, 0, none⟩) n, CellOk w g c := by
  intro c hc
  simp only [intCells, List.mem_map, List.mem_range, Nat.zero_add] at hc
  obtain ⟨i, hi, rfl⟩ := hc
  exact ⟨⟨_, h.2.cell hi⟩, h.2.frozen i, Nat.le_refl _, h.inside⟩
theorem EntriesOwn.sh {w : World} {g n : Nat} {qs : List EV} (h : EntriesOwn w g n qs) (hl : qs.length = n) : EntSh w (some ⟨g, 0, none⟩) n qs := by
  obtain ⟨⟨f, h1, h2⟩, _, h3⟩ := h
  refine ⟨hl, fun _ => ⟨g, 0, rfl, fun k e hk => ?_⟩, fun e he => ?_⟩
  · have hkn : k < n := by have := (List.getElem?_eq_some_iff.1 hk).1; omega
    have := h2 k e hk
    simp only [Nat.zero_add]
    exact ⟨by rw [h1.cell (by omega), this.1], by rw [h1.cell (by omega), this.2.1]⟩
  · obtain ⟨k1, k2, _, _, g1, g2, e1, e2, _⟩ := h3 e he
    exact ⟨fun _ => ⟨g1, 0, e1⟩, fun _ => ⟨g2, 0, e2⟩, k1, k2⟩
theorem EntriesOwn.each {w : World} {g n : Nat} {qs : List EV} (h : EntriesOwn w g n qs) (hl : qs.length = n) : ∀ c ∈ esA (some ⟨g, 0, none⟩) qs, CellOk w g c := by
  intro c hc
  obtain ⟨i, e, he, hc⟩ := esCells_mem hc
  have hin := h.inside
  obtain ⟨⟨f, h1, h2⟩, _, h3⟩ := h
  have hkn : i < n := by have := (List.getElem?_eq_some_iff.1 he).1; omega
  obtain ⟨k1, k2, _, _, g1, g2, e1, e2, l1, l2, o1, o2⟩ := h3 e (List.mem_of_getElem? he)
  have hf := h2 i e he
  simp only [entCells, List.mem_append, List.mem_singleton, Nat.zero_add, e1, e2] at hc
  rcases hc with hc | hc | rfl | rfl
  · exact (o1.each c hc).lower (by omega)
  · exact (o2.each c hc).lower (by omega)
  · exact ⟨⟨_, (h1.cell (by omega)).trans (by rw [hf.2.2.1])⟩, h1.frozen _, Nat.le_refl _, hin⟩
  · exact ⟨⟨_, (h1.cell (by omega)).trans (by rw [hf.2.2.2])⟩, h1.frozen _, Nat.le_refl _, hin⟩
theorem NodesOwn.sh {w : World} {g n : Nat} {qs : List NV} (h : NodesOwn w g n qs) (hl : qs.length = n) : NodeSh w (some ⟨g, 0, none⟩) n qs := by
  obtain ⟨⟨f, h1, h2⟩, _, h3⟩ := h
  refine ⟨hl, fun _ => ⟨g, 0, rfl, fun k e hk => ?_⟩, fun e he => ?_⟩
  · have hkn : k < n := by have := (List.getElem?_eq_some_iff.1 hk).1; omega
    have := h2 k e hk
    simp only [Nat.zero_add]
    rw [h1.cell (by omega), this.2.2.2]
  · obtain ⟨k1, _, k3, g1, e1, _, o1⟩ := h3 e he
    rw [e1]
    exact ⟨o1.sh k3, k1⟩
theorem NodesOwn.each {w : World} {g n : Nat} {qs : List NV} (h : NodesOwn w g n qs) (hl : qs.length = n) : ∀ c ∈ nsA (some ⟨g, 0, none⟩) qs, CellOk w g c := by
  intro c hc
  obtain ⟨i, e, he, hc⟩ := rowC_mem hc
  have hin := h.inside
  obtain ⟨⟨f, h1, h2⟩, _, h3⟩ := h
  have hkn : i < n := by have := (List.getElem?_eq_some_iff.1 he).1; omega
  obtain ⟨k1, _, k3, g1, e1, l1, o1⟩ := h3 e (List.mem_of_getElem? he)
  have hf := h2 i e he
  simp only [nodeCells, List.mem_append, List.mem_singleton, Nat.zero_add, e1] at hc
  rcases hc with rfl | rfl | rfl | hc
  · exact ⟨⟨_, (h1.cell (by omega)).trans (by rw [hf.1])⟩, h1.frozen _, Nat.le_refl _, hin⟩
  · exact ⟨⟨_, (h1.cell (by omega)).trans (by rw [hf.2.1])⟩, h1.frozen _, Nat.le_refl _, hin⟩
  · exact ⟨⟨_, (h1.cell (by omega)).trans (by rw [hf.2.2.1])⟩, h1.frozen _, Nat.le_refl _, hin⟩
  · exact (o1.each k3 c hc).lower (by omega)
theorem RetsOwn.sh {w : World} {g n : Nat} {qs : List RV} (h : RetsOwn w g n qs) (hl : qs.length = n) : RetSh w (some ⟨g, 0, none⟩) n qs := by
  obtain ⟨⟨f, h1, h2⟩, _, h3⟩ := h
  refine ⟨hl, fun _ => ⟨g, 0, rfl, fun k e hk => ?_⟩, fun e he => ?_⟩
  · have hkn : k < n := by have := (List.getElem?_eq_some_iff.1 hk).1; omega
    have := h2 k e hk
    simp only [Nat.zero_add]
    rw [h1.cell (by omega), this.2]
  · obtain ⟨k1, _, g1, e1, _, o1⟩ := h3 e he
    exact ⟨fun _ => ⟨g1, 0, e1⟩, k1⟩
theorem RetsOwn.each {w : World} {g n : Nat} {qs : List RV} (h : RetsOwn w g n qs) (hl : qs.length = n) : ∀ c ∈ rsA (some ⟨g, 0, none⟩) qs, CellOk w g c := by
  intro c hc
  obtain ⟨i, e, he, hc⟩ := rowC_mem hc
  have hin := h.inside
  obtain ⟨⟨f, h1, h2⟩, _, h3⟩ := h
  have hkn : i < n := by have := (List.getElem?_eq_some_iff.1 he).1; omega
  obtain ⟨k1, _, g1, e1, l1, o1⟩ := h3 e (List.mem_of_getElem? he)
  have hf := h2 i e he
  simp only [retCells, List.mem_append, List.mem_singleton, Nat.zero_add, e1] at hc
  rcases hc with rfl | hc
  · exact ⟨⟨_, (h1.cell (by omega)).trans (by rw [hf.1])⟩, h1.frozen _, Nat.le_refl _, hin⟩
  · exact (o1.each c hc).lower (by omega)

section
variable {w : World} {base g1 g2 g3 n1 n2 n3 : Nat} {ns : List NV} {fs : List Int} {rs : List RV}
theorem ArenaOwn.sh (h : ArenaOwn w base g1 g2 g3 n1 n2 n3 ns fs rs) (s1 : n1 ≤ 1048576) (s2 : n2 ≤ 1048576) (s3 : n3 ≤ 1048576) : ArSh w (some ⟨g1, 0, none⟩) (some ⟨g2, 0, none⟩) (some ⟨g3, 0, none⟩) n1 n2 n3 ns rs :=
  ⟨h.N.sh h.l1, fun _ => ⟨g2, 0, rfl⟩, h.R.sh h.l3, s1, s2, s3⟩
theorem ArenaOwn.each (h : ArenaOwn w base g1 g2 g3 n1 n2 n3 ns fs rs) : ∀ c ∈ arCells (some ⟨g1, 0, none⟩) (some ⟨g2, 0, none⟩) (some ⟨g3, 0, none⟩) n2 ns rs, CellOk w base c := by
  intro c hc
  have := h.b1; have := h.b2; have := h.b3
  unfold arCells at hc
  rcases List.mem_append.1 hc with hc | hc
  · rcases List.mem_append.1 hc with hc | hc
    · exact (h.N.each h.l1 c hc).lower (by omega)
    · exact (h.F.each c hc).lower (by omega)
  · exact (h.R.each h.l3 c hc).lower (by omega)
theorem ArenaOwn.cells_len (h : ArenaOwn w base g1 g2 g3 n1 n2 n3 ns fs rs) : (arCells (some ⟨g1, 0, none⟩) (some ⟨g2, 0, none⟩) (some ⟨g3, 0, none⟩) n2 ns rs).length ≤ 3 * (n1 + sumN ns + n2 + n3 + sumR rs) := by
  have a1 : (nsA (some ⟨g1, 0, none⟩) ns).length ≤ (ns.map fun p => 3 + 2 * (p.n1 + sumE p.es)).sum := by
    refine rowC_length fun k e he => ?_
    obtain ⟨k1, _, k3, ga, e1, _, o1⟩ := h.N.2.2 e he
    have h4 : (esA e.A1 e.es).length = sumE e.es + 2 * e.es.length := by
      rw [e1]
      exact esCells_length fun q hq => ⟨((o1.sh k3).2.2 q hq).1, ((o1.sh k3).2.2 q hq).2.1⟩
    simp only [nodeCells, List.length_append, List.length_cons, List.length_nil, h4]; omega
  have a2 : (intCells (some ⟨g2, 0, none⟩) n2).length = n2 := intCells_size fun _ => ⟨g2, 0, rfl⟩
  have a3 : (rsA (some ⟨g3, 0, none⟩) rs).length ≤ (rs.map fun p => 1 + p.n1).sum := by
    refine rowC_length fun k e he => ?_
    obtain ⟨k1, _, ga, e1, _, o1⟩ := h.R.2.2 e he
    simp only [retCells, List.length_append, List.length_cons, List.length_nil, intCells_size (show Formed e.A1 e.n1 from fun _ => ⟨ga, 0, e1⟩)]; omega
  have b1 : ∀ l : List NV, (l.map fun p => 3 + 2 * (p.n1 + sumE p.es)).sum = 3 * l.length + 2 * sumN l := by
    intro l
    induction l with
    | nil => simp [sumN]
    | cons x l ih => simp only [List.map_cons, List.sum_cons, ih, sumN, List.length_cons]; omega
  have b3 : ∀ l : List RV, (l.map fun p => 1 + p.n1).sum = l.length + sumR l := by
    intro l
    induction l with
    | nil => simp [sumR]
    | cons x l ih => simp only [List.map_cons, List.sum_cons, ih, sumR, List.length_cons]; omega
  rw [b1, h.l1] at a1
  rw [b3, h.l3] at a3
  unfold arCells
  simp only [List.length_append]
  omega
end

def valE (vs : List EVal) : Nat := (vs.map fun v => v.1.length + v.2.1.length).sum
def valN (vs : List NVal) : Nat := (vs.map fun v => v.2.2.2.length + valE v.2.2.2).sum
def valR (vs : List RVal) : Nat := (vs.map fun v => v.2.length).sum
theorem sumE_val {es : List EV} (h : ∀ p ∈ es, p.n1 = p.x1.length ∧ p.n2 = p.x2.length) : sumE es = valE (es.map EV.val) := by
  induction es with
  | nil => rfl
  | cons a t ih =>
    have h1 := h a (by simp)
    have h2 := ih fun p hp => h p (by simp [hp])
    simp only [sumE, valE, List.map_cons, List.sum_cons] at h2 ⊢
    rw [h2, h1.1, h1.2]; rfl
theorem sumN_val {es : List NV} (h : ∀ p ∈ es, p.n1 = p.es.length ∧ ∀ q ∈ p.es, q.n1 = q.x1.length ∧ q.n2 = q.x2.length) : sumN es = valN (es.map NV.val) := by
  induction es with
  | nil => rfl
  | cons a t ih =>
    have h1 := h a (by simp)
    have h2 := ih fun p hp => h p (by simp [hp])
    simp only [sumN, valN, List.map_cons, List.sum_cons] at h2 ⊢
    rw [h2, h1.1, sumE_val h1.2]; simp [NV.val]
theorem sumR_val {es : List RV} (h : ∀ p ∈ es, p.n1 = p.ws.length) : sumR es = valR (es.map RV.val) := by
  induction es with
  | nil => rfl
  | cons a t ih =>
    have h1 := h a (by simp)
    have h2 := ih fun p hp => h p (by simp [hp])
    simp only [sumR, valR, List.map_cons, List.sum_cons] at h2 ⊢
    rw [h2, h1]; rfl
theorem ArenaL.sums {w : World} {A1 A2 A3 : Option Addr} {n1 n2 n3 : Nat} {ns : List NV} {fs : List Int} {rs : List RV} (h : ArenaL w A1 A2 A3 n1 n2 n3 ns fs rs) : sumN ns = valN (ns.map NV.val) ∧ sumR rs = valR (rs.map RV.val) :=
  ⟨sumN_val fun p hp => ⟨((h.N.2.2 p hp).1.1).symm, fun q hq => by obtain ⟨i1, i2, _⟩ := (h.N.2.2 p hp).1.2.2 q hq; exact ⟨i1.1.symm, i2.1.symm⟩⟩, sumR_val fun p hp => ((h.R.2.2 p hp).1.1).symm⟩
/-- An arena whose lengths together are no more than 2^20. -/
def FewA (n1 n2 n3 : Nat) (ns : List NV) (rs : List RV) : Prop := n1 + valN (ns.map NV.val) + n2 + n3 + valR (rs.map RV.val) ≤ 1048576
theorem FewA.of {w : World} {A1 A2 A3 : Option Addr} {n1 n2 n3 : Nat} {ns : List NV} {fs : List Int} {rs : List RV} {r l : Int} (h : ArenaL w A1 A2 A3 n1 n2 n3 ns fs rs) (h0 : 0 ≤ r) (hl : l ≤ 1048576) (hu : r + n1 + sumN ns + n2 + n3 + sumR rs ≤ l) : FewA n1 n2 n3 ns rs := by
  obtain ⟨e1, e2⟩ := h.sums
  unfold FewA
  rw [← e1, ← e2]; omega

set_option maxHeartbeats 800000 in
/-- The marks on an arena of the call's own: nothing but its own blocks turns. -/
theorem markArena_arg (k d : Int) (hi base g1 g2 g3 n1 c1 n2 c2 n3 c3 : Nat) (ns : List NV) (fs : List Int) (rs : List RV) (w : World) (ho : ArenaOwn w base g1 g2 g3 n1 n2 n3 ns fs rs) (hf : FewA n1 n2 n3 ns rs) (hh : ∀ c ∈ arCells (some ⟨g1, 0, none⟩) (some ⟨g2, 0, none⟩) (some ⟨g3, 0, none⟩) n2 ns rs, c.block < hi) (h0 : 0 ≤ k) (h1 : k ≤ 2199023255552) :
    Calls Tryz.prog 18 #[.agg #[.int .i64 d, .slice (some ⟨g1, 0, none⟩) n1 c1, .slice (some ⟨g2, 0, none⟩) n2 c2, .slice (some ⟨g3, 0, none⟩) n3 c3], .int .i64 k] w fun e w' => ∃ r : Int, e = .returned (.int .i64 r) ∧ (0 ≤ r ∧ r ≤ k + 3145728) ∧ Turned (fun b => base ≤ b ∧ b < hi) w w' := by
  have hl := ho.cells_len
  have hs : n1 ≤ 1048576 ∧ n2 ≤ 1048576 ∧ n3 ≤ 1048576 := by unfold FewA at hf; exact ⟨by omega, by omega, by omega⟩
  obtain ⟨e1, e2⟩ := (ho.arena hs.1 hs.2.1 hs.2.2).sums
  rw [e1, e2] at hl
  unfold FewA at hf
  refine (markArenaD_any (D := False) k d n1 c1 n2 c2 n3 c3 _ _ _ ns rs w (ho.sh hs.1 hs.2.1 hs.2.2) (fun c hc => ⟨(ho.each c hc).1, (ho.each c hc).2.1⟩) (fun h => h.elim) h0 (by omega)).mono ?_
  rintro e w' ⟨rfl, p⟩
  exact ⟨_, rfl, ⟨by omega, by omega⟩, p.T.wider fun b ⟨c, hc, e⟩ => by subst e; exact ⟨(ho.each c hc).2.2.1, hh c hc⟩⟩

end Go.Proofs.YtpgoildfjkokiaaGreat
