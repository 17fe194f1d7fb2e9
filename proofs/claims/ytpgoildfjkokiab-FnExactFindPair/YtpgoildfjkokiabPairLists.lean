/- The laws' helpers on lists of pairs: szPairS, toPairS, eqPairS. -/
import Derived.Test.YtpgoildfjkokiabPairs
import Derived.Deep.RegionHeld3
namespace Go.Proofs.Ytpgoildfjkokiab
open Go.RowKit

set_option maxHeartbeats 1600000 in
theorem szPairS_any (l : Int) (n c : Nat) (A : Option Addr) (ps : List PV) (w : World) (hp : Pairs w A n ps) (hn : n ≤ maxLen) (h0 : 0 ≤ l) (h1 : l ≤ 1048576) :
    Calls Try.prog 4 #[.slice A n c, .int .i64 l] w fun e w' => ∃ r : Int, e = .returned (.int .i64 r) ∧ (r = -1 ∨ (0 ≤ r ∧ r ≤ l ∧ (n : Int) ≤ l ∧ ∀ (k : Nat) (p : PV), ps[k]? = some p → (p.n1 : Int) + p.n2 ≤ l)) ∧ Below w.heap.size w w' := by
  have HP := Lib.hid hp
  clear hp
  by_cases hs : l < n
  · unfold maxLen at hn
    go_enter Try.func4, Try.ntmps4
    go_wp2
    go_ret
    exact ⟨-1, rfl, Or.inl rfl, Below.refl _ _⟩
  have hk : ¬ (l - n < 0) := by omega
  unfold maxLen at hn
  go_enter Try.func4, Try.ntmps4
  go_wp2
  go_loopw [1, 5] (fun lv i wr => ∃ (k : Nat) (m : Int), k ≤ n ∧ i = .int .i64 k ∧ lv = .int .i64 m ∧ 0 ≤ m ∧ m ≤ l ∧ Hid (Below w.heap.size w wr) ∧ Hid (∀ (j : Nat) (p : PV), j < k → ps[j]? = some p → (p.n1 : Int) + p.n2 ≤ l)) (fun _ i _ => n - (intOf i).toNat)
  case atStart => exact ⟨0, _, Nat.zero_le _, rfl, rfl, by omega, by omega, Below.refl _ _, fun j p hj => absurd hj (Nat.not_lt_zero _)⟩
  case round =>
    obtain ⟨k, m, hk', rfl, rfl, hm0, hm1, hB, hA⟩ := hrel
    by_cases hlt : k < n
    · obtain ⟨b, o, id, A1, n1, c1, A2, n2, c2, x1, x2, rfl, hb, d0, d1, d2, hx, i1, i2, m1, m2⟩ := HP.out.cellAt hlt
      have e0 : wr.cell? ⟨b, o + k * 3, none⟩ = some (.int .i64 id) := (hB.out.cell (p := ⟨b, o + k * 3, none⟩) hb).trans d0
      have e1 : wr.cell? ⟨b, o + k * 3 + 1, none⟩ = some (.slice A1 n1 c1) := (hB.out.cell (p := ⟨b, o + k * 3 + 1, none⟩) hb).trans d1
      have e2 : wr.cell? ⟨b, o + k * 3 + 2, none⟩ = some (.slice A2 n2 c2) := (hB.out.cell (p := ⟨b, o + k * 3 + 2, none⟩) hb).trans d2
      clear d0 d1 d2 i1 i2
      by_cases hz : m < n1 + n2
      · go_wp2_with fail
        refine (szPair_no _ _ _ _ _ _ _ _ _ hm0 (by omega) m1 m2 hz).mono ?_
        rintro e W1 ⟨rfl, b1⟩
        go_wp2
        go_ret
        exact ⟨-1, rfl, Or.inl rfl, hB.out.trans (b1.mono hB.out.size)⟩
      · have hz2 : ¬ (m - n1 - n2 < 0) := by omega
        go_wp2_with fail
        refine (szPair_yes _ _ _ _ _ _ _ _ _ (by omega) m1 m2 (by omega)).mono ?_
        rintro e W1 ⟨rfl, b1⟩
        have hB' := Lib.hid (hB.out.trans (b1.mono hB.out.size))
        have hA' : Hid (∀ (j : Nat) (p : PV), j < k + 1 → ps[j]? = some p → (p.n1 : Int) + p.n2 ≤ l) := by
          intro j p hj hp
          rcases Nat.lt_succ_iff_lt_or_eq.1 hj with h | h
          · exact hA.out j p h hp
          · subst h; rw [hx.out] at hp; injection hp with hp; subst hp; show (n1 : Int) + n2 ≤ l; omega
        clear hA hB b1 hx e0 e1 e2
        go_wp2
        go_roundw
        case rel => exact ⟨k + 1, _, by omega, by go_num, rfl, by omega, by omega, hB', hA'⟩
        case measure => simp [intOf]; omega
    · have hA' : ∀ (k : Nat) (p : PV), ps[k]? = some p → (p.n1 : Int) + p.n2 ≤ l := fun j p hp => hA.out j p (by have h1 := (List.getElem?_eq_some_iff.1 hp).1; have h2 := HP.out.1; omega) hp
      have HA := Lib.hid hA'
      clear hA' hA
      go_wp2
      go_ret
      exact ⟨_, rfl, Or.inr ⟨hm0, hm1, by omega, HA.out⟩, hB.out⟩

theorem val_at {ps qs : List PV} {k : Nat} {p q : PV} (h : ps.map PV.val = qs.map PV.val) (hp : ps[k]? = some p) (hq : qs[k]? = some q) : p.val = q.val := by
  have h1 : (ps.map PV.val)[k]? = some p.val := by simp [hp]
  have h2 : (qs.map PV.val)[k]? = some q.val := by simp [hq]
  rw [h, h2] at h1
  injection h1 with h1; exact h1.symm

set_option maxHeartbeats 3200000 in
theorem eqPairS_same (n c c' : Nat) (A A' : Option Addr) (ps qs : List PV) (w : World) (hp : Pairs w A n ps) (hq : Pairs w A' n qs) (hv : ps.map PV.val = qs.map PV.val) (hn : n ≤ maxLen) :
    Calls Try.prog 9 #[.slice A n c, .slice A' n c'] w fun e w' => e = .returned (.bool true) ∧ Below w.heap.size w w' := by
  have HP := Lib.hid hp
  have HQ := Lib.hid hq
  have HV := Lib.hid hv
  clear hp hq hv
  unfold maxLen at hn
  have hne : ((n : Int) != n) = false := by simp
  go_enter Try.func9, Try.ntmps9
  go_wp2
  go_loopw [5] (fun i wr => ∃ k : Nat, k ≤ n ∧ i = .int .i64 k ∧ Hid (Below w.heap.size w wr)) (fun i _ => n - (intOf i).toNat)
  case atStart => exact ⟨0, Nat.zero_le _, rfl, Below.refl _ _⟩
  case round =>
    obtain ⟨k, hk', rfl, hB⟩ := hrel
    by_cases hlt : k < n
    · obtain ⟨b, o, id, A1, n1, c1, A2, n2, c2, x1, x2, rfl, hb, d0, d1, d2, hx, i1, i2, m1, m2⟩ := HP.out.cellAt hlt
      obtain ⟨b', o', id', A3, n3, c3, A4, n4, c4, x3, x4, rfl, hb', d3, d4, d5, hy, i3, i4, m3, m4⟩ := HQ.out.cellAt hlt
      have hvv := val_at HV.out hx.out hy.out
      simp only [PV.val, Prod.mk.injEq] at hvv
      obtain ⟨rfl, rfl, rfl⟩ := hvv
      have l1 : n1 = n3 := i1.out.1.symm.trans i3.out.1
      have l2 : n2 = n4 := i2.out.1.symm.trans i4.out.1
      subst l1 l2
      have kb := Nat.lt_of_lt_of_le hb hB.out.size
      have kb' := Nat.lt_of_lt_of_le hb' hB.out.size
      have k_0 : wr.cell? ⟨b, o + k * 3, none⟩ = some (.int .i64 id) ∧ wr.cell? ⟨b, o + k * 3 + 1, none⟩ = some (.slice A1 n1 c1) ∧ wr.cell? ⟨b, o + k * 3 + 2, none⟩ = some (.slice A2 n2 c2) ∧ wr.cell? ⟨b', o' + k * 3, none⟩ = some (.int .i64 id) ∧ wr.cell? ⟨b', o' + k * 3 + 1, none⟩ = some (.slice A3 n1 c3) ∧ wr.cell? ⟨b', o' + k * 3 + 2, none⟩ = some (.slice A4 n2 c4) :=
        ⟨(hB.out.cell (p := ⟨b, o + k * 3, none⟩) hb).trans d0, (hB.out.cell (p := ⟨b, o + k * 3 + 1, none⟩) hb).trans d1, (hB.out.cell (p := ⟨b, o + k * 3 + 2, none⟩) hb).trans d2, (hB.out.cell (p := ⟨b', o' + k * 3, none⟩) hb').trans d3, (hB.out.cell (p := ⟨b', o' + k * 3 + 1, none⟩) hb').trans d4, (hB.out.cell (p := ⟨b', o' + k * 3 + 2, none⟩) hb').trans d5⟩
      clear d0 d1 d2 d3 d4 d5 hx hy
      go_wp2_with fail
      go_region_held3 (fun w' => w'.cell? ⟨b, o + k * 3, none⟩ = some (.int .i64 id) ∧ w'.cell? ⟨b, o + k * 3 + 1, none⟩ = some (.slice A1 n1 c1) ∧ w'.cell? ⟨b, o + k * 3 + 2, none⟩ = some (.slice A2 n2 c2) ∧ w'.cell? ⟨b', o' + k * 3, none⟩ = some (.int .i64 id) ∧ w'.cell? ⟨b', o' + k * 3 + 1, none⟩ = some (.slice A3 n1 c3) ∧ w'.cell? ⟨b', o' + k * 3 + 2, none⟩ = some (.slice A4 n2 c4))
        (first | (simp [go_sem, k_0]; done) | with_reducible exact k_1)
        (first
          | (go_at_call 21; refine (eqPair_same _ _ _ _ _ _ _ _ _ _ _ _ _ _ _ x1 x2 _ (i1.out.kept hB.out.drew) (i2.out.kept hB.out.drew) (i3.out.kept hB.out.drew) (i4.out.kept hB.out.drew) m1 m2).mono ?_
             rintro e W1 ⟨rfl, b1d⟩
             have b1 := below_drawn b1d
             have k_1 : W1.cell? ⟨b, o + k * 3, none⟩ = some (.int .i64 id) ∧ W1.cell? ⟨b, o + k * 3 + 1, none⟩ = some (.slice A1 n1 c1) ∧ W1.cell? ⟨b, o + k * 3 + 2, none⟩ = some (.slice A2 n2 c2) ∧ W1.cell? ⟨b', o' + k * 3, none⟩ = some (.int .i64 id) ∧ W1.cell? ⟨b', o' + k * 3 + 1, none⟩ = some (.slice A3 n1 c3) ∧ W1.cell? ⟨b', o' + k * 3 + 2, none⟩ = some (.slice A4 n2 c4) :=
               ⟨(b1.cell (p := ⟨b, o + k * 3, none⟩) kb).trans k_0.1, (b1.cell (p := ⟨b, o + k * 3 + 1, none⟩) kb).trans k_0.2.1, (b1.cell (p := ⟨b, o + k * 3 + 2, none⟩) kb).trans k_0.2.2.1, (b1.cell (p := ⟨b', o' + k * 3, none⟩) kb').trans k_0.2.2.2.1, (b1.cell (p := ⟨b', o' + k * 3 + 1, none⟩) kb').trans k_0.2.2.2.2.1, (b1.cell (p := ⟨b', o' + k * 3 + 2, none⟩) kb').trans k_0.2.2.2.2.2⟩
             clear b1d))
      clear k_0 k_1
      have hB' := Lib.hid (hB.out.trans (b1.mono hB.out.size))
      clear hB b1
      go_wp2
      go_roundw
      case rel => exact ⟨k + 1, by omega, by go_num, hB'⟩
      case measure => simp [intOf]; omega
    · go_wp2
      go_ret
      exact ⟨rfl, hB.out⟩

/-- Block g is a row of the call's own that holds the pairs qs ahead, each with two rows of its own. -/
def PairsOwn (w : World) (g n : Nat) (qs : List PV) : Prop :=
  (∃ f, w.rowIs g 28 (n * 3) f ∧ ∀ (j : Nat) (q : PV), qs[j]? = some q → f (j * 3) = .int .i64 q.id ∧ f (j * 3 + 1) = .slice q.A1 q.n1 q.c1 ∧ f (j * 3 + 2) = .slice q.A2 q.n2 q.c2) ∧ qs.length ≤ n ∧
  ∀ q ∈ qs, q.n1 ≤ 1048576 ∧ q.n2 ≤ 1048576 ∧ q.c1 = q.n1 ∧ q.c2 = q.n2 ∧ ∃ g1 g2, q.A1 = some ⟨g1, 0, none⟩ ∧ q.A2 = some ⟨g2, 0, none⟩ ∧ g < g1 ∧ g1 < g2 ∧ Own w g1 q.n1 q.x1 ∧ Own w g2 q.n2 q.x2

theorem PairsOwn.inside {w : World} {g n : Nat} {qs : List PV} (h : PairsOwn w g n qs) : g < w.heap.size := by obtain ⟨⟨f, h1, _⟩, _⟩ := h; exact h1.lt
theorem PairsOwn.kept {w w' : World} {g n : Nat} {qs : List PV} (h : PairsOwn w g n qs) (hb : Below w.heap.size w w') : PairsOwn w' g n qs := by
  obtain ⟨⟨f, h1, h2⟩, hl, h3⟩ := h
  refine ⟨⟨f, h1.of_block (hb.block g h1.lt), h2⟩, hl, fun q hq => ?_⟩
  obtain ⟨k1, k2, k3, k4, g1, g2, k5, k6, k7, k8, k9, k10⟩ := h3 q hq
  exact ⟨k1, k2, k3, k4, g1, g2, k5, k6, k7, k8, k9.kept hb, k10.kept hb⟩
theorem PairsOwn.pairs {w : World} {g n : Nat} {qs : List PV} (h : PairsOwn w g n qs) (hl : qs.length = n) : Pairs w (some ⟨g, 0, none⟩) n qs := by
  obtain ⟨⟨f, h1, h2⟩, _, h3⟩ := h
  refine ⟨hl, fun _ => ⟨g, 0, rfl, h1.lt, fun k p hk => ?_⟩, fun q hq => ?_⟩
  · have hkn : k < n := by have := (List.getElem?_eq_some_iff.1 hk).1; omega
    obtain ⟨a0, a1, a2⟩ := h2 k p hk
    rw [Nat.zero_add, h1.cell (i := k * 3) (by omega), h1.cell (i := k * 3 + 1) (by omega), h1.cell (i := k * 3 + 2) (by omega), a0, a1, a2]
    exact ⟨rfl, rfl, rfl⟩
  · obtain ⟨k1, k2, k3, k4, g1, g2, k5, k6, k7, k8, k9, k10⟩ := h3 q hq
    exact ⟨by rw [k5]; exact k9.ints (Nat.zero_le _), by rw [k6]; exact k10.ints (Nat.zero_le _), Nat.le_trans k1 (by decide), Nat.le_trans k2 (by decide)⟩
theorem PairsOwn.put {w : World} {g n k : Nat} {qs : List PV} (h : PairsOwn w g n qs) (hl : qs.length = k) (hk : k < n) {id : Int} {g1 g2 n1 n2 : Nat} {x1 x2 : List Int} (l1 : g < g1) (l2 : g1 < g2) (o1 : Own w g1 n1 x1) (o2 : Own w g2 n2 x2) (m1 : n1 ≤ 1048576) (m2 : n2 ≤ 1048576) :
    PairsOwn (((w.setCell ⟨g, k * 3, none⟩ (.int .i64 id)).setCell ⟨g, k * 3 + 1, none⟩ (.slice (some ⟨g1, 0, none⟩) n1 n1)).setCell ⟨g, k * 3 + 2, none⟩ (.slice (some ⟨g2, 0, none⟩) n2 n2)) g n (qs ++ [⟨id, some ⟨g1, 0, none⟩, n1, n1, some ⟨g2, 0, none⟩, n2, n2, x1, x2⟩]) := by
  obtain ⟨⟨f, h1, h2⟩, hln, h3⟩ := h
  have far : ∀ {gg m : Nat} {xs : List Int}, g < gg → Own w gg m xs → Own (((w.setCell ⟨g, k * 3, none⟩ (.int .i64 id)).setCell ⟨g, k * 3 + 1, none⟩ (.slice (some ⟨g1, 0, none⟩) n1 n1)).setCell ⟨g, k * 3 + 2, none⟩ (.slice (some ⟨g2, 0, none⟩) n2 n2)) gg m xs :=
    fun hh ho => ((ho.far (by show _ ≠ g; omega) _).far (by show _ ≠ g; omega) _).far (by show _ ≠ g; omega) _
  refine ⟨⟨_, ((h1.set (k * 3) _).set (k * 3 + 1) _).set (k * 3 + 2) _, fun j q hq => ?_⟩, by simp; omega, fun q hq => ?_⟩
  · rcases Nat.lt_or_ge j k with hj | hj
    · rw [List.getElem?_append_left (by omega)] at hq
      obtain ⟨a0, a1, a2⟩ := h2 j q hq
      refine ⟨?_, ?_, ?_⟩
      · rw [if_neg (by omega), if_neg (by omega), if_neg (by omega)]; exact a0
      · rw [if_neg (by omega), if_neg (by omega), if_neg (by omega)]; exact a1
      · rw [if_neg (by omega), if_neg (by omega), if_neg (by omega)]; exact a2
    · rw [List.getElem?_append_right (by omega)] at hq
      have hj0 : j = k := by
        have := (List.getElem?_eq_some_iff.1 hq).1
        simp at this; omega
      subst hj0
      rw [hl, Nat.sub_self] at hq
      simp only [List.getElem?_cons_zero, Option.some.injEq] at hq
      subst hq
      refine ⟨?_, ?_, ?_⟩
      · rw [if_neg (by omega), if_neg (by omega), if_pos rfl]
      · rw [if_neg (by omega), if_pos rfl]
      · rw [if_pos rfl]
  · rcases List.mem_append.1 hq with hq | hq
    · obtain ⟨k1, k2, k3, k4, a1, a2, k5, k6, k7, k8, k9, k10⟩ := h3 q hq
      exact ⟨k1, k2, k3, k4, a1, a2, k5, k6, k7, k8, far k7 k9, far (by omega) k10⟩
    · simp only [List.mem_singleton] at hq
      subst hq
      exact ⟨m1, m2, rfl, rfl, g1, g2, rfl, rfl, l1, l2, far l1 o1, far (by omega) o2⟩

theorem info_pair : (Try.prog.info? 28).map (fun i => (i.zero, i.size, i.bytes)) = some (some (.agg #[.int .i64 0, .slice none 0 0, .slice none 0 0]), 3, 56) := by kernel_rfl
theorem run_make_pairs (n : Nat) (hn : n ≤ 1048576) (W : World) : (Instr.makeSlice 32 (.int .i64 (n : Int)) (.int .i64 (n : Int))).run Try.prog W = .ok (.slice (some ⟨W.heap.size, 0, none⟩) n n) (W.alloc (.cells (madeCells #[.int .i64 0, .slice none 0 0, .slice none 0 0] (n * 3)) 28)) := by
  obtain ⟨i, hi, h⟩ := Option.map_eq_some_iff.1 info_pair
  simp only [Prod.mk.injEq] at h
  have hr := run_make (P := Try.prog) W 32 28 i _ Try.underlying32 hi h.1 .i64 .i64 n n (by omega) (Int.le_refl _) (by rw [h.2.2]; omega) (by omega)
  simp only [Int.toNat_natCast, h.2.1] at hr
  exact hr
theorem pairsOwn_made (w : World) (n : Nat) (cs : Array Value) (hc : cs.size = n * 3) : PairsOwn (w.alloc (.cells cs 28)) w.heap.size n [] := by
  refine ⟨⟨fun i => cs.getD i undef, ?_, fun j q hq => by simp at hq⟩, Nat.zero_le _, fun q hq => by simp at hq⟩
  rw [← hc]
  exact World.rowIs_alloc w cs _ _ fun i hi => by simp [Array.getD, hi]

set_option maxHeartbeats 3200000 in
theorem toPairS_any (n c : Nat) (A : Option Addr) (ps : List PV) (w : World) (hp : Pairs w A n ps) (hn : n ≤ 1048576) (hs : ∀ (k : Nat) (p : PV), ps[k]? = some p → p.n1 ≤ 1048576 ∧ p.n2 ≤ 1048576) :
    Calls Try.prog 6 #[.slice A n c] w fun e w' => ∃ (g : Nat) (qs : List PV), e = .returned (.slice (some ⟨g, 0, none⟩) n n) ∧ w.heap.size ≤ g ∧ PairsOwn w' g n qs ∧ qs.length = n ∧ qs.map PV.val = ps.map PV.val ∧ Below w.heap.size w w' := by
  have HP := Lib.hid hp
  have HS := Lib.hid hs
  clear hp hs
  have hmk := fun W => run_make_pairs n hn W
  go_enter Try.func6, Try.ntmps6
  go_wp2
  clear hmk
  go_loopw [4] (fun i wr => ∃ (k : Nat) (qs : List PV), k ≤ n ∧ i = .int .i64 k ∧ Hid (Below w.heap.size w wr) ∧ Hid (PairsOwn wr w.heap.size n qs) ∧ Hid (qs.length = k) ∧ Hid (qs.map PV.val = (ps.take k).map PV.val)) (fun i _ => n - (intOf i).toNat)
  case atStart => exact ⟨0, [], Nat.zero_le _, rfl, below_alloc _ _, pairsOwn_made w n _ (size_madeCells _ _), rfl, rfl⟩
  case round =>
    obtain ⟨k, qs, hk', rfl, hB, hO, hL, hV⟩ := hrel
    by_cases hlt : k < n
    · obtain ⟨b, o, id, A1, n1, c1, A2, n2, c2, x1, x2, rfl, hb, d0, d1, d2, hx, i1, i2, m1, m2⟩ := HP.out.cellAt hlt
      have e0 : wr.cell? ⟨b, o + k * 3, none⟩ = some (.int .i64 id) := (hB.out.cell (p := ⟨b, o + k * 3, none⟩) hb).trans d0
      have e1 : wr.cell? ⟨b, o + k * 3 + 1, none⟩ = some (.slice A1 n1 c1) := (hB.out.cell (p := ⟨b, o + k * 3 + 1, none⟩) hb).trans d1
      have e2 : wr.cell? ⟨b, o + k * 3 + 2, none⟩ = some (.slice A2 n2 c2) := (hB.out.cell (p := ⟨b, o + k * 3 + 2, none⟩) hb).trans d2
      have q1 : n1 ≤ 1048576 := (HS.out k _ hx.out).1
      have q2 : n2 ≤ 1048576 := (HS.out k _ hx.out).2
      clear d0 d1 d2
      go_wp2_with fail
      clear e0 e1 e2
      refine (toPair_any _ _ _ _ _ _ _ _ _ x1 x2 _ (i1.out.kept hB.out) (i2.out.kept hB.out) q1 q2).mono ?_
      rintro e W1 ⟨g1, g2, rfl, o1, o2, l1, l2, b1⟩
      have hin := hO.out.inside
      replace hO := Lib.hid (hO.out.kept b1)
      replace hB := Lib.hid (hB.out.trans (b1.mono hB.out.size))
      have hO' := Lib.hid (hO.out.put (id := id) hL.out hlt (g1 := g1) (g2 := g2) (by omega) l2 o1 o2 q1 q2)
      have hV' : Hid ((qs ++ [(⟨id, some ⟨g1, 0, none⟩, n1, n1, some ⟨g2, 0, none⟩, n2, n2, x1, x2⟩ : PV)]).map PV.val = (ps.take (k + 1)).map PV.val) := by
        show List.map PV.val _ = _
        rw [List.map_append, hV.out, List.take_add_one, hx.out, List.map_append]; rfl
      have hL' : Hid ((qs ++ [(⟨id, some ⟨g1, 0, none⟩, n1, n1, some ⟨g2, 0, none⟩, n2, n2, x1, x2⟩ : PV)]).length = k + 1) := by show List.length _ = _; simp [hL.out]
      obtain ⟨⟨f, hrow, _⟩, _⟩ := hO.out
      have c0 : W1.cell? ⟨w.heap.size, k * 3, none⟩ = some (f (k * 3)) := hrow.cell (by omega)
      have c1' : W1.cell? ⟨w.heap.size, k * 3 + 1, none⟩ = some (f (k * 3 + 1)) := hrow.cell (by omega)
      have c2' : W1.cell? ⟨w.heap.size, k * 3 + 2, none⟩ = some (f (k * 3 + 2)) := hrow.cell (by omega)
      have f0 : W1.frozen? ⟨w.heap.size, k * 3, none⟩ = false := hrow.frozen _
      have f1 : W1.frozen? ⟨w.heap.size, k * 3 + 1, none⟩ = false := hrow.frozen _
      have f2 : W1.frozen? ⟨w.heap.size, k * 3 + 2, none⟩ = false := hrow.frozen _
      have hB' := Lib.hid (((hB.out.setCell (p := ⟨w.heap.size, k * 3, none⟩) (Nat.le_refl _) (.int .i64 id)).setCell (p := ⟨w.heap.size, k * 3 + 1, none⟩) (Nat.le_refl _) (.slice (some ⟨g1, 0, none⟩) n1 n1)).setCell (p := ⟨w.heap.size, k * 3 + 2, none⟩) (Nat.le_refl _) (.slice (some ⟨g2, 0, none⟩) n2 n2))
      clear hO hB b1 o1 o2 hx i1 i2 hV hL l1 l2 hin hrow
      go_wp2
      go_roundw
      case rel => exact ⟨k + 1, _, by omega, by go_num, hB', hO', hL', hV'⟩
      case measure => simp [intOf]; omega
    · have hkn : k = n := by omega
      have HE : Hid (qs.map PV.val = ps.map PV.val) := by show List.map _ _ = _; rw [hV.out, List.take_of_length_le (by have := HP.out.1; omega)]
      have HL : Hid (qs.length = n) := hkn ▸ hL.out
      clear hkn
      go_wp2
      go_ret
      exact ⟨_, qs, rfl, Nat.le_refl _, hO.out, HL.out, HE.out, hB.out⟩

end Go.Proofs.Ytpgoildfjkokiab
