/- Lists of retired places: what they are in memory, and the laws' helpers szRetired, toRetired, eqRetired and those over lists. -/
import Derived.Test.YtpgoildfjkokiaaGreatRects
import Derived.Deep.RegionHeld3
import Derived.Test.YtpgoildfjkokiaaGreatNodeLists
import Derived.Test.YtpgoildfjkokiaaGreatNodeRes
namespace Go.Proofs.YtpgoildfjkokiaaGreat
open Go.RowKit

/-- One retired place as it lies. -/
structure RV where
  id : Int
  A1 : Option Addr
  n1 : Nat
  c1 : Nat
  ws : List Int
/-- What a retired place says. -/
abbrev RVal := Int × List Int
def RV.val (p : RV) : RVal := (p.id, p.ws)
def RetOk (w : World) (p : RV) : Prop := Ints w 0 p.A1 p.n1 p.ws ∧ p.n1 ≤ maxLen
theorem RetOk.kept {w w' : World} {p : RV} (h : RetOk w p) (hb : Below w.heap.size w w') : RetOk w' p := ⟨h.1.kept hb, h.2⟩

/-- The slice value '.slice A n c' reads as the retired places ps. -/
def Rets (w : World) (A : Option Addr) (n : Nat) (ps : List RV) : Prop :=
  ps.length = n ∧ (0 < n → ∃ b o, A = some ⟨b, o, none⟩ ∧ b < w.heap.size ∧ ∀ k p, ps[k]? = some p →
    w.cell? ⟨b, o + k * 2, none⟩ = some (.int .i64 p.id) ∧ w.cell? ⟨b, o + k * 2 + 1, none⟩ = some (.slice p.A1 p.n1 p.c1)) ∧ ∀ p ∈ ps, RetOk w p
theorem Rets.kept {w w' : World} {n : Nat} {A : Option Addr} {ps : List RV} (h : Rets w A n ps) (hb : Below w.heap.size w w') : Rets w' A n ps := by
  obtain ⟨hl, hr, hp⟩ := h
  refine ⟨hl, fun hn => ?_, fun p hm => (hp p hm).kept hb⟩
  obtain ⟨b, o, e, h2, h3⟩ := hr hn
  refine ⟨b, o, e, Nat.lt_of_lt_of_le h2 hb.size, fun k x hx => ?_⟩
  obtain ⟨c0, c1⟩ := h3 k x hx
  exact ⟨(hb.cell (p := ⟨b, o + k * 2, none⟩) h2).trans c0, (hb.cell (p := ⟨b, o + k * 2 + 1, none⟩) h2).trans c1⟩
/-- The cells of the k-th retired place. -/
theorem Rets.cellAt {w : World} {n k : Nat} {A : Option Addr} {ps : List RV} (h : Rets w A n ps) (hk : k < n) :
    ∃ b o id A1 n1 c1 ws, A = some ⟨b, o, none⟩ ∧ b < w.heap.size ∧ w.cell? ⟨b, o + k * 2, none⟩ = some (.int .i64 id) ∧ w.cell? ⟨b, o + k * 2 + 1, none⟩ = some (.slice A1 n1 c1) ∧
      Hid (ps[k]? = some ⟨id, A1, n1, c1, ws⟩) ∧ Hid (Ints w 0 A1 n1 ws) ∧ n1 ≤ maxLen := by
  obtain ⟨hl, hr, hp⟩ := h
  obtain ⟨b, o, e, h2, h3⟩ := hr (by omega)
  have hx : ps[k]? = some (ps[k]'(by omega)) := List.getElem?_eq_getElem (by omega)
  have hq := hp _ (List.mem_of_getElem? hx)
  obtain ⟨c0, c1⟩ := h3 k _ hx
  exact ⟨b, o, _, _, _, _, _, e, h2, c0, c1, hx, hq.1, hq.2⟩

/-- Each retired place of the list is small. -/
def SmallR (l : Int) (ps : List RV) : Prop := ∀ (k : Nat) (p : RV), ps[k]? = some p → (p.n1 : Int) ≤ l

set_option maxHeartbeats 800000 in
theorem szRetired_any (id l : Int) (n c : Nat) (A : Option Addr) (w : World) (hn : n ≤ maxLen) (h0 : 0 ≤ l) (h1 : l ≤ 1048576) :
    Calls Tryz.prog 79 #[.agg #[.int .i64 id, .slice A n c], .int .i64 l] w fun e w' => ∃ r : Int, e = .returned (.int .i64 r) ∧ (r = -1 ∨ (0 ≤ r ∧ r ≤ l ∧ (n : Int) ≤ l)) ∧ Below w.heap.size w w' := by
  have B := Lib.hid (below_alloc w (.cells #[.int .i64 id, .slice A n c] 120))
  by_cases hs : l < n
  · go_enter Tryz.func79, Tryz.ntmps79
    go_wp2_with fail
    refine (szInt64S_no _ _ _ _ _ h0 h1 hn hs).mono ?_
    rintro e W1 ⟨rfl, rfl⟩
    go_wp2
    go_ret
    exact ⟨-1, rfl, Or.inl rfl, B.out⟩
  · have hs' : (n : Int) ≤ l := by omega
    have hk : ¬ (l - n < 0) := by omega
    clear hs
    go_enter Tryz.func79, Tryz.ntmps79
    go_wp2_with fail
    refine (szInt64S_yes _ _ _ _ _ h0 h1 hn hs').mono ?_
    rintro e W1 ⟨rfl, rfl⟩
    go_wp2
    go_ret
    exact ⟨l - n, rfl, Or.inr ⟨by omega, by omega, hs'⟩, B.out⟩

set_option maxHeartbeats 1600000 in
theorem szRetiredS_any (l : Int) (n c : Nat) (A : Option Addr) (ps : List RV) (w : World) (hp : Rets w A n ps) (hn : n ≤ maxLen) (h0 : 0 ≤ l) (h1 : l ≤ 1048576) :
    Calls Tryz.prog 43 #[.slice A n c, .int .i64 l] w fun e w' => ∃ r : Int, e = .returned (.int .i64 r) ∧ (r = -1 ∨ (0 ≤ r ∧ r ≤ l ∧ (n : Int) ≤ l ∧ SmallR l ps)) ∧ Below w.heap.size w w' := by
  have HP := Lib.hid hp
  clear hp
  by_cases hs : l < n
  · unfold maxLen at hn
    go_enter Tryz.func43, Tryz.ntmps43
    go_wp2
    go_ret
    exact ⟨-1, rfl, Or.inl rfl, Below.refl _ _⟩
  have hk : ¬ (l - n < 0) := by omega
  unfold maxLen at hn
  go_enter Tryz.func43, Tryz.ntmps43
  go_wp2
  go_loopw [1, 5] (fun lv i wr => ∃ (k : Nat) (m : Int), k ≤ n ∧ i = .int .i64 k ∧ lv = .int .i64 m ∧ 0 ≤ m ∧ m ≤ l ∧ Hid (Below w.heap.size w wr) ∧ Hid (∀ (j : Nat) (p : RV), j < k → ps[j]? = some p → (p.n1 : Int) ≤ l)) (fun _ i _ => n - (intOf i).toNat)
  case atStart => exact ⟨0, _, Nat.zero_le _, rfl, rfl, by omega, by omega, Below.refl _ _, fun j p hj => absurd hj (Nat.not_lt_zero _)⟩
  case round =>
    obtain ⟨k, m, hk', rfl, rfl, hm0, hm1, hB, hA⟩ := hrel
    by_cases hlt : k < n
    · obtain ⟨b, o, id, A1, n1, c1, es, rfl, hb, d0, d1, hx, i1, m1⟩ := HP.out.cellAt hlt
      have e0 : wr.cell? ⟨b, o + k * 2, none⟩ = some (.int .i64 id) := (hB.out.cell (p := ⟨b, o + k * 2, none⟩) hb).trans d0
      have e1 : wr.cell? ⟨b, o + k * 2 + 1, none⟩ = some (.slice A1 n1 c1) := (hB.out.cell (p := ⟨b, o + k * 2 + 1, none⟩) hb).trans d1
      clear d0 d1
      go_wp2_with fail
      refine (szRetired_any _ m _ _ _ _ m1 hm0 (by omega)).mono ?_
      rintro e W1 ⟨r, rfl, hr, b1⟩
      have hB' := Lib.hid (hB.out.trans (b1.mono hB.out.size))
      clear hB b1 e0 e1
      rcases hr with rfl | ⟨r0, r1, r2⟩
      · go_wp2
        go_ret
        exact ⟨-1, rfl, Or.inl rfl, hB'.out⟩
      · have hr0 : ¬ r < 0 := by omega
        have hA' : Hid (∀ (j : Nat) (p : RV), j < k + 1 → ps[j]? = some p → (p.n1 : Int) ≤ l) := by
          intro j p hj hp
          rcases Nat.lt_succ_iff_lt_or_eq.1 hj with h | h
          · exact hA.out j p h hp
          · subst h; rw [hx.out] at hp; injection hp with hp; subst hp; show (n1 : Int) ≤ l; omega
        clear hA hx
        go_wp2
        go_roundw
        case rel => exact ⟨k + 1, r, by omega, by go_num, rfl, by omega, by omega, hB', hA'⟩
        case measure => simp [intOf]; omega
    · have HA : Hid (SmallR l ps) := fun j p hp => hA.out j p (by have h1 := (List.getElem?_eq_some_iff.1 hp).1; have h2 := HP.out.1; omega) hp
      clear hA
      go_wp2
      go_ret
      exact ⟨_, rfl, Or.inr ⟨hm0, hm1, by omega, HA.out⟩, hB.out⟩

theorem rval_at {ps qs : List RV} {k : Nat} {p q : RV} (h : ps.map RV.val = qs.map RV.val) (hp : ps[k]? = some p) (hq : qs[k]? = some q) : p.val = q.val := by
  have h1 : (ps.map RV.val)[k]? = some p.val := by simp [hp]
  have h2 : (qs.map RV.val)[k]? = some q.val := by simp [hq]
  rw [h, h2] at h1
  injection h1 with h1; exact h1.symm

set_option maxHeartbeats 1600000 in
theorem eqRetired_same (id : Int) (n c c' lo lo' : Nat) (A A' : Option Addr) (ws : List Int) (w : World) (hp : Ints w lo A n ws) (hq : Ints w lo' A' n ws) (hn : n ≤ maxLen) :
    Calls Tryz.prog 92 #[.agg #[.int .i64 id, .slice A n c], .agg #[.int .i64 id, .slice A' n c']] w fun e w' => e = .returned (.bool true) ∧ Below w.heap.size w w' := by
  have e1 : (id != id) = false := by simp
  have HP := Lib.hid hp
  have HQ := Lib.hid hq
  clear hp hq
  have B := Lib.hid (below_alloc w (.cells #[.int .i64 id, .slice A n c] 123))
  replace B := Lib.hid (B.out.alloc B.out.size (.cells #[.int .i64 id, .slice A' n c'] 123))
  go_enter Tryz.func92, Tryz.ntmps92
  go_wp2_with fail
  refine (eqInt64S_is true _ _ _ _ _ _ _ _ ws ws _ (by simp) (HP.out.kept B.out) (HQ.out.kept B.out) hn).mono ?_
  rintro e W1 ⟨rfl, q, rfl⟩
  replace B := Lib.hid (below_draws B.out q)
  go_wp2
  go_ret
  exact ⟨rfl, B.out⟩

set_option maxHeartbeats 3200000 in
theorem eqRetiredS_same (n c c' : Nat) (A A' : Option Addr) (ps qs : List RV) (w : World) (hp : Rets w A n ps) (hq : Rets w A' n qs) (hv : ps.map RV.val = qs.map RV.val) (hn : n ≤ maxLen) :
    Calls Tryz.prog 53 #[.slice A n c, .slice A' n c'] w fun e w' => e = .returned (.bool true) ∧ Below w.heap.size w w' := by
  have HP := Lib.hid hp
  have HQ := Lib.hid hq
  have HV := Lib.hid hv
  clear hp hq hv
  unfold maxLen at hn
  have hne : ((n : Int) != n) = false := by simp
  go_enter Tryz.func53, Tryz.ntmps53
  go_wp2
  go_loopw [5] (fun i wr => ∃ k : Nat, k ≤ n ∧ i = .int .i64 k ∧ Hid (Below w.heap.size w wr)) (fun i _ => n - (intOf i).toNat)
  case atStart => exact ⟨0, Nat.zero_le _, rfl, Below.refl _ _⟩
  case round =>
    obtain ⟨k, hk', rfl, hB⟩ := hrel
    by_cases hlt : k < n
    · obtain ⟨b, o, id, A1, n1, c1, es, rfl, hb, d0, d1, hx, i1, m1⟩ := HP.out.cellAt hlt
      obtain ⟨b', o', id', A3, n3, c3, es', rfl, hb', d4, d5, hy, i3, m3⟩ := HQ.out.cellAt hlt
      have hvv := rval_at HV.out hx.out hy.out
      simp only [RV.val, Prod.mk.injEq] at hvv
      obtain ⟨rfl, rfl⟩ := hvv
      have l1 : n1 = n3 := i1.out.1.symm.trans i3.out.1
      subst l1
      have kb := Nat.lt_of_lt_of_le hb hB.out.size
      have kb' := Nat.lt_of_lt_of_le hb' hB.out.size
      have k_0 : wr.cell? ⟨b, o + k * 2, none⟩ = some (.int .i64 id) ∧ wr.cell? ⟨b, o + k * 2 + 1, none⟩ = some (.slice A1 n1 c1) ∧ wr.cell? ⟨b', o' + k * 2, none⟩ = some (.int .i64 id) ∧ wr.cell? ⟨b', o' + k * 2 + 1, none⟩ = some (.slice A3 n1 c3) :=
        ⟨(hB.out.cell (p := ⟨b, o + k * 2, none⟩) hb).trans d0, (hB.out.cell (p := ⟨b, o + k * 2 + 1, none⟩) hb).trans d1, (hB.out.cell (p := ⟨b', o' + k * 2, none⟩) hb').trans d4, (hB.out.cell (p := ⟨b', o' + k * 2 + 1, none⟩) hb').trans d5⟩
      clear d0 d1 d4 d5 hx hy
      go_wp2_with fail
      go_region_held3 (fun w' => w'.cell? ⟨b, o + k * 2, none⟩ = some (.int .i64 id) ∧ w'.cell? ⟨b, o + k * 2 + 1, none⟩ = some (.slice A1 n1 c1) ∧ w'.cell? ⟨b', o' + k * 2, none⟩ = some (.int .i64 id) ∧ w'.cell? ⟨b', o' + k * 2 + 1, none⟩ = some (.slice A3 n1 c3))
        (first | (simp [go_sem, k_0]; done) | with_reducible exact k_1)
        (first
          | (go_at_call 92; refine (eqRetired_same _ _ _ _ _ _ _ _ es _ (i1.out.kept hB.out.drew) (i3.out.kept hB.out.drew) m1).mono ?_
             rintro e W1 ⟨rfl, b1d⟩
             have b1 := below_drawn b1d
             have k_1 : W1.cell? ⟨b, o + k * 2, none⟩ = some (.int .i64 id) ∧ W1.cell? ⟨b, o + k * 2 + 1, none⟩ = some (.slice A1 n1 c1) ∧ W1.cell? ⟨b', o' + k * 2, none⟩ = some (.int .i64 id) ∧ W1.cell? ⟨b', o' + k * 2 + 1, none⟩ = some (.slice A3 n1 c3) :=
               ⟨(b1.cell (p := ⟨b, o + k * 2, none⟩) kb).trans k_0.1, (b1.cell (p := ⟨b, o + k * 2 + 1, none⟩) kb).trans k_0.2.1, (b1.cell (p := ⟨b', o' + k * 2, none⟩) kb').trans k_0.2.2.1, (b1.cell (p := ⟨b', o' + k * 2 + 1, none⟩) kb').trans k_0.2.2.2⟩
             clear b1d))
      clear k_0 k_1
      have hB' := Lib.hid (hB.out.trans (b1.mono hB.out.size))
      clear hB b1
      go_wp2
      go_roundw
      case rel => exact ⟨k + 1, by omega, by go_num, hB'⟩
      case measure => simp [intOf]; omega
    · go_wp2
      go_ret
      exact ⟨rfl, hB.out⟩

/-- Block g is a row of the call's own that holds the retired places qs ahead, each with a row of its own. -/
def RetsOwn (w : World) (g n : Nat) (qs : List RV) : Prop :=
  (∃ f, w.rowIs g 123 (n * 2) f ∧ ∀ (j : Nat) (q : RV), qs[j]? = some q → f (j * 2) = .int .i64 q.id ∧ f (j * 2 + 1) = .slice q.A1 q.n1 q.c1) ∧ qs.length ≤ n ∧
  ∀ q ∈ qs, q.n1 ≤ 1048576 ∧ q.c1 = q.n1 ∧ ∃ g1, q.A1 = some ⟨g1, 0, none⟩ ∧ g < g1 ∧ Own w g1 q.n1 q.ws
theorem RetsOwn.inside {w : World} {g n : Nat} {qs : List RV} (h : RetsOwn w g n qs) : g < w.heap.size := by obtain ⟨⟨f, h1, _⟩, _⟩ := h; exact h1.lt
theorem RetsOwn.kept {w w' : World} {g n : Nat} {qs : List RV} (h : RetsOwn w g n qs) (hb : Below w.heap.size w w') : RetsOwn w' g n qs := by
  obtain ⟨⟨f, h1, h2⟩, hl, h3⟩ := h
  refine ⟨⟨f, h1.of_block (hb.block g h1.lt), h2⟩, hl, fun q hq => ?_⟩
  obtain ⟨k1, k2, g1, k5, k7, k9⟩ := h3 q hq
  exact ⟨k1, k2, g1, k5, k7, k9.kept hb⟩
theorem RetsOwn.far {w : World} {g n : Nat} {qs : List RV} (h : RetsOwn w g n qs) {a : Addr} (hne : a.block < g) (v : Value) : RetsOwn (w.setCell a v) g n qs := by
  obtain ⟨⟨f, h1, h2⟩, hl, h3⟩ := h
  refine ⟨⟨f, h1.setOther (by omega) v, h2⟩, hl, fun q hq => ?_⟩
  obtain ⟨k1, k2, g1, k5, k7, k9⟩ := h3 q hq
  exact ⟨k1, k2, g1, k5, k7, k9.far (by omega) v⟩
theorem RetsOwn.rets {w : World} {g n : Nat} {qs : List RV} (h : RetsOwn w g n qs) (hl : qs.length = n) : Rets w (some ⟨g, 0, none⟩) n qs := by
  obtain ⟨⟨f, h1, h2⟩, _, h3⟩ := h
  refine ⟨hl, fun _ => ⟨g, 0, rfl, h1.lt, fun k p hk => ?_⟩, fun q hq => ?_⟩
  · have hkn : k < n := by have := (List.getElem?_eq_some_iff.1 hk).1; omega
    obtain ⟨a0, a1⟩ := h2 k p hk
    rw [Nat.zero_add, h1.cell (i := k * 2) (by omega), h1.cell (i := k * 2 + 1) (by omega), a0, a1]
    exact ⟨rfl, rfl⟩
  · obtain ⟨k1, k2, g1, k5, k7, k9⟩ := h3 q hq
    exact ⟨by rw [k5]; exact k9.ints (Nat.zero_le _), Nat.le_trans k1 (by decide)⟩
theorem RetsOwn.put {w : World} {g n k : Nat} {qs : List RV} (h : RetsOwn w g n qs) (hl : qs.length = k) (hk : k < n) {id : Int} {g1 n1 : Nat} {ws : List Int} (l1 : g < g1) (o1 : Own w g1 n1 ws) (m1 : n1 ≤ 1048576) :
    RetsOwn ((w.setCell ⟨g, k * 2, none⟩ (.int .i64 id)).setCell ⟨g, k * 2 + 1, none⟩ (.slice (some ⟨g1, 0, none⟩) n1 n1)) g n (qs ++ [⟨id, some ⟨g1, 0, none⟩, n1, n1, ws⟩]) := by
  obtain ⟨⟨f, h1, h2⟩, hln, h3⟩ := h
  have far : ∀ {gg m : Nat} {xs : List Int}, g < gg → Own w gg m xs → Own ((w.setCell ⟨g, k * 2, none⟩ (.int .i64 id)).setCell ⟨g, k * 2 + 1, none⟩ (.slice (some ⟨g1, 0, none⟩) n1 n1)) gg m xs :=
    fun hh ho => (ho.far (by show _ ≠ g; omega) _).far (by show _ ≠ g; omega) _
  refine ⟨⟨_, (h1.set (k * 2) _).set (k * 2 + 1) _, fun j q hq => ?_⟩, by simp; omega, fun q hq => ?_⟩
  · rcases Nat.lt_or_ge j k with hj | hj
    · rw [List.getElem?_append_left (by omega)] at hq
      obtain ⟨a0, a1⟩ := h2 j q hq
      refine ⟨?_, ?_⟩
      · rw [if_neg (by omega), if_neg (by omega)]; exact a0
      · rw [if_neg (by omega), if_neg (by omega)]; exact a1
    · rw [List.getElem?_append_right (by omega)] at hq
      have hj0 : j = k := by
        have := (List.getElem?_eq_some_iff.1 hq).1
        simp at this; omega
      subst hj0
      rw [hl, Nat.sub_self] at hq
      simp only [List.getElem?_cons_zero, Option.some.injEq] at hq
      subst hq
      refine ⟨?_, ?_⟩
      · rw [if_neg (by omega), if_pos rfl]
      · rw [if_pos rfl]
  · rcases List.mem_append.1 hq with hq | hq
    · obtain ⟨k1, k2, a1, k5, k7, k9⟩ := h3 q hq
      exact ⟨k1, k2, a1, k5, k7, far k7 k9⟩
    · simp only [List.mem_singleton] at hq
      subst hq
      exact ⟨m1, rfl, g1, rfl, l1, far l1 o1⟩

theorem info_retired : (Tryz.prog.info? 123).map (fun i => (i.zero, i.size, i.bytes)) = some (some (.agg #[.int .i64 0, .slice none 0 0]), 2, 32) := by kernel_rfl
theorem run_make_rets (n : Nat) (hn : n ≤ 1048576) (W : World) : (Instr.makeSlice 24 (.int .i64 (n : Int)) (.int .i64 (n : Int))).run Tryz.prog W = .ok (.slice (some ⟨W.heap.size, 0, none⟩) n n) (W.alloc (.cells (madeCells #[.int .i64 0, .slice none 0 0] (n * 2)) 123)) := by
  obtain ⟨i, hi, h⟩ := Option.map_eq_some_iff.1 info_retired
  simp only [Prod.mk.injEq] at h
  have hr := run_make (P := Tryz.prog) W 24 123 i _ Tryz.underlying24 hi h.1 .i64 .i64 n n (by omega) (Int.le_refl _) (by rw [h.2.2]; omega) (by omega)
  simp only [Int.toNat_natCast, h.2.1] at hr
  exact hr
theorem retsOwn_made (w : World) (n : Nat) (cs : Array Value) (hc : cs.size = n * 2) : RetsOwn (w.alloc (.cells cs 123)) w.heap.size n [] := by
  refine ⟨⟨fun i => cs.getD i undef, ?_, fun j q hq => by simp at hq⟩, Nat.zero_le _, fun q hq => by simp at hq⟩
  rw [← hc]
  exact World.rowIs_alloc w cs _ _ fun i hi => by simp [Array.getD, hi]

set_option maxHeartbeats 1600000 in
theorem toRetired_any (id : Int) (n c lo : Nat) (A : Option Addr) (ws : List Int) (w : World) (hp : Ints w lo A n ws) (hn : n ≤ 1048576) :
    Calls Tryz.prog 86 #[.agg #[.int .i64 id, .slice A n c]] w fun e w' => ∃ (g : Nat), e = .returned (.agg #[.int .i64 id, .slice (some ⟨g, 0, none⟩) n n]) ∧ w.heap.size ≤ g ∧ Own w' g n ws ∧ Below w.heap.size w w' := by
  have HP := Lib.hid hp
  clear hp
  have B := Lib.hid (below_alloc w (.cells #[.int .i64 id, .slice A n c] 120))
  replace B := Lib.hid (B.out.alloc B.out.size (.cells #[.int .i64 0, .slice none 0 0] 123))
  replace B := Lib.hid (B.out.alloc B.out.size (.cells #[.int .i64 id, .slice none 0 0] 123))
  have L_r := Lib.hid ((Lies.new (w.alloc (.cells #[.int .i64 id, .slice A n c] 120)) 123 #[.int .i64 0, .slice none 0 0]).alloc (.cells #[.int .i64 id, .slice none 0 0] 123))
  have L_o := Lib.hid (Lies.new ((w.alloc (.cells #[.int .i64 id, .slice A n c] 120)).alloc (.cells #[.int .i64 0, .slice none 0 0] 123)) 123 #[.int .i64 id, .slice none 0 0])
  simp only [World.size_alloc] at L_r L_o
  go_enter Tryz.func86, Tryz.ntmps86
  go_wp2_with fail
  refine (toInt64S_new _ _ _ _ ws _ (HP.out.kept B.out) hn).mono ?_
  rintro e W1 ⟨g, rfl, hg, og, b1⟩
  simp only [World.size_alloc] at hg
  replace L_r := Lib.hid (L_r.out.kept b1 L_r.out.inside)
  replace L_o := Lib.hid (L_o.out.kept b1 L_o.out.inside)
  replace B := Lib.hid (B.out.trans (b1.mono B.out.size))
  have O_g := Lib.hid og
  clear b1 og
  have c_o0 : W1.cell? ⟨w.heap.size + 1 + 1, 0, none⟩ = some (.int .i64 id) := L_o.out.cell 0
  have f_o0 : W1.frozen? ⟨w.heap.size + 1 + 1, 0, none⟩ = false := L_o.out.thawed 0
  have c_o1 : W1.cell? ⟨w.heap.size + 1 + 1, 1, none⟩ = some (.slice none 0 0) := L_o.out.cell 1
  have f_o1 : W1.frozen? ⟨w.heap.size + 1 + 1, 1, none⟩ = false := L_o.out.thawed 1
  have c_r0 : W1.cell? ⟨w.heap.size + 1, 0, none⟩ = some (.int .i64 0) := L_r.out.cell 0
  have f_r0 : W1.frozen? ⟨w.heap.size + 1, 0, none⟩ = false := L_r.out.thawed 0
  have c_r1 : W1.cell? ⟨w.heap.size + 1, 1, none⟩ = some (.slice none 0 0) := L_r.out.cell 1
  have f_r1 : W1.frozen? ⟨w.heap.size + 1, 1, none⟩ = false := L_r.out.thawed 1
  go_wp2
  refine bodyPost_ret (v := .agg #[.int .i64 id, .slice (some ⟨g, 0, none⟩) n n]) (by simp [results, Tryz.results86, go_sem, c_r0, c_r1]) rfl ⟨g, rfl, by omega, ?_, ?_⟩
  · with_reducible (repeat (first | exact O_g.out | refine Own.far ?_ ?_ _))
    all_goals (first | (show g ≠ w.heap.size + 1 + 1; omega) | (show g ≠ w.heap.size + 1; omega))
  · with_reducible (repeat (first | exact B.out | refine Below.setCell ?_ ?_ _))
    all_goals (first | (show w.heap.size ≤ w.heap.size + 1 + 1; omega) | (show w.heap.size ≤ w.heap.size + 1; omega))

set_option maxHeartbeats 3200000 in
theorem toRetiredS_any (n c : Nat) (A : Option Addr) (ps : List RV) (w : World) (hp : Rets w A n ps) (hn : n ≤ 1048576) (hs : SmallR 1048576 ps) :
    Calls Tryz.prog 48 #[.slice A n c] w fun e w' => ∃ (g : Nat) (qs : List RV), e = .returned (.slice (some ⟨g, 0, none⟩) n n) ∧ w.heap.size ≤ g ∧ RetsOwn w' g n qs ∧ qs.length = n ∧ qs.map RV.val = ps.map RV.val ∧ Below w.heap.size w w' := by
  have HP := Lib.hid hp
  have HS := Lib.hid hs
  clear hp hs
  have hmk := fun W => run_make_rets n hn W
  go_enter Tryz.func48, Tryz.ntmps48
  go_wp2
  clear hmk
  go_loopw [4] (fun i wr => ∃ (k : Nat) (qs : List RV), k ≤ n ∧ i = .int .i64 k ∧ Hid (Below w.heap.size w wr) ∧ Hid (RetsOwn wr w.heap.size n qs) ∧ Hid (qs.length = k) ∧ Hid (qs.map RV.val = (ps.take k).map RV.val)) (fun i _ => n - (intOf i).toNat)
  case atStart => exact ⟨0, [], Nat.zero_le _, rfl, below_alloc _ _, retsOwn_made w n _ (size_madeCells _ _), rfl, rfl⟩
  case round =>
    obtain ⟨k, qs, hk', rfl, hB, hO, hL, hV⟩ := hrel
    by_cases hlt : k < n
    · obtain ⟨b, o, id, A1, n1, c1, es, rfl, hb, d0, d1, hx, i1, m1⟩ := HP.out.cellAt hlt
      have e0 : wr.cell? ⟨b, o + k * 2, none⟩ = some (.int .i64 id) := (hB.out.cell (p := ⟨b, o + k * 2, none⟩) hb).trans d0
      have e1 : wr.cell? ⟨b, o + k * 2 + 1, none⟩ = some (.slice A1 n1 c1) := (hB.out.cell (p := ⟨b, o + k * 2 + 1, none⟩) hb).trans d1
      have q1 : n1 ≤ 1048576 := by have := HS.out k _ hx.out; simp only at this; omega
      clear d0 d1
      go_wp2_with fail
      clear e0 e1
      refine (toRetired_any _ _ _ _ _ es _ (i1.out.kept hB.out) q1).mono ?_
      rintro e W1 ⟨g1, rfl, l1, o1, b1⟩
      have hin := hO.out.inside
      replace hO := Lib.hid (hO.out.kept b1)
      replace hB := Lib.hid (hB.out.trans (b1.mono hB.out.size))
      have hO' := Lib.hid (hO.out.put (id := id) hL.out hlt (g1 := g1) (by omega) o1 q1)
      have hV' : Hid ((qs ++ [(⟨id, some ⟨g1, 0, none⟩, n1, n1, es⟩ : RV)]).map RV.val = (ps.take (k + 1)).map RV.val) := by
        show List.map RV.val _ = _
        rw [List.map_append, hV.out, List.take_add_one, hx.out, List.map_append]
        simp only [RV.val, List.map_cons, List.map_nil, Option.toList_some]
      have hL' : Hid ((qs ++ [(⟨id, some ⟨g1, 0, none⟩, n1, n1, es⟩ : RV)]).length = k + 1) := by show List.length _ = _; simp [hL.out]
      obtain ⟨⟨f, hrow, _⟩, _⟩ := hO.out
      have c0 : W1.cell? ⟨w.heap.size, k * 2, none⟩ = some (f (k * 2)) := hrow.cell (by omega)
      have c1' : W1.cell? ⟨w.heap.size, k * 2 + 1, none⟩ = some (f (k * 2 + 1)) := hrow.cell (by omega)
      have f0 : W1.frozen? ⟨w.heap.size, k * 2, none⟩ = false := hrow.frozen _
      have f1 : W1.frozen? ⟨w.heap.size, k * 2 + 1, none⟩ = false := hrow.frozen _
      have hB' := Lib.hid ((hB.out.setCell (p := ⟨w.heap.size, k * 2, none⟩) (Nat.le_refl _) (.int .i64 id)).setCell (p := ⟨w.heap.size, k * 2 + 1, none⟩) (Nat.le_refl _) (.slice (some ⟨g1, 0, none⟩) n1 n1))
      clear hO hB b1 o1 hx i1 hV hL l1 hin hrow
      go_wp2
      go_roundw
      case rel => exact ⟨k + 1, _, by omega, by go_num, hB', hO', hL', hV'⟩
      case measure => simp [intOf]; omega
    · have hkn : k = n := by omega
      have HE : Hid (qs.map RV.val = ps.map RV.val) := by show List.map _ _ = _; rw [hV.out, List.take_of_length_le (by have := HP.out.1; omega)]
      have HL : Hid (qs.length = n) := hkn ▸ hL.out
      clear hkn
      go_wp2
      go_ret
      exact ⟨_, qs, rfl, Nat.le_refl _, hO.out, HL.out, HE.out, hB.out⟩

end Go.Proofs.YtpgoildfjkokiaaGreat

/- Arenas: what they are in memory, and the laws' helpers szArena, toArena, eqArena. -/
namespace Go.Proofs.YtpgoildfjkokiaaGreat
open Go.RowKit

/-- The three slices of an arena read as nodes, numbers and retired places. -/
structure ArenaL (w : World) (A1 A2 A3 : Option Addr) (n1 n2 n3 : Nat) (ns : List NV) (fs : List Int) (rs : List RV) : Prop where
  N : NodesL w A1 n1 ns
  F : Ints w 0 A2 n2 fs
  R : Rets w A3 n3 rs
  m1 : n1 ≤ maxLen
  m2 : n2 ≤ maxLen
  m3 : n3 ≤ maxLen
theorem ArenaL.kept {w w' : World} {A1 A2 A3 : Option Addr} {n1 n2 n3 : Nat} {ns : List NV} {fs : List Int} {rs : List RV} (h : ArenaL w A1 A2 A3 n1 n2 n3 ns fs rs) (hb : Below w.heap.size w w') : ArenaL w' A1 A2 A3 n1 n2 n3 ns fs rs :=
  ⟨h.N.kept hb, h.F.kept hb, h.R.kept hb, h.m1, h.m2, h.m3⟩

/-- An arena that is not too great. -/
structure SmallA (n1 n2 n3 : Nat) (ns : List NV) (rs : List RV) : Prop where
  s1 : n1 ≤ 1048576
  s2 : n2 ≤ 1048576
  s3 : n3 ≤ 1048576
  N : SmallN 1048576 ns
  R : SmallR 1048576 rs
theorem SmallN.mono {l l' : Int} {ps : List NV} (h : SmallN l ps) (hl : l ≤ l') : SmallN l' ps := fun k p hk => ⟨Int.le_trans (h k p hk).1 hl, (h k p hk).2.mono hl⟩
theorem SmallR.mono {l l' : Int} {ps : List RV} (h : SmallR l ps) (hl : l ≤ l') : SmallR l' ps := fun k p hk => Int.le_trans (h k p hk) hl
theorem NodesOwn.far {w : World} {g n : Nat} {qs : List NV} (h : NodesOwn w g n qs) {a : Addr} (hne : a.block < g) (v : Value) : NodesOwn (w.setCell a v) g n qs := by
  obtain ⟨⟨f, h1, h2⟩, hl, h3⟩ := h
  refine ⟨⟨f, h1.setOther (by omega) v, h2⟩, hl, fun q hq => ?_⟩
  obtain ⟨k1, k2, k3, g1, k5, k7, k9⟩ := h3 q hq
  exact ⟨k1, k2, k3, g1, k5, k7, k9.far (by omega) v⟩

/-- An arena of the call's own. -/
structure ArenaOwn (w : World) (base g1 g2 g3 n1 n2 n3 : Nat) (ns : List NV) (fs : List Int) (rs : List RV) : Prop where
  N : NodesOwn w g1 n1 ns
  F : Own w g2 n2 fs
  R : RetsOwn w g3 n3 rs
  l1 : ns.length = n1
  l3 : rs.length = n3
  b1 : base ≤ g1
  b2 : g1 < g2
  b3 : g2 < g3
section
variable {w w' : World} {base g1 g2 g3 n1 n2 n3 : Nat} {ns : List NV} {fs : List Int} {rs : List RV}
theorem ArenaOwn.kept (h : ArenaOwn w base g1 g2 g3 n1 n2 n3 ns fs rs) (hb : Below w.heap.size w w') : ArenaOwn w' base g1 g2 g3 n1 n2 n3 ns fs rs :=
  ⟨h.N.kept hb, h.F.kept hb, h.R.kept hb, h.l1, h.l3, h.b1, h.b2, h.b3⟩
theorem ArenaOwn.far (h : ArenaOwn w base g1 g2 g3 n1 n2 n3 ns fs rs) {a : Addr} (hne : a.block < g1) (v : Value) : ArenaOwn (w.setCell a v) base g1 g2 g3 n1 n2 n3 ns fs rs :=
  ⟨h.N.far hne v, h.F.far (by have := h.b2; omega) v, h.R.far (by have := h.b2; have := h.b3; omega) v, h.l1, h.l3, h.b1, h.b2, h.b3⟩
theorem ArenaOwn.arena (h : ArenaOwn w base g1 g2 g3 n1 n2 n3 ns fs rs) (s1 : n1 ≤ 1048576) (s2 : n2 ≤ 1048576) (s3 : n3 ≤ 1048576) : ArenaL w (some ⟨g1, 0, none⟩) (some ⟨g2, 0, none⟩) (some ⟨g3, 0, none⟩) n1 n2 n3 ns fs rs :=
  ⟨h.N.nodes h.l1, h.F.ints (Nat.zero_le _), h.R.rets h.l3, Nat.le_trans s1 (by decide), Nat.le_trans s2 (by decide), Nat.le_trans s3 (by decide)⟩
end

set_option maxHeartbeats 1600000 in
theorem szArena_any (d l : Int) (A1 A2 A3 : Option Addr) (n1 c1 n2 c2 n3 c3 : Nat) (ns : List NV) (fs : List Int) (rs : List RV) (w : World) (hp : ArenaL w A1 A2 A3 n1 n2 n3 ns fs rs) (h0 : 0 ≤ l) (h1 : l ≤ 1048576) :
    Calls Tryz.prog 12 #[.agg #[.int .i64 d, .slice A1 n1 c1, .slice A2 n2 c2, .slice A3 n3 c3], .int .i64 l] w fun e w' => ∃ r : Int, e = .returned (.int .i64 r) ∧ (r = -1 ∨ (0 ≤ r ∧ r ≤ l ∧ SmallA n1 n2 n3 ns rs)) ∧ Below w.heap.size w w' := by
  have HP := Lib.hid hp
  have m1 := hp.m1
  have m2 := hp.m2
  have m3 := hp.m3
  clear hp
  have B := Lib.hid (below_alloc w (.cells #[.int .i64 d, .slice A1 n1 c1, .slice A2 n2 c2, .slice A3 n3 c3] 38))
  have L_a := Lib.hid (Lies.new w 38 #[.int .i64 d, .slice A1 n1 c1, .slice A2 n2 c2, .slice A3 n3 c3])
  go_enter Tryz.func12, Tryz.ntmps12
  go_wp2_with fail
  refine (szNodeS_any l _ _ _ ns _ (HP.out.N.kept B.out) m1 h0 h1).mono ?_
  rintro e W1 ⟨r, rfl, hr, b1⟩
  replace L_a := Lib.hid (L_a.out.kept b1 L_a.out.inside)
  replace B := Lib.hid (B.out.trans (b1.mono B.out.size))
  clear b1
  rcases hr with rfl | ⟨r0, r1, hn1, hs1⟩
  · go_wp2
    go_ret
    exact ⟨-1, rfl, Or.inl rfl, B.out⟩
  have hr0 : ¬ r < 0 := by omega
  have HS := Lib.hid hs1
  clear hs1
  have a2 : W1.cell? ⟨w.heap.size, 2, none⟩ = some (.slice A2 n2 c2) := L_a.out.cell 2
  by_cases hs : r < n2
  · go_wp2_with fail
    refine (szInt64S_no _ _ _ _ _ r0 (by omega) m2 hs).mono ?_
    rintro e W2 ⟨rfl, rfl⟩
    go_wp2
    go_ret
    exact ⟨-1, rfl, Or.inl rfl, B.out⟩
  have hs2 : (n2 : Int) ≤ r := by omega
  have hk : ¬ (r - n2 < 0) := by omega
  clear hs
  go_wp2_with fail
  refine (szInt64S_yes _ _ _ _ _ r0 (by omega) m2 hs2).mono ?_
  rintro e W2 ⟨rfl, rfl⟩
  have a3 : W1.cell? ⟨w.heap.size, 3, none⟩ = some (.slice A3 n3 c3) := L_a.out.cell 3
  go_wp2_with fail
  refine (szRetiredS_any (r - n2) _ _ _ rs _ (HP.out.R.kept B.out) m3 (by omega) (by omega)).mono ?_
  rintro e W2 ⟨q, rfl, hq, b2⟩
  replace B := Lib.hid (B.out.trans (b2.mono B.out.size))
  clear b2 a2 a3 hk
  rcases hq with rfl | ⟨q0, q1, hn3, hs3⟩
  · go_wp2
    go_ret
    exact ⟨-1, rfl, Or.inl rfl, B.out⟩
  have hq0 : ¬ q < 0 := by omega
  have HA : Hid (SmallA n1 n2 n3 ns rs) := ⟨by omega, by omega, by omega, HS.out.mono h1, hs3.mono (by omega)⟩
  clear hs3 HS
  go_wp2
  go_ret
  exact ⟨q, rfl, Or.inr ⟨q0, by omega, HA.out⟩, B.out⟩

set_option maxHeartbeats 1600000 in
theorem eqArena_same (d : Int) (c4 c5 c6 : Nat) (A4 A5 A6 : Option Addr) (ns' : List NV) (rs' : List RV) (A1 A2 A3 : Option Addr) (n1 c1 n2 c2 n3 c3 : Nat) (ns : List NV) (fs : List Int) (rs : List RV) (w : World) (hp : ArenaL w A1 A2 A3 n1 n2 n3 ns fs rs) (hq : ArenaL w A4 A5 A6 n1 n2 n3 ns' fs rs') (hv : ns.map NV.val = ns'.map NV.val) (hr : rs.map RV.val = rs'.map RV.val) :
    Calls Tryz.prog 17 #[.agg #[.int .i64 d, .slice A1 n1 c1, .slice A2 n2 c2, .slice A3 n3 c3], .agg #[.int .i64 d, .slice A4 n1 c4, .slice A5 n2 c5, .slice A6 n3 c6]] w fun e w' => e = .returned (.bool true) ∧ Below w.heap.size w w' := by
  have e1 : (d != d) = false := by simp
  have HP := Lib.hid hp
  have HQ := Lib.hid hq
  have HV := Lib.hid hv
  have HR := Lib.hid hr
  have m1 := hp.m1
  have m2 := hp.m2
  have m3 := hp.m3
  clear hp hq hv hr
  have B := Lib.hid (below_alloc w (.cells #[.int .i64 d, .slice A1 n1 c1, .slice A2 n2 c2, .slice A3 n3 c3] 26))
  replace B := Lib.hid (B.out.alloc B.out.size (.cells #[.int .i64 d, .slice A4 n1 c4, .slice A5 n2 c5, .slice A6 n3 c6] 26))
  have L_a := Lib.hid ((Lies.new w 26 #[.int .i64 d, .slice A1 n1 c1, .slice A2 n2 c2, .slice A3 n3 c3]).alloc (.cells #[.int .i64 d, .slice A4 n1 c4, .slice A5 n2 c5, .slice A6 n3 c6] 26))
  have L_b := Lib.hid (Lies.new (w.alloc (.cells #[.int .i64 d, .slice A1 n1 c1, .slice A2 n2 c2, .slice A3 n3 c3] 26)) 26 #[.int .i64 d, .slice A4 n1 c4, .slice A5 n2 c5, .slice A6 n3 c6])
  simp only [World.size_alloc] at L_b
  go_enter Tryz.func17, Tryz.ntmps17
  go_wp2_with fail
  refine (eqNodeS_same _ _ _ _ _ ns ns' _ (HP.out.N.kept B.out) (HQ.out.N.kept B.out) HV.out m1).mono ?_
  rintro e W1 ⟨rfl, b1⟩
  replace L_a := Lib.hid (L_a.out.kept b1 L_a.out.inside)
  replace L_b := Lib.hid (L_b.out.kept b1 L_b.out.inside)
  replace B := Lib.hid (B.out.trans (b1.mono B.out.size))
  clear b1
  have a2 : W1.cell? ⟨w.heap.size, 2, none⟩ = some (.slice A2 n2 c2) := L_a.out.cell 2
  have a3 : W1.cell? ⟨w.heap.size + 1, 2, none⟩ = some (.slice A5 n2 c5) := L_b.out.cell 2
  go_wp2_with fail
  refine (eqInt64S_is true _ _ _ _ _ _ _ _ fs fs _ (by simp) (HP.out.F.kept B.out) (HQ.out.F.kept B.out) m2).mono ?_
  rintro e W2 ⟨rfl, q, rfl⟩
  replace B := Lib.hid (below_draws B.out q)
  replace L_a := Lib.hid (L_a.out.draws q)
  replace L_b := Lib.hid (L_b.out.draws q)
  clear a2 a3
  have a2 : (W1.drewN q).cell? ⟨w.heap.size, 3, none⟩ = some (.slice A3 n3 c3) := L_a.out.cell 3
  have a3 : (W1.drewN q).cell? ⟨w.heap.size + 1, 3, none⟩ = some (.slice A6 n3 c6) := L_b.out.cell 3
  generalize hW : W1.drewN q = W2 at *
  clear hW
  go_wp2_with fail
  refine (eqRetiredS_same _ _ _ _ _ rs rs' _ (HP.out.R.kept B.out) (HQ.out.R.kept B.out) HR.out m3).mono ?_
  rintro e W3 ⟨rfl, b3⟩
  replace B := Lib.hid (B.out.trans (b3.mono B.out.size))
  clear b3 a2 a3
  go_wp2
  go_ret
  exact ⟨rfl, B.out⟩

set_option maxHeartbeats 3200000 in
theorem toArena_any (d : Int) (A1 A2 A3 : Option Addr) (n1 c1 n2 c2 n3 c3 : Nat) (ns : List NV) (fs : List Int) (rs : List RV) (w : World) (hp : ArenaL w A1 A2 A3 n1 n2 n3 ns fs rs) (hs : SmallA n1 n2 n3 ns rs) :
    Calls Tryz.prog 14 #[.agg #[.int .i64 d, .slice A1 n1 c1, .slice A2 n2 c2, .slice A3 n3 c3]] w fun e w' => ∃ g1 g2 g3 ns' rs', e = .returned (.agg #[.int .i64 d, .slice (some ⟨g1, 0, none⟩) n1 n1, .slice (some ⟨g2, 0, none⟩) n2 n2, .slice (some ⟨g3, 0, none⟩) n3 n3]) ∧ ArenaOwn w' w.heap.size g1 g2 g3 n1 n2 n3 ns' fs rs' ∧ ns'.map NV.val = ns.map NV.val ∧ rs'.map RV.val = rs.map RV.val ∧ Below w.heap.size w w' := by
  have HP := Lib.hid hp
  have HS := Lib.hid hs
  clear hp hs
  have B := Lib.hid (below_alloc w (.cells #[.int .i64 d, .slice A1 n1 c1, .slice A2 n2 c2, .slice A3 n3 c3] 38))
  replace B := Lib.hid (B.out.alloc B.out.size (.cells #[.int .i64 0, .slice none 0 0, .slice none 0 0, .slice none 0 0] 26))
  replace B := Lib.hid (B.out.alloc B.out.size (.cells #[.int .i64 d, .slice none 0 0, .slice none 0 0, .slice none 0 0] 26))
  have L_a := Lib.hid (((Lies.new w 38 #[.int .i64 d, .slice A1 n1 c1, .slice A2 n2 c2, .slice A3 n3 c3]).alloc (.cells #[.int .i64 0, .slice none 0 0, .slice none 0 0, .slice none 0 0] 26)).alloc (.cells #[.int .i64 d, .slice none 0 0, .slice none 0 0, .slice none 0 0] 26))
  have L_r := Lib.hid ((Lies.new (w.alloc (.cells #[.int .i64 d, .slice A1 n1 c1, .slice A2 n2 c2, .slice A3 n3 c3] 38)) 26 #[.int .i64 0, .slice none 0 0, .slice none 0 0, .slice none 0 0]).alloc (.cells #[.int .i64 d, .slice none 0 0, .slice none 0 0, .slice none 0 0] 26))
  have L_o := Lib.hid (Lies.new ((w.alloc (.cells #[.int .i64 d, .slice A1 n1 c1, .slice A2 n2 c2, .slice A3 n3 c3] 38)).alloc (.cells #[.int .i64 0, .slice none 0 0, .slice none 0 0, .slice none 0 0] 26)) 26 #[.int .i64 d, .slice none 0 0, .slice none 0 0, .slice none 0 0])
  simp only [World.size_alloc] at L_r L_o
  go_enter Tryz.func14, Tryz.ntmps14
  go_wp2_with fail
  refine (toNodeS_any _ _ _ ns _ (HP.out.N.kept B.out) HS.out.s1 HS.out.N).mono ?_
  rintro e W1 ⟨g1, ns', rfl, hg1, o1, l1, v1, b1⟩
  simp only [World.size_alloc] at hg1
  replace L_a := Lib.hid (L_a.out.kept b1 L_a.out.inside)
  replace L_r := Lib.hid (L_r.out.kept b1 L_r.out.inside)
  replace L_o := Lib.hid (L_o.out.kept b1 L_o.out.inside)
  replace B := Lib.hid (B.out.trans (b1.mono B.out.size))
  have O_1 := Lib.hid o1
  have V_1 := Lib.hid v1
  clear b1 o1 v1
  have c_a2 : W1.cell? ⟨w.heap.size, 2, none⟩ = some (.slice A2 n2 c2) := L_a.out.cell 2
  have c_o0 : W1.cell? ⟨w.heap.size + 1 + 1, 0, none⟩ = some (.int .i64 d) := L_o.out.cell 0
  have f_o0 : W1.frozen? ⟨w.heap.size + 1 + 1, 0, none⟩ = false := L_o.out.thawed 0
  have c_o1 : W1.cell? ⟨w.heap.size + 1 + 1, 1, none⟩ = some (.slice none 0 0) := L_o.out.cell 1
  have f_o1 : W1.frozen? ⟨w.heap.size + 1 + 1, 1, none⟩ = false := L_o.out.thawed 1
  go_wp2_with fail
  clear c_a2 c_o0 f_o0 c_o1 f_o1
  replace L_a := Lib.hid (L_a.out.far (a := ⟨w.heap.size + 1 + 1, 1, none⟩) (by show w.heap.size ≠ w.heap.size + 1 + 1; omega) (.slice (some ⟨g1, 0, none⟩) n1 n1))
  replace L_r := Lib.hid (L_r.out.far (a := ⟨w.heap.size + 1 + 1, 1, none⟩) (by show w.heap.size + 1 ≠ w.heap.size + 1 + 1; omega) (.slice (some ⟨g1, 0, none⟩) n1 n1))
  replace L_o : Hid (Lies (W1.setCell ⟨w.heap.size + 1 + 1, 1, none⟩ (.slice (some ⟨g1, 0, none⟩) n1 n1)) (w.heap.size + 1 + 1) 26 #[.int .i64 d, .slice (some ⟨g1, 0, none⟩) n1 n1, .slice none 0 0, .slice none 0 0]) := Lib.hid (L_o.out.set 1 (.slice (some ⟨g1, 0, none⟩) n1 n1))
  have j_1 := O_1.out.inside
  replace O_1 := Lib.hid (O_1.out.far (a := ⟨w.heap.size + 1 + 1, 1, none⟩) (by show w.heap.size + 1 + 1 < g1; omega) (.slice (some ⟨g1, 0, none⟩) n1 n1))
  replace B := Lib.hid (B.out.setCell (p := ⟨w.heap.size + 1 + 1, 1, none⟩) (by show w.heap.size ≤ w.heap.size + 1 + 1; omega) (.slice (some ⟨g1, 0, none⟩) n1 n1))
  have z_W2 : (W1.setCell ⟨w.heap.size + 1 + 1, 1, none⟩ (.slice (some ⟨g1, 0, none⟩) n1 n1)).heap.size = W1.heap.size := size_of_setCell _ _ _
  generalize hW : W1.setCell ⟨w.heap.size + 1 + 1, 1, none⟩ (.slice (some ⟨g1, 0, none⟩) n1 n1) = W2 at *
  clear hW
  refine (toInt64S_new _ _ _ _ fs _ (HP.out.F.kept B.out) HS.out.s2).mono ?_
  rintro e W3 ⟨g2, rfl, hg2, o2, b3⟩
  have hg12 : g1 < g2 := by omega
  have zb3 := b3.size
  replace L_a := Lib.hid (L_a.out.kept b3 L_a.out.inside)
  replace L_r := Lib.hid (L_r.out.kept b3 L_r.out.inside)
  replace L_o := Lib.hid (L_o.out.kept b3 L_o.out.inside)
  replace O_1 := Lib.hid (O_1.out.kept b3)
  replace B := Lib.hid (B.out.trans (b3.mono B.out.size))
  have O_2 := Lib.hid o2
  clear b3 o2
  have c_a3 : W3.cell? ⟨w.heap.size, 3, none⟩ = some (.slice A3 n3 c3) := L_a.out.cell 3
  have c_o0 : W3.cell? ⟨w.heap.size + 1 + 1, 0, none⟩ = some (.int .i64 d) := L_o.out.cell 0
  have f_o0 : W3.frozen? ⟨w.heap.size + 1 + 1, 0, none⟩ = false := L_o.out.thawed 0
  have c_o1 : W3.cell? ⟨w.heap.size + 1 + 1, 1, none⟩ = some (.slice (some ⟨g1, 0, none⟩) n1 n1) := L_o.out.cell 1
  have f_o1 : W3.frozen? ⟨w.heap.size + 1 + 1, 1, none⟩ = false := L_o.out.thawed 1
  have c_o2 : W3.cell? ⟨w.heap.size + 1 + 1, 2, none⟩ = some (.slice none 0 0) := L_o.out.cell 2
  have f_o2 : W3.frozen? ⟨w.heap.size + 1 + 1, 2, none⟩ = false := L_o.out.thawed 2
  go_wp2_with fail
  clear c_a3 c_o0 f_o0 c_o1 f_o1 c_o2 f_o2
  replace L_a := Lib.hid (L_a.out.far (a := ⟨w.heap.size + 1 + 1, 2, none⟩) (by show w.heap.size ≠ w.heap.size + 1 + 1; omega) (.slice (some ⟨g2, 0, none⟩) n2 n2))
  replace L_r := Lib.hid (L_r.out.far (a := ⟨w.heap.size + 1 + 1, 2, none⟩) (by show w.heap.size + 1 ≠ w.heap.size + 1 + 1; omega) (.slice (some ⟨g2, 0, none⟩) n2 n2))
  replace L_o : Hid (Lies (W3.setCell ⟨w.heap.size + 1 + 1, 2, none⟩ (.slice (some ⟨g2, 0, none⟩) n2 n2)) (w.heap.size + 1 + 1) 26 #[.int .i64 d, .slice (some ⟨g1, 0, none⟩) n1 n1, .slice (some ⟨g2, 0, none⟩) n2 n2, .slice none 0 0]) := Lib.hid (L_o.out.set 2 (.slice (some ⟨g2, 0, none⟩) n2 n2))
  have j_1 := O_1.out.inside
  replace O_1 := Lib.hid (O_1.out.far (a := ⟨w.heap.size + 1 + 1, 2, none⟩) (by show w.heap.size + 1 + 1 < g1; omega) (.slice (some ⟨g2, 0, none⟩) n2 n2))
  have j_2 := O_2.out.inside
  replace O_2 := Lib.hid (O_2.out.far (a := ⟨w.heap.size + 1 + 1, 2, none⟩) (by show g2 ≠ w.heap.size + 1 + 1; omega) (.slice (some ⟨g2, 0, none⟩) n2 n2))
  replace B := Lib.hid (B.out.setCell (p := ⟨w.heap.size + 1 + 1, 2, none⟩) (by show w.heap.size ≤ w.heap.size + 1 + 1; omega) (.slice (some ⟨g2, 0, none⟩) n2 n2))
  have z_W4 : (W3.setCell ⟨w.heap.size + 1 + 1, 2, none⟩ (.slice (some ⟨g2, 0, none⟩) n2 n2)).heap.size = W3.heap.size := size_of_setCell _ _ _
  generalize hW : W3.setCell ⟨w.heap.size + 1 + 1, 2, none⟩ (.slice (some ⟨g2, 0, none⟩) n2 n2) = W4 at *
  clear hW
  refine (toRetiredS_any _ _ _ rs _ (HP.out.R.kept B.out) HS.out.s3 HS.out.R).mono ?_
  rintro e W5 ⟨g3, rs', rfl, hg3, o3, l3, v3, b5⟩
  have hg23 : g2 < g3 := by omega
  replace L_r := Lib.hid (L_r.out.kept b5 L_r.out.inside)
  replace L_o := Lib.hid (L_o.out.kept b5 L_o.out.inside)
  replace O_1 := Lib.hid (O_1.out.kept b5)
  replace O_2 := Lib.hid (O_2.out.kept b5)
  replace B := Lib.hid (B.out.trans (b5.mono B.out.size))
  have AO : Hid (ArenaOwn W5 w.heap.size g1 g2 g3 n1 n2 n3 ns' fs rs') := ⟨O_1.out, O_2.out, o3, l1, l3, by omega, hg12, hg23⟩
  have V_3 := Lib.hid v3
  clear b5 o3 O_1 O_2 L_a l1 l3 v3 hg2 hg3 hg12 hg23 z_W2 z_W4 j_1 j_2 zb3
  have c_o0 : W5.cell? ⟨w.heap.size + 1 + 1, 0, none⟩ = some (.int .i64 d) := L_o.out.cell 0
  have f_o0 : W5.frozen? ⟨w.heap.size + 1 + 1, 0, none⟩ = false := L_o.out.thawed 0
  have c_o1 : W5.cell? ⟨w.heap.size + 1 + 1, 1, none⟩ = some (.slice (some ⟨g1, 0, none⟩) n1 n1) := L_o.out.cell 1
  have f_o1 : W5.frozen? ⟨w.heap.size + 1 + 1, 1, none⟩ = false := L_o.out.thawed 1
  have c_o2 : W5.cell? ⟨w.heap.size + 1 + 1, 2, none⟩ = some (.slice (some ⟨g2, 0, none⟩) n2 n2) := L_o.out.cell 2
  have f_o2 : W5.frozen? ⟨w.heap.size + 1 + 1, 2, none⟩ = false := L_o.out.thawed 2
  have c_o3 : W5.cell? ⟨w.heap.size + 1 + 1, 3, none⟩ = some (.slice none 0 0) := L_o.out.cell 3
  have f_o3 : W5.frozen? ⟨w.heap.size + 1 + 1, 3, none⟩ = false := L_o.out.thawed 3
  have c_r0 : W5.cell? ⟨w.heap.size + 1, 0, none⟩ = some (.int .i64 0) := L_r.out.cell 0
  have f_r0 : W5.frozen? ⟨w.heap.size + 1, 0, none⟩ = false := L_r.out.thawed 0
  have c_r1 : W5.cell? ⟨w.heap.size + 1, 1, none⟩ = some (.slice none 0 0) := L_r.out.cell 1
  have f_r1 : W5.frozen? ⟨w.heap.size + 1, 1, none⟩ = false := L_r.out.thawed 1
  have c_r2 : W5.cell? ⟨w.heap.size + 1, 2, none⟩ = some (.slice none 0 0) := L_r.out.cell 2
  have f_r2 : W5.frozen? ⟨w.heap.size + 1, 2, none⟩ = false := L_r.out.thawed 2
  have c_r3 : W5.cell? ⟨w.heap.size + 1, 3, none⟩ = some (.slice none 0 0) := L_r.out.cell 3
  have f_r3 : W5.frozen? ⟨w.heap.size + 1, 3, none⟩ = false := L_r.out.thawed 3
  go_wp2
  refine bodyPost_ret (v := .agg #[.int .i64 d, .slice (some ⟨g1, 0, none⟩) n1 n1, .slice (some ⟨g2, 0, none⟩) n2 n2, .slice (some ⟨g3, 0, none⟩) n3 n3]) (by simp [results, Tryz.results14, go_sem, c_r0, c_r1, c_r2, c_r3]) rfl ⟨g1, g2, g3, ns', rs', rfl, ?_, V_1.out, V_3.out, ?_⟩
  · with_reducible (repeat (first | exact AO.out | refine ArenaOwn.far ?_ ?_ _))
    all_goals (first | (show w.heap.size + 1 + 1 < g1; omega) | (show w.heap.size + 1 < g1; omega))
  · with_reducible (repeat (first | exact B.out | refine Below.setCell ?_ ?_ _))
    all_goals (first | (show w.heap.size ≤ w.heap.size + 1 + 1; omega) | (show w.heap.size ≤ w.heap.size + 1; omega))

end Go.Proofs.YtpgoildfjkokiaaGreat
