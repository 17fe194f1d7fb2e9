/- Lists of nodes: what they are in memory, and the laws' helpers szNodeS, toNodeS, eqNodeS. -/
import Derived.Test.YtpgoildfjkokiaaGreatNodeRes
namespace Go.Proofs.YtpgoildfjkokiaaGreat
open Go.RowKit

/-- One node as it lies. -/
structure NV where
  lv : Int
  ns : Int
  rt : Int
  A1 : Option Addr
  n1 : Nat
  c1 : Nat
  es : List EV
/-- What a node says. -/
abbrev NVal := Int × Int × Int × List EVal
def NV.val (p : NV) : NVal := (p.lv, p.ns, p.rt, p.es.map EV.val)
def NodeOk (w : World) (p : NV) : Prop := Entries w p.A1 p.n1 p.es ∧ p.n1 ≤ maxLen
theorem NodeOk.kept {w w' : World} {p : NV} (h : NodeOk w p) (hb : Below w.heap.size w w') : NodeOk w' p := ⟨h.1.kept hb, h.2⟩

/-- The slice value '.slice A n c' reads as the nodes ps. -/
def NodesL (w : World) (A : Option Addr) (n : Nat) (ps : List NV) : Prop :=
  ps.length = n ∧ (0 < n → ∃ b o, A = some ⟨b, o, none⟩ ∧ b < w.heap.size ∧ ∀ k p, ps[k]? = some p →
    w.cell? ⟨b, o + k * 4, none⟩ = some (.int .i64 p.lv) ∧ w.cell? ⟨b, o + k * 4 + 1, none⟩ = some (.int .i64 p.ns) ∧ w.cell? ⟨b, o + k * 4 + 2, none⟩ = some (.int .i64 p.rt) ∧ w.cell? ⟨b, o + k * 4 + 3, none⟩ = some (.slice p.A1 p.n1 p.c1)) ∧ ∀ p ∈ ps, NodeOk w p
theorem NodesL.kept {w w' : World} {n : Nat} {A : Option Addr} {ps : List NV} (h : NodesL w A n ps) (hb : Below w.heap.size w w') : NodesL w' A n ps := by
  obtain ⟨hl, hr, hp⟩ := h
  refine ⟨hl, fun hn => ?_, fun p hm => (hp p hm).kept hb⟩
  obtain ⟨b, o, e, h2, h3⟩ := hr hn
  refine ⟨b, o, e, Nat.lt_of_lt_of_le h2 hb.size, fun k x hx => ?_⟩
  obtain ⟨c0, c1, c2, c3⟩ := h3 k x hx
  exact ⟨(hb.cell (p := ⟨b, o + k * 4, none⟩) h2).trans c0, (hb.cell (p := ⟨b, o + k * 4 + 1, none⟩) h2).trans c1, (hb.cell (p := ⟨b, o + k * 4 + 2, none⟩) h2).trans c2, (hb.cell (p := ⟨b, o + k * 4 + 3, none⟩) h2).trans c3⟩
/-- The cells of the k-th node. -/
theorem NodesL.cellAt {w : World} {n k : Nat} {A : Option Addr} {ps : List NV} (h : NodesL w A n ps) (hk : k < n) :
    ∃ b o lv ns rt A1 n1 c1 es, A = some ⟨b, o, none⟩ ∧ b < w.heap.size ∧ w.cell? ⟨b, o + k * 4, none⟩ = some (.int .i64 lv) ∧ w.cell? ⟨b, o + k * 4 + 1, none⟩ = some (.int .i64 ns) ∧ w.cell? ⟨b, o + k * 4 + 2, none⟩ = some (.int .i64 rt) ∧ w.cell? ⟨b, o + k * 4 + 3, none⟩ = some (.slice A1 n1 c1) ∧
      Hid (ps[k]? = some ⟨lv, ns, rt, A1, n1, c1, es⟩) ∧ Hid (Entries w A1 n1 es) ∧ n1 ≤ maxLen := by
  obtain ⟨hl, hr, hp⟩ := h
  obtain ⟨b, o, e, h2, h3⟩ := hr (by omega)
  have hx : ps[k]? = some (ps[k]'(by omega)) := List.getElem?_eq_getElem (by omega)
  have hq := hp _ (List.mem_of_getElem? hx)
  obtain ⟨c0, c1, c2, c3⟩ := h3 k _ hx
  exact ⟨b, o, _, _, _, _, _, _, _, e, h2, c0, c1, c2, c3, hx, hq.1, hq.2⟩

/-- Each node of the list is small. -/
def SmallN (l : Int) (ps : List NV) : Prop := ∀ (k : Nat) (p : NV), ps[k]? = some p → (p.n1 : Int) ≤ l ∧ SmallE l p.es
theorem SmallE.mono {l l' : Int} {ps : List EV} (h : SmallE l ps) (hl : l ≤ l') : SmallE l' ps := fun k p hk => Int.le_trans (h k p hk) hl

set_option maxHeartbeats 1600000 in
theorem szNodeS_any (l : Int) (n c : Nat) (A : Option Addr) (ps : List NV) (w : World) (hp : NodesL w A n ps) (hn : n ≤ maxLen) (h0 : 0 ≤ l) (h1 : l ≤ 1048576) :
    Calls Tryz.prog 41 #[.slice A n c, .int .i64 l] w fun e w' => ∃ r : Int, e = .returned (.int .i64 r) ∧ (r = -1 ∨ (0 ≤ r ∧ r ≤ l ∧ (n : Int) ≤ l ∧ SmallN l ps)) ∧ Below w.heap.size w w' := by
  have HP := Lib.hid hp
  clear hp
  by_cases hs : l < n
  · unfold maxLen at hn
    go_enter Tryz.func41, Tryz.ntmps41
    go_wp2
    go_ret
    exact ⟨-1, rfl, Or.inl rfl, Below.refl _ _⟩
  have hk : ¬ (l - n < 0) := by omega
  unfold maxLen at hn
  go_enter Tryz.func41, Tryz.ntmps41
  go_wp2
  go_loopw [1, 5] (fun lv i wr => ∃ (k : Nat) (m : Int), k ≤ n ∧ i = .int .i64 k ∧ lv = .int .i64 m ∧ 0 ≤ m ∧ m ≤ l ∧ Hid (Below w.heap.size w wr) ∧ Hid (∀ (j : Nat) (p : NV), j < k → ps[j]? = some p → (p.n1 : Int) ≤ l ∧ SmallE l p.es)) (fun _ i _ => n - (intOf i).toNat)
  case atStart => exact ⟨0, _, Nat.zero_le _, rfl, rfl, by omega, by omega, Below.refl _ _, fun j p hj => absurd hj (Nat.not_lt_zero _)⟩
  case round =>
    obtain ⟨k, m, hk', rfl, rfl, hm0, hm1, hB, hA⟩ := hrel
    by_cases hlt : k < n
    · obtain ⟨b, o, lv, ns, rt, A1, n1, c1, es, rfl, hb, d0, d1, d2, d3, hx, i1, m1⟩ := HP.out.cellAt hlt
      have e0 : wr.cell? ⟨b, o + k * 4, none⟩ = some (.int .i64 lv) := (hB.out.cell (p := ⟨b, o + k * 4, none⟩) hb).trans d0
      have e1 : wr.cell? ⟨b, o + k * 4 + 1, none⟩ = some (.int .i64 ns) := (hB.out.cell (p := ⟨b, o + k * 4 + 1, none⟩) hb).trans d1
      have e2 : wr.cell? ⟨b, o + k * 4 + 2, none⟩ = some (.int .i64 rt) := (hB.out.cell (p := ⟨b, o + k * 4 + 2, none⟩) hb).trans d2
      have e3 : wr.cell? ⟨b, o + k * 4 + 3, none⟩ = some (.slice A1 n1 c1) := (hB.out.cell (p := ⟨b, o + k * 4 + 3, none⟩) hb).trans d3
      clear d0 d1 d2 d3
      go_wp2_with fail
      refine (szNode_any _ _ _ m _ _ _ es _ (i1.out.kept hB.out) m1 hm0 (by omega)).mono ?_
      rintro e W1 ⟨r, rfl, hr, b1⟩
      have hB' := Lib.hid (hB.out.trans (b1.mono hB.out.size))
      clear hB b1 e0 e1 e2 e3
      rcases hr with rfl | ⟨r0, r1, r2, hs⟩
      · go_wp2
        go_ret
        exact ⟨-1, rfl, Or.inl rfl, hB'.out⟩
      · have hr0 : ¬ r < 0 := by omega
        have hA' : Hid (∀ (j : Nat) (p : NV), j < k + 1 → ps[j]? = some p → (p.n1 : Int) ≤ l ∧ SmallE l p.es) := by
          intro j p hj hp
          rcases Nat.lt_succ_iff_lt_or_eq.1 hj with h | h
          · exact hA.out j p h hp
          · subst h; rw [hx.out] at hp; injection hp with hp; subst hp; exact ⟨by show (n1 : Int) ≤ l; omega, hs.mono hm1⟩
        clear hA hx hs
        go_wp2
        go_roundw
        case rel => exact ⟨k + 1, r, by omega, by go_num, rfl, by omega, by omega, hB', hA'⟩
        case measure => simp [intOf]; omega
    · have HA : Hid (SmallN l ps) := fun j p hp => hA.out j p (by have h1 := (List.getElem?_eq_some_iff.1 hp).1; have h2 := HP.out.1; omega) hp
      clear hA
      go_wp2
      go_ret
      exact ⟨_, rfl, Or.inr ⟨hm0, hm1, by omega, HA.out⟩, hB.out⟩

theorem nval_at {ps qs : List NV} {k : Nat} {p q : NV} (h : ps.map NV.val = qs.map NV.val) (hp : ps[k]? = some p) (hq : qs[k]? = some q) : p.val = q.val := by
  have h1 : (ps.map NV.val)[k]? = some p.val := by simp [hp]
  have h2 : (qs.map NV.val)[k]? = some q.val := by simp [hq]
  rw [h, h2] at h1
  injection h1 with h1; exact h1.symm

set_option maxHeartbeats 3200000 in
theorem eqNodeS_same (n c c' : Nat) (A A' : Option Addr) (ps qs : List NV) (w : World) (hp : NodesL w A n ps) (hq : NodesL w A' n qs) (hv : ps.map NV.val = qs.map NV.val) (hn : n ≤ maxLen) :
    Calls Tryz.prog 52 #[.slice A n c, .slice A' n c'] w fun e w' => e = .returned (.bool true) ∧ Below w.heap.size w w' := by
  have HP := Lib.hid hp
  have HQ := Lib.hid hq
  have HV := Lib.hid hv
  clear hp hq hv
  unfold maxLen at hn
  have hne : ((n : Int) != n) = false := by simp
  go_enter Tryz.func52, Tryz.ntmps52
  go_wp2
  go_loopw [5] (fun i wr => ∃ k : Nat, k ≤ n ∧ i = .int .i64 k ∧ Hid (Below w.heap.size w wr)) (fun i _ => n - (intOf i).toNat)
  case atStart => exact ⟨0, Nat.zero_le _, rfl, Below.refl _ _⟩
  case round =>
    obtain ⟨k, hk', rfl, hB⟩ := hrel
    by_cases hlt : k < n
    · obtain ⟨b, o, lv, ns, rt, A1, n1, c1, es, rfl, hb, d0, d1, d2, d3, hx, i1, m1⟩ := HP.out.cellAt hlt
      obtain ⟨b', o', lv', ns', rt', A3, n3, c3, es', rfl, hb', d4, d5, d6, d7, hy, i3, m3⟩ := HQ.out.cellAt hlt
      have hvv := nval_at HV.out hx.out hy.out
      simp only [NV.val, Prod.mk.injEq] at hvv
      obtain ⟨rfl, rfl, rfl, hes⟩ := hvv
      have l1 : n1 = n3 := by
        have h1 := congrArg List.length hes
        simp only [List.length_map] at h1
        exact i1.out.1.symm.trans (h1.trans i3.out.1)
      have HES := Lib.hid hes
      clear hes
      subst l1
      have kb := Nat.lt_of_lt_of_le hb hB.out.size
      have kb' := Nat.lt_of_lt_of_le hb' hB.out.size
      have k_0 : wr.cell? ⟨b, o + k * 4, none⟩ = some (.int .i64 lv) ∧ wr.cell? ⟨b, o + k * 4 + 1, none⟩ = some (.int .i64 ns) ∧ wr.cell? ⟨b, o + k * 4 + 2, none⟩ = some (.int .i64 rt) ∧ wr.cell? ⟨b, o + k * 4 + 3, none⟩ = some (.slice A1 n1 c1) ∧ wr.cell? ⟨b', o' + k * 4, none⟩ = some (.int .i64 lv) ∧ wr.cell? ⟨b', o' + k * 4 + 1, none⟩ = some (.int .i64 ns) ∧ wr.cell? ⟨b', o' + k * 4 + 2, none⟩ = some (.int .i64 rt) ∧ wr.cell? ⟨b', o' + k * 4 + 3, none⟩ = some (.slice A3 n1 c3) :=
        ⟨(hB.out.cell (p := ⟨b, o + k * 4, none⟩) hb).trans d0, (hB.out.cell (p := ⟨b, o + k * 4 + 1, none⟩) hb).trans d1, (hB.out.cell (p := ⟨b, o + k * 4 + 2, none⟩) hb).trans d2, (hB.out.cell (p := ⟨b, o + k * 4 + 3, none⟩) hb).trans d3, (hB.out.cell (p := ⟨b', o' + k * 4, none⟩) hb').trans d4, (hB.out.cell (p := ⟨b', o' + k * 4 + 1, none⟩) hb').trans d5, (hB.out.cell (p := ⟨b', o' + k * 4 + 2, none⟩) hb').trans d6, (hB.out.cell (p := ⟨b', o' + k * 4 + 3, none⟩) hb').trans d7⟩
      clear d0 d1 d2 d3 d4 d5 d6 d7 hx hy
      go_wp2_with fail
      go_region_held3 (fun w' => w'.cell? ⟨b, o + k * 4, none⟩ = some (.int .i64 lv) ∧ w'.cell? ⟨b, o + k * 4 + 1, none⟩ = some (.int .i64 ns) ∧ w'.cell? ⟨b, o + k * 4 + 2, none⟩ = some (.int .i64 rt) ∧ w'.cell? ⟨b, o + k * 4 + 3, none⟩ = some (.slice A1 n1 c1) ∧ w'.cell? ⟨b', o' + k * 4, none⟩ = some (.int .i64 lv) ∧ w'.cell? ⟨b', o' + k * 4 + 1, none⟩ = some (.int .i64 ns) ∧ w'.cell? ⟨b', o' + k * 4 + 2, none⟩ = some (.int .i64 rt) ∧ w'.cell? ⟨b', o' + k * 4 + 3, none⟩ = some (.slice A3 n1 c3))
        (first | (simp [go_sem, k_0]; done) | with_reducible exact k_1)
        (first
          | (go_at_call 51; refine (eqNode_same _ _ _ _ _ _ _ _ es es' _ (i1.out.kept hB.out.drew) (i3.out.kept hB.out.drew) HES.out m1).mono ?_
             rintro e W1 ⟨rfl, b1d⟩
             have b1 := below_drawn b1d
             have k_1 : W1.cell? ⟨b, o + k * 4, none⟩ = some (.int .i64 lv) ∧ W1.cell? ⟨b, o + k * 4 + 1, none⟩ = some (.int .i64 ns) ∧ W1.cell? ⟨b, o + k * 4 + 2, none⟩ = some (.int .i64 rt) ∧ W1.cell? ⟨b, o + k * 4 + 3, none⟩ = some (.slice A1 n1 c1) ∧ W1.cell? ⟨b', o' + k * 4, none⟩ = some (.int .i64 lv) ∧ W1.cell? ⟨b', o' + k * 4 + 1, none⟩ = some (.int .i64 ns) ∧ W1.cell? ⟨b', o' + k * 4 + 2, none⟩ = some (.int .i64 rt) ∧ W1.cell? ⟨b', o' + k * 4 + 3, none⟩ = some (.slice A3 n1 c3) :=
               ⟨(b1.cell (p := ⟨b, o + k * 4, none⟩) kb).trans k_0.1, (b1.cell (p := ⟨b, o + k * 4 + 1, none⟩) kb).trans k_0.2.1, (b1.cell (p := ⟨b, o + k * 4 + 2, none⟩) kb).trans k_0.2.2.1, (b1.cell (p := ⟨b, o + k * 4 + 3, none⟩) kb).trans k_0.2.2.2.1, (b1.cell (p := ⟨b', o' + k * 4, none⟩) kb').trans k_0.2.2.2.2.1, (b1.cell (p := ⟨b', o' + k * 4 + 1, none⟩) kb').trans k_0.2.2.2.2.2.1, (b1.cell (p := ⟨b', o' + k * 4 + 2, none⟩) kb').trans k_0.2.2.2.2.2.2.1, (b1.cell (p := ⟨b', o' + k * 4 + 3, none⟩) kb').trans k_0.2.2.2.2.2.2.2⟩
             clear b1d))
      clear k_0 k_1
      have hB' := Lib.hid (hB.out.trans (b1.mono hB.out.size))
      clear hB b1
      go_wp2
      go_roundw
      case rel => exact ⟨k + 1, by omega, by go_num, hB'⟩
      case measure => simp [intOf]; omega
    · go_wp2
      go_ret
      exact ⟨rfl, hB.out⟩

/-- Block g is a row of the call's own that holds the nodes qs ahead, each with entries of its own. -/
def NodesOwn (w : World) (g n : Nat) (qs : List NV) : Prop :=
  (∃ f, w.rowIs g 42 (n * 4) f ∧ ∀ (j : Nat) (q : NV), qs[j]? = some q → f (j * 4) = .int .i64 q.lv ∧ f (j * 4 + 1) = .int .i64 q.ns ∧ f (j * 4 + 2) = .int .i64 q.rt ∧ f (j * 4 + 3) = .slice q.A1 q.n1 q.c1) ∧ qs.length ≤ n ∧
  ∀ q ∈ qs, q.n1 ≤ 1048576 ∧ q.c1 = q.n1 ∧ q.es.length = q.n1 ∧ ∃ g1, q.A1 = some ⟨g1, 0, none⟩ ∧ g < g1 ∧ EntriesOwn w g1 q.n1 q.es
theorem NodesOwn.inside {w : World} {g n : Nat} {qs : List NV} (h : NodesOwn w g n qs) : g < w.heap.size := by obtain ⟨⟨f, h1, _⟩, _⟩ := h; exact h1.lt
theorem NodesOwn.kept {w w' : World} {g n : Nat} {qs : List NV} (h : NodesOwn w g n qs) (hb : Below w.heap.size w w') : NodesOwn w' g n qs := by
  obtain ⟨⟨f, h1, h2⟩, hl, h3⟩ := h
  refine ⟨⟨f, h1.of_block (hb.block g h1.lt), h2⟩, hl, fun q hq => ?_⟩
  obtain ⟨k1, k2, k3, g1, k5, k7, k9⟩ := h3 q hq
  exact ⟨k1, k2, k3, g1, k5, k7, k9.kept hb⟩
theorem NodesOwn.nodes {w : World} {g n : Nat} {qs : List NV} (h : NodesOwn w g n qs) (hl : qs.length = n) : NodesL w (some ⟨g, 0, none⟩) n qs := by
  obtain ⟨⟨f, h1, h2⟩, _, h3⟩ := h
  refine ⟨hl, fun _ => ⟨g, 0, rfl, h1.lt, fun k p hk => ?_⟩, fun q hq => ?_⟩
  · have hkn : k < n := by have := (List.getElem?_eq_some_iff.1 hk).1; omega
    obtain ⟨a0, a1, a2, a3⟩ := h2 k p hk
    rw [Nat.zero_add, h1.cell (i := k * 4) (by omega), h1.cell (i := k * 4 + 1) (by omega), h1.cell (i := k * 4 + 2) (by omega), h1.cell (i := k * 4 + 3) (by omega), a0, a1, a2, a3]
    exact ⟨rfl, rfl, rfl, rfl⟩
  · obtain ⟨k1, k2, k3, g1, k5, k7, k9⟩ := h3 q hq
    exact ⟨by rw [k5]; exact k9.entries k3, Nat.le_trans k1 (by decide)⟩
theorem NodesOwn.put {w : World} {g n k : Nat} {qs : List NV} (h : NodesOwn w g n qs) (hl : qs.length = k) (hk : k < n) {lv ns rt : Int} {g1 n1 : Nat} {es : List EV} (l1 : g < g1) (o1 : EntriesOwn w g1 n1 es) (le : es.length = n1) (m1 : n1 ≤ 1048576) :
    NodesOwn ((((w.setCell ⟨g, k * 4, none⟩ (.int .i64 lv)).setCell ⟨g, k * 4 + 1, none⟩ (.int .i64 ns)).setCell ⟨g, k * 4 + 2, none⟩ (.int .i64 rt)).setCell ⟨g, k * 4 + 3, none⟩ (.slice (some ⟨g1, 0, none⟩) n1 n1)) g n (qs ++ [⟨lv, ns, rt, some ⟨g1, 0, none⟩, n1, n1, es⟩]) := by
  obtain ⟨⟨f, h1, h2⟩, hln, h3⟩ := h
  have far : ∀ {gg m : Nat} {xs : List EV}, g < gg → EntriesOwn w gg m xs → EntriesOwn ((((w.setCell ⟨g, k * 4, none⟩ (.int .i64 lv)).setCell ⟨g, k * 4 + 1, none⟩ (.int .i64 ns)).setCell ⟨g, k * 4 + 2, none⟩ (.int .i64 rt)).setCell ⟨g, k * 4 + 3, none⟩ (.slice (some ⟨g1, 0, none⟩) n1 n1)) gg m xs :=
    fun hh ho => (((ho.far hh _).far hh _).far hh _).far hh _
  refine ⟨⟨_, (((h1.set (k * 4) _).set (k * 4 + 1) _).set (k * 4 + 2) _).set (k * 4 + 3) _, fun j q hq => ?_⟩, by simp; omega, fun q hq => ?_⟩
  · rcases Nat.lt_or_ge j k with hj | hj
    · rw [List.getElem?_append_left (by omega)] at hq
      obtain ⟨a0, a1, a2, a3⟩ := h2 j q hq
      refine ⟨?_, ?_, ?_, ?_⟩
      · rw [if_neg (by omega), if_neg (by omega), if_neg (by omega), if_neg (by omega)]; exact a0
      · rw [if_neg (by omega), if_neg (by omega), if_neg (by omega), if_neg (by omega)]; exact a1
      · rw [if_neg (by omega), if_neg (by omega), if_neg (by omega), if_neg (by omega)]; exact a2
      · rw [if_neg (by omega), if_neg (by omega), if_neg (by omega), if_neg (by omega)]; exact a3
    · rw [List.getElem?_append_right (by omega)] at hq
      have hj0 : j = k := by
        have := (List.getElem?_eq_some_iff.1 hq).1
        simp at this; omega
      subst hj0
      rw [hl, Nat.sub_self] at hq
      simp only [List.getElem?_cons_zero, Option.some.injEq] at hq
      subst hq
      refine ⟨?_, ?_, ?_, ?_⟩
      · rw [if_neg (by omega), if_neg (by omega), if_neg (by omega), if_pos rfl]
      · rw [if_neg (by omega), if_neg (by omega), if_pos rfl]
      · rw [if_neg (by omega), if_pos rfl]
      · rw [if_pos rfl]
  · rcases List.mem_append.1 hq with hq | hq
    · obtain ⟨k1, k2, k3, a1, k5, k7, k9⟩ := h3 q hq
      exact ⟨k1, k2, k3, a1, k5, k7, far k7 k9⟩
    · simp only [List.mem_singleton] at hq
      subst hq
      exact ⟨m1, rfl, le, g1, rfl, l1, far l1 o1⟩

theorem info_node : (Tryz.prog.info? 42).map (fun i => (i.zero, i.size, i.bytes)) = some (some (.agg #[.int .i64 0, .int .i64 0, .int .i64 0, .slice none 0 0]), 4, 48) := by kernel_rfl
theorem run_make_nodes (n : Nat) (hn : n ≤ 1048576) (W : World) : (Instr.makeSlice 22 (.int .i64 (n : Int)) (.int .i64 (n : Int))).run Tryz.prog W = .ok (.slice (some ⟨W.heap.size, 0, none⟩) n n) (W.alloc (.cells (madeCells #[.int .i64 0, .int .i64 0, .int .i64 0, .slice none 0 0] (n * 4)) 42)) := by
  obtain ⟨i, hi, h⟩ := Option.map_eq_some_iff.1 info_node
  simp only [Prod.mk.injEq] at h
  have hr := run_make (P := Tryz.prog) W 22 42 i _ Tryz.underlying22 hi h.1 .i64 .i64 n n (by omega) (Int.le_refl _) (by rw [h.2.2]; omega) (by omega)
  simp only [Int.toNat_natCast, h.2.1] at hr
  exact hr
theorem nodesOwn_made (w : World) (n : Nat) (cs : Array Value) (hc : cs.size = n * 4) : NodesOwn (w.alloc (.cells cs 42)) w.heap.size n [] := by
  refine ⟨⟨fun i => cs.getD i undef, ?_, fun j q hq => by simp at hq⟩, Nat.zero_le _, fun q hq => by simp at hq⟩
  rw [← hc]
  exact World.rowIs_alloc w cs _ _ fun i hi => by simp [Array.getD, hi]

set_option maxHeartbeats 3200000 in
theorem toNodeS_any (n c : Nat) (A : Option Addr) (ps : List NV) (w : World) (hp : NodesL w A n ps) (hn : n ≤ 1048576) (hs : SmallN 1048576 ps) :
    Calls Tryz.prog 47 #[.slice A n c] w fun e w' => ∃ (g : Nat) (qs : List NV), e = .returned (.slice (some ⟨g, 0, none⟩) n n) ∧ w.heap.size ≤ g ∧ NodesOwn w' g n qs ∧ qs.length = n ∧ qs.map NV.val = ps.map NV.val ∧ Below w.heap.size w w' := by
  have HP := Lib.hid hp
  have HS := Lib.hid hs
  clear hp hs
  have hmk := fun W => run_make_nodes n hn W
  go_enter Tryz.func47, Tryz.ntmps47
  go_wp2
  clear hmk
  go_loopw [4] (fun i wr => ∃ (k : Nat) (qs : List NV), k ≤ n ∧ i = .int .i64 k ∧ Hid (Below w.heap.size w wr) ∧ Hid (NodesOwn wr w.heap.size n qs) ∧ Hid (qs.length = k) ∧ Hid (qs.map NV.val = (ps.take k).map NV.val)) (fun i _ => n - (intOf i).toNat)
  case atStart => exact ⟨0, [], Nat.zero_le _, rfl, below_alloc _ _, nodesOwn_made w n _ (size_madeCells _ _), rfl, rfl⟩
  case round =>
    obtain ⟨k, qs, hk', rfl, hB, hO, hL, hV⟩ := hrel
    by_cases hlt : k < n
    · obtain ⟨b, o, lv, ns, rt, A1, n1, c1, es, rfl, hb, d0, d1, d2, d3, hx, i1, m1⟩ := HP.out.cellAt hlt
      have e0 : wr.cell? ⟨b, o + k * 4, none⟩ = some (.int .i64 lv) := (hB.out.cell (p := ⟨b, o + k * 4, none⟩) hb).trans d0
      have e1 : wr.cell? ⟨b, o + k * 4 + 1, none⟩ = some (.int .i64 ns) := (hB.out.cell (p := ⟨b, o + k * 4 + 1, none⟩) hb).trans d1
      have e2 : wr.cell? ⟨b, o + k * 4 + 2, none⟩ = some (.int .i64 rt) := (hB.out.cell (p := ⟨b, o + k * 4 + 2, none⟩) hb).trans d2
      have e3 : wr.cell? ⟨b, o + k * 4 + 3, none⟩ = some (.slice A1 n1 c1) := (hB.out.cell (p := ⟨b, o + k * 4 + 3, none⟩) hb).trans d3
      have q1 : n1 ≤ 1048576 := by have := (HS.out k _ hx.out).1; simp only at this; omega
      have q2 := Lib.hid ((HS.out k _ hx.out).2.two (by decide))
      clear d0 d1 d2 d3
      go_wp2_with fail
      clear e0 e1 e2 e3
      refine (toNode_any _ _ _ _ _ _ es _ (i1.out.kept hB.out) q1 q2.out).mono ?_
      rintro e W1 ⟨g1, fs, rfl, l1, o1, lf, vf, b1⟩
      have hin := hO.out.inside
      replace hO := Lib.hid (hO.out.kept b1)
      replace hB := Lib.hid (hB.out.trans (b1.mono hB.out.size))
      have hO' := Lib.hid (hO.out.put (lv := lv) (ns := ns) (rt := rt) hL.out hlt (g1 := g1) (by omega) o1 lf q1)
      have hV' : Hid ((qs ++ [(⟨lv, ns, rt, some ⟨g1, 0, none⟩, n1, n1, fs⟩ : NV)]).map NV.val = (ps.take (k + 1)).map NV.val) := by
        show List.map NV.val _ = _
        rw [List.map_append, hV.out, List.take_add_one, hx.out, List.map_append]
        simp only [NV.val, List.map_cons, List.map_nil, Option.toList_some, vf]
      have hL' : Hid ((qs ++ [(⟨lv, ns, rt, some ⟨g1, 0, none⟩, n1, n1, fs⟩ : NV)]).length = k + 1) := by show List.length _ = _; simp [hL.out]
      obtain ⟨⟨f, hrow, _⟩, _⟩ := hO.out
      have c0 : W1.cell? ⟨w.heap.size, k * 4, none⟩ = some (f (k * 4)) := hrow.cell (by omega)
      have c1' : W1.cell? ⟨w.heap.size, k * 4 + 1, none⟩ = some (f (k * 4 + 1)) := hrow.cell (by omega)
      have c2' : W1.cell? ⟨w.heap.size, k * 4 + 2, none⟩ = some (f (k * 4 + 2)) := hrow.cell (by omega)
      have c3' : W1.cell? ⟨w.heap.size, k * 4 + 3, none⟩ = some (f (k * 4 + 3)) := hrow.cell (by omega)
      have f0 : W1.frozen? ⟨w.heap.size, k * 4, none⟩ = false := hrow.frozen _
      have f1 : W1.frozen? ⟨w.heap.size, k * 4 + 1, none⟩ = false := hrow.frozen _
      have f2 : W1.frozen? ⟨w.heap.size, k * 4 + 2, none⟩ = false := hrow.frozen _
      have f3 : W1.frozen? ⟨w.heap.size, k * 4 + 3, none⟩ = false := hrow.frozen _
      have hB' := Lib.hid ((((hB.out.setCell (p := ⟨w.heap.size, k * 4, none⟩) (Nat.le_refl _) (.int .i64 lv)).setCell (p := ⟨w.heap.size, k * 4 + 1, none⟩) (Nat.le_refl _) (.int .i64 ns)).setCell (p := ⟨w.heap.size, k * 4 + 2, none⟩) (Nat.le_refl _) (.int .i64 rt)).setCell (p := ⟨w.heap.size, k * 4 + 3, none⟩) (Nat.le_refl _) (.slice (some ⟨g1, 0, none⟩) n1 n1))
      clear hO hB b1 o1 hx i1 hV hL l1 hin hrow lf vf q2
      go_wp2
      go_roundw
      case rel => exact ⟨k + 1, _, by omega, by go_num, hB', hO', hL', hV'⟩
      case measure => simp [intOf]; omega
    · have hkn : k = n := by omega
      have HE : Hid (qs.map NV.val = ps.map NV.val) := by show List.map _ _ = _; rw [hV.out, List.take_of_length_le (by have := HP.out.1; omega)]
      have HL : Hid (qs.length = n) := hkn ▸ hL.out
      clear hkn
      go_wp2
      go_ret
      exact ⟨_, qs, rfl, Nat.le_refl _, hO.out, HL.out, HE.out, hB.out⟩

end Go.Proofs.YtpgoildfjkokiaaGreat
