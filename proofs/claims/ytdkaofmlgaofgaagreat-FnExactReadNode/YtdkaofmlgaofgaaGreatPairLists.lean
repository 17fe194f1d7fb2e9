/- What a list of pairs is in memory; the laws' helpers on one pair: szPair, toPair, eqPair. -/
import Derived.Test.YtdkaofmlgaofgaaGreatRects
import Derived.Deep.RegionHeld3
namespace Go.Proofs.YtdkaofmlgaofgaaGreat
open Go.RowKit

/-- One pair as it lies: its number, its two slices, what they read. -/
structure PV where
  id : Int
  A1 : Option Addr
  n1 : Nat
  c1 : Nat
  A2 : Option Addr
  n2 : Nat
  c2 : Nat
  x1 : List Int
  x2 : List Int

/-- What a pair says. -/
def PV.val (p : PV) : Int × List Int × List Int := (p.id, p.x1, p.x2)

def PairOk (w : World) (p : PV) : Prop := Ints w 0 p.A1 p.n1 p.x1 ∧ Ints w 0 p.A2 p.n2 p.x2 ∧ p.n1 ≤ maxLen ∧ p.n2 ≤ maxLen
theorem PairOk.kept {w w' : World} {p : PV} (h : PairOk w p) (hb : Below w.heap.size w w') : PairOk w' p := ⟨h.1.kept hb, h.2.1.kept hb, h.2.2⟩

/-- The slice value '.slice A n c' reads as the pairs ps. -/
def Pairs (w : World) (A : Option Addr) (n : Nat) (ps : List PV) : Prop :=
  ps.length = n ∧ (0 < n → ∃ b o, A = some ⟨b, o, none⟩ ∧ b < w.heap.size ∧ ∀ k p, ps[k]? = some p →
    w.cell? ⟨b, o + k * 3, none⟩ = some (.int .i64 p.id) ∧ w.cell? ⟨b, o + k * 3 + 1, none⟩ = some (.slice p.A1 p.n1 p.c1) ∧ w.cell? ⟨b, o + k * 3 + 2, none⟩ = some (.slice p.A2 p.n2 p.c2)) ∧ ∀ p ∈ ps, PairOk w p

theorem Pairs.kept {w w' : World} {n : Nat} {A : Option Addr} {ps : List PV} (h : Pairs w A n ps) (hb : Below w.heap.size w w') : Pairs w' A n ps := by
  obtain ⟨hl, hr, hp⟩ := h
  refine ⟨hl, fun hn => ?_, fun p hm => (hp p hm).kept hb⟩
  obtain ⟨b, o, e, h2, h3⟩ := hr hn
  refine ⟨b, o, e, Nat.lt_of_lt_of_le h2 hb.size, fun k x hx => ?_⟩
  obtain ⟨c0, c1, c2⟩ := h3 k x hx
  exact ⟨(hb.cell (p := ⟨b, o + k * 3, none⟩) h2).trans c0, (hb.cell (p := ⟨b, o + k * 3 + 1, none⟩) h2).trans c1, (hb.cell (p := ⟨b, o + k * 3 + 2, none⟩) h2).trans c2⟩

/-- The cells of the k-th pair. -/
theorem Pairs.cellAt {w : World} {n k : Nat} {A : Option Addr} {ps : List PV} (h : Pairs w A n ps) (hk : k < n) :
    ∃ b o id A1 n1 c1 A2 n2 c2 x1 x2, A = some ⟨b, o, none⟩ ∧ b < w.heap.size ∧ w.cell? ⟨b, o + k * 3, none⟩ = some (.int .i64 id) ∧ w.cell? ⟨b, o + k * 3 + 1, none⟩ = some (.slice A1 n1 c1) ∧ w.cell? ⟨b, o + k * 3 + 2, none⟩ = some (.slice A2 n2 c2) ∧
      Hid (ps[k]? = some ⟨id, A1, n1, c1, A2, n2, c2, x1, x2⟩) ∧ Hid (Ints w 0 A1 n1 x1) ∧ Hid (Ints w 0 A2 n2 x2) ∧ n1 ≤ maxLen ∧ n2 ≤ maxLen := by
  obtain ⟨hl, hr, hp⟩ := h
  obtain ⟨b, o, e, h2, h3⟩ := hr (by omega)
  have hx : ps[k]? = some (ps[k]'(by omega)) := List.getElem?_eq_getElem (by omega)
  have hq := hp _ (List.mem_of_getElem? hx)
  obtain ⟨c0, c1, c2⟩ := h3 k _ hx
  exact ⟨b, o, _, _, _, _, _, _, _, _, _, e, h2, c0, c1, c2, hx, hq.1, hq.2.1, hq.2.2.1, hq.2.2.2⟩



set_option maxHeartbeats 800000 in
theorem eqPair_same (id : Int) (n1 n2 c1 c2 c3 c4 lo1 lo2 lo3 lo4 : Nat) (A1 A2 A3 A4 : Option Addr) (x1 x2 : List Int) (w : World) (h1 : Ints w lo1 A1 n1 x1) (h2 : Ints w lo2 A2 n2 x2) (h3 : Ints w lo3 A3 n1 x1) (h4 : Ints w lo4 A4 n2 x2) (m1 : n1 ≤ maxLen) (m2 : n2 ≤ maxLen) :
    Calls Tryz.prog 199 #[.agg #[.int .i64 id, .slice A1 n1 c1, .slice A2 n2 c2], .agg #[.int .i64 id, .slice A3 n1 c3, .slice A4 n2 c4]] w fun e w' => e = .returned (.bool true) ∧ Below w.heap.size w w' := by
  have e1 : (id != id) = false := by simp
  have I_x1 := Lib.hid h1
  have I_x2 := Lib.hid h2
  have I_x3 := Lib.hid h3
  have I_x4 := Lib.hid h4
  clear h1 h2 h3 h4
  have B := Lib.hid (Below.refl w.heap.size w)
  have L_a := Lib.hid (Lies.new w 226 #[.int .i64 id, .slice A1 n1 c1, .slice A2 n2 c2])
  replace B := Lib.hid (B.out.alloc B.out.size (.cells #[.int .i64 id, .slice A1 n1 c1, .slice A2 n2 c2] 226))
  replace L_a := Lib.hid (L_a.out.alloc (.cells #[.int .i64 id, .slice A3 n1 c3, .slice A4 n2 c4] 226))
  have L_b := Lib.hid (Lies.new (w.alloc (.cells #[.int .i64 id, .slice A1 n1 c1, .slice A2 n2 c2] 226)) 226 #[.int .i64 id, .slice A3 n1 c3, .slice A4 n2 c4])
  replace B := Lib.hid (B.out.alloc B.out.size (.cells #[.int .i64 id, .slice A3 n1 c3, .slice A4 n2 c4] 226))
  go_enter Tryz.func199, Tryz.ntmps199
  go_wp2_with fail
  refine (eqRect_is true _ _ _ _ _ _ _ _ _ _ _ _ _ _ _ _ x1 x2 x1 x2 _ (by simp) (I_x1.out.kept B.out) (I_x2.out.kept B.out) (I_x3.out.kept B.out) (I_x4.out.kept B.out) m1 m2).mono ?_
  rintro e W1 ⟨rfl, b1⟩
  replace L_a := Lib.hid (L_a.out.kept b1 L_a.out.inside)
  replace L_b := Lib.hid (L_b.out.kept b1 L_b.out.inside)
  replace B := Lib.hid (B.out.trans (b1.mono B.out.size))
  clear b1
  go_wp2
  go_ret
  exact ⟨rfl, B.out⟩


end Go.Proofs.YtdkaofmlgaofgaaGreat

/- The laws' helpers on lists of pairs: szPairS, toPairS, eqPairS. -/
namespace Go.Proofs.YtdkaofmlgaofgaaGreat
open Go.RowKit


theorem val_at {ps qs : List PV} {k : Nat} {p q : PV} (h : ps.map PV.val = qs.map PV.val) (hp : ps[k]? = some p) (hq : qs[k]? = some q) : p.val = q.val := by
  have h1 : (ps.map PV.val)[k]? = some p.val := by simp [hp]
  have h2 : (qs.map PV.val)[k]? = some q.val := by simp [hq]
  rw [h, h2] at h1
  injection h1 with h1; exact h1.symm

set_option maxHeartbeats 3200000 in
theorem eqPairS_same (n c c' : Nat) (A A' : Option Addr) (ps qs : List PV) (w : World) (hp : Pairs w A n ps) (hq : Pairs w A' n qs) (hv : ps.map PV.val = qs.map PV.val) (hn : n ≤ maxLen) :
    Calls Tryz.prog 134 #[.slice A n c, .slice A' n c'] w fun e w' => e = .returned (.bool true) ∧ Below w.heap.size w w' := by
  have HP := Lib.hid hp
  have HQ := Lib.hid hq
  have HV := Lib.hid hv
  clear hp hq hv
  unfold maxLen at hn
  have hne : ((n : Int) != n) = false := by simp
  go_enter Tryz.func134, Tryz.ntmps134
  go_wp2
  go_loopw [5] (fun i wr => ∃ k : Nat, k ≤ n ∧ i = .int .i64 k ∧ Hid (Below w.heap.size w wr)) (fun i _ => n - (intOf i).toNat)
  case atStart => exact ⟨0, Nat.zero_le _, rfl, Below.refl _ _⟩
  case round =>
    obtain ⟨k, hk', rfl, hB⟩ := hrel
    by_cases hlt : k < n
    · obtain ⟨b, o, id, A1, n1, c1, A2, n2, c2, x1, x2, rfl, hb, d0, d1, d2, hx, i1, i2, m1, m2⟩ := HP.out.cellAt hlt
      obtain ⟨b', o', id', A3, n3, c3, A4, n4, c4, x3, x4, rfl, hb', d3, d4, d5, hy, i3, i4, m3, m4⟩ := HQ.out.cellAt hlt
      have hvv := val_at HV.out hx.out hy.out
      simp only [PV.val, Prod.mk.injEq] at hvv
      obtain ⟨rfl, rfl, rfl⟩ := hvv
      have l1 : n1 = n3 := i1.out.1.symm.trans i3.out.1
      have l2 : n2 = n4 := i2.out.1.symm.trans i4.out.1
      subst l1 l2
      have kb := Nat.lt_of_lt_of_le hb hB.out.size
      have kb' := Nat.lt_of_lt_of_le hb' hB.out.size
      have k_0 : wr.cell? ⟨b, o + k * 3, none⟩ = some (.int .i64 id) ∧ wr.cell? ⟨b, o + k * 3 + 1, none⟩ = some (.slice A1 n1 c1) ∧ wr.cell? ⟨b, o + k * 3 + 2, none⟩ = some (.slice A2 n2 c2) ∧ wr.cell? ⟨b', o' + k * 3, none⟩ = some (.int .i64 id) ∧ wr.cell? ⟨b', o' + k * 3 + 1, none⟩ = some (.slice A3 n1 c3) ∧ wr.cell? ⟨b', o' + k * 3 + 2, none⟩ = some (.slice A4 n2 c4) :=
        ⟨(hB.out.cell (p := ⟨b, o + k * 3, none⟩) hb).trans d0, (hB.out.cell (p := ⟨b, o + k * 3 + 1, none⟩) hb).trans d1, (hB.out.cell (p := ⟨b, o + k * 3 + 2, none⟩) hb).trans d2, (hB.out.cell (p := ⟨b', o' + k * 3, none⟩) hb').trans d3, (hB.out.cell (p := ⟨b', o' + k * 3 + 1, none⟩) hb').trans d4, (hB.out.cell (p := ⟨b', o' + k * 3 + 2, none⟩) hb').trans d5⟩
      clear d0 d1 d2 d3 d4 d5 hx hy
      go_wp2_with fail
      go_region_held3 (fun w' => w'.cell? ⟨b, o + k * 3, none⟩ = some (.int .i64 id) ∧ w'.cell? ⟨b, o + k * 3 + 1, none⟩ = some (.slice A1 n1 c1) ∧ w'.cell? ⟨b, o + k * 3 + 2, none⟩ = some (.slice A2 n2 c2) ∧ w'.cell? ⟨b', o' + k * 3, none⟩ = some (.int .i64 id) ∧ w'.cell? ⟨b', o' + k * 3 + 1, none⟩ = some (.slice A3 n1 c3) ∧ w'.cell? ⟨b', o' + k * 3 + 2, none⟩ = some (.slice A4 n2 c4))
        (first | (simp [go_sem, k_0]; done) | with_reducible exact k_1)
        (first
          | (go_at_call 199; refine (eqPair_same _ _ _ _ _ _ _ _ _ _ _ _ _ _ _ x1 x2 _ (i1.out.kept hB.out.drew) (i2.out.kept hB.out.drew) (i3.out.kept hB.out.drew) (i4.out.kept hB.out.drew) m1 m2).mono ?_
             rintro e W1 ⟨rfl, b1d⟩
             have b1 := below_drawn b1d
             have k_1 : W1.cell? ⟨b, o + k * 3, none⟩ = some (.int .i64 id) ∧ W1.cell? ⟨b, o + k * 3 + 1, none⟩ = some (.slice A1 n1 c1) ∧ W1.cell? ⟨b, o + k * 3 + 2, none⟩ = some (.slice A2 n2 c2) ∧ W1.cell? ⟨b', o' + k * 3, none⟩ = some (.int .i64 id) ∧ W1.cell? ⟨b', o' + k * 3 + 1, none⟩ = some (.slice A3 n1 c3) ∧ W1.cell? ⟨b', o' + k * 3 + 2, none⟩ = some (.slice A4 n2 c4) :=
               ⟨(b1.cell (p := ⟨b, o + k * 3, none⟩) kb).trans k_0.1, (b1.cell (p := ⟨b, o + k * 3 + 1, none⟩) kb).trans k_0.2.1, (b1.cell (p := ⟨b, o + k * 3 + 2, none⟩) kb).trans k_0.2.2.1, (b1.cell (p := ⟨b', o' + k * 3, none⟩) kb').trans k_0.2.2.2.1, (b1.cell (p := ⟨b', o' + k * 3 + 1, none⟩) kb').trans k_0.2.2.2.2.1, (b1.cell (p := ⟨b', o' + k * 3 + 2, none⟩) kb').trans k_0.2.2.2.2.2⟩
             clear b1d))
      clear k_0 k_1
      have hB' := Lib.hid (hB.out.trans (b1.mono hB.out.size))
      clear hB b1
      go_wp2
      go_roundw
      case rel => exact ⟨k + 1, by omega, by go_num, hB'⟩
      case measure => simp [intOf]; omega
    · go_wp2
      go_ret
      exact ⟨rfl, hB.out⟩

/-- Block g is a row of the call's own that holds the pairs qs ahead, each with two rows of its own. -/
def PairsOwn (w : World) (g n : Nat) (qs : List PV) : Prop :=
  (∃ f, w.rowIs g 226 (n * 3) f ∧ ∀ (j : Nat) (q : PV), qs[j]? = some q → f (j * 3) = .int .i64 q.id ∧ f (j * 3 + 1) = .slice q.A1 q.n1 q.c1 ∧ f (j * 3 + 2) = .slice q.A2 q.n2 q.c2) ∧ qs.length ≤ n ∧
  ∀ q ∈ qs, q.n1 ≤ 1048576 ∧ q.n2 ≤ 1048576 ∧ q.c1 = q.n1 ∧ q.c2 = q.n2 ∧ ∃ g1 g2, q.A1 = some ⟨g1, 0, none⟩ ∧ q.A2 = some ⟨g2, 0, none⟩ ∧ g < g1 ∧ g1 < g2 ∧ Own w g1 q.n1 q.x1 ∧ Own w g2 q.n2 q.x2

theorem PairsOwn.inside {w : World} {g n : Nat} {qs : List PV} (h : PairsOwn w g n qs) : g < w.heap.size := by obtain ⟨⟨f, h1, _⟩, _⟩ := h; exact h1.lt
theorem PairsOwn.kept {w w' : World} {g n : Nat} {qs : List PV} (h : PairsOwn w g n qs) (hb : Below w.heap.size w w') : PairsOwn w' g n qs := by
  obtain ⟨⟨f, h1, h2⟩, hl, h3⟩ := h
  refine ⟨⟨f, h1.of_block (hb.block g h1.lt), h2⟩, hl, fun q hq => ?_⟩
  obtain ⟨k1, k2, k3, k4, g1, g2, k5, k6, k7, k8, k9, k10⟩ := h3 q hq
  exact ⟨k1, k2, k3, k4, g1, g2, k5, k6, k7, k8, k9.kept hb, k10.kept hb⟩
theorem PairsOwn.pairs {w : World} {g n : Nat} {qs : List PV} (h : PairsOwn w g n qs) (hl : qs.length = n) : Pairs w (some ⟨g, 0, none⟩) n qs := by
  obtain ⟨⟨f, h1, h2⟩, _, h3⟩ := h
  refine ⟨hl, fun _ => ⟨g, 0, rfl, h1.lt, fun k p hk => ?_⟩, fun q hq => ?_⟩
  · have hkn : k < n := by have := (List.getElem?_eq_some_iff.1 hk).1; omega
    obtain ⟨a0, a1, a2⟩ := h2 k p hk
    rw [Nat.zero_add, h1.cell (i := k * 3) (by omega), h1.cell (i := k * 3 + 1) (by omega), h1.cell (i := k * 3 + 2) (by omega), a0, a1, a2]
    exact ⟨rfl, rfl, rfl⟩
  · obtain ⟨k1, k2, k3, k4, g1, g2, k5, k6, k7, k8, k9, k10⟩ := h3 q hq
    exact ⟨by rw [k5]; exact k9.ints (Nat.zero_le _), by rw [k6]; exact k10.ints (Nat.zero_le _), Nat.le_trans k1 (by decide), Nat.le_trans k2 (by decide)⟩
theorem PairsOwn.put {w : World} {g n k : Nat} {qs : List PV} (h : PairsOwn w g n qs) (hl : qs.length = k) (hk : k < n) {id : Int} {g1 g2 n1 n2 : Nat} {x1 x2 : List Int} (l1 : g < g1) (l2 : g1 < g2) (o1 : Own w g1 n1 x1) (o2 : Own w g2 n2 x2) (m1 : n1 ≤ 1048576) (m2 : n2 ≤ 1048576) :
    PairsOwn (((w.setCell ⟨g, k * 3, none⟩ (.int .i64 id)).setCell ⟨g, k * 3 + 1, none⟩ (.slice (some ⟨g1, 0, none⟩) n1 n1)).setCell ⟨g, k * 3 + 2, none⟩ (.slice (some ⟨g2, 0, none⟩) n2 n2)) g n (qs ++ [⟨id, some ⟨g1, 0, none⟩, n1, n1, some ⟨g2, 0, none⟩, n2, n2, x1, x2⟩]) := by
  obtain ⟨⟨f, h1, h2⟩, hln, h3⟩ := h
  have far : ∀ {gg m : Nat} {xs : List Int}, g < gg → Own w gg m xs → Own (((w.setCell ⟨g, k * 3, none⟩ (.int .i64 id)).setCell ⟨g, k * 3 + 1, none⟩ (.slice (some ⟨g1, 0, none⟩) n1 n1)).setCell ⟨g, k * 3 + 2, none⟩ (.slice (some ⟨g2, 0, none⟩) n2 n2)) gg m xs :=
    fun hh ho => ((ho.far (by show _ ≠ g; omega) _).far (by show _ ≠ g; omega) _).far (by show _ ≠ g; omega) _
  refine ⟨⟨_, ((h1.set (k * 3) _).set (k * 3 + 1) _).set (k * 3 + 2) _, fun j q hq => ?_⟩, by simp; omega, fun q hq => ?_⟩
  · rcases Nat.lt_or_ge j k with hj | hj
    · rw [List.getElem?_append_left (by omega)] at hq
      obtain ⟨a0, a1, a2⟩ := h2 j q hq
      refine ⟨?_, ?_, ?_⟩
      · rw [if_neg (by omega), if_neg (by omega), if_neg (by omega)]; exact a0
      · rw [if_neg (by omega), if_neg (by omega), if_neg (by omega)]; exact a1
      · rw [if_neg (by omega), if_neg (by omega), if_neg (by omega)]; exact a2
    · rw [List.getElem?_append_right (by omega)] at hq
      have hj0 : j = k := by
        have := (List.getElem?_eq_some_iff.1 hq).1
        simp at this; omega
      subst hj0
      rw [hl, Nat.sub_self] at hq
      simp only [List.getElem?_cons_zero, Option.some.injEq] at hq
      subst hq
      refine ⟨?_, ?_, ?_⟩
      · rw [if_neg (by omega), if_neg (by omega), if_pos rfl]
      · rw [if_neg (by omega), if_pos rfl]
      · rw [if_pos rfl]
  · rcases List.mem_append.1 hq with hq | hq
    · obtain ⟨k1, k2, k3, k4, a1, a2, k5, k6, k7, k8, k9, k10⟩ := h3 q hq
      exact ⟨k1, k2, k3, k4, a1, a2, k5, k6, k7, k8, far k7 k9, far (by omega) k10⟩
    · simp only [List.mem_singleton] at hq
      subst hq
      exact ⟨m1, m2, rfl, rfl, g1, g2, rfl, rfl, l1, l2, far l1 o1, far (by omega) o2⟩

theorem info_pair : (Tryz.prog.info? 226).map (fun i => (i.zero, i.size, i.bytes)) = some (some (.agg #[.int .i64 0, .slice none 0 0, .slice none 0 0]), 3, 56) := by kernel_rfl
theorem run_make_pairs (n : Nat) (hn : n ≤ 1048576) (W : World) : (Instr.makeSlice 90 (.int .i64 (n : Int)) (.int .i64 (n : Int))).run Tryz.prog W = .ok (.slice (some ⟨W.heap.size, 0, none⟩) n n) (W.alloc (.cells (madeCells #[.int .i64 0, .slice none 0 0, .slice none 0 0] (n * 3)) 226)) := by
  obtain ⟨i, hi, h⟩ := Option.map_eq_some_iff.1 info_pair
  simp only [Prod.mk.injEq] at h
  have hr := run_make (P := Tryz.prog) W 90 226 i _ Tryz.underlying90 hi h.1 .i64 .i64 n n (by omega) (Int.le_refl _) (by rw [h.2.2]; omega) (by omega)
  simp only [Int.toNat_natCast, h.2.1] at hr
  exact hr
theorem pairsOwn_made (w : World) (n : Nat) (cs : Array Value) (hc : cs.size = n * 3) : PairsOwn (w.alloc (.cells cs 226)) w.heap.size n [] := by
  refine ⟨⟨fun i => cs.getD i undef, ?_, fun j q hq => by simp at hq⟩, Nat.zero_le _, fun q hq => by simp at hq⟩
  rw [← hc]
  exact World.rowIs_alloc w cs _ _ fun i hi => by simp [Array.getD, hi]


end Go.Proofs.YtdkaofmlgaofgaaGreat
