/- What a list of pairs is in memory; the laws' helpers on one pair: szPair, toPair, eqPair. -/
import Derived.Test.YtpgoildfjkokiabRects
namespace Go.Proofs.Ytpgoildfjkokiab
open Go.RowKit

/-- One pair as it lies: its number, its two slices, what they read. -/
structure PV where
  id : Int
  A1 : Option Addr
  n1 : Nat
  c1 : Nat
  A2 : Option Addr
  n2 : Nat
  c2 : Nat
  x1 : List Int
  x2 : List Int

/-- What a pair says. -/
def PV.val (p : PV) : Int × List Int × List Int := (p.id, p.x1, p.x2)

def PairOk (w : World) (p : PV) : Prop := Ints w 0 p.A1 p.n1 p.x1 ∧ Ints w 0 p.A2 p.n2 p.x2 ∧ p.n1 ≤ maxLen ∧ p.n2 ≤ maxLen
theorem PairOk.kept {w w' : World} {p : PV} (h : PairOk w p) (hb : Below w.heap.size w w') : PairOk w' p := ⟨h.1.kept hb, h.2.1.kept hb, h.2.2⟩

/-- The slice value '.slice A n c' reads as the pairs ps. -/
def Pairs (w : World) (A : Option Addr) (n : Nat) (ps : List PV) : Prop :=
  ps.length = n ∧ (0 < n → ∃ b o, A = some ⟨b, o, none⟩ ∧ b < w.heap.size ∧ ∀ k p, ps[k]? = some p →
    w.cell? ⟨b, o + k * 3, none⟩ = some (.int .i64 p.id) ∧ w.cell? ⟨b, o + k * 3 + 1, none⟩ = some (.slice p.A1 p.n1 p.c1) ∧ w.cell? ⟨b, o + k * 3 + 2, none⟩ = some (.slice p.A2 p.n2 p.c2)) ∧ ∀ p ∈ ps, PairOk w p

theorem Pairs.kept {w w' : World} {n : Nat} {A : Option Addr} {ps : List PV} (h : Pairs w A n ps) (hb : Below w.heap.size w w') : Pairs w' A n ps := by
  obtain ⟨hl, hr, hp⟩ := h
  refine ⟨hl, fun hn => ?_, fun p hm => (hp p hm).kept hb⟩
  obtain ⟨b, o, e, h2, h3⟩ := hr hn
  refine ⟨b, o, e, Nat.lt_of_lt_of_le h2 hb.size, fun k x hx => ?_⟩
  obtain ⟨c0, c1, c2⟩ := h3 k x hx
  exact ⟨(hb.cell (p := ⟨b, o + k * 3, none⟩) h2).trans c0, (hb.cell (p := ⟨b, o + k * 3 + 1, none⟩) h2).trans c1, (hb.cell (p := ⟨b, o + k * 3 + 2, none⟩) h2).trans c2⟩

/-- The cells of the k-th pair. -/
theorem Pairs.cellAt {w : World} {n k : Nat} {A : Option Addr} {ps : List PV} (h : Pairs w A n ps) (hk : k < n) :
    ∃ b o id A1 n1 c1 A2 n2 c2 x1 x2, A = some ⟨b, o, none⟩ ∧ b < w.heap.size ∧ w.cell? ⟨b, o + k * 3, none⟩ = some (.int .i64 id) ∧ w.cell? ⟨b, o + k * 3 + 1, none⟩ = some (.slice A1 n1 c1) ∧ w.cell? ⟨b, o + k * 3 + 2, none⟩ = some (.slice A2 n2 c2) ∧
      Hid (ps[k]? = some ⟨id, A1, n1, c1, A2, n2, c2, x1, x2⟩) ∧ Hid (Ints w 0 A1 n1 x1) ∧ Hid (Ints w 0 A2 n2 x2) ∧ n1 ≤ maxLen ∧ n2 ≤ maxLen := by
  obtain ⟨hl, hr, hp⟩ := h
  obtain ⟨b, o, e, h2, h3⟩ := hr (by omega)
  have hx : ps[k]? = some (ps[k]'(by omega)) := List.getElem?_eq_getElem (by omega)
  have hq := hp _ (List.mem_of_getElem? hx)
  obtain ⟨c0, c1, c2⟩ := h3 k _ hx
  exact ⟨b, o, _, _, _, _, _, _, _, _, _, e, h2, c0, c1, c2, hx, hq.1, hq.2.1, hq.2.2.1, hq.2.2.2⟩

set_option maxHeartbeats 400000 in
theorem szPair_yes (id l : Int) (n1 c1 n2 c2 : Nat) (A1 A2 : Option Addr) (w : World) (h1 : l ≤ 1048576) (m1 : n1 ≤ maxLen) (m2 : n2 ≤ maxLen) (h : n1 + n2 ≤ l) :
    Calls Try.prog 13 #[.agg #[.int .i64 id, .slice A1 n1 c1, .slice A2 n2 c2], .int .i64 l] w fun e w' => e = .returned (.int .i64 (l - n1 - n2)) ∧ Below w.heap.size w w' := by
  have hk : ¬ (l - n1 - n2 < 0) := by omega
  have B := Lib.hid (Below.refl w.heap.size w)
  have L_a := Lib.hid (Lies.new w 42 #[.int .i64 id, .slice A1 n1 c1, .slice A2 n2 c2])
  replace B := Lib.hid (B.out.alloc B.out.size (.cells #[.int .i64 id, .slice A1 n1 c1, .slice A2 n2 c2] 42))
  go_enter Try.func13, Try.ntmps13
  go_wp2_with fail
  refine (szRect_yes _ _ _ _ _ _ _ _ h1 m1 m2 (by omega)).mono ?_
  rintro e W1 ⟨rfl, b1⟩
  replace L_a := Lib.hid (L_a.out.kept b1 L_a.out.inside)
  replace B := Lib.hid (B.out.trans (b1.mono B.out.size))
  clear b1
  go_wp2
  go_ret
  exact ⟨rfl, B.out⟩

set_option maxHeartbeats 400000 in
theorem szPair_no (id l : Int) (n1 c1 n2 c2 : Nat) (A1 A2 : Option Addr) (w : World) (h0 : 0 ≤ l) (h1 : l ≤ 1048576) (m1 : n1 ≤ maxLen) (m2 : n2 ≤ maxLen) (h : l < n1 + n2) :
    Calls Try.prog 13 #[.agg #[.int .i64 id, .slice A1 n1 c1, .slice A2 n2 c2], .int .i64 l] w fun e w' => e = .returned (.int .i64 (-1)) ∧ Below w.heap.size w w' := by
  have B := Lib.hid (Below.refl w.heap.size w)
  have L_a := Lib.hid (Lies.new w 42 #[.int .i64 id, .slice A1 n1 c1, .slice A2 n2 c2])
  replace B := Lib.hid (B.out.alloc B.out.size (.cells #[.int .i64 id, .slice A1 n1 c1, .slice A2 n2 c2] 42))
  go_enter Try.func13, Try.ntmps13
  go_wp2_with fail
  refine (szRect_no _ _ _ _ _ _ _ _ h0 h1 m1 m2 (by omega)).mono ?_
  rintro e W1 ⟨rfl, b1⟩
  replace L_a := Lib.hid (L_a.out.kept b1 L_a.out.inside)
  replace B := Lib.hid (B.out.trans (b1.mono B.out.size))
  clear b1
  go_wp2
  go_ret
  exact ⟨rfl, B.out⟩

set_option maxHeartbeats 800000 in
theorem eqPair_same (id : Int) (n1 n2 c1 c2 c3 c4 lo1 lo2 lo3 lo4 : Nat) (A1 A2 A3 A4 : Option Addr) (x1 x2 : List Int) (w : World) (h1 : Ints w lo1 A1 n1 x1) (h2 : Ints w lo2 A2 n2 x2) (h3 : Ints w lo3 A3 n1 x1) (h4 : Ints w lo4 A4 n2 x2) (m1 : n1 ≤ maxLen) (m2 : n2 ≤ maxLen) :
    Calls Try.prog 21 #[.agg #[.int .i64 id, .slice A1 n1 c1, .slice A2 n2 c2], .agg #[.int .i64 id, .slice A3 n1 c3, .slice A4 n2 c4]] w fun e w' => e = .returned (.bool true) ∧ Below w.heap.size w w' := by
  have e1 : (id != id) = false := by simp
  have I_x1 := Lib.hid h1
  have I_x2 := Lib.hid h2
  have I_x3 := Lib.hid h3
  have I_x4 := Lib.hid h4
  clear h1 h2 h3 h4
  have B := Lib.hid (Below.refl w.heap.size w)
  have L_a := Lib.hid (Lies.new w 28 #[.int .i64 id, .slice A1 n1 c1, .slice A2 n2 c2])
  replace B := Lib.hid (B.out.alloc B.out.size (.cells #[.int .i64 id, .slice A1 n1 c1, .slice A2 n2 c2] 28))
  replace L_a := Lib.hid (L_a.out.alloc (.cells #[.int .i64 id, .slice A3 n1 c3, .slice A4 n2 c4] 28))
  have L_b := Lib.hid (Lies.new (w.alloc (.cells #[.int .i64 id, .slice A1 n1 c1, .slice A2 n2 c2] 28)) 28 #[.int .i64 id, .slice A3 n1 c3, .slice A4 n2 c4])
  replace B := Lib.hid (B.out.alloc B.out.size (.cells #[.int .i64 id, .slice A3 n1 c3, .slice A4 n2 c4] 28))
  go_enter Try.func21, Try.ntmps21
  go_wp2_with fail
  refine (eqRect_is true _ _ _ _ _ _ _ _ _ _ _ _ _ _ _ _ x1 x2 x1 x2 _ (by simp) (I_x1.out.kept B.out) (I_x2.out.kept B.out) (I_x3.out.kept B.out) (I_x4.out.kept B.out) m1 m2).mono ?_
  rintro e W1 ⟨rfl, b1⟩
  replace L_a := Lib.hid (L_a.out.kept b1 L_a.out.inside)
  replace L_b := Lib.hid (L_b.out.kept b1 L_b.out.inside)
  replace B := Lib.hid (B.out.trans (b1.mono B.out.size))
  clear b1
  go_wp2
  go_ret
  exact ⟨rfl, B.out⟩

set_option maxHeartbeats 1600000 in
theorem toPair_any (id : Int) (n1 c1 n2 c2 lo1 lo2 : Nat) (A1 A2 : Option Addr) (x1 x2 : List Int) (w : World) (h1 : Ints w lo1 A1 n1 x1) (h2 : Ints w lo2 A2 n2 x2) (m1 : n1 ≤ 1048576) (m2 : n2 ≤ 1048576) :
    Calls Try.prog 17 #[.agg #[.int .i64 id, .slice A1 n1 c1, .slice A2 n2 c2]] w fun e w' => ∃ g1 g2, e = .returned (.agg #[.int .i64 id, .slice (some ⟨g1, 0, none⟩) n1 n1, .slice (some ⟨g2, 0, none⟩) n2 n2]) ∧
      Own w' g1 n1 x1 ∧ Own w' g2 n2 x2 ∧ w.heap.size ≤ g1 ∧ g1 < g2 ∧ Below w.heap.size w w' := by
  have I_1 := Lib.hid h1
  have I_2 := Lib.hid h2
  clear h1 h2
  have B := Lib.hid (((below_alloc w (.cells #[.int .i64 id, .slice A1 n1 c1, .slice A2 n2 c2] 42)).alloc (below_alloc w (.cells #[.int .i64 id, .slice A1 n1 c1, .slice A2 n2 c2] 42)).size (.cells #[.int .i64 0, .slice none 0 0, .slice none 0 0] 28)).alloc ((below_alloc w (.cells #[.int .i64 id, .slice A1 n1 c1, .slice A2 n2 c2] 42)).alloc (below_alloc w (.cells #[.int .i64 id, .slice A1 n1 c1, .slice A2 n2 c2] 42)).size (.cells #[.int .i64 0, .slice none 0 0, .slice none 0 0] 28)).size (.cells #[.int .i64 id, .slice none 0 0, .slice none 0 0] 28))
  have L_r := Lib.hid ((Lies.new (w.alloc (.cells #[.int .i64 id, .slice A1 n1 c1, .slice A2 n2 c2] 42)) 28 #[.int .i64 0, .slice none 0 0, .slice none 0 0]).alloc (.cells #[.int .i64 id, .slice none 0 0, .slice none 0 0] 28))
  have L_o := Lib.hid (Lies.new ((w.alloc (.cells #[.int .i64 id, .slice A1 n1 c1, .slice A2 n2 c2] 42)).alloc (.cells #[.int .i64 0, .slice none 0 0, .slice none 0 0] 28)) 28 #[.int .i64 id, .slice none 0 0, .slice none 0 0])
  simp only [World.size_alloc] at L_r L_o
  go_enter Try.func17, Try.ntmps17
  go_wp2_with fail
  refine (toRect_any _ _ _ _ _ _ _ _ x1 x2 _ (I_1.out.kept B.out) (I_2.out.kept B.out) m1 m2).mono ?_
  rintro e W1 ⟨g1, g2, rfl, o1, o2, hg1, hg2, b1⟩
  simp only [World.size_alloc] at hg1
  replace L_r := Lib.hid (L_r.out.kept b1 L_r.out.inside)
  replace L_o := Lib.hid (L_o.out.kept b1 L_o.out.inside)
  replace B := Lib.hid (B.out.trans (b1.mono B.out.size))
  have O_1 := Lib.hid o1
  have O_2 := Lib.hid o2
  clear b1 o1 o2
  have c_o0 : W1.cell? ⟨w.heap.size + 1 + 1, 0, none⟩ = some (.int .i64 id) := L_o.out.cell 0
  have f_o0 : W1.frozen? ⟨w.heap.size + 1 + 1, 0, none⟩ = false := L_o.out.thawed 0
  have c_o1 : W1.cell? ⟨w.heap.size + 1 + 1, 1, none⟩ = some (.slice none 0 0) := L_o.out.cell 1
  have f_o1 : W1.frozen? ⟨w.heap.size + 1 + 1, 1, none⟩ = false := L_o.out.thawed 1
  have c_o2 : W1.cell? ⟨w.heap.size + 1 + 1, 2, none⟩ = some (.slice none 0 0) := L_o.out.cell 2
  have f_o2 : W1.frozen? ⟨w.heap.size + 1 + 1, 2, none⟩ = false := L_o.out.thawed 2
  have c_r0 : W1.cell? ⟨w.heap.size + 1, 0, none⟩ = some (.int .i64 0) := L_r.out.cell 0
  have f_r0 : W1.frozen? ⟨w.heap.size + 1, 0, none⟩ = false := L_r.out.thawed 0
  have c_r1 : W1.cell? ⟨w.heap.size + 1, 1, none⟩ = some (.slice none 0 0) := L_r.out.cell 1
  have f_r1 : W1.frozen? ⟨w.heap.size + 1, 1, none⟩ = false := L_r.out.thawed 1
  have c_r2 : W1.cell? ⟨w.heap.size + 1, 2, none⟩ = some (.slice none 0 0) := L_r.out.cell 2
  have f_r2 : W1.frozen? ⟨w.heap.size + 1, 2, none⟩ = false := L_r.out.thawed 2
  go_wp2
  refine bodyPost_ret (v := .agg #[.int .i64 id, .slice (some ⟨g1, 0, none⟩) n1 n1, .slice (some ⟨g2, 0, none⟩) n2 n2]) (by simp [results, Try.results17, go_sem, c_r0, c_r1, c_r2]) rfl ⟨g1, g2, rfl, ?_, ?_, by omega, hg2, ?_⟩
  · with_reducible (repeat (first | exact O_1.out | refine Own.far ?_ ?_ _))
    all_goals (first | (show g1 ≠ w.heap.size + 1 + 1; omega) | (show g1 ≠ w.heap.size + 1; omega))
  · with_reducible (repeat (first | exact O_2.out | refine Own.far ?_ ?_ _))
    all_goals (first | (show g2 ≠ w.heap.size + 1 + 1; omega) | (show g2 ≠ w.heap.size + 1; omega))
  · with_reducible (repeat (first | exact B.out | refine Below.setCell ?_ ?_ _))
    all_goals (first | (show w.heap.size ≤ w.heap.size + 1 + 1; omega) | (show w.heap.size ≤ w.heap.size + 1; omega))

end Go.Proofs.Ytpgoildfjkokiab
