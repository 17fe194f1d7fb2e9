/- What a list of entries is in memory; the laws' helpers on one entry: szEntry, toEntry, eqEntry. -/
import Derived.Test.YtblhcnafoejahaaRects
namespace Go.Proofs.Ytblhcnafoejahaa
open Go.RowKit

/-- One entry as it lies: its two slices, its numbers, what the slices read. -/
structure EV where
  A1 : Option Addr
  n1 : Nat
  c1 : Nat
  A2 : Option Addr
  n2 : Nat
  c2 : Nat
  ref : Int
  nsn : Int
  x1 : List Int
  x2 : List Int

/-- What an entry says. -/
abbrev EVal := List Int × List Int × Int × Int
def EV.val (p : EV) : EVal := (p.x1, p.x2, p.ref, p.nsn)

def EntryOk (w : World) (p : EV) : Prop := Ints w 0 p.A1 p.n1 p.x1 ∧ Ints w 0 p.A2 p.n2 p.x2 ∧ p.n1 ≤ maxLen ∧ p.n2 ≤ maxLen
theorem EntryOk.kept {w w' : World} {p : EV} (h : EntryOk w p) (hb : Below w.heap.size w w') : EntryOk w' p := ⟨h.1.kept hb, h.2.1.kept hb, h.2.2⟩

/-- The slice value '.slice A n c' reads as the entries ps. -/
def Entries (w : World) (A : Option Addr) (n : Nat) (ps : List EV) : Prop :=
  ps.length = n ∧ (0 < n → ∃ b o, A = some ⟨b, o, none⟩ ∧ b < w.heap.size ∧ ∀ k p, ps[k]? = some p →
    w.cell? ⟨b, o + k * 4, none⟩ = some (.slice p.A1 p.n1 p.c1) ∧ w.cell? ⟨b, o + k * 4 + 1, none⟩ = some (.slice p.A2 p.n2 p.c2) ∧ w.cell? ⟨b, o + k * 4 + 2, none⟩ = some (.int .i64 p.ref) ∧ w.cell? ⟨b, o + k * 4 + 3, none⟩ = some (.int .i64 p.nsn)) ∧ ∀ p ∈ ps, EntryOk w p

theorem Entries.kept {w w' : World} {n : Nat} {A : Option Addr} {ps : List EV} (h : Entries w A n ps) (hb : Below w.heap.size w w') : Entries w' A n ps := by
  obtain ⟨hl, hr, hp⟩ := h
  refine ⟨hl, fun hn => ?_, fun p hm => (hp p hm).kept hb⟩
  obtain ⟨b, o, e, h2, h3⟩ := hr hn
  refine ⟨b, o, e, Nat.lt_of_lt_of_le h2 hb.size, fun k x hx => ?_⟩
  obtain ⟨c0, c1, c2, c3⟩ := h3 k x hx
  exact ⟨(hb.cell (p := ⟨b, o + k * 4, none⟩) h2).trans c0, (hb.cell (p := ⟨b, o + k * 4 + 1, none⟩) h2).trans c1, (hb.cell (p := ⟨b, o + k * 4 + 2, none⟩) h2).trans c2, (hb.cell (p := ⟨b, o + k * 4 + 3, none⟩) h2).trans c3⟩

/-- The cells of the k-th entry, in any later world. -/
theorem Entries.cellAt {w : World} {n k : Nat} {A : Option Addr} {ps : List EV} (h : Entries w A n ps) (hk : k < n) :
    ∃ b o A1 n1 c1 A2 n2 c2 ref nsn x1 x2, A = some ⟨b, o, none⟩ ∧ b < w.heap.size ∧ w.cell? ⟨b, o + k * 4, none⟩ = some (.slice A1 n1 c1) ∧ w.cell? ⟨b, o + k * 4 + 1, none⟩ = some (.slice A2 n2 c2) ∧ w.cell? ⟨b, o + k * 4 + 2, none⟩ = some (.int .i64 ref) ∧ w.cell? ⟨b, o + k * 4 + 3, none⟩ = some (.int .i64 nsn) ∧
      Hid (ps[k]? = some ⟨A1, n1, c1, A2, n2, c2, ref, nsn, x1, x2⟩) ∧ Hid (Ints w 0 A1 n1 x1) ∧ Hid (Ints w 0 A2 n2 x2) ∧ n1 ≤ maxLen ∧ n2 ≤ maxLen := by
  obtain ⟨hl, hr, hp⟩ := h
  obtain ⟨b, o, e, h2, h3⟩ := hr (by omega)
  have hx : ps[k]? = some (ps[k]'(by omega)) := List.getElem?_eq_getElem (by omega)
  have hq := hp _ (List.mem_of_getElem? hx)
  obtain ⟨c0, c1, c2, c3⟩ := h3 k _ hx
  exact ⟨b, o, _, _, _, _, _, _, _, _, _, _, e, h2, c0, c1, c2, c3, hx, hq.1, hq.2.1, hq.2.2.1, hq.2.2.2⟩

set_option maxHeartbeats 400000 in
theorem szEntry_yes (ref nsn l : Int) (n1 c1 n2 c2 : Nat) (A1 A2 : Option Addr) (w : World) (h1 : l ≤ 1048576) (m1 : n1 ≤ maxLen) (m2 : n2 ≤ maxLen) (h : n1 + n2 ≤ l) :
    Calls Try.prog 57 #[.agg #[.slice A1 n1 c1, .slice A2 n2 c2, .int .i64 ref, .int .i64 nsn], .int .i64 l] w fun e w' => e = .returned (.int .i64 (l - n1 - n2)) ∧ Below w.heap.size w w' := by
  have hk : ¬ (l - n1 - n2 < 0) := by omega
  have B := Lib.hid (Below.refl w.heap.size w)
  have L_a := Lib.hid (Lies.new w 115 #[.slice A1 n1 c1, .slice A2 n2 c2, .int .i64 ref, .int .i64 nsn])
  replace B := Lib.hid (B.out.alloc B.out.size (.cells #[.slice A1 n1 c1, .slice A2 n2 c2, .int .i64 ref, .int .i64 nsn] 115))
  go_enter Try.func57, Try.ntmps57
  go_wp2_with fail
  refine (szRect_yes _ _ _ _ _ _ _ _ h1 m1 m2 (by omega)).mono ?_
  rintro e W1 ⟨rfl, b1⟩
  replace L_a := Lib.hid (L_a.out.kept b1 L_a.out.inside)
  replace B := Lib.hid (B.out.trans (b1.mono B.out.size))
  clear b1
  go_wp2
  go_ret
  exact ⟨rfl, B.out⟩

set_option maxHeartbeats 400000 in
theorem szEntry_no (ref nsn l : Int) (n1 c1 n2 c2 : Nat) (A1 A2 : Option Addr) (w : World) (h0 : 0 ≤ l) (h1 : l ≤ 1048576) (m1 : n1 ≤ maxLen) (m2 : n2 ≤ maxLen) (h : l < n1 + n2) :
    Calls Try.prog 57 #[.agg #[.slice A1 n1 c1, .slice A2 n2 c2, .int .i64 ref, .int .i64 nsn], .int .i64 l] w fun e w' => e = .returned (.int .i64 (-1)) ∧ Below w.heap.size w w' := by
  have B := Lib.hid (Below.refl w.heap.size w)
  have L_a := Lib.hid (Lies.new w 115 #[.slice A1 n1 c1, .slice A2 n2 c2, .int .i64 ref, .int .i64 nsn])
  replace B := Lib.hid (B.out.alloc B.out.size (.cells #[.slice A1 n1 c1, .slice A2 n2 c2, .int .i64 ref, .int .i64 nsn] 115))
  go_enter Try.func57, Try.ntmps57
  go_wp2_with fail
  refine (szRect_no _ _ _ _ _ _ _ _ h0 h1 m1 m2 (by omega)).mono ?_
  rintro e W1 ⟨rfl, b1⟩
  replace L_a := Lib.hid (L_a.out.kept b1 L_a.out.inside)
  replace B := Lib.hid (B.out.trans (b1.mono B.out.size))
  clear b1
  go_wp2
  go_ret
  exact ⟨rfl, B.out⟩

set_option maxHeartbeats 800000 in
theorem eqEntry_same (ref nsn : Int) (n1 n2 c1 c2 c3 c4 lo1 lo2 lo3 lo4 : Nat) (A1 A2 A3 A4 : Option Addr) (x1 x2 : List Int) (w : World) (h1 : Ints w lo1 A1 n1 x1) (h2 : Ints w lo2 A2 n2 x2) (h3 : Ints w lo3 A3 n1 x1) (h4 : Ints w lo4 A4 n2 x2) (m1 : n1 ≤ maxLen) (m2 : n2 ≤ maxLen) :
    Calls Try.prog 63 #[.agg #[.slice A1 n1 c1, .slice A2 n2 c2, .int .i64 ref, .int .i64 nsn], .agg #[.slice A3 n1 c3, .slice A4 n2 c4, .int .i64 ref, .int .i64 nsn]] w fun e w' => e = .returned (.bool true) ∧ Below w.heap.size w w' := by
  have e1 : (ref != ref) = false := by simp
  have e2 : (nsn != nsn) = false := by simp
  have I_x1 := Lib.hid h1
  have I_x2 := Lib.hid h2
  have I_x3 := Lib.hid h3
  have I_x4 := Lib.hid h4
  clear h1 h2 h3 h4
  have B := Lib.hid (Below.refl w.heap.size w)
  have L_a := Lib.hid (Lies.new w 67 #[.slice A1 n1 c1, .slice A2 n2 c2, .int .i64 ref, .int .i64 nsn])
  replace B := Lib.hid (B.out.alloc B.out.size (.cells #[.slice A1 n1 c1, .slice A2 n2 c2, .int .i64 ref, .int .i64 nsn] 67))
  replace L_a := Lib.hid (L_a.out.alloc (.cells #[.slice A3 n1 c3, .slice A4 n2 c4, .int .i64 ref, .int .i64 nsn] 67))
  have L_b := Lib.hid (Lies.new (w.alloc (.cells #[.slice A1 n1 c1, .slice A2 n2 c2, .int .i64 ref, .int .i64 nsn] 67)) 67 #[.slice A3 n1 c3, .slice A4 n2 c4, .int .i64 ref, .int .i64 nsn])
  replace B := Lib.hid (B.out.alloc B.out.size (.cells #[.slice A3 n1 c3, .slice A4 n2 c4, .int .i64 ref, .int .i64 nsn] 67))
  simp only [World.size_alloc] at L_b
  go_enter Try.func63, Try.ntmps63
  go_wp2_with fail
  refine (eqRect_is true _ _ _ _ _ _ _ _ _ _ _ _ _ _ _ _ x1 x2 x1 x2 _ (by simp) (I_x1.out.kept B.out) (I_x2.out.kept B.out) (I_x3.out.kept B.out) (I_x4.out.kept B.out) m1 m2).mono ?_
  rintro e W1 ⟨rfl, b1⟩
  replace L_a := Lib.hid (L_a.out.kept b1 L_a.out.inside)
  replace L_b := Lib.hid (L_b.out.kept b1 L_b.out.inside)
  replace B := Lib.hid (B.out.trans (b1.mono B.out.size))
  clear b1
  have a2 : W1.cell? ⟨w.heap.size, 2, none⟩ = some (.int .i64 ref) := L_a.out.cell 2
  have a3 : W1.cell? ⟨w.heap.size, 3, none⟩ = some (.int .i64 nsn) := L_a.out.cell 3
  have b2 : W1.cell? ⟨w.heap.size + 1, 2, none⟩ = some (.int .i64 ref) := L_b.out.cell 2
  have b3 : W1.cell? ⟨w.heap.size + 1, 3, none⟩ = some (.int .i64 nsn) := L_b.out.cell 3
  go_wp2
  go_ret
  exact ⟨rfl, B.out⟩

set_option maxHeartbeats 1600000 in
theorem toEntry_any (ref nsn : Int) (n1 c1 n2 c2 lo1 lo2 : Nat) (A1 A2 : Option Addr) (x1 x2 : List Int) (w : World) (h1 : Ints w lo1 A1 n1 x1) (h2 : Ints w lo2 A2 n2 x2) (m1 : n1 ≤ 1048576) (m2 : n2 ≤ 1048576) :
    Calls Try.prog 59 #[.agg #[.slice A1 n1 c1, .slice A2 n2 c2, .int .i64 ref, .int .i64 nsn]] w fun e w' => ∃ g1 g2, e = .returned (.agg #[.slice (some ⟨g1, 0, none⟩) n1 n1, .slice (some ⟨g2, 0, none⟩) n2 n2, .int .i64 ref, .int .i64 nsn]) ∧
      Own w' g1 n1 x1 ∧ Own w' g2 n2 x2 ∧ w.heap.size ≤ g1 ∧ g1 < g2 ∧ Below w.heap.size w w' := by
  have I_1 := Lib.hid h1
  have I_2 := Lib.hid h2
  clear h1 h2
  have B := Lib.hid (below_alloc w (.cells #[.slice A1 n1 c1, .slice A2 n2 c2, .int .i64 ref, .int .i64 nsn] 115))
  replace B := Lib.hid (B.out.alloc B.out.size (.cells #[.slice none 0 0, .slice none 0 0, .int .i64 0, .int .i64 0] 67))
  replace B := Lib.hid (B.out.alloc B.out.size (.cells #[.slice none 0 0, .slice none 0 0, .int .i64 0, .int .i64 0] 67))
  have L_a := Lib.hid (((Lies.new w 115 #[.slice A1 n1 c1, .slice A2 n2 c2, .int .i64 ref, .int .i64 nsn]).alloc (.cells #[.slice none 0 0, .slice none 0 0, .int .i64 0, .int .i64 0] 67)).alloc (.cells #[.slice none 0 0, .slice none 0 0, .int .i64 0, .int .i64 0] 67))
  have L_r := Lib.hid ((Lies.new (w.alloc (.cells #[.slice A1 n1 c1, .slice A2 n2 c2, .int .i64 ref, .int .i64 nsn] 115)) 67 #[.slice none 0 0, .slice none 0 0, .int .i64 0, .int .i64 0]).alloc (.cells #[.slice none 0 0, .slice none 0 0, .int .i64 0, .int .i64 0] 67))
  have L_o := Lib.hid (Lies.new ((w.alloc (.cells #[.slice A1 n1 c1, .slice A2 n2 c2, .int .i64 ref, .int .i64 nsn] 115)).alloc (.cells #[.slice none 0 0, .slice none 0 0, .int .i64 0, .int .i64 0] 67)) 67 #[.slice none 0 0, .slice none 0 0, .int .i64 0, .int .i64 0])
  simp only [World.size_alloc] at L_r L_o
  go_enter Try.func59, Try.ntmps59
  go_wp2_with fail
  refine (toRect_any _ _ _ _ _ _ _ _ x1 x2 _ (I_1.out.kept B.out) (I_2.out.kept B.out) m1 m2).mono ?_
  rintro e W1 ⟨g1, g2, rfl, o1, o2, hg1, hg2, b1⟩
  simp only [World.size_alloc] at hg1
  replace L_a := Lib.hid (L_a.out.kept b1 L_a.out.inside)
  replace L_r := Lib.hid (L_r.out.kept b1 L_r.out.inside)
  replace L_o := Lib.hid (L_o.out.kept b1 L_o.out.inside)
  replace B := Lib.hid (B.out.trans (b1.mono B.out.size))
  have O_1 := Lib.hid o1
  have O_2 := Lib.hid o2
  clear b1 o1 o2
  have c_a2 : W1.cell? ⟨w.heap.size, 2, none⟩ = some (.int .i64 ref) := L_a.out.cell 2
  have c_a3 : W1.cell? ⟨w.heap.size, 3, none⟩ = some (.int .i64 nsn) := L_a.out.cell 3
  have c_o0 : W1.cell? ⟨w.heap.size + 1 + 1, 0, none⟩ = some (.slice none 0 0) := L_o.out.cell 0
  have f_o0 : W1.frozen? ⟨w.heap.size + 1 + 1, 0, none⟩ = false := L_o.out.thawed 0
  have c_o1 : W1.cell? ⟨w.heap.size + 1 + 1, 1, none⟩ = some (.slice none 0 0) := L_o.out.cell 1
  have f_o1 : W1.frozen? ⟨w.heap.size + 1 + 1, 1, none⟩ = false := L_o.out.thawed 1
  have c_o2 : W1.cell? ⟨w.heap.size + 1 + 1, 2, none⟩ = some (.int .i64 0) := L_o.out.cell 2
  have f_o2 : W1.frozen? ⟨w.heap.size + 1 + 1, 2, none⟩ = false := L_o.out.thawed 2
  have c_o3 : W1.cell? ⟨w.heap.size + 1 + 1, 3, none⟩ = some (.int .i64 0) := L_o.out.cell 3
  have f_o3 : W1.frozen? ⟨w.heap.size + 1 + 1, 3, none⟩ = false := L_o.out.thawed 3
  have c_r0 : W1.cell? ⟨w.heap.size + 1, 0, none⟩ = some (.slice none 0 0) := L_r.out.cell 0
  have f_r0 : W1.frozen? ⟨w.heap.size + 1, 0, none⟩ = false := L_r.out.thawed 0
  have c_r1 : W1.cell? ⟨w.heap.size + 1, 1, none⟩ = some (.slice none 0 0) := L_r.out.cell 1
  have f_r1 : W1.frozen? ⟨w.heap.size + 1, 1, none⟩ = false := L_r.out.thawed 1
  have c_r2 : W1.cell? ⟨w.heap.size + 1, 2, none⟩ = some (.int .i64 0) := L_r.out.cell 2
  have f_r2 : W1.frozen? ⟨w.heap.size + 1, 2, none⟩ = false := L_r.out.thawed 2
  have c_r3 : W1.cell? ⟨w.heap.size + 1, 3, none⟩ = some (.int .i64 0) := L_r.out.cell 3
  have f_r3 : W1.frozen? ⟨w.heap.size + 1, 3, none⟩ = false := L_r.out.thawed 3
  go_wp2
  refine bodyPost_ret (v := .agg #[.slice (some ⟨g1, 0, none⟩) n1 n1, .slice (some ⟨g2, 0, none⟩) n2 n2, .int .i64 ref, .int .i64 nsn]) (by simp [results, Try.results59, go_sem, c_r0, c_r1, c_r2, c_r3]) rfl ⟨g1, g2, rfl, ?_, ?_, by omega, hg2, ?_⟩
  · with_reducible (repeat (first | exact O_1.out | refine Own.far ?_ ?_ _))
    all_goals (first | (show g1 ≠ w.heap.size + 1 + 1; omega) | (show g1 ≠ w.heap.size + 1; omega))
  · with_reducible (repeat (first | exact O_2.out | refine Own.far ?_ ?_ _))
    all_goals (first | (show g2 ≠ w.heap.size + 1 + 1; omega) | (show g2 ≠ w.heap.size + 1; omega))
  · with_reducible (repeat (first | exact B.out | refine Below.setCell ?_ ?_ _))
    all_goals (first | (show w.heap.size ≤ w.heap.size + 1 + 1; omega) | (show w.heap.size ≤ w.heap.size + 1; omega))

end Go.Proofs.Ytblhcnafoejahaa
