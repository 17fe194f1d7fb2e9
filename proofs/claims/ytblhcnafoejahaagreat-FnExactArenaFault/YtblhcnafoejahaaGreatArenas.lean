/- Arenas: what they are in memory, and the laws' helpers szArena, toArena, eqArena. -/
import Derived.Test.YtblhcnafoejahaaGreatNodeLists
import Derived.Test.YtblhcnafoejahaaGreatRetireds
import Derived.Test.YtblhcnafoejahaaGreatOrders
namespace Go.Proofs.YtblhcnafoejahaaGreat
open Go.RowKit

/-- The three slices of an arena read as nodes, numbers and retired places. -/
structure ArenaL (w : World) (A1 A2 A3 : Option Addr) (n1 n2 n3 : Nat) (ns : List NV) (fs : List Int) (rs : List RV) : Prop where
  N : NodesL w A1 n1 ns
  F : Ints w 0 A2 n2 fs
  R : Rets w A3 n3 rs
  m1 : n1 ≤ maxLen
  m2 : n2 ≤ maxLen
  m3 : n3 ≤ maxLen
theorem ArenaL.kept {w w' : World} {A1 A2 A3 : Option Addr} {n1 n2 n3 : Nat} {ns : List NV} {fs : List Int} {rs : List RV} (h : ArenaL w A1 A2 A3 n1 n2 n3 ns fs rs) (hb : Below w.heap.size w w') : ArenaL w' A1 A2 A3 n1 n2 n3 ns fs rs :=
  ⟨h.N.kept hb, h.F.kept hb, h.R.kept hb, h.m1, h.m2, h.m3⟩

/-- An arena that is not too great. -/
structure SmallA (n1 n2 n3 : Nat) (ns : List NV) (rs : List RV) : Prop where
  s1 : n1 ≤ 1048576
  s2 : n2 ≤ 1048576
  s3 : n3 ≤ 1048576
  N : SmallN 1048576 ns
  R : SmallR 1048576 rs
theorem SmallN.mono {l l' : Int} {ps : List NV} (h : SmallN l ps) (hl : l ≤ l') : SmallN l' ps := fun k p hk => ⟨Int.le_trans (h k p hk).1 hl, (h k p hk).2.mono hl⟩
theorem SmallR.mono {l l' : Int} {ps : List RV} (h : SmallR l ps) (hl : l ≤ l') : SmallR l' ps := fun k p hk => Int.le_trans (h k p hk) hl
theorem NodesOwn.far {w : World} {g n : Nat} {qs : List NV} (h : NodesOwn w g n qs) {a : Addr} (hne : a.block < g) (v : Value) : NodesOwn (w.setCell a v) g n qs := by
  obtain ⟨⟨f, h1, h2⟩, hl, h3⟩ := h
  refine ⟨⟨f, h1.setOther (by omega) v, h2⟩, hl, fun q hq => ?_⟩
  obtain ⟨k1, k2, k3, g1, k5, k7, k9⟩ := h3 q hq
  exact ⟨k1, k2, k3, g1, k5, k7, k9.far (by omega) v⟩

/-- An arena of the call's own. -/
structure ArenaOwn (w : World) (base g1 g2 g3 n1 n2 n3 : Nat) (ns : List NV) (fs : List Int) (rs : List RV) : Prop where
  N : NodesOwn w g1 n1 ns
  F : Own w g2 n2 fs
  R : RetsOwn w g3 n3 rs
  l1 : ns.length = n1
  l3 : rs.length = n3
  b1 : base ≤ g1
  b2 : g1 < g2
  b3 : g2 < g3
section
variable {w w' : World} {base g1 g2 g3 n1 n2 n3 : Nat} {ns : List NV} {fs : List Int} {rs : List RV}
theorem ArenaOwn.kept (h : ArenaOwn w base g1 g2 g3 n1 n2 n3 ns fs rs) (hb : Below w.heap.size w w') : ArenaOwn w' base g1 g2 g3 n1 n2 n3 ns fs rs :=
  ⟨h.N.kept hb, h.F.kept hb, h.R.kept hb, h.l1, h.l3, h.b1, h.b2, h.b3⟩
theorem ArenaOwn.far (h : ArenaOwn w base g1 g2 g3 n1 n2 n3 ns fs rs) {a : Addr} (hne : a.block < g1) (v : Value) : ArenaOwn (w.setCell a v) base g1 g2 g3 n1 n2 n3 ns fs rs :=
  ⟨h.N.far hne v, h.F.far (by have := h.b2; omega) v, h.R.far (by have := h.b2; have := h.b3; omega) v, h.l1, h.l3, h.b1, h.b2, h.b3⟩
theorem ArenaOwn.arena (h : ArenaOwn w base g1 g2 g3 n1 n2 n3 ns fs rs) (s1 : n1 ≤ 1048576) (s2 : n2 ≤ 1048576) (s3 : n3 ≤ 1048576) : ArenaL w (some ⟨g1, 0, none⟩) (some ⟨g2, 0, none⟩) (some ⟨g3, 0, none⟩) n1 n2 n3 ns fs rs :=
  ⟨h.N.nodes h.l1, h.F.ints (Nat.zero_le _), h.R.rets h.l3, Nat.le_trans s1 (by decide), Nat.le_trans s2 (by decide), Nat.le_trans s3 (by decide)⟩
end

set_option maxHeartbeats 1600000 in
theorem szArena_any (d l : Int) (A1 A2 A3 : Option Addr) (n1 c1 n2 c2 n3 c3 : Nat) (ns : List NV) (fs : List Int) (rs : List RV) (w : World) (hp : ArenaL w A1 A2 A3 n1 n2 n3 ns fs rs) (h0 : 0 ≤ l) (h1 : l ≤ 1048576) :
    Calls Tryz.prog 4 #[.agg #[.int .i64 d, .slice A1 n1 c1, .slice A2 n2 c2, .slice A3 n3 c3], .int .i64 l] w fun e w' => ∃ r : Int, e = .returned (.int .i64 r) ∧ (r = -1 ∨ (0 ≤ r ∧ r ≤ l ∧ SmallA n1 n2 n3 ns rs)) ∧ Below w.heap.size w w' := by
  have HP := Lib.hid hp
  have m1 := hp.m1
  have m2 := hp.m2
  have m3 := hp.m3
  clear hp
  have B := Lib.hid (below_alloc w (.cells #[.int .i64 d, .slice A1 n1 c1, .slice A2 n2 c2, .slice A3 n3 c3] 26))
  have L_a := Lib.hid (Lies.new w 26 #[.int .i64 d, .slice A1 n1 c1, .slice A2 n2 c2, .slice A3 n3 c3])
  go_enter Tryz.func4, Tryz.ntmps4
  go_wp2_with fail
  refine (szNodeS_any l _ _ _ ns _ (HP.out.N.kept B.out) m1 h0 h1).mono ?_
  rintro e W1 ⟨r, rfl, hr, b1⟩
  replace L_a := Lib.hid (L_a.out.kept b1 L_a.out.inside)
  replace B := Lib.hid (B.out.trans (b1.mono B.out.size))
  clear b1
  rcases hr with rfl | ⟨r0, r1, hn1, hs1⟩
  · go_wp2
    go_ret
    exact ⟨-1, rfl, Or.inl rfl, B.out⟩
  have hr0 : ¬ r < 0 := by omega
  have HS := Lib.hid hs1
  clear hs1
  have a2 : W1.cell? ⟨w.heap.size, 2, none⟩ = some (.slice A2 n2 c2) := L_a.out.cell 2
  by_cases hs : r < n2
  · go_wp2_with fail
    refine (szInt64S_no _ _ _ _ _ r0 (by omega) m2 hs).mono ?_
    rintro e W2 ⟨rfl, rfl⟩
    go_wp2
    go_ret
    exact ⟨-1, rfl, Or.inl rfl, B.out⟩
  have hs2 : (n2 : Int) ≤ r := by omega
  have hk : ¬ (r - n2 < 0) := by omega
  clear hs
  go_wp2_with fail
  refine (szInt64S_yes _ _ _ _ _ r0 (by omega) m2 hs2).mono ?_
  rintro e W2 ⟨rfl, rfl⟩
  have a3 : W1.cell? ⟨w.heap.size, 3, none⟩ = some (.slice A3 n3 c3) := L_a.out.cell 3
  go_wp2_with fail
  refine (szRetiredS_any (r - n2) _ _ _ rs _ (HP.out.R.kept B.out) m3 (by omega) (by omega)).mono ?_
  rintro e W2 ⟨q, rfl, hq, b2⟩
  replace B := Lib.hid (B.out.trans (b2.mono B.out.size))
  clear b2 a2 a3 hk
  rcases hq with rfl | ⟨q0, q1, hn3, hs3⟩
  · go_wp2
    go_ret
    exact ⟨-1, rfl, Or.inl rfl, B.out⟩
  have hq0 : ¬ q < 0 := by omega
  have HA : Hid (SmallA n1 n2 n3 ns rs) := ⟨by omega, by omega, by omega, HS.out.mono h1, hs3.mono (by omega)⟩
  clear hs3 HS
  go_wp2
  go_ret
  exact ⟨q, rfl, Or.inr ⟨q0, by omega, HA.out⟩, B.out⟩

set_option maxHeartbeats 1600000 in
theorem eqArena_same (d : Int) (c4 c5 c6 : Nat) (A4 A5 A6 : Option Addr) (ns' : List NV) (rs' : List RV) (A1 A2 A3 : Option Addr) (n1 c1 n2 c2 n3 c3 : Nat) (ns : List NV) (fs : List Int) (rs : List RV) (w : World) (hp : ArenaL w A1 A2 A3 n1 n2 n3 ns fs rs) (hq : ArenaL w A4 A5 A6 n1 n2 n3 ns' fs rs') (hv : ns.map NV.val = ns'.map NV.val) (hr : rs.map RV.val = rs'.map RV.val) :
    Calls Tryz.prog 8 #[.agg #[.int .i64 d, .slice A1 n1 c1, .slice A2 n2 c2, .slice A3 n3 c3], .agg #[.int .i64 d, .slice A4 n1 c4, .slice A5 n2 c5, .slice A6 n3 c6]] w fun e w' => e = .returned (.bool true) ∧ Below w.heap.size w w' := by
  have e1 : (d != d) = false := by simp
  have HP := Lib.hid hp
  have HQ := Lib.hid hq
  have HV := Lib.hid hv
  have HR := Lib.hid hr
  have m1 := hp.m1
  have m2 := hp.m2
  have m3 := hp.m3
  clear hp hq hv hr
  have B := Lib.hid (below_alloc w (.cells #[.int .i64 d, .slice A1 n1 c1, .slice A2 n2 c2, .slice A3 n3 c3] 32))
  replace B := Lib.hid (B.out.alloc B.out.size (.cells #[.int .i64 d, .slice A4 n1 c4, .slice A5 n2 c5, .slice A6 n3 c6] 32))
  have L_a := Lib.hid ((Lies.new w 32 #[.int .i64 d, .slice A1 n1 c1, .slice A2 n2 c2, .slice A3 n3 c3]).alloc (.cells #[.int .i64 d, .slice A4 n1 c4, .slice A5 n2 c5, .slice A6 n3 c6] 32))
  have L_b := Lib.hid (Lies.new (w.alloc (.cells #[.int .i64 d, .slice A1 n1 c1, .slice A2 n2 c2, .slice A3 n3 c3] 32)) 32 #[.int .i64 d, .slice A4 n1 c4, .slice A5 n2 c5, .slice A6 n3 c6])
  simp only [World.size_alloc] at L_b
  go_enter Tryz.func8, Tryz.ntmps8
  go_wp2_with fail
  refine (eqNodeS_same _ _ _ _ _ ns ns' _ (HP.out.N.kept B.out) (HQ.out.N.kept B.out) HV.out m1).mono ?_
  rintro e W1 ⟨rfl, b1⟩
  replace L_a := Lib.hid (L_a.out.kept b1 L_a.out.inside)
  replace L_b := Lib.hid (L_b.out.kept b1 L_b.out.inside)
  replace B := Lib.hid (B.out.trans (b1.mono B.out.size))
  clear b1
  have a2 : W1.cell? ⟨w.heap.size, 2, none⟩ = some (.slice A2 n2 c2) := L_a.out.cell 2
  have a3 : W1.cell? ⟨w.heap.size + 1, 2, none⟩ = some (.slice A5 n2 c5) := L_b.out.cell 2
  go_wp2_with fail
  refine (eqInt64S_is true _ _ _ _ _ _ _ _ fs fs _ (by simp) (HP.out.F.kept B.out) (HQ.out.F.kept B.out) m2).mono ?_
  rintro e W2 ⟨rfl, q, rfl⟩
  replace B := Lib.hid (below_draws B.out q)
  replace L_a := Lib.hid (L_a.out.draws q)
  replace L_b := Lib.hid (L_b.out.draws q)
  clear a2 a3
  have a2 : (W1.drewN q).cell? ⟨w.heap.size, 3, none⟩ = some (.slice A3 n3 c3) := L_a.out.cell 3
  have a3 : (W1.drewN q).cell? ⟨w.heap.size + 1, 3, none⟩ = some (.slice A6 n3 c6) := L_b.out.cell 3
  generalize hW : W1.drewN q = W2 at *
  clear hW
  go_wp2_with fail
  refine (eqRetiredS_same _ _ _ _ _ rs rs' _ (HP.out.R.kept B.out) (HQ.out.R.kept B.out) HR.out m3).mono ?_
  rintro e W3 ⟨rfl, b3⟩
  replace B := Lib.hid (B.out.trans (b3.mono B.out.size))
  clear b3 a2 a3
  go_wp2
  go_ret
  exact ⟨rfl, B.out⟩

set_option maxHeartbeats 3200000 in
theorem toArena_any (d : Int) (A1 A2 A3 : Option Addr) (n1 c1 n2 c2 n3 c3 : Nat) (ns : List NV) (fs : List Int) (rs : List RV) (w : World) (hp : ArenaL w A1 A2 A3 n1 n2 n3 ns fs rs) (hs : SmallA n1 n2 n3 ns rs) :
    Calls Tryz.prog 6 #[.agg #[.int .i64 d, .slice A1 n1 c1, .slice A2 n2 c2, .slice A3 n3 c3]] w fun e w' => ∃ g1 g2 g3 ns' rs', e = .returned (.agg #[.int .i64 d, .slice (some ⟨g1, 0, none⟩) n1 n1, .slice (some ⟨g2, 0, none⟩) n2 n2, .slice (some ⟨g3, 0, none⟩) n3 n3]) ∧ ArenaOwn w' w.heap.size g1 g2 g3 n1 n2 n3 ns' fs rs' ∧ ns'.map NV.val = ns.map NV.val ∧ rs'.map RV.val = rs.map RV.val ∧ Below w.heap.size w w' := by
  have HP := Lib.hid hp
  have HS := Lib.hid hs
  clear hp hs
  have B := Lib.hid (below_alloc w (.cells #[.int .i64 d, .slice A1 n1 c1, .slice A2 n2 c2, .slice A3 n3 c3] 26))
  replace B := Lib.hid (B.out.alloc B.out.size (.cells #[.int .i64 0, .slice none 0 0, .slice none 0 0, .slice none 0 0] 32))
  replace B := Lib.hid (B.out.alloc B.out.size (.cells #[.int .i64 d, .slice none 0 0, .slice none 0 0, .slice none 0 0] 32))
  have L_a := Lib.hid (((Lies.new w 26 #[.int .i64 d, .slice A1 n1 c1, .slice A2 n2 c2, .slice A3 n3 c3]).alloc (.cells #[.int .i64 0, .slice none 0 0, .slice none 0 0, .slice none 0 0] 32)).alloc (.cells #[.int .i64 d, .slice none 0 0, .slice none 0 0, .slice none 0 0] 32))
  have L_r := Lib.hid ((Lies.new (w.alloc (.cells #[.int .i64 d, .slice A1 n1 c1, .slice A2 n2 c2, .slice A3 n3 c3] 26)) 32 #[.int .i64 0, .slice none 0 0, .slice none 0 0, .slice none 0 0]).alloc (.cells #[.int .i64 d, .slice none 0 0, .slice none 0 0, .slice none 0 0] 32))
  have L_o := Lib.hid (Lies.new ((w.alloc (.cells #[.int .i64 d, .slice A1 n1 c1, .slice A2 n2 c2, .slice A3 n3 c3] 26)).alloc (.cells #[.int .i64 0, .slice none 0 0, .slice none 0 0, .slice none 0 0] 32)) 32 #[.int .i64 d, .slice none 0 0, .slice none 0 0, .slice none 0 0])
  simp only [World.size_alloc] at L_r L_o
  go_enter Tryz.func6, Tryz.ntmps6
  go_wp2_with fail
  refine (toNodeS_any _ _ _ ns _ (HP.out.N.kept B.out) HS.out.s1 HS.out.N).mono ?_
  rintro e W1 ⟨g1, ns', rfl, hg1, o1, l1, v1, b1⟩
  simp only [World.size_alloc] at hg1
  replace L_a := Lib.hid (L_a.out.kept b1 L_a.out.inside)
  replace L_r := Lib.hid (L_r.out.kept b1 L_r.out.inside)
  replace L_o := Lib.hid (L_o.out.kept b1 L_o.out.inside)
  replace B := Lib.hid (B.out.trans (b1.mono B.out.size))
  have O_1 := Lib.hid o1
  have V_1 := Lib.hid v1
  clear b1 o1 v1
  have c_a2 : W1.cell? ⟨w.heap.size, 2, none⟩ = some (.slice A2 n2 c2) := L_a.out.cell 2
  have c_o0 : W1.cell? ⟨w.heap.size + 1 + 1, 0, none⟩ = some (.int .i64 d) := L_o.out.cell 0
  have f_o0 : W1.frozen? ⟨w.heap.size + 1 + 1, 0, none⟩ = false := L_o.out.thawed 0
  have c_o1 : W1.cell? ⟨w.heap.size + 1 + 1, 1, none⟩ = some (.slice none 0 0) := L_o.out.cell 1
  have f_o1 : W1.frozen? ⟨w.heap.size + 1 + 1, 1, none⟩ = false := L_o.out.thawed 1
  go_wp2_with fail
  clear c_a2 c_o0 f_o0 c_o1 f_o1
  replace L_a := Lib.hid (L_a.out.far (a := ⟨w.heap.size + 1 + 1, 1, none⟩) (by show w.heap.size ≠ w.heap.size + 1 + 1; omega) (.slice (some ⟨g1, 0, none⟩) n1 n1))
  replace L_r := Lib.hid (L_r.out.far (a := ⟨w.heap.size + 1 + 1, 1, none⟩) (by show w.heap.size + 1 ≠ w.heap.size + 1 + 1; omega) (.slice (some ⟨g1, 0, none⟩) n1 n1))
  replace L_o : Hid (Lies (W1.setCell ⟨w.heap.size + 1 + 1, 1, none⟩ (.slice (some ⟨g1, 0, none⟩) n1 n1)) (w.heap.size + 1 + 1) 32 #[.int .i64 d, .slice (some ⟨g1, 0, none⟩) n1 n1, .slice none 0 0, .slice none 0 0]) := Lib.hid (L_o.out.set 1 (.slice (some ⟨g1, 0, none⟩) n1 n1))
  have j_1 := O_1.out.inside
  replace O_1 := Lib.hid (O_1.out.far (a := ⟨w.heap.size + 1 + 1, 1, none⟩) (by show w.heap.size + 1 + 1 < g1; omega) (.slice (some ⟨g1, 0, none⟩) n1 n1))
  replace B := Lib.hid (B.out.setCell (p := ⟨w.heap.size + 1 + 1, 1, none⟩) (by show w.heap.size ≤ w.heap.size + 1 + 1; omega) (.slice (some ⟨g1, 0, none⟩) n1 n1))
  have z_W2 : (W1.setCell ⟨w.heap.size + 1 + 1, 1, none⟩ (.slice (some ⟨g1, 0, none⟩) n1 n1)).heap.size = W1.heap.size := size_of_setCell _ _ _
  generalize hW : W1.setCell ⟨w.heap.size + 1 + 1, 1, none⟩ (.slice (some ⟨g1, 0, none⟩) n1 n1) = W2 at *
  clear hW
  refine (toInt64S_new _ _ _ _ fs _ (HP.out.F.kept B.out) HS.out.s2).mono ?_
  rintro e W3 ⟨g2, rfl, hg2, o2, b3⟩
  have hg12 : g1 < g2 := by omega
  have zb3 := b3.size
  replace L_a := Lib.hid (L_a.out.kept b3 L_a.out.inside)
  replace L_r := Lib.hid (L_r.out.kept b3 L_r.out.inside)
  replace L_o := Lib.hid (L_o.out.kept b3 L_o.out.inside)
  replace O_1 := Lib.hid (O_1.out.kept b3)
  replace B := Lib.hid (B.out.trans (b3.mono B.out.size))
  have O_2 := Lib.hid o2
  clear b3 o2
  have c_a3 : W3.cell? ⟨w.heap.size, 3, none⟩ = some (.slice A3 n3 c3) := L_a.out.cell 3
  have c_o0 : W3.cell? ⟨w.heap.size + 1 + 1, 0, none⟩ = some (.int .i64 d) := L_o.out.cell 0
  have f_o0 : W3.frozen? ⟨w.heap.size + 1 + 1, 0, none⟩ = false := L_o.out.thawed 0
  have c_o1 : W3.cell? ⟨w.heap.size + 1 + 1, 1, none⟩ = some (.slice (some ⟨g1, 0, none⟩) n1 n1) := L_o.out.cell 1
  have f_o1 : W3.frozen? ⟨w.heap.size + 1 + 1, 1, none⟩ = false := L_o.out.thawed 1
  have c_o2 : W3.cell? ⟨w.heap.size + 1 + 1, 2, none⟩ = some (.slice none 0 0) := L_o.out.cell 2
  have f_o2 : W3.frozen? ⟨w.heap.size + 1 + 1, 2, none⟩ = false := L_o.out.thawed 2
  go_wp2_with fail
  clear c_a3 c_o0 f_o0 c_o1 f_o1 c_o2 f_o2
  replace L_a := Lib.hid (L_a.out.far (a := ⟨w.heap.size + 1 + 1, 2, none⟩) (by show w.heap.size ≠ w.heap.size + 1 + 1; omega) (.slice (some ⟨g2, 0, none⟩) n2 n2))
  replace L_r := Lib.hid (L_r.out.far (a := ⟨w.heap.size + 1 + 1, 2, none⟩) (by show w.heap.size + 1 ≠ w.heap.size + 1 + 1; omega) (.slice (some ⟨g2, 0, none⟩) n2 n2))
  replace L_o : Hid (Lies (W3.setCell ⟨w.heap.size + 1 + 1, 2, none⟩ (.slice (some ⟨g2, 0, none⟩) n2 n2)) (w.heap.size + 1 + 1) 32 #[.int .i64 d, .slice (some ⟨g1, 0, none⟩) n1 n1, .slice (some ⟨g2, 0, none⟩) n2 n2, .slice none 0 0]) := Lib.hid (L_o.out.set 2 (.slice (some ⟨g2, 0, none⟩) n2 n2))
  have j_1 := O_1.out.inside
  replace O_1 := Lib.hid (O_1.out.far (a := ⟨w.heap.size + 1 + 1, 2, none⟩) (by show w.heap.size + 1 + 1 < g1; omega) (.slice (some ⟨g2, 0, none⟩) n2 n2))
  have j_2 := O_2.out.inside
  replace O_2 := Lib.hid (O_2.out.far (a := ⟨w.heap.size + 1 + 1, 2, none⟩) (by show g2 ≠ w.heap.size + 1 + 1; omega) (.slice (some ⟨g2, 0, none⟩) n2 n2))
  replace B := Lib.hid (B.out.setCell (p := ⟨w.heap.size + 1 + 1, 2, none⟩) (by show w.heap.size ≤ w.heap.size + 1 + 1; omega) (.slice (some ⟨g2, 0, none⟩) n2 n2))
  have z_W4 : (W3.setCell ⟨w.heap.size + 1 + 1, 2, none⟩ (.slice (some ⟨g2, 0, none⟩) n2 n2)).heap.size = W3.heap.size := size_of_setCell _ _ _
  generalize hW : W3.setCell ⟨w.heap.size + 1 + 1, 2, none⟩ (.slice (some ⟨g2, 0, none⟩) n2 n2) = W4 at *
  clear hW
  refine (toRetiredS_any _ _ _ rs _ (HP.out.R.kept B.out) HS.out.s3 HS.out.R).mono ?_
  rintro e W5 ⟨g3, rs', rfl, hg3, o3, l3, v3, b5⟩
  have hg23 : g2 < g3 := by omega
  replace L_r := Lib.hid (L_r.out.kept b5 L_r.out.inside)
  replace L_o := Lib.hid (L_o.out.kept b5 L_o.out.inside)
  replace O_1 := Lib.hid (O_1.out.kept b5)
  replace O_2 := Lib.hid (O_2.out.kept b5)
  replace B := Lib.hid (B.out.trans (b5.mono B.out.size))
  have AO : Hid (ArenaOwn W5 w.heap.size g1 g2 g3 n1 n2 n3 ns' fs rs') := ⟨O_1.out, O_2.out, o3, l1, l3, by omega, hg12, hg23⟩
  have V_3 := Lib.hid v3
  clear b5 o3 O_1 O_2 L_a l1 l3 v3 hg2 hg3 hg12 hg23 z_W2 z_W4 j_1 j_2 zb3
  have c_o0 : W5.cell? ⟨w.heap.size + 1 + 1, 0, none⟩ = some (.int .i64 d) := L_o.out.cell 0
  have f_o0 : W5.frozen? ⟨w.heap.size + 1 + 1, 0, none⟩ = false := L_o.out.thawed 0
  have c_o1 : W5.cell? ⟨w.heap.size + 1 + 1, 1, none⟩ = some (.slice (some ⟨g1, 0, none⟩) n1 n1) := L_o.out.cell 1
  have f_o1 : W5.frozen? ⟨w.heap.size + 1 + 1, 1, none⟩ = false := L_o.out.thawed 1
  have c_o2 : W5.cell? ⟨w.heap.size + 1 + 1, 2, none⟩ = some (.slice (some ⟨g2, 0, none⟩) n2 n2) := L_o.out.cell 2
  have f_o2 : W5.frozen? ⟨w.heap.size + 1 + 1, 2, none⟩ = false := L_o.out.thawed 2
  have c_o3 : W5.cell? ⟨w.heap.size + 1 + 1, 3, none⟩ = some (.slice none 0 0) := L_o.out.cell 3
  have f_o3 : W5.frozen? ⟨w.heap.size + 1 + 1, 3, none⟩ = false := L_o.out.thawed 3
  have c_r0 : W5.cell? ⟨w.heap.size + 1, 0, none⟩ = some (.int .i64 0) := L_r.out.cell 0
  have f_r0 : W5.frozen? ⟨w.heap.size + 1, 0, none⟩ = false := L_r.out.thawed 0
  have c_r1 : W5.cell? ⟨w.heap.size + 1, 1, none⟩ = some (.slice none 0 0) := L_r.out.cell 1
  have f_r1 : W5.frozen? ⟨w.heap.size + 1, 1, none⟩ = false := L_r.out.thawed 1
  have c_r2 : W5.cell? ⟨w.heap.size + 1, 2, none⟩ = some (.slice none 0 0) := L_r.out.cell 2
  have f_r2 : W5.frozen? ⟨w.heap.size + 1, 2, none⟩ = false := L_r.out.thawed 2
  have c_r3 : W5.cell? ⟨w.heap.size + 1, 3, none⟩ = some (.slice none 0 0) := L_r.out.cell 3
  have f_r3 : W5.frozen? ⟨w.heap.size + 1, 3, none⟩ = false := L_r.out.thawed 3
  go_wp2
  refine bodyPost_ret (v := .agg #[.int .i64 d, .slice (some ⟨g1, 0, none⟩) n1 n1, .slice (some ⟨g2, 0, none⟩) n2 n2, .slice (some ⟨g3, 0, none⟩) n3 n3]) (by simp [results, Tryz.results6, go_sem, c_r0, c_r1, c_r2, c_r3]) rfl ⟨g1, g2, g3, ns', rs', rfl, ?_, V_1.out, V_3.out, ?_⟩
  · with_reducible (repeat (first | exact AO.out | refine ArenaOwn.far ?_ ?_ _))
    all_goals (first | (show w.heap.size + 1 + 1 < g1; omega) | (show w.heap.size + 1 < g1; omega))
  · with_reducible (repeat (first | exact B.out | refine Below.setCell ?_ ?_ _))
    all_goals (first | (show w.heap.size ≤ w.heap.size + 1 + 1; omega) | (show w.heap.size ≤ w.heap.size + 1; omega))

end Go.Proofs.YtblhcnafoejahaaGreat
