/- Arenas: what they are in memory, and the laws' helpers szArena, toArena, eqArena. -/
import Derived.Test.YtblhcnafoejahaaNodeLists
import Derived.Test.YtblhcnafoejahaaRetireds
import Derived.Test.YtblhcnafoejahaaCells
namespace Go.Proofs.Ytblhcnafoejahaa
open Go.RowKit

/-- The three slices of an arena read as nodes, numbers and retired places. -/
structure ArenaL (w : World) (A1 A2 A3 : Option Addr) (n1 n2 n3 : Nat) (ns : List NV) (fs : List Int) (rs : List RV) : Prop where
  N : NodesL w A1 n1 ns
  F : Ints w 0 A2 n2 fs
  R : Rets w A3 n3 rs
  m1 : n1 ≤ maxLen
  m2 : n2 ≤ maxLen
  m3 : n3 ≤ maxLen
theorem ArenaL.kept {w w' : World} {A1 A2 A3 : Option Addr} {n1 n2 n3 : Nat} {ns : List NV} {fs : List Int} {rs : List RV} (h : ArenaL w A1 A2 A3 n1 n2 n3 ns fs rs) (hb : Below w.heap.size w w') : ArenaL w' A1 A2 A3 n1 n2 n3 ns fs rs :=
  ⟨h.N.kept hb, h.F.kept hb, h.R.kept hb, h.m1, h.m2, h.m3⟩

/-- An arena that is not too great. -/
structure SmallA (n1 n2 n3 : Nat) (ns : List NV) (rs : List RV) : Prop where
  s1 : n1 ≤ 1048576
  s2 : n2 ≤ 1048576
  s3 : n3 ≤ 1048576
  N : SmallN 1048576 ns
  R : SmallR 1048576 rs
theorem SmallN.mono {l l' : Int} {ps : List NV} (h : SmallN l ps) (hl : l ≤ l') : SmallN l' ps := fun k p hk => ⟨Int.le_trans (h k p hk).1 hl, (h k p hk).2.mono hl⟩
theorem SmallR.mono {l l' : Int} {ps : List RV} (h : SmallR l ps) (hl : l ≤ l') : SmallR l' ps := fun k p hk => Int.le_trans (h k p hk) hl
theorem NodesOwn.far {w : World} {g n : Nat} {qs : List NV} (h : NodesOwn w g n qs) {a : Addr} (hne : a.block < g) (v : Value) : NodesOwn (w.setCell a v) g n qs := by
  obtain ⟨⟨f, h1, h2⟩, hl, h3⟩ := h
  refine ⟨⟨f, h1.setOther (by omega) v, h2⟩, hl, fun q hq => ?_⟩
  obtain ⟨k1, k2, k3, g1, k5, k7, k9⟩ := h3 q hq
  exact ⟨k1, k2, k3, g1, k5, k7, k9.far (by omega) v⟩

/-- An arena of the call's own. -/
structure ArenaOwn (w : World) (base g1 g2 g3 n1 n2 n3 : Nat) (ns : List NV) (fs : List Int) (rs : List RV) : Prop where
  N : NodesOwn w g1 n1 ns
  F : Own w g2 n2 fs
  R : RetsOwn w g3 n3 rs
  l1 : ns.length = n1
  l3 : rs.length = n3
  b1 : base ≤ g1
  b2 : g1 < g2
  b3 : g2 < g3
section
variable {w w' : World} {base g1 g2 g3 n1 n2 n3 : Nat} {ns : List NV} {fs : List Int} {rs : List RV}
theorem ArenaOwn.kept (h : ArenaOwn w base g1 g2 g3 n1 n2 n3 ns fs rs) (hb : Below w.heap.size w w') : ArenaOwn w' base g1 g2 g3 n1 n2 n3 ns fs rs :=
  ⟨h.N.kept hb, h.F.kept hb, h.R.kept hb, h.l1, h.l3, h.b1, h.b2, h.b3⟩
theorem ArenaOwn.far (h : ArenaOwn w base g1 g2 g3 n1 n2 n3 ns fs rs) {a : Addr} (hne : a.block < g1) (v : Value) : ArenaOwn (w.setCell a v) base g1 g2 g3 n1 n2 n3 ns fs rs :=
  ⟨h.N.far hne v, h.F.far (by have := h.b2; omega) v, h.R.far (by have := h.b2; have := h.b3; omega) v, h.l1, h.l3, h.b1, h.b2, h.b3⟩
theorem ArenaOwn.arena (h : ArenaOwn w base g1 g2 g3 n1 n2 n3 ns fs rs) (s1 : n1 ≤ 1048576) (s2 : n2 ≤ 1048576) (s3 : n3 ≤ 1048576) : ArenaL w (some ⟨g1, 0, none⟩) (some ⟨g2, 0, none⟩) (some ⟨g3, 0, none⟩) n1 n2 n3 ns fs rs :=
  ⟨h.N.nodes h.l1, h.F.ints (Nat.zero_le _), h.R.rets h.l3, Nat.le_trans s1 (by decide), Nat.le_trans s2 (by decide), Nat.le_trans s3 (by decide)⟩
end


set_option maxHeartbeats 1600000 in
theorem eqArena_same (d : Int) (c4 c5 c6 : Nat) (A4 A5 A6 : Option Addr) (ns' : List NV) (rs' : List RV) (A1 A2 A3 : Option Addr) (n1 c1 n2 c2 n3 c3 : Nat) (ns : List NV) (fs : List Int) (rs : List RV) (w : World) (hp : ArenaL w A1 A2 A3 n1 n2 n3 ns fs rs) (hq : ArenaL w A4 A5 A6 n1 n2 n3 ns' fs rs') (hv : ns.map NV.val = ns'.map NV.val) (hr : rs.map RV.val = rs'.map RV.val) :
    Calls Try.prog 54 #[.agg #[.int .i64 d, .slice A1 n1 c1, .slice A2 n2 c2, .slice A3 n3 c3], .agg #[.int .i64 d, .slice A4 n1 c4, .slice A5 n2 c5, .slice A6 n3 c6]] w fun e w' => e = .returned (.bool true) ∧ Below w.heap.size w w' := by
  have e1 : (d != d) = false := by simp
  have HP := Lib.hid hp
  have HQ := Lib.hid hq
  have HV := Lib.hid hv
  have HR := Lib.hid hr
  have m1 := hp.m1
  have m2 := hp.m2
  have m3 := hp.m3
  clear hp hq hv hr
  have B := Lib.hid (below_alloc w (.cells #[.int .i64 d, .slice A1 n1 c1, .slice A2 n2 c2, .slice A3 n3 c3] 55))
  replace B := Lib.hid (B.out.alloc B.out.size (.cells #[.int .i64 d, .slice A4 n1 c4, .slice A5 n2 c5, .slice A6 n3 c6] 55))
  have L_a := Lib.hid ((Lies.new w 55 #[.int .i64 d, .slice A1 n1 c1, .slice A2 n2 c2, .slice A3 n3 c3]).alloc (.cells #[.int .i64 d, .slice A4 n1 c4, .slice A5 n2 c5, .slice A6 n3 c6] 55))
  have L_b := Lib.hid (Lies.new (w.alloc (.cells #[.int .i64 d, .slice A1 n1 c1, .slice A2 n2 c2, .slice A3 n3 c3] 55)) 55 #[.int .i64 d, .slice A4 n1 c4, .slice A5 n2 c5, .slice A6 n3 c6])
  simp only [World.size_alloc] at L_b
  go_enter Try.func54, Try.ntmps54
  go_wp2_with fail
  refine (eqNodeS_same _ _ _ _ _ ns ns' _ (HP.out.N.kept B.out) (HQ.out.N.kept B.out) HV.out m1).mono ?_
  rintro e W1 ⟨rfl, b1⟩
  replace L_a := Lib.hid (L_a.out.kept b1 L_a.out.inside)
  replace L_b := Lib.hid (L_b.out.kept b1 L_b.out.inside)
  replace B := Lib.hid (B.out.trans (b1.mono B.out.size))
  clear b1
  have a2 : W1.cell? ⟨w.heap.size, 2, none⟩ = some (.slice A2 n2 c2) := L_a.out.cell 2
  have a3 : W1.cell? ⟨w.heap.size + 1, 2, none⟩ = some (.slice A5 n2 c5) := L_b.out.cell 2
  go_wp2_with fail
  refine (eqInt64S_is true _ _ _ _ _ _ _ _ fs fs _ (by simp) (HP.out.F.kept B.out) (HQ.out.F.kept B.out) m2).mono ?_
  rintro e W2 ⟨rfl, q, rfl⟩
  replace B := Lib.hid (below_draws B.out q)
  replace L_a := Lib.hid (L_a.out.draws q)
  replace L_b := Lib.hid (L_b.out.draws q)
  clear a2 a3
  have a2 : (W1.drewN q).cell? ⟨w.heap.size, 3, none⟩ = some (.slice A3 n3 c3) := L_a.out.cell 3
  have a3 : (W1.drewN q).cell? ⟨w.heap.size + 1, 3, none⟩ = some (.slice A6 n3 c6) := L_b.out.cell 3
  generalize hW : W1.drewN q = W2 at *
  clear hW
  go_wp2_with fail
  refine (eqRetiredS_same _ _ _ _ _ rs rs' _ (HP.out.R.kept B.out) (HQ.out.R.kept B.out) HR.out m3).mono ?_
  rintro e W3 ⟨rfl, b3⟩
  replace B := Lib.hid (B.out.trans (b3.mono B.out.size))
  clear b3 a2 a3
  go_wp2
  go_ret
  exact ⟨rfl, B.out⟩


end Go.Proofs.Ytblhcnafoejahaa
