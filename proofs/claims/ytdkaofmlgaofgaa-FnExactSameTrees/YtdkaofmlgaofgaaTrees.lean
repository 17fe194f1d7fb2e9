/- Trees: what they are in memory, and the laws' helpers szTree, eqTree, toTree. -/
import Derived.Test.YtdkaofmlgaofgaaArenas
namespace Go.Proofs.Ytdkaofmlgaofgaa
open Go.RowKit

set_option maxHeartbeats 800000 in
theorem szTree_any (st d rt rn ct l : Int) (A1 A2 A3 : Option Addr) (n1 c1 n2 c2 n3 c3 : Nat) (ns : List NV) (fs : List Int) (rs : List RV) (w : World) (hp : ArenaL w A1 A2 A3 n1 n2 n3 ns fs rs) (h0 : 0 ≤ l) (h1 : l ≤ 1048576) :
    Calls Try.prog 4 #[.agg #[.int .i64 st, .int .i64 d, .slice A1 n1 c1, .slice A2 n2 c2, .slice A3 n3 c3, .int .i64 rt, .int .i64 rn, .int .i64 ct], .int .i64 l] w fun e w' => ∃ r : Int, e = .returned (.int .i64 r) ∧ (r = -1 ∨ (0 ≤ r ∧ r ≤ l ∧ SmallA n1 n2 n3 ns rs)) ∧ Below w.heap.size w w' := by
  have HP := Lib.hid hp
  clear hp
  have B := Lib.hid (below_alloc w (.cells #[.int .i64 st, .int .i64 d, .slice A1 n1 c1, .slice A2 n2 c2, .slice A3 n3 c3, .int .i64 rt, .int .i64 rn, .int .i64 ct] 28))
  go_enter Try.func4, Try.ntmps4
  go_wp2_with fail
  refine (szArena_any d l _ _ _ _ _ _ _ _ _ ns fs rs _ (HP.out.kept B.out) h0 h1).mono ?_
  rintro e W1 ⟨r, rfl, hr, b1⟩
  replace B := Lib.hid (B.out.trans (b1.mono B.out.size))
  clear b1
  rcases hr with rfl | ⟨r0, r1, hs⟩
  · go_wp2
    go_ret
    exact ⟨-1, rfl, Or.inl rfl, B.out⟩
  have hr0 : ¬ r < 0 := by omega
  have HS := Lib.hid hs
  clear hs
  go_wp2
  go_ret
  exact ⟨r, rfl, Or.inr ⟨r0, r1, HS.out⟩, B.out⟩

set_option maxHeartbeats 1600000 in
theorem eqTree_same (st d rt rn ct : Int) (c4 c5 c6 : Nat) (A4 A5 A6 : Option Addr) (ns' : List NV) (rs' : List RV) (A1 A2 A3 : Option Addr) (n1 c1 n2 c2 n3 c3 : Nat) (ns : List NV) (fs : List Int) (rs : List RV) (w : World) (hp : ArenaL w A1 A2 A3 n1 n2 n3 ns fs rs) (hq : ArenaL w A4 A5 A6 n1 n2 n3 ns' fs rs') (hv : ns.map NV.val = ns'.map NV.val) (hr : rs.map RV.val = rs'.map RV.val) :
    Calls Try.prog 8 #[.agg #[.int .i64 st, .int .i64 d, .slice A1 n1 c1, .slice A2 n2 c2, .slice A3 n3 c3, .int .i64 rt, .int .i64 rn, .int .i64 ct], .agg #[.int .i64 st, .int .i64 d, .slice A4 n1 c4, .slice A5 n2 c5, .slice A6 n3 c6, .int .i64 rt, .int .i64 rn, .int .i64 ct]] w fun e w' => e = .returned (.bool true) ∧ Below w.heap.size w w' := by
  have e1 : (st != st) = false := by simp
  have e2 : (rt != rt) = false := by simp
  have e3 : (rn != rn) = false := by simp
  have e4 : (ct != ct) = false := by simp
  have HP := Lib.hid hp
  have HQ := Lib.hid hq
  have HV := Lib.hid hv
  have HR := Lib.hid hr
  clear hp hq hv hr
  have B := Lib.hid (below_alloc w (.cells #[.int .i64 st, .int .i64 d, .slice A1 n1 c1, .slice A2 n2 c2, .slice A3 n3 c3, .int .i64 rt, .int .i64 rn, .int .i64 ct] 36))
  replace B := Lib.hid (B.out.alloc B.out.size (.cells #[.int .i64 st, .int .i64 d, .slice A4 n1 c4, .slice A5 n2 c5, .slice A6 n3 c6, .int .i64 rt, .int .i64 rn, .int .i64 ct] 36))
  have L_a := Lib.hid ((Lies.new w 36 #[.int .i64 st, .int .i64 d, .slice A1 n1 c1, .slice A2 n2 c2, .slice A3 n3 c3, .int .i64 rt, .int .i64 rn, .int .i64 ct]).alloc (.cells #[.int .i64 st, .int .i64 d, .slice A4 n1 c4, .slice A5 n2 c5, .slice A6 n3 c6, .int .i64 rt, .int .i64 rn, .int .i64 ct] 36))
  have L_b := Lib.hid (Lies.new (w.alloc (.cells #[.int .i64 st, .int .i64 d, .slice A1 n1 c1, .slice A2 n2 c2, .slice A3 n3 c3, .int .i64 rt, .int .i64 rn, .int .i64 ct] 36)) 36 #[.int .i64 st, .int .i64 d, .slice A4 n1 c4, .slice A5 n2 c5, .slice A6 n3 c6, .int .i64 rt, .int .i64 rn, .int .i64 ct])
  simp only [World.size_alloc] at L_b
  go_enter Try.func8, Try.ntmps8
  go_wp2_with fail
  refine (eqArena_same d _ _ _ _ _ _ ns' rs' _ _ _ _ _ _ _ _ _ ns fs rs _ (HP.out.kept B.out) (HQ.out.kept B.out) HV.out HR.out).mono ?_
  rintro e W1 ⟨rfl, b1⟩
  replace L_a := Lib.hid (L_a.out.kept b1 L_a.out.inside)
  replace L_b := Lib.hid (L_b.out.kept b1 L_b.out.inside)
  replace B := Lib.hid (B.out.trans (b1.mono B.out.size))
  clear b1
  have a5 : W1.cell? ⟨w.heap.size, 5, none⟩ = some (.int .i64 rt) := L_a.out.cell 5
  have a6 : W1.cell? ⟨w.heap.size, 6, none⟩ = some (.int .i64 rn) := L_a.out.cell 6
  have a7 : W1.cell? ⟨w.heap.size, 7, none⟩ = some (.int .i64 ct) := L_a.out.cell 7
  have b5 : W1.cell? ⟨w.heap.size + 1, 5, none⟩ = some (.int .i64 rt) := L_b.out.cell 5
  have b6 : W1.cell? ⟨w.heap.size + 1, 6, none⟩ = some (.int .i64 rn) := L_b.out.cell 6
  have b7 : W1.cell? ⟨w.heap.size + 1, 7, none⟩ = some (.int .i64 ct) := L_b.out.cell 7
  go_wp2
  go_ret
  exact ⟨rfl, B.out⟩

set_option maxHeartbeats 3200000 in
theorem toTree_any (st d rt rn ct : Int) (A1 A2 A3 : Option Addr) (n1 c1 n2 c2 n3 c3 : Nat) (ns : List NV) (fs : List Int) (rs : List RV) (w : World) (hp : ArenaL w A1 A2 A3 n1 n2 n3 ns fs rs) (hs : SmallA n1 n2 n3 ns rs) :
    Calls Try.prog 6 #[.agg #[.int .i64 st, .int .i64 d, .slice A1 n1 c1, .slice A2 n2 c2, .slice A3 n3 c3, .int .i64 rt, .int .i64 rn, .int .i64 ct]] w fun e w' => ∃ g1 g2 g3 ns' rs', e = .returned (.agg #[.int .i64 st, .int .i64 d, .slice (some ⟨g1, 0, none⟩) n1 n1, .slice (some ⟨g2, 0, none⟩) n2 n2, .slice (some ⟨g3, 0, none⟩) n3 n3, .int .i64 rt, .int .i64 rn, .int .i64 ct]) ∧ ArenaOwn w' w.heap.size g1 g2 g3 n1 n2 n3 ns' fs rs' ∧ ns'.map NV.val = ns.map NV.val ∧ rs'.map RV.val = rs.map RV.val ∧ Below w.heap.size w w' := by
  have HP := Lib.hid hp
  have HS := Lib.hid hs
  clear hp hs
  have B := Lib.hid (below_alloc w (.cells #[.int .i64 st, .int .i64 d, .slice A1 n1 c1, .slice A2 n2 c2, .slice A3 n3 c3, .int .i64 rt, .int .i64 rn, .int .i64 ct] 28))
  replace B := Lib.hid (B.out.alloc B.out.size (.cells #[.int .i64 0, .int .i64 0, .slice none 0 0, .slice none 0 0, .slice none 0 0, .int .i64 0, .int .i64 0, .int .i64 0] 36))
  replace B := Lib.hid (B.out.alloc B.out.size (.cells #[.int .i64 st, .int .i64 0, .slice none 0 0, .slice none 0 0, .slice none 0 0, .int .i64 0, .int .i64 0, .int .i64 0] 36))
  have L_a := Lib.hid (((Lies.new w 28 #[.int .i64 st, .int .i64 d, .slice A1 n1 c1, .slice A2 n2 c2, .slice A3 n3 c3, .int .i64 rt, .int .i64 rn, .int .i64 ct]).alloc (.cells #[.int .i64 0, .int .i64 0, .slice none 0 0, .slice none 0 0, .slice none 0 0, .int .i64 0, .int .i64 0, .int .i64 0] 36)).alloc (.cells #[.int .i64 st, .int .i64 0, .slice none 0 0, .slice none 0 0, .slice none 0 0, .int .i64 0, .int .i64 0, .int .i64 0] 36))
  have L_r := Lib.hid ((Lies.new (w.alloc (.cells #[.int .i64 st, .int .i64 d, .slice A1 n1 c1, .slice A2 n2 c2, .slice A3 n3 c3, .int .i64 rt, .int .i64 rn, .int .i64 ct] 28)) 36 #[.int .i64 0, .int .i64 0, .slice none 0 0, .slice none 0 0, .slice none 0 0, .int .i64 0, .int .i64 0, .int .i64 0]).alloc (.cells #[.int .i64 st, .int .i64 0, .slice none 0 0, .slice none 0 0, .slice none 0 0, .int .i64 0, .int .i64 0, .int .i64 0] 36))
  have L_o := Lib.hid (Lies.new ((w.alloc (.cells #[.int .i64 st, .int .i64 d, .slice A1 n1 c1, .slice A2 n2 c2, .slice A3 n3 c3, .int .i64 rt, .int .i64 rn, .int .i64 ct] 28)).alloc (.cells #[.int .i64 0, .int .i64 0, .slice none 0 0, .slice none 0 0, .slice none 0 0, .int .i64 0, .int .i64 0, .int .i64 0] 36)) 36 #[.int .i64 st, .int .i64 0, .slice none 0 0, .slice none 0 0, .slice none 0 0, .int .i64 0, .int .i64 0, .int .i64 0])
  simp only [World.size_alloc] at L_r L_o
  go_enter Try.func6, Try.ntmps6
  go_wp2_with fail
  refine (toArena_any d _ _ _ _ _ _ _ _ _ ns fs rs _ (HP.out.kept B.out) HS.out).mono ?_
  rintro e W1 ⟨g1, g2, g3, ns', rs', rfl, ho, hv, hu, b1⟩
  have hg1 := ho.b1
  simp only [World.size_alloc] at hg1
  replace L_a := Lib.hid (L_a.out.kept b1 L_a.out.inside)
  replace L_r := Lib.hid (L_r.out.kept b1 L_r.out.inside)
  replace L_o := Lib.hid (L_o.out.kept b1 L_o.out.inside)
  replace B := Lib.hid (B.out.trans (b1.mono B.out.size))
  have AO : Hid (ArenaOwn W1 w.heap.size g1 g2 g3 n1 n2 n3 ns' fs rs') := ⟨ho.N, ho.F, ho.R, ho.l1, ho.l3, by omega, ho.b2, ho.b3⟩
  have V := Lib.hid hv
  have U := Lib.hid hu
  clear b1 ho hv hu
  have c_a5 : W1.cell? ⟨w.heap.size, 5, none⟩ = some (.int .i64 rt) := L_a.out.cell 5
  have c_a6 : W1.cell? ⟨w.heap.size, 6, none⟩ = some (.int .i64 rn) := L_a.out.cell 6
  have c_a7 : W1.cell? ⟨w.heap.size, 7, none⟩ = some (.int .i64 ct) := L_a.out.cell 7
  have c_o0 : W1.cell? ⟨w.heap.size + 1 + 1, 0, none⟩ = some (.int .i64 st) := L_o.out.cell 0
  have f_o0 : W1.frozen? ⟨w.heap.size + 1 + 1, 0, none⟩ = false := L_o.out.thawed 0
  have c_o1 : W1.cell? ⟨w.heap.size + 1 + 1, 1, none⟩ = some (.int .i64 0) := L_o.out.cell 1
  have f_o1 : W1.frozen? ⟨w.heap.size + 1 + 1, 1, none⟩ = false := L_o.out.thawed 1
  have c_o2 : W1.cell? ⟨w.heap.size + 1 + 1, 2, none⟩ = some (.slice none 0 0) := L_o.out.cell 2
  have f_o2 : W1.frozen? ⟨w.heap.size + 1 + 1, 2, none⟩ = false := L_o.out.thawed 2
  have c_o3 : W1.cell? ⟨w.heap.size + 1 + 1, 3, none⟩ = some (.slice none 0 0) := L_o.out.cell 3
  have f_o3 : W1.frozen? ⟨w.heap.size + 1 + 1, 3, none⟩ = false := L_o.out.thawed 3
  have c_o4 : W1.cell? ⟨w.heap.size + 1 + 1, 4, none⟩ = some (.slice none 0 0) := L_o.out.cell 4
  have f_o4 : W1.frozen? ⟨w.heap.size + 1 + 1, 4, none⟩ = false := L_o.out.thawed 4
  have c_o5 : W1.cell? ⟨w.heap.size + 1 + 1, 5, none⟩ = some (.int .i64 0) := L_o.out.cell 5
  have f_o5 : W1.frozen? ⟨w.heap.size + 1 + 1, 5, none⟩ = false := L_o.out.thawed 5
  have c_o6 : W1.cell? ⟨w.heap.size + 1 + 1, 6, none⟩ = some (.int .i64 0) := L_o.out.cell 6
  have f_o6 : W1.frozen? ⟨w.heap.size + 1 + 1, 6, none⟩ = false := L_o.out.thawed 6
  have c_o7 : W1.cell? ⟨w.heap.size + 1 + 1, 7, none⟩ = some (.int .i64 0) := L_o.out.cell 7
  have f_o7 : W1.frozen? ⟨w.heap.size + 1 + 1, 7, none⟩ = false := L_o.out.thawed 7
  have c_r0 : W1.cell? ⟨w.heap.size + 1, 0, none⟩ = some (.int .i64 0) := L_r.out.cell 0
  have f_r0 : W1.frozen? ⟨w.heap.size + 1, 0, none⟩ = false := L_r.out.thawed 0
  have c_r1 : W1.cell? ⟨w.heap.size + 1, 1, none⟩ = some (.int .i64 0) := L_r.out.cell 1
  have f_r1 : W1.frozen? ⟨w.heap.size + 1, 1, none⟩ = false := L_r.out.thawed 1
  have c_r2 : W1.cell? ⟨w.heap.size + 1, 2, none⟩ = some (.slice none 0 0) := L_r.out.cell 2
  have f_r2 : W1.frozen? ⟨w.heap.size + 1, 2, none⟩ = false := L_r.out.thawed 2
  have c_r3 : W1.cell? ⟨w.heap.size + 1, 3, none⟩ = some (.slice none 0 0) := L_r.out.cell 3
  have f_r3 : W1.frozen? ⟨w.heap.size + 1, 3, none⟩ = false := L_r.out.thawed 3
  have c_r4 : W1.cell? ⟨w.heap.size + 1, 4, none⟩ = some (.slice none 0 0) := L_r.out.cell 4
  have f_r4 : W1.frozen? ⟨w.heap.size + 1, 4, none⟩ = false := L_r.out.thawed 4
  have c_r5 : W1.cell? ⟨w.heap.size + 1, 5, none⟩ = some (.int .i64 0) := L_r.out.cell 5
  have f_r5 : W1.frozen? ⟨w.heap.size + 1, 5, none⟩ = false := L_r.out.thawed 5
  have c_r6 : W1.cell? ⟨w.heap.size + 1, 6, none⟩ = some (.int .i64 0) := L_r.out.cell 6
  have f_r6 : W1.frozen? ⟨w.heap.size + 1, 6, none⟩ = false := L_r.out.thawed 6
  have c_r7 : W1.cell? ⟨w.heap.size + 1, 7, none⟩ = some (.int .i64 0) := L_r.out.cell 7
  have f_r7 : W1.frozen? ⟨w.heap.size + 1, 7, none⟩ = false := L_r.out.thawed 7
  go_wp2
  refine bodyPost_ret (v := .agg #[.int .i64 st, .int .i64 d, .slice (some ⟨g1, 0, none⟩) n1 n1, .slice (some ⟨g2, 0, none⟩) n2 n2, .slice (some ⟨g3, 0, none⟩) n3 n3, .int .i64 rt, .int .i64 rn, .int .i64 ct]) (by simp [results, Try.results6, go_sem, c_r0, c_r1, c_r2, c_r3, c_r4, c_r5, c_r6, c_r7]) rfl ⟨g1, g2, g3, ns', rs', rfl, ?_, V.out, U.out, ?_⟩
  · with_reducible (repeat (first | exact AO.out | refine ArenaOwn.far ?_ ?_ _))
    all_goals (first | (show w.heap.size + 1 + 1 < g1; omega) | (show w.heap.size + 1 < g1; omega))
  · with_reducible (repeat (first | exact B.out | refine Below.setCell ?_ ?_ _))
    all_goals (first | (show w.heap.size ≤ w.heap.size + 1 + 1; omega) | (show w.heap.size ≤ w.heap.size + 1; omega))

end Go.Proofs.Ytdkaofmlgaofgaa
