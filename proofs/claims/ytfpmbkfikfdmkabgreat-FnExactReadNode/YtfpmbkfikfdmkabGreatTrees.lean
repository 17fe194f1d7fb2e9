/- Trees: what they are in memory, and the laws' helpers szTree, eqTree, toTree. -/
import Derived.Test.YtfpmbkfikfdmkabGreatArenas
namespace Go.Proofs.YtfpmbkfikfdmkabGreat
open Go.RowKit


set_option maxHeartbeats 1600000 in
theorem eqTree_same (st d rt rn ct : Int) (c4 c5 c6 : Nat) (A4 A5 A6 : Option Addr) (ns' : List NV) (rs' : List RV) (A1 A2 A3 : Option Addr) (n1 c1 n2 c2 n3 c3 : Nat) (ns : List NV) (fs : List Int) (rs : List RV) (w : World) (hp : ArenaL w A1 A2 A3 n1 n2 n3 ns fs rs) (hq : ArenaL w A4 A5 A6 n1 n2 n3 ns' fs rs') (hv : ns.map NV.val = ns'.map NV.val) (hr : rs.map RV.val = rs'.map RV.val) :
    Calls Tryz.prog 82 #[.agg #[.int .i64 st, .int .i64 d, .slice A1 n1 c1, .slice A2 n2 c2, .slice A3 n3 c3, .int .i64 rt, .int .i64 rn, .int .i64 ct], .agg #[.int .i64 st, .int .i64 d, .slice A4 n1 c4, .slice A5 n2 c5, .slice A6 n3 c6, .int .i64 rt, .int .i64 rn, .int .i64 ct]] w fun e w' => e = .returned (.bool true) ∧ Below w.heap.size w w' := by
  have e1 : (st != st) = false := by simp
  have e2 : (rt != rt) = false := by simp
  have e3 : (rn != rn) = false := by simp
  have e4 : (ct != ct) = false := by simp
  have HP := Lib.hid hp
  have HQ := Lib.hid hq
  have HV := Lib.hid hv
  have HR := Lib.hid hr
  clear hp hq hv hr
  have B := Lib.hid (below_alloc w (.cells #[.int .i64 st, .int .i64 d, .slice A1 n1 c1, .slice A2 n2 c2, .slice A3 n3 c3, .int .i64 rt, .int .i64 rn, .int .i64 ct] 61))
  replace B := Lib.hid (B.out.alloc B.out.size (.cells #[.int .i64 st, .int .i64 d, .slice A4 n1 c4, .slice A5 n2 c5, .slice A6 n3 c6, .int .i64 rt, .int .i64 rn, .int .i64 ct] 61))
  have L_a := Lib.hid ((Lies.new w 61 #[.int .i64 st, .int .i64 d, .slice A1 n1 c1, .slice A2 n2 c2, .slice A3 n3 c3, .int .i64 rt, .int .i64 rn, .int .i64 ct]).alloc (.cells #[.int .i64 st, .int .i64 d, .slice A4 n1 c4, .slice A5 n2 c5, .slice A6 n3 c6, .int .i64 rt, .int .i64 rn, .int .i64 ct] 61))
  have L_b := Lib.hid (Lies.new (w.alloc (.cells #[.int .i64 st, .int .i64 d, .slice A1 n1 c1, .slice A2 n2 c2, .slice A3 n3 c3, .int .i64 rt, .int .i64 rn, .int .i64 ct] 61)) 61 #[.int .i64 st, .int .i64 d, .slice A4 n1 c4, .slice A5 n2 c5, .slice A6 n3 c6, .int .i64 rt, .int .i64 rn, .int .i64 ct])
  simp only [World.size_alloc] at L_b
  go_enter Tryz.func82, Tryz.ntmps82
  go_wp2_with fail
  refine (eqArena_same d _ _ _ _ _ _ ns' rs' _ _ _ _ _ _ _ _ _ ns fs rs _ (HP.out.kept B.out) (HQ.out.kept B.out) HV.out HR.out).mono ?_
  rintro e W1 ⟨rfl, b1⟩
  replace L_a := Lib.hid (L_a.out.kept b1 L_a.out.inside)
  replace L_b := Lib.hid (L_b.out.kept b1 L_b.out.inside)
  replace B := Lib.hid (B.out.trans (b1.mono B.out.size))
  clear b1
  have a5 : W1.cell? ⟨w.heap.size, 5, none⟩ = some (.int .i64 rt) := L_a.out.cell 5
  have a6 : W1.cell? ⟨w.heap.size, 6, none⟩ = some (.int .i64 rn) := L_a.out.cell 6
  have a7 : W1.cell? ⟨w.heap.size, 7, none⟩ = some (.int .i64 ct) := L_a.out.cell 7
  have b5 : W1.cell? ⟨w.heap.size + 1, 5, none⟩ = some (.int .i64 rt) := L_b.out.cell 5
  have b6 : W1.cell? ⟨w.heap.size + 1, 6, none⟩ = some (.int .i64 rn) := L_b.out.cell 6
  have b7 : W1.cell? ⟨w.heap.size + 1, 7, none⟩ = some (.int .i64 ct) := L_b.out.cell 7
  go_wp2
  go_ret
  exact ⟨rfl, B.out⟩


end Go.Proofs.YtfpmbkfikfdmkabGreat
