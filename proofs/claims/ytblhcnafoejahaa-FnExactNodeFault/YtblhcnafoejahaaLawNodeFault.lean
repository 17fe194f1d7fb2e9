/- FnExactNodeFault: for every node impl.NodeFault answers as the model does and leaves its argument alone. No condition. -/
import Derived.Test.YtblhcnafoejahaaSpecNodeFault
import Derived.Test.YtblhcnafoejahaaReadNode
namespace Go.Proofs.Ytblhcnafoejahaa
open Go.RowKit

set_option maxHeartbeats 3200000 in
theorem lawNodeFault_walk (lv ns rt : Int) (n c : Nat) (A : Option Addr) (ps : List EV) (d : Int) (w : World) (hp : Entries w A n ps) (hn : n ≤ maxLen) :
    Calls Try.prog 3 #[.agg #[.int .i64 lv, .int .i64 ns, .int .i64 rt, .slice A n c], .int .i64 d] w fun e w' => e = .returned (.bool true) ∧ Below w.heap.size w w' := by
  have HP := Lib.hid hp
  clear hp
  have B := Lib.hid (below_alloc w (.cells #[.int .i64 lv, .int .i64 ns, .int .i64 rt, .slice A n c] 24))
  have L_a := Lib.hid (Lies.new w 24 #[.int .i64 lv, .int .i64 ns, .int .i64 rt, .slice A n c])
  go_enter Try.func3, Try.ntmps3
  go_wp2_with fail
  refine (szNode_any _ _ _ 1048576 _ _ _ ps _ (HP.out.kept B.out) hn (by decide) (by decide)).mono ?_
  rintro e W1 ⟨r, rfl, hr, b1⟩
  replace L_a := Lib.hid (L_a.out.kept b1 L_a.out.inside)
  replace B := Lib.hid (B.out.trans (b1.mono B.out.size))
  clear b1
  rcases hr with rfl | ⟨r0, r1, hn1, hs⟩
  · go_wp2
    go_ret
    exact ⟨rfl, B.out⟩
  have HS := Lib.hid (hs.two (by decide))
  have hr0 : ¬ r < 0 := by omega
  clear hs r0 r1
  have c_a0 : W1.cell? ⟨w.heap.size, 0, none⟩ = some (.int .i64 lv) := L_a.out.cell 0
  have c_a1 : W1.cell? ⟨w.heap.size, 1, none⟩ = some (.int .i64 ns) := L_a.out.cell 1
  have c_a2 : W1.cell? ⟨w.heap.size, 2, none⟩ = some (.int .i64 rt) := L_a.out.cell 2
  have c_a3 : W1.cell? ⟨w.heap.size, 3, none⟩ = some (.slice A n c) := L_a.out.cell 3
  go_wp2_with fail
  refine (toNode_any _ _ _ _ _ _ ps _ (HP.out.kept B.out) (by omega) HS.out).mono ?_
  rintro e W2 ⟨gs, qss, rfl, hgs, os, ls, vs, b2⟩
  replace L_a := Lib.hid (L_a.out.kept b2 L_a.out.inside)
  replace B := Lib.hid (B.out.trans (b2.mono B.out.size))
  clear b2
  have O_s := Lib.hid os
  have K_s := Lib.hid ls
  have V_s := Lib.hid vs
  clear os ls vs hgs
  clear c_a0 c_a1 c_a2 c_a3
  go_wp2_with fail
  refine (specNodeFault_any _ _ _ _ _ _ _ qss _ (O_s.out.entries K_s.out) hn).mono ?_
  rintro e W3 ⟨rfl, b3⟩
  replace L_a := Lib.hid (L_a.out.kept b3 L_a.out.inside)
  replace O_s := Lib.hid (O_s.out.kept b3)
  replace B := Lib.hid (B.out.trans (b3.mono B.out.size))
  clear b3
  rw [V_s.out]
  clear O_s K_s V_s
  have c_a0 : W3.cell? ⟨w.heap.size, 0, none⟩ = some (.int .i64 lv) := L_a.out.cell 0
  have c_a1 : W3.cell? ⟨w.heap.size, 1, none⟩ = some (.int .i64 ns) := L_a.out.cell 1
  have c_a2 : W3.cell? ⟨w.heap.size, 2, none⟩ = some (.int .i64 rt) := L_a.out.cell 2
  have c_a3 : W3.cell? ⟨w.heap.size, 3, none⟩ = some (.slice A n c) := L_a.out.cell 3
  go_wp2_with fail
  refine (toNode_any _ _ _ _ _ _ ps _ (HP.out.kept B.out) (by omega) HS.out).mono ?_
  rintro e W4 ⟨gt, qst, rfl, hgt, ot, lt, vt, b4⟩
  replace L_a := Lib.hid (L_a.out.kept b4 L_a.out.inside)
  replace B := Lib.hid (B.out.trans (b4.mono B.out.size))
  clear b4
  have O_t := Lib.hid ot
  have K_t := Lib.hid lt
  have V_t := Lib.hid vt
  clear ot lt vt hgt
  clear c_a0 c_a1 c_a2 c_a3
  replace L_a := Lib.hid (L_a.out.alloc (.cells #[.int .i64 lv, .int .i64 ns, .int .i64 rt, .slice (some ⟨gt, 0, none⟩) n n] 29))
  replace O_t := Lib.hid (O_t.out.kept (below_alloc _ (.cells #[.int .i64 lv, .int .i64 ns, .int .i64 rt, .slice (some ⟨gt, 0, none⟩) n n] 29)))
  have L_x := Lib.hid (Lies.new W4 29 #[.int .i64 lv, .int .i64 ns, .int .i64 rt, .slice (some ⟨gt, 0, none⟩) n n])
  replace B := Lib.hid (B.out.alloc B.out.size (.cells #[.int .i64 lv, .int .i64 ns, .int .i64 rt, .slice (some ⟨gt, 0, none⟩) n n] 29))
  go_wp2_with fail
  refine (implNodeFault_any _ _ _ _ _ _ _ qst _ (O_t.out.entries K_t.out) hn).mono ?_
  rintro e W5 ⟨rfl, b5⟩
  replace L_a := Lib.hid (L_a.out.kept b5 L_a.out.inside)
  replace L_x := Lib.hid (L_x.out.kept b5 L_x.out.inside)
  replace O_t := Lib.hid (O_t.out.kept b5)
  replace B := Lib.hid (B.out.trans (b5.mono B.out.size))
  clear b5
  rw [V_t.out]
  generalize hval : nodeF lv ns rt (ps.map EV.val) d = val at *
  clear hval
  have hpv : (val != val) = false := by simp
  go_wp2_with fail
  have k_0 : W5.cell? ⟨W4.heap.size, 0, none⟩ = some (.int .i64 lv) ∧ W5.cell? ⟨W4.heap.size, 1, none⟩ = some (.int .i64 ns) ∧ W5.cell? ⟨W4.heap.size, 2, none⟩ = some (.int .i64 rt) ∧ W5.cell? ⟨W4.heap.size, 3, none⟩ = some (.slice (some ⟨gt, 0, none⟩) n n) ∧ W5.cell? ⟨w.heap.size, 0, none⟩ = some (.int .i64 lv) ∧ W5.cell? ⟨w.heap.size, 1, none⟩ = some (.int .i64 ns) ∧ W5.cell? ⟨w.heap.size, 2, none⟩ = some (.int .i64 rt) ∧ W5.cell? ⟨w.heap.size, 3, none⟩ = some (.slice A n c) := ⟨L_x.out.cell 0, L_x.out.cell 1, L_x.out.cell 2, L_x.out.cell 3, L_a.out.cell 0, L_a.out.cell 1, L_a.out.cell 2, L_a.out.cell 3⟩
  go_region_held3 (fun w' => w'.cell? ⟨W4.heap.size, 0, none⟩ = some (.int .i64 lv) ∧ w'.cell? ⟨W4.heap.size, 1, none⟩ = some (.int .i64 ns) ∧ w'.cell? ⟨W4.heap.size, 2, none⟩ = some (.int .i64 rt) ∧ w'.cell? ⟨W4.heap.size, 3, none⟩ = some (.slice (some ⟨gt, 0, none⟩) n n) ∧ w'.cell? ⟨w.heap.size, 0, none⟩ = some (.int .i64 lv) ∧ w'.cell? ⟨w.heap.size, 1, none⟩ = some (.int .i64 ns) ∧ w'.cell? ⟨w.heap.size, 2, none⟩ = some (.int .i64 rt) ∧ w'.cell? ⟨w.heap.size, 3, none⟩ = some (.slice A n c))
    (first | (simp [go_sem, k_0]; done) | with_reducible exact k_1 | with_reducible exact k_2)
    (first
      | (go_at_call 10; refine (toNode_any _ _ _ _ _ _ ps _ (HP.out.kept B.out.drew) (by omega) HS.out).mono ?_
         rintro e Wx ⟨gz, qsz, rfl, hgz, oz, lz, vz, bxd⟩
         have bx := below_drawn bxd
         have k_1 : Wx.cell? ⟨W4.heap.size, 0, none⟩ = some (.int .i64 lv) ∧ Wx.cell? ⟨W4.heap.size, 1, none⟩ = some (.int .i64 ns) ∧ Wx.cell? ⟨W4.heap.size, 2, none⟩ = some (.int .i64 rt) ∧ Wx.cell? ⟨W4.heap.size, 3, none⟩ = some (.slice (some ⟨gt, 0, none⟩) n n) ∧ Wx.cell? ⟨w.heap.size, 0, none⟩ = some (.int .i64 lv) ∧ Wx.cell? ⟨w.heap.size, 1, none⟩ = some (.int .i64 ns) ∧ Wx.cell? ⟨w.heap.size, 2, none⟩ = some (.int .i64 rt) ∧ Wx.cell? ⟨w.heap.size, 3, none⟩ = some (.slice A n c) := ⟨(L_x.out.kept bx L_x.out.inside).cell 0, (L_x.out.kept bx L_x.out.inside).cell 1, (L_x.out.kept bx L_x.out.inside).cell 2, (L_x.out.kept bx L_x.out.inside).cell 3, (L_a.out.kept bx L_a.out.inside).cell 0, (L_a.out.kept bx L_a.out.inside).cell 1, (L_a.out.kept bx L_a.out.inside).cell 2, (L_a.out.kept bx L_a.out.inside).cell 3⟩
         clear bxd)
      | (go_at_call 12; refine (eqNode_same _ _ _ _ _ _ _ _ qst qsz _ ((O_t.out.kept bx).entries K_t.out) (oz.entries lz) (V_t.out.trans vz.symm) hn).mono ?_
         rintro e Wy ⟨rfl, by1⟩
         have k_2 : Wy.cell? ⟨W4.heap.size, 0, none⟩ = some (.int .i64 lv) ∧ Wy.cell? ⟨W4.heap.size, 1, none⟩ = some (.int .i64 ns) ∧ Wy.cell? ⟨W4.heap.size, 2, none⟩ = some (.int .i64 rt) ∧ Wy.cell? ⟨W4.heap.size, 3, none⟩ = some (.slice (some ⟨gt, 0, none⟩) n n) ∧ Wy.cell? ⟨w.heap.size, 0, none⟩ = some (.int .i64 lv) ∧ Wy.cell? ⟨w.heap.size, 1, none⟩ = some (.int .i64 ns) ∧ Wy.cell? ⟨w.heap.size, 2, none⟩ = some (.int .i64 rt) ∧ Wy.cell? ⟨w.heap.size, 3, none⟩ = some (.slice A n c) := ⟨((L_x.out.kept bx L_x.out.inside).kept by1 (L_x.out.kept bx L_x.out.inside).inside).cell 0, ((L_x.out.kept bx L_x.out.inside).kept by1 (L_x.out.kept bx L_x.out.inside).inside).cell 1, ((L_x.out.kept bx L_x.out.inside).kept by1 (L_x.out.kept bx L_x.out.inside).inside).cell 2, ((L_x.out.kept bx L_x.out.inside).kept by1 (L_x.out.kept bx L_x.out.inside).inside).cell 3, ((L_a.out.kept bx L_a.out.inside).kept by1 (L_a.out.kept bx L_a.out.inside).inside).cell 0, ((L_a.out.kept bx L_a.out.inside).kept by1 (L_a.out.kept bx L_a.out.inside).inside).cell 1, ((L_a.out.kept bx L_a.out.inside).kept by1 (L_a.out.kept bx L_a.out.inside).inside).cell 2, ((L_a.out.kept bx L_a.out.inside).kept by1 (L_a.out.kept bx L_a.out.inside).inside).cell 3⟩))
  clear k_0 k_1 k_2
  replace B := Lib.hid (B.out.trans (bx.mono B.out.size))
  replace B := Lib.hid (B.out.trans (by1.mono B.out.size))
  clear bx by1 oz lz vz
  go_wp2
  go_ret
  exact ⟨rfl, B.out⟩

end Go.Proofs.Ytblhcnafoejahaa
