/- The walks of impl.holderFrom and impl.readNode at a node without entries. -/
import Derived.Test.YtblhcnafoejahaaGround
namespace Go.Proofs.Ytblhcnafoejahaa
open Go.RowKit

set_option maxRecDepth 100000 in
set_option maxHeartbeats 1600000 in
theorem bunchFrom_nil (d : Int) (c : Nat) (A : Option Addr) (w : World) :
    Calls Try.prog 87 #[.slice A 0 c, .int .i64 d] w fun e w' => e = .returned (.agg #[.int .i64 d, .slice none 0 0]) ∧ Below w.heap.size w w' := by
  have HS := Lib.hid (Hold.start w d)
  go_enter Try.func87, Try.ntmps87
  go_wp2
  go_loopw [12] (fun i wr => i = .int .i64 0 ∧ Hid (Hold w wr d 0 [] (.slice none 0 0))) (fun _ _ => 0)
  case atStart => exact ⟨rfl, HS⟩
  case round =>
    obtain ⟨rfl, hU⟩ := hrel
    have y0 : wr.cell? ⟨w.heap.size + 1, 0, none⟩ = some (.int .i64 d) := hU.out.o.cell 0
    have y1 : wr.cell? ⟨w.heap.size + 1, 1, none⟩ = some (.slice none 0 0) := hU.out.o.cell 1
    have z0 : wr.cell? ⟨w.heap.size, 0, none⟩ = some (.int .i64 0) := hU.out.r.cell 0
    have z1 : wr.cell? ⟨w.heap.size, 1, none⟩ = some (.slice none 0 0) := hU.out.r.cell 1
    have f0 : wr.frozen? ⟨w.heap.size, 0, none⟩ = false := hU.out.r.thawed 0
    have f1 : wr.frozen? ⟨w.heap.size, 1, none⟩ = false := hU.out.r.thawed 1
    go_wp2
    refine bodyPost_ret (v := .agg #[.int .i64 d, .slice none 0 0]) (by simp [results, Try.results87, go_sem, z0, z1]) rfl ⟨rfl, ?_⟩
    exact (hU.out.b.setCell (Nat.le_refl _) _).setCell (Nat.le_refl _) _

set_option maxRecDepth 100000 in
set_option maxHeartbeats 3200000 in
theorem holderFrom_nil (lv ns rt d : Int) (c : Nat) (A : Option Addr) (w : World) :
    Calls Try.prog 62 #[.agg #[.int .i64 lv, .int .i64 ns, .int .i64 rt, .slice A 0 c], .int .i64 d] w fun e w' => e = .returned (holderV d lv ns rt none 0 0) ∧ Below w.heap.size w w' := by
  have B := Lib.hid (below_alloc w (.cells #[.int .i64 lv, .int .i64 ns, .int .i64 rt, .slice A 0 c] 29))
  have L_n := Lib.hid (Lies.new w 29 #[.int .i64 lv, .int .i64 ns, .int .i64 rt, .slice A 0 c])
  have szW := B.out.size
  go_enter Try.func62, Try.ntmps62
  go_upto_region 1 with fail
  generalize hW : w.alloc (.cells #[.int .i64 lv, .int .i64 ns, .int .i64 rt, .slice A 0 c] 29) = W0 at *
  clear hW
  go_cut [5] (fun s5 wx => ∃ (n_b : Nat), s5 = .pointer (some ⟨n_b, 0, none⟩) ∧ Hid (Lies wx n_b 95 #[.int .i64 d, .slice none 0 0, .int .i64 lv, .int .i64 ns, .int .i64 rt]) ∧ W0.heap.size ≤ n_b ∧ Hid (Since W0 wx))
  case first =>
    have c_n0 : W0.cell? ⟨w.heap.size, 0, none⟩ = some (.int .i64 lv) := L_n.out.cell 0
    have c_n1 : W0.cell? ⟨w.heap.size, 1, none⟩ = some (.int .i64 ns) := L_n.out.cell 1
    have c_n2 : W0.cell? ⟨w.heap.size, 2, none⟩ = some (.int .i64 rt) := L_n.out.cell 2
    have c_n3 : W0.cell? ⟨w.heap.size, 3, none⟩ = some (.slice A 0 c) := L_n.out.cell 3
    have i_n := L_n.out.inside
    have zd := size_of_drew
    go_region_held3 (fun w' => w'.cell? ⟨w.heap.size, 0, none⟩ = some (.int .i64 lv) ∧ w'.cell? ⟨w.heap.size, 1, none⟩ = some (.int .i64 ns) ∧ w'.cell? ⟨w.heap.size, 2, none⟩ = some (.int .i64 rt) ∧ w'.cell? ⟨w.heap.size, 3, none⟩ = some (.slice A 0 c))
      (exact ⟨Lies.cell (t := 29) (cs := #[.int .i64 lv, .int .i64 ns, .int .i64 rt, .slice A 0 c]) (by with_reducible (repeat (first | refine Lies.far ?_ ?_ _ | refine Lies.alloc ?_ _ | refine Lies.drew ?_ | refine Lies.call ?_ b1 | exact L_n.out)); all_goals (simp only [size_of_drew, size_of_setCell, World.size_alloc]; omega)) 0, Lies.cell (t := 29) (cs := #[.int .i64 lv, .int .i64 ns, .int .i64 rt, .slice A 0 c]) (by with_reducible (repeat (first | refine Lies.far ?_ ?_ _ | refine Lies.alloc ?_ _ | refine Lies.drew ?_ | refine Lies.call ?_ b1 | exact L_n.out)); all_goals (simp only [size_of_drew, size_of_setCell, World.size_alloc]; omega)) 1, Lies.cell (t := 29) (cs := #[.int .i64 lv, .int .i64 ns, .int .i64 rt, .slice A 0 c]) (by with_reducible (repeat (first | refine Lies.far ?_ ?_ _ | refine Lies.alloc ?_ _ | refine Lies.drew ?_ | refine Lies.call ?_ b1 | exact L_n.out)); all_goals (simp only [size_of_drew, size_of_setCell, World.size_alloc]; omega)) 2, Lies.cell (t := 29) (cs := #[.int .i64 lv, .int .i64 ns, .int .i64 rt, .slice A 0 c]) (by with_reducible (repeat (first | refine Lies.far ?_ ?_ _ | refine Lies.alloc ?_ _ | refine Lies.drew ?_ | refine Lies.call ?_ b1 | exact L_n.out)); all_goals (simp only [size_of_drew, size_of_setCell, World.size_alloc]; omega)) 3⟩)
      (first
        | (go_at_call 87; refine (bunchFrom_nil _ _ _ _).mono ?_
           rintro e W1 ⟨rfl, b1⟩
           have q_W1 := cells_kept b1
           have u_W1 := frozen_kept b1
           have z_W1 := sizes_kept b1
           try simp only [size_of_drew, World.size_alloc] at z_W1
           have le_W0_W1 : W0.heap.size ≤ W1.heap.size := by omega
           try (have lt_W0_W1 : W0.heap.size < W1.heap.size := by omega)))
    all_goals
      rename_i hH
      clear hH zd q_W1 u_W1 c_n0 c_n1 c_n2 c_n3
      go_wp2_with fail
      go_meet
      refine ⟨_, rfl, ?_, ?_, ?_⟩
      · refine Lib.hid ?_
        first
          | (refine Lies.as (cs := (((((#[.int .i64 0, .slice none 0 0, .int .i64 0, .int .i64 0, .int .i64 0].setIfInBounds 0 (.int .i64 d)).setIfInBounds 1 (.slice none 0 0)).setIfInBounds 2 (.int .i64 lv)).setIfInBounds 3 (.int .i64 ns)).setIfInBounds 4 (.int .i64 rt))) ?_ (by simp)
             with_reducible (repeat (first | refine Lies.set ?_ _ _ | refine Lies.far ?_ ?_ _ | (refine Lies.laid ?_; (simp only [size_of_drew, size_of_setCell, World.size_alloc]; done)) | exact Lies.new _ _ _ | exact Lies.laid2 _ _ _ _ | refine Lies.alloc ?_ _ | refine Lies.drew ?_ | refine Lies.call ?_ b1))
             all_goals first | exact Nat.ne_of_lt (Nat.lt_succ_self _) | exact Nat.ne_of_gt (Nat.lt_succ_self _) | exact Nat.ne_of_lt lt_W0_W1 | exact Nat.ne_of_gt lt_W0_W1 | (show ¬ _ = _; (try simp only [size_of_drew, size_of_setCell, World.size_alloc]); omega)
             done)
          | (with_reducible (repeat (first | refine Lies.far ?_ ?_ _ | (refine Lies.laid ?_; (simp only [size_of_drew, size_of_setCell, World.size_alloc]; done)) | exact Lies.new _ _ _ | exact Lies.laid2 _ _ _ _ | refine Lies.alloc ?_ _ | refine Lies.drew ?_ | refine Lies.call ?_ b1))
             all_goals first | exact Nat.ne_of_lt (Nat.lt_succ_self _) | exact Nat.ne_of_gt (Nat.lt_succ_self _) | exact Nat.ne_of_lt lt_W0_W1 | exact Nat.ne_of_gt lt_W0_W1 | (show ¬ _ = _; (try simp only [size_of_drew, size_of_setCell, World.size_alloc]); omega)
             done)
      · first | exact Nat.le_refl _ | exact Nat.le_succ _ | exact le_W0_W1 | exact Nat.le_succ_of_le le_W0_W1 | omega
      · refine Lib.hid ?_
        with_reducible (repeat (first | refine Since.setCell ?_ ?_ _ | refine Since.alloc ?_ _ | refine Since.drew ?_ | refine Since.call ?_ b1))
        · exact Since.of (Below.refl _ _)
        all_goals first | exact Nat.le_refl _ | exact Nat.le_succ _ | exact le_W0_W1 | exact Nat.le_succ_of_le le_W0_W1 | (show _ ≤ _; (try simp only [size_of_drew, size_of_setCell, World.size_alloc]); omega)
  case' rest =>
    obtain ⟨n_b, rfl, L_b, g_b, S⟩ := hcut
    have bS := S.out.below
    clear S
  replace L_n := Lib.hid (L_n.out.kept bS L_n.out.inside)
  replace B := Lib.hid (B.out.trans (bS.mono B.out.size))
  clear bS
  have y0 : wc.cell? ⟨n_b, 0, none⟩ = some (.int .i64 d) := L_b.out.cell 0
  have y1 : wc.cell? ⟨n_b, 1, none⟩ = some (.slice none 0 0) := L_b.out.cell 1
  have y2 : wc.cell? ⟨n_b, 2, none⟩ = some (.int .i64 lv) := L_b.out.cell 2
  have y3 : wc.cell? ⟨n_b, 3, none⟩ = some (.int .i64 ns) := L_b.out.cell 3
  have y4 : wc.cell? ⟨n_b, 4, none⟩ = some (.int .i64 rt) := L_b.out.cell 4
  go_wp2_with fail
  refine (bodyHolder_any d lv ns rt 0 0 none _).mono ?_
  rintro e W3 ⟨rfl, b3⟩
  clear y0 y1 y2 y3 y4
  have B3 := Lib.hid (B.out.trans (b3.mono B.out.size))
  clear b3
  go_wp2
  go_ret
  exact ⟨rfl, B3.out⟩

set_option maxHeartbeats 800000 in
theorem eachFault_nil (d : Int) (c : Nat) (A : Option Addr) (w : World) :
    Calls Try.prog 61 #[.slice A 0 c, .int .i64 d] w fun e w' => e = .returned (.int .i64 0) ∧ Below w.heap.size w w' :=
  eachFault_any d 0 c A [] w ⟨rfl, fun h => absurd h (Nat.lt_irrefl 0), fun p hp => by simp at hp⟩ (Nat.zero_le _)

set_option maxRecDepth 100000 in
set_option maxHeartbeats 3200000 in
theorem readNode_nil (lv ns rt d : Int) (c : Nat) (A : Option Addr) (w : World) (hz : nodeF lv ns rt [] d = 0) :
    Calls Try.prog 38 #[.agg #[.int .i64 lv, .int .i64 ns, .int .i64 rt, .slice A 0 c], .int .i64 d] w fun e w' => e = .returned (.tuple #[holderV d lv ns rt none 0 0, .int .i64 0]) ∧ Below w.heap.size w w' := by
  have hok := (nodeF_zero hz).1
  have hh : headF lv ns rt d 0 = 0 := by unfold headF; rw [if_pos hok]; rfl
  have hh1 : (headF lv ns rt d 0 != 0) = false := by simp [hh]
  have SLN : Slots w none 0 [] := ⟨rfl, fun h => absurd h (Nat.lt_irrefl 0)⟩
  have HSL := Lib.hid SLN
  have HSO : Hid (SlotsOf [] []) := ⟨rfl, fun k v s hv _ => by simp at hv⟩
  have HTW : Hid (twiceE [] = false) := rfl
  clear hz hok hh SLN
  have B := Lib.hid (below_alloc w (.cells #[.int .i64 lv, .int .i64 ns, .int .i64 rt, .slice A 0 c] 29))
  have L_n := Lib.hid (Lies.new w 29 #[.int .i64 lv, .int .i64 ns, .int .i64 rt, .slice A 0 c])
  go_enter Try.func38, Try.ntmps38
  go_wp2_with fail
  refine (headFault_any _ _ _ _ _ _ _ _ (Nat.zero_le _)).mono ?_
  rintro e W1 ⟨rfl, b1⟩
  replace L_n := Lib.hid (L_n.out.kept b1 L_n.out.inside)
  replace B := Lib.hid (B.out.trans (b1.mono B.out.size))
  clear b1
  have t3 : W1.cell? ⟨w.heap.size, 3, none⟩ = some (.slice A 0 c) := L_n.out.cell 3
  go_wp2_with fail
  refine (eachFault_nil _ _ _ _).mono ?_
  rintro e W2 ⟨rfl, b2⟩
  replace L_n := Lib.hid (L_n.out.kept b2 L_n.out.inside)
  replace B := Lib.hid (B.out.trans (b2.mono B.out.size))
  clear b2 t3 hh1
  have z0 : W2.cell? ⟨w.heap.size, 0, none⟩ = some (.int .i64 lv) := L_n.out.cell 0
  have z1 : W2.cell? ⟨w.heap.size, 1, none⟩ = some (.int .i64 ns) := L_n.out.cell 1
  have z2 : W2.cell? ⟨w.heap.size, 2, none⟩ = some (.int .i64 rt) := L_n.out.cell 2
  have z3 : W2.cell? ⟨w.heap.size, 3, none⟩ = some (.slice A 0 c) := L_n.out.cell 3
  go_wp2_with fail
  refine (holderFrom_nil _ _ _ _ _ _ _).mono ?_
  rintro e W3 ⟨rfl, b2⟩
  replace B := Lib.hid (B.out.trans (b2.mono B.out.size))
  clear b2 L_n z0 z1 z2 z3
  by_cases hl0 : lv = 0
  · have hm1 : ∀ w : World, (method 281 150 (.agg #[.int .i64 d, .slice none 0 0, .int .i64 lv, .int .i64 ns, .int .i64 rt]) "loop.example/g00680/impl.sound").run Try.prog w = .ok (133, .agg #[.int .i64 d, .slice none 0 0, .int .i64 lv, .int .i64 ns, .int .i64 rt]) w := fun _ => by kernel_rfl
    have hm2 : ∀ w : World, (method 281 150 (.agg #[.int .i64 d, .slice none 0 0, .int .i64 lv, .int .i64 ns, .int .i64 rt]) "loop.example/g00680/impl.refTwice").run Try.prog w = .ok (121, .agg #[.int .i64 d, .slice none 0 0]) w := fun _ => by kernel_rfl
    have HV : Hid (holderV d lv ns rt none 0 0 = .iface 150 (.agg #[.int .i64 d, .slice none 0 0, .int .i64 lv, .int .i64 ns, .int .i64 rt])) := by show holderV _ _ _ _ _ _ _ = _; unfold holderV; rw [if_pos hl0]
    have HL0 := Lib.hid hl0
    clear hl0
    rw [HV.out]
    go_wp2_with fail
    refine (leafSound_any _ _ _ _ _ _ _ [] _ (HSL.out.kept B.out) (Nat.zero_le _) HL0.out).mono ?_
    rintro e W3 ⟨rfl, b3⟩
    replace B := Lib.hid (B.out.trans (b3.mono B.out.size))
    clear b3
    rw [List.all_nil]
    go_wp2_with fail
    refine (refTwice_any _ _ _ _ [] [] _ (HSL.out.kept B.out) HSO.out (Nat.zero_le _)).mono ?_
    rintro e W4 ⟨rfl, b4⟩
    replace B := Lib.hid (B.out.trans (b4.mono B.out.size))
    clear b4
    rw [HTW.out]
    go_wp2
    go_ret2
    exact ⟨ret_two HV.out.symm rfl, B.out⟩
  · have hm1 : ∀ w : World, (method 281 151 (.agg #[.int .i64 d, .slice none 0 0, .int .i64 lv, .int .i64 ns, .int .i64 rt]) "loop.example/g00680/impl.sound").run Try.prog w = .ok (138, .agg #[.int .i64 d, .slice none 0 0, .int .i64 lv, .int .i64 ns, .int .i64 rt]) w := fun _ => by kernel_rfl
    have hm2 : ∀ w : World, (method 281 151 (.agg #[.int .i64 d, .slice none 0 0, .int .i64 lv, .int .i64 ns, .int .i64 rt]) "loop.example/g00680/impl.refTwice").run Try.prog w = .ok (121, .agg #[.int .i64 d, .slice none 0 0]) w := fun _ => by kernel_rfl
    have HV : Hid (holderV d lv ns rt none 0 0 = .iface 151 (.agg #[.int .i64 d, .slice none 0 0, .int .i64 lv, .int .i64 ns, .int .i64 rt])) := by show holderV _ _ _ _ _ _ _ = _; unfold holderV; rw [if_neg hl0]
    have HL0 := Lib.hid hl0
    clear hl0
    rw [HV.out]
    go_wp2_with fail
    refine (innerSound_any _ _ _ _ _ _ _ [] _ (HSL.out.kept B.out) (Nat.zero_le _) HL0.out).mono ?_
    rintro e W3 ⟨rfl, b3⟩
    replace B := Lib.hid (B.out.trans (b3.mono B.out.size))
    clear b3
    rw [List.all_nil]
    go_wp2_with fail
    refine (refTwice_any _ _ _ _ [] [] _ (HSL.out.kept B.out) HSO.out (Nat.zero_le _)).mono ?_
    rintro e W4 ⟨rfl, b4⟩
    replace B := Lib.hid (B.out.trans (b4.mono B.out.size))
    clear b4
    rw [HTW.out]
    go_wp2
    go_ret2
    exact ⟨ret_two HV.out.symm rfl, B.out⟩

end Go.Proofs.Ytblhcnafoejahaa
