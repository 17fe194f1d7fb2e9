/- The walks of impl.holderFrom and impl.readNode at a node without entries. -/
import Derived.Test.YtmcdpcjbbmkhhaaReadNode
namespace Go.Proofs.Ytmcdpcjbbmkhhaa
open Go.RowKit

set_option maxRecDepth 100000 in
set_option maxHeartbeats 1600000 in
theorem holderFrom_nil (lv ns rt d : Int) (c : Nat) (A : Option Addr) (w : World) :
    Calls Try.prog 123 #[.agg #[.int .i64 lv, .int .i64 ns, .int .i64 rt, .slice A 0 c], .int .i64 d] w fun e w' => e = .returned (holderV d lv ns rt none 0 0) ∧ Below w.heap.size w w' := by
  have HS := Lib.hid (Hold.start w #[.int .i64 lv, .int .i64 ns, .int .i64 rt, .slice A 0 c] d lv ns rt)
  go_enter Try.func123, Try.ntmps123
  go_wp2
  go_loopw [19] (fun i wr => i = .int .i64 0 ∧ Hid (Hold w wr #[.int .i64 lv, .int .i64 ns, .int .i64 rt, .slice A 0 c] d lv ns rt 0 [] (.slice none 0 0))) (fun _ _ => 0)
  case atStart => exact ⟨rfl, HS⟩
  case round =>
    obtain ⟨rfl, hU⟩ := hrel
    have z0 : wr.cell? ⟨w.heap.size, 0, none⟩ = some (.int .i64 lv) := hU.out.n.cell 0
    have y0 : wr.cell? ⟨w.heap.size + 1, 0, none⟩ = some (.int .i64 d) := hU.out.o.cell 0
    have y1 : wr.cell? ⟨w.heap.size + 1, 1, none⟩ = some (.int .i64 lv) := hU.out.o.cell 1
    have y2 : wr.cell? ⟨w.heap.size + 1, 2, none⟩ = some (.int .i64 ns) := hU.out.o.cell 2
    have y3 : wr.cell? ⟨w.heap.size + 1, 3, none⟩ = some (.int .i64 rt) := hU.out.o.cell 3
    have y4 : wr.cell? ⟨w.heap.size + 1, 4, none⟩ = some (.slice none 0 0) := hU.out.o.cell 4
    by_cases hl0 : lv = 0
    · have hl1 : (lv == 0) = true := by simpa using hl0
      have HV : Hid (holderV d lv ns rt none 0 0 = .iface 201 (.agg #[.int .i64 d, .int .i64 lv, .int .i64 ns, .int .i64 rt, .slice none 0 0])) := by show holderV _ _ _ _ _ _ _ = _; unfold holderV; rw [if_pos hl0]
      clear hl0
      go_wp2
      go_ret
      exact ⟨ret_val HV.out.symm, hU.out.b⟩
    · have hl1 : (lv == 0) = false := by simpa using hl0
      have HV : Hid (holderV d lv ns rt none 0 0 = .iface 202 (.agg #[.int .i64 d, .int .i64 lv, .int .i64 ns, .int .i64 rt, .slice none 0 0])) := by show holderV _ _ _ _ _ _ _ = _; unfold holderV; rw [if_neg hl0]
      clear hl0
      go_wp2
      go_ret
      exact ⟨ret_val HV.out.symm, hU.out.b⟩

set_option maxRecDepth 100000 in
set_option maxHeartbeats 3200000 in
theorem readNode_nil (lv ns rt d : Int) (c : Nat) (A : Option Addr) (w : World) (hz : nodeF lv ns rt [] d = 0) :
    Calls Try.prog 73 #[.agg #[.int .i64 lv, .int .i64 ns, .int .i64 rt, .slice A 0 c], .int .i64 d] w fun e w' => e = .returned (.tuple #[holderV d lv ns rt none 0 0, .int .i64 0]) ∧ Below w.heap.size w w' := by
  have hok := (nodeF_zero hz).1
  have hh : headF lv ns rt d 0 = 0 := by unfold headF; rw [if_pos hok]; rfl
  have hh1 : (headF lv ns rt d 0 != 0) = false := by simp [hh]
  have SLN : Slots w none 0 [] := ⟨rfl, fun h => absurd h (Nat.lt_irrefl 0)⟩
  have HSL := Lib.hid SLN
  have HSO : Hid (SlotsOf [] []) := ⟨rfl, fun k v s hv _ => by simp at hv⟩
  have HTW : Hid (twiceE [] = false) := rfl
  clear hz hok hh SLN
  have B := Lib.hid (below_alloc w (.cells #[.int .i64 lv, .int .i64 ns, .int .i64 rt, .slice A 0 c] 29))
  have L_n := Lib.hid (Lies.new w 29 #[.int .i64 lv, .int .i64 ns, .int .i64 rt, .slice A 0 c])
  go_enter Try.func73, Try.ntmps73
  go_wp2_with fail
  refine (headFault_any _ _ _ _ _ _ _ _ (Nat.zero_le _)).mono ?_
  rintro e W1 ⟨rfl, b1⟩
  replace L_n := Lib.hid (L_n.out.kept b1 L_n.out.inside)
  replace B := Lib.hid (B.out.trans (b1.mono B.out.size))
  clear b1
  have t3 : W1.cell? ⟨w.heap.size, 3, none⟩ = some (.slice A 0 c) := L_n.out.cell 3
  go_wp2
  clear t3 hh1
  go_loopw [20] (fun i wr => i = .int .i64 0 ∧ Hid (Below w.heap.size w wr) ∧ Hid (Lies wr w.heap.size 29 #[.int .i64 lv, .int .i64 ns, .int .i64 rt, .slice A 0 c])) (fun _ _ => 0)
  case atStart => exact ⟨rfl, B, L_n⟩
  case round =>
    obtain ⟨rfl, hB, hN⟩ := hrel
    have z0 : wr.cell? ⟨w.heap.size, 0, none⟩ = some (.int .i64 lv) := hN.out.cell 0
    have z1 : wr.cell? ⟨w.heap.size, 1, none⟩ = some (.int .i64 ns) := hN.out.cell 1
    have z2 : wr.cell? ⟨w.heap.size, 2, none⟩ = some (.int .i64 rt) := hN.out.cell 2
    have z3 : wr.cell? ⟨w.heap.size, 3, none⟩ = some (.slice A 0 c) := hN.out.cell 3
    go_wp2_with fail
    refine (holderFrom_nil _ _ _ _ _ _ _).mono ?_
    rintro e W2 ⟨rfl, b2⟩
    replace hB := Lib.hid (hB.out.trans (b2.mono hB.out.size))
    clear b2 hN z0 z1 z2 z3
    by_cases hl0 : lv = 0
    · have hm1 : ∀ w : World, (method 330 201 (.agg #[.int .i64 d, .int .i64 lv, .int .i64 ns, .int .i64 rt, .slice none 0 0]) "loop.example/g00680/impl.sound").run Try.prog w = .ok (188, .agg #[.int .i64 d, .int .i64 lv, .int .i64 ns, .int .i64 rt, .slice none 0 0]) w := fun _ => by kernel_rfl
      have hm2 : ∀ w : World, (method 330 201 (.agg #[.int .i64 d, .int .i64 lv, .int .i64 ns, .int .i64 rt, .slice none 0 0]) "loop.example/g00680/impl.refTwice").run Try.prog w = .ok (178, .agg #[.int .i64 d, .int .i64 lv, .int .i64 ns, .int .i64 rt, .slice none 0 0]) w := fun _ => by kernel_rfl
      have HV : Hid (holderV d lv ns rt none 0 0 = .iface 201 (.agg #[.int .i64 d, .int .i64 lv, .int .i64 ns, .int .i64 rt, .slice none 0 0])) := by show holderV _ _ _ _ _ _ _ = _; unfold holderV; rw [if_pos hl0]
      have HL0 := Lib.hid hl0
      clear hl0
      rw [HV.out]
      go_wp2_with fail
      refine (leafSound_any _ _ _ _ _ _ _ [] _ (HSL.out.kept hB.out) (Nat.zero_le _) HL0.out).mono ?_
      rintro e W3 ⟨rfl, b3⟩
      replace hB := Lib.hid (hB.out.trans (b3.mono hB.out.size))
      clear b3
      rw [List.all_nil]
      go_wp2_with fail
      refine (refTwice_any _ _ _ _ _ _ _ [] [] _ (HSL.out.kept hB.out) HSO.out (Nat.zero_le _)).mono ?_
      rintro e W4 ⟨rfl, b4⟩
      replace hB := Lib.hid (hB.out.trans (b4.mono hB.out.size))
      clear b4
      rw [HTW.out]
      go_wp2
      go_ret2
      exact ⟨ret_two HV.out.symm rfl, hB.out⟩
    · have hm1 : ∀ w : World, (method 330 202 (.agg #[.int .i64 d, .int .i64 lv, .int .i64 ns, .int .i64 rt, .slice none 0 0]) "loop.example/g00680/impl.sound").run Try.prog w = .ok (191, .agg #[.int .i64 d, .int .i64 lv, .int .i64 ns, .int .i64 rt, .slice none 0 0]) w := fun _ => by kernel_rfl
      have hm2 : ∀ w : World, (method 330 202 (.agg #[.int .i64 d, .int .i64 lv, .int .i64 ns, .int .i64 rt, .slice none 0 0]) "loop.example/g00680/impl.refTwice").run Try.prog w = .ok (178, .agg #[.int .i64 d, .int .i64 lv, .int .i64 ns, .int .i64 rt, .slice none 0 0]) w := fun _ => by kernel_rfl
      have HV : Hid (holderV d lv ns rt none 0 0 = .iface 202 (.agg #[.int .i64 d, .int .i64 lv, .int .i64 ns, .int .i64 rt, .slice none 0 0])) := by show holderV _ _ _ _ _ _ _ = _; unfold holderV; rw [if_neg hl0]
      have HL0 := Lib.hid hl0
      clear hl0
      rw [HV.out]
      go_wp2_with fail
      refine (innerSound_any _ _ _ _ _ _ _ [] _ (HSL.out.kept hB.out) (Nat.zero_le _) HL0.out).mono ?_
      rintro e W3 ⟨rfl, b3⟩
      replace hB := Lib.hid (hB.out.trans (b3.mono hB.out.size))
      clear b3
      rw [List.all_nil]
      go_wp2_with fail
      refine (refTwice_any _ _ _ _ _ _ _ [] [] _ (HSL.out.kept hB.out) HSO.out (Nat.zero_le _)).mono ?_
      rintro e W4 ⟨rfl, b4⟩
      replace hB := Lib.hid (hB.out.trans (b4.mono hB.out.size))
      clear b4
      rw [HTW.out]
      go_wp2
      go_ret2
      exact ⟨ret_two HV.out.symm rfl, hB.out⟩

end Go.Proofs.Ytmcdpcjbbmkhhaa
