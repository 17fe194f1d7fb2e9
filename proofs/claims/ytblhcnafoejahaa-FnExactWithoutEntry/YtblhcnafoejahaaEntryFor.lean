/- The walks of spec.EntryFor and impl.EntryFor. No condition but the length. -/
import Derived.Test.YtblhcnafoejahaaSpecNodeFault
import Derived.Test.YtblhcnafoejahaaReadNode
namespace Go.Proofs.Ytblhcnafoejahaa
open Go.RowKit

/-- EntryFor's code and value: of a fault, and of the place that was found. -/
def efC (f i : Int) : Int := if f ≠ 0 then f else if i < 0 then 4 else 0
def efV (f i : Int) : Int := if f ≠ 0 then 0 else if i < 0 then 0 else i

set_option maxHeartbeats 1600000 in
theorem specEntryFor_any (lv ns rt d r : Int) (n c : Nat) (A : Option Addr) (ps : List EV) (w : World) (hp : Entries w A n ps) (hn : n ≤ maxLen) :
    Calls Try.prog 19 #[.agg #[.int .i64 lv, .int .i64 ns, .int .i64 rt, .slice A n c], .int .i64 d, .int .i64 r] w fun e w' => e = .returned (.agg #[.int .i64 (efC (nodeF lv ns rt (ps.map EV.val) d) (findE r (ps.map EV.val))), .int .i64 (efV (nodeF lv ns rt (ps.map EV.val) d) (findE r (ps.map EV.val)))]) ∧ Below w.heap.size w w' := by
  have HP := Lib.hid hp
  clear hp
  have B := Lib.hid (below_alloc w (.cells #[.int .i64 lv, .int .i64 ns, .int .i64 rt, .slice A n c] 29))
  replace B := Lib.hid (B.out.alloc B.out.size (.cells #[.int .i64 0, .int .i64 0] 43))
  have L_n := Lib.hid ((Lies.new w 29 #[.int .i64 lv, .int .i64 ns, .int .i64 rt, .slice A n c]).alloc (.cells #[.int .i64 0, .int .i64 0] 43))
  have L_r := Lib.hid (Lies.new (w.alloc (.cells #[.int .i64 lv, .int .i64 ns, .int .i64 rt, .slice A n c] 29)) 43 #[.int .i64 0, .int .i64 0])
  simp only [World.size_alloc] at L_r
  by_cases hz : nodeF lv ns rt (ps.map EV.val) d = 0
  rotate_left
  · have hz1 : (nodeF lv ns rt (ps.map EV.val) d != 0) = true := by simpa using hz
    have HC : Hid (efC (nodeF lv ns rt (ps.map EV.val) d) (findE r (ps.map EV.val)) = (nodeF lv ns rt (ps.map EV.val) d)) := by show efC _ _ = _; unfold efC; simp [hz]
    have HW : Hid (efV (nodeF lv ns rt (ps.map EV.val) d) (findE r (ps.map EV.val)) = 0) := by show efV _ _ = _; unfold efV; simp [hz]
    clear hz
    go_enter Try.func19, Try.ntmps19
    go_wp2_with fail
    refine (specNodeFault_any _ _ _ _ _ _ _ ps _ (HP.out.kept B.out) hn).mono ?_
    rintro e W1 ⟨rfl, b1⟩
    replace L_n := Lib.hid (L_n.out.kept b1 L_n.out.inside)
    replace L_r := Lib.hid (L_r.out.kept b1 L_r.out.inside)
    replace B := Lib.hid (B.out.trans (b1.mono B.out.size))
    clear b1
    have z0 : W1.cell? ⟨w.heap.size + 1, 0, none⟩ = some (.int .i64 0) := L_r.out.cell 0
    have y0 : W1.frozen? ⟨w.heap.size + 1, 0, none⟩ = false := L_r.out.thawed 0
    have z1 : W1.cell? ⟨w.heap.size + 1, 1, none⟩ = some (.int .i64 0) := L_r.out.cell 1
    have y1 : W1.frozen? ⟨w.heap.size + 1, 1, none⟩ = false := L_r.out.thawed 1
    go_wp2
    refine bodyPost_ret (v := .agg #[.int .i64 (nodeF lv ns rt (ps.map EV.val) d), .int .i64 0]) (by simp [results, Try.results19, go_sem, z0, z1]) rfl ⟨?_, ?_⟩
    · rw [HC.out, HW.out]
    · repeat (with_reducible refine Below.setCell ?_ (by exact Nat.le_succ _) _)
      exact B.out
  have hz1 : (nodeF lv ns rt (ps.map EV.val) d != 0) = false := by simp [hz]
  by_cases hf : findE r (ps.map EV.val) < 0
  · skip
    have HC : Hid (efC (nodeF lv ns rt (ps.map EV.val) d) (findE r (ps.map EV.val)) = 4) := by show efC _ _ = _; unfold efC; simp [hz, hf]
    have HW : Hid (efV (nodeF lv ns rt (ps.map EV.val) d) (findE r (ps.map EV.val)) = 0) := by show efV _ _ = _; unfold efV; simp [hz, hf]
    clear hz
    go_enter Try.func19, Try.ntmps19
    go_wp2_with fail
    refine (specNodeFault_any _ _ _ _ _ _ _ ps _ (HP.out.kept B.out) hn).mono ?_
    rintro e W1 ⟨rfl, b1⟩
    replace L_n := Lib.hid (L_n.out.kept b1 L_n.out.inside)
    replace L_r := Lib.hid (L_r.out.kept b1 L_r.out.inside)
    replace B := Lib.hid (B.out.trans (b1.mono B.out.size))
    clear b1
    have q3 : W1.cell? ⟨w.heap.size, 3, none⟩ = some (.slice A n c) := L_n.out.cell 3
    go_wp2_with fail
    refine (l3Find_any _ _ _ _ ps _ (HP.out.kept B.out) hn).mono ?_
    rintro e w' ⟨rfl, rfl⟩
    have z0 : W1.cell? ⟨w.heap.size + 1, 0, none⟩ = some (.int .i64 0) := L_r.out.cell 0
    have y0 : W1.frozen? ⟨w.heap.size + 1, 0, none⟩ = false := L_r.out.thawed 0
    have z1 : W1.cell? ⟨w.heap.size + 1, 1, none⟩ = some (.int .i64 0) := L_r.out.cell 1
    have y1 : W1.frozen? ⟨w.heap.size + 1, 1, none⟩ = false := L_r.out.thawed 1
    go_wp2
    refine bodyPost_ret (v := .agg #[.int .i64 4, .int .i64 0]) (by simp [results, Try.results19, go_sem, z0, z1]) rfl ⟨?_, ?_⟩
    · rw [HC.out, HW.out]
    · repeat (with_reducible refine Below.setCell ?_ (by exact Nat.le_succ _) _)
      exact B.out
  · skip
    have HC : Hid (efC (nodeF lv ns rt (ps.map EV.val) d) (findE r (ps.map EV.val)) = 0) := by show efC _ _ = _; unfold efC; simp [hz, hf]
    have HW : Hid (efV (nodeF lv ns rt (ps.map EV.val) d) (findE r (ps.map EV.val)) = (findE r (ps.map EV.val))) := by show efV _ _ = _; unfold efV; simp [hz, hf]
    clear hz
    go_enter Try.func19, Try.ntmps19
    go_wp2_with fail
    refine (specNodeFault_any _ _ _ _ _ _ _ ps _ (HP.out.kept B.out) hn).mono ?_
    rintro e W1 ⟨rfl, b1⟩
    replace L_n := Lib.hid (L_n.out.kept b1 L_n.out.inside)
    replace L_r := Lib.hid (L_r.out.kept b1 L_r.out.inside)
    replace B := Lib.hid (B.out.trans (b1.mono B.out.size))
    clear b1
    have q3 : W1.cell? ⟨w.heap.size, 3, none⟩ = some (.slice A n c) := L_n.out.cell 3
    go_wp2_with fail
    refine (l3Find_any _ _ _ _ ps _ (HP.out.kept B.out) hn).mono ?_
    rintro e w' ⟨rfl, rfl⟩
    have z0 : W1.cell? ⟨w.heap.size + 1, 0, none⟩ = some (.int .i64 0) := L_r.out.cell 0
    have y0 : W1.frozen? ⟨w.heap.size + 1, 0, none⟩ = false := L_r.out.thawed 0
    have z1 : W1.cell? ⟨w.heap.size + 1, 1, none⟩ = some (.int .i64 0) := L_r.out.cell 1
    have y1 : W1.frozen? ⟨w.heap.size + 1, 1, none⟩ = false := L_r.out.thawed 1
    go_wp2
    refine bodyPost_ret (v := .agg #[.int .i64 0, .int .i64 (findE r (ps.map EV.val))]) (by simp [results, Try.results19, go_sem, z0, z1]) rfl ⟨?_, ?_⟩
    · rw [HC.out, HW.out]
    · repeat (with_reducible refine Below.setCell ?_ (by exact Nat.le_succ _) _)
      exact B.out

set_option maxHeartbeats 1600000 in
theorem implEntryFor_any (lv ns rt d r : Int) (n c : Nat) (A : Option Addr) (ps : List EV) (w : World) (hp : Entries w A n ps) (hn : n ≤ maxLen) :
    Calls Try.prog 20 #[.agg #[.int .i64 lv, .int .i64 ns, .int .i64 rt, .slice A n c], .int .i64 d, .int .i64 r] w fun e w' => e = .returned (.agg #[.int .i64 (efC (nodeF lv ns rt (ps.map EV.val) d) (findE r (ps.map EV.val))), .int .i64 (efV (nodeF lv ns rt (ps.map EV.val) d) (findE r (ps.map EV.val)))]) ∧ Below w.heap.size w w' := by
  have HP := Lib.hid hp
  clear hp
  have B := Lib.hid (below_alloc w (.cells #[.int .i64 lv, .int .i64 ns, .int .i64 rt, .slice A n c] 29))
  replace B := Lib.hid (B.out.alloc B.out.size (.cells #[.int .i64 0, .int .i64 0] 43))
  have L_n := Lib.hid ((Lies.new w 29 #[.int .i64 lv, .int .i64 ns, .int .i64 rt, .slice A n c]).alloc (.cells #[.int .i64 0, .int .i64 0] 43))
  have L_r := Lib.hid (Lies.new (w.alloc (.cells #[.int .i64 lv, .int .i64 ns, .int .i64 rt, .slice A n c] 29)) 43 #[.int .i64 0, .int .i64 0])
  simp only [World.size_alloc] at L_r
  go_enter Try.func20, Try.ntmps20
  go_wp2_with fail
  refine (readNode_any _ _ _ _ _ _ _ ps _ (HP.out.kept B.out) hn).mono ?_
  rintro e W1 ⟨b1, h⟩
  replace L_r := Lib.hid (L_r.out.kept b1 L_r.out.inside)
  replace B := Lib.hid (B.out.trans (b1.mono B.out.size))
  clear b1 L_n
  rcases h with ⟨hz, rfl⟩ | ⟨hz, A', c', ss, rfl, hS, hO⟩
  · have hz1 : (nodeF lv ns rt (ps.map EV.val) d != 0) = true := by simpa using hz
    have HC : Hid (efC (nodeF lv ns rt (ps.map EV.val) d) (findE r (ps.map EV.val)) = (nodeF lv ns rt (ps.map EV.val) d)) := by show efC _ _ = _; unfold efC; simp [hz]
    have HW : Hid (efV (nodeF lv ns rt (ps.map EV.val) d) (findE r (ps.map EV.val)) = 0) := by show efV _ _ = _; unfold efV; simp [hz]
    clear hz
    have z0 : W1.cell? ⟨w.heap.size + 1, 0, none⟩ = some (.int .i64 0) := L_r.out.cell 0
    have y0 : W1.frozen? ⟨w.heap.size + 1, 0, none⟩ = false := L_r.out.thawed 0
    have z1 : W1.cell? ⟨w.heap.size + 1, 1, none⟩ = some (.int .i64 0) := L_r.out.cell 1
    have y1 : W1.frozen? ⟨w.heap.size + 1, 1, none⟩ = false := L_r.out.thawed 1
    go_wp2
    refine bodyPost_ret (v := .agg #[.int .i64 (nodeF lv ns rt (ps.map EV.val) d), .int .i64 0]) (by simp [results, Try.results20, go_sem, z0, z1]) rfl ⟨?_, ?_⟩
    · rw [HC.out, HW.out]
    · repeat (with_reducible refine Below.setCell ?_ (by exact Nat.le_succ _) _)
      exact B.out
  have HS := Lib.hid hS
  have HO := Lib.hid hO
  clear hS hO
  by_cases hl0 : lv = 0
  · have hm1 : ∀ w : World, (method 281 150 (.agg #[.int .i64 d, .slice A' n c', .int .i64 lv, .int .i64 ns, .int .i64 rt]) "loop.example/g00680/impl.place").run Try.prog w = .ok (120, .agg #[.int .i64 d, .slice A' n c']) w := fun _ => by kernel_rfl
    have HV : Hid (holderV d lv ns rt A' n c' = .iface 150 (.agg #[.int .i64 d, .slice A' n c', .int .i64 lv, .int .i64 ns, .int .i64 rt])) := by show holderV _ _ _ _ _ _ _ = _; unfold holderV; rw [if_pos hl0]
    clear hl0
    rw [HV.out]
    by_cases hf : findE r (ps.map EV.val) < 0
    · skip
      have HC : Hid (efC (nodeF lv ns rt (ps.map EV.val) d) (findE r (ps.map EV.val)) = 4) := by show efC _ _ = _; unfold efC; simp [hz, hf]
      have HW : Hid (efV (nodeF lv ns rt (ps.map EV.val) d) (findE r (ps.map EV.val)) = 0) := by show efV _ _ = _; unfold efV; simp [hz, hf]
      clear hz
      go_wp2_with fail
      refine (place_any _ r _ _ _ (ps.map EV.val) ss _ HS.out HO.out hn).mono ?_
      rintro e W2 ⟨rfl, b2⟩
      replace L_r := Lib.hid (L_r.out.kept b2 L_r.out.inside)
      replace B := Lib.hid (B.out.trans (b2.mono B.out.size))
      clear b2
      have z0 : W2.cell? ⟨w.heap.size + 1, 0, none⟩ = some (.int .i64 0) := L_r.out.cell 0
      have y0 : W2.frozen? ⟨w.heap.size + 1, 0, none⟩ = false := L_r.out.thawed 0
      have z1 : W2.cell? ⟨w.heap.size + 1, 1, none⟩ = some (.int .i64 0) := L_r.out.cell 1
      have y1 : W2.frozen? ⟨w.heap.size + 1, 1, none⟩ = false := L_r.out.thawed 1
      go_wp2
      refine bodyPost_ret (v := .agg #[.int .i64 4, .int .i64 0]) (by simp [results, Try.results20, go_sem, z0, z1]) rfl ⟨?_, ?_⟩
      · rw [HC.out, HW.out]
      · repeat (with_reducible refine Below.setCell ?_ (by exact Nat.le_succ _) _)
        exact B.out
    · skip
      have HC : Hid (efC (nodeF lv ns rt (ps.map EV.val) d) (findE r (ps.map EV.val)) = 0) := by show efC _ _ = _; unfold efC; simp [hz, hf]
      have HW : Hid (efV (nodeF lv ns rt (ps.map EV.val) d) (findE r (ps.map EV.val)) = (findE r (ps.map EV.val))) := by show efV _ _ = _; unfold efV; simp [hz, hf]
      clear hz
      go_wp2_with fail
      refine (place_any _ r _ _ _ (ps.map EV.val) ss _ HS.out HO.out hn).mono ?_
      rintro e W2 ⟨rfl, b2⟩
      replace L_r := Lib.hid (L_r.out.kept b2 L_r.out.inside)
      replace B := Lib.hid (B.out.trans (b2.mono B.out.size))
      clear b2
      have z0 : W2.cell? ⟨w.heap.size + 1, 0, none⟩ = some (.int .i64 0) := L_r.out.cell 0
      have y0 : W2.frozen? ⟨w.heap.size + 1, 0, none⟩ = false := L_r.out.thawed 0
      have z1 : W2.cell? ⟨w.heap.size + 1, 1, none⟩ = some (.int .i64 0) := L_r.out.cell 1
      have y1 : W2.frozen? ⟨w.heap.size + 1, 1, none⟩ = false := L_r.out.thawed 1
      go_wp2
      refine bodyPost_ret (v := .agg #[.int .i64 0, .int .i64 (findE r (ps.map EV.val))]) (by simp [results, Try.results20, go_sem, z0, z1]) rfl ⟨?_, ?_⟩
      · rw [HC.out, HW.out]
      · repeat (with_reducible refine Below.setCell ?_ (by exact Nat.le_succ _) _)
        exact B.out
  · have hm1 : ∀ w : World, (method 281 151 (.agg #[.int .i64 d, .slice A' n c', .int .i64 lv, .int .i64 ns, .int .i64 rt]) "loop.example/g00680/impl.place").run Try.prog w = .ok (120, .agg #[.int .i64 d, .slice A' n c']) w := fun _ => by kernel_rfl
    have HV : Hid (holderV d lv ns rt A' n c' = .iface 151 (.agg #[.int .i64 d, .slice A' n c', .int .i64 lv, .int .i64 ns, .int .i64 rt])) := by show holderV _ _ _ _ _ _ _ = _; unfold holderV; rw [if_neg hl0]
    clear hl0
    rw [HV.out]
    by_cases hf : findE r (ps.map EV.val) < 0
    · skip
      have HC : Hid (efC (nodeF lv ns rt (ps.map EV.val) d) (findE r (ps.map EV.val)) = 4) := by show efC _ _ = _; unfold efC; simp [hz, hf]
      have HW : Hid (efV (nodeF lv ns rt (ps.map EV.val) d) (findE r (ps.map EV.val)) = 0) := by show efV _ _ = _; unfold efV; simp [hz, hf]
      clear hz
      go_wp2_with fail
      refine (place_any _ r _ _ _ (ps.map EV.val) ss _ HS.out HO.out hn).mono ?_
      rintro e W2 ⟨rfl, b2⟩
      replace L_r := Lib.hid (L_r.out.kept b2 L_r.out.inside)
      replace B := Lib.hid (B.out.trans (b2.mono B.out.size))
      clear b2
      have z0 : W2.cell? ⟨w.heap.size + 1, 0, none⟩ = some (.int .i64 0) := L_r.out.cell 0
      have y0 : W2.frozen? ⟨w.heap.size + 1, 0, none⟩ = false := L_r.out.thawed 0
      have z1 : W2.cell? ⟨w.heap.size + 1, 1, none⟩ = some (.int .i64 0) := L_r.out.cell 1
      have y1 : W2.frozen? ⟨w.heap.size + 1, 1, none⟩ = false := L_r.out.thawed 1
      go_wp2
      refine bodyPost_ret (v := .agg #[.int .i64 4, .int .i64 0]) (by simp [results, Try.results20, go_sem, z0, z1]) rfl ⟨?_, ?_⟩
      · rw [HC.out, HW.out]
      · repeat (with_reducible refine Below.setCell ?_ (by exact Nat.le_succ _) _)
        exact B.out
    · skip
      have HC : Hid (efC (nodeF lv ns rt (ps.map EV.val) d) (findE r (ps.map EV.val)) = 0) := by show efC _ _ = _; unfold efC; simp [hz, hf]
      have HW : Hid (efV (nodeF lv ns rt (ps.map EV.val) d) (findE r (ps.map EV.val)) = (findE r (ps.map EV.val))) := by show efV _ _ = _; unfold efV; simp [hz, hf]
      clear hz
      go_wp2_with fail
      refine (place_any _ r _ _ _ (ps.map EV.val) ss _ HS.out HO.out hn).mono ?_
      rintro e W2 ⟨rfl, b2⟩
      replace L_r := Lib.hid (L_r.out.kept b2 L_r.out.inside)
      replace B := Lib.hid (B.out.trans (b2.mono B.out.size))
      clear b2
      have z0 : W2.cell? ⟨w.heap.size + 1, 0, none⟩ = some (.int .i64 0) := L_r.out.cell 0
      have y0 : W2.frozen? ⟨w.heap.size + 1, 0, none⟩ = false := L_r.out.thawed 0
      have z1 : W2.cell? ⟨w.heap.size + 1, 1, none⟩ = some (.int .i64 0) := L_r.out.cell 1
      have y1 : W2.frozen? ⟨w.heap.size + 1, 1, none⟩ = false := L_r.out.thawed 1
      go_wp2
      refine bodyPost_ret (v := .agg #[.int .i64 0, .int .i64 (findE r (ps.map EV.val))]) (by simp [results, Try.results20, go_sem, z0, z1]) rfl ⟨?_, ?_⟩
      · rw [HC.out, HW.out]
      · repeat (with_reducible refine Below.setCell ?_ (by exact Nat.le_succ _) _)
        exact B.out

end Go.Proofs.Ytblhcnafoejahaa
