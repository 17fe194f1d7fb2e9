/- The walks of impl.holderFrom and impl.readNode at a node without entries. -/
import Derived.Test.YtpgoildfjkokiaaGreatLayAll
import Derived.Test.YtpgoildfjkokiaaGreatFreeAll
import Derived.Test.YtpgoildfjkokiaaGreatRetireAll
namespace Go.Proofs.YtpgoildfjkokiaaGreat
open Go.RowKit

set_option maxRecDepth 100000 in
set_option maxHeartbeats 1600000 in
theorem bunchFrom_nil (d : Int) (c : Nat) (A : Option Addr) (w : World) :
    Calls Tryz.prog 122 #[.slice A 0 c, .int .i64 d] w fun e w' => e = .returned (.agg #[.int .i64 d, .slice none 0 0]) ∧ Below w.heap.size w w' := by
  have HS := Lib.hid (Hold.start w d)
  go_enter Tryz.func122, Tryz.ntmps122
  go_wp2
  go_loopw [12] (fun i wr => i = .int .i64 0 ∧ Hid (Hold w wr d 0 [] (.slice none 0 0))) (fun _ _ => 0)
  case atStart => exact ⟨rfl, HS⟩
  case round =>
    obtain ⟨rfl, hU⟩ := hrel
    have y0 : wr.cell? ⟨w.heap.size + 1, 0, none⟩ = some (.int .i64 d) := hU.out.o.cell 0
    have y1 : wr.cell? ⟨w.heap.size + 1, 1, none⟩ = some (.slice none 0 0) := hU.out.o.cell 1
    have z0 : wr.cell? ⟨w.heap.size, 0, none⟩ = some (.int .i64 0) := hU.out.r.cell 0
    have z1 : wr.cell? ⟨w.heap.size, 1, none⟩ = some (.slice none 0 0) := hU.out.r.cell 1
    have f0 : wr.frozen? ⟨w.heap.size, 0, none⟩ = false := hU.out.r.thawed 0
    have f1 : wr.frozen? ⟨w.heap.size, 1, none⟩ = false := hU.out.r.thawed 1
    go_wp2
    refine bodyPost_ret (v := .agg #[.int .i64 d, .slice none 0 0]) (by simp [results, Tryz.results122, go_sem, z0, z1]) rfl ⟨rfl, ?_⟩
    exact (hU.out.b.setCell (Nat.le_refl _) _).setCell (Nat.le_refl _) _

set_option maxRecDepth 100000 in
set_option maxHeartbeats 3200000 in
theorem holderFrom_nil (lv ns rt d : Int) (c : Nat) (A : Option Addr) (w : World) :
    Calls Tryz.prog 107 #[.agg #[.int .i64 lv, .int .i64 ns, .int .i64 rt, .slice A 0 c], .int .i64 d] w fun e w' => e = .returned (holderV d lv ns rt none 0 0) ∧ Below w.heap.size w w' := by
  have B := Lib.hid (below_alloc w (.cells #[.int .i64 lv, .int .i64 ns, .int .i64 rt, .slice A 0 c] 42))
  have L_n := Lib.hid (Lies.new w 42 #[.int .i64 lv, .int .i64 ns, .int .i64 rt, .slice A 0 c])
  have szW := B.out.size
  go_enter Tryz.func107, Tryz.ntmps107
  go_upto_region 1 with fail
  generalize hW : w.alloc (.cells #[.int .i64 lv, .int .i64 ns, .int .i64 rt, .slice A 0 c] 42) = W0 at *
  clear hW
  go_cut [5] (fun s5 wx => ∃ (n_b : Nat), s5 = .pointer (some ⟨n_b, 0, none⟩) ∧ Hid (Lies wx n_b 164 #[.int .i64 d, .slice none 0 0, .int .i64 lv, .int .i64 ns, .int .i64 rt]) ∧ W0.heap.size ≤ n_b ∧ Hid (Since W0 wx))
  case first =>
    have c_n0 : W0.cell? ⟨w.heap.size, 0, none⟩ = some (.int .i64 lv) := L_n.out.cell 0
    have c_n1 : W0.cell? ⟨w.heap.size, 1, none⟩ = some (.int .i64 ns) := L_n.out.cell 1
    have c_n2 : W0.cell? ⟨w.heap.size, 2, none⟩ = some (.int .i64 rt) := L_n.out.cell 2
    have c_n3 : W0.cell? ⟨w.heap.size, 3, none⟩ = some (.slice A 0 c) := L_n.out.cell 3
    have i_n := L_n.out.inside
    have zd := size_of_drew
    go_region_held3 (fun w' => w'.cell? ⟨w.heap.size, 0, none⟩ = some (.int .i64 lv) ∧ w'.cell? ⟨w.heap.size, 1, none⟩ = some (.int .i64 ns) ∧ w'.cell? ⟨w.heap.size, 2, none⟩ = some (.int .i64 rt) ∧ w'.cell? ⟨w.heap.size, 3, none⟩ = some (.slice A 0 c))
      (exact ⟨Lies.cell (t := 42) (cs := #[.int .i64 lv, .int .i64 ns, .int .i64 rt, .slice A 0 c]) (by with_reducible (repeat (first | refine Lies.far ?_ ?_ _ | refine Lies.alloc ?_ _ | refine Lies.drew ?_ | refine Lies.call ?_ b1 | exact L_n.out)); all_goals (simp only [size_of_drew, size_of_setCell, World.size_alloc]; omega)) 0, Lies.cell (t := 42) (cs := #[.int .i64 lv, .int .i64 ns, .int .i64 rt, .slice A 0 c]) (by with_reducible (repeat (first | refine Lies.far ?_ ?_ _ | refine Lies.alloc ?_ _ | refine Lies.drew ?_ | refine Lies.call ?_ b1 | exact L_n.out)); all_goals (simp only [size_of_drew, size_of_setCell, World.size_alloc]; omega)) 1, Lies.cell (t := 42) (cs := #[.int .i64 lv, .int .i64 ns, .int .i64 rt, .slice A 0 c]) (by with_reducible (repeat (first | refine Lies.far ?_ ?_ _ | refine Lies.alloc ?_ _ | refine Lies.drew ?_ | refine Lies.call ?_ b1 | exact L_n.out)); all_goals (simp only [size_of_drew, size_of_setCell, World.size_alloc]; omega)) 2, Lies.cell (t := 42) (cs := #[.int .i64 lv, .int .i64 ns, .int .i64 rt, .slice A 0 c]) (by with_reducible (repeat (first | refine Lies.far ?_ ?_ _ | refine Lies.alloc ?_ _ | refine Lies.drew ?_ | refine Lies.call ?_ b1 | exact L_n.out)); all_goals (simp only [size_of_drew, size_of_setCell, World.size_alloc]; omega)) 3⟩)
      (first
        | (go_at_call 122; refine (bunchFrom_nil _ _ _ _).mono ?_
           rintro e W1 ⟨rfl, b1⟩
           have q_W1 := cells_kept b1
           have u_W1 := frozen_kept b1
           have z_W1 := sizes_kept b1
           try simp only [size_of_drew, World.size_alloc] at z_W1
           have le_W0_W1 : W0.heap.size ≤ W1.heap.size := by omega
           try (have lt_W0_W1 : W0.heap.size < W1.heap.size := by omega)))
    all_goals
      rename_i hH
      clear hH zd q_W1 u_W1 c_n0 c_n1 c_n2 c_n3
      go_wp2_with fail
      go_meet
      refine ⟨_, rfl, ?_, ?_, ?_⟩
      · refine Lib.hid ?_
        first
          | (refine Lies.as (cs := (((((#[.int .i64 0, .slice none 0 0, .int .i64 0, .int .i64 0, .int .i64 0].setIfInBounds 0 (.int .i64 d)).setIfInBounds 1 (.slice none 0 0)).setIfInBounds 2 (.int .i64 lv)).setIfInBounds 3 (.int .i64 ns)).setIfInBounds 4 (.int .i64 rt))) ?_ (by simp)
             with_reducible (repeat (first | refine Lies.set ?_ _ _ | refine Lies.far ?_ ?_ _ | (refine Lies.laid ?_; (simp only [size_of_drew, size_of_setCell, World.size_alloc]; done)) | exact Lies.new _ _ _ | exact Lies.laid2 _ _ _ _ | refine Lies.alloc ?_ _ | refine Lies.drew ?_ | refine Lies.call ?_ b1))
             all_goals first | exact Nat.ne_of_lt (Nat.lt_succ_self _) | exact Nat.ne_of_gt (Nat.lt_succ_self _) | exact Nat.ne_of_lt lt_W0_W1 | exact Nat.ne_of_gt lt_W0_W1 | (show ¬ _ = _; (try simp only [size_of_drew, size_of_setCell, World.size_alloc]); omega)
             done)
          | (with_reducible (repeat (first | refine Lies.far ?_ ?_ _ | (refine Lies.laid ?_; (simp only [size_of_drew, size_of_setCell, World.size_alloc]; done)) | exact Lies.new _ _ _ | exact Lies.laid2 _ _ _ _ | refine Lies.alloc ?_ _ | refine Lies.drew ?_ | refine Lies.call ?_ b1))
             all_goals first | exact Nat.ne_of_lt (Nat.lt_succ_self _) | exact Nat.ne_of_gt (Nat.lt_succ_self _) | exact Nat.ne_of_lt lt_W0_W1 | exact Nat.ne_of_gt lt_W0_W1 | (show ¬ _ = _; (try simp only [size_of_drew, size_of_setCell, World.size_alloc]); omega)
             done)
      · first | exact Nat.le_refl _ | exact Nat.le_succ _ | exact le_W0_W1 | exact Nat.le_succ_of_le le_W0_W1 | omega
      · refine Lib.hid ?_
        with_reducible (repeat (first | refine Since.setCell ?_ ?_ _ | refine Since.alloc ?_ _ | refine Since.drew ?_ | refine Since.call ?_ b1))
        · exact Since.of (Below.refl _ _)
        all_goals first | exact Nat.le_refl _ | exact Nat.le_succ _ | exact le_W0_W1 | exact Nat.le_succ_of_le le_W0_W1 | (show _ ≤ _; (try simp only [size_of_drew, size_of_setCell, World.size_alloc]); omega)
  case' rest =>
    obtain ⟨n_b, rfl, L_b, g_b, S⟩ := hcut
    have bS := S.out.below
    clear S
  replace L_n := Lib.hid (L_n.out.kept bS L_n.out.inside)
  replace B := Lib.hid (B.out.trans (bS.mono B.out.size))
  clear bS
  have y0 : wc.cell? ⟨n_b, 0, none⟩ = some (.int .i64 d) := L_b.out.cell 0
  have y1 : wc.cell? ⟨n_b, 1, none⟩ = some (.slice none 0 0) := L_b.out.cell 1
  have y2 : wc.cell? ⟨n_b, 2, none⟩ = some (.int .i64 lv) := L_b.out.cell 2
  have y3 : wc.cell? ⟨n_b, 3, none⟩ = some (.int .i64 ns) := L_b.out.cell 3
  have y4 : wc.cell? ⟨n_b, 4, none⟩ = some (.int .i64 rt) := L_b.out.cell 4
  go_wp2_with fail
  refine (bodyHolder_any d lv ns rt 0 0 none _).mono ?_
  rintro e W3 ⟨rfl, b3⟩
  clear y0 y1 y2 y3 y4
  have B3 := Lib.hid (B.out.trans (b3.mono B.out.size))
  clear b3
  go_wp2
  go_ret
  exact ⟨rfl, B3.out⟩

set_option maxHeartbeats 800000 in
theorem eachFault_nil (d : Int) (c : Nat) (A : Option Addr) (w : World) :
    Calls Tryz.prog 125 #[.slice A 0 c, .int .i64 d] w fun e w' => e = .returned (.int .i64 0) ∧ Below w.heap.size w w' :=
  eachFault_any d 0 c A [] w ⟨rfl, fun h => absurd h (Nat.lt_irrefl 0), fun p hp => by simp at hp⟩ (Nat.zero_le _)

set_option maxRecDepth 100000 in
set_option maxHeartbeats 3200000 in
theorem readNode_nil (lv ns rt d : Int) (c : Nat) (A : Option Addr) (w : World) (hz : nodeF lv ns rt [] d = 0) :
    Calls Tryz.prog 108 #[.agg #[.int .i64 lv, .int .i64 ns, .int .i64 rt, .slice A 0 c], .int .i64 d] w fun e w' => e = .returned (.tuple #[holderV d lv ns rt none 0 0, .int .i64 0]) ∧ Below w.heap.size w w' := by
  have hok := (nodeF_zero hz).1
  have hh : headF lv ns rt d 0 = 0 := by unfold headF; rw [if_pos hok]; rfl
  have hh1 : (headF lv ns rt d 0 != 0) = false := by simp [hh]
  have SLN : Slots w none 0 [] := ⟨rfl, fun h => absurd h (Nat.lt_irrefl 0)⟩
  have HSL := Lib.hid SLN
  have HSO : Hid (SlotsOf [] []) := ⟨rfl, fun k v s hv _ => by simp at hv⟩
  have HTW : Hid (twiceE [] = false) := rfl
  clear hz hok hh SLN
  have B := Lib.hid (below_alloc w (.cells #[.int .i64 lv, .int .i64 ns, .int .i64 rt, .slice A 0 c] 42))
  have L_n := Lib.hid (Lies.new w 42 #[.int .i64 lv, .int .i64 ns, .int .i64 rt, .slice A 0 c])
  go_enter Tryz.func108, Tryz.ntmps108
  go_wp2_with fail
  refine (headFault_any _ _ _ _ _ _ _ _ (Nat.zero_le _)).mono ?_
  rintro e W1 ⟨rfl, b1⟩
  replace L_n := Lib.hid (L_n.out.kept b1 L_n.out.inside)
  replace B := Lib.hid (B.out.trans (b1.mono B.out.size))
  clear b1
  have t3 : W1.cell? ⟨w.heap.size, 3, none⟩ = some (.slice A 0 c) := L_n.out.cell 3
  go_wp2_with fail
  refine (eachFault_nil _ _ _ _).mono ?_
  rintro e W2 ⟨rfl, b2⟩
  replace L_n := Lib.hid (L_n.out.kept b2 L_n.out.inside)
  replace B := Lib.hid (B.out.trans (b2.mono B.out.size))
  clear b2 t3 hh1
  have z0 : W2.cell? ⟨w.heap.size, 0, none⟩ = some (.int .i64 lv) := L_n.out.cell 0
  have z1 : W2.cell? ⟨w.heap.size, 1, none⟩ = some (.int .i64 ns) := L_n.out.cell 1
  have z2 : W2.cell? ⟨w.heap.size, 2, none⟩ = some (.int .i64 rt) := L_n.out.cell 2
  have z3 : W2.cell? ⟨w.heap.size, 3, none⟩ = some (.slice A 0 c) := L_n.out.cell 3
  go_wp2_with fail
  refine (holderFrom_nil _ _ _ _ _ _ _).mono ?_
  rintro e W3 ⟨rfl, b2⟩
  replace B := Lib.hid (B.out.trans (b2.mono B.out.size))
  clear b2 L_n z0 z1 z2 z3
  by_cases hl0 : lv = 0
  · have hm1 : ∀ w : World, (method 323 184 (.agg #[.int .i64 d, .slice none 0 0, .int .i64 lv, .int .i64 ns, .int .i64 rt]) "loop.example/g00680/impl.sound").run Tryz.prog w = .ok (179, .agg #[.int .i64 d, .slice none 0 0, .int .i64 lv, .int .i64 ns, .int .i64 rt]) w := fun _ => by kernel_rfl
    have hm2 : ∀ w : World, (method 323 184 (.agg #[.int .i64 d, .slice none 0 0, .int .i64 lv, .int .i64 ns, .int .i64 rt]) "loop.example/g00680/impl.refTwice").run Tryz.prog w = .ok (165, .agg #[.int .i64 d, .slice none 0 0]) w := fun _ => by kernel_rfl
    have HV : Hid (holderV d lv ns rt none 0 0 = .iface 184 (.agg #[.int .i64 d, .slice none 0 0, .int .i64 lv, .int .i64 ns, .int .i64 rt])) := by show holderV _ _ _ _ _ _ _ = _; unfold holderV; rw [if_pos hl0]
    have HL0 := Lib.hid hl0
    clear hl0
    rw [HV.out]
    go_wp2_with fail
    refine (leafSound_any _ _ _ _ _ _ _ [] _ (HSL.out.kept B.out) (Nat.zero_le _) HL0.out).mono ?_
    rintro e W3 ⟨rfl, b3⟩
    replace B := Lib.hid (B.out.trans (b3.mono B.out.size))
    clear b3
    rw [List.all_nil]
    go_wp2_with fail
    refine (refTwice_any _ _ _ _ [] [] _ (HSL.out.kept B.out) HSO.out (Nat.zero_le _)).mono ?_
    rintro e W4 ⟨rfl, b4⟩
    replace B := Lib.hid (B.out.trans (b4.mono B.out.size))
    clear b4
    rw [HTW.out]
    go_wp2
    go_ret2
    exact ⟨ret_two HV.out.symm rfl, B.out⟩
  · have hm1 : ∀ w : World, (method 323 185 (.agg #[.int .i64 d, .slice none 0 0, .int .i64 lv, .int .i64 ns, .int .i64 rt]) "loop.example/g00680/impl.sound").run Tryz.prog w = .ok (184, .agg #[.int .i64 d, .slice none 0 0, .int .i64 lv, .int .i64 ns, .int .i64 rt]) w := fun _ => by kernel_rfl
    have hm2 : ∀ w : World, (method 323 185 (.agg #[.int .i64 d, .slice none 0 0, .int .i64 lv, .int .i64 ns, .int .i64 rt]) "loop.example/g00680/impl.refTwice").run Tryz.prog w = .ok (165, .agg #[.int .i64 d, .slice none 0 0]) w := fun _ => by kernel_rfl
    have HV : Hid (holderV d lv ns rt none 0 0 = .iface 185 (.agg #[.int .i64 d, .slice none 0 0, .int .i64 lv, .int .i64 ns, .int .i64 rt])) := by show holderV _ _ _ _ _ _ _ = _; unfold holderV; rw [if_neg hl0]
    have HL0 := Lib.hid hl0
    clear hl0
    rw [HV.out]
    go_wp2_with fail
    refine (innerSound_any _ _ _ _ _ _ _ [] _ (HSL.out.kept B.out) (Nat.zero_le _) HL0.out).mono ?_
    rintro e W3 ⟨rfl, b3⟩
    replace B := Lib.hid (B.out.trans (b3.mono B.out.size))
    clear b3
    rw [List.all_nil]
    go_wp2_with fail
    refine (refTwice_any _ _ _ _ [] [] _ (HSL.out.kept B.out) HSO.out (Nat.zero_le _)).mono ?_
    rintro e W4 ⟨rfl, b4⟩
    replace B := Lib.hid (B.out.trans (b4.mono B.out.size))
    clear b4
    rw [HTW.out]
    go_wp2
    go_ret2
    exact ⟨ret_two HV.out.symm rfl, B.out⟩

end Go.Proofs.YtpgoildfjkokiaaGreat

/- The walk of impl.ground's vacate: a place is written anew, empty and free. -/
namespace Go.Proofs.YtpgoildfjkokiaaGreat
open Go.RowKit

/-- An empty place's cells. -/
def vacPlace (d : Int) : Array Value := #[.iface (hty 0) (.agg #[.int .i64 d, .slice none 0 0, .int .i64 0, .int .i64 0, .int .i64 (-1)]), .bool true, .slice none 0 0]
theorem holderFrom_vac (d : Int) (w : World) : Calls Tryz.prog 107 #[.agg #[.int .i64 0, .int .i64 0, .int .i64 (-1), .slice none 0 0], .int .i64 d] w fun e w' => e = .returned (.iface (hty 0) (.agg #[.int .i64 d, .slice none 0 0, .int .i64 0, .int .i64 0, .int .i64 (-1)])) ∧ Below w.heap.size w w' := holderFrom_nil 0 0 (-1) d 0 none w

set_option maxRecDepth 100000 in
set_option maxHeartbeats 3200000 in
theorem vacate_any (d : Int) (G pb cp n j pg : Nat) (v0 v1 v2 m o : Value) (w : World) (hG : Lies w G 109 #[.int .i64 d, .slice (some ⟨pb, 0, none⟩) n cp, m, o]) (hc : w.cell? ⟨pb, j, none⟩ = some (.pointer (some ⟨pg, 0, none⟩))) (hp : Lies w pg 87 #[v0, v1, v2]) (h1 : pg ≠ G) (h2 : pg ≠ pb) (hj : j < n) (hn : n ≤ 40) :
    Calls Tryz.prog 75 #[.pointer (some ⟨G, 0, none⟩), .int .i64 (j : Int)] w fun e w' => e = .returned noResult ∧ Turned (fun x => x = pg) w w' ∧ Lies w' pg 87 (vacPlace d) := by
  have HG := Lib.hid hG
  have HP := Lib.hid hp
  have hpb : pb < w.heap.size := by
    rcases Nat.lt_or_ge pb w.heap.size with h' | h'
    · exact h'
    · have : w.heap[pb]? = none := Array.getElem?_eq_none h'
      simp [World.cell?, this] at hc
  have hj' : (j : Int) < (n : Int) := by omega
  have n1 : ¬ pg = G := h1
  have n2 : ¬ pg = pb := h2
  have n3 : ¬ G = pg := fun e => h1 e.symm
  have n4 : ¬ pb = pg := fun e => h2 e.symm
  have k_0 : w.cell? ⟨G, 1, none⟩ = some (.slice (some ⟨pb, 0, none⟩) n cp) ∧ w.cell? ⟨pb, j, none⟩ = some (.pointer (some ⟨pg, 0, none⟩)) ∧ w.cell? ⟨G, 0, none⟩ = some (.int .i64 d) := ⟨hG.cell 1, hc, hG.cell 0⟩
  clear hG hp hc h1 h2
  go_enter Tryz.func75, Tryz.ntmps75
  go_wp2
  go_region_held3 (fun w' => w'.cell? ⟨G, 1, none⟩ = some (.slice (some ⟨pb, 0, none⟩) n cp) ∧ w'.cell? ⟨pb, j, none⟩ = some (.pointer (some ⟨pg, 0, none⟩)) ∧ w'.cell? ⟨G, 0, none⟩ = some (.int .i64 d))
    (first | (simp [go_sem, k_0]; done) | with_reducible exact k_1 | with_reducible exact k_2 | (simp [go_sem, k_2, n1, n2, n3, n4]; done))
    (first
      | (go_at_call 37; refine (vacantNode_any _).mono ?_
         rintro e W1 ⟨rfl, b1d⟩
         have b1 := below_drawn b1d
         have k_1 : W1.cell? ⟨G, 1, none⟩ = some (.slice (some ⟨pb, 0, none⟩) n cp) ∧ W1.cell? ⟨pb, j, none⟩ = some (.pointer (some ⟨pg, 0, none⟩)) ∧ W1.cell? ⟨G, 0, none⟩ = some (.int .i64 d) := ⟨(HG.out.kept b1 HG.out.inside).cell 1, (b1.cell (p := ⟨pb, j, none⟩) hpb).trans k_0.2.1, (HG.out.kept b1 HG.out.inside).cell 0⟩
         clear b1d)
      | (go_at_call 107; refine (holderFrom_vac d _).mono ?_
         rintro e W2 ⟨rfl, b2⟩
         have b2' := b1.trans (b2.mono b1.size)
         have HP2 := Lib.hid (HP.out.kept b2' HP.out.inside)
         have k_2 : W2.cell? ⟨G, 1, none⟩ = some (.slice (some ⟨pb, 0, none⟩) n cp) ∧ W2.cell? ⟨pb, j, none⟩ = some (.pointer (some ⟨pg, 0, none⟩)) ∧ W2.cell? ⟨G, 0, none⟩ = some (.int .i64 d) := ⟨(HG.out.kept b2' HG.out.inside).cell 1, (b2'.cell (p := ⟨pb, j, none⟩) hpb).trans k_0.2.1, (HG.out.kept b2' HG.out.inside).cell 0⟩
         have s0 : W2.cell? ⟨pg, 0, none⟩ = some v0 := HP2.out.cell 0
         have s1 : W2.cell? ⟨pg, 1, none⟩ = some v1 := HP2.out.cell 1
         have s2 : W2.cell? ⟨pg, 2, none⟩ = some v2 := HP2.out.cell 2
         have f0 : W2.frozen? ⟨pg, 0, none⟩ = false := HP2.out.thawed 0
         have f1 : W2.frozen? ⟨pg, 1, none⟩ = false := HP2.out.thawed 1
         have f2 : W2.frozen? ⟨pg, 2, none⟩ = false := HP2.out.thawed 2
         clear b2))
  all_goals
    have LV := Lib.hid (((HP2.out.set 0 (.iface (hty 0) (.agg #[.int .i64 d, .slice none 0 0, .int .i64 0, .int .i64 0, .int .i64 (-1)]))).set 1 (.bool true)).set 2 (.slice none 0 0))
    have TT := Lib.hid (((((Turned.of_below (G := fun x => x = pg) b2').setCell (a := ⟨pg, 0, none⟩) rfl (.iface (hty 0) (.agg #[.int .i64 d, .slice none 0 0, .int .i64 0, .int .i64 0, .int .i64 (-1)]))).setCell (a := ⟨pg, 1, none⟩) rfl (.bool true)).setCell (a := ⟨pg, 2, none⟩) rfl (.slice none 0 0)))
    go_wp2
    go_end0
    exact ⟨rfl, TT.out, LV.out⟩

end Go.Proofs.YtpgoildfjkokiaaGreat

/- The walks of impl.groundFault, impl.openArena and impl.ArenaFault. -/
namespace Go.Proofs.YtpgoildfjkokiaaGreat
open Go.RowKit

/-- What is wrong with the dimensions, or with how many places there are. -/
def groundF (d n : Int) : Int := if 2 ≤ d ∧ d ≤ 3 then (if 4 ≤ n ∧ n ≤ 40 then 0 else 2) else 3

set_option maxHeartbeats 800000 in
theorem groundFault_any (d n : Int) (w : World) :
    Calls Tryz.prog 74 #[.int .i64 d, .int .i64 n] w fun e w' => e = .returned (.int .i64 (groundF d n)) ∧ Below w.heap.size w w' := by
  have B1 := Lib.hid (below_alloc w (.cells #[.int .i64 d] 2))
  have B2 := Lib.hid (B1.out.alloc B1.out.size (.cells #[.int .i64 n] 2))
  have O1 := Lib.hid (one_ints w d)
  have O2 := Lib.hid (one_ints (w.alloc (.cells #[.int .i64 d] 2)) n)
  simp only [World.size_alloc] at O2
  by_cases hd : 2 ≤ d ∧ d ≤ 3
  rotate_left
  · have HF : Hid (groundF d n = 3) := by show groundF _ _ = _; unfold groundF; rw [if_neg hd]
    have HA : Hid (allIn 2 3 [d] = false) := by show allIn _ _ _ = _; rw [allIn_two]; simpa using hd
    go_enter Tryz.func74, Tryz.ntmps74
    go_wp2_with fail
    refine (within_is 2 3 _ _ _ _ [d] _ false HA.out O1.out (by decide)).mono ?_
    rintro e w' ⟨rfl, rfl⟩
    go_wp2
    go_ret
    exact ⟨ret_i64 HF.out.symm, B1.out⟩
  have HA : Hid (allIn 2 3 [d] = true) := by show allIn _ _ _ = _; rw [allIn_two]; simpa using hd
  by_cases hn : 4 ≤ n ∧ n ≤ 40
  rotate_left
  · have HF : Hid (groundF d n = 2) := by show groundF _ _ = _; unfold groundF; rw [if_pos hd, if_neg hn]
    have HC : Hid (allIn 4 40 [n] = false) := by show allIn _ _ _ = _; rw [allIn_two]; simpa using hn
    go_enter Tryz.func74, Tryz.ntmps74
    go_wp2_with fail
    refine (within_is 2 3 _ _ _ _ [d] _ true HA.out O1.out (by decide)).mono ?_
    rintro e w' ⟨rfl, rfl⟩
    go_wp2_with fail
    refine (within_is 4 40 _ _ _ _ [n] _ false HC.out O2.out (by decide)).mono ?_
    rintro e w' ⟨rfl, rfl⟩
    go_wp2
    go_ret
    exact ⟨ret_i64 HF.out.symm, B2.out⟩
  have HF : Hid (groundF d n = 0) := by show groundF _ _ = _; unfold groundF; rw [if_pos hd, if_pos hn]
  have HC : Hid (allIn 4 40 [n] = true) := by show allIn _ _ _ = _; rw [allIn_two]; simpa using hn
  go_enter Tryz.func74, Tryz.ntmps74
  go_wp2_with fail
  refine (within_is 2 3 _ _ _ _ [d] _ true HA.out O1.out (by decide)).mono ?_
  rintro e w' ⟨rfl, rfl⟩
  go_wp2_with fail
  refine (within_is 4 40 _ _ _ _ [n] _ true HC.out O2.out (by decide)).mono ?_
  rintro e w' ⟨rfl, rfl⟩
  go_wp2
  go_ret
  exact ⟨ret_i64 HF.out.symm, B2.out⟩

/-- An arena that was opened: its places, which of them are free, the retired ones. -/
def Opened (w w' : World) (d : Int) (n1 n3 : Nat) (ns : List NVal) (fs : List Int) (rs : List RVal) (G : Nat) : Prop :=
  ∃ lo M o pb cp qs f, Ret w' lo G M d o pb cp n1 qs n3 n3 (rs.map (·.1)) f ∧ qs.map LV.val = ns ∧ (∀ (i : Nat) (q : LV), qs[i]? = some q → q.fr = fs.contains (i : Int)) ∧ w.heap.size ≤ G ∧ w.heap.size ≤ M ∧ lo ≤ w'.heap.size ∧ Watched qs f rs ∧ w.heap.size ≤ lo ∧ (∀ x : Int, (f x).isSome = (rs.map (·.1)).contains x) ∧ Apart qs
theorem Kept.vals {ps qs : List LV} (h : Kept ps qs) : qs.map LV.val = ps.map LV.val := by
  apply List.ext_getElem?
  intro i
  rw [List.getElem?_map, List.getElem?_map]
  cases hq : qs[i]? with
  | none => rw [List.getElem?_eq_none_iff.2 (by rw [← h.1]; exact List.getElem?_eq_none_iff.1 hq)]
  | some q =>
    obtain ⟨p, hp, _, h3, _⟩ := h.2 i q hq
    rw [hp]; simp [h3]

set_option maxRecDepth 100000 in
set_option maxHeartbeats 12800000 in
theorem openArena_any (d : Int) (n1 c1 n2 c2 n3 c3 : Nat) (A1 A2 A3 : Option Addr) (ns : List NV) (fs : List Int) (rs : List RV) (w : World) (hp : ArenaL w A1 A2 A3 n1 n2 n3 ns fs rs) (hn3 : n3 ≤ 1048576) :
    Calls Tryz.prog 49 #[.agg #[.int .i64 d, .slice A1 n1 c1, .slice A2 n2 c2, .slice A3 n3 c3]] w fun e w' => Below w.heap.size w w' ∧ ((arenaF d (ns.map NV.val) fs (rs.map RV.val) ≠ 0 ∧ e = .returned (.tuple #[.pointer none, .int .i64 (arenaF d (ns.map NV.val) fs (rs.map RV.val))])) ∨ (arenaF d (ns.map NV.val) fs (rs.map RV.val) = 0 ∧ ∃ G, e = .returned (.tuple #[.pointer (some ⟨G, 0, none⟩), .int .i64 0]) ∧ Opened w w' d n1 n3 (ns.map NV.val) fs (rs.map RV.val) G)) := by
  have HP := Lib.hid hp
  have m1 := hp.m1
  have m2 := hp.m2
  have m3 := hp.m3
  have HL1 : Hid ((ns.map NV.val).length = n1) := by show List.length _ = n1; rw [List.length_map]; exact hp.N.1
  clear hp
  have B := Lib.hid (below_alloc w (.cells #[.int .i64 d, .slice A1 n1 c1, .slice A2 n2 c2, .slice A3 n3 c3] 26))
  have L_a := Lib.hid (Lies.new w 26 #[.int .i64 d, .slice A1 n1 c1, .slice A2 n2 c2, .slice A3 n3 c3])
  have hmm := @run_makeMap Tryz.prog
  go_enter Tryz.func49, Tryz.ntmps49
  go_wp2_with fail
  refine (groundFault_any _ _ _).mono ?_
  rintro e W1 ⟨rfl, b1⟩
  replace L_a := Lib.hid (L_a.out.kept b1 L_a.out.inside)
  replace B := Lib.hid (B.out.trans (b1.mono B.out.size))
  clear b1
  by_cases hd : 2 ≤ d ∧ d ≤ 3
  rotate_left
  · have HF := Lib.hid (arenaF_dim (ns := ns.map NV.val) (fs := fs) (rs := rs.map RV.val) hd)
    have HG : Hid (groundF d (n1 : Int) = 3) := by show groundF _ _ = _; unfold groundF; rw [if_neg hd]
    rw [HG.out]
    go_wp2
    go_ret2
    exact ⟨B.out, Or.inl ⟨by rw [HF.out]; decide, ret_two rfl (int_val HF.out.symm)⟩⟩
  by_cases hm : 4 ≤ n1 ∧ n1 ≤ 40
  rotate_left
  · have HF := Lib.hid (arenaF_many (fs := fs) (rs := rs.map RV.val) hd (show ¬ (4 ≤ (ns.map NV.val).length ∧ (ns.map NV.val).length ≤ 40) by rw [HL1.out]; exact hm))
    have HG : Hid (groundF d (n1 : Int) = 2) := by show groundF _ _ = _; unfold groundF; rw [if_pos hd, if_neg (by omega)]
    rw [HG.out]
    go_wp2
    go_ret2
    exact ⟨B.out, Or.inl ⟨by rw [HF.out]; decide, ret_two rfl (int_val HF.out.symm)⟩⟩
  have HD := Lib.hid hd
  have HM : Hid (4 ≤ (ns.map NV.val).length ∧ (ns.map NV.val).length ≤ 40) := by show _ ∧ _; rw [HL1.out]; exact hm
  have HG : Hid (groundF d (n1 : Int) = 0) := by show groundF _ _ = _; unfold groundF; rw [if_pos hd, if_pos (by omega)]
  rw [HG.out]
  clear hd
  have a0 : W1.cell? ⟨w.heap.size, 0, none⟩ = some (.int .i64 d) := L_a.out.cell 0
  have bM := Lib.hid (below_alloc W1 (.map #[] 0))
  have PM := Lib.hid ((PMap.made W1).kept (below_alloc (W1.alloc (.map #[] 0)) (.cells #[.int .i64 d, .slice none 0 0, .map (some W1.heap.size), .slice none 0 0] 109)))
  have LG := Lib.hid (Lies.laid2 W1 (.map #[] 0) 109 #[.int .i64 d, .slice none 0 0, .map (some W1.heap.size), .slice none 0 0])
  replace L_a := Lib.hid ((L_a.out.alloc (.map #[] 0)).alloc (.cells #[.int .i64 d, .slice none 0 0, .map (some W1.heap.size), .slice none 0 0] 109))
  have hw1 := B.out.size
  replace B := Lib.hid ((B.out.alloc B.out.size (.map #[] 0)).alloc (by simp only [World.size_alloc]; omega) (.cells #[.int .i64 d, .slice none 0 0, .map (some W1.heap.size), .slice none 0 0] 109))
  have a1 : ((W1.alloc (.map #[] 0)).alloc (.cells #[.int .i64 d, .slice none 0 0, .map (some W1.heap.size), .slice none 0 0] 109)).cell? ⟨w.heap.size, 1, none⟩ = some (.slice A1 n1 c1) := L_a.out.cell 1
  go_wp2_with fail
  have hs2 : ((W1.alloc (.map #[] 0)).alloc (.cells #[.int .i64 d, .slice none 0 0, .map (some W1.heap.size), .slice none 0 0] 109)).heap.size = W1.heap.size + 1 + 1 := by simp only [World.size_alloc]
  clear a0 a1 bM hmm HG
  generalize hW : ((W1.alloc (.map #[] 0)).alloc (.cells #[.int .i64 d, .slice none 0 0, .map (some W1.heap.size), .slice none 0 0] 109)) = W2 at *
  clear hW
  refine (layAll_any d (W1.heap.size + 1) n1 c1 A1 ns (.map (some W1.heap.size)) (.slice none 0 0) w W2 LG.out HP.out.N B.out (by omega) hm.2).mono ?_
  rintro e W3 ⟨rfl, t3, hLaid⟩
  have B3 := Lib.hid (t3.below B.out (fun x hx => by subst hx; omega))
  have La3 := Lib.hid (t3.lies L_a.out (by show ¬ w.heap.size = W1.heap.size + 1; omega))
  have PM3 := Lib.hid (PM.out.block (t3.2.2 W1.heap.size (by omega) (by show ¬ W1.heap.size = W1.heap.size + 1; omega)))
  have hs3 := t3.2.1
  have HLD := Lib.hid hLaid
  clear t3 hLaid L_a B PM LG
  by_cases hz : firstNZ (nodeFv d) (ns.map NV.val) = 0
  rotate_left
  · have hz1 : (firstNZ (nodeFv d) (ns.map NV.val) != 0) = true := by simpa using hz
    have HF := Lib.hid (arenaF_node (fs := fs) (rs := rs.map RV.val) HD.out HM.out hz)
    have HNZ := Lib.hid hz
    clear hz
    go_wp2
    go_ret2
    exact ⟨B3.out, Or.inl ⟨by rw [HF.out]; exact HNZ.out, ret_two rfl (int_val HF.out.symm)⟩⟩
  have hz1 : (firstNZ (nodeFv d) (ns.map NV.val) != 0) = false := by simp [hz]
  have HN := Lib.hid hz
  obtain ⟨ps, v, hU, hvals, hnew⟩ := HLD.out hz
  obtain ⟨pb, cp, rfl, hGr⟩ := hU.grd (by omega)
  have HGr := Lib.hid hGr
  have HV := Lib.hid hvals
  have HNW := Lib.hid hnew
  clear hz HLD hU hvals hnew hGr
  have a2 : W3.cell? ⟨w.heap.size, 2, none⟩ = some (.slice A2 n2 c2) := La3.out.cell 2
  go_wp2_with fail
  refine (freeAll_any d W2.heap.size (W1.heap.size + 1) pb cp n1 n2 c2 A2 fs (.map (some W1.heap.size)) (.slice none 0 0) ps w W3 HGr.out (fun p hp => (HNW.out p hp).1) HP.out.F B3.out (by omega) hs3 hm.2 m2).mono ?_
  rintro e W4 ⟨rfl, b4, hFree⟩
  rw [HV.out] at hFree ⊢
  have B4 := Lib.hid (B3.out.trans (b4.mono (by omega)))
  have La4 := Lib.hid (La3.out.kept b4 (by omega))
  have PM4 := Lib.hid (PM3.out.block (b4.block W1.heap.size (by omega)))
  have hs4 := b4.size
  have HFE := Lib.hid hFree
  clear b4 hFree La3 B3 PM3 a2 HGr
  by_cases hz : freeF (ns.map NV.val) fs = 0
  rotate_left
  · have hz2 : (freeF (ns.map NV.val) fs != 0) = true := by simpa using hz
    have HF := Lib.hid (arenaF_free (rs := rs.map RV.val) HD.out HM.out HN.out hz)
    have HNZ := Lib.hid hz
    clear hz
    go_wp2
    go_ret2
    exact ⟨B4.out, Or.inl ⟨by rw [HF.out]; exact HNZ.out, ret_two rfl (int_val HF.out.symm)⟩⟩
  have hz2 : (freeF (ns.map NV.val) fs != 0) = false := by simp [hz]
  have HZ := Lib.hid hz
  obtain ⟨ps', hG4, hFd⟩ := HFE.out hz
  have HRET : Hid (Ret W4 W2.heap.size (W1.heap.size + 1) W1.heap.size d (.slice none 0 0) pb cp n1 ps' 0 0 [] (fun _ => none)) :=
    ⟨hG4, ⟨rfl, Or.inl ⟨rfl, rfl⟩⟩, fun b e => by simp [Value.ownBlock] at e, PM4.out, by omega, by omega⟩
  have HFR : Hid (∀ (i : Nat) (p : LV), ps'[i]? = some p → p.fr = fs.contains (i : Int)) := by
    intro i p hi
    obtain ⟨q, _, rfl⟩ := hFd.2 i p hi
    rfl
  have HAP : Hid (Apart ps') := Apart.start fun q hq => by
    obtain ⟨i, hi⟩ := List.getElem?_of_mem hq
    obtain ⟨p, hp, rfl⟩ := hFd.2 i q hi
    exact (HNW.out p (List.mem_of_getElem? hp)).2.2.1
  have HV4 : Hid (ps'.map LV.val = ns.map NV.val) := hFd.vals.trans HV.out
  clear hz HFE hG4 hFd PM4
  have a3 : W4.cell? ⟨w.heap.size, 3, none⟩ = some (.slice A3 n3 c3) := La4.out.cell 3
  go_wp2_with fail
  refine (retireAll_any d W2.heap.size (W1.heap.size + 1) W1.heap.size pb cp n1 n3 c3 A3 rs fs (.slice none 0 0) ps' w W4 HRET.out HFR.out HP.out.R B4.out (by omega) (by omega) (by omega) hm.2 hn3 HAP.out).mono ?_
  rintro e W5 ⟨rfl, b5, hRet⟩
  have B5 := Lib.hid (B4.out.trans b5)
  have hs5 := b5.size
  have HRE := Lib.hid hRet
  have HAF : Hid (arenaF d (ns.map NV.val) fs (rs.map RV.val) = retC n1 fs (rs.map RV.val)) := by
    show arenaF _ _ _ _ = _
    by_cases h1 : firstNZ (retF n1) (rs.map RV.val) = 0
    · rw [arenaF_taken HD.out HM.out HN.out HZ.out (by rw [HL1.out]; exact h1), retC_taken h1]
    · rw [arenaF_ret HD.out HM.out HN.out HZ.out (by rw [HL1.out]; exact h1), HL1.out, retC_stop h1]
  clear b5 hRet La4 B4 a3 HRET
  by_cases hz : retC n1 fs (rs.map RV.val) = 0
  rotate_left
  · have hz3 : (retC n1 fs (rs.map RV.val) != 0) = true := by simpa using hz
    have HNZ := Lib.hid hz
    clear hz
    go_wp2
    go_ret2
    exact ⟨B5.out, Or.inl ⟨by rw [HAF.out]; exact HNZ.out, ret_two rfl (int_val HAF.out.symm)⟩⟩
  have hz3 : (retC n1 fs (rs.map RV.val) != 0) = false := by simp [hz]
  obtain ⟨o', qs, f, hU, hK, hWa, hDm, hAP⟩ := HRE.out hz
  have HAZ : Hid (arenaF d (ns.map NV.val) fs (rs.map RV.val) = 0) := HAF.out.trans hz
  have OP : Hid (Opened w W5 d n1 n3 (ns.map NV.val) fs (rs.map RV.val) (W1.heap.size + 1)) := by
    refine ⟨W2.heap.size, W1.heap.size, o', pb, cp, qs, f, hU, hK.vals.trans HV4.out, fun i q hq => ?_, by omega, by omega, by omega, hWa, by omega, hDm, hAP⟩
    obtain ⟨p, hp, _, _, h4⟩ := hK.2 i q hq
    exact h4.trans (HFR.out i p hp)
  clear hz HRE hU hK hWa hDm hAP
  go_wp2
  go_ret2
  exact ⟨B5.out, Or.inr ⟨HAZ.out, W1.heap.size + 1, rfl, OP.out⟩⟩


end Go.Proofs.YtpgoildfjkokiaaGreat
