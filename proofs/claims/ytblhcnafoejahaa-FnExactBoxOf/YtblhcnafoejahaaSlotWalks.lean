/- The walks of fits and sound of both kinds of node, of impl.nodeBody's all, place and refTwice, and of slices.IndexFunc at slots. -/
import Derived.Test.YtblhcnafoejahaaHolder
namespace Go.Proofs.Ytblhcnafoejahaa
open Go.RowKit

theorem run_makeFunc : ∀ (fn : Fn) (first cap : Array Value) (w : World), (Instr.makeFunc fn first cap).run Try.prog w = .ok (.func fn first cap) w := fun _ _ _ _ => rfl

set_option maxHeartbeats 400000 in
theorem leafFits_any (d lv ns rt : Int) (n c : Nat) (A : Option Addr) (p0 p1 p2 q0 q1 q2 ref nsn : Int) (w : World) :
    Calls Try.prog 132 #[.agg #[.int .i64 d, .slice A n c, .int .i64 lv, .int .i64 ns, .int .i64 rt], .agg #[.int .i64 p0, .int .i64 p1, .int .i64 p2, .int .i64 q0, .int .i64 q1, .int .i64 q2, .int .i64 ref, .int .i64 nsn]] w fun e w' => e = .returned (.bool (nsn == 0)) ∧ Below w.heap.size w w' := by
  go_enter Try.func132, Try.ntmps132
  go_wp2
  go_ret
  exact ⟨rfl, (below_alloc _ _).alloc (below_alloc _ _).size _⟩
set_option maxHeartbeats 400000 in
theorem innerFits_any (d lv ns rt : Int) (n c : Nat) (A : Option Addr) (p0 p1 p2 q0 q1 q2 ref nsn : Int) (w : World) :
    Calls Try.prog 137 #[.agg #[.int .i64 d, .slice A n c, .int .i64 lv, .int .i64 ns, .int .i64 rt], .agg #[.int .i64 p0, .int .i64 p1, .int .i64 p2, .int .i64 q0, .int .i64 q1, .int .i64 q2, .int .i64 ref, .int .i64 nsn]] w fun e w' => e = .returned (.bool (decide (ref < 40))) ∧ Below w.heap.size w w' := by
  go_enter Try.func137, Try.ntmps137
  go_wp2
  go_ret
  exact ⟨rfl, (below_alloc _ _).alloc (below_alloc _ _).size _⟩

/-- Whether a slot fits. -/
def fitsS (lv : Int) (s : SL) : Bool := if lv = 0 then s.nsn == 0 else decide (s.ref < 40)
theorem fits_all {lv : Int} {vs : List EVal} {ss : List SL} (h : SlotsOf vs ss) : ss.all (fitsS lv) = vs.all (fitsE lv) := by
  have one : ∀ {v : EVal} {s : SL}, SlotOf v s → fitsS lv s = fitsE lv v := fun h => by unfold fitsS fitsE; rw [h.2.2.1, h.2.2.2]
  cases hv : vs.all (fitsE lv)
  · rw [List.all_eq_false] at hv ⊢
    obtain ⟨v, hm, hf⟩ := hv
    obtain ⟨k, hk, rfl⟩ := List.getElem_of_mem hm
    have hk' : k < ss.length := by rw [h.1]; exact hk
    exact ⟨ss[k], List.getElem_mem hk', by rw [one (h.2 k _ _ (List.getElem?_eq_getElem hk) (List.getElem?_eq_getElem hk'))]; exact hf⟩
  · refine all_next fun j s hs => ?_
    obtain ⟨v, h1, h2⟩ := h.at hs
    rw [one h2]; exact all_at hv h1

set_option maxRecDepth 100000 in
set_option maxHeartbeats 1600000 in
theorem allLeaf_any (d lv ns rt : Int) (n c : Nat) (A : Option Addr) (ss : List SL) (w : World) (hp : Slots w A n ss) (hn : n ≤ maxLen) :
    Calls Try.prog 136 #[.agg #[.int .i64 d, .slice A n c, .int .i64 lv, .int .i64 ns, .int .i64 rt], .func (.func 132) #[.agg #[.int .i64 d, .slice A n c, .int .i64 lv, .int .i64 ns, .int .i64 rt]] #[]] w fun e w' => e = .returned (.bool (ss.all (fun s : SL => s.nsn == 0))) ∧ Below w.heap.size w w' := by
  have HP := Lib.hid hp
  clear hp
  have B := Lib.hid (below_alloc w (.cells #[.int .i64 d, .slice A n c, .int .i64 lv, .int .i64 ns, .int .i64 rt] 95))
  unfold maxLen at hn
  go_enter Try.func136, Try.ntmps136
  go_wp2
  go_loopw [11] (fun i wr => ∃ k : Nat, k ≤ n ∧ i = .int .i64 k ∧ Hid (Below w.heap.size w wr) ∧ Hid (∀ (j : Nat) (u : SL), j < k → ss[j]? = some u → (fun s : SL => s.nsn == 0) u = true)) (fun i _ => n - (intOf i).toNat)
  case atStart => exact ⟨0, Nat.zero_le _, rfl, B, fun j u hj => absurd hj (Nat.not_lt_zero _)⟩
  case round =>
    obtain ⟨k, hk', rfl, hB, hA⟩ := hrel
    by_cases hlt : k < n
    · obtain ⟨b, o, p0, p1, p2, q0, q1, q2, ref, nsn, rfl, hb, d0, d1, d2, d3, d4, d5, d6, d7, hx⟩ := HP.out.cellAt hlt
      have e0 : wr.cell? ⟨b, o + k * 8, none⟩ = some (.int .i64 p0) := (hB.out.cell (p := ⟨b, o + k * 8, none⟩) hb).trans d0
      have e1 : wr.cell? ⟨b, o + k * 8 + 1, none⟩ = some (.int .i64 p1) := (hB.out.cell (p := ⟨b, o + k * 8 + 1, none⟩) hb).trans d1
      have e2 : wr.cell? ⟨b, o + k * 8 + 2, none⟩ = some (.int .i64 p2) := (hB.out.cell (p := ⟨b, o + k * 8 + 2, none⟩) hb).trans d2
      have e3 : wr.cell? ⟨b, o + k * 8 + 3, none⟩ = some (.int .i64 q0) := (hB.out.cell (p := ⟨b, o + k * 8 + 3, none⟩) hb).trans d3
      have e4 : wr.cell? ⟨b, o + k * 8 + 4, none⟩ = some (.int .i64 q1) := (hB.out.cell (p := ⟨b, o + k * 8 + 4, none⟩) hb).trans d4
      have e5 : wr.cell? ⟨b, o + k * 8 + 5, none⟩ = some (.int .i64 q2) := (hB.out.cell (p := ⟨b, o + k * 8 + 5, none⟩) hb).trans d5
      have e6 : wr.cell? ⟨b, o + k * 8 + 6, none⟩ = some (.int .i64 ref) := (hB.out.cell (p := ⟨b, o + k * 8 + 6, none⟩) hb).trans d6
      have e7 : wr.cell? ⟨b, o + k * 8 + 7, none⟩ = some (.int .i64 nsn) := (hB.out.cell (p := ⟨b, o + k * 8 + 7, none⟩) hb).trans d7
      clear d0 d1 d2 d3 d4 d5 d6 d7
      have hB1 := Lib.hid (hB.out.alloc hB.out.size (.cells #[.int .i64 p0, .int .i64 p1, .int .i64 p2, .int .i64 q0, .int .i64 q1, .int .i64 q2, .int .i64 ref, .int .i64 nsn] 145))
      cases hz : (nsn == 0)
      · have HF : Hid (ss.all (fun s : SL => s.nsn == 0) = false) := all_stop hx.out hz
        have HZ := Lib.hid hz
        clear hz hA hx
        go_wp2_with fail
        refine (leafFits_any _ _ _ _ _ _ _ p0 p1 p2 q0 q1 q2 ref nsn _).mono ?_
        rintro e W1 ⟨rfl, b1⟩
        rw [HZ.out]
        have hB2 := Lib.hid (hB1.out.trans (b1.mono hB1.out.size))
        clear hB hB1 b1 e0 e1 e2 e3 e4 e5 e6 e7
        go_wp2
        go_ret
        exact ⟨ret_bool HF.out.symm, hB2.out⟩
      · have hA' := Lib.hid (upto_next (P := fun u => (fun s : SL => s.nsn == 0) u = true) hA.out hx.out hz)
        have HZ := Lib.hid hz
        clear hz hA hx
        go_wp2_with fail
        refine (leafFits_any _ _ _ _ _ _ _ p0 p1 p2 q0 q1 q2 ref nsn _).mono ?_
        rintro e W1 ⟨rfl, b1⟩
        rw [HZ.out]
        have hB2 := Lib.hid (hB1.out.trans (b1.mono hB1.out.size))
        clear hB hB1 b1 e0 e1 e2 e3 e4 e5 e6 e7
        go_wp2
        go_roundw
        case rel => exact ⟨k + 1, by omega, by go_num, hB2, hA'⟩
        case measure => simp [intOf]; omega
    · have HF : Hid (ss.all (fun s : SL => s.nsn == 0) = true) := all_next (upto_end hA.out (by rw [HP.out.1]; omega))
      clear hA
      go_wp2
      go_ret
      exact ⟨ret_bool HF.out.symm, hB.out⟩

set_option maxRecDepth 100000 in
set_option maxHeartbeats 1600000 in
theorem allInner_any (d lv ns rt : Int) (n c : Nat) (A : Option Addr) (ss : List SL) (w : World) (hp : Slots w A n ss) (hn : n ≤ maxLen) :
    Calls Try.prog 136 #[.agg #[.int .i64 d, .slice A n c, .int .i64 lv, .int .i64 ns, .int .i64 rt], .func (.func 137) #[.agg #[.int .i64 d, .slice A n c, .int .i64 lv, .int .i64 ns, .int .i64 rt]] #[]] w fun e w' => e = .returned (.bool (ss.all (fun s : SL => decide (s.ref < 40)))) ∧ Below w.heap.size w w' := by
  have HP := Lib.hid hp
  clear hp
  have B := Lib.hid (below_alloc w (.cells #[.int .i64 d, .slice A n c, .int .i64 lv, .int .i64 ns, .int .i64 rt] 95))
  unfold maxLen at hn
  go_enter Try.func136, Try.ntmps136
  go_wp2
  go_loopw [11] (fun i wr => ∃ k : Nat, k ≤ n ∧ i = .int .i64 k ∧ Hid (Below w.heap.size w wr) ∧ Hid (∀ (j : Nat) (u : SL), j < k → ss[j]? = some u → (fun s : SL => decide (s.ref < 40)) u = true)) (fun i _ => n - (intOf i).toNat)
  case atStart => exact ⟨0, Nat.zero_le _, rfl, B, fun j u hj => absurd hj (Nat.not_lt_zero _)⟩
  case round =>
    obtain ⟨k, hk', rfl, hB, hA⟩ := hrel
    by_cases hlt : k < n
    · obtain ⟨b, o, p0, p1, p2, q0, q1, q2, ref, nsn, rfl, hb, d0, d1, d2, d3, d4, d5, d6, d7, hx⟩ := HP.out.cellAt hlt
      have e0 : wr.cell? ⟨b, o + k * 8, none⟩ = some (.int .i64 p0) := (hB.out.cell (p := ⟨b, o + k * 8, none⟩) hb).trans d0
      have e1 : wr.cell? ⟨b, o + k * 8 + 1, none⟩ = some (.int .i64 p1) := (hB.out.cell (p := ⟨b, o + k * 8 + 1, none⟩) hb).trans d1
      have e2 : wr.cell? ⟨b, o + k * 8 + 2, none⟩ = some (.int .i64 p2) := (hB.out.cell (p := ⟨b, o + k * 8 + 2, none⟩) hb).trans d2
      have e3 : wr.cell? ⟨b, o + k * 8 + 3, none⟩ = some (.int .i64 q0) := (hB.out.cell (p := ⟨b, o + k * 8 + 3, none⟩) hb).trans d3
      have e4 : wr.cell? ⟨b, o + k * 8 + 4, none⟩ = some (.int .i64 q1) := (hB.out.cell (p := ⟨b, o + k * 8 + 4, none⟩) hb).trans d4
      have e5 : wr.cell? ⟨b, o + k * 8 + 5, none⟩ = some (.int .i64 q2) := (hB.out.cell (p := ⟨b, o + k * 8 + 5, none⟩) hb).trans d5
      have e6 : wr.cell? ⟨b, o + k * 8 + 6, none⟩ = some (.int .i64 ref) := (hB.out.cell (p := ⟨b, o + k * 8 + 6, none⟩) hb).trans d6
      have e7 : wr.cell? ⟨b, o + k * 8 + 7, none⟩ = some (.int .i64 nsn) := (hB.out.cell (p := ⟨b, o + k * 8 + 7, none⟩) hb).trans d7
      clear d0 d1 d2 d3 d4 d5 d6 d7
      have hB1 := Lib.hid (hB.out.alloc hB.out.size (.cells #[.int .i64 p0, .int .i64 p1, .int .i64 p2, .int .i64 q0, .int .i64 q1, .int .i64 q2, .int .i64 ref, .int .i64 nsn] 145))
      cases hz : decide (ref < 40)
      · have HF : Hid (ss.all (fun s : SL => decide (s.ref < 40)) = false) := all_stop hx.out hz
        have HZ := Lib.hid hz
        clear hz hA hx
        go_wp2_with fail
        refine (innerFits_any _ _ _ _ _ _ _ p0 p1 p2 q0 q1 q2 ref nsn _).mono ?_
        rintro e W1 ⟨rfl, b1⟩
        rw [HZ.out]
        have hB2 := Lib.hid (hB1.out.trans (b1.mono hB1.out.size))
        clear hB hB1 b1 e0 e1 e2 e3 e4 e5 e6 e7
        go_wp2
        go_ret
        exact ⟨ret_bool HF.out.symm, hB2.out⟩
      · have hA' := Lib.hid (upto_next (P := fun u => (fun s : SL => decide (s.ref < 40)) u = true) hA.out hx.out hz)
        have HZ := Lib.hid hz
        clear hz hA hx
        go_wp2_with fail
        refine (innerFits_any _ _ _ _ _ _ _ p0 p1 p2 q0 q1 q2 ref nsn _).mono ?_
        rintro e W1 ⟨rfl, b1⟩
        rw [HZ.out]
        have hB2 := Lib.hid (hB1.out.trans (b1.mono hB1.out.size))
        clear hB hB1 b1 e0 e1 e2 e3 e4 e5 e6 e7
        go_wp2
        go_roundw
        case rel => exact ⟨k + 1, by omega, by go_num, hB2, hA'⟩
        case measure => simp [intOf]; omega
    · have HF : Hid (ss.all (fun s : SL => decide (s.ref < 40)) = true) := all_next (upto_end hA.out (by rw [HP.out.1]; omega))
      clear hA
      go_wp2
      go_ret
      exact ⟨ret_bool HF.out.symm, hB.out⟩

set_option maxHeartbeats 800000 in
theorem leafSound_any (d lv ns rt : Int) (n c : Nat) (A : Option Addr) (ss : List SL) (w : World) (hp : Slots w A n ss) (hn : n ≤ maxLen) (hl : lv = 0) :
    Calls Try.prog 133 #[.agg #[.int .i64 d, .slice A n c, .int .i64 lv, .int .i64 ns, .int .i64 rt]] w fun e w' => e = .returned (.bool (ss.all (fitsS lv))) ∧ Below w.heap.size w w' := by
  have HP := Lib.hid hp
  have HL := Lib.hid hl
  have hmf := run_makeFunc
  clear hp hl
  have B := Lib.hid (below_alloc w (.cells #[.int .i64 d, .slice A n c, .int .i64 lv, .int .i64 ns, .int .i64 rt] 150))
  go_enter Try.func133, Try.ntmps133
  go_wp2_with fail
  refine (allLeaf_any _ _ _ _ _ _ _ ss _ (HP.out.kept B.out) hn).mono ?_
  rintro e W1 ⟨rfl, b1⟩
  replace B := Lib.hid (B.out.trans (b1.mono B.out.size))
  clear b1
  go_wp2
  go_ret
  exact ⟨ret_bool (by rw [show fitsS lv = (fun s : SL => s.nsn == 0) from funext fun s => by unfold fitsS; rw [if_pos HL.out]]), B.out⟩
set_option maxHeartbeats 800000 in
theorem innerSound_any (d lv ns rt : Int) (n c : Nat) (A : Option Addr) (ss : List SL) (w : World) (hp : Slots w A n ss) (hn : n ≤ maxLen) (hl : ¬ lv = 0) :
    Calls Try.prog 138 #[.agg #[.int .i64 d, .slice A n c, .int .i64 lv, .int .i64 ns, .int .i64 rt]] w fun e w' => e = .returned (.bool (ss.all (fitsS lv))) ∧ Below w.heap.size w w' := by
  have HP := Lib.hid hp
  have HL := Lib.hid hl
  have hmf := run_makeFunc
  clear hp hl
  have B := Lib.hid (below_alloc w (.cells #[.int .i64 d, .slice A n c, .int .i64 lv, .int .i64 ns, .int .i64 rt] 151))
  go_enter Try.func138, Try.ntmps138
  go_wp2_with fail
  refine (allInner_any _ _ _ _ _ _ _ ss _ (HP.out.kept B.out) hn).mono ?_
  rintro e W1 ⟨rfl, b1⟩
  replace B := Lib.hid (B.out.trans (b1.mono B.out.size))
  clear b1
  go_wp2
  go_ret
  exact ⟨ret_bool (by rw [show fitsS lv = (fun s : SL => decide (s.ref < 40)) from funext fun s => by unfold fitsS; rw [if_neg HL.out]]), B.out⟩

set_option maxHeartbeats 400000 in
theorem placeOne_any (r : Int) (g : Nat) (p0 p1 p2 q0 q1 q2 ref nsn : Int) (w : World) (hg : g < w.heap.size) (hc : w.cell? ⟨g, 0, none⟩ = some (.int .i64 r)) :
    Calls Try.prog 124 #[.agg #[.int .i64 p0, .int .i64 p1, .int .i64 p2, .int .i64 q0, .int .i64 q1, .int .i64 q2, .int .i64 ref, .int .i64 nsn], .pointer (some ⟨g, 0, none⟩)] w fun e w' => e = .returned (.bool (ref == r)) ∧ Below w.heap.size w w' := by
  have hc' : (w.alloc (.cells #[.int .i64 p0, .int .i64 p1, .int .i64 p2, .int .i64 q0, .int .i64 q1, .int .i64 q2, .int .i64 ref, .int .i64 nsn] 145)).cell? ⟨g, 0, none⟩ = some (.int .i64 r) := ((below_alloc w (.cells #[.int .i64 p0, .int .i64 p1, .int .i64 p2, .int .i64 q0, .int .i64 q1, .int .i64 q2, .int .i64 ref, .int .i64 nsn] 145)).cell (p := ⟨g, 0, none⟩) hg).trans hc
  clear hc
  go_enter Try.func124, Try.ntmps124
  go_wp2
  go_ret
  exact ⟨rfl, below_alloc _ _⟩

set_option maxHeartbeats 1600000 in
theorem indexFunc_any (r : Int) (g n c : Nat) (A : Option Addr) (vs : List EVal) (ss : List SL) (w : World) (hp : Slots w A n ss) (ho : SlotsOf vs ss) (hn : n ≤ maxLen) (hg : g < w.heap.size) (hc : w.cell? ⟨g, 0, none⟩ = some (.int .i64 r)) :
    Calls Try.prog 123 #[.slice A n c, .func (.func 124) #[] #[.pointer (some ⟨g, 0, none⟩)]] w fun e w' => e = .returned (.int .i64 (findE r vs)) ∧ Below w.heap.size w w' := by
  have HP := Lib.hid hp
  have HO := Lib.hid ho
  have HC := Lib.hid hc
  have HL : Hid (vs.length = n) := ho.1.symm.trans hp.1
  clear hp ho hc
  unfold maxLen at hn
  go_enter Try.func123, Try.ntmps123
  go_wp2
  go_loopw [8] (fun i wr => ∃ k : Nat, k ≤ n ∧ i = .int .i64 k ∧ Hid (Below w.heap.size w wr) ∧ Hid (∀ (j : Nat) (u : EVal), j < k → vs[j]? = some u → u.2.2.1 ≠ r)) (fun i _ => n - (intOf i).toNat)
  case atStart => exact ⟨0, Nat.zero_le _, rfl, Below.refl _ _, fun j u hj => absurd hj (Nat.not_lt_zero _)⟩
  case round =>
    obtain ⟨k, hk', rfl, hB, hA⟩ := hrel
    by_cases hlt : k < n
    · obtain ⟨b, o, p0, p1, p2, q0, q1, q2, ref, nsn, rfl, hb, d0, d1, d2, d3, d4, d5, d6, d7, hx⟩ := HP.out.cellAt hlt
      have e0 : wr.cell? ⟨b, o + k * 8, none⟩ = some (.int .i64 p0) := (hB.out.cell (p := ⟨b, o + k * 8, none⟩) hb).trans d0
      have e1 : wr.cell? ⟨b, o + k * 8 + 1, none⟩ = some (.int .i64 p1) := (hB.out.cell (p := ⟨b, o + k * 8 + 1, none⟩) hb).trans d1
      have e2 : wr.cell? ⟨b, o + k * 8 + 2, none⟩ = some (.int .i64 p2) := (hB.out.cell (p := ⟨b, o + k * 8 + 2, none⟩) hb).trans d2
      have e3 : wr.cell? ⟨b, o + k * 8 + 3, none⟩ = some (.int .i64 q0) := (hB.out.cell (p := ⟨b, o + k * 8 + 3, none⟩) hb).trans d3
      have e4 : wr.cell? ⟨b, o + k * 8 + 4, none⟩ = some (.int .i64 q1) := (hB.out.cell (p := ⟨b, o + k * 8 + 4, none⟩) hb).trans d4
      have e5 : wr.cell? ⟨b, o + k * 8 + 5, none⟩ = some (.int .i64 q2) := (hB.out.cell (p := ⟨b, o + k * 8 + 5, none⟩) hb).trans d5
      have e6 : wr.cell? ⟨b, o + k * 8 + 6, none⟩ = some (.int .i64 ref) := (hB.out.cell (p := ⟨b, o + k * 8 + 6, none⟩) hb).trans d6
      have e7 : wr.cell? ⟨b, o + k * 8 + 7, none⟩ = some (.int .i64 nsn) := (hB.out.cell (p := ⟨b, o + k * 8 + 7, none⟩) hb).trans d7
      clear d0 d1 d2 d3 d4 d5 d6 d7
      obtain ⟨v, hv, hsv⟩ := HO.out.at hx.out
      have hrv : Hid (ref = v.2.2.1) := hsv.2.2.1
      have HV := Lib.hid hv
      clear hv hsv hx
      have gk := Nat.lt_of_lt_of_le hg hB.out.size
      by_cases hz : ref = r
      · have HF : Hid (findE r vs = k) := findE_stop hA.out HV.out (hrv.out.symm.trans hz)
        have HZ : Hid ((ref == r) = true) := by show (ref == r) = _; simpa using hz
        clear hz hA
        go_wp2_with fail
        refine (placeOne_any r g p0 p1 p2 q0 q1 q2 ref nsn _ gk ((hB.out.cell (p := ⟨g, 0, none⟩) hg).trans HC.out)).mono ?_
        rintro e W1 ⟨rfl, b1⟩
        rw [HZ.out]
        have hB2 := Lib.hid (hB.out.trans (b1.mono hB.out.size))
        clear hB b1 e0 e1 e2 e3 e4 e5 e6 e7
        go_wp2
        go_ret
        exact ⟨ret_i64 HF.out.symm, hB2.out⟩
      · have hA' := Lib.hid (upto_next hA.out HV.out (fun h => hz (hrv.out.trans h)))
        have HZ : Hid ((ref == r) = false) := by show (ref == r) = _; simpa using hz
        clear hz hA
        go_wp2_with fail
        refine (placeOne_any r g p0 p1 p2 q0 q1 q2 ref nsn _ gk ((hB.out.cell (p := ⟨g, 0, none⟩) hg).trans HC.out)).mono ?_
        rintro e W1 ⟨rfl, b1⟩
        rw [HZ.out]
        have hB2 := Lib.hid (hB.out.trans (b1.mono hB.out.size))
        clear hB b1 e0 e1 e2 e3 e4 e5 e6 e7 gk
        go_wp2
        go_roundw
        case rel => exact ⟨k + 1, by omega, by go_num, hB2, hA'⟩
        case measure => simp [intOf]; omega
    · have HF : Hid (findE r vs = -1) := findE_none (upto_end hA.out (by rw [HL.out]; omega))
      clear hA
      go_wp2
      go_ret
      exact ⟨ret_i64 HF.out.symm, hB.out⟩

set_option maxHeartbeats 800000 in
theorem place_any (d r : Int) (n c : Nat) (A : Option Addr) (vs : List EVal) (ss : List SL) (w : World) (hp : Slots w A n ss) (ho : SlotsOf vs ss) (hn : n ≤ maxLen) :
    Calls Try.prog 120 #[.agg #[.int .i64 d, .slice A n c], .int .i64 r] w fun e w' => e = .returned (.int .i64 (findE r vs)) ∧ Below w.heap.size w w' := by
  have HP := Lib.hid hp
  have HO := Lib.hid ho
  have hmf := run_makeFunc
  clear hp ho
  have B := Lib.hid (below_alloc w (.cells #[.int .i64 d, .slice A n c] 93))
  replace B := Lib.hid (B.out.alloc B.out.size (.cells #[.int .i64 r] 2))
  have L_r := Lib.hid (Lies.new (w.alloc (.cells #[.int .i64 d, .slice A n c] 93)) 2 #[.int .i64 r])
  simp only [World.size_alloc] at L_r
  have hin := L_r.out.inside
  go_enter Try.func120, Try.ntmps120
  go_wp2_with fail
  refine (indexFunc_any r _ _ _ _ vs ss _ (HP.out.kept B.out) HO.out hn L_r.out.inside (L_r.out.cell 0)).mono ?_
  rintro e W1 ⟨rfl, b1⟩
  replace B := Lib.hid (B.out.trans (b1.mono B.out.size))
  clear b1
  go_wp2
  go_ret
  exact ⟨rfl, B.out⟩

set_option maxHeartbeats 1600000 in
theorem refTwice_any (d : Int) (n c : Nat) (A : Option Addr) (vs : List EVal) (ss : List SL) (w : World) (hp : Slots w A n ss) (ho : SlotsOf vs ss) (hn : n ≤ maxLen) :
    Calls Try.prog 121 #[.agg #[.int .i64 d, .slice A n c]] w fun e w' => e = .returned (.bool (twiceE vs)) ∧ Below w.heap.size w w' := by
  have HP := Lib.hid hp
  have HO := Lib.hid ho
  have HL : Hid (vs.length = n) := ho.1.symm.trans hp.1
  clear hp ho
  have B := Lib.hid (below_alloc w (.cells #[.int .i64 d, .slice A n c] 93))
  have L_b := Lib.hid (Lies.new w 93 #[.int .i64 d, .slice A n c])
  have hn0 := hn
  unfold maxLen at hn
  go_enter Try.func121, Try.ntmps121
  go_wp2
  go_loopw [8] (fun i wr => ∃ k : Nat, k ≤ n ∧ i = .int .i64 k ∧ Hid (Below w.heap.size w wr) ∧ Hid (Lies wr w.heap.size 93 #[.int .i64 d, .slice A n c]) ∧ Hid (∀ (j : Nat) (u : EVal), j < k → vs[j]? = some u → findE u.2.2.1 vs = (j : Int))) (fun i _ => n - (intOf i).toNat)
  case atStart => exact ⟨0, Nat.zero_le _, rfl, B, L_b, fun j u hj => absurd hj (Nat.not_lt_zero _)⟩
  case round =>
    obtain ⟨k, hk', rfl, hB, hN, hA⟩ := hrel
    by_cases hlt : k < n
    · obtain ⟨b, o, p0, p1, p2, q0, q1, q2, ref, nsn, rfl, hb, d0, d1, d2, d3, d4, d5, d6, d7, hx⟩ := HP.out.cellAt hlt
      have e0 : wr.cell? ⟨b, o + k * 8, none⟩ = some (.int .i64 p0) := (hB.out.cell (p := ⟨b, o + k * 8, none⟩) hb).trans d0
      have e1 : wr.cell? ⟨b, o + k * 8 + 1, none⟩ = some (.int .i64 p1) := (hB.out.cell (p := ⟨b, o + k * 8 + 1, none⟩) hb).trans d1
      have e2 : wr.cell? ⟨b, o + k * 8 + 2, none⟩ = some (.int .i64 p2) := (hB.out.cell (p := ⟨b, o + k * 8 + 2, none⟩) hb).trans d2
      have e3 : wr.cell? ⟨b, o + k * 8 + 3, none⟩ = some (.int .i64 q0) := (hB.out.cell (p := ⟨b, o + k * 8 + 3, none⟩) hb).trans d3
      have e4 : wr.cell? ⟨b, o + k * 8 + 4, none⟩ = some (.int .i64 q1) := (hB.out.cell (p := ⟨b, o + k * 8 + 4, none⟩) hb).trans d4
      have e5 : wr.cell? ⟨b, o + k * 8 + 5, none⟩ = some (.int .i64 q2) := (hB.out.cell (p := ⟨b, o + k * 8 + 5, none⟩) hb).trans d5
      have e6 : wr.cell? ⟨b, o + k * 8 + 6, none⟩ = some (.int .i64 ref) := (hB.out.cell (p := ⟨b, o + k * 8 + 6, none⟩) hb).trans d6
      have e7 : wr.cell? ⟨b, o + k * 8 + 7, none⟩ = some (.int .i64 nsn) := (hB.out.cell (p := ⟨b, o + k * 8 + 7, none⟩) hb).trans d7
      clear d0 d1 d2 d3 d4 d5 d6 d7
      obtain ⟨v, hv, hsv⟩ := HO.out.at hx.out
      have hrv : Hid (ref = v.2.2.1) := hsv.2.2.1
      have HV := Lib.hid hv
      clear hv hsv hx
      have hB1 := Lib.hid (hB.out.alloc hB.out.size (.cells #[.int .i64 p0, .int .i64 p1, .int .i64 p2, .int .i64 q0, .int .i64 q1, .int .i64 q2, .int .i64 ref, .int .i64 nsn] 145))
      have hN1 := Lib.hid (hN.out.alloc (.cells #[.int .i64 p0, .int .i64 p1, .int .i64 p2, .int .i64 q0, .int .i64 q1, .int .i64 q2, .int .i64 ref, .int .i64 nsn] 145))
      have g0 : (wr.alloc (.cells #[.int .i64 p0, .int .i64 p1, .int .i64 p2, .int .i64 q0, .int .i64 q1, .int .i64 q2, .int .i64 ref, .int .i64 nsn] 145)).cell? ⟨w.heap.size, 0, none⟩ = some (.int .i64 d) := hN1.out.cell 0
      have g1 : (wr.alloc (.cells #[.int .i64 p0, .int .i64 p1, .int .i64 p2, .int .i64 q0, .int .i64 q1, .int .i64 q2, .int .i64 ref, .int .i64 nsn] 145)).cell? ⟨w.heap.size, 1, none⟩ = some (.slice (some ⟨b, o, none⟩) n c) := hN1.out.cell 1
      by_cases hz : findE ref vs = (k : Int)
      · have hA' := Lib.hid (uptoAt_next (P := fun j (u : EVal) => findE u.2.2.1 vs = (j : Int)) hA.out HV.out (by rw [← hrv.out]; exact hz))
        have hz1 : (findE ref vs != (k : Int)) = false := by simp [hz]
        clear hz hA
        go_wp2_with fail
        refine (place_any _ ref _ _ _ vs ss _ (HP.out.kept hB1.out) HO.out hn0).mono ?_
        rintro e W1 ⟨rfl, b1⟩
        have hB2 := Lib.hid (hB1.out.trans (b1.mono hB1.out.size))
        have hN2 := Lib.hid (hN1.out.kept b1 hN1.out.inside)
        clear hB hB1 hN hN1 b1 e0 e1 e2 e3 e4 e5 e6 e7 g0 g1
        go_wp2
        go_roundw
        case rel => exact ⟨k + 1, by omega, by go_num, hB2, hN2, hA'⟩
        case measure => simp [intOf]; omega
      · have HF : Hid (twiceE vs = true) := twiceE_at HV.out (by rw [← hrv.out]; exact hz)
        have hz1 : (findE ref vs != (k : Int)) = true := by simpa using hz
        clear hz hA
        go_wp2_with fail
        refine (place_any _ ref _ _ _ vs ss _ (HP.out.kept hB1.out) HO.out hn0).mono ?_
        rintro e W1 ⟨rfl, b1⟩
        have hB2 := Lib.hid (hB1.out.trans (b1.mono hB1.out.size))
        clear hB hB1 hN hN1 b1 e0 e1 e2 e3 e4 e5 e6 e7 g0 g1
        go_wp2
        go_ret
        exact ⟨ret_bool HF.out.symm, hB2.out⟩
    · have HF : Hid (twiceE vs = false) := twiceE_none (uptoAt_end (P := fun j (u : EVal) => findE u.2.2.1 vs = (j : Int)) hA.out (by rw [HL.out]; omega))
      clear hA
      go_wp2
      go_ret
      exact ⟨ret_bool HF.out.symm, hB.out⟩

end Go.Proofs.Ytblhcnafoejahaa
