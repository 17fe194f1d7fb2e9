/- The walk of slices.Clone at slots: of a row that is not empty. -/
import Derived.Test.YtpgoildfjkokiaaGreatHolder
import Derived.Lib.SliceRun
import Derived.Lib.LazyBuf
import Derived.Deep.RegionLaw
namespace Go.Proofs.YtpgoildfjkokiaaGreat
open Go.RowKit

theorem slotCells_inv : ∀ {ss : List SL} {j : Nat} {u : Value}, (ss.flatMap SL.cells)[j]? = some u → ∃ k i s, j = k * 8 + i ∧ ss[k]? = some s ∧ s.cells[i]? = some u
  | [], j, u, h => by simp at h
  | t :: ss, j, u, h => by
    have hl : t.cells.length = 8 := rfl
    rw [List.flatMap_cons] at h
    rcases Nat.lt_or_ge j 8 with hj | hj
    · rw [List.getElem?_append_left (by rw [hl]; exact hj)] at h
      exact ⟨0, j, t, by omega, rfl, h⟩
    · rw [List.getElem?_append_right (by rw [hl]; exact hj), hl] at h
      obtain ⟨k, i, s, e, hk, hi⟩ := slotCells_inv h
      exact ⟨k + 1, i, s, by omega, by simpa using hk, hi⟩


end Go.Proofs.YtpgoildfjkokiaaGreat

/- The walk of slices.Delete at slots: one slot is taken out of a row of the call's own. -/
namespace Go.Proofs.YtpgoildfjkokiaaGreat
open Go.RowKit

theorem slice_len {A : Option Addr} {n m c : Nat} (h : n = m) : Value.slice A n c = .slice A m c := by rw [h]
theorem zero_slot (w : World) : (zeroValue 181).run Tryz.prog w = .ok (.agg #[.int .i64 0, .int .i64 0, .int .i64 0, .int .i64 0, .int .i64 0, .int .i64 0, .int .i64 0, .int .i64 0]) w := by kernel_rfl

/-- 'clear' of one slot: its eight cells are 0. -/
theorem run_clear_slot (w : World) (ty : TypeId) (b o c : Nat) (hc : ∀ j, j < 8 → (w.cell? ⟨b, o + j, none⟩).isSome = true) (hf : ∀ j, j < 8 → w.frozen? ⟨b, o + j, none⟩ = false) :
    (Builtin.clear_ #[159] ty #[.slice (some ⟨b, o, none⟩) 1 c]).run Tryz.prog w = .ok (.tuple #[]) (w.setCells b o (List.replicate 8 (.int .i64 0))) := by
  have hst := run_storeCells_cells (P := Tryz.prog) b o (List.replicate 8 (.int .i64 0)) 0 w (by simpa using hc) (by simpa using hf) (by intro v hv'; rw [List.eq_of_mem_replicate hv']; rfl)
  simp only [Nat.add_zero] at hst
  have hzc : (Builtin.zeroCells (Value.agg #[.int .i64 0, .int .i64 0, .int .i64 0, .int .i64 0, .int .i64 0, .int .i64 0, .int .i64 0, .int .i64 0]).cells 1).toList = List.replicate 8 (.int .i64 0) := by kernel_rfl
  simp only [List.replicate] at hst hzc ⊢
  simp [Builtin.clear_, run_underlying Tryz.underlying159, zero_slot, hzc, hst]

/-- What the row holds behind the append and the clear. -/
theorem deleted_slots {w : World} {base g n cap i : Nat} {ss : List SL} (ho : w.ownsRow base 181 8 (.slice (some ⟨g, 0, none⟩) n cap) n (ss.flatMap SL.cells)) (hi : i < n) :
    Slots ((w.drew.setCells g (0 + i * 8) ((ss.drop (i + 1)).flatMap SL.cells)).setCells g (0 + (n - 1) * 8) (List.replicate 8 (.int .i64 0))) (some ⟨g, 0, none⟩) (n - 1) (ss.eraseIdx i) := by
  obtain ⟨hl, h1⟩ := ho
  rw [slotCells_len] at hl
  rcases h1 with ⟨e, _⟩ | ⟨g', cap', cur, e, b1, b2, b3, b4, b5, b6⟩
  · simp at e
  injection e with e1 e2 e3
  injection e1 with e1; injection e1 with e1
  subst e1 e3
  have hr : w.drew.rowIs g 181 (cap * 8) (fun k => cur.getD k undef) := ⟨cur, b2, b5, fun k hk => by simp [Array.getD, show k < cur.size by omega]⟩
  have hr2 := Go.rowIs_setCells (List.replicate 8 (.int .i64 0)) (0 + (n - 1) * 8) _ _ (Go.rowIs_setCells ((ss.drop (i + 1)).flatMap SL.cells) (0 + i * 8) _ _ hr)
  have hln : ss.length = n := by omega
  refine ⟨by rw [List.length_eraseIdx, if_pos (by omega)]; omega, fun hp => ⟨g, 0, rfl, hr2.lt, fun k s hk j v hv => ?_⟩⟩
  have hj : j < 8 := by have := (List.getElem?_eq_some_iff.1 hv).1; simpa [SL.cells] using this
  have hkn : k < n - 1 := by have := (List.getElem?_eq_some_iff.1 hk).1; rw [List.length_eraseIdx, if_pos (by omega)] at this; omega
  rw [hr2.cell (i := 0 + k * 8 + j) (by omega), if_neg (by simp only [List.length_replicate]; omega)]
  rw [List.getElem?_eraseIdx] at hk
  have hdl : ((ss.drop (i + 1)).flatMap SL.cells).length = (n - (i + 1)) * 8 := by rw [slotCells_len, List.length_drop, hln]
  by_cases hki : k < i
  · rw [if_pos hki] at hk
    rw [if_neg (by omega)]
    have h8 : (cur.toList.take (n * 8))[k * 8 + j]? = some v := by rw [b6]; exact slotCells_at hk hv
    rw [List.getElem?_take, if_pos (by omega)] at h8
    have h9 : cur[k * 8 + j]? = some v := by simpa using h8
    simp only [Nat.zero_add, Array.getD_eq_getD_getElem?, h9, Option.getD_some]
  · rw [if_neg hki] at hk
    rw [if_pos (by omega)]
    have h8 : ((ss.drop (i + 1)).flatMap SL.cells)[(k - i) * 8 + j]? = some v := slotCells_at (by rw [List.getElem?_drop]; rw [show i + 1 + (k - i) = k + 1 by omega]; exact hk) hv
    rw [show 0 + k * 8 + j - (0 + i * 8) = (k - i) * 8 + j by omega, h8]; rfl



end Go.Proofs.YtpgoildfjkokiaaGreat

/- The walks of fits and sound of both kinds of node, of impl.nodeBody's all, place and refTwice, and of slices.IndexFunc at slots. -/
namespace Go.Proofs.YtpgoildfjkokiaaGreat
open Go.RowKit

theorem run_makeFunc : ∀ (fn : Fn) (first cap : Array Value) (w : World), (Instr.makeFunc fn first cap).run Tryz.prog w = .ok (.func fn first cap) w := fun _ _ _ _ => rfl

set_option maxHeartbeats 400000 in
theorem leafFits_any (d lv ns rt : Int) (n c : Nat) (A : Option Addr) (p0 p1 p2 q0 q1 q2 ref nsn : Int) (w : World) :
    Calls Tryz.prog 178 #[.agg #[.int .i64 d, .slice A n c, .int .i64 lv, .int .i64 ns, .int .i64 rt], .agg #[.int .i64 p0, .int .i64 p1, .int .i64 p2, .int .i64 q0, .int .i64 q1, .int .i64 q2, .int .i64 ref, .int .i64 nsn]] w fun e w' => e = .returned (.bool (nsn == 0)) ∧ Below w.heap.size w w' := by
  go_enter Tryz.func178, Tryz.ntmps178
  go_wp2
  go_ret
  exact ⟨rfl, (below_alloc _ _).alloc (below_alloc _ _).size _⟩
set_option maxHeartbeats 400000 in
theorem innerFits_any (d lv ns rt : Int) (n c : Nat) (A : Option Addr) (p0 p1 p2 q0 q1 q2 ref nsn : Int) (w : World) :
    Calls Tryz.prog 183 #[.agg #[.int .i64 d, .slice A n c, .int .i64 lv, .int .i64 ns, .int .i64 rt], .agg #[.int .i64 p0, .int .i64 p1, .int .i64 p2, .int .i64 q0, .int .i64 q1, .int .i64 q2, .int .i64 ref, .int .i64 nsn]] w fun e w' => e = .returned (.bool (decide (ref < 40))) ∧ Below w.heap.size w w' := by
  go_enter Tryz.func183, Tryz.ntmps183
  go_wp2
  go_ret
  exact ⟨rfl, (below_alloc _ _).alloc (below_alloc _ _).size _⟩

/-- Whether a slot fits. -/
def fitsS (lv : Int) (s : SL) : Bool := if lv = 0 then s.nsn == 0 else decide (s.ref < 40)
theorem fits_all {lv : Int} {vs : List EVal} {ss : List SL} (h : SlotsOf vs ss) : ss.all (fitsS lv) = vs.all (fitsE lv) := by
  have one : ∀ {v : EVal} {s : SL}, SlotOf v s → fitsS lv s = fitsE lv v := fun h => by unfold fitsS fitsE; rw [h.2.2.1, h.2.2.2]
  cases hv : vs.all (fitsE lv)
  · rw [List.all_eq_false] at hv ⊢
    obtain ⟨v, hm, hf⟩ := hv
    obtain ⟨k, hk, rfl⟩ := List.getElem_of_mem hm
    have hk' : k < ss.length := by rw [h.1]; exact hk
    exact ⟨ss[k], List.getElem_mem hk', by rw [one (h.2 k _ _ (List.getElem?_eq_getElem hk) (List.getElem?_eq_getElem hk'))]; exact hf⟩
  · refine all_next fun j s hs => ?_
    obtain ⟨v, h1, h2⟩ := h.at hs
    rw [one h2]; exact all_at hv h1

set_option maxRecDepth 100000 in
set_option maxHeartbeats 1600000 in
theorem allLeaf_any (d lv ns rt : Int) (n c : Nat) (A : Option Addr) (ss : List SL) (w : World) (hp : Slots w A n ss) (hn : n ≤ maxLen) :
    Calls Tryz.prog 182 #[.agg #[.int .i64 d, .slice A n c, .int .i64 lv, .int .i64 ns, .int .i64 rt], .func (.func 178) #[.agg #[.int .i64 d, .slice A n c, .int .i64 lv, .int .i64 ns, .int .i64 rt]] #[]] w fun e w' => e = .returned (.bool (ss.all (fun s : SL => s.nsn == 0))) ∧ Below w.heap.size w w' := by
  have HP := Lib.hid hp
  clear hp
  have B := Lib.hid (below_alloc w (.cells #[.int .i64 d, .slice A n c, .int .i64 lv, .int .i64 ns, .int .i64 rt] 164))
  unfold maxLen at hn
  go_enter Tryz.func182, Tryz.ntmps182
  go_wp2
  go_loopw [11] (fun i wr => ∃ k : Nat, k ≤ n ∧ i = .int .i64 k ∧ Hid (Below w.heap.size w wr) ∧ Hid (∀ (j : Nat) (u : SL), j < k → ss[j]? = some u → (fun s : SL => s.nsn == 0) u = true)) (fun i _ => n - (intOf i).toNat)
  case atStart => exact ⟨0, Nat.zero_le _, rfl, B, fun j u hj => absurd hj (Nat.not_lt_zero _)⟩
  case round =>
    obtain ⟨k, hk', rfl, hB, hA⟩ := hrel
    by_cases hlt : k < n
    · obtain ⟨b, o, p0, p1, p2, q0, q1, q2, ref, nsn, rfl, hb, d0, d1, d2, d3, d4, d5, d6, d7, hx⟩ := HP.out.cellAt hlt
      have e0 : wr.cell? ⟨b, o + k * 8, none⟩ = some (.int .i64 p0) := (hB.out.cell (p := ⟨b, o + k * 8, none⟩) hb).trans d0
      have e1 : wr.cell? ⟨b, o + k * 8 + 1, none⟩ = some (.int .i64 p1) := (hB.out.cell (p := ⟨b, o + k * 8 + 1, none⟩) hb).trans d1
      have e2 : wr.cell? ⟨b, o + k * 8 + 2, none⟩ = some (.int .i64 p2) := (hB.out.cell (p := ⟨b, o + k * 8 + 2, none⟩) hb).trans d2
      have e3 : wr.cell? ⟨b, o + k * 8 + 3, none⟩ = some (.int .i64 q0) := (hB.out.cell (p := ⟨b, o + k * 8 + 3, none⟩) hb).trans d3
      have e4 : wr.cell? ⟨b, o + k * 8 + 4, none⟩ = some (.int .i64 q1) := (hB.out.cell (p := ⟨b, o + k * 8 + 4, none⟩) hb).trans d4
      have e5 : wr.cell? ⟨b, o + k * 8 + 5, none⟩ = some (.int .i64 q2) := (hB.out.cell (p := ⟨b, o + k * 8 + 5, none⟩) hb).trans d5
      have e6 : wr.cell? ⟨b, o + k * 8 + 6, none⟩ = some (.int .i64 ref) := (hB.out.cell (p := ⟨b, o + k * 8 + 6, none⟩) hb).trans d6
      have e7 : wr.cell? ⟨b, o + k * 8 + 7, none⟩ = some (.int .i64 nsn) := (hB.out.cell (p := ⟨b, o + k * 8 + 7, none⟩) hb).trans d7
      clear d0 d1 d2 d3 d4 d5 d6 d7
      have hB1 := Lib.hid (hB.out.alloc hB.out.size (.cells #[.int .i64 p0, .int .i64 p1, .int .i64 p2, .int .i64 q0, .int .i64 q1, .int .i64 q2, .int .i64 ref, .int .i64 nsn] 181))
      cases hz : (nsn == 0)
      · have HF : Hid (ss.all (fun s : SL => s.nsn == 0) = false) := all_stop hx.out hz
        have HZ := Lib.hid hz
        clear hz hA hx
        go_wp2_with fail
        refine (leafFits_any _ _ _ _ _ _ _ p0 p1 p2 q0 q1 q2 ref nsn _).mono ?_
        rintro e W1 ⟨rfl, b1⟩
        rw [HZ.out]
        have hB2 := Lib.hid (hB1.out.trans (b1.mono hB1.out.size))
        clear hB hB1 b1 e0 e1 e2 e3 e4 e5 e6 e7
        go_wp2
        go_ret
        exact ⟨ret_bool HF.out.symm, hB2.out⟩
      · have hA' := Lib.hid (upto_next (P := fun u => (fun s : SL => s.nsn == 0) u = true) hA.out hx.out hz)
        have HZ := Lib.hid hz
        clear hz hA hx
        go_wp2_with fail
        refine (leafFits_any _ _ _ _ _ _ _ p0 p1 p2 q0 q1 q2 ref nsn _).mono ?_
        rintro e W1 ⟨rfl, b1⟩
        rw [HZ.out]
        have hB2 := Lib.hid (hB1.out.trans (b1.mono hB1.out.size))
        clear hB hB1 b1 e0 e1 e2 e3 e4 e5 e6 e7
        go_wp2
        go_roundw
        case rel => exact ⟨k + 1, by omega, by go_num, hB2, hA'⟩
        case measure => simp [intOf]; omega
    · have HF : Hid (ss.all (fun s : SL => s.nsn == 0) = true) := all_next (upto_end hA.out (by rw [HP.out.1]; omega))
      clear hA
      go_wp2
      go_ret
      exact ⟨ret_bool HF.out.symm, hB.out⟩

set_option maxRecDepth 100000 in
set_option maxHeartbeats 1600000 in
theorem allInner_any (d lv ns rt : Int) (n c : Nat) (A : Option Addr) (ss : List SL) (w : World) (hp : Slots w A n ss) (hn : n ≤ maxLen) :
    Calls Tryz.prog 182 #[.agg #[.int .i64 d, .slice A n c, .int .i64 lv, .int .i64 ns, .int .i64 rt], .func (.func 183) #[.agg #[.int .i64 d, .slice A n c, .int .i64 lv, .int .i64 ns, .int .i64 rt]] #[]] w fun e w' => e = .returned (.bool (ss.all (fun s : SL => decide (s.ref < 40)))) ∧ Below w.heap.size w w' := by
  have HP := Lib.hid hp
  clear hp
  have B := Lib.hid (below_alloc w (.cells #[.int .i64 d, .slice A n c, .int .i64 lv, .int .i64 ns, .int .i64 rt] 164))
  unfold maxLen at hn
  go_enter Tryz.func182, Tryz.ntmps182
  go_wp2
  go_loopw [11] (fun i wr => ∃ k : Nat, k ≤ n ∧ i = .int .i64 k ∧ Hid (Below w.heap.size w wr) ∧ Hid (∀ (j : Nat) (u : SL), j < k → ss[j]? = some u → (fun s : SL => decide (s.ref < 40)) u = true)) (fun i _ => n - (intOf i).toNat)
  case atStart => exact ⟨0, Nat.zero_le _, rfl, B, fun j u hj => absurd hj (Nat.not_lt_zero _)⟩
  case round =>
    obtain ⟨k, hk', rfl, hB, hA⟩ := hrel
    by_cases hlt : k < n
    · obtain ⟨b, o, p0, p1, p2, q0, q1, q2, ref, nsn, rfl, hb, d0, d1, d2, d3, d4, d5, d6, d7, hx⟩ := HP.out.cellAt hlt
      have e0 : wr.cell? ⟨b, o + k * 8, none⟩ = some (.int .i64 p0) := (hB.out.cell (p := ⟨b, o + k * 8, none⟩) hb).trans d0
      have e1 : wr.cell? ⟨b, o + k * 8 + 1, none⟩ = some (.int .i64 p1) := (hB.out.cell (p := ⟨b, o + k * 8 + 1, none⟩) hb).trans d1
      have e2 : wr.cell? ⟨b, o + k * 8 + 2, none⟩ = some (.int .i64 p2) := (hB.out.cell (p := ⟨b, o + k * 8 + 2, none⟩) hb).trans d2
      have e3 : wr.cell? ⟨b, o + k * 8 + 3, none⟩ = some (.int .i64 q0) := (hB.out.cell (p := ⟨b, o + k * 8 + 3, none⟩) hb).trans d3
      have e4 : wr.cell? ⟨b, o + k * 8 + 4, none⟩ = some (.int .i64 q1) := (hB.out.cell (p := ⟨b, o + k * 8 + 4, none⟩) hb).trans d4
      have e5 : wr.cell? ⟨b, o + k * 8 + 5, none⟩ = some (.int .i64 q2) := (hB.out.cell (p := ⟨b, o + k * 8 + 5, none⟩) hb).trans d5
      have e6 : wr.cell? ⟨b, o + k * 8 + 6, none⟩ = some (.int .i64 ref) := (hB.out.cell (p := ⟨b, o + k * 8 + 6, none⟩) hb).trans d6
      have e7 : wr.cell? ⟨b, o + k * 8 + 7, none⟩ = some (.int .i64 nsn) := (hB.out.cell (p := ⟨b, o + k * 8 + 7, none⟩) hb).trans d7
      clear d0 d1 d2 d3 d4 d5 d6 d7
      have hB1 := Lib.hid (hB.out.alloc hB.out.size (.cells #[.int .i64 p0, .int .i64 p1, .int .i64 p2, .int .i64 q0, .int .i64 q1, .int .i64 q2, .int .i64 ref, .int .i64 nsn] 181))
      cases hz : decide (ref < 40)
      · have HF : Hid (ss.all (fun s : SL => decide (s.ref < 40)) = false) := all_stop hx.out hz
        have HZ := Lib.hid hz
        clear hz hA hx
        go_wp2_with fail
        refine (innerFits_any _ _ _ _ _ _ _ p0 p1 p2 q0 q1 q2 ref nsn _).mono ?_
        rintro e W1 ⟨rfl, b1⟩
        rw [HZ.out]
        have hB2 := Lib.hid (hB1.out.trans (b1.mono hB1.out.size))
        clear hB hB1 b1 e0 e1 e2 e3 e4 e5 e6 e7
        go_wp2
        go_ret
        exact ⟨ret_bool HF.out.symm, hB2.out⟩
      · have hA' := Lib.hid (upto_next (P := fun u => (fun s : SL => decide (s.ref < 40)) u = true) hA.out hx.out hz)
        have HZ := Lib.hid hz
        clear hz hA hx
        go_wp2_with fail
        refine (innerFits_any _ _ _ _ _ _ _ p0 p1 p2 q0 q1 q2 ref nsn _).mono ?_
        rintro e W1 ⟨rfl, b1⟩
        rw [HZ.out]
        have hB2 := Lib.hid (hB1.out.trans (b1.mono hB1.out.size))
        clear hB hB1 b1 e0 e1 e2 e3 e4 e5 e6 e7
        go_wp2
        go_roundw
        case rel => exact ⟨k + 1, by omega, by go_num, hB2, hA'⟩
        case measure => simp [intOf]; omega
    · have HF : Hid (ss.all (fun s : SL => decide (s.ref < 40)) = true) := all_next (upto_end hA.out (by rw [HP.out.1]; omega))
      clear hA
      go_wp2
      go_ret
      exact ⟨ret_bool HF.out.symm, hB.out⟩

set_option maxHeartbeats 800000 in
theorem leafSound_any (d lv ns rt : Int) (n c : Nat) (A : Option Addr) (ss : List SL) (w : World) (hp : Slots w A n ss) (hn : n ≤ maxLen) (hl : lv = 0) :
    Calls Tryz.prog 179 #[.agg #[.int .i64 d, .slice A n c, .int .i64 lv, .int .i64 ns, .int .i64 rt]] w fun e w' => e = .returned (.bool (ss.all (fitsS lv))) ∧ Below w.heap.size w w' := by
  have HP := Lib.hid hp
  have HL := Lib.hid hl
  have hmf := run_makeFunc
  clear hp hl
  have B := Lib.hid (below_alloc w (.cells #[.int .i64 d, .slice A n c, .int .i64 lv, .int .i64 ns, .int .i64 rt] 184))
  go_enter Tryz.func179, Tryz.ntmps179
  go_wp2_with fail
  refine (allLeaf_any _ _ _ _ _ _ _ ss _ (HP.out.kept B.out) hn).mono ?_
  rintro e W1 ⟨rfl, b1⟩
  replace B := Lib.hid (B.out.trans (b1.mono B.out.size))
  clear b1
  go_wp2
  go_ret
  exact ⟨ret_bool (by rw [show fitsS lv = (fun s : SL => s.nsn == 0) from funext fun s => by unfold fitsS; rw [if_pos HL.out]]), B.out⟩
set_option maxHeartbeats 800000 in
theorem innerSound_any (d lv ns rt : Int) (n c : Nat) (A : Option Addr) (ss : List SL) (w : World) (hp : Slots w A n ss) (hn : n ≤ maxLen) (hl : ¬ lv = 0) :
    Calls Tryz.prog 184 #[.agg #[.int .i64 d, .slice A n c, .int .i64 lv, .int .i64 ns, .int .i64 rt]] w fun e w' => e = .returned (.bool (ss.all (fitsS lv))) ∧ Below w.heap.size w w' := by
  have HP := Lib.hid hp
  have HL := Lib.hid hl
  have hmf := run_makeFunc
  clear hp hl
  have B := Lib.hid (below_alloc w (.cells #[.int .i64 d, .slice A n c, .int .i64 lv, .int .i64 ns, .int .i64 rt] 185))
  go_enter Tryz.func184, Tryz.ntmps184
  go_wp2_with fail
  refine (allInner_any _ _ _ _ _ _ _ ss _ (HP.out.kept B.out) hn).mono ?_
  rintro e W1 ⟨rfl, b1⟩
  replace B := Lib.hid (B.out.trans (b1.mono B.out.size))
  clear b1
  go_wp2
  go_ret
  exact ⟨ret_bool (by rw [show fitsS lv = (fun s : SL => decide (s.ref < 40)) from funext fun s => by unfold fitsS; rw [if_neg HL.out]]), B.out⟩

set_option maxHeartbeats 400000 in
theorem placeOne_any (r : Int) (g : Nat) (p0 p1 p2 q0 q1 q2 ref nsn : Int) (w : World) (hg : g < w.heap.size) (hc : w.cell? ⟨g, 0, none⟩ = some (.int .i64 r)) :
    Calls Tryz.prog 167 #[.agg #[.int .i64 p0, .int .i64 p1, .int .i64 p2, .int .i64 q0, .int .i64 q1, .int .i64 q2, .int .i64 ref, .int .i64 nsn], .pointer (some ⟨g, 0, none⟩)] w fun e w' => e = .returned (.bool (ref == r)) ∧ Below w.heap.size w w' := by
  have hc' : (w.alloc (.cells #[.int .i64 p0, .int .i64 p1, .int .i64 p2, .int .i64 q0, .int .i64 q1, .int .i64 q2, .int .i64 ref, .int .i64 nsn] 181)).cell? ⟨g, 0, none⟩ = some (.int .i64 r) := ((below_alloc w (.cells #[.int .i64 p0, .int .i64 p1, .int .i64 p2, .int .i64 q0, .int .i64 q1, .int .i64 q2, .int .i64 ref, .int .i64 nsn] 181)).cell (p := ⟨g, 0, none⟩) hg).trans hc
  clear hc
  go_enter Tryz.func167, Tryz.ntmps167
  go_wp2
  go_ret
  exact ⟨rfl, below_alloc _ _⟩

set_option maxHeartbeats 1600000 in
theorem indexFunc_any (r : Int) (g n c : Nat) (A : Option Addr) (vs : List EVal) (ss : List SL) (w : World) (hp : Slots w A n ss) (ho : SlotsOf vs ss) (hn : n ≤ maxLen) (hg : g < w.heap.size) (hc : w.cell? ⟨g, 0, none⟩ = some (.int .i64 r)) :
    Calls Tryz.prog 166 #[.slice A n c, .func (.func 167) #[] #[.pointer (some ⟨g, 0, none⟩)]] w fun e w' => e = .returned (.int .i64 (findE r vs)) ∧ Below w.heap.size w w' := by
  have HP := Lib.hid hp
  have HO := Lib.hid ho
  have HC := Lib.hid hc
  have HL : Hid (vs.length = n) := ho.1.symm.trans hp.1
  clear hp ho hc
  unfold maxLen at hn
  go_enter Tryz.func166, Tryz.ntmps166
  go_wp2
  go_loopw [8] (fun i wr => ∃ k : Nat, k ≤ n ∧ i = .int .i64 k ∧ Hid (Below w.heap.size w wr) ∧ Hid (∀ (j : Nat) (u : EVal), j < k → vs[j]? = some u → u.2.2.1 ≠ r)) (fun i _ => n - (intOf i).toNat)
  case atStart => exact ⟨0, Nat.zero_le _, rfl, Below.refl _ _, fun j u hj => absurd hj (Nat.not_lt_zero _)⟩
  case round =>
    obtain ⟨k, hk', rfl, hB, hA⟩ := hrel
    by_cases hlt : k < n
    · obtain ⟨b, o, p0, p1, p2, q0, q1, q2, ref, nsn, rfl, hb, d0, d1, d2, d3, d4, d5, d6, d7, hx⟩ := HP.out.cellAt hlt
      have e0 : wr.cell? ⟨b, o + k * 8, none⟩ = some (.int .i64 p0) := (hB.out.cell (p := ⟨b, o + k * 8, none⟩) hb).trans d0
      have e1 : wr.cell? ⟨b, o + k * 8 + 1, none⟩ = some (.int .i64 p1) := (hB.out.cell (p := ⟨b, o + k * 8 + 1, none⟩) hb).trans d1
      have e2 : wr.cell? ⟨b, o + k * 8 + 2, none⟩ = some (.int .i64 p2) := (hB.out.cell (p := ⟨b, o + k * 8 + 2, none⟩) hb).trans d2
      have e3 : wr.cell? ⟨b, o + k * 8 + 3, none⟩ = some (.int .i64 q0) := (hB.out.cell (p := ⟨b, o + k * 8 + 3, none⟩) hb).trans d3
      have e4 : wr.cell? ⟨b, o + k * 8 + 4, none⟩ = some (.int .i64 q1) := (hB.out.cell (p := ⟨b, o + k * 8 + 4, none⟩) hb).trans d4
      have e5 : wr.cell? ⟨b, o + k * 8 + 5, none⟩ = some (.int .i64 q2) := (hB.out.cell (p := ⟨b, o + k * 8 + 5, none⟩) hb).trans d5
      have e6 : wr.cell? ⟨b, o + k * 8 + 6, none⟩ = some (.int .i64 ref) := (hB.out.cell (p := ⟨b, o + k * 8 + 6, none⟩) hb).trans d6
      have e7 : wr.cell? ⟨b, o + k * 8 + 7, none⟩ = some (.int .i64 nsn) := (hB.out.cell (p := ⟨b, o + k * 8 + 7, none⟩) hb).trans d7
      clear d0 d1 d2 d3 d4 d5 d6 d7
      obtain ⟨v, hv, hsv⟩ := HO.out.at hx.out
      have hrv : Hid (ref = v.2.2.1) := hsv.2.2.1
      have HV := Lib.hid hv
      clear hv hsv hx
      have gk := Nat.lt_of_lt_of_le hg hB.out.size
      by_cases hz : ref = r
      · have HF : Hid (findE r vs = k) := findE_stop hA.out HV.out (hrv.out.symm.trans hz)
        have HZ : Hid ((ref == r) = true) := by show (ref == r) = _; simpa using hz
        clear hz hA
        go_wp2_with fail
        refine (placeOne_any r g p0 p1 p2 q0 q1 q2 ref nsn _ gk ((hB.out.cell (p := ⟨g, 0, none⟩) hg).trans HC.out)).mono ?_
        rintro e W1 ⟨rfl, b1⟩
        rw [HZ.out]
        have hB2 := Lib.hid (hB.out.trans (b1.mono hB.out.size))
        clear hB b1 e0 e1 e2 e3 e4 e5 e6 e7
        go_wp2
        go_ret
        exact ⟨ret_i64 HF.out.symm, hB2.out⟩
      · have hA' := Lib.hid (upto_next hA.out HV.out (fun h => hz (hrv.out.trans h)))
        have HZ : Hid ((ref == r) = false) := by show (ref == r) = _; simpa using hz
        clear hz hA
        go_wp2_with fail
        refine (placeOne_any r g p0 p1 p2 q0 q1 q2 ref nsn _ gk ((hB.out.cell (p := ⟨g, 0, none⟩) hg).trans HC.out)).mono ?_
        rintro e W1 ⟨rfl, b1⟩
        rw [HZ.out]
        have hB2 := Lib.hid (hB.out.trans (b1.mono hB.out.size))
        clear hB b1 e0 e1 e2 e3 e4 e5 e6 e7 gk
        go_wp2
        go_roundw
        case rel => exact ⟨k + 1, by omega, by go_num, hB2, hA'⟩
        case measure => simp [intOf]; omega
    · have HF : Hid (findE r vs = -1) := findE_none (upto_end hA.out (by rw [HL.out]; omega))
      clear hA
      go_wp2
      go_ret
      exact ⟨ret_i64 HF.out.symm, hB.out⟩

set_option maxHeartbeats 800000 in
theorem place_any (d r : Int) (n c : Nat) (A : Option Addr) (vs : List EVal) (ss : List SL) (w : World) (hp : Slots w A n ss) (ho : SlotsOf vs ss) (hn : n ≤ maxLen) :
    Calls Tryz.prog 164 #[.agg #[.int .i64 d, .slice A n c], .int .i64 r] w fun e w' => e = .returned (.int .i64 (findE r vs)) ∧ Below w.heap.size w w' := by
  have HP := Lib.hid hp
  have HO := Lib.hid ho
  have hmf := run_makeFunc
  clear hp ho
  have B := Lib.hid (below_alloc w (.cells #[.int .i64 d, .slice A n c] 161))
  replace B := Lib.hid (B.out.alloc B.out.size (.cells #[.int .i64 r] 2))
  have L_r := Lib.hid (Lies.new (w.alloc (.cells #[.int .i64 d, .slice A n c] 161)) 2 #[.int .i64 r])
  simp only [World.size_alloc] at L_r
  have hin := L_r.out.inside
  go_enter Tryz.func164, Tryz.ntmps164
  go_wp2_with fail
  refine (indexFunc_any r _ _ _ _ vs ss _ (HP.out.kept B.out) HO.out hn L_r.out.inside (L_r.out.cell 0)).mono ?_
  rintro e W1 ⟨rfl, b1⟩
  replace B := Lib.hid (B.out.trans (b1.mono B.out.size))
  clear b1
  go_wp2
  go_ret
  exact ⟨rfl, B.out⟩

set_option maxHeartbeats 1600000 in
theorem refTwice_any (d : Int) (n c : Nat) (A : Option Addr) (vs : List EVal) (ss : List SL) (w : World) (hp : Slots w A n ss) (ho : SlotsOf vs ss) (hn : n ≤ maxLen) :
    Calls Tryz.prog 165 #[.agg #[.int .i64 d, .slice A n c]] w fun e w' => e = .returned (.bool (twiceE vs)) ∧ Below w.heap.size w w' := by
  have HP := Lib.hid hp
  have HO := Lib.hid ho
  have HL : Hid (vs.length = n) := ho.1.symm.trans hp.1
  clear hp ho
  have B := Lib.hid (below_alloc w (.cells #[.int .i64 d, .slice A n c] 161))
  have L_b := Lib.hid (Lies.new w 161 #[.int .i64 d, .slice A n c])
  have hn0 := hn
  unfold maxLen at hn
  go_enter Tryz.func165, Tryz.ntmps165
  go_wp2
  go_loopw [8] (fun i wr => ∃ k : Nat, k ≤ n ∧ i = .int .i64 k ∧ Hid (Below w.heap.size w wr) ∧ Hid (Lies wr w.heap.size 161 #[.int .i64 d, .slice A n c]) ∧ Hid (∀ (j : Nat) (u : EVal), j < k → vs[j]? = some u → findE u.2.2.1 vs = (j : Int))) (fun i _ => n - (intOf i).toNat)
  case atStart => exact ⟨0, Nat.zero_le _, rfl, B, L_b, fun j u hj => absurd hj (Nat.not_lt_zero _)⟩
  case round =>
    obtain ⟨k, hk', rfl, hB, hN, hA⟩ := hrel
    by_cases hlt : k < n
    · obtain ⟨b, o, p0, p1, p2, q0, q1, q2, ref, nsn, rfl, hb, d0, d1, d2, d3, d4, d5, d6, d7, hx⟩ := HP.out.cellAt hlt
      have e0 : wr.cell? ⟨b, o + k * 8, none⟩ = some (.int .i64 p0) := (hB.out.cell (p := ⟨b, o + k * 8, none⟩) hb).trans d0
      have e1 : wr.cell? ⟨b, o + k * 8 + 1, none⟩ = some (.int .i64 p1) := (hB.out.cell (p := ⟨b, o + k * 8 + 1, none⟩) hb).trans d1
      have e2 : wr.cell? ⟨b, o + k * 8 + 2, none⟩ = some (.int .i64 p2) := (hB.out.cell (p := ⟨b, o + k * 8 + 2, none⟩) hb).trans d2
      have e3 : wr.cell? ⟨b, o + k * 8 + 3, none⟩ = some (.int .i64 q0) := (hB.out.cell (p := ⟨b, o + k * 8 + 3, none⟩) hb).trans d3
      have e4 : wr.cell? ⟨b, o + k * 8 + 4, none⟩ = some (.int .i64 q1) := (hB.out.cell (p := ⟨b, o + k * 8 + 4, none⟩) hb).trans d4
      have e5 : wr.cell? ⟨b, o + k * 8 + 5, none⟩ = some (.int .i64 q2) := (hB.out.cell (p := ⟨b, o + k * 8 + 5, none⟩) hb).trans d5
      have e6 : wr.cell? ⟨b, o + k * 8 + 6, none⟩ = some (.int .i64 ref) := (hB.out.cell (p := ⟨b, o + k * 8 + 6, none⟩) hb).trans d6
      have e7 : wr.cell? ⟨b, o + k * 8 + 7, none⟩ = some (.int .i64 nsn) := (hB.out.cell (p := ⟨b, o + k * 8 + 7, none⟩) hb).trans d7
      clear d0 d1 d2 d3 d4 d5 d6 d7
      obtain ⟨v, hv, hsv⟩ := HO.out.at hx.out
      have hrv : Hid (ref = v.2.2.1) := hsv.2.2.1
      have HV := Lib.hid hv
      clear hv hsv hx
      have hB1 := Lib.hid (hB.out.alloc hB.out.size (.cells #[.int .i64 p0, .int .i64 p1, .int .i64 p2, .int .i64 q0, .int .i64 q1, .int .i64 q2, .int .i64 ref, .int .i64 nsn] 181))
      have hN1 := Lib.hid (hN.out.alloc (.cells #[.int .i64 p0, .int .i64 p1, .int .i64 p2, .int .i64 q0, .int .i64 q1, .int .i64 q2, .int .i64 ref, .int .i64 nsn] 181))
      have g0 : (wr.alloc (.cells #[.int .i64 p0, .int .i64 p1, .int .i64 p2, .int .i64 q0, .int .i64 q1, .int .i64 q2, .int .i64 ref, .int .i64 nsn] 181)).cell? ⟨w.heap.size, 0, none⟩ = some (.int .i64 d) := hN1.out.cell 0
      have g1 : (wr.alloc (.cells #[.int .i64 p0, .int .i64 p1, .int .i64 p2, .int .i64 q0, .int .i64 q1, .int .i64 q2, .int .i64 ref, .int .i64 nsn] 181)).cell? ⟨w.heap.size, 1, none⟩ = some (.slice (some ⟨b, o, none⟩) n c) := hN1.out.cell 1
      by_cases hz : findE ref vs = (k : Int)
      · have hA' := Lib.hid (uptoAt_next (P := fun j (u : EVal) => findE u.2.2.1 vs = (j : Int)) hA.out HV.out (by rw [← hrv.out]; exact hz))
        have hz1 : (findE ref vs != (k : Int)) = false := by simp [hz]
        clear hz hA
        go_wp2_with fail
        refine (place_any _ ref _ _ _ vs ss _ (HP.out.kept hB1.out) HO.out hn0).mono ?_
        rintro e W1 ⟨rfl, b1⟩
        have hB2 := Lib.hid (hB1.out.trans (b1.mono hB1.out.size))
        have hN2 := Lib.hid (hN1.out.kept b1 hN1.out.inside)
        clear hB hB1 hN hN1 b1 e0 e1 e2 e3 e4 e5 e6 e7 g0 g1
        go_wp2
        go_roundw
        case rel => exact ⟨k + 1, by omega, by go_num, hB2, hN2, hA'⟩
        case measure => simp [intOf]; omega
      · have HF : Hid (twiceE vs = true) := twiceE_at HV.out (by rw [← hrv.out]; exact hz)
        have hz1 : (findE ref vs != (k : Int)) = true := by simpa using hz
        clear hz hA
        go_wp2_with fail
        refine (place_any _ ref _ _ _ vs ss _ (HP.out.kept hB1.out) HO.out hn0).mono ?_
        rintro e W1 ⟨rfl, b1⟩
        have hB2 := Lib.hid (hB1.out.trans (b1.mono hB1.out.size))
        clear hB hB1 hN hN1 b1 e0 e1 e2 e3 e4 e5 e6 e7 g0 g1
        go_wp2
        go_ret
        exact ⟨ret_bool HF.out.symm, hB2.out⟩
    · have HF : Hid (twiceE vs = false) := twiceE_none (uptoAt_end (P := fun j (u : EVal) => findE u.2.2.1 vs = (j : Int)) hA.out (by rw [HL.out]; omega))
      clear hA
      go_wp2
      go_ret
      exact ⟨ret_bool HF.out.symm, hB.out⟩

end Go.Proofs.YtpgoildfjkokiaaGreat
