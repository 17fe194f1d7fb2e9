/- The laws' helpers on one node: szNode, toNode, eqNode. -/
import Derived.Test.YtblhcnafoejahaaEntryLists
namespace Go.Proofs.Ytblhcnafoejahaa
open Go.RowKit

/-- Each entry of the list is small. -/
def SmallE (l : Int) (ps : List EV) : Prop := ∀ (k : Nat) (p : EV), ps[k]? = some p → (p.n1 : Int) + p.n2 ≤ l
theorem SmallE.two {l : Int} {ps : List EV} (h : SmallE l ps) (hl : l ≤ 1048576) : ∀ (k : Nat) (p : EV), ps[k]? = some p → p.n1 ≤ 1048576 ∧ p.n2 ≤ 1048576 := by
  intro k p hk
  have := h k p hk
  exact ⟨by omega, by omega⟩

set_option maxHeartbeats 800000 in
theorem szNode_any (lv ns rt l : Int) (n c : Nat) (A : Option Addr) (ps : List EV) (w : World) (hp : Entries w A n ps) (hn : n ≤ maxLen) (h0 : 0 ≤ l) (h1 : l ≤ 1048576) :
    Calls Try.prog 8 #[.agg #[.int .i64 lv, .int .i64 ns, .int .i64 rt, .slice A n c], .int .i64 l] w fun e w' => ∃ r : Int, e = .returned (.int .i64 r) ∧ (r = -1 ∨ (0 ≤ r ∧ r ≤ l ∧ (n : Int) ≤ l ∧ SmallE l ps)) ∧ Below w.heap.size w w' := by
  have HP := Lib.hid hp
  clear hp
  have B := Lib.hid (below_alloc w (.cells #[.int .i64 lv, .int .i64 ns, .int .i64 rt, .slice A n c] 24))
  go_enter Try.func8, Try.ntmps8
  go_wp2_with fail
  refine (szEntryS_any l _ _ _ ps _ (HP.out.kept B.out) hn h0 h1).mono ?_
  rintro e W1 ⟨r, rfl, hr, b1⟩
  replace B := Lib.hid (B.out.trans (b1.mono B.out.size))
  clear b1
  rcases hr with rfl | ⟨r0, r1, hn1, hs⟩
  · go_wp2
    go_ret
    exact ⟨-1, rfl, Or.inl rfl, B.out⟩
  · have hr0 : ¬ r < 0 := by omega
    have HS := Lib.hid hs
    clear hs
    go_wp2
    go_ret
    exact ⟨r, rfl, Or.inr ⟨r0, r1, hn1, HS.out⟩, B.out⟩

set_option maxHeartbeats 1600000 in
theorem eqNode_same (lv ns rt : Int) (n c c' : Nat) (A A' : Option Addr) (ps qs : List EV) (w : World) (hp : Entries w A n ps) (hq : Entries w A' n qs) (hv : ps.map EV.val = qs.map EV.val) (hn : n ≤ maxLen) :
    Calls Try.prog 12 #[.agg #[.int .i64 lv, .int .i64 ns, .int .i64 rt, .slice A n c], .agg #[.int .i64 lv, .int .i64 ns, .int .i64 rt, .slice A' n c']] w fun e w' => e = .returned (.bool true) ∧ Below w.heap.size w w' := by
  have e1 : (lv != lv) = false := by simp
  have e2 : (ns != ns) = false := by simp
  have e3 : (rt != rt) = false := by simp
  have HP := Lib.hid hp
  have HQ := Lib.hid hq
  have HV := Lib.hid hv
  clear hp hq hv
  have B := Lib.hid (below_alloc w (.cells #[.int .i64 lv, .int .i64 ns, .int .i64 rt, .slice A n c] 29))
  replace B := Lib.hid (B.out.alloc B.out.size (.cells #[.int .i64 lv, .int .i64 ns, .int .i64 rt, .slice A' n c'] 29))
  go_enter Try.func12, Try.ntmps12
  go_wp2_with fail
  refine (eqEntryS_same _ _ _ _ _ ps qs _ (HP.out.kept B.out) (HQ.out.kept B.out) HV.out hn).mono ?_
  rintro e W1 ⟨rfl, b1⟩
  replace B := Lib.hid (B.out.trans (b1.mono B.out.size))
  clear b1
  go_wp2
  go_ret
  exact ⟨rfl, B.out⟩

set_option maxHeartbeats 1600000 in
theorem toNode_any (lv ns rt : Int) (n c : Nat) (A : Option Addr) (ps : List EV) (w : World) (hp : Entries w A n ps) (hn : n ≤ 1048576) (hs : ∀ (k : Nat) (p : EV), ps[k]? = some p → p.n1 ≤ 1048576 ∧ p.n2 ≤ 1048576) :
    Calls Try.prog 10 #[.agg #[.int .i64 lv, .int .i64 ns, .int .i64 rt, .slice A n c]] w fun e w' => ∃ (g : Nat) (qs : List EV), e = .returned (.agg #[.int .i64 lv, .int .i64 ns, .int .i64 rt, .slice (some ⟨g, 0, none⟩) n n]) ∧ w.heap.size ≤ g ∧ EntriesOwn w' g n qs ∧ qs.length = n ∧ qs.map EV.val = ps.map EV.val ∧ Below w.heap.size w w' := by
  have HP := Lib.hid hp
  have HS := Lib.hid hs
  clear hp hs
  have B := Lib.hid (below_alloc w (.cells #[.int .i64 lv, .int .i64 ns, .int .i64 rt, .slice A n c] 24))
  replace B := Lib.hid (B.out.alloc B.out.size (.cells #[.int .i64 0, .int .i64 0, .int .i64 0, .slice none 0 0] 29))
  replace B := Lib.hid (B.out.alloc B.out.size (.cells #[.int .i64 lv, .int .i64 ns, .int .i64 rt, .slice none 0 0] 29))
  have L_r := Lib.hid ((Lies.new (w.alloc (.cells #[.int .i64 lv, .int .i64 ns, .int .i64 rt, .slice A n c] 24)) 29 #[.int .i64 0, .int .i64 0, .int .i64 0, .slice none 0 0]).alloc (.cells #[.int .i64 lv, .int .i64 ns, .int .i64 rt, .slice none 0 0] 29))
  have L_o := Lib.hid (Lies.new ((w.alloc (.cells #[.int .i64 lv, .int .i64 ns, .int .i64 rt, .slice A n c] 24)).alloc (.cells #[.int .i64 0, .int .i64 0, .int .i64 0, .slice none 0 0] 29)) 29 #[.int .i64 lv, .int .i64 ns, .int .i64 rt, .slice none 0 0])
  simp only [World.size_alloc] at L_r L_o
  go_enter Try.func10, Try.ntmps10
  go_wp2_with fail
  refine (toEntryS_any _ _ _ ps _ (HP.out.kept B.out) hn HS.out).mono ?_
  rintro e W1 ⟨g, qs, rfl, hg, og, lq, vq, b1⟩
  simp only [World.size_alloc] at hg
  replace L_r := Lib.hid (L_r.out.kept b1 L_r.out.inside)
  replace L_o := Lib.hid (L_o.out.kept b1 L_o.out.inside)
  replace B := Lib.hid (B.out.trans (b1.mono B.out.size))
  have O_g := Lib.hid og
  have LQ := Lib.hid lq
  have VQ := Lib.hid vq
  clear b1 og lq vq
  have c_o0 : W1.cell? ⟨w.heap.size + 1 + 1, 0, none⟩ = some (.int .i64 lv) := L_o.out.cell 0
  have f_o0 : W1.frozen? ⟨w.heap.size + 1 + 1, 0, none⟩ = false := L_o.out.thawed 0
  have c_o1 : W1.cell? ⟨w.heap.size + 1 + 1, 1, none⟩ = some (.int .i64 ns) := L_o.out.cell 1
  have f_o1 : W1.frozen? ⟨w.heap.size + 1 + 1, 1, none⟩ = false := L_o.out.thawed 1
  have c_o2 : W1.cell? ⟨w.heap.size + 1 + 1, 2, none⟩ = some (.int .i64 rt) := L_o.out.cell 2
  have f_o2 : W1.frozen? ⟨w.heap.size + 1 + 1, 2, none⟩ = false := L_o.out.thawed 2
  have c_o3 : W1.cell? ⟨w.heap.size + 1 + 1, 3, none⟩ = some (.slice none 0 0) := L_o.out.cell 3
  have f_o3 : W1.frozen? ⟨w.heap.size + 1 + 1, 3, none⟩ = false := L_o.out.thawed 3
  have c_r0 : W1.cell? ⟨w.heap.size + 1, 0, none⟩ = some (.int .i64 0) := L_r.out.cell 0
  have f_r0 : W1.frozen? ⟨w.heap.size + 1, 0, none⟩ = false := L_r.out.thawed 0
  have c_r1 : W1.cell? ⟨w.heap.size + 1, 1, none⟩ = some (.int .i64 0) := L_r.out.cell 1
  have f_r1 : W1.frozen? ⟨w.heap.size + 1, 1, none⟩ = false := L_r.out.thawed 1
  have c_r2 : W1.cell? ⟨w.heap.size + 1, 2, none⟩ = some (.int .i64 0) := L_r.out.cell 2
  have f_r2 : W1.frozen? ⟨w.heap.size + 1, 2, none⟩ = false := L_r.out.thawed 2
  have c_r3 : W1.cell? ⟨w.heap.size + 1, 3, none⟩ = some (.slice none 0 0) := L_r.out.cell 3
  have f_r3 : W1.frozen? ⟨w.heap.size + 1, 3, none⟩ = false := L_r.out.thawed 3
  go_wp2
  refine bodyPost_ret (v := .agg #[.int .i64 lv, .int .i64 ns, .int .i64 rt, .slice (some ⟨g, 0, none⟩) n n]) (by simp [results, Try.results10, go_sem, c_r0, c_r1, c_r2, c_r3]) rfl ⟨g, qs, rfl, by omega, ?_, LQ.out, VQ.out, ?_⟩
  · with_reducible (repeat (first | exact O_g.out | refine EntriesOwn.far ?_ ?_ _))
    all_goals (first | (show w.heap.size + 1 + 1 < g; omega) | (show w.heap.size + 1 < g; omega))
  · with_reducible (repeat (first | exact B.out | refine Below.setCell ?_ ?_ _))
    all_goals (first | (show w.heap.size ≤ w.heap.size + 1 + 1; omega) | (show w.heap.size ≤ w.heap.size + 1; omega))

end Go.Proofs.Ytblhcnafoejahaa
