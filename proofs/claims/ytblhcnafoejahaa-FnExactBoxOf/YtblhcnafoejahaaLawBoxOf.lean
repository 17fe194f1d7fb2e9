/- FnExactBoxOf: for every node impl.BoxOf answers as the model does, leaves its argument alone and answers in memory of its own. No condition. -/
import Derived.Test.YtblhcnafoejahaaSpecBoxOf
import Derived.Test.YtblhcnafoejahaaImplBoxOf
import Derived.Test.YtblhcnafoejahaaMarkNode
import Derived.Test.YtblhcnafoejahaaMarks2
namespace Go.Proofs.Ytblhcnafoejahaa
open Go.RowKit

theorem heldRectResult_none2 (k d : Int) (w : World) (h0 : 0 ≤ k) (h1 : k ≤ 1073741824) :
    Calls Try.prog 18 #[.agg #[.int .i64 d, .slice none 0 0, .slice none 0 0], .int .i64 k] w fun e w' => e = .returned (.int .i64 k) ∧ Below w.heap.size w w' :=
  (heldRectResult_any k d 0 0 0 0 0 0 none none w (Ints.empty _ _ _) (Ints.empty _ _ _) h0 h1 (by decide) (by decide)).mono fun _ _ h => ⟨by rw [h.1]; simp, h.2⟩

theorem specBoxOf_yes (lv ns rt d : Int) (n c : Nat) (A : Option Addr) (ps : List EV) (vs : List EVal) (w : World) (hp : Entries w A n ps) (hn : n ≤ maxLen) (hv : ps.map EV.val = vs) {dd : Nat} (hz : boxC (nodeF lv ns rt vs d) n = 0) (hdd : d.toNat = dd) :
    Calls Try.prog 13 #[.agg #[.int .i64 lv, .int .i64 ns, .int .i64 rt, .slice A n c], .int .i64 d] w fun e w' => ∃ b1 o1 c1 b2 o2 c2, e = .returned (.agg #[.int .i64 0, .slice (some ⟨b1, o1, none⟩) dd c1, .slice (some ⟨b2, o2, none⟩) dd c2]) ∧ Ints w' 0 (some ⟨b1, o1, none⟩) dd (lowB vs) ∧ Ints w' 0 (some ⟨b2, o2, none⟩) dd (highB vs) ∧ (w.heap.size ≤ b1 ∧ b1 < w'.heap.size) ∧ (w.heap.size ≤ b2 ∧ b2 < w'.heap.size) ∧ Below w.heap.size w w' := by
  subst hv hdd
  refine (specBoxOf_any lv ns rt d n c A ps w hp hn).mono fun _ _ h => ?_
  obtain ⟨b1, o1, c1, b2, o2, c2, q1, q2, q3, q4, q5⟩ := h.2.1 hz
  exact ⟨b1, o1, c1, b2, o2, c2, q1, q2, q3, q4, q5, h.2.2⟩
theorem specBoxOf_no (lv ns rt d : Int) (n c : Nat) (A : Option Addr) (ps : List EV) (vs : List EVal) (w : World) (hp : Entries w A n ps) (hn : n ≤ maxLen) (hv : ps.map EV.val = vs) {cd : Int} (hz : boxC (nodeF lv ns rt vs d) n = cd) (hne : cd ≠ 0) :
    Calls Try.prog 13 #[.agg #[.int .i64 lv, .int .i64 ns, .int .i64 rt, .slice A n c], .int .i64 d] w fun e w' => e = .returned (.agg #[.int .i64 cd, .slice none 0 0, .slice none 0 0]) ∧ Below w.heap.size w w' := by
  subst hv hz
  exact (specBoxOf_any lv ns rt d n c A ps w hp hn).mono fun _ _ h => ⟨h.1 hne, h.2.2⟩

theorem implBoxOf_yes (lv ns rt d : Int) (n c : Nat) (A : Option Addr) (ps : List EV) (vs : List EVal) (w : World) (hp : Entries w A n ps) (hn : n ≤ maxLen) (hv : ps.map EV.val = vs) {dd : Nat} (hz : boxC (nodeF lv ns rt vs d) n = 0) (hdd : d.toNat = dd) :
    Calls Try.prog 14 #[.agg #[.int .i64 lv, .int .i64 ns, .int .i64 rt, .slice A n c], .int .i64 d] w fun e w' => ∃ g g', e = .returned (.agg #[.int .i64 0, .slice (some ⟨g, 0, none⟩) dd dd, .slice (some ⟨g', 0, none⟩) dd dd]) ∧ w.heap.size ≤ g ∧ g < g' ∧ Own w' g dd (lowB vs) ∧ Own w' g' dd (highB vs) ∧ Below w.heap.size w w' := by
  subst hv hdd
  refine (implBoxOf_any lv ns rt d n c A ps w hp hn).mono fun _ _ h => ?_
  obtain ⟨g, g', q1, q2, q3, q4, q5⟩ := h.2.1 hz
  exact ⟨g, g', q1, q2, q3, q4, q5, h.2.2⟩
theorem implBoxOf_no (lv ns rt d : Int) (n c : Nat) (A : Option Addr) (ps : List EV) (vs : List EVal) (w : World) (hp : Entries w A n ps) (hn : n ≤ maxLen) (hv : ps.map EV.val = vs) {cd : Int} (hz : boxC (nodeF lv ns rt vs d) n = cd) (hne : cd ≠ 0) :
    Calls Try.prog 14 #[.agg #[.int .i64 lv, .int .i64 ns, .int .i64 rt, .slice A n c], .int .i64 d] w fun e w' => e = .returned (.agg #[.int .i64 cd, .slice none 0 0, .slice none 0 0]) ∧ Below w.heap.size w w' := by
  subst hv hz
  exact (implBoxOf_any lv ns rt d n c A ps w hp hn).mono fun _ _ h => ⟨h.1 hne, h.2.2⟩

set_option maxRecDepth 100000 in
set_option maxHeartbeats 6400000 in
theorem lawBoxOf_walk (lv ns rt : Int) (n c : Nat) (A : Option Addr) (ps : List EV) (d : Int) (w : World) (hp : Entries w A n ps) (hn : n ≤ maxLen) :
    Calls Try.prog 4 #[.agg #[.int .i64 lv, .int .i64 ns, .int .i64 rt, .slice A n c], .int .i64 d] w fun e w' => e = .returned (.bool true) ∧ Below w.heap.size w w' := by
  have HP := Lib.hid hp
  clear hp
  have B := Lib.hid (below_alloc w (.cells #[.int .i64 lv, .int .i64 ns, .int .i64 rt, .slice A n c] 24))
  have L_a := Lib.hid (Lies.new w 24 #[.int .i64 lv, .int .i64 ns, .int .i64 rt, .slice A n c])
  go_enter Try.func4, Try.ntmps4
  go_wp2_with fail
  refine (szNode_any _ _ _ 1048576 _ _ _ ps _ (HP.out.kept B.out) hn (by decide) (by decide)).mono ?_
  rintro e W1 ⟨r, rfl, hr, b1⟩
  have sz_W1 := b1.size
  try simp only [World.size_alloc] at sz_W1
  replace L_a := Lib.hid (L_a.out.kept b1 L_a.out.inside)
  replace B := Lib.hid (B.out.trans (b1.mono B.out.size))
  clear b1
  rcases hr with rfl | ⟨r0, r1, hn1, hs⟩
  · go_wp2
    go_ret
    exact ⟨rfl, B.out⟩
  have HM := Lib.hid hs
  have HS := Lib.hid (hs.two (by decide))
  have hr0 : ¬ r < 0 := by omega
  clear hs r0 r1
  by_cases hz : boxC (nodeF lv ns rt (ps.map EV.val) d) n = 0
  · have HC := Lib.hid hz
    obtain ⟨dd, hdd⟩ : ∃ dd, d.toNat = dd := ⟨_, rfl⟩
    have hd := (nodeF_zero (boxC_zero hz).1).1.1
    have hdm : dd ≤ maxLen := by unfold maxLen; omega
    have hd3 : dd ≤ 3 := by omega
    have HDD := Lib.hid hdd
    clear hz hdd hd
    have c_a0 : W1.cell? ⟨w.heap.size, 0, none⟩ = some (.int .i64 lv) := L_a.out.cell 0
    have c_a1 : W1.cell? ⟨w.heap.size, 1, none⟩ = some (.int .i64 ns) := L_a.out.cell 1
    have c_a2 : W1.cell? ⟨w.heap.size, 2, none⟩ = some (.int .i64 rt) := L_a.out.cell 2
    have c_a3 : W1.cell? ⟨w.heap.size, 3, none⟩ = some (.slice A n c) := L_a.out.cell 3
    go_wp2_with fail
    refine (toNode_any _ _ _ _ _ _ ps _ (HP.out.kept B.out) (by omega) HS.out).mono ?_
    rintro e W2 ⟨gs, qss, rfl, hgs, os, ls, vs, b2⟩
    have sz_W2 := b2.size
    try simp only [World.size_alloc] at sz_W2
    replace L_a := Lib.hid (L_a.out.kept b2 L_a.out.inside)
    replace B := Lib.hid (B.out.trans (b2.mono B.out.size))
    clear b2
    try simp only [World.size_alloc] at hgs
    have O_s := Lib.hid os
    have K_s := Lib.hid ls
    have V_s := Lib.hid vs
    clear os ls vs
    clear c_a0 c_a1 c_a2 c_a3
    clear hgs
    go_wp2_with fail
    refine (specBoxOf_yes _ _ _ _ _ _ _ qss (ps.map EV.val) _ (O_s.out.entries K_s.out) hn V_s.out HC.out HDD.out).mono ?_
    rintro e W3 ⟨bw, ow, cw, bw', ow', cw', rfl, j1, j2, kw1, kw2, b3⟩
    have sz_W3 := b3.size
    try simp only [World.size_alloc] at sz_W3
    replace L_a := Lib.hid (L_a.out.kept b3 L_a.out.inside)
    replace O_s := Lib.hid (O_s.out.kept b3)
    replace B := Lib.hid (B.out.trans (b3.mono B.out.size))
    clear b3
    clear O_s K_s V_s
    have J_1 := Lib.hid j1
    have J_2 := Lib.hid j2
    clear j1 j2
    obtain ⟨kw1, kw1'⟩ := kw1
    obtain ⟨kw2, kw2'⟩ := kw2
    try simp only [World.size_alloc] at kw1 kw2
    replace J_1 := Lib.hid (J_1.out.kept (below_alloc _ (.cells #[.int .i64 0, .slice (some ⟨bw, ow, none⟩) dd cw, .slice (some ⟨bw', ow', none⟩) dd cw'] 37)))
    replace J_2 := Lib.hid (J_2.out.kept (below_alloc _ (.cells #[.int .i64 0, .slice (some ⟨bw, ow, none⟩) dd cw, .slice (some ⟨bw', ow', none⟩) dd cw'] 37)))
    replace L_a := Lib.hid (L_a.out.alloc (.cells #[.int .i64 0, .slice (some ⟨bw, ow, none⟩) dd cw, .slice (some ⟨bw', ow', none⟩) dd cw'] 37))
    have L_w0 := Lib.hid (Lies.new W3 37 #[.int .i64 0, .slice (some ⟨bw, ow, none⟩) dd cw, .slice (some ⟨bw', ow', none⟩) dd cw'])
    replace B := Lib.hid (B.out.alloc B.out.size (.cells #[.int .i64 0, .slice (some ⟨bw, ow, none⟩) dd cw, .slice (some ⟨bw', ow', none⟩) dd cw'] 37))
    have c_a0 : (W3.alloc (.cells #[.int .i64 0, .slice (some ⟨bw, ow, none⟩) dd cw, .slice (some ⟨bw', ow', none⟩) dd cw'] 37)).cell? ⟨w.heap.size, 0, none⟩ = some (.int .i64 lv) := L_a.out.cell 0
    have c_a1 : (W3.alloc (.cells #[.int .i64 0, .slice (some ⟨bw, ow, none⟩) dd cw, .slice (some ⟨bw', ow', none⟩) dd cw'] 37)).cell? ⟨w.heap.size, 1, none⟩ = some (.int .i64 ns) := L_a.out.cell 1
    have c_a2 : (W3.alloc (.cells #[.int .i64 0, .slice (some ⟨bw, ow, none⟩) dd cw, .slice (some ⟨bw', ow', none⟩) dd cw'] 37)).cell? ⟨w.heap.size, 2, none⟩ = some (.int .i64 rt) := L_a.out.cell 2
    have c_a3 : (W3.alloc (.cells #[.int .i64 0, .slice (some ⟨bw, ow, none⟩) dd cw, .slice (some ⟨bw', ow', none⟩) dd cw'] 37)).cell? ⟨w.heap.size, 3, none⟩ = some (.slice A n c) := L_a.out.cell 3
    go_wp2_with fail
    refine (toNode_any _ _ _ _ _ _ ps _ (HP.out.kept B.out) (by omega) HS.out).mono ?_
    rintro e W4 ⟨gt, qst, rfl, hgt, ot, lt, vt, b4⟩
    have sz_W4 := b4.size
    try simp only [World.size_alloc] at sz_W4
    replace J_1 := Lib.hid (J_1.out.kept b4)
    replace J_2 := Lib.hid (J_2.out.kept b4)
    replace L_a := Lib.hid (L_a.out.kept b4 L_a.out.inside)
    replace L_w0 := Lib.hid (L_w0.out.kept b4 L_w0.out.inside)
    replace B := Lib.hid (B.out.trans (b4.mono B.out.size))
    clear b4
    try simp only [World.size_alloc] at hgt
    have O_t := Lib.hid ot
    have K_t := Lib.hid lt
    have V_t := Lib.hid vt
    have A_t := Lib.hid ot.any
    have SQ_t := Lib.hid (small_own HP.out HM.out ot vt (by decide))
    have in_t := O_t.out.inside
    clear ot lt vt
    clear c_a0 c_a1 c_a2 c_a3
    have hi_t : W4.heap.size = W4.heap.size := rfl
    replace J_1 := Lib.hid (J_1.out.kept (below_alloc _ (.cells #[.int .i64 lv, .int .i64 ns, .int .i64 rt, .slice (some ⟨gt, 0, none⟩) n n] 29)))
    replace J_2 := Lib.hid (J_2.out.kept (below_alloc _ (.cells #[.int .i64 lv, .int .i64 ns, .int .i64 rt, .slice (some ⟨gt, 0, none⟩) n n] 29)))
    replace A_t := Lib.hid (A_t.out.kept (below_alloc _ (.cells #[.int .i64 lv, .int .i64 ns, .int .i64 rt, .slice (some ⟨gt, 0, none⟩) n n] 29)))
    replace L_a := Lib.hid (L_a.out.alloc (.cells #[.int .i64 lv, .int .i64 ns, .int .i64 rt, .slice (some ⟨gt, 0, none⟩) n n] 29))
    replace L_w0 := Lib.hid (L_w0.out.alloc (.cells #[.int .i64 lv, .int .i64 ns, .int .i64 rt, .slice (some ⟨gt, 0, none⟩) n n] 29))
    replace O_t := Lib.hid (O_t.out.kept (below_alloc _ (.cells #[.int .i64 lv, .int .i64 ns, .int .i64 rt, .slice (some ⟨gt, 0, none⟩) n n] 29)))
    have L_x := Lib.hid (Lies.new W4 29 #[.int .i64 lv, .int .i64 ns, .int .i64 rt, .slice (some ⟨gt, 0, none⟩) n n])
    replace B := Lib.hid (B.out.alloc B.out.size (.cells #[.int .i64 lv, .int .i64 ns, .int .i64 rt, .slice (some ⟨gt, 0, none⟩) n n] 29))
    go_wp2_with fail
    refine (implBoxOf_yes _ _ _ _ _ _ _ qst (ps.map EV.val) _ (O_t.out.entries K_t.out) hn V_t.out HC.out HDD.out).mono ?_
    rintro e W5 ⟨gx, gy, rfl, lx, ly, ox, oy, b5⟩
    have sz_W5 := b5.size
    try simp only [World.size_alloc] at sz_W5
    replace J_1 := Lib.hid (J_1.out.kept b5)
    replace J_2 := Lib.hid (J_2.out.kept b5)
    replace A_t := Lib.hid (A_t.out.kept b5)
    replace L_a := Lib.hid (L_a.out.kept b5 L_a.out.inside)
    replace L_w0 := Lib.hid (L_w0.out.kept b5 L_w0.out.inside)
    replace L_x := Lib.hid (L_x.out.kept b5 L_x.out.inside)
    replace O_t := Lib.hid (O_t.out.kept b5)
    replace B := Lib.hid (B.out.trans (b5.mono B.out.size))
    clear b5
    try simp only [World.size_alloc] at lx
    have R_x := Lib.hid ox
    have R_y := Lib.hid oy
    clear ox oy
    have in_x := R_x.out.inside
    have in_y := R_y.out.inside
    replace R_x := Lib.hid (R_x.out.kept (below_alloc _ (.cells #[.int .i64 0, .slice (some ⟨gx, 0, none⟩) dd dd, .slice (some ⟨gy, 0, none⟩) dd dd] 37)))
    replace R_y := Lib.hid (R_y.out.kept (below_alloc _ (.cells #[.int .i64 0, .slice (some ⟨gx, 0, none⟩) dd dd, .slice (some ⟨gy, 0, none⟩) dd dd] 37)))
    replace J_1 := Lib.hid (J_1.out.kept (below_alloc _ (.cells #[.int .i64 0, .slice (some ⟨gx, 0, none⟩) dd dd, .slice (some ⟨gy, 0, none⟩) dd dd] 37)))
    replace J_2 := Lib.hid (J_2.out.kept (below_alloc _ (.cells #[.int .i64 0, .slice (some ⟨gx, 0, none⟩) dd dd, .slice (some ⟨gy, 0, none⟩) dd dd] 37)))
    replace A_t := Lib.hid (A_t.out.kept (below_alloc _ (.cells #[.int .i64 0, .slice (some ⟨gx, 0, none⟩) dd dd, .slice (some ⟨gy, 0, none⟩) dd dd] 37)))
    replace L_a := Lib.hid (L_a.out.alloc (.cells #[.int .i64 0, .slice (some ⟨gx, 0, none⟩) dd dd, .slice (some ⟨gy, 0, none⟩) dd dd] 37))
    replace L_w0 := Lib.hid (L_w0.out.alloc (.cells #[.int .i64 0, .slice (some ⟨gx, 0, none⟩) dd dd, .slice (some ⟨gy, 0, none⟩) dd dd] 37))
    replace L_x := Lib.hid (L_x.out.alloc (.cells #[.int .i64 0, .slice (some ⟨gx, 0, none⟩) dd dd, .slice (some ⟨gy, 0, none⟩) dd dd] 37))
    replace O_t := Lib.hid (O_t.out.kept (below_alloc _ (.cells #[.int .i64 0, .slice (some ⟨gx, 0, none⟩) dd dd, .slice (some ⟨gy, 0, none⟩) dd dd] 37)))
    have L_g0 := Lib.hid (Lies.new W5 37 #[.int .i64 0, .slice (some ⟨gx, 0, none⟩) dd dd, .slice (some ⟨gy, 0, none⟩) dd dd])
    replace B := Lib.hid (B.out.alloc B.out.size (.cells #[.int .i64 0, .slice (some ⟨gx, 0, none⟩) dd dd, .slice (some ⟨gy, 0, none⟩) dd dd] 37))
    have c_w00 : (W5.alloc (.cells #[.int .i64 0, .slice (some ⟨gx, 0, none⟩) dd dd, .slice (some ⟨gy, 0, none⟩) dd dd] 37)).cell? ⟨W3.heap.size, 0, none⟩ = some (.int .i64 0) := L_w0.out.cell 0
    have c_w01 : (W5.alloc (.cells #[.int .i64 0, .slice (some ⟨gx, 0, none⟩) dd dd, .slice (some ⟨gy, 0, none⟩) dd dd] 37)).cell? ⟨W3.heap.size, 1, none⟩ = some (.slice (some ⟨bw, ow, none⟩) dd cw) := L_w0.out.cell 1
    have c_w02 : (W5.alloc (.cells #[.int .i64 0, .slice (some ⟨gx, 0, none⟩) dd dd, .slice (some ⟨gy, 0, none⟩) dd dd] 37)).cell? ⟨W3.heap.size, 2, none⟩ = some (.slice (some ⟨bw', ow', none⟩) dd cw') := L_w0.out.cell 2
    have c_g00 : (W5.alloc (.cells #[.int .i64 0, .slice (some ⟨gx, 0, none⟩) dd dd, .slice (some ⟨gy, 0, none⟩) dd dd] 37)).cell? ⟨W5.heap.size, 0, none⟩ = some (.int .i64 0) := L_g0.out.cell 0
    have c_g01 : (W5.alloc (.cells #[.int .i64 0, .slice (some ⟨gx, 0, none⟩) dd dd, .slice (some ⟨gy, 0, none⟩) dd dd] 37)).cell? ⟨W5.heap.size, 1, none⟩ = some (.slice (some ⟨gx, 0, none⟩) dd dd) := L_g0.out.cell 1
    have c_g02 : (W5.alloc (.cells #[.int .i64 0, .slice (some ⟨gx, 0, none⟩) dd dd, .slice (some ⟨gy, 0, none⟩) dd dd] 37)).cell? ⟨W5.heap.size, 2, none⟩ = some (.slice (some ⟨gy, 0, none⟩) dd dd) := L_g0.out.cell 2
    go_wp2_with fail
    refine (eqRectResult_same _ _ _ _ _ _ _ _ _ _ _ _ _ _ _ (lowB (ps.map EV.val)) (highB (ps.map EV.val)) _ (R_x.out.ints (Nat.zero_le _)) (R_y.out.ints (Nat.zero_le _)) J_1.out J_2.out hdm hdm).mono ?_
    rintro e W6 ⟨rfl, b6⟩
    have sz_W6 := b6.size
    try simp only [World.size_alloc] at sz_W6
    replace R_x := Lib.hid (R_x.out.kept b6)
    replace R_y := Lib.hid (R_y.out.kept b6)
    replace J_1 := Lib.hid (J_1.out.kept b6)
    replace J_2 := Lib.hid (J_2.out.kept b6)
    replace A_t := Lib.hid (A_t.out.kept b6)
    replace L_a := Lib.hid (L_a.out.kept b6 L_a.out.inside)
    replace L_w0 := Lib.hid (L_w0.out.kept b6 L_w0.out.inside)
    replace L_x := Lib.hid (L_x.out.kept b6 L_x.out.inside)
    replace L_g0 := Lib.hid (L_g0.out.kept b6 L_g0.out.inside)
    replace O_t := Lib.hid (O_t.out.kept b6)
    replace B := Lib.hid (B.out.trans (b6.mono B.out.size))
    clear b6
    clear c_w00 c_w01 c_w02
    clear c_g00 c_g01 c_g02
    go_wp2_with fail
    have k_0 : W6.cell? ⟨W4.heap.size, 0, none⟩ = some (.int .i64 lv) ∧ W6.cell? ⟨W4.heap.size, 1, none⟩ = some (.int .i64 ns) ∧ W6.cell? ⟨W4.heap.size, 2, none⟩ = some (.int .i64 rt) ∧ W6.cell? ⟨W4.heap.size, 3, none⟩ = some (.slice (some ⟨gt, 0, none⟩) n n) ∧ W6.cell? ⟨w.heap.size, 0, none⟩ = some (.int .i64 lv) ∧ W6.cell? ⟨w.heap.size, 1, none⟩ = some (.int .i64 ns) ∧ W6.cell? ⟨w.heap.size, 2, none⟩ = some (.int .i64 rt) ∧ W6.cell? ⟨w.heap.size, 3, none⟩ = some (.slice A n c) := ⟨L_x.out.cell 0, L_x.out.cell 1, L_x.out.cell 2, L_x.out.cell 3, L_a.out.cell 0, L_a.out.cell 1, L_a.out.cell 2, L_a.out.cell 3⟩
    go_region_held3 (fun w' => w'.cell? ⟨W4.heap.size, 0, none⟩ = some (.int .i64 lv) ∧ w'.cell? ⟨W4.heap.size, 1, none⟩ = some (.int .i64 ns) ∧ w'.cell? ⟨W4.heap.size, 2, none⟩ = some (.int .i64 rt) ∧ w'.cell? ⟨W4.heap.size, 3, none⟩ = some (.slice (some ⟨gt, 0, none⟩) n n) ∧ w'.cell? ⟨w.heap.size, 0, none⟩ = some (.int .i64 lv) ∧ w'.cell? ⟨w.heap.size, 1, none⟩ = some (.int .i64 ns) ∧ w'.cell? ⟨w.heap.size, 2, none⟩ = some (.int .i64 rt) ∧ w'.cell? ⟨w.heap.size, 3, none⟩ = some (.slice A n c))
      (first | (simp [go_sem, k_0]; done) | with_reducible exact k_1 | with_reducible exact k_2)
      (first
        | (go_at_call 10; refine (toNode_any _ _ _ _ _ _ ps _ (HP.out.kept B.out.drew) (by omega) HS.out).mono ?_
           rintro e Wx ⟨gz, qsz, rfl, hgz, oz, lz, vz, bxd⟩
           have bx := below_drawn bxd
           have k_1 : Wx.cell? ⟨W4.heap.size, 0, none⟩ = some (.int .i64 lv) ∧ Wx.cell? ⟨W4.heap.size, 1, none⟩ = some (.int .i64 ns) ∧ Wx.cell? ⟨W4.heap.size, 2, none⟩ = some (.int .i64 rt) ∧ Wx.cell? ⟨W4.heap.size, 3, none⟩ = some (.slice (some ⟨gt, 0, none⟩) n n) ∧ Wx.cell? ⟨w.heap.size, 0, none⟩ = some (.int .i64 lv) ∧ Wx.cell? ⟨w.heap.size, 1, none⟩ = some (.int .i64 ns) ∧ Wx.cell? ⟨w.heap.size, 2, none⟩ = some (.int .i64 rt) ∧ Wx.cell? ⟨w.heap.size, 3, none⟩ = some (.slice A n c) := ⟨(L_x.out.kept bx L_x.out.inside).cell 0, (L_x.out.kept bx L_x.out.inside).cell 1, (L_x.out.kept bx L_x.out.inside).cell 2, (L_x.out.kept bx L_x.out.inside).cell 3, (L_a.out.kept bx L_a.out.inside).cell 0, (L_a.out.kept bx L_a.out.inside).cell 1, (L_a.out.kept bx L_a.out.inside).cell 2, (L_a.out.kept bx L_a.out.inside).cell 3⟩
           clear bxd hgz)
        | (go_at_call 12; refine (eqNode_same _ _ _ _ _ _ _ _ qst qsz _ ((O_t.out.kept bx).entries K_t.out) (oz.entries lz) (V_t.out.trans vz.symm) hn).mono ?_
           rintro e Wy ⟨rfl, by1⟩
           have k_2 : Wy.cell? ⟨W4.heap.size, 0, none⟩ = some (.int .i64 lv) ∧ Wy.cell? ⟨W4.heap.size, 1, none⟩ = some (.int .i64 ns) ∧ Wy.cell? ⟨W4.heap.size, 2, none⟩ = some (.int .i64 rt) ∧ Wy.cell? ⟨W4.heap.size, 3, none⟩ = some (.slice (some ⟨gt, 0, none⟩) n n) ∧ Wy.cell? ⟨w.heap.size, 0, none⟩ = some (.int .i64 lv) ∧ Wy.cell? ⟨w.heap.size, 1, none⟩ = some (.int .i64 ns) ∧ Wy.cell? ⟨w.heap.size, 2, none⟩ = some (.int .i64 rt) ∧ Wy.cell? ⟨w.heap.size, 3, none⟩ = some (.slice A n c) := ⟨((L_x.out.kept bx L_x.out.inside).kept by1 (L_x.out.kept bx L_x.out.inside).inside).cell 0, ((L_x.out.kept bx L_x.out.inside).kept by1 (L_x.out.kept bx L_x.out.inside).inside).cell 1, ((L_x.out.kept bx L_x.out.inside).kept by1 (L_x.out.kept bx L_x.out.inside).inside).cell 2, ((L_x.out.kept bx L_x.out.inside).kept by1 (L_x.out.kept bx L_x.out.inside).inside).cell 3, ((L_a.out.kept bx L_a.out.inside).kept by1 (L_a.out.kept bx L_a.out.inside).inside).cell 0, ((L_a.out.kept bx L_a.out.inside).kept by1 (L_a.out.kept bx L_a.out.inside).inside).cell 1, ((L_a.out.kept bx L_a.out.inside).kept by1 (L_a.out.kept bx L_a.out.inside).inside).cell 2, ((L_a.out.kept bx L_a.out.inside).kept by1 (L_a.out.kept bx L_a.out.inside).inside).cell 3⟩))
    clear k_0 k_1 k_2 oz lz vz
    have sz_Wx := bx.size
    try simp only [World.size_alloc] at sz_Wx
    replace R_x := Lib.hid (R_x.out.kept bx)
    replace R_y := Lib.hid (R_y.out.kept bx)
    replace J_1 := Lib.hid (J_1.out.kept bx)
    replace J_2 := Lib.hid (J_2.out.kept bx)
    replace A_t := Lib.hid (A_t.out.kept bx)
    replace L_a := Lib.hid (L_a.out.kept bx L_a.out.inside)
    replace L_w0 := Lib.hid (L_w0.out.kept bx L_w0.out.inside)
    replace L_x := Lib.hid (L_x.out.kept bx L_x.out.inside)
    replace L_g0 := Lib.hid (L_g0.out.kept bx L_g0.out.inside)
    replace O_t := Lib.hid (O_t.out.kept bx)
    replace B := Lib.hid (B.out.trans (bx.mono B.out.size))
    clear bx
    have sz_Wy := by1.size
    try simp only [World.size_alloc] at sz_Wy
    replace R_x := Lib.hid (R_x.out.kept by1)
    replace R_y := Lib.hid (R_y.out.kept by1)
    replace J_1 := Lib.hid (J_1.out.kept by1)
    replace J_2 := Lib.hid (J_2.out.kept by1)
    replace A_t := Lib.hid (A_t.out.kept by1)
    replace L_a := Lib.hid (L_a.out.kept by1 L_a.out.inside)
    replace L_w0 := Lib.hid (L_w0.out.kept by1 L_w0.out.inside)
    replace L_x := Lib.hid (L_x.out.kept by1 L_x.out.inside)
    replace L_g0 := Lib.hid (L_g0.out.kept by1 L_g0.out.inside)
    replace O_t := Lib.hid (O_t.out.kept by1)
    replace B := Lib.hid (B.out.trans (by1.mono B.out.size))
    clear by1
    have c_x0 : Wy.cell? ⟨W4.heap.size, 0, none⟩ = some (.int .i64 lv) := L_x.out.cell 0
    have c_x1 : Wy.cell? ⟨W4.heap.size, 1, none⟩ = some (.int .i64 ns) := L_x.out.cell 1
    have c_x2 : Wy.cell? ⟨W4.heap.size, 2, none⟩ = some (.int .i64 rt) := L_x.out.cell 2
    have c_x3 : Wy.cell? ⟨W4.heap.size, 3, none⟩ = some (.slice (some ⟨gt, 0, none⟩) n n) := L_x.out.cell 3
    go_wp2_with fail
    refine (markNode_any 1 _ _ _ _ _ _ W4.heap.size qst _ A_t.out K_t.out (by decide) (by decide) (by omega) SQ_t.out).mono ?_
    rintro e W7 ⟨rm, rfl, hrm, t7⟩
    have sz_W7 := t7.2.1
    try simp only [World.size_alloc] at sz_W7
    clear O_t
    clear A_t
    replace L_a := Lib.hid (t7.lies L_a.out (by show ¬ _; omega))
    replace L_w0 := Lib.hid (t7.lies L_w0.out (by show ¬ _; omega))
    replace L_x := Lib.hid (t7.lies L_x.out (by show ¬ _; omega))
    replace L_g0 := Lib.hid (t7.lies L_g0.out (by show ¬ _; omega))
    replace R_x := Lib.hid (t7.own R_x.out (by show ¬ _; omega))
    replace R_y := Lib.hid (t7.own R_y.out (by show ¬ _; omega))
    replace J_1 := Lib.hid (t7.ints J_1.out (by intro b o e; injection e with e; injection e with e1 e2; subst e1; show ¬ _; omega))
    replace J_2 := Lib.hid (t7.ints J_2.out (by intro b o e; injection e with e; injection e with e1 e2; subst e1; show ¬ _; omega))
    replace B := Lib.hid (t7.below B.out (by intro x hx; show w.heap.size ≤ x; have hx' : gt ≤ x := hx.1; omega))
    clear c_x0 c_x1 c_x2 c_x3
    clear t7
    have kpos : ¬ rm < 0 := by omega
    have c_w00 : W7.cell? ⟨W3.heap.size, 0, none⟩ = some (.int .i64 0) := L_w0.out.cell 0
    have c_w01 : W7.cell? ⟨W3.heap.size, 1, none⟩ = some (.slice (some ⟨bw, ow, none⟩) dd cw) := L_w0.out.cell 1
    have c_w02 : W7.cell? ⟨W3.heap.size, 2, none⟩ = some (.slice (some ⟨bw', ow', none⟩) dd cw') := L_w0.out.cell 2
    have c_g00 : W7.cell? ⟨W5.heap.size, 0, none⟩ = some (.int .i64 0) := L_g0.out.cell 0
    have c_g01 : W7.cell? ⟨W5.heap.size, 1, none⟩ = some (.slice (some ⟨gx, 0, none⟩) dd dd) := L_g0.out.cell 1
    have c_g02 : W7.cell? ⟨W5.heap.size, 2, none⟩ = some (.slice (some ⟨gy, 0, none⟩) dd dd) := L_g0.out.cell 2
    go_wp2_with fail
    refine (eqRectResult_same _ _ _ _ _ _ _ _ _ _ _ _ _ _ _ (lowB (ps.map EV.val)) (highB (ps.map EV.val)) _ (R_x.out.ints (Nat.zero_le _)) (R_y.out.ints (Nat.zero_le _)) J_1.out J_2.out hdm hdm).mono ?_
    rintro e W8 ⟨rfl, b8⟩
    have sz_W8 := b8.size
    try simp only [World.size_alloc] at sz_W8
    replace R_x := Lib.hid (R_x.out.kept b8)
    replace R_y := Lib.hid (R_y.out.kept b8)
    replace J_1 := Lib.hid (J_1.out.kept b8)
    replace J_2 := Lib.hid (J_2.out.kept b8)
    replace L_a := Lib.hid (L_a.out.kept b8 L_a.out.inside)
    replace L_w0 := Lib.hid (L_w0.out.kept b8 L_w0.out.inside)
    replace L_x := Lib.hid (L_x.out.kept b8 L_x.out.inside)
    replace L_g0 := Lib.hid (L_g0.out.kept b8 L_g0.out.inside)
    replace B := Lib.hid (B.out.trans (b8.mono B.out.size))
    clear b8
    clear c_w00 c_w01 c_w02
    clear c_g00 c_g01 c_g02
    clear kpos
    have c_g00 : W8.cell? ⟨W5.heap.size, 0, none⟩ = some (.int .i64 0) := L_g0.out.cell 0
    have c_g01 : W8.cell? ⟨W5.heap.size, 1, none⟩ = some (.slice (some ⟨gx, 0, none⟩) dd dd) := L_g0.out.cell 1
    have c_g02 : W8.cell? ⟨W5.heap.size, 2, none⟩ = some (.slice (some ⟨gy, 0, none⟩) dd dd) := L_g0.out.cell 2
    go_wp2_with fail
    refine (markRectResult_any 1 _ _ _ _ _ _ _ (lowB (ps.map EV.val)) (highB (ps.map EV.val)) _ R_x.out R_y.out (by omega) (by omega) (by omega) (by omega) (by omega)).mono ?_
    rintro e W9 ⟨rfl, om1, om2, t9⟩
    have sz_W9 := t9.2.1
    try simp only [World.size_alloc] at sz_W9
    replace L_a := Lib.hid (t9.lies L_a.out (by show ¬ _; omega))
    replace L_w0 := Lib.hid (t9.lies L_w0.out (by show ¬ _; omega))
    replace L_x := Lib.hid (t9.lies L_x.out (by show ¬ _; omega))
    replace L_g0 := Lib.hid (t9.lies L_g0.out (by show ¬ _; omega))
    replace J_1 := Lib.hid (t9.ints J_1.out (by intro b o e; injection e with e; injection e with e1 e2; subst e1; show ¬ _; omega))
    replace J_2 := Lib.hid (t9.ints J_2.out (by intro b o e; injection e with e; injection e with e1 e2; subst e1; show ¬ _; omega))
    replace B := Lib.hid (t9.below B.out (by intro x hx; show w.heap.size ≤ x; rcases hx with rfl | rfl <;> omega))
    clear c_g00 c_g01 c_g02
    replace R_x := Lib.hid om1
    replace R_y := Lib.hid om2
    clear om1 om2 t9
    have qpos : ¬ ((1 : Int) + dd + dd < 0) := by omega
    have qeq : (((1 : Int) + dd + dd) != (1 + dd + dd)) = false := by simp
    have c_g00 : W9.cell? ⟨W5.heap.size, 0, none⟩ = some (.int .i64 0) := L_g0.out.cell 0
    have c_g01 : W9.cell? ⟨W5.heap.size, 1, none⟩ = some (.slice (some ⟨gx, 0, none⟩) dd dd) := L_g0.out.cell 1
    have c_g02 : W9.cell? ⟨W5.heap.size, 2, none⟩ = some (.slice (some ⟨gy, 0, none⟩) dd dd) := L_g0.out.cell 2
    go_wp2_with fail
    refine (heldRectResult_any 1 _ _ _ _ _ _ _ _ _ _ (R_x.out.ints (Nat.zero_le _)) (R_y.out.ints (Nat.zero_le _)) (by omega) (by omega) (by omega) (by omega)).mono ?_
    rintro e W10 ⟨rfl, b10⟩
    have sz_W10 := b10.size
    try simp only [World.size_alloc] at sz_W10
    replace R_x := Lib.hid (R_x.out.kept b10)
    replace R_y := Lib.hid (R_y.out.kept b10)
    replace J_1 := Lib.hid (J_1.out.kept b10)
    replace J_2 := Lib.hid (J_2.out.kept b10)
    replace L_a := Lib.hid (L_a.out.kept b10 L_a.out.inside)
    replace L_w0 := Lib.hid (L_w0.out.kept b10 L_w0.out.inside)
    replace L_x := Lib.hid (L_x.out.kept b10 L_x.out.inside)
    replace L_g0 := Lib.hid (L_g0.out.kept b10 L_g0.out.inside)
    replace B := Lib.hid (B.out.trans (b10.mono B.out.size))
    clear b10
    clear c_g00 c_g01 c_g02
    have c_a0 : W10.cell? ⟨w.heap.size, 0, none⟩ = some (.int .i64 lv) := L_a.out.cell 0
    have c_a1 : W10.cell? ⟨w.heap.size, 1, none⟩ = some (.int .i64 ns) := L_a.out.cell 1
    have c_a2 : W10.cell? ⟨w.heap.size, 2, none⟩ = some (.int .i64 rt) := L_a.out.cell 2
    have c_a3 : W10.cell? ⟨w.heap.size, 3, none⟩ = some (.slice A n c) := L_a.out.cell 3
    go_wp2_with fail
    refine (toNode_any _ _ _ _ _ _ ps _ (HP.out.kept B.out) (by omega) HS.out).mono ?_
    rintro e W11 ⟨gr, qsr, rfl, hgr, or, lr, vr, b11⟩
    have sz_W11 := b11.size
    try simp only [World.size_alloc] at sz_W11
    replace R_x := Lib.hid (R_x.out.kept b11)
    replace R_y := Lib.hid (R_y.out.kept b11)
    replace J_1 := Lib.hid (J_1.out.kept b11)
    replace J_2 := Lib.hid (J_2.out.kept b11)
    replace L_a := Lib.hid (L_a.out.kept b11 L_a.out.inside)
    replace L_w0 := Lib.hid (L_w0.out.kept b11 L_w0.out.inside)
    replace L_x := Lib.hid (L_x.out.kept b11 L_x.out.inside)
    replace L_g0 := Lib.hid (L_g0.out.kept b11 L_g0.out.inside)
    replace B := Lib.hid (B.out.trans (b11.mono B.out.size))
    clear b11
    try simp only [World.size_alloc] at hgr
    have O_r := Lib.hid or
    have K_r := Lib.hid lr
    have V_r := Lib.hid vr
    clear or lr vr
    clear c_a0 c_a1 c_a2 c_a3
    clear hgr
    go_wp2_with fail
    refine (implBoxOf_yes _ _ _ _ _ _ _ qsr (ps.map EV.val) _ (O_r.out.entries K_r.out) hn V_r.out HC.out HDD.out).mono ?_
    rintro e W12 ⟨gp, gq, rfl, lp, lq, op, oq, b12⟩
    have sz_W12 := b12.size
    try simp only [World.size_alloc] at sz_W12
    replace R_x := Lib.hid (R_x.out.kept b12)
    replace R_y := Lib.hid (R_y.out.kept b12)
    replace J_1 := Lib.hid (J_1.out.kept b12)
    replace J_2 := Lib.hid (J_2.out.kept b12)
    replace L_a := Lib.hid (L_a.out.kept b12 L_a.out.inside)
    replace L_w0 := Lib.hid (L_w0.out.kept b12 L_w0.out.inside)
    replace L_x := Lib.hid (L_x.out.kept b12 L_x.out.inside)
    replace L_g0 := Lib.hid (L_g0.out.kept b12 L_g0.out.inside)
    replace O_r := Lib.hid (O_r.out.kept b12)
    replace B := Lib.hid (B.out.trans (b12.mono B.out.size))
    clear b12
    try simp only [World.size_alloc] at lp
    have R_p := Lib.hid op
    have R_q := Lib.hid oq
    clear op oq
    clear O_r K_r V_r
    replace R_x := Lib.hid (R_x.out.kept (below_alloc _ (.cells #[.int .i64 0, .slice (some ⟨gp, 0, none⟩) dd dd, .slice (some ⟨gq, 0, none⟩) dd dd] 37)))
    replace R_y := Lib.hid (R_y.out.kept (below_alloc _ (.cells #[.int .i64 0, .slice (some ⟨gp, 0, none⟩) dd dd, .slice (some ⟨gq, 0, none⟩) dd dd] 37)))
    replace R_p := Lib.hid (R_p.out.kept (below_alloc _ (.cells #[.int .i64 0, .slice (some ⟨gp, 0, none⟩) dd dd, .slice (some ⟨gq, 0, none⟩) dd dd] 37)))
    replace R_q := Lib.hid (R_q.out.kept (below_alloc _ (.cells #[.int .i64 0, .slice (some ⟨gp, 0, none⟩) dd dd, .slice (some ⟨gq, 0, none⟩) dd dd] 37)))
    replace J_1 := Lib.hid (J_1.out.kept (below_alloc _ (.cells #[.int .i64 0, .slice (some ⟨gp, 0, none⟩) dd dd, .slice (some ⟨gq, 0, none⟩) dd dd] 37)))
    replace J_2 := Lib.hid (J_2.out.kept (below_alloc _ (.cells #[.int .i64 0, .slice (some ⟨gp, 0, none⟩) dd dd, .slice (some ⟨gq, 0, none⟩) dd dd] 37)))
    replace L_a := Lib.hid (L_a.out.alloc (.cells #[.int .i64 0, .slice (some ⟨gp, 0, none⟩) dd dd, .slice (some ⟨gq, 0, none⟩) dd dd] 37))
    replace L_w0 := Lib.hid (L_w0.out.alloc (.cells #[.int .i64 0, .slice (some ⟨gp, 0, none⟩) dd dd, .slice (some ⟨gq, 0, none⟩) dd dd] 37))
    replace L_x := Lib.hid (L_x.out.alloc (.cells #[.int .i64 0, .slice (some ⟨gp, 0, none⟩) dd dd, .slice (some ⟨gq, 0, none⟩) dd dd] 37))
    replace L_g0 := Lib.hid (L_g0.out.alloc (.cells #[.int .i64 0, .slice (some ⟨gp, 0, none⟩) dd dd, .slice (some ⟨gq, 0, none⟩) dd dd] 37))
    have L_h0 := Lib.hid (Lies.new W12 37 #[.int .i64 0, .slice (some ⟨gp, 0, none⟩) dd dd, .slice (some ⟨gq, 0, none⟩) dd dd])
    replace B := Lib.hid (B.out.alloc B.out.size (.cells #[.int .i64 0, .slice (some ⟨gp, 0, none⟩) dd dd, .slice (some ⟨gq, 0, none⟩) dd dd] 37))
    have c_h00 : (W12.alloc (.cells #[.int .i64 0, .slice (some ⟨gp, 0, none⟩) dd dd, .slice (some ⟨gq, 0, none⟩) dd dd] 37)).cell? ⟨W12.heap.size, 0, none⟩ = some (.int .i64 0) := L_h0.out.cell 0
    have c_h01 : (W12.alloc (.cells #[.int .i64 0, .slice (some ⟨gp, 0, none⟩) dd dd, .slice (some ⟨gq, 0, none⟩) dd dd] 37)).cell? ⟨W12.heap.size, 1, none⟩ = some (.slice (some ⟨gp, 0, none⟩) dd dd) := L_h0.out.cell 1
    have c_h02 : (W12.alloc (.cells #[.int .i64 0, .slice (some ⟨gp, 0, none⟩) dd dd, .slice (some ⟨gq, 0, none⟩) dd dd] 37)).cell? ⟨W12.heap.size, 2, none⟩ = some (.slice (some ⟨gq, 0, none⟩) dd dd) := L_h0.out.cell 2
    have c_w00 : (W12.alloc (.cells #[.int .i64 0, .slice (some ⟨gp, 0, none⟩) dd dd, .slice (some ⟨gq, 0, none⟩) dd dd] 37)).cell? ⟨W3.heap.size, 0, none⟩ = some (.int .i64 0) := L_w0.out.cell 0
    have c_w01 : (W12.alloc (.cells #[.int .i64 0, .slice (some ⟨gp, 0, none⟩) dd dd, .slice (some ⟨gq, 0, none⟩) dd dd] 37)).cell? ⟨W3.heap.size, 1, none⟩ = some (.slice (some ⟨bw, ow, none⟩) dd cw) := L_w0.out.cell 1
    have c_w02 : (W12.alloc (.cells #[.int .i64 0, .slice (some ⟨gp, 0, none⟩) dd dd, .slice (some ⟨gq, 0, none⟩) dd dd] 37)).cell? ⟨W3.heap.size, 2, none⟩ = some (.slice (some ⟨bw', ow', none⟩) dd cw') := L_w0.out.cell 2
    go_wp2_with fail
    refine (eqRectResult_same _ _ _ _ _ _ _ _ _ _ _ _ _ _ _ (lowB (ps.map EV.val)) (highB (ps.map EV.val)) _ (R_p.out.ints (Nat.zero_le _)) (R_q.out.ints (Nat.zero_le _)) J_1.out J_2.out hdm hdm).mono ?_
    rintro e W13 ⟨rfl, b13⟩
    have sz_W13 := b13.size
    try simp only [World.size_alloc] at sz_W13
    replace R_x := Lib.hid (R_x.out.kept b13)
    replace R_y := Lib.hid (R_y.out.kept b13)
    replace R_p := Lib.hid (R_p.out.kept b13)
    replace R_q := Lib.hid (R_q.out.kept b13)
    replace J_1 := Lib.hid (J_1.out.kept b13)
    replace J_2 := Lib.hid (J_2.out.kept b13)
    replace L_a := Lib.hid (L_a.out.kept b13 L_a.out.inside)
    replace L_w0 := Lib.hid (L_w0.out.kept b13 L_w0.out.inside)
    replace L_x := Lib.hid (L_x.out.kept b13 L_x.out.inside)
    replace L_g0 := Lib.hid (L_g0.out.kept b13 L_g0.out.inside)
    replace L_h0 := Lib.hid (L_h0.out.kept b13 L_h0.out.inside)
    replace B := Lib.hid (B.out.trans (b13.mono B.out.size))
    clear b13
    clear c_h00 c_h01 c_h02
    clear c_w00 c_w01 c_w02
    have c_g00 : W13.cell? ⟨W5.heap.size, 0, none⟩ = some (.int .i64 0) := L_g0.out.cell 0
    have c_g01 : W13.cell? ⟨W5.heap.size, 1, none⟩ = some (.slice (some ⟨gx, 0, none⟩) dd dd) := L_g0.out.cell 1
    have c_g02 : W13.cell? ⟨W5.heap.size, 2, none⟩ = some (.slice (some ⟨gy, 0, none⟩) dd dd) := L_g0.out.cell 2
    go_wp2_with fail
    refine (heldRectResult_any 1 _ _ _ _ _ _ _ _ _ _ (R_x.out.ints (Nat.zero_le _)) (R_y.out.ints (Nat.zero_le _)) (by omega) (by omega) (by omega) (by omega)).mono ?_
    rintro e W14 ⟨rfl, b14⟩
    have sz_W14 := b14.size
    try simp only [World.size_alloc] at sz_W14
    replace R_x := Lib.hid (R_x.out.kept b14)
    replace R_y := Lib.hid (R_y.out.kept b14)
    replace R_p := Lib.hid (R_p.out.kept b14)
    replace R_q := Lib.hid (R_q.out.kept b14)
    replace J_1 := Lib.hid (J_1.out.kept b14)
    replace J_2 := Lib.hid (J_2.out.kept b14)
    replace L_a := Lib.hid (L_a.out.kept b14 L_a.out.inside)
    replace L_w0 := Lib.hid (L_w0.out.kept b14 L_w0.out.inside)
    replace L_x := Lib.hid (L_x.out.kept b14 L_x.out.inside)
    replace L_g0 := Lib.hid (L_g0.out.kept b14 L_g0.out.inside)
    replace L_h0 := Lib.hid (L_h0.out.kept b14 L_h0.out.inside)
    replace B := Lib.hid (B.out.trans (b14.mono B.out.size))
    clear b14
    clear c_g00 c_g01 c_g02
    go_wp2
    go_ret
    exact ⟨rfl, B.out⟩
  · obtain ⟨cd, hcd⟩ : ∃ cd, boxC (nodeF lv ns rt (ps.map EV.val) d) n = cd := ⟨_, rfl⟩
    have HC := Lib.hid hcd
    have HNE : Hid (cd ≠ 0) := by show cd ≠ 0; rw [← hcd]; exact hz
    clear hz hcd
    have c_a0 : W1.cell? ⟨w.heap.size, 0, none⟩ = some (.int .i64 lv) := L_a.out.cell 0
    have c_a1 : W1.cell? ⟨w.heap.size, 1, none⟩ = some (.int .i64 ns) := L_a.out.cell 1
    have c_a2 : W1.cell? ⟨w.heap.size, 2, none⟩ = some (.int .i64 rt) := L_a.out.cell 2
    have c_a3 : W1.cell? ⟨w.heap.size, 3, none⟩ = some (.slice A n c) := L_a.out.cell 3
    go_wp2_with fail
    refine (toNode_any _ _ _ _ _ _ ps _ (HP.out.kept B.out) (by omega) HS.out).mono ?_
    rintro e W2 ⟨gs, qss, rfl, hgs, os, ls, vs, b2⟩
    have sz_W2 := b2.size
    try simp only [World.size_alloc] at sz_W2
    replace L_a := Lib.hid (L_a.out.kept b2 L_a.out.inside)
    replace B := Lib.hid (B.out.trans (b2.mono B.out.size))
    clear b2
    try simp only [World.size_alloc] at hgs
    have O_s := Lib.hid os
    have K_s := Lib.hid ls
    have V_s := Lib.hid vs
    clear os ls vs
    clear c_a0 c_a1 c_a2 c_a3
    clear hgs
    go_wp2_with fail
    refine (specBoxOf_no _ _ _ _ _ _ _ qss (ps.map EV.val) _ (O_s.out.entries K_s.out) hn V_s.out HC.out HNE.out).mono ?_
    rintro e W3 ⟨rfl, b3⟩
    have sz_W3 := b3.size
    try simp only [World.size_alloc] at sz_W3
    replace L_a := Lib.hid (L_a.out.kept b3 L_a.out.inside)
    replace O_s := Lib.hid (O_s.out.kept b3)
    replace B := Lib.hid (B.out.trans (b3.mono B.out.size))
    clear b3
    clear O_s K_s V_s
    replace L_a := Lib.hid (L_a.out.alloc (.cells #[.int .i64 cd, .slice none 0 0, .slice none 0 0] 37))
    have L_w0 := Lib.hid (Lies.new W3 37 #[.int .i64 cd, .slice none 0 0, .slice none 0 0])
    replace B := Lib.hid (B.out.alloc B.out.size (.cells #[.int .i64 cd, .slice none 0 0, .slice none 0 0] 37))
    have c_a0 : (W3.alloc (.cells #[.int .i64 cd, .slice none 0 0, .slice none 0 0] 37)).cell? ⟨w.heap.size, 0, none⟩ = some (.int .i64 lv) := L_a.out.cell 0
    have c_a1 : (W3.alloc (.cells #[.int .i64 cd, .slice none 0 0, .slice none 0 0] 37)).cell? ⟨w.heap.size, 1, none⟩ = some (.int .i64 ns) := L_a.out.cell 1
    have c_a2 : (W3.alloc (.cells #[.int .i64 cd, .slice none 0 0, .slice none 0 0] 37)).cell? ⟨w.heap.size, 2, none⟩ = some (.int .i64 rt) := L_a.out.cell 2
    have c_a3 : (W3.alloc (.cells #[.int .i64 cd, .slice none 0 0, .slice none 0 0] 37)).cell? ⟨w.heap.size, 3, none⟩ = some (.slice A n c) := L_a.out.cell 3
    go_wp2_with fail
    refine (toNode_any _ _ _ _ _ _ ps _ (HP.out.kept B.out) (by omega) HS.out).mono ?_
    rintro e W4 ⟨gt, qst, rfl, hgt, ot, lt, vt, b4⟩
    have sz_W4 := b4.size
    try simp only [World.size_alloc] at sz_W4
    replace L_a := Lib.hid (L_a.out.kept b4 L_a.out.inside)
    replace L_w0 := Lib.hid (L_w0.out.kept b4 L_w0.out.inside)
    replace B := Lib.hid (B.out.trans (b4.mono B.out.size))
    clear b4
    try simp only [World.size_alloc] at hgt
    have O_t := Lib.hid ot
    have K_t := Lib.hid lt
    have V_t := Lib.hid vt
    have A_t := Lib.hid ot.any
    have SQ_t := Lib.hid (small_own HP.out HM.out ot vt (by decide))
    have in_t := O_t.out.inside
    clear ot lt vt
    clear c_a0 c_a1 c_a2 c_a3
    have hi_t : W4.heap.size = W4.heap.size := rfl
    replace A_t := Lib.hid (A_t.out.kept (below_alloc _ (.cells #[.int .i64 lv, .int .i64 ns, .int .i64 rt, .slice (some ⟨gt, 0, none⟩) n n] 29)))
    replace L_a := Lib.hid (L_a.out.alloc (.cells #[.int .i64 lv, .int .i64 ns, .int .i64 rt, .slice (some ⟨gt, 0, none⟩) n n] 29))
    replace L_w0 := Lib.hid (L_w0.out.alloc (.cells #[.int .i64 lv, .int .i64 ns, .int .i64 rt, .slice (some ⟨gt, 0, none⟩) n n] 29))
    replace O_t := Lib.hid (O_t.out.kept (below_alloc _ (.cells #[.int .i64 lv, .int .i64 ns, .int .i64 rt, .slice (some ⟨gt, 0, none⟩) n n] 29)))
    have L_x := Lib.hid (Lies.new W4 29 #[.int .i64 lv, .int .i64 ns, .int .i64 rt, .slice (some ⟨gt, 0, none⟩) n n])
    replace B := Lib.hid (B.out.alloc B.out.size (.cells #[.int .i64 lv, .int .i64 ns, .int .i64 rt, .slice (some ⟨gt, 0, none⟩) n n] 29))
    go_wp2_with fail
    refine (implBoxOf_no _ _ _ _ _ _ _ qst (ps.map EV.val) _ (O_t.out.entries K_t.out) hn V_t.out HC.out HNE.out).mono ?_
    rintro e W5 ⟨rfl, b5⟩
    have sz_W5 := b5.size
    try simp only [World.size_alloc] at sz_W5
    replace A_t := Lib.hid (A_t.out.kept b5)
    replace L_a := Lib.hid (L_a.out.kept b5 L_a.out.inside)
    replace L_w0 := Lib.hid (L_w0.out.kept b5 L_w0.out.inside)
    replace L_x := Lib.hid (L_x.out.kept b5 L_x.out.inside)
    replace O_t := Lib.hid (O_t.out.kept b5)
    replace B := Lib.hid (B.out.trans (b5.mono B.out.size))
    clear b5
    replace A_t := Lib.hid (A_t.out.kept (below_alloc _ (.cells #[.int .i64 cd, .slice none 0 0, .slice none 0 0] 37)))
    replace L_a := Lib.hid (L_a.out.alloc (.cells #[.int .i64 cd, .slice none 0 0, .slice none 0 0] 37))
    replace L_w0 := Lib.hid (L_w0.out.alloc (.cells #[.int .i64 cd, .slice none 0 0, .slice none 0 0] 37))
    replace L_x := Lib.hid (L_x.out.alloc (.cells #[.int .i64 cd, .slice none 0 0, .slice none 0 0] 37))
    replace O_t := Lib.hid (O_t.out.kept (below_alloc _ (.cells #[.int .i64 cd, .slice none 0 0, .slice none 0 0] 37)))
    have L_g0 := Lib.hid (Lies.new W5 37 #[.int .i64 cd, .slice none 0 0, .slice none 0 0])
    replace B := Lib.hid (B.out.alloc B.out.size (.cells #[.int .i64 cd, .slice none 0 0, .slice none 0 0] 37))
    have c_w00 : (W5.alloc (.cells #[.int .i64 cd, .slice none 0 0, .slice none 0 0] 37)).cell? ⟨W3.heap.size, 0, none⟩ = some (.int .i64 cd) := L_w0.out.cell 0
    have c_w01 : (W5.alloc (.cells #[.int .i64 cd, .slice none 0 0, .slice none 0 0] 37)).cell? ⟨W3.heap.size, 1, none⟩ = some (.slice none 0 0) := L_w0.out.cell 1
    have c_w02 : (W5.alloc (.cells #[.int .i64 cd, .slice none 0 0, .slice none 0 0] 37)).cell? ⟨W3.heap.size, 2, none⟩ = some (.slice none 0 0) := L_w0.out.cell 2
    have c_g00 : (W5.alloc (.cells #[.int .i64 cd, .slice none 0 0, .slice none 0 0] 37)).cell? ⟨W5.heap.size, 0, none⟩ = some (.int .i64 cd) := L_g0.out.cell 0
    have c_g01 : (W5.alloc (.cells #[.int .i64 cd, .slice none 0 0, .slice none 0 0] 37)).cell? ⟨W5.heap.size, 1, none⟩ = some (.slice none 0 0) := L_g0.out.cell 1
    have c_g02 : (W5.alloc (.cells #[.int .i64 cd, .slice none 0 0, .slice none 0 0] 37)).cell? ⟨W5.heap.size, 2, none⟩ = some (.slice none 0 0) := L_g0.out.cell 2
    go_wp2_with fail
    refine (eqRectResult_same _ _ _ _ _ _ _ _ _ _ _ _ _ _ _ [] [] _ (Ints.empty _ 0 _) (Ints.empty _ 0 _) (Ints.empty _ 0 _) (Ints.empty _ 0 _) (Nat.zero_le _) (Nat.zero_le _)).mono ?_
    rintro e W6 ⟨rfl, b6⟩
    have sz_W6 := b6.size
    try simp only [World.size_alloc] at sz_W6
    replace A_t := Lib.hid (A_t.out.kept b6)
    replace L_a := Lib.hid (L_a.out.kept b6 L_a.out.inside)
    replace L_w0 := Lib.hid (L_w0.out.kept b6 L_w0.out.inside)
    replace L_x := Lib.hid (L_x.out.kept b6 L_x.out.inside)
    replace L_g0 := Lib.hid (L_g0.out.kept b6 L_g0.out.inside)
    replace O_t := Lib.hid (O_t.out.kept b6)
    replace B := Lib.hid (B.out.trans (b6.mono B.out.size))
    clear b6
    clear c_w00 c_w01 c_w02
    clear c_g00 c_g01 c_g02
    go_wp2_with fail
    have k_0 : W6.cell? ⟨W4.heap.size, 0, none⟩ = some (.int .i64 lv) ∧ W6.cell? ⟨W4.heap.size, 1, none⟩ = some (.int .i64 ns) ∧ W6.cell? ⟨W4.heap.size, 2, none⟩ = some (.int .i64 rt) ∧ W6.cell? ⟨W4.heap.size, 3, none⟩ = some (.slice (some ⟨gt, 0, none⟩) n n) ∧ W6.cell? ⟨w.heap.size, 0, none⟩ = some (.int .i64 lv) ∧ W6.cell? ⟨w.heap.size, 1, none⟩ = some (.int .i64 ns) ∧ W6.cell? ⟨w.heap.size, 2, none⟩ = some (.int .i64 rt) ∧ W6.cell? ⟨w.heap.size, 3, none⟩ = some (.slice A n c) := ⟨L_x.out.cell 0, L_x.out.cell 1, L_x.out.cell 2, L_x.out.cell 3, L_a.out.cell 0, L_a.out.cell 1, L_a.out.cell 2, L_a.out.cell 3⟩
    go_region_held3 (fun w' => w'.cell? ⟨W4.heap.size, 0, none⟩ = some (.int .i64 lv) ∧ w'.cell? ⟨W4.heap.size, 1, none⟩ = some (.int .i64 ns) ∧ w'.cell? ⟨W4.heap.size, 2, none⟩ = some (.int .i64 rt) ∧ w'.cell? ⟨W4.heap.size, 3, none⟩ = some (.slice (some ⟨gt, 0, none⟩) n n) ∧ w'.cell? ⟨w.heap.size, 0, none⟩ = some (.int .i64 lv) ∧ w'.cell? ⟨w.heap.size, 1, none⟩ = some (.int .i64 ns) ∧ w'.cell? ⟨w.heap.size, 2, none⟩ = some (.int .i64 rt) ∧ w'.cell? ⟨w.heap.size, 3, none⟩ = some (.slice A n c))
      (first | (simp [go_sem, k_0]; done) | with_reducible exact k_1 | with_reducible exact k_2)
      (first
        | (go_at_call 10; refine (toNode_any _ _ _ _ _ _ ps _ (HP.out.kept B.out.drew) (by omega) HS.out).mono ?_
           rintro e Wx ⟨gz, qsz, rfl, hgz, oz, lz, vz, bxd⟩
           have bx := below_drawn bxd
           have k_1 : Wx.cell? ⟨W4.heap.size, 0, none⟩ = some (.int .i64 lv) ∧ Wx.cell? ⟨W4.heap.size, 1, none⟩ = some (.int .i64 ns) ∧ Wx.cell? ⟨W4.heap.size, 2, none⟩ = some (.int .i64 rt) ∧ Wx.cell? ⟨W4.heap.size, 3, none⟩ = some (.slice (some ⟨gt, 0, none⟩) n n) ∧ Wx.cell? ⟨w.heap.size, 0, none⟩ = some (.int .i64 lv) ∧ Wx.cell? ⟨w.heap.size, 1, none⟩ = some (.int .i64 ns) ∧ Wx.cell? ⟨w.heap.size, 2, none⟩ = some (.int .i64 rt) ∧ Wx.cell? ⟨w.heap.size, 3, none⟩ = some (.slice A n c) := ⟨(L_x.out.kept bx L_x.out.inside).cell 0, (L_x.out.kept bx L_x.out.inside).cell 1, (L_x.out.kept bx L_x.out.inside).cell 2, (L_x.out.kept bx L_x.out.inside).cell 3, (L_a.out.kept bx L_a.out.inside).cell 0, (L_a.out.kept bx L_a.out.inside).cell 1, (L_a.out.kept bx L_a.out.inside).cell 2, (L_a.out.kept bx L_a.out.inside).cell 3⟩
           clear bxd hgz)
        | (go_at_call 12; refine (eqNode_same _ _ _ _ _ _ _ _ qst qsz _ ((O_t.out.kept bx).entries K_t.out) (oz.entries lz) (V_t.out.trans vz.symm) hn).mono ?_
           rintro e Wy ⟨rfl, by1⟩
           have k_2 : Wy.cell? ⟨W4.heap.size, 0, none⟩ = some (.int .i64 lv) ∧ Wy.cell? ⟨W4.heap.size, 1, none⟩ = some (.int .i64 ns) ∧ Wy.cell? ⟨W4.heap.size, 2, none⟩ = some (.int .i64 rt) ∧ Wy.cell? ⟨W4.heap.size, 3, none⟩ = some (.slice (some ⟨gt, 0, none⟩) n n) ∧ Wy.cell? ⟨w.heap.size, 0, none⟩ = some (.int .i64 lv) ∧ Wy.cell? ⟨w.heap.size, 1, none⟩ = some (.int .i64 ns) ∧ Wy.cell? ⟨w.heap.size, 2, none⟩ = some (.int .i64 rt) ∧ Wy.cell? ⟨w.heap.size, 3, none⟩ = some (.slice A n c) := ⟨((L_x.out.kept bx L_x.out.inside).kept by1 (L_x.out.kept bx L_x.out.inside).inside).cell 0, ((L_x.out.kept bx L_x.out.inside).kept by1 (L_x.out.kept bx L_x.out.inside).inside).cell 1, ((L_x.out.kept bx L_x.out.inside).kept by1 (L_x.out.kept bx L_x.out.inside).inside).cell 2, ((L_x.out.kept bx L_x.out.inside).kept by1 (L_x.out.kept bx L_x.out.inside).inside).cell 3, ((L_a.out.kept bx L_a.out.inside).kept by1 (L_a.out.kept bx L_a.out.inside).inside).cell 0, ((L_a.out.kept bx L_a.out.inside).kept by1 (L_a.out.kept bx L_a.out.inside).inside).cell 1, ((L_a.out.kept bx L_a.out.inside).kept by1 (L_a.out.kept bx L_a.out.inside).inside).cell 2, ((L_a.out.kept bx L_a.out.inside).kept by1 (L_a.out.kept bx L_a.out.inside).inside).cell 3⟩))
    clear k_0 k_1 k_2 oz lz vz
    have sz_Wx := bx.size
    try simp only [World.size_alloc] at sz_Wx
    replace A_t := Lib.hid (A_t.out.kept bx)
    replace L_a := Lib.hid (L_a.out.kept bx L_a.out.inside)
    replace L_w0 := Lib.hid (L_w0.out.kept bx L_w0.out.inside)
    replace L_x := Lib.hid (L_x.out.kept bx L_x.out.inside)
    replace L_g0 := Lib.hid (L_g0.out.kept bx L_g0.out.inside)
    replace O_t := Lib.hid (O_t.out.kept bx)
    replace B := Lib.hid (B.out.trans (bx.mono B.out.size))
    clear bx
    have sz_Wy := by1.size
    try simp only [World.size_alloc] at sz_Wy
    replace A_t := Lib.hid (A_t.out.kept by1)
    replace L_a := Lib.hid (L_a.out.kept by1 L_a.out.inside)
    replace L_w0 := Lib.hid (L_w0.out.kept by1 L_w0.out.inside)
    replace L_x := Lib.hid (L_x.out.kept by1 L_x.out.inside)
    replace L_g0 := Lib.hid (L_g0.out.kept by1 L_g0.out.inside)
    replace O_t := Lib.hid (O_t.out.kept by1)
    replace B := Lib.hid (B.out.trans (by1.mono B.out.size))
    clear by1
    have c_x0 : Wy.cell? ⟨W4.heap.size, 0, none⟩ = some (.int .i64 lv) := L_x.out.cell 0
    have c_x1 : Wy.cell? ⟨W4.heap.size, 1, none⟩ = some (.int .i64 ns) := L_x.out.cell 1
    have c_x2 : Wy.cell? ⟨W4.heap.size, 2, none⟩ = some (.int .i64 rt) := L_x.out.cell 2
    have c_x3 : Wy.cell? ⟨W4.heap.size, 3, none⟩ = some (.slice (some ⟨gt, 0, none⟩) n n) := L_x.out.cell 3
    go_wp2_with fail
    refine (markNode_any 1 _ _ _ _ _ _ W4.heap.size qst _ A_t.out K_t.out (by decide) (by decide) (by omega) SQ_t.out).mono ?_
    rintro e W7 ⟨rm, rfl, hrm, t7⟩
    have sz_W7 := t7.2.1
    try simp only [World.size_alloc] at sz_W7
    clear O_t
    clear A_t
    replace L_a := Lib.hid (t7.lies L_a.out (by show ¬ _; omega))
    replace L_w0 := Lib.hid (t7.lies L_w0.out (by show ¬ _; omega))
    replace L_x := Lib.hid (t7.lies L_x.out (by show ¬ _; omega))
    replace L_g0 := Lib.hid (t7.lies L_g0.out (by show ¬ _; omega))
    replace B := Lib.hid (t7.below B.out (by intro x hx; show w.heap.size ≤ x; have hx' : gt ≤ x := hx.1; omega))
    clear c_x0 c_x1 c_x2 c_x3
    clear t7
    have kpos : ¬ rm < 0 := by omega
    have c_w00 : W7.cell? ⟨W3.heap.size, 0, none⟩ = some (.int .i64 cd) := L_w0.out.cell 0
    have c_w01 : W7.cell? ⟨W3.heap.size, 1, none⟩ = some (.slice none 0 0) := L_w0.out.cell 1
    have c_w02 : W7.cell? ⟨W3.heap.size, 2, none⟩ = some (.slice none 0 0) := L_w0.out.cell 2
    have c_g00 : W7.cell? ⟨W5.heap.size, 0, none⟩ = some (.int .i64 cd) := L_g0.out.cell 0
    have c_g01 : W7.cell? ⟨W5.heap.size, 1, none⟩ = some (.slice none 0 0) := L_g0.out.cell 1
    have c_g02 : W7.cell? ⟨W5.heap.size, 2, none⟩ = some (.slice none 0 0) := L_g0.out.cell 2
    go_wp2_with fail
    refine (eqRectResult_same _ _ _ _ _ _ _ _ _ _ _ _ _ _ _ [] [] _ (Ints.empty _ 0 _) (Ints.empty _ 0 _) (Ints.empty _ 0 _) (Ints.empty _ 0 _) (Nat.zero_le _) (Nat.zero_le _)).mono ?_
    rintro e W8 ⟨rfl, b8⟩
    have sz_W8 := b8.size
    try simp only [World.size_alloc] at sz_W8
    replace L_a := Lib.hid (L_a.out.kept b8 L_a.out.inside)
    replace L_w0 := Lib.hid (L_w0.out.kept b8 L_w0.out.inside)
    replace L_x := Lib.hid (L_x.out.kept b8 L_x.out.inside)
    replace L_g0 := Lib.hid (L_g0.out.kept b8 L_g0.out.inside)
    replace B := Lib.hid (B.out.trans (b8.mono B.out.size))
    clear b8
    clear c_w00 c_w01 c_w02
    clear c_g00 c_g01 c_g02
    clear kpos
    have c_g00 : W8.cell? ⟨W5.heap.size, 0, none⟩ = some (.int .i64 cd) := L_g0.out.cell 0
    have c_g01 : W8.cell? ⟨W5.heap.size, 1, none⟩ = some (.slice none 0 0) := L_g0.out.cell 1
    have c_g02 : W8.cell? ⟨W5.heap.size, 2, none⟩ = some (.slice none 0 0) := L_g0.out.cell 2
    go_wp2_with fail
    refine (markRectResult_none _ _ _).mono ?_
    rintro e W9 ⟨rfl, b9⟩
    have sz_W9 := b9.size
    try simp only [World.size_alloc] at sz_W9
    replace L_a := Lib.hid (L_a.out.kept b9 L_a.out.inside)
    replace L_w0 := Lib.hid (L_w0.out.kept b9 L_w0.out.inside)
    replace L_x := Lib.hid (L_x.out.kept b9 L_x.out.inside)
    replace L_g0 := Lib.hid (L_g0.out.kept b9 L_g0.out.inside)
    replace B := Lib.hid (B.out.trans (b9.mono B.out.size))
    clear b9
    clear c_g00 c_g01 c_g02
    have qeq : ((1 : Int) != 1) = false := by decide
    have c_g00 : W9.cell? ⟨W5.heap.size, 0, none⟩ = some (.int .i64 cd) := L_g0.out.cell 0
    have c_g01 : W9.cell? ⟨W5.heap.size, 1, none⟩ = some (.slice none 0 0) := L_g0.out.cell 1
    have c_g02 : W9.cell? ⟨W5.heap.size, 2, none⟩ = some (.slice none 0 0) := L_g0.out.cell 2
    go_wp2_with fail
    refine (heldRectResult_none2 1 _ _ (by decide) (by decide)).mono ?_
    rintro e W10 ⟨rfl, b10⟩
    have sz_W10 := b10.size
    try simp only [World.size_alloc] at sz_W10
    replace L_a := Lib.hid (L_a.out.kept b10 L_a.out.inside)
    replace L_w0 := Lib.hid (L_w0.out.kept b10 L_w0.out.inside)
    replace L_x := Lib.hid (L_x.out.kept b10 L_x.out.inside)
    replace L_g0 := Lib.hid (L_g0.out.kept b10 L_g0.out.inside)
    replace B := Lib.hid (B.out.trans (b10.mono B.out.size))
    clear b10
    clear c_g00 c_g01 c_g02
    have c_a0 : W10.cell? ⟨w.heap.size, 0, none⟩ = some (.int .i64 lv) := L_a.out.cell 0
    have c_a1 : W10.cell? ⟨w.heap.size, 1, none⟩ = some (.int .i64 ns) := L_a.out.cell 1
    have c_a2 : W10.cell? ⟨w.heap.size, 2, none⟩ = some (.int .i64 rt) := L_a.out.cell 2
    have c_a3 : W10.cell? ⟨w.heap.size, 3, none⟩ = some (.slice A n c) := L_a.out.cell 3
    go_wp2_with fail
    refine (toNode_any _ _ _ _ _ _ ps _ (HP.out.kept B.out) (by omega) HS.out).mono ?_
    rintro e W11 ⟨gr, qsr, rfl, hgr, or, lr, vr, b11⟩
    have sz_W11 := b11.size
    try simp only [World.size_alloc] at sz_W11
    replace L_a := Lib.hid (L_a.out.kept b11 L_a.out.inside)
    replace L_w0 := Lib.hid (L_w0.out.kept b11 L_w0.out.inside)
    replace L_x := Lib.hid (L_x.out.kept b11 L_x.out.inside)
    replace L_g0 := Lib.hid (L_g0.out.kept b11 L_g0.out.inside)
    replace B := Lib.hid (B.out.trans (b11.mono B.out.size))
    clear b11
    try simp only [World.size_alloc] at hgr
    have O_r := Lib.hid or
    have K_r := Lib.hid lr
    have V_r := Lib.hid vr
    clear or lr vr
    clear c_a0 c_a1 c_a2 c_a3
    clear hgr
    go_wp2_with fail
    refine (implBoxOf_no _ _ _ _ _ _ _ qsr (ps.map EV.val) _ (O_r.out.entries K_r.out) hn V_r.out HC.out HNE.out).mono ?_
    rintro e W12 ⟨rfl, b12⟩
    have sz_W12 := b12.size
    try simp only [World.size_alloc] at sz_W12
    replace L_a := Lib.hid (L_a.out.kept b12 L_a.out.inside)
    replace L_w0 := Lib.hid (L_w0.out.kept b12 L_w0.out.inside)
    replace L_x := Lib.hid (L_x.out.kept b12 L_x.out.inside)
    replace L_g0 := Lib.hid (L_g0.out.kept b12 L_g0.out.inside)
    replace O_r := Lib.hid (O_r.out.kept b12)
    replace B := Lib.hid (B.out.trans (b12.mono B.out.size))
    clear b12
    clear O_r K_r V_r
    replace L_a := Lib.hid (L_a.out.alloc (.cells #[.int .i64 cd, .slice none 0 0, .slice none 0 0] 37))
    replace L_w0 := Lib.hid (L_w0.out.alloc (.cells #[.int .i64 cd, .slice none 0 0, .slice none 0 0] 37))
    replace L_x := Lib.hid (L_x.out.alloc (.cells #[.int .i64 cd, .slice none 0 0, .slice none 0 0] 37))
    replace L_g0 := Lib.hid (L_g0.out.alloc (.cells #[.int .i64 cd, .slice none 0 0, .slice none 0 0] 37))
    have L_h0 := Lib.hid (Lies.new W12 37 #[.int .i64 cd, .slice none 0 0, .slice none 0 0])
    replace B := Lib.hid (B.out.alloc B.out.size (.cells #[.int .i64 cd, .slice none 0 0, .slice none 0 0] 37))
    have c_h00 : (W12.alloc (.cells #[.int .i64 cd, .slice none 0 0, .slice none 0 0] 37)).cell? ⟨W12.heap.size, 0, none⟩ = some (.int .i64 cd) := L_h0.out.cell 0
    have c_h01 : (W12.alloc (.cells #[.int .i64 cd, .slice none 0 0, .slice none 0 0] 37)).cell? ⟨W12.heap.size, 1, none⟩ = some (.slice none 0 0) := L_h0.out.cell 1
    have c_h02 : (W12.alloc (.cells #[.int .i64 cd, .slice none 0 0, .slice none 0 0] 37)).cell? ⟨W12.heap.size, 2, none⟩ = some (.slice none 0 0) := L_h0.out.cell 2
    have c_w00 : (W12.alloc (.cells #[.int .i64 cd, .slice none 0 0, .slice none 0 0] 37)).cell? ⟨W3.heap.size, 0, none⟩ = some (.int .i64 cd) := L_w0.out.cell 0
    have c_w01 : (W12.alloc (.cells #[.int .i64 cd, .slice none 0 0, .slice none 0 0] 37)).cell? ⟨W3.heap.size, 1, none⟩ = some (.slice none 0 0) := L_w0.out.cell 1
    have c_w02 : (W12.alloc (.cells #[.int .i64 cd, .slice none 0 0, .slice none 0 0] 37)).cell? ⟨W3.heap.size, 2, none⟩ = some (.slice none 0 0) := L_w0.out.cell 2
    go_wp2_with fail
    refine (eqRectResult_same _ _ _ _ _ _ _ _ _ _ _ _ _ _ _ [] [] _ (Ints.empty _ 0 _) (Ints.empty _ 0 _) (Ints.empty _ 0 _) (Ints.empty _ 0 _) (Nat.zero_le _) (Nat.zero_le _)).mono ?_
    rintro e W13 ⟨rfl, b13⟩
    have sz_W13 := b13.size
    try simp only [World.size_alloc] at sz_W13
    replace L_a := Lib.hid (L_a.out.kept b13 L_a.out.inside)
    replace L_w0 := Lib.hid (L_w0.out.kept b13 L_w0.out.inside)
    replace L_x := Lib.hid (L_x.out.kept b13 L_x.out.inside)
    replace L_g0 := Lib.hid (L_g0.out.kept b13 L_g0.out.inside)
    replace L_h0 := Lib.hid (L_h0.out.kept b13 L_h0.out.inside)
    replace B := Lib.hid (B.out.trans (b13.mono B.out.size))
    clear b13
    clear c_h00 c_h01 c_h02
    clear c_w00 c_w01 c_w02
    have c_g00 : W13.cell? ⟨W5.heap.size, 0, none⟩ = some (.int .i64 cd) := L_g0.out.cell 0
    have c_g01 : W13.cell? ⟨W5.heap.size, 1, none⟩ = some (.slice none 0 0) := L_g0.out.cell 1
    have c_g02 : W13.cell? ⟨W5.heap.size, 2, none⟩ = some (.slice none 0 0) := L_g0.out.cell 2
    go_wp2_with fail
    refine (heldRectResult_none2 1 _ _ (by decide) (by decide)).mono ?_
    rintro e W14 ⟨rfl, b14⟩
    have sz_W14 := b14.size
    try simp only [World.size_alloc] at sz_W14
    replace L_a := Lib.hid (L_a.out.kept b14 L_a.out.inside)
    replace L_w0 := Lib.hid (L_w0.out.kept b14 L_w0.out.inside)
    replace L_x := Lib.hid (L_x.out.kept b14 L_x.out.inside)
    replace L_g0 := Lib.hid (L_g0.out.kept b14 L_g0.out.inside)
    replace L_h0 := Lib.hid (L_h0.out.kept b14 L_h0.out.inside)
    replace B := Lib.hid (B.out.trans (b14.mono B.out.size))
    clear b14
    clear c_g00 c_g01 c_g02
    go_wp2
    go_ret
    exact ⟨rfl, B.out⟩

end Go.Proofs.Ytblhcnafoejahaa
