/- FnExactWithoutEntry: for every node and Ref impl.WithoutEntry answers as the model does, leaves its argument alone and answers in memory of its own. No condition. -/
import Derived.Test.YtblhcnafoejahaaSpecWithoutEntry
namespace Go.Proofs.Ytblhcnafoejahaa
open Go.RowKit

theorem specWithoutEntry_is (lv ns rt d r : Int) (n c : Nat) (A : Option Addr) (ps : List EV) (vs : List EVal) (w : World) (hp : Entries w A n ps) (hn : n ≤ maxLen) (hv : ps.map EV.val = vs) {cd l1 s1 r1 : Int} {V : List EVal} (hR : withoutR lv ns rt vs d r = (cd, l1, s1, r1, V)) :
    Calls Try.prog 22 #[.agg #[.int .i64 lv, .int .i64 ns, .int .i64 rt, .slice A n c], .int .i64 d, .int .i64 r] w fun e w' => ∃ A' n' c' qs, e = .returned (.agg #[.int .i64 cd, .int .i64 l1, .int .i64 s1, .int .i64 r1, .slice A' n' c']) ∧ Entries w' A' n' qs ∧ qs.map EV.val = V ∧ n' ≤ 6 ∧ Below w.heap.size w w' := by
  subst hv
  refine (specWithoutEntry_any lv ns rt d r n c A ps w hp hn).mono fun e w' h => ?_
  obtain ⟨A', n', c', qs, h1, h2, h3, h4, h5⟩ := h
  rw [hR] at h1 h3
  exact ⟨A', n', c', qs, h1, h2, h3, h4, h5⟩

theorem implWithoutEntry_is (lv ns rt d r : Int) (n c : Nat) (A : Option Addr) (ps : List EV) (vs : List EVal) (w : World) (hp : Entries w A n ps) (hn : n ≤ maxLen) (hv : ps.map EV.val = vs) {cd l1 s1 r1 : Int} {V : List EVal} (hR : withoutR lv ns rt vs d r = (cd, l1, s1, r1, V)) :
    Calls Try.prog 23 #[.agg #[.int .i64 lv, .int .i64 ns, .int .i64 rt, .slice A n c], .int .i64 d, .int .i64 r] w fun e w' => ∃ A' n' c' qs, e = .returned (.agg #[.int .i64 cd, .int .i64 l1, .int .i64 s1, .int .i64 r1, .slice A' n' c']) ∧ EntriesRes w' w.heap.size A' n' c' qs ∧ qs.map EV.val = V ∧ n' ≤ 6 ∧ Below w.heap.size w w' := by
  subst hv
  refine (implWithoutEntry_any lv ns rt d r n c A ps w hp hn).mono fun e w' h => ?_
  obtain ⟨A', n', c', qs, h1, h2, h3, h4, h5⟩ := h
  rw [hR] at h1 h3
  exact ⟨A', n', c', qs, h1, h2, h3, h4, h5⟩

set_option maxRecDepth 100000 in
set_option maxHeartbeats 6400000 in
theorem lawWithoutEntry_walk (lv ns rt : Int) (n c : Nat) (A : Option Addr) (ps : List EV) (d : Int) (rr : Int) (w : World) (hp : Entries w A n ps) (hn : n ≤ maxLen) :
    Calls Try.prog 6 #[.agg #[.int .i64 lv, .int .i64 ns, .int .i64 rt, .slice A n c], .int .i64 d, .int .i64 rr] w fun e w' => e = .returned (.bool true) ∧ Below w.heap.size w w' := by
  have HP := Lib.hid hp
  clear hp
  obtain ⟨⟨cd, l1, s1, r1, V⟩, hR⟩ : ∃ R, withoutR lv ns rt (ps.map EV.val) d rr = R := ⟨_, rfl⟩
  have HR := Lib.hid hR
  clear hR
  have B := Lib.hid (below_alloc w (.cells #[.int .i64 lv, .int .i64 ns, .int .i64 rt, .slice A n c] 24))
  have L_a := Lib.hid (Lies.new w 24 #[.int .i64 lv, .int .i64 ns, .int .i64 rt, .slice A n c])
  go_enter Try.func6, Try.ntmps6
  go_wp2_with fail
  refine (szNode_any _ _ _ 1048576 _ _ _ ps _ (HP.out.kept B.out) hn (by decide) (by decide)).mono ?_
  rintro e W1 ⟨r, rfl, hr, b1⟩
  have sz_W1 := b1.size
  try simp only [World.size_alloc] at sz_W1
  replace L_a := Lib.hid (L_a.out.kept b1 L_a.out.inside)
  replace B := Lib.hid (B.out.trans (b1.mono B.out.size))
  clear b1
  rcases hr with rfl | ⟨r0, r2, hn1, hs⟩
  · go_wp2
    go_ret
    exact ⟨rfl, B.out⟩
  have HM := Lib.hid hs
  have HS := Lib.hid (hs.two (by decide))
  have hr0 : ¬ r < 0 := by omega
  clear hs r0 r2
  have c_a0 : W1.cell? ⟨w.heap.size, 0, none⟩ = some (.int .i64 lv) := L_a.out.cell 0
  have c_a1 : W1.cell? ⟨w.heap.size, 1, none⟩ = some (.int .i64 ns) := L_a.out.cell 1
  have c_a2 : W1.cell? ⟨w.heap.size, 2, none⟩ = some (.int .i64 rt) := L_a.out.cell 2
  have c_a3 : W1.cell? ⟨w.heap.size, 3, none⟩ = some (.slice A n c) := L_a.out.cell 3
  go_wp2_with fail
  refine (toNode_any _ _ _ _ _ _ ps _ (HP.out.kept B.out) (by omega) HS.out).mono ?_
  rintro e W2 ⟨gs, qss, rfl, hgs, os, ls, vs, b2⟩
  have sz_W2 := b2.size
  try simp only [World.size_alloc] at sz_W2
  replace L_a := Lib.hid (L_a.out.kept b2 L_a.out.inside)
  replace B := Lib.hid (B.out.trans (b2.mono B.out.size))
  clear b2
  try simp only [World.size_alloc] at hgs
  have O_s := Lib.hid os
  have K_s := Lib.hid ls
  have V_s := Lib.hid vs
  clear os ls vs
  clear c_a0 c_a1 c_a2 c_a3
  clear hgs
  go_wp2_with fail
  refine (specWithoutEntry_is _ _ _ _ _ _ _ _ qss (ps.map EV.val) _ (O_s.out.entries K_s.out) hn V_s.out HR.out).mono ?_
  rintro e W3 ⟨A0, n0, c0, q0, rfl, hj, vj, nj, b3⟩
  have sz_W3 := b3.size
  try simp only [World.size_alloc] at sz_W3
  replace L_a := Lib.hid (L_a.out.kept b3 L_a.out.inside)
  replace O_s := Lib.hid (O_s.out.kept b3)
  replace B := Lib.hid (B.out.trans (b3.mono B.out.size))
  clear b3
  clear O_s K_s V_s
  have J := Lib.hid hj
  have VJ := Lib.hid vj
  clear hj vj
  have JB := Lib.hid (Below.refl W3.heap.size W3)
  replace JB := Lib.hid (JB.out.alloc JB.out.size (.cells #[.int .i64 cd, .int .i64 l1, .int .i64 s1, .int .i64 r1, .slice A0 n0 c0] 48))
  replace L_a := Lib.hid (L_a.out.alloc (.cells #[.int .i64 cd, .int .i64 l1, .int .i64 s1, .int .i64 r1, .slice A0 n0 c0] 48))
  have L_w0 := Lib.hid (Lies.new W3 48 #[.int .i64 cd, .int .i64 l1, .int .i64 s1, .int .i64 r1, .slice A0 n0 c0])
  replace B := Lib.hid (B.out.alloc B.out.size (.cells #[.int .i64 cd, .int .i64 l1, .int .i64 s1, .int .i64 r1, .slice A0 n0 c0] 48))
  have c_a0 : (W3.alloc (.cells #[.int .i64 cd, .int .i64 l1, .int .i64 s1, .int .i64 r1, .slice A0 n0 c0] 48)).cell? ⟨w.heap.size, 0, none⟩ = some (.int .i64 lv) := L_a.out.cell 0
  have c_a1 : (W3.alloc (.cells #[.int .i64 cd, .int .i64 l1, .int .i64 s1, .int .i64 r1, .slice A0 n0 c0] 48)).cell? ⟨w.heap.size, 1, none⟩ = some (.int .i64 ns) := L_a.out.cell 1
  have c_a2 : (W3.alloc (.cells #[.int .i64 cd, .int .i64 l1, .int .i64 s1, .int .i64 r1, .slice A0 n0 c0] 48)).cell? ⟨w.heap.size, 2, none⟩ = some (.int .i64 rt) := L_a.out.cell 2
  have c_a3 : (W3.alloc (.cells #[.int .i64 cd, .int .i64 l1, .int .i64 s1, .int .i64 r1, .slice A0 n0 c0] 48)).cell? ⟨w.heap.size, 3, none⟩ = some (.slice A n c) := L_a.out.cell 3
  go_wp2_with fail
  refine (toNode_any _ _ _ _ _ _ ps _ (HP.out.kept B.out) (by omega) HS.out).mono ?_
  rintro e W4 ⟨gt, qst, rfl, hgt, ot, lt, vt, b4⟩
  replace JB := Lib.hid (JB.out.trans (b4.mono JB.out.size))
  have sz_W4 := b4.size
  try simp only [World.size_alloc] at sz_W4
  replace L_a := Lib.hid (L_a.out.kept b4 L_a.out.inside)
  replace L_w0 := Lib.hid (L_w0.out.kept b4 L_w0.out.inside)
  replace B := Lib.hid (B.out.trans (b4.mono B.out.size))
  clear b4
  try simp only [World.size_alloc] at hgt
  have O_t := Lib.hid ot
  have K_t := Lib.hid lt
  have V_t := Lib.hid vt
  have A_t := Lib.hid ot.any
  have SQ_t := Lib.hid (small_own HP.out HM.out ot vt (by decide))
  have in_t := O_t.out.inside
  clear ot lt vt
  clear c_a0 c_a1 c_a2 c_a3
  replace JB := Lib.hid (JB.out.alloc JB.out.size (.cells #[.int .i64 lv, .int .i64 ns, .int .i64 rt, .slice (some ⟨gt, 0, none⟩) n n] 29))
  replace A_t := Lib.hid (A_t.out.kept (below_alloc _ (.cells #[.int .i64 lv, .int .i64 ns, .int .i64 rt, .slice (some ⟨gt, 0, none⟩) n n] 29)))
  replace L_a := Lib.hid (L_a.out.alloc (.cells #[.int .i64 lv, .int .i64 ns, .int .i64 rt, .slice (some ⟨gt, 0, none⟩) n n] 29))
  replace L_w0 := Lib.hid (L_w0.out.alloc (.cells #[.int .i64 lv, .int .i64 ns, .int .i64 rt, .slice (some ⟨gt, 0, none⟩) n n] 29))
  replace O_t := Lib.hid (O_t.out.kept (below_alloc _ (.cells #[.int .i64 lv, .int .i64 ns, .int .i64 rt, .slice (some ⟨gt, 0, none⟩) n n] 29)))
  have L_x := Lib.hid (Lies.new W4 29 #[.int .i64 lv, .int .i64 ns, .int .i64 rt, .slice (some ⟨gt, 0, none⟩) n n])
  replace B := Lib.hid (B.out.alloc B.out.size (.cells #[.int .i64 lv, .int .i64 ns, .int .i64 rt, .slice (some ⟨gt, 0, none⟩) n n] 29))
  go_wp2_with fail
  refine (implWithoutEntry_is _ _ _ _ _ _ _ _ qst (ps.map EV.val) _ (O_t.out.entries K_t.out) hn V_t.out HR.out).mono ?_
  rintro e W5 ⟨A1, n1, c1, q1, rfl, he, ve, ne, b5⟩
  replace JB := Lib.hid (JB.out.trans (b5.mono JB.out.size))
  have sz_W5 := b5.size
  try simp only [World.size_alloc] at sz_W5
  replace A_t := Lib.hid (A_t.out.kept b5)
  replace L_a := Lib.hid (L_a.out.kept b5 L_a.out.inside)
  replace L_w0 := Lib.hid (L_w0.out.kept b5 L_w0.out.inside)
  replace L_x := Lib.hid (L_x.out.kept b5 L_x.out.inside)
  replace O_t := Lib.hid (O_t.out.kept b5)
  replace B := Lib.hid (B.out.trans (b5.mono B.out.size))
  clear b5
  simp only [World.size_alloc] at he
  obtain rfl : n0 = n1 := by have h1 := J.out.1; have h2 := he.len; have h3 := congrArg List.length (VJ.out.trans ve.symm); simp only [List.length_map] at h3; omega
  have hb5 := Lib.hid he.bound
  have E_g := Lib.hid he
  have VE := Lib.hid ve
  clear he ve
  replace JB := Lib.hid (JB.out.alloc JB.out.size (.cells #[.int .i64 cd, .int .i64 l1, .int .i64 s1, .int .i64 r1, .slice A1 n0 c1] 48))
  replace E_g := Lib.hid (E_g.out.kept (below_alloc _ (.cells #[.int .i64 cd, .int .i64 l1, .int .i64 s1, .int .i64 r1, .slice A1 n0 c1] 48)))
  replace A_t := Lib.hid (A_t.out.kept (below_alloc _ (.cells #[.int .i64 cd, .int .i64 l1, .int .i64 s1, .int .i64 r1, .slice A1 n0 c1] 48)))
  replace L_a := Lib.hid (L_a.out.alloc (.cells #[.int .i64 cd, .int .i64 l1, .int .i64 s1, .int .i64 r1, .slice A1 n0 c1] 48))
  replace L_w0 := Lib.hid (L_w0.out.alloc (.cells #[.int .i64 cd, .int .i64 l1, .int .i64 s1, .int .i64 r1, .slice A1 n0 c1] 48))
  replace L_x := Lib.hid (L_x.out.alloc (.cells #[.int .i64 cd, .int .i64 l1, .int .i64 s1, .int .i64 r1, .slice A1 n0 c1] 48))
  replace O_t := Lib.hid (O_t.out.kept (below_alloc _ (.cells #[.int .i64 cd, .int .i64 l1, .int .i64 s1, .int .i64 r1, .slice A1 n0 c1] 48)))
  have L_g0 := Lib.hid (Lies.new W5 48 #[.int .i64 cd, .int .i64 l1, .int .i64 s1, .int .i64 r1, .slice A1 n0 c1])
  replace B := Lib.hid (B.out.alloc B.out.size (.cells #[.int .i64 cd, .int .i64 l1, .int .i64 s1, .int .i64 r1, .slice A1 n0 c1] 48))
  have c_w00 : (W5.alloc (.cells #[.int .i64 cd, .int .i64 l1, .int .i64 s1, .int .i64 r1, .slice A1 n0 c1] 48)).cell? ⟨W3.heap.size, 0, none⟩ = some (.int .i64 cd) := L_w0.out.cell 0
  have c_w01 : (W5.alloc (.cells #[.int .i64 cd, .int .i64 l1, .int .i64 s1, .int .i64 r1, .slice A1 n0 c1] 48)).cell? ⟨W3.heap.size, 1, none⟩ = some (.int .i64 l1) := L_w0.out.cell 1
  have c_w02 : (W5.alloc (.cells #[.int .i64 cd, .int .i64 l1, .int .i64 s1, .int .i64 r1, .slice A1 n0 c1] 48)).cell? ⟨W3.heap.size, 2, none⟩ = some (.int .i64 s1) := L_w0.out.cell 2
  have c_w03 : (W5.alloc (.cells #[.int .i64 cd, .int .i64 l1, .int .i64 s1, .int .i64 r1, .slice A1 n0 c1] 48)).cell? ⟨W3.heap.size, 3, none⟩ = some (.int .i64 r1) := L_w0.out.cell 3
  have c_w04 : (W5.alloc (.cells #[.int .i64 cd, .int .i64 l1, .int .i64 s1, .int .i64 r1, .slice A1 n0 c1] 48)).cell? ⟨W3.heap.size, 4, none⟩ = some (.slice A0 n0 c0) := L_w0.out.cell 4
  have c_g00 : (W5.alloc (.cells #[.int .i64 cd, .int .i64 l1, .int .i64 s1, .int .i64 r1, .slice A1 n0 c1] 48)).cell? ⟨W5.heap.size, 0, none⟩ = some (.int .i64 cd) := L_g0.out.cell 0
  have c_g01 : (W5.alloc (.cells #[.int .i64 cd, .int .i64 l1, .int .i64 s1, .int .i64 r1, .slice A1 n0 c1] 48)).cell? ⟨W5.heap.size, 1, none⟩ = some (.int .i64 l1) := L_g0.out.cell 1
  have c_g02 : (W5.alloc (.cells #[.int .i64 cd, .int .i64 l1, .int .i64 s1, .int .i64 r1, .slice A1 n0 c1] 48)).cell? ⟨W5.heap.size, 2, none⟩ = some (.int .i64 s1) := L_g0.out.cell 2
  have c_g03 : (W5.alloc (.cells #[.int .i64 cd, .int .i64 l1, .int .i64 s1, .int .i64 r1, .slice A1 n0 c1] 48)).cell? ⟨W5.heap.size, 3, none⟩ = some (.int .i64 r1) := L_g0.out.cell 3
  have c_g04 : (W5.alloc (.cells #[.int .i64 cd, .int .i64 l1, .int .i64 s1, .int .i64 r1, .slice A1 n0 c1] 48)).cell? ⟨W5.heap.size, 4, none⟩ = some (.slice A1 n0 c1) := L_g0.out.cell 4
  go_wp2_with fail
  refine (eqNodeResult_same _ _ _ _ _ _ _ _ _ q1 q0 _ E_g.out.entries (J.out.kept JB.out) (VE.out.trans VJ.out.symm) (Nat.le_trans nj (by decide))).mono ?_
  rintro e W6 ⟨rfl, b6⟩
  replace JB := Lib.hid (JB.out.trans (b6.mono JB.out.size))
  replace E_g := Lib.hid (E_g.out.kept b6)
  have sz_W6 := b6.size
  try simp only [World.size_alloc] at sz_W6
  replace A_t := Lib.hid (A_t.out.kept b6)
  replace L_a := Lib.hid (L_a.out.kept b6 L_a.out.inside)
  replace L_w0 := Lib.hid (L_w0.out.kept b6 L_w0.out.inside)
  replace L_x := Lib.hid (L_x.out.kept b6 L_x.out.inside)
  replace L_g0 := Lib.hid (L_g0.out.kept b6 L_g0.out.inside)
  replace O_t := Lib.hid (O_t.out.kept b6)
  replace B := Lib.hid (B.out.trans (b6.mono B.out.size))
  clear b6
  clear c_w00 c_w01 c_w02 c_w03 c_w04
  clear c_g00 c_g01 c_g02 c_g03 c_g04
  go_wp2_with fail
  have k_0 : W6.cell? ⟨W4.heap.size, 0, none⟩ = some (.int .i64 lv) ∧ W6.cell? ⟨W4.heap.size, 1, none⟩ = some (.int .i64 ns) ∧ W6.cell? ⟨W4.heap.size, 2, none⟩ = some (.int .i64 rt) ∧ W6.cell? ⟨W4.heap.size, 3, none⟩ = some (.slice (some ⟨gt, 0, none⟩) n n) ∧ W6.cell? ⟨w.heap.size, 0, none⟩ = some (.int .i64 lv) ∧ W6.cell? ⟨w.heap.size, 1, none⟩ = some (.int .i64 ns) ∧ W6.cell? ⟨w.heap.size, 2, none⟩ = some (.int .i64 rt) ∧ W6.cell? ⟨w.heap.size, 3, none⟩ = some (.slice A n c) := ⟨L_x.out.cell 0, L_x.out.cell 1, L_x.out.cell 2, L_x.out.cell 3, L_a.out.cell 0, L_a.out.cell 1, L_a.out.cell 2, L_a.out.cell 3⟩
  go_region_held3 (fun w' => w'.cell? ⟨W4.heap.size, 0, none⟩ = some (.int .i64 lv) ∧ w'.cell? ⟨W4.heap.size, 1, none⟩ = some (.int .i64 ns) ∧ w'.cell? ⟨W4.heap.size, 2, none⟩ = some (.int .i64 rt) ∧ w'.cell? ⟨W4.heap.size, 3, none⟩ = some (.slice (some ⟨gt, 0, none⟩) n n) ∧ w'.cell? ⟨w.heap.size, 0, none⟩ = some (.int .i64 lv) ∧ w'.cell? ⟨w.heap.size, 1, none⟩ = some (.int .i64 ns) ∧ w'.cell? ⟨w.heap.size, 2, none⟩ = some (.int .i64 rt) ∧ w'.cell? ⟨w.heap.size, 3, none⟩ = some (.slice A n c))
    (first | (simp [go_sem, k_0]; done) | with_reducible exact k_1 | with_reducible exact k_2)
    (first
      | (go_at_call 10; refine (toNode_any _ _ _ _ _ _ ps _ (HP.out.kept B.out.drew) (by omega) HS.out).mono ?_
         rintro e Wx ⟨gz, qsz, rfl, hgz, oz, lz, vz, bxd⟩
         have bx := below_drawn bxd
         have k_1 : Wx.cell? ⟨W4.heap.size, 0, none⟩ = some (.int .i64 lv) ∧ Wx.cell? ⟨W4.heap.size, 1, none⟩ = some (.int .i64 ns) ∧ Wx.cell? ⟨W4.heap.size, 2, none⟩ = some (.int .i64 rt) ∧ Wx.cell? ⟨W4.heap.size, 3, none⟩ = some (.slice (some ⟨gt, 0, none⟩) n n) ∧ Wx.cell? ⟨w.heap.size, 0, none⟩ = some (.int .i64 lv) ∧ Wx.cell? ⟨w.heap.size, 1, none⟩ = some (.int .i64 ns) ∧ Wx.cell? ⟨w.heap.size, 2, none⟩ = some (.int .i64 rt) ∧ Wx.cell? ⟨w.heap.size, 3, none⟩ = some (.slice A n c) := ⟨(L_x.out.kept bx L_x.out.inside).cell 0, (L_x.out.kept bx L_x.out.inside).cell 1, (L_x.out.kept bx L_x.out.inside).cell 2, (L_x.out.kept bx L_x.out.inside).cell 3, (L_a.out.kept bx L_a.out.inside).cell 0, (L_a.out.kept bx L_a.out.inside).cell 1, (L_a.out.kept bx L_a.out.inside).cell 2, (L_a.out.kept bx L_a.out.inside).cell 3⟩
         clear bxd hgz)
      | (go_at_call 12; refine (eqNode_same _ _ _ _ _ _ _ _ qst qsz _ ((O_t.out.kept bx).entries K_t.out) (oz.entries lz) (V_t.out.trans vz.symm) hn).mono ?_
         rintro e Wy ⟨rfl, by1⟩
         have k_2 : Wy.cell? ⟨W4.heap.size, 0, none⟩ = some (.int .i64 lv) ∧ Wy.cell? ⟨W4.heap.size, 1, none⟩ = some (.int .i64 ns) ∧ Wy.cell? ⟨W4.heap.size, 2, none⟩ = some (.int .i64 rt) ∧ Wy.cell? ⟨W4.heap.size, 3, none⟩ = some (.slice (some ⟨gt, 0, none⟩) n n) ∧ Wy.cell? ⟨w.heap.size, 0, none⟩ = some (.int .i64 lv) ∧ Wy.cell? ⟨w.heap.size, 1, none⟩ = some (.int .i64 ns) ∧ Wy.cell? ⟨w.heap.size, 2, none⟩ = some (.int .i64 rt) ∧ Wy.cell? ⟨w.heap.size, 3, none⟩ = some (.slice A n c) := ⟨((L_x.out.kept bx L_x.out.inside).kept by1 (L_x.out.kept bx L_x.out.inside).inside).cell 0, ((L_x.out.kept bx L_x.out.inside).kept by1 (L_x.out.kept bx L_x.out.inside).inside).cell 1, ((L_x.out.kept bx L_x.out.inside).kept by1 (L_x.out.kept bx L_x.out.inside).inside).cell 2, ((L_x.out.kept bx L_x.out.inside).kept by1 (L_x.out.kept bx L_x.out.inside).inside).cell 3, ((L_a.out.kept bx L_a.out.inside).kept by1 (L_a.out.kept bx L_a.out.inside).inside).cell 0, ((L_a.out.kept bx L_a.out.inside).kept by1 (L_a.out.kept bx L_a.out.inside).inside).cell 1, ((L_a.out.kept bx L_a.out.inside).kept by1 (L_a.out.kept bx L_a.out.inside).inside).cell 2, ((L_a.out.kept bx L_a.out.inside).kept by1 (L_a.out.kept bx L_a.out.inside).inside).cell 3⟩))
  clear k_0 k_1 k_2 oz lz vz
  replace JB := Lib.hid (JB.out.trans (bx.mono JB.out.size))
  replace E_g := Lib.hid (E_g.out.kept bx)
  have sz_Wx := bx.size
  try simp only [World.size_alloc] at sz_Wx
  replace A_t := Lib.hid (A_t.out.kept bx)
  replace L_a := Lib.hid (L_a.out.kept bx L_a.out.inside)
  replace L_w0 := Lib.hid (L_w0.out.kept bx L_w0.out.inside)
  replace L_x := Lib.hid (L_x.out.kept bx L_x.out.inside)
  replace L_g0 := Lib.hid (L_g0.out.kept bx L_g0.out.inside)
  replace O_t := Lib.hid (O_t.out.kept bx)
  replace B := Lib.hid (B.out.trans (bx.mono B.out.size))
  clear bx
  replace JB := Lib.hid (JB.out.trans (by1.mono JB.out.size))
  replace E_g := Lib.hid (E_g.out.kept by1)
  have sz_Wy := by1.size
  try simp only [World.size_alloc] at sz_Wy
  replace A_t := Lib.hid (A_t.out.kept by1)
  replace L_a := Lib.hid (L_a.out.kept by1 L_a.out.inside)
  replace L_w0 := Lib.hid (L_w0.out.kept by1 L_w0.out.inside)
  replace L_x := Lib.hid (L_x.out.kept by1 L_x.out.inside)
  replace L_g0 := Lib.hid (L_g0.out.kept by1 L_g0.out.inside)
  replace O_t := Lib.hid (O_t.out.kept by1)
  replace B := Lib.hid (B.out.trans (by1.mono B.out.size))
  clear by1
  have c_x0 : Wy.cell? ⟨W4.heap.size, 0, none⟩ = some (.int .i64 lv) := L_x.out.cell 0
  have c_x1 : Wy.cell? ⟨W4.heap.size, 1, none⟩ = some (.int .i64 ns) := L_x.out.cell 1
  have c_x2 : Wy.cell? ⟨W4.heap.size, 2, none⟩ = some (.int .i64 rt) := L_x.out.cell 2
  have c_x3 : Wy.cell? ⟨W4.heap.size, 3, none⟩ = some (.slice (some ⟨gt, 0, none⟩) n n) := L_x.out.cell 3
  go_wp2_with fail
  refine (markNode_any 1 _ _ _ _ _ _ W4.heap.size qst _ A_t.out K_t.out (by decide) (by decide) (by omega) SQ_t.out).mono ?_
  rintro e W7 ⟨rm, rfl, hrm, t7⟩
  have sz_W7 := t7.2.1
  try simp only [World.size_alloc] at sz_W7
  clear O_t
  clear A_t
  replace L_a := Lib.hid (t7.lies L_a.out (by show ¬ _; omega))
  replace L_w0 := Lib.hid (t7.lies L_w0.out (by show ¬ _; omega))
  replace L_x := Lib.hid (t7.lies L_x.out (by show ¬ _; omega))
  replace L_g0 := Lib.hid (t7.lies L_g0.out (by show ¬ _; omega))
  replace B := Lib.hid (t7.below B.out (by intro x hx; show w.heap.size ≤ x; have hx' : gt ≤ x := hx.1; omega))
  replace JB := Lib.hid (JB.out.trans (t7.1 _ (fun x hx => by have hx' : gt ≤ x := hx.1; omega) JB.out.size))
  replace E_g := Lib.hid (E_g.out.turned t7 (fun x hx => by have hx' := hx.2; omega))
  clear c_x0 c_x1 c_x2 c_x3
  clear t7
  have kpos : ¬ rm < 0 := by omega
  have c_w00 : W7.cell? ⟨W3.heap.size, 0, none⟩ = some (.int .i64 cd) := L_w0.out.cell 0
  have c_w01 : W7.cell? ⟨W3.heap.size, 1, none⟩ = some (.int .i64 l1) := L_w0.out.cell 1
  have c_w02 : W7.cell? ⟨W3.heap.size, 2, none⟩ = some (.int .i64 s1) := L_w0.out.cell 2
  have c_w03 : W7.cell? ⟨W3.heap.size, 3, none⟩ = some (.int .i64 r1) := L_w0.out.cell 3
  have c_w04 : W7.cell? ⟨W3.heap.size, 4, none⟩ = some (.slice A0 n0 c0) := L_w0.out.cell 4
  have c_g00 : W7.cell? ⟨W5.heap.size, 0, none⟩ = some (.int .i64 cd) := L_g0.out.cell 0
  have c_g01 : W7.cell? ⟨W5.heap.size, 1, none⟩ = some (.int .i64 l1) := L_g0.out.cell 1
  have c_g02 : W7.cell? ⟨W5.heap.size, 2, none⟩ = some (.int .i64 s1) := L_g0.out.cell 2
  have c_g03 : W7.cell? ⟨W5.heap.size, 3, none⟩ = some (.int .i64 r1) := L_g0.out.cell 3
  have c_g04 : W7.cell? ⟨W5.heap.size, 4, none⟩ = some (.slice A1 n0 c1) := L_g0.out.cell 4
  go_wp2_with fail
  refine (eqNodeResult_same _ _ _ _ _ _ _ _ _ q1 q0 _ E_g.out.entries (J.out.kept JB.out) (VE.out.trans VJ.out.symm) (Nat.le_trans nj (by decide))).mono ?_
  rintro e W8 ⟨rfl, b8⟩
  replace JB := Lib.hid (JB.out.trans (b8.mono JB.out.size))
  replace E_g := Lib.hid (E_g.out.kept b8)
  have sz_W8 := b8.size
  try simp only [World.size_alloc] at sz_W8
  replace L_a := Lib.hid (L_a.out.kept b8 L_a.out.inside)
  replace L_w0 := Lib.hid (L_w0.out.kept b8 L_w0.out.inside)
  replace L_x := Lib.hid (L_x.out.kept b8 L_x.out.inside)
  replace L_g0 := Lib.hid (L_g0.out.kept b8 L_g0.out.inside)
  replace B := Lib.hid (B.out.trans (b8.mono B.out.size))
  clear b8
  clear c_w00 c_w01 c_w02 c_w03 c_w04
  clear c_g00 c_g01 c_g02 c_g03 c_g04
  clear kpos
  have c_g00 : W8.cell? ⟨W5.heap.size, 0, none⟩ = some (.int .i64 cd) := L_g0.out.cell 0
  have c_g01 : W8.cell? ⟨W5.heap.size, 1, none⟩ = some (.int .i64 l1) := L_g0.out.cell 1
  have c_g02 : W8.cell? ⟨W5.heap.size, 2, none⟩ = some (.int .i64 s1) := L_g0.out.cell 2
  have c_g03 : W8.cell? ⟨W5.heap.size, 3, none⟩ = some (.int .i64 r1) := L_g0.out.cell 3
  have c_g04 : W8.cell? ⟨W5.heap.size, 4, none⟩ = some (.slice A1 n0 c1) := L_g0.out.cell 4
  go_wp2_with fail
  refine (markNodeResult_any 1 _ _ _ _ _ _ _ W5.heap.size _ q1 _ E_g.out hb5.out.1 hb5.out.2 (by decide) (by decide) (by omega)).mono ?_
  rintro e W9 ⟨q2, rfl, eg2, mk2, t9⟩
  have sz_W9 := t9.2.1
  try simp only [World.size_alloc] at sz_W9
  replace L_a := Lib.hid (t9.lies L_a.out (by show ¬ _; omega))
  replace L_w0 := Lib.hid (t9.lies L_w0.out (by show ¬ _; omega))
  replace L_x := Lib.hid (t9.lies L_x.out (by show ¬ _; omega))
  replace L_g0 := Lib.hid (t9.lies L_g0.out (by show ¬ _; omega))
  replace B := Lib.hid (t9.below B.out (by intro x hx; show w.heap.size ≤ x; have hx' := hx.1; omega))
  replace JB := Lib.hid (JB.out.trans (t9.1 _ (fun x hx => by have hx' := hx.1; omega) JB.out.size))
  clear c_g00 c_g01 c_g02 c_g03 c_g04
  replace E_g := Lib.hid eg2
  have MK := Lib.hid mk2
  have hps := (small_sum eg2.small).1
  clear eg2 mk2 t9
  have qpos : ¬ ((1 : Int) + sumK q2 < 0) := by omega
  have qeq : (((1 : Int) + sumK q2) != (1 + sumK q2)) = false := by simp
  have c_g00 : W9.cell? ⟨W5.heap.size, 0, none⟩ = some (.int .i64 cd) := L_g0.out.cell 0
  have c_g01 : W9.cell? ⟨W5.heap.size, 1, none⟩ = some (.int .i64 l1) := L_g0.out.cell 1
  have c_g02 : W9.cell? ⟨W5.heap.size, 2, none⟩ = some (.int .i64 s1) := L_g0.out.cell 2
  have c_g03 : W9.cell? ⟨W5.heap.size, 3, none⟩ = some (.int .i64 r1) := L_g0.out.cell 3
  have c_g04 : W9.cell? ⟨W5.heap.size, 4, none⟩ = some (.slice A1 n0 c1) := L_g0.out.cell 4
  go_wp2_with fail
  refine (heldNodeResult_any 1 _ _ _ _ _ _ _ q2 _ E_g.out.entries MK.out (by decide) (by decide) (by omega) E_g.out.small).mono ?_
  rintro e W10 ⟨rfl, b10⟩
  replace JB := Lib.hid (JB.out.trans (b10.mono JB.out.size))
  replace E_g := Lib.hid (E_g.out.kept b10)
  have sz_W10 := b10.size
  try simp only [World.size_alloc] at sz_W10
  replace L_a := Lib.hid (L_a.out.kept b10 L_a.out.inside)
  replace L_w0 := Lib.hid (L_w0.out.kept b10 L_w0.out.inside)
  replace L_x := Lib.hid (L_x.out.kept b10 L_x.out.inside)
  replace L_g0 := Lib.hid (L_g0.out.kept b10 L_g0.out.inside)
  replace B := Lib.hid (B.out.trans (b10.mono B.out.size))
  clear b10
  clear c_g00 c_g01 c_g02 c_g03 c_g04
  have c_a0 : W10.cell? ⟨w.heap.size, 0, none⟩ = some (.int .i64 lv) := L_a.out.cell 0
  have c_a1 : W10.cell? ⟨w.heap.size, 1, none⟩ = some (.int .i64 ns) := L_a.out.cell 1
  have c_a2 : W10.cell? ⟨w.heap.size, 2, none⟩ = some (.int .i64 rt) := L_a.out.cell 2
  have c_a3 : W10.cell? ⟨w.heap.size, 3, none⟩ = some (.slice A n c) := L_a.out.cell 3
  go_wp2_with fail
  refine (toNode_any _ _ _ _ _ _ ps _ (HP.out.kept B.out) (by omega) HS.out).mono ?_
  rintro e W11 ⟨gr, qsr, rfl, hgr, or, lr, vr, b11⟩
  replace JB := Lib.hid (JB.out.trans (b11.mono JB.out.size))
  replace E_g := Lib.hid (E_g.out.kept b11)
  have sz_W11 := b11.size
  try simp only [World.size_alloc] at sz_W11
  replace L_a := Lib.hid (L_a.out.kept b11 L_a.out.inside)
  replace L_w0 := Lib.hid (L_w0.out.kept b11 L_w0.out.inside)
  replace L_x := Lib.hid (L_x.out.kept b11 L_x.out.inside)
  replace L_g0 := Lib.hid (L_g0.out.kept b11 L_g0.out.inside)
  replace B := Lib.hid (B.out.trans (b11.mono B.out.size))
  clear b11
  try simp only [World.size_alloc] at hgr
  have O_r := Lib.hid or
  have K_r := Lib.hid lr
  have V_r := Lib.hid vr
  clear or lr vr
  clear c_a0 c_a1 c_a2 c_a3
  clear hgr
  go_wp2_with fail
  refine (implWithoutEntry_is _ _ _ _ _ _ _ _ qsr (ps.map EV.val) _ (O_r.out.entries K_r.out) hn V_r.out HR.out).mono ?_
  rintro e W12 ⟨A2, n2, c2, q3, rfl, he2, ve2, ne2, b12⟩
  replace JB := Lib.hid (JB.out.trans (b12.mono JB.out.size))
  replace E_g := Lib.hid (E_g.out.kept b12)
  have sz_W12 := b12.size
  try simp only [World.size_alloc] at sz_W12
  replace L_a := Lib.hid (L_a.out.kept b12 L_a.out.inside)
  replace L_w0 := Lib.hid (L_w0.out.kept b12 L_w0.out.inside)
  replace L_x := Lib.hid (L_x.out.kept b12 L_x.out.inside)
  replace L_g0 := Lib.hid (L_g0.out.kept b12 L_g0.out.inside)
  replace O_r := Lib.hid (O_r.out.kept b12)
  replace B := Lib.hid (B.out.trans (b12.mono B.out.size))
  clear b12
  clear O_r K_r V_r
  obtain rfl : n0 = n2 := by have h1 := J.out.1; have h2 := he2.len; have h3 := congrArg List.length (VJ.out.trans ve2.symm); simp only [List.length_map] at h3; omega
  have E_h := Lib.hid he2
  have VE2 := Lib.hid ve2
  clear he2 ve2
  replace JB := Lib.hid (JB.out.alloc JB.out.size (.cells #[.int .i64 cd, .int .i64 l1, .int .i64 s1, .int .i64 r1, .slice A2 n0 c2] 48))
  replace E_g := Lib.hid (E_g.out.kept (below_alloc _ (.cells #[.int .i64 cd, .int .i64 l1, .int .i64 s1, .int .i64 r1, .slice A2 n0 c2] 48)))
  replace E_h := Lib.hid (E_h.out.kept (below_alloc _ (.cells #[.int .i64 cd, .int .i64 l1, .int .i64 s1, .int .i64 r1, .slice A2 n0 c2] 48)))
  replace L_a := Lib.hid (L_a.out.alloc (.cells #[.int .i64 cd, .int .i64 l1, .int .i64 s1, .int .i64 r1, .slice A2 n0 c2] 48))
  replace L_w0 := Lib.hid (L_w0.out.alloc (.cells #[.int .i64 cd, .int .i64 l1, .int .i64 s1, .int .i64 r1, .slice A2 n0 c2] 48))
  replace L_x := Lib.hid (L_x.out.alloc (.cells #[.int .i64 cd, .int .i64 l1, .int .i64 s1, .int .i64 r1, .slice A2 n0 c2] 48))
  replace L_g0 := Lib.hid (L_g0.out.alloc (.cells #[.int .i64 cd, .int .i64 l1, .int .i64 s1, .int .i64 r1, .slice A2 n0 c2] 48))
  have L_h0 := Lib.hid (Lies.new W12 48 #[.int .i64 cd, .int .i64 l1, .int .i64 s1, .int .i64 r1, .slice A2 n0 c2])
  replace B := Lib.hid (B.out.alloc B.out.size (.cells #[.int .i64 cd, .int .i64 l1, .int .i64 s1, .int .i64 r1, .slice A2 n0 c2] 48))
  have c_h00 : (W12.alloc (.cells #[.int .i64 cd, .int .i64 l1, .int .i64 s1, .int .i64 r1, .slice A2 n0 c2] 48)).cell? ⟨W12.heap.size, 0, none⟩ = some (.int .i64 cd) := L_h0.out.cell 0
  have c_h01 : (W12.alloc (.cells #[.int .i64 cd, .int .i64 l1, .int .i64 s1, .int .i64 r1, .slice A2 n0 c2] 48)).cell? ⟨W12.heap.size, 1, none⟩ = some (.int .i64 l1) := L_h0.out.cell 1
  have c_h02 : (W12.alloc (.cells #[.int .i64 cd, .int .i64 l1, .int .i64 s1, .int .i64 r1, .slice A2 n0 c2] 48)).cell? ⟨W12.heap.size, 2, none⟩ = some (.int .i64 s1) := L_h0.out.cell 2
  have c_h03 : (W12.alloc (.cells #[.int .i64 cd, .int .i64 l1, .int .i64 s1, .int .i64 r1, .slice A2 n0 c2] 48)).cell? ⟨W12.heap.size, 3, none⟩ = some (.int .i64 r1) := L_h0.out.cell 3
  have c_h04 : (W12.alloc (.cells #[.int .i64 cd, .int .i64 l1, .int .i64 s1, .int .i64 r1, .slice A2 n0 c2] 48)).cell? ⟨W12.heap.size, 4, none⟩ = some (.slice A2 n0 c2) := L_h0.out.cell 4
  have c_w00 : (W12.alloc (.cells #[.int .i64 cd, .int .i64 l1, .int .i64 s1, .int .i64 r1, .slice A2 n0 c2] 48)).cell? ⟨W3.heap.size, 0, none⟩ = some (.int .i64 cd) := L_w0.out.cell 0
  have c_w01 : (W12.alloc (.cells #[.int .i64 cd, .int .i64 l1, .int .i64 s1, .int .i64 r1, .slice A2 n0 c2] 48)).cell? ⟨W3.heap.size, 1, none⟩ = some (.int .i64 l1) := L_w0.out.cell 1
  have c_w02 : (W12.alloc (.cells #[.int .i64 cd, .int .i64 l1, .int .i64 s1, .int .i64 r1, .slice A2 n0 c2] 48)).cell? ⟨W3.heap.size, 2, none⟩ = some (.int .i64 s1) := L_w0.out.cell 2
  have c_w03 : (W12.alloc (.cells #[.int .i64 cd, .int .i64 l1, .int .i64 s1, .int .i64 r1, .slice A2 n0 c2] 48)).cell? ⟨W3.heap.size, 3, none⟩ = some (.int .i64 r1) := L_w0.out.cell 3
  have c_w04 : (W12.alloc (.cells #[.int .i64 cd, .int .i64 l1, .int .i64 s1, .int .i64 r1, .slice A2 n0 c2] 48)).cell? ⟨W3.heap.size, 4, none⟩ = some (.slice A0 n0 c0) := L_w0.out.cell 4
  go_wp2_with fail
  refine (eqNodeResult_same _ _ _ _ _ _ _ _ _ q3 q0 _ E_h.out.entries (J.out.kept JB.out) (VE2.out.trans VJ.out.symm) (Nat.le_trans nj (by decide))).mono ?_
  rintro e W13 ⟨rfl, b13⟩
  replace JB := Lib.hid (JB.out.trans (b13.mono JB.out.size))
  replace E_g := Lib.hid (E_g.out.kept b13)
  replace E_h := Lib.hid (E_h.out.kept b13)
  have sz_W13 := b13.size
  try simp only [World.size_alloc] at sz_W13
  replace L_a := Lib.hid (L_a.out.kept b13 L_a.out.inside)
  replace L_w0 := Lib.hid (L_w0.out.kept b13 L_w0.out.inside)
  replace L_x := Lib.hid (L_x.out.kept b13 L_x.out.inside)
  replace L_g0 := Lib.hid (L_g0.out.kept b13 L_g0.out.inside)
  replace L_h0 := Lib.hid (L_h0.out.kept b13 L_h0.out.inside)
  replace B := Lib.hid (B.out.trans (b13.mono B.out.size))
  clear b13
  clear c_h00 c_h01 c_h02 c_h03 c_h04
  clear c_w00 c_w01 c_w02 c_w03 c_w04
  have c_g00 : W13.cell? ⟨W5.heap.size, 0, none⟩ = some (.int .i64 cd) := L_g0.out.cell 0
  have c_g01 : W13.cell? ⟨W5.heap.size, 1, none⟩ = some (.int .i64 l1) := L_g0.out.cell 1
  have c_g02 : W13.cell? ⟨W5.heap.size, 2, none⟩ = some (.int .i64 s1) := L_g0.out.cell 2
  have c_g03 : W13.cell? ⟨W5.heap.size, 3, none⟩ = some (.int .i64 r1) := L_g0.out.cell 3
  have c_g04 : W13.cell? ⟨W5.heap.size, 4, none⟩ = some (.slice A1 n0 c1) := L_g0.out.cell 4
  go_wp2_with fail
  refine (heldNodeResult_any 1 _ _ _ _ _ _ _ q2 _ E_g.out.entries MK.out (by decide) (by decide) (by omega) E_g.out.small).mono ?_
  rintro e W14 ⟨rfl, b14⟩
  replace JB := Lib.hid (JB.out.trans (b14.mono JB.out.size))
  replace E_g := Lib.hid (E_g.out.kept b14)
  replace E_h := Lib.hid (E_h.out.kept b14)
  have sz_W14 := b14.size
  try simp only [World.size_alloc] at sz_W14
  replace L_a := Lib.hid (L_a.out.kept b14 L_a.out.inside)
  replace L_w0 := Lib.hid (L_w0.out.kept b14 L_w0.out.inside)
  replace L_x := Lib.hid (L_x.out.kept b14 L_x.out.inside)
  replace L_g0 := Lib.hid (L_g0.out.kept b14 L_g0.out.inside)
  replace L_h0 := Lib.hid (L_h0.out.kept b14 L_h0.out.inside)
  replace B := Lib.hid (B.out.trans (b14.mono B.out.size))
  clear b14
  clear c_g00 c_g01 c_g02 c_g03 c_g04
  go_wp2
  go_ret
  exact ⟨rfl, B.out⟩

end Go.Proofs.Ytblhcnafoejahaa
