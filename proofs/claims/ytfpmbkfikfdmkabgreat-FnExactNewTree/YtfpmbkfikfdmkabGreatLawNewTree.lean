/- Answers that are trees: the walks of the laws' markTree, heldTree, markTreeResult, heldTreeResult, eqTreeResult. -/
import Derived.Test.YtfpmbkfikfdmkabGreatAnswers
import Derived.Test.YtfpmbkfikfdmkabGreatTrees
import Derived.Test.YtfpmbkfikfdmkabGreatImplTree
namespace Go.Proofs.YtfpmbkfikfdmkabGreat
open Go.RowKit

set_option maxHeartbeats 1600000 in
theorem markTree_any (k st d rt rn ct : Int) (n1 c1 n2 c2 n3 c3 : Nat) (A1 A2 A3 : Option Addr) (ns : List NV) (rs : List RV) (w : World) (hS : ArSh w A1 A2 A3 n1 n2 n3 ns rs) (hw : Writ w (arCells A1 A2 A3 n2 ns rs)) (hd : (arCells A1 A2 A3 n2 ns rs).Nodup) (h0 : 0 ≤ k) (h1 : k + (arCells A1 A2 A3 n2 ns rs).length ≤ 4398046511104) :
    Calls Tryz.prog 83 #[.agg #[.int .i64 st, .int .i64 d, .slice A1 n1 c1, .slice A2 n2 c2, .slice A3 n3 c3, .int .i64 rt, .int .i64 rn, .int .i64 ct], .int .i64 k] w fun e w' => e = .returned (.int .i64 (k + (arCells A1 A2 A3 n2 ns rs).length)) ∧ Passed k (arCells A1 A2 A3 n2 ns rs) w w' := by
  have B := Lib.hid (below_alloc w (.cells #[.int .i64 st, .int .i64 d, .slice A1 n1 c1, .slice A2 n2 c2, .slice A3 n3 c3, .int .i64 rt, .int .i64 rn, .int .i64 ct] 61))
  have SH := Lib.hid (hS.kept B.out)
  have HW := Lib.hid (hw.kept B.out)
  have HD := Lib.hid hd
  clear hS hw hd
  go_enter Tryz.func83, Tryz.ntmps83
  go_wp2_with fail
  refine (markArena_any k d n1 c1 n2 c2 n3 c3 A1 A2 A3 ns rs _ SH.out HW.out HD.out h0 h1).mono ?_
  rintro e W1 ⟨rfl, p1⟩
  have P1 := Lib.hid (p1.before B.out)
  clear p1
  go_wp2
  go_ret
  exact ⟨rfl, P1.out⟩

set_option maxHeartbeats 1600000 in
theorem markTreeResult_any (k cd st d rt rn ct : Int) (n1 c1 n2 c2 n3 c3 : Nat) (A1 A2 A3 : Option Addr) (ns : List NV) (rs : List RV) (w : World) (hS : ArSh w A1 A2 A3 n1 n2 n3 ns rs) (hw : Writ w (arCells A1 A2 A3 n2 ns rs)) (hd : (arCells A1 A2 A3 n2 ns rs).Nodup) (h0 : 0 ≤ k) (h1 : k + (arCells A1 A2 A3 n2 ns rs).length ≤ 4398046511104) :
    Calls Tryz.prog 34 #[.agg #[.int .i64 cd, .int .i64 st, .int .i64 d, .slice A1 n1 c1, .slice A2 n2 c2, .slice A3 n3 c3, .int .i64 rt, .int .i64 rn, .int .i64 ct], .int .i64 k] w fun e w' => e = .returned (.int .i64 (k + (arCells A1 A2 A3 n2 ns rs).length)) ∧ Passed k (arCells A1 A2 A3 n2 ns rs) w w' := by
  have B := Lib.hid (below_alloc w (.cells #[.int .i64 cd, .int .i64 st, .int .i64 d, .slice A1 n1 c1, .slice A2 n2 c2, .slice A3 n3 c3, .int .i64 rt, .int .i64 rn, .int .i64 ct] 63))
  have SH := Lib.hid (hS.kept B.out)
  have HW := Lib.hid (hw.kept B.out)
  have HD := Lib.hid hd
  clear hS hw hd
  go_enter Tryz.func34, Tryz.ntmps34
  go_wp2_with fail
  refine (markTree_any k st d rt rn ct n1 c1 n2 c2 n3 c3 A1 A2 A3 ns rs _ SH.out HW.out HD.out h0 h1).mono ?_
  rintro e W1 ⟨rfl, p1⟩
  have P1 := Lib.hid (p1.before B.out)
  clear p1
  go_wp2
  go_ret
  exact ⟨rfl, P1.out⟩

set_option maxHeartbeats 1600000 in
theorem heldTree_any (k st d rt rn ct : Int) (n1 c1 n2 c2 n3 c3 : Nat) (A1 A2 A3 : Option Addr) (ns : List NV) (rs : List RV) (w : World) (hS : ArSh w A1 A2 A3 n1 n2 n3 ns rs) (hm : MarkAt w k (arCells A1 A2 A3 n2 ns rs)) (h0 : 0 ≤ k) (h1 : k + (arCells A1 A2 A3 n2 ns rs).length ≤ 4398046511104) :
    Calls Tryz.prog 84 #[.agg #[.int .i64 st, .int .i64 d, .slice A1 n1 c1, .slice A2 n2 c2, .slice A3 n3 c3, .int .i64 rt, .int .i64 rn, .int .i64 ct], .int .i64 k] w fun e w' => e = .returned (.int .i64 (k + (arCells A1 A2 A3 n2 ns rs).length)) ∧ Below w.heap.size w w' := by
  have B := Lib.hid (below_alloc w (.cells #[.int .i64 st, .int .i64 d, .slice A1 n1 c1, .slice A2 n2 c2, .slice A3 n3 c3, .int .i64 rt, .int .i64 rn, .int .i64 ct] 61))
  have SH := Lib.hid (hS.kept B.out)
  have HM := Lib.hid (hm.kept B.out)
  have g : ¬ (k + ((arCells A1 A2 A3 n2 ns rs).length : Int) < 0) := by omega
  clear hS hm
  go_enter Tryz.func84, Tryz.ntmps84
  go_wp2_with fail
  refine (heldArena_any k d n1 c1 n2 c2 n3 c3 A1 A2 A3 ns rs _ SH.out HM.out h0 h1).mono ?_
  rintro e W1 ⟨rfl, b1⟩
  have B1 := Lib.hid (B.out.trans (b1.mono B.out.size))
  clear b1
  go_wp2
  go_ret
  exact ⟨rfl, B1.out⟩

set_option maxHeartbeats 1600000 in
theorem heldTreeResult_any (k cd st d rt rn ct : Int) (n1 c1 n2 c2 n3 c3 : Nat) (A1 A2 A3 : Option Addr) (ns : List NV) (rs : List RV) (w : World) (hS : ArSh w A1 A2 A3 n1 n2 n3 ns rs) (hm : MarkAt w k (arCells A1 A2 A3 n2 ns rs)) (h0 : 0 ≤ k) (h1 : k + (arCells A1 A2 A3 n2 ns rs).length ≤ 4398046511104) :
    Calls Tryz.prog 35 #[.agg #[.int .i64 cd, .int .i64 st, .int .i64 d, .slice A1 n1 c1, .slice A2 n2 c2, .slice A3 n3 c3, .int .i64 rt, .int .i64 rn, .int .i64 ct], .int .i64 k] w fun e w' => e = .returned (.int .i64 (k + (arCells A1 A2 A3 n2 ns rs).length)) ∧ Below w.heap.size w w' := by
  have B := Lib.hid (below_alloc w (.cells #[.int .i64 cd, .int .i64 st, .int .i64 d, .slice A1 n1 c1, .slice A2 n2 c2, .slice A3 n3 c3, .int .i64 rt, .int .i64 rn, .int .i64 ct] 63))
  have SH := Lib.hid (hS.kept B.out)
  have HM := Lib.hid (hm.kept B.out)
  have g : ¬ (k + ((arCells A1 A2 A3 n2 ns rs).length : Int) < 0) := by omega
  clear hS hm
  go_enter Tryz.func35, Tryz.ntmps35
  go_wp2_with fail
  refine (heldTree_any k st d rt rn ct n1 c1 n2 c2 n3 c3 A1 A2 A3 ns rs _ SH.out HM.out h0 h1).mono ?_
  rintro e W1 ⟨rfl, b1⟩
  have B1 := Lib.hid (B.out.trans (b1.mono B.out.size))
  clear b1
  go_wp2
  go_ret
  exact ⟨rfl, B1.out⟩

set_option maxHeartbeats 1600000 in
theorem eqTreeResult_same (cd st d rt rn ct : Int) (c4 c5 c6 : Nat) (A4 A5 A6 : Option Addr) (ns' : List NV) (rs' : List RV) (A1 A2 A3 : Option Addr) (n1 c1 n2 c2 n3 c3 : Nat) (ns : List NV) (fs : List Int) (rs : List RV) (w : World) (hp : ArenaL w A1 A2 A3 n1 n2 n3 ns fs rs) (hq : ArenaL w A4 A5 A6 n1 n2 n3 ns' fs rs') (hv : ns.map NV.val = ns'.map NV.val) (hr : rs.map RV.val = rs'.map RV.val) :
    Calls Tryz.prog 33 #[.agg #[.int .i64 cd, .int .i64 st, .int .i64 d, .slice A1 n1 c1, .slice A2 n2 c2, .slice A3 n3 c3, .int .i64 rt, .int .i64 rn, .int .i64 ct], .agg #[.int .i64 cd, .int .i64 st, .int .i64 d, .slice A4 n1 c4, .slice A5 n2 c5, .slice A6 n3 c6, .int .i64 rt, .int .i64 rn, .int .i64 ct]] w fun e w' => e = .returned (.bool true) ∧ Below w.heap.size w w' := by
  have e1 : (cd != cd) = false := by simp
  have HP := Lib.hid hp
  have HQ := Lib.hid hq
  have HV := Lib.hid hv
  have HR := Lib.hid hr
  clear hp hq hv hr
  have B := Lib.hid (below_alloc w (.cells #[.int .i64 cd, .int .i64 st, .int .i64 d, .slice A1 n1 c1, .slice A2 n2 c2, .slice A3 n3 c3, .int .i64 rt, .int .i64 rn, .int .i64 ct] 63))
  replace B := Lib.hid (B.out.alloc B.out.size (.cells #[.int .i64 cd, .int .i64 st, .int .i64 d, .slice A4 n1 c4, .slice A5 n2 c5, .slice A6 n3 c6, .int .i64 rt, .int .i64 rn, .int .i64 ct] 63))
  go_enter Tryz.func33, Tryz.ntmps33
  go_wp2_with fail
  refine (eqTree_same st d rt rn ct c4 c5 c6 A4 A5 A6 ns' rs' A1 A2 A3 n1 c1 n2 c2 n3 c3 ns fs rs _ (HP.out.kept B.out) (HQ.out.kept B.out) HV.out HR.out).mono ?_
  rintro e W1 ⟨rfl, b1⟩
  replace B := Lib.hid (B.out.trans (b1.mono B.out.size))
  clear b1
  go_wp2
  go_ret
  exact ⟨rfl, B.out⟩

theorem markAnsT_any (cd st d rt rn ct : Int) (lo hi n1 c1 n2 c2 n3 c3 : Nat) (A1 A2 A3 : Option Addr) (ns : List NV) (fs : List Int) (rs : List RV) (w : World) (h : AnsAr w lo A1 n1 c1 A2 n2 c2 A3 n3 c3 ns fs rs) (hh : ∀ c ∈ arCells A1 A2 A3 n2 ns rs, c.block < hi) {K : Nat} (hK : (arCells A1 A2 A3 n2 ns rs).length = K) :
    Calls Tryz.prog 34 #[.agg #[.int .i64 cd, .int .i64 st, .int .i64 d, .slice A1 n1 c1, .slice A2 n2 c2, .slice A3 n3 c3, .int .i64 rt, .int .i64 rn, .int .i64 ct], .int .i64 1] w fun e w' => e = .returned (.int .i64 (1 + K)) ∧ HeldAr w' 1 A1 n1 A2 n2 A3 n3 ns rs ∧ Turned (fun x => lo ≤ x ∧ x < hi) w w' := by
  have hf := h.few
  refine (markTreeResult_any 1 cd st d rt rn ct n1 c1 n2 c2 n3 c3 A1 A2 A3 ns rs w h.sh h.writ h.nd (by decide) (by omega)).mono fun e w' hp => ?_
  obtain ⟨h1, h2⟩ := hp
  refine ⟨by rw [h1, hK], ⟨h.sh.passed2 h2 h.writ, h2.M⟩, h2.T.wider ?_⟩
  rintro b ⟨c, hc, rfl⟩
  exact ⟨(h.each c hc).2.2.1, hh c hc⟩
theorem heldAnsT_any (cd st d rt rn ct : Int) (n1 c1 n2 c2 n3 c3 : Nat) (A1 A2 A3 : Option Addr) (ns : List NV) (rs : List RV) (w : World) (h : HeldAr w 1 A1 n1 A2 n2 A3 n3 ns rs) {K : Nat} (hK : (arCells A1 A2 A3 n2 ns rs).length = K) (hf : K ≤ 17179869184) :
    Calls Tryz.prog 35 #[.agg #[.int .i64 cd, .int .i64 st, .int .i64 d, .slice A1 n1 c1, .slice A2 n2 c2, .slice A3 n3 c3, .int .i64 rt, .int .i64 rn, .int .i64 ct], .int .i64 1] w fun e w' => e = .returned (.int .i64 (1 + K)) ∧ Below w.heap.size w w' := by
  refine (heldTreeResult_any 1 cd st d rt rn ct n1 c1 n2 c2 n3 c3 A1 A2 A3 ns rs w h.S h.M (by decide) (by omega)).mono fun e w' hp => ?_
  obtain ⟨h1, h2⟩ := hp
  exact ⟨by rw [h1, hK], h2⟩

end Go.Proofs.YtfpmbkfikfdmkabGreat

/- FnExactNewTree: for all numbers impl.NewTree answers as the model does and answers in memory of its own. No condition. -/
namespace Go.Proofs.YtfpmbkfikfdmkabGreat
open Go.RowKit

theorem specNewTree_is (d st r : Int) (w : World) {cd S D : Int} {V : List NVal} {F : List Int} (hR : newTreeR d st r = (cd, S, D, V, F)) : Calls Tryz.prog 31 #[.int .i64 d, .int .i64 st, .int .i64 r] w fun e w' => ∃ A1 c1 A2 c2 ns, e = .returned (.agg #[.int .i64 cd, .int .i64 S, .int .i64 D, .slice A1 V.length c1, .slice A2 F.length c2, .slice none 0 0, .int .i64 0, .int .i64 0, .int .i64 0]) ∧ SpA w' w.heap.size A1 V.length c1 A2 F.length c2 none 0 0 ns F [] ∧ ns.map NV.val = V ∧ Below w.heap.size w w' := by
  have h0 := specNewTree_any d st r w
  rw [hR] at h0
  exact h0

theorem implNewTree_is (d st r : Int) (w : World) {cd S D : Int} {V : List NVal} {F : List Int} (hR : newTreeR d st r = (cd, S, D, V, F)) : Calls Tryz.prog 32 #[.int .i64 d, .int .i64 st, .int .i64 r] w fun e w' => ∃ A1 c1 A2 c2 A3 c3 ns rs, e = .returned (.agg #[.int .i64 cd, .int .i64 S, .int .i64 D, .slice A1 V.length c1, .slice A2 F.length c2, .slice A3 0 c3, .int .i64 0, .int .i64 0, .int .i64 0]) ∧ AnsAr w' w.heap.size A1 V.length c1 A2 F.length c2 A3 0 c3 ns F rs ∧ ns.map NV.val = V ∧ rs = [] ∧ Below w.heap.size w w' := by
  have h0 := implNewTree_any d st r w
  rw [hR] at h0
  exact h0

set_option maxRecDepth 100000 in
set_option maxHeartbeats 6400000 in
theorem lawNewTree_walk (x0 : Int) (x1 : Int) (x2 : Int) (w : World)  :
    Calls Tryz.prog 7 #[.int .i64 x0, .int .i64 x1, .int .i64 x2] w fun e w' => e = .returned (.bool true) ∧ Below w.heap.size w w' := by
  obtain ⟨⟨cd, S, D, V, F⟩, hR⟩ : ∃ R, newTreeR x0 x1 x2 = R := ⟨_, rfl⟩
  have HR := Lib.hid hR
  clear hR
  have B := Lib.hid (Below.refl w.heap.size w)
  go_enter Tryz.func7, Tryz.ntmps7
  have szB := B.out.size
  go_wp2_with fail
  refine (specNewTree_is x0 x1 x2 _ HR.out).mono ?_
  rintro e W1 ⟨Aw, cw, Bw, dw, qw, rfl, hj, vj, b1⟩
  have sz_W1 := b1.size
  try simp only [World.size_alloc] at sz_W1
  replace B := Lib.hid (B.out.trans (b1.mono B.out.size))
  clear b1
  have J := Lib.hid hj.arena
  have VJ := Lib.hid vj
  clear hj vj
  have JB := Lib.hid (Below.refl W1.heap.size W1)
  replace JB := Lib.hid (JB.out.alloc JB.out.size (.cells #[.int .i64 cd, .int .i64 S, .int .i64 D, .slice Aw V.length cw, .slice Bw F.length dw, .slice none 0 0, .int .i64 0, .int .i64 0, .int .i64 0] 63))
  have L_w0 := Lib.hid (Lies.new W1 63 #[.int .i64 cd, .int .i64 S, .int .i64 D, .slice Aw V.length cw, .slice Bw F.length dw, .slice none 0 0, .int .i64 0, .int .i64 0, .int .i64 0])
  replace B := Lib.hid (B.out.alloc B.out.size (.cells #[.int .i64 cd, .int .i64 S, .int .i64 D, .slice Aw V.length cw, .slice Bw F.length dw, .slice none 0 0, .int .i64 0, .int .i64 0, .int .i64 0] 63))
  go_wp2_with fail
  refine (implNewTree_is x0 x1 x2 _ HR.out).mono ?_
  rintro e W2 ⟨Ag, cg, Bg, dg, Cg, fg, qg, tg, rfl, he, ve, ue, b2⟩
  have sz_W2 := b2.size
  try simp only [World.size_alloc] at sz_W2
  replace L_w0 := Lib.hid (L_w0.out.kept b2 L_w0.out.inside)
  replace JB := Lib.hid (JB.out.trans (b2.mono JB.out.size))
  replace B := Lib.hid (B.out.trans (b2.mono B.out.size))
  clear b2
  try simp only [World.size_alloc] at he
  have E_g := Lib.hid he
  have VE_g := Lib.hid ve
  have UE_g : Hid (tg.map RV.val = ([] : List RV).map RV.val) := Lib.hid (by rw [ue])
  have HI_g := Lib.hid (fun (c : Addr) (hc : c ∈ arCells Ag Bg Cg F.length qg tg) => (he.each c hc).2.2.2)
  have hKf := he.few
  obtain ⟨K, hK⟩ : ∃ K, (arCells Ag Bg Cg F.length qg tg).length = K := ⟨_, rfl⟩
  rw [hK] at hKf
  have HK := Lib.hid hK
  clear hK
  clear he ve ue
  replace L_w0 := Lib.hid (L_w0.out.alloc (.cells #[.int .i64 cd, .int .i64 S, .int .i64 D, .slice Ag V.length cg, .slice Bg F.length dg, .slice Cg 0 fg, .int .i64 0, .int .i64 0, .int .i64 0] 63))
  replace E_g := Lib.hid (E_g.out.kept (below_alloc _ (.cells #[.int .i64 cd, .int .i64 S, .int .i64 D, .slice Ag V.length cg, .slice Bg F.length dg, .slice Cg 0 fg, .int .i64 0, .int .i64 0, .int .i64 0] 63)))
  replace JB := Lib.hid (JB.out.alloc JB.out.size (.cells #[.int .i64 cd, .int .i64 S, .int .i64 D, .slice Ag V.length cg, .slice Bg F.length dg, .slice Cg 0 fg, .int .i64 0, .int .i64 0, .int .i64 0] 63))
  have L_g0 := Lib.hid (Lies.new W2 63 #[.int .i64 cd, .int .i64 S, .int .i64 D, .slice Ag V.length cg, .slice Bg F.length dg, .slice Cg 0 fg, .int .i64 0, .int .i64 0, .int .i64 0])
  replace B := Lib.hid (B.out.alloc B.out.size (.cells #[.int .i64 cd, .int .i64 S, .int .i64 D, .slice Ag V.length cg, .slice Bg F.length dg, .slice Cg 0 fg, .int .i64 0, .int .i64 0, .int .i64 0] 63))
  have c_w00 : (W2.alloc (.cells #[.int .i64 cd, .int .i64 S, .int .i64 D, .slice Ag V.length cg, .slice Bg F.length dg, .slice Cg 0 fg, .int .i64 0, .int .i64 0, .int .i64 0] 63)).cell? ⟨W1.heap.size, 0, none⟩ = some (.int .i64 cd) := L_w0.out.cell 0
  have c_w01 : (W2.alloc (.cells #[.int .i64 cd, .int .i64 S, .int .i64 D, .slice Ag V.length cg, .slice Bg F.length dg, .slice Cg 0 fg, .int .i64 0, .int .i64 0, .int .i64 0] 63)).cell? ⟨W1.heap.size, 1, none⟩ = some (.int .i64 S) := L_w0.out.cell 1
  have c_w02 : (W2.alloc (.cells #[.int .i64 cd, .int .i64 S, .int .i64 D, .slice Ag V.length cg, .slice Bg F.length dg, .slice Cg 0 fg, .int .i64 0, .int .i64 0, .int .i64 0] 63)).cell? ⟨W1.heap.size, 2, none⟩ = some (.int .i64 D) := L_w0.out.cell 2
  have c_w03 : (W2.alloc (.cells #[.int .i64 cd, .int .i64 S, .int .i64 D, .slice Ag V.length cg, .slice Bg F.length dg, .slice Cg 0 fg, .int .i64 0, .int .i64 0, .int .i64 0] 63)).cell? ⟨W1.heap.size, 3, none⟩ = some (.slice Aw V.length cw) := L_w0.out.cell 3
  have c_w04 : (W2.alloc (.cells #[.int .i64 cd, .int .i64 S, .int .i64 D, .slice Ag V.length cg, .slice Bg F.length dg, .slice Cg 0 fg, .int .i64 0, .int .i64 0, .int .i64 0] 63)).cell? ⟨W1.heap.size, 4, none⟩ = some (.slice Bw F.length dw) := L_w0.out.cell 4
  have c_w05 : (W2.alloc (.cells #[.int .i64 cd, .int .i64 S, .int .i64 D, .slice Ag V.length cg, .slice Bg F.length dg, .slice Cg 0 fg, .int .i64 0, .int .i64 0, .int .i64 0] 63)).cell? ⟨W1.heap.size, 5, none⟩ = some (.slice none 0 0) := L_w0.out.cell 5
  have c_w06 : (W2.alloc (.cells #[.int .i64 cd, .int .i64 S, .int .i64 D, .slice Ag V.length cg, .slice Bg F.length dg, .slice Cg 0 fg, .int .i64 0, .int .i64 0, .int .i64 0] 63)).cell? ⟨W1.heap.size, 6, none⟩ = some (.int .i64 0) := L_w0.out.cell 6
  have c_w07 : (W2.alloc (.cells #[.int .i64 cd, .int .i64 S, .int .i64 D, .slice Ag V.length cg, .slice Bg F.length dg, .slice Cg 0 fg, .int .i64 0, .int .i64 0, .int .i64 0] 63)).cell? ⟨W1.heap.size, 7, none⟩ = some (.int .i64 0) := L_w0.out.cell 7
  have c_w08 : (W2.alloc (.cells #[.int .i64 cd, .int .i64 S, .int .i64 D, .slice Ag V.length cg, .slice Bg F.length dg, .slice Cg 0 fg, .int .i64 0, .int .i64 0, .int .i64 0] 63)).cell? ⟨W1.heap.size, 8, none⟩ = some (.int .i64 0) := L_w0.out.cell 8
  have c_g00 : (W2.alloc (.cells #[.int .i64 cd, .int .i64 S, .int .i64 D, .slice Ag V.length cg, .slice Bg F.length dg, .slice Cg 0 fg, .int .i64 0, .int .i64 0, .int .i64 0] 63)).cell? ⟨W2.heap.size, 0, none⟩ = some (.int .i64 cd) := L_g0.out.cell 0
  have c_g01 : (W2.alloc (.cells #[.int .i64 cd, .int .i64 S, .int .i64 D, .slice Ag V.length cg, .slice Bg F.length dg, .slice Cg 0 fg, .int .i64 0, .int .i64 0, .int .i64 0] 63)).cell? ⟨W2.heap.size, 1, none⟩ = some (.int .i64 S) := L_g0.out.cell 1
  have c_g02 : (W2.alloc (.cells #[.int .i64 cd, .int .i64 S, .int .i64 D, .slice Ag V.length cg, .slice Bg F.length dg, .slice Cg 0 fg, .int .i64 0, .int .i64 0, .int .i64 0] 63)).cell? ⟨W2.heap.size, 2, none⟩ = some (.int .i64 D) := L_g0.out.cell 2
  have c_g03 : (W2.alloc (.cells #[.int .i64 cd, .int .i64 S, .int .i64 D, .slice Ag V.length cg, .slice Bg F.length dg, .slice Cg 0 fg, .int .i64 0, .int .i64 0, .int .i64 0] 63)).cell? ⟨W2.heap.size, 3, none⟩ = some (.slice Ag V.length cg) := L_g0.out.cell 3
  have c_g04 : (W2.alloc (.cells #[.int .i64 cd, .int .i64 S, .int .i64 D, .slice Ag V.length cg, .slice Bg F.length dg, .slice Cg 0 fg, .int .i64 0, .int .i64 0, .int .i64 0] 63)).cell? ⟨W2.heap.size, 4, none⟩ = some (.slice Bg F.length dg) := L_g0.out.cell 4
  have c_g05 : (W2.alloc (.cells #[.int .i64 cd, .int .i64 S, .int .i64 D, .slice Ag V.length cg, .slice Bg F.length dg, .slice Cg 0 fg, .int .i64 0, .int .i64 0, .int .i64 0] 63)).cell? ⟨W2.heap.size, 5, none⟩ = some (.slice Cg 0 fg) := L_g0.out.cell 5
  have c_g06 : (W2.alloc (.cells #[.int .i64 cd, .int .i64 S, .int .i64 D, .slice Ag V.length cg, .slice Bg F.length dg, .slice Cg 0 fg, .int .i64 0, .int .i64 0, .int .i64 0] 63)).cell? ⟨W2.heap.size, 6, none⟩ = some (.int .i64 0) := L_g0.out.cell 6
  have c_g07 : (W2.alloc (.cells #[.int .i64 cd, .int .i64 S, .int .i64 D, .slice Ag V.length cg, .slice Bg F.length dg, .slice Cg 0 fg, .int .i64 0, .int .i64 0, .int .i64 0] 63)).cell? ⟨W2.heap.size, 7, none⟩ = some (.int .i64 0) := L_g0.out.cell 7
  have c_g08 : (W2.alloc (.cells #[.int .i64 cd, .int .i64 S, .int .i64 D, .slice Ag V.length cg, .slice Bg F.length dg, .slice Cg 0 fg, .int .i64 0, .int .i64 0, .int .i64 0] 63)).cell? ⟨W2.heap.size, 8, none⟩ = some (.int .i64 0) := L_g0.out.cell 8
  go_wp2_with fail
  clear c_w00 c_w01 c_w02 c_w03 c_w04 c_w05 c_w06 c_w07 c_w08
  clear c_g00 c_g01 c_g02 c_g03 c_g04 c_g05 c_g06 c_g07 c_g08
  refine (eqTreeResult_same _ _ _ _ _ _ _ _ _ _ _ _ qw [] _ _ _ _ _ _ _ _ _ qg F tg _ E_g.out.arena (J.out.kept JB.out) (VE_g.out.trans VJ.out.symm) UE_g.out).mono ?_
  rintro e W3 ⟨rfl, b3⟩
  have sz_W3 := b3.size
  try simp only [World.size_alloc] at sz_W3
  replace L_w0 := Lib.hid (L_w0.out.kept b3 L_w0.out.inside)
  replace L_g0 := Lib.hid (L_g0.out.kept b3 L_g0.out.inside)
  replace E_g := Lib.hid (E_g.out.kept b3)
  replace JB := Lib.hid (JB.out.trans (b3.mono JB.out.size))
  replace B := Lib.hid (B.out.trans (b3.mono B.out.size))
  clear b3
  have c_g00 : W3.cell? ⟨W2.heap.size, 0, none⟩ = some (.int .i64 cd) := L_g0.out.cell 0
  have c_g01 : W3.cell? ⟨W2.heap.size, 1, none⟩ = some (.int .i64 S) := L_g0.out.cell 1
  have c_g02 : W3.cell? ⟨W2.heap.size, 2, none⟩ = some (.int .i64 D) := L_g0.out.cell 2
  have c_g03 : W3.cell? ⟨W2.heap.size, 3, none⟩ = some (.slice Ag V.length cg) := L_g0.out.cell 3
  have c_g04 : W3.cell? ⟨W2.heap.size, 4, none⟩ = some (.slice Bg F.length dg) := L_g0.out.cell 4
  have c_g05 : W3.cell? ⟨W2.heap.size, 5, none⟩ = some (.slice Cg 0 fg) := L_g0.out.cell 5
  have c_g06 : W3.cell? ⟨W2.heap.size, 6, none⟩ = some (.int .i64 0) := L_g0.out.cell 6
  have c_g07 : W3.cell? ⟨W2.heap.size, 7, none⟩ = some (.int .i64 0) := L_g0.out.cell 7
  have c_g08 : W3.cell? ⟨W2.heap.size, 8, none⟩ = some (.int .i64 0) := L_g0.out.cell 8
  go_wp2_with fail
  clear c_g00 c_g01 c_g02 c_g03 c_g04 c_g05 c_g06 c_g07 c_g08
  refine (markAnsT_any _ _ _ _ _ _ _ W2.heap.size _ _ _ _ _ _ _ _ _ qg F tg _ E_g.out HI_g.out HK.out).mono ?_
  rintro e W4 ⟨rfl, em, t4⟩
  have sz_W4 := t4.2.1
  try simp only [World.size_alloc] at sz_W4
  replace L_w0 := Lib.hid (t4.lies L_w0.out (fun hx => by have h1 := hx.1; have h2 := hx.2; (try simp only [World.size_alloc] at h1 h2); omega))
  replace L_g0 := Lib.hid (t4.lies L_g0.out (fun hx => by have h1 := hx.1; have h2 := hx.2; (try simp only [World.size_alloc] at h1 h2); omega))
  replace JB := Lib.hid (t4.below JB.out (by intro x hx; have h1 := hx.1; have h2 := hx.2; (try simp only [World.size_alloc] at h1 h2); omega))
  replace B := Lib.hid (t4.below B.out (by intro x hx; show w.heap.size ≤ x; have h1 := hx.1; have h2 := hx.2; (try simp only [World.size_alloc] at h1 h2); omega))
  replace E_g := Lib.hid em
  clear em
  have qpos : ¬ ((1 : Int) + (K : Int) < 0) := by omega
  have qeq : (((1 : Int) + (K : Int)) != (1 + (K : Int))) = false := by simp
  clear t4
  have c_g00 : W4.cell? ⟨W2.heap.size, 0, none⟩ = some (.int .i64 cd) := L_g0.out.cell 0
  have c_g01 : W4.cell? ⟨W2.heap.size, 1, none⟩ = some (.int .i64 S) := L_g0.out.cell 1
  have c_g02 : W4.cell? ⟨W2.heap.size, 2, none⟩ = some (.int .i64 D) := L_g0.out.cell 2
  have c_g03 : W4.cell? ⟨W2.heap.size, 3, none⟩ = some (.slice Ag V.length cg) := L_g0.out.cell 3
  have c_g04 : W4.cell? ⟨W2.heap.size, 4, none⟩ = some (.slice Bg F.length dg) := L_g0.out.cell 4
  have c_g05 : W4.cell? ⟨W2.heap.size, 5, none⟩ = some (.slice Cg 0 fg) := L_g0.out.cell 5
  have c_g06 : W4.cell? ⟨W2.heap.size, 6, none⟩ = some (.int .i64 0) := L_g0.out.cell 6
  have c_g07 : W4.cell? ⟨W2.heap.size, 7, none⟩ = some (.int .i64 0) := L_g0.out.cell 7
  have c_g08 : W4.cell? ⟨W2.heap.size, 8, none⟩ = some (.int .i64 0) := L_g0.out.cell 8
  go_wp2_with fail
  clear c_g00 c_g01 c_g02 c_g03 c_g04 c_g05 c_g06 c_g07 c_g08
  refine (heldAnsT_any _ _ _ _ _ _ _ _ _ _ _ _ _ _ _ qg tg _ E_g.out HK.out hKf).mono ?_
  rintro e W5 ⟨rfl, b5⟩
  have sz_W5 := b5.size
  try simp only [World.size_alloc] at sz_W5
  replace L_w0 := Lib.hid (L_w0.out.kept b5 L_w0.out.inside)
  replace L_g0 := Lib.hid (L_g0.out.kept b5 L_g0.out.inside)
  replace E_g := Lib.hid (E_g.out.kept b5)
  replace JB := Lib.hid (JB.out.trans (b5.mono JB.out.size))
  replace B := Lib.hid (B.out.trans (b5.mono B.out.size))
  clear b5
  go_wp2_with fail
  refine (implNewTree_is x0 x1 x2 _ HR.out).mono ?_
  rintro e W6 ⟨Ah, ch, Bh, dh, Ch, fh, qh, th, rfl, he, ve, ue, b6⟩
  have sz_W6 := b6.size
  try simp only [World.size_alloc] at sz_W6
  replace L_w0 := Lib.hid (L_w0.out.kept b6 L_w0.out.inside)
  replace L_g0 := Lib.hid (L_g0.out.kept b6 L_g0.out.inside)
  replace E_g := Lib.hid (E_g.out.kept b6)
  replace JB := Lib.hid (JB.out.trans (b6.mono JB.out.size))
  replace B := Lib.hid (B.out.trans (b6.mono B.out.size))
  clear b6
  try simp only [World.size_alloc] at he
  have E_h := Lib.hid he
  have VE_h := Lib.hid ve
  have UE_h : Hid (th.map RV.val = ([] : List RV).map RV.val) := Lib.hid (by rw [ue])
  clear he ve ue
  replace L_w0 := Lib.hid (L_w0.out.alloc (.cells #[.int .i64 cd, .int .i64 S, .int .i64 D, .slice Ah V.length ch, .slice Bh F.length dh, .slice Ch 0 fh, .int .i64 0, .int .i64 0, .int .i64 0] 63))
  replace L_g0 := Lib.hid (L_g0.out.alloc (.cells #[.int .i64 cd, .int .i64 S, .int .i64 D, .slice Ah V.length ch, .slice Bh F.length dh, .slice Ch 0 fh, .int .i64 0, .int .i64 0, .int .i64 0] 63))
  replace E_g := Lib.hid (E_g.out.kept (below_alloc _ (.cells #[.int .i64 cd, .int .i64 S, .int .i64 D, .slice Ah V.length ch, .slice Bh F.length dh, .slice Ch 0 fh, .int .i64 0, .int .i64 0, .int .i64 0] 63)))
  replace E_h := Lib.hid (E_h.out.kept (below_alloc _ (.cells #[.int .i64 cd, .int .i64 S, .int .i64 D, .slice Ah V.length ch, .slice Bh F.length dh, .slice Ch 0 fh, .int .i64 0, .int .i64 0, .int .i64 0] 63)))
  replace JB := Lib.hid (JB.out.alloc JB.out.size (.cells #[.int .i64 cd, .int .i64 S, .int .i64 D, .slice Ah V.length ch, .slice Bh F.length dh, .slice Ch 0 fh, .int .i64 0, .int .i64 0, .int .i64 0] 63))
  have L_h0 := Lib.hid (Lies.new W6 63 #[.int .i64 cd, .int .i64 S, .int .i64 D, .slice Ah V.length ch, .slice Bh F.length dh, .slice Ch 0 fh, .int .i64 0, .int .i64 0, .int .i64 0])
  replace B := Lib.hid (B.out.alloc B.out.size (.cells #[.int .i64 cd, .int .i64 S, .int .i64 D, .slice Ah V.length ch, .slice Bh F.length dh, .slice Ch 0 fh, .int .i64 0, .int .i64 0, .int .i64 0] 63))
  have c_h00 : (W6.alloc (.cells #[.int .i64 cd, .int .i64 S, .int .i64 D, .slice Ah V.length ch, .slice Bh F.length dh, .slice Ch 0 fh, .int .i64 0, .int .i64 0, .int .i64 0] 63)).cell? ⟨W6.heap.size, 0, none⟩ = some (.int .i64 cd) := L_h0.out.cell 0
  have c_h01 : (W6.alloc (.cells #[.int .i64 cd, .int .i64 S, .int .i64 D, .slice Ah V.length ch, .slice Bh F.length dh, .slice Ch 0 fh, .int .i64 0, .int .i64 0, .int .i64 0] 63)).cell? ⟨W6.heap.size, 1, none⟩ = some (.int .i64 S) := L_h0.out.cell 1
  have c_h02 : (W6.alloc (.cells #[.int .i64 cd, .int .i64 S, .int .i64 D, .slice Ah V.length ch, .slice Bh F.length dh, .slice Ch 0 fh, .int .i64 0, .int .i64 0, .int .i64 0] 63)).cell? ⟨W6.heap.size, 2, none⟩ = some (.int .i64 D) := L_h0.out.cell 2
  have c_h03 : (W6.alloc (.cells #[.int .i64 cd, .int .i64 S, .int .i64 D, .slice Ah V.length ch, .slice Bh F.length dh, .slice Ch 0 fh, .int .i64 0, .int .i64 0, .int .i64 0] 63)).cell? ⟨W6.heap.size, 3, none⟩ = some (.slice Ah V.length ch) := L_h0.out.cell 3
  have c_h04 : (W6.alloc (.cells #[.int .i64 cd, .int .i64 S, .int .i64 D, .slice Ah V.length ch, .slice Bh F.length dh, .slice Ch 0 fh, .int .i64 0, .int .i64 0, .int .i64 0] 63)).cell? ⟨W6.heap.size, 4, none⟩ = some (.slice Bh F.length dh) := L_h0.out.cell 4
  have c_h05 : (W6.alloc (.cells #[.int .i64 cd, .int .i64 S, .int .i64 D, .slice Ah V.length ch, .slice Bh F.length dh, .slice Ch 0 fh, .int .i64 0, .int .i64 0, .int .i64 0] 63)).cell? ⟨W6.heap.size, 5, none⟩ = some (.slice Ch 0 fh) := L_h0.out.cell 5
  have c_h06 : (W6.alloc (.cells #[.int .i64 cd, .int .i64 S, .int .i64 D, .slice Ah V.length ch, .slice Bh F.length dh, .slice Ch 0 fh, .int .i64 0, .int .i64 0, .int .i64 0] 63)).cell? ⟨W6.heap.size, 6, none⟩ = some (.int .i64 0) := L_h0.out.cell 6
  have c_h07 : (W6.alloc (.cells #[.int .i64 cd, .int .i64 S, .int .i64 D, .slice Ah V.length ch, .slice Bh F.length dh, .slice Ch 0 fh, .int .i64 0, .int .i64 0, .int .i64 0] 63)).cell? ⟨W6.heap.size, 7, none⟩ = some (.int .i64 0) := L_h0.out.cell 7
  have c_h08 : (W6.alloc (.cells #[.int .i64 cd, .int .i64 S, .int .i64 D, .slice Ah V.length ch, .slice Bh F.length dh, .slice Ch 0 fh, .int .i64 0, .int .i64 0, .int .i64 0] 63)).cell? ⟨W6.heap.size, 8, none⟩ = some (.int .i64 0) := L_h0.out.cell 8
  have c_w00 : (W6.alloc (.cells #[.int .i64 cd, .int .i64 S, .int .i64 D, .slice Ah V.length ch, .slice Bh F.length dh, .slice Ch 0 fh, .int .i64 0, .int .i64 0, .int .i64 0] 63)).cell? ⟨W1.heap.size, 0, none⟩ = some (.int .i64 cd) := L_w0.out.cell 0
  have c_w01 : (W6.alloc (.cells #[.int .i64 cd, .int .i64 S, .int .i64 D, .slice Ah V.length ch, .slice Bh F.length dh, .slice Ch 0 fh, .int .i64 0, .int .i64 0, .int .i64 0] 63)).cell? ⟨W1.heap.size, 1, none⟩ = some (.int .i64 S) := L_w0.out.cell 1
  have c_w02 : (W6.alloc (.cells #[.int .i64 cd, .int .i64 S, .int .i64 D, .slice Ah V.length ch, .slice Bh F.length dh, .slice Ch 0 fh, .int .i64 0, .int .i64 0, .int .i64 0] 63)).cell? ⟨W1.heap.size, 2, none⟩ = some (.int .i64 D) := L_w0.out.cell 2
  have c_w03 : (W6.alloc (.cells #[.int .i64 cd, .int .i64 S, .int .i64 D, .slice Ah V.length ch, .slice Bh F.length dh, .slice Ch 0 fh, .int .i64 0, .int .i64 0, .int .i64 0] 63)).cell? ⟨W1.heap.size, 3, none⟩ = some (.slice Aw V.length cw) := L_w0.out.cell 3
  have c_w04 : (W6.alloc (.cells #[.int .i64 cd, .int .i64 S, .int .i64 D, .slice Ah V.length ch, .slice Bh F.length dh, .slice Ch 0 fh, .int .i64 0, .int .i64 0, .int .i64 0] 63)).cell? ⟨W1.heap.size, 4, none⟩ = some (.slice Bw F.length dw) := L_w0.out.cell 4
  have c_w05 : (W6.alloc (.cells #[.int .i64 cd, .int .i64 S, .int .i64 D, .slice Ah V.length ch, .slice Bh F.length dh, .slice Ch 0 fh, .int .i64 0, .int .i64 0, .int .i64 0] 63)).cell? ⟨W1.heap.size, 5, none⟩ = some (.slice none 0 0) := L_w0.out.cell 5
  have c_w06 : (W6.alloc (.cells #[.int .i64 cd, .int .i64 S, .int .i64 D, .slice Ah V.length ch, .slice Bh F.length dh, .slice Ch 0 fh, .int .i64 0, .int .i64 0, .int .i64 0] 63)).cell? ⟨W1.heap.size, 6, none⟩ = some (.int .i64 0) := L_w0.out.cell 6
  have c_w07 : (W6.alloc (.cells #[.int .i64 cd, .int .i64 S, .int .i64 D, .slice Ah V.length ch, .slice Bh F.length dh, .slice Ch 0 fh, .int .i64 0, .int .i64 0, .int .i64 0] 63)).cell? ⟨W1.heap.size, 7, none⟩ = some (.int .i64 0) := L_w0.out.cell 7
  have c_w08 : (W6.alloc (.cells #[.int .i64 cd, .int .i64 S, .int .i64 D, .slice Ah V.length ch, .slice Bh F.length dh, .slice Ch 0 fh, .int .i64 0, .int .i64 0, .int .i64 0] 63)).cell? ⟨W1.heap.size, 8, none⟩ = some (.int .i64 0) := L_w0.out.cell 8
  go_wp2_with fail
  clear c_h00 c_h01 c_h02 c_h03 c_h04 c_h05 c_h06 c_h07 c_h08
  clear c_w00 c_w01 c_w02 c_w03 c_w04 c_w05 c_w06 c_w07 c_w08
  refine (eqTreeResult_same _ _ _ _ _ _ _ _ _ _ _ _ qw [] _ _ _ _ _ _ _ _ _ qh F th _ E_h.out.arena (J.out.kept JB.out) (VE_h.out.trans VJ.out.symm) UE_h.out).mono ?_
  rintro e W7 ⟨rfl, b7⟩
  have sz_W7 := b7.size
  try simp only [World.size_alloc] at sz_W7
  replace L_w0 := Lib.hid (L_w0.out.kept b7 L_w0.out.inside)
  replace L_g0 := Lib.hid (L_g0.out.kept b7 L_g0.out.inside)
  replace L_h0 := Lib.hid (L_h0.out.kept b7 L_h0.out.inside)
  replace E_g := Lib.hid (E_g.out.kept b7)
  replace E_h := Lib.hid (E_h.out.kept b7)
  replace JB := Lib.hid (JB.out.trans (b7.mono JB.out.size))
  replace B := Lib.hid (B.out.trans (b7.mono B.out.size))
  clear b7
  have c_g00 : W7.cell? ⟨W2.heap.size, 0, none⟩ = some (.int .i64 cd) := L_g0.out.cell 0
  have c_g01 : W7.cell? ⟨W2.heap.size, 1, none⟩ = some (.int .i64 S) := L_g0.out.cell 1
  have c_g02 : W7.cell? ⟨W2.heap.size, 2, none⟩ = some (.int .i64 D) := L_g0.out.cell 2
  have c_g03 : W7.cell? ⟨W2.heap.size, 3, none⟩ = some (.slice Ag V.length cg) := L_g0.out.cell 3
  have c_g04 : W7.cell? ⟨W2.heap.size, 4, none⟩ = some (.slice Bg F.length dg) := L_g0.out.cell 4
  have c_g05 : W7.cell? ⟨W2.heap.size, 5, none⟩ = some (.slice Cg 0 fg) := L_g0.out.cell 5
  have c_g06 : W7.cell? ⟨W2.heap.size, 6, none⟩ = some (.int .i64 0) := L_g0.out.cell 6
  have c_g07 : W7.cell? ⟨W2.heap.size, 7, none⟩ = some (.int .i64 0) := L_g0.out.cell 7
  have c_g08 : W7.cell? ⟨W2.heap.size, 8, none⟩ = some (.int .i64 0) := L_g0.out.cell 8
  go_wp2_with fail
  clear c_g00 c_g01 c_g02 c_g03 c_g04 c_g05 c_g06 c_g07 c_g08
  refine (heldAnsT_any _ _ _ _ _ _ _ _ _ _ _ _ _ _ _ qg tg _ E_g.out HK.out hKf).mono ?_
  rintro e W8 ⟨rfl, b8⟩
  have sz_W8 := b8.size
  try simp only [World.size_alloc] at sz_W8
  replace L_w0 := Lib.hid (L_w0.out.kept b8 L_w0.out.inside)
  replace L_g0 := Lib.hid (L_g0.out.kept b8 L_g0.out.inside)
  replace L_h0 := Lib.hid (L_h0.out.kept b8 L_h0.out.inside)
  replace E_g := Lib.hid (E_g.out.kept b8)
  replace E_h := Lib.hid (E_h.out.kept b8)
  replace JB := Lib.hid (JB.out.trans (b8.mono JB.out.size))
  replace B := Lib.hid (B.out.trans (b8.mono B.out.size))
  clear b8
  go_wp2
  go_ret
  exact ⟨rfl, B.out⟩

end Go.Proofs.YtfpmbkfikfdmkabGreat
