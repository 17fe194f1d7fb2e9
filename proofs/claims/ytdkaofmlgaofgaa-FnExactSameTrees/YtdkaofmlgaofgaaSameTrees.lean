/- The walks of spec.SameTrees and impl.SameTrees. -/
import Derived.Test.YtdkaofmlgaofgaaSameArenas
import Derived.Test.YtdkaofmlgaofgaaTrees
namespace Go.Proofs.Ytdkaofmlgaofgaa
open Go.RowKit

/-- Both trees are the same. -/
def sameT (st st' rt rt' rn rn' ct ct' : Int) (s : Bool) : Bool := (st == st') && (rt == rt') && (rn == rn') && (ct == ct') && s

set_option maxHeartbeats 1600000 in
theorem implSameTrees_is (v : Bool) (st d rt rn ct st' d' rt' rn' ct' : Int) (A1 A2 A3 A4 A5 A6 : Option Addr) (n1 c1 n2 c2 n3 c3 n4 c4 n5 c5 n6 c6 : Nat) (ns ns' : List NV) (fs fs' : List Int) (rs rs' : List RV) (w : World) (hv : sameT st st' rt rt' rn rn' ct ct' (sameA d d' ns ns' fs fs' rs rs') = v) (hp : ArenaL w A1 A2 A3 n1 n2 n3 ns fs rs) (hq : ArenaL w A4 A5 A6 n4 n5 n6 ns' fs' rs') :
    Calls Try.prog 7 #[.agg #[.int .i64 st, .int .i64 d, .slice A1 n1 c1, .slice A2 n2 c2, .slice A3 n3 c3, .int .i64 rt, .int .i64 rn, .int .i64 ct], .agg #[.int .i64 st', .int .i64 d', .slice A4 n4 c4, .slice A5 n5 c5, .slice A6 n6 c6, .int .i64 rt', .int .i64 rn', .int .i64 ct']] w fun e w' => e = .returned (.bool v) ∧ Below w.heap.size w w' := by
  have HV := Lib.hid hv
  have HP := Lib.hid hp
  have HQ := Lib.hid hq
  clear hp hq hv
  have B := Lib.hid (below_alloc w (.cells #[.int .i64 st, .int .i64 d, .slice A1 n1 c1, .slice A2 n2 c2, .slice A3 n3 c3, .int .i64 rt, .int .i64 rn, .int .i64 ct] 36))
  replace B := Lib.hid (B.out.alloc B.out.size (.cells #[.int .i64 st', .int .i64 d', .slice A4 n4 c4, .slice A5 n5 c5, .slice A6 n6 c6, .int .i64 rt', .int .i64 rn', .int .i64 ct'] 36))
  have L_a := Lib.hid ((Lies.new w 36 #[.int .i64 st, .int .i64 d, .slice A1 n1 c1, .slice A2 n2 c2, .slice A3 n3 c3, .int .i64 rt, .int .i64 rn, .int .i64 ct]).alloc (.cells #[.int .i64 st', .int .i64 d', .slice A4 n4 c4, .slice A5 n5 c5, .slice A6 n6 c6, .int .i64 rt', .int .i64 rn', .int .i64 ct'] 36))
  have L_b := Lib.hid (Lies.new (w.alloc (.cells #[.int .i64 st, .int .i64 d, .slice A1 n1 c1, .slice A2 n2 c2, .slice A3 n3 c3, .int .i64 rt, .int .i64 rn, .int .i64 ct] 36)) 36 #[.int .i64 st', .int .i64 d', .slice A4 n4 c4, .slice A5 n5 c5, .slice A6 n6 c6, .int .i64 rt', .int .i64 rn', .int .i64 ct'])
  simp only [World.size_alloc] at L_b
  generalize hsa : sameA d d' ns ns' fs fs' rs rs' = sa at HV
  have HS := Lib.hid hsa
  clear hsa
  by_cases hr : st = st'
  rotate_left
  · have e_st : (st == st') = false := by simpa using hr
    have g_st : (st != st') = true := by simpa using hr
    have HF : Hid (false = v) := by show _ = _; rw [← HV.out]; unfold sameT; simp [e_st]
    clear hr
    go_enter Try.func7, Try.ntmps7
    go_wp2
    go_ret
    exact ⟨ret_bool HF.out, B.out⟩
  have e_st : (st == st') = true := by simpa using hr
  have g_st : (st != st') = false := by simp [hr]
  have E_st := Lib.hid hr
  clear hr
  by_cases hr : rt = rt'
  rotate_left
  · have e_rt : (rt == rt') = false := by simpa using hr
    have g_rt : (rt != rt') = true := by simpa using hr
    have HF : Hid (false = v) := by show _ = _; rw [← HV.out]; unfold sameT; simp [e_rt]
    clear hr
    go_enter Try.func7, Try.ntmps7
    go_wp2
    go_ret
    exact ⟨ret_bool HF.out, B.out⟩
  have e_rt : (rt == rt') = true := by simpa using hr
  have g_rt : (rt != rt') = false := by simp [hr]
  have E_rt := Lib.hid hr
  clear hr
  by_cases hr : rn = rn'
  rotate_left
  · have e_rn : (rn == rn') = false := by simpa using hr
    have g_rn : (rn != rn') = true := by simpa using hr
    have HF : Hid (false = v) := by show _ = _; rw [← HV.out]; unfold sameT; simp [e_rn]
    clear hr
    go_enter Try.func7, Try.ntmps7
    go_wp2
    go_ret
    exact ⟨ret_bool HF.out, B.out⟩
  have e_rn : (rn == rn') = true := by simpa using hr
  have g_rn : (rn != rn') = false := by simp [hr]
  have E_rn := Lib.hid hr
  clear hr
  by_cases hr : ct = ct'
  rotate_left
  · have e_ct : (ct == ct') = false := by simpa using hr
    have g_ct : (ct != ct') = true := by simpa using hr
    have HF : Hid (false = v) := by show _ = _; rw [← HV.out]; unfold sameT; simp [e_ct]
    clear hr
    go_enter Try.func7, Try.ntmps7
    go_wp2
    go_ret
    exact ⟨ret_bool HF.out, B.out⟩
  have e_ct : (ct == ct') = true := by simpa using hr
  have g_ct : (ct != ct') = false := by simp [hr]
  have E_ct := Lib.hid hr
  clear hr
  have HF : Hid (sa = v) := by show _ = _; rw [← HV.out]; unfold sameT; simp [e_st, e_rt, e_rn, e_ct]
  go_enter Try.func7, Try.ntmps7
  go_wp2_with fail
  refine (implSameArenas_any d d' _ _ _ _ _ _ _ _ _ _ _ _ _ _ _ _ _ _ ns ns' fs fs' rs rs' _ (HP.out.kept B.out) (HQ.out.kept B.out)).mono ?_
  rintro e W1 ⟨rfl, b1⟩
  rw [HS.out]
  replace L_a := Lib.hid (L_a.out.kept b1 L_a.out.inside)
  replace L_b := Lib.hid (L_b.out.kept b1 L_b.out.inside)
  replace B := Lib.hid (B.out.trans (b1.mono B.out.size))
  clear b1
  have a5 : W1.cell? ⟨w.heap.size, 5, none⟩ = some (.int .i64 rt) := L_a.out.cell 5
  have b5 : W1.cell? ⟨w.heap.size + 1, 5, none⟩ = some (.int .i64 rt') := L_b.out.cell 5
  have a6 : W1.cell? ⟨w.heap.size, 6, none⟩ = some (.int .i64 rn) := L_a.out.cell 6
  have b6 : W1.cell? ⟨w.heap.size + 1, 6, none⟩ = some (.int .i64 rn') := L_b.out.cell 6
  have a7 : W1.cell? ⟨w.heap.size, 7, none⟩ = some (.int .i64 ct) := L_a.out.cell 7
  have b7 : W1.cell? ⟨w.heap.size + 1, 7, none⟩ = some (.int .i64 ct') := L_b.out.cell 7
  go_wp2
  go_ret
  exact ⟨ret_bool HF.out, B.out⟩

set_option maxHeartbeats 1600000 in
theorem specSameTrees_is (v : Bool) (st d rt rn ct st' d' rt' rn' ct' : Int) (A1 A2 A3 A4 A5 A6 : Option Addr) (n1 c1 n2 c2 n3 c3 n4 c4 n5 c5 n6 c6 : Nat) (ns ns' : List NV) (fs fs' : List Int) (rs rs' : List RV) (w : World) (hv : sameT st st' rt rt' rn rn' ct ct' (sameA d d' ns ns' fs fs' rs rs') = v) (hp : ArenaL w A1 A2 A3 n1 n2 n3 ns fs rs) (hq : ArenaL w A4 A5 A6 n4 n5 n6 ns' fs' rs') :
    Calls Try.prog 5 #[.agg #[.int .i64 st, .int .i64 d, .slice A1 n1 c1, .slice A2 n2 c2, .slice A3 n3 c3, .int .i64 rt, .int .i64 rn, .int .i64 ct], .agg #[.int .i64 st', .int .i64 d', .slice A4 n4 c4, .slice A5 n5 c5, .slice A6 n6 c6, .int .i64 rt', .int .i64 rn', .int .i64 ct']] w fun e w' => e = .returned (.bool v) ∧ Below w.heap.size w w' := by
  have HV := Lib.hid hv
  have HP := Lib.hid hp
  have HQ := Lib.hid hq
  clear hp hq hv
  have B := Lib.hid (below_alloc w (.cells #[.int .i64 st, .int .i64 d, .slice A1 n1 c1, .slice A2 n2 c2, .slice A3 n3 c3, .int .i64 rt, .int .i64 rn, .int .i64 ct] 36))
  replace B := Lib.hid (B.out.alloc B.out.size (.cells #[.int .i64 st', .int .i64 d', .slice A4 n4 c4, .slice A5 n5 c5, .slice A6 n6 c6, .int .i64 rt', .int .i64 rn', .int .i64 ct'] 36))
  have L_a := Lib.hid ((Lies.new w 36 #[.int .i64 st, .int .i64 d, .slice A1 n1 c1, .slice A2 n2 c2, .slice A3 n3 c3, .int .i64 rt, .int .i64 rn, .int .i64 ct]).alloc (.cells #[.int .i64 st', .int .i64 d', .slice A4 n4 c4, .slice A5 n5 c5, .slice A6 n6 c6, .int .i64 rt', .int .i64 rn', .int .i64 ct'] 36))
  have L_b := Lib.hid (Lies.new (w.alloc (.cells #[.int .i64 st, .int .i64 d, .slice A1 n1 c1, .slice A2 n2 c2, .slice A3 n3 c3, .int .i64 rt, .int .i64 rn, .int .i64 ct] 36)) 36 #[.int .i64 st', .int .i64 d', .slice A4 n4 c4, .slice A5 n5 c5, .slice A6 n6 c6, .int .i64 rt', .int .i64 rn', .int .i64 ct'])
  simp only [World.size_alloc] at L_b
  by_cases hr : st = st'
  rotate_left
  · have e_st : (st == st') = false := by simpa using hr
    have g_st : (st != st') = true := by simpa using hr
    have HF : Hid (false = v) := by show _ = _; rw [← HV.out]; unfold sameT; simp [e_st]
    clear hr
    go_enter Try.func5, Try.ntmps5
    go_wp2
    go_ret
    exact ⟨ret_bool HF.out, B.out⟩
  have e_st : (st == st') = true := by simpa using hr
  have g_st : (st != st') = false := by simp [hr]
  have E_st := Lib.hid hr
  clear hr
  generalize hsa : sameA d d' ns ns' fs fs' rs rs' = sa at HV
  have HS := Lib.hid hsa
  clear hsa
  cases sa
  · have HF : Hid (false = v) := by show _ = _; rw [← HV.out]; unfold sameT; simp
    go_enter Try.func5, Try.ntmps5
    go_wp2_with fail
    refine (specSameArenas_any d d' _ _ _ _ _ _ _ _ _ _ _ _ _ _ _ _ _ _ ns ns' fs fs' rs rs' _ (HP.out.kept B.out) (HQ.out.kept B.out)).mono ?_
    rintro e W1 ⟨rfl, b1⟩
    rw [HS.out]
    replace L_a := Lib.hid (L_a.out.kept b1 L_a.out.inside)
    replace L_b := Lib.hid (L_b.out.kept b1 L_b.out.inside)
    replace B := Lib.hid (B.out.trans (b1.mono B.out.size))
    clear b1
    have a5 : W1.cell? ⟨w.heap.size, 5, none⟩ = some (.int .i64 rt) := L_a.out.cell 5
    have b5 : W1.cell? ⟨w.heap.size + 1, 5, none⟩ = some (.int .i64 rt') := L_b.out.cell 5
    have a6 : W1.cell? ⟨w.heap.size, 6, none⟩ = some (.int .i64 rn) := L_a.out.cell 6
    have b6 : W1.cell? ⟨w.heap.size + 1, 6, none⟩ = some (.int .i64 rn') := L_b.out.cell 6
    have a7 : W1.cell? ⟨w.heap.size, 7, none⟩ = some (.int .i64 ct) := L_a.out.cell 7
    have b7 : W1.cell? ⟨w.heap.size + 1, 7, none⟩ = some (.int .i64 ct') := L_b.out.cell 7
    go_wp2
    go_ret
    exact ⟨ret_bool HF.out, B.out⟩
  by_cases hr : rt = rt'
  rotate_left
  · have e_rt : (rt == rt') = false := by simpa using hr
    have g_rt : (rt != rt') = true := by simpa using hr
    have HF : Hid (false = v) := by show _ = _; rw [← HV.out]; unfold sameT; simp [e_rt]
    clear hr
    go_enter Try.func5, Try.ntmps5
    go_wp2_with fail
    refine (specSameArenas_any d d' _ _ _ _ _ _ _ _ _ _ _ _ _ _ _ _ _ _ ns ns' fs fs' rs rs' _ (HP.out.kept B.out) (HQ.out.kept B.out)).mono ?_
    rintro e W1 ⟨rfl, b1⟩
    rw [HS.out]
    replace L_a := Lib.hid (L_a.out.kept b1 L_a.out.inside)
    replace L_b := Lib.hid (L_b.out.kept b1 L_b.out.inside)
    replace B := Lib.hid (B.out.trans (b1.mono B.out.size))
    clear b1
    have a5 : W1.cell? ⟨w.heap.size, 5, none⟩ = some (.int .i64 rt) := L_a.out.cell 5
    have b5 : W1.cell? ⟨w.heap.size + 1, 5, none⟩ = some (.int .i64 rt') := L_b.out.cell 5
    have a6 : W1.cell? ⟨w.heap.size, 6, none⟩ = some (.int .i64 rn) := L_a.out.cell 6
    have b6 : W1.cell? ⟨w.heap.size + 1, 6, none⟩ = some (.int .i64 rn') := L_b.out.cell 6
    have a7 : W1.cell? ⟨w.heap.size, 7, none⟩ = some (.int .i64 ct) := L_a.out.cell 7
    have b7 : W1.cell? ⟨w.heap.size + 1, 7, none⟩ = some (.int .i64 ct') := L_b.out.cell 7
    go_wp2
    go_ret
    exact ⟨ret_bool HF.out, B.out⟩
  have e_rt : (rt == rt') = true := by simpa using hr
  have g_rt : (rt != rt') = false := by simp [hr]
  have E_rt := Lib.hid hr
  clear hr
  by_cases hr : rn = rn'
  rotate_left
  · have e_rn : (rn == rn') = false := by simpa using hr
    have g_rn : (rn != rn') = true := by simpa using hr
    have HF : Hid (false = v) := by show _ = _; rw [← HV.out]; unfold sameT; simp [e_rn]
    clear hr
    go_enter Try.func5, Try.ntmps5
    go_wp2_with fail
    refine (specSameArenas_any d d' _ _ _ _ _ _ _ _ _ _ _ _ _ _ _ _ _ _ ns ns' fs fs' rs rs' _ (HP.out.kept B.out) (HQ.out.kept B.out)).mono ?_
    rintro e W1 ⟨rfl, b1⟩
    rw [HS.out]
    replace L_a := Lib.hid (L_a.out.kept b1 L_a.out.inside)
    replace L_b := Lib.hid (L_b.out.kept b1 L_b.out.inside)
    replace B := Lib.hid (B.out.trans (b1.mono B.out.size))
    clear b1
    have a5 : W1.cell? ⟨w.heap.size, 5, none⟩ = some (.int .i64 rt) := L_a.out.cell 5
    have b5 : W1.cell? ⟨w.heap.size + 1, 5, none⟩ = some (.int .i64 rt') := L_b.out.cell 5
    have a6 : W1.cell? ⟨w.heap.size, 6, none⟩ = some (.int .i64 rn) := L_a.out.cell 6
    have b6 : W1.cell? ⟨w.heap.size + 1, 6, none⟩ = some (.int .i64 rn') := L_b.out.cell 6
    have a7 : W1.cell? ⟨w.heap.size, 7, none⟩ = some (.int .i64 ct) := L_a.out.cell 7
    have b7 : W1.cell? ⟨w.heap.size + 1, 7, none⟩ = some (.int .i64 ct') := L_b.out.cell 7
    go_wp2
    go_ret
    exact ⟨ret_bool HF.out, B.out⟩
  have e_rn : (rn == rn') = true := by simpa using hr
  have g_rn : (rn != rn') = false := by simp [hr]
  have E_rn := Lib.hid hr
  clear hr
  by_cases hr : ct = ct'
  rotate_left
  · have e_ct : (ct == ct') = false := by simpa using hr
    have g_ct : (ct != ct') = true := by simpa using hr
    have HF : Hid (false = v) := by show _ = _; rw [← HV.out]; unfold sameT; simp [e_ct]
    clear hr
    go_enter Try.func5, Try.ntmps5
    go_wp2_with fail
    refine (specSameArenas_any d d' _ _ _ _ _ _ _ _ _ _ _ _ _ _ _ _ _ _ ns ns' fs fs' rs rs' _ (HP.out.kept B.out) (HQ.out.kept B.out)).mono ?_
    rintro e W1 ⟨rfl, b1⟩
    rw [HS.out]
    replace L_a := Lib.hid (L_a.out.kept b1 L_a.out.inside)
    replace L_b := Lib.hid (L_b.out.kept b1 L_b.out.inside)
    replace B := Lib.hid (B.out.trans (b1.mono B.out.size))
    clear b1
    have a5 : W1.cell? ⟨w.heap.size, 5, none⟩ = some (.int .i64 rt) := L_a.out.cell 5
    have b5 : W1.cell? ⟨w.heap.size + 1, 5, none⟩ = some (.int .i64 rt') := L_b.out.cell 5
    have a6 : W1.cell? ⟨w.heap.size, 6, none⟩ = some (.int .i64 rn) := L_a.out.cell 6
    have b6 : W1.cell? ⟨w.heap.size + 1, 6, none⟩ = some (.int .i64 rn') := L_b.out.cell 6
    have a7 : W1.cell? ⟨w.heap.size, 7, none⟩ = some (.int .i64 ct) := L_a.out.cell 7
    have b7 : W1.cell? ⟨w.heap.size + 1, 7, none⟩ = some (.int .i64 ct') := L_b.out.cell 7
    go_wp2
    go_ret
    exact ⟨ret_bool HF.out, B.out⟩
  have e_ct : (ct == ct') = true := by simpa using hr
  have g_ct : (ct != ct') = false := by simp [hr]
  have E_ct := Lib.hid hr
  clear hr
  have HF : Hid (true = v) := by show _ = _; rw [← HV.out]; unfold sameT; simp [e_st, e_rt, e_rn, e_ct]
  go_enter Try.func5, Try.ntmps5
  go_wp2_with fail
  refine (specSameArenas_any d d' _ _ _ _ _ _ _ _ _ _ _ _ _ _ _ _ _ _ ns ns' fs fs' rs rs' _ (HP.out.kept B.out) (HQ.out.kept B.out)).mono ?_
  rintro e W1 ⟨rfl, b1⟩
  rw [HS.out]
  replace L_a := Lib.hid (L_a.out.kept b1 L_a.out.inside)
  replace L_b := Lib.hid (L_b.out.kept b1 L_b.out.inside)
  replace B := Lib.hid (B.out.trans (b1.mono B.out.size))
  clear b1
  have a5 : W1.cell? ⟨w.heap.size, 5, none⟩ = some (.int .i64 rt) := L_a.out.cell 5
  have b5 : W1.cell? ⟨w.heap.size + 1, 5, none⟩ = some (.int .i64 rt') := L_b.out.cell 5
  have a6 : W1.cell? ⟨w.heap.size, 6, none⟩ = some (.int .i64 rn) := L_a.out.cell 6
  have b6 : W1.cell? ⟨w.heap.size + 1, 6, none⟩ = some (.int .i64 rn') := L_b.out.cell 6
  have a7 : W1.cell? ⟨w.heap.size, 7, none⟩ = some (.int .i64 ct) := L_a.out.cell 7
  have b7 : W1.cell? ⟨w.heap.size + 1, 7, none⟩ = some (.int .i64 ct') := L_b.out.cell 7
  go_wp2
  go_ret
  exact ⟨ret_bool HF.out, B.out⟩

end Go.Proofs.Ytdkaofmlgaofgaa
