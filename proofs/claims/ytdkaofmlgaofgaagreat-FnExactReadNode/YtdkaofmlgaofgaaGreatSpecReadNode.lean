/- The walks of spec.l3Copy at an offset, spec.l4Read and spec.ReadNode. -/
import Derived.Test.YtdkaofmlgaofgaaGreatSpecWithoutEntry
import Derived.Test.YtdkaofmlgaofgaaGreatSpecArena3
namespace Go.Proofs.YtdkaofmlgaofgaaGreat
open Go.RowKit

set_option maxHeartbeats 1600000 in
theorem l3CopyAt_any (lv ns rt : Int) (b o n c dd : Nat) (A : Option Addr) (ps : List EV) (w : World) (hb : b < w.heap.size) (k0 : w.cell? ⟨b, o, none⟩ = some (.int .i64 lv)) (k1 : w.cell? ⟨b, o + 1, none⟩ = some (.int .i64 ns)) (k2 : w.cell? ⟨b, o + 2, none⟩ = some (.int .i64 rt)) (k3 : w.cell? ⟨b, o + 3, none⟩ = some (.slice A n c))
    (hp : Entries w A n ps) (hn : n ≤ 6) (hd : 0 < dd) (hd3 : dd ≤ 3) (hl : LensE dd (ps.map EV.val)) :
    Calls Tryz.prog 79 #[.pointer (some ⟨b, o, none⟩)] w fun e w' => ∃ A' c' qs, e = .returned (.agg #[.int .i64 lv, .int .i64 ns, .int .i64 rt, .slice A' n c']) ∧ Rows4 w' (w.heap.size + 1 + 1) n qs (.slice A' n c') ∧ qs.map EV.val = ps.map EV.val ∧ Below w.heap.size w w' := by
  have HP := Lib.hid hp
  have HE := Lib.hid hl
  clear hp hl
  have B := Lib.hid (below_alloc w (.cells #[.int .i64 0, .int .i64 0, .int .i64 0, .slice none 0 0] 30))
  have e0 : (w.alloc (.cells #[.int .i64 0, .int .i64 0, .int .i64 0, .slice none 0 0] 30)).cell? ⟨b, o, none⟩ = some (.int .i64 lv) := (B.out.cell (p := ⟨b, o, none⟩) hb).trans k0
  have e1 : (w.alloc (.cells #[.int .i64 0, .int .i64 0, .int .i64 0, .slice none 0 0] 30)).cell? ⟨b, o + 1, none⟩ = some (.int .i64 ns) := (B.out.cell (p := ⟨b, o + 1, none⟩) hb).trans k1
  have e2 : (w.alloc (.cells #[.int .i64 0, .int .i64 0, .int .i64 0, .slice none 0 0] 30)).cell? ⟨b, o + 2, none⟩ = some (.int .i64 rt) := (B.out.cell (p := ⟨b, o + 2, none⟩) hb).trans k2
  have e3 : (w.alloc (.cells #[.int .i64 0, .int .i64 0, .int .i64 0, .slice none 0 0] 30)).cell? ⟨b, o + 3, none⟩ = some (.slice A n c) := (B.out.cell (p := ⟨b, o + 3, none⟩) hb).trans k3
  replace B := Lib.hid (B.out.alloc B.out.size (.cells #[.int .i64 lv, .int .i64 ns, .int .i64 rt, .slice A n c] 30))
  have g3 : ((w.alloc (.cells #[.int .i64 0, .int .i64 0, .int .i64 0, .slice none 0 0] 30)).alloc (.cells #[.int .i64 lv, .int .i64 ns, .int .i64 rt, .slice A n c] 30)).cell? ⟨b, o + 3, none⟩ = some (.slice A n c) := (B.out.cell (p := ⟨b, o + 3, none⟩) hb).trans k3
  clear k0 k1 k2 k3
  have L_r := Lib.hid ((Lies.new w 30 #[.int .i64 0, .int .i64 0, .int .i64 0, .slice none 0 0]).alloc (.cells #[.int .i64 lv, .int .i64 ns, .int .i64 rt, .slice A n c] 30))
  have L_o := Lib.hid (Lies.new (w.alloc (.cells #[.int .i64 0, .int .i64 0, .int .i64 0, .slice none 0 0] 30)) 30 #[.int .i64 lv, .int .i64 ns, .int .i64 rt, .slice A n c])
  simp only [World.size_alloc] at L_o
  go_enter Tryz.func79, Tryz.ntmps79
  go_wp2_with fail
  refine (l3Entries_any n c dd A ps _ (HP.out.kept B.out) hn hd hd3 HE.out).mono ?_
  rintro e W1 ⟨v, qs, rfl, hC, vq⟩
  have hcb := hC.b
  have hrow := hC.rows
  simp only [World.size_alloc] at hrow
  replace L_r := Lib.hid (L_r.out.kept hcb L_r.out.inside)
  replace L_o := Lib.hid (L_o.out.kept hcb L_o.out.inside)
  replace B := Lib.hid (B.out.trans (hcb.mono B.out.size))
  obtain ⟨A', c', rfl, _⟩ := hrow.entries
  have RW := Lib.hid hrow
  have VQ := Lib.hid vq
  clear hC hcb hrow vq e0 e1 e2 e3 g3
  have y0 : W1.cell? ⟨w.heap.size + 1, 0, none⟩ = some (.int .i64 lv) := L_o.out.cell 0
  have u0 : W1.frozen? ⟨w.heap.size + 1, 0, none⟩ = false := L_o.out.thawed 0
  have y1 : W1.cell? ⟨w.heap.size + 1, 1, none⟩ = some (.int .i64 ns) := L_o.out.cell 1
  have u1 : W1.frozen? ⟨w.heap.size + 1, 1, none⟩ = false := L_o.out.thawed 1
  have y2 : W1.cell? ⟨w.heap.size + 1, 2, none⟩ = some (.int .i64 rt) := L_o.out.cell 2
  have u2 : W1.frozen? ⟨w.heap.size + 1, 2, none⟩ = false := L_o.out.thawed 2
  have y3 : W1.cell? ⟨w.heap.size + 1, 3, none⟩ = some (.slice A n c) := L_o.out.cell 3
  have u3 : W1.frozen? ⟨w.heap.size + 1, 3, none⟩ = false := L_o.out.thawed 3
  have z0 : W1.cell? ⟨w.heap.size, 0, none⟩ = some (.int .i64 0) := L_r.out.cell 0
  have f0 : W1.frozen? ⟨w.heap.size, 0, none⟩ = false := L_r.out.thawed 0
  have z1 : W1.cell? ⟨w.heap.size, 1, none⟩ = some (.int .i64 0) := L_r.out.cell 1
  have f1 : W1.frozen? ⟨w.heap.size, 1, none⟩ = false := L_r.out.thawed 1
  have z2 : W1.cell? ⟨w.heap.size, 2, none⟩ = some (.int .i64 0) := L_r.out.cell 2
  have f2 : W1.frozen? ⟨w.heap.size, 2, none⟩ = false := L_r.out.thawed 2
  have z3 : W1.cell? ⟨w.heap.size, 3, none⟩ = some (.slice none 0 0) := L_r.out.cell 3
  have f3 : W1.frozen? ⟨w.heap.size, 3, none⟩ = false := L_r.out.thawed 3
  go_wp2
  refine bodyPost_ret (v := .agg #[.int .i64 lv, .int .i64 ns, .int .i64 rt, .slice A' n c']) (by simp [results, Tryz.results79, go_sem, z0, z1, z2, z3]) rfl ⟨A', c', qs, rfl, ?_, VQ.out, ?_⟩
  · with_reducible (repeat (first | exact RW.out | refine Rows4.far ?_ ?_ _))
    all_goals (first | (show w.heap.size + 1 < _; omega) | (show w.heap.size < _; omega))
  · with_reducible (repeat (first | exact B.out | refine Below.setCell ?_ ?_ _))
    all_goals (first | (show w.heap.size ≤ w.heap.size + 1; omega) | (show w.heap.size ≤ w.heap.size; omega))

/-- What is asked of a place that is read. -/
def readF (n : Nat) (fs : List Int) (id : Int) : Int := if 0 ≤ id ∧ id ≤ (n : Int) - 1 then (if fs.contains id then 4 else 0) else 3
theorem readF_out {n : Nat} {fs : List Int} {id : Int} (h : ¬ (0 ≤ id ∧ id ≤ (n : Int) - 1)) : readF n fs id = 3 := by unfold readF; rw [if_neg h]
theorem readF_in {n : Nat} {fs : List Int} {id : Int} (h : 0 ≤ id ∧ id ≤ (n : Int) - 1) : readF n fs id = if fs.contains id then 4 else 0 := by unfold readF; rw [if_pos h]
theorem readF_zero {n : Nat} {fs : List Int} {id : Int} (h : readF n fs id = 0) : (0 ≤ id ∧ id ≤ (n : Int) - 1) ∧ fs.contains id = false := by
  unfold readF at h
  split at h
  · rename_i h1
    cases hc : fs.contains id
    · exact ⟨h1, rfl⟩
    · rw [hc] at h; simp at h
  · omega

set_option maxHeartbeats 1600000 in
theorem l4Read_any (b n1 c1 n2 c2 : Nat) (A1 A2 : Option Addr) (fs : List Int) (id : Int) (w : World) (hb : b < w.heap.size) (k1 : w.cell? ⟨b, 1, none⟩ = some (.slice A1 n1 c1)) (k2 : w.cell? ⟨b, 2, none⟩ = some (.slice A2 n2 c2)) (hF : Ints w 0 A2 n2 fs) (m1 : n1 ≤ maxLen) (m2 : n2 ≤ maxLen) :
    Calls Tryz.prog 78 #[.pointer (some ⟨b, 0, none⟩), .int .i64 id] w fun e w' => e = .returned (.int .i64 (readF n1 fs id)) ∧ Below w.heap.size w w' := by
  have HF := Lib.hid hF
  clear hF
  by_cases h : 0 ≤ id ∧ id ≤ (n1 : Int) - 1
  rotate_left
  · have HR := Lib.hid (readF_out (fs := fs) h)
    go_enter Tryz.func78, Tryz.ntmps78
    go_wp2_with fail
    refine (l4Place_no b n1 c1 A1 id _ k1 m1 h).mono ?_
    rintro e w' ⟨rfl, rfl⟩
    go_wp2
    go_ret
    exact ⟨ret_i64 HR.out.symm, Below.refl _ _⟩
  have HR := Lib.hid (readF_in (fs := fs) h)
  go_enter Tryz.func78, Tryz.ntmps78
  go_wp2_with fail
  refine (l4Place_yes b n1 c1 A1 id _ k1 m1 h).mono ?_
  rintro e w' ⟨rfl, rfl⟩
  clear h
  go_wp2_with fail
  refine (l1Has_any id n2 c2 0 A2 fs _ HF.out m2).mono ?_
  rintro e w' ⟨rfl, q, rfl⟩
  cases hc : fs.contains id
  · have HC : Hid (readF n1 fs id = 0) := by show _ = _; rw [HR.out, hc]; rfl
    clear hc HR
    go_wp2
    go_ret
    exact ⟨ret_i64 HC.out.symm, below_draws (Below.refl _ _) q⟩
  · have HC : Hid (readF n1 fs id = 4) := by show _ = _; rw [HR.out, hc]; rfl
    clear hc HR
    go_wp2
    go_ret
    exact ⟨ret_i64 HC.out.symm, below_draws (Below.refl _ _) q⟩

/-- The code of ReadNode, and what it answers. -/
def readC (d : Int) (vs : List NVal) (fs : List Int) (us : List RVal) (id : Int) : Int := if arenaF d vs fs us = 0 then readF vs.length fs id else arenaF d vs fs us
def nvAt (vs : List NVal) (id : Int) : NVal := vs.getD id.toNat (0, 0, 0, [])
def readR (d : Int) (vs : List NVal) (fs : List Int) (us : List RVal) (id : Int) : Int × Int × Int × Int × List EVal :=
  nrOf (readC d vs fs us id) (nvAt vs id).1 (nvAt vs id).2.1 (nvAt vs id).2.2.1 (nvAt vs id).2.2.2

theorem readC_fault {d : Int} {vs : List NVal} {fs : List Int} {us : List RVal} {id : Int} (h : arenaF d vs fs us ≠ 0) : readR d vs fs us id = (arenaF d vs fs us, 0, 0, 0, []) := by
  have e : readC d vs fs us id = arenaF d vs fs us := by unfold readC; rw [if_neg h]
  unfold readR; rw [e]; exact nrOf_no h
theorem readC_none {d : Int} {vs : List NVal} {fs : List Int} {us : List RVal} {id : Int} (h : arenaF d vs fs us = 0) (h2 : readF vs.length fs id ≠ 0) : readR d vs fs us id = (readF vs.length fs id, 0, 0, 0, []) := by
  have e : readC d vs fs us id = readF vs.length fs id := by unfold readC; rw [if_pos h]
  unfold readR; rw [e]; exact nrOf_no h2
theorem readC_yes {d : Int} {vs : List NVal} {fs : List Int} {us : List RVal} {id : Int} {v : NVal} (h : arenaF d vs fs us = 0) (h2 : readF vs.length fs id = 0) (hv : vs[id.toNat]? = some v) : readR d vs fs us id = (0, v.1, v.2.1, v.2.2.1, v.2.2.2) := by
  have e : readC d vs fs us id = 0 := by unfold readC; rw [if_pos h, h2]
  have e2 : nvAt vs id = v := by unfold nvAt; rw [List.getD_eq_getElem?_getD, hv]; rfl
  unfold readR; rw [e, e2]; exact nrOf_yes rfl

set_option maxRecDepth 100000 in
set_option maxHeartbeats 6400000 in
theorem specReadNode_any (d : Int) (n1 c1 n2 c2 n3 c3 : Nat) (A1 A2 A3 : Option Addr) (ns : List NV) (fs : List Int) (rs : List RV) (id : Int) (w : World) (hp : ArenaL w A1 A2 A3 n1 n2 n3 ns fs rs) (hc : n1 ≤ c1) (hcm : c1 ≤ maxLen) :
    Calls Tryz.prog 16 #[.agg #[.int .i64 d, .slice A1 n1 c1, .slice A2 n2 c2, .slice A3 n3 c3], .int .i64 id] w (ReadPost2 (readR d (ns.map NV.val) fs (rs.map RV.val) id) w) := by
  have HP := Lib.hid hp
  have m1 := hp.m1
  have m2 := hp.m2
  have HL : Hid ((ns.map NV.val).length = n1) := by show List.length _ = n1; rw [List.length_map]; exact hp.N.1
  clear hp
  have B := Lib.hid (below_alloc w (.cells #[.int .i64 d, .slice A1 n1 c1, .slice A2 n2 c2, .slice A3 n3 c3] 37))
  replace B := Lib.hid (B.out.alloc B.out.size (.cells #[.int .i64 0, .int .i64 0, .int .i64 0, .int .i64 0, .slice none 0 0] 32))
  have L_a := Lib.hid ((Lies.new w 37 #[.int .i64 d, .slice A1 n1 c1, .slice A2 n2 c2, .slice A3 n3 c3]).alloc (.cells #[.int .i64 0, .int .i64 0, .int .i64 0, .int .i64 0, .slice none 0 0] 32))
  have L_r := Lib.hid (Lies.new (w.alloc (.cells #[.int .i64 d, .slice A1 n1 c1, .slice A2 n2 c2, .slice A3 n3 c3] 37)) 32 #[.int .i64 0, .int .i64 0, .int .i64 0, .int .i64 0, .slice none 0 0])
  simp only [World.size_alloc] at L_r
  go_enter Tryz.func16, Tryz.ntmps16
  go_wp2_with fail
  refine (specArenaFault_any d n1 c1 n2 c2 n3 c3 A1 A2 A3 ns fs rs _ (HP.out.kept B.out) hc hcm).mono ?_
  rintro e W1 ⟨rfl, b1⟩
  replace L_a := Lib.hid (L_a.out.kept b1 L_a.out.inside)
  replace L_r := Lib.hid (L_r.out.kept b1 L_r.out.inside)
  replace B := Lib.hid (B.out.trans (b1.mono B.out.size))
  clear b1
  by_cases hz : arenaF d (ns.map NV.val) fs (rs.map RV.val) = 0
  rotate_left
  · have hz1 : (arenaF d (ns.map NV.val) fs (rs.map RV.val) != 0) = true := by simpa using hz
    have HR := Lib.hid (readC_fault (id := id) hz)
    clear hz
    have z0 : W1.cell? ⟨w.heap.size + 1, 0, none⟩ = some (.int .i64 0) := L_r.out.cell 0
    have y0 : W1.frozen? ⟨w.heap.size + 1, 0, none⟩ = false := L_r.out.thawed 0
    have z1 : W1.cell? ⟨w.heap.size + 1, 1, none⟩ = some (.int .i64 0) := L_r.out.cell 1
    have y1 : W1.frozen? ⟨w.heap.size + 1, 1, none⟩ = false := L_r.out.thawed 1
    have z2 : W1.cell? ⟨w.heap.size + 1, 2, none⟩ = some (.int .i64 0) := L_r.out.cell 2
    have y2 : W1.frozen? ⟨w.heap.size + 1, 2, none⟩ = false := L_r.out.thawed 2
    have z3 : W1.cell? ⟨w.heap.size + 1, 3, none⟩ = some (.int .i64 0) := L_r.out.cell 3
    have y3 : W1.frozen? ⟨w.heap.size + 1, 3, none⟩ = false := L_r.out.thawed 3
    have z4 : W1.cell? ⟨w.heap.size + 1, 4, none⟩ = some (.slice none 0 0) := L_r.out.cell 4
    have y4 : W1.frozen? ⟨w.heap.size + 1, 4, none⟩ = false := L_r.out.thawed 4
    go_wp2
    refine bodyPost_ret (v := .agg #[.int .i64 (arenaF d (ns.map NV.val) fs (rs.map RV.val)), .int .i64 0, .int .i64 0, .int .i64 0, .slice none 0 0]) (by simp [results, Tryz.results16, go_sem, z0, z1, z2, z3, z4]) rfl ?_
    refine ⟨none, 0, 0, [], by rw [HR.out], entries_nil _ _, by rw [HR.out]; rfl, by decide, ?_⟩
    repeat (with_reducible refine Below.setCell ?_ (by exact Nat.le_succ _) _)
    exact B.out

  have hz1 : (arenaF d (ns.map NV.val) fs (rs.map RV.val) != 0) = false := by simp [hz]
  have HZ := Lib.hid hz
  clear hz
  have k1 : W1.cell? ⟨w.heap.size, 1, none⟩ = some (.slice A1 n1 c1) := L_a.out.cell 1
  have k2 : W1.cell? ⟨w.heap.size, 2, none⟩ = some (.slice A2 n2 c2) := L_a.out.cell 2
  go_wp2_with fail
  refine (l4Read_any w.heap.size n1 c1 n2 c2 A1 A2 fs id _ L_a.out.inside k1 k2 (HP.out.F.kept B.out) m1 m2).mono ?_
  rintro e W2 ⟨rfl, b2⟩
  replace L_a := Lib.hid (L_a.out.kept b2 L_a.out.inside)
  replace L_r := Lib.hid (L_r.out.kept b2 L_r.out.inside)
  replace B := Lib.hid (B.out.trans (b2.mono B.out.size))
  clear b2 k1 k2
  by_cases hz : readF n1 fs id = 0
  rotate_left
  · have hz2 : (readF n1 fs id != 0) = true := by simpa using hz
    have HR : Hid (readR d (ns.map NV.val) fs (rs.map RV.val) id = (readF n1 fs id, 0, 0, 0, [])) := by
      have := readC_none (id := id) HZ.out (by rw [HL.out]; exact hz)
      rwa [HL.out] at this
    clear hz
    have z0 : W2.cell? ⟨w.heap.size + 1, 0, none⟩ = some (.int .i64 0) := L_r.out.cell 0
    have y0 : W2.frozen? ⟨w.heap.size + 1, 0, none⟩ = false := L_r.out.thawed 0
    have z1 : W2.cell? ⟨w.heap.size + 1, 1, none⟩ = some (.int .i64 0) := L_r.out.cell 1
    have y1 : W2.frozen? ⟨w.heap.size + 1, 1, none⟩ = false := L_r.out.thawed 1
    have z2 : W2.cell? ⟨w.heap.size + 1, 2, none⟩ = some (.int .i64 0) := L_r.out.cell 2
    have y2 : W2.frozen? ⟨w.heap.size + 1, 2, none⟩ = false := L_r.out.thawed 2
    have z3 : W2.cell? ⟨w.heap.size + 1, 3, none⟩ = some (.int .i64 0) := L_r.out.cell 3
    have y3 : W2.frozen? ⟨w.heap.size + 1, 3, none⟩ = false := L_r.out.thawed 3
    have z4 : W2.cell? ⟨w.heap.size + 1, 4, none⟩ = some (.slice none 0 0) := L_r.out.cell 4
    have y4 : W2.frozen? ⟨w.heap.size + 1, 4, none⟩ = false := L_r.out.thawed 4
    go_wp2
    refine bodyPost_ret (v := .agg #[.int .i64 (readF n1 fs id), .int .i64 0, .int .i64 0, .int .i64 0, .slice none 0 0]) (by simp [results, Tryz.results16, go_sem, z0, z1, z2, z3, z4]) rfl ?_
    refine ⟨none, 0, 0, [], by rw [HR.out], entries_nil _ _, by rw [HR.out]; rfl, by decide, ?_⟩
    repeat (with_reducible refine Below.setCell ?_ (by exact Nat.le_succ _) _)
    exact B.out

  have hz2 : (readF n1 fs id != 0) = false := by simp [hz]
  have HZ2 := Lib.hid hz
  obtain ⟨⟨q0, q1⟩, _⟩ := readF_zero hz
  clear hz
  obtain ⟨k, hk⟩ : ∃ k : Nat, id = (k : Int) := ⟨id.toNat, by omega⟩
  subst hk
  have hkn : k < n1 := by omega
  obtain ⟨b, o, lv, nn, rt, X1, e1, f1, es, rfl, hb, d0, d1, d2, d3, hx, i1, me⟩ := HP.out.N.cellAt hkn
  have HVX : Hid ((ns.map NV.val)[k]? = some (lv, nn, rt, es.map EV.val)) := by show _ = _; rw [List.getElem?_map, hx.out]; rfl
  have HR : Hid (readR d (ns.map NV.val) fs (rs.map RV.val) (k : Int) = (0, lv, nn, rt, es.map EV.val)) := readC_yes (v := (lv, nn, rt, es.map EV.val)) HZ.out (by rw [HL.out]; exact HZ2.out) (by simpa using HVX.out)
  have hnf : nodeF lv nn rt (es.map EV.val) d = 0 := firstNZ_zero (arenaF_zero HZ.out).2.2.1 k _ HVX.out
  obtain ⟨hok, hn5, hent, _, _⟩ := nodeF_zero hnf
  have HE := Lib.hid (lens_of hent)
  have hd2 := hok.1.1
  have hd3 := hok.1.2
  have he5 : e1 ≤ 5 := by rw [← i1.out.1, ← List.length_map]; exact hn5
  have hkb : b < W2.heap.size := Nat.lt_of_lt_of_le hb B.out.size
  have j0 : W2.cell? ⟨b, o + k * 4, none⟩ = some (.int .i64 lv) := (B.out.cell (p := ⟨b, o + k * 4, none⟩) hb).trans d0
  have j1 : W2.cell? ⟨b, o + k * 4 + 1, none⟩ = some (.int .i64 nn) := (B.out.cell (p := ⟨b, o + k * 4 + 1, none⟩) hb).trans d1
  have j2 : W2.cell? ⟨b, o + k * 4 + 2, none⟩ = some (.int .i64 rt) := (B.out.cell (p := ⟨b, o + k * 4 + 2, none⟩) hb).trans d2
  have j3 : W2.cell? ⟨b, o + k * 4 + 3, none⟩ = some (.slice X1 e1 f1) := (B.out.cell (p := ⟨b, o + k * 4 + 3, none⟩) hb).trans d3
  have k1 : W2.cell? ⟨w.heap.size, 1, none⟩ = some (.slice (some ⟨b, o, none⟩) n1 c1) := L_a.out.cell 1
  clear hnf hok hn5 hent d0 d1 d2 d3 hx HVX HZ HZ2
  go_wp2_with fail
  refine (l3CopyAt_any lv nn rt b (o + k * 4) e1 f1 d.toNat X1 es _ hkb j0 j1 j2 j3 (i1.out.kept B.out) (by omega) (by omega) (by omega) HE.out).mono ?_
  rintro e W3 ⟨A', c', qs, rfl, hR4, hvs, b3⟩
  have R4 := Lib.hid hR4
  have HVS := Lib.hid hvs
  have sz3 : w.heap.size + 1 < W2.heap.size := L_r.out.inside
  replace L_r := Lib.hid (L_r.out.kept b3 L_r.out.inside)
  replace B := Lib.hid (B.out.trans (b3.mono B.out.size))
  clear b3 hR4 hvs j0 j1 j2 j3 k1
  have z0 : W3.cell? ⟨w.heap.size + 1, 0, none⟩ = some (.int .i64 0) := L_r.out.cell 0
  have y0 : W3.frozen? ⟨w.heap.size + 1, 0, none⟩ = false := L_r.out.thawed 0
  have z1 : W3.cell? ⟨w.heap.size + 1, 1, none⟩ = some (.int .i64 0) := L_r.out.cell 1
  have y1 : W3.frozen? ⟨w.heap.size + 1, 1, none⟩ = false := L_r.out.thawed 1
  have z2 : W3.cell? ⟨w.heap.size + 1, 2, none⟩ = some (.int .i64 0) := L_r.out.cell 2
  have y2 : W3.frozen? ⟨w.heap.size + 1, 2, none⟩ = false := L_r.out.thawed 2
  have z3 : W3.cell? ⟨w.heap.size + 1, 3, none⟩ = some (.int .i64 0) := L_r.out.cell 3
  have y3 : W3.frozen? ⟨w.heap.size + 1, 3, none⟩ = false := L_r.out.thawed 3
  have z4 : W3.cell? ⟨w.heap.size + 1, 4, none⟩ = some (.slice none 0 0) := L_r.out.cell 4
  have y4 : W3.frozen? ⟨w.heap.size + 1, 4, none⟩ = false := L_r.out.thawed 4
  go_wp2
  refine bodyPost_ret (v := .agg #[.int .i64 0, .int .i64 lv, .int .i64 nn, .int .i64 rt, .slice A' e1 c']) (by simp [results, Tryz.results16, go_sem, z0, z1, z2, z3, z4]) rfl ?_
  refine ⟨A', e1, c', qs, by rw [HR.out], ?_, by rw [HR.out]; exact HVS.out, by omega, ?_⟩
  · have R5 : ∀ W : World, Rows4 W (W2.heap.size + 1 + 1) e1 qs (.slice A' e1 c') → Entries W A' e1 qs := by
      intro W h
      obtain ⟨A2, c2, e2, h2⟩ := h.entries
      injection e2 with e2 e3 e4
      subst e2
      exact h2
    refine R5 _ ?_
    with_reducible (repeat (first | exact R4.out | refine Rows4.far ?_ ?_ _))
    all_goals (show w.heap.size + 1 < _; omega)
  · repeat (with_reducible refine Below.setCell ?_ (by exact Nat.le_succ _) _)
    exact B.out

end Go.Proofs.YtdkaofmlgaofgaaGreat
