/- The walks of impl.groundFault, impl.openArena and impl.ArenaFault. -/
import Derived.Test.YtpgoildfjkokiaaGreatRetireAll
namespace Go.Proofs.YtpgoildfjkokiaaGreat
open Go.RowKit

/-- What is wrong with the dimensions, or with how many places there are. -/
def groundF (d n : Int) : Int := if 2 ≤ d ∧ d ≤ 3 then (if 4 ≤ n ∧ n ≤ 40 then 0 else 2) else 3

set_option maxHeartbeats 800000 in
theorem groundFault_any (d n : Int) (w : World) :
    Calls Tryz.prog 74 #[.int .i64 d, .int .i64 n] w fun e w' => e = .returned (.int .i64 (groundF d n)) ∧ Below w.heap.size w w' := by
  have B1 := Lib.hid (below_alloc w (.cells #[.int .i64 d] 2))
  have B2 := Lib.hid (B1.out.alloc B1.out.size (.cells #[.int .i64 n] 2))
  have O1 := Lib.hid (one_ints w d)
  have O2 := Lib.hid (one_ints (w.alloc (.cells #[.int .i64 d] 2)) n)
  simp only [World.size_alloc] at O2
  by_cases hd : 2 ≤ d ∧ d ≤ 3
  rotate_left
  · have HF : Hid (groundF d n = 3) := by show groundF _ _ = _; unfold groundF; rw [if_neg hd]
    have HA : Hid (allIn 2 3 [d] = false) := by show allIn _ _ _ = _; rw [allIn_two]; simpa using hd
    go_enter Tryz.func74, Tryz.ntmps74
    go_wp2_with fail
    refine (within_is 2 3 _ _ _ _ [d] _ false HA.out O1.out (by decide)).mono ?_
    rintro e w' ⟨rfl, rfl⟩
    go_wp2
    go_ret
    exact ⟨ret_i64 HF.out.symm, B1.out⟩
  have HA : Hid (allIn 2 3 [d] = true) := by show allIn _ _ _ = _; rw [allIn_two]; simpa using hd
  by_cases hn : 4 ≤ n ∧ n ≤ 40
  rotate_left
  · have HF : Hid (groundF d n = 2) := by show groundF _ _ = _; unfold groundF; rw [if_pos hd, if_neg hn]
    have HC : Hid (allIn 4 40 [n] = false) := by show allIn _ _ _ = _; rw [allIn_two]; simpa using hn
    go_enter Tryz.func74, Tryz.ntmps74
    go_wp2_with fail
    refine (within_is 2 3 _ _ _ _ [d] _ true HA.out O1.out (by decide)).mono ?_
    rintro e w' ⟨rfl, rfl⟩
    go_wp2_with fail
    refine (within_is 4 40 _ _ _ _ [n] _ false HC.out O2.out (by decide)).mono ?_
    rintro e w' ⟨rfl, rfl⟩
    go_wp2
    go_ret
    exact ⟨ret_i64 HF.out.symm, B2.out⟩
  have HF : Hid (groundF d n = 0) := by show groundF _ _ = _; unfold groundF; rw [if_pos hd, if_pos hn]
  have HC : Hid (allIn 4 40 [n] = true) := by show allIn _ _ _ = _; rw [allIn_two]; simpa using hn
  go_enter Tryz.func74, Tryz.ntmps74
  go_wp2_with fail
  refine (within_is 2 3 _ _ _ _ [d] _ true HA.out O1.out (by decide)).mono ?_
  rintro e w' ⟨rfl, rfl⟩
  go_wp2_with fail
  refine (within_is 4 40 _ _ _ _ [n] _ true HC.out O2.out (by decide)).mono ?_
  rintro e w' ⟨rfl, rfl⟩
  go_wp2
  go_ret
  exact ⟨ret_i64 HF.out.symm, B2.out⟩

/-- An arena that was opened: its places, which of them are free, the retired ones. -/
def Opened (w w' : World) (d : Int) (n1 n3 : Nat) (ns : List NVal) (fs : List Int) (rs : List RVal) (G : Nat) : Prop :=
  ∃ lo M o pb cp qs f, Ret w' lo G M d o pb cp n1 qs n3 n3 (rs.map (·.1)) f ∧ qs.map LV.val = ns ∧ (∀ (i : Nat) (q : LV), qs[i]? = some q → q.fr = fs.contains (i : Int)) ∧ w.heap.size ≤ G ∧ w.heap.size ≤ M ∧ lo ≤ w'.heap.size ∧ Watched qs f rs ∧ w.heap.size ≤ lo
theorem Kept.vals {ps qs : List LV} (h : Kept ps qs) : qs.map LV.val = ps.map LV.val := by
  apply List.ext_getElem?
  intro i
  rw [List.getElem?_map, List.getElem?_map]
  cases hq : qs[i]? with
  | none => rw [List.getElem?_eq_none_iff.2 (by rw [← h.1]; exact List.getElem?_eq_none_iff.1 hq)]
  | some q =>
    obtain ⟨p, hp, _, h3, _⟩ := h.2 i q hq
    rw [hp]; simp [h3]

set_option maxRecDepth 100000 in
set_option maxHeartbeats 12800000 in
theorem openArena_any (d : Int) (n1 c1 n2 c2 n3 c3 : Nat) (A1 A2 A3 : Option Addr) (ns : List NV) (fs : List Int) (rs : List RV) (w : World) (hp : ArenaL w A1 A2 A3 n1 n2 n3 ns fs rs) (hn3 : n3 ≤ 1048576) :
    Calls Tryz.prog 49 #[.agg #[.int .i64 d, .slice A1 n1 c1, .slice A2 n2 c2, .slice A3 n3 c3]] w fun e w' => Below w.heap.size w w' ∧ ((arenaF d (ns.map NV.val) fs (rs.map RV.val) ≠ 0 ∧ e = .returned (.tuple #[.pointer none, .int .i64 (arenaF d (ns.map NV.val) fs (rs.map RV.val))])) ∨ (arenaF d (ns.map NV.val) fs (rs.map RV.val) = 0 ∧ ∃ G, e = .returned (.tuple #[.pointer (some ⟨G, 0, none⟩), .int .i64 0]) ∧ Opened w w' d n1 n3 (ns.map NV.val) fs (rs.map RV.val) G)) := by
  have HP := Lib.hid hp
  have m1 := hp.m1
  have m2 := hp.m2
  have m3 := hp.m3
  have HL1 : Hid ((ns.map NV.val).length = n1) := by show List.length _ = n1; rw [List.length_map]; exact hp.N.1
  clear hp
  have B := Lib.hid (below_alloc w (.cells #[.int .i64 d, .slice A1 n1 c1, .slice A2 n2 c2, .slice A3 n3 c3] 26))
  have L_a := Lib.hid (Lies.new w 26 #[.int .i64 d, .slice A1 n1 c1, .slice A2 n2 c2, .slice A3 n3 c3])
  have hmm := @run_makeMap Tryz.prog
  go_enter Tryz.func49, Tryz.ntmps49
  go_wp2_with fail
  refine (groundFault_any _ _ _).mono ?_
  rintro e W1 ⟨rfl, b1⟩
  replace L_a := Lib.hid (L_a.out.kept b1 L_a.out.inside)
  replace B := Lib.hid (B.out.trans (b1.mono B.out.size))
  clear b1
  by_cases hd : 2 ≤ d ∧ d ≤ 3
  rotate_left
  · have HF := Lib.hid (arenaF_dim (ns := ns.map NV.val) (fs := fs) (rs := rs.map RV.val) hd)
    have HG : Hid (groundF d (n1 : Int) = 3) := by show groundF _ _ = _; unfold groundF; rw [if_neg hd]
    rw [HG.out]
    go_wp2
    go_ret2
    exact ⟨B.out, Or.inl ⟨by rw [HF.out]; decide, ret_two rfl (int_val HF.out.symm)⟩⟩
  by_cases hm : 4 ≤ n1 ∧ n1 ≤ 40
  rotate_left
  · have HF := Lib.hid (arenaF_many (fs := fs) (rs := rs.map RV.val) hd (show ¬ (4 ≤ (ns.map NV.val).length ∧ (ns.map NV.val).length ≤ 40) by rw [HL1.out]; exact hm))
    have HG : Hid (groundF d (n1 : Int) = 2) := by show groundF _ _ = _; unfold groundF; rw [if_pos hd, if_neg (by omega)]
    rw [HG.out]
    go_wp2
    go_ret2
    exact ⟨B.out, Or.inl ⟨by rw [HF.out]; decide, ret_two rfl (int_val HF.out.symm)⟩⟩
  have HD := Lib.hid hd
  have HM : Hid (4 ≤ (ns.map NV.val).length ∧ (ns.map NV.val).length ≤ 40) := by show _ ∧ _; rw [HL1.out]; exact hm
  have HG : Hid (groundF d (n1 : Int) = 0) := by show groundF _ _ = _; unfold groundF; rw [if_pos hd, if_pos (by omega)]
  rw [HG.out]
  clear hd
  have a0 : W1.cell? ⟨w.heap.size, 0, none⟩ = some (.int .i64 d) := L_a.out.cell 0
  have bM := Lib.hid (below_alloc W1 (.map #[] 0))
  have PM := Lib.hid ((PMap.made W1).kept (below_alloc (W1.alloc (.map #[] 0)) (.cells #[.int .i64 d, .slice none 0 0, .map (some W1.heap.size), .slice none 0 0] 109)))
  have LG := Lib.hid (Lies.laid2 W1 (.map #[] 0) 109 #[.int .i64 d, .slice none 0 0, .map (some W1.heap.size), .slice none 0 0])
  replace L_a := Lib.hid ((L_a.out.alloc (.map #[] 0)).alloc (.cells #[.int .i64 d, .slice none 0 0, .map (some W1.heap.size), .slice none 0 0] 109))
  have hw1 := B.out.size
  replace B := Lib.hid ((B.out.alloc B.out.size (.map #[] 0)).alloc (by simp only [World.size_alloc]; omega) (.cells #[.int .i64 d, .slice none 0 0, .map (some W1.heap.size), .slice none 0 0] 109))
  have a1 : ((W1.alloc (.map #[] 0)).alloc (.cells #[.int .i64 d, .slice none 0 0, .map (some W1.heap.size), .slice none 0 0] 109)).cell? ⟨w.heap.size, 1, none⟩ = some (.slice A1 n1 c1) := L_a.out.cell 1
  go_wp2_with fail
  have hs2 : ((W1.alloc (.map #[] 0)).alloc (.cells #[.int .i64 d, .slice none 0 0, .map (some W1.heap.size), .slice none 0 0] 109)).heap.size = W1.heap.size + 1 + 1 := by simp only [World.size_alloc]
  clear a0 a1 bM hmm HG
  generalize hW : ((W1.alloc (.map #[] 0)).alloc (.cells #[.int .i64 d, .slice none 0 0, .map (some W1.heap.size), .slice none 0 0] 109)) = W2 at *
  clear hW
  refine (layAll_any d (W1.heap.size + 1) n1 c1 A1 ns (.map (some W1.heap.size)) (.slice none 0 0) w W2 LG.out HP.out.N B.out (by omega) hm.2).mono ?_
  rintro e W3 ⟨rfl, t3, hLaid⟩
  have B3 := Lib.hid (t3.below B.out (fun x hx => by subst hx; omega))
  have La3 := Lib.hid (t3.lies L_a.out (by show ¬ w.heap.size = W1.heap.size + 1; omega))
  have PM3 := Lib.hid (PM.out.block (t3.2.2 W1.heap.size (by omega) (by show ¬ W1.heap.size = W1.heap.size + 1; omega)))
  have hs3 := t3.2.1
  have HLD := Lib.hid hLaid
  clear t3 hLaid L_a B PM LG
  by_cases hz : firstNZ (nodeFv d) (ns.map NV.val) = 0
  rotate_left
  · have hz1 : (firstNZ (nodeFv d) (ns.map NV.val) != 0) = true := by simpa using hz
    have HF := Lib.hid (arenaF_node (fs := fs) (rs := rs.map RV.val) HD.out HM.out hz)
    have HNZ := Lib.hid hz
    clear hz
    go_wp2
    go_ret2
    exact ⟨B3.out, Or.inl ⟨by rw [HF.out]; exact HNZ.out, ret_two rfl (int_val HF.out.symm)⟩⟩
  have hz1 : (firstNZ (nodeFv d) (ns.map NV.val) != 0) = false := by simp [hz]
  have HN := Lib.hid hz
  obtain ⟨ps, v, hU, hvals, hnew⟩ := HLD.out hz
  obtain ⟨pb, cp, rfl, hGr⟩ := hU.grd (by omega)
  have HGr := Lib.hid hGr
  have HV := Lib.hid hvals
  have HNW := Lib.hid hnew
  clear hz HLD hU hvals hnew hGr
  have a2 : W3.cell? ⟨w.heap.size, 2, none⟩ = some (.slice A2 n2 c2) := La3.out.cell 2
  go_wp2_with fail
  refine (freeAll_any d W2.heap.size (W1.heap.size + 1) pb cp n1 n2 c2 A2 fs (.map (some W1.heap.size)) (.slice none 0 0) ps w W3 HGr.out (fun p hp => (HNW.out p hp).1) HP.out.F B3.out (by omega) hs3 hm.2 m2).mono ?_
  rintro e W4 ⟨rfl, b4, hFree⟩
  rw [HV.out] at hFree ⊢
  have B4 := Lib.hid (B3.out.trans (b4.mono (by omega)))
  have La4 := Lib.hid (La3.out.kept b4 (by omega))
  have PM4 := Lib.hid (PM3.out.block (b4.block W1.heap.size (by omega)))
  have hs4 := b4.size
  have HFE := Lib.hid hFree
  clear b4 hFree La3 B3 PM3 a2 HGr
  by_cases hz : freeF (ns.map NV.val) fs = 0
  rotate_left
  · have hz2 : (freeF (ns.map NV.val) fs != 0) = true := by simpa using hz
    have HF := Lib.hid (arenaF_free (rs := rs.map RV.val) HD.out HM.out HN.out hz)
    have HNZ := Lib.hid hz
    clear hz
    go_wp2
    go_ret2
    exact ⟨B4.out, Or.inl ⟨by rw [HF.out]; exact HNZ.out, ret_two rfl (int_val HF.out.symm)⟩⟩
  have hz2 : (freeF (ns.map NV.val) fs != 0) = false := by simp [hz]
  have HZ := Lib.hid hz
  obtain ⟨ps', hG4, hFd⟩ := HFE.out hz
  have HRET : Hid (Ret W4 W2.heap.size (W1.heap.size + 1) W1.heap.size d (.slice none 0 0) pb cp n1 ps' 0 0 [] (fun _ => none)) :=
    ⟨hG4, ⟨rfl, Or.inl ⟨rfl, rfl⟩⟩, fun b e => by simp [Value.ownBlock] at e, PM4.out, by omega, by omega⟩
  have HFR : Hid (∀ (i : Nat) (p : LV), ps'[i]? = some p → p.fr = fs.contains (i : Int)) := by
    intro i p hi
    obtain ⟨q, _, rfl⟩ := hFd.2 i p hi
    rfl
  have HV4 : Hid (ps'.map LV.val = ns.map NV.val) := hFd.vals.trans HV.out
  clear hz HFE hG4 hFd PM4
  have a3 : W4.cell? ⟨w.heap.size, 3, none⟩ = some (.slice A3 n3 c3) := La4.out.cell 3
  go_wp2_with fail
  refine (retireAll_any d W2.heap.size (W1.heap.size + 1) W1.heap.size pb cp n1 n3 c3 A3 rs fs (.slice none 0 0) ps' w W4 HRET.out HFR.out HP.out.R B4.out (by omega) (by omega) (by omega) hm.2 hn3).mono ?_
  rintro e W5 ⟨rfl, b5, hRet⟩
  have B5 := Lib.hid (B4.out.trans b5)
  have hs5 := b5.size
  have HRE := Lib.hid hRet
  have HAF : Hid (arenaF d (ns.map NV.val) fs (rs.map RV.val) = retC n1 fs (rs.map RV.val)) := by
    show arenaF _ _ _ _ = _
    by_cases h1 : firstNZ (retF n1) (rs.map RV.val) = 0
    · rw [arenaF_taken HD.out HM.out HN.out HZ.out (by rw [HL1.out]; exact h1), retC_taken h1]
    · rw [arenaF_ret HD.out HM.out HN.out HZ.out (by rw [HL1.out]; exact h1), HL1.out, retC_stop h1]
  clear b5 hRet La4 B4 a3 HRET
  by_cases hz : retC n1 fs (rs.map RV.val) = 0
  rotate_left
  · have hz3 : (retC n1 fs (rs.map RV.val) != 0) = true := by simpa using hz
    have HNZ := Lib.hid hz
    clear hz
    go_wp2
    go_ret2
    exact ⟨B5.out, Or.inl ⟨by rw [HAF.out]; exact HNZ.out, ret_two rfl (int_val HAF.out.symm)⟩⟩
  have hz3 : (retC n1 fs (rs.map RV.val) != 0) = false := by simp [hz]
  obtain ⟨o', qs, f, hU, hK, hWa⟩ := HRE.out hz
  have HAZ : Hid (arenaF d (ns.map NV.val) fs (rs.map RV.val) = 0) := HAF.out.trans hz
  have OP : Hid (Opened w W5 d n1 n3 (ns.map NV.val) fs (rs.map RV.val) (W1.heap.size + 1)) := by
    refine ⟨W2.heap.size, W1.heap.size, o', pb, cp, qs, f, hU, hK.vals.trans HV4.out, fun i q hq => ?_, by omega, by omega, by omega, hWa, by omega⟩
    obtain ⟨p, hp, _, _, h4⟩ := hK.2 i q hq
    exact h4.trans (HFR.out i p hp)
  clear hz HRE hU hK hWa
  go_wp2
  go_ret2
  exact ⟨B5.out, Or.inr ⟨HAZ.out, W1.heap.size + 1, rfl, OP.out⟩⟩


end Go.Proofs.YtpgoildfjkokiaaGreat
