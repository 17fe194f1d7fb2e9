/- The walk of spec.WithEntry. No condition but lengths. -/
import Derived.Test.YtfpmbkfikfdmkaaSpecOne
import Derived.Test.YtfpmbkfikfdmkaaImplWith
namespace Go.Proofs.Ytfpmbkfikfdmkaa
open Go.RowKit

set_option maxRecDepth 100000 in
set_option maxHeartbeats 6400000 in
theorem specWithEntry_any (lv ns rt d ref nsn : Int) (n c n1 c1 n2 c2 lo1 lo2 : Nat) (A A1 A2 : Option Addr) (ps : List EV) (x1 x2 : List Int) (w : World) (hp : Entries w A n ps) (h1 : Ints w lo1 A1 n1 x1) (h2 : Ints w lo2 A2 n2 x2) (hn : n ≤ maxLen) (m1 : n1 ≤ maxLen) (m2 : n2 ≤ maxLen) :
    Calls Try.prog 43 #[.agg #[.int .i64 lv, .int .i64 ns, .int .i64 rt, .slice A n c], .int .i64 d, .agg #[.slice A1 n1 c1, .slice A2 n2 c2, .int .i64 ref, .int .i64 nsn]] w (ReadPost3 (withR lv ns rt (ps.map EV.val) d (x1, x2, ref, nsn)) w) := by
  have HP := Lib.hid hp
  have I_1 := Lib.hid h1
  have I_2 := Lib.hid h2
  have HL : Hid ((ps.map EV.val).length = n) := by show List.length _ = n; rw [List.length_map]; exact hp.1
  clear hp h1 h2
  have B := Lib.hid (below_alloc w (.cells #[.int .i64 lv, .int .i64 ns, .int .i64 rt, .slice A n c] 61))
  replace B := Lib.hid (B.out.alloc B.out.size (.cells #[.slice A1 n1 c1, .slice A2 n2 c2, .int .i64 ref, .int .i64 nsn] 67))
  replace B := Lib.hid (B.out.alloc B.out.size (.cells #[.int .i64 0, .int .i64 0, .int .i64 0, .int .i64 0, .slice none 0 0] 63))
  have L_n := Lib.hid (((Lies.new w 61 #[.int .i64 lv, .int .i64 ns, .int .i64 rt, .slice A n c]).alloc (.cells #[.slice A1 n1 c1, .slice A2 n2 c2, .int .i64 ref, .int .i64 nsn] 67)).alloc (.cells #[.int .i64 0, .int .i64 0, .int .i64 0, .int .i64 0, .slice none 0 0] 63))
  have L_e := Lib.hid ((Lies.new (w.alloc (.cells #[.int .i64 lv, .int .i64 ns, .int .i64 rt, .slice A n c] 61)) 67 #[.slice A1 n1 c1, .slice A2 n2 c2, .int .i64 ref, .int .i64 nsn]).alloc (.cells #[.int .i64 0, .int .i64 0, .int .i64 0, .int .i64 0, .slice none 0 0] 63))
  have L_r := Lib.hid (Lies.new ((w.alloc (.cells #[.int .i64 lv, .int .i64 ns, .int .i64 rt, .slice A n c] 61)).alloc (.cells #[.slice A1 n1 c1, .slice A2 n2 c2, .int .i64 ref, .int .i64 nsn] 67)) 63 #[.int .i64 0, .int .i64 0, .int .i64 0, .int .i64 0, .slice none 0 0])
  simp only [World.size_alloc] at L_e L_r
  go_enter Try.func43, Try.ntmps43
  go_wp2_with fail
  refine (specNodeFault_any _ _ _ _ _ _ _ ps _ (HP.out.kept B.out) hn).mono ?_
  rintro e W1 ⟨rfl, b1⟩
  replace L_n := Lib.hid (L_n.out.kept b1 L_n.out.inside)
  replace L_e := Lib.hid (L_e.out.kept b1 L_e.out.inside)
  replace L_r := Lib.hid (L_r.out.kept b1 L_r.out.inside)
  replace B := Lib.hid (B.out.trans (b1.mono B.out.size))
  clear b1
  by_cases hz : nodeF lv ns rt (ps.map EV.val) d = 0
  rotate_left
  · have hz1 : (nodeF lv ns rt (ps.map EV.val) d != 0) = true := by simpa using hz
    have HR : Hid (withR lv ns rt (ps.map EV.val) d (x1, x2, ref, nsn) = (nodeF lv ns rt (ps.map EV.val) d, 0, 0, 0, [])) := withR_no (by unfold withC; rw [if_pos hz]) hz
    clear hz
    have z0 : W1.cell? ⟨w.heap.size + 1 + 1, 0, none⟩ = some (.int .i64 0) := L_r.out.cell 0
    have y0 : W1.frozen? ⟨w.heap.size + 1 + 1, 0, none⟩ = false := L_r.out.thawed 0
    have z1 : W1.cell? ⟨w.heap.size + 1 + 1, 1, none⟩ = some (.int .i64 0) := L_r.out.cell 1
    have y1 : W1.frozen? ⟨w.heap.size + 1 + 1, 1, none⟩ = false := L_r.out.thawed 1
    have z2 : W1.cell? ⟨w.heap.size + 1 + 1, 2, none⟩ = some (.int .i64 0) := L_r.out.cell 2
    have y2 : W1.frozen? ⟨w.heap.size + 1 + 1, 2, none⟩ = false := L_r.out.thawed 2
    have z3 : W1.cell? ⟨w.heap.size + 1 + 1, 3, none⟩ = some (.int .i64 0) := L_r.out.cell 3
    have y3 : W1.frozen? ⟨w.heap.size + 1 + 1, 3, none⟩ = false := L_r.out.thawed 3
    have z4 : W1.cell? ⟨w.heap.size + 1 + 1, 4, none⟩ = some (.slice none 0 0) := L_r.out.cell 4
    have y4 : W1.frozen? ⟨w.heap.size + 1 + 1, 4, none⟩ = false := L_r.out.thawed 4
    go_wp2
    refine bodyPost_ret (v := .agg #[.int .i64 (nodeF lv ns rt (ps.map EV.val) d), .int .i64 0, .int .i64 0, .int .i64 0, .slice none 0 0]) (by simp [results, Try.results43, go_sem, z0, z1, z2, z3, z4]) rfl ?_
    refine ⟨none, 0, 0, [], by rw [HR.out], EntF.nil _ _ _ _, by rw [HR.out]; rfl, by decide, ?_⟩
    with_reducible (repeat (first | exact B.out | refine Below.setCell ?_ ?_ _))
    all_goals (show w.heap.size ≤ w.heap.size + 1 + 1; omega)
  have hz1 : (nodeF lv ns rt (ps.map EV.val) d != 0) = false := by simp [hz]
  have HZ := Lib.hid hz
  obtain ⟨hok, hn5, hent, _, htw⟩ := nodeF_zero hz
  have HE := Lib.hid (lens_of hent)
  have hd2 : 2 ≤ d := hok.1.1
  have hd3 : d ≤ 3 := hok.1.2
  have hn5' : n ≤ 5 := by rw [HL.out] at hn5; exact hn5
  clear hz hok hent hn5 htw
  have q0 : W1.cell? ⟨w.heap.size + 1, 0, none⟩ = some (.slice A1 n1 c1) := L_e.out.cell 0
  have q1 : W1.cell? ⟨w.heap.size + 1, 0 + 1, none⟩ = some (.slice A2 n2 c2) := L_e.out.cell 1
  have q2 : W1.cell? ⟨w.heap.size + 1, 0 + 2, none⟩ = some (.int .i64 ref) := L_e.out.cell 2
  have q3 : W1.cell? ⟨w.heap.size + 1, 0 + 3, none⟩ = some (.int .i64 nsn) := L_e.out.cell 3
  go_wp2_with fail
  refine (l3Entry_any d ref nsn (w.heap.size + 1) 0 n1 c1 n2 c2 A1 A2 x1 x2 _ L_e.out.inside q0 q1 q2 q3 ((I_1.out.kept B.out).lower (Nat.zero_le _)) ((I_2.out.kept B.out).lower (Nat.zero_le _)) m1 m2).mono ?_
  rintro e W2 ⟨rfl, b2⟩
  clear q0 q1 q2 q3
  replace L_n := Lib.hid (L_n.out.kept b2 L_n.out.inside)
  replace L_e := Lib.hid (L_e.out.kept b2 L_e.out.inside)
  replace L_r := Lib.hid (L_r.out.kept b2 L_r.out.inside)
  replace B := Lib.hid (B.out.trans (b2.mono B.out.size))
  clear b2
  by_cases hg : entF d (x1, x2, ref, nsn) = 0
  rotate_left
  · have hg1 : (entF d (x1, x2, ref, nsn) != 0) = true := by simpa using hg
    have HR : Hid (withR lv ns rt (ps.map EV.val) d (x1, x2, ref, nsn) = (entF d (x1, x2, ref, nsn), 0, 0, 0, [])) := withR_no (by unfold withC; rw [if_neg (by simp [HZ.out]), if_pos hg]) hg
    clear hg
    have z0 : W2.cell? ⟨w.heap.size + 1 + 1, 0, none⟩ = some (.int .i64 0) := L_r.out.cell 0
    have y0 : W2.frozen? ⟨w.heap.size + 1 + 1, 0, none⟩ = false := L_r.out.thawed 0
    have z1 : W2.cell? ⟨w.heap.size + 1 + 1, 1, none⟩ = some (.int .i64 0) := L_r.out.cell 1
    have y1 : W2.frozen? ⟨w.heap.size + 1 + 1, 1, none⟩ = false := L_r.out.thawed 1
    have z2 : W2.cell? ⟨w.heap.size + 1 + 1, 2, none⟩ = some (.int .i64 0) := L_r.out.cell 2
    have y2 : W2.frozen? ⟨w.heap.size + 1 + 1, 2, none⟩ = false := L_r.out.thawed 2
    have z3 : W2.cell? ⟨w.heap.size + 1 + 1, 3, none⟩ = some (.int .i64 0) := L_r.out.cell 3
    have y3 : W2.frozen? ⟨w.heap.size + 1 + 1, 3, none⟩ = false := L_r.out.thawed 3
    have z4 : W2.cell? ⟨w.heap.size + 1 + 1, 4, none⟩ = some (.slice none 0 0) := L_r.out.cell 4
    have y4 : W2.frozen? ⟨w.heap.size + 1 + 1, 4, none⟩ = false := L_r.out.thawed 4
    go_wp2
    refine bodyPost_ret (v := .agg #[.int .i64 (entF d (x1, x2, ref, nsn)), .int .i64 0, .int .i64 0, .int .i64 0, .slice none 0 0]) (by simp [results, Try.results43, go_sem, z0, z1, z2, z3, z4]) rfl ?_
    refine ⟨none, 0, 0, [], by rw [HR.out], EntF.nil _ _ _ _, by rw [HR.out]; rfl, by decide, ?_⟩
    with_reducible (repeat (first | exact B.out | refine Below.setCell ?_ ?_ _))
    all_goals (show w.heap.size ≤ w.heap.size + 1 + 1; omega)
  have hg1 : (entF d (x1, x2, ref, nsn) != 0) = false := by simp [hg]
  have HG := Lib.hid hg
  clear hg
  have q2 : W2.cell? ⟨w.heap.size + 1, 2, none⟩ = some (.int .i64 ref) := L_e.out.cell 2
  have q3 : W2.cell? ⟨w.heap.size + 1, 3, none⟩ = some (.int .i64 nsn) := L_e.out.cell 3
  have k0 : W2.cell? ⟨w.heap.size, 0, none⟩ = some (.int .i64 lv) := L_n.out.cell 0
  have k1 : W2.cell? ⟨w.heap.size, 1, none⟩ = some (.int .i64 ns) := L_n.out.cell 1
  have k2 : W2.cell? ⟨w.heap.size, 2, none⟩ = some (.int .i64 rt) := L_n.out.cell 2
  have k3 : W2.cell? ⟨w.heap.size, 3, none⟩ = some (.slice A n c) := L_n.out.cell 3
  go_wp2_with fail
  refine (l3Fits_any lv ref nsn (w.heap.size + 1) 0 x1 x2 _ q2 q3).mono ?_
  rintro e w' ⟨rfl, rfl⟩
  by_cases hf : fitsE lv (x1, x2, ref, nsn) = false
  · have HR : Hid (withR lv ns rt (ps.map EV.val) d (x1, x2, ref, nsn) = (1, 0, 0, 0, [])) := withR_no (by unfold withC; rw [if_neg (by simp [HZ.out]), if_neg (by simp [HG.out]), if_pos hf]) (by decide)
    have z0 : W2.cell? ⟨w.heap.size + 1 + 1, 0, none⟩ = some (.int .i64 0) := L_r.out.cell 0
    have y0 : W2.frozen? ⟨w.heap.size + 1 + 1, 0, none⟩ = false := L_r.out.thawed 0
    have z1 : W2.cell? ⟨w.heap.size + 1 + 1, 1, none⟩ = some (.int .i64 0) := L_r.out.cell 1
    have y1 : W2.frozen? ⟨w.heap.size + 1 + 1, 1, none⟩ = false := L_r.out.thawed 1
    have z2 : W2.cell? ⟨w.heap.size + 1 + 1, 2, none⟩ = some (.int .i64 0) := L_r.out.cell 2
    have y2 : W2.frozen? ⟨w.heap.size + 1 + 1, 2, none⟩ = false := L_r.out.thawed 2
    have z3 : W2.cell? ⟨w.heap.size + 1 + 1, 3, none⟩ = some (.int .i64 0) := L_r.out.cell 3
    have y3 : W2.frozen? ⟨w.heap.size + 1 + 1, 3, none⟩ = false := L_r.out.thawed 3
    have z4 : W2.cell? ⟨w.heap.size + 1 + 1, 4, none⟩ = some (.slice none 0 0) := L_r.out.cell 4
    have y4 : W2.frozen? ⟨w.heap.size + 1 + 1, 4, none⟩ = false := L_r.out.thawed 4
    go_wp2
    refine bodyPost_ret (v := .agg #[.int .i64 1, .int .i64 0, .int .i64 0, .int .i64 0, .slice none 0 0]) (by simp [results, Try.results43, go_sem, z0, z1, z2, z3, z4]) rfl ?_
    refine ⟨none, 0, 0, [], by rw [HR.out], EntF.nil _ _ _ _, by rw [HR.out]; rfl, by decide, ?_⟩
    with_reducible (repeat (first | exact B.out | refine Below.setCell ?_ ?_ _))
    all_goals (show w.heap.size ≤ w.heap.size + 1 + 1; omega)
  have hf1 : fitsE lv (x1, x2, ref, nsn) = true := by simpa using hf
  go_wp2_with fail
  refine (l3Find_any _ _ _ _ ps _ (HP.out.kept B.out) hn).mono ?_
  rintro e w' ⟨rfl, rfl⟩
  by_cases hi : 0 ≤ findE ref (ps.map EV.val)
  · have HR : Hid (withR lv ns rt (ps.map EV.val) d (x1, x2, ref, nsn) = (6, 0, 0, 0, [])) := withR_no (by unfold withC; rw [if_neg (by simp [HZ.out]), if_neg (by simp [HG.out]), if_neg (by simp [hf1]), if_pos hi]) (by decide)
    have z0 : W2.cell? ⟨w.heap.size + 1 + 1, 0, none⟩ = some (.int .i64 0) := L_r.out.cell 0
    have y0 : W2.frozen? ⟨w.heap.size + 1 + 1, 0, none⟩ = false := L_r.out.thawed 0
    have z1 : W2.cell? ⟨w.heap.size + 1 + 1, 1, none⟩ = some (.int .i64 0) := L_r.out.cell 1
    have y1 : W2.frozen? ⟨w.heap.size + 1 + 1, 1, none⟩ = false := L_r.out.thawed 1
    have z2 : W2.cell? ⟨w.heap.size + 1 + 1, 2, none⟩ = some (.int .i64 0) := L_r.out.cell 2
    have y2 : W2.frozen? ⟨w.heap.size + 1 + 1, 2, none⟩ = false := L_r.out.thawed 2
    have z3 : W2.cell? ⟨w.heap.size + 1 + 1, 3, none⟩ = some (.int .i64 0) := L_r.out.cell 3
    have y3 : W2.frozen? ⟨w.heap.size + 1 + 1, 3, none⟩ = false := L_r.out.thawed 3
    have z4 : W2.cell? ⟨w.heap.size + 1 + 1, 4, none⟩ = some (.slice none 0 0) := L_r.out.cell 4
    have y4 : W2.frozen? ⟨w.heap.size + 1 + 1, 4, none⟩ = false := L_r.out.thawed 4
    go_wp2
    refine bodyPost_ret (v := .agg #[.int .i64 6, .int .i64 0, .int .i64 0, .int .i64 0, .slice none 0 0]) (by simp [results, Try.results43, go_sem, z0, z1, z2, z3, z4]) rfl ?_
    refine ⟨none, 0, 0, [], by rw [HR.out], EntF.nil _ _ _ _, by rw [HR.out]; rfl, by decide, ?_⟩
    with_reducible (repeat (first | exact B.out | refine Below.setCell ?_ ?_ _))
    all_goals (show w.heap.size ≤ w.heap.size + 1 + 1; omega)
  by_cases hm : 5 ≤ n
  · have HR : Hid (withR lv ns rt (ps.map EV.val) d (x1, x2, ref, nsn) = (7, 0, 0, 0, [])) := withR_no (by unfold withC; rw [if_neg (by simp [HZ.out]), if_neg (by simp [HG.out]), if_neg (by simp [hf1]), if_neg hi, if_pos (by rw [HL.out]; exact hm)]) (by decide)
    have z0 : W2.cell? ⟨w.heap.size + 1 + 1, 0, none⟩ = some (.int .i64 0) := L_r.out.cell 0
    have y0 : W2.frozen? ⟨w.heap.size + 1 + 1, 0, none⟩ = false := L_r.out.thawed 0
    have z1 : W2.cell? ⟨w.heap.size + 1 + 1, 1, none⟩ = some (.int .i64 0) := L_r.out.cell 1
    have y1 : W2.frozen? ⟨w.heap.size + 1 + 1, 1, none⟩ = false := L_r.out.thawed 1
    have z2 : W2.cell? ⟨w.heap.size + 1 + 1, 2, none⟩ = some (.int .i64 0) := L_r.out.cell 2
    have y2 : W2.frozen? ⟨w.heap.size + 1 + 1, 2, none⟩ = false := L_r.out.thawed 2
    have z3 : W2.cell? ⟨w.heap.size + 1 + 1, 3, none⟩ = some (.int .i64 0) := L_r.out.cell 3
    have y3 : W2.frozen? ⟨w.heap.size + 1 + 1, 3, none⟩ = false := L_r.out.thawed 3
    have z4 : W2.cell? ⟨w.heap.size + 1 + 1, 4, none⟩ = some (.slice none 0 0) := L_r.out.cell 4
    have y4 : W2.frozen? ⟨w.heap.size + 1 + 1, 4, none⟩ = false := L_r.out.thawed 4
    go_wp2
    refine bodyPost_ret (v := .agg #[.int .i64 7, .int .i64 0, .int .i64 0, .int .i64 0, .slice none 0 0]) (by simp [results, Try.results43, go_sem, z0, z1, z2, z3, z4]) rfl ?_
    refine ⟨none, 0, 0, [], by rw [HR.out], EntF.nil _ _ _ _, by rw [HR.out]; rfl, by decide, ?_⟩
    with_reducible (repeat (first | exact B.out | refine Below.setCell ?_ ?_ _))
    all_goals (show w.heap.size ≤ w.heap.size + 1 + 1; omega)
  have HR : Hid (withR lv ns rt (ps.map EV.val) d (x1, x2, ref, nsn) = (0, lv, ns, rt, ps.map EV.val ++ [(x1, x2, ref, nsn)])) := withR_yes (by unfold withC; rw [if_neg (by simp [HZ.out]), if_neg (by simp [HG.out]), if_neg (by simp [hf1]), if_neg hi, if_neg (by rw [HL.out]; exact hm)])
  have HLE : Hid (x1.length = d.toNat ∧ x2.length = d.toNat) := by
    have hle := rf_len (entF_zero HG.out).1
    simp only at hle
    exact ⟨by omega, by omega⟩
  obtain ⟨i0, hi0, hz0, hz1', hz2⟩ := info_entry4
  have IP := Lib.hid (And.intro hi0 (And.intro hz0 (And.intro hz1' hz2)))
  clear hi0 hz0 hz1' hz2
  go_wp2_with fail
  refine (l3Copy_any lv ns rt w.heap.size n c d.toNat A ps _ L_n.out.inside k0 k1 k2 k3 (HP.out.kept B.out) (by omega) (by omega) (by omega) HE.out).mono ?_
  rintro e W3 ⟨A3, c3, qs, rfl, hrow, vq, b3⟩
  have b3s := b3.size
  have hr2 := L_r.out.inside
  replace L_e := Lib.hid ((L_e.out.kept b3 L_e.out.inside).alloc (.cells #[.int .i64 lv, .int .i64 ns, .int .i64 rt, .slice A3 n c3] 61))
  replace L_r := Lib.hid ((L_r.out.kept b3 L_r.out.inside).alloc (.cells #[.int .i64 lv, .int .i64 ns, .int .i64 rt, .slice A3 n c3] 61))
  have L_o := Lib.hid (Lies.new W3 61 #[.int .i64 lv, .int .i64 ns, .int .i64 rt, .slice A3 n c3])
  replace B := Lib.hid ((B.out.trans (b3.mono B.out.size)).alloc (by have := B.out.size; omega) (.cells #[.int .i64 lv, .int .i64 ns, .int .i64 rt, .slice A3 n c3] 61))
  have hG3 : w.heap.size + 1 + 1 + 1 ≤ W3.heap.size := by omega
  have SW0 : Hid (SW w (W3.alloc (.cells #[.int .i64 lv, .int .i64 ns, .int .i64 rt, .slice A3 n c3] 61)) W3.heap.size n qs (.slice A3 n c3) #[.int .i64 lv, .int .i64 ns, .int .i64 rt, .slice A3 n c3] #[.int .i64 0, .int .i64 0, .int .i64 0, .int .i64 0, .slice none 0 0]) := by
    refine ⟨L_o.out, L_r.out, B.out, ownsRow_lower (hrow.S.alloc _) (by omega), (hrow.R.kept (below_alloc W3 _)).lower (by omega), fun x e => (ownsRow_block2 hrow.S x e).2, fun q hq => ?_, hG3⟩
    obtain ⟨g1, g2, a1, a2, _, _, a5, a6, _⟩ := hrow.R q hq
    rw [a1, a2]; exact ⟨a5, a6⟩
  have VQ := Lib.hid vq
  clear hrow vq b3 q2 q3 k0 k1 k2 k3 L_n L_o L_r
  go_wp2
  generalize hW : (W3.alloc (.cells #[.int .i64 lv, .int .i64 ns, .int .i64 rt, .slice A3 n c3] 61)) = W0 at *
  have hW0 : W0.heap.size = W3.heap.size + 1 := by rw [← hW]; simp only [World.size_alloc]
  have HW0 := Lib.hid hW0
  clear hW hW0
  have k3 : W0.cell? ⟨W3.heap.size, 3, none⟩ = some (.slice A3 n c3) := SW0.out.o.cell 3
  have j0 : W0.cell? ⟨w.heap.size + 1, 0, none⟩ = some (.slice A1 n1 c1) := L_e.out.cell 0
  have j1 : W0.cell? ⟨w.heap.size + 1, 1, none⟩ = some (.slice A2 n2 c2) := L_e.out.cell 1
  have j2 : W0.cell? ⟨w.heap.size + 1, 2, none⟩ = some (.int .i64 ref) := L_e.out.cell 2
  have j3 : W0.cell? ⟨w.heap.size + 1, 3, none⟩ = some (.int .i64 nsn) := L_e.out.cell 3
  have k3a : (W0.alloc (.cells #[.slice A1 n1 c1, .slice A2 n2 c2, .int .i64 ref, .int .i64 nsn] 67)).cell? ⟨W3.heap.size, 3, none⟩ = some (.slice A3 n c3) := (SW0.out.alloc _).o.cell 3
  have SW1 := Lib.hid (SW0.out.alloc (.cells #[.slice A1 n1 c1, .slice A2 n2 c2, .int .i64 ref, .int .i64 nsn] 67))
  have L_b := Lib.hid (Lies.new W0 67 #[.slice A1 n1 c1, .slice A2 n2 c2, .int .i64 ref, .int .i64 nsn])
  have B1 := Lib.hid (B.out.alloc B.out.size (.cells #[.slice A1 n1 c1, .slice A2 n2 c2, .int .i64 ref, .int .i64 nsn] 67))
  have nw1 : ¬ W3.heap.size = W0.heap.size := by have := HW0.out; omega
  have nw2 : ¬ W0.heap.size = W3.heap.size := by have := HW0.out; omega
  go_region_law
    (first
    | (apply step_append_lies (s := .tmp 45) (x := .tmp 48) (t := 40) (base := w.heap.size + 1 + 1 + 1) (e := 67) (i := i0) (z := .agg #[.slice none 0 0, .slice none 0 0, .int .i64 0, .int .i64 0]) (size := 4) (bytes := 64) (v := .slice A3 n c3) (n := n) (xs := qs.flatMap EV.cells) (ad := ⟨g9, 0, none⟩) (m := 1) (c := c9) (news := EV.cells q9) (H := W9.heap.size)
       case hgd => rfl
       case ho => rfl
       case ht => exact Try.underlying40
       case hi => exact IP.out.1
       case hz => exact IP.out.2.1
       case hsize => exact IP.out.2.2.1
       case hby => exact IP.out.2.2.2
       case hzs => rfl
       case hsz => omega
       case hs => rfl
       case hx => rfl
       case hown => with_reducible (repeat (first | exact SW9.out.S | refine World.ownsRow.drew ?_))
       case hl => rfl
       case hnews => exact NEWS.out
       case h1 => simp [Value.oneCell', EV.cells]
       case hm => omega
       case h63 => unfold maxLen; omega
       case hbytes => omega
       case hbase => (try simp only [size_of_drew]); omega
       case hH => (try simp only [size_of_drew])
       intro gg cap2 w1 hown1 hgrow hat hlt1
       have PUT := Lib.hid (SW.put (w := w) (W := W9) SW9.out RD9.out hlo9 hown1 hgrow (hat.imp id fun h => Nat.le_of_eq h.symm))
       have s3 : w1.cell? ⟨W3.heap.size, 3, none⟩ = some (.slice A3 n c3) := PUT.out.1.cell 3
       have f3 : w1.frozen? ⟨W3.heap.size, 3, none⟩ = false := PUT.out.1.thawed 3
       clear hown1 hgrow hat hlt1)
    | (go_simp; go_at_call 92; refine (l3One_any ref nsn W0.heap.size n1 c1 n2 c2 lo1 lo2 d.toNat A1 A2 x1 x2 _ L_b.out.drew (I_1.out.kept B1.out.drew) (I_2.out.kept B1.out.drew) m1 m2 (by omega) (by omega) HLE.out).mono ?_
       rintro e W9 ⟨g9, c9, q9, rfl, v9, hg9, hnews9, rd9, b9⟩
       have V9 := Lib.hid v9
       have NEWS := Lib.hid hnews9
       have RD9 := Lib.hid rd9
       have SW9 := Lib.hid (SW1.out.drew.call b9)
       have hlo9 : W3.heap.size < (W0.alloc (.cells #[.slice A1 n1 c1, .slice A2 n2 c2, .int .i64 ref, .int .i64 nsn] 67)).drew.heap.size := by simp only [size_of_drew, World.size_alloc]; have := HW0.out; omega
       have hsz9 : w.heap.size + 1 + 1 + 1 ≤ W9.heap.size := by have := SW9.out.o.inside; omega
       have k9 : W9.cell? ⟨W3.heap.size, 3, none⟩ = some (.slice A3 n c3) := SW9.out.o.cell 3
       clear v9 hg9 hnews9 rd9 b9
       dsimp only))
  all_goals
    have HV : Hid ((qs ++ [q9]).map EV.val = ps.map EV.val ++ [(x1, x2, ref, nsn)]) := by show List.map _ _ = _; rw [List.map_append, VQ.out]; simp [V9.out]
    have FA : Hid (∀ (W : World) (x : Nat) (o : Nat) (v : Value), x = W3.heap.size ∨ x = w.heap.size + 1 + 1 → Entries W (some ⟨gg, 0, none⟩) (n + 1) (qs ++ [q9]) → Entries (W.setCell ⟨x, o, none⟩ v) (some ⟨gg, 0, none⟩) (n + 1) (qs ++ [q9])) := by
      intro W x o v hx hE
      obtain ⟨_, _, _, _, hQ, e1, e2, _⟩ := PUT.out
      refine hE.farOf (fun _ => ⟨gg, rfl, by show gg ≠ x; omega⟩) (fun q hq => ?_) v
      obtain ⟨g1, g2, a1, a2, a3, a4⟩ := hQ q hq
      exact ⟨g1, g2, a1, a2, by show g1 ≠ x; omega, by show g2 ≠ x; omega⟩
    have o0 : w1.cell? ⟨W3.heap.size, 0, none⟩ = some (.int .i64 lv) := PUT.out.1.cell 0
    have o1 : w1.cell? ⟨W3.heap.size, 1, none⟩ = some (.int .i64 ns) := PUT.out.1.cell 1
    have o2 : w1.cell? ⟨W3.heap.size, 2, none⟩ = some (.int .i64 rt) := PUT.out.1.cell 2
    have nb1 : ¬ w.heap.size + 1 + 1 = W3.heap.size := by omega
    have nb2 : ¬ W3.heap.size = w.heap.size + 1 + 1 := by omega
    have L_r := Lib.hid PUT.out.2.1
    have BB := Lib.hid PUT.out.2.2.1
    have HEK := Lib.hid PUT.out.2.2.2.1
    have HQF := Lib.hid PUT.out.2.2.2.2
    clear PUT
    have z0 : w1.cell? ⟨w.heap.size + 1 + 1, 0, none⟩ = some (.int .i64 0) := L_r.out.cell 0
    have y0 : w1.frozen? ⟨w.heap.size + 1 + 1, 0, none⟩ = false := L_r.out.thawed 0
    have z1 : w1.cell? ⟨w.heap.size + 1 + 1, 1, none⟩ = some (.int .i64 0) := L_r.out.cell 1
    have y1 : w1.frozen? ⟨w.heap.size + 1 + 1, 1, none⟩ = false := L_r.out.thawed 1
    have z2 : w1.cell? ⟨w.heap.size + 1 + 1, 2, none⟩ = some (.int .i64 0) := L_r.out.cell 2
    have y2 : w1.frozen? ⟨w.heap.size + 1 + 1, 2, none⟩ = false := L_r.out.thawed 2
    have z3 : w1.cell? ⟨w.heap.size + 1 + 1, 3, none⟩ = some (.int .i64 0) := L_r.out.cell 3
    have y3 : w1.frozen? ⟨w.heap.size + 1 + 1, 3, none⟩ = false := L_r.out.thawed 3
    have z4 : w1.cell? ⟨w.heap.size + 1 + 1, 4, none⟩ = some (.slice none 0 0) := L_r.out.cell 4
    have y4 : w1.frozen? ⟨w.heap.size + 1 + 1, 4, none⟩ = false := L_r.out.thawed 4
    go_wp2
    refine bodyPost_ret (v := .agg #[.int .i64 0, .int .i64 lv, .int .i64 ns, .int .i64 rt, .slice (some ⟨gg, 0, none⟩) (n + 1) cap2]) (by simp [results, Try.results43, go_sem, z0, z1, z2, z3, z4, nb1, nb2]) rfl ?_
    refine ⟨some ⟨gg, 0, none⟩, n + 1, cap2, qs ++ [q9], by rw [HR.out], ?_, by rw [HR.out]; exact HV.out, by omega, ?_⟩
    · refine ⟨?_, fun _ => ⟨gg, rfl, HQF.out.2.2.2, ?_⟩, fun q hq => ?_⟩
      rotate_left
      · simp only [size_of_setCell]
        obtain ⟨b, o, e, hb, _⟩ := HEK.out.2.1 (Nat.succ_pos _)
        injection e with e; injection e with e; omega
      · obtain ⟨g1, g2, a1, a2, a3, a4⟩ := HQF.out.1 q hq
        simp only [size_of_setCell]
        exact ⟨g1, g2, a1, a2, a3.2.2, a4.2.2⟩
      exact FA.out _ _ _ _ (Or.inr rfl) (FA.out _ _ _ _ (Or.inr rfl) (FA.out _ _ _ _ (Or.inr rfl) (FA.out _ _ _ _ (Or.inr rfl) (FA.out _ _ _ _ (Or.inr rfl) (FA.out _ _ _ _ (Or.inl rfl) HEK.out)))))
    · with_reducible (repeat (first | exact BB.out | refine Below.setCell ?_ ?_ _))
      all_goals (first | (show w.heap.size ≤ w.heap.size + 1 + 1; omega) | (show w.heap.size ≤ W3.heap.size; omega))

end Go.Proofs.Ytfpmbkfikfdmkaa
