/- The walks of spec.l2Copy and spec.FindPair. -/
import Derived.Test.YtpgoildfjkokiabFindMath
import Derived.Test.YtpgoildfjkokiabFindPair
import Derived.Test.YtpgoildfjkokiabCopy2
import Derived.Test.YtpgoildfjkokiabHeldLast
import Derived.Deep.RegionHeldLaw
import Derived.Deep.Cut
namespace Go.Proofs.Ytpgoildfjkokiab
open Go.RowKit

set_option maxRecDepth 100000 in
set_option maxHeartbeats 3200000 in
theorem l2Copy_any (id : Int) (b f n c1 c2 lo1 lo2 : Nat) (A1 A2 : Option Addr) (x1 x2 : List Int) (w : World) (hb : b < w.heap.size) (k0 : w.cell? ⟨b, f, none⟩ = some (.int .i64 id)) (k1 : w.cell? ⟨b, f + 1, none⟩ = some (.slice A1 n c1)) (k2 : w.cell? ⟨b, f + 2, none⟩ = some (.slice A2 n c2)) (h1 : Ints w lo1 A1 n x1) (h2 : Ints w lo2 A2 n x2) (hn : 0 < n) (hn3 : n ≤ 3) :
    Calls Try.prog 16 #[.pointer (some ⟨b, f, none⟩)] w fun e w' => ∃ g cap g' cap', e = .returned (.agg #[.int .i64 id, .slice (some ⟨g, 0, none⟩) n cap, .slice (some ⟨g', 0, none⟩) n cap']) ∧ Ints w' w.heap.size (some ⟨g, 0, none⟩) n x1 ∧ Ints w' w.heap.size (some ⟨g', 0, none⟩) n x2 ∧ Below w.heap.size w w' := by
  have B := Lib.hid (below_alloc w (.cells #[.int .i64 0, .slice none 0 0, .slice none 0 0] 28))
  have L_r := Lib.hid (Lies.new w 28 #[.int .i64 0, .slice none 0 0, .slice none 0 0])
  have I_1 := Lib.hid h1
  have I_2 := Lib.hid h2
  clear h1 h2
  have k_0 : (w.alloc (.cells #[.int .i64 0, .slice none 0 0, .slice none 0 0] 28)).cell? ⟨b, f, none⟩ = some (.int .i64 id) := (B.out.cell (p := ⟨b, f, none⟩) hb).trans k0
  have K1 := Lib.hid ((B.out.cell (p := ⟨b, f + 1, none⟩) hb).trans k1)
  have K2 := Lib.hid ((B.out.cell (p := ⟨b, f + 1 + 1, none⟩) hb).trans k2)
  clear k0 k1 k2
  have hs0 : w.heap.size < (w.alloc (.cells #[.int .i64 0, .slice none 0 0, .slice none 0 0] 28)).heap.size := L_r.out.inside
  go_enter Try.func16, Try.ntmps16
  go_upto_region 1 with fail
  generalize hW : w.alloc (.cells #[.int .i64 0, .slice none 0 0, .slice none 0 0] 28) = W0 at *
  clear hW
  have hb0 : b < W0.heap.size := Nat.lt_of_lt_of_le hb B.out.size
  refine wp_region_last 9 (fun w' => w'.cell? ⟨b, f, none⟩ = some (.int .i64 id)) (by kernel_rfl) (k_0) (fun hHeld => ?_)
  apply wpAnyL_take (i := 0)
  · simp only [List.getElem?_toArray, List.getElem?_cons_succ, List.getElem?_cons_zero]; exact rfl
  refine ⟨⟨by kernel_rfl, by kernel_rfl, by kernel_rfl, by kernel_rfl, by kernel_rfl⟩, fun _ _ _ h => h, ?_, hHeld, ?_⟩
  · intro w hSw; (try dsimp only at hSw); go_simp; all_goals (with_reducible rfl)
  (try simp only [Act.put, List.setIfInBounds_toArray, List.set_cons_zero, List.set_cons_succ])
  apply wpAnyL_take (i := 1)
  · simp only [List.getElem?_toArray, List.getElem?_cons_succ, List.getElem?_cons_zero]; exact rfl
  refine ⟨⟨by kernel_rfl, by kernel_rfl, by kernel_rfl, by kernel_rfl, by kernel_rfl⟩, fun _ _ _ h => h, ?_, hHeld, ?_⟩
  · intro w hSw; (try dsimp only at hSw); go_simp; all_goals (with_reducible rfl)
  (try simp only [Act.put, List.setIfInBounds_toArray, List.set_cons_zero, List.set_cons_succ])
  apply wpAnyL_take (i := 2)
  · simp only [List.getElem?_toArray, List.getElem?_cons_succ, List.getElem?_cons_zero]; exact rfl
  refine ⟨⟨by kernel_rfl, by kernel_rfl, by kernel_rfl, by kernel_rfl, by kernel_rfl⟩, fun _ _ _ h => h, ?_, hHeld, ?_⟩
  · intro w hSw; (try dsimp only at hSw); go_simp; all_goals (with_reducible rfl)
  (try simp only [Act.put, List.setIfInBounds_toArray, List.set_cons_zero, List.set_cons_succ])
  apply wpAnyL_take (i := 3)
  · simp only [List.getElem?_toArray, List.getElem?_cons_succ, List.getElem?_cons_zero]; exact rfl
  refine ⟨⟨by kernel_rfl, by kernel_rfl, by kernel_rfl, by kernel_rfl, by kernel_rfl⟩, fun _ _ _ h => h, ?_, hHeld, ?_⟩
  · intro w hSw; (try dsimp only at hSw); go_simp; all_goals (with_reducible rfl)
  (try simp only [Act.put, List.setIfInBounds_toArray, List.set_cons_zero, List.set_cons_succ])
  apply wpAnyL_take (i := 4)
  · simp only [List.getElem?_toArray, List.getElem?_cons_succ, List.getElem?_cons_zero]; exact rfl
  refine ⟨⟨by kernel_rfl, by kernel_rfl, by kernel_rfl, by kernel_rfl, by kernel_rfl⟩, fun _ _ _ h => h, ?_, hHeld, ?_⟩
  · intro w hSw; (try dsimp only at hSw); go_simp; all_goals (with_reducible rfl)
  (try simp only [Act.put, List.setIfInBounds_toArray, List.set_cons_zero, List.set_cons_succ])
  apply wpAnyL_take (i := 5)
  · simp only [List.getElem?_toArray, List.getElem?_cons_succ, List.getElem?_cons_zero]; exact rfl
  refine ⟨⟨by kernel_rfl, by kernel_rfl, by kernel_rfl, by kernel_rfl, by kernel_rfl⟩, fun _ _ _ h => h, ?_, hHeld, ?_⟩
  · intro w hSw; (try dsimp only at hSw); go_simp; all_goals (with_reducible rfl)
  (try simp only [Act.put, List.setIfInBounds_toArray, List.set_cons_zero, List.set_cons_succ])
  apply wpAnyL_take (i := 6)
  · simp only [List.getElem?_toArray, List.getElem?_cons_succ, List.getElem?_cons_zero]; exact rfl
  refine ⟨⟨by kernel_rfl, by kernel_rfl, by kernel_rfl, by kernel_rfl, by kernel_rfl⟩, fun _ _ _ h => h, ?_, hHeld, ?_⟩
  · intro w hSw; (try dsimp only at hSw); go_simp; all_goals (with_reducible rfl)
  (try simp only [Act.put, List.setIfInBounds_toArray, List.set_cons_zero, List.set_cons_succ])
  apply wpAnyL_one (i := 7)
  · simp only [List.getElem?_toArray, List.getElem?_cons_succ, List.getElem?_cons_zero]; exact rfl
  refine ⟨by kernel_rfl, fun K hK => ?_⟩
  go_simp
  go_at_call 28
  refine (l1Copy_any _ _ _ _ _ _ _ _ _ x1 x2 W0.drew hb0 K1.out K2.out (I_1.out.kept B.out.drew) (I_2.out.kept B.out.drew) hn hn3).mono ?_
  rintro e W1 ⟨g, cap, g', cap', rfl, j1, j2, b1d⟩
  have b1 := below_drawn b1d
  have hb1 := b1.size
  have J_1 := Lib.hid (j1.lower (show W0.heap.size ≤ _ from Nat.le_refl _))
  have J_2 := Lib.hid (j2.lower (show W0.heap.size ≤ _ from Nat.le_refl _))
  have B2 := Lib.hid (B.out.trans (b1.mono B.out.size))
  have l2 := Lib.hid (L_r.out.kept b1 L_r.out.inside)
  have k_1 : W1.cell? ⟨b, f, none⟩ = some (.int .i64 id) := (b1.cell (p := ⟨b, f, none⟩) hb0).trans k_0
  have c_r0 : W1.cell? ⟨w.heap.size, 0, none⟩ = some (.int .i64 0) := l2.out.cell 0
  have c_r1 : W1.cell? ⟨w.heap.size, 1, none⟩ = some (.slice none 0 0) := l2.out.cell 1
  have c_r2 : W1.cell? ⟨w.heap.size, 2, none⟩ = some (.slice none 0 0) := l2.out.cell 2
  have f_r0 : W1.frozen? ⟨w.heap.size, 0, none⟩ = false := l2.out.thawed 0
  have f_r1 : W1.frozen? ⟨w.heap.size, 1, none⟩ = false := l2.out.thawed 1
  have f_r2 : W1.frozen? ⟨w.heap.size, 2, none⟩ = false := l2.out.thawed 2
  clear b1d j1 j2
  have hS_7 := k_1
  refine hK.out _ _ (fun _ => hS_7) ?_
  clear hK K
  (try simp only [Act.put, List.setIfInBounds_toArray, List.set_cons_zero, List.set_cons_succ])
  apply wpAnyL_take (i := 8)
  · simp only [List.getElem?_toArray, List.getElem?_cons_succ, List.getElem?_cons_zero]; exact rfl
  refine ⟨⟨by kernel_rfl, by kernel_rfl, by kernel_rfl, by kernel_rfl, by kernel_rfl⟩, fun _ _ _ h => h, ?_, hS_7, ?_⟩
  · intro w hSw; (try dsimp only at hSw); go_simp; all_goals (with_reducible rfl)
  (try simp only [Act.put, List.setIfInBounds_toArray, List.set_cons_zero, List.set_cons_succ])
  apply wpAnyL_one (i := 9)
  · simp only [List.getElem?_toArray, List.getElem?_cons_succ, List.getElem?_cons_zero]; exact rfl
  refine ⟨by kernel_rfl, fun K hK => ?_⟩
  go_simp
  refine hK.out _ _ (fun h => absurd rfl h) ?_
  clear hK K
  refine wpAnyL_done (by kernel_rfl) ?_ _
  clear k_0 k_1 hHeld hS_7
  go_wp2
  refine bodyPost_ret (v := .agg #[.int .i64 id, .slice (some ⟨g, 0, none⟩) n cap, .slice (some ⟨g', 0, none⟩) n cap']) (by simp [results, Try.results16, go_sem, c_r0, c_r1, c_r2]) rfl ⟨g, cap, g', cap', rfl, ?_, ?_, ?_⟩
  · exact (((J_1.out.far2 (by show w.heap.size < _; omega) _).far2 (by show w.heap.size < _; omega) _).far2 (by show w.heap.size < _; omega) _).lower (by omega)
  · exact (((J_2.out.far2 (by show w.heap.size < _; omega) _).far2 (by show w.heap.size < _; omega) _).far2 (by show w.heap.size < _; omega) _).lower (by omega)
  · exact ((B2.out.setCell (Nat.le_refl _) _).setCell (Nat.le_refl _) _).setCell (Nat.le_refl _) _

/-- What is answered, in memory that the call laid. -/
def FindPost (R : Int × PVal) (w : World) (e : Ending) (w' : World) : Prop :=
  ∃ A c A' c', e = .returned (.agg #[.int .i64 R.1, .int .i64 R.2.1, .slice A R.2.2.1.length c, .slice A' R.2.2.2.length c']) ∧ Ints w' w.heap.size A R.2.2.1.length R.2.2.1 ∧ Ints w' w.heap.size A' R.2.2.2.length R.2.2.2 ∧ Below w.heap.size w w'
theorem FindPost.no {c : Int} {R : Int × PVal} {w w' : World} (hR : R = (c, 0, [], [])) (hb : Below w.heap.size w w') : FindPost R w (.returned (.agg #[.int .i64 c, .int .i64 0, .slice none 0 0, .slice none 0 0])) w' := by
  subst hR
  exact ⟨none, 0, none, 0, rfl, Ints.empty _ _ _, Ints.empty _ _ _, hb⟩

set_option maxRecDepth 100000 in
set_option maxHeartbeats 6400000 in
theorem specFindPair_any (d id : Int) (n c : Nat) (A : Option Addr) (ps : List PV) (w : World) (hp : Pairs w A n ps) (hn : n ≤ maxLen) :
    Calls Try.prog 5 #[.slice A n c, .int .i64 d, .int .i64 id] w (FindPost (findR (ps.map PV.val) d id) w) := by
  have HP := Lib.hid hp
  clear hp
  have B := Lib.hid (below_alloc w (.cells #[.int .i64 0, .int .i64 0, .slice none 0 0, .slice none 0 0] 30))
  have L_r := Lib.hid (Lies.new w 30 #[.int .i64 0, .int .i64 0, .slice none 0 0, .slice none 0 0])
  go_enter Try.func5, Try.ntmps5
  go_wp2_with fail
  refine (specModelFault_any d n c A ps _ (HP.out.kept B.out) hn).mono ?_
  rintro e W1 ⟨rfl, b1⟩
  replace L_r := Lib.hid (L_r.out.kept b1 L_r.out.inside)
  replace B := Lib.hid (B.out.trans (b1.mono B.out.size))
  clear b1
  by_cases hz : mf (ps.map PV.val) d = 0
  rotate_left
  · have hz1 : (mf (ps.map PV.val) d != 0) = true := by simpa using hz
    have HR := Lib.hid (findR_bad (id := id) hz)
    clear hz
    have z0 : W1.cell? ⟨w.heap.size, 0, none⟩ = some (.int .i64 0) := L_r.out.cell 0
    have y0 : W1.frozen? ⟨w.heap.size, 0, none⟩ = false := L_r.out.thawed 0
    have z1 : W1.cell? ⟨w.heap.size, 1, none⟩ = some (.int .i64 0) := L_r.out.cell 1
    have y1 : W1.frozen? ⟨w.heap.size, 1, none⟩ = false := L_r.out.thawed 1
    have z2 : W1.cell? ⟨w.heap.size, 2, none⟩ = some (.slice none 0 0) := L_r.out.cell 2
    have y2 : W1.frozen? ⟨w.heap.size, 2, none⟩ = false := L_r.out.thawed 2
    have z3 : W1.cell? ⟨w.heap.size, 3, none⟩ = some (.slice none 0 0) := L_r.out.cell 3
    have y3 : W1.frozen? ⟨w.heap.size, 3, none⟩ = false := L_r.out.thawed 3
    go_wp2
    refine bodyPost_ret (v := .agg #[.int .i64 (mf (ps.map PV.val) d), .int .i64 0, .slice none 0 0, .slice none 0 0]) (by simp [results, Try.results5, go_sem, z0, z1, z2, z3]) rfl ?_
    with_reducible refine FindPost.no HR.out ?_
    with_reducible (repeat (first | exact B.out | refine Below.setCell ?_ ?_ _))
    all_goals exact Nat.le_refl _
  have hz1 : (mf (ps.map PV.val) d != 0) = false := by simp [hz]
  have HZ := Lib.hid hz
  clear hz
  go_wp2_with fail
  refine (l2At_any id n c A ps _ (HP.out.kept B.out) hn).mono ?_
  rintro e W2 ⟨h, b2⟩
  replace L_r := Lib.hid (L_r.out.kept b2 L_r.out.inside)
  replace B := Lib.hid (B.out.trans (b2.mono B.out.size))
  clear b2
  rcases h with ⟨rfl, hno⟩ | ⟨k, p, rfl, hkn, hk, hid⟩
  · have HR : Hid (findR (ps.map PV.val) d id = (4, 0, [], [])) := findR_none HZ.out (fun v hv => by
      obtain ⟨q, hq, rfl⟩ := List.mem_map.1 hv
      obtain ⟨j, hj⟩ := List.getElem?_of_mem hq
      exact hno j q hj)
    clear hno
    have z0 : W2.cell? ⟨w.heap.size, 0, none⟩ = some (.int .i64 0) := L_r.out.cell 0
    have y0 : W2.frozen? ⟨w.heap.size, 0, none⟩ = false := L_r.out.thawed 0
    have z1 : W2.cell? ⟨w.heap.size, 1, none⟩ = some (.int .i64 0) := L_r.out.cell 1
    have y1 : W2.frozen? ⟨w.heap.size, 1, none⟩ = false := L_r.out.thawed 1
    have z2 : W2.cell? ⟨w.heap.size, 2, none⟩ = some (.slice none 0 0) := L_r.out.cell 2
    have y2 : W2.frozen? ⟨w.heap.size, 2, none⟩ = false := L_r.out.thawed 2
    have z3 : W2.cell? ⟨w.heap.size, 3, none⟩ = some (.slice none 0 0) := L_r.out.cell 3
    have y3 : W2.frozen? ⟨w.heap.size, 3, none⟩ = false := L_r.out.thawed 3
    go_wp2
    refine bodyPost_ret (v := .agg #[.int .i64 (4), .int .i64 0, .slice none 0 0, .slice none 0 0]) (by simp [results, Try.results5, go_sem, z0, z1, z2, z3]) rfl ?_
    with_reducible refine FindPost.no HR.out ?_
    with_reducible (repeat (first | exact B.out | refine Below.setCell ?_ ?_ _))
    all_goals exact Nat.le_refl _
  have hkz : ¬ ((k : Int) < 0) := by omega
  obtain ⟨b, o, id', A1, n1, c1, A2, n2, c2, x1, x2, rfl, hb, d0, d1, d2, hx, i1, i2, m1, m2⟩ := HP.out.cellAt hkn
  have hpe : p = ⟨id', A1, n1, c1, A2, n2, c2, x1, x2⟩ := by have h1 := hk.symm.trans hx.out; injection h1
  subst hpe
  simp only at hid
  subst hid
  have hm := mf_each HZ.out _ (List.mem_of_getElem? (val_get hk))
  obtain ⟨hd, l1, l2⟩ := rfp_len hm.2
  simp only [PV.val] at l1 l2
  have e1 : n1 = d.toNat := by have := i1.out.1; omega
  have e2 : n2 = d.toNat := by have := i2.out.1; omega
  subst e1
  subst e2
  have HR : Hid (findR (ps.map PV.val) d id' = (0, id', x1, x2)) := findR_yes HZ.out (val_get hk) rfl
  have hx1 : x1.length = d.toNat := i1.out.1
  have hx2 : x2.length = d.toNat := i2.out.1
  have sB := B.out.size
  have E0 : W2.cell? ⟨b, o + k * 3, none⟩ = some (.int .i64 id') := (B.out.cell (p := ⟨b, o + k * 3, none⟩) hb).trans d0
  have E1 : W2.cell? ⟨b, o + k * 3 + 1, none⟩ = some (.slice A1 d.toNat c1) := (B.out.cell (p := ⟨b, o + k * 3 + 1, none⟩) hb).trans d1
  have E2 : W2.cell? ⟨b, o + k * 3 + 2, none⟩ = some (.slice A2 d.toNat c2) := (B.out.cell (p := ⟨b, o + k * 3 + 2, none⟩) hb).trans d2
  have hkn' : (k : Int) < (n : Int) := by omega
  clear d0 d1 d2 hx hk hm
  go_wp2_with fail
  refine (l2Copy_any id' b (o + k * 3) d.toNat c1 c2 0 0 A1 A2 x1 x2 _ (by omega) E0 E1 E2 (i1.out.kept B.out) (i2.out.kept B.out) (by omega) (by omega)).mono ?_
  rintro e W3 ⟨g, cap, g', cap', rfl, j1, j2, b3⟩
  have J_1 := Lib.hid j1
  have J_2 := Lib.hid j2
  have hri := L_r.out.inside
  clear j1 j2 E0 E1 E2
  replace L_r := Lib.hid (L_r.out.kept b3 L_r.out.inside)
  replace B := Lib.hid (B.out.trans (b3.mono B.out.size))
  clear b3
  have z0 : W3.cell? ⟨w.heap.size, 0, none⟩ = some (.int .i64 0) := L_r.out.cell 0
  have y0 : W3.frozen? ⟨w.heap.size, 0, none⟩ = false := L_r.out.thawed 0
  have z1 : W3.cell? ⟨w.heap.size, 1, none⟩ = some (.int .i64 0) := L_r.out.cell 1
  have y1 : W3.frozen? ⟨w.heap.size, 1, none⟩ = false := L_r.out.thawed 1
  have z2 : W3.cell? ⟨w.heap.size, 2, none⟩ = some (.slice none 0 0) := L_r.out.cell 2
  have y2 : W3.frozen? ⟨w.heap.size, 2, none⟩ = false := L_r.out.thawed 2
  have z3 : W3.cell? ⟨w.heap.size, 3, none⟩ = some (.slice none 0 0) := L_r.out.cell 3
  have y3 : W3.frozen? ⟨w.heap.size, 3, none⟩ = false := L_r.out.thawed 3
  go_wp2
  refine bodyPost_ret (v := .agg #[.int .i64 0, .int .i64 id', .slice (some ⟨g, 0, none⟩) d.toNat cap, .slice (some ⟨g', 0, none⟩) d.toNat cap']) (by simp [results, Try.results5, go_sem, z0, z1, z2, z3]) rfl ?_
  rw [HR.out]
  unfold FindPost
  simp only [hx1, hx2]
  refine ⟨_, cap, _, cap', rfl, ?_, ?_, ?_⟩
  · refine Ints.lower (lo := W2.heap.size) ?_ (by omega)
    with_reducible (repeat (first | exact J_1.out | refine Ints.far2 ?_ ?_ _))
    all_goals (show w.heap.size < _; omega)
  · refine Ints.lower (lo := W2.heap.size) ?_ (by omega)
    with_reducible (repeat (first | exact J_2.out | refine Ints.far2 ?_ ?_ _))
    all_goals (show w.heap.size < _; omega)
  · with_reducible (repeat (first | exact B.out | refine Below.setCell ?_ ?_ _))
    all_goals exact Nat.le_refl _

end Go.Proofs.Ytpgoildfjkokiab
