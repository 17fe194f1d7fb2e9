/- The walks of spec.l3Entry, spec.l3Fits, spec.l3Find, spec.NodeFault. No condition but lengths. -/
import Derived.Test.YtblhcnafoejahaaEntryLists
import Derived.Test.YtblhcnafoejahaaNodeMath
namespace Go.Proofs.Ytblhcnafoejahaa
open Go.RowKit

theorem entF_rf {d : Int} {v : EVal} (h : rf v.1 v.2.1 d ≠ 0) : entF d v = rf v.1 v.2.1 d := by unfold entF; rw [if_pos h]
theorem entF_no {d : Int} {v : EVal} (h : rf v.1 v.2.1 d = 0) (h2 : ¬ ((0 ≤ v.2.2.1 ∧ v.2.2.1 ≤ 999) ∧ 0 ≤ v.2.2.2 ∧ v.2.2.2 ≤ 100000)) : entF d v = 3 := by unfold entF; rw [if_neg (by simp [h]), if_neg h2]
theorem entF_yes {d : Int} {v : EVal} (h : rf v.1 v.2.1 d = 0) (h2 : (0 ≤ v.2.2.1 ∧ v.2.2.1 ≤ 999) ∧ 0 ≤ v.2.2.2 ∧ v.2.2.2 ≤ 100000) : entF d v = 0 := by unfold entF; rw [if_neg (by simp [h]), if_pos h2]

set_option maxHeartbeats 1600000 in
theorem l3Entry_any (d ref nsn : Int) (b f n1 c1 n2 c2 : Nat) (A1 A2 : Option Addr) (x1 x2 : List Int) (w : World) (hb : b < w.heap.size) (k0 : w.cell? ⟨b, f, none⟩ = some (.slice A1 n1 c1)) (k1 : w.cell? ⟨b, f + 1, none⟩ = some (.slice A2 n2 c2)) (k2 : w.cell? ⟨b, f + 2, none⟩ = some (.int .i64 ref)) (k3 : w.cell? ⟨b, f + 3, none⟩ = some (.int .i64 nsn))
    (h1 : Ints w 0 A1 n1 x1) (h2 : Ints w 0 A2 n2 x2) (m1 : n1 ≤ maxLen) (m2 : n2 ≤ maxLen) :
    Calls Try.prog 34 #[.pointer (some ⟨b, f, none⟩), .int .i64 d] w fun e w' => e = .returned (.int .i64 (entF d (x1, x2, ref, nsn))) ∧ Below w.heap.size w w' := by
  have I_1 := Lib.hid h1
  have I_2 := Lib.hid h2
  have K2 := Lib.hid k2
  have K3 := Lib.hid k3
  clear h1 h2 k2 k3
  by_cases hr : rf x1 x2 d = 0
  rotate_left
  · have HF : Hid (entF d (x1, x2, ref, nsn) = rf x1 x2 d) := entF_rf hr
    have hr1 : (rf x1 x2 d != 0) = true := by simpa using hr
    clear hr
    go_enter Try.func34, Try.ntmps34
    go_wp2_with fail
    refine (specRectFault_any _ _ _ _ _ _ _ _ _ x1 x2 _ I_1.out I_2.out m1 m2).mono ?_
    rintro e W1 ⟨rfl, b1⟩
    go_wp2
    go_ret
    exact ⟨ret_i64 HF.out.symm, b1⟩
  have HR := Lib.hid hr
  have hr1 : (rf x1 x2 d != 0) = false := by simp [hr]
  clear hr
  by_cases hi : 0 ≤ ref ∧ ref ≤ 999
  rotate_left
  · have HF : Hid (entF d (x1, x2, ref, nsn) = 3) := entF_no HR.out (fun h => hi h.1)
    go_enter Try.func34, Try.ntmps34
    go_wp2_with fail
    refine (specRectFault_any _ _ _ _ _ _ _ _ _ x1 x2 _ I_1.out I_2.out m1 m2).mono ?_
    rintro e W1 ⟨rfl, b1⟩
    have c2' : W1.cell? ⟨b, f + 2, none⟩ = some (.int .i64 ref) := (b1.cell (p := ⟨b, f + 2, none⟩) hb).trans K2.out
    go_wp2_with fail
    refine (l1In_no _ _ _ _ hi).mono ?_
    rintro e w' ⟨rfl, rfl⟩
    go_wp2
    go_ret
    exact ⟨ret_i64 HF.out.symm, b1⟩
  by_cases hj : 0 ≤ nsn ∧ nsn ≤ 100000
  rotate_left
  · have HF : Hid (entF d (x1, x2, ref, nsn) = 3) := entF_no HR.out (fun h => hj h.2)
    go_enter Try.func34, Try.ntmps34
    go_wp2_with fail
    refine (specRectFault_any _ _ _ _ _ _ _ _ _ x1 x2 _ I_1.out I_2.out m1 m2).mono ?_
    rintro e W1 ⟨rfl, b1⟩
    have c2' : W1.cell? ⟨b, f + 2, none⟩ = some (.int .i64 ref) := (b1.cell (p := ⟨b, f + 2, none⟩) hb).trans K2.out
    have c3' : W1.cell? ⟨b, f + 3, none⟩ = some (.int .i64 nsn) := (b1.cell (p := ⟨b, f + 3, none⟩) hb).trans K3.out
    go_wp2_with fail
    refine (l1In_yes _ _ _ _ hi.1 hi.2).mono ?_
    rintro e w' ⟨rfl, rfl⟩
    go_wp2_with fail
    refine (l1In_no _ _ _ _ hj).mono ?_
    rintro e w' ⟨rfl, rfl⟩
    go_wp2
    go_ret
    exact ⟨ret_i64 HF.out.symm, b1⟩
  · have HF : Hid (entF d (x1, x2, ref, nsn) = 0) := entF_yes HR.out ⟨hi, hj⟩
    go_enter Try.func34, Try.ntmps34
    go_wp2_with fail
    refine (specRectFault_any _ _ _ _ _ _ _ _ _ x1 x2 _ I_1.out I_2.out m1 m2).mono ?_
    rintro e W1 ⟨rfl, b1⟩
    have c2' : W1.cell? ⟨b, f + 2, none⟩ = some (.int .i64 ref) := (b1.cell (p := ⟨b, f + 2, none⟩) hb).trans K2.out
    have c3' : W1.cell? ⟨b, f + 3, none⟩ = some (.int .i64 nsn) := (b1.cell (p := ⟨b, f + 3, none⟩) hb).trans K3.out
    go_wp2_with fail
    refine (l1In_yes _ _ _ _ hi.1 hi.2).mono ?_
    rintro e w' ⟨rfl, rfl⟩
    go_wp2_with fail
    refine (l1In_yes _ _ _ _ hj.1 hj.2).mono ?_
    rintro e w' ⟨rfl, rfl⟩
    go_wp2
    go_ret
    exact ⟨ret_i64 HF.out.symm, b1⟩

set_option maxHeartbeats 400000 in
theorem l3Fits_any (lv ref nsn : Int) (b f : Nat) (x1 x2 : List Int) (w : World) (k2 : w.cell? ⟨b, f + 2, none⟩ = some (.int .i64 ref)) (k3 : w.cell? ⟨b, f + 3, none⟩ = some (.int .i64 nsn)) :
    Calls Try.prog 35 #[.int .i64 lv, .pointer (some ⟨b, f, none⟩)] w fun e w' => e = .returned (.bool (fitsE lv (x1, x2, ref, nsn))) ∧ w = w' := by
  by_cases h : lv = 0
  · have HF : Hid (fitsE lv (x1, x2, ref, nsn) = (nsn == 0)) := by show fitsE _ _ = _; simp [fitsE, h]
    have h1 : (lv == 0) = true := by simpa using h
    clear h
    go_enter Try.func35, Try.ntmps35
    go_wp2
    go_ret
    exact ⟨ret_bool HF.out.symm, rfl⟩
  · have HF : Hid (fitsE lv (x1, x2, ref, nsn) = decide (ref < 40)) := by show fitsE _ _ = _; simp [fitsE, h]
    have h1 : (lv == 0) = false := by simpa using h
    clear h
    go_enter Try.func35, Try.ntmps35
    go_wp2
    go_ret
    exact ⟨ret_bool HF.out.symm, rfl⟩

set_option maxHeartbeats 800000 in
theorem l3Find_any (r : Int) (n c : Nat) (A : Option Addr) (ps : List EV) (w : World) (hp : Entries w A n ps) (hn : n ≤ maxLen) :
    Calls Try.prog 36 #[.slice A n c, .int .i64 r] w fun e w' => e = .returned (.int .i64 (findE r (ps.map EV.val))) ∧ w = w' := by
  have HP := Lib.hid hp
  have HL : Hid ((ps.map EV.val).length = n) := by show List.length _ = n; rw [List.length_map]; exact hp.1
  clear hp
  unfold maxLen at hn
  go_enter Try.func36, Try.ntmps36
  go_wp2
  go_loop [5] (fun i => ∃ k : Nat, k ≤ n ∧ i = .int .i64 k ∧ Hid (∀ (j : Nat) (u : EVal), j < k → (ps.map EV.val)[j]? = some u → u.2.2.1 ≠ r)) (fun i => n - (intOf i).toNat)
  case atStart => exact ⟨0, Nat.zero_le _, rfl, fun j u hj => absurd hj (Nat.not_lt_zero _)⟩
  case round =>
    obtain ⟨k, hk', rfl, hA⟩ := hrel
    by_cases hlt : k < n
    · obtain ⟨b, o, A1, n1, c1, A2, n2, c2, ref, nsn, x1, x2, rfl, hb, d0, d1, d2, d3, hx, i1, i2, m1, m2⟩ := HP.out.cellAt hlt
      clear d0 d1 d3 i1 i2
      by_cases hz : ref = r
      · have HF : Hid (findE r (ps.map EV.val) = k) := findE_stop hA.out (eval_get hx.out) hz
        have hz1 : (ref == r) = true := by simpa using hz
        clear hx hA hz
        go_wp2
        go_ret
        exact ⟨ret_i64 HF.out.symm, rfl⟩
      · have hA' := Lib.hid (upto_next hA.out (eval_get hx.out) hz)
        have hz1 : (ref == r) = false := by simpa using hz
        clear hx hA hz
        go_wp2
        go_round
        case rel => exact ⟨k + 1, by omega, by go_num, hA'⟩
        case measure => simp [intOf]; omega
    · have HF : Hid (findE r (ps.map EV.val) = -1) := findE_none (upto_end hA.out (by rw [HL.out]; omega))
      clear hA
      go_wp2
      go_ret
      exact ⟨ret_i64 HF.out.symm, rfl⟩

/-- The same in a region whose order is drawn. -/
theorem l3Fits_q (v : Bool) (lv ref nsn : Int) (b f m : Nat) (x1 x2 : List Int) (w : World) (hv : fitsE lv (x1, x2, ref, nsn) = v) (k2 : w.cell? ⟨b, f + 2, none⟩ = some (.int .i64 ref)) (k3 : w.cell? ⟨b, f + 3, none⟩ = some (.int .i64 nsn)) :
    Calls Try.prog 35 #[.int .i64 lv, .pointer (some ⟨b, f, none⟩)] (w.drewN m) fun e w' => e = .returned (.bool v) ∧ ∃ m', w' = w.drewN m' :=
  (l3Fits_any lv ref nsn b f x1 x2 (w.drewN m) k2 k3).mono fun _ _ h => ⟨h.1.trans (ret_bool hv), m, h.2.symm⟩
theorem l3Find_q (r : Int) (n c m : Nat) (A : Option Addr) (ps : List EV) (w : World) (hp : Entries w A n ps) (hn : n ≤ maxLen) :
    Calls Try.prog 36 #[.slice A n c, .int .i64 r] (w.drewN m) fun e w' => e = .returned (.int .i64 (findE r (ps.map EV.val))) ∧ ∃ m', w' = w.drewN m' :=
  (l3Find_any r n c A ps (w.drewN m) (hp.kept (below_draws (Below.refl _ _) m)) hn).mono fun _ _ h => ⟨h.1, m, h.2.symm⟩

end Go.Proofs.Ytblhcnafoejahaa
