/- The walks of impl.slotFrom, impl.entryFault, impl.headFault. No condition but lengths. -/
import Derived.Test.YtpgoildfjkokiaaGreatSpecNode
import Derived.Test.YtpgoildfjkokiaaGreatNodeRes
namespace Go.Proofs.YtpgoildfjkokiaaGreat
open Go.RowKit

set_option maxHeartbeats 1600000 in
theorem slotFrom_any (ref nsn : Int) (n1 c1 n2 c2 lo1 lo2 : Nat) (A1 A2 : Option Addr) (x1 x2 : List Int) (p0 p1 p2 q0 q1 q2 : Int) (w : World) (hp : Pad x1 p0 p1 p2) (hq : Pad x2 q0 q1 q2) (h1 : Ints w lo1 A1 n1 x1) (h2 : Ints w lo2 A2 n2 x2) :
    Calls Tryz.prog 133 #[.agg #[.slice A1 n1 c1, .slice A2 n2 c2, .int .i64 ref, .int .i64 nsn]] w fun e w' => e = .returned (.agg #[.int .i64 p0, .int .i64 p1, .int .i64 p2, .int .i64 q0, .int .i64 q1, .int .i64 q2, .int .i64 ref, .int .i64 nsn]) ∧ Below w.heap.size w w' := by
  have B0 := Lib.hid (below_alloc w (.cells #[.slice A1 n1 c1, .slice A2 n2 c2, .int .i64 ref, .int .i64 nsn] 150))
  replace B0 := Lib.hid (B0.out.alloc B0.out.size (.cells #[.int .i64 0, .int .i64 0, .int .i64 0, .int .i64 0, .int .i64 0, .int .i64 0, .int .i64 0, .int .i64 0] 181))
  have HX := Lib.hid h1
  have HY := Lib.hid h2
  have HP := Lib.hid hp
  have HQ := Lib.hid hq
  have L0 := Lib.hid ((Lies.new w 150 #[.slice A1 n1 c1, .slice A2 n2 c2, .int .i64 ref, .int .i64 nsn]).alloc (.cells #[.int .i64 0, .int .i64 0, .int .i64 0, .int .i64 0, .int .i64 0, .int .i64 0, .int .i64 0, .int .i64 0] 181))
  have L1 := Lib.hid (Lies.new (w.alloc (.cells #[.slice A1 n1 c1, .slice A2 n2 c2, .int .i64 ref, .int .i64 nsn] 150)) 181 #[.int .i64 0, .int .i64 0, .int .i64 0, .int .i64 0, .int .i64 0, .int .i64 0, .int .i64 0, .int .i64 0])
  simp only [World.size_alloc] at L1
  clear h1 h2 hp hq
  go_enter Tryz.func133, Tryz.ntmps133
  go_wp2
  generalize hW : ((w.alloc (.cells #[.slice A1 n1 c1, .slice A2 n2 c2, .int .i64 ref, .int .i64 nsn] 150)).alloc (.cells #[.int .i64 0, .int .i64 0, .int .i64 0, .int .i64 0, .int .i64 0, .int .i64 0, .int .i64 0, .int .i64 0] 181)) = W0 at *
  clear hW
  have k0 : W0.cell? ⟨w.heap.size, 0, none⟩ = some (.slice A1 n1 c1) := L0.out.cell 0
  have k1 : W0.cell? ⟨w.heap.size, 1, none⟩ = some (.slice A2 n2 c2) := L0.out.cell 1
  have k2 : W0.cell? ⟨w.heap.size, 2, none⟩ = some (.int .i64 ref) := L0.out.cell 2
  have k3 : W0.cell? ⟨w.heap.size, 3, none⟩ = some (.int .i64 nsn) := L0.out.cell 3
  go_region_held3 (fun w' => w'.cell? ⟨w.heap.size, 0, none⟩ = some (.slice A1 n1 c1) ∧ w'.cell? ⟨w.heap.size, 1, none⟩ = some (.slice A2 n2 c2) ∧ w'.cell? ⟨w.heap.size, 2, none⟩ = some (.int .i64 ref) ∧ w'.cell? ⟨w.heap.size, 3, none⟩ = some (.int .i64 nsn))
    (first | (simp [go_sem, k0, k1, k2, k3]; done) | with_reducible exact K1 | (simp [go_sem, K1.1, K1.2.1, K1.2.2.1, K1.2.2.2]; done))
    (first
      | (go_at_call 140; refine (boxFrom_any _ _ _ _ _ _ _ _ x1 x2 p0 p1 p2 q0 q1 q2 _ HP.out HQ.out (HX.out.kept B0.out.drew) (HY.out.kept B0.out.drew)).mono ?_
         rintro e W1 ⟨rfl, b1d⟩
         have b1 := below_drawn b1d
         have K1 : W1.cell? ⟨w.heap.size, 0, none⟩ = some (.slice A1 n1 c1) ∧ W1.cell? ⟨w.heap.size, 1, none⟩ = some (.slice A2 n2 c2) ∧ W1.cell? ⟨w.heap.size, 2, none⟩ = some (.int .i64 ref) ∧ W1.cell? ⟨w.heap.size, 3, none⟩ = some (.int .i64 nsn) := ⟨(L0.out.kept b1 L0.out.inside).cell 0, (L0.out.kept b1 L0.out.inside).cell 1, (L0.out.kept b1 L0.out.inside).cell 2, (L0.out.kept b1 L0.out.inside).cell 3⟩
         have z0 : W1.cell? ⟨w.heap.size + 1, 0, none⟩ = some (.int .i64 0) := (L1.out.kept b1 L1.out.inside).cell 0
         have y0 : W1.frozen? ⟨w.heap.size + 1, 0, none⟩ = false := (L1.out.kept b1 L1.out.inside).thawed 0
         have z1 : W1.cell? ⟨w.heap.size + 1, 1, none⟩ = some (.int .i64 0) := (L1.out.kept b1 L1.out.inside).cell 1
         have y1 : W1.frozen? ⟨w.heap.size + 1, 1, none⟩ = false := (L1.out.kept b1 L1.out.inside).thawed 1
         have z2 : W1.cell? ⟨w.heap.size + 1, 2, none⟩ = some (.int .i64 0) := (L1.out.kept b1 L1.out.inside).cell 2
         have y2 : W1.frozen? ⟨w.heap.size + 1, 2, none⟩ = false := (L1.out.kept b1 L1.out.inside).thawed 2
         have z3 : W1.cell? ⟨w.heap.size + 1, 3, none⟩ = some (.int .i64 0) := (L1.out.kept b1 L1.out.inside).cell 3
         have y3 : W1.frozen? ⟨w.heap.size + 1, 3, none⟩ = false := (L1.out.kept b1 L1.out.inside).thawed 3
         have z4 : W1.cell? ⟨w.heap.size + 1, 4, none⟩ = some (.int .i64 0) := (L1.out.kept b1 L1.out.inside).cell 4
         have y4 : W1.frozen? ⟨w.heap.size + 1, 4, none⟩ = false := (L1.out.kept b1 L1.out.inside).thawed 4
         have z5 : W1.cell? ⟨w.heap.size + 1, 5, none⟩ = some (.int .i64 0) := (L1.out.kept b1 L1.out.inside).cell 5
         have y5 : W1.frozen? ⟨w.heap.size + 1, 5, none⟩ = false := (L1.out.kept b1 L1.out.inside).thawed 5
         have z6 : W1.cell? ⟨w.heap.size + 1, 6, none⟩ = some (.int .i64 0) := (L1.out.kept b1 L1.out.inside).cell 6
         have y6 : W1.frozen? ⟨w.heap.size + 1, 6, none⟩ = false := (L1.out.kept b1 L1.out.inside).thawed 6
         have z7 : W1.cell? ⟨w.heap.size + 1, 7, none⟩ = some (.int .i64 0) := (L1.out.kept b1 L1.out.inside).cell 7
         have y7 : W1.frozen? ⟨w.heap.size + 1, 7, none⟩ = false := (L1.out.kept b1 L1.out.inside).thawed 7
         clear b1d))
  go_wp2
  refine bodyPost_ret (v := .agg #[.int .i64 p0, .int .i64 p1, .int .i64 p2, .int .i64 q0, .int .i64 q1, .int .i64 q2, .int .i64 ref, .int .i64 nsn]) (by simp [results, Tryz.results133, go_sem, z0, z1, z2, z3, z4, z5, z6, z7]) rfl ⟨rfl, ?_⟩
  have BE := B0.out.trans (b1.mono B0.out.size)
  repeat (with_reducible refine Below.setCell ?_ (by exact Nat.le_succ _) _)
  exact BE

set_option maxHeartbeats 1600000 in
theorem entryFault_any (d ref nsn : Int) (n1 c1 n2 c2 lo1 lo2 : Nat) (A1 A2 : Option Addr) (x1 x2 : List Int) (w : World) (h1 : Ints w lo1 A1 n1 x1) (h2 : Ints w lo2 A2 n2 x2) (m1 : n1 ≤ maxLen) (m2 : n2 ≤ maxLen) :
    Calls Tryz.prog 134 #[.agg #[.slice A1 n1 c1, .slice A2 n2 c2, .int .i64 ref, .int .i64 nsn], .int .i64 d] w fun e w' => e = .returned (.int .i64 (entF d (x1, x2, ref, nsn))) ∧ Below w.heap.size w w' := by
  have I_1 := Lib.hid h1
  have I_2 := Lib.hid h2
  clear h1 h2
  have B := Lib.hid (below_alloc w (.cells #[.slice A1 n1 c1, .slice A2 n2 c2, .int .i64 ref, .int .i64 nsn] 150))
  have L_e := Lib.hid (Lies.new w 150 #[.slice A1 n1 c1, .slice A2 n2 c2, .int .i64 ref, .int .i64 nsn])
  by_cases hr : rf x1 x2 d = 0
  rotate_left
  · have HF : Hid (entF d (x1, x2, ref, nsn) = rf x1 x2 d) := entF_rf hr
    have hr1 : (rf x1 x2 d != 0) = true := by simpa using hr
    clear hr
    go_enter Tryz.func134, Tryz.ntmps134
    go_wp2_with fail
    refine (implRectFault_any _ _ _ _ _ _ _ _ _ x1 x2 _ (I_1.out.kept B.out) (I_2.out.kept B.out) m1 m2).mono ?_
    rintro e W1 ⟨rfl, b1⟩
    replace L_e := Lib.hid (L_e.out.kept b1 L_e.out.inside)
    replace B := Lib.hid (B.out.trans (b1.mono B.out.size))
    clear b1
    clear L_e
    go_wp2
    go_ret
    exact ⟨ret_i64 HF.out.symm, B.out⟩
  have HR := Lib.hid hr
  have hr1 : (rf x1 x2 d != 0) = false := by simp [hr]
  clear hr
  by_cases hi : 0 ≤ ref ∧ ref ≤ 999
  rotate_left
  · have HF : Hid (entF d (x1, x2, ref, nsn) = 3) := entF_no HR.out (fun h => hi h.1)
    have HA : Hid (allIn 0 999 [ref] = false) := by show allIn _ _ _ = _; rw [allIn_one]; simp; omega
    clear hi
    go_enter Tryz.func134, Tryz.ntmps134
    go_wp2_with fail
    refine (implRectFault_any _ _ _ _ _ _ _ _ _ x1 x2 _ (I_1.out.kept B.out) (I_2.out.kept B.out) m1 m2).mono ?_
    rintro e W1 ⟨rfl, b1⟩
    replace L_e := Lib.hid (L_e.out.kept b1 L_e.out.inside)
    replace B := Lib.hid (B.out.trans (b1.mono B.out.size))
    clear b1
    have k2 : W1.cell? ⟨w.heap.size, 2, none⟩ = some (.int .i64 ref) := L_e.out.cell 2
    have ONE_ref := Lib.hid (one_ints (W1) ref)
    go_wp2_with fail
    refine (within_is 0 999 _ _ _ _ [ref] _ false HA.out ONE_ref.out (by decide)).mono ?_
    rintro e w' ⟨rfl, rfl⟩
    clear ONE_ref
    replace B := Lib.hid (B.out.alloc B.out.size (.cells #[.int .i64 ref] 2))
    go_wp2
    go_ret
    exact ⟨ret_i64 HF.out.symm, B.out⟩
  by_cases hj : 0 ≤ nsn ∧ nsn ≤ 100000
  rotate_left
  · have HF : Hid (entF d (x1, x2, ref, nsn) = 3) := entF_no HR.out (fun h => hj h.2)
    have HA : Hid (allIn 0 999 [ref] = true) := by show allIn _ _ _ = _; rw [allIn_one]; simp; omega
    have HC : Hid (allIn 0 100000 [nsn] = false) := by show allIn _ _ _ = _; rw [allIn_one]; simp; omega
    clear hi hj
    go_enter Tryz.func134, Tryz.ntmps134
    go_wp2_with fail
    refine (implRectFault_any _ _ _ _ _ _ _ _ _ x1 x2 _ (I_1.out.kept B.out) (I_2.out.kept B.out) m1 m2).mono ?_
    rintro e W1 ⟨rfl, b1⟩
    replace L_e := Lib.hid (L_e.out.kept b1 L_e.out.inside)
    replace B := Lib.hid (B.out.trans (b1.mono B.out.size))
    clear b1
    have k2 : W1.cell? ⟨w.heap.size, 2, none⟩ = some (.int .i64 ref) := L_e.out.cell 2
    have k3 : (W1.alloc (.cells #[.int .i64 ref] 2)).cell? ⟨w.heap.size, 3, none⟩ = some (.int .i64 nsn) := (L_e.out.alloc _).cell 3
    have ONE_ref := Lib.hid (one_ints (W1) ref)
    go_wp2_with fail
    refine (within_is 0 999 _ _ _ _ [ref] _ true HA.out ONE_ref.out (by decide)).mono ?_
    rintro e w' ⟨rfl, rfl⟩
    clear ONE_ref
    replace B := Lib.hid (B.out.alloc B.out.size (.cells #[.int .i64 ref] 2))
    have ONE_nsn := Lib.hid (one_ints (W1.alloc (.cells #[.int .i64 ref] 2)) nsn)
    simp only [World.size_alloc] at ONE_nsn
    go_wp2_with fail
    refine (within_is 0 100000 _ _ _ _ [nsn] _ false HC.out ONE_nsn.out (by decide)).mono ?_
    rintro e w' ⟨rfl, rfl⟩
    clear ONE_nsn
    replace B := Lib.hid (B.out.alloc B.out.size (.cells #[.int .i64 nsn] 2))
    go_wp2
    go_ret
    exact ⟨ret_i64 HF.out.symm, B.out⟩
  · have HF : Hid (entF d (x1, x2, ref, nsn) = 0) := entF_yes HR.out ⟨hi, hj⟩
    have HA : Hid (allIn 0 999 [ref] = true) := by show allIn _ _ _ = _; rw [allIn_one]; simp; omega
    have HC : Hid (allIn 0 100000 [nsn] = true) := by show allIn _ _ _ = _; rw [allIn_one]; simp; omega
    clear hi hj
    go_enter Tryz.func134, Tryz.ntmps134
    go_wp2_with fail
    refine (implRectFault_any _ _ _ _ _ _ _ _ _ x1 x2 _ (I_1.out.kept B.out) (I_2.out.kept B.out) m1 m2).mono ?_
    rintro e W1 ⟨rfl, b1⟩
    replace L_e := Lib.hid (L_e.out.kept b1 L_e.out.inside)
    replace B := Lib.hid (B.out.trans (b1.mono B.out.size))
    clear b1
    have k2 : W1.cell? ⟨w.heap.size, 2, none⟩ = some (.int .i64 ref) := L_e.out.cell 2
    have k3 : (W1.alloc (.cells #[.int .i64 ref] 2)).cell? ⟨w.heap.size, 3, none⟩ = some (.int .i64 nsn) := (L_e.out.alloc _).cell 3
    have ONE_ref := Lib.hid (one_ints (W1) ref)
    go_wp2_with fail
    refine (within_is 0 999 _ _ _ _ [ref] _ true HA.out ONE_ref.out (by decide)).mono ?_
    rintro e w' ⟨rfl, rfl⟩
    clear ONE_ref
    replace B := Lib.hid (B.out.alloc B.out.size (.cells #[.int .i64 ref] 2))
    have ONE_nsn := Lib.hid (one_ints (W1.alloc (.cells #[.int .i64 ref] 2)) nsn)
    simp only [World.size_alloc] at ONE_nsn
    go_wp2_with fail
    refine (within_is 0 100000 _ _ _ _ [nsn] _ true HC.out ONE_nsn.out (by decide)).mono ?_
    rintro e w' ⟨rfl, rfl⟩
    clear ONE_nsn
    replace B := Lib.hid (B.out.alloc B.out.size (.cells #[.int .i64 nsn] 2))
    go_wp2
    go_ret
    exact ⟨ret_i64 HF.out.symm, B.out⟩

/-- What is wrong with a node's head. -/
def headF (lv ns rt d : Int) (n : Nat) : Int := if headOk lv ns rt d then if 5 < n then 2 else 0 else 3

set_option maxHeartbeats 3200000 in
theorem headFault_any (lv ns rt d : Int) (n c : Nat) (A : Option Addr) (w : World) (hn : n ≤ maxLen) :
    Calls Tryz.prog 124 #[.agg #[.int .i64 lv, .int .i64 ns, .int .i64 rt, .slice A n c], .int .i64 d] w fun e w' => e = .returned (.int .i64 (headF lv ns rt d n)) ∧ Below w.heap.size w w' := by
  unfold maxLen at hn
  have B := Lib.hid (below_alloc w (.cells #[.int .i64 lv, .int .i64 ns, .int .i64 rt, .slice A n c] 42))
  by_cases hd : 2 ≤ d ∧ d ≤ 3
  rotate_left
  · have HF : Hid (headF lv ns rt d n = 3) := by show headF _ _ _ _ _ = _; unfold headF; rw [if_neg (fun h => hd h.1)]
    have H0 : Hid (allIn 2 3 [d] = false) := by show allIn _ _ _ = _; rw [allIn_one]; simp; omega
    clear hd
    go_enter Tryz.func124, Tryz.ntmps124
    have ONE_d := Lib.hid (one_ints (w.alloc (.cells #[.int .i64 lv, .int .i64 ns, .int .i64 rt, .slice A n c] 42)) d)
    simp only [World.size_alloc] at ONE_d
    go_wp2_with fail
    refine (within_is 2 3 _ _ _ _ [d] _ false H0.out ONE_d.out (by decide)).mono ?_
    rintro e w' ⟨rfl, rfl⟩
    clear ONE_d
    replace B := Lib.hid (B.out.alloc B.out.size (.cells #[.int .i64 d] 2))
    go_wp2
    go_ret
    exact ⟨ret_i64 HF.out.symm, B.out⟩
  by_cases hl : 0 ≤ lv ∧ lv ≤ 6
  rotate_left
  · have HF : Hid (headF lv ns rt d n = 3) := by show headF _ _ _ _ _ = _; unfold headF; rw [if_neg (fun h => hl h.2.1)]
    have H0 : Hid (allIn 2 3 [d] = true) := by show allIn _ _ _ = _; rw [allIn_one]; simp; omega
    have H1 : Hid (allIn 0 6 [lv] = false) := by show allIn _ _ _ = _; rw [allIn_one]; simp; omega
    clear hd hl
    go_enter Tryz.func124, Tryz.ntmps124
    have ONE_d := Lib.hid (one_ints (w.alloc (.cells #[.int .i64 lv, .int .i64 ns, .int .i64 rt, .slice A n c] 42)) d)
    simp only [World.size_alloc] at ONE_d
    go_wp2_with fail
    refine (within_is 2 3 _ _ _ _ [d] _ true H0.out ONE_d.out (by decide)).mono ?_
    rintro e w' ⟨rfl, rfl⟩
    clear ONE_d
    replace B := Lib.hid (B.out.alloc B.out.size (.cells #[.int .i64 d] 2))
    have ONE_lv := Lib.hid (one_ints ((w.alloc (.cells #[.int .i64 lv, .int .i64 ns, .int .i64 rt, .slice A n c] 42)).alloc (.cells #[.int .i64 d] 2)) lv)
    simp only [World.size_alloc] at ONE_lv
    go_wp2_with fail
    refine (within_is 0 6 _ _ _ _ [lv] _ false H1.out ONE_lv.out (by decide)).mono ?_
    rintro e w' ⟨rfl, rfl⟩
    clear ONE_lv
    replace B := Lib.hid (B.out.alloc B.out.size (.cells #[.int .i64 lv] 2))
    go_wp2
    go_ret
    exact ⟨ret_i64 HF.out.symm, B.out⟩
  by_cases hs : 0 ≤ ns ∧ ns ≤ 100000
  rotate_left
  · have HF : Hid (headF lv ns rt d n = 3) := by show headF _ _ _ _ _ = _; unfold headF; rw [if_neg (fun h => hs h.2.2.1)]
    have H0 : Hid (allIn 2 3 [d] = true) := by show allIn _ _ _ = _; rw [allIn_one]; simp; omega
    have H1 : Hid (allIn 0 6 [lv] = true) := by show allIn _ _ _ = _; rw [allIn_one]; simp; omega
    have H2 : Hid (allIn 0 100000 [ns] = false) := by show allIn _ _ _ = _; rw [allIn_one]; simp; omega
    clear hd hl hs
    go_enter Tryz.func124, Tryz.ntmps124
    have ONE_d := Lib.hid (one_ints (w.alloc (.cells #[.int .i64 lv, .int .i64 ns, .int .i64 rt, .slice A n c] 42)) d)
    simp only [World.size_alloc] at ONE_d
    go_wp2_with fail
    refine (within_is 2 3 _ _ _ _ [d] _ true H0.out ONE_d.out (by decide)).mono ?_
    rintro e w' ⟨rfl, rfl⟩
    clear ONE_d
    replace B := Lib.hid (B.out.alloc B.out.size (.cells #[.int .i64 d] 2))
    have ONE_lv := Lib.hid (one_ints ((w.alloc (.cells #[.int .i64 lv, .int .i64 ns, .int .i64 rt, .slice A n c] 42)).alloc (.cells #[.int .i64 d] 2)) lv)
    simp only [World.size_alloc] at ONE_lv
    go_wp2_with fail
    refine (within_is 0 6 _ _ _ _ [lv] _ true H1.out ONE_lv.out (by decide)).mono ?_
    rintro e w' ⟨rfl, rfl⟩
    clear ONE_lv
    replace B := Lib.hid (B.out.alloc B.out.size (.cells #[.int .i64 lv] 2))
    have ONE_ns := Lib.hid (one_ints (((w.alloc (.cells #[.int .i64 lv, .int .i64 ns, .int .i64 rt, .slice A n c] 42)).alloc (.cells #[.int .i64 d] 2)).alloc (.cells #[.int .i64 lv] 2)) ns)
    simp only [World.size_alloc] at ONE_ns
    go_wp2_with fail
    refine (within_is 0 100000 _ _ _ _ [ns] _ false H2.out ONE_ns.out (by decide)).mono ?_
    rintro e w' ⟨rfl, rfl⟩
    clear ONE_ns
    replace B := Lib.hid (B.out.alloc B.out.size (.cells #[.int .i64 ns] 2))
    go_wp2
    go_ret
    exact ⟨ret_i64 HF.out.symm, B.out⟩
  by_cases hr : -1 ≤ rt ∧ rt ≤ 39
  rotate_left
  · have HF : Hid (headF lv ns rt d n = 3) := by show headF _ _ _ _ _ = _; unfold headF; rw [if_neg (fun h => hr h.2.2.2)]
    have H0 : Hid (allIn 2 3 [d] = true) := by show allIn _ _ _ = _; rw [allIn_one]; simp; omega
    have H1 : Hid (allIn 0 6 [lv] = true) := by show allIn _ _ _ = _; rw [allIn_one]; simp; omega
    have H2 : Hid (allIn 0 100000 [ns] = true) := by show allIn _ _ _ = _; rw [allIn_one]; simp; omega
    have H3 : Hid (allIn (-1) 39 [rt] = false) := by show allIn _ _ _ = _; rw [allIn_one]; simp; omega
    clear hd hl hs hr
    go_enter Tryz.func124, Tryz.ntmps124
    have ONE_d := Lib.hid (one_ints (w.alloc (.cells #[.int .i64 lv, .int .i64 ns, .int .i64 rt, .slice A n c] 42)) d)
    simp only [World.size_alloc] at ONE_d
    go_wp2_with fail
    refine (within_is 2 3 _ _ _ _ [d] _ true H0.out ONE_d.out (by decide)).mono ?_
    rintro e w' ⟨rfl, rfl⟩
    clear ONE_d
    replace B := Lib.hid (B.out.alloc B.out.size (.cells #[.int .i64 d] 2))
    have ONE_lv := Lib.hid (one_ints ((w.alloc (.cells #[.int .i64 lv, .int .i64 ns, .int .i64 rt, .slice A n c] 42)).alloc (.cells #[.int .i64 d] 2)) lv)
    simp only [World.size_alloc] at ONE_lv
    go_wp2_with fail
    refine (within_is 0 6 _ _ _ _ [lv] _ true H1.out ONE_lv.out (by decide)).mono ?_
    rintro e w' ⟨rfl, rfl⟩
    clear ONE_lv
    replace B := Lib.hid (B.out.alloc B.out.size (.cells #[.int .i64 lv] 2))
    have ONE_ns := Lib.hid (one_ints (((w.alloc (.cells #[.int .i64 lv, .int .i64 ns, .int .i64 rt, .slice A n c] 42)).alloc (.cells #[.int .i64 d] 2)).alloc (.cells #[.int .i64 lv] 2)) ns)
    simp only [World.size_alloc] at ONE_ns
    go_wp2_with fail
    refine (within_is 0 100000 _ _ _ _ [ns] _ true H2.out ONE_ns.out (by decide)).mono ?_
    rintro e w' ⟨rfl, rfl⟩
    clear ONE_ns
    replace B := Lib.hid (B.out.alloc B.out.size (.cells #[.int .i64 ns] 2))
    have ONE_rt := Lib.hid (one_ints ((((w.alloc (.cells #[.int .i64 lv, .int .i64 ns, .int .i64 rt, .slice A n c] 42)).alloc (.cells #[.int .i64 d] 2)).alloc (.cells #[.int .i64 lv] 2)).alloc (.cells #[.int .i64 ns] 2)) rt)
    simp only [World.size_alloc] at ONE_rt
    go_wp2_with fail
    refine (within_is (-1) 39 _ _ _ _ [rt] _ false H3.out ONE_rt.out (by decide)).mono ?_
    rintro e w' ⟨rfl, rfl⟩
    clear ONE_rt
    replace B := Lib.hid (B.out.alloc B.out.size (.cells #[.int .i64 rt] 2))
    go_wp2
    go_ret
    exact ⟨ret_i64 HF.out.symm, B.out⟩
  have HH : Hid (headOk lv ns rt d) := ⟨hd, hl, hs, hr⟩
  by_cases hm : 5 < n
  · have HF : Hid (headF lv ns rt d n = 2) := by show headF _ _ _ _ _ = _; unfold headF; rw [if_pos HH.out, if_pos hm]
    have H0 : Hid (allIn 2 3 [d] = true) := by show allIn _ _ _ = _; rw [allIn_one]; simp; omega
    have H1 : Hid (allIn 0 6 [lv] = true) := by show allIn _ _ _ = _; rw [allIn_one]; simp; omega
    have H2 : Hid (allIn 0 100000 [ns] = true) := by show allIn _ _ _ = _; rw [allIn_one]; simp; omega
    have H3 : Hid (allIn (-1) 39 [rt] = true) := by show allIn _ _ _ = _; rw [allIn_one]; simp; omega
    clear hd hl hs hr
    go_enter Tryz.func124, Tryz.ntmps124
    have ONE_d := Lib.hid (one_ints (w.alloc (.cells #[.int .i64 lv, .int .i64 ns, .int .i64 rt, .slice A n c] 42)) d)
    simp only [World.size_alloc] at ONE_d
    go_wp2_with fail
    refine (within_is 2 3 _ _ _ _ [d] _ true H0.out ONE_d.out (by decide)).mono ?_
    rintro e w' ⟨rfl, rfl⟩
    clear ONE_d
    replace B := Lib.hid (B.out.alloc B.out.size (.cells #[.int .i64 d] 2))
    have ONE_lv := Lib.hid (one_ints ((w.alloc (.cells #[.int .i64 lv, .int .i64 ns, .int .i64 rt, .slice A n c] 42)).alloc (.cells #[.int .i64 d] 2)) lv)
    simp only [World.size_alloc] at ONE_lv
    go_wp2_with fail
    refine (within_is 0 6 _ _ _ _ [lv] _ true H1.out ONE_lv.out (by decide)).mono ?_
    rintro e w' ⟨rfl, rfl⟩
    clear ONE_lv
    replace B := Lib.hid (B.out.alloc B.out.size (.cells #[.int .i64 lv] 2))
    have ONE_ns := Lib.hid (one_ints (((w.alloc (.cells #[.int .i64 lv, .int .i64 ns, .int .i64 rt, .slice A n c] 42)).alloc (.cells #[.int .i64 d] 2)).alloc (.cells #[.int .i64 lv] 2)) ns)
    simp only [World.size_alloc] at ONE_ns
    go_wp2_with fail
    refine (within_is 0 100000 _ _ _ _ [ns] _ true H2.out ONE_ns.out (by decide)).mono ?_
    rintro e w' ⟨rfl, rfl⟩
    clear ONE_ns
    replace B := Lib.hid (B.out.alloc B.out.size (.cells #[.int .i64 ns] 2))
    have ONE_rt := Lib.hid (one_ints ((((w.alloc (.cells #[.int .i64 lv, .int .i64 ns, .int .i64 rt, .slice A n c] 42)).alloc (.cells #[.int .i64 d] 2)).alloc (.cells #[.int .i64 lv] 2)).alloc (.cells #[.int .i64 ns] 2)) rt)
    simp only [World.size_alloc] at ONE_rt
    go_wp2_with fail
    refine (within_is (-1) 39 _ _ _ _ [rt] _ true H3.out ONE_rt.out (by decide)).mono ?_
    rintro e w' ⟨rfl, rfl⟩
    clear ONE_rt
    replace B := Lib.hid (B.out.alloc B.out.size (.cells #[.int .i64 rt] 2))
    go_wp2
    go_ret
    exact ⟨ret_i64 HF.out.symm, B.out⟩
  · have HF : Hid (headF lv ns rt d n = 0) := by show headF _ _ _ _ _ = _; unfold headF; rw [if_pos HH.out, if_neg hm]
    have H0 : Hid (allIn 2 3 [d] = true) := by show allIn _ _ _ = _; rw [allIn_one]; simp; omega
    have H1 : Hid (allIn 0 6 [lv] = true) := by show allIn _ _ _ = _; rw [allIn_one]; simp; omega
    have H2 : Hid (allIn 0 100000 [ns] = true) := by show allIn _ _ _ = _; rw [allIn_one]; simp; omega
    have H3 : Hid (allIn (-1) 39 [rt] = true) := by show allIn _ _ _ = _; rw [allIn_one]; simp; omega
    clear hd hl hs hr
    go_enter Tryz.func124, Tryz.ntmps124
    have ONE_d := Lib.hid (one_ints (w.alloc (.cells #[.int .i64 lv, .int .i64 ns, .int .i64 rt, .slice A n c] 42)) d)
    simp only [World.size_alloc] at ONE_d
    go_wp2_with fail
    refine (within_is 2 3 _ _ _ _ [d] _ true H0.out ONE_d.out (by decide)).mono ?_
    rintro e w' ⟨rfl, rfl⟩
    clear ONE_d
    replace B := Lib.hid (B.out.alloc B.out.size (.cells #[.int .i64 d] 2))
    have ONE_lv := Lib.hid (one_ints ((w.alloc (.cells #[.int .i64 lv, .int .i64 ns, .int .i64 rt, .slice A n c] 42)).alloc (.cells #[.int .i64 d] 2)) lv)
    simp only [World.size_alloc] at ONE_lv
    go_wp2_with fail
    refine (within_is 0 6 _ _ _ _ [lv] _ true H1.out ONE_lv.out (by decide)).mono ?_
    rintro e w' ⟨rfl, rfl⟩
    clear ONE_lv
    replace B := Lib.hid (B.out.alloc B.out.size (.cells #[.int .i64 lv] 2))
    have ONE_ns := Lib.hid (one_ints (((w.alloc (.cells #[.int .i64 lv, .int .i64 ns, .int .i64 rt, .slice A n c] 42)).alloc (.cells #[.int .i64 d] 2)).alloc (.cells #[.int .i64 lv] 2)) ns)
    simp only [World.size_alloc] at ONE_ns
    go_wp2_with fail
    refine (within_is 0 100000 _ _ _ _ [ns] _ true H2.out ONE_ns.out (by decide)).mono ?_
    rintro e w' ⟨rfl, rfl⟩
    clear ONE_ns
    replace B := Lib.hid (B.out.alloc B.out.size (.cells #[.int .i64 ns] 2))
    have ONE_rt := Lib.hid (one_ints ((((w.alloc (.cells #[.int .i64 lv, .int .i64 ns, .int .i64 rt, .slice A n c] 42)).alloc (.cells #[.int .i64 d] 2)).alloc (.cells #[.int .i64 lv] 2)).alloc (.cells #[.int .i64 ns] 2)) rt)
    simp only [World.size_alloc] at ONE_rt
    go_wp2_with fail
    refine (within_is (-1) 39 _ _ _ _ [rt] _ true H3.out ONE_rt.out (by decide)).mono ?_
    rintro e w' ⟨rfl, rfl⟩
    clear ONE_rt
    replace B := Lib.hid (B.out.alloc B.out.size (.cells #[.int .i64 rt] 2))
    go_wp2
    go_ret
    exact ⟨ret_i64 HF.out.symm, B.out⟩

end Go.Proofs.YtpgoildfjkokiaaGreat

/- What a list of slots is in memory; the walks of impl.nodeBody's all, place, refTwice, of slices.IndexFunc at slots, and of fits and sound. -/
namespace Go.Proofs.YtpgoildfjkokiaaGreat
open Go.RowKit

/-- One slot: a box's six numbers, a Ref, a Nsn. -/
structure SL where
  p0 : Int
  p1 : Int
  p2 : Int
  q0 : Int
  q1 : Int
  q2 : Int
  ref : Int
  nsn : Int
def SL.cells (s : SL) : List Value := [.int .i64 s.p0, .int .i64 s.p1, .int .i64 s.p2, .int .i64 s.q0, .int .i64 s.q1, .int .i64 s.q2, .int .i64 s.ref, .int .i64 s.nsn]
/-- The slot is made of the entry. -/
def SlotOf (v : EVal) (s : SL) : Prop := Pad v.1 s.p0 s.p1 s.p2 ∧ Pad v.2.1 s.q0 s.q1 s.q2 ∧ s.ref = v.2.2.1 ∧ s.nsn = v.2.2.2
/-- The slots are made of the entries, one by one. -/
def SlotsOf (vs : List EVal) (ss : List SL) : Prop := ss.length = vs.length ∧ ∀ (k : Nat) (v : EVal) (s : SL), vs[k]? = some v → ss[k]? = some s → SlotOf v s

/-- The slice value '.slice A n c' reads as the slots ss. -/
def Slots (w : World) (A : Option Addr) (n : Nat) (ss : List SL) : Prop :=
  ss.length = n ∧ (0 < n → ∃ b o, A = some ⟨b, o, none⟩ ∧ b < w.heap.size ∧ ∀ (k : Nat) (s : SL), ss[k]? = some s → ∀ (j : Nat) (v : Value), s.cells[j]? = some v → w.cell? ⟨b, o + k * 8 + j, none⟩ = some v)
theorem Slots.kept {w w' : World} {n : Nat} {A : Option Addr} {ss : List SL} (h : Slots w A n ss) (hb : Below w.heap.size w w') : Slots w' A n ss := by
  obtain ⟨hl, hr⟩ := h
  refine ⟨hl, fun hn => ?_⟩
  obtain ⟨b, o, e, h2, h3⟩ := hr hn
  exact ⟨b, o, e, Nat.lt_of_lt_of_le h2 hb.size, fun k s hs j v hv => (hb.cell (p := ⟨b, o + k * 8 + j, none⟩) h2).trans (h3 k s hs j v hv)⟩
/-- The cells of the k-th slot. -/
theorem Slots.cellAt {w : World} {n k : Nat} {A : Option Addr} {ss : List SL} (h : Slots w A n ss) (hk : k < n) :
    ∃ b o p0 p1 p2 q0 q1 q2 ref nsn, A = some ⟨b, o, none⟩ ∧ b < w.heap.size ∧ w.cell? ⟨b, o + k * 8, none⟩ = some (.int .i64 p0) ∧ w.cell? ⟨b, o + k * 8 + 1, none⟩ = some (.int .i64 p1) ∧ w.cell? ⟨b, o + k * 8 + 2, none⟩ = some (.int .i64 p2) ∧ w.cell? ⟨b, o + k * 8 + 3, none⟩ = some (.int .i64 q0) ∧ w.cell? ⟨b, o + k * 8 + 4, none⟩ = some (.int .i64 q1) ∧ w.cell? ⟨b, o + k * 8 + 5, none⟩ = some (.int .i64 q2) ∧ w.cell? ⟨b, o + k * 8 + 6, none⟩ = some (.int .i64 ref) ∧ w.cell? ⟨b, o + k * 8 + 7, none⟩ = some (.int .i64 nsn) ∧
      Hid (ss[k]? = some ⟨p0, p1, p2, q0, q1, q2, ref, nsn⟩) := by
  obtain ⟨hl, hr⟩ := h
  obtain ⟨b, o, e, h2, h3⟩ := hr (by omega)
  have hx : ss[k]? = some (ss[k]'(by omega)) := List.getElem?_eq_getElem (by omega)
  have c := h3 k _ hx
  exact ⟨b, o, _, _, _, _, _, _, _, _, e, h2, c 0 _ rfl, c 1 _ rfl, c 2 _ rfl, c 3 _ rfl, c 4 _ rfl, c 5 _ rfl, c 6 _ rfl, c 7 _ rfl, hx⟩

theorem slotCells_len : ∀ ss : List SL, (ss.flatMap SL.cells).length = ss.length * 8
  | [] => rfl
  | s :: ss => by simp only [List.flatMap_cons, List.length_append, slotCells_len ss, List.length_cons]; simp [SL.cells]; omega
theorem slotCells_at : ∀ {ss : List SL} {k j : Nat} {s : SL} {v : Value}, ss[k]? = some s → s.cells[j]? = some v → (ss.flatMap SL.cells)[k * 8 + j]? = some v
  | [], k, j, s, v, hs, _ => by simp at hs
  | t :: ss, 0, j, s, v, hs, hv => by
    simp at hs; subst hs
    have hj : j < 8 := by have := (List.getElem?_eq_some_iff.1 hv).1; simpa [SL.cells] using this
    rw [List.flatMap_cons, Nat.zero_mul, Nat.zero_add, List.getElem?_append_left (by simpa [SL.cells] using hj)]; exact hv
  | t :: ss, k + 1, j, s, v, hs, hv => by
    rw [List.flatMap_cons, List.getElem?_append_right (by simp [SL.cells]; omega)]
    have he : (k + 1) * 8 + j - t.cells.length = k * 8 + j := by simp [SL.cells]; omega
    rw [he]
    exact slotCells_at (by simpa using hs) hv
/-- A row that the call owns reads as slots. -/
theorem slots_of_owns {w : World} {base n : Nat} {v : Value} {ss : List SL} (h : w.ownsRow base 181 8 v n (ss.flatMap SL.cells)) : ∃ A c, v = .slice A n c ∧ Slots w A n ss := by
  obtain ⟨hl, h⟩ := h
  rw [slotCells_len] at hl
  have hl' : ss.length = n := by omega
  rcases h with ⟨rfl, rfl⟩ | ⟨g, cap, cur, rfl, h2, h3, h4, h5, h6, h7⟩
  · exact ⟨none, 0, rfl, hl', fun h => absurd h (Nat.lt_irrefl 0)⟩
  · refine ⟨_, _, rfl, hl', fun _ => ⟨g, 0, rfl, ?_, fun k s hk j v hv => ?_⟩⟩
    · rcases Nat.lt_or_ge g w.heap.size with h' | h'
      · exact h'
      · exact absurd (h3.symm.trans (Array.getElem?_eq_none h')) (by simp)
    · have hj : j < 8 := by have := (List.getElem?_eq_some_iff.1 hv).1; simpa [SL.cells] using this
      have hk2 : k < n := by rw [← hl']; exact (List.getElem?_eq_some_iff.1 hk).1
      rw [Nat.zero_add, cell_of_row w g (k * 8 + j) cur 181 (0, 0) h3]
      have h8 : (cur.toList.take (n * 8))[k * 8 + j]? = some v := by rw [h7]; exact slotCells_at hk hv
      rw [List.getElem?_take, if_pos (by omega)] at h8
      simpa using h8

theorem info_slot : ∃ i, Tryz.prog.info? 181 = some i ∧ i.zero = some (.agg #[.int .i64 0, .int .i64 0, .int .i64 0, .int .i64 0, .int .i64 0, .int .i64 0, .int .i64 0, .int .i64 0]) ∧ i.size = 8 ∧ i.bytes = 64 := by
  have h : (Tryz.prog.info? 181).map (fun i => (i.zero, i.size, i.bytes)) = some (some (.agg #[.int .i64 0, .int .i64 0, .int .i64 0, .int .i64 0, .int .i64 0, .int .i64 0, .int .i64 0, .int .i64 0]), 8, 64) := by kernel_rfl
  obtain ⟨i, hi, h⟩ := Option.map_eq_some_iff.1 h
  simp only [Prod.mk.injEq] at h
  exact ⟨i, hi, h.1, h.2.1, h.2.2⟩

theorem SlotsOf.at {vs : List EVal} {ss : List SL} (h : SlotsOf vs ss) {k : Nat} {s : SL} (hs : ss[k]? = some s) : ∃ v, vs[k]? = some v ∧ SlotOf v s := by
  have hk := (List.getElem?_eq_some_iff.1 hs).1
  rw [h.1] at hk
  exact ⟨vs[k], List.getElem?_eq_getElem hk, h.2 k _ s (List.getElem?_eq_getElem hk) hs⟩
theorem SlotsOf.next {vs : List EVal} {ss : List SL} {k : Nat} {v : EVal} {s : SL} (h : SlotsOf (vs.take k) ss) (hv : vs[k]? = some v) (hs : SlotOf v s) : SlotsOf (vs.take (k + 1)) (ss ++ [s]) := by
  have hk := (List.getElem?_eq_some_iff.1 hv).1
  have hl : ss.length = k := by rw [h.1]; simp; omega
  refine ⟨by simp [hl]; omega, fun j u t hu ht => ?_⟩
  rcases Nat.lt_or_ge j k with hj | hj
  · rw [List.getElem?_take, if_pos (by omega)] at hu
    rw [List.getElem?_append_left (by omega)] at ht
    exact h.2 j u t (by rw [List.getElem?_take, if_pos hj]; exact hu) ht
  · rw [List.getElem?_append_right (by omega)] at ht
    have hj0 : j = k := by
      have := (List.getElem?_eq_some_iff.1 ht).1
      simp at this; omega
    subst hj0
    rw [hl, Nat.sub_self] at ht
    simp at ht; subst ht
    rw [List.getElem?_take, if_pos (by omega), hv] at hu
    injection hu with hu; subst hu; exact hs

end Go.Proofs.YtpgoildfjkokiaaGreat
