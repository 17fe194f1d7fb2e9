/- The walks of the faults of the four inquiries, impl.readQuery, impl.QueryFault. No condition but lengths. -/
import Derived.Test.YtbonpmgbcdknbaaInquiry
namespace Go.Proofs.Ytbonpmgbcdknbaa
open Go.RowKit

set_option maxHeartbeats 800000 in
theorem windowFault_any (d : Int) (n1 c1 n2 c2 lo1 lo2 : Nat) (A1 A2 : Option Addr) (x1 x2 : List Int) (w : World) (h1 : Ints w lo1 A1 n1 x1) (h2 : Ints w lo2 A2 n2 x2) (m1 : n1 ≤ maxLen) (m2 : n2 ≤ maxLen) :
    Calls Try.prog 139 #[.agg #[.slice A1 n1 c1, .slice A2 n2 c2], .int .i64 d] w fun e w' => e = .returned (.int .i64 (rf x1 x2 d)) ∧ Below w.heap.size w w' := by
  have B := Lib.hid (below_alloc w (.cells #[.slice A1 n1 c1, .slice A2 n2 c2] 122))
  have I_1 := Lib.hid h1
  have I_2 := Lib.hid h2
  clear h1 h2
  go_enter Try.func139, Try.ntmps139
  go_wp2_with fail
  refine (implRectFault_any _ _ _ _ _ _ _ _ _ x1 x2 _ (I_1.out.kept B.out) (I_2.out.kept B.out) m1 m2).mono ?_
  rintro e W1 ⟨rfl, b1⟩
  replace B := Lib.hid (B.out.trans (b1.mono B.out.size))
  clear b1
  go_wp2
  go_ret
  exact ⟨rfl, B.out⟩

set_option maxHeartbeats 800000 in
theorem insideFault_any (d : Int) (n1 c1 n2 c2 lo1 lo2 : Nat) (A1 A2 : Option Addr) (x1 x2 : List Int) (w : World) (h1 : Ints w lo1 A1 n1 x1) (h2 : Ints w lo2 A2 n2 x2) (m1 : n1 ≤ maxLen) (m2 : n2 ≤ maxLen) :
    Calls Try.prog 140 #[.agg #[.slice A1 n1 c1, .slice A2 n2 c2], .int .i64 d] w fun e w' => e = .returned (.int .i64 (rf x1 x2 d)) ∧ Below w.heap.size w w' := by
  have B := Lib.hid (below_alloc w (.cells #[.slice A1 n1 c1, .slice A2 n2 c2] 124))
  have I_1 := Lib.hid h1
  have I_2 := Lib.hid h2
  clear h1 h2
  go_enter Try.func140, Try.ntmps140
  go_wp2_with fail
  refine (implRectFault_any _ _ _ _ _ _ _ _ _ x1 x2 _ (I_1.out.kept B.out) (I_2.out.kept B.out) m1 m2).mono ?_
  rintro e W1 ⟨rfl, b1⟩
  replace B := Lib.hid (B.out.trans (b1.mono B.out.size))
  clear b1
  go_wp2
  go_ret
  exact ⟨rfl, B.out⟩

set_option maxHeartbeats 800000 in
theorem pointFaultM_any (d : Int) (n3 c3 lo3 : Nat) (A3 : Option Addr) (x3 : List Int) (w : World) (h3 : Ints w lo3 A3 n3 x3) (m3 : n3 ≤ maxLen) :
    Calls Try.prog 141 #[.agg #[.slice A3 n3 c3], .int .i64 d] w fun e w' => e = .returned (.int .i64 (pf x3 d)) ∧ Below w.heap.size w w' := by
  have B := Lib.hid (below_alloc w (.cells #[.slice A3 n3 c3] 126))
  have I_3 := Lib.hid h3
  clear h3
  go_enter Try.func141, Try.ntmps141
  go_wp2_with fail
  refine (implPointFault_any _ _ _ _ _ x3 _ (I_3.out.kept B.out) m3).mono ?_
  rintro e W1 ⟨rfl, b1⟩
  replace B := Lib.hid (B.out.trans (b1.mono B.out.size))
  clear b1
  go_wp2
  go_ret
  exact ⟨rfl, B.out⟩

/-- What is wrong with who asks for the nearest. -/
def nf (x3 : List Int) (kk d : Int) : Int := if pf x3 d ≠ 0 then pf x3 d else if ¬ (1 ≤ kk ∧ kk ≤ 20) then 3 else 0

set_option maxHeartbeats 1600000 in
theorem nearFaultM_any (d kk : Int) (n3 c3 lo3 : Nat) (A3 : Option Addr) (x3 : List Int) (w : World) (h3 : Ints w lo3 A3 n3 x3) (m3 : n3 ≤ maxLen) :
    Calls Try.prog 142 #[.agg #[.slice A3 n3 c3, .int .i64 kk], .int .i64 d] w fun e w' => e = .returned (.int .i64 (nf x3 kk d)) ∧ Below w.heap.size w w' := by
  have B := Lib.hid (below_alloc w (.cells #[.slice A3 n3 c3, .int .i64 kk] 129))
  have L_q := Lib.hid (Lies.new w 129 #[.slice A3 n3 c3, .int .i64 kk])
  have I_3 := Lib.hid h3
  clear h3
  by_cases hf : pf x3 d = 0
  rotate_left
  · have HF : Hid (nf x3 kk d = pf x3 d) := by show nf x3 kk d = _; simp [nf, hf]
    have hf1 : (pf x3 d != 0) = true := by simpa using hf
    clear hf
    go_enter Try.func142, Try.ntmps142
    go_wp2_with fail
    refine (implPointFault_any _ _ _ _ _ x3 _ (I_3.out.kept B.out) m3).mono ?_
    rintro e W1 ⟨rfl, b1⟩
    replace B := Lib.hid (B.out.trans (b1.mono B.out.size))
    clear b1 L_q
    go_wp2
    go_ret
    exact ⟨ret_i64 HF.out.symm, B.out⟩
  have hf1 : (pf x3 d != 0) = false := by simp [hf]
  by_cases hz : 1 ≤ kk ∧ kk ≤ 20

  · have HF : Hid (nf x3 kk d = 0) := by show nf x3 kk d = _; simp [nf, hf]; omega
    have HA : Hid (allIn 1 20 [kk] = true) := by show allIn 1 20 [kk] = _; rw [allIn_one]; simp; omega
    clear hf
    go_enter Try.func142, Try.ntmps142
    go_wp2_with fail
    refine (implPointFault_any _ _ _ _ _ x3 _ (I_3.out.kept B.out) m3).mono ?_
    rintro e W1 ⟨rfl, b1⟩
    replace L_q := Lib.hid (L_q.out.kept b1 L_q.out.inside)
    replace B := Lib.hid (B.out.trans (b1.mono B.out.size))
    clear b1
    have c_1 : W1.cell? ⟨w.heap.size, 1, none⟩ = some (.int .i64 kk) := L_q.out.cell 1
    go_wp2_with fail
    clear c_1
    replace B := Lib.hid (B.out.alloc B.out.size (.cells #[.int .i64 kk] 2))
    refine (within_is 1 20 _ _ _ _ [kk] _ true HA.out (one_ints W1 kk) (by decide)).mono ?_
    rintro e w' ⟨rfl, rfl⟩
    go_wp2
    go_ret
    exact ⟨ret_i64 HF.out.symm, B.out⟩
  have HF : Hid (nf x3 kk d = 3) := by show nf x3 kk d = _; simp [nf, hf]; omega
  have HA : Hid (allIn 1 20 [kk] = false) := by show allIn 1 20 [kk] = _; rw [allIn_one]; simp; omega
  clear hf
  go_enter Try.func142, Try.ntmps142
  go_wp2_with fail
  refine (implPointFault_any _ _ _ _ _ x3 _ (I_3.out.kept B.out) m3).mono ?_
  rintro e W1 ⟨rfl, b1⟩
  replace L_q := Lib.hid (L_q.out.kept b1 L_q.out.inside)
  replace B := Lib.hid (B.out.trans (b1.mono B.out.size))
  clear b1
  have c_1 : W1.cell? ⟨w.heap.size, 1, none⟩ = some (.int .i64 kk) := L_q.out.cell 1
  go_wp2_with fail
  clear c_1
  replace B := Lib.hid (B.out.alloc B.out.size (.cells #[.int .i64 kk] 2))
  refine (within_is 1 20 _ _ _ _ [kk] _ false HA.out (one_ints W1 kk) (by decide)).mono ?_
  rintro e w' ⟨rfl, rfl⟩
  go_wp2
  go_ret
  exact ⟨ret_i64 HF.out.symm, B.out⟩

/-- What is asked, or nothing where there is a fault of form. -/
def askV (d : Int) (q : Bool) (v : Value) : Value := if (2 ≤ d ∧ d ≤ 3) ∧ q = true then v else .nilIface
theorem ret_asked {a b : Value} {c d : Int} (h : a = b) (h' : c = d) : Ending.returned (.tuple #[a, .int .i64 c]) = .returned (.tuple #[b, .int .i64 d]) := by rw [h, h']

set_option maxHeartbeats 3200000 in
theorem readQuery_any (kd kk d : Int) (n1 c1 n2 c2 n3 c3 lo1 lo2 lo3 : Nat) (A1 A2 A3 : Option Addr) (x1 x2 x3 : List Int) (w : World)
    (h1 : Ints w lo1 A1 n1 x1) (h2 : Ints w lo2 A2 n2 x2) (h3 : Ints w lo3 A3 n3 x3) (m1 : n1 ≤ maxLen) (m2 : n2 ≤ maxLen) (m3 : n3 ≤ maxLen) :
    Calls Try.prog 70 #[.agg #[.int .i64 kd, .slice A1 n1 c1, .slice A2 n2 c2, .slice A3 n3 c3, .int .i64 kk], .int .i64 d] w fun e w' => e = .returned (.tuple #[askV d (qform kd x1 x2 x3 kk) (inqV kd kk n1 c1 n2 c2 n3 c3 A1 A2 A3), .int .i64 (qf kd x1 x2 x3 kk d)]) ∧ Below w.heap.size w w' := by
  have E1 := Lib.hid h1.1
  have E2 := Lib.hid h2.1
  have E3 := Lib.hid h3.1
  have I_1 := Lib.hid h1
  have I_2 := Lib.hid h2
  have I_3 := Lib.hid h3
  clear h1 h2 h3
  have B := Lib.hid (below_alloc w (.cells #[.int .i64 kd, .slice A1 n1 c1, .slice A2 n2 c2, .slice A3 n3 c3, .int .i64 kk] 59))
  have L_q := Lib.hid (Lies.new w 59 #[.int .i64 kd, .slice A1 n1 c1, .slice A2 n2 c2, .slice A3 n3 c3, .int .i64 kk])
  by_cases hd : 2 ≤ d ∧ d ≤ 3
  rotate_left
  · have HA : Hid (allIn 2 3 [d] = false) := by show allIn 2 3 [d] = _; rw [allIn_one]; simp; omega
    have HF : Hid (qf kd x1 x2 x3 kk d = 3) := by show qf kd x1 x2 x3 kk d = _; simp only [qf, if_neg hd]
    have HV : Hid (askV d (qform kd x1 x2 x3 kk) (inqV kd kk n1 c1 n2 c2 n3 c3 A1 A2 A3) = .nilIface) := by show askV _ _ _ = _; unfold askV; rw [if_neg (fun h => hd h.1)]
    clear hd
    go_enter Try.func70, Try.ntmps70
    go_wp2_with fail
    replace L_q := Lib.hid (L_q.out.alloc (.cells #[.int .i64 d] 2))
    replace B := Lib.hid (B.out.alloc B.out.size (.cells #[.int .i64 d] 2))
    have ONE := Lib.hid (one_ints (w.alloc (.cells #[.int .i64 kd, .slice A1 n1 c1, .slice A2 n2 c2, .slice A3 n3 c3, .int .i64 kk] 59)) d)
    simp only [World.size_alloc] at ONE
    refine (within_is 2 3 _ _ _ _ [d] _ false HA.out ONE.out (by decide)).mono ?_
    clear ONE
    rintro e w' ⟨rfl, rfl⟩
    go_wp2
    go_ret2
    exact ⟨ret_asked HV.out.symm HF.out.symm, B.out⟩
  have HA : Hid (allIn 2 3 [d] = true) := by show allIn 2 3 [d] = _; rw [allIn_one]; simp; omega
  by_cases hq : qform kd x1 x2 x3 kk = true
  rotate_left
  · have HF : Hid (qf kd x1 x2 x3 kk d = 1) := by show qf kd x1 x2 x3 kk d = _; simp only [qf, if_pos hd, if_neg hq]
    have HV : Hid (askV d (qform kd x1 x2 x3 kk) (inqV kd kk n1 c1 n2 c2 n3 c3 A1 A2 A3) = .nilIface) := by show askV _ _ _ = _; unfold askV; rw [if_neg (fun h => hq h.2)]
    have HQ : Hid (qform kd x1 x2 x3 kk = false) := by show qform kd x1 x2 x3 kk = _; simpa using hq
    clear hq hd
    go_enter Try.func70, Try.ntmps70
    go_wp2_with fail
    replace L_q := Lib.hid (L_q.out.alloc (.cells #[.int .i64 d] 2))
    replace B := Lib.hid (B.out.alloc B.out.size (.cells #[.int .i64 d] 2))
    have ONE := Lib.hid (one_ints (w.alloc (.cells #[.int .i64 kd, .slice A1 n1 c1, .slice A2 n2 c2, .slice A3 n3 c3, .int .i64 kk] 59)) d)
    simp only [World.size_alloc] at ONE
    refine (within_is 2 3 _ _ _ _ [d] _ true HA.out ONE.out (by decide)).mono ?_
    clear ONE
    rintro e w' ⟨rfl, rfl⟩
    go_wp2_with fail
    refine (inquiryOf_any _ _ _ _ _ _ _ _ _ _ _ _ _ _ x1 x2 x3 _ (I_1.out.kept B.out) (I_2.out.kept B.out) (I_3.out.kept B.out) m1 m2 m3).mono ?_
    rintro e W1 ⟨rfl, b1⟩
    replace B := Lib.hid (B.out.trans (b1.mono B.out.size))
    clear b1 L_q
    rw [HQ.out]
    go_wp2
    go_ret2
    exact ⟨ret_asked HV.out.symm HF.out.symm, B.out⟩
  have HF : Hid (qf kd x1 x2 x3 kk d = qin kd x1 x2 x3 kk d) := by show qf kd x1 x2 x3 kk d = _; simp only [qf, if_pos hd, if_pos hq]
  have HV : Hid (askV d (qform kd x1 x2 x3 kk) (inqV kd kk n1 c1 n2 c2 n3 c3 A1 A2 A3) = inqV kd kk n1 c1 n2 c2 n3 c3 A1 A2 A3) := by show askV _ _ _ = _; unfold askV; rw [if_pos ⟨hd, hq⟩]
  have hc : kd = 1 ∨ kd = 2 ∨ kd = 3 ∨ kd = 4 := by
    unfold qform at hq
    split at hq
    · omega
    · split at hq
      · omega
      · split at hq
        · omega
        · exact absurd hq (by simp)
  have HQ := Lib.hid hq
  clear hd hq
  rcases hc with rfl | rfl | rfl | rfl
  · have hm : ∀ w : World, (method 278 122 (.agg #[.slice A1 n1 c1, .slice A2 n2 c2]) "loop.example/g00680/impl.fault").run Try.prog w = .ok (139, .agg #[.slice A1 n1 c1, .slice A2 n2 c2]) w := fun _ => by kernel_rfl
    have HI : Hid (inqV 1 kk n1 c1 n2 c2 n3 c3 A1 A2 A3 = (Value.iface 122 (.agg #[.slice A1 n1 c1, .slice A2 n2 c2]))) := by show inqV 1 kk n1 c1 n2 c2 n3 c3 A1 A2 A3 = _; simp [inqV]
    have HE : Hid (qin 1 x1 x2 x3 kk d = rf x1 x2 d) := by show qin 1 x1 x2 x3 kk d = _; simp [qin]
    go_enter Try.func70, Try.ntmps70
    go_wp2_with fail
    replace L_q := Lib.hid (L_q.out.alloc (.cells #[.int .i64 d] 2))
    replace B := Lib.hid (B.out.alloc B.out.size (.cells #[.int .i64 d] 2))
    have ONE := Lib.hid (one_ints (w.alloc (.cells #[.int .i64 1, .slice A1 n1 c1, .slice A2 n2 c2, .slice A3 n3 c3, .int .i64 kk] 59)) d)
    simp only [World.size_alloc] at ONE
    refine (within_is 2 3 _ _ _ _ [d] _ true HA.out ONE.out (by decide)).mono ?_
    clear ONE
    rintro e w' ⟨rfl, rfl⟩
    go_wp2_with fail
    refine (inquiryOf_any _ _ _ _ _ _ _ _ _ _ _ _ _ _ x1 x2 x3 _ (I_1.out.kept B.out) (I_2.out.kept B.out) (I_3.out.kept B.out) m1 m2 m3).mono ?_
    rintro e W1 ⟨rfl, b1⟩
    replace B := Lib.hid (B.out.trans (b1.mono B.out.size))
    clear b1 L_q
    rw [HQ.out, HI.out]
    go_wp2_with fail
    refine (windowFault_any _ _ _ _ _ _ _ _ _ x1 x2 _ (I_1.out.kept B.out) (I_2.out.kept B.out) m1 m2).mono ?_
    rintro e W2 ⟨rfl, b2⟩
    replace B := Lib.hid (B.out.trans (b2.mono B.out.size))
    clear b2
    go_wp2
    go_ret2
    exact ⟨ret_asked (HV.out.trans HI.out).symm (HF.out.trans HE.out).symm, B.out⟩
  · have hm : ∀ w : World, (method 278 124 (.agg #[.slice A1 n1 c1, .slice A2 n2 c2]) "loop.example/g00680/impl.fault").run Try.prog w = .ok (140, .agg #[.slice A1 n1 c1, .slice A2 n2 c2]) w := fun _ => by kernel_rfl
    have HI : Hid (inqV 2 kk n1 c1 n2 c2 n3 c3 A1 A2 A3 = (Value.iface 124 (.agg #[.slice A1 n1 c1, .slice A2 n2 c2]))) := by show inqV 2 kk n1 c1 n2 c2 n3 c3 A1 A2 A3 = _; simp [inqV]
    have HE : Hid (qin 2 x1 x2 x3 kk d = rf x1 x2 d) := by show qin 2 x1 x2 x3 kk d = _; simp [qin]
    go_enter Try.func70, Try.ntmps70
    go_wp2_with fail
    replace L_q := Lib.hid (L_q.out.alloc (.cells #[.int .i64 d] 2))
    replace B := Lib.hid (B.out.alloc B.out.size (.cells #[.int .i64 d] 2))
    have ONE := Lib.hid (one_ints (w.alloc (.cells #[.int .i64 2, .slice A1 n1 c1, .slice A2 n2 c2, .slice A3 n3 c3, .int .i64 kk] 59)) d)
    simp only [World.size_alloc] at ONE
    refine (within_is 2 3 _ _ _ _ [d] _ true HA.out ONE.out (by decide)).mono ?_
    clear ONE
    rintro e w' ⟨rfl, rfl⟩
    go_wp2_with fail
    refine (inquiryOf_any _ _ _ _ _ _ _ _ _ _ _ _ _ _ x1 x2 x3 _ (I_1.out.kept B.out) (I_2.out.kept B.out) (I_3.out.kept B.out) m1 m2 m3).mono ?_
    rintro e W1 ⟨rfl, b1⟩
    replace B := Lib.hid (B.out.trans (b1.mono B.out.size))
    clear b1 L_q
    rw [HQ.out, HI.out]
    go_wp2_with fail
    refine (insideFault_any _ _ _ _ _ _ _ _ _ x1 x2 _ (I_1.out.kept B.out) (I_2.out.kept B.out) m1 m2).mono ?_
    rintro e W2 ⟨rfl, b2⟩
    replace B := Lib.hid (B.out.trans (b2.mono B.out.size))
    clear b2
    go_wp2
    go_ret2
    exact ⟨ret_asked (HV.out.trans HI.out).symm (HF.out.trans HE.out).symm, B.out⟩
  · have hm : ∀ w : World, (method 278 126 (.agg #[.slice A3 n3 c3]) "loop.example/g00680/impl.fault").run Try.prog w = .ok (141, .agg #[.slice A3 n3 c3]) w := fun _ => by kernel_rfl
    have HI : Hid (inqV 3 kk n1 c1 n2 c2 n3 c3 A1 A2 A3 = (Value.iface 126 (.agg #[.slice A3 n3 c3]))) := by show inqV 3 kk n1 c1 n2 c2 n3 c3 A1 A2 A3 = _; simp [inqV]
    have HE : Hid (qin 3 x1 x2 x3 kk d = pf x3 d) := by show qin 3 x1 x2 x3 kk d = _; by_cases hz : pf x3 d = 0 <;> simp [qin, hz]
    go_enter Try.func70, Try.ntmps70
    go_wp2_with fail
    replace L_q := Lib.hid (L_q.out.alloc (.cells #[.int .i64 d] 2))
    replace B := Lib.hid (B.out.alloc B.out.size (.cells #[.int .i64 d] 2))
    have ONE := Lib.hid (one_ints (w.alloc (.cells #[.int .i64 3, .slice A1 n1 c1, .slice A2 n2 c2, .slice A3 n3 c3, .int .i64 kk] 59)) d)
    simp only [World.size_alloc] at ONE
    refine (within_is 2 3 _ _ _ _ [d] _ true HA.out ONE.out (by decide)).mono ?_
    clear ONE
    rintro e w' ⟨rfl, rfl⟩
    go_wp2_with fail
    refine (inquiryOf_any _ _ _ _ _ _ _ _ _ _ _ _ _ _ x1 x2 x3 _ (I_1.out.kept B.out) (I_2.out.kept B.out) (I_3.out.kept B.out) m1 m2 m3).mono ?_
    rintro e W1 ⟨rfl, b1⟩
    replace B := Lib.hid (B.out.trans (b1.mono B.out.size))
    clear b1 L_q
    rw [HQ.out, HI.out]
    go_wp2_with fail
    refine (pointFaultM_any _ _ _ _ _ x3 _ (I_3.out.kept B.out) m3).mono ?_
    rintro e W2 ⟨rfl, b2⟩
    replace B := Lib.hid (B.out.trans (b2.mono B.out.size))
    clear b2
    go_wp2
    go_ret2
    exact ⟨ret_asked (HV.out.trans HI.out).symm (HF.out.trans HE.out).symm, B.out⟩
  · have hm : ∀ w : World, (method 278 129 (.agg #[.slice A3 n3 c3, .int .i64 kk]) "loop.example/g00680/impl.fault").run Try.prog w = .ok (142, .agg #[.slice A3 n3 c3, .int .i64 kk]) w := fun _ => by kernel_rfl
    have HI : Hid (inqV 4 kk n1 c1 n2 c2 n3 c3 A1 A2 A3 = (Value.iface 129 (.agg #[.slice A3 n3 c3, .int .i64 kk]))) := by show inqV 4 kk n1 c1 n2 c2 n3 c3 A1 A2 A3 = _; simp [inqV]
    have HE : Hid (qin 4 x1 x2 x3 kk d = nf x3 kk d) := by show qin 4 x1 x2 x3 kk d = _; simp [qin, nf]
    go_enter Try.func70, Try.ntmps70
    go_wp2_with fail
    replace L_q := Lib.hid (L_q.out.alloc (.cells #[.int .i64 d] 2))
    replace B := Lib.hid (B.out.alloc B.out.size (.cells #[.int .i64 d] 2))
    have ONE := Lib.hid (one_ints (w.alloc (.cells #[.int .i64 4, .slice A1 n1 c1, .slice A2 n2 c2, .slice A3 n3 c3, .int .i64 kk] 59)) d)
    simp only [World.size_alloc] at ONE
    refine (within_is 2 3 _ _ _ _ [d] _ true HA.out ONE.out (by decide)).mono ?_
    clear ONE
    rintro e w' ⟨rfl, rfl⟩
    go_wp2_with fail
    refine (inquiryOf_any _ _ _ _ _ _ _ _ _ _ _ _ _ _ x1 x2 x3 _ (I_1.out.kept B.out) (I_2.out.kept B.out) (I_3.out.kept B.out) m1 m2 m3).mono ?_
    rintro e W1 ⟨rfl, b1⟩
    replace B := Lib.hid (B.out.trans (b1.mono B.out.size))
    clear b1 L_q
    rw [HQ.out, HI.out]
    go_wp2_with fail
    refine (nearFaultM_any _ _ _ _ _ _ x3 _ (I_3.out.kept B.out) m3).mono ?_
    rintro e W2 ⟨rfl, b2⟩
    replace B := Lib.hid (B.out.trans (b2.mono B.out.size))
    clear b2
    go_wp2
    go_ret2
    exact ⟨ret_asked (HV.out.trans HI.out).symm (HF.out.trans HE.out).symm, B.out⟩

end Go.Proofs.Ytbonpmgbcdknbaa
