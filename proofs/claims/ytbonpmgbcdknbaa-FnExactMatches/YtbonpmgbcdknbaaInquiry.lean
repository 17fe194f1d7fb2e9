/- The walks of impl.inquiryOf, the faults of the four inquiries, impl.readQuery, impl.QueryFault. No condition but lengths. -/
import Derived.Test.YtbonpmgbcdknbaaQueryFault
namespace Go.Proofs.Ytbonpmgbcdknbaa
open Go.RowKit

/-- What is read as an inquiry: a type's number and what it holds, or nothing. -/
def inqV (kd kk : Int) (n1 c1 n2 c2 n3 c3 : Nat) (A1 A2 A3 : Option Addr) : Value :=
  if kd = 1 then .iface 122 (.agg #[.slice A1 n1 c1, .slice A2 n2 c2]) else if kd = 2 then .iface 124 (.agg #[.slice A1 n1 c1, .slice A2 n2 c2]) else if kd = 3 then .iface 126 (.agg #[.slice A3 n3 c3]) else if kd = 4 then .iface 129 (.agg #[.slice A3 n3 c3, .int .i64 kk]) else .nilIface

theorem same_empty (x1 x2 : List Int) : sameF x1 x2 [] [] = (decide (x1.length = 0) && decide (x2.length = 0)) := by
  simp [sameF]

theorem ret_two {a b : Value} {c d : Bool} (h : a = b) (h' : c = d) : Ending.returned (.tuple #[a, .bool c]) = .returned (.tuple #[b, .bool d]) := by rw [h, h']

set_option maxHeartbeats 3200000 in
theorem inquiryOf_any (kd kk : Int) (n1 c1 n2 c2 n3 c3 lo1 lo2 lo3 : Nat) (A1 A2 A3 : Option Addr) (x1 x2 x3 : List Int) (w : World)
    (h1 : Ints w lo1 A1 n1 x1) (h2 : Ints w lo2 A2 n2 x2) (h3 : Ints w lo3 A3 n3 x3) (m1 : n1 ≤ maxLen) (m2 : n2 ≤ maxLen) (m3 : n3 ≤ maxLen) :
    Calls Try.prog 86 #[.agg #[.int .i64 kd, .slice A1 n1 c1, .slice A2 n2 c2, .slice A3 n3 c3, .int .i64 kk]] w fun e w' => e = .returned (.tuple #[inqV kd kk n1 c1 n2 c2 n3 c3 A1 A2 A3, .bool (qform kd x1 x2 x3 kk)]) ∧ Below w.heap.size w w' := by
  have E1 := Lib.hid h1.1
  have E2 := Lib.hid h2.1
  have E3 := Lib.hid h3.1
  have I_1 := Lib.hid h1
  have I_2 := Lib.hid h2
  have I_3 := Lib.hid h3
  clear h1 h2 h3
  have B := Lib.hid (below_alloc w (.cells #[.int .i64 kd, .slice A1 n1 c1, .slice A2 n2 c2, .slice A3 n3 c3, .int .i64 kk] 59))
  have L_q := Lib.hid (Lies.new w 59 #[.int .i64 kd, .slice A1 n1 c1, .slice A2 n2 c2, .slice A3 n3 c3, .int .i64 kk])
  by_cases hk1 : kd = 1
  · subst hk1
    by_cases hp : n3 = 0
    · subst hp
      have HF : Hid (qform 1 x1 x2 x3 kk = (kk == 0)) := by
        show qform 1 x1 x2 x3 kk = _
        have e1 := E1.out; have e2 := E2.out; have e3 := E3.out
        by_cases hz : kk = 0
        · first | (simp [qform, e1, e2, e3, hz]; done) | (simp [qform, e1, e2, e3, hz, hs]; done) | (simp [qform, e1, e2, e3, hz]; omega)
        · first | (simp [qform, e1, e2, e3, hz]; done) | (simp [qform, e1, e2, e3, hz, hs]; done) | (simp [qform, e1, e2, e3, hz]; omega)
      have HV : Hid (inqV 1 kk n1 c1 n2 c2 0 c3 A1 A2 A3 = .iface 122 (.agg #[.slice A1 n1 c1, .slice A2 n2 c2])) := by show inqV 1 kk n1 c1 n2 c2 0 c3 A1 A2 A3 = _; simp [inqV]
      go_enter Try.func86, Try.ntmps86
      go_wp2_with fail
      refine (implSameRects_any _ _ _ _ _ _ _ _ _ _ _ _ _ _ _ _ x1 x2 [] [] _ (I_1.out.kept B.out) (I_2.out.kept B.out) (Ints.empty _ 0 _) (Ints.empty _ 0 _) m1 m2 (Nat.zero_le _) (Nat.zero_le _)).mono ?_
      rintro e W1 ⟨rfl, b1⟩
      replace L_q := Lib.hid (L_q.out.kept b1 L_q.out.inside)
      replace B := Lib.hid (B.out.trans (b1.mono B.out.size))
      clear b1
      have c_0 : W1.cell? ⟨w.heap.size, 0, none⟩ = some (.int .i64 1) := L_q.out.cell 0
      have c_1 : W1.cell? ⟨w.heap.size, 1, none⟩ = some (.slice A1 n1 c1) := L_q.out.cell 1
      have c_2 : W1.cell? ⟨w.heap.size, 2, none⟩ = some (.slice A2 n2 c2) := L_q.out.cell 2
      have c_3 : W1.cell? ⟨w.heap.size, 3, none⟩ = some (.slice A3 0 c3) := L_q.out.cell 3
      have c_4 : W1.cell? ⟨w.heap.size, 4, none⟩ = some (.int .i64 kk) := L_q.out.cell 4
      go_wp2
      go_quiet (fail)
      go_wp2
      go_ret2
      exact ⟨ret_two HV.out.symm HF.out.symm, below_draws B.out _⟩
    have hp1 : ((n3 : Int) == 0) = false := by simp; omega
    have HF : Hid (qform 1 x1 x2 x3 kk = false) := by
      show qform 1 x1 x2 x3 kk = _
      have e1 := E1.out; have e2 := E2.out; have e3 := E3.out
      by_cases hz : kk = 0
      · first | (simp [qform, e1, e2, e3, hz]; done) | (simp [qform, e1, e2, e3, hz, hs]; done) | (simp [qform, e1, e2, e3, hz]; omega)
      · first | (simp [qform, e1, e2, e3, hz]; done) | (simp [qform, e1, e2, e3, hz, hs]; done) | (simp [qform, e1, e2, e3, hz]; omega)
    have HV : Hid (inqV 1 kk n1 c1 n2 c2 n3 c3 A1 A2 A3 = .iface 122 (.agg #[.slice A1 n1 c1, .slice A2 n2 c2])) := by show inqV 1 kk n1 c1 n2 c2 n3 c3 A1 A2 A3 = _; simp [inqV]
    go_enter Try.func86, Try.ntmps86
    go_wp2_with fail
    refine (implSameRects_any _ _ _ _ _ _ _ _ _ _ _ _ _ _ _ _ x1 x2 [] [] _ (I_1.out.kept B.out) (I_2.out.kept B.out) (Ints.empty _ 0 _) (Ints.empty _ 0 _) m1 m2 (Nat.zero_le _) (Nat.zero_le _)).mono ?_
    rintro e W1 ⟨rfl, b1⟩
    replace L_q := Lib.hid (L_q.out.kept b1 L_q.out.inside)
    replace B := Lib.hid (B.out.trans (b1.mono B.out.size))
    clear b1
    have c_0 : W1.cell? ⟨w.heap.size, 0, none⟩ = some (.int .i64 1) := L_q.out.cell 0
    have c_1 : W1.cell? ⟨w.heap.size, 1, none⟩ = some (.slice A1 n1 c1) := L_q.out.cell 1
    have c_2 : W1.cell? ⟨w.heap.size, 2, none⟩ = some (.slice A2 n2 c2) := L_q.out.cell 2
    have c_3 : W1.cell? ⟨w.heap.size, 3, none⟩ = some (.slice A3 n3 c3) := L_q.out.cell 3
    have c_4 : W1.cell? ⟨w.heap.size, 4, none⟩ = some (.int .i64 kk) := L_q.out.cell 4
    go_wp2
    go_quiet (fail)
    go_wp2
    go_ret2
    exact ⟨ret_two HV.out.symm HF.out.symm, below_draws B.out _⟩
  by_cases hk2 : kd = 2
  · subst hk2
    by_cases hp : n3 = 0
    · subst hp
      have HF : Hid (qform 2 x1 x2 x3 kk = (kk == 0)) := by
        show qform 2 x1 x2 x3 kk = _
        have e1 := E1.out; have e2 := E2.out; have e3 := E3.out
        by_cases hz : kk = 0
        · first | (simp [qform, e1, e2, e3, hz]; done) | (simp [qform, e1, e2, e3, hz, hs]; done) | (simp [qform, e1, e2, e3, hz]; omega)
        · first | (simp [qform, e1, e2, e3, hz]; done) | (simp [qform, e1, e2, e3, hz, hs]; done) | (simp [qform, e1, e2, e3, hz]; omega)
      have HV : Hid (inqV 2 kk n1 c1 n2 c2 0 c3 A1 A2 A3 = .iface 124 (.agg #[.slice A1 n1 c1, .slice A2 n2 c2])) := by show inqV 2 kk n1 c1 n2 c2 0 c3 A1 A2 A3 = _; simp [inqV]
      go_enter Try.func86, Try.ntmps86
      go_wp2_with fail
      refine (implSameRects_any _ _ _ _ _ _ _ _ _ _ _ _ _ _ _ _ x1 x2 [] [] _ (I_1.out.kept B.out) (I_2.out.kept B.out) (Ints.empty _ 0 _) (Ints.empty _ 0 _) m1 m2 (Nat.zero_le _) (Nat.zero_le _)).mono ?_
      rintro e W1 ⟨rfl, b1⟩
      replace L_q := Lib.hid (L_q.out.kept b1 L_q.out.inside)
      replace B := Lib.hid (B.out.trans (b1.mono B.out.size))
      clear b1
      have c_0 : W1.cell? ⟨w.heap.size, 0, none⟩ = some (.int .i64 2) := L_q.out.cell 0
      have c_1 : W1.cell? ⟨w.heap.size, 1, none⟩ = some (.slice A1 n1 c1) := L_q.out.cell 1
      have c_2 : W1.cell? ⟨w.heap.size, 2, none⟩ = some (.slice A2 n2 c2) := L_q.out.cell 2
      have c_3 : W1.cell? ⟨w.heap.size, 3, none⟩ = some (.slice A3 0 c3) := L_q.out.cell 3
      have c_4 : W1.cell? ⟨w.heap.size, 4, none⟩ = some (.int .i64 kk) := L_q.out.cell 4
      go_wp2
      go_quiet (fail)
      go_wp2
      go_ret2
      exact ⟨ret_two HV.out.symm HF.out.symm, below_draws B.out _⟩
    have hp1 : ((n3 : Int) == 0) = false := by simp; omega
    have HF : Hid (qform 2 x1 x2 x3 kk = false) := by
      show qform 2 x1 x2 x3 kk = _
      have e1 := E1.out; have e2 := E2.out; have e3 := E3.out
      by_cases hz : kk = 0
      · first | (simp [qform, e1, e2, e3, hz]; done) | (simp [qform, e1, e2, e3, hz, hs]; done) | (simp [qform, e1, e2, e3, hz]; omega)
      · first | (simp [qform, e1, e2, e3, hz]; done) | (simp [qform, e1, e2, e3, hz, hs]; done) | (simp [qform, e1, e2, e3, hz]; omega)
    have HV : Hid (inqV 2 kk n1 c1 n2 c2 n3 c3 A1 A2 A3 = .iface 124 (.agg #[.slice A1 n1 c1, .slice A2 n2 c2])) := by show inqV 2 kk n1 c1 n2 c2 n3 c3 A1 A2 A3 = _; simp [inqV]
    go_enter Try.func86, Try.ntmps86
    go_wp2_with fail
    refine (implSameRects_any _ _ _ _ _ _ _ _ _ _ _ _ _ _ _ _ x1 x2 [] [] _ (I_1.out.kept B.out) (I_2.out.kept B.out) (Ints.empty _ 0 _) (Ints.empty _ 0 _) m1 m2 (Nat.zero_le _) (Nat.zero_le _)).mono ?_
    rintro e W1 ⟨rfl, b1⟩
    replace L_q := Lib.hid (L_q.out.kept b1 L_q.out.inside)
    replace B := Lib.hid (B.out.trans (b1.mono B.out.size))
    clear b1
    have c_0 : W1.cell? ⟨w.heap.size, 0, none⟩ = some (.int .i64 2) := L_q.out.cell 0
    have c_1 : W1.cell? ⟨w.heap.size, 1, none⟩ = some (.slice A1 n1 c1) := L_q.out.cell 1
    have c_2 : W1.cell? ⟨w.heap.size, 2, none⟩ = some (.slice A2 n2 c2) := L_q.out.cell 2
    have c_3 : W1.cell? ⟨w.heap.size, 3, none⟩ = some (.slice A3 n3 c3) := L_q.out.cell 3
    have c_4 : W1.cell? ⟨w.heap.size, 4, none⟩ = some (.int .i64 kk) := L_q.out.cell 4
    go_wp2
    go_quiet (fail)
    go_wp2
    go_ret2
    exact ⟨ret_two HV.out.symm HF.out.symm, below_draws B.out _⟩
  by_cases hk3 : kd = 3
  · subst hk3
    by_cases hs : n1 = 0 ∧ n2 = 0
    · have S_ : Hid (sameF x1 x2 [] [] = true) := by show sameF x1 x2 [] [] = true; have e1 := E1.out; have e2 := E2.out; rw [same_empty]; simp [e1, e2, hs]
      have HF : Hid (qform 3 x1 x2 x3 kk = (kk == 0)) := by
        show qform 3 x1 x2 x3 kk = _
        have e1 := E1.out; have e2 := E2.out; have e3 := E3.out
        by_cases hz : kk = 0
        · first | (simp [qform, e1, e2, e3, hz]; done) | (simp [qform, e1, e2, e3, hz, hs]; done) | (simp [qform, e1, e2, e3, hz]; omega)
        · first | (simp [qform, e1, e2, e3, hz]; done) | (simp [qform, e1, e2, e3, hz, hs]; done) | (simp [qform, e1, e2, e3, hz]; omega)
      clear hs
      have HV : Hid (inqV 3 kk n1 c1 n2 c2 n3 c3 A1 A2 A3 = .iface 126 (.agg #[.slice A3 n3 c3])) := by show inqV 3 kk n1 c1 n2 c2 n3 c3 A1 A2 A3 = _; simp [inqV]
      have S1 := S_
      go_enter Try.func86, Try.ntmps86
      go_wp2_with fail
      refine (implSameRects_any _ _ _ _ _ _ _ _ _ _ _ _ _ _ _ _ x1 x2 [] [] _ (I_1.out.kept B.out) (I_2.out.kept B.out) (Ints.empty _ 0 _) (Ints.empty _ 0 _) m1 m2 (Nat.zero_le _) (Nat.zero_le _)).mono ?_
      rintro e W1 ⟨rfl, b1⟩
      replace L_q := Lib.hid (L_q.out.kept b1 L_q.out.inside)
      replace B := Lib.hid (B.out.trans (b1.mono B.out.size))
      clear b1
      have c_0 : W1.cell? ⟨w.heap.size, 0, none⟩ = some (.int .i64 3) := L_q.out.cell 0
      have c_1 : W1.cell? ⟨w.heap.size, 1, none⟩ = some (.slice A1 n1 c1) := L_q.out.cell 1
      have c_2 : W1.cell? ⟨w.heap.size, 2, none⟩ = some (.slice A2 n2 c2) := L_q.out.cell 2
      have c_3 : W1.cell? ⟨w.heap.size, 3, none⟩ = some (.slice A3 n3 c3) := L_q.out.cell 3
      have c_4 : W1.cell? ⟨w.heap.size, 4, none⟩ = some (.int .i64 kk) := L_q.out.cell 4
      rw [S_.out]
      go_wp2
      go_quiet (fail)
      go_wp2
      go_ret2
      exact ⟨ret_two HV.out.symm HF.out.symm, below_draws B.out _⟩
    have S_ : Hid (sameF x1 x2 [] [] = false) := by show sameF x1 x2 [] [] = false; have e1 := E1.out; have e2 := E2.out; rw [same_empty]; simp [e1, e2]; omega
    have HF : Hid (qform 3 x1 x2 x3 kk = false) := by
      show qform 3 x1 x2 x3 kk = _
      have e1 := E1.out; have e2 := E2.out; have e3 := E3.out
      by_cases hz : kk = 0
      · first | (simp [qform, e1, e2, e3, hz]; done) | (simp [qform, e1, e2, e3, hz, hs]; done) | (simp [qform, e1, e2, e3, hz]; omega)
      · first | (simp [qform, e1, e2, e3, hz]; done) | (simp [qform, e1, e2, e3, hz, hs]; done) | (simp [qform, e1, e2, e3, hz]; omega)
    clear hs
    have HV : Hid (inqV 3 kk n1 c1 n2 c2 n3 c3 A1 A2 A3 = .iface 126 (.agg #[.slice A3 n3 c3])) := by show inqV 3 kk n1 c1 n2 c2 n3 c3 A1 A2 A3 = _; simp [inqV]
    have S1 := S_
    go_enter Try.func86, Try.ntmps86
    go_wp2_with fail
    refine (implSameRects_any _ _ _ _ _ _ _ _ _ _ _ _ _ _ _ _ x1 x2 [] [] _ (I_1.out.kept B.out) (I_2.out.kept B.out) (Ints.empty _ 0 _) (Ints.empty _ 0 _) m1 m2 (Nat.zero_le _) (Nat.zero_le _)).mono ?_
    rintro e W1 ⟨rfl, b1⟩
    replace L_q := Lib.hid (L_q.out.kept b1 L_q.out.inside)
    replace B := Lib.hid (B.out.trans (b1.mono B.out.size))
    clear b1
    have c_0 : W1.cell? ⟨w.heap.size, 0, none⟩ = some (.int .i64 3) := L_q.out.cell 0
    have c_1 : W1.cell? ⟨w.heap.size, 1, none⟩ = some (.slice A1 n1 c1) := L_q.out.cell 1
    have c_2 : W1.cell? ⟨w.heap.size, 2, none⟩ = some (.slice A2 n2 c2) := L_q.out.cell 2
    have c_3 : W1.cell? ⟨w.heap.size, 3, none⟩ = some (.slice A3 n3 c3) := L_q.out.cell 3
    have c_4 : W1.cell? ⟨w.heap.size, 4, none⟩ = some (.int .i64 kk) := L_q.out.cell 4
    rw [S_.out]
    go_wp2
    go_quiet (fail)
    go_wp2
    go_ret2
    exact ⟨ret_two HV.out.symm HF.out.symm, below_draws B.out _⟩
  by_cases hk4 : kd = 4
  · subst hk4
    have HF : Hid (qform 4 x1 x2 x3 kk = sameF x1 x2 [] []) := by show qform 4 x1 x2 x3 kk = _; rw [same_empty]; simp [qform]
    have HV : Hid (inqV 4 kk n1 c1 n2 c2 n3 c3 A1 A2 A3 = .iface 129 (.agg #[.slice A3 n3 c3, .int .i64 kk])) := by show inqV 4 kk n1 c1 n2 c2 n3 c3 A1 A2 A3 = _; simp [inqV]
    go_enter Try.func86, Try.ntmps86
    go_wp2_with fail
    refine (implSameRects_any _ _ _ _ _ _ _ _ _ _ _ _ _ _ _ _ x1 x2 [] [] _ (I_1.out.kept B.out) (I_2.out.kept B.out) (Ints.empty _ 0 _) (Ints.empty _ 0 _) m1 m2 (Nat.zero_le _) (Nat.zero_le _)).mono ?_
    rintro e W1 ⟨rfl, b1⟩
    replace L_q := Lib.hid (L_q.out.kept b1 L_q.out.inside)
    replace B := Lib.hid (B.out.trans (b1.mono B.out.size))
    clear b1
    have c_0 : W1.cell? ⟨w.heap.size, 0, none⟩ = some (.int .i64 4) := L_q.out.cell 0
    have c_1 : W1.cell? ⟨w.heap.size, 1, none⟩ = some (.slice A1 n1 c1) := L_q.out.cell 1
    have c_2 : W1.cell? ⟨w.heap.size, 2, none⟩ = some (.slice A2 n2 c2) := L_q.out.cell 2
    have c_3 : W1.cell? ⟨w.heap.size, 3, none⟩ = some (.slice A3 n3 c3) := L_q.out.cell 3
    have c_4 : W1.cell? ⟨w.heap.size, 4, none⟩ = some (.int .i64 kk) := L_q.out.cell 4
    go_wp2
    go_ret2
    exact ⟨ret_two HV.out.symm HF.out.symm, B.out⟩
  have HV : Hid (inqV kd kk n1 c1 n2 c2 n3 c3 A1 A2 A3 = .nilIface) := by show inqV kd kk n1 c1 n2 c2 n3 c3 A1 A2 A3 = _; simp [inqV, hk1, hk2, hk3, hk4]
  have HF : Hid (qform kd x1 x2 x3 kk = false) := by show qform kd x1 x2 x3 kk = _; simp [qform, hk1, hk2, hk3, hk4]
  have t1 : (kd == 1) = false := by simpa using hk1
  have t2 : (kd == 2) = false := by simpa using hk2
  have t3 : (kd == 3) = false := by simpa using hk3
  have t4 : (kd == 4) = false := by simpa using hk4
  clear hk1 hk2 hk3 hk4
  go_enter Try.func86, Try.ntmps86
  go_wp2_with fail
  refine (implSameRects_any _ _ _ _ _ _ _ _ _ _ _ _ _ _ _ _ x1 x2 [] [] _ (I_1.out.kept B.out) (I_2.out.kept B.out) (Ints.empty _ 0 _) (Ints.empty _ 0 _) m1 m2 (Nat.zero_le _) (Nat.zero_le _)).mono ?_
  rintro e W1 ⟨rfl, b1⟩
  replace L_q := Lib.hid (L_q.out.kept b1 L_q.out.inside)
  replace B := Lib.hid (B.out.trans (b1.mono B.out.size))
  clear b1
  have c_0 : W1.cell? ⟨w.heap.size, 0, none⟩ = some (.int .i64 kd) := L_q.out.cell 0
  have c_1 : W1.cell? ⟨w.heap.size, 1, none⟩ = some (.slice A1 n1 c1) := L_q.out.cell 1
  have c_2 : W1.cell? ⟨w.heap.size, 2, none⟩ = some (.slice A2 n2 c2) := L_q.out.cell 2
  have c_3 : W1.cell? ⟨w.heap.size, 3, none⟩ = some (.slice A3 n3 c3) := L_q.out.cell 3
  have c_4 : W1.cell? ⟨w.heap.size, 4, none⟩ = some (.int .i64 kk) := L_q.out.cell 4
  go_wp2
  go_ret2
  exact ⟨ret_two HV.out.symm HF.out.symm, B.out⟩

end Go.Proofs.Ytbonpmgbcdknbaa
