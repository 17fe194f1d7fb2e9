/- The walks of spec.QueryFault, impl.inquiryOf, impl.readQuery, impl.QueryFault. No condition but lengths. -/
import Derived.Test.YtbonpmgbcdknbaaQuery
import Derived.Test.YtbonpmgbcdknbaaSame
namespace Go.Proofs.Ytbonpmgbcdknbaa
open Go.RowKit

set_option maxHeartbeats 3200000 in
theorem specQueryFault_any (kd kk d : Int) (n1 c1 n2 c2 n3 c3 lo1 lo2 lo3 : Nat) (A1 A2 A3 : Option Addr) (x1 x2 x3 : List Int) (w : World)
    (h1 : Ints w lo1 A1 n1 x1) (h2 : Ints w lo2 A2 n2 x2) (h3 : Ints w lo3 A3 n3 x3) (m1 : n1 ≤ 1048576) (m2 : n2 ≤ 1048576) (m3 : n3 ≤ 1048576) :
    Calls Try.prog 33 #[.agg #[.int .i64 kd, .slice A1 n1 c1, .slice A2 n2 c2, .slice A3 n3 c3, .int .i64 kk], .int .i64 d] w fun e w' => e = .returned (.int .i64 (qf kd x1 x2 x3 kk d)) ∧ Below w.heap.size w w' := by
  have E1 := Lib.hid h1.1
  have E2 := Lib.hid h2.1
  have E3 := Lib.hid h3.1
  have I_1 := Lib.hid h1
  have I_2 := Lib.hid h2
  have I_3 := Lib.hid h3
  clear h1 h2 h3
  have B := Lib.hid (below_alloc w (.cells #[.int .i64 kd, .slice A1 n1 c1, .slice A2 n2 c2, .slice A3 n3 c3, .int .i64 kk] 59))
  by_cases hd : 2 ≤ d ∧ d ≤ 3
  rotate_left
  · have HF : Hid (qf kd x1 x2 x3 kk d = 3) := by show qf kd x1 x2 x3 kk d = _; simp only [qf, if_neg hd]
    go_enter Try.func33, Try.ntmps33
    go_wp2_with fail
    refine (l1In_no _ _ _ _ hd).mono ?_
    rintro e w' ⟨rfl, rfl⟩
    go_wp2
    go_ret
    exact ⟨ret_i64 HF.out.symm, B.out⟩
  obtain ⟨hd1, hd2⟩ := hd
  by_cases hk : 1 ≤ kd ∧ kd ≤ 4
  rotate_left
  · have HF : Hid (qf kd x1 x2 x3 kk d = 1) := by
      show qf kd x1 x2 x3 kk d = _
      have q : qform kd x1 x2 x3 kk = false := by
        unfold qform
        rw [if_neg (by omega), if_neg (by omega), if_neg (by omega)]
      simp [qf, hd1, hd2, q]
    have k1 : (kd == 1) = false := by simp; omega
    have k2 : (kd == 2) = false := by simp; omega
    go_enter Try.func33, Try.ntmps33
    go_wp2_with fail
    refine (l1In_yes _ _ _ _ hd1 hd2).mono ?_
    rintro e w' ⟨rfl, rfl⟩
    go_wp2_with fail
    refine (l1In_no _ _ _ _ hk).mono ?_
    rintro e w' ⟨rfl, rfl⟩
    go_wp2
    go_ret
    exact ⟨ret_i64 HF.out.symm, B.out⟩
  obtain ⟨hk1, hk2⟩ := hk
  have hc : kd = 1 ∨ kd = 2 ∨ kd = 3 ∨ kd = 4 := by omega
  clear hk1 hk2
  rcases hc with rfl | rfl | rfl | rfl
  · by_cases hp : (0 : Int) < n3
    · have HF : Hid (qf 1 x1 x2 x3 kk d = 1) := by
        show qf 1 x1 x2 x3 kk d = _
        have e1 := E1.out; have e2 := E2.out; have e3 := E3.out
        have q : qform 1 x1 x2 x3 kk = false := by first | (simp [qform, e1, e2, e3]; done) | (simp [qform, e1, e2, e3]; omega)
        simp [qf, hd1, hd2, q]
      go_enter Try.func33, Try.ntmps33
      go_wp2_with fail
      refine (l1In_yes _ _ _ _ hd1 hd2).mono ?_
      rintro e w' ⟨rfl, rfl⟩
      go_wp2_with fail
      refine (l1In_yes _ _ _ _ (by decide) (by decide)).mono ?_
      rintro e w' ⟨rfl, rfl⟩
      go_wp2
      go_ret
      exact ⟨ret_i64 HF.out.symm, B.out⟩
    have hp0 : n3 = 0 := by omega
    subst hp0
    clear hp
    by_cases hz : kk = 0
    rotate_left
    · have HF : Hid (qf 1 x1 x2 x3 kk d = 1) := by
        show qf 1 x1 x2 x3 kk d = _
        have e1 := E1.out; have e2 := E2.out; have e3 := E3.out
        have q : qform 1 x1 x2 x3 kk = false := by first | (simp [qform, e1, e2, e3]; done) | (simp [qform, e1, e2, e3]; omega)
        simp [qf, hd1, hd2, q]
      have hz1 : (kk != 0) = true := by simpa using hz
      clear hz
      go_enter Try.func33, Try.ntmps33
      go_wp2_with fail
      refine (l1In_yes _ _ _ _ hd1 hd2).mono ?_
      rintro e w' ⟨rfl, rfl⟩
      go_wp2_with fail
      refine (l1In_yes _ _ _ _ (by decide) (by decide)).mono ?_
      rintro e w' ⟨rfl, rfl⟩
      go_wp2
      go_ret
      exact ⟨ret_i64 HF.out.symm, B.out⟩
    subst hz
    have HF : Hid (qf 1 x1 x2 x3 0 d = rf x1 x2 d) := by
      show qf 1 x1 x2 x3 0 d = _
      have e1 := E1.out; have e2 := E2.out; have e3 := E3.out
      have q : qform 1 x1 x2 x3 0 = true := by first | (simp [qform, e1, e2, e3]; done) | (simp [qform, e1, e2, e3]; omega)
      rw [qf, if_pos ⟨hd1, hd2⟩, if_pos q]; simp [qin]
    go_enter Try.func33, Try.ntmps33
    go_wp2_with fail
    refine (l1In_yes _ _ _ _ hd1 hd2).mono ?_
    rintro e w' ⟨rfl, rfl⟩
    go_wp2_with fail
    refine (l1In_yes _ _ _ _ (by decide) (by decide)).mono ?_
    rintro e w' ⟨rfl, rfl⟩
    go_wp2_with fail
    refine (specRectFault_any _ _ _ _ _ _ _ _ _ x1 x2 _ (I_1.out.kept B.out) (I_2.out.kept B.out) (Nat.le_trans m1 (by decide)) (Nat.le_trans m2 (by decide))).mono ?_
    rintro e W1 ⟨rfl, b1⟩
    have L_q := Lib.hid (Lies.kept (Lies.new w 59 #[.int .i64 1, .slice A1 n1 c1, .slice A2 n2 c2, .slice A3 0 c3, .int .i64 0]) b1 (by simp))
    replace B := Lib.hid (B.out.trans (b1.mono B.out.size))
    clear b1
    go_wp2
    go_ret
    exact ⟨ret_i64 HF.out.symm, B.out⟩
  · by_cases hp : (0 : Int) < n3
    · have HF : Hid (qf 2 x1 x2 x3 kk d = 1) := by
        show qf 2 x1 x2 x3 kk d = _
        have e1 := E1.out; have e2 := E2.out; have e3 := E3.out
        have q : qform 2 x1 x2 x3 kk = false := by first | (simp [qform, e1, e2, e3]; done) | (simp [qform, e1, e2, e3]; omega)
        simp [qf, hd1, hd2, q]
      go_enter Try.func33, Try.ntmps33
      go_wp2_with fail
      refine (l1In_yes _ _ _ _ hd1 hd2).mono ?_
      rintro e w' ⟨rfl, rfl⟩
      go_wp2_with fail
      refine (l1In_yes _ _ _ _ (by decide) (by decide)).mono ?_
      rintro e w' ⟨rfl, rfl⟩
      go_wp2
      go_ret
      exact ⟨ret_i64 HF.out.symm, B.out⟩
    have hp0 : n3 = 0 := by omega
    subst hp0
    clear hp
    by_cases hz : kk = 0
    rotate_left
    · have HF : Hid (qf 2 x1 x2 x3 kk d = 1) := by
        show qf 2 x1 x2 x3 kk d = _
        have e1 := E1.out; have e2 := E2.out; have e3 := E3.out
        have q : qform 2 x1 x2 x3 kk = false := by first | (simp [qform, e1, e2, e3]; done) | (simp [qform, e1, e2, e3]; omega)
        simp [qf, hd1, hd2, q]
      have hz1 : (kk != 0) = true := by simpa using hz
      clear hz
      go_enter Try.func33, Try.ntmps33
      go_wp2_with fail
      refine (l1In_yes _ _ _ _ hd1 hd2).mono ?_
      rintro e w' ⟨rfl, rfl⟩
      go_wp2_with fail
      refine (l1In_yes _ _ _ _ (by decide) (by decide)).mono ?_
      rintro e w' ⟨rfl, rfl⟩
      go_wp2
      go_ret
      exact ⟨ret_i64 HF.out.symm, B.out⟩
    subst hz
    have HF : Hid (qf 2 x1 x2 x3 0 d = rf x1 x2 d) := by
      show qf 2 x1 x2 x3 0 d = _
      have e1 := E1.out; have e2 := E2.out; have e3 := E3.out
      have q : qform 2 x1 x2 x3 0 = true := by first | (simp [qform, e1, e2, e3]; done) | (simp [qform, e1, e2, e3]; omega)
      rw [qf, if_pos ⟨hd1, hd2⟩, if_pos q]; simp [qin]
    go_enter Try.func33, Try.ntmps33
    go_wp2_with fail
    refine (l1In_yes _ _ _ _ hd1 hd2).mono ?_
    rintro e w' ⟨rfl, rfl⟩
    go_wp2_with fail
    refine (l1In_yes _ _ _ _ (by decide) (by decide)).mono ?_
    rintro e w' ⟨rfl, rfl⟩
    go_wp2_with fail
    refine (specRectFault_any _ _ _ _ _ _ _ _ _ x1 x2 _ (I_1.out.kept B.out) (I_2.out.kept B.out) (Nat.le_trans m1 (by decide)) (Nat.le_trans m2 (by decide))).mono ?_
    rintro e W1 ⟨rfl, b1⟩
    have L_q := Lib.hid (Lies.kept (Lies.new w 59 #[.int .i64 2, .slice A1 n1 c1, .slice A2 n2 c2, .slice A3 0 c3, .int .i64 0]) b1 (by simp))
    replace B := Lib.hid (B.out.trans (b1.mono B.out.size))
    clear b1
    go_wp2
    go_ret
    exact ⟨ret_i64 HF.out.symm, B.out⟩
  · by_cases hp : (0 : Int) < n1 + n2
    · have HF : Hid (qf 3 x1 x2 x3 kk d = 1) := by
        show qf 3 x1 x2 x3 kk d = _
        have e1 := E1.out; have e2 := E2.out; have e3 := E3.out
        have q : qform 3 x1 x2 x3 kk = false := by first | (simp [qform, e1, e2, e3]; done) | (simp [qform, e1, e2, e3]; omega)
        simp [qf, hd1, hd2, q]
      have hw : wrap64 ((n1 : Int) + n2) = n1 + n2 := by unfold wrap64; omega
      go_enter Try.func33, Try.ntmps33
      go_wp2_with fail
      refine (l1In_yes _ _ _ _ hd1 hd2).mono ?_
      rintro e w' ⟨rfl, rfl⟩
      go_wp2_with fail
      refine (l1In_yes _ _ _ _ (by decide) (by decide)).mono ?_
      rintro e w' ⟨rfl, rfl⟩
      go_wp2
      go_ret
      exact ⟨ret_i64 HF.out.symm, B.out⟩
    have hp1 : n1 = 0 := by omega
    have hp2 : n2 = 0 := by omega
    subst hp1 hp2
    clear hp
    by_cases hz : kk = 0
    rotate_left
    · have HF : Hid (qf 3 x1 x2 x3 kk d = 1) := by
        show qf 3 x1 x2 x3 kk d = _
        have e1 := E1.out; have e2 := E2.out; have e3 := E3.out
        have q : qform 3 x1 x2 x3 kk = false := by first | (simp [qform, e1, e2, e3]; done) | (simp [qform, e1, e2, e3]; omega)
        simp [qf, hd1, hd2, q]
      have hz1 : (kk != 0) = true := by simpa using hz
      clear hz
      go_enter Try.func33, Try.ntmps33
      go_wp2_with fail
      refine (l1In_yes _ _ _ _ hd1 hd2).mono ?_
      rintro e w' ⟨rfl, rfl⟩
      go_wp2_with fail
      refine (l1In_yes _ _ _ _ (by decide) (by decide)).mono ?_
      rintro e w' ⟨rfl, rfl⟩
      go_wp2
      go_ret
      exact ⟨ret_i64 HF.out.symm, B.out⟩
    subst hz
    by_cases hf : pf x3 d = 0
    rotate_left
    · have HF : Hid (qf 3 x1 x2 x3 0 d = pf x3 d) := by
        show qf 3 x1 x2 x3 0 d = _
        have e1 := E1.out; have e2 := E2.out; have e3 := E3.out
        have q : qform 3 x1 x2 x3 0 = true := by first | (simp [qform, e1, e2, e3]; done) | (simp [qform, e1, e2, e3]; omega)
        rw [qf, if_pos ⟨hd1, hd2⟩, if_pos q]; simp [qin, hf]
      have hf1 : (pf x3 d != 0) = true := by simpa using hf
      go_enter Try.func33, Try.ntmps33
      go_wp2_with fail
      refine (l1In_yes _ _ _ _ hd1 hd2).mono ?_
      rintro e w' ⟨rfl, rfl⟩
      go_wp2_with fail
      refine (l1In_yes _ _ _ _ (by decide) (by decide)).mono ?_
      rintro e w' ⟨rfl, rfl⟩
      go_wp2_with fail
      refine (specPointFault_any _ _ _ _ _ x3 _ (I_3.out.kept B.out) (Nat.le_trans m3 (by decide))).mono ?_
      rintro e W1 ⟨rfl, rfl⟩
      go_wp2
      go_ret
      exact ⟨ret_i64 HF.out.symm, B.out⟩
    have HF : Hid (qf 3 x1 x2 x3 0 d = 0) := by
      show qf 3 x1 x2 x3 0 d = _
      have e1 := E1.out; have e2 := E2.out; have e3 := E3.out
      have q : qform 3 x1 x2 x3 0 = true := by first | (simp [qform, e1, e2, e3]; done) | (simp [qform, e1, e2, e3]; omega)
      rw [qf, if_pos ⟨hd1, hd2⟩, if_pos q]; simp [qin, hf]
    have hf1 : (pf x3 d != 0) = false := by simp [hf]
    go_enter Try.func33, Try.ntmps33
    go_wp2_with fail
    refine (l1In_yes _ _ _ _ hd1 hd2).mono ?_
    rintro e w' ⟨rfl, rfl⟩
    go_wp2_with fail
    refine (l1In_yes _ _ _ _ (by decide) (by decide)).mono ?_
    rintro e w' ⟨rfl, rfl⟩
    go_wp2_with fail
    refine (specPointFault_any _ _ _ _ _ x3 _ (I_3.out.kept B.out) (Nat.le_trans m3 (by decide))).mono ?_
    rintro e W1 ⟨rfl, rfl⟩
    go_wp2
    go_ret
    exact ⟨ret_i64 HF.out.symm, B.out⟩
  · by_cases hp : (0 : Int) < n1 + n2
    · have HF : Hid (qf 4 x1 x2 x3 kk d = 1) := by
        show qf 4 x1 x2 x3 kk d = _
        have e1 := E1.out; have e2 := E2.out; have e3 := E3.out
        have q : qform 4 x1 x2 x3 kk = false := by first | (simp [qform, e1, e2, e3]; done) | (simp [qform, e1, e2, e3]; omega)
        simp [qf, hd1, hd2, q]
      have hw : wrap64 ((n1 : Int) + n2) = n1 + n2 := by unfold wrap64; omega
      go_enter Try.func33, Try.ntmps33
      go_wp2_with fail
      refine (l1In_yes _ _ _ _ hd1 hd2).mono ?_
      rintro e w' ⟨rfl, rfl⟩
      go_wp2_with fail
      refine (l1In_yes _ _ _ _ (by decide) (by decide)).mono ?_
      rintro e w' ⟨rfl, rfl⟩
      go_wp2
      go_ret
      exact ⟨ret_i64 HF.out.symm, B.out⟩
    have hp1 : n1 = 0 := by omega
    have hp2 : n2 = 0 := by omega
    subst hp1 hp2
    clear hp
    by_cases hf : pf x3 d = 0
    rotate_left
    · have HF : Hid (qf 4 x1 x2 x3 kk d = pf x3 d) := by
        show qf 4 x1 x2 x3 kk d = _
        have e1 := E1.out; have e2 := E2.out; have e3 := E3.out
        have q : qform 4 x1 x2 x3 kk = true := by first | (simp [qform, e1, e2, e3]; done) | (simp [qform, e1, e2, e3]; omega)
        rw [qf, if_pos ⟨hd1, hd2⟩, if_pos q]; simp [qin, hf]
      have hf1 : (pf x3 d != 0) = true := by simpa using hf
      go_enter Try.func33, Try.ntmps33
      go_wp2_with fail
      refine (l1In_yes _ _ _ _ hd1 hd2).mono ?_
      rintro e w' ⟨rfl, rfl⟩
      go_wp2_with fail
      refine (l1In_yes _ _ _ _ (by decide) (by decide)).mono ?_
      rintro e w' ⟨rfl, rfl⟩
      go_wp2_with fail
      refine (specPointFault_any _ _ _ _ _ x3 _ (I_3.out.kept B.out) (Nat.le_trans m3 (by decide))).mono ?_
      rintro e W1 ⟨rfl, rfl⟩
      go_wp2
      go_ret
      exact ⟨ret_i64 HF.out.symm, B.out⟩
    by_cases hz : 1 ≤ kk ∧ kk ≤ 20
    · have HF : Hid (qf 4 x1 x2 x3 kk d = 0) := by
        show qf 4 x1 x2 x3 kk d = _
        have e1 := E1.out; have e2 := E2.out; have e3 := E3.out
        have q : qform 4 x1 x2 x3 kk = true := by first | (simp [qform, e1, e2, e3]; done) | (simp [qform, e1, e2, e3]; omega)
        rw [qf, if_pos ⟨hd1, hd2⟩, if_pos q]; simp [qin, hf, hz]
      have hf1 : (pf x3 d != 0) = false := by simp [hf]
      go_enter Try.func33, Try.ntmps33
      go_wp2_with fail
      refine (l1In_yes _ _ _ _ hd1 hd2).mono ?_
      rintro e w' ⟨rfl, rfl⟩
      go_wp2_with fail
      refine (l1In_yes _ _ _ _ (by decide) (by decide)).mono ?_
      rintro e w' ⟨rfl, rfl⟩
      go_wp2_with fail
      refine (specPointFault_any _ _ _ _ _ x3 _ (I_3.out.kept B.out) (Nat.le_trans m3 (by decide))).mono ?_
      rintro e W1 ⟨rfl, rfl⟩
      go_wp2_with fail
      refine (l1In_yes _ _ _ _ hz.1 hz.2).mono ?_
      rintro e w' ⟨rfl, rfl⟩
      go_wp2
      go_ret
      exact ⟨ret_i64 HF.out.symm, B.out⟩
    have HF : Hid (qf 4 x1 x2 x3 kk d = 3) := by
      show qf 4 x1 x2 x3 kk d = _
      have e1 := E1.out; have e2 := E2.out; have e3 := E3.out
      have q : qform 4 x1 x2 x3 kk = true := by first | (simp [qform, e1, e2, e3]; done) | (simp [qform, e1, e2, e3]; omega)
      rw [qf, if_pos ⟨hd1, hd2⟩, if_pos q]; simp [qin, hf]; omega
    have hf1 : (pf x3 d != 0) = false := by simp [hf]
    go_enter Try.func33, Try.ntmps33
    go_wp2_with fail
    refine (l1In_yes _ _ _ _ hd1 hd2).mono ?_
    rintro e w' ⟨rfl, rfl⟩
    go_wp2_with fail
    refine (l1In_yes _ _ _ _ (by decide) (by decide)).mono ?_
    rintro e w' ⟨rfl, rfl⟩
    go_wp2_with fail
    refine (specPointFault_any _ _ _ _ _ x3 _ (I_3.out.kept B.out) (Nat.le_trans m3 (by decide))).mono ?_
    rintro e W1 ⟨rfl, rfl⟩
    go_wp2_with fail
    refine (l1In_no _ _ _ _ hz).mono ?_
    rintro e w' ⟨rfl, rfl⟩
    go_wp2
    go_ret
    exact ⟨ret_i64 HF.out.symm, B.out⟩

end Go.Proofs.Ytbonpmgbcdknbaa
