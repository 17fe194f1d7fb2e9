/- The walk of impl.Matches. No condition but lengths. -/
import Derived.Test.YtbonpmgbcdknbaaWants
import Derived.Test.YtbonpmgbcdknbaaSpecMatches
namespace Go.Proofs.Ytbonpmgbcdknbaa
open Go.RowKit

set_option maxHeartbeats 3200000 in
theorem implMatches_any (kd kk d : Int) (n1 c1 n2 c2 n3 c3 n4 c4 n5 c5 lo1 lo2 lo3 lo4 lo5 : Nat) (A1 A2 A3 A4 A5 : Option Addr) (x1 x2 x3 x4 x5 : List Int) (w : World)
    (h1 : Ints w lo1 A1 n1 x1) (h2 : Ints w lo2 A2 n2 x2) (h3 : Ints w lo3 A3 n3 x3) (h4 : Ints w lo4 A4 n4 x4) (h5 : Ints w lo5 A5 n5 x5) (m1 : n1 ≤ 1048576) (m2 : n2 ≤ 1048576) (m3 : n3 ≤ 1048576) (m4 : n4 ≤ 1048576) (m5 : n5 ≤ 1048576) :
    Calls Try.prog 40 #[.agg #[.int .i64 kd, .slice A1 n1 c1, .slice A2 n2 c2, .slice A3 n3 c3, .int .i64 kk], .int .i64 d, .agg #[.slice A4 n4 c4, .slice A5 n5 c5]] w fun e w' => e = .returned (.bool (matchF kd x1 x2 x3 kk d x4 x5)) ∧ Below w.heap.size w w' := by
  have I_x1 := Lib.hid h1
  have E1 := Lib.hid h1.1
  have I_x2 := Lib.hid h2
  have E2 := Lib.hid h2.1
  have I_x3 := Lib.hid h3
  have E3 := Lib.hid h3.1
  have I_x4 := Lib.hid h4
  have E4 := Lib.hid h4.1
  have I_x5 := Lib.hid h5
  have E5 := Lib.hid h5.1
  clear h1 h2 h3 h4 h5
  have B := Lib.hid (Below.refl w.heap.size w)
  have L_a := Lib.hid (Lies.new w 59 #[.int .i64 kd, .slice A1 n1 c1, .slice A2 n2 c2, .slice A3 n3 c3, .int .i64 kk])
  replace B := Lib.hid (B.out.alloc B.out.size (.cells #[.int .i64 kd, .slice A1 n1 c1, .slice A2 n2 c2, .slice A3 n3 c3, .int .i64 kk] 59))
  replace L_a := Lib.hid (L_a.out.alloc (.cells #[.slice A4 n4 c4, .slice A5 n5 c5] 31))
  have L_b := Lib.hid (Lies.new (w.alloc (.cells #[.int .i64 kd, .slice A1 n1 c1, .slice A2 n2 c2, .slice A3 n3 c3, .int .i64 kk] 59)) 31 #[.slice A4 n4 c4, .slice A5 n5 c5])
  replace B := Lib.hid (B.out.alloc B.out.size (.cells #[.slice A4 n4 c4, .slice A5 n5 c5] 31))
  simp only [World.size_alloc] at L_b
  by_cases hq : qf kd x1 x2 x3 kk d = 0
  rotate_left
  · have HF : Hid (matchF kd x1 x2 x3 kk d x4 x5 = false) := by show matchF kd x1 x2 x3 kk d x4 x5 = _; unfold matchF; rw [if_neg (fun h => hq h.1)]
    have hq1 : (qf kd x1 x2 x3 kk d == 0) = false := by simpa using hq
    clear hq
    go_enter Try.func40, Try.ntmps40
    go_wp2_with fail
    refine (readQuery_any _ _ _ _ _ _ _ _ _ _ _ _ _ _ _ x1 x2 x3 _ (I_x1.out.kept B.out) (I_x2.out.kept B.out) (I_x3.out.kept B.out) (Nat.le_trans m1 (by decide)) (Nat.le_trans m2 (by decide)) (Nat.le_trans m3 (by decide))).mono ?_
    rintro e W1 ⟨rfl, b1⟩
    replace L_a := Lib.hid (L_a.out.kept b1 L_a.out.inside)
    replace L_b := Lib.hid (L_b.out.kept b1 L_b.out.inside)
    replace B := Lib.hid (B.out.trans (b1.mono B.out.size))
    clear b1
    go_wp2
    go_ret
    exact ⟨ret_bool HF.out.symm, B.out⟩
  have hq1 : (qf kd x1 x2 x3 kk d == 0) = true := by simp [hq]
  by_cases hr : rf x4 x5 d = 0
  rotate_left
  · have HF : Hid (matchF kd x1 x2 x3 kk d x4 x5 = false) := by show matchF kd x1 x2 x3 kk d x4 x5 = _; unfold matchF; rw [if_neg (fun h => hr h.2)]
    have hr1 : (rf x4 x5 d == 0) = false := by simpa using hr
    clear hq hr
    go_enter Try.func40, Try.ntmps40
    go_wp2_with fail
    refine (readQuery_any _ _ _ _ _ _ _ _ _ _ _ _ _ _ _ x1 x2 x3 _ (I_x1.out.kept B.out) (I_x2.out.kept B.out) (I_x3.out.kept B.out) (Nat.le_trans m1 (by decide)) (Nat.le_trans m2 (by decide)) (Nat.le_trans m3 (by decide))).mono ?_
    rintro e W1 ⟨rfl, b1⟩
    replace L_a := Lib.hid (L_a.out.kept b1 L_a.out.inside)
    replace L_b := Lib.hid (L_b.out.kept b1 L_b.out.inside)
    replace B := Lib.hid (B.out.trans (b1.mono B.out.size))
    clear b1
    have c_b0 : W1.cell? ⟨w.heap.size + 1, 0, none⟩ = some (.slice A4 n4 c4) := L_b.out.cell 0
    have c_b1 : W1.cell? ⟨w.heap.size + 1, 1, none⟩ = some (.slice A5 n5 c5) := L_b.out.cell 1
    go_wp2_with fail
    clear c_b0 c_b1
    refine (implRectFault_any _ _ _ _ _ _ _ _ _ x4 x5 _ (I_x4.out.kept B.out) (I_x5.out.kept B.out) (Nat.le_trans m4 (by decide)) (Nat.le_trans m5 (by decide))).mono ?_
    rintro e W2 ⟨rfl, b2⟩
    replace L_a := Lib.hid (L_a.out.kept b2 L_a.out.inside)
    replace L_b := Lib.hid (L_b.out.kept b2 L_b.out.inside)
    replace B := Lib.hid (B.out.trans (b2.mono B.out.size))
    clear b2
    go_wp2
    go_ret
    exact ⟨ret_bool HF.out.symm, B.out⟩
  have hr1 : (rf x4 x5 d == 0) = true := by simp [hr]
  have HF : Hid (matchF kd x1 x2 x3 kk d x4 x5 = asksF kd x1 x2 x3 x4 x5 d.toNat) := by show matchF kd x1 x2 x3 kk d x4 x5 = _; unfold matchF; rw [if_pos ⟨hq, hr⟩]
  obtain ⟨hd, hqf, hqi⟩ := qf_zero hq
  have hc := qform_kind hqf
  have R4 := Lib.hid (right_of_rfd hd hr)
  have hn3 : d.toNat ≤ 3 := by omega
  have l4 : d.toNat = n4 := by rw [← E4.out]; exact R4.out.len.symm
  have l5 : d.toNat = n5 := by rw [← E5.out]; exact R4.out.len'.symm
  clear hr
  rcases hc with rfl | rfl | rfl | rfl
  · have R1 := Lib.hid (right_of_rfd hd (show rf x1 x2 d = 0 by simpa [qin] using hqi))
    have l1 : d.toNat = n1 := by rw [← E1.out]; exact R1.out.len.symm
    have l2 : d.toNat = n2 := by rw [← E2.out]; exact R1.out.len'.symm
    have HE : Hid (asksF 1 x1 x2 x3 x4 x5 d.toNat = meetTo x1 x2 x4 x5 d.toNat) := by show asksF 1 x1 x2 x3 x4 x5 d.toNat = _; simp [asksF]
    have HA : Hid (askV d (qform 1 x1 x2 x3 kk) (inqV 1 kk n1 c1 n2 c2 n3 c3 A1 A2 A3) = .iface 122 (.agg #[.slice A1 n1 c1, .slice A2 n2 c2])) := by
      show askV _ _ _ = _
      unfold askV
      rw [if_pos ⟨hd, hqf⟩]
      simp [inqV]
    clear hd hqf hqi hq
    generalize hdn : d.toNat = n at *
    clear hdn
    subst l4 l5 l1 l2
    have hdim := R4.out.dim
    obtain ⟨r0, r1, r2, hp4⟩ := pad_of (xs := x4) (by rw [R4.out.len]; exact hdim)
    obtain ⟨s0, s1, s2, hp5⟩ := pad_of (xs := x5) (by rw [R4.out.len']; exact hdim)
    obtain ⟨p0, p1, p2, hp1⟩ := pad_of (xs := x1) (by rw [R1.out.len]; exact hdim)
    obtain ⟨q0, q1, q2, hp2⟩ := pad_of (xs := x2) (by rw [R1.out.len']; exact hdim)
    have HM := Lib.hid (meetTo_box hp1 hp2 hp4 hp5 R1.out.len R1.out.len' R4.out.len R4.out.len')
    have P1 := Lib.hid hp1
    have P2 := Lib.hid hp2
    clear hp1 hp2
    have P4 := Lib.hid hp4
    have P5 := Lib.hid hp5
    clear hp4 hp5 hdim
    go_enter Try.func40, Try.ntmps40
    go_wp2_with fail
    refine (readQuery_any _ _ _ _ _ _ _ _ _ _ _ _ _ _ _ x1 x2 x3 _ (I_x1.out.kept B.out) (I_x2.out.kept B.out) (I_x3.out.kept B.out) (Nat.le_trans m1 (by decide)) (Nat.le_trans m2 (by decide)) (Nat.le_trans m3 (by decide))).mono ?_
    rintro e W1 ⟨rfl, b1⟩
    replace L_a := Lib.hid (L_a.out.kept b1 L_a.out.inside)
    replace L_b := Lib.hid (L_b.out.kept b1 L_b.out.inside)
    replace B := Lib.hid (B.out.trans (b1.mono B.out.size))
    clear b1
    rw [HA.out]
    have c_b0 : W1.cell? ⟨w.heap.size + 1, 0, none⟩ = some (.slice A4 n c4) := L_b.out.cell 0
    have c_b1 : W1.cell? ⟨w.heap.size + 1, 1, none⟩ = some (.slice A5 n c5) := L_b.out.cell 1
    go_wp2_with fail
    clear c_b0 c_b1
    refine (implRectFault_any _ _ _ _ _ _ _ _ _ x4 x5 _ (I_x4.out.kept B.out) (I_x5.out.kept B.out) (Nat.le_trans m4 (by decide)) (Nat.le_trans m5 (by decide))).mono ?_
    rintro e W2 ⟨rfl, b2⟩
    replace L_a := Lib.hid (L_a.out.kept b2 L_a.out.inside)
    replace L_b := Lib.hid (L_b.out.kept b2 L_b.out.inside)
    replace B := Lib.hid (B.out.trans (b2.mono B.out.size))
    clear b2
    have c_b0 : W2.cell? ⟨w.heap.size + 1, 0, none⟩ = some (.slice A4 n c4) := L_b.out.cell 0
    have c_b1 : W2.cell? ⟨w.heap.size + 1, 1, none⟩ = some (.slice A5 n c5) := L_b.out.cell 1
    go_wp2_with fail
    clear c_b0 c_b1
    refine (boxFrom_any _ _ _ _ _ _ _ _ x4 x5 _ _ _ _ _ _ _ P4.out P5.out (I_x4.out.kept B.out) (I_x5.out.kept B.out)).mono ?_
    rintro e W3 ⟨rfl, b3⟩
    replace L_a := Lib.hid (L_a.out.kept b3 L_a.out.inside)
    replace L_b := Lib.hid (L_b.out.kept b3 L_b.out.inside)
    replace B := Lib.hid (B.out.trans (b3.mono B.out.size))
    clear b3
    go_wp2_with fail
    refine (wants_1 _ _ _ _ _ _ _ _ _ x1 x2 _ _ _ _ _ _ _ _ _ _ _ _ _ (I_x1.out.kept B.out) (I_x2.out.kept B.out) P1.out P2.out HM.out).mono ?_
    rintro e W4 ⟨rfl, b4⟩
    replace L_a := Lib.hid (L_a.out.kept b4 L_a.out.inside)
    replace L_b := Lib.hid (L_b.out.kept b4 L_b.out.inside)
    replace B := Lib.hid (B.out.trans (b4.mono B.out.size))
    clear b4
    go_wp2
    go_ret
    exact ⟨ret_bool (HF.out.trans HE.out).symm, B.out⟩
  · have R1 := Lib.hid (right_of_rfd hd (show rf x1 x2 d = 0 by simpa [qin] using hqi))
    have l1 : d.toNat = n1 := by rw [← E1.out]; exact R1.out.len.symm
    have l2 : d.toNat = n2 := by rw [← E2.out]; exact R1.out.len'.symm
    have HE : Hid (asksF 2 x1 x2 x3 x4 x5 d.toNat = coverTo x1 x2 x4 x5 d.toNat) := by show asksF 2 x1 x2 x3 x4 x5 d.toNat = _; simp [asksF]
    have HA : Hid (askV d (qform 2 x1 x2 x3 kk) (inqV 2 kk n1 c1 n2 c2 n3 c3 A1 A2 A3) = .iface 124 (.agg #[.slice A1 n1 c1, .slice A2 n2 c2])) := by
      show askV _ _ _ = _
      unfold askV
      rw [if_pos ⟨hd, hqf⟩]
      simp [inqV]
    clear hd hqf hqi hq
    generalize hdn : d.toNat = n at *
    clear hdn
    subst l4 l5 l1 l2
    have hdim := R4.out.dim
    obtain ⟨r0, r1, r2, hp4⟩ := pad_of (xs := x4) (by rw [R4.out.len]; exact hdim)
    obtain ⟨s0, s1, s2, hp5⟩ := pad_of (xs := x5) (by rw [R4.out.len']; exact hdim)
    obtain ⟨p0, p1, p2, hp1⟩ := pad_of (xs := x1) (by rw [R1.out.len]; exact hdim)
    obtain ⟨q0, q1, q2, hp2⟩ := pad_of (xs := x2) (by rw [R1.out.len']; exact hdim)
    have HM := Lib.hid (coverTo_box hp1 hp2 hp4 hp5 R1.out.len R1.out.len' R4.out.len R4.out.len')
    have P1 := Lib.hid hp1
    have P2 := Lib.hid hp2
    clear hp1 hp2
    have P4 := Lib.hid hp4
    have P5 := Lib.hid hp5
    clear hp4 hp5 hdim
    go_enter Try.func40, Try.ntmps40
    go_wp2_with fail
    refine (readQuery_any _ _ _ _ _ _ _ _ _ _ _ _ _ _ _ x1 x2 x3 _ (I_x1.out.kept B.out) (I_x2.out.kept B.out) (I_x3.out.kept B.out) (Nat.le_trans m1 (by decide)) (Nat.le_trans m2 (by decide)) (Nat.le_trans m3 (by decide))).mono ?_
    rintro e W1 ⟨rfl, b1⟩
    replace L_a := Lib.hid (L_a.out.kept b1 L_a.out.inside)
    replace L_b := Lib.hid (L_b.out.kept b1 L_b.out.inside)
    replace B := Lib.hid (B.out.trans (b1.mono B.out.size))
    clear b1
    rw [HA.out]
    have c_b0 : W1.cell? ⟨w.heap.size + 1, 0, none⟩ = some (.slice A4 n c4) := L_b.out.cell 0
    have c_b1 : W1.cell? ⟨w.heap.size + 1, 1, none⟩ = some (.slice A5 n c5) := L_b.out.cell 1
    go_wp2_with fail
    clear c_b0 c_b1
    refine (implRectFault_any _ _ _ _ _ _ _ _ _ x4 x5 _ (I_x4.out.kept B.out) (I_x5.out.kept B.out) (Nat.le_trans m4 (by decide)) (Nat.le_trans m5 (by decide))).mono ?_
    rintro e W2 ⟨rfl, b2⟩
    replace L_a := Lib.hid (L_a.out.kept b2 L_a.out.inside)
    replace L_b := Lib.hid (L_b.out.kept b2 L_b.out.inside)
    replace B := Lib.hid (B.out.trans (b2.mono B.out.size))
    clear b2
    have c_b0 : W2.cell? ⟨w.heap.size + 1, 0, none⟩ = some (.slice A4 n c4) := L_b.out.cell 0
    have c_b1 : W2.cell? ⟨w.heap.size + 1, 1, none⟩ = some (.slice A5 n c5) := L_b.out.cell 1
    go_wp2_with fail
    clear c_b0 c_b1
    refine (boxFrom_any _ _ _ _ _ _ _ _ x4 x5 _ _ _ _ _ _ _ P4.out P5.out (I_x4.out.kept B.out) (I_x5.out.kept B.out)).mono ?_
    rintro e W3 ⟨rfl, b3⟩
    replace L_a := Lib.hid (L_a.out.kept b3 L_a.out.inside)
    replace L_b := Lib.hid (L_b.out.kept b3 L_b.out.inside)
    replace B := Lib.hid (B.out.trans (b3.mono B.out.size))
    clear b3
    go_wp2_with fail
    refine (wants_2 _ _ _ _ _ _ _ _ _ x1 x2 _ _ _ _ _ _ _ _ _ _ _ _ _ (I_x1.out.kept B.out) (I_x2.out.kept B.out) P1.out P2.out HM.out).mono ?_
    rintro e W4 ⟨rfl, b4⟩
    replace L_a := Lib.hid (L_a.out.kept b4 L_a.out.inside)
    replace L_b := Lib.hid (L_b.out.kept b4 L_b.out.inside)
    replace B := Lib.hid (B.out.trans (b4.mono B.out.size))
    clear b4
    go_wp2
    go_ret
    exact ⟨ret_bool (HF.out.trans HE.out).symm, B.out⟩
  · have hpf : pf x3 d = 0 := by by_cases hz : pf x3 d = 0; exact hz; simp [qin, hz] at hqi
    have P3 := Lib.hid (pf_zero hpf).2.2
    have l3 : d.toNat = n3 := by have := pf_len hpf; have := E3.out; omega
    clear hpf
    have HE : Hid (asksF 3 x1 x2 x3 x4 x5 d.toNat = (distTo x4 x5 x3 d.toNat == 0)) := by show asksF 3 x1 x2 x3 x4 x5 d.toNat = _; simp [asksF]
    have HA : Hid (askV d (qform 3 x1 x2 x3 kk) (inqV 3 kk n1 c1 n2 c2 n3 c3 A1 A2 A3) = .iface 126 (.agg #[.slice A3 n3 c3])) := by
      show askV _ _ _ = _
      unfold askV
      rw [if_pos ⟨hd, hqf⟩]
      simp [inqV]
    clear hd hqf hqi hq
    generalize hdn : d.toNat = n at *
    clear hdn
    subst l4 l5 l3
    have hdim := R4.out.dim
    obtain ⟨r0, r1, r2, hp4⟩ := pad_of (xs := x4) (by rw [R4.out.len]; exact hdim)
    obtain ⟨s0, s1, s2, hp5⟩ := pad_of (xs := x5) (by rw [R4.out.len']; exact hdim)
    obtain ⟨p0, p1, p2, hp3⟩ := pad_of (xs := x3) (by rw [E3.out]; exact hdim)
    have Q3 := Lib.hid hp3
    clear hp3
    have P4 := Lib.hid hp4
    have P5 := Lib.hid hp5
    clear hp4 hp5 hdim
    go_enter Try.func40, Try.ntmps40
    go_wp2_with fail
    refine (readQuery_any _ _ _ _ _ _ _ _ _ _ _ _ _ _ _ x1 x2 x3 _ (I_x1.out.kept B.out) (I_x2.out.kept B.out) (I_x3.out.kept B.out) (Nat.le_trans m1 (by decide)) (Nat.le_trans m2 (by decide)) (Nat.le_trans m3 (by decide))).mono ?_
    rintro e W1 ⟨rfl, b1⟩
    replace L_a := Lib.hid (L_a.out.kept b1 L_a.out.inside)
    replace L_b := Lib.hid (L_b.out.kept b1 L_b.out.inside)
    replace B := Lib.hid (B.out.trans (b1.mono B.out.size))
    clear b1
    rw [HA.out]
    have c_b0 : W1.cell? ⟨w.heap.size + 1, 0, none⟩ = some (.slice A4 n c4) := L_b.out.cell 0
    have c_b1 : W1.cell? ⟨w.heap.size + 1, 1, none⟩ = some (.slice A5 n c5) := L_b.out.cell 1
    go_wp2_with fail
    clear c_b0 c_b1
    refine (implRectFault_any _ _ _ _ _ _ _ _ _ x4 x5 _ (I_x4.out.kept B.out) (I_x5.out.kept B.out) (Nat.le_trans m4 (by decide)) (Nat.le_trans m5 (by decide))).mono ?_
    rintro e W2 ⟨rfl, b2⟩
    replace L_a := Lib.hid (L_a.out.kept b2 L_a.out.inside)
    replace L_b := Lib.hid (L_b.out.kept b2 L_b.out.inside)
    replace B := Lib.hid (B.out.trans (b2.mono B.out.size))
    clear b2
    have c_b0 : W2.cell? ⟨w.heap.size + 1, 0, none⟩ = some (.slice A4 n c4) := L_b.out.cell 0
    have c_b1 : W2.cell? ⟨w.heap.size + 1, 1, none⟩ = some (.slice A5 n c5) := L_b.out.cell 1
    go_wp2_with fail
    clear c_b0 c_b1
    refine (boxFrom_any _ _ _ _ _ _ _ _ x4 x5 _ _ _ _ _ _ _ P4.out P5.out (I_x4.out.kept B.out) (I_x5.out.kept B.out)).mono ?_
    rintro e W3 ⟨rfl, b3⟩
    replace L_a := Lib.hid (L_a.out.kept b3 L_a.out.inside)
    replace L_b := Lib.hid (L_b.out.kept b3 L_b.out.inside)
    replace B := Lib.hid (B.out.trans (b3.mono B.out.size))
    clear b3
    go_wp2_with fail
    refine (wants_3 n _ _ _ _ x3 x4 x5 _ _ _ _ _ _ _ _ _ _ (I_x3.out.kept B.out) Q3.out P4.out P5.out R4.out P3.out E3.out).mono ?_
    rintro e W4 ⟨rfl, b4⟩
    replace L_a := Lib.hid (L_a.out.kept b4 L_a.out.inside)
    replace L_b := Lib.hid (L_b.out.kept b4 L_b.out.inside)
    replace B := Lib.hid (B.out.trans (b4.mono B.out.size))
    clear b4
    go_wp2
    go_ret
    exact ⟨ret_bool (HF.out.trans HE.out).symm, B.out⟩
  · have HE : Hid (asksF 4 x1 x2 x3 x4 x5 d.toNat = true) := by show asksF 4 x1 x2 x3 x4 x5 d.toNat = _; simp [asksF]
    have HA : Hid (askV d (qform 4 x1 x2 x3 kk) (inqV 4 kk n1 c1 n2 c2 n3 c3 A1 A2 A3) = .iface 129 (.agg #[.slice A3 n3 c3, .int .i64 kk])) := by
      show askV _ _ _ = _
      unfold askV
      rw [if_pos ⟨hd, hqf⟩]
      simp [inqV]
    clear hd hqf hqi hq
    generalize hdn : d.toNat = n at *
    clear hdn
    subst l4 l5
    have hdim := R4.out.dim
    obtain ⟨r0, r1, r2, hp4⟩ := pad_of (xs := x4) (by rw [R4.out.len]; exact hdim)
    obtain ⟨s0, s1, s2, hp5⟩ := pad_of (xs := x5) (by rw [R4.out.len']; exact hdim)
    have P4 := Lib.hid hp4
    have P5 := Lib.hid hp5
    clear hp4 hp5 hdim
    go_enter Try.func40, Try.ntmps40
    go_wp2_with fail
    refine (readQuery_any _ _ _ _ _ _ _ _ _ _ _ _ _ _ _ x1 x2 x3 _ (I_x1.out.kept B.out) (I_x2.out.kept B.out) (I_x3.out.kept B.out) (Nat.le_trans m1 (by decide)) (Nat.le_trans m2 (by decide)) (Nat.le_trans m3 (by decide))).mono ?_
    rintro e W1 ⟨rfl, b1⟩
    replace L_a := Lib.hid (L_a.out.kept b1 L_a.out.inside)
    replace L_b := Lib.hid (L_b.out.kept b1 L_b.out.inside)
    replace B := Lib.hid (B.out.trans (b1.mono B.out.size))
    clear b1
    rw [HA.out]
    have c_b0 : W1.cell? ⟨w.heap.size + 1, 0, none⟩ = some (.slice A4 n c4) := L_b.out.cell 0
    have c_b1 : W1.cell? ⟨w.heap.size + 1, 1, none⟩ = some (.slice A5 n c5) := L_b.out.cell 1
    go_wp2_with fail
    clear c_b0 c_b1
    refine (implRectFault_any _ _ _ _ _ _ _ _ _ x4 x5 _ (I_x4.out.kept B.out) (I_x5.out.kept B.out) (Nat.le_trans m4 (by decide)) (Nat.le_trans m5 (by decide))).mono ?_
    rintro e W2 ⟨rfl, b2⟩
    replace L_a := Lib.hid (L_a.out.kept b2 L_a.out.inside)
    replace L_b := Lib.hid (L_b.out.kept b2 L_b.out.inside)
    replace B := Lib.hid (B.out.trans (b2.mono B.out.size))
    clear b2
    have c_b0 : W2.cell? ⟨w.heap.size + 1, 0, none⟩ = some (.slice A4 n c4) := L_b.out.cell 0
    have c_b1 : W2.cell? ⟨w.heap.size + 1, 1, none⟩ = some (.slice A5 n c5) := L_b.out.cell 1
    go_wp2_with fail
    clear c_b0 c_b1
    refine (boxFrom_any _ _ _ _ _ _ _ _ x4 x5 _ _ _ _ _ _ _ P4.out P5.out (I_x4.out.kept B.out) (I_x5.out.kept B.out)).mono ?_
    rintro e W3 ⟨rfl, b3⟩
    replace L_a := Lib.hid (L_a.out.kept b3 L_a.out.inside)
    replace L_b := Lib.hid (L_b.out.kept b3 L_b.out.inside)
    replace B := Lib.hid (B.out.trans (b3.mono B.out.size))
    clear b3
    go_wp2_with fail
    refine (wants_4 _ _ _ _ _ _ _ _ _ _ _).mono ?_
    rintro e W4 ⟨rfl, b4⟩
    replace L_a := Lib.hid (L_a.out.kept b4 L_a.out.inside)
    replace L_b := Lib.hid (L_b.out.kept b4 L_b.out.inside)
    replace B := Lib.hid (B.out.trans (b4.mono B.out.size))
    clear b4
    go_wp2
    go_ret
    exact ⟨ret_bool (HF.out.trans HE.out).symm, B.out⟩

end Go.Proofs.Ytbonpmgbcdknbaa
