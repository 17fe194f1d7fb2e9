/- The walks of spec.l2Matches and spec.Matches. No condition but lengths. -/
import Derived.Test.YtbonpmgbcdknbaaQueryFault
import Derived.Test.YtbonpmgbcdknbaaSpecLoops2
import Derived.Deep.RegionHeld3
namespace Go.Proofs.Ytbonpmgbcdknbaa
open Go.RowKit

theorem qf_zero {kd kk d : Int} {x1 x2 x3 : List Int} (h : qf kd x1 x2 x3 kk d = 0) : (2 ≤ d ∧ d ≤ 3) ∧ qform kd x1 x2 x3 kk = true ∧ qin kd x1 x2 x3 kk d = 0 := by
  unfold qf at h
  split at h
  · rename_i hd
    split at h
    · rename_i hq
      exact ⟨hd, hq, h⟩
    · exact absurd h (by decide)
  · exact absurd h (by decide)
theorem qform_kind {kd kk : Int} {x1 x2 x3 : List Int} (hq : qform kd x1 x2 x3 kk = true) : kd = 1 ∨ kd = 2 ∨ kd = 3 ∨ kd = 4 := by
  unfold qform at hq
  split at hq
  · omega
  · split at hq
    · omega
    · split at hq
      · omega
      · exact absurd hq (by simp)
theorem pf_len {xs : List Int} {d : Int} (h : pf xs d = 0) : (xs.length : Int) = d := (pf_zero h).2.1
theorem right_of_rfd {xs ys : List Int} {d : Int} (hd : 2 ≤ d ∧ d ≤ 3) (h : rf xs ys d = 0) : Right xs ys d.toNat := by
  refine right_of_rf ?_
  rw [Int.toNat_of_nonneg (by omega)]; exact h

/-- Whether a box is what a query of its kind asks for; both without a fault. -/
def asksF (kd : Int) (x1 x2 x3 x4 x5 : List Int) (n : Nat) : Bool := if kd = 1 then meetTo x1 x2 x4 x5 n else if kd = 2 then coverTo x1 x2 x4 x5 n else if kd = 3 then distTo x4 x5 x3 n == 0 else true
/-- Whether a query matches. -/
def matchF (kd : Int) (x1 x2 x3 : List Int) (kk d : Int) (x4 x5 : List Int) : Bool := if qf kd x1 x2 x3 kk d = 0 ∧ rf x4 x5 d = 0 then asksF kd x1 x2 x3 x4 x5 d.toNat else false


set_option maxHeartbeats 1600000 in
theorem l2Matches_1 (bq br fr n c1 c2 c4 c5 lo1 lo2 lo4 lo5 : Nat) (A1 A2 A4 A5 : Option Addr) (x1 x2 x4 x5 : List Int) (w : World)
    (hk : w.cell? ⟨bq, 0, none⟩ = some (.int .i64 1)) (ht : TwoAt bq 1 br fr (.slice A1 n c1) (.slice A2 n c2) (.slice A4 n c4) (.slice A5 n c5) w) (h1 : Ints w lo1 A1 n x1) (h2 : Ints w lo2 A2 n x2) (h4 : Ints w lo4 A4 n x4) (h5 : Ints w lo5 A5 n x5) (hn : n ≤ 3) :
    Calls Try.prog 72 #[.pointer (some ⟨bq, 0, none⟩), .pointer (some ⟨br, fr, none⟩)] w fun e w' => e = .returned (.bool (meetTo x1 x2 x4 x5 n)) ∧ Drawn w w' := by
  go_enter Try.func72, Try.ntmps72
  go_wp2_with fail
  refine (l1Meets_at _ _ _ _ _ _ _ _ _ _ _ _ _ _ _ _ _ x1 x2 x4 x5 _ ht h1 h2 h4 h5 hn).mono ?_
  rintro e W1 ⟨rfl, b1⟩
  go_wp2
  go_ret
  exact ⟨rfl, b1⟩

set_option maxHeartbeats 1600000 in
theorem l2Matches_2 (bq br fr n c1 c2 c4 c5 lo1 lo2 lo4 lo5 : Nat) (A1 A2 A4 A5 : Option Addr) (x1 x2 x4 x5 : List Int) (w : World)
    (hk : w.cell? ⟨bq, 0, none⟩ = some (.int .i64 2)) (ht : TwoAt bq 1 br fr (.slice A1 n c1) (.slice A2 n c2) (.slice A4 n c4) (.slice A5 n c5) w) (h1 : Ints w lo1 A1 n x1) (h2 : Ints w lo2 A2 n x2) (h4 : Ints w lo4 A4 n x4) (h5 : Ints w lo5 A5 n x5) (hn : n ≤ 3) :
    Calls Try.prog 72 #[.pointer (some ⟨bq, 0, none⟩), .pointer (some ⟨br, fr, none⟩)] w fun e w' => e = .returned (.bool (coverTo x1 x2 x4 x5 n)) ∧ Drawn w w' := by
  go_enter Try.func72, Try.ntmps72
  go_wp2_with fail
  refine (l1Covers_at _ _ _ _ _ _ _ _ _ _ _ _ _ _ _ _ _ x1 x2 x4 x5 _ ht h1 h2 h4 h5 hn).mono ?_
  rintro e W1 ⟨rfl, b1⟩
  go_wp2
  go_ret
  exact ⟨rfl, b1⟩

set_option maxHeartbeats 1600000 in
theorem l2Matches_3 (bq br fr n c3 c4 c5 lo3 lo4 lo5 : Nat) (A3 A4 A5 : Option Addr) (x3 x4 x5 : List Int) (w : World)
    (hk : w.cell? ⟨bq, 0, none⟩ = some (.int .i64 3)) (ht3 : w.cell? ⟨bq, 3, none⟩ = some (.slice A3 n c3)) (ht : w.cell? ⟨br, fr, none⟩ = some (.slice A4 n c4)) (ht' : w.cell? ⟨br, fr + 1, none⟩ = some (.slice A5 n c5)) (h3 : Ints w lo3 A3 n x3) (h4 : Ints w lo4 A4 n x4) (h5 : Ints w lo5 A5 n x5) (hr : Right x4 x5 n) (hp : allIn (-1000) 1000 x3 = true) :
    Calls Try.prog 72 #[.pointer (some ⟨bq, 0, none⟩), .pointer (some ⟨br, fr, none⟩)] w fun e w' => e = .returned (.bool (distTo x4 x5 x3 n == 0)) ∧ Drawn w w' := by
  go_enter Try.func72, Try.ntmps72
  go_wp2_with fail
  refine (l1Dist_at _ _ _ _ _ _ _ _ _ _ _ _ x4 x5 x3 _ ht ht' h4 h5 h3 hr hp).mono ?_
  rintro e W1 ⟨rfl, b1⟩
  go_wp2
  go_ret
  exact ⟨rfl, b1⟩

set_option maxHeartbeats 1600000 in
theorem l2Matches_4 (bq br fr : Nat) (w : World)
    (hk : w.cell? ⟨bq, 0, none⟩ = some (.int .i64 4))  :
    Calls Try.prog 72 #[.pointer (some ⟨bq, 0, none⟩), .pointer (some ⟨br, fr, none⟩)] w fun e w' => e = .returned (.bool (true)) ∧ Drawn w w' := by
  go_enter Try.func72, Try.ntmps72
  go_wp2
  go_ret
  exact ⟨rfl, Drawn.same _⟩

set_option maxHeartbeats 3200000 in
theorem specMatches_any (kd kk d : Int) (n1 c1 n2 c2 n3 c3 n4 c4 n5 c5 lo1 lo2 lo3 lo4 lo5 : Nat) (A1 A2 A3 A4 A5 : Option Addr) (x1 x2 x3 x4 x5 : List Int) (w : World)
    (h1 : Ints w lo1 A1 n1 x1) (h2 : Ints w lo2 A2 n2 x2) (h3 : Ints w lo3 A3 n3 x3) (h4 : Ints w lo4 A4 n4 x4) (h5 : Ints w lo5 A5 n5 x5) (m1 : n1 ≤ 1048576) (m2 : n2 ≤ 1048576) (m3 : n3 ≤ 1048576) (m4 : n4 ≤ 1048576) (m5 : n5 ≤ 1048576) :
    Calls Try.prog 38 #[.agg #[.int .i64 kd, .slice A1 n1 c1, .slice A2 n2 c2, .slice A3 n3 c3, .int .i64 kk], .int .i64 d, .agg #[.slice A4 n4 c4, .slice A5 n5 c5]] w fun e w' => e = .returned (.bool (matchF kd x1 x2 x3 kk d x4 x5)) ∧ Below w.heap.size w w' := by
  have I_x1 := Lib.hid h1
  have E1 := Lib.hid h1.1
  have I_x2 := Lib.hid h2
  have E2 := Lib.hid h2.1
  have I_x3 := Lib.hid h3
  have E3 := Lib.hid h3.1
  have I_x4 := Lib.hid h4
  have E4 := Lib.hid h4.1
  have I_x5 := Lib.hid h5
  have E5 := Lib.hid h5.1
  clear h1 h2 h3 h4 h5
  have B := Lib.hid (Below.refl w.heap.size w)
  have L_a := Lib.hid (Lies.new w 59 #[.int .i64 kd, .slice A1 n1 c1, .slice A2 n2 c2, .slice A3 n3 c3, .int .i64 kk])
  replace B := Lib.hid (B.out.alloc B.out.size (.cells #[.int .i64 kd, .slice A1 n1 c1, .slice A2 n2 c2, .slice A3 n3 c3, .int .i64 kk] 59))
  replace L_a := Lib.hid (L_a.out.alloc (.cells #[.slice A4 n4 c4, .slice A5 n5 c5] 31))
  have L_b := Lib.hid (Lies.new (w.alloc (.cells #[.int .i64 kd, .slice A1 n1 c1, .slice A2 n2 c2, .slice A3 n3 c3, .int .i64 kk] 59)) 31 #[.slice A4 n4 c4, .slice A5 n5 c5])
  replace B := Lib.hid (B.out.alloc B.out.size (.cells #[.slice A4 n4 c4, .slice A5 n5 c5] 31))
  simp only [World.size_alloc] at L_b
  by_cases hq : qf kd x1 x2 x3 kk d = 0
  rotate_left
  · have HF : Hid (matchF kd x1 x2 x3 kk d x4 x5 = false) := by show matchF kd x1 x2 x3 kk d x4 x5 = _; unfold matchF; rw [if_neg (fun h => hq h.1)]
    have hq1 : (qf kd x1 x2 x3 kk d == 0) = false := by simpa using hq
    clear hq
    go_enter Try.func38, Try.ntmps38
    go_wp2_with fail
    refine (specQueryFault_any _ _ _ _ _ _ _ _ _ _ _ _ _ _ _ x1 x2 x3 _ (I_x1.out.kept B.out) (I_x2.out.kept B.out) (I_x3.out.kept B.out) m1 m2 m3).mono ?_
    rintro e W1 ⟨rfl, b1⟩
    replace L_a := Lib.hid (L_a.out.kept b1 L_a.out.inside)
    replace L_b := Lib.hid (L_b.out.kept b1 L_b.out.inside)
    replace B := Lib.hid (B.out.trans (b1.mono B.out.size))
    clear b1
    go_wp2
    go_ret
    exact ⟨ret_bool HF.out.symm, B.out⟩
  have hq1 : (qf kd x1 x2 x3 kk d == 0) = true := by simp [hq]
  by_cases hr : rf x4 x5 d = 0
  rotate_left
  · have HF : Hid (matchF kd x1 x2 x3 kk d x4 x5 = false) := by show matchF kd x1 x2 x3 kk d x4 x5 = _; unfold matchF; rw [if_neg (fun h => hr h.2)]
    have hr1 : (rf x4 x5 d == 0) = false := by simpa using hr
    clear hq hr
    go_enter Try.func38, Try.ntmps38
    go_wp2_with fail
    refine (specQueryFault_any _ _ _ _ _ _ _ _ _ _ _ _ _ _ _ x1 x2 x3 _ (I_x1.out.kept B.out) (I_x2.out.kept B.out) (I_x3.out.kept B.out) m1 m2 m3).mono ?_
    rintro e W1 ⟨rfl, b1⟩
    replace L_a := Lib.hid (L_a.out.kept b1 L_a.out.inside)
    replace L_b := Lib.hid (L_b.out.kept b1 L_b.out.inside)
    replace B := Lib.hid (B.out.trans (b1.mono B.out.size))
    clear b1
    have c_b0 : W1.cell? ⟨w.heap.size + 1, 0, none⟩ = some (.slice A4 n4 c4) := L_b.out.cell 0
    have c_b1 : W1.cell? ⟨w.heap.size + 1, 1, none⟩ = some (.slice A5 n5 c5) := L_b.out.cell 1
    go_wp2_with fail
    clear c_b0 c_b1
    refine (specRectFault_any _ _ _ _ _ _ _ _ _ x4 x5 _ (I_x4.out.kept B.out) (I_x5.out.kept B.out) (Nat.le_trans m4 (by decide)) (Nat.le_trans m5 (by decide))).mono ?_
    rintro e W2 ⟨rfl, b2⟩
    replace L_a := Lib.hid (L_a.out.kept b2 L_a.out.inside)
    replace L_b := Lib.hid (L_b.out.kept b2 L_b.out.inside)
    replace B := Lib.hid (B.out.trans (b2.mono B.out.size))
    clear b2
    go_wp2
    go_ret
    exact ⟨ret_bool HF.out.symm, B.out⟩
  have hr1 : (rf x4 x5 d == 0) = true := by simp [hr]
  have HF : Hid (matchF kd x1 x2 x3 kk d x4 x5 = asksF kd x1 x2 x3 x4 x5 d.toNat) := by show matchF kd x1 x2 x3 kk d x4 x5 = _; unfold matchF; rw [if_pos ⟨hq, hr⟩]
  obtain ⟨hd, hqf, hqi⟩ := qf_zero hq
  have hc := qform_kind hqf
  have R4 := Lib.hid (right_of_rfd hd hr)
  have hn3 : d.toNat ≤ 3 := by omega
  have l4 : d.toNat = n4 := by rw [← E4.out]; exact R4.out.len.symm
  have l5 : d.toNat = n5 := by rw [← E5.out]; exact R4.out.len'.symm
  clear hr
  rcases hc with rfl | rfl | rfl | rfl
  · have R1 := Lib.hid (right_of_rfd hd (show rf x1 x2 d = 0 by simpa [qin] using hqi))
    have l1 : d.toNat = n1 := by rw [← E1.out]; exact R1.out.len.symm
    have l2 : d.toNat = n2 := by rw [← E2.out]; exact R1.out.len'.symm
    have HE : Hid (asksF 1 x1 x2 x3 x4 x5 d.toNat = meetTo x1 x2 x4 x5 d.toNat) := by show asksF 1 x1 x2 x3 x4 x5 d.toNat = _; simp [asksF]
    clear hd hqf hqi hq
    generalize hdn : d.toNat = n at *
    clear hdn
    subst l4 l5 l1 l2
    go_enter Try.func38, Try.ntmps38
    go_wp2_with fail
    refine (specQueryFault_any _ _ _ _ _ _ _ _ _ _ _ _ _ _ _ x1 x2 x3 _ (I_x1.out.kept B.out) (I_x2.out.kept B.out) (I_x3.out.kept B.out) m1 m2 m3).mono ?_
    rintro e W1 ⟨rfl, b1⟩
    replace L_a := Lib.hid (L_a.out.kept b1 L_a.out.inside)
    replace L_b := Lib.hid (L_b.out.kept b1 L_b.out.inside)
    replace B := Lib.hid (B.out.trans (b1.mono B.out.size))
    clear b1
    have c_b0 : W1.cell? ⟨w.heap.size + 1, 0, none⟩ = some (.slice A4 n c4) := L_b.out.cell 0
    have c_b1 : W1.cell? ⟨w.heap.size + 1, 1, none⟩ = some (.slice A5 n c5) := L_b.out.cell 1
    go_wp2_with fail
    clear c_b0 c_b1
    refine (specRectFault_any _ _ _ _ _ _ _ _ _ x4 x5 _ (I_x4.out.kept B.out) (I_x5.out.kept B.out) (Nat.le_trans m4 (by decide)) (Nat.le_trans m5 (by decide))).mono ?_
    rintro e W2 ⟨rfl, b2⟩
    replace L_a := Lib.hid (L_a.out.kept b2 L_a.out.inside)
    replace L_b := Lib.hid (L_b.out.kept b2 L_b.out.inside)
    replace B := Lib.hid (B.out.trans (b2.mono B.out.size))
    clear b2
    go_wp2_with fail
    refine (l2Matches_1 _ _ _ _ _ _ _ _ _ _ _ _ _ _ _ _ x1 x2 x4 x5 _ (L_a.out.cell 0) ⟨L_a.out.cell 1, L_a.out.cell 2, L_b.out.cell 0, L_b.out.cell 1⟩ (I_x1.out.kept B.out) (I_x2.out.kept B.out) (I_x4.out.kept B.out) (I_x5.out.kept B.out) hn3).mono ?_
    rintro e W9 ⟨rfl, b9d⟩
    have b9 := b9d.below
    clear b9d
    replace L_a := Lib.hid (L_a.out.kept b9 L_a.out.inside)
    replace L_b := Lib.hid (L_b.out.kept b9 L_b.out.inside)
    replace B := Lib.hid (B.out.trans (b9.mono B.out.size))
    clear b9
    go_wp2
    go_ret
    exact ⟨ret_bool (HF.out.trans HE.out).symm, B.out⟩
  · have R1 := Lib.hid (right_of_rfd hd (show rf x1 x2 d = 0 by simpa [qin] using hqi))
    have l1 : d.toNat = n1 := by rw [← E1.out]; exact R1.out.len.symm
    have l2 : d.toNat = n2 := by rw [← E2.out]; exact R1.out.len'.symm
    have HE : Hid (asksF 2 x1 x2 x3 x4 x5 d.toNat = coverTo x1 x2 x4 x5 d.toNat) := by show asksF 2 x1 x2 x3 x4 x5 d.toNat = _; simp [asksF]
    clear hd hqf hqi hq
    generalize hdn : d.toNat = n at *
    clear hdn
    subst l4 l5 l1 l2
    go_enter Try.func38, Try.ntmps38
    go_wp2_with fail
    refine (specQueryFault_any _ _ _ _ _ _ _ _ _ _ _ _ _ _ _ x1 x2 x3 _ (I_x1.out.kept B.out) (I_x2.out.kept B.out) (I_x3.out.kept B.out) m1 m2 m3).mono ?_
    rintro e W1 ⟨rfl, b1⟩
    replace L_a := Lib.hid (L_a.out.kept b1 L_a.out.inside)
    replace L_b := Lib.hid (L_b.out.kept b1 L_b.out.inside)
    replace B := Lib.hid (B.out.trans (b1.mono B.out.size))
    clear b1
    have c_b0 : W1.cell? ⟨w.heap.size + 1, 0, none⟩ = some (.slice A4 n c4) := L_b.out.cell 0
    have c_b1 : W1.cell? ⟨w.heap.size + 1, 1, none⟩ = some (.slice A5 n c5) := L_b.out.cell 1
    go_wp2_with fail
    clear c_b0 c_b1
    refine (specRectFault_any _ _ _ _ _ _ _ _ _ x4 x5 _ (I_x4.out.kept B.out) (I_x5.out.kept B.out) (Nat.le_trans m4 (by decide)) (Nat.le_trans m5 (by decide))).mono ?_
    rintro e W2 ⟨rfl, b2⟩
    replace L_a := Lib.hid (L_a.out.kept b2 L_a.out.inside)
    replace L_b := Lib.hid (L_b.out.kept b2 L_b.out.inside)
    replace B := Lib.hid (B.out.trans (b2.mono B.out.size))
    clear b2
    go_wp2_with fail
    refine (l2Matches_2 _ _ _ _ _ _ _ _ _ _ _ _ _ _ _ _ x1 x2 x4 x5 _ (L_a.out.cell 0) ⟨L_a.out.cell 1, L_a.out.cell 2, L_b.out.cell 0, L_b.out.cell 1⟩ (I_x1.out.kept B.out) (I_x2.out.kept B.out) (I_x4.out.kept B.out) (I_x5.out.kept B.out) hn3).mono ?_
    rintro e W9 ⟨rfl, b9d⟩
    have b9 := b9d.below
    clear b9d
    replace L_a := Lib.hid (L_a.out.kept b9 L_a.out.inside)
    replace L_b := Lib.hid (L_b.out.kept b9 L_b.out.inside)
    replace B := Lib.hid (B.out.trans (b9.mono B.out.size))
    clear b9
    go_wp2
    go_ret
    exact ⟨ret_bool (HF.out.trans HE.out).symm, B.out⟩
  · have hpf : pf x3 d = 0 := by by_cases hz : pf x3 d = 0; exact hz; simp [qin, hz] at hqi
    have P3 := Lib.hid (pf_zero hpf).2.2
    have l3 : d.toNat = n3 := by have := pf_len hpf; have := E3.out; omega
    clear hpf
    have HE : Hid (asksF 3 x1 x2 x3 x4 x5 d.toNat = (distTo x4 x5 x3 d.toNat == 0)) := by show asksF 3 x1 x2 x3 x4 x5 d.toNat = _; simp [asksF]
    clear hd hqf hqi hq
    generalize hdn : d.toNat = n at *
    clear hdn
    subst l4 l5 l3
    go_enter Try.func38, Try.ntmps38
    go_wp2_with fail
    refine (specQueryFault_any _ _ _ _ _ _ _ _ _ _ _ _ _ _ _ x1 x2 x3 _ (I_x1.out.kept B.out) (I_x2.out.kept B.out) (I_x3.out.kept B.out) m1 m2 m3).mono ?_
    rintro e W1 ⟨rfl, b1⟩
    replace L_a := Lib.hid (L_a.out.kept b1 L_a.out.inside)
    replace L_b := Lib.hid (L_b.out.kept b1 L_b.out.inside)
    replace B := Lib.hid (B.out.trans (b1.mono B.out.size))
    clear b1
    have c_b0 : W1.cell? ⟨w.heap.size + 1, 0, none⟩ = some (.slice A4 n c4) := L_b.out.cell 0
    have c_b1 : W1.cell? ⟨w.heap.size + 1, 1, none⟩ = some (.slice A5 n c5) := L_b.out.cell 1
    go_wp2_with fail
    clear c_b0 c_b1
    refine (specRectFault_any _ _ _ _ _ _ _ _ _ x4 x5 _ (I_x4.out.kept B.out) (I_x5.out.kept B.out) (Nat.le_trans m4 (by decide)) (Nat.le_trans m5 (by decide))).mono ?_
    rintro e W2 ⟨rfl, b2⟩
    replace L_a := Lib.hid (L_a.out.kept b2 L_a.out.inside)
    replace L_b := Lib.hid (L_b.out.kept b2 L_b.out.inside)
    replace B := Lib.hid (B.out.trans (b2.mono B.out.size))
    clear b2
    go_wp2_with fail
    refine (l2Matches_3 _ _ _ _ _ _ _ _ _ _ _ _ _ x3 x4 x5 _ (L_a.out.cell 0) (L_a.out.cell 3) (L_b.out.cell 0) (L_b.out.cell 1) (I_x3.out.kept B.out) (I_x4.out.kept B.out) (I_x5.out.kept B.out) R4.out P3.out).mono ?_
    rintro e W9 ⟨rfl, b9d⟩
    have b9 := b9d.below
    clear b9d
    replace L_a := Lib.hid (L_a.out.kept b9 L_a.out.inside)
    replace L_b := Lib.hid (L_b.out.kept b9 L_b.out.inside)
    replace B := Lib.hid (B.out.trans (b9.mono B.out.size))
    clear b9
    go_wp2
    go_ret
    exact ⟨ret_bool (HF.out.trans HE.out).symm, B.out⟩
  · have HE : Hid (asksF 4 x1 x2 x3 x4 x5 d.toNat = true) := by show asksF 4 x1 x2 x3 x4 x5 d.toNat = _; simp [asksF]
    clear hd hqf hqi hq
    generalize hdn : d.toNat = n at *
    clear hdn
    subst l4 l5
    go_enter Try.func38, Try.ntmps38
    go_wp2_with fail
    refine (specQueryFault_any _ _ _ _ _ _ _ _ _ _ _ _ _ _ _ x1 x2 x3 _ (I_x1.out.kept B.out) (I_x2.out.kept B.out) (I_x3.out.kept B.out) m1 m2 m3).mono ?_
    rintro e W1 ⟨rfl, b1⟩
    replace L_a := Lib.hid (L_a.out.kept b1 L_a.out.inside)
    replace L_b := Lib.hid (L_b.out.kept b1 L_b.out.inside)
    replace B := Lib.hid (B.out.trans (b1.mono B.out.size))
    clear b1
    have c_b0 : W1.cell? ⟨w.heap.size + 1, 0, none⟩ = some (.slice A4 n c4) := L_b.out.cell 0
    have c_b1 : W1.cell? ⟨w.heap.size + 1, 1, none⟩ = some (.slice A5 n c5) := L_b.out.cell 1
    go_wp2_with fail
    clear c_b0 c_b1
    refine (specRectFault_any _ _ _ _ _ _ _ _ _ x4 x5 _ (I_x4.out.kept B.out) (I_x5.out.kept B.out) (Nat.le_trans m4 (by decide)) (Nat.le_trans m5 (by decide))).mono ?_
    rintro e W2 ⟨rfl, b2⟩
    replace L_a := Lib.hid (L_a.out.kept b2 L_a.out.inside)
    replace L_b := Lib.hid (L_b.out.kept b2 L_b.out.inside)
    replace B := Lib.hid (B.out.trans (b2.mono B.out.size))
    clear b2
    go_wp2_with fail
    refine (l2Matches_4 _ _ _ _ (L_a.out.cell 0)).mono ?_
    rintro e W9 ⟨rfl, b9d⟩
    have b9 := b9d.below
    clear b9d
    replace L_a := Lib.hid (L_a.out.kept b9 L_a.out.inside)
    replace L_b := Lib.hid (L_b.out.kept b9 L_b.out.inside)
    replace B := Lib.hid (B.out.trans (b9.mono B.out.size))
    clear b9
    go_wp2
    go_ret
    exact ⟨ret_bool (HF.out.trans HE.out).symm, B.out⟩

end Go.Proofs.Ytbonpmgbcdknbaa
