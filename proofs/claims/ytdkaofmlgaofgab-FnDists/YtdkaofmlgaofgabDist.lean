/- The walks of spec.DistOf and impl.DistOf: for every box and every point. -/
import Derived.Test.YtdkaofmlgaofgabBoxVals
namespace Go.Proofs.Ytdkaofmlgaofgab
open Go.RowKit

/-- How far a point is from a box, with its code. -/
def distF (xs ys ps : List Int) : Int × Int := if rf xs ys xs.length = 0 then if pf ps xs.length = 0 then (0, distTo xs ys ps xs.length) else (pf ps xs.length, 0) else (rf xs ys xs.length, 0)

theorem distTo_pads {xs ys ps : List Int} {n : Nat} {p0 p1 p2 q0 q1 q2 r0 r1 r2 : Int} (hr : Right xs ys n) (hp : Pad xs p0 p1 p2) (hq : Pad ys q0 q1 q2) (hs : Pad ps r0 r1 r2) (hl : ps.length = n) :
    away p0 q0 r0 + away p1 q1 r1 + away p2 q2 r2 = distTo xs ys ps n := by
  obtain ⟨g0, g1, g2⟩ := right_pads hr hp hq
  obtain ⟨a0, a1, a2, _, az⟩ := pad_get hp
  obtain ⟨b0, b1, b2, _, bz⟩ := pad_get hq
  obtain ⟨c0, c1, c2, _, cz⟩ := pad_get hs
  have l1 := hr.len
  have l2 := hr.len'
  rcases hr.dim with rfl | rfl
  · have za := az (by omega)
    have zb := bz (by omega)
    have zc := cz (by omega)
    simp only [distTo, a0, a1, b0, b1, c0, c1, away]
    omega
  · simp only [distTo, a0, a1, a2, b0, b1, b2, c0, c1, c2, away]
    omega

theorem pad_in {ps : List Int} {r0 r1 r2 : Int} (hs : Pad ps r0 r1 r2) (hall : allIn (-1000) 1000 ps = true) : (-1000 ≤ r0 ∧ r0 ≤ 1000) ∧ (-1000 ≤ r1 ∧ r1 ≤ 1000) ∧ (-1000 ≤ r2 ∧ r2 ≤ 1000) := by
  rcases hs with ⟨rfl, rfl⟩ | rfl
  · exact ⟨allIn_at hall (k := 0) rfl, allIn_at hall (k := 1) rfl, by omega, by omega⟩
  · exact ⟨allIn_at hall (k := 0) rfl, allIn_at hall (k := 1) rfl, allIn_at hall (k := 2) rfl⟩

theorem distanceM_any (p0 p1 p2 q0 q1 q2 r0 r1 r2 : Int) (n : Nat) (xs ys ps : List Int) (w : World) (hp : Pad xs p0 p1 p2) (hq : Pad ys q0 q1 q2) (hs : Pad ps r0 r1 r2) (hr : Right xs ys n) (hall : allIn (-1000) 1000 ps = true) (hl : ps.length = n) :
    Calls Try.prog 136 #[.agg #[.int .i64 p0, .int .i64 p1, .int .i64 p2, .int .i64 q0, .int .i64 q1, .int .i64 q2], .agg #[.int .i64 r0, .int .i64 r1, .int .i64 r2]] w fun e w' => e = .returned (.int .i64 (distTo xs ys ps n)) ∧ Below w.heap.size w w' := by
  obtain ⟨g0, g1, g2⟩ := right_pads hr hp hq
  obtain ⟨k0, k1, k2⟩ := pad_in hs hall
  rw [← distTo_pads hr hp hq hs hl]
  exact distance_any p0 p1 p2 q0 q1 q2 r0 r1 r2 w (by omega) (by omega) (by omega) (by omega) (by omega) (by omega) k0 k1 k2

set_option maxHeartbeats 3200000 in
theorem specDistOf_any (n1 c1 n2 c2 n3 c3 lo1 lo2 lo3 : Nat) (A1 A2 A3 : Option Addr) (x1 x2 x3 : List Int) (w : World)
    (h1 : Ints w lo1 A1 n1 x1) (h2 : Ints w lo2 A2 n2 x2) (h3 : Ints w lo3 A3 n3 x3) (m1 : n1 ≤ maxLen) (m2 : n2 ≤ maxLen) (m3 : n3 ≤ maxLen) :
    Calls Try.prog 65 #[.agg #[.slice A1 n1 c1, .slice A2 n2 c2], .slice A3 n3 c3] w fun e w' => e = .returned (.agg #[.int .i64 (distF x1 x2 x3).1, .int .i64 (distF x1 x2 x3).2]) ∧ Below w.heap.size w w' := by
  have I_1 := Lib.hid h1
  have I_2 := Lib.hid h2
  have I_3 := Lib.hid h3
  have HL := Lib.hid h1.1
  clear h1 h2 h3
  have B := Lib.hid (Below.refl w.heap.size w)
  have L_a := Lib.hid (Lies.new w 43 #[.slice A1 n1 c1, .slice A2 n2 c2])
  replace B := Lib.hid (B.out.alloc B.out.size (.cells #[.slice A1 n1 c1, .slice A2 n2 c2] 43))
  replace L_a := Lib.hid (L_a.out.alloc (.cells #[.int .i64 0, .int .i64 0] 35))
  have L_r := Lib.hid (Lies.new (w.alloc (.cells #[.slice A1 n1 c1, .slice A2 n2 c2] 43)) 35 #[.int .i64 0, .int .i64 0])
  replace B := Lib.hid (B.out.alloc B.out.size (.cells #[.int .i64 0, .int .i64 0] 35))
  simp only [World.size_alloc] at L_r
  by_cases hr : rf x1 x2 x1.length = 0
  · by_cases hp : pf x3 x1.length = 0
    · have HF : Hid (distF x1 x2 x3 = (0, distTo x1 x2 x3 n1)) := by show distF x1 x2 x3 = _; rw [← HL.out]; simp [distF, hr, hp]
      have hR := right_of_rf (n := x1.length) hr
      obtain ⟨_, hl3, hall⟩ := pf_zero hp
      have hl3' : x3.length = x1.length := by omega
      rw [HL.out] at hR hr hp hl3'
      have HR := Lib.hid hR
      have HA := Lib.hid hall
      have e2 : n2 = n1 := by rw [← I_2.out.1]; exact hR.len'
      have e3 : n3 = n1 := by rw [← I_3.out.1]; exact hl3'
      have hq : (rf x1 x2 (n1 : Int) != 0) = false := by simp [hr]
      have hq2 : (pf x3 (n1 : Int) != 0) = false := by simp [hp]
      clear hr hp hR hl3 hl3' hall
      subst e2
      subst e3
      go_enter Try.func65, Try.ntmps65
      go_wp2_with fail
      refine (specRectFault_any _ _ _ _ _ _ _ _ _ x1 x2 _ (I_1.out.kept B.out) (I_2.out.kept B.out) m1 m2).mono ?_
      rintro e W1 ⟨rfl, b1⟩
      replace L_a := Lib.hid (L_a.out.kept b1 L_a.out.inside)
      replace L_r := Lib.hid (L_r.out.kept b1 L_r.out.inside)
      replace B := Lib.hid (B.out.trans (b1.mono B.out.size))
      clear b1
      go_wp2_with fail
      refine (specPointFault_any _ _ _ _ _ x3 _ (I_3.out.kept B.out) m3).mono ?_
      rintro e w' ⟨rfl, rfl⟩
      go_wp2_with fail
      refine (l1Dist_any _ _ _ _ _ _ _ _ _ _ _ x1 x2 x3 _ (L_a.out.cell 0) (L_a.out.cell 1) (I_1.out.kept B.out) (I_2.out.kept B.out) (I_3.out.kept B.out) HR.out HA.out).mono ?_
      rintro e W9 ⟨rfl, b9d⟩
      have b9 := b9d.below
      clear b9d
      replace L_a := Lib.hid (L_a.out.kept b9 L_a.out.inside)
      replace L_r := Lib.hid (L_r.out.kept b9 L_r.out.inside)
      replace B := Lib.hid (B.out.trans (b9.mono B.out.size))
      clear b9
      have c_r0 : W9.cell? ⟨w.heap.size + 1, 0, none⟩ = some (.int .i64 0) := L_r.out.cell 0
      have f_r0 : W9.frozen? ⟨w.heap.size + 1, 0, none⟩ = false := L_r.out.thawed 0
      have c_r1 : W9.cell? ⟨w.heap.size + 1, 1, none⟩ = some (.int .i64 0) := L_r.out.cell 1
      have f_r1 : W9.frozen? ⟨w.heap.size + 1, 1, none⟩ = false := L_r.out.thawed 1
      go_wp2
      refine bodyPost_ret (v := .agg #[.int .i64 0, .int .i64 (distTo x1 x2 x3 n3)]) (by simp [results, Try.results65, go_sem, c_r0, c_r1]) rfl ⟨by rw [HF.out], ?_⟩
      exact ((B.out.setCell (by show w.heap.size ≤ w.heap.size + 1; omega) _).setCell (by show w.heap.size ≤ w.heap.size + 1; omega) _)
    · have HF : Hid (distF x1 x2 x3 = (pf x3 x1.length, 0)) := by show distF x1 x2 x3 = _; simp [distF, hr, hp]
      rw [HL.out] at HF hr hp
      have hq : (rf x1 x2 (n1 : Int) != 0) = false := by simp [hr]
      have hq2 : (pf x3 (n1 : Int) != 0) = true := by simpa using hp
      clear hr hp
      go_enter Try.func65, Try.ntmps65
      go_wp2_with fail
      refine (specRectFault_any _ _ _ _ _ _ _ _ _ x1 x2 _ (I_1.out.kept B.out) (I_2.out.kept B.out) m1 m2).mono ?_
      rintro e W1 ⟨rfl, b1⟩
      replace L_a := Lib.hid (L_a.out.kept b1 L_a.out.inside)
      replace L_r := Lib.hid (L_r.out.kept b1 L_r.out.inside)
      replace B := Lib.hid (B.out.trans (b1.mono B.out.size))
      clear b1
      go_wp2_with fail
      refine (specPointFault_any _ _ _ _ _ x3 _ (I_3.out.kept B.out) m3).mono ?_
      rintro e w' ⟨rfl, rfl⟩
      have c_r0 : W1.cell? ⟨w.heap.size + 1, 0, none⟩ = some (.int .i64 0) := L_r.out.cell 0
      have f_r0 : W1.frozen? ⟨w.heap.size + 1, 0, none⟩ = false := L_r.out.thawed 0
      have c_r1 : W1.cell? ⟨w.heap.size + 1, 1, none⟩ = some (.int .i64 0) := L_r.out.cell 1
      have f_r1 : W1.frozen? ⟨w.heap.size + 1, 1, none⟩ = false := L_r.out.thawed 1
      go_wp2
      refine bodyPost_ret (v := .agg #[.int .i64 (pf x3 (n1 : Int)), .int .i64 0]) (by simp [results, Try.results65, go_sem, c_r0, c_r1]) rfl ⟨by rw [HF.out], ?_⟩
      exact ((B.out.setCell (by show w.heap.size ≤ w.heap.size + 1; omega) _).setCell (by show w.heap.size ≤ w.heap.size + 1; omega) _)
  · have HF : Hid (distF x1 x2 x3 = (rf x1 x2 x1.length, 0)) := by show distF x1 x2 x3 = _; simp [distF, hr]
    rw [HL.out] at HF hr
    have hq : (rf x1 x2 (n1 : Int) != 0) = true := by simpa using hr
    clear hr
    go_enter Try.func65, Try.ntmps65
    go_wp2_with fail
    refine (specRectFault_any _ _ _ _ _ _ _ _ _ x1 x2 _ (I_1.out.kept B.out) (I_2.out.kept B.out) m1 m2).mono ?_
    rintro e W1 ⟨rfl, b1⟩
    replace L_a := Lib.hid (L_a.out.kept b1 L_a.out.inside)
    replace L_r := Lib.hid (L_r.out.kept b1 L_r.out.inside)
    replace B := Lib.hid (B.out.trans (b1.mono B.out.size))
    clear b1
    have c_r0 : W1.cell? ⟨w.heap.size + 1, 0, none⟩ = some (.int .i64 0) := L_r.out.cell 0
    have f_r0 : W1.frozen? ⟨w.heap.size + 1, 0, none⟩ = false := L_r.out.thawed 0
    have c_r1 : W1.cell? ⟨w.heap.size + 1, 1, none⟩ = some (.int .i64 0) := L_r.out.cell 1
    have f_r1 : W1.frozen? ⟨w.heap.size + 1, 1, none⟩ = false := L_r.out.thawed 1
    go_wp2
    refine bodyPost_ret (v := .agg #[.int .i64 (rf x1 x2 (n1 : Int)), .int .i64 0]) (by simp [results, Try.results65, go_sem, c_r0, c_r1]) rfl ⟨by rw [HF.out], ?_⟩
    exact ((B.out.setCell (by show w.heap.size ≤ w.heap.size + 1; omega) _).setCell (by show w.heap.size ≤ w.heap.size + 1; omega) _)

set_option maxHeartbeats 3200000 in
theorem implDistOf_any (n1 c1 n2 c2 n3 c3 lo1 lo2 lo3 : Nat) (A1 A2 A3 : Option Addr) (x1 x2 x3 : List Int) (w : World)
    (h1 : Ints w lo1 A1 n1 x1) (h2 : Ints w lo2 A2 n2 x2) (h3 : Ints w lo3 A3 n3 x3) (m1 : n1 ≤ maxLen) (m2 : n2 ≤ maxLen) (m3 : n3 ≤ maxLen) :
    Calls Try.prog 64 #[.agg #[.slice A1 n1 c1, .slice A2 n2 c2], .slice A3 n3 c3] w fun e w' => e = .returned (.agg #[.int .i64 (distF x1 x2 x3).1, .int .i64 (distF x1 x2 x3).2]) ∧ Below w.heap.size w w' := by
  have I_1 := Lib.hid h1
  have I_2 := Lib.hid h2
  have I_3 := Lib.hid h3
  have HL := Lib.hid h1.1
  clear h1 h2 h3
  have B := Lib.hid (Below.refl w.heap.size w)
  have L_a := Lib.hid (Lies.new w 43 #[.slice A1 n1 c1, .slice A2 n2 c2])
  replace B := Lib.hid (B.out.alloc B.out.size (.cells #[.slice A1 n1 c1, .slice A2 n2 c2] 43))
  replace L_a := Lib.hid (L_a.out.alloc (.cells #[.int .i64 0, .int .i64 0] 35))
  have L_r := Lib.hid (Lies.new (w.alloc (.cells #[.slice A1 n1 c1, .slice A2 n2 c2] 43)) 35 #[.int .i64 0, .int .i64 0])
  replace B := Lib.hid (B.out.alloc B.out.size (.cells #[.int .i64 0, .int .i64 0] 35))
  simp only [World.size_alloc] at L_r
  by_cases hr : rf x1 x2 x1.length = 0
  · by_cases hp : pf x3 x1.length = 0
    · have HF : Hid (distF x1 x2 x3 = (0, distTo x1 x2 x3 n1)) := by show distF x1 x2 x3 = _; rw [← HL.out]; simp [distF, hr, hp]
      have hR := right_of_rf (n := x1.length) hr
      obtain ⟨_, hl3, hall⟩ := pf_zero hp
      have hl3' : x3.length = x1.length := by omega
      obtain ⟨p0, p1, p2, hp1⟩ := pad_of (xs := x1) hR.dim
      obtain ⟨q0, q1, q2, hp2⟩ := pad_of (xs := x2) (by rw [hR.len']; exact hR.dim)
      obtain ⟨r0, r1, r2, hp3⟩ := pad_of (xs := x3) (by rw [hl3']; exact hR.dim)
      have P1 := Lib.hid hp1
      clear hp1
      have P2 := Lib.hid hp2
      clear hp2
      have P3 := Lib.hid hp3
      clear hp3
      have HR := Lib.hid hR
      have HA := Lib.hid hall
      have HL3 := Lib.hid hl3'
      rw [HL.out] at hr hp
      have hq : (rf x1 x2 (n1 : Int) != 0) = false := by simp [hr]
      have hq2 : (pf x3 (n1 : Int) != 0) = false := by simp [hp]
      clear hr hp hR hl3 hl3' hall
      go_enter Try.func64, Try.ntmps64
      go_wp2
      generalize hW : ((w.alloc (.cells #[.slice A1 n1 c1, .slice A2 n2 c2] 43)).alloc (.cells #[.int .i64 0, .int .i64 0] 35)) = W0 at *
      clear hW
      have k_0 : W0.cell? ⟨w.heap.size, 0, none⟩ = some (.slice A1 n1 c1) ∧ W0.cell? ⟨w.heap.size, 1, none⟩ = some (.slice A2 n2 c2) := ⟨L_a.out.cell 0, L_a.out.cell 1⟩
      go_region_held3 (fun w' => w'.cell? ⟨w.heap.size, 0, none⟩ = some (.slice A1 n1 c1) ∧ w'.cell? ⟨w.heap.size, 1, none⟩ = some (.slice A2 n2 c2))
        (first | (simp [go_sem, k_0]; done) | with_reducible exact k_1 | with_reducible exact k_2)
        (first
          | (go_at_call 117; refine (dimsOf_any _ _ _ _ _ _ _).mono ?_
             rintro e W1 ⟨rfl, b1d⟩
             have b1 := below_drawn b1d
             have k_1 : W1.cell? ⟨w.heap.size, 0, none⟩ = some (.slice A1 n1 c1) ∧ W1.cell? ⟨w.heap.size, 1, none⟩ = some (.slice A2 n2 c2) := ⟨(L_a.out.kept b1 L_a.out.inside).cell 0, (L_a.out.kept b1 L_a.out.inside).cell 1⟩
             clear b1d)
          | (go_at_call 52; refine (implRectFault_any _ _ _ _ _ _ _ _ _ x1 x2 _ (I_1.out.kept (B.out.trans (b1.mono B.out.size))) (I_2.out.kept (B.out.trans (b1.mono B.out.size))) m1 m2).mono ?_
             rintro e W2 ⟨rfl, b2⟩
             have k_2 : W2.cell? ⟨w.heap.size, 0, none⟩ = some (.slice A1 n1 c1) ∧ W2.cell? ⟨w.heap.size, 1, none⟩ = some (.slice A2 n2 c2) := ⟨((L_a.out.kept b1 L_a.out.inside).kept b2 (L_a.out.kept b1 L_a.out.inside).inside).cell 0, ((L_a.out.kept b1 L_a.out.inside).kept b2 (L_a.out.kept b1 L_a.out.inside).inside).cell 1⟩))
      clear k_0 k_1 k_2
      replace L_a := Lib.hid (L_a.out.kept b1 L_a.out.inside)
      replace L_r := Lib.hid (L_r.out.kept b1 L_r.out.inside)
      replace B := Lib.hid (B.out.trans (b1.mono B.out.size))
      clear b1
      replace L_a := Lib.hid (L_a.out.kept b2 L_a.out.inside)
      replace L_r := Lib.hid (L_r.out.kept b2 L_r.out.inside)
      replace B := Lib.hid (B.out.trans (b2.mono B.out.size))
      clear b2
      have c_a0 : W2.cell? ⟨w.heap.size, 0, none⟩ = some (.slice A1 n1 c1) := L_a.out.cell 0
      have c_a1 : W2.cell? ⟨w.heap.size, 1, none⟩ = some (.slice A2 n2 c2) := L_a.out.cell 1
      go_wp2_with fail
      clear c_a0 c_a1
      refine (dimsOf_any _ _ _ _ _ _ _).mono ?_
      rintro e W3 ⟨rfl, b3⟩
      replace L_a := Lib.hid (L_a.out.kept b3 L_a.out.inside)
      replace L_r := Lib.hid (L_r.out.kept b3 L_r.out.inside)
      replace B := Lib.hid (B.out.trans (b3.mono B.out.size))
      clear b3
      go_wp2_with fail
      refine (implPointFault_any _ _ _ _ _ x3 _ (I_3.out.kept B.out) m3).mono ?_
      rintro e W4 ⟨rfl, b4⟩
      replace L_a := Lib.hid (L_a.out.kept b4 L_a.out.inside)
      replace L_r := Lib.hid (L_r.out.kept b4 L_r.out.inside)
      replace B := Lib.hid (B.out.trans (b4.mono B.out.size))
      clear b4
      have c_a0 : W4.cell? ⟨w.heap.size, 0, none⟩ = some (.slice A1 n1 c1) := L_a.out.cell 0
      have c_a1 : W4.cell? ⟨w.heap.size, 1, none⟩ = some (.slice A2 n2 c2) := L_a.out.cell 1
      go_wp2_with fail
      clear c_a0 c_a1
      refine (boxFrom_any _ _ _ _ _ _ _ _ x1 x2 _ _ _ _ _ _ _ P1.out P2.out (I_1.out.kept B.out) (I_2.out.kept B.out)).mono ?_
      rintro e W5 ⟨rfl, b5⟩
      replace L_a := Lib.hid (L_a.out.kept b5 L_a.out.inside)
      replace L_r := Lib.hid (L_r.out.kept b5 L_r.out.inside)
      replace B := Lib.hid (B.out.trans (b5.mono B.out.size))
      clear b5
      go_wp2_with fail
      refine (cornerFrom_any _ _ _ _ x3 _ _ _ _ P3.out (I_3.out.kept B.out)).mono ?_
      rintro e W6 ⟨rfl, b6⟩
      replace L_a := Lib.hid (L_a.out.kept b6 L_a.out.inside)
      replace L_r := Lib.hid (L_r.out.kept b6 L_r.out.inside)
      replace B := Lib.hid (B.out.trans (b6.mono B.out.size))
      clear b6
      go_wp2_with fail
      refine (distanceM_any _ _ _ _ _ _ _ _ _ _ x1 x2 x3 _ P1.out P2.out P3.out HR.out HA.out HL3.out).mono ?_
      rintro e W7 ⟨rfl, b7⟩
      replace L_a := Lib.hid (L_a.out.kept b7 L_a.out.inside)
      replace L_r := Lib.hid (L_r.out.kept b7 L_r.out.inside)
      replace B := Lib.hid (B.out.trans (b7.mono B.out.size))
      clear b7
      rw [HL.out]
      have c_r0 : W7.cell? ⟨w.heap.size + 1, 0, none⟩ = some (.int .i64 0) := L_r.out.cell 0
      have f_r0 : W7.frozen? ⟨w.heap.size + 1, 0, none⟩ = false := L_r.out.thawed 0
      have c_r1 : W7.cell? ⟨w.heap.size + 1, 1, none⟩ = some (.int .i64 0) := L_r.out.cell 1
      have f_r1 : W7.frozen? ⟨w.heap.size + 1, 1, none⟩ = false := L_r.out.thawed 1
      go_wp2
      refine bodyPost_ret (v := .agg #[.int .i64 0, .int .i64 (distTo x1 x2 x3 n1)]) (by simp [results, Try.results64, go_sem, c_r0, c_r1]) rfl ⟨by rw [HF.out], ?_⟩
      exact ((B.out.setCell (by show w.heap.size ≤ w.heap.size + 1; omega) _).setCell (by show w.heap.size ≤ w.heap.size + 1; omega) _)
    · have HF : Hid (distF x1 x2 x3 = (pf x3 x1.length, 0)) := by show distF x1 x2 x3 = _; simp [distF, hr, hp]
      rw [HL.out] at HF hr hp
      have hq : (rf x1 x2 (n1 : Int) != 0) = false := by simp [hr]
      have hq2 : (pf x3 (n1 : Int) != 0) = true := by simpa using hp
      clear hr hp
      go_enter Try.func64, Try.ntmps64
      go_wp2
      generalize hW : ((w.alloc (.cells #[.slice A1 n1 c1, .slice A2 n2 c2] 43)).alloc (.cells #[.int .i64 0, .int .i64 0] 35)) = W0 at *
      clear hW
      have k_0 : W0.cell? ⟨w.heap.size, 0, none⟩ = some (.slice A1 n1 c1) ∧ W0.cell? ⟨w.heap.size, 1, none⟩ = some (.slice A2 n2 c2) := ⟨L_a.out.cell 0, L_a.out.cell 1⟩
      go_region_held3 (fun w' => w'.cell? ⟨w.heap.size, 0, none⟩ = some (.slice A1 n1 c1) ∧ w'.cell? ⟨w.heap.size, 1, none⟩ = some (.slice A2 n2 c2))
        (first | (simp [go_sem, k_0]; done) | with_reducible exact k_1 | with_reducible exact k_2)
        (first
          | (go_at_call 117; refine (dimsOf_any _ _ _ _ _ _ _).mono ?_
             rintro e W1 ⟨rfl, b1d⟩
             have b1 := below_drawn b1d
             have k_1 : W1.cell? ⟨w.heap.size, 0, none⟩ = some (.slice A1 n1 c1) ∧ W1.cell? ⟨w.heap.size, 1, none⟩ = some (.slice A2 n2 c2) := ⟨(L_a.out.kept b1 L_a.out.inside).cell 0, (L_a.out.kept b1 L_a.out.inside).cell 1⟩
             clear b1d)
          | (go_at_call 52; refine (implRectFault_any _ _ _ _ _ _ _ _ _ x1 x2 _ (I_1.out.kept (B.out.trans (b1.mono B.out.size))) (I_2.out.kept (B.out.trans (b1.mono B.out.size))) m1 m2).mono ?_
             rintro e W2 ⟨rfl, b2⟩
             have k_2 : W2.cell? ⟨w.heap.size, 0, none⟩ = some (.slice A1 n1 c1) ∧ W2.cell? ⟨w.heap.size, 1, none⟩ = some (.slice A2 n2 c2) := ⟨((L_a.out.kept b1 L_a.out.inside).kept b2 (L_a.out.kept b1 L_a.out.inside).inside).cell 0, ((L_a.out.kept b1 L_a.out.inside).kept b2 (L_a.out.kept b1 L_a.out.inside).inside).cell 1⟩))
      clear k_0 k_1 k_2
      replace L_a := Lib.hid (L_a.out.kept b1 L_a.out.inside)
      replace L_r := Lib.hid (L_r.out.kept b1 L_r.out.inside)
      replace B := Lib.hid (B.out.trans (b1.mono B.out.size))
      clear b1
      replace L_a := Lib.hid (L_a.out.kept b2 L_a.out.inside)
      replace L_r := Lib.hid (L_r.out.kept b2 L_r.out.inside)
      replace B := Lib.hid (B.out.trans (b2.mono B.out.size))
      clear b2
      have c_a0 : W2.cell? ⟨w.heap.size, 0, none⟩ = some (.slice A1 n1 c1) := L_a.out.cell 0
      have c_a1 : W2.cell? ⟨w.heap.size, 1, none⟩ = some (.slice A2 n2 c2) := L_a.out.cell 1
      go_wp2_with fail
      clear c_a0 c_a1
      refine (dimsOf_any _ _ _ _ _ _ _).mono ?_
      rintro e W3 ⟨rfl, b3⟩
      replace L_a := Lib.hid (L_a.out.kept b3 L_a.out.inside)
      replace L_r := Lib.hid (L_r.out.kept b3 L_r.out.inside)
      replace B := Lib.hid (B.out.trans (b3.mono B.out.size))
      clear b3
      go_wp2_with fail
      refine (implPointFault_any _ _ _ _ _ x3 _ (I_3.out.kept B.out) m3).mono ?_
      rintro e W4 ⟨rfl, b4⟩
      replace L_a := Lib.hid (L_a.out.kept b4 L_a.out.inside)
      replace L_r := Lib.hid (L_r.out.kept b4 L_r.out.inside)
      replace B := Lib.hid (B.out.trans (b4.mono B.out.size))
      clear b4
      have c_r0 : W4.cell? ⟨w.heap.size + 1, 0, none⟩ = some (.int .i64 0) := L_r.out.cell 0
      have f_r0 : W4.frozen? ⟨w.heap.size + 1, 0, none⟩ = false := L_r.out.thawed 0
      have c_r1 : W4.cell? ⟨w.heap.size + 1, 1, none⟩ = some (.int .i64 0) := L_r.out.cell 1
      have f_r1 : W4.frozen? ⟨w.heap.size + 1, 1, none⟩ = false := L_r.out.thawed 1
      go_wp2
      refine bodyPost_ret (v := .agg #[.int .i64 (pf x3 (n1 : Int)), .int .i64 0]) (by simp [results, Try.results64, go_sem, c_r0, c_r1]) rfl ⟨by rw [HF.out], ?_⟩
      exact ((B.out.setCell (by show w.heap.size ≤ w.heap.size + 1; omega) _).setCell (by show w.heap.size ≤ w.heap.size + 1; omega) _)
  · have HF : Hid (distF x1 x2 x3 = (rf x1 x2 x1.length, 0)) := by show distF x1 x2 x3 = _; simp [distF, hr]
    rw [HL.out] at HF hr
    have hq : (rf x1 x2 (n1 : Int) != 0) = true := by simpa using hr
    clear hr
    go_enter Try.func64, Try.ntmps64
    go_wp2
    generalize hW : ((w.alloc (.cells #[.slice A1 n1 c1, .slice A2 n2 c2] 43)).alloc (.cells #[.int .i64 0, .int .i64 0] 35)) = W0 at *
    clear hW
    have k_0 : W0.cell? ⟨w.heap.size, 0, none⟩ = some (.slice A1 n1 c1) ∧ W0.cell? ⟨w.heap.size, 1, none⟩ = some (.slice A2 n2 c2) := ⟨L_a.out.cell 0, L_a.out.cell 1⟩
    go_region_held3 (fun w' => w'.cell? ⟨w.heap.size, 0, none⟩ = some (.slice A1 n1 c1) ∧ w'.cell? ⟨w.heap.size, 1, none⟩ = some (.slice A2 n2 c2))
      (first | (simp [go_sem, k_0]; done) | with_reducible exact k_1 | with_reducible exact k_2)
      (first
        | (go_at_call 117; refine (dimsOf_any _ _ _ _ _ _ _).mono ?_
           rintro e W1 ⟨rfl, b1d⟩
           have b1 := below_drawn b1d
           have k_1 : W1.cell? ⟨w.heap.size, 0, none⟩ = some (.slice A1 n1 c1) ∧ W1.cell? ⟨w.heap.size, 1, none⟩ = some (.slice A2 n2 c2) := ⟨(L_a.out.kept b1 L_a.out.inside).cell 0, (L_a.out.kept b1 L_a.out.inside).cell 1⟩
           clear b1d)
        | (go_at_call 52; refine (implRectFault_any _ _ _ _ _ _ _ _ _ x1 x2 _ (I_1.out.kept (B.out.trans (b1.mono B.out.size))) (I_2.out.kept (B.out.trans (b1.mono B.out.size))) m1 m2).mono ?_
           rintro e W2 ⟨rfl, b2⟩
           have k_2 : W2.cell? ⟨w.heap.size, 0, none⟩ = some (.slice A1 n1 c1) ∧ W2.cell? ⟨w.heap.size, 1, none⟩ = some (.slice A2 n2 c2) := ⟨((L_a.out.kept b1 L_a.out.inside).kept b2 (L_a.out.kept b1 L_a.out.inside).inside).cell 0, ((L_a.out.kept b1 L_a.out.inside).kept b2 (L_a.out.kept b1 L_a.out.inside).inside).cell 1⟩))
    clear k_0 k_1 k_2
    replace L_a := Lib.hid (L_a.out.kept b1 L_a.out.inside)
    replace L_r := Lib.hid (L_r.out.kept b1 L_r.out.inside)
    replace B := Lib.hid (B.out.trans (b1.mono B.out.size))
    clear b1
    replace L_a := Lib.hid (L_a.out.kept b2 L_a.out.inside)
    replace L_r := Lib.hid (L_r.out.kept b2 L_r.out.inside)
    replace B := Lib.hid (B.out.trans (b2.mono B.out.size))
    clear b2
    have c_r0 : W2.cell? ⟨w.heap.size + 1, 0, none⟩ = some (.int .i64 0) := L_r.out.cell 0
    have f_r0 : W2.frozen? ⟨w.heap.size + 1, 0, none⟩ = false := L_r.out.thawed 0
    have c_r1 : W2.cell? ⟨w.heap.size + 1, 1, none⟩ = some (.int .i64 0) := L_r.out.cell 1
    have f_r1 : W2.frozen? ⟨w.heap.size + 1, 1, none⟩ = false := L_r.out.thawed 1
    go_wp2
    refine bodyPost_ret (v := .agg #[.int .i64 (rf x1 x2 (n1 : Int)), .int .i64 0]) (by simp [results, Try.results64, go_sem, c_r0, c_r1]) rfl ⟨by rw [HF.out], ?_⟩
    exact ((B.out.setCell (by show w.heap.size ≤ w.heap.size + 1; omega) _).setCell (by show w.heap.size ≤ w.heap.size + 1; omega) _)

end Go.Proofs.Ytdkaofmlgaofgab
