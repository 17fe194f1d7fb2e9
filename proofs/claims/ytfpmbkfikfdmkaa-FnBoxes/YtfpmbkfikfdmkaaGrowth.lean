/- The walks of spec.l1Growth, spec.GrowthOf and impl.GrowthOf: for every two boxes. -/
import Derived.Test.YtfpmbkfikfdmkaaUnion
import Derived.Test.YtfpmbkfikfdmkaaSpecArea
namespace Go.Proofs.Ytfpmbkfikfdmkaa
open Go.RowKit

/-- By how much a box would grow, with its code. -/
def growF (x1 x2 x3 x4 : List Int) : Int × Int := if rf2 x1 x2 x3 x4 = 0 then (0, areaTo (mins x1 x3) (maxs x2 x4) x1.length - areaTo x1 x2 x1.length) else (rf2 x1 x2 x3 x4, 0)

theorem area_small {xs ys : List Int} {n : Nat} (h : Right xs ys n) : 0 ≤ areaTo xs ys n ∧ areaTo xs ys n ≤ 8000000000 := by
  obtain ⟨h1, h2⟩ := areaTo_bd h n (Nat.le_refl _)
  refine ⟨h1, Int.le_trans h2 ?_⟩
  rcases h.dim with e | e <;> rw [e] <;> decide

set_option maxHeartbeats 16000000 in
theorem l1Growth_at (b1 f1 b2 f2 n c1 c2 c3 c4 lo1 lo2 lo3 lo4 : Nat) (A1 A2 A3 A4 : Option Addr) (x1 x2 x3 x4 : List Int) (w : World) (hb1 : b1 < w.heap.size) (hb2 : b2 < w.heap.size)
    (ht : TwoAt b1 f1 b2 f2 (.slice A1 n c1) (.slice A2 n c2) (.slice A3 n c3) (.slice A4 n c4) w) (h1 : Ints w lo1 A1 n x1) (h2 : Ints w lo2 A2 n x2) (h3 : Ints w lo3 A3 n x3) (h4 : Ints w lo4 A4 n x4) (hr : Right x1 x2 n) (hr' : Right x3 x4 n) :
    Calls Try.prog 84 #[.pointer (some ⟨b1, f1, none⟩), .pointer (some ⟨b2, f2, none⟩)] w fun e w' => e = .returned (.int .i64 (areaTo (mins x1 x3) (maxs x2 x4) n - areaTo x1 x2 n)) ∧ Below w.heap.size w w' := by
  have HT := Lib.hid ht
  have I_1 := Lib.hid h1
  have I_2 := Lib.hid h2
  have HR := Lib.hid hr
  have HU := Lib.hid (right_union hr hr')
  have K := Lib.hid (l1UnionFF_any b1 f1 b2 f2 n c1 c2 c3 c4 lo1 lo2 lo3 lo4 A1 A2 A3 A4 x1 x2 x3 x4 w hb1 hb2 ht h1 h2 h3 h4 (by rcases hr.dim with e | e <;> omega))
  obtain ⟨u0, u1⟩ := area_small HU.out
  obtain ⟨a0, a1⟩ := area_small HR.out
  clear ht h1 h2 h3 h4 hr hr'
  go_enter Try.func84, Try.ntmps84
  go_wp2_with fail
  refine K.out.mono ?_
  rintro e W1 ⟨A, c, A', c', rfl, j1, j2, _, b⟩
  clear K
  have J_1 := Lib.hid (j1.kept (below_alloc W1 (.cells #[.slice A n c, .slice A' n c'] 26)))
  have J_2 := Lib.hid (j2.kept (below_alloc W1 (.cells #[.slice A n c, .slice A' n c'] 26)))
  have B := Lib.hid (b.alloc b.size (.cells #[.slice A n c, .slice A' n c'] 26))
  have L_u := Lib.hid (Lies.new W1 26 #[.slice A n c, .slice A' n c'])
  clear j1 j2 b
  go_wp2_with fail
  refine (l1Area_any _ _ _ _ _ _ _ _ (mins x1 x3) (maxs x2 x4) _ (L_u.out.cell 0) (L_u.out.cell 1) J_1.out J_2.out HU.out).mono ?_
  rintro e W2 ⟨rfl, d2⟩
  replace B := Lib.hid (B.out.trans (d2.below.mono B.out.size))
  clear d2 L_u J_1 J_2
  go_wp2_with fail
  refine (l1Area_at _ _ _ _ _ _ _ _ _ x1 x2 _ ((B.out.cell (p := ⟨b1, f1, none⟩) hb1).trans HT.out.1) ((B.out.cell (p := ⟨b1, f1 + 1, none⟩) hb1).trans HT.out.2.1) (I_1.out.kept B.out) (I_2.out.kept B.out) HR.out).mono ?_
  rintro e W3 ⟨rfl, d3⟩
  replace B := Lib.hid (B.out.trans (d3.below.mono B.out.size))
  clear d3
  have HW : Hid (wrap64 (areaTo (mins x1 x3) (maxs x2 x4) n - areaTo x1 x2 n) = areaTo (mins x1 x3) (maxs x2 x4) n - areaTo x1 x2 n) := by show wrap64 _ = _; unfold wrap64; omega
  clear u0 u1 a0 a1
  go_wp2
  go_ret
  exact ⟨ret_i64 HW.out, B.out⟩

theorem l1Growth_any (b1 b2 n c1 c2 c3 c4 lo1 lo2 lo3 lo4 : Nat) (A1 A2 A3 A4 : Option Addr) (x1 x2 x3 x4 : List Int) (w : World) (hb1 : b1 < w.heap.size) (hb2 : b2 < w.heap.size)
    (ht : Two b1 b2 (.slice A1 n c1) (.slice A2 n c2) (.slice A3 n c3) (.slice A4 n c4) w) (h1 : Ints w lo1 A1 n x1) (h2 : Ints w lo2 A2 n x2) (h3 : Ints w lo3 A3 n x3) (h4 : Ints w lo4 A4 n x4) (hr : Right x1 x2 n) (hr' : Right x3 x4 n) :
    Calls Try.prog 84 #[.pointer (some ⟨b1, 0, none⟩), .pointer (some ⟨b2, 0, none⟩)] w fun e w' => e = .returned (.int .i64 (areaTo (mins x1 x3) (maxs x2 x4) n - areaTo x1 x2 n)) ∧ Below w.heap.size w w' :=
  l1Growth_at b1 0 b2 0 n c1 c2 c3 c4 lo1 lo2 lo3 lo4 A1 A2 A3 A4 x1 x2 x3 x4 w hb1 hb2 ht h1 h2 h3 h4 hr hr'

set_option maxHeartbeats 16000000 in
theorem specGrowthOf_any (n1 c1 n2 c2 n3 c3 n4 c4 lo1 lo2 lo3 lo4 : Nat) (A1 A2 A3 A4 : Option Addr) (x1 x2 x3 x4 : List Int) (w : World)
    (h1 : Ints w lo1 A1 n1 x1) (h2 : Ints w lo2 A2 n2 x2) (h3 : Ints w lo3 A3 n3 x3) (h4 : Ints w lo4 A4 n4 x4) (m1 : n1 ≤ maxLen) (m2 : n2 ≤ maxLen) (m3 : n3 ≤ maxLen) (m4 : n4 ≤ maxLen) :
    Calls Try.prog 23 #[.agg #[.slice A1 n1 c1, .slice A2 n2 c2], .agg #[.slice A3 n3 c3, .slice A4 n4 c4]] w fun e w' => e = .returned (.agg #[.int .i64 (growF x1 x2 x3 x4).1, .int .i64 (growF x1 x2 x3 x4).2]) ∧ Below w.heap.size w w' := by
  have I_1 := Lib.hid h1
  have I_2 := Lib.hid h2
  have I_3 := Lib.hid h3
  have I_4 := Lib.hid h4
  have HL := Lib.hid h1.1
  clear h1 h2 h3 h4
  have B := Lib.hid (Below.refl w.heap.size w)
  have L_a := Lib.hid (Lies.new w 26 #[.slice A1 n1 c1, .slice A2 n2 c2])
  replace B := Lib.hid (B.out.alloc B.out.size (.cells #[.slice A1 n1 c1, .slice A2 n2 c2] 26))
  replace L_a := Lib.hid (L_a.out.alloc (.cells #[.slice A3 n3 c3, .slice A4 n4 c4] 26))
  have L_b := Lib.hid (Lies.new (w.alloc (.cells #[.slice A1 n1 c1, .slice A2 n2 c2] 26)) 26 #[.slice A3 n3 c3, .slice A4 n4 c4])
  replace B := Lib.hid (B.out.alloc B.out.size (.cells #[.slice A3 n3 c3, .slice A4 n4 c4] 26))
  replace L_a := Lib.hid (L_a.out.alloc (.cells #[.int .i64 0, .int .i64 0] 35))
  replace L_b := Lib.hid (L_b.out.alloc (.cells #[.int .i64 0, .int .i64 0] 35))
  have L_r := Lib.hid (Lies.new ((w.alloc (.cells #[.slice A1 n1 c1, .slice A2 n2 c2] 26)).alloc (.cells #[.slice A3 n3 c3, .slice A4 n4 c4] 26)) 35 #[.int .i64 0, .int .i64 0])
  replace B := Lib.hid (B.out.alloc B.out.size (.cells #[.int .i64 0, .int .i64 0] 35))
  simp only [World.size_alloc] at L_b
  simp only [World.size_alloc] at L_r
  by_cases hr : rf2 x1 x2 x3 x4 = 0
  · have HF : Hid (growF x1 x2 x3 x4 = (0, areaTo (mins x1 x3) (maxs x2 x4) n1 - areaTo x1 x2 n1)) := by show growF x1 x2 x3 x4 = _; rw [← HL.out]; simp [growF, hr]
    obtain ⟨hR, hR'⟩ := right_of_rf2 hr
    rw [HL.out] at hR hR'
    have HR := Lib.hid hR
    have HR' := Lib.hid hR'
    have e2 : n1 = n2 := by rw [← I_2.out.1]; exact hR.len'.symm
    have e3 : n1 = n3 := by rw [← I_3.out.1]; exact hR'.len.symm
    have e4 : n1 = n4 := by rw [← I_4.out.1]; exact hR'.len'.symm
    have hq : (rf2 x1 x2 x3 x4 != 0) = false := by simp [hr]
    clear hr hR hR'
    subst e2 e3 e4
    go_enter Try.func23, Try.ntmps23
    go_wp2_with fail
    refine (l1Two_any _ _ _ _ _ _ _ _ _ _ _ _ _ _ _ _ _ _ x1 x2 x3 x4 _ L_a.out.inside L_b.out.inside ⟨L_a.out.cell 0, L_a.out.cell 1, L_b.out.cell 0, L_b.out.cell 1⟩ (I_1.out.kept B.out) (I_2.out.kept B.out) (I_3.out.kept B.out) (I_4.out.kept B.out) m1 m2 m3 m4).mono ?_
    rintro e W1 ⟨rfl, b1⟩
    replace L_a := Lib.hid (L_a.out.kept b1 L_a.out.inside)
    replace L_b := Lib.hid (L_b.out.kept b1 L_b.out.inside)
    replace L_r := Lib.hid (L_r.out.kept b1 L_r.out.inside)
    replace B := Lib.hid (B.out.trans (b1.mono B.out.size))
    clear b1
    go_wp2_with fail
    refine (l1Growth_any _ _ _ _ _ _ _ _ _ _ _ _ _ _ _ x1 x2 x3 x4 _ L_a.out.inside L_b.out.inside ⟨L_a.out.cell 0, L_a.out.cell 1, L_b.out.cell 0, L_b.out.cell 1⟩ (I_1.out.kept B.out) (I_2.out.kept B.out) (I_3.out.kept B.out) (I_4.out.kept B.out) HR.out HR'.out).mono ?_
    rintro e W2 ⟨rfl, b2⟩
    replace L_a := Lib.hid (L_a.out.kept b2 L_a.out.inside)
    replace L_b := Lib.hid (L_b.out.kept b2 L_b.out.inside)
    replace L_r := Lib.hid (L_r.out.kept b2 L_r.out.inside)
    replace B := Lib.hid (B.out.trans (b2.mono B.out.size))
    clear b2
    have c_r0 : W2.cell? ⟨w.heap.size + 1 + 1, 0, none⟩ = some (.int .i64 0) := L_r.out.cell 0
    have f_r0 : W2.frozen? ⟨w.heap.size + 1 + 1, 0, none⟩ = false := L_r.out.thawed 0
    have c_r1 : W2.cell? ⟨w.heap.size + 1 + 1, 1, none⟩ = some (.int .i64 0) := L_r.out.cell 1
    have f_r1 : W2.frozen? ⟨w.heap.size + 1 + 1, 1, none⟩ = false := L_r.out.thawed 1
    go_wp2
    refine bodyPost_ret (v := .agg #[.int .i64 0, .int .i64 (areaTo (mins x1 x3) (maxs x2 x4) n1 - areaTo x1 x2 n1)]) (by simp [results, Try.results23, go_sem, c_r0, c_r1]) rfl ⟨by rw [HF.out], ?_⟩
    exact ((B.out.setCell (by show w.heap.size ≤ w.heap.size + 1 + 1; omega) _).setCell (by show w.heap.size ≤ w.heap.size + 1 + 1; omega) _)
  · have HF : Hid (growF x1 x2 x3 x4 = (rf2 x1 x2 x3 x4, 0)) := by show growF x1 x2 x3 x4 = _; simp [growF, hr]
    have hq : (rf2 x1 x2 x3 x4 != 0) = true := by simpa using hr
    clear hr
    go_enter Try.func23, Try.ntmps23
    go_wp2_with fail
    refine (l1Two_any _ _ _ _ _ _ _ _ _ _ _ _ _ _ _ _ _ _ x1 x2 x3 x4 _ L_a.out.inside L_b.out.inside ⟨L_a.out.cell 0, L_a.out.cell 1, L_b.out.cell 0, L_b.out.cell 1⟩ (I_1.out.kept B.out) (I_2.out.kept B.out) (I_3.out.kept B.out) (I_4.out.kept B.out) m1 m2 m3 m4).mono ?_
    rintro e W1 ⟨rfl, b1⟩
    replace L_a := Lib.hid (L_a.out.kept b1 L_a.out.inside)
    replace L_b := Lib.hid (L_b.out.kept b1 L_b.out.inside)
    replace L_r := Lib.hid (L_r.out.kept b1 L_r.out.inside)
    replace B := Lib.hid (B.out.trans (b1.mono B.out.size))
    clear b1
    have c_r0 : W1.cell? ⟨w.heap.size + 1 + 1, 0, none⟩ = some (.int .i64 0) := L_r.out.cell 0
    have f_r0 : W1.frozen? ⟨w.heap.size + 1 + 1, 0, none⟩ = false := L_r.out.thawed 0
    have c_r1 : W1.cell? ⟨w.heap.size + 1 + 1, 1, none⟩ = some (.int .i64 0) := L_r.out.cell 1
    have f_r1 : W1.frozen? ⟨w.heap.size + 1 + 1, 1, none⟩ = false := L_r.out.thawed 1
    go_wp2
    refine bodyPost_ret (v := .agg #[.int .i64 (rf2 x1 x2 x3 x4), .int .i64 0]) (by simp [results, Try.results23, go_sem, c_r0, c_r1]) rfl ⟨by rw [HF.out], ?_⟩
    exact ((B.out.setCell (by show w.heap.size ≤ w.heap.size + 1 + 1; omega) _).setCell (by show w.heap.size ≤ w.heap.size + 1 + 1; omega) _)

end Go.Proofs.Ytfpmbkfikfdmkaa
