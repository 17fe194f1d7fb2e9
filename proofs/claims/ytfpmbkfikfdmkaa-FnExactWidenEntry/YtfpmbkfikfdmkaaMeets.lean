/- The walks of spec.Meets and impl.Meets: for every two boxes. -/
import Derived.Test.YtfpmbkfikfdmkaaSpecLoops
import Derived.Deep.RegionWith
namespace Go.Proofs.Ytfpmbkfikfdmkaa
open Go.RowKit

/-- Whether two boxes meet. -/
def meetsF (x1 x2 x3 x4 : List Int) : Bool := decide (rf2 x1 x2 x3 x4 = 0) && meetTo x1 x2 x3 x4 x1.length

set_option maxHeartbeats 1600000 in
theorem specMeets_any (n1 c1 n2 c2 n3 c3 n4 c4 lo1 lo2 lo3 lo4 : Nat) (A1 A2 A3 A4 : Option Addr) (x1 x2 x3 x4 : List Int) (w : World)
    (h1 : Ints w lo1 A1 n1 x1) (h2 : Ints w lo2 A2 n2 x2) (h3 : Ints w lo3 A3 n3 x3) (h4 : Ints w lo4 A4 n4 x4) (m1 : n1 ≤ maxLen) (m2 : n2 ≤ maxLen) (m3 : n3 ≤ maxLen) (m4 : n4 ≤ maxLen) :
    Calls Try.prog 15 #[.agg #[.slice A1 n1 c1, .slice A2 n2 c2], .agg #[.slice A3 n3 c3, .slice A4 n4 c4]] w fun e w' => e = .returned (.bool (meetsF x1 x2 x3 x4)) ∧ Below w.heap.size w w' := by
  have B0 : Hid (Below w.heap.size w ((w.alloc (.cells #[.slice A1 n1 c1, .slice A2 n2 c2] 26)).alloc (.cells #[.slice A3 n3 c3, .slice A4 n4 c4] 26))) := (below_alloc _ _).alloc (by simp) _
  have H1 := Lib.hid (h1.kept B0.out)
  have H2 := Lib.hid (h2.kept B0.out)
  have H3 := Lib.hid (h3.kept B0.out)
  have H4 := Lib.hid (h4.kept B0.out)
  have HL := Lib.hid h1.1
  have L0 := Lib.hid ((Lies.new w 26 #[.slice A1 n1 c1, .slice A2 n2 c2]).alloc (.cells #[.slice A3 n3 c3, .slice A4 n4 c4] 26))
  have L1 := Lib.hid (Lies.new (w.alloc (.cells #[.slice A1 n1 c1, .slice A2 n2 c2] 26)) 26 #[.slice A3 n3 c3, .slice A4 n4 c4])
  simp only [World.size_alloc] at L1
  have HT : Hid (Two w.heap.size (w.heap.size + 1) (.slice A1 n1 c1) (.slice A2 n2 c2) (.slice A3 n3 c3) (.slice A4 n4 c4) ((w.alloc (.cells #[.slice A1 n1 c1, .slice A2 n2 c2] 26)).alloc (.cells #[.slice A3 n3 c3, .slice A4 n4 c4] 26))) :=
    ⟨L0.out.cell 0, L0.out.cell 1, L1.out.cell 0, L1.out.cell 1⟩
  clear h1 h2 h3 h4
  by_cases hr : rf2 x1 x2 x3 x4 = 0
  · have hq : (rf2 x1 x2 x3 x4 == 0) = true := by simp [hr]
    obtain ⟨hR, hR'⟩ := right_of_rf2 hr
    have HF : Hid (meetsF x1 x2 x3 x4 = meetTo x1 x2 x3 x4 n1) := by show meetsF x1 x2 x3 x4 = _; rw [← HL.out]; simp [meetsF, hr]
    have e2 : n2 = n1 := by rw [← H2.out.1, ← HL.out]; exact hR.len'
    have e3 : n3 = n1 := by rw [← H3.out.1, ← HL.out]; exact hR'.len
    have e4 : n4 = n1 := by rw [← H4.out.1, ← HL.out]; exact hR'.len'
    have hn3 : n1 ≤ 3 := by have := hR.dim; rw [HL.out] at this; omega
    clear hR hR' hr
    subst e2 e3 e4
    go_enter Try.func15, Try.ntmps15
    go_wp2_with fail
    refine (l1Two_any _ _ _ _ _ _ _ _ _ _ _ _ _ _ _ _ _ _ x1 x2 x3 x4 _ L0.out.inside L1.out.inside HT.out H1.out H2.out H3.out H4.out m1 m2 m3 m4).mono ?_
    rintro e W1 ⟨rfl, b1⟩
    have B1 := Lib.hid b1
    clear b1
    go_wp2_with fail
    refine (l1Meets_any _ _ _ _ _ _ _ _ _ _ _ _ _ _ _ x1 x2 x3 x4 _ (two_kept B1.out L0.out.inside L1.out.inside HT.out) (H1.out.kept B1.out) (H2.out.kept B1.out) (H3.out.kept B1.out) (H4.out.kept B1.out) hn3).mono ?_
    rintro e W2 ⟨rfl, b2⟩
    have B2 := Lib.hid b2.below
    clear b2
    go_wp2
    go_ret
    exact ⟨ret_bool HF.out.symm, (B0.out.trans (B1.out.mono B0.out.size)).trans (B2.out.mono (Nat.le_trans B0.out.size B1.out.size))⟩
  · have hq : (rf2 x1 x2 x3 x4 == 0) = false := by simpa using hr
    have HF : Hid (meetsF x1 x2 x3 x4 = false) := by show meetsF x1 x2 x3 x4 = _; simp [meetsF, hr]
    clear hr
    go_enter Try.func15, Try.ntmps15
    go_wp2_with fail
    refine (l1Two_any _ _ _ _ _ _ _ _ _ _ _ _ _ _ _ _ _ _ x1 x2 x3 x4 _ L0.out.inside L1.out.inside HT.out H1.out H2.out H3.out H4.out m1 m2 m3 m4).mono ?_
    rintro e W1 ⟨rfl, b1⟩
    have B1 := Lib.hid b1
    clear b1
    go_wp2
    go_ret
    exact ⟨ret_bool HF.out.symm, B0.out.trans (B1.out.mono B0.out.size)⟩

theorem pad_get {xs : List Int} {p0 p1 p2 : Int} (h : Pad xs p0 p1 p2) : xs.getD 0 0 = p0 ∧ xs.getD 1 0 = p1 ∧ xs.getD 2 0 = p2 ∧ (xs.length = 2 ∨ xs.length = 3) ∧ (xs.length = 2 → p2 = 0) := by
  rcases h with ⟨rfl, rfl⟩ | rfl <;> simp

theorem meetTo_box {x1 x2 x3 x4 : List Int} {n : Nat} {p0 p1 p2 q0 q1 q2 r0 r1 r2 s0 s1 s2 : Int} (h1 : Pad x1 p0 p1 p2) (h2 : Pad x2 q0 q1 q2) (h3 : Pad x3 r0 r1 r2) (h4 : Pad x4 s0 s1 s2)
    (l1 : x1.length = n) (l2 : x2.length = n) (l3 : x3.length = n) (l4 : x4.length = n) : boxMeets p0 p1 p2 q0 q1 q2 r0 r1 r2 s0 s1 s2 = meetTo x1 x2 x3 x4 n := by
  obtain ⟨a0, a1, a2, ad, az⟩ := pad_get h1
  obtain ⟨b0, b1, b2, _, bz⟩ := pad_get h2
  obtain ⟨c0, c1, c2, _, cz⟩ := pad_get h3
  obtain ⟨d0, d1, d2, _, dz⟩ := pad_get h4
  rcases ad with e | e
  · have hn : n = 2 := by omega
    subst hn
    have za := a2.trans (az e)
    have zb := b2.trans (bz (by omega))
    have zc := c2.trans (cz (by omega))
    have zd := d2.trans (dz (by omega))
    clear az bz cz dz
    subst_vars
    simp only [boxMeets, meetTo, za, zb, zc, zd, Bool.true_and, Bool.and_assoc, Int.le_refl, decide_true, Bool.and_true]
  · have hn : n = 3 := by omega
    subst hn
    subst_vars
    simp only [boxMeets, meetTo, Bool.true_and, Bool.and_assoc]

set_option maxHeartbeats 3200000 in
theorem implMeets_any (n1 c1 n2 c2 n3 c3 n4 c4 lo1 lo2 lo3 lo4 : Nat) (A1 A2 A3 A4 : Option Addr) (x1 x2 x3 x4 : List Int) (w : World)
    (h1 : Ints w lo1 A1 n1 x1) (h2 : Ints w lo2 A2 n2 x2) (h3 : Ints w lo3 A3 n3 x3) (h4 : Ints w lo4 A4 n4 x4) (m1 : n1 ≤ maxLen) (m2 : n2 ≤ maxLen) (m3 : n3 ≤ maxLen) (m4 : n4 ≤ maxLen) :
    Calls Try.prog 14 #[.agg #[.slice A1 n1 c1, .slice A2 n2 c2], .agg #[.slice A3 n3 c3, .slice A4 n4 c4]] w fun e w' => e = .returned (.bool (meetsF x1 x2 x3 x4)) ∧ Below w.heap.size w w' := by
  have B0 : Hid (Below w.heap.size w ((w.alloc (.cells #[.slice A1 n1 c1, .slice A2 n2 c2] 26)).alloc (.cells #[.slice A3 n3 c3, .slice A4 n4 c4] 26))) := (below_alloc _ _).alloc (by simp) _
  have H1 := Lib.hid (h1.kept B0.out)
  have H2 := Lib.hid (h2.kept B0.out)
  have H3 := Lib.hid (h3.kept B0.out)
  have H4 := Lib.hid (h4.kept B0.out)
  have HL := Lib.hid h1.1
  have L0 := Lib.hid ((Lies.new w 26 #[.slice A1 n1 c1, .slice A2 n2 c2]).alloc (.cells #[.slice A3 n3 c3, .slice A4 n4 c4] 26))
  have L1 := Lib.hid (Lies.new (w.alloc (.cells #[.slice A1 n1 c1, .slice A2 n2 c2] 26)) 26 #[.slice A3 n3 c3, .slice A4 n4 c4])
  simp only [World.size_alloc] at L1
  have HT : Hid (Two w.heap.size (w.heap.size + 1) (.slice A1 n1 c1) (.slice A2 n2 c2) (.slice A3 n3 c3) (.slice A4 n4 c4) ((w.alloc (.cells #[.slice A1 n1 c1, .slice A2 n2 c2] 26)).alloc (.cells #[.slice A3 n3 c3, .slice A4 n4 c4] 26))) :=
    ⟨L0.out.cell 0, L0.out.cell 1, L1.out.cell 0, L1.out.cell 1⟩
  clear h1 h2 h3 h4
  by_cases hr : rf2 x1 x2 x3 x4 = 0
  · have hq : (rf2 x1 x2 x3 x4 == 0) = true := by simp [hr]
    obtain ⟨hR, hR'⟩ := right_of_rf2 hr
    obtain ⟨p0, p1, p2, hp⟩ := pad_of (xs := x1) hR.dim
    obtain ⟨q0, q1, q2, hqq⟩ := pad_of (xs := x2) (by rw [hR.len']; exact hR.dim)
    obtain ⟨r0, r1, r2, hrr⟩ := pad_of (xs := x3) (by rw [hR'.len]; exact hR'.dim)
    obtain ⟨s0, s1, s2, hss⟩ := pad_of (xs := x4) (by rw [hR'.len']; exact hR'.dim)
    have HM := Lib.hid (meetTo_box hp hqq hrr hss rfl hR.len' hR'.len hR'.len')
    have HF : Hid (meetsF x1 x2 x3 x4 = meetTo x1 x2 x3 x4 x1.length) := by show meetsF x1 x2 x3 x4 = _; simp [meetsF, hr]
    have P1 := Lib.hid hp
    have P2 := Lib.hid hqq
    have P3 := Lib.hid hrr
    have P4 := Lib.hid hss
    clear hR hR' hr hp hqq hrr hss
    go_enter Try.func14, Try.ntmps14
    go_wp2
    generalize hW : ((w.alloc (.cells #[.slice A1 n1 c1, .slice A2 n2 c2] 26)).alloc (.cells #[.slice A3 n3 c3, .slice A4 n4 c4] 26)) = W0 at *
    clear hW
    have k0 := HT.out
    unfold Two at k0
    go_region_held3 (fun w' => w'.cell? ⟨w.heap.size, 0, none⟩ = some (.slice A1 n1 c1) ∧ w'.cell? ⟨w.heap.size, 1, none⟩ = some (.slice A2 n2 c2) ∧ w'.cell? ⟨w.heap.size + 1, 0, none⟩ = some (.slice A3 n3 c3) ∧ w'.cell? ⟨w.heap.size + 1, 1, none⟩ = some (.slice A4 n4 c4))
      (first | (simp [go_sem, k0]; done) | with_reducible exact k1 | with_reducible exact k2 | with_reducible exact k3 | with_reducible exact k4)
      (first
        | (go_at_call 68; refine (rectsFault_any _ _ _ _ _ _ _ _ _ _ _ _ _ _ _ _ x1 x2 x3 x4 _ H1.out.drew H2.out.drew H3.out.drew H4.out.drew m1 m2 m3 m4).mono ?_
           rintro e W1 ⟨rfl, b1d⟩
           have b1 := below_drawn b1d
           have k1 := two_kept b1 L0.out.inside L1.out.inside HT.out
           clear b1d
           unfold Two at k1)
        | (go_at_call_of 69 (Value.agg #[.slice A1 n1 c1, .slice A2 n2 c2]); refine (boxFrom_any _ _ _ _ _ _ _ _ x1 x2 _ _ _ _ _ _ _ P1.out P2.out (H1.out.kept b1) (H2.out.kept b1)).mono ?_
           rintro e W2 ⟨rfl, b2d⟩
           have b2 := b1.trans (b2d.mono b1.size)
           have k2 := two_kept b2 L0.out.inside L1.out.inside HT.out
           clear b2d
           unfold Two at k2)
        | (go_at_call_of 69 (Value.agg #[.slice A3 n3 c3, .slice A4 n4 c4]); refine (boxFrom_any _ _ _ _ _ _ _ _ x3 x4 _ _ _ _ _ _ _ P3.out P4.out (H3.out.kept b2) (H4.out.kept b2)).mono ?_
           rintro e W3 ⟨rfl, b3d⟩
           have b3 := b2.trans (b3d.mono b2.size)
           have k3 := two_kept b3 L0.out.inside L1.out.inside HT.out
           clear b3d
           unfold Two at k3)
        | (go_at_call 76; refine (meets_is _ _ _ _ _ _ _ _ _ _ _ _ _ _ HM.out).mono ?_
           rintro e W4 ⟨rfl, b4d⟩
           have b4 := b3.trans (b4d.mono b3.size)
           have k4 := two_kept b4 L0.out.inside L1.out.inside HT.out
           clear b4d
           unfold Two at k4))
    go_wp2
    go_ret
    exact ⟨ret_bool HF.out.symm, B0.out.trans (b4.mono B0.out.size)⟩
  · have hq : (rf2 x1 x2 x3 x4 == 0) = false := by simpa using hr
    have HF : Hid (meetsF x1 x2 x3 x4 = false) := by show meetsF x1 x2 x3 x4 = _; simp [meetsF, hr]
    clear hr
    go_enter Try.func14, Try.ntmps14
    go_wp2
    generalize hW : ((w.alloc (.cells #[.slice A1 n1 c1, .slice A2 n2 c2] 26)).alloc (.cells #[.slice A3 n3 c3, .slice A4 n4 c4] 26)) = W0 at *
    clear hW
    obtain ⟨k0, k1, k2, k3⟩ := HT.out
    go_region_with (first
      | (go_at_call 68; refine (rectsFault_any _ _ _ _ _ _ _ _ _ _ _ _ _ _ _ _ x1 x2 x3 x4 _ H1.out.drew H2.out.drew H3.out.drew H4.out.drew m1 m2 m3 m4).mono ?_
         rintro e W1 ⟨rfl, b1d⟩
         have b1 := below_drawn b1d
         clear b1d))
    all_goals
      go_wp2
      go_ret
      exact ⟨ret_bool HF.out.symm, B0.out.trans (b1.mono B0.out.size)⟩

end Go.Proofs.Ytfpmbkfikfdmkaa
