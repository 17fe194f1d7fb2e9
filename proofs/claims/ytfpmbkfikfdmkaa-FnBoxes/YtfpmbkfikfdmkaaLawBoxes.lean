/- FnBoxes: whatever the bytes, the law of unions holds of what they draw. No condition. -/
import Derived.Test.YtfpmbkfikfdmkaaLawDists
import Derived.Test.YtfpmbkfikfdmkaaMeets
import Derived.Test.YtfpmbkfikfdmkaaSame
import Derived.Test.YtfpmbkfikfdmkaaSpecUnionOf
import Derived.Test.YtfpmbkfikfdmkaaHeldLast
namespace Go.Proofs.Ytfpmbkfikfdmkaa
open Go.RowKit

theorem implMeets_be (n1 c1 n2 c2 n3 c3 n4 c4 lo1 lo2 lo3 lo4 : Nat) (A1 A2 A3 A4 : Option Addr) (x1 x2 x3 x4 : List Int) (w : World) {b : Bool} (hb : meetsF x1 x2 x3 x4 = b) (h1 : Ints w lo1 A1 n1 x1) (h2 : Ints w lo2 A2 n2 x2) (h3 : Ints w lo3 A3 n3 x3) (h4 : Ints w lo4 A4 n4 x4) (m1 : n1 ≤ maxLen) (m2 : n2 ≤ maxLen) (m3 : n3 ≤ maxLen) (m4 : n4 ≤ maxLen) :
    Calls Try.prog 14 #[.agg #[.slice A1 n1 c1, .slice A2 n2 c2], .agg #[.slice A3 n3 c3, .slice A4 n4 c4]] w fun e w' => e = .returned (.bool b) ∧ Below w.heap.size w w' :=
  (implMeets_any n1 c1 n2 c2 n3 c3 n4 c4 lo1 lo2 lo3 lo4 A1 A2 A3 A4 x1 x2 x3 x4 w h1 h2 h3 h4 m1 m2 m3 m4).mono fun _ _ h => ⟨by rw [h.1, hb], h.2⟩
theorem specMeets_be (n1 c1 n2 c2 n3 c3 n4 c4 lo1 lo2 lo3 lo4 : Nat) (A1 A2 A3 A4 : Option Addr) (x1 x2 x3 x4 : List Int) (w : World) {b : Bool} (hb : meetsF x1 x2 x3 x4 = b) (h1 : Ints w lo1 A1 n1 x1) (h2 : Ints w lo2 A2 n2 x2) (h3 : Ints w lo3 A3 n3 x3) (h4 : Ints w lo4 A4 n4 x4) (m1 : n1 ≤ maxLen) (m2 : n2 ≤ maxLen) (m3 : n3 ≤ maxLen) (m4 : n4 ≤ maxLen) :
    Calls Try.prog 15 #[.agg #[.slice A1 n1 c1, .slice A2 n2 c2], .agg #[.slice A3 n3 c3, .slice A4 n4 c4]] w fun e w' => e = .returned (.bool b) ∧ Below w.heap.size w w' :=
  (specMeets_any n1 c1 n2 c2 n3 c3 n4 c4 lo1 lo2 lo3 lo4 A1 A2 A3 A4 x1 x2 x3 x4 w h1 h2 h3 h4 m1 m2 m3 m4).mono fun _ _ h => ⟨by rw [h.1, hb], h.2⟩
theorem specCovers_be (n1 c1 n2 c2 n3 c3 n4 c4 lo1 lo2 lo3 lo4 : Nat) (A1 A2 A3 A4 : Option Addr) (x1 x2 x3 x4 : List Int) (w : World) {b : Bool} (hb : coversF x1 x2 x3 x4 = b) (h1 : Ints w lo1 A1 n1 x1) (h2 : Ints w lo2 A2 n2 x2) (h3 : Ints w lo3 A3 n3 x3) (h4 : Ints w lo4 A4 n4 x4) (m1 : n1 ≤ maxLen) (m2 : n2 ≤ maxLen) (m3 : n3 ≤ maxLen) (m4 : n4 ≤ maxLen) :
    Calls Try.prog 17 #[.agg #[.slice A1 n1 c1, .slice A2 n2 c2], .agg #[.slice A3 n3 c3, .slice A4 n4 c4]] w fun e w' => e = .returned (.bool b) ∧ Below w.heap.size w w' :=
  (specCovers_any n1 c1 n2 c2 n3 c3 n4 c4 lo1 lo2 lo3 lo4 A1 A2 A3 A4 x1 x2 x3 x4 w h1 h2 h3 h4 m1 m2 m3 m4).mono fun _ _ h => ⟨by rw [h.1, hb], h.2⟩
theorem implSameRects_be (n1 c1 n2 c2 n3 c3 n4 c4 lo1 lo2 lo3 lo4 : Nat) (A1 A2 A3 A4 : Option Addr) (x1 x2 x3 x4 : List Int) (w : World) {b : Bool} (hb : sameF x1 x2 x3 x4 = b) (h1 : Ints w lo1 A1 n1 x1) (h2 : Ints w lo2 A2 n2 x2) (h3 : Ints w lo3 A3 n3 x3) (h4 : Ints w lo4 A4 n4 x4) (m1 : n1 ≤ maxLen) (m2 : n2 ≤ maxLen) (m3 : n3 ≤ maxLen) (m4 : n4 ≤ maxLen) :
    Calls Try.prog 19 #[.agg #[.slice A1 n1 c1, .slice A2 n2 c2], .agg #[.slice A3 n3 c3, .slice A4 n4 c4]] w fun e w' => e = .returned (.bool b) ∧ Below w.heap.size w w' :=
  (implSameRects_any n1 c1 n2 c2 n3 c3 n4 c4 lo1 lo2 lo3 lo4 A1 A2 A3 A4 x1 x2 x3 x4 w h1 h2 h3 h4 m1 m2 m3 m4).mono fun _ _ h => ⟨by rw [h.1, hb], h.2⟩
theorem implRectFault_be (d : Int) (lo n c lo' n' c' : Nat) (A A' : Option Addr) (xs ys : List Int) (w : World) {v : Int} (hv : rf xs ys d = v) (hx : Ints w lo A n xs) (hy : Ints w lo' A' n' ys) (hn : n ≤ maxLen) (hn' : n' ≤ maxLen) :
    Calls Try.prog 18 #[.agg #[.slice A n c, .slice A' n' c'], .int .i64 d] w fun e w' => e = .returned (.int .i64 v) ∧ Below w.heap.size w w' :=
  (implRectFault_any d lo n c lo' n' c' A A' xs ys w hx hy hn hn').mono fun _ _ h => ⟨by rw [h.1, hv], h.2⟩
theorem implUnionOf_no (n1 c1 n2 c2 n3 c3 n4 c4 lo1 lo2 lo3 lo4 : Nat) (A1 A2 A3 A4 : Option Addr) (x1 x2 x3 x4 : List Int) (w : World) {cd : Int} (hc : rf2 x1 x2 x3 x4 = cd) (h0 : cd ≠ 0) (h1 : Ints w lo1 A1 n1 x1) (h2 : Ints w lo2 A2 n2 x2) (h3 : Ints w lo3 A3 n3 x3) (h4 : Ints w lo4 A4 n4 x4) (m1 : n1 ≤ maxLen) (m2 : n2 ≤ maxLen) (m3 : n3 ≤ maxLen) (m4 : n4 ≤ maxLen) :
    Calls Try.prog 11 #[.agg #[.slice A1 n1 c1, .slice A2 n2 c2], .agg #[.slice A3 n3 c3, .slice A4 n4 c4]] w fun e w' => e = .returned (.agg #[.int .i64 cd, .slice none 0 0, .slice none 0 0]) ∧ Below w.heap.size w w' :=
  (implUnionOf_any n1 c1 n2 c2 n3 c3 n4 c4 lo1 lo2 lo3 lo4 A1 A2 A3 A4 x1 x2 x3 x4 w h1 h2 h3 h4 m1 m2 m3 m4).mono fun _ _ h => ⟨by rw [h.2.1 (by rw [hc]; exact h0), hc], h.2.2⟩
theorem specUnionOf_code (n1 c1 n2 c2 n3 c3 n4 c4 lo1 lo2 lo3 lo4 : Nat) (A1 A2 A3 A4 : Option Addr) (x1 x2 x3 x4 : List Int) (w : World) {cd : Int} (hc : rf2 x1 x2 x3 x4 = cd) (h1 : Ints w lo1 A1 n1 x1) (h2 : Ints w lo2 A2 n2 x2) (h3 : Ints w lo3 A3 n3 x3) (h4 : Ints w lo4 A4 n4 x4) (m1 : n1 ≤ maxLen) (m2 : n2 ≤ maxLen) (m3 : n3 ≤ maxLen) (m4 : n4 ≤ maxLen) :
    Calls Try.prog 13 #[.agg #[.slice A1 n1 c1, .slice A2 n2 c2], .agg #[.slice A3 n3 c3, .slice A4 n4 c4]] w fun e w' => ∃ u1 u2, e = .returned (.agg #[.int .i64 cd, u1, u2]) ∧ Below w.heap.size w w' := by
  refine (specUnionOf_any n1 c1 n2 c2 n3 c3 n4 c4 lo1 lo2 lo3 lo4 A1 A2 A3 A4 x1 x2 x3 x4 w h1 h2 h3 h4 m1 m2 m3 m4).mono fun e w' h => ?_
  by_cases h0 : rf2 x1 x2 x3 x4 = 0
  · obtain ⟨b, o, c, b', o', c', q1, _⟩ := h.1 h0
    exact ⟨_, _, by rw [q1, ← hc, h0], h.2.2⟩
  · exact ⟨_, _, by rw [h.2.1 h0, hc], h.2.2⟩
theorem meets_no {x1 x2 x3 x4 : List Int} (h : rf2 x1 x2 x3 x4 ≠ 0) : meetsF x1 x2 x3 x4 = false := by unfold meetsF; rw [decide_eq_false h]; rfl
theorem boxes_say {x1 x2 x3 x4 : List Int} (h0 : rf2 x1 x2 x3 x4 = 0) : rf2 x3 x4 x1 x2 = 0 ∧ coversF (mins x1 x3) (maxs x2 x4) x1 x2 = true ∧ coversF (mins x1 x3) (maxs x2 x4) x3 x4 = true ∧ rf (mins x1 x3) (maxs x2 x4) (x1.length : Int) = 0 ∧ sameF (mins x3 x1) (maxs x4 x2) (mins x1 x3) (maxs x2 x4) = true ∧ meetsF x3 x4 x1 x2 = meetsF x1 x2 x3 x4 ∧ (coversF x1 x2 x3 x4 = true → meetsF x1 x2 x3 x4 = true ∧ sameF (mins x1 x3) (maxs x2 x4) x1 x2 = true) := by
  obtain ⟨n, h, h'⟩ := rights h0
  refine ⟨rf2_comm h0, union_covers_a h h', union_covers_b h h', by rw [h.len]; exact rf_of_right (union_right h h'), ?_, meetsF_comm h' h, fun hc => ?_⟩
  · unfold sameF; rw [mins_comm, maxs_comm]; simp
  · obtain ⟨a, b, c⟩ := covers_meets hc
    exact ⟨a, by unfold sameF; rw [b, c]; simp⟩

set_option maxRecDepth 100000 in
set_option maxHeartbeats 32000000 in
theorem lawBoxes_walk (n0 c0 : Nat) (A0 : Option Addr) (zs : List Int) (w : World) (hz : Bys w w.heap.size A0 n0 zs) :
    Calls Try.prog 3 #[.slice A0 n0 c0] w fun e w' => e = .returned (.bool true) ∧ Below w.heap.size w w' := by
  have HZ := Lib.hid hz
  clear hz
  have B := Lib.hid (Below.refl w.heap.size w)
  have fld0 : ∀ (x : Int) (u1 u2 : Value) (X : World), (Instr.field 30 (.agg #[.int .i64 x, u1, u2]) 0).run Try.prog X = .ok (.int .i64 x) X := fun _ _ _ _ => by kernel_rfl
  have fld2 : ∀ (x : Int) (u1 u2 : Value) (X : World), (Instr.field 30 (.agg #[.int .i64 x, u1, u2]) 1).run Try.prog X = .ok (.agg #[u1, u2]) X := fun _ _ _ _ => by kernel_rfl
  go_enter Try.func3, Try.ntmps3
  go_wp2_with fail
  refine (lwBig_any n0 c0 A0 w).mono ?_
  rintro e W0 ⟨rfl, rfl⟩
  by_cases hbig : (1048576 : Int) < n0
  · have hb : decide ((1048576 : Int) < n0) = true := by simpa using hbig
    rw [hb]
    go_wp2
    go_ret
    exact ⟨rfl, B.out⟩
  have hb : decide ((1048576 : Int) < n0) = false := by simpa using hbig
  rw [hb]
  have hn0 : n0 ≤ 1048576 := by omega
  go_wp2_with fail
  refine (drawUnionOf_any w.heap.size n0 c0 A0 zs w HZ.out (Nat.le_refl _) hn0).mono ?_
  rintro e W1 ⟨A, A', P, P', n, c, n', c', m, d, m', d', xs, ys, us, vs, rfl, XI, PI, b1⟩
  have I_x := Lib.hid XI
  have I_p := Lib.hid PI
  have mn := XI.n1
  have mn' := XI.n2
  have mp := PI.n1
  have mp' := PI.n2
  have HLX : Hid (xs.length = n) := XI.X.1
  clear XI PI
  replace HZ := Lib.hid (HZ.out.kept b1 B.out.size)
  replace B := Lib.hid (B.out.trans (b1.mono B.out.size))
  clear b1
  obtain ⟨cd, hcd'⟩ : ∃ cd, rf2 xs ys us vs = cd := ⟨_, rfl⟩
  have HC := Lib.hid hcd'
  clear hcd'
  obtain ⟨mt, hmt⟩ : ∃ b, meetsF xs ys us vs = b := ⟨_, rfl⟩
  have HM := Lib.hid hmt
  clear hmt
  have b_a := below_alloc W1 (.cells #[.slice A n c, .slice A' n' c'] 26)
  have N_a := Lib.hid (Lies.new W1 26 #[.slice A n c, .slice A' n' c'])
  replace I_x := Lib.hid (I_x.out.kept b_a)
  replace I_p := Lib.hid (I_p.out.kept b_a)
  replace HZ := Lib.hid (HZ.out.kept b_a B.out.size)
  replace B := Lib.hid (B.out.trans (b_a.mono B.out.size))
  clear b_a
  have L_a := Lib.hid N_a.out
  clear N_a
  have b_b := below_alloc (W1.alloc (.cells #[.slice A n c, .slice A' n' c'] 26)) (.cells #[.slice P m d, .slice P' m' d'] 26)
  have N_b := Lib.hid (Lies.laid2 W1 (.cells #[.slice A n c, .slice A' n' c'] 26) 26 #[.slice P m d, .slice P' m' d'])
  replace L_a := Lib.hid (L_a.out.kept b_b L_a.out.inside)
  replace I_x := Lib.hid (I_x.out.kept b_b)
  replace I_p := Lib.hid (I_p.out.kept b_b)
  replace HZ := Lib.hid (HZ.out.kept b_b B.out.size)
  replace B := Lib.hid (B.out.trans (b_b.mono B.out.size))
  clear b_b
  have L_b := Lib.hid N_b.out
  clear N_b
  go_upto_region 4 with fail
  generalize hW : ((W1.alloc (.cells #[.slice A n c, .slice A' n' c'] 26)).alloc (.cells #[.slice P m d, .slice P' m' d'] 26)) = W2 at *
  clear hW
  by_cases hcd : cd = 0
  · subst hcd
    have h0 := HC.out
    obtain ⟨p1, p2, p3, p4, p5, p6, p7⟩ := boxes_say h0
    rw [HLX.out] at p4
    rw [HM.out] at p6 p7
    have P1 := Lib.hid p1
    have P2 := Lib.hid p2
    have P3 := Lib.hid p3
    have P4 := Lib.hid p4
    have P5 := Lib.hid p5
    have P6 := Lib.hid p6
    have P7 := Lib.hid p7
    clear p1 p2 p3 p4 p5 p6 p7 h0
    have c_a0 : W2.cell? ⟨W1.heap.size, 0, none⟩ = some (.slice A n c) := L_a.out.cell 0
    have c_a1 : W2.cell? ⟨W1.heap.size, 1, none⟩ = some (.slice A' n' c') := L_a.out.cell 1
    have c_b0 : W2.cell? ⟨W1.heap.size + 1, 0, none⟩ = some (.slice P m d) := L_b.out.cell 0
    have c_b1 : W2.cell? ⟨W1.heap.size + 1, 1, none⟩ = some (.slice P' m' d') := L_b.out.cell 1
    go_wp2_with fail
    clear c_a0 c_a1 c_b0 c_b1
    refine (implUnionOf_is n c n' c' m d m' d' _ _ _ _ A A' P P' xs ys us vs _ HC.out (I_x.out).X (I_x.out).Y (I_p.out).X (I_p.out).Y (Nat.le_trans mn.2 (by decide)) (Nat.le_trans mn'.2 (by decide)) (Nat.le_trans mp.2 (by decide)) (Nat.le_trans mp'.2 (by decide)) mn.1).mono ?_
    rintro e W3 ⟨g, g', rfl, FI, b3⟩
    have I_f := Lib.hid FI
    clear FI
    replace L_a := Lib.hid (L_a.out.kept b3 L_a.out.inside)
    replace L_b := Lib.hid (L_b.out.kept b3 L_b.out.inside)
    replace I_x := Lib.hid (I_x.out.kept b3)
    replace I_p := Lib.hid (I_p.out.kept b3)
    replace HZ := Lib.hid (HZ.out.kept b3 B.out.size)
    replace B := Lib.hid (B.out.trans (b3.mono B.out.size))
    clear b3
    have b_u := below_alloc W3 (.cells #[.int .i64 0, .slice (some ⟨g, 0, none⟩) n n, .slice (some ⟨g', 0, none⟩) n n] 30)
    have N_u := Lib.hid (Lies.new W3 30 #[.int .i64 0, .slice (some ⟨g, 0, none⟩) n n, .slice (some ⟨g', 0, none⟩) n n])
    replace L_a := Lib.hid (L_a.out.kept b_u L_a.out.inside)
    replace L_b := Lib.hid (L_b.out.kept b_u L_b.out.inside)
    replace I_x := Lib.hid (I_x.out.kept b_u)
    replace I_p := Lib.hid (I_p.out.kept b_u)
    replace I_f := Lib.hid (I_f.out.kept b_u)
    replace HZ := Lib.hid (HZ.out.kept b_u B.out.size)
    replace B := Lib.hid (B.out.trans (b_u.mono B.out.size))
    clear b_u
    have L_u := Lib.hid N_u.out
    clear N_u
    go_wp2_with fail
    refine (drawCovers_any w.heap.size n0 c0 A0 zs _ HZ.out B.out.size hn0).mono ?_
    rintro e W4 ⟨U, U', V, V', q, e1, q', e2, v, e3, v', e4, ks, ks', ls, ls', rfl, UI, VI, b4⟩
    have I_u := Lib.hid UI
    have I_v := Lib.hid VI
    have mu := UI.n1
    have mu' := UI.n2
    have mv := VI.n1
    have mv' := VI.n2
    clear UI VI
    replace L_a := Lib.hid (L_a.out.kept b4 L_a.out.inside)
    replace L_b := Lib.hid (L_b.out.kept b4 L_b.out.inside)
    replace L_u := Lib.hid (L_u.out.kept b4 L_u.out.inside)
    replace I_x := Lib.hid (I_x.out.kept b4)
    replace I_p := Lib.hid (I_p.out.kept b4)
    replace I_f := Lib.hid (I_f.out.kept b4)
    replace HZ := Lib.hid (HZ.out.kept b4 B.out.size)
    replace B := Lib.hid (B.out.trans (b4.mono B.out.size))
    clear b4
    clear HZ
    obtain ⟨cv2, hcv2⟩ : ∃ b, coversF ks ks' ls ls' = b := ⟨_, rfl⟩
    have HV := Lib.hid hcv2
    clear hcv2
    have b_x := below_alloc W4 (.cells #[.slice U q e1, .slice U' q' e2] 26)
    have N_x := Lib.hid (Lies.new W4 26 #[.slice U q e1, .slice U' q' e2])
    replace L_a := Lib.hid (L_a.out.kept b_x L_a.out.inside)
    replace L_b := Lib.hid (L_b.out.kept b_x L_b.out.inside)
    replace L_u := Lib.hid (L_u.out.kept b_x L_u.out.inside)
    replace I_x := Lib.hid (I_x.out.kept b_x)
    replace I_p := Lib.hid (I_p.out.kept b_x)
    replace I_f := Lib.hid (I_f.out.kept b_x)
    replace I_u := Lib.hid (I_u.out.kept b_x)
    replace I_v := Lib.hid (I_v.out.kept b_x)
    replace B := Lib.hid (B.out.trans (b_x.mono B.out.size))
    clear b_x
    have L_x := Lib.hid N_x.out
    clear N_x
    have b_y := below_alloc (W4.alloc (.cells #[.slice U q e1, .slice U' q' e2] 26)) (.cells #[.slice V v e3, .slice V' v' e4] 26)
    have N_y := Lib.hid (Lies.laid2 W4 (.cells #[.slice U q e1, .slice U' q' e2] 26) 26 #[.slice V v e3, .slice V' v' e4])
    replace L_a := Lib.hid (L_a.out.kept b_y L_a.out.inside)
    replace L_b := Lib.hid (L_b.out.kept b_y L_b.out.inside)
    replace L_u := Lib.hid (L_u.out.kept b_y L_u.out.inside)
    replace L_x := Lib.hid (L_x.out.kept b_y L_x.out.inside)
    replace I_x := Lib.hid (I_x.out.kept b_y)
    replace I_p := Lib.hid (I_p.out.kept b_y)
    replace I_f := Lib.hid (I_f.out.kept b_y)
    replace I_u := Lib.hid (I_u.out.kept b_y)
    replace I_v := Lib.hid (I_v.out.kept b_y)
    replace B := Lib.hid (B.out.trans (b_y.mono B.out.size))
    clear b_y
    have L_y := Lib.hid N_y.out
    clear N_y
    go_upto_region 6 with fail
    generalize hW : ((W4.alloc (.cells #[.slice U q e1, .slice U' q' e2] 26)).alloc (.cells #[.slice V v e3, .slice V' v' e4] 26)) = W5 at *
    clear hW
    have c_a0 : W5.cell? ⟨W1.heap.size, 0, none⟩ = some (.slice A n c) := L_a.out.cell 0
    have c_a1 : W5.cell? ⟨W1.heap.size, 1, none⟩ = some (.slice A' n' c') := L_a.out.cell 1
    have c_b0 : W5.cell? ⟨W1.heap.size + 1, 0, none⟩ = some (.slice P m d) := L_b.out.cell 0
    have c_b1 : W5.cell? ⟨W1.heap.size + 1, 1, none⟩ = some (.slice P' m' d') := L_b.out.cell 1
    have c_u0 : W5.cell? ⟨W3.heap.size, 0, none⟩ = some (.int .i64 0) := L_u.out.cell 0
    have c_u1 : W5.cell? ⟨W3.heap.size, 1, none⟩ = some (.slice (some ⟨g, 0, none⟩) n n) := L_u.out.cell 1
    have c_u2 : W5.cell? ⟨W3.heap.size, 2, none⟩ = some (.slice (some ⟨g', 0, none⟩) n n) := L_u.out.cell 2
    have c_x0 : W5.cell? ⟨W4.heap.size, 0, none⟩ = some (.slice U q e1) := L_x.out.cell 0
    have c_x1 : W5.cell? ⟨W4.heap.size, 1, none⟩ = some (.slice U' q' e2) := L_x.out.cell 1
    have c_y0 : W5.cell? ⟨W4.heap.size + 1, 0, none⟩ = some (.slice V v e3) := L_y.out.cell 0
    have c_y1 : W5.cell? ⟨W4.heap.size + 1, 1, none⟩ = some (.slice V' v' e4) := L_y.out.cell 1
    go_upto_region 6 with fail
    refine wp_region_last 25 (fun w' => w'.cell? ⟨W1.heap.size, 0, none⟩ = some (.slice A n c) ∧ w'.cell? ⟨W1.heap.size, 1, none⟩ = some (.slice A' n' c') ∧ w'.cell? ⟨W1.heap.size + 1, 0, none⟩ = some (.slice P m d) ∧ w'.cell? ⟨W1.heap.size + 1, 1, none⟩ = some (.slice P' m' d') ∧ w'.cell? ⟨W3.heap.size, 0, none⟩ = some (.int .i64 0) ∧ w'.cell? ⟨W3.heap.size, 1, none⟩ = some (.slice (some ⟨g, 0, none⟩) n n) ∧ w'.cell? ⟨W3.heap.size, 2, none⟩ = some (.slice (some ⟨g', 0, none⟩) n n) ∧ w'.cell? ⟨W4.heap.size, 0, none⟩ = some (.slice U q e1) ∧ w'.cell? ⟨W4.heap.size, 1, none⟩ = some (.slice U' q' e2) ∧ w'.cell? ⟨W4.heap.size + 1, 0, none⟩ = some (.slice V v e3) ∧ w'.cell? ⟨W4.heap.size + 1, 1, none⟩ = some (.slice V' v' e4)) (by kernel_rfl) (⟨L_a.out.drew.cell 0, L_a.out.drew.cell 1, L_b.out.drew.cell 0, L_b.out.drew.cell 1, L_u.out.drew.cell 0, L_u.out.drew.cell 1, L_u.out.drew.cell 2, L_x.out.drew.cell 0, L_x.out.drew.cell 1, L_y.out.drew.cell 0, L_y.out.drew.cell 1⟩) (fun hHeld => ?_)
    clear c_a0 c_a1 c_b0 c_b1 c_u0 c_u1 c_u2 c_x0 c_x1 c_y0 c_y1
    apply wpAnyL_take (i := 0)
    · simp only [List.getElem?_toArray, List.getElem?_cons_succ, List.getElem?_cons_zero]; exact rfl
    refine ⟨⟨by kernel_rfl, by kernel_rfl, by kernel_rfl, by kernel_rfl, by kernel_rfl⟩, fun _ _ _ h => h, ?_, hHeld, ?_⟩
    · intro w hSw; (try dsimp only at hSw); go_simp; all_goals (with_reducible rfl)
    (try simp only [Act.put, List.setIfInBounds_toArray, List.set_cons_zero, List.set_cons_succ])
    apply wpAnyL_take (i := 1)
    · simp only [List.getElem?_toArray, List.getElem?_cons_succ, List.getElem?_cons_zero]; exact rfl
    refine ⟨⟨by kernel_rfl, by kernel_rfl, by kernel_rfl, by kernel_rfl, by kernel_rfl⟩, fun _ _ _ h => h, ?_, hHeld, ?_⟩
    · intro w hSw; (try dsimp only at hSw); go_simp; all_goals (with_reducible rfl)
    (try simp only [Act.put, List.setIfInBounds_toArray, List.set_cons_zero, List.set_cons_succ])
    apply wpAnyL_take (i := 2)
    · simp only [List.getElem?_toArray, List.getElem?_cons_succ, List.getElem?_cons_zero]; exact rfl
    refine ⟨⟨by kernel_rfl, by kernel_rfl, by kernel_rfl, by kernel_rfl, by kernel_rfl⟩, fun _ _ _ h => h, ?_, hHeld, ?_⟩
    · intro w hSw; (try dsimp only at hSw); go_simp; all_goals (with_reducible rfl)
    (try simp only [Act.put, List.setIfInBounds_toArray, List.set_cons_zero, List.set_cons_succ])
    apply wpAnyL_take (i := 3)
    · simp only [List.getElem?_toArray, List.getElem?_cons_succ, List.getElem?_cons_zero]; exact rfl
    refine ⟨⟨by kernel_rfl, by kernel_rfl, by kernel_rfl, by kernel_rfl, by kernel_rfl⟩, fun _ _ _ h => h, ?_, hHeld, ?_⟩
    · intro w hSw; (try dsimp only at hSw); go_simp; all_goals (with_reducible rfl)
    (try simp only [Act.put, List.setIfInBounds_toArray, List.set_cons_zero, List.set_cons_succ])
    apply wpAnyL_one (i := 4)
    · simp only [List.getElem?_toArray, List.getElem?_cons_succ, List.getElem?_cons_zero]; exact rfl
    refine ⟨by kernel_rfl, fun K hK => ?_⟩
    go_simp
    go_at_call 13
    refine (specUnionOf_code n c n' c' m d m' d' _ _ _ _ A A' P P' xs ys us vs _ HC.out (I_x.out.drew).X (I_x.out.drew).Y (I_p.out.drew).X (I_p.out.drew).Y (Nat.le_trans mn.2 (by decide)) (Nat.le_trans mn'.2 (by decide)) (Nat.le_trans mp.2 (by decide)) (Nat.le_trans mp'.2 (by decide))).mono ?_
    rintro e W5r1 ⟨u1, u2, rfl, br1d⟩
    have br1 := below_drawn br1d
    clear br1d
    replace L_a := Lib.hid (L_a.out.kept br1 L_a.out.inside)
    replace L_b := Lib.hid (L_b.out.kept br1 L_b.out.inside)
    replace L_u := Lib.hid (L_u.out.kept br1 L_u.out.inside)
    replace L_x := Lib.hid (L_x.out.kept br1 L_x.out.inside)
    replace L_y := Lib.hid (L_y.out.kept br1 L_y.out.inside)
    replace I_x := Lib.hid (I_x.out.kept br1)
    replace I_p := Lib.hid (I_p.out.kept br1)
    replace I_f := Lib.hid (I_f.out.kept br1)
    replace I_u := Lib.hid (I_u.out.kept br1)
    replace I_v := Lib.hid (I_v.out.kept br1)
    replace B := Lib.hid (B.out.trans (br1.mono B.out.size))
    clear br1
    have k_1 : W5r1.cell? ⟨W1.heap.size, 0, none⟩ = some (.slice A n c) ∧ W5r1.cell? ⟨W1.heap.size, 1, none⟩ = some (.slice A' n' c') ∧ W5r1.cell? ⟨W1.heap.size + 1, 0, none⟩ = some (.slice P m d) ∧ W5r1.cell? ⟨W1.heap.size + 1, 1, none⟩ = some (.slice P' m' d') ∧ W5r1.cell? ⟨W3.heap.size, 0, none⟩ = some (.int .i64 0) ∧ W5r1.cell? ⟨W3.heap.size, 1, none⟩ = some (.slice (some ⟨g, 0, none⟩) n n) ∧ W5r1.cell? ⟨W3.heap.size, 2, none⟩ = some (.slice (some ⟨g', 0, none⟩) n n) ∧ W5r1.cell? ⟨W4.heap.size, 0, none⟩ = some (.slice U q e1) ∧ W5r1.cell? ⟨W4.heap.size, 1, none⟩ = some (.slice U' q' e2) ∧ W5r1.cell? ⟨W4.heap.size + 1, 0, none⟩ = some (.slice V v e3) ∧ W5r1.cell? ⟨W4.heap.size + 1, 1, none⟩ = some (.slice V' v' e4) := ⟨L_a.out.cell 0, L_a.out.cell 1, L_b.out.cell 0, L_b.out.cell 1, L_u.out.cell 0, L_u.out.cell 1, L_u.out.cell 2, L_x.out.cell 0, L_x.out.cell 1, L_y.out.cell 0, L_y.out.cell 1⟩
    refine hK.out _ _ (fun _ => k_1) ?_
    clear hK K hHeld
    (try simp only [Act.put, List.setIfInBounds_toArray, List.set_cons_zero, List.set_cons_succ])
    apply wpAnyL_take (i := 5)
    · simp only [List.getElem?_toArray, List.getElem?_cons_succ, List.getElem?_cons_zero]; exact rfl
    refine ⟨⟨by kernel_rfl, by kernel_rfl, by kernel_rfl, by kernel_rfl, by kernel_rfl⟩, fun _ _ _ h => h, ?_, k_1, ?_⟩
    · intro w hSw; (try dsimp only at hSw); go_simp; all_goals (with_reducible rfl)
    (try simp only [Act.put, List.setIfInBounds_toArray, List.set_cons_zero, List.set_cons_succ])
    apply wpAnyL_take (i := 6)
    · simp only [List.getElem?_toArray, List.getElem?_cons_succ, List.getElem?_cons_zero]; exact rfl
    refine ⟨⟨by kernel_rfl, by kernel_rfl, by kernel_rfl, by kernel_rfl, by kernel_rfl⟩, fun _ _ _ h => h, ?_, k_1, ?_⟩
    · intro w hSw; (try dsimp only at hSw); go_simp; all_goals (with_reducible rfl)
    (try simp only [Act.put, List.setIfInBounds_toArray, List.set_cons_zero, List.set_cons_succ])
    apply wpAnyL_take (i := 7)
    · simp only [List.getElem?_toArray, List.getElem?_cons_succ, List.getElem?_cons_zero]; exact rfl
    refine ⟨⟨by kernel_rfl, by kernel_rfl, by kernel_rfl, by kernel_rfl, by kernel_rfl⟩, fun _ _ _ h => h, ?_, k_1, ?_⟩
    · intro w hSw; (try dsimp only at hSw); go_simp; all_goals (with_reducible rfl)
    (try simp only [Act.put, List.setIfInBounds_toArray, List.set_cons_zero, List.set_cons_succ])
    apply wpAnyL_take (i := 8)
    · simp only [List.getElem?_toArray, List.getElem?_cons_succ, List.getElem?_cons_zero]; exact rfl
    refine ⟨⟨by kernel_rfl, by kernel_rfl, by kernel_rfl, by kernel_rfl, by kernel_rfl⟩, fun _ _ _ h => h, ?_, k_1, ?_⟩
    · intro w hSw; (try dsimp only at hSw); go_simp; all_goals (with_reducible rfl)
    (try simp only [Act.put, List.setIfInBounds_toArray, List.set_cons_zero, List.set_cons_succ])
    apply wpAnyL_take (i := 9)
    · simp only [List.getElem?_toArray, List.getElem?_cons_succ, List.getElem?_cons_zero]; exact rfl
    refine ⟨⟨by kernel_rfl, by kernel_rfl, by kernel_rfl, by kernel_rfl, by kernel_rfl⟩, fun _ _ _ h => h, ?_, k_1, ?_⟩
    · intro w hSw; (try dsimp only at hSw); go_simp; all_goals (with_reducible rfl)
    (try simp only [Act.put, List.setIfInBounds_toArray, List.set_cons_zero, List.set_cons_succ])
    apply wpAnyL_take (i := 11)
    · simp only [List.getElem?_toArray, List.getElem?_cons_succ, List.getElem?_cons_zero]; exact rfl
    refine ⟨⟨by kernel_rfl, by kernel_rfl, by kernel_rfl, by kernel_rfl, by kernel_rfl⟩, fun _ _ _ h => h, ?_, k_1, ?_⟩
    · intro w hSw; (try dsimp only at hSw); go_simp; all_goals (with_reducible rfl)
    (try simp only [Act.put, List.setIfInBounds_toArray, List.set_cons_zero, List.set_cons_succ])
    apply wpAnyL_take (i := 12)
    · simp only [List.getElem?_toArray, List.getElem?_cons_succ, List.getElem?_cons_zero]; exact rfl
    refine ⟨⟨by kernel_rfl, by kernel_rfl, by kernel_rfl, by kernel_rfl, by kernel_rfl⟩, fun _ _ _ h => h, ?_, k_1, ?_⟩
    · intro w hSw; (try dsimp only at hSw); go_simp; all_goals (with_reducible rfl)
    (try simp only [Act.put, List.setIfInBounds_toArray, List.set_cons_zero, List.set_cons_succ])
    apply wpAnyL_one (i := 10)
    · simp only [List.getElem?_toArray, List.getElem?_cons_succ, List.getElem?_cons_zero]; exact rfl
    refine ⟨by kernel_rfl, fun K hK => ?_⟩
    go_simp
    go_at_call 14
    refine (implMeets_be n c n' c' m d m' d' _ _ _ _ A A' P P' xs ys us vs _ HM.out (I_x.out).X (I_x.out).Y (I_p.out).X (I_p.out).Y (Nat.le_trans mn.2 (by decide)) (Nat.le_trans mn'.2 (by decide)) (Nat.le_trans mp.2 (by decide)) (Nat.le_trans mp'.2 (by decide))).mono ?_
    rintro e W5r2 ⟨rfl, br2⟩
    replace L_a := Lib.hid (L_a.out.kept br2 L_a.out.inside)
    replace L_b := Lib.hid (L_b.out.kept br2 L_b.out.inside)
    replace L_u := Lib.hid (L_u.out.kept br2 L_u.out.inside)
    replace L_x := Lib.hid (L_x.out.kept br2 L_x.out.inside)
    replace L_y := Lib.hid (L_y.out.kept br2 L_y.out.inside)
    replace I_x := Lib.hid (I_x.out.kept br2)
    replace I_p := Lib.hid (I_p.out.kept br2)
    replace I_f := Lib.hid (I_f.out.kept br2)
    replace I_u := Lib.hid (I_u.out.kept br2)
    replace I_v := Lib.hid (I_v.out.kept br2)
    replace B := Lib.hid (B.out.trans (br2.mono B.out.size))
    clear br2
    have k_2 : W5r2.cell? ⟨W1.heap.size, 0, none⟩ = some (.slice A n c) ∧ W5r2.cell? ⟨W1.heap.size, 1, none⟩ = some (.slice A' n' c') ∧ W5r2.cell? ⟨W1.heap.size + 1, 0, none⟩ = some (.slice P m d) ∧ W5r2.cell? ⟨W1.heap.size + 1, 1, none⟩ = some (.slice P' m' d') ∧ W5r2.cell? ⟨W3.heap.size, 0, none⟩ = some (.int .i64 0) ∧ W5r2.cell? ⟨W3.heap.size, 1, none⟩ = some (.slice (some ⟨g, 0, none⟩) n n) ∧ W5r2.cell? ⟨W3.heap.size, 2, none⟩ = some (.slice (some ⟨g', 0, none⟩) n n) ∧ W5r2.cell? ⟨W4.heap.size, 0, none⟩ = some (.slice U q e1) ∧ W5r2.cell? ⟨W4.heap.size, 1, none⟩ = some (.slice U' q' e2) ∧ W5r2.cell? ⟨W4.heap.size + 1, 0, none⟩ = some (.slice V v e3) ∧ W5r2.cell? ⟨W4.heap.size + 1, 1, none⟩ = some (.slice V' v' e4) := ⟨L_a.out.cell 0, L_a.out.cell 1, L_b.out.cell 0, L_b.out.cell 1, L_u.out.cell 0, L_u.out.cell 1, L_u.out.cell 2, L_x.out.cell 0, L_x.out.cell 1, L_y.out.cell 0, L_y.out.cell 1⟩
    refine hK.out _ _ (fun _ => k_2) ?_
    clear hK K k_1
    (try simp only [Act.put, List.setIfInBounds_toArray, List.set_cons_zero, List.set_cons_succ])
    apply wpAnyL_one (i := 13)
    · simp only [List.getElem?_toArray, List.getElem?_cons_succ, List.getElem?_cons_zero]; exact rfl
    refine ⟨by kernel_rfl, fun K hK => ?_⟩
    go_simp
    go_at_call 15
    refine (specMeets_be n c n' c' m d m' d' _ _ _ _ A A' P P' xs ys us vs _ HM.out (I_x.out).X (I_x.out).Y (I_p.out).X (I_p.out).Y (Nat.le_trans mn.2 (by decide)) (Nat.le_trans mn'.2 (by decide)) (Nat.le_trans mp.2 (by decide)) (Nat.le_trans mp'.2 (by decide))).mono ?_
    rintro e W5r3 ⟨rfl, br3⟩
    replace L_a := Lib.hid (L_a.out.kept br3 L_a.out.inside)
    replace L_b := Lib.hid (L_b.out.kept br3 L_b.out.inside)
    replace L_u := Lib.hid (L_u.out.kept br3 L_u.out.inside)
    replace L_x := Lib.hid (L_x.out.kept br3 L_x.out.inside)
    replace L_y := Lib.hid (L_y.out.kept br3 L_y.out.inside)
    replace I_x := Lib.hid (I_x.out.kept br3)
    replace I_p := Lib.hid (I_p.out.kept br3)
    replace I_f := Lib.hid (I_f.out.kept br3)
    replace I_u := Lib.hid (I_u.out.kept br3)
    replace I_v := Lib.hid (I_v.out.kept br3)
    replace B := Lib.hid (B.out.trans (br3.mono B.out.size))
    clear br3
    have k_3 : W5r3.cell? ⟨W1.heap.size, 0, none⟩ = some (.slice A n c) ∧ W5r3.cell? ⟨W1.heap.size, 1, none⟩ = some (.slice A' n' c') ∧ W5r3.cell? ⟨W1.heap.size + 1, 0, none⟩ = some (.slice P m d) ∧ W5r3.cell? ⟨W1.heap.size + 1, 1, none⟩ = some (.slice P' m' d') ∧ W5r3.cell? ⟨W3.heap.size, 0, none⟩ = some (.int .i64 0) ∧ W5r3.cell? ⟨W3.heap.size, 1, none⟩ = some (.slice (some ⟨g, 0, none⟩) n n) ∧ W5r3.cell? ⟨W3.heap.size, 2, none⟩ = some (.slice (some ⟨g', 0, none⟩) n n) ∧ W5r3.cell? ⟨W4.heap.size, 0, none⟩ = some (.slice U q e1) ∧ W5r3.cell? ⟨W4.heap.size, 1, none⟩ = some (.slice U' q' e2) ∧ W5r3.cell? ⟨W4.heap.size + 1, 0, none⟩ = some (.slice V v e3) ∧ W5r3.cell? ⟨W4.heap.size + 1, 1, none⟩ = some (.slice V' v' e4) := ⟨L_a.out.cell 0, L_a.out.cell 1, L_b.out.cell 0, L_b.out.cell 1, L_u.out.cell 0, L_u.out.cell 1, L_u.out.cell 2, L_x.out.cell 0, L_x.out.cell 1, L_y.out.cell 0, L_y.out.cell 1⟩
    refine hK.out _ _ (fun _ => k_3) ?_
    clear hK K k_2
    (try simp only [Act.put, List.setIfInBounds_toArray, List.set_cons_zero, List.set_cons_succ])
    apply wpAnyL_take (i := 14)
    · simp only [List.getElem?_toArray, List.getElem?_cons_succ, List.getElem?_cons_zero]; exact rfl
    refine ⟨⟨by kernel_rfl, by kernel_rfl, by kernel_rfl, by kernel_rfl, by kernel_rfl⟩, fun _ _ _ h => h, ?_, k_3, ?_⟩
    · intro w hSw; (try dsimp only at hSw); go_simp; all_goals (with_reducible rfl)
    (try simp only [Act.put, List.setIfInBounds_toArray, List.set_cons_zero, List.set_cons_succ])
    apply wpAnyL_take (i := 15)
    · simp only [List.getElem?_toArray, List.getElem?_cons_succ, List.getElem?_cons_zero]; exact rfl
    refine ⟨⟨by kernel_rfl, by kernel_rfl, by kernel_rfl, by kernel_rfl, by kernel_rfl⟩, fun _ _ _ h => h, ?_, k_3, ?_⟩
    · intro w hSw; (try dsimp only at hSw); go_simp; all_goals (with_reducible rfl)
    (try simp only [Act.put, List.setIfInBounds_toArray, List.set_cons_zero, List.set_cons_succ])
    apply wpAnyL_take (i := 16)
    · simp only [List.getElem?_toArray, List.getElem?_cons_succ, List.getElem?_cons_zero]; exact rfl
    refine ⟨⟨by kernel_rfl, by kernel_rfl, by kernel_rfl, by kernel_rfl, by kernel_rfl⟩, fun _ _ _ h => h, ?_, k_3, ?_⟩
    · intro w hSw; (try dsimp only at hSw); go_simp; all_goals (with_reducible rfl)
    (try simp only [Act.put, List.setIfInBounds_toArray, List.set_cons_zero, List.set_cons_succ])
    apply wpAnyL_take (i := 17)
    · simp only [List.getElem?_toArray, List.getElem?_cons_succ, List.getElem?_cons_zero]; exact rfl
    refine ⟨⟨by kernel_rfl, by kernel_rfl, by kernel_rfl, by kernel_rfl, by kernel_rfl⟩, fun _ _ _ h => h, ?_, k_3, ?_⟩
    · intro w hSw; (try dsimp only at hSw); go_simp; all_goals (with_reducible rfl)
    (try simp only [Act.put, List.setIfInBounds_toArray, List.set_cons_zero, List.set_cons_succ])
    apply wpAnyL_take (i := 18)
    · simp only [List.getElem?_toArray, List.getElem?_cons_succ, List.getElem?_cons_zero]; exact rfl
    refine ⟨⟨by kernel_rfl, by kernel_rfl, by kernel_rfl, by kernel_rfl, by kernel_rfl⟩, fun _ _ _ h => h, ?_, k_3, ?_⟩
    · intro w hSw; (try dsimp only at hSw); go_simp; all_goals (with_reducible rfl)
    (try simp only [Act.put, List.setIfInBounds_toArray, List.set_cons_zero, List.set_cons_succ])
    apply wpAnyL_take (i := 20)
    · simp only [List.getElem?_toArray, List.getElem?_cons_succ, List.getElem?_cons_zero]; exact rfl
    refine ⟨⟨by kernel_rfl, by kernel_rfl, by kernel_rfl, by kernel_rfl, by kernel_rfl⟩, fun _ _ _ h => h, ?_, k_3, ?_⟩
    · intro w hSw; (try dsimp only at hSw); go_simp; all_goals (with_reducible rfl)
    (try simp only [Act.put, List.setIfInBounds_toArray, List.set_cons_zero, List.set_cons_succ])
    apply wpAnyL_take (i := 21)
    · simp only [List.getElem?_toArray, List.getElem?_cons_succ, List.getElem?_cons_zero]; exact rfl
    refine ⟨⟨by kernel_rfl, by kernel_rfl, by kernel_rfl, by kernel_rfl, by kernel_rfl⟩, fun _ _ _ h => h, ?_, k_3, ?_⟩
    · intro w hSw; (try dsimp only at hSw); go_simp; all_goals (with_reducible rfl)
    (try simp only [Act.put, List.setIfInBounds_toArray, List.set_cons_zero, List.set_cons_succ])
    apply wpAnyL_one (i := 19)
    · simp only [List.getElem?_toArray, List.getElem?_cons_succ, List.getElem?_cons_zero]; exact rfl
    refine ⟨by kernel_rfl, fun K hK => ?_⟩
    go_simp
    go_at_call 16
    refine (implCovers_is q e1 q' e2 v e3 v' e4 _ _ _ _ U U' V V' ks ks' ls ls' _ HV.out (I_u.out).X (I_u.out).Y (I_v.out).X (I_v.out).Y (Nat.le_trans mu.2 (by decide)) (Nat.le_trans mu'.2 (by decide)) (Nat.le_trans mv.2 (by decide)) (Nat.le_trans mv'.2 (by decide))).mono ?_
    rintro e W5r4 ⟨rfl, br4⟩
    replace L_a := Lib.hid (L_a.out.kept br4 L_a.out.inside)
    replace L_b := Lib.hid (L_b.out.kept br4 L_b.out.inside)
    replace L_u := Lib.hid (L_u.out.kept br4 L_u.out.inside)
    replace L_x := Lib.hid (L_x.out.kept br4 L_x.out.inside)
    replace L_y := Lib.hid (L_y.out.kept br4 L_y.out.inside)
    replace I_x := Lib.hid (I_x.out.kept br4)
    replace I_p := Lib.hid (I_p.out.kept br4)
    replace I_f := Lib.hid (I_f.out.kept br4)
    replace I_u := Lib.hid (I_u.out.kept br4)
    replace I_v := Lib.hid (I_v.out.kept br4)
    replace B := Lib.hid (B.out.trans (br4.mono B.out.size))
    clear br4
    have k_4 : W5r4.cell? ⟨W1.heap.size, 0, none⟩ = some (.slice A n c) ∧ W5r4.cell? ⟨W1.heap.size, 1, none⟩ = some (.slice A' n' c') ∧ W5r4.cell? ⟨W1.heap.size + 1, 0, none⟩ = some (.slice P m d) ∧ W5r4.cell? ⟨W1.heap.size + 1, 1, none⟩ = some (.slice P' m' d') ∧ W5r4.cell? ⟨W3.heap.size, 0, none⟩ = some (.int .i64 0) ∧ W5r4.cell? ⟨W3.heap.size, 1, none⟩ = some (.slice (some ⟨g, 0, none⟩) n n) ∧ W5r4.cell? ⟨W3.heap.size, 2, none⟩ = some (.slice (some ⟨g', 0, none⟩) n n) ∧ W5r4.cell? ⟨W4.heap.size, 0, none⟩ = some (.slice U q e1) ∧ W5r4.cell? ⟨W4.heap.size, 1, none⟩ = some (.slice U' q' e2) ∧ W5r4.cell? ⟨W4.heap.size + 1, 0, none⟩ = some (.slice V v e3) ∧ W5r4.cell? ⟨W4.heap.size + 1, 1, none⟩ = some (.slice V' v' e4) := ⟨L_a.out.cell 0, L_a.out.cell 1, L_b.out.cell 0, L_b.out.cell 1, L_u.out.cell 0, L_u.out.cell 1, L_u.out.cell 2, L_x.out.cell 0, L_x.out.cell 1, L_y.out.cell 0, L_y.out.cell 1⟩
    refine hK.out _ _ (fun _ => k_4) ?_
    clear hK K k_3
    (try simp only [Act.put, List.setIfInBounds_toArray, List.set_cons_zero, List.set_cons_succ])
    apply wpAnyL_one (i := 22)
    · simp only [List.getElem?_toArray, List.getElem?_cons_succ, List.getElem?_cons_zero]; exact rfl
    refine ⟨by kernel_rfl, fun K hK => ?_⟩
    go_simp
    go_at_call 17
    refine (specCovers_be q e1 q' e2 v e3 v' e4 _ _ _ _ U U' V V' ks ks' ls ls' _ HV.out (I_u.out).X (I_u.out).Y (I_v.out).X (I_v.out).Y (Nat.le_trans mu.2 (by decide)) (Nat.le_trans mu'.2 (by decide)) (Nat.le_trans mv.2 (by decide)) (Nat.le_trans mv'.2 (by decide))).mono ?_
    rintro e W5r5 ⟨rfl, br5⟩
    replace L_a := Lib.hid (L_a.out.kept br5 L_a.out.inside)
    replace L_b := Lib.hid (L_b.out.kept br5 L_b.out.inside)
    replace L_u := Lib.hid (L_u.out.kept br5 L_u.out.inside)
    replace L_x := Lib.hid (L_x.out.kept br5 L_x.out.inside)
    replace L_y := Lib.hid (L_y.out.kept br5 L_y.out.inside)
    replace I_x := Lib.hid (I_x.out.kept br5)
    replace I_p := Lib.hid (I_p.out.kept br5)
    replace I_f := Lib.hid (I_f.out.kept br5)
    replace I_u := Lib.hid (I_u.out.kept br5)
    replace I_v := Lib.hid (I_v.out.kept br5)
    replace B := Lib.hid (B.out.trans (br5.mono B.out.size))
    clear br5
    have k_5 : W5r5.cell? ⟨W1.heap.size, 0, none⟩ = some (.slice A n c) ∧ W5r5.cell? ⟨W1.heap.size, 1, none⟩ = some (.slice A' n' c') ∧ W5r5.cell? ⟨W1.heap.size + 1, 0, none⟩ = some (.slice P m d) ∧ W5r5.cell? ⟨W1.heap.size + 1, 1, none⟩ = some (.slice P' m' d') ∧ W5r5.cell? ⟨W3.heap.size, 0, none⟩ = some (.int .i64 0) ∧ W5r5.cell? ⟨W3.heap.size, 1, none⟩ = some (.slice (some ⟨g, 0, none⟩) n n) ∧ W5r5.cell? ⟨W3.heap.size, 2, none⟩ = some (.slice (some ⟨g', 0, none⟩) n n) ∧ W5r5.cell? ⟨W4.heap.size, 0, none⟩ = some (.slice U q e1) ∧ W5r5.cell? ⟨W4.heap.size, 1, none⟩ = some (.slice U' q' e2) ∧ W5r5.cell? ⟨W4.heap.size + 1, 0, none⟩ = some (.slice V v e3) ∧ W5r5.cell? ⟨W4.heap.size + 1, 1, none⟩ = some (.slice V' v' e4) := ⟨L_a.out.cell 0, L_a.out.cell 1, L_b.out.cell 0, L_b.out.cell 1, L_u.out.cell 0, L_u.out.cell 1, L_u.out.cell 2, L_x.out.cell 0, L_x.out.cell 1, L_y.out.cell 0, L_y.out.cell 1⟩
    refine hK.out _ _ (fun _ => k_5) ?_
    clear hK K k_4
    (try simp only [Act.put, List.setIfInBounds_toArray, List.set_cons_zero, List.set_cons_succ])
    apply wpAnyL_take (i := 23)
    · simp only [List.getElem?_toArray, List.getElem?_cons_succ, List.getElem?_cons_zero]; exact rfl
    refine ⟨⟨by kernel_rfl, by kernel_rfl, by kernel_rfl, by kernel_rfl, by kernel_rfl⟩, fun _ _ _ h => h, ?_, k_5, ?_⟩
    · intro w hSw; (try dsimp only at hSw); go_simp; all_goals (with_reducible rfl)
    (try simp only [Act.put, List.setIfInBounds_toArray, List.set_cons_zero, List.set_cons_succ])
    apply wpAnyL_take (i := 24)
    · simp only [List.getElem?_toArray, List.getElem?_cons_succ, List.getElem?_cons_zero]; exact rfl
    refine ⟨⟨by kernel_rfl, by kernel_rfl, by kernel_rfl, by kernel_rfl, by kernel_rfl⟩, fun _ _ _ h => h, ?_, k_5, ?_⟩
    · intro w hSw; (try dsimp only at hSw); go_simp; all_goals (with_reducible rfl)
    (try simp only [Act.put, List.setIfInBounds_toArray, List.set_cons_zero, List.set_cons_succ])
    refine wpAnyL_done (by kernel_rfl) ?_ _
    clear k_5
    have c_u0 : W5r5.cell? ⟨W3.heap.size, 0, none⟩ = some (.int .i64 0) := L_u.out.cell 0
    have c_u1 : W5r5.cell? ⟨W3.heap.size, 1, none⟩ = some (.slice (some ⟨g, 0, none⟩) n n) := L_u.out.cell 1
    have c_u2 : W5r5.cell? ⟨W3.heap.size, 2, none⟩ = some (.slice (some ⟨g', 0, none⟩) n n) := L_u.out.cell 2
    go_upto_region 10 with fail
    clear c_u0 c_u1 c_u2
    obtain ⟨cv, hcv⟩ : ∃ b, coversF xs ys us vs = b := ⟨_, rfl⟩
    have HCV := Lib.hid hcv
    clear hcv
    cases cv with
    | false =>
      have c_a0 : W5r5.cell? ⟨W1.heap.size, 0, none⟩ = some (.slice A n c) := L_a.out.cell 0
      have c_a1 : W5r5.cell? ⟨W1.heap.size, 1, none⟩ = some (.slice A' n' c') := L_a.out.cell 1
      have c_b0 : W5r5.cell? ⟨W1.heap.size + 1, 0, none⟩ = some (.slice P m d) := L_b.out.cell 0
      have c_b1 : W5r5.cell? ⟨W1.heap.size + 1, 1, none⟩ = some (.slice P' m' d') := L_b.out.cell 1
      have c_u0 : W5r5.cell? ⟨W3.heap.size, 0, none⟩ = some (.int .i64 0) := L_u.out.cell 0
      have c_u1 : W5r5.cell? ⟨W3.heap.size, 1, none⟩ = some (.slice (some ⟨g, 0, none⟩) n n) := L_u.out.cell 1
      have c_u2 : W5r5.cell? ⟨W3.heap.size, 2, none⟩ = some (.slice (some ⟨g', 0, none⟩) n n) := L_u.out.cell 2
      go_upto_region 10 with fail
      refine wp_region_last 55 (fun w' => w'.cell? ⟨W1.heap.size, 0, none⟩ = some (.slice A n c) ∧ w'.cell? ⟨W1.heap.size, 1, none⟩ = some (.slice A' n' c') ∧ w'.cell? ⟨W1.heap.size + 1, 0, none⟩ = some (.slice P m d) ∧ w'.cell? ⟨W1.heap.size + 1, 1, none⟩ = some (.slice P' m' d') ∧ w'.cell? ⟨W3.heap.size, 0, none⟩ = some (.int .i64 0) ∧ w'.cell? ⟨W3.heap.size, 1, none⟩ = some (.slice (some ⟨g, 0, none⟩) n n) ∧ w'.cell? ⟨W3.heap.size, 2, none⟩ = some (.slice (some ⟨g', 0, none⟩) n n)) (by kernel_rfl) (⟨L_a.out.drew.cell 0, L_a.out.drew.cell 1, L_b.out.drew.cell 0, L_b.out.drew.cell 1, L_u.out.drew.cell 0, L_u.out.drew.cell 1, L_u.out.drew.cell 2⟩) (fun hHeld => ?_)
      clear c_a0 c_a1 c_b0 c_b1 c_u0 c_u1 c_u2
      apply wpAnyL_take (i := 0)
      · simp only [List.getElem?_toArray, List.getElem?_cons_succ, List.getElem?_cons_zero]; exact rfl
      refine ⟨⟨by kernel_rfl, by kernel_rfl, by kernel_rfl, by kernel_rfl, by kernel_rfl⟩, fun _ _ _ h => h, ?_, hHeld, ?_⟩
      · intro w hSw; (try dsimp only at hSw); go_simp; all_goals (with_reducible rfl)
      (try simp only [Act.put, List.setIfInBounds_toArray, List.set_cons_zero, List.set_cons_succ])
      apply wpAnyL_take (i := 1)
      · simp only [List.getElem?_toArray, List.getElem?_cons_succ, List.getElem?_cons_zero]; exact rfl
      refine ⟨⟨by kernel_rfl, by kernel_rfl, by kernel_rfl, by kernel_rfl, by kernel_rfl⟩, fun _ _ _ h => h, ?_, hHeld, ?_⟩
      · intro w hSw; (try dsimp only at hSw); go_simp; all_goals (with_reducible rfl)
      (try simp only [Act.put, List.setIfInBounds_toArray, List.set_cons_zero, List.set_cons_succ])
      apply wpAnyL_take (i := 2)
      · simp only [List.getElem?_toArray, List.getElem?_cons_succ, List.getElem?_cons_zero]; exact rfl
      refine ⟨⟨by kernel_rfl, by kernel_rfl, by kernel_rfl, by kernel_rfl, by kernel_rfl⟩, fun _ _ _ h => h, ?_, hHeld, ?_⟩
      · intro w hSw; (try dsimp only at hSw); go_simp; all_goals (with_reducible rfl)
      (try simp only [Act.put, List.setIfInBounds_toArray, List.set_cons_zero, List.set_cons_succ])
      apply wpAnyL_one (i := 3)
      · simp only [List.getElem?_toArray, List.getElem?_cons_succ, List.getElem?_cons_zero]; exact rfl
      refine ⟨by kernel_rfl, fun K hK => ?_⟩
      go_simp
      go_at_call 16
      refine (implCovers_is n n n n n c n' c' _ _ _ _ (some ⟨g, 0, none⟩) (some ⟨g', 0, none⟩) A A' (mins xs us) (maxs ys vs) xs ys _ P2.out (I_f.out.drew).X (I_f.out.drew).Y (I_x.out.drew).X (I_x.out.drew).Y (Nat.le_trans mn.2 (by decide)) (Nat.le_trans mn.2 (by decide)) (Nat.le_trans mn.2 (by decide)) (Nat.le_trans mn'.2 (by decide))).mono ?_
      rintro e W5r5r1 ⟨rfl, br1d⟩
      have br1 := below_drawn br1d
      clear br1d
      replace L_a := Lib.hid (L_a.out.kept br1 L_a.out.inside)
      replace L_b := Lib.hid (L_b.out.kept br1 L_b.out.inside)
      replace L_u := Lib.hid (L_u.out.kept br1 L_u.out.inside)
      replace L_x := Lib.hid (L_x.out.kept br1 L_x.out.inside)
      replace L_y := Lib.hid (L_y.out.kept br1 L_y.out.inside)
      replace I_x := Lib.hid (I_x.out.kept br1)
      replace I_p := Lib.hid (I_p.out.kept br1)
      replace I_f := Lib.hid (I_f.out.kept br1)
      replace I_u := Lib.hid (I_u.out.kept br1)
      replace I_v := Lib.hid (I_v.out.kept br1)
      replace B := Lib.hid (B.out.trans (br1.mono B.out.size))
      clear br1
      have k_1 : W5r5r1.cell? ⟨W1.heap.size, 0, none⟩ = some (.slice A n c) ∧ W5r5r1.cell? ⟨W1.heap.size, 1, none⟩ = some (.slice A' n' c') ∧ W5r5r1.cell? ⟨W1.heap.size + 1, 0, none⟩ = some (.slice P m d) ∧ W5r5r1.cell? ⟨W1.heap.size + 1, 1, none⟩ = some (.slice P' m' d') ∧ W5r5r1.cell? ⟨W3.heap.size, 0, none⟩ = some (.int .i64 0) ∧ W5r5r1.cell? ⟨W3.heap.size, 1, none⟩ = some (.slice (some ⟨g, 0, none⟩) n n) ∧ W5r5r1.cell? ⟨W3.heap.size, 2, none⟩ = some (.slice (some ⟨g', 0, none⟩) n n) := ⟨L_a.out.cell 0, L_a.out.cell 1, L_b.out.cell 0, L_b.out.cell 1, L_u.out.cell 0, L_u.out.cell 1, L_u.out.cell 2⟩
      refine hK.out _ _ (fun _ => k_1) ?_
      clear hK K hHeld
      (try simp only [Act.put, List.setIfInBounds_toArray, List.set_cons_zero, List.set_cons_succ])
      apply wpAnyL_take (i := 4)
      · simp only [List.getElem?_toArray, List.getElem?_cons_succ, List.getElem?_cons_zero]; exact rfl
      refine ⟨⟨by kernel_rfl, by kernel_rfl, by kernel_rfl, by kernel_rfl, by kernel_rfl⟩, fun _ _ _ h => h, ?_, k_1, ?_⟩
      · intro w hSw; (try dsimp only at hSw); go_simp; all_goals (with_reducible rfl)
      (try simp only [Act.put, List.setIfInBounds_toArray, List.set_cons_zero, List.set_cons_succ])
      apply wpAnyL_take (i := 5)
      · simp only [List.getElem?_toArray, List.getElem?_cons_succ, List.getElem?_cons_zero]; exact rfl
      refine ⟨⟨by kernel_rfl, by kernel_rfl, by kernel_rfl, by kernel_rfl, by kernel_rfl⟩, fun _ _ _ h => h, ?_, k_1, ?_⟩
      · intro w hSw; (try dsimp only at hSw); go_simp; all_goals (with_reducible rfl)
      (try simp only [Act.put, List.setIfInBounds_toArray, List.set_cons_zero, List.set_cons_succ])
      apply wpAnyL_take (i := 6)
      · simp only [List.getElem?_toArray, List.getElem?_cons_succ, List.getElem?_cons_zero]; exact rfl
      refine ⟨⟨by kernel_rfl, by kernel_rfl, by kernel_rfl, by kernel_rfl, by kernel_rfl⟩, fun _ _ _ h => h, ?_, k_1, ?_⟩
      · intro w hSw; (try dsimp only at hSw); go_simp; all_goals (with_reducible rfl)
      (try simp only [Act.put, List.setIfInBounds_toArray, List.set_cons_zero, List.set_cons_succ])
      apply wpAnyL_take (i := 7)
      · simp only [List.getElem?_toArray, List.getElem?_cons_succ, List.getElem?_cons_zero]; exact rfl
      refine ⟨⟨by kernel_rfl, by kernel_rfl, by kernel_rfl, by kernel_rfl, by kernel_rfl⟩, fun _ _ _ h => h, ?_, k_1, ?_⟩
      · intro w hSw; (try dsimp only at hSw); go_simp; all_goals (with_reducible rfl)
      (try simp only [Act.put, List.setIfInBounds_toArray, List.set_cons_zero, List.set_cons_succ])
      apply wpAnyL_one (i := 8)
      · simp only [List.getElem?_toArray, List.getElem?_cons_succ, List.getElem?_cons_zero]; exact rfl
      refine ⟨by kernel_rfl, fun K hK => ?_⟩
      go_simp
      go_at_call 16
      refine (implCovers_is n n n n m d m' d' _ _ _ _ (some ⟨g, 0, none⟩) (some ⟨g', 0, none⟩) P P' (mins xs us) (maxs ys vs) us vs _ P3.out (I_f.out).X (I_f.out).Y (I_p.out).X (I_p.out).Y (Nat.le_trans mn.2 (by decide)) (Nat.le_trans mn.2 (by decide)) (Nat.le_trans mp.2 (by decide)) (Nat.le_trans mp'.2 (by decide))).mono ?_
      rintro e W5r5r2 ⟨rfl, br2⟩
      replace L_a := Lib.hid (L_a.out.kept br2 L_a.out.inside)
      replace L_b := Lib.hid (L_b.out.kept br2 L_b.out.inside)
      replace L_u := Lib.hid (L_u.out.kept br2 L_u.out.inside)
      replace L_x := Lib.hid (L_x.out.kept br2 L_x.out.inside)
      replace L_y := Lib.hid (L_y.out.kept br2 L_y.out.inside)
      replace I_x := Lib.hid (I_x.out.kept br2)
      replace I_p := Lib.hid (I_p.out.kept br2)
      replace I_f := Lib.hid (I_f.out.kept br2)
      replace I_u := Lib.hid (I_u.out.kept br2)
      replace I_v := Lib.hid (I_v.out.kept br2)
      replace B := Lib.hid (B.out.trans (br2.mono B.out.size))
      clear br2
      have k_2 : W5r5r2.cell? ⟨W1.heap.size, 0, none⟩ = some (.slice A n c) ∧ W5r5r2.cell? ⟨W1.heap.size, 1, none⟩ = some (.slice A' n' c') ∧ W5r5r2.cell? ⟨W1.heap.size + 1, 0, none⟩ = some (.slice P m d) ∧ W5r5r2.cell? ⟨W1.heap.size + 1, 1, none⟩ = some (.slice P' m' d') ∧ W5r5r2.cell? ⟨W3.heap.size, 0, none⟩ = some (.int .i64 0) ∧ W5r5r2.cell? ⟨W3.heap.size, 1, none⟩ = some (.slice (some ⟨g, 0, none⟩) n n) ∧ W5r5r2.cell? ⟨W3.heap.size, 2, none⟩ = some (.slice (some ⟨g', 0, none⟩) n n) := ⟨L_a.out.cell 0, L_a.out.cell 1, L_b.out.cell 0, L_b.out.cell 1, L_u.out.cell 0, L_u.out.cell 1, L_u.out.cell 2⟩
      refine hK.out _ _ (fun _ => k_2) ?_
      clear hK K k_1
      (try simp only [Act.put, List.setIfInBounds_toArray, List.set_cons_zero, List.set_cons_succ])
      apply wpAnyL_take (i := 9)
      · simp only [List.getElem?_toArray, List.getElem?_cons_succ, List.getElem?_cons_zero]; exact rfl
      refine ⟨⟨by kernel_rfl, by kernel_rfl, by kernel_rfl, by kernel_rfl, by kernel_rfl⟩, fun _ _ _ h => h, ?_, k_2, ?_⟩
      · intro w hSw; (try dsimp only at hSw); go_simp; all_goals (with_reducible rfl)
      (try simp only [Act.put, List.setIfInBounds_toArray, List.set_cons_zero, List.set_cons_succ])
      apply wpAnyL_take (i := 10)
      · simp only [List.getElem?_toArray, List.getElem?_cons_succ, List.getElem?_cons_zero]; exact rfl
      refine ⟨⟨by kernel_rfl, by kernel_rfl, by kernel_rfl, by kernel_rfl, by kernel_rfl⟩, fun _ _ _ h => h, ?_, k_2, ?_⟩
      · intro w hSw; (try dsimp only at hSw); go_simp; all_goals (with_reducible rfl)
      (try simp only [Act.put, List.setIfInBounds_toArray, List.set_cons_zero, List.set_cons_succ])
      apply wpAnyL_take (i := 11)
      · simp only [List.getElem?_toArray, List.getElem?_cons_succ, List.getElem?_cons_zero]; exact rfl
      refine ⟨⟨by kernel_rfl, by kernel_rfl, by kernel_rfl, by kernel_rfl, by kernel_rfl⟩, fun _ _ _ h => h, ?_, k_2, ?_⟩
      · intro w hSw; (try dsimp only at hSw); go_simp; all_goals (with_reducible rfl)
      (try simp only [Act.put, List.setIfInBounds_toArray, List.set_cons_zero, List.set_cons_succ])
      apply wpAnyL_take (i := 12)
      · simp only [List.getElem?_toArray, List.getElem?_cons_succ, List.getElem?_cons_zero]; exact rfl
      refine ⟨⟨by kernel_rfl, by kernel_rfl, by kernel_rfl, by kernel_rfl, by kernel_rfl⟩, fun _ _ _ h => h, ?_, k_2, ?_⟩
      · intro w hSw; (try dsimp only at hSw); go_simp; all_goals (with_reducible rfl)
      (try simp only [Act.put, List.setIfInBounds_toArray, List.set_cons_zero, List.set_cons_succ])
      apply wpAnyL_take (i := 13)
      · simp only [List.getElem?_toArray, List.getElem?_cons_succ, List.getElem?_cons_zero]; exact rfl
      refine ⟨⟨by kernel_rfl, by kernel_rfl, by kernel_rfl, by kernel_rfl, by kernel_rfl⟩, fun _ _ _ h => h, ?_, k_2, ?_⟩
      · intro w hSw; (try dsimp only at hSw); go_simp; all_goals (with_reducible rfl)
      (try simp only [Act.put, List.setIfInBounds_toArray, List.set_cons_zero, List.set_cons_succ])
      apply wpAnyL_take (i := 14)
      · simp only [List.getElem?_toArray, List.getElem?_cons_succ, List.getElem?_cons_zero]; exact rfl
      refine ⟨⟨by kernel_rfl, by kernel_rfl, by kernel_rfl, by kernel_rfl, by kernel_rfl⟩, fun _ _ _ h => h, ?_, k_2, ?_⟩
      · intro w hSw; (try dsimp only at hSw); go_simp; all_goals (with_reducible rfl)
      (try simp only [Act.put, List.setIfInBounds_toArray, List.set_cons_zero, List.set_cons_succ])
      apply wpAnyL_take (i := 15)
      · simp only [List.getElem?_toArray, List.getElem?_cons_succ, List.getElem?_cons_zero]; exact rfl
      refine ⟨⟨by kernel_rfl, by kernel_rfl, by kernel_rfl, by kernel_rfl, by kernel_rfl⟩, fun _ _ _ h => h, ?_, k_2, ?_⟩
      · intro w hSw; (try dsimp only at hSw); go_simp; all_goals (with_reducible rfl)
      (try simp only [Act.put, List.setIfInBounds_toArray, List.set_cons_zero, List.set_cons_succ])
      apply wpAnyL_one (i := 16)
      · simp only [List.getElem?_toArray, List.getElem?_cons_succ, List.getElem?_cons_zero]; exact rfl
      refine ⟨by kernel_rfl, fun K hK => ?_⟩
      go_simp
      go_at_call 18
      refine (implRectFault_be (n : Int) _ n n _ n n (some ⟨g, 0, none⟩) (some ⟨g', 0, none⟩) (mins xs us) (maxs ys vs) _ P4.out (I_f.out).X (I_f.out).Y (Nat.le_trans mn.2 (by decide)) (Nat.le_trans mn.2 (by decide))).mono ?_
      rintro e W5r5r3 ⟨rfl, br3⟩
      replace L_a := Lib.hid (L_a.out.kept br3 L_a.out.inside)
      replace L_b := Lib.hid (L_b.out.kept br3 L_b.out.inside)
      replace L_u := Lib.hid (L_u.out.kept br3 L_u.out.inside)
      replace L_x := Lib.hid (L_x.out.kept br3 L_x.out.inside)
      replace L_y := Lib.hid (L_y.out.kept br3 L_y.out.inside)
      replace I_x := Lib.hid (I_x.out.kept br3)
      replace I_p := Lib.hid (I_p.out.kept br3)
      replace I_f := Lib.hid (I_f.out.kept br3)
      replace I_u := Lib.hid (I_u.out.kept br3)
      replace I_v := Lib.hid (I_v.out.kept br3)
      replace B := Lib.hid (B.out.trans (br3.mono B.out.size))
      clear br3
      have k_3 : W5r5r3.cell? ⟨W1.heap.size, 0, none⟩ = some (.slice A n c) ∧ W5r5r3.cell? ⟨W1.heap.size, 1, none⟩ = some (.slice A' n' c') ∧ W5r5r3.cell? ⟨W1.heap.size + 1, 0, none⟩ = some (.slice P m d) ∧ W5r5r3.cell? ⟨W1.heap.size + 1, 1, none⟩ = some (.slice P' m' d') ∧ W5r5r3.cell? ⟨W3.heap.size, 0, none⟩ = some (.int .i64 0) ∧ W5r5r3.cell? ⟨W3.heap.size, 1, none⟩ = some (.slice (some ⟨g, 0, none⟩) n n) ∧ W5r5r3.cell? ⟨W3.heap.size, 2, none⟩ = some (.slice (some ⟨g', 0, none⟩) n n) := ⟨L_a.out.cell 0, L_a.out.cell 1, L_b.out.cell 0, L_b.out.cell 1, L_u.out.cell 0, L_u.out.cell 1, L_u.out.cell 2⟩
      refine hK.out _ _ (fun _ => k_3) ?_
      clear hK K k_2
      (try simp only [Act.put, List.setIfInBounds_toArray, List.set_cons_zero, List.set_cons_succ])
      apply wpAnyL_take (i := 17)
      · simp only [List.getElem?_toArray, List.getElem?_cons_succ, List.getElem?_cons_zero]; exact rfl
      refine ⟨⟨by kernel_rfl, by kernel_rfl, by kernel_rfl, by kernel_rfl, by kernel_rfl⟩, fun _ _ _ h => h, ?_, k_3, ?_⟩
      · intro w hSw; (try dsimp only at hSw); go_simp; all_goals (with_reducible rfl)
      (try simp only [Act.put, List.setIfInBounds_toArray, List.set_cons_zero, List.set_cons_succ])
      apply wpAnyL_take (i := 18)
      · simp only [List.getElem?_toArray, List.getElem?_cons_succ, List.getElem?_cons_zero]; exact rfl
      refine ⟨⟨by kernel_rfl, by kernel_rfl, by kernel_rfl, by kernel_rfl, by kernel_rfl⟩, fun _ _ _ h => h, ?_, k_3, ?_⟩
      · intro w hSw; (try dsimp only at hSw); go_simp; all_goals (with_reducible rfl)
      (try simp only [Act.put, List.setIfInBounds_toArray, List.set_cons_zero, List.set_cons_succ])
      apply wpAnyL_take (i := 19)
      · simp only [List.getElem?_toArray, List.getElem?_cons_succ, List.getElem?_cons_zero]; exact rfl
      refine ⟨⟨by kernel_rfl, by kernel_rfl, by kernel_rfl, by kernel_rfl, by kernel_rfl⟩, fun _ _ _ h => h, ?_, k_3, ?_⟩
      · intro w hSw; (try dsimp only at hSw); go_simp; all_goals (with_reducible rfl)
      (try simp only [Act.put, List.setIfInBounds_toArray, List.set_cons_zero, List.set_cons_succ])
      apply wpAnyL_take (i := 20)
      · simp only [List.getElem?_toArray, List.getElem?_cons_succ, List.getElem?_cons_zero]; exact rfl
      refine ⟨⟨by kernel_rfl, by kernel_rfl, by kernel_rfl, by kernel_rfl, by kernel_rfl⟩, fun _ _ _ h => h, ?_, k_3, ?_⟩
      · intro w hSw; (try dsimp only at hSw); go_simp; all_goals (with_reducible rfl)
      (try simp only [Act.put, List.setIfInBounds_toArray, List.set_cons_zero, List.set_cons_succ])
      apply wpAnyL_take (i := 21)
      · simp only [List.getElem?_toArray, List.getElem?_cons_succ, List.getElem?_cons_zero]; exact rfl
      refine ⟨⟨by kernel_rfl, by kernel_rfl, by kernel_rfl, by kernel_rfl, by kernel_rfl⟩, fun _ _ _ h => h, ?_, k_3, ?_⟩
      · intro w hSw; (try dsimp only at hSw); go_simp; all_goals (with_reducible rfl)
      (try simp only [Act.put, List.setIfInBounds_toArray, List.set_cons_zero, List.set_cons_succ])
      apply wpAnyL_take (i := 24)
      · simp only [List.getElem?_toArray, List.getElem?_cons_succ, List.getElem?_cons_zero]; exact rfl
      refine ⟨⟨by kernel_rfl, by kernel_rfl, by kernel_rfl, by kernel_rfl, by kernel_rfl⟩, fun _ _ _ h => h, ?_, k_3, ?_⟩
      · intro w hSw; (try dsimp only at hSw); go_simp; all_goals (with_reducible rfl)
      (try simp only [Act.put, List.setIfInBounds_toArray, List.set_cons_zero, List.set_cons_succ])
      apply wpAnyL_take (i := 25)
      · simp only [List.getElem?_toArray, List.getElem?_cons_succ, List.getElem?_cons_zero]; exact rfl
      refine ⟨⟨by kernel_rfl, by kernel_rfl, by kernel_rfl, by kernel_rfl, by kernel_rfl⟩, fun _ _ _ h => h, ?_, k_3, ?_⟩
      · intro w hSw; (try dsimp only at hSw); go_simp; all_goals (with_reducible rfl)
      (try simp only [Act.put, List.setIfInBounds_toArray, List.set_cons_zero, List.set_cons_succ])
      apply wpAnyL_one (i := 22)
      · simp only [List.getElem?_toArray, List.getElem?_cons_succ, List.getElem?_cons_zero]; exact rfl
      refine ⟨by kernel_rfl, fun K hK => ?_⟩
      go_simp
      go_at_call 11
      refine (implUnionOf_is m d m' d' n c n' c' _ _ _ _ P P' A A' us vs xs ys _ P1.out (I_p.out).X (I_p.out).Y (I_x.out).X (I_x.out).Y (Nat.le_trans mp.2 (by decide)) (Nat.le_trans mp'.2 (by decide)) (Nat.le_trans mn.2 (by decide)) (Nat.le_trans mn'.2 (by decide)) mp.1).mono ?_
      rintro e W5r5r4 ⟨g2, g2', rfl, FI2, br4⟩
      replace L_a := Lib.hid (L_a.out.kept br4 L_a.out.inside)
      replace L_b := Lib.hid (L_b.out.kept br4 L_b.out.inside)
      replace L_u := Lib.hid (L_u.out.kept br4 L_u.out.inside)
      replace L_x := Lib.hid (L_x.out.kept br4 L_x.out.inside)
      replace L_y := Lib.hid (L_y.out.kept br4 L_y.out.inside)
      replace I_x := Lib.hid (I_x.out.kept br4)
      replace I_p := Lib.hid (I_p.out.kept br4)
      replace I_f := Lib.hid (I_f.out.kept br4)
      replace I_u := Lib.hid (I_u.out.kept br4)
      replace I_v := Lib.hid (I_v.out.kept br4)
      replace B := Lib.hid (B.out.trans (br4.mono B.out.size))
      clear br4
      have k_4 : W5r5r4.cell? ⟨W1.heap.size, 0, none⟩ = some (.slice A n c) ∧ W5r5r4.cell? ⟨W1.heap.size, 1, none⟩ = some (.slice A' n' c') ∧ W5r5r4.cell? ⟨W1.heap.size + 1, 0, none⟩ = some (.slice P m d) ∧ W5r5r4.cell? ⟨W1.heap.size + 1, 1, none⟩ = some (.slice P' m' d') ∧ W5r5r4.cell? ⟨W3.heap.size, 0, none⟩ = some (.int .i64 0) ∧ W5r5r4.cell? ⟨W3.heap.size, 1, none⟩ = some (.slice (some ⟨g, 0, none⟩) n n) ∧ W5r5r4.cell? ⟨W3.heap.size, 2, none⟩ = some (.slice (some ⟨g', 0, none⟩) n n) := ⟨L_a.out.cell 0, L_a.out.cell 1, L_b.out.cell 0, L_b.out.cell 1, L_u.out.cell 0, L_u.out.cell 1, L_u.out.cell 2⟩
      refine hK.out _ _ (fun _ => k_4) ?_
      clear hK K k_3
      (try simp only [Act.put, List.setIfInBounds_toArray, List.set_cons_zero, List.set_cons_succ])
      apply wpAnyL_take (i := 23)
      · simp only [List.getElem?_toArray, List.getElem?_cons_succ, List.getElem?_cons_zero]; exact rfl
      refine ⟨⟨by kernel_rfl, by kernel_rfl, by kernel_rfl, by kernel_rfl, by kernel_rfl⟩, fun _ _ _ h => h, ?_, k_4, ?_⟩
      · intro w hSw; (try dsimp only at hSw); go_simp; all_goals (with_reducible rfl)
      (try simp only [Act.put, List.setIfInBounds_toArray, List.set_cons_zero, List.set_cons_succ])
      apply wpAnyL_one (i := 26)
      · simp only [List.getElem?_toArray, List.getElem?_cons_succ, List.getElem?_cons_zero]; exact rfl
      refine ⟨by kernel_rfl, fun K hK => ?_⟩
      go_simp
      go_at_call 19
      refine (implSameRects_be m m m m n n n n _ _ _ _ (some ⟨g2, 0, none⟩) (some ⟨g2', 0, none⟩) (some ⟨g, 0, none⟩) (some ⟨g', 0, none⟩) (mins us xs) (maxs vs ys) (mins xs us) (maxs ys vs) _ P5.out FI2.X FI2.Y (I_f.out).X (I_f.out).Y (Nat.le_trans mp.2 (by decide)) (Nat.le_trans mp.2 (by decide)) (Nat.le_trans mn.2 (by decide)) (Nat.le_trans mn.2 (by decide))).mono ?_
      rintro e W5r5r5 ⟨rfl, br5⟩
      replace L_a := Lib.hid (L_a.out.kept br5 L_a.out.inside)
      replace L_b := Lib.hid (L_b.out.kept br5 L_b.out.inside)
      replace L_u := Lib.hid (L_u.out.kept br5 L_u.out.inside)
      replace L_x := Lib.hid (L_x.out.kept br5 L_x.out.inside)
      replace L_y := Lib.hid (L_y.out.kept br5 L_y.out.inside)
      replace I_x := Lib.hid (I_x.out.kept br5)
      replace I_p := Lib.hid (I_p.out.kept br5)
      replace I_f := Lib.hid (I_f.out.kept br5)
      replace I_u := Lib.hid (I_u.out.kept br5)
      replace I_v := Lib.hid (I_v.out.kept br5)
      replace B := Lib.hid (B.out.trans (br5.mono B.out.size))
      clear br5
      have k_5 : W5r5r5.cell? ⟨W1.heap.size, 0, none⟩ = some (.slice A n c) ∧ W5r5r5.cell? ⟨W1.heap.size, 1, none⟩ = some (.slice A' n' c') ∧ W5r5r5.cell? ⟨W1.heap.size + 1, 0, none⟩ = some (.slice P m d) ∧ W5r5r5.cell? ⟨W1.heap.size + 1, 1, none⟩ = some (.slice P' m' d') ∧ W5r5r5.cell? ⟨W3.heap.size, 0, none⟩ = some (.int .i64 0) ∧ W5r5r5.cell? ⟨W3.heap.size, 1, none⟩ = some (.slice (some ⟨g, 0, none⟩) n n) ∧ W5r5r5.cell? ⟨W3.heap.size, 2, none⟩ = some (.slice (some ⟨g', 0, none⟩) n n) := ⟨L_a.out.cell 0, L_a.out.cell 1, L_b.out.cell 0, L_b.out.cell 1, L_u.out.cell 0, L_u.out.cell 1, L_u.out.cell 2⟩
      refine hK.out _ _ (fun _ => k_5) ?_
      clear hK K k_4
      (try simp only [Act.put, List.setIfInBounds_toArray, List.set_cons_zero, List.set_cons_succ])
      apply wpAnyL_take (i := 27)
      · simp only [List.getElem?_toArray, List.getElem?_cons_succ, List.getElem?_cons_zero]; exact rfl
      refine ⟨⟨by kernel_rfl, by kernel_rfl, by kernel_rfl, by kernel_rfl, by kernel_rfl⟩, fun _ _ _ h => h, ?_, k_5, ?_⟩
      · intro w hSw; (try dsimp only at hSw); go_simp; all_goals (with_reducible rfl)
      (try simp only [Act.put, List.setIfInBounds_toArray, List.set_cons_zero, List.set_cons_succ])
      apply wpAnyL_take (i := 28)
      · simp only [List.getElem?_toArray, List.getElem?_cons_succ, List.getElem?_cons_zero]; exact rfl
      refine ⟨⟨by kernel_rfl, by kernel_rfl, by kernel_rfl, by kernel_rfl, by kernel_rfl⟩, fun _ _ _ h => h, ?_, k_5, ?_⟩
      · intro w hSw; (try dsimp only at hSw); go_simp; all_goals (with_reducible rfl)
      (try simp only [Act.put, List.setIfInBounds_toArray, List.set_cons_zero, List.set_cons_succ])
      apply wpAnyL_take (i := 29)
      · simp only [List.getElem?_toArray, List.getElem?_cons_succ, List.getElem?_cons_zero]; exact rfl
      refine ⟨⟨by kernel_rfl, by kernel_rfl, by kernel_rfl, by kernel_rfl, by kernel_rfl⟩, fun _ _ _ h => h, ?_, k_5, ?_⟩
      · intro w hSw; (try dsimp only at hSw); go_simp; all_goals (with_reducible rfl)
      (try simp only [Act.put, List.setIfInBounds_toArray, List.set_cons_zero, List.set_cons_succ])
      apply wpAnyL_take (i := 30)
      · simp only [List.getElem?_toArray, List.getElem?_cons_succ, List.getElem?_cons_zero]; exact rfl
      refine ⟨⟨by kernel_rfl, by kernel_rfl, by kernel_rfl, by kernel_rfl, by kernel_rfl⟩, fun _ _ _ h => h, ?_, k_5, ?_⟩
      · intro w hSw; (try dsimp only at hSw); go_simp; all_goals (with_reducible rfl)
      (try simp only [Act.put, List.setIfInBounds_toArray, List.set_cons_zero, List.set_cons_succ])
      apply wpAnyL_take (i := 32)
      · simp only [List.getElem?_toArray, List.getElem?_cons_succ, List.getElem?_cons_zero]; exact rfl
      refine ⟨⟨by kernel_rfl, by kernel_rfl, by kernel_rfl, by kernel_rfl, by kernel_rfl⟩, fun _ _ _ h => h, ?_, k_5, ?_⟩
      · intro w hSw; (try dsimp only at hSw); go_simp; all_goals (with_reducible rfl)
      (try simp only [Act.put, List.setIfInBounds_toArray, List.set_cons_zero, List.set_cons_succ])
      apply wpAnyL_take (i := 33)
      · simp only [List.getElem?_toArray, List.getElem?_cons_succ, List.getElem?_cons_zero]; exact rfl
      refine ⟨⟨by kernel_rfl, by kernel_rfl, by kernel_rfl, by kernel_rfl, by kernel_rfl⟩, fun _ _ _ h => h, ?_, k_5, ?_⟩
      · intro w hSw; (try dsimp only at hSw); go_simp; all_goals (with_reducible rfl)
      (try simp only [Act.put, List.setIfInBounds_toArray, List.set_cons_zero, List.set_cons_succ])
      apply wpAnyL_one (i := 31)
      · simp only [List.getElem?_toArray, List.getElem?_cons_succ, List.getElem?_cons_zero]; exact rfl
      refine ⟨by kernel_rfl, fun K hK => ?_⟩
      go_simp
      go_at_call 14
      refine (implMeets_be n c n' c' m d m' d' _ _ _ _ A A' P P' xs ys us vs _ HM.out (I_x.out).X (I_x.out).Y (I_p.out).X (I_p.out).Y (Nat.le_trans mn.2 (by decide)) (Nat.le_trans mn'.2 (by decide)) (Nat.le_trans mp.2 (by decide)) (Nat.le_trans mp'.2 (by decide))).mono ?_
      rintro e W5r5r6 ⟨rfl, br6⟩
      replace L_a := Lib.hid (L_a.out.kept br6 L_a.out.inside)
      replace L_b := Lib.hid (L_b.out.kept br6 L_b.out.inside)
      replace L_u := Lib.hid (L_u.out.kept br6 L_u.out.inside)
      replace L_x := Lib.hid (L_x.out.kept br6 L_x.out.inside)
      replace L_y := Lib.hid (L_y.out.kept br6 L_y.out.inside)
      replace I_x := Lib.hid (I_x.out.kept br6)
      replace I_p := Lib.hid (I_p.out.kept br6)
      replace I_f := Lib.hid (I_f.out.kept br6)
      replace I_u := Lib.hid (I_u.out.kept br6)
      replace I_v := Lib.hid (I_v.out.kept br6)
      replace B := Lib.hid (B.out.trans (br6.mono B.out.size))
      clear br6
      have k_6 : W5r5r6.cell? ⟨W1.heap.size, 0, none⟩ = some (.slice A n c) ∧ W5r5r6.cell? ⟨W1.heap.size, 1, none⟩ = some (.slice A' n' c') ∧ W5r5r6.cell? ⟨W1.heap.size + 1, 0, none⟩ = some (.slice P m d) ∧ W5r5r6.cell? ⟨W1.heap.size + 1, 1, none⟩ = some (.slice P' m' d') ∧ W5r5r6.cell? ⟨W3.heap.size, 0, none⟩ = some (.int .i64 0) ∧ W5r5r6.cell? ⟨W3.heap.size, 1, none⟩ = some (.slice (some ⟨g, 0, none⟩) n n) ∧ W5r5r6.cell? ⟨W3.heap.size, 2, none⟩ = some (.slice (some ⟨g', 0, none⟩) n n) := ⟨L_a.out.cell 0, L_a.out.cell 1, L_b.out.cell 0, L_b.out.cell 1, L_u.out.cell 0, L_u.out.cell 1, L_u.out.cell 2⟩
      refine hK.out _ _ (fun _ => k_6) ?_
      clear hK K k_5
      (try simp only [Act.put, List.setIfInBounds_toArray, List.set_cons_zero, List.set_cons_succ])
      apply wpAnyL_one (i := 34)
      · simp only [List.getElem?_toArray, List.getElem?_cons_succ, List.getElem?_cons_zero]; exact rfl
      refine ⟨by kernel_rfl, fun K hK => ?_⟩
      go_simp
      go_at_call 14
      refine (implMeets_be m d m' d' n c n' c' _ _ _ _ P P' A A' us vs xs ys _ P6.out (I_p.out).X (I_p.out).Y (I_x.out).X (I_x.out).Y (Nat.le_trans mp.2 (by decide)) (Nat.le_trans mp'.2 (by decide)) (Nat.le_trans mn.2 (by decide)) (Nat.le_trans mn'.2 (by decide))).mono ?_
      rintro e W5r5r7 ⟨rfl, br7⟩
      replace L_a := Lib.hid (L_a.out.kept br7 L_a.out.inside)
      replace L_b := Lib.hid (L_b.out.kept br7 L_b.out.inside)
      replace L_u := Lib.hid (L_u.out.kept br7 L_u.out.inside)
      replace L_x := Lib.hid (L_x.out.kept br7 L_x.out.inside)
      replace L_y := Lib.hid (L_y.out.kept br7 L_y.out.inside)
      replace I_x := Lib.hid (I_x.out.kept br7)
      replace I_p := Lib.hid (I_p.out.kept br7)
      replace I_f := Lib.hid (I_f.out.kept br7)
      replace I_u := Lib.hid (I_u.out.kept br7)
      replace I_v := Lib.hid (I_v.out.kept br7)
      replace B := Lib.hid (B.out.trans (br7.mono B.out.size))
      clear br7
      have k_7 : W5r5r7.cell? ⟨W1.heap.size, 0, none⟩ = some (.slice A n c) ∧ W5r5r7.cell? ⟨W1.heap.size, 1, none⟩ = some (.slice A' n' c') ∧ W5r5r7.cell? ⟨W1.heap.size + 1, 0, none⟩ = some (.slice P m d) ∧ W5r5r7.cell? ⟨W1.heap.size + 1, 1, none⟩ = some (.slice P' m' d') ∧ W5r5r7.cell? ⟨W3.heap.size, 0, none⟩ = some (.int .i64 0) ∧ W5r5r7.cell? ⟨W3.heap.size, 1, none⟩ = some (.slice (some ⟨g, 0, none⟩) n n) ∧ W5r5r7.cell? ⟨W3.heap.size, 2, none⟩ = some (.slice (some ⟨g', 0, none⟩) n n) := ⟨L_a.out.cell 0, L_a.out.cell 1, L_b.out.cell 0, L_b.out.cell 1, L_u.out.cell 0, L_u.out.cell 1, L_u.out.cell 2⟩
      refine hK.out _ _ (fun _ => k_7) ?_
      clear hK K k_6
      (try simp only [Act.put, List.setIfInBounds_toArray, List.set_cons_zero, List.set_cons_succ])
      apply wpAnyL_take (i := 35)
      · simp only [List.getElem?_toArray, List.getElem?_cons_succ, List.getElem?_cons_zero]; exact rfl
      refine ⟨⟨by kernel_rfl, by kernel_rfl, by kernel_rfl, by kernel_rfl, by kernel_rfl⟩, fun _ _ _ h => h, ?_, k_7, ?_⟩
      · intro w hSw; (try dsimp only at hSw); go_simp; all_goals (with_reducible rfl)
      (try simp only [Act.put, List.setIfInBounds_toArray, List.set_cons_zero, List.set_cons_succ])
      apply wpAnyL_take (i := 36)
      · simp only [List.getElem?_toArray, List.getElem?_cons_succ, List.getElem?_cons_zero]; exact rfl
      refine ⟨⟨by kernel_rfl, by kernel_rfl, by kernel_rfl, by kernel_rfl, by kernel_rfl⟩, fun _ _ _ h => h, ?_, k_7, ?_⟩
      · intro w hSw; (try dsimp only at hSw); go_simp; all_goals (with_reducible rfl)
      (try simp only [Act.put, List.setIfInBounds_toArray, List.set_cons_zero, List.set_cons_succ])
      apply wpAnyL_take (i := 37)
      · simp only [List.getElem?_toArray, List.getElem?_cons_succ, List.getElem?_cons_zero]; exact rfl
      refine ⟨⟨by kernel_rfl, by kernel_rfl, by kernel_rfl, by kernel_rfl, by kernel_rfl⟩, fun _ _ _ h => h, ?_, k_7, ?_⟩
      · intro w hSw; (try dsimp only at hSw); go_simp; all_goals (with_reducible rfl)
      (try simp only [Act.put, List.setIfInBounds_toArray, List.set_cons_zero, List.set_cons_succ])
      apply wpAnyL_take (i := 38)
      · simp only [List.getElem?_toArray, List.getElem?_cons_succ, List.getElem?_cons_zero]; exact rfl
      refine ⟨⟨by kernel_rfl, by kernel_rfl, by kernel_rfl, by kernel_rfl, by kernel_rfl⟩, fun _ _ _ h => h, ?_, k_7, ?_⟩
      · intro w hSw; (try dsimp only at hSw); go_simp; all_goals (with_reducible rfl)
      (try simp only [Act.put, List.setIfInBounds_toArray, List.set_cons_zero, List.set_cons_succ])
      apply wpAnyL_take (i := 39)
      · simp only [List.getElem?_toArray, List.getElem?_cons_succ, List.getElem?_cons_zero]; exact rfl
      refine ⟨⟨by kernel_rfl, by kernel_rfl, by kernel_rfl, by kernel_rfl, by kernel_rfl⟩, fun _ _ _ h => h, ?_, k_7, ?_⟩
      · intro w hSw; (try dsimp only at hSw); go_simp; all_goals (with_reducible rfl)
      (try simp only [Act.put, List.setIfInBounds_toArray, List.set_cons_zero, List.set_cons_succ])
      apply wpAnyL_one (i := 40)
      · simp only [List.getElem?_toArray, List.getElem?_cons_succ, List.getElem?_cons_zero]; exact rfl
      refine ⟨by kernel_rfl, fun K hK => ?_⟩
      go_simp
      go_at_call 16
      refine (implCovers_is n c n' c' m d m' d' _ _ _ _ A A' P P' xs ys us vs _ HCV.out (I_x.out).X (I_x.out).Y (I_p.out).X (I_p.out).Y (Nat.le_trans mn.2 (by decide)) (Nat.le_trans mn'.2 (by decide)) (Nat.le_trans mp.2 (by decide)) (Nat.le_trans mp'.2 (by decide))).mono ?_
      rintro e W5r5r8 ⟨rfl, br8⟩
      replace L_a := Lib.hid (L_a.out.kept br8 L_a.out.inside)
      replace L_b := Lib.hid (L_b.out.kept br8 L_b.out.inside)
      replace L_u := Lib.hid (L_u.out.kept br8 L_u.out.inside)
      replace L_x := Lib.hid (L_x.out.kept br8 L_x.out.inside)
      replace L_y := Lib.hid (L_y.out.kept br8 L_y.out.inside)
      replace I_x := Lib.hid (I_x.out.kept br8)
      replace I_p := Lib.hid (I_p.out.kept br8)
      replace I_f := Lib.hid (I_f.out.kept br8)
      replace I_u := Lib.hid (I_u.out.kept br8)
      replace I_v := Lib.hid (I_v.out.kept br8)
      replace B := Lib.hid (B.out.trans (br8.mono B.out.size))
      clear br8
      have k_8 : W5r5r8.cell? ⟨W1.heap.size, 0, none⟩ = some (.slice A n c) ∧ W5r5r8.cell? ⟨W1.heap.size, 1, none⟩ = some (.slice A' n' c') ∧ W5r5r8.cell? ⟨W1.heap.size + 1, 0, none⟩ = some (.slice P m d) ∧ W5r5r8.cell? ⟨W1.heap.size + 1, 1, none⟩ = some (.slice P' m' d') ∧ W5r5r8.cell? ⟨W3.heap.size, 0, none⟩ = some (.int .i64 0) ∧ W5r5r8.cell? ⟨W3.heap.size, 1, none⟩ = some (.slice (some ⟨g, 0, none⟩) n n) ∧ W5r5r8.cell? ⟨W3.heap.size, 2, none⟩ = some (.slice (some ⟨g', 0, none⟩) n n) := ⟨L_a.out.cell 0, L_a.out.cell 1, L_b.out.cell 0, L_b.out.cell 1, L_u.out.cell 0, L_u.out.cell 1, L_u.out.cell 2⟩
      refine hK.out _ _ (fun _ => k_8) ?_
      clear hK K k_7
      (try simp only [Act.put, List.setIfInBounds_toArray, List.set_cons_zero, List.set_cons_succ])
      apply wpAnyL_take (i := 41)
      · simp only [List.getElem?_toArray, List.getElem?_cons_succ, List.getElem?_cons_zero]; exact rfl
      refine ⟨⟨by kernel_rfl, by kernel_rfl, by kernel_rfl, by kernel_rfl, by kernel_rfl⟩, fun _ _ _ h => h, ?_, k_8, ?_⟩
      · intro w hSw; (try dsimp only at hSw); go_simp; all_goals (with_reducible rfl)
      (try simp only [Act.put, List.setIfInBounds_toArray, List.set_cons_zero, List.set_cons_succ])
      apply wpAnyL_take (i := 42)
      · simp only [List.getElem?_toArray, List.getElem?_cons_succ, List.getElem?_cons_zero]; exact rfl
      refine ⟨⟨by kernel_rfl, by kernel_rfl, by kernel_rfl, by kernel_rfl, by kernel_rfl⟩, fun _ _ _ h => h, ?_, k_8, ?_⟩
      · intro w hSw; (try dsimp only at hSw); go_simp; all_goals (with_reducible rfl)
      (try simp only [Act.put, List.setIfInBounds_toArray, List.set_cons_zero, List.set_cons_succ])
      apply wpAnyL_skip (i := 43)
      · simp only [List.getElem?_toArray, List.getElem?_cons_succ, List.getElem?_cons_zero]; exact rfl
      refine ⟨⟨by kernel_rfl, by kernel_rfl, by kernel_rfl, by kernel_rfl, by kernel_rfl⟩, fun _ _ _ h => h, k_8, ?_⟩
      (try simp only [Act.put, List.setIfInBounds_toArray, List.set_cons_zero, List.set_cons_succ])
      apply wpAnyL_skip (i := 44)
      · simp only [List.getElem?_toArray, List.getElem?_cons_succ, List.getElem?_cons_zero]; exact rfl
      refine ⟨⟨by kernel_rfl, by kernel_rfl, by kernel_rfl, by kernel_rfl, by kernel_rfl⟩, fun _ _ _ h => h, k_8, ?_⟩
      (try simp only [Act.put, List.setIfInBounds_toArray, List.set_cons_zero, List.set_cons_succ])
      apply wpAnyL_skip (i := 45)
      · simp only [List.getElem?_toArray, List.getElem?_cons_succ, List.getElem?_cons_zero]; exact rfl
      refine ⟨⟨by kernel_rfl, by kernel_rfl, by kernel_rfl, by kernel_rfl, by kernel_rfl⟩, fun _ _ _ h => h, k_8, ?_⟩
      (try simp only [Act.put, List.setIfInBounds_toArray, List.set_cons_zero, List.set_cons_succ])
      apply wpAnyL_skip (i := 46)
      · simp only [List.getElem?_toArray, List.getElem?_cons_succ, List.getElem?_cons_zero]; exact rfl
      refine ⟨⟨by kernel_rfl, by kernel_rfl, by kernel_rfl, by kernel_rfl, by kernel_rfl⟩, fun _ _ _ h => h, k_8, ?_⟩
      (try simp only [Act.put, List.setIfInBounds_toArray, List.set_cons_zero, List.set_cons_succ])
      apply wpAnyL_skip (i := 47)
      · simp only [List.getElem?_toArray, List.getElem?_cons_succ, List.getElem?_cons_zero]; exact rfl
      refine ⟨⟨by kernel_rfl, by kernel_rfl, by kernel_rfl, by kernel_rfl, by kernel_rfl⟩, fun _ _ _ h => h, k_8, ?_⟩
      (try simp only [Act.put, List.setIfInBounds_toArray, List.set_cons_zero, List.set_cons_succ])
      apply wpAnyL_skip (i := 48)
      · simp only [List.getElem?_toArray, List.getElem?_cons_succ, List.getElem?_cons_zero]; exact rfl
      refine ⟨⟨by kernel_rfl, by kernel_rfl, by kernel_rfl, by kernel_rfl, by kernel_rfl⟩, fun _ _ _ h => h, k_8, ?_⟩
      (try simp only [Act.put, List.setIfInBounds_toArray, List.set_cons_zero, List.set_cons_succ])
      apply wpAnyL_skip (i := 49)
      · simp only [List.getElem?_toArray, List.getElem?_cons_succ, List.getElem?_cons_zero]; exact rfl
      refine ⟨⟨by kernel_rfl, by kernel_rfl, by kernel_rfl, by kernel_rfl, by kernel_rfl⟩, fun _ _ _ h => h, k_8, ?_⟩
      (try simp only [Act.put, List.setIfInBounds_toArray, List.set_cons_zero, List.set_cons_succ])
      apply wpAnyL_skip (i := 50)
      · simp only [List.getElem?_toArray, List.getElem?_cons_succ, List.getElem?_cons_zero]; exact rfl
      refine ⟨⟨by kernel_rfl, by kernel_rfl, by kernel_rfl, by kernel_rfl, by kernel_rfl⟩, fun _ _ _ h => h, k_8, ?_⟩
      (try simp only [Act.put, List.setIfInBounds_toArray, List.set_cons_zero, List.set_cons_succ])
      apply wpAnyL_skip (i := 51)
      · simp only [List.getElem?_toArray, List.getElem?_cons_succ, List.getElem?_cons_zero]; exact rfl
      refine ⟨⟨by kernel_rfl, by kernel_rfl, by kernel_rfl, by kernel_rfl, by kernel_rfl⟩, fun _ _ _ h => h, k_8, ?_⟩
      (try simp only [Act.put, List.setIfInBounds_toArray, List.set_cons_zero, List.set_cons_succ])
      apply wpAnyL_take (i := 52)
      · simp only [List.getElem?_toArray, List.getElem?_cons_succ, List.getElem?_cons_zero]; exact rfl
      refine ⟨⟨by kernel_rfl, by kernel_rfl, by kernel_rfl, by kernel_rfl, by kernel_rfl⟩, fun _ _ _ h => h, ?_, k_8, ?_⟩
      · intro w hSw; (try dsimp only at hSw); go_simp; all_goals (with_reducible rfl)
      (try simp only [Act.put, List.setIfInBounds_toArray, List.set_cons_zero, List.set_cons_succ])
      apply wpAnyL_take (i := 53)
      · simp only [List.getElem?_toArray, List.getElem?_cons_succ, List.getElem?_cons_zero]; exact rfl
      refine ⟨⟨by kernel_rfl, by kernel_rfl, by kernel_rfl, by kernel_rfl, by kernel_rfl⟩, fun _ _ _ h => h, ?_, k_8, ?_⟩
      · intro w hSw; (try dsimp only at hSw); go_simp; all_goals (with_reducible rfl)
      (try simp only [Act.put, List.setIfInBounds_toArray, List.set_cons_zero, List.set_cons_succ])
      apply wpAnyL_take (i := 54)
      · simp only [List.getElem?_toArray, List.getElem?_cons_succ, List.getElem?_cons_zero]; exact rfl
      refine ⟨⟨by kernel_rfl, by kernel_rfl, by kernel_rfl, by kernel_rfl, by kernel_rfl⟩, fun _ _ _ h => h, ?_, k_8, ?_⟩
      · intro w hSw; (try dsimp only at hSw); go_simp; all_goals (with_reducible rfl)
      (try simp only [Act.put, List.setIfInBounds_toArray, List.set_cons_zero, List.set_cons_succ])
      refine wpAnyL_done (by kernel_rfl) ?_ _
      clear k_8
      go_wp2
      go_ret
      exact ⟨by first | rfl | kernel_rfl | simp, B.out⟩
    | true =>
      obtain ⟨pm, ps⟩ := P7.out HCV.out
      subst pm
      have PS := Lib.hid ps
      clear ps
      have c_a0 : W5r5.cell? ⟨W1.heap.size, 0, none⟩ = some (.slice A n c) := L_a.out.cell 0
      have c_a1 : W5r5.cell? ⟨W1.heap.size, 1, none⟩ = some (.slice A' n' c') := L_a.out.cell 1
      have c_b0 : W5r5.cell? ⟨W1.heap.size + 1, 0, none⟩ = some (.slice P m d) := L_b.out.cell 0
      have c_b1 : W5r5.cell? ⟨W1.heap.size + 1, 1, none⟩ = some (.slice P' m' d') := L_b.out.cell 1
      have c_u0 : W5r5.cell? ⟨W3.heap.size, 0, none⟩ = some (.int .i64 0) := L_u.out.cell 0
      have c_u1 : W5r5.cell? ⟨W3.heap.size, 1, none⟩ = some (.slice (some ⟨g, 0, none⟩) n n) := L_u.out.cell 1
      have c_u2 : W5r5.cell? ⟨W3.heap.size, 2, none⟩ = some (.slice (some ⟨g', 0, none⟩) n n) := L_u.out.cell 2
      go_upto_region 10 with fail
      refine wp_region_last 55 (fun w' => w'.cell? ⟨W1.heap.size, 0, none⟩ = some (.slice A n c) ∧ w'.cell? ⟨W1.heap.size, 1, none⟩ = some (.slice A' n' c') ∧ w'.cell? ⟨W1.heap.size + 1, 0, none⟩ = some (.slice P m d) ∧ w'.cell? ⟨W1.heap.size + 1, 1, none⟩ = some (.slice P' m' d') ∧ w'.cell? ⟨W3.heap.size, 0, none⟩ = some (.int .i64 0) ∧ w'.cell? ⟨W3.heap.size, 1, none⟩ = some (.slice (some ⟨g, 0, none⟩) n n) ∧ w'.cell? ⟨W3.heap.size, 2, none⟩ = some (.slice (some ⟨g', 0, none⟩) n n)) (by kernel_rfl) (⟨L_a.out.drew.cell 0, L_a.out.drew.cell 1, L_b.out.drew.cell 0, L_b.out.drew.cell 1, L_u.out.drew.cell 0, L_u.out.drew.cell 1, L_u.out.drew.cell 2⟩) (fun hHeld => ?_)
      clear c_a0 c_a1 c_b0 c_b1 c_u0 c_u1 c_u2
      apply wpAnyL_take (i := 0)
      · simp only [List.getElem?_toArray, List.getElem?_cons_succ, List.getElem?_cons_zero]; exact rfl
      refine ⟨⟨by kernel_rfl, by kernel_rfl, by kernel_rfl, by kernel_rfl, by kernel_rfl⟩, fun _ _ _ h => h, ?_, hHeld, ?_⟩
      · intro w hSw; (try dsimp only at hSw); go_simp; all_goals (with_reducible rfl)
      (try simp only [Act.put, List.setIfInBounds_toArray, List.set_cons_zero, List.set_cons_succ])
      apply wpAnyL_take (i := 1)
      · simp only [List.getElem?_toArray, List.getElem?_cons_succ, List.getElem?_cons_zero]; exact rfl
      refine ⟨⟨by kernel_rfl, by kernel_rfl, by kernel_rfl, by kernel_rfl, by kernel_rfl⟩, fun _ _ _ h => h, ?_, hHeld, ?_⟩
      · intro w hSw; (try dsimp only at hSw); go_simp; all_goals (with_reducible rfl)
      (try simp only [Act.put, List.setIfInBounds_toArray, List.set_cons_zero, List.set_cons_succ])
      apply wpAnyL_take (i := 2)
      · simp only [List.getElem?_toArray, List.getElem?_cons_succ, List.getElem?_cons_zero]; exact rfl
      refine ⟨⟨by kernel_rfl, by kernel_rfl, by kernel_rfl, by kernel_rfl, by kernel_rfl⟩, fun _ _ _ h => h, ?_, hHeld, ?_⟩
      · intro w hSw; (try dsimp only at hSw); go_simp; all_goals (with_reducible rfl)
      (try simp only [Act.put, List.setIfInBounds_toArray, List.set_cons_zero, List.set_cons_succ])
      apply wpAnyL_one (i := 3)
      · simp only [List.getElem?_toArray, List.getElem?_cons_succ, List.getElem?_cons_zero]; exact rfl
      refine ⟨by kernel_rfl, fun K hK => ?_⟩
      go_simp
      go_at_call 16
      refine (implCovers_is n n n n n c n' c' _ _ _ _ (some ⟨g, 0, none⟩) (some ⟨g', 0, none⟩) A A' (mins xs us) (maxs ys vs) xs ys _ P2.out (I_f.out.drew).X (I_f.out.drew).Y (I_x.out.drew).X (I_x.out.drew).Y (Nat.le_trans mn.2 (by decide)) (Nat.le_trans mn.2 (by decide)) (Nat.le_trans mn.2 (by decide)) (Nat.le_trans mn'.2 (by decide))).mono ?_
      rintro e W5r5r1 ⟨rfl, br1d⟩
      have br1 := below_drawn br1d
      clear br1d
      replace L_a := Lib.hid (L_a.out.kept br1 L_a.out.inside)
      replace L_b := Lib.hid (L_b.out.kept br1 L_b.out.inside)
      replace L_u := Lib.hid (L_u.out.kept br1 L_u.out.inside)
      replace L_x := Lib.hid (L_x.out.kept br1 L_x.out.inside)
      replace L_y := Lib.hid (L_y.out.kept br1 L_y.out.inside)
      replace I_x := Lib.hid (I_x.out.kept br1)
      replace I_p := Lib.hid (I_p.out.kept br1)
      replace I_f := Lib.hid (I_f.out.kept br1)
      replace I_u := Lib.hid (I_u.out.kept br1)
      replace I_v := Lib.hid (I_v.out.kept br1)
      replace B := Lib.hid (B.out.trans (br1.mono B.out.size))
      clear br1
      have k_1 : W5r5r1.cell? ⟨W1.heap.size, 0, none⟩ = some (.slice A n c) ∧ W5r5r1.cell? ⟨W1.heap.size, 1, none⟩ = some (.slice A' n' c') ∧ W5r5r1.cell? ⟨W1.heap.size + 1, 0, none⟩ = some (.slice P m d) ∧ W5r5r1.cell? ⟨W1.heap.size + 1, 1, none⟩ = some (.slice P' m' d') ∧ W5r5r1.cell? ⟨W3.heap.size, 0, none⟩ = some (.int .i64 0) ∧ W5r5r1.cell? ⟨W3.heap.size, 1, none⟩ = some (.slice (some ⟨g, 0, none⟩) n n) ∧ W5r5r1.cell? ⟨W3.heap.size, 2, none⟩ = some (.slice (some ⟨g', 0, none⟩) n n) := ⟨L_a.out.cell 0, L_a.out.cell 1, L_b.out.cell 0, L_b.out.cell 1, L_u.out.cell 0, L_u.out.cell 1, L_u.out.cell 2⟩
      refine hK.out _ _ (fun _ => k_1) ?_
      clear hK K hHeld
      (try simp only [Act.put, List.setIfInBounds_toArray, List.set_cons_zero, List.set_cons_succ])
      apply wpAnyL_take (i := 4)
      · simp only [List.getElem?_toArray, List.getElem?_cons_succ, List.getElem?_cons_zero]; exact rfl
      refine ⟨⟨by kernel_rfl, by kernel_rfl, by kernel_rfl, by kernel_rfl, by kernel_rfl⟩, fun _ _ _ h => h, ?_, k_1, ?_⟩
      · intro w hSw; (try dsimp only at hSw); go_simp; all_goals (with_reducible rfl)
      (try simp only [Act.put, List.setIfInBounds_toArray, List.set_cons_zero, List.set_cons_succ])
      apply wpAnyL_take (i := 5)
      · simp only [List.getElem?_toArray, List.getElem?_cons_succ, List.getElem?_cons_zero]; exact rfl
      refine ⟨⟨by kernel_rfl, by kernel_rfl, by kernel_rfl, by kernel_rfl, by kernel_rfl⟩, fun _ _ _ h => h, ?_, k_1, ?_⟩
      · intro w hSw; (try dsimp only at hSw); go_simp; all_goals (with_reducible rfl)
      (try simp only [Act.put, List.setIfInBounds_toArray, List.set_cons_zero, List.set_cons_succ])
      apply wpAnyL_take (i := 6)
      · simp only [List.getElem?_toArray, List.getElem?_cons_succ, List.getElem?_cons_zero]; exact rfl
      refine ⟨⟨by kernel_rfl, by kernel_rfl, by kernel_rfl, by kernel_rfl, by kernel_rfl⟩, fun _ _ _ h => h, ?_, k_1, ?_⟩
      · intro w hSw; (try dsimp only at hSw); go_simp; all_goals (with_reducible rfl)
      (try simp only [Act.put, List.setIfInBounds_toArray, List.set_cons_zero, List.set_cons_succ])
      apply wpAnyL_take (i := 7)
      · simp only [List.getElem?_toArray, List.getElem?_cons_succ, List.getElem?_cons_zero]; exact rfl
      refine ⟨⟨by kernel_rfl, by kernel_rfl, by kernel_rfl, by kernel_rfl, by kernel_rfl⟩, fun _ _ _ h => h, ?_, k_1, ?_⟩
      · intro w hSw; (try dsimp only at hSw); go_simp; all_goals (with_reducible rfl)
      (try simp only [Act.put, List.setIfInBounds_toArray, List.set_cons_zero, List.set_cons_succ])
      apply wpAnyL_one (i := 8)
      · simp only [List.getElem?_toArray, List.getElem?_cons_succ, List.getElem?_cons_zero]; exact rfl
      refine ⟨by kernel_rfl, fun K hK => ?_⟩
      go_simp
      go_at_call 16
      refine (implCovers_is n n n n m d m' d' _ _ _ _ (some ⟨g, 0, none⟩) (some ⟨g', 0, none⟩) P P' (mins xs us) (maxs ys vs) us vs _ P3.out (I_f.out).X (I_f.out).Y (I_p.out).X (I_p.out).Y (Nat.le_trans mn.2 (by decide)) (Nat.le_trans mn.2 (by decide)) (Nat.le_trans mp.2 (by decide)) (Nat.le_trans mp'.2 (by decide))).mono ?_
      rintro e W5r5r2 ⟨rfl, br2⟩
      replace L_a := Lib.hid (L_a.out.kept br2 L_a.out.inside)
      replace L_b := Lib.hid (L_b.out.kept br2 L_b.out.inside)
      replace L_u := Lib.hid (L_u.out.kept br2 L_u.out.inside)
      replace L_x := Lib.hid (L_x.out.kept br2 L_x.out.inside)
      replace L_y := Lib.hid (L_y.out.kept br2 L_y.out.inside)
      replace I_x := Lib.hid (I_x.out.kept br2)
      replace I_p := Lib.hid (I_p.out.kept br2)
      replace I_f := Lib.hid (I_f.out.kept br2)
      replace I_u := Lib.hid (I_u.out.kept br2)
      replace I_v := Lib.hid (I_v.out.kept br2)
      replace B := Lib.hid (B.out.trans (br2.mono B.out.size))
      clear br2
      have k_2 : W5r5r2.cell? ⟨W1.heap.size, 0, none⟩ = some (.slice A n c) ∧ W5r5r2.cell? ⟨W1.heap.size, 1, none⟩ = some (.slice A' n' c') ∧ W5r5r2.cell? ⟨W1.heap.size + 1, 0, none⟩ = some (.slice P m d) ∧ W5r5r2.cell? ⟨W1.heap.size + 1, 1, none⟩ = some (.slice P' m' d') ∧ W5r5r2.cell? ⟨W3.heap.size, 0, none⟩ = some (.int .i64 0) ∧ W5r5r2.cell? ⟨W3.heap.size, 1, none⟩ = some (.slice (some ⟨g, 0, none⟩) n n) ∧ W5r5r2.cell? ⟨W3.heap.size, 2, none⟩ = some (.slice (some ⟨g', 0, none⟩) n n) := ⟨L_a.out.cell 0, L_a.out.cell 1, L_b.out.cell 0, L_b.out.cell 1, L_u.out.cell 0, L_u.out.cell 1, L_u.out.cell 2⟩
      refine hK.out _ _ (fun _ => k_2) ?_
      clear hK K k_1
      (try simp only [Act.put, List.setIfInBounds_toArray, List.set_cons_zero, List.set_cons_succ])
      apply wpAnyL_take (i := 9)
      · simp only [List.getElem?_toArray, List.getElem?_cons_succ, List.getElem?_cons_zero]; exact rfl
      refine ⟨⟨by kernel_rfl, by kernel_rfl, by kernel_rfl, by kernel_rfl, by kernel_rfl⟩, fun _ _ _ h => h, ?_, k_2, ?_⟩
      · intro w hSw; (try dsimp only at hSw); go_simp; all_goals (with_reducible rfl)
      (try simp only [Act.put, List.setIfInBounds_toArray, List.set_cons_zero, List.set_cons_succ])
      apply wpAnyL_take (i := 10)
      · simp only [List.getElem?_toArray, List.getElem?_cons_succ, List.getElem?_cons_zero]; exact rfl
      refine ⟨⟨by kernel_rfl, by kernel_rfl, by kernel_rfl, by kernel_rfl, by kernel_rfl⟩, fun _ _ _ h => h, ?_, k_2, ?_⟩
      · intro w hSw; (try dsimp only at hSw); go_simp; all_goals (with_reducible rfl)
      (try simp only [Act.put, List.setIfInBounds_toArray, List.set_cons_zero, List.set_cons_succ])
      apply wpAnyL_take (i := 11)
      · simp only [List.getElem?_toArray, List.getElem?_cons_succ, List.getElem?_cons_zero]; exact rfl
      refine ⟨⟨by kernel_rfl, by kernel_rfl, by kernel_rfl, by kernel_rfl, by kernel_rfl⟩, fun _ _ _ h => h, ?_, k_2, ?_⟩
      · intro w hSw; (try dsimp only at hSw); go_simp; all_goals (with_reducible rfl)
      (try simp only [Act.put, List.setIfInBounds_toArray, List.set_cons_zero, List.set_cons_succ])
      apply wpAnyL_take (i := 12)
      · simp only [List.getElem?_toArray, List.getElem?_cons_succ, List.getElem?_cons_zero]; exact rfl
      refine ⟨⟨by kernel_rfl, by kernel_rfl, by kernel_rfl, by kernel_rfl, by kernel_rfl⟩, fun _ _ _ h => h, ?_, k_2, ?_⟩
      · intro w hSw; (try dsimp only at hSw); go_simp; all_goals (with_reducible rfl)
      (try simp only [Act.put, List.setIfInBounds_toArray, List.set_cons_zero, List.set_cons_succ])
      apply wpAnyL_take (i := 13)
      · simp only [List.getElem?_toArray, List.getElem?_cons_succ, List.getElem?_cons_zero]; exact rfl
      refine ⟨⟨by kernel_rfl, by kernel_rfl, by kernel_rfl, by kernel_rfl, by kernel_rfl⟩, fun _ _ _ h => h, ?_, k_2, ?_⟩
      · intro w hSw; (try dsimp only at hSw); go_simp; all_goals (with_reducible rfl)
      (try simp only [Act.put, List.setIfInBounds_toArray, List.set_cons_zero, List.set_cons_succ])
      apply wpAnyL_take (i := 14)
      · simp only [List.getElem?_toArray, List.getElem?_cons_succ, List.getElem?_cons_zero]; exact rfl
      refine ⟨⟨by kernel_rfl, by kernel_rfl, by kernel_rfl, by kernel_rfl, by kernel_rfl⟩, fun _ _ _ h => h, ?_, k_2, ?_⟩
      · intro w hSw; (try dsimp only at hSw); go_simp; all_goals (with_reducible rfl)
      (try simp only [Act.put, List.setIfInBounds_toArray, List.set_cons_zero, List.set_cons_succ])
      apply wpAnyL_take (i := 15)
      · simp only [List.getElem?_toArray, List.getElem?_cons_succ, List.getElem?_cons_zero]; exact rfl
      refine ⟨⟨by kernel_rfl, by kernel_rfl, by kernel_rfl, by kernel_rfl, by kernel_rfl⟩, fun _ _ _ h => h, ?_, k_2, ?_⟩
      · intro w hSw; (try dsimp only at hSw); go_simp; all_goals (with_reducible rfl)
      (try simp only [Act.put, List.setIfInBounds_toArray, List.set_cons_zero, List.set_cons_succ])
      apply wpAnyL_one (i := 16)
      · simp only [List.getElem?_toArray, List.getElem?_cons_succ, List.getElem?_cons_zero]; exact rfl
      refine ⟨by kernel_rfl, fun K hK => ?_⟩
      go_simp
      go_at_call 18
      refine (implRectFault_be (n : Int) _ n n _ n n (some ⟨g, 0, none⟩) (some ⟨g', 0, none⟩) (mins xs us) (maxs ys vs) _ P4.out (I_f.out).X (I_f.out).Y (Nat.le_trans mn.2 (by decide)) (Nat.le_trans mn.2 (by decide))).mono ?_
      rintro e W5r5r3 ⟨rfl, br3⟩
      replace L_a := Lib.hid (L_a.out.kept br3 L_a.out.inside)
      replace L_b := Lib.hid (L_b.out.kept br3 L_b.out.inside)
      replace L_u := Lib.hid (L_u.out.kept br3 L_u.out.inside)
      replace L_x := Lib.hid (L_x.out.kept br3 L_x.out.inside)
      replace L_y := Lib.hid (L_y.out.kept br3 L_y.out.inside)
      replace I_x := Lib.hid (I_x.out.kept br3)
      replace I_p := Lib.hid (I_p.out.kept br3)
      replace I_f := Lib.hid (I_f.out.kept br3)
      replace I_u := Lib.hid (I_u.out.kept br3)
      replace I_v := Lib.hid (I_v.out.kept br3)
      replace B := Lib.hid (B.out.trans (br3.mono B.out.size))
      clear br3
      have k_3 : W5r5r3.cell? ⟨W1.heap.size, 0, none⟩ = some (.slice A n c) ∧ W5r5r3.cell? ⟨W1.heap.size, 1, none⟩ = some (.slice A' n' c') ∧ W5r5r3.cell? ⟨W1.heap.size + 1, 0, none⟩ = some (.slice P m d) ∧ W5r5r3.cell? ⟨W1.heap.size + 1, 1, none⟩ = some (.slice P' m' d') ∧ W5r5r3.cell? ⟨W3.heap.size, 0, none⟩ = some (.int .i64 0) ∧ W5r5r3.cell? ⟨W3.heap.size, 1, none⟩ = some (.slice (some ⟨g, 0, none⟩) n n) ∧ W5r5r3.cell? ⟨W3.heap.size, 2, none⟩ = some (.slice (some ⟨g', 0, none⟩) n n) := ⟨L_a.out.cell 0, L_a.out.cell 1, L_b.out.cell 0, L_b.out.cell 1, L_u.out.cell 0, L_u.out.cell 1, L_u.out.cell 2⟩
      refine hK.out _ _ (fun _ => k_3) ?_
      clear hK K k_2
      (try simp only [Act.put, List.setIfInBounds_toArray, List.set_cons_zero, List.set_cons_succ])
      apply wpAnyL_take (i := 17)
      · simp only [List.getElem?_toArray, List.getElem?_cons_succ, List.getElem?_cons_zero]; exact rfl
      refine ⟨⟨by kernel_rfl, by kernel_rfl, by kernel_rfl, by kernel_rfl, by kernel_rfl⟩, fun _ _ _ h => h, ?_, k_3, ?_⟩
      · intro w hSw; (try dsimp only at hSw); go_simp; all_goals (with_reducible rfl)
      (try simp only [Act.put, List.setIfInBounds_toArray, List.set_cons_zero, List.set_cons_succ])
      apply wpAnyL_take (i := 18)
      · simp only [List.getElem?_toArray, List.getElem?_cons_succ, List.getElem?_cons_zero]; exact rfl
      refine ⟨⟨by kernel_rfl, by kernel_rfl, by kernel_rfl, by kernel_rfl, by kernel_rfl⟩, fun _ _ _ h => h, ?_, k_3, ?_⟩
      · intro w hSw; (try dsimp only at hSw); go_simp; all_goals (with_reducible rfl)
      (try simp only [Act.put, List.setIfInBounds_toArray, List.set_cons_zero, List.set_cons_succ])
      apply wpAnyL_take (i := 19)
      · simp only [List.getElem?_toArray, List.getElem?_cons_succ, List.getElem?_cons_zero]; exact rfl
      refine ⟨⟨by kernel_rfl, by kernel_rfl, by kernel_rfl, by kernel_rfl, by kernel_rfl⟩, fun _ _ _ h => h, ?_, k_3, ?_⟩
      · intro w hSw; (try dsimp only at hSw); go_simp; all_goals (with_reducible rfl)
      (try simp only [Act.put, List.setIfInBounds_toArray, List.set_cons_zero, List.set_cons_succ])
      apply wpAnyL_take (i := 20)
      · simp only [List.getElem?_toArray, List.getElem?_cons_succ, List.getElem?_cons_zero]; exact rfl
      refine ⟨⟨by kernel_rfl, by kernel_rfl, by kernel_rfl, by kernel_rfl, by kernel_rfl⟩, fun _ _ _ h => h, ?_, k_3, ?_⟩
      · intro w hSw; (try dsimp only at hSw); go_simp; all_goals (with_reducible rfl)
      (try simp only [Act.put, List.setIfInBounds_toArray, List.set_cons_zero, List.set_cons_succ])
      apply wpAnyL_take (i := 21)
      · simp only [List.getElem?_toArray, List.getElem?_cons_succ, List.getElem?_cons_zero]; exact rfl
      refine ⟨⟨by kernel_rfl, by kernel_rfl, by kernel_rfl, by kernel_rfl, by kernel_rfl⟩, fun _ _ _ h => h, ?_, k_3, ?_⟩
      · intro w hSw; (try dsimp only at hSw); go_simp; all_goals (with_reducible rfl)
      (try simp only [Act.put, List.setIfInBounds_toArray, List.set_cons_zero, List.set_cons_succ])
      apply wpAnyL_take (i := 24)
      · simp only [List.getElem?_toArray, List.getElem?_cons_succ, List.getElem?_cons_zero]; exact rfl
      refine ⟨⟨by kernel_rfl, by kernel_rfl, by kernel_rfl, by kernel_rfl, by kernel_rfl⟩, fun _ _ _ h => h, ?_, k_3, ?_⟩
      · intro w hSw; (try dsimp only at hSw); go_simp; all_goals (with_reducible rfl)
      (try simp only [Act.put, List.setIfInBounds_toArray, List.set_cons_zero, List.set_cons_succ])
      apply wpAnyL_take (i := 25)
      · simp only [List.getElem?_toArray, List.getElem?_cons_succ, List.getElem?_cons_zero]; exact rfl
      refine ⟨⟨by kernel_rfl, by kernel_rfl, by kernel_rfl, by kernel_rfl, by kernel_rfl⟩, fun _ _ _ h => h, ?_, k_3, ?_⟩
      · intro w hSw; (try dsimp only at hSw); go_simp; all_goals (with_reducible rfl)
      (try simp only [Act.put, List.setIfInBounds_toArray, List.set_cons_zero, List.set_cons_succ])
      apply wpAnyL_one (i := 22)
      · simp only [List.getElem?_toArray, List.getElem?_cons_succ, List.getElem?_cons_zero]; exact rfl
      refine ⟨by kernel_rfl, fun K hK => ?_⟩
      go_simp
      go_at_call 11
      refine (implUnionOf_is m d m' d' n c n' c' _ _ _ _ P P' A A' us vs xs ys _ P1.out (I_p.out).X (I_p.out).Y (I_x.out).X (I_x.out).Y (Nat.le_trans mp.2 (by decide)) (Nat.le_trans mp'.2 (by decide)) (Nat.le_trans mn.2 (by decide)) (Nat.le_trans mn'.2 (by decide)) mp.1).mono ?_
      rintro e W5r5r4 ⟨g2, g2', rfl, FI2, br4⟩
      replace L_a := Lib.hid (L_a.out.kept br4 L_a.out.inside)
      replace L_b := Lib.hid (L_b.out.kept br4 L_b.out.inside)
      replace L_u := Lib.hid (L_u.out.kept br4 L_u.out.inside)
      replace L_x := Lib.hid (L_x.out.kept br4 L_x.out.inside)
      replace L_y := Lib.hid (L_y.out.kept br4 L_y.out.inside)
      replace I_x := Lib.hid (I_x.out.kept br4)
      replace I_p := Lib.hid (I_p.out.kept br4)
      replace I_f := Lib.hid (I_f.out.kept br4)
      replace I_u := Lib.hid (I_u.out.kept br4)
      replace I_v := Lib.hid (I_v.out.kept br4)
      replace B := Lib.hid (B.out.trans (br4.mono B.out.size))
      clear br4
      have k_4 : W5r5r4.cell? ⟨W1.heap.size, 0, none⟩ = some (.slice A n c) ∧ W5r5r4.cell? ⟨W1.heap.size, 1, none⟩ = some (.slice A' n' c') ∧ W5r5r4.cell? ⟨W1.heap.size + 1, 0, none⟩ = some (.slice P m d) ∧ W5r5r4.cell? ⟨W1.heap.size + 1, 1, none⟩ = some (.slice P' m' d') ∧ W5r5r4.cell? ⟨W3.heap.size, 0, none⟩ = some (.int .i64 0) ∧ W5r5r4.cell? ⟨W3.heap.size, 1, none⟩ = some (.slice (some ⟨g, 0, none⟩) n n) ∧ W5r5r4.cell? ⟨W3.heap.size, 2, none⟩ = some (.slice (some ⟨g', 0, none⟩) n n) := ⟨L_a.out.cell 0, L_a.out.cell 1, L_b.out.cell 0, L_b.out.cell 1, L_u.out.cell 0, L_u.out.cell 1, L_u.out.cell 2⟩
      refine hK.out _ _ (fun _ => k_4) ?_
      clear hK K k_3
      (try simp only [Act.put, List.setIfInBounds_toArray, List.set_cons_zero, List.set_cons_succ])
      apply wpAnyL_take (i := 23)
      · simp only [List.getElem?_toArray, List.getElem?_cons_succ, List.getElem?_cons_zero]; exact rfl
      refine ⟨⟨by kernel_rfl, by kernel_rfl, by kernel_rfl, by kernel_rfl, by kernel_rfl⟩, fun _ _ _ h => h, ?_, k_4, ?_⟩
      · intro w hSw; (try dsimp only at hSw); go_simp; all_goals (with_reducible rfl)
      (try simp only [Act.put, List.setIfInBounds_toArray, List.set_cons_zero, List.set_cons_succ])
      apply wpAnyL_one (i := 26)
      · simp only [List.getElem?_toArray, List.getElem?_cons_succ, List.getElem?_cons_zero]; exact rfl
      refine ⟨by kernel_rfl, fun K hK => ?_⟩
      go_simp
      go_at_call 19
      refine (implSameRects_be m m m m n n n n _ _ _ _ (some ⟨g2, 0, none⟩) (some ⟨g2', 0, none⟩) (some ⟨g, 0, none⟩) (some ⟨g', 0, none⟩) (mins us xs) (maxs vs ys) (mins xs us) (maxs ys vs) _ P5.out FI2.X FI2.Y (I_f.out).X (I_f.out).Y (Nat.le_trans mp.2 (by decide)) (Nat.le_trans mp.2 (by decide)) (Nat.le_trans mn.2 (by decide)) (Nat.le_trans mn.2 (by decide))).mono ?_
      rintro e W5r5r5 ⟨rfl, br5⟩
      replace L_a := Lib.hid (L_a.out.kept br5 L_a.out.inside)
      replace L_b := Lib.hid (L_b.out.kept br5 L_b.out.inside)
      replace L_u := Lib.hid (L_u.out.kept br5 L_u.out.inside)
      replace L_x := Lib.hid (L_x.out.kept br5 L_x.out.inside)
      replace L_y := Lib.hid (L_y.out.kept br5 L_y.out.inside)
      replace I_x := Lib.hid (I_x.out.kept br5)
      replace I_p := Lib.hid (I_p.out.kept br5)
      replace I_f := Lib.hid (I_f.out.kept br5)
      replace I_u := Lib.hid (I_u.out.kept br5)
      replace I_v := Lib.hid (I_v.out.kept br5)
      replace B := Lib.hid (B.out.trans (br5.mono B.out.size))
      clear br5
      have k_5 : W5r5r5.cell? ⟨W1.heap.size, 0, none⟩ = some (.slice A n c) ∧ W5r5r5.cell? ⟨W1.heap.size, 1, none⟩ = some (.slice A' n' c') ∧ W5r5r5.cell? ⟨W1.heap.size + 1, 0, none⟩ = some (.slice P m d) ∧ W5r5r5.cell? ⟨W1.heap.size + 1, 1, none⟩ = some (.slice P' m' d') ∧ W5r5r5.cell? ⟨W3.heap.size, 0, none⟩ = some (.int .i64 0) ∧ W5r5r5.cell? ⟨W3.heap.size, 1, none⟩ = some (.slice (some ⟨g, 0, none⟩) n n) ∧ W5r5r5.cell? ⟨W3.heap.size, 2, none⟩ = some (.slice (some ⟨g', 0, none⟩) n n) := ⟨L_a.out.cell 0, L_a.out.cell 1, L_b.out.cell 0, L_b.out.cell 1, L_u.out.cell 0, L_u.out.cell 1, L_u.out.cell 2⟩
      refine hK.out _ _ (fun _ => k_5) ?_
      clear hK K k_4
      (try simp only [Act.put, List.setIfInBounds_toArray, List.set_cons_zero, List.set_cons_succ])
      apply wpAnyL_take (i := 27)
      · simp only [List.getElem?_toArray, List.getElem?_cons_succ, List.getElem?_cons_zero]; exact rfl
      refine ⟨⟨by kernel_rfl, by kernel_rfl, by kernel_rfl, by kernel_rfl, by kernel_rfl⟩, fun _ _ _ h => h, ?_, k_5, ?_⟩
      · intro w hSw; (try dsimp only at hSw); go_simp; all_goals (with_reducible rfl)
      (try simp only [Act.put, List.setIfInBounds_toArray, List.set_cons_zero, List.set_cons_succ])
      apply wpAnyL_take (i := 28)
      · simp only [List.getElem?_toArray, List.getElem?_cons_succ, List.getElem?_cons_zero]; exact rfl
      refine ⟨⟨by kernel_rfl, by kernel_rfl, by kernel_rfl, by kernel_rfl, by kernel_rfl⟩, fun _ _ _ h => h, ?_, k_5, ?_⟩
      · intro w hSw; (try dsimp only at hSw); go_simp; all_goals (with_reducible rfl)
      (try simp only [Act.put, List.setIfInBounds_toArray, List.set_cons_zero, List.set_cons_succ])
      apply wpAnyL_take (i := 29)
      · simp only [List.getElem?_toArray, List.getElem?_cons_succ, List.getElem?_cons_zero]; exact rfl
      refine ⟨⟨by kernel_rfl, by kernel_rfl, by kernel_rfl, by kernel_rfl, by kernel_rfl⟩, fun _ _ _ h => h, ?_, k_5, ?_⟩
      · intro w hSw; (try dsimp only at hSw); go_simp; all_goals (with_reducible rfl)
      (try simp only [Act.put, List.setIfInBounds_toArray, List.set_cons_zero, List.set_cons_succ])
      apply wpAnyL_take (i := 30)
      · simp only [List.getElem?_toArray, List.getElem?_cons_succ, List.getElem?_cons_zero]; exact rfl
      refine ⟨⟨by kernel_rfl, by kernel_rfl, by kernel_rfl, by kernel_rfl, by kernel_rfl⟩, fun _ _ _ h => h, ?_, k_5, ?_⟩
      · intro w hSw; (try dsimp only at hSw); go_simp; all_goals (with_reducible rfl)
      (try simp only [Act.put, List.setIfInBounds_toArray, List.set_cons_zero, List.set_cons_succ])
      apply wpAnyL_take (i := 32)
      · simp only [List.getElem?_toArray, List.getElem?_cons_succ, List.getElem?_cons_zero]; exact rfl
      refine ⟨⟨by kernel_rfl, by kernel_rfl, by kernel_rfl, by kernel_rfl, by kernel_rfl⟩, fun _ _ _ h => h, ?_, k_5, ?_⟩
      · intro w hSw; (try dsimp only at hSw); go_simp; all_goals (with_reducible rfl)
      (try simp only [Act.put, List.setIfInBounds_toArray, List.set_cons_zero, List.set_cons_succ])
      apply wpAnyL_take (i := 33)
      · simp only [List.getElem?_toArray, List.getElem?_cons_succ, List.getElem?_cons_zero]; exact rfl
      refine ⟨⟨by kernel_rfl, by kernel_rfl, by kernel_rfl, by kernel_rfl, by kernel_rfl⟩, fun _ _ _ h => h, ?_, k_5, ?_⟩
      · intro w hSw; (try dsimp only at hSw); go_simp; all_goals (with_reducible rfl)
      (try simp only [Act.put, List.setIfInBounds_toArray, List.set_cons_zero, List.set_cons_succ])
      apply wpAnyL_one (i := 31)
      · simp only [List.getElem?_toArray, List.getElem?_cons_succ, List.getElem?_cons_zero]; exact rfl
      refine ⟨by kernel_rfl, fun K hK => ?_⟩
      go_simp
      go_at_call 14
      refine (implMeets_be n c n' c' m d m' d' _ _ _ _ A A' P P' xs ys us vs _ HM.out (I_x.out).X (I_x.out).Y (I_p.out).X (I_p.out).Y (Nat.le_trans mn.2 (by decide)) (Nat.le_trans mn'.2 (by decide)) (Nat.le_trans mp.2 (by decide)) (Nat.le_trans mp'.2 (by decide))).mono ?_
      rintro e W5r5r6 ⟨rfl, br6⟩
      replace L_a := Lib.hid (L_a.out.kept br6 L_a.out.inside)
      replace L_b := Lib.hid (L_b.out.kept br6 L_b.out.inside)
      replace L_u := Lib.hid (L_u.out.kept br6 L_u.out.inside)
      replace L_x := Lib.hid (L_x.out.kept br6 L_x.out.inside)
      replace L_y := Lib.hid (L_y.out.kept br6 L_y.out.inside)
      replace I_x := Lib.hid (I_x.out.kept br6)
      replace I_p := Lib.hid (I_p.out.kept br6)
      replace I_f := Lib.hid (I_f.out.kept br6)
      replace I_u := Lib.hid (I_u.out.kept br6)
      replace I_v := Lib.hid (I_v.out.kept br6)
      replace B := Lib.hid (B.out.trans (br6.mono B.out.size))
      clear br6
      have k_6 : W5r5r6.cell? ⟨W1.heap.size, 0, none⟩ = some (.slice A n c) ∧ W5r5r6.cell? ⟨W1.heap.size, 1, none⟩ = some (.slice A' n' c') ∧ W5r5r6.cell? ⟨W1.heap.size + 1, 0, none⟩ = some (.slice P m d) ∧ W5r5r6.cell? ⟨W1.heap.size + 1, 1, none⟩ = some (.slice P' m' d') ∧ W5r5r6.cell? ⟨W3.heap.size, 0, none⟩ = some (.int .i64 0) ∧ W5r5r6.cell? ⟨W3.heap.size, 1, none⟩ = some (.slice (some ⟨g, 0, none⟩) n n) ∧ W5r5r6.cell? ⟨W3.heap.size, 2, none⟩ = some (.slice (some ⟨g', 0, none⟩) n n) := ⟨L_a.out.cell 0, L_a.out.cell 1, L_b.out.cell 0, L_b.out.cell 1, L_u.out.cell 0, L_u.out.cell 1, L_u.out.cell 2⟩
      refine hK.out _ _ (fun _ => k_6) ?_
      clear hK K k_5
      (try simp only [Act.put, List.setIfInBounds_toArray, List.set_cons_zero, List.set_cons_succ])
      apply wpAnyL_one (i := 34)
      · simp only [List.getElem?_toArray, List.getElem?_cons_succ, List.getElem?_cons_zero]; exact rfl
      refine ⟨by kernel_rfl, fun K hK => ?_⟩
      go_simp
      go_at_call 14
      refine (implMeets_be m d m' d' n c n' c' _ _ _ _ P P' A A' us vs xs ys _ P6.out (I_p.out).X (I_p.out).Y (I_x.out).X (I_x.out).Y (Nat.le_trans mp.2 (by decide)) (Nat.le_trans mp'.2 (by decide)) (Nat.le_trans mn.2 (by decide)) (Nat.le_trans mn'.2 (by decide))).mono ?_
      rintro e W5r5r7 ⟨rfl, br7⟩
      replace L_a := Lib.hid (L_a.out.kept br7 L_a.out.inside)
      replace L_b := Lib.hid (L_b.out.kept br7 L_b.out.inside)
      replace L_u := Lib.hid (L_u.out.kept br7 L_u.out.inside)
      replace L_x := Lib.hid (L_x.out.kept br7 L_x.out.inside)
      replace L_y := Lib.hid (L_y.out.kept br7 L_y.out.inside)
      replace I_x := Lib.hid (I_x.out.kept br7)
      replace I_p := Lib.hid (I_p.out.kept br7)
      replace I_f := Lib.hid (I_f.out.kept br7)
      replace I_u := Lib.hid (I_u.out.kept br7)
      replace I_v := Lib.hid (I_v.out.kept br7)
      replace B := Lib.hid (B.out.trans (br7.mono B.out.size))
      clear br7
      have k_7 : W5r5r7.cell? ⟨W1.heap.size, 0, none⟩ = some (.slice A n c) ∧ W5r5r7.cell? ⟨W1.heap.size, 1, none⟩ = some (.slice A' n' c') ∧ W5r5r7.cell? ⟨W1.heap.size + 1, 0, none⟩ = some (.slice P m d) ∧ W5r5r7.cell? ⟨W1.heap.size + 1, 1, none⟩ = some (.slice P' m' d') ∧ W5r5r7.cell? ⟨W3.heap.size, 0, none⟩ = some (.int .i64 0) ∧ W5r5r7.cell? ⟨W3.heap.size, 1, none⟩ = some (.slice (some ⟨g, 0, none⟩) n n) ∧ W5r5r7.cell? ⟨W3.heap.size, 2, none⟩ = some (.slice (some ⟨g', 0, none⟩) n n) := ⟨L_a.out.cell 0, L_a.out.cell 1, L_b.out.cell 0, L_b.out.cell 1, L_u.out.cell 0, L_u.out.cell 1, L_u.out.cell 2⟩
      refine hK.out _ _ (fun _ => k_7) ?_
      clear hK K k_6
      (try simp only [Act.put, List.setIfInBounds_toArray, List.set_cons_zero, List.set_cons_succ])
      apply wpAnyL_take (i := 35)
      · simp only [List.getElem?_toArray, List.getElem?_cons_succ, List.getElem?_cons_zero]; exact rfl
      refine ⟨⟨by kernel_rfl, by kernel_rfl, by kernel_rfl, by kernel_rfl, by kernel_rfl⟩, fun _ _ _ h => h, ?_, k_7, ?_⟩
      · intro w hSw; (try dsimp only at hSw); go_simp; all_goals (with_reducible rfl)
      (try simp only [Act.put, List.setIfInBounds_toArray, List.set_cons_zero, List.set_cons_succ])
      apply wpAnyL_take (i := 36)
      · simp only [List.getElem?_toArray, List.getElem?_cons_succ, List.getElem?_cons_zero]; exact rfl
      refine ⟨⟨by kernel_rfl, by kernel_rfl, by kernel_rfl, by kernel_rfl, by kernel_rfl⟩, fun _ _ _ h => h, ?_, k_7, ?_⟩
      · intro w hSw; (try dsimp only at hSw); go_simp; all_goals (with_reducible rfl)
      (try simp only [Act.put, List.setIfInBounds_toArray, List.set_cons_zero, List.set_cons_succ])
      apply wpAnyL_take (i := 37)
      · simp only [List.getElem?_toArray, List.getElem?_cons_succ, List.getElem?_cons_zero]; exact rfl
      refine ⟨⟨by kernel_rfl, by kernel_rfl, by kernel_rfl, by kernel_rfl, by kernel_rfl⟩, fun _ _ _ h => h, ?_, k_7, ?_⟩
      · intro w hSw; (try dsimp only at hSw); go_simp; all_goals (with_reducible rfl)
      (try simp only [Act.put, List.setIfInBounds_toArray, List.set_cons_zero, List.set_cons_succ])
      apply wpAnyL_take (i := 38)
      · simp only [List.getElem?_toArray, List.getElem?_cons_succ, List.getElem?_cons_zero]; exact rfl
      refine ⟨⟨by kernel_rfl, by kernel_rfl, by kernel_rfl, by kernel_rfl, by kernel_rfl⟩, fun _ _ _ h => h, ?_, k_7, ?_⟩
      · intro w hSw; (try dsimp only at hSw); go_simp; all_goals (with_reducible rfl)
      (try simp only [Act.put, List.setIfInBounds_toArray, List.set_cons_zero, List.set_cons_succ])
      apply wpAnyL_take (i := 39)
      · simp only [List.getElem?_toArray, List.getElem?_cons_succ, List.getElem?_cons_zero]; exact rfl
      refine ⟨⟨by kernel_rfl, by kernel_rfl, by kernel_rfl, by kernel_rfl, by kernel_rfl⟩, fun _ _ _ h => h, ?_, k_7, ?_⟩
      · intro w hSw; (try dsimp only at hSw); go_simp; all_goals (with_reducible rfl)
      (try simp only [Act.put, List.setIfInBounds_toArray, List.set_cons_zero, List.set_cons_succ])
      apply wpAnyL_one (i := 40)
      · simp only [List.getElem?_toArray, List.getElem?_cons_succ, List.getElem?_cons_zero]; exact rfl
      refine ⟨by kernel_rfl, fun K hK => ?_⟩
      go_simp
      go_at_call 16
      refine (implCovers_is n c n' c' m d m' d' _ _ _ _ A A' P P' xs ys us vs _ HCV.out (I_x.out).X (I_x.out).Y (I_p.out).X (I_p.out).Y (Nat.le_trans mn.2 (by decide)) (Nat.le_trans mn'.2 (by decide)) (Nat.le_trans mp.2 (by decide)) (Nat.le_trans mp'.2 (by decide))).mono ?_
      rintro e W5r5r8 ⟨rfl, br8⟩
      replace L_a := Lib.hid (L_a.out.kept br8 L_a.out.inside)
      replace L_b := Lib.hid (L_b.out.kept br8 L_b.out.inside)
      replace L_u := Lib.hid (L_u.out.kept br8 L_u.out.inside)
      replace L_x := Lib.hid (L_x.out.kept br8 L_x.out.inside)
      replace L_y := Lib.hid (L_y.out.kept br8 L_y.out.inside)
      replace I_x := Lib.hid (I_x.out.kept br8)
      replace I_p := Lib.hid (I_p.out.kept br8)
      replace I_f := Lib.hid (I_f.out.kept br8)
      replace I_u := Lib.hid (I_u.out.kept br8)
      replace I_v := Lib.hid (I_v.out.kept br8)
      replace B := Lib.hid (B.out.trans (br8.mono B.out.size))
      clear br8
      have k_8 : W5r5r8.cell? ⟨W1.heap.size, 0, none⟩ = some (.slice A n c) ∧ W5r5r8.cell? ⟨W1.heap.size, 1, none⟩ = some (.slice A' n' c') ∧ W5r5r8.cell? ⟨W1.heap.size + 1, 0, none⟩ = some (.slice P m d) ∧ W5r5r8.cell? ⟨W1.heap.size + 1, 1, none⟩ = some (.slice P' m' d') ∧ W5r5r8.cell? ⟨W3.heap.size, 0, none⟩ = some (.int .i64 0) ∧ W5r5r8.cell? ⟨W3.heap.size, 1, none⟩ = some (.slice (some ⟨g, 0, none⟩) n n) ∧ W5r5r8.cell? ⟨W3.heap.size, 2, none⟩ = some (.slice (some ⟨g', 0, none⟩) n n) := ⟨L_a.out.cell 0, L_a.out.cell 1, L_b.out.cell 0, L_b.out.cell 1, L_u.out.cell 0, L_u.out.cell 1, L_u.out.cell 2⟩
      refine hK.out _ _ (fun _ => k_8) ?_
      clear hK K k_7
      (try simp only [Act.put, List.setIfInBounds_toArray, List.set_cons_zero, List.set_cons_succ])
      apply wpAnyL_take (i := 41)
      · simp only [List.getElem?_toArray, List.getElem?_cons_succ, List.getElem?_cons_zero]; exact rfl
      refine ⟨⟨by kernel_rfl, by kernel_rfl, by kernel_rfl, by kernel_rfl, by kernel_rfl⟩, fun _ _ _ h => h, ?_, k_8, ?_⟩
      · intro w hSw; (try dsimp only at hSw); go_simp; all_goals (with_reducible rfl)
      (try simp only [Act.put, List.setIfInBounds_toArray, List.set_cons_zero, List.set_cons_succ])
      apply wpAnyL_take (i := 42)
      · simp only [List.getElem?_toArray, List.getElem?_cons_succ, List.getElem?_cons_zero]; exact rfl
      refine ⟨⟨by kernel_rfl, by kernel_rfl, by kernel_rfl, by kernel_rfl, by kernel_rfl⟩, fun _ _ _ h => h, ?_, k_8, ?_⟩
      · intro w hSw; (try dsimp only at hSw); go_simp; all_goals (with_reducible rfl)
      (try simp only [Act.put, List.setIfInBounds_toArray, List.set_cons_zero, List.set_cons_succ])
      apply wpAnyL_take (i := 43)
      · simp only [List.getElem?_toArray, List.getElem?_cons_succ, List.getElem?_cons_zero]; exact rfl
      refine ⟨⟨by kernel_rfl, by kernel_rfl, by kernel_rfl, by kernel_rfl, by kernel_rfl⟩, fun _ _ _ h => h, ?_, k_8, ?_⟩
      · intro w hSw; (try dsimp only at hSw); go_simp; all_goals (with_reducible rfl)
      (try simp only [Act.put, List.setIfInBounds_toArray, List.set_cons_zero, List.set_cons_succ])
      apply wpAnyL_take (i := 44)
      · simp only [List.getElem?_toArray, List.getElem?_cons_succ, List.getElem?_cons_zero]; exact rfl
      refine ⟨⟨by kernel_rfl, by kernel_rfl, by kernel_rfl, by kernel_rfl, by kernel_rfl⟩, fun _ _ _ h => h, ?_, k_8, ?_⟩
      · intro w hSw; (try dsimp only at hSw); go_simp; all_goals (with_reducible rfl)
      (try simp only [Act.put, List.setIfInBounds_toArray, List.set_cons_zero, List.set_cons_succ])
      apply wpAnyL_one (i := 45)
      · simp only [List.getElem?_toArray, List.getElem?_cons_succ, List.getElem?_cons_zero]; exact rfl
      refine ⟨by kernel_rfl, fun K hK => ?_⟩
      go_simp
      go_at_call 14
      refine (implMeets_be n c n' c' m d m' d' _ _ _ _ A A' P P' xs ys us vs _ HM.out (I_x.out).X (I_x.out).Y (I_p.out).X (I_p.out).Y (Nat.le_trans mn.2 (by decide)) (Nat.le_trans mn'.2 (by decide)) (Nat.le_trans mp.2 (by decide)) (Nat.le_trans mp'.2 (by decide))).mono ?_
      rintro e W5r5r9 ⟨rfl, br9⟩
      replace L_a := Lib.hid (L_a.out.kept br9 L_a.out.inside)
      replace L_b := Lib.hid (L_b.out.kept br9 L_b.out.inside)
      replace L_u := Lib.hid (L_u.out.kept br9 L_u.out.inside)
      replace L_x := Lib.hid (L_x.out.kept br9 L_x.out.inside)
      replace L_y := Lib.hid (L_y.out.kept br9 L_y.out.inside)
      replace I_x := Lib.hid (I_x.out.kept br9)
      replace I_p := Lib.hid (I_p.out.kept br9)
      replace I_f := Lib.hid (I_f.out.kept br9)
      replace I_u := Lib.hid (I_u.out.kept br9)
      replace I_v := Lib.hid (I_v.out.kept br9)
      replace B := Lib.hid (B.out.trans (br9.mono B.out.size))
      clear br9
      have k_9 : W5r5r9.cell? ⟨W1.heap.size, 0, none⟩ = some (.slice A n c) ∧ W5r5r9.cell? ⟨W1.heap.size, 1, none⟩ = some (.slice A' n' c') ∧ W5r5r9.cell? ⟨W1.heap.size + 1, 0, none⟩ = some (.slice P m d) ∧ W5r5r9.cell? ⟨W1.heap.size + 1, 1, none⟩ = some (.slice P' m' d') ∧ W5r5r9.cell? ⟨W3.heap.size, 0, none⟩ = some (.int .i64 0) ∧ W5r5r9.cell? ⟨W3.heap.size, 1, none⟩ = some (.slice (some ⟨g, 0, none⟩) n n) ∧ W5r5r9.cell? ⟨W3.heap.size, 2, none⟩ = some (.slice (some ⟨g', 0, none⟩) n n) := ⟨L_a.out.cell 0, L_a.out.cell 1, L_b.out.cell 0, L_b.out.cell 1, L_u.out.cell 0, L_u.out.cell 1, L_u.out.cell 2⟩
      refine hK.out _ _ (fun _ => k_9) ?_
      clear hK K k_8
      (try simp only [Act.put, List.setIfInBounds_toArray, List.set_cons_zero, List.set_cons_succ])
      apply wpAnyL_take (i := 46)
      · simp only [List.getElem?_toArray, List.getElem?_cons_succ, List.getElem?_cons_zero]; exact rfl
      refine ⟨⟨by kernel_rfl, by kernel_rfl, by kernel_rfl, by kernel_rfl, by kernel_rfl⟩, fun _ _ _ h => h, ?_, k_9, ?_⟩
      · intro w hSw; (try dsimp only at hSw); go_simp; all_goals (with_reducible rfl)
      (try simp only [Act.put, List.setIfInBounds_toArray, List.set_cons_zero, List.set_cons_succ])
      apply wpAnyL_take (i := 47)
      · simp only [List.getElem?_toArray, List.getElem?_cons_succ, List.getElem?_cons_zero]; exact rfl
      refine ⟨⟨by kernel_rfl, by kernel_rfl, by kernel_rfl, by kernel_rfl, by kernel_rfl⟩, fun _ _ _ h => h, ?_, k_9, ?_⟩
      · intro w hSw; (try dsimp only at hSw); go_simp; all_goals (with_reducible rfl)
      (try simp only [Act.put, List.setIfInBounds_toArray, List.set_cons_zero, List.set_cons_succ])
      apply wpAnyL_take (i := 48)
      · simp only [List.getElem?_toArray, List.getElem?_cons_succ, List.getElem?_cons_zero]; exact rfl
      refine ⟨⟨by kernel_rfl, by kernel_rfl, by kernel_rfl, by kernel_rfl, by kernel_rfl⟩, fun _ _ _ h => h, ?_, k_9, ?_⟩
      · intro w hSw; (try dsimp only at hSw); go_simp; all_goals (with_reducible rfl)
      (try simp only [Act.put, List.setIfInBounds_toArray, List.set_cons_zero, List.set_cons_succ])
      apply wpAnyL_take (i := 49)
      · simp only [List.getElem?_toArray, List.getElem?_cons_succ, List.getElem?_cons_zero]; exact rfl
      refine ⟨⟨by kernel_rfl, by kernel_rfl, by kernel_rfl, by kernel_rfl, by kernel_rfl⟩, fun _ _ _ h => h, ?_, k_9, ?_⟩
      · intro w hSw; (try dsimp only at hSw); go_simp; all_goals (with_reducible rfl)
      (try simp only [Act.put, List.setIfInBounds_toArray, List.set_cons_zero, List.set_cons_succ])
      apply wpAnyL_one (i := 50)
      · simp only [List.getElem?_toArray, List.getElem?_cons_succ, List.getElem?_cons_zero]; exact rfl
      refine ⟨by kernel_rfl, fun K hK => ?_⟩
      go_simp
      go_at_call 19
      refine (implSameRects_be n n n n n c n' c' _ _ _ _ (some ⟨g, 0, none⟩) (some ⟨g', 0, none⟩) A A' (mins xs us) (maxs ys vs) xs ys _ PS.out (I_f.out).X (I_f.out).Y (I_x.out).X (I_x.out).Y (Nat.le_trans mn.2 (by decide)) (Nat.le_trans mn.2 (by decide)) (Nat.le_trans mn.2 (by decide)) (Nat.le_trans mn'.2 (by decide))).mono ?_
      rintro e W5r5r10 ⟨rfl, br10⟩
      replace L_a := Lib.hid (L_a.out.kept br10 L_a.out.inside)
      replace L_b := Lib.hid (L_b.out.kept br10 L_b.out.inside)
      replace L_u := Lib.hid (L_u.out.kept br10 L_u.out.inside)
      replace L_x := Lib.hid (L_x.out.kept br10 L_x.out.inside)
      replace L_y := Lib.hid (L_y.out.kept br10 L_y.out.inside)
      replace I_x := Lib.hid (I_x.out.kept br10)
      replace I_p := Lib.hid (I_p.out.kept br10)
      replace I_f := Lib.hid (I_f.out.kept br10)
      replace I_u := Lib.hid (I_u.out.kept br10)
      replace I_v := Lib.hid (I_v.out.kept br10)
      replace B := Lib.hid (B.out.trans (br10.mono B.out.size))
      clear br10
      have k_10 : W5r5r10.cell? ⟨W1.heap.size, 0, none⟩ = some (.slice A n c) ∧ W5r5r10.cell? ⟨W1.heap.size, 1, none⟩ = some (.slice A' n' c') ∧ W5r5r10.cell? ⟨W1.heap.size + 1, 0, none⟩ = some (.slice P m d) ∧ W5r5r10.cell? ⟨W1.heap.size + 1, 1, none⟩ = some (.slice P' m' d') ∧ W5r5r10.cell? ⟨W3.heap.size, 0, none⟩ = some (.int .i64 0) ∧ W5r5r10.cell? ⟨W3.heap.size, 1, none⟩ = some (.slice (some ⟨g, 0, none⟩) n n) ∧ W5r5r10.cell? ⟨W3.heap.size, 2, none⟩ = some (.slice (some ⟨g', 0, none⟩) n n) := ⟨L_a.out.cell 0, L_a.out.cell 1, L_b.out.cell 0, L_b.out.cell 1, L_u.out.cell 0, L_u.out.cell 1, L_u.out.cell 2⟩
      refine hK.out _ _ (fun _ => k_10) ?_
      clear hK K k_9
      (try simp only [Act.put, List.setIfInBounds_toArray, List.set_cons_zero, List.set_cons_succ])
      apply wpAnyL_take (i := 51)
      · simp only [List.getElem?_toArray, List.getElem?_cons_succ, List.getElem?_cons_zero]; exact rfl
      refine ⟨⟨by kernel_rfl, by kernel_rfl, by kernel_rfl, by kernel_rfl, by kernel_rfl⟩, fun _ _ _ h => h, ?_, k_10, ?_⟩
      · intro w hSw; (try dsimp only at hSw); go_simp; all_goals (with_reducible rfl)
      (try simp only [Act.put, List.setIfInBounds_toArray, List.set_cons_zero, List.set_cons_succ])
      apply wpAnyL_take (i := 52)
      · simp only [List.getElem?_toArray, List.getElem?_cons_succ, List.getElem?_cons_zero]; exact rfl
      refine ⟨⟨by kernel_rfl, by kernel_rfl, by kernel_rfl, by kernel_rfl, by kernel_rfl⟩, fun _ _ _ h => h, ?_, k_10, ?_⟩
      · intro w hSw; (try dsimp only at hSw); go_simp; all_goals (with_reducible rfl)
      (try simp only [Act.put, List.setIfInBounds_toArray, List.set_cons_zero, List.set_cons_succ])
      apply wpAnyL_take (i := 53)
      · simp only [List.getElem?_toArray, List.getElem?_cons_succ, List.getElem?_cons_zero]; exact rfl
      refine ⟨⟨by kernel_rfl, by kernel_rfl, by kernel_rfl, by kernel_rfl, by kernel_rfl⟩, fun _ _ _ h => h, ?_, k_10, ?_⟩
      · intro w hSw; (try dsimp only at hSw); go_simp; all_goals (with_reducible rfl)
      (try simp only [Act.put, List.setIfInBounds_toArray, List.set_cons_zero, List.set_cons_succ])
      apply wpAnyL_take (i := 54)
      · simp only [List.getElem?_toArray, List.getElem?_cons_succ, List.getElem?_cons_zero]; exact rfl
      refine ⟨⟨by kernel_rfl, by kernel_rfl, by kernel_rfl, by kernel_rfl, by kernel_rfl⟩, fun _ _ _ h => h, ?_, k_10, ?_⟩
      · intro w hSw; (try dsimp only at hSw); go_simp; all_goals (with_reducible rfl)
      (try simp only [Act.put, List.setIfInBounds_toArray, List.set_cons_zero, List.set_cons_succ])
      refine wpAnyL_done (by kernel_rfl) ?_ _
      clear k_10
      go_wp2
      go_ret
      exact ⟨by first | rfl | kernel_rfl | simp, B.out⟩
  · have HNZ := Lib.hid hcd
    have hcd2 : (cd != 0) = true := by simpa using hcd
    have hmf : mt = false := by rw [← HM.out]; exact meets_no (by rw [HC.out]; exact hcd)
    subst hmf
    have c_a0 : W2.cell? ⟨W1.heap.size, 0, none⟩ = some (.slice A n c) := L_a.out.cell 0
    have c_a1 : W2.cell? ⟨W1.heap.size, 1, none⟩ = some (.slice A' n' c') := L_a.out.cell 1
    have c_b0 : W2.cell? ⟨W1.heap.size + 1, 0, none⟩ = some (.slice P m d) := L_b.out.cell 0
    have c_b1 : W2.cell? ⟨W1.heap.size + 1, 1, none⟩ = some (.slice P' m' d') := L_b.out.cell 1
    go_wp2_with fail
    clear c_a0 c_a1 c_b0 c_b1
    refine (implUnionOf_no n c n' c' m d m' d' _ _ _ _ A A' P P' xs ys us vs _ HC.out hcd (I_x.out).X (I_x.out).Y (I_p.out).X (I_p.out).Y (Nat.le_trans mn.2 (by decide)) (Nat.le_trans mn'.2 (by decide)) (Nat.le_trans mp.2 (by decide)) (Nat.le_trans mp'.2 (by decide))).mono ?_
    rintro e W3 ⟨rfl, b3⟩
    replace L_a := Lib.hid (L_a.out.kept b3 L_a.out.inside)
    replace L_b := Lib.hid (L_b.out.kept b3 L_b.out.inside)
    replace I_x := Lib.hid (I_x.out.kept b3)
    replace I_p := Lib.hid (I_p.out.kept b3)
    replace HZ := Lib.hid (HZ.out.kept b3 B.out.size)
    replace B := Lib.hid (B.out.trans (b3.mono B.out.size))
    clear b3
    have b_u := below_alloc W3 (.cells #[.int .i64 cd, .slice none 0 0, .slice none 0 0] 30)
    have N_u := Lib.hid (Lies.new W3 30 #[.int .i64 cd, .slice none 0 0, .slice none 0 0])
    replace L_a := Lib.hid (L_a.out.kept b_u L_a.out.inside)
    replace L_b := Lib.hid (L_b.out.kept b_u L_b.out.inside)
    replace I_x := Lib.hid (I_x.out.kept b_u)
    replace I_p := Lib.hid (I_p.out.kept b_u)
    replace HZ := Lib.hid (HZ.out.kept b_u B.out.size)
    replace B := Lib.hid (B.out.trans (b_u.mono B.out.size))
    clear b_u
    have L_u := Lib.hid N_u.out
    clear N_u
    go_wp2_with fail
    refine (drawCovers_any w.heap.size n0 c0 A0 zs _ HZ.out B.out.size hn0).mono ?_
    rintro e W4 ⟨U, U', V, V', q, e1, q', e2, v, e3, v', e4, ks, ks', ls, ls', rfl, UI, VI, b4⟩
    have I_u := Lib.hid UI
    have I_v := Lib.hid VI
    have mu := UI.n1
    have mu' := UI.n2
    have mv := VI.n1
    have mv' := VI.n2
    clear UI VI
    replace L_a := Lib.hid (L_a.out.kept b4 L_a.out.inside)
    replace L_b := Lib.hid (L_b.out.kept b4 L_b.out.inside)
    replace L_u := Lib.hid (L_u.out.kept b4 L_u.out.inside)
    replace I_x := Lib.hid (I_x.out.kept b4)
    replace I_p := Lib.hid (I_p.out.kept b4)
    replace HZ := Lib.hid (HZ.out.kept b4 B.out.size)
    replace B := Lib.hid (B.out.trans (b4.mono B.out.size))
    clear b4
    clear HZ
    obtain ⟨cv2, hcv2⟩ : ∃ b, coversF ks ks' ls ls' = b := ⟨_, rfl⟩
    have HV := Lib.hid hcv2
    clear hcv2
    have b_x := below_alloc W4 (.cells #[.slice U q e1, .slice U' q' e2] 26)
    have N_x := Lib.hid (Lies.new W4 26 #[.slice U q e1, .slice U' q' e2])
    replace L_a := Lib.hid (L_a.out.kept b_x L_a.out.inside)
    replace L_b := Lib.hid (L_b.out.kept b_x L_b.out.inside)
    replace L_u := Lib.hid (L_u.out.kept b_x L_u.out.inside)
    replace I_x := Lib.hid (I_x.out.kept b_x)
    replace I_p := Lib.hid (I_p.out.kept b_x)
    replace I_u := Lib.hid (I_u.out.kept b_x)
    replace I_v := Lib.hid (I_v.out.kept b_x)
    replace B := Lib.hid (B.out.trans (b_x.mono B.out.size))
    clear b_x
    have L_x := Lib.hid N_x.out
    clear N_x
    have b_y := below_alloc (W4.alloc (.cells #[.slice U q e1, .slice U' q' e2] 26)) (.cells #[.slice V v e3, .slice V' v' e4] 26)
    have N_y := Lib.hid (Lies.laid2 W4 (.cells #[.slice U q e1, .slice U' q' e2] 26) 26 #[.slice V v e3, .slice V' v' e4])
    replace L_a := Lib.hid (L_a.out.kept b_y L_a.out.inside)
    replace L_b := Lib.hid (L_b.out.kept b_y L_b.out.inside)
    replace L_u := Lib.hid (L_u.out.kept b_y L_u.out.inside)
    replace L_x := Lib.hid (L_x.out.kept b_y L_x.out.inside)
    replace I_x := Lib.hid (I_x.out.kept b_y)
    replace I_p := Lib.hid (I_p.out.kept b_y)
    replace I_u := Lib.hid (I_u.out.kept b_y)
    replace I_v := Lib.hid (I_v.out.kept b_y)
    replace B := Lib.hid (B.out.trans (b_y.mono B.out.size))
    clear b_y
    have L_y := Lib.hid N_y.out
    clear N_y
    go_upto_region 6 with fail
    generalize hW : ((W4.alloc (.cells #[.slice U q e1, .slice U' q' e2] 26)).alloc (.cells #[.slice V v e3, .slice V' v' e4] 26)) = W5 at *
    clear hW
    have c_a0 : W5.cell? ⟨W1.heap.size, 0, none⟩ = some (.slice A n c) := L_a.out.cell 0
    have c_a1 : W5.cell? ⟨W1.heap.size, 1, none⟩ = some (.slice A' n' c') := L_a.out.cell 1
    have c_b0 : W5.cell? ⟨W1.heap.size + 1, 0, none⟩ = some (.slice P m d) := L_b.out.cell 0
    have c_b1 : W5.cell? ⟨W1.heap.size + 1, 1, none⟩ = some (.slice P' m' d') := L_b.out.cell 1
    have c_u0 : W5.cell? ⟨W3.heap.size, 0, none⟩ = some (.int .i64 cd) := L_u.out.cell 0
    have c_u1 : W5.cell? ⟨W3.heap.size, 1, none⟩ = some (.slice none 0 0) := L_u.out.cell 1
    have c_u2 : W5.cell? ⟨W3.heap.size, 2, none⟩ = some (.slice none 0 0) := L_u.out.cell 2
    have c_x0 : W5.cell? ⟨W4.heap.size, 0, none⟩ = some (.slice U q e1) := L_x.out.cell 0
    have c_x1 : W5.cell? ⟨W4.heap.size, 1, none⟩ = some (.slice U' q' e2) := L_x.out.cell 1
    have c_y0 : W5.cell? ⟨W4.heap.size + 1, 0, none⟩ = some (.slice V v e3) := L_y.out.cell 0
    have c_y1 : W5.cell? ⟨W4.heap.size + 1, 1, none⟩ = some (.slice V' v' e4) := L_y.out.cell 1
    go_upto_region 6 with fail
    refine wp_region_last 25 (fun w' => w'.cell? ⟨W1.heap.size, 0, none⟩ = some (.slice A n c) ∧ w'.cell? ⟨W1.heap.size, 1, none⟩ = some (.slice A' n' c') ∧ w'.cell? ⟨W1.heap.size + 1, 0, none⟩ = some (.slice P m d) ∧ w'.cell? ⟨W1.heap.size + 1, 1, none⟩ = some (.slice P' m' d') ∧ w'.cell? ⟨W3.heap.size, 0, none⟩ = some (.int .i64 cd) ∧ w'.cell? ⟨W3.heap.size, 1, none⟩ = some (.slice none 0 0) ∧ w'.cell? ⟨W3.heap.size, 2, none⟩ = some (.slice none 0 0) ∧ w'.cell? ⟨W4.heap.size, 0, none⟩ = some (.slice U q e1) ∧ w'.cell? ⟨W4.heap.size, 1, none⟩ = some (.slice U' q' e2) ∧ w'.cell? ⟨W4.heap.size + 1, 0, none⟩ = some (.slice V v e3) ∧ w'.cell? ⟨W4.heap.size + 1, 1, none⟩ = some (.slice V' v' e4)) (by kernel_rfl) (⟨L_a.out.drew.cell 0, L_a.out.drew.cell 1, L_b.out.drew.cell 0, L_b.out.drew.cell 1, L_u.out.drew.cell 0, L_u.out.drew.cell 1, L_u.out.drew.cell 2, L_x.out.drew.cell 0, L_x.out.drew.cell 1, L_y.out.drew.cell 0, L_y.out.drew.cell 1⟩) (fun hHeld => ?_)
    clear c_a0 c_a1 c_b0 c_b1 c_u0 c_u1 c_u2 c_x0 c_x1 c_y0 c_y1
    apply wpAnyL_take (i := 0)
    · simp only [List.getElem?_toArray, List.getElem?_cons_succ, List.getElem?_cons_zero]; exact rfl
    refine ⟨⟨by kernel_rfl, by kernel_rfl, by kernel_rfl, by kernel_rfl, by kernel_rfl⟩, fun _ _ _ h => h, ?_, hHeld, ?_⟩
    · intro w hSw; (try dsimp only at hSw); go_simp; all_goals (with_reducible rfl)
    (try simp only [Act.put, List.setIfInBounds_toArray, List.set_cons_zero, List.set_cons_succ])
    apply wpAnyL_take (i := 1)
    · simp only [List.getElem?_toArray, List.getElem?_cons_succ, List.getElem?_cons_zero]; exact rfl
    refine ⟨⟨by kernel_rfl, by kernel_rfl, by kernel_rfl, by kernel_rfl, by kernel_rfl⟩, fun _ _ _ h => h, ?_, hHeld, ?_⟩
    · intro w hSw; (try dsimp only at hSw); go_simp; all_goals (with_reducible rfl)
    (try simp only [Act.put, List.setIfInBounds_toArray, List.set_cons_zero, List.set_cons_succ])
    apply wpAnyL_take (i := 2)
    · simp only [List.getElem?_toArray, List.getElem?_cons_succ, List.getElem?_cons_zero]; exact rfl
    refine ⟨⟨by kernel_rfl, by kernel_rfl, by kernel_rfl, by kernel_rfl, by kernel_rfl⟩, fun _ _ _ h => h, ?_, hHeld, ?_⟩
    · intro w hSw; (try dsimp only at hSw); go_simp; all_goals (with_reducible rfl)
    (try simp only [Act.put, List.setIfInBounds_toArray, List.set_cons_zero, List.set_cons_succ])
    apply wpAnyL_take (i := 3)
    · simp only [List.getElem?_toArray, List.getElem?_cons_succ, List.getElem?_cons_zero]; exact rfl
    refine ⟨⟨by kernel_rfl, by kernel_rfl, by kernel_rfl, by kernel_rfl, by kernel_rfl⟩, fun _ _ _ h => h, ?_, hHeld, ?_⟩
    · intro w hSw; (try dsimp only at hSw); go_simp; all_goals (with_reducible rfl)
    (try simp only [Act.put, List.setIfInBounds_toArray, List.set_cons_zero, List.set_cons_succ])
    apply wpAnyL_one (i := 4)
    · simp only [List.getElem?_toArray, List.getElem?_cons_succ, List.getElem?_cons_zero]; exact rfl
    refine ⟨by kernel_rfl, fun K hK => ?_⟩
    go_simp
    go_at_call 13
    refine (specUnionOf_code n c n' c' m d m' d' _ _ _ _ A A' P P' xs ys us vs _ HC.out (I_x.out.drew).X (I_x.out.drew).Y (I_p.out.drew).X (I_p.out.drew).Y (Nat.le_trans mn.2 (by decide)) (Nat.le_trans mn'.2 (by decide)) (Nat.le_trans mp.2 (by decide)) (Nat.le_trans mp'.2 (by decide))).mono ?_
    rintro e W5r1 ⟨u1, u2, rfl, br1d⟩
    have br1 := below_drawn br1d
    clear br1d
    replace L_a := Lib.hid (L_a.out.kept br1 L_a.out.inside)
    replace L_b := Lib.hid (L_b.out.kept br1 L_b.out.inside)
    replace L_u := Lib.hid (L_u.out.kept br1 L_u.out.inside)
    replace L_x := Lib.hid (L_x.out.kept br1 L_x.out.inside)
    replace L_y := Lib.hid (L_y.out.kept br1 L_y.out.inside)
    replace I_x := Lib.hid (I_x.out.kept br1)
    replace I_p := Lib.hid (I_p.out.kept br1)
    replace I_u := Lib.hid (I_u.out.kept br1)
    replace I_v := Lib.hid (I_v.out.kept br1)
    replace B := Lib.hid (B.out.trans (br1.mono B.out.size))
    clear br1
    have k_1 : W5r1.cell? ⟨W1.heap.size, 0, none⟩ = some (.slice A n c) ∧ W5r1.cell? ⟨W1.heap.size, 1, none⟩ = some (.slice A' n' c') ∧ W5r1.cell? ⟨W1.heap.size + 1, 0, none⟩ = some (.slice P m d) ∧ W5r1.cell? ⟨W1.heap.size + 1, 1, none⟩ = some (.slice P' m' d') ∧ W5r1.cell? ⟨W3.heap.size, 0, none⟩ = some (.int .i64 cd) ∧ W5r1.cell? ⟨W3.heap.size, 1, none⟩ = some (.slice none 0 0) ∧ W5r1.cell? ⟨W3.heap.size, 2, none⟩ = some (.slice none 0 0) ∧ W5r1.cell? ⟨W4.heap.size, 0, none⟩ = some (.slice U q e1) ∧ W5r1.cell? ⟨W4.heap.size, 1, none⟩ = some (.slice U' q' e2) ∧ W5r1.cell? ⟨W4.heap.size + 1, 0, none⟩ = some (.slice V v e3) ∧ W5r1.cell? ⟨W4.heap.size + 1, 1, none⟩ = some (.slice V' v' e4) := ⟨L_a.out.cell 0, L_a.out.cell 1, L_b.out.cell 0, L_b.out.cell 1, L_u.out.cell 0, L_u.out.cell 1, L_u.out.cell 2, L_x.out.cell 0, L_x.out.cell 1, L_y.out.cell 0, L_y.out.cell 1⟩
    refine hK.out _ _ (fun _ => k_1) ?_
    clear hK K hHeld
    (try simp only [Act.put, List.setIfInBounds_toArray, List.set_cons_zero, List.set_cons_succ])
    apply wpAnyL_take (i := 5)
    · simp only [List.getElem?_toArray, List.getElem?_cons_succ, List.getElem?_cons_zero]; exact rfl
    refine ⟨⟨by kernel_rfl, by kernel_rfl, by kernel_rfl, by kernel_rfl, by kernel_rfl⟩, fun _ _ _ h => h, ?_, k_1, ?_⟩
    · intro w hSw; (try dsimp only at hSw); go_simp; all_goals (with_reducible rfl)
    (try simp only [Act.put, List.setIfInBounds_toArray, List.set_cons_zero, List.set_cons_succ])
    apply wpAnyL_take (i := 6)
    · simp only [List.getElem?_toArray, List.getElem?_cons_succ, List.getElem?_cons_zero]; exact rfl
    refine ⟨⟨by kernel_rfl, by kernel_rfl, by kernel_rfl, by kernel_rfl, by kernel_rfl⟩, fun _ _ _ h => h, ?_, k_1, ?_⟩
    · intro w hSw; (try dsimp only at hSw); go_simp; all_goals (with_reducible rfl)
    (try simp only [Act.put, List.setIfInBounds_toArray, List.set_cons_zero, List.set_cons_succ])
    apply wpAnyL_take (i := 7)
    · simp only [List.getElem?_toArray, List.getElem?_cons_succ, List.getElem?_cons_zero]; exact rfl
    refine ⟨⟨by kernel_rfl, by kernel_rfl, by kernel_rfl, by kernel_rfl, by kernel_rfl⟩, fun _ _ _ h => h, ?_, k_1, ?_⟩
    · intro w hSw; (try dsimp only at hSw); go_simp; all_goals (with_reducible rfl)
    (try simp only [Act.put, List.setIfInBounds_toArray, List.set_cons_zero, List.set_cons_succ])
    apply wpAnyL_take (i := 8)
    · simp only [List.getElem?_toArray, List.getElem?_cons_succ, List.getElem?_cons_zero]; exact rfl
    refine ⟨⟨by kernel_rfl, by kernel_rfl, by kernel_rfl, by kernel_rfl, by kernel_rfl⟩, fun _ _ _ h => h, ?_, k_1, ?_⟩
    · intro w hSw; (try dsimp only at hSw); go_simp; all_goals (with_reducible rfl)
    (try simp only [Act.put, List.setIfInBounds_toArray, List.set_cons_zero, List.set_cons_succ])
    apply wpAnyL_take (i := 9)
    · simp only [List.getElem?_toArray, List.getElem?_cons_succ, List.getElem?_cons_zero]; exact rfl
    refine ⟨⟨by kernel_rfl, by kernel_rfl, by kernel_rfl, by kernel_rfl, by kernel_rfl⟩, fun _ _ _ h => h, ?_, k_1, ?_⟩
    · intro w hSw; (try dsimp only at hSw); go_simp; all_goals (with_reducible rfl)
    (try simp only [Act.put, List.setIfInBounds_toArray, List.set_cons_zero, List.set_cons_succ])
    apply wpAnyL_take (i := 11)
    · simp only [List.getElem?_toArray, List.getElem?_cons_succ, List.getElem?_cons_zero]; exact rfl
    refine ⟨⟨by kernel_rfl, by kernel_rfl, by kernel_rfl, by kernel_rfl, by kernel_rfl⟩, fun _ _ _ h => h, ?_, k_1, ?_⟩
    · intro w hSw; (try dsimp only at hSw); go_simp; all_goals (with_reducible rfl)
    (try simp only [Act.put, List.setIfInBounds_toArray, List.set_cons_zero, List.set_cons_succ])
    apply wpAnyL_take (i := 12)
    · simp only [List.getElem?_toArray, List.getElem?_cons_succ, List.getElem?_cons_zero]; exact rfl
    refine ⟨⟨by kernel_rfl, by kernel_rfl, by kernel_rfl, by kernel_rfl, by kernel_rfl⟩, fun _ _ _ h => h, ?_, k_1, ?_⟩
    · intro w hSw; (try dsimp only at hSw); go_simp; all_goals (with_reducible rfl)
    (try simp only [Act.put, List.setIfInBounds_toArray, List.set_cons_zero, List.set_cons_succ])
    apply wpAnyL_one (i := 10)
    · simp only [List.getElem?_toArray, List.getElem?_cons_succ, List.getElem?_cons_zero]; exact rfl
    refine ⟨by kernel_rfl, fun K hK => ?_⟩
    go_simp
    go_at_call 14
    refine (implMeets_be n c n' c' m d m' d' _ _ _ _ A A' P P' xs ys us vs _ HM.out (I_x.out).X (I_x.out).Y (I_p.out).X (I_p.out).Y (Nat.le_trans mn.2 (by decide)) (Nat.le_trans mn'.2 (by decide)) (Nat.le_trans mp.2 (by decide)) (Nat.le_trans mp'.2 (by decide))).mono ?_
    rintro e W5r2 ⟨rfl, br2⟩
    replace L_a := Lib.hid (L_a.out.kept br2 L_a.out.inside)
    replace L_b := Lib.hid (L_b.out.kept br2 L_b.out.inside)
    replace L_u := Lib.hid (L_u.out.kept br2 L_u.out.inside)
    replace L_x := Lib.hid (L_x.out.kept br2 L_x.out.inside)
    replace L_y := Lib.hid (L_y.out.kept br2 L_y.out.inside)
    replace I_x := Lib.hid (I_x.out.kept br2)
    replace I_p := Lib.hid (I_p.out.kept br2)
    replace I_u := Lib.hid (I_u.out.kept br2)
    replace I_v := Lib.hid (I_v.out.kept br2)
    replace B := Lib.hid (B.out.trans (br2.mono B.out.size))
    clear br2
    have k_2 : W5r2.cell? ⟨W1.heap.size, 0, none⟩ = some (.slice A n c) ∧ W5r2.cell? ⟨W1.heap.size, 1, none⟩ = some (.slice A' n' c') ∧ W5r2.cell? ⟨W1.heap.size + 1, 0, none⟩ = some (.slice P m d) ∧ W5r2.cell? ⟨W1.heap.size + 1, 1, none⟩ = some (.slice P' m' d') ∧ W5r2.cell? ⟨W3.heap.size, 0, none⟩ = some (.int .i64 cd) ∧ W5r2.cell? ⟨W3.heap.size, 1, none⟩ = some (.slice none 0 0) ∧ W5r2.cell? ⟨W3.heap.size, 2, none⟩ = some (.slice none 0 0) ∧ W5r2.cell? ⟨W4.heap.size, 0, none⟩ = some (.slice U q e1) ∧ W5r2.cell? ⟨W4.heap.size, 1, none⟩ = some (.slice U' q' e2) ∧ W5r2.cell? ⟨W4.heap.size + 1, 0, none⟩ = some (.slice V v e3) ∧ W5r2.cell? ⟨W4.heap.size + 1, 1, none⟩ = some (.slice V' v' e4) := ⟨L_a.out.cell 0, L_a.out.cell 1, L_b.out.cell 0, L_b.out.cell 1, L_u.out.cell 0, L_u.out.cell 1, L_u.out.cell 2, L_x.out.cell 0, L_x.out.cell 1, L_y.out.cell 0, L_y.out.cell 1⟩
    refine hK.out _ _ (fun _ => k_2) ?_
    clear hK K k_1
    (try simp only [Act.put, List.setIfInBounds_toArray, List.set_cons_zero, List.set_cons_succ])
    apply wpAnyL_one (i := 13)
    · simp only [List.getElem?_toArray, List.getElem?_cons_succ, List.getElem?_cons_zero]; exact rfl
    refine ⟨by kernel_rfl, fun K hK => ?_⟩
    go_simp
    go_at_call 15
    refine (specMeets_be n c n' c' m d m' d' _ _ _ _ A A' P P' xs ys us vs _ HM.out (I_x.out).X (I_x.out).Y (I_p.out).X (I_p.out).Y (Nat.le_trans mn.2 (by decide)) (Nat.le_trans mn'.2 (by decide)) (Nat.le_trans mp.2 (by decide)) (Nat.le_trans mp'.2 (by decide))).mono ?_
    rintro e W5r3 ⟨rfl, br3⟩
    replace L_a := Lib.hid (L_a.out.kept br3 L_a.out.inside)
    replace L_b := Lib.hid (L_b.out.kept br3 L_b.out.inside)
    replace L_u := Lib.hid (L_u.out.kept br3 L_u.out.inside)
    replace L_x := Lib.hid (L_x.out.kept br3 L_x.out.inside)
    replace L_y := Lib.hid (L_y.out.kept br3 L_y.out.inside)
    replace I_x := Lib.hid (I_x.out.kept br3)
    replace I_p := Lib.hid (I_p.out.kept br3)
    replace I_u := Lib.hid (I_u.out.kept br3)
    replace I_v := Lib.hid (I_v.out.kept br3)
    replace B := Lib.hid (B.out.trans (br3.mono B.out.size))
    clear br3
    have k_3 : W5r3.cell? ⟨W1.heap.size, 0, none⟩ = some (.slice A n c) ∧ W5r3.cell? ⟨W1.heap.size, 1, none⟩ = some (.slice A' n' c') ∧ W5r3.cell? ⟨W1.heap.size + 1, 0, none⟩ = some (.slice P m d) ∧ W5r3.cell? ⟨W1.heap.size + 1, 1, none⟩ = some (.slice P' m' d') ∧ W5r3.cell? ⟨W3.heap.size, 0, none⟩ = some (.int .i64 cd) ∧ W5r3.cell? ⟨W3.heap.size, 1, none⟩ = some (.slice none 0 0) ∧ W5r3.cell? ⟨W3.heap.size, 2, none⟩ = some (.slice none 0 0) ∧ W5r3.cell? ⟨W4.heap.size, 0, none⟩ = some (.slice U q e1) ∧ W5r3.cell? ⟨W4.heap.size, 1, none⟩ = some (.slice U' q' e2) ∧ W5r3.cell? ⟨W4.heap.size + 1, 0, none⟩ = some (.slice V v e3) ∧ W5r3.cell? ⟨W4.heap.size + 1, 1, none⟩ = some (.slice V' v' e4) := ⟨L_a.out.cell 0, L_a.out.cell 1, L_b.out.cell 0, L_b.out.cell 1, L_u.out.cell 0, L_u.out.cell 1, L_u.out.cell 2, L_x.out.cell 0, L_x.out.cell 1, L_y.out.cell 0, L_y.out.cell 1⟩
    refine hK.out _ _ (fun _ => k_3) ?_
    clear hK K k_2
    (try simp only [Act.put, List.setIfInBounds_toArray, List.set_cons_zero, List.set_cons_succ])
    apply wpAnyL_take (i := 14)
    · simp only [List.getElem?_toArray, List.getElem?_cons_succ, List.getElem?_cons_zero]; exact rfl
    refine ⟨⟨by kernel_rfl, by kernel_rfl, by kernel_rfl, by kernel_rfl, by kernel_rfl⟩, fun _ _ _ h => h, ?_, k_3, ?_⟩
    · intro w hSw; (try dsimp only at hSw); go_simp; all_goals (with_reducible rfl)
    (try simp only [Act.put, List.setIfInBounds_toArray, List.set_cons_zero, List.set_cons_succ])
    apply wpAnyL_take (i := 15)
    · simp only [List.getElem?_toArray, List.getElem?_cons_succ, List.getElem?_cons_zero]; exact rfl
    refine ⟨⟨by kernel_rfl, by kernel_rfl, by kernel_rfl, by kernel_rfl, by kernel_rfl⟩, fun _ _ _ h => h, ?_, k_3, ?_⟩
    · intro w hSw; (try dsimp only at hSw); go_simp; all_goals (with_reducible rfl)
    (try simp only [Act.put, List.setIfInBounds_toArray, List.set_cons_zero, List.set_cons_succ])
    apply wpAnyL_take (i := 16)
    · simp only [List.getElem?_toArray, List.getElem?_cons_succ, List.getElem?_cons_zero]; exact rfl
    refine ⟨⟨by kernel_rfl, by kernel_rfl, by kernel_rfl, by kernel_rfl, by kernel_rfl⟩, fun _ _ _ h => h, ?_, k_3, ?_⟩
    · intro w hSw; (try dsimp only at hSw); go_simp; all_goals (with_reducible rfl)
    (try simp only [Act.put, List.setIfInBounds_toArray, List.set_cons_zero, List.set_cons_succ])
    apply wpAnyL_take (i := 17)
    · simp only [List.getElem?_toArray, List.getElem?_cons_succ, List.getElem?_cons_zero]; exact rfl
    refine ⟨⟨by kernel_rfl, by kernel_rfl, by kernel_rfl, by kernel_rfl, by kernel_rfl⟩, fun _ _ _ h => h, ?_, k_3, ?_⟩
    · intro w hSw; (try dsimp only at hSw); go_simp; all_goals (with_reducible rfl)
    (try simp only [Act.put, List.setIfInBounds_toArray, List.set_cons_zero, List.set_cons_succ])
    apply wpAnyL_take (i := 18)
    · simp only [List.getElem?_toArray, List.getElem?_cons_succ, List.getElem?_cons_zero]; exact rfl
    refine ⟨⟨by kernel_rfl, by kernel_rfl, by kernel_rfl, by kernel_rfl, by kernel_rfl⟩, fun _ _ _ h => h, ?_, k_3, ?_⟩
    · intro w hSw; (try dsimp only at hSw); go_simp; all_goals (with_reducible rfl)
    (try simp only [Act.put, List.setIfInBounds_toArray, List.set_cons_zero, List.set_cons_succ])
    apply wpAnyL_take (i := 20)
    · simp only [List.getElem?_toArray, List.getElem?_cons_succ, List.getElem?_cons_zero]; exact rfl
    refine ⟨⟨by kernel_rfl, by kernel_rfl, by kernel_rfl, by kernel_rfl, by kernel_rfl⟩, fun _ _ _ h => h, ?_, k_3, ?_⟩
    · intro w hSw; (try dsimp only at hSw); go_simp; all_goals (with_reducible rfl)
    (try simp only [Act.put, List.setIfInBounds_toArray, List.set_cons_zero, List.set_cons_succ])
    apply wpAnyL_take (i := 21)
    · simp only [List.getElem?_toArray, List.getElem?_cons_succ, List.getElem?_cons_zero]; exact rfl
    refine ⟨⟨by kernel_rfl, by kernel_rfl, by kernel_rfl, by kernel_rfl, by kernel_rfl⟩, fun _ _ _ h => h, ?_, k_3, ?_⟩
    · intro w hSw; (try dsimp only at hSw); go_simp; all_goals (with_reducible rfl)
    (try simp only [Act.put, List.setIfInBounds_toArray, List.set_cons_zero, List.set_cons_succ])
    apply wpAnyL_one (i := 19)
    · simp only [List.getElem?_toArray, List.getElem?_cons_succ, List.getElem?_cons_zero]; exact rfl
    refine ⟨by kernel_rfl, fun K hK => ?_⟩
    go_simp
    go_at_call 16
    refine (implCovers_is q e1 q' e2 v e3 v' e4 _ _ _ _ U U' V V' ks ks' ls ls' _ HV.out (I_u.out).X (I_u.out).Y (I_v.out).X (I_v.out).Y (Nat.le_trans mu.2 (by decide)) (Nat.le_trans mu'.2 (by decide)) (Nat.le_trans mv.2 (by decide)) (Nat.le_trans mv'.2 (by decide))).mono ?_
    rintro e W5r4 ⟨rfl, br4⟩
    replace L_a := Lib.hid (L_a.out.kept br4 L_a.out.inside)
    replace L_b := Lib.hid (L_b.out.kept br4 L_b.out.inside)
    replace L_u := Lib.hid (L_u.out.kept br4 L_u.out.inside)
    replace L_x := Lib.hid (L_x.out.kept br4 L_x.out.inside)
    replace L_y := Lib.hid (L_y.out.kept br4 L_y.out.inside)
    replace I_x := Lib.hid (I_x.out.kept br4)
    replace I_p := Lib.hid (I_p.out.kept br4)
    replace I_u := Lib.hid (I_u.out.kept br4)
    replace I_v := Lib.hid (I_v.out.kept br4)
    replace B := Lib.hid (B.out.trans (br4.mono B.out.size))
    clear br4
    have k_4 : W5r4.cell? ⟨W1.heap.size, 0, none⟩ = some (.slice A n c) ∧ W5r4.cell? ⟨W1.heap.size, 1, none⟩ = some (.slice A' n' c') ∧ W5r4.cell? ⟨W1.heap.size + 1, 0, none⟩ = some (.slice P m d) ∧ W5r4.cell? ⟨W1.heap.size + 1, 1, none⟩ = some (.slice P' m' d') ∧ W5r4.cell? ⟨W3.heap.size, 0, none⟩ = some (.int .i64 cd) ∧ W5r4.cell? ⟨W3.heap.size, 1, none⟩ = some (.slice none 0 0) ∧ W5r4.cell? ⟨W3.heap.size, 2, none⟩ = some (.slice none 0 0) ∧ W5r4.cell? ⟨W4.heap.size, 0, none⟩ = some (.slice U q e1) ∧ W5r4.cell? ⟨W4.heap.size, 1, none⟩ = some (.slice U' q' e2) ∧ W5r4.cell? ⟨W4.heap.size + 1, 0, none⟩ = some (.slice V v e3) ∧ W5r4.cell? ⟨W4.heap.size + 1, 1, none⟩ = some (.slice V' v' e4) := ⟨L_a.out.cell 0, L_a.out.cell 1, L_b.out.cell 0, L_b.out.cell 1, L_u.out.cell 0, L_u.out.cell 1, L_u.out.cell 2, L_x.out.cell 0, L_x.out.cell 1, L_y.out.cell 0, L_y.out.cell 1⟩
    refine hK.out _ _ (fun _ => k_4) ?_
    clear hK K k_3
    (try simp only [Act.put, List.setIfInBounds_toArray, List.set_cons_zero, List.set_cons_succ])
    apply wpAnyL_one (i := 22)
    · simp only [List.getElem?_toArray, List.getElem?_cons_succ, List.getElem?_cons_zero]; exact rfl
    refine ⟨by kernel_rfl, fun K hK => ?_⟩
    go_simp
    go_at_call 17
    refine (specCovers_be q e1 q' e2 v e3 v' e4 _ _ _ _ U U' V V' ks ks' ls ls' _ HV.out (I_u.out).X (I_u.out).Y (I_v.out).X (I_v.out).Y (Nat.le_trans mu.2 (by decide)) (Nat.le_trans mu'.2 (by decide)) (Nat.le_trans mv.2 (by decide)) (Nat.le_trans mv'.2 (by decide))).mono ?_
    rintro e W5r5 ⟨rfl, br5⟩
    replace L_a := Lib.hid (L_a.out.kept br5 L_a.out.inside)
    replace L_b := Lib.hid (L_b.out.kept br5 L_b.out.inside)
    replace L_u := Lib.hid (L_u.out.kept br5 L_u.out.inside)
    replace L_x := Lib.hid (L_x.out.kept br5 L_x.out.inside)
    replace L_y := Lib.hid (L_y.out.kept br5 L_y.out.inside)
    replace I_x := Lib.hid (I_x.out.kept br5)
    replace I_p := Lib.hid (I_p.out.kept br5)
    replace I_u := Lib.hid (I_u.out.kept br5)
    replace I_v := Lib.hid (I_v.out.kept br5)
    replace B := Lib.hid (B.out.trans (br5.mono B.out.size))
    clear br5
    have k_5 : W5r5.cell? ⟨W1.heap.size, 0, none⟩ = some (.slice A n c) ∧ W5r5.cell? ⟨W1.heap.size, 1, none⟩ = some (.slice A' n' c') ∧ W5r5.cell? ⟨W1.heap.size + 1, 0, none⟩ = some (.slice P m d) ∧ W5r5.cell? ⟨W1.heap.size + 1, 1, none⟩ = some (.slice P' m' d') ∧ W5r5.cell? ⟨W3.heap.size, 0, none⟩ = some (.int .i64 cd) ∧ W5r5.cell? ⟨W3.heap.size, 1, none⟩ = some (.slice none 0 0) ∧ W5r5.cell? ⟨W3.heap.size, 2, none⟩ = some (.slice none 0 0) ∧ W5r5.cell? ⟨W4.heap.size, 0, none⟩ = some (.slice U q e1) ∧ W5r5.cell? ⟨W4.heap.size, 1, none⟩ = some (.slice U' q' e2) ∧ W5r5.cell? ⟨W4.heap.size + 1, 0, none⟩ = some (.slice V v e3) ∧ W5r5.cell? ⟨W4.heap.size + 1, 1, none⟩ = some (.slice V' v' e4) := ⟨L_a.out.cell 0, L_a.out.cell 1, L_b.out.cell 0, L_b.out.cell 1, L_u.out.cell 0, L_u.out.cell 1, L_u.out.cell 2, L_x.out.cell 0, L_x.out.cell 1, L_y.out.cell 0, L_y.out.cell 1⟩
    refine hK.out _ _ (fun _ => k_5) ?_
    clear hK K k_4
    (try simp only [Act.put, List.setIfInBounds_toArray, List.set_cons_zero, List.set_cons_succ])
    apply wpAnyL_take (i := 23)
    · simp only [List.getElem?_toArray, List.getElem?_cons_succ, List.getElem?_cons_zero]; exact rfl
    refine ⟨⟨by kernel_rfl, by kernel_rfl, by kernel_rfl, by kernel_rfl, by kernel_rfl⟩, fun _ _ _ h => h, ?_, k_5, ?_⟩
    · intro w hSw; (try dsimp only at hSw); go_simp; all_goals (with_reducible rfl)
    (try simp only [Act.put, List.setIfInBounds_toArray, List.set_cons_zero, List.set_cons_succ])
    apply wpAnyL_take (i := 24)
    · simp only [List.getElem?_toArray, List.getElem?_cons_succ, List.getElem?_cons_zero]; exact rfl
    refine ⟨⟨by kernel_rfl, by kernel_rfl, by kernel_rfl, by kernel_rfl, by kernel_rfl⟩, fun _ _ _ h => h, ?_, k_5, ?_⟩
    · intro w hSw; (try dsimp only at hSw); go_simp; all_goals (with_reducible rfl)
    (try simp only [Act.put, List.setIfInBounds_toArray, List.set_cons_zero, List.set_cons_succ])
    refine wpAnyL_done (by kernel_rfl) ?_ _
    clear k_5
    have c_u0 : W5r5.cell? ⟨W3.heap.size, 0, none⟩ = some (.int .i64 cd) := L_u.out.cell 0
    have c_u1 : W5r5.cell? ⟨W3.heap.size, 1, none⟩ = some (.slice none 0 0) := L_u.out.cell 1
    have c_u2 : W5r5.cell? ⟨W3.heap.size, 2, none⟩ = some (.slice none 0 0) := L_u.out.cell 2
    have c_a0 : W5r5.cell? ⟨W1.heap.size, 0, none⟩ = some (.slice A n c) := L_a.out.cell 0
    have c_a1 : W5r5.cell? ⟨W1.heap.size, 1, none⟩ = some (.slice A' n' c') := L_a.out.cell 1
    have c_b0 : W5r5.cell? ⟨W1.heap.size + 1, 0, none⟩ = some (.slice P m d) := L_b.out.cell 0
    have c_b1 : W5r5.cell? ⟨W1.heap.size + 1, 1, none⟩ = some (.slice P' m' d') := L_b.out.cell 1
    go_wp2_with fail
    clear c_a0 c_a1 c_b0 c_b1
    refine (implMeets_be n c n' c' m d m' d' _ _ _ _ A A' P P' xs ys us vs _ HM.out (I_x.out).X (I_x.out).Y (I_p.out).X (I_p.out).Y (Nat.le_trans mn.2 (by decide)) (Nat.le_trans mn'.2 (by decide)) (Nat.le_trans mp.2 (by decide)) (Nat.le_trans mp'.2 (by decide))).mono ?_
    rintro e W9 ⟨rfl, b9⟩
    replace L_a := Lib.hid (L_a.out.kept b9 L_a.out.inside)
    replace L_b := Lib.hid (L_b.out.kept b9 L_b.out.inside)
    replace L_u := Lib.hid (L_u.out.kept b9 L_u.out.inside)
    replace L_x := Lib.hid (L_x.out.kept b9 L_x.out.inside)
    replace L_y := Lib.hid (L_y.out.kept b9 L_y.out.inside)
    replace I_x := Lib.hid (I_x.out.kept b9)
    replace I_p := Lib.hid (I_p.out.kept b9)
    replace I_u := Lib.hid (I_u.out.kept b9)
    replace I_v := Lib.hid (I_v.out.kept b9)
    replace B := Lib.hid (B.out.trans (b9.mono B.out.size))
    clear b9
    go_wp2
    go_ret
    exact ⟨rfl, B.out⟩

end Go.Proofs.Ytfpmbkfikfdmkaa
