/- FnDists: whatever the bytes, the law of distances holds of what they draw. No condition. -/
import Derived.Test.YtdkaofmlgaofgabDraw7
import Derived.Test.YtdkaofmlgaofgabDist
import Derived.Test.YtdkaofmlgaofgabCovers
import Derived.Test.YtdkaofmlgaofgabImplUnionOf
import Derived.Test.YtdkaofmlgaofgabBoxLaws
namespace Go.Proofs.Ytdkaofmlgaofgab
open Go.RowKit

theorem lwBig_any (n c : Nat) (A : Option Addr) (w : World) : Calls Try.prog 43 #[.slice A n c] w fun e w' => e = .returned (.bool (decide ((1048576 : Int) < n))) ∧ w = w' := by
  go_enter Try.func43, Try.ntmps43
  go_wp2
  go_ret
  exact ⟨rfl, rfl⟩

theorem specDistOf_is (n1 c1 n2 c2 n3 c3 lo1 lo2 lo3 : Nat) (A1 A2 A3 : Option Addr) (x1 x2 x3 : List Int) (w : World) {a b : Int} (hD : distF x1 x2 x3 = (a, b))
    (h1 : Ints w lo1 A1 n1 x1) (h2 : Ints w lo2 A2 n2 x2) (h3 : Ints w lo3 A3 n3 x3) (m1 : n1 ≤ maxLen) (m2 : n2 ≤ maxLen) (m3 : n3 ≤ maxLen) :
    Calls Try.prog 65 #[.agg #[.slice A1 n1 c1, .slice A2 n2 c2], .slice A3 n3 c3] w fun e w' => e = .returned (.agg #[.int .i64 a, .int .i64 b]) ∧ Below w.heap.size w w' :=
  (specDistOf_any n1 c1 n2 c2 n3 c3 lo1 lo2 lo3 A1 A2 A3 x1 x2 x3 w h1 h2 h3 m1 m2 m3).mono fun _ _ h => ⟨by rw [h.1, hD], h.2⟩
theorem implDistOf_is (n1 c1 n2 c2 n3 c3 lo1 lo2 lo3 : Nat) (A1 A2 A3 : Option Addr) (x1 x2 x3 : List Int) (w : World) {a b : Int} (hD : distF x1 x2 x3 = (a, b))
    (h1 : Ints w lo1 A1 n1 x1) (h2 : Ints w lo2 A2 n2 x2) (h3 : Ints w lo3 A3 n3 x3) (m1 : n1 ≤ maxLen) (m2 : n2 ≤ maxLen) (m3 : n3 ≤ maxLen) :
    Calls Try.prog 64 #[.agg #[.slice A1 n1 c1, .slice A2 n2 c2], .slice A3 n3 c3] w fun e w' => e = .returned (.agg #[.int .i64 a, .int .i64 b]) ∧ Below w.heap.size w w' :=
  (implDistOf_any n1 c1 n2 c2 n3 c3 lo1 lo2 lo3 A1 A2 A3 x1 x2 x3 w h1 h2 h3 m1 m2 m3).mono fun _ _ h => ⟨by rw [h.1, hD], h.2⟩
theorem implCovers_is (n1 c1 n2 c2 n3 c3 n4 c4 lo1 lo2 lo3 lo4 : Nat) (A1 A2 A3 A4 : Option Addr) (x1 x2 x3 x4 : List Int) (w : World) {b : Bool} (hb : coversF x1 x2 x3 x4 = b)
    (h1 : Ints w lo1 A1 n1 x1) (h2 : Ints w lo2 A2 n2 x2) (h3 : Ints w lo3 A3 n3 x3) (h4 : Ints w lo4 A4 n4 x4) (m1 : n1 ≤ maxLen) (m2 : n2 ≤ maxLen) (m3 : n3 ≤ maxLen) (m4 : n4 ≤ maxLen) :
    Calls Try.prog 50 #[.agg #[.slice A1 n1 c1, .slice A2 n2 c2], .agg #[.slice A3 n3 c3, .slice A4 n4 c4]] w fun e w' => e = .returned (.bool b) ∧ Below w.heap.size w w' :=
  (implCovers_any n1 c1 n2 c2 n3 c3 n4 c4 lo1 lo2 lo3 lo4 A1 A2 A3 A4 x1 x2 x3 x4 w h1 h2 h3 h4 m1 m2 m3 m4).mono fun _ _ h => ⟨by rw [h.1, hb], h.2⟩
theorem specPointFault_below (d : Int) (lo n c : Nat) (A : Option Addr) (xs : List Int) (w : World) (hx : Ints w lo A n xs) (hn : n ≤ maxLen) :
    Calls Try.prog 67 #[.slice A n c, .int .i64 d] w fun e w' => e = .returned (.int .i64 (pf xs d)) ∧ Below w.heap.size w w' :=
  (specPointFault_any d lo n c A xs w hx hn).mono fun _ _ h => ⟨h.1, by rw [← h.2]; exact Below.refl _ _⟩
theorem implUnionOf_is (n1 c1 n2 c2 n3 c3 n4 c4 lo1 lo2 lo3 lo4 : Nat) (A1 A2 A3 A4 : Option Addr) (x1 x2 x3 x4 : List Int) (w : World) (hr : rf2 x1 x2 x3 x4 = 0)
    (h1 : Ints w lo1 A1 n1 x1) (h2 : Ints w lo2 A2 n2 x2) (h3 : Ints w lo3 A3 n3 x3) (h4 : Ints w lo4 A4 n4 x4) (m1 : n1 ≤ maxLen) (m2 : n2 ≤ maxLen) (m3 : n3 ≤ maxLen) (m4 : n4 ≤ maxLen) (h0 : 1 ≤ n1) :
    Calls Try.prog 45 #[.agg #[.slice A1 n1 c1, .slice A2 n2 c2], .agg #[.slice A3 n3 c3, .slice A4 n4 c4]] w fun e w' => ∃ g g', e = .returned (.agg #[.int .i64 0, .slice (some ⟨g, 0, none⟩) n1 n1, .slice (some ⟨g', 0, none⟩) n1 n1]) ∧ BoxI w' w.heap.size (some ⟨g, 0, none⟩) (some ⟨g', 0, none⟩) n1 n1 (mins x1 x3) (maxs x2 x4) ∧ Below w.heap.size w w' :=
  (implUnionOf_any n1 c1 n2 c2 n3 c3 n4 c4 lo1 lo2 lo3 lo4 A1 A2 A3 A4 x1 x2 x3 x4 w h1 h2 h3 h4 m1 m2 m3 m4).mono fun _ _ h => by obtain ⟨g, g', q1, q2, q3, q4, q5, q6⟩ := h.1 hr; exact ⟨g, g', q1, ⟨q4.ints q2, q5.ints (by omega), ⟨h0, by omega⟩, ⟨h0, by omega⟩⟩, h.2.2⟩

set_option maxRecDepth 100000 in
set_option maxHeartbeats 16000000 in
theorem lawDists_walk (n0 c0 : Nat) (A0 : Option Addr) (zs : List Int) (w : World) (hz : Bys w w.heap.size A0 n0 zs) :
    Calls Try.prog 10 #[.slice A0 n0 c0] w fun e w' => e = .returned (.bool true) ∧ Below w.heap.size w w' := by
  have HZ := Lib.hid hz
  clear hz
  have B := Lib.hid (Below.refl w.heap.size w)
  have h4 : 4 ≤ maxLen := by decide
  have fld : ∀ (x y : Int) (X : World), (Instr.field 35 (.agg #[.int .i64 x, .int .i64 y]) 1).run Try.prog X = .ok (.int .i64 y) X := fun _ _ _ => by kernel_rfl
  have fld2 : ∀ (x : Int) (u1 u2 : Value) (X : World), (Instr.field 74 (.agg #[.int .i64 x, u1, u2]) 1).run Try.prog X = .ok (.agg #[u1, u2]) X := fun _ _ _ _ => by kernel_rfl
  go_enter Try.func10, Try.ntmps10
  go_wp2_with fail
  refine (lwBig_any n0 c0 A0 w).mono ?_
  rintro e W0 ⟨rfl, rfl⟩
  by_cases hbig : (1048576 : Int) < n0
  · have hb : decide ((1048576 : Int) < n0) = true := by simpa using hbig
    rw [hb]
    go_wp2
    go_ret
    exact ⟨rfl, B.out⟩
  have hb : decide ((1048576 : Int) < n0) = false := by simpa using hbig
  rw [hb]
  have hn0 : n0 ≤ 1048576 := by omega
  go_wp2_with fail
  refine (drawDistOf_any w.heap.size n0 c0 A0 zs w HZ.out (Nat.le_refl _) hn0).mono ?_
  rintro e W1 ⟨A, A', P, n, c, n', c', m, d, xs, ys, ps, rfl, XI, PI, mp, b1⟩
  have I_x := Lib.hid XI
  have I_p := Lib.hid PI
  have mn := XI.n1
  have mn' := XI.n2
  clear XI PI
  replace HZ := Lib.hid (HZ.out.kept b1 B.out.size)
  replace B := Lib.hid (B.out.trans (b1.mono B.out.size))
  clear b1
  obtain ⟨⟨dc, dv⟩, hD⟩ : ∃ D, distF xs ys ps = D := ⟨_, rfl⟩
  have HD := Lib.hid hD
  clear hD
  have b_r := below_alloc W1 (.cells #[.slice A n c, .slice A' n' c'] 43)
  have N_r := Lib.hid (Lies.new W1 43 #[.slice A n c, .slice A' n' c'])
  replace I_x := Lib.hid (I_x.out.kept b_r)
  replace I_p := Lib.hid (I_p.out.kept b_r)
  replace HZ := Lib.hid (HZ.out.kept b_r B.out.size)
  replace B := Lib.hid (B.out.trans (b_r.mono B.out.size))
  clear b_r
  have L_r := Lib.hid N_r.out
  clear N_r
  have c_r0 : (W1.alloc (.cells #[.slice A n c, .slice A' n' c'] 43)).cell? ⟨W1.heap.size, 0, none⟩ = some (.slice A n c) := L_r.out.cell 0
  have c_r1 : (W1.alloc (.cells #[.slice A n c, .slice A' n' c'] 43)).cell? ⟨W1.heap.size, 1, none⟩ = some (.slice A' n' c') := L_r.out.cell 1
  go_wp2_with fail
  clear c_r0 c_r1
  refine (implDistOf_is n c n' c' m d _ _ _ A A' P xs ys ps _ HD.out I_x.out.X I_x.out.Y I_p.out (Nat.le_trans mn.2 (by decide)) (Nat.le_trans mn'.2 (by decide)) (Nat.le_trans mp.2 (by decide))).mono ?_
  rintro e W2 ⟨rfl, b2⟩
  replace L_r := Lib.hid (L_r.out.kept b2 L_r.out.inside)
  replace I_x := Lib.hid (I_x.out.kept b2)
  replace I_p := Lib.hid (I_p.out.kept b2)
  replace HZ := Lib.hid (HZ.out.kept b2 B.out.size)
  replace B := Lib.hid (B.out.trans (b2.mono B.out.size))
  clear b2
  have b_d := below_alloc W2 (.cells #[.int .i64 dc, .int .i64 dv] 35)
  have N_d := Lib.hid (Lies.new W2 35 #[.int .i64 dc, .int .i64 dv])
  replace L_r := Lib.hid (L_r.out.kept b_d L_r.out.inside)
  replace I_x := Lib.hid (I_x.out.kept b_d)
  replace I_p := Lib.hid (I_p.out.kept b_d)
  replace HZ := Lib.hid (HZ.out.kept b_d B.out.size)
  replace B := Lib.hid (B.out.trans (b_d.mono B.out.size))
  clear b_d
  have L_d := Lib.hid N_d.out
  clear N_d
  go_wp2_with fail
  refine (drawCovers_any w.heap.size n0 c0 A0 zs _ HZ.out B.out.size hn0).mono ?_
  rintro e W3 ⟨U, U', V, V', q, e1, q', e2, v, e3, v', e4, us, us', vs, vs', rfl, UI, VI, b3⟩
  have I_u := Lib.hid UI
  have I_v := Lib.hid VI
  have mu := UI.n1
  have mu' := UI.n2
  have mv := VI.n1
  have mv' := VI.n2
  clear UI VI
  replace L_r := Lib.hid (L_r.out.kept b3 L_r.out.inside)
  replace L_d := Lib.hid (L_d.out.kept b3 L_d.out.inside)
  replace I_x := Lib.hid (I_x.out.kept b3)
  replace I_p := Lib.hid (I_p.out.kept b3)
  replace HZ := Lib.hid (HZ.out.kept b3 B.out.size)
  replace B := Lib.hid (B.out.trans (b3.mono B.out.size))
  clear b3
  clear HZ
  have b_a := below_alloc W3 (.cells #[.slice U q e1, .slice U' q' e2] 43)
  have N_a := Lib.hid (Lies.new W3 43 #[.slice U q e1, .slice U' q' e2])
  replace L_r := Lib.hid (L_r.out.kept b_a L_r.out.inside)
  replace L_d := Lib.hid (L_d.out.kept b_a L_d.out.inside)
  replace I_x := Lib.hid (I_x.out.kept b_a)
  replace I_p := Lib.hid (I_p.out.kept b_a)
  replace I_u := Lib.hid (I_u.out.kept b_a)
  replace I_v := Lib.hid (I_v.out.kept b_a)
  replace B := Lib.hid (B.out.trans (b_a.mono B.out.size))
  clear b_a
  have L_a := Lib.hid N_a.out
  clear N_a
  have b_b := below_alloc (W3.alloc (.cells #[.slice U q e1, .slice U' q' e2] 43)) (.cells #[.slice V v e3, .slice V' v' e4] 43)
  have N_b := Lib.hid (Lies.laid2 W3 (.cells #[.slice U q e1, .slice U' q' e2] 43) 43 #[.slice V v e3, .slice V' v' e4])
  replace L_r := Lib.hid (L_r.out.kept b_b L_r.out.inside)
  replace L_d := Lib.hid (L_d.out.kept b_b L_d.out.inside)
  replace L_a := Lib.hid (L_a.out.kept b_b L_a.out.inside)
  replace I_x := Lib.hid (I_x.out.kept b_b)
  replace I_p := Lib.hid (I_p.out.kept b_b)
  replace I_u := Lib.hid (I_u.out.kept b_b)
  replace I_v := Lib.hid (I_v.out.kept b_b)
  replace B := Lib.hid (B.out.trans (b_b.mono B.out.size))
  clear b_b
  have L_b := Lib.hid N_b.out
  clear N_b
  go_upto_region 6 with fail
  generalize hW : ((W3.alloc (.cells #[.slice U q e1, .slice U' q' e2] 43)).alloc (.cells #[.slice V v e3, .slice V' v' e4] 43)) = W4 at *
  clear hW
  have c_d0 : W4.cell? ⟨W2.heap.size, 0, none⟩ = some (.int .i64 dc) := L_d.out.cell 0
  have c_d1 : W4.cell? ⟨W2.heap.size, 1, none⟩ = some (.int .i64 dv) := L_d.out.cell 1
  have c_r0 : W4.cell? ⟨W1.heap.size, 0, none⟩ = some (.slice A n c) := L_r.out.cell 0
  have c_r1 : W4.cell? ⟨W1.heap.size, 1, none⟩ = some (.slice A' n' c') := L_r.out.cell 1
  go_upto_region 6 with fail
  go_region_held3 (fun w' => w'.cell? ⟨W2.heap.size, 0, none⟩ = some (.int .i64 dc) ∧ w'.cell? ⟨W2.heap.size, 1, none⟩ = some (.int .i64 dv) ∧ w'.cell? ⟨W1.heap.size, 0, none⟩ = some (.slice A n c) ∧ w'.cell? ⟨W1.heap.size, 1, none⟩ = some (.slice A' n' c'))
    (first | (simp [go_sem, c_d0, c_d1, c_r0, c_r1]; done) | with_reducible exact k_1 | with_reducible exact k_2 | with_reducible exact k_3 | fail)
    (first
      | (go_at_call 65; refine (specDistOf_is n c n' c' m d _ _ _ A A' P xs ys ps _ HD.out (I_x.out.drew).X (I_x.out.drew).Y (I_p.out.drew) (Nat.le_trans mn.2 (by decide)) (Nat.le_trans mn'.2 (by decide)) (Nat.le_trans mp.2 (by decide))).mono ?_
         rintro e W4r1 ⟨rfl, br1d⟩
         have br1 := below_drawn br1d
         have k_1 : W4r1.cell? ⟨W2.heap.size, 0, none⟩ = some (.int .i64 dc) ∧ W4r1.cell? ⟨W2.heap.size, 1, none⟩ = some (.int .i64 dv) ∧ W4r1.cell? ⟨W1.heap.size, 0, none⟩ = some (.slice A n c) ∧ W4r1.cell? ⟨W1.heap.size, 1, none⟩ = some (.slice A' n' c') := ⟨(L_d.out.kept br1 L_d.out.inside).cell 0, (L_d.out.kept br1 L_d.out.inside).cell 1, (L_r.out.kept br1 L_r.out.inside).cell 0, (L_r.out.kept br1 L_r.out.inside).cell 1⟩)
      | (go_at_call 66; refine (implPointFault_any n _ m d P ps _ ((I_p.out.kept br1)) (Nat.le_trans mp.2 (by decide))).mono ?_
         rintro e W4r2 ⟨rfl, br2⟩
         have k_2 : W4r2.cell? ⟨W2.heap.size, 0, none⟩ = some (.int .i64 dc) ∧ W4r2.cell? ⟨W2.heap.size, 1, none⟩ = some (.int .i64 dv) ∧ W4r2.cell? ⟨W1.heap.size, 0, none⟩ = some (.slice A n c) ∧ W4r2.cell? ⟨W1.heap.size, 1, none⟩ = some (.slice A' n' c') := ⟨((L_d.out.kept br1 L_d.out.inside).kept br2 (L_d.out.kept br1 L_d.out.inside).inside).cell 0, ((L_d.out.kept br1 L_d.out.inside).kept br2 (L_d.out.kept br1 L_d.out.inside).inside).cell 1, ((L_r.out.kept br1 L_r.out.inside).kept br2 (L_r.out.kept br1 L_r.out.inside).inside).cell 0, ((L_r.out.kept br1 L_r.out.inside).kept br2 (L_r.out.kept br1 L_r.out.inside).inside).cell 1⟩)
      | (go_at_call 67; refine (specPointFault_below n _ m d P ps _ (((I_p.out.kept br1).kept br2)) (Nat.le_trans mp.2 (by decide))).mono ?_
         rintro e W4r3 ⟨rfl, br3⟩
         have k_3 : W4r3.cell? ⟨W2.heap.size, 0, none⟩ = some (.int .i64 dc) ∧ W4r3.cell? ⟨W2.heap.size, 1, none⟩ = some (.int .i64 dv) ∧ W4r3.cell? ⟨W1.heap.size, 0, none⟩ = some (.slice A n c) ∧ W4r3.cell? ⟨W1.heap.size, 1, none⟩ = some (.slice A' n' c') := ⟨(((L_d.out.kept br1 L_d.out.inside).kept br2 (L_d.out.kept br1 L_d.out.inside).inside).kept br3 ((L_d.out.kept br1 L_d.out.inside).kept br2 (L_d.out.kept br1 L_d.out.inside).inside).inside).cell 0, (((L_d.out.kept br1 L_d.out.inside).kept br2 (L_d.out.kept br1 L_d.out.inside).inside).kept br3 ((L_d.out.kept br1 L_d.out.inside).kept br2 (L_d.out.kept br1 L_d.out.inside).inside).inside).cell 1, (((L_r.out.kept br1 L_r.out.inside).kept br2 (L_r.out.kept br1 L_r.out.inside).inside).kept br3 ((L_r.out.kept br1 L_r.out.inside).kept br2 (L_r.out.kept br1 L_r.out.inside).inside).inside).cell 0, (((L_r.out.kept br1 L_r.out.inside).kept br2 (L_r.out.kept br1 L_r.out.inside).inside).kept br3 ((L_r.out.kept br1 L_r.out.inside).kept br2 (L_r.out.kept br1 L_r.out.inside).inside).inside).cell 1⟩))
  clear c_d0 c_d1 c_r0 c_r1
  clear k_1 k_2 k_3
  replace L_r := Lib.hid (L_r.out.kept br1 L_r.out.inside)
  replace L_d := Lib.hid (L_d.out.kept br1 L_d.out.inside)
  replace L_a := Lib.hid (L_a.out.kept br1 L_a.out.inside)
  replace L_b := Lib.hid (L_b.out.kept br1 L_b.out.inside)
  replace I_x := Lib.hid (I_x.out.kept br1)
  replace I_p := Lib.hid (I_p.out.kept br1)
  replace I_u := Lib.hid (I_u.out.kept br1)
  replace I_v := Lib.hid (I_v.out.kept br1)
  replace B := Lib.hid (B.out.trans (br1.mono B.out.size))
  clear br1
  replace L_r := Lib.hid (L_r.out.kept br2 L_r.out.inside)
  replace L_d := Lib.hid (L_d.out.kept br2 L_d.out.inside)
  replace L_a := Lib.hid (L_a.out.kept br2 L_a.out.inside)
  replace L_b := Lib.hid (L_b.out.kept br2 L_b.out.inside)
  replace I_x := Lib.hid (I_x.out.kept br2)
  replace I_p := Lib.hid (I_p.out.kept br2)
  replace I_u := Lib.hid (I_u.out.kept br2)
  replace I_v := Lib.hid (I_v.out.kept br2)
  replace B := Lib.hid (B.out.trans (br2.mono B.out.size))
  clear br2
  replace L_r := Lib.hid (L_r.out.kept br3 L_r.out.inside)
  replace L_d := Lib.hid (L_d.out.kept br3 L_d.out.inside)
  replace L_a := Lib.hid (L_a.out.kept br3 L_a.out.inside)
  replace L_b := Lib.hid (L_b.out.kept br3 L_b.out.inside)
  replace I_x := Lib.hid (I_x.out.kept br3)
  replace I_p := Lib.hid (I_p.out.kept br3)
  replace I_u := Lib.hid (I_u.out.kept br3)
  replace I_v := Lib.hid (I_v.out.kept br3)
  replace B := Lib.hid (B.out.trans (br3.mono B.out.size))
  clear br3
  obtain ⟨cv, hcv⟩ : ∃ cv, coversF us us' vs vs' = cv := ⟨_, rfl⟩
  have HC := Lib.hid hcv
  clear hcv
  have c_a0 : W4r3.cell? ⟨W3.heap.size, 0, none⟩ = some (.slice U q e1) := L_a.out.cell 0
  have c_a1 : W4r3.cell? ⟨W3.heap.size, 1, none⟩ = some (.slice U' q' e2) := L_a.out.cell 1
  have c_b0 : W4r3.cell? ⟨W3.heap.size + 1, 0, none⟩ = some (.slice V v e3) := L_b.out.cell 0
  have c_b1 : W4r3.cell? ⟨W3.heap.size + 1, 1, none⟩ = some (.slice V' v' e4) := L_b.out.cell 1
  go_wp2_with fail
  clear c_a0 c_a1 c_b0 c_b1
  refine (implCovers_is q e1 q' e2 v e3 v' e4 _ _ _ _ U U' V V' us us' vs vs' _ HC.out I_u.out.X I_u.out.Y I_v.out.X I_v.out.Y (Nat.le_trans mu.2 (by decide)) (Nat.le_trans mu'.2 (by decide)) (Nat.le_trans mv.2 (by decide)) (Nat.le_trans mv'.2 (by decide))).mono ?_
  rintro e W5 ⟨rfl, b5⟩
  replace L_r := Lib.hid (L_r.out.kept b5 L_r.out.inside)
  replace L_d := Lib.hid (L_d.out.kept b5 L_d.out.inside)
  replace L_a := Lib.hid (L_a.out.kept b5 L_a.out.inside)
  replace L_b := Lib.hid (L_b.out.kept b5 L_b.out.inside)
  replace I_x := Lib.hid (I_x.out.kept b5)
  replace I_p := Lib.hid (I_p.out.kept b5)
  replace I_u := Lib.hid (I_u.out.kept b5)
  replace I_v := Lib.hid (I_v.out.kept b5)
  replace B := Lib.hid (B.out.trans (b5.mono B.out.size))
  clear b5
  cases cv with
  | true =>
    have c_a0 : W5.cell? ⟨W3.heap.size, 0, none⟩ = some (.slice U q e1) := L_a.out.cell 0
    have c_a1 : W5.cell? ⟨W3.heap.size, 1, none⟩ = some (.slice U' q' e2) := L_a.out.cell 1
    have c_b0 : W5.cell? ⟨W3.heap.size + 1, 0, none⟩ = some (.slice V v e3) := L_b.out.cell 0
    have c_b1 : W5.cell? ⟨W3.heap.size + 1, 1, none⟩ = some (.slice V' v' e4) := L_b.out.cell 1
    go_wp2_with fail
    clear c_a0 c_a1 c_b0 c_b1
    refine (implDistOf_is q e1 q' e2 v' e4 _ _ _ U U' V' us us' vs' _ (dists_cover HC.out) I_u.out.X I_u.out.Y I_v.out.Y (Nat.le_trans mu.2 (by decide)) (Nat.le_trans mu'.2 (by decide)) (Nat.le_trans mv'.2 (by decide))).mono ?_
    rintro e W5b ⟨rfl, b5b⟩
    replace L_r := Lib.hid (L_r.out.kept b5b L_r.out.inside)
    replace L_d := Lib.hid (L_d.out.kept b5b L_d.out.inside)
    replace L_a := Lib.hid (L_a.out.kept b5b L_a.out.inside)
    replace L_b := Lib.hid (L_b.out.kept b5b L_b.out.inside)
    replace I_x := Lib.hid (I_x.out.kept b5b)
    replace I_p := Lib.hid (I_p.out.kept b5b)
    replace I_u := Lib.hid (I_u.out.kept b5b)
    replace I_v := Lib.hid (I_v.out.kept b5b)
    replace B := Lib.hid (B.out.trans (b5b.mono B.out.size))
    clear b5b
    have c_d0 : W5b.cell? ⟨W2.heap.size, 0, none⟩ = some (.int .i64 dc) := L_d.out.cell 0
    have c_d1 : W5b.cell? ⟨W2.heap.size, 1, none⟩ = some (.int .i64 dv) := L_d.out.cell 1
    by_cases hdc : dc = 0
    · subst hdc
      obtain ⟨p1, p2, p3, p4, p5⟩ := dists_say (x1 := xs) (x2 := ys) (ps := ps) (by rw [HD.out])
      rw [HD.out] at p1 p3
      simp only at p1 p3
      have P2 := Lib.hid p2
      have P3 := Lib.hid p3
      have P4 := Lib.hid p4
      have P5 := Lib.hid p5
      clear p2 p3 p4 p5
      go_upto_region 12 with fail
      clear c_d0 c_d1
      have b_s := below_alloc W5b (.cells #[.slice P m d, .slice P m d] 43)
      have N_s := Lib.hid (Lies.new W5b 43 #[.slice P m d, .slice P m d])
      replace L_r := Lib.hid (L_r.out.kept b_s L_r.out.inside)
      replace L_d := Lib.hid (L_d.out.kept b_s L_d.out.inside)
      replace L_a := Lib.hid (L_a.out.kept b_s L_a.out.inside)
      replace L_b := Lib.hid (L_b.out.kept b_s L_b.out.inside)
      replace I_x := Lib.hid (I_x.out.kept b_s)
      replace I_p := Lib.hid (I_p.out.kept b_s)
      replace I_u := Lib.hid (I_u.out.kept b_s)
      replace I_v := Lib.hid (I_v.out.kept b_s)
      replace B := Lib.hid (B.out.trans (b_s.mono B.out.size))
      clear b_s
      have L_s := Lib.hid N_s.out
      clear N_s
      have c_r0 : (W5b.alloc (.cells #[.slice P m d, .slice P m d] 43)).cell? ⟨W1.heap.size, 0, none⟩ = some (.slice A n c) := L_r.out.cell 0
      have c_r1 : (W5b.alloc (.cells #[.slice P m d, .slice P m d] 43)).cell? ⟨W1.heap.size, 1, none⟩ = some (.slice A' n' c') := L_r.out.cell 1
      have c_s0 : (W5b.alloc (.cells #[.slice P m d, .slice P m d] 43)).cell? ⟨W5b.heap.size, 0, none⟩ = some (.slice P m d) := L_s.out.cell 0
      have c_s1 : (W5b.alloc (.cells #[.slice P m d, .slice P m d] 43)).cell? ⟨W5b.heap.size, 1, none⟩ = some (.slice P m d) := L_s.out.cell 1
      go_wp2_with fail
      clear c_r0 c_r1 c_s0 c_s1
      refine (implUnionOf_is n c n' c' m d m d _ _ _ _ A A' P P xs ys ps ps _ P2.out I_x.out.X I_x.out.Y I_p.out I_p.out (Nat.le_trans mn.2 (by decide)) (Nat.le_trans mn'.2 (by decide)) (Nat.le_trans mp.2 (by decide)) (Nat.le_trans mp.2 (by decide)) mn.1).mono ?_
      rintro e W6 ⟨g, g', rfl, FI, b6⟩
      have I_f := Lib.hid FI
      clear FI
      replace L_r := Lib.hid (L_r.out.kept b6 L_r.out.inside)
      replace L_d := Lib.hid (L_d.out.kept b6 L_d.out.inside)
      replace L_a := Lib.hid (L_a.out.kept b6 L_a.out.inside)
      replace L_b := Lib.hid (L_b.out.kept b6 L_b.out.inside)
      replace L_s := Lib.hid (L_s.out.kept b6 L_s.out.inside)
      replace I_x := Lib.hid (I_x.out.kept b6)
      replace I_p := Lib.hid (I_p.out.kept b6)
      replace I_u := Lib.hid (I_u.out.kept b6)
      replace I_v := Lib.hid (I_v.out.kept b6)
      replace B := Lib.hid (B.out.trans (b6.mono B.out.size))
      clear b6
      have b_f := below_alloc W6 (.cells #[.slice (some ⟨g, 0, none⟩) n n, .slice (some ⟨g', 0, none⟩) n n] 43)
      have N_f := Lib.hid (Lies.new W6 43 #[.slice (some ⟨g, 0, none⟩) n n, .slice (some ⟨g', 0, none⟩) n n])
      replace L_r := Lib.hid (L_r.out.kept b_f L_r.out.inside)
      replace L_d := Lib.hid (L_d.out.kept b_f L_d.out.inside)
      replace L_a := Lib.hid (L_a.out.kept b_f L_a.out.inside)
      replace L_b := Lib.hid (L_b.out.kept b_f L_b.out.inside)
      replace L_s := Lib.hid (L_s.out.kept b_f L_s.out.inside)
      replace I_x := Lib.hid (I_x.out.kept b_f)
      replace I_p := Lib.hid (I_p.out.kept b_f)
      replace I_u := Lib.hid (I_u.out.kept b_f)
      replace I_v := Lib.hid (I_v.out.kept b_f)
      replace I_f := Lib.hid (I_f.out.kept b_f)
      replace B := Lib.hid (B.out.trans (b_f.mono B.out.size))
      clear b_f
      have L_f := Lib.hid N_f.out
      clear N_f
      go_upto_region 14 with fail
      generalize hW : (W6.alloc (.cells #[.slice (some ⟨g, 0, none⟩) n n, .slice (some ⟨g', 0, none⟩) n n] 43)) = W7 at *
      clear hW
      by_cases hz : dv = 0
      · subst hz
        have P3 : Hid (coversF xs ys ps ps = true) := P3.out.trans (by simp)
        have c_d0 : W7.cell? ⟨W2.heap.size, 0, none⟩ = some (.int .i64 0) := L_d.out.cell 0
        have c_d1 : W7.cell? ⟨W2.heap.size, 1, none⟩ = some (.int .i64 0) := L_d.out.cell 1
        have c_r0 : W7.cell? ⟨W1.heap.size, 0, none⟩ = some (.slice A n c) := L_r.out.cell 0
        have c_r1 : W7.cell? ⟨W1.heap.size, 1, none⟩ = some (.slice A' n' c') := L_r.out.cell 1
        have c_s0 : W7.cell? ⟨W5b.heap.size, 0, none⟩ = some (.slice P m d) := L_s.out.cell 0
        have c_s1 : W7.cell? ⟨W5b.heap.size, 1, none⟩ = some (.slice P m d) := L_s.out.cell 1
        have c_f0 : W7.cell? ⟨W6.heap.size, 0, none⟩ = some (.slice (some ⟨g, 0, none⟩) n n) := L_f.out.cell 0
        have c_f1 : W7.cell? ⟨W6.heap.size, 1, none⟩ = some (.slice (some ⟨g', 0, none⟩) n n) := L_f.out.cell 1
        go_upto_region 14 with fail
        go_region_held3 (fun w' => w'.cell? ⟨W2.heap.size, 0, none⟩ = some (.int .i64 0) ∧ w'.cell? ⟨W2.heap.size, 1, none⟩ = some (.int .i64 0) ∧ w'.cell? ⟨W1.heap.size, 0, none⟩ = some (.slice A n c) ∧ w'.cell? ⟨W1.heap.size, 1, none⟩ = some (.slice A' n' c') ∧ w'.cell? ⟨W5b.heap.size, 0, none⟩ = some (.slice P m d) ∧ w'.cell? ⟨W5b.heap.size, 1, none⟩ = some (.slice P m d) ∧ w'.cell? ⟨W6.heap.size, 0, none⟩ = some (.slice (some ⟨g, 0, none⟩) n n) ∧ w'.cell? ⟨W6.heap.size, 1, none⟩ = some (.slice (some ⟨g', 0, none⟩) n n))
          (first | (simp [go_sem, c_d0, c_d1, c_r0, c_r1, c_s0, c_s1, c_f0, c_f1]; done) | with_reducible exact k_1 | with_reducible exact k_2 | with_reducible exact k_3 | fail)
          (first
            | (go_at_call 50; refine (implCovers_is n c n' c' m d m d _ _ _ _ A A' P P xs ys ps ps _ P3.out (I_x.out.drew).X (I_x.out.drew).Y (I_p.out.drew) (I_p.out.drew) (Nat.le_trans mn.2 (by decide)) (Nat.le_trans mn'.2 (by decide)) (Nat.le_trans mp.2 (by decide)) (Nat.le_trans mp.2 (by decide))).mono ?_
               rintro e W7r1 ⟨rfl, br1d⟩
               have br1 := below_drawn br1d
               have k_1 : W7r1.cell? ⟨W2.heap.size, 0, none⟩ = some (.int .i64 0) ∧ W7r1.cell? ⟨W2.heap.size, 1, none⟩ = some (.int .i64 0) ∧ W7r1.cell? ⟨W1.heap.size, 0, none⟩ = some (.slice A n c) ∧ W7r1.cell? ⟨W1.heap.size, 1, none⟩ = some (.slice A' n' c') ∧ W7r1.cell? ⟨W5b.heap.size, 0, none⟩ = some (.slice P m d) ∧ W7r1.cell? ⟨W5b.heap.size, 1, none⟩ = some (.slice P m d) ∧ W7r1.cell? ⟨W6.heap.size, 0, none⟩ = some (.slice (some ⟨g, 0, none⟩) n n) ∧ W7r1.cell? ⟨W6.heap.size, 1, none⟩ = some (.slice (some ⟨g', 0, none⟩) n n) := ⟨(L_d.out.kept br1 L_d.out.inside).cell 0, (L_d.out.kept br1 L_d.out.inside).cell 1, (L_r.out.kept br1 L_r.out.inside).cell 0, (L_r.out.kept br1 L_r.out.inside).cell 1, (L_s.out.kept br1 L_s.out.inside).cell 0, (L_s.out.kept br1 L_s.out.inside).cell 1, (L_f.out.kept br1 L_f.out.inside).cell 0, (L_f.out.kept br1 L_f.out.inside).cell 1⟩)
            | (go_at_call_of 64 (Value.agg #[.slice (some ⟨g, 0, none⟩) n n, .slice (some ⟨g', 0, none⟩) n n]); refine (implDistOf_is n n n n m d _ _ _ (some ⟨g, 0, none⟩) (some ⟨g', 0, none⟩) P (mins xs ps) (maxs ys ps) ps _ P4.out ((I_f.out.kept br1)).X ((I_f.out.kept br1)).Y ((I_p.out.kept br1)) (Nat.le_trans mn.2 (by decide)) (Nat.le_trans mn.2 (by decide)) (Nat.le_trans mp.2 (by decide))).mono ?_
               rintro e W7r2 ⟨rfl, br2⟩
               have k_2 : W7r2.cell? ⟨W2.heap.size, 0, none⟩ = some (.int .i64 0) ∧ W7r2.cell? ⟨W2.heap.size, 1, none⟩ = some (.int .i64 0) ∧ W7r2.cell? ⟨W1.heap.size, 0, none⟩ = some (.slice A n c) ∧ W7r2.cell? ⟨W1.heap.size, 1, none⟩ = some (.slice A' n' c') ∧ W7r2.cell? ⟨W5b.heap.size, 0, none⟩ = some (.slice P m d) ∧ W7r2.cell? ⟨W5b.heap.size, 1, none⟩ = some (.slice P m d) ∧ W7r2.cell? ⟨W6.heap.size, 0, none⟩ = some (.slice (some ⟨g, 0, none⟩) n n) ∧ W7r2.cell? ⟨W6.heap.size, 1, none⟩ = some (.slice (some ⟨g', 0, none⟩) n n) := ⟨((L_d.out.kept br1 L_d.out.inside).kept br2 (L_d.out.kept br1 L_d.out.inside).inside).cell 0, ((L_d.out.kept br1 L_d.out.inside).kept br2 (L_d.out.kept br1 L_d.out.inside).inside).cell 1, ((L_r.out.kept br1 L_r.out.inside).kept br2 (L_r.out.kept br1 L_r.out.inside).inside).cell 0, ((L_r.out.kept br1 L_r.out.inside).kept br2 (L_r.out.kept br1 L_r.out.inside).inside).cell 1, ((L_s.out.kept br1 L_s.out.inside).kept br2 (L_s.out.kept br1 L_s.out.inside).inside).cell 0, ((L_s.out.kept br1 L_s.out.inside).kept br2 (L_s.out.kept br1 L_s.out.inside).inside).cell 1, ((L_f.out.kept br1 L_f.out.inside).kept br2 (L_f.out.kept br1 L_f.out.inside).inside).cell 0, ((L_f.out.kept br1 L_f.out.inside).kept br2 (L_f.out.kept br1 L_f.out.inside).inside).cell 1⟩)
            | (go_at_call_of 64 (Value.agg #[.slice A n c, .slice A' n' c']); refine (implDistOf_is n c n' c' n c _ _ _ A A' A xs ys xs _ P5.out (((I_x.out.kept br1).kept br2)).X (((I_x.out.kept br1).kept br2)).Y (((I_x.out.kept br1).kept br2)).X (Nat.le_trans mn.2 (by decide)) (Nat.le_trans mn'.2 (by decide)) (Nat.le_trans mn.2 (by decide))).mono ?_
               rintro e W7r3 ⟨rfl, br3⟩
               have k_3 : W7r3.cell? ⟨W2.heap.size, 0, none⟩ = some (.int .i64 0) ∧ W7r3.cell? ⟨W2.heap.size, 1, none⟩ = some (.int .i64 0) ∧ W7r3.cell? ⟨W1.heap.size, 0, none⟩ = some (.slice A n c) ∧ W7r3.cell? ⟨W1.heap.size, 1, none⟩ = some (.slice A' n' c') ∧ W7r3.cell? ⟨W5b.heap.size, 0, none⟩ = some (.slice P m d) ∧ W7r3.cell? ⟨W5b.heap.size, 1, none⟩ = some (.slice P m d) ∧ W7r3.cell? ⟨W6.heap.size, 0, none⟩ = some (.slice (some ⟨g, 0, none⟩) n n) ∧ W7r3.cell? ⟨W6.heap.size, 1, none⟩ = some (.slice (some ⟨g', 0, none⟩) n n) := ⟨(((L_d.out.kept br1 L_d.out.inside).kept br2 (L_d.out.kept br1 L_d.out.inside).inside).kept br3 ((L_d.out.kept br1 L_d.out.inside).kept br2 (L_d.out.kept br1 L_d.out.inside).inside).inside).cell 0, (((L_d.out.kept br1 L_d.out.inside).kept br2 (L_d.out.kept br1 L_d.out.inside).inside).kept br3 ((L_d.out.kept br1 L_d.out.inside).kept br2 (L_d.out.kept br1 L_d.out.inside).inside).inside).cell 1, (((L_r.out.kept br1 L_r.out.inside).kept br2 (L_r.out.kept br1 L_r.out.inside).inside).kept br3 ((L_r.out.kept br1 L_r.out.inside).kept br2 (L_r.out.kept br1 L_r.out.inside).inside).inside).cell 0, (((L_r.out.kept br1 L_r.out.inside).kept br2 (L_r.out.kept br1 L_r.out.inside).inside).kept br3 ((L_r.out.kept br1 L_r.out.inside).kept br2 (L_r.out.kept br1 L_r.out.inside).inside).inside).cell 1, (((L_s.out.kept br1 L_s.out.inside).kept br2 (L_s.out.kept br1 L_s.out.inside).inside).kept br3 ((L_s.out.kept br1 L_s.out.inside).kept br2 (L_s.out.kept br1 L_s.out.inside).inside).inside).cell 0, (((L_s.out.kept br1 L_s.out.inside).kept br2 (L_s.out.kept br1 L_s.out.inside).inside).kept br3 ((L_s.out.kept br1 L_s.out.inside).kept br2 (L_s.out.kept br1 L_s.out.inside).inside).inside).cell 1, (((L_f.out.kept br1 L_f.out.inside).kept br2 (L_f.out.kept br1 L_f.out.inside).inside).kept br3 ((L_f.out.kept br1 L_f.out.inside).kept br2 (L_f.out.kept br1 L_f.out.inside).inside).inside).cell 0, (((L_f.out.kept br1 L_f.out.inside).kept br2 (L_f.out.kept br1 L_f.out.inside).inside).kept br3 ((L_f.out.kept br1 L_f.out.inside).kept br2 (L_f.out.kept br1 L_f.out.inside).inside).inside).cell 1⟩))
        clear c_d0 c_d1 c_r0 c_r1 c_s0 c_s1 c_f0 c_f1
        clear k_1 k_2 k_3
        replace L_r := Lib.hid (L_r.out.kept br1 L_r.out.inside)
        replace L_d := Lib.hid (L_d.out.kept br1 L_d.out.inside)
        replace L_a := Lib.hid (L_a.out.kept br1 L_a.out.inside)
        replace L_b := Lib.hid (L_b.out.kept br1 L_b.out.inside)
        replace L_s := Lib.hid (L_s.out.kept br1 L_s.out.inside)
        replace L_f := Lib.hid (L_f.out.kept br1 L_f.out.inside)
        replace I_x := Lib.hid (I_x.out.kept br1)
        replace I_p := Lib.hid (I_p.out.kept br1)
        replace I_u := Lib.hid (I_u.out.kept br1)
        replace I_v := Lib.hid (I_v.out.kept br1)
        replace I_f := Lib.hid (I_f.out.kept br1)
        replace B := Lib.hid (B.out.trans (br1.mono B.out.size))
        clear br1
        replace L_r := Lib.hid (L_r.out.kept br2 L_r.out.inside)
        replace L_d := Lib.hid (L_d.out.kept br2 L_d.out.inside)
        replace L_a := Lib.hid (L_a.out.kept br2 L_a.out.inside)
        replace L_b := Lib.hid (L_b.out.kept br2 L_b.out.inside)
        replace L_s := Lib.hid (L_s.out.kept br2 L_s.out.inside)
        replace L_f := Lib.hid (L_f.out.kept br2 L_f.out.inside)
        replace I_x := Lib.hid (I_x.out.kept br2)
        replace I_p := Lib.hid (I_p.out.kept br2)
        replace I_u := Lib.hid (I_u.out.kept br2)
        replace I_v := Lib.hid (I_v.out.kept br2)
        replace I_f := Lib.hid (I_f.out.kept br2)
        replace B := Lib.hid (B.out.trans (br2.mono B.out.size))
        clear br2
        replace L_r := Lib.hid (L_r.out.kept br3 L_r.out.inside)
        replace L_d := Lib.hid (L_d.out.kept br3 L_d.out.inside)
        replace L_a := Lib.hid (L_a.out.kept br3 L_a.out.inside)
        replace L_b := Lib.hid (L_b.out.kept br3 L_b.out.inside)
        replace L_s := Lib.hid (L_s.out.kept br3 L_s.out.inside)
        replace L_f := Lib.hid (L_f.out.kept br3 L_f.out.inside)
        replace I_x := Lib.hid (I_x.out.kept br3)
        replace I_p := Lib.hid (I_p.out.kept br3)
        replace I_u := Lib.hid (I_u.out.kept br3)
        replace I_v := Lib.hid (I_v.out.kept br3)
        replace I_f := Lib.hid (I_f.out.kept br3)
        replace B := Lib.hid (B.out.trans (br3.mono B.out.size))
        clear br3
        go_wp2
        go_ret
        exact ⟨rfl, B.out⟩
      · have hz' : (dv == 0) = false := by simpa using hz
        have P3 : Hid (coversF xs ys ps ps = false) := P3.out.trans (by simpa using hz)
        have c_d0 : W7.cell? ⟨W2.heap.size, 0, none⟩ = some (.int .i64 0) := L_d.out.cell 0
        have c_d1 : W7.cell? ⟨W2.heap.size, 1, none⟩ = some (.int .i64 dv) := L_d.out.cell 1
        have c_r0 : W7.cell? ⟨W1.heap.size, 0, none⟩ = some (.slice A n c) := L_r.out.cell 0
        have c_r1 : W7.cell? ⟨W1.heap.size, 1, none⟩ = some (.slice A' n' c') := L_r.out.cell 1
        have c_s0 : W7.cell? ⟨W5b.heap.size, 0, none⟩ = some (.slice P m d) := L_s.out.cell 0
        have c_s1 : W7.cell? ⟨W5b.heap.size, 1, none⟩ = some (.slice P m d) := L_s.out.cell 1
        have c_f0 : W7.cell? ⟨W6.heap.size, 0, none⟩ = some (.slice (some ⟨g, 0, none⟩) n n) := L_f.out.cell 0
        have c_f1 : W7.cell? ⟨W6.heap.size, 1, none⟩ = some (.slice (some ⟨g', 0, none⟩) n n) := L_f.out.cell 1
        go_upto_region 14 with fail
        go_region_held3 (fun w' => w'.cell? ⟨W2.heap.size, 0, none⟩ = some (.int .i64 0) ∧ w'.cell? ⟨W2.heap.size, 1, none⟩ = some (.int .i64 dv) ∧ w'.cell? ⟨W1.heap.size, 0, none⟩ = some (.slice A n c) ∧ w'.cell? ⟨W1.heap.size, 1, none⟩ = some (.slice A' n' c') ∧ w'.cell? ⟨W5b.heap.size, 0, none⟩ = some (.slice P m d) ∧ w'.cell? ⟨W5b.heap.size, 1, none⟩ = some (.slice P m d) ∧ w'.cell? ⟨W6.heap.size, 0, none⟩ = some (.slice (some ⟨g, 0, none⟩) n n) ∧ w'.cell? ⟨W6.heap.size, 1, none⟩ = some (.slice (some ⟨g', 0, none⟩) n n))
          (first | (simp [go_sem, c_d0, c_d1, c_r0, c_r1, c_s0, c_s1, c_f0, c_f1]; done) | with_reducible exact k_1 | with_reducible exact k_2 | with_reducible exact k_3 | fail)
          (first
            | (go_at_call 50; refine (implCovers_is n c n' c' m d m d _ _ _ _ A A' P P xs ys ps ps _ P3.out (I_x.out.drew).X (I_x.out.drew).Y (I_p.out.drew) (I_p.out.drew) (Nat.le_trans mn.2 (by decide)) (Nat.le_trans mn'.2 (by decide)) (Nat.le_trans mp.2 (by decide)) (Nat.le_trans mp.2 (by decide))).mono ?_
               rintro e W7r1 ⟨rfl, br1d⟩
               have br1 := below_drawn br1d
               have k_1 : W7r1.cell? ⟨W2.heap.size, 0, none⟩ = some (.int .i64 0) ∧ W7r1.cell? ⟨W2.heap.size, 1, none⟩ = some (.int .i64 dv) ∧ W7r1.cell? ⟨W1.heap.size, 0, none⟩ = some (.slice A n c) ∧ W7r1.cell? ⟨W1.heap.size, 1, none⟩ = some (.slice A' n' c') ∧ W7r1.cell? ⟨W5b.heap.size, 0, none⟩ = some (.slice P m d) ∧ W7r1.cell? ⟨W5b.heap.size, 1, none⟩ = some (.slice P m d) ∧ W7r1.cell? ⟨W6.heap.size, 0, none⟩ = some (.slice (some ⟨g, 0, none⟩) n n) ∧ W7r1.cell? ⟨W6.heap.size, 1, none⟩ = some (.slice (some ⟨g', 0, none⟩) n n) := ⟨(L_d.out.kept br1 L_d.out.inside).cell 0, (L_d.out.kept br1 L_d.out.inside).cell 1, (L_r.out.kept br1 L_r.out.inside).cell 0, (L_r.out.kept br1 L_r.out.inside).cell 1, (L_s.out.kept br1 L_s.out.inside).cell 0, (L_s.out.kept br1 L_s.out.inside).cell 1, (L_f.out.kept br1 L_f.out.inside).cell 0, (L_f.out.kept br1 L_f.out.inside).cell 1⟩)
            | (go_at_call_of 64 (Value.agg #[.slice (some ⟨g, 0, none⟩) n n, .slice (some ⟨g', 0, none⟩) n n]); refine (implDistOf_is n n n n m d _ _ _ (some ⟨g, 0, none⟩) (some ⟨g', 0, none⟩) P (mins xs ps) (maxs ys ps) ps _ P4.out ((I_f.out.kept br1)).X ((I_f.out.kept br1)).Y ((I_p.out.kept br1)) (Nat.le_trans mn.2 (by decide)) (Nat.le_trans mn.2 (by decide)) (Nat.le_trans mp.2 (by decide))).mono ?_
               rintro e W7r2 ⟨rfl, br2⟩
               have k_2 : W7r2.cell? ⟨W2.heap.size, 0, none⟩ = some (.int .i64 0) ∧ W7r2.cell? ⟨W2.heap.size, 1, none⟩ = some (.int .i64 dv) ∧ W7r2.cell? ⟨W1.heap.size, 0, none⟩ = some (.slice A n c) ∧ W7r2.cell? ⟨W1.heap.size, 1, none⟩ = some (.slice A' n' c') ∧ W7r2.cell? ⟨W5b.heap.size, 0, none⟩ = some (.slice P m d) ∧ W7r2.cell? ⟨W5b.heap.size, 1, none⟩ = some (.slice P m d) ∧ W7r2.cell? ⟨W6.heap.size, 0, none⟩ = some (.slice (some ⟨g, 0, none⟩) n n) ∧ W7r2.cell? ⟨W6.heap.size, 1, none⟩ = some (.slice (some ⟨g', 0, none⟩) n n) := ⟨((L_d.out.kept br1 L_d.out.inside).kept br2 (L_d.out.kept br1 L_d.out.inside).inside).cell 0, ((L_d.out.kept br1 L_d.out.inside).kept br2 (L_d.out.kept br1 L_d.out.inside).inside).cell 1, ((L_r.out.kept br1 L_r.out.inside).kept br2 (L_r.out.kept br1 L_r.out.inside).inside).cell 0, ((L_r.out.kept br1 L_r.out.inside).kept br2 (L_r.out.kept br1 L_r.out.inside).inside).cell 1, ((L_s.out.kept br1 L_s.out.inside).kept br2 (L_s.out.kept br1 L_s.out.inside).inside).cell 0, ((L_s.out.kept br1 L_s.out.inside).kept br2 (L_s.out.kept br1 L_s.out.inside).inside).cell 1, ((L_f.out.kept br1 L_f.out.inside).kept br2 (L_f.out.kept br1 L_f.out.inside).inside).cell 0, ((L_f.out.kept br1 L_f.out.inside).kept br2 (L_f.out.kept br1 L_f.out.inside).inside).cell 1⟩)
            | (go_at_call_of 64 (Value.agg #[.slice A n c, .slice A' n' c']); refine (implDistOf_is n c n' c' n c _ _ _ A A' A xs ys xs _ P5.out (((I_x.out.kept br1).kept br2)).X (((I_x.out.kept br1).kept br2)).Y (((I_x.out.kept br1).kept br2)).X (Nat.le_trans mn.2 (by decide)) (Nat.le_trans mn'.2 (by decide)) (Nat.le_trans mn.2 (by decide))).mono ?_
               rintro e W7r3 ⟨rfl, br3⟩
               have k_3 : W7r3.cell? ⟨W2.heap.size, 0, none⟩ = some (.int .i64 0) ∧ W7r3.cell? ⟨W2.heap.size, 1, none⟩ = some (.int .i64 dv) ∧ W7r3.cell? ⟨W1.heap.size, 0, none⟩ = some (.slice A n c) ∧ W7r3.cell? ⟨W1.heap.size, 1, none⟩ = some (.slice A' n' c') ∧ W7r3.cell? ⟨W5b.heap.size, 0, none⟩ = some (.slice P m d) ∧ W7r3.cell? ⟨W5b.heap.size, 1, none⟩ = some (.slice P m d) ∧ W7r3.cell? ⟨W6.heap.size, 0, none⟩ = some (.slice (some ⟨g, 0, none⟩) n n) ∧ W7r3.cell? ⟨W6.heap.size, 1, none⟩ = some (.slice (some ⟨g', 0, none⟩) n n) := ⟨(((L_d.out.kept br1 L_d.out.inside).kept br2 (L_d.out.kept br1 L_d.out.inside).inside).kept br3 ((L_d.out.kept br1 L_d.out.inside).kept br2 (L_d.out.kept br1 L_d.out.inside).inside).inside).cell 0, (((L_d.out.kept br1 L_d.out.inside).kept br2 (L_d.out.kept br1 L_d.out.inside).inside).kept br3 ((L_d.out.kept br1 L_d.out.inside).kept br2 (L_d.out.kept br1 L_d.out.inside).inside).inside).cell 1, (((L_r.out.kept br1 L_r.out.inside).kept br2 (L_r.out.kept br1 L_r.out.inside).inside).kept br3 ((L_r.out.kept br1 L_r.out.inside).kept br2 (L_r.out.kept br1 L_r.out.inside).inside).inside).cell 0, (((L_r.out.kept br1 L_r.out.inside).kept br2 (L_r.out.kept br1 L_r.out.inside).inside).kept br3 ((L_r.out.kept br1 L_r.out.inside).kept br2 (L_r.out.kept br1 L_r.out.inside).inside).inside).cell 1, (((L_s.out.kept br1 L_s.out.inside).kept br2 (L_s.out.kept br1 L_s.out.inside).inside).kept br3 ((L_s.out.kept br1 L_s.out.inside).kept br2 (L_s.out.kept br1 L_s.out.inside).inside).inside).cell 0, (((L_s.out.kept br1 L_s.out.inside).kept br2 (L_s.out.kept br1 L_s.out.inside).inside).kept br3 ((L_s.out.kept br1 L_s.out.inside).kept br2 (L_s.out.kept br1 L_s.out.inside).inside).inside).cell 1, (((L_f.out.kept br1 L_f.out.inside).kept br2 (L_f.out.kept br1 L_f.out.inside).inside).kept br3 ((L_f.out.kept br1 L_f.out.inside).kept br2 (L_f.out.kept br1 L_f.out.inside).inside).inside).cell 0, (((L_f.out.kept br1 L_f.out.inside).kept br2 (L_f.out.kept br1 L_f.out.inside).inside).kept br3 ((L_f.out.kept br1 L_f.out.inside).kept br2 (L_f.out.kept br1 L_f.out.inside).inside).inside).cell 1⟩))
        clear c_d0 c_d1 c_r0 c_r1 c_s0 c_s1 c_f0 c_f1
        clear k_1 k_2 k_3
        replace L_r := Lib.hid (L_r.out.kept br1 L_r.out.inside)
        replace L_d := Lib.hid (L_d.out.kept br1 L_d.out.inside)
        replace L_a := Lib.hid (L_a.out.kept br1 L_a.out.inside)
        replace L_b := Lib.hid (L_b.out.kept br1 L_b.out.inside)
        replace L_s := Lib.hid (L_s.out.kept br1 L_s.out.inside)
        replace L_f := Lib.hid (L_f.out.kept br1 L_f.out.inside)
        replace I_x := Lib.hid (I_x.out.kept br1)
        replace I_p := Lib.hid (I_p.out.kept br1)
        replace I_u := Lib.hid (I_u.out.kept br1)
        replace I_v := Lib.hid (I_v.out.kept br1)
        replace I_f := Lib.hid (I_f.out.kept br1)
        replace B := Lib.hid (B.out.trans (br1.mono B.out.size))
        clear br1
        replace L_r := Lib.hid (L_r.out.kept br2 L_r.out.inside)
        replace L_d := Lib.hid (L_d.out.kept br2 L_d.out.inside)
        replace L_a := Lib.hid (L_a.out.kept br2 L_a.out.inside)
        replace L_b := Lib.hid (L_b.out.kept br2 L_b.out.inside)
        replace L_s := Lib.hid (L_s.out.kept br2 L_s.out.inside)
        replace L_f := Lib.hid (L_f.out.kept br2 L_f.out.inside)
        replace I_x := Lib.hid (I_x.out.kept br2)
        replace I_p := Lib.hid (I_p.out.kept br2)
        replace I_u := Lib.hid (I_u.out.kept br2)
        replace I_v := Lib.hid (I_v.out.kept br2)
        replace I_f := Lib.hid (I_f.out.kept br2)
        replace B := Lib.hid (B.out.trans (br2.mono B.out.size))
        clear br2
        replace L_r := Lib.hid (L_r.out.kept br3 L_r.out.inside)
        replace L_d := Lib.hid (L_d.out.kept br3 L_d.out.inside)
        replace L_a := Lib.hid (L_a.out.kept br3 L_a.out.inside)
        replace L_b := Lib.hid (L_b.out.kept br3 L_b.out.inside)
        replace L_s := Lib.hid (L_s.out.kept br3 L_s.out.inside)
        replace L_f := Lib.hid (L_f.out.kept br3 L_f.out.inside)
        replace I_x := Lib.hid (I_x.out.kept br3)
        replace I_p := Lib.hid (I_p.out.kept br3)
        replace I_u := Lib.hid (I_u.out.kept br3)
        replace I_v := Lib.hid (I_v.out.kept br3)
        replace I_f := Lib.hid (I_f.out.kept br3)
        replace B := Lib.hid (B.out.trans (br3.mono B.out.size))
        clear br3
        go_wp2
        go_ret
        exact ⟨rfl, B.out⟩
    · have hdc' : (dc != 0) = true := by simpa using hdc
      go_wp2
      go_ret
      exact ⟨rfl, B.out⟩
  | false =>
    have c_d0 : W5.cell? ⟨W2.heap.size, 0, none⟩ = some (.int .i64 dc) := L_d.out.cell 0
    have c_d1 : W5.cell? ⟨W2.heap.size, 1, none⟩ = some (.int .i64 dv) := L_d.out.cell 1
    by_cases hdc : dc = 0
    · subst hdc
      obtain ⟨p1, p2, p3, p4, p5⟩ := dists_say (x1 := xs) (x2 := ys) (ps := ps) (by rw [HD.out])
      rw [HD.out] at p1 p3
      simp only at p1 p3
      have P2 := Lib.hid p2
      have P3 := Lib.hid p3
      have P4 := Lib.hid p4
      have P5 := Lib.hid p5
      clear p2 p3 p4 p5
      go_upto_region 12 with fail
      clear c_d0 c_d1
      have b_s := below_alloc W5 (.cells #[.slice P m d, .slice P m d] 43)
      have N_s := Lib.hid (Lies.new W5 43 #[.slice P m d, .slice P m d])
      replace L_r := Lib.hid (L_r.out.kept b_s L_r.out.inside)
      replace L_d := Lib.hid (L_d.out.kept b_s L_d.out.inside)
      replace L_a := Lib.hid (L_a.out.kept b_s L_a.out.inside)
      replace L_b := Lib.hid (L_b.out.kept b_s L_b.out.inside)
      replace I_x := Lib.hid (I_x.out.kept b_s)
      replace I_p := Lib.hid (I_p.out.kept b_s)
      replace I_u := Lib.hid (I_u.out.kept b_s)
      replace I_v := Lib.hid (I_v.out.kept b_s)
      replace B := Lib.hid (B.out.trans (b_s.mono B.out.size))
      clear b_s
      have L_s := Lib.hid N_s.out
      clear N_s
      have c_r0 : (W5.alloc (.cells #[.slice P m d, .slice P m d] 43)).cell? ⟨W1.heap.size, 0, none⟩ = some (.slice A n c) := L_r.out.cell 0
      have c_r1 : (W5.alloc (.cells #[.slice P m d, .slice P m d] 43)).cell? ⟨W1.heap.size, 1, none⟩ = some (.slice A' n' c') := L_r.out.cell 1
      have c_s0 : (W5.alloc (.cells #[.slice P m d, .slice P m d] 43)).cell? ⟨W5.heap.size, 0, none⟩ = some (.slice P m d) := L_s.out.cell 0
      have c_s1 : (W5.alloc (.cells #[.slice P m d, .slice P m d] 43)).cell? ⟨W5.heap.size, 1, none⟩ = some (.slice P m d) := L_s.out.cell 1
      go_wp2_with fail
      clear c_r0 c_r1 c_s0 c_s1
      refine (implUnionOf_is n c n' c' m d m d _ _ _ _ A A' P P xs ys ps ps _ P2.out I_x.out.X I_x.out.Y I_p.out I_p.out (Nat.le_trans mn.2 (by decide)) (Nat.le_trans mn'.2 (by decide)) (Nat.le_trans mp.2 (by decide)) (Nat.le_trans mp.2 (by decide)) mn.1).mono ?_
      rintro e W6 ⟨g, g', rfl, FI, b6⟩
      have I_f := Lib.hid FI
      clear FI
      replace L_r := Lib.hid (L_r.out.kept b6 L_r.out.inside)
      replace L_d := Lib.hid (L_d.out.kept b6 L_d.out.inside)
      replace L_a := Lib.hid (L_a.out.kept b6 L_a.out.inside)
      replace L_b := Lib.hid (L_b.out.kept b6 L_b.out.inside)
      replace L_s := Lib.hid (L_s.out.kept b6 L_s.out.inside)
      replace I_x := Lib.hid (I_x.out.kept b6)
      replace I_p := Lib.hid (I_p.out.kept b6)
      replace I_u := Lib.hid (I_u.out.kept b6)
      replace I_v := Lib.hid (I_v.out.kept b6)
      replace B := Lib.hid (B.out.trans (b6.mono B.out.size))
      clear b6
      have b_f := below_alloc W6 (.cells #[.slice (some ⟨g, 0, none⟩) n n, .slice (some ⟨g', 0, none⟩) n n] 43)
      have N_f := Lib.hid (Lies.new W6 43 #[.slice (some ⟨g, 0, none⟩) n n, .slice (some ⟨g', 0, none⟩) n n])
      replace L_r := Lib.hid (L_r.out.kept b_f L_r.out.inside)
      replace L_d := Lib.hid (L_d.out.kept b_f L_d.out.inside)
      replace L_a := Lib.hid (L_a.out.kept b_f L_a.out.inside)
      replace L_b := Lib.hid (L_b.out.kept b_f L_b.out.inside)
      replace L_s := Lib.hid (L_s.out.kept b_f L_s.out.inside)
      replace I_x := Lib.hid (I_x.out.kept b_f)
      replace I_p := Lib.hid (I_p.out.kept b_f)
      replace I_u := Lib.hid (I_u.out.kept b_f)
      replace I_v := Lib.hid (I_v.out.kept b_f)
      replace I_f := Lib.hid (I_f.out.kept b_f)
      replace B := Lib.hid (B.out.trans (b_f.mono B.out.size))
      clear b_f
      have L_f := Lib.hid N_f.out
      clear N_f
      go_upto_region 14 with fail
      generalize hW : (W6.alloc (.cells #[.slice (some ⟨g, 0, none⟩) n n, .slice (some ⟨g', 0, none⟩) n n] 43)) = W7 at *
      clear hW
      by_cases hz : dv = 0
      · subst hz
        have P3 : Hid (coversF xs ys ps ps = true) := P3.out.trans (by simp)
        have c_d0 : W7.cell? ⟨W2.heap.size, 0, none⟩ = some (.int .i64 0) := L_d.out.cell 0
        have c_d1 : W7.cell? ⟨W2.heap.size, 1, none⟩ = some (.int .i64 0) := L_d.out.cell 1
        have c_r0 : W7.cell? ⟨W1.heap.size, 0, none⟩ = some (.slice A n c) := L_r.out.cell 0
        have c_r1 : W7.cell? ⟨W1.heap.size, 1, none⟩ = some (.slice A' n' c') := L_r.out.cell 1
        have c_s0 : W7.cell? ⟨W5.heap.size, 0, none⟩ = some (.slice P m d) := L_s.out.cell 0
        have c_s1 : W7.cell? ⟨W5.heap.size, 1, none⟩ = some (.slice P m d) := L_s.out.cell 1
        have c_f0 : W7.cell? ⟨W6.heap.size, 0, none⟩ = some (.slice (some ⟨g, 0, none⟩) n n) := L_f.out.cell 0
        have c_f1 : W7.cell? ⟨W6.heap.size, 1, none⟩ = some (.slice (some ⟨g', 0, none⟩) n n) := L_f.out.cell 1
        go_upto_region 14 with fail
        go_region_held3 (fun w' => w'.cell? ⟨W2.heap.size, 0, none⟩ = some (.int .i64 0) ∧ w'.cell? ⟨W2.heap.size, 1, none⟩ = some (.int .i64 0) ∧ w'.cell? ⟨W1.heap.size, 0, none⟩ = some (.slice A n c) ∧ w'.cell? ⟨W1.heap.size, 1, none⟩ = some (.slice A' n' c') ∧ w'.cell? ⟨W5.heap.size, 0, none⟩ = some (.slice P m d) ∧ w'.cell? ⟨W5.heap.size, 1, none⟩ = some (.slice P m d) ∧ w'.cell? ⟨W6.heap.size, 0, none⟩ = some (.slice (some ⟨g, 0, none⟩) n n) ∧ w'.cell? ⟨W6.heap.size, 1, none⟩ = some (.slice (some ⟨g', 0, none⟩) n n))
          (first | (simp [go_sem, c_d0, c_d1, c_r0, c_r1, c_s0, c_s1, c_f0, c_f1]; done) | with_reducible exact k_1 | with_reducible exact k_2 | with_reducible exact k_3 | fail)
          (first
            | (go_at_call 50; refine (implCovers_is n c n' c' m d m d _ _ _ _ A A' P P xs ys ps ps _ P3.out (I_x.out.drew).X (I_x.out.drew).Y (I_p.out.drew) (I_p.out.drew) (Nat.le_trans mn.2 (by decide)) (Nat.le_trans mn'.2 (by decide)) (Nat.le_trans mp.2 (by decide)) (Nat.le_trans mp.2 (by decide))).mono ?_
               rintro e W7r1 ⟨rfl, br1d⟩
               have br1 := below_drawn br1d
               have k_1 : W7r1.cell? ⟨W2.heap.size, 0, none⟩ = some (.int .i64 0) ∧ W7r1.cell? ⟨W2.heap.size, 1, none⟩ = some (.int .i64 0) ∧ W7r1.cell? ⟨W1.heap.size, 0, none⟩ = some (.slice A n c) ∧ W7r1.cell? ⟨W1.heap.size, 1, none⟩ = some (.slice A' n' c') ∧ W7r1.cell? ⟨W5.heap.size, 0, none⟩ = some (.slice P m d) ∧ W7r1.cell? ⟨W5.heap.size, 1, none⟩ = some (.slice P m d) ∧ W7r1.cell? ⟨W6.heap.size, 0, none⟩ = some (.slice (some ⟨g, 0, none⟩) n n) ∧ W7r1.cell? ⟨W6.heap.size, 1, none⟩ = some (.slice (some ⟨g', 0, none⟩) n n) := ⟨(L_d.out.kept br1 L_d.out.inside).cell 0, (L_d.out.kept br1 L_d.out.inside).cell 1, (L_r.out.kept br1 L_r.out.inside).cell 0, (L_r.out.kept br1 L_r.out.inside).cell 1, (L_s.out.kept br1 L_s.out.inside).cell 0, (L_s.out.kept br1 L_s.out.inside).cell 1, (L_f.out.kept br1 L_f.out.inside).cell 0, (L_f.out.kept br1 L_f.out.inside).cell 1⟩)
            | (go_at_call_of 64 (Value.agg #[.slice (some ⟨g, 0, none⟩) n n, .slice (some ⟨g', 0, none⟩) n n]); refine (implDistOf_is n n n n m d _ _ _ (some ⟨g, 0, none⟩) (some ⟨g', 0, none⟩) P (mins xs ps) (maxs ys ps) ps _ P4.out ((I_f.out.kept br1)).X ((I_f.out.kept br1)).Y ((I_p.out.kept br1)) (Nat.le_trans mn.2 (by decide)) (Nat.le_trans mn.2 (by decide)) (Nat.le_trans mp.2 (by decide))).mono ?_
               rintro e W7r2 ⟨rfl, br2⟩
               have k_2 : W7r2.cell? ⟨W2.heap.size, 0, none⟩ = some (.int .i64 0) ∧ W7r2.cell? ⟨W2.heap.size, 1, none⟩ = some (.int .i64 0) ∧ W7r2.cell? ⟨W1.heap.size, 0, none⟩ = some (.slice A n c) ∧ W7r2.cell? ⟨W1.heap.size, 1, none⟩ = some (.slice A' n' c') ∧ W7r2.cell? ⟨W5.heap.size, 0, none⟩ = some (.slice P m d) ∧ W7r2.cell? ⟨W5.heap.size, 1, none⟩ = some (.slice P m d) ∧ W7r2.cell? ⟨W6.heap.size, 0, none⟩ = some (.slice (some ⟨g, 0, none⟩) n n) ∧ W7r2.cell? ⟨W6.heap.size, 1, none⟩ = some (.slice (some ⟨g', 0, none⟩) n n) := ⟨((L_d.out.kept br1 L_d.out.inside).kept br2 (L_d.out.kept br1 L_d.out.inside).inside).cell 0, ((L_d.out.kept br1 L_d.out.inside).kept br2 (L_d.out.kept br1 L_d.out.inside).inside).cell 1, ((L_r.out.kept br1 L_r.out.inside).kept br2 (L_r.out.kept br1 L_r.out.inside).inside).cell 0, ((L_r.out.kept br1 L_r.out.inside).kept br2 (L_r.out.kept br1 L_r.out.inside).inside).cell 1, ((L_s.out.kept br1 L_s.out.inside).kept br2 (L_s.out.kept br1 L_s.out.inside).inside).cell 0, ((L_s.out.kept br1 L_s.out.inside).kept br2 (L_s.out.kept br1 L_s.out.inside).inside).cell 1, ((L_f.out.kept br1 L_f.out.inside).kept br2 (L_f.out.kept br1 L_f.out.inside).inside).cell 0, ((L_f.out.kept br1 L_f.out.inside).kept br2 (L_f.out.kept br1 L_f.out.inside).inside).cell 1⟩)
            | (go_at_call_of 64 (Value.agg #[.slice A n c, .slice A' n' c']); refine (implDistOf_is n c n' c' n c _ _ _ A A' A xs ys xs _ P5.out (((I_x.out.kept br1).kept br2)).X (((I_x.out.kept br1).kept br2)).Y (((I_x.out.kept br1).kept br2)).X (Nat.le_trans mn.2 (by decide)) (Nat.le_trans mn'.2 (by decide)) (Nat.le_trans mn.2 (by decide))).mono ?_
               rintro e W7r3 ⟨rfl, br3⟩
               have k_3 : W7r3.cell? ⟨W2.heap.size, 0, none⟩ = some (.int .i64 0) ∧ W7r3.cell? ⟨W2.heap.size, 1, none⟩ = some (.int .i64 0) ∧ W7r3.cell? ⟨W1.heap.size, 0, none⟩ = some (.slice A n c) ∧ W7r3.cell? ⟨W1.heap.size, 1, none⟩ = some (.slice A' n' c') ∧ W7r3.cell? ⟨W5.heap.size, 0, none⟩ = some (.slice P m d) ∧ W7r3.cell? ⟨W5.heap.size, 1, none⟩ = some (.slice P m d) ∧ W7r3.cell? ⟨W6.heap.size, 0, none⟩ = some (.slice (some ⟨g, 0, none⟩) n n) ∧ W7r3.cell? ⟨W6.heap.size, 1, none⟩ = some (.slice (some ⟨g', 0, none⟩) n n) := ⟨(((L_d.out.kept br1 L_d.out.inside).kept br2 (L_d.out.kept br1 L_d.out.inside).inside).kept br3 ((L_d.out.kept br1 L_d.out.inside).kept br2 (L_d.out.kept br1 L_d.out.inside).inside).inside).cell 0, (((L_d.out.kept br1 L_d.out.inside).kept br2 (L_d.out.kept br1 L_d.out.inside).inside).kept br3 ((L_d.out.kept br1 L_d.out.inside).kept br2 (L_d.out.kept br1 L_d.out.inside).inside).inside).cell 1, (((L_r.out.kept br1 L_r.out.inside).kept br2 (L_r.out.kept br1 L_r.out.inside).inside).kept br3 ((L_r.out.kept br1 L_r.out.inside).kept br2 (L_r.out.kept br1 L_r.out.inside).inside).inside).cell 0, (((L_r.out.kept br1 L_r.out.inside).kept br2 (L_r.out.kept br1 L_r.out.inside).inside).kept br3 ((L_r.out.kept br1 L_r.out.inside).kept br2 (L_r.out.kept br1 L_r.out.inside).inside).inside).cell 1, (((L_s.out.kept br1 L_s.out.inside).kept br2 (L_s.out.kept br1 L_s.out.inside).inside).kept br3 ((L_s.out.kept br1 L_s.out.inside).kept br2 (L_s.out.kept br1 L_s.out.inside).inside).inside).cell 0, (((L_s.out.kept br1 L_s.out.inside).kept br2 (L_s.out.kept br1 L_s.out.inside).inside).kept br3 ((L_s.out.kept br1 L_s.out.inside).kept br2 (L_s.out.kept br1 L_s.out.inside).inside).inside).cell 1, (((L_f.out.kept br1 L_f.out.inside).kept br2 (L_f.out.kept br1 L_f.out.inside).inside).kept br3 ((L_f.out.kept br1 L_f.out.inside).kept br2 (L_f.out.kept br1 L_f.out.inside).inside).inside).cell 0, (((L_f.out.kept br1 L_f.out.inside).kept br2 (L_f.out.kept br1 L_f.out.inside).inside).kept br3 ((L_f.out.kept br1 L_f.out.inside).kept br2 (L_f.out.kept br1 L_f.out.inside).inside).inside).cell 1⟩))
        clear c_d0 c_d1 c_r0 c_r1 c_s0 c_s1 c_f0 c_f1
        clear k_1 k_2 k_3
        replace L_r := Lib.hid (L_r.out.kept br1 L_r.out.inside)
        replace L_d := Lib.hid (L_d.out.kept br1 L_d.out.inside)
        replace L_a := Lib.hid (L_a.out.kept br1 L_a.out.inside)
        replace L_b := Lib.hid (L_b.out.kept br1 L_b.out.inside)
        replace L_s := Lib.hid (L_s.out.kept br1 L_s.out.inside)
        replace L_f := Lib.hid (L_f.out.kept br1 L_f.out.inside)
        replace I_x := Lib.hid (I_x.out.kept br1)
        replace I_p := Lib.hid (I_p.out.kept br1)
        replace I_u := Lib.hid (I_u.out.kept br1)
        replace I_v := Lib.hid (I_v.out.kept br1)
        replace I_f := Lib.hid (I_f.out.kept br1)
        replace B := Lib.hid (B.out.trans (br1.mono B.out.size))
        clear br1
        replace L_r := Lib.hid (L_r.out.kept br2 L_r.out.inside)
        replace L_d := Lib.hid (L_d.out.kept br2 L_d.out.inside)
        replace L_a := Lib.hid (L_a.out.kept br2 L_a.out.inside)
        replace L_b := Lib.hid (L_b.out.kept br2 L_b.out.inside)
        replace L_s := Lib.hid (L_s.out.kept br2 L_s.out.inside)
        replace L_f := Lib.hid (L_f.out.kept br2 L_f.out.inside)
        replace I_x := Lib.hid (I_x.out.kept br2)
        replace I_p := Lib.hid (I_p.out.kept br2)
        replace I_u := Lib.hid (I_u.out.kept br2)
        replace I_v := Lib.hid (I_v.out.kept br2)
        replace I_f := Lib.hid (I_f.out.kept br2)
        replace B := Lib.hid (B.out.trans (br2.mono B.out.size))
        clear br2
        replace L_r := Lib.hid (L_r.out.kept br3 L_r.out.inside)
        replace L_d := Lib.hid (L_d.out.kept br3 L_d.out.inside)
        replace L_a := Lib.hid (L_a.out.kept br3 L_a.out.inside)
        replace L_b := Lib.hid (L_b.out.kept br3 L_b.out.inside)
        replace L_s := Lib.hid (L_s.out.kept br3 L_s.out.inside)
        replace L_f := Lib.hid (L_f.out.kept br3 L_f.out.inside)
        replace I_x := Lib.hid (I_x.out.kept br3)
        replace I_p := Lib.hid (I_p.out.kept br3)
        replace I_u := Lib.hid (I_u.out.kept br3)
        replace I_v := Lib.hid (I_v.out.kept br3)
        replace I_f := Lib.hid (I_f.out.kept br3)
        replace B := Lib.hid (B.out.trans (br3.mono B.out.size))
        clear br3
        go_wp2
        go_ret
        exact ⟨rfl, B.out⟩
      · have hz' : (dv == 0) = false := by simpa using hz
        have P3 : Hid (coversF xs ys ps ps = false) := P3.out.trans (by simpa using hz)
        have c_d0 : W7.cell? ⟨W2.heap.size, 0, none⟩ = some (.int .i64 0) := L_d.out.cell 0
        have c_d1 : W7.cell? ⟨W2.heap.size, 1, none⟩ = some (.int .i64 dv) := L_d.out.cell 1
        have c_r0 : W7.cell? ⟨W1.heap.size, 0, none⟩ = some (.slice A n c) := L_r.out.cell 0
        have c_r1 : W7.cell? ⟨W1.heap.size, 1, none⟩ = some (.slice A' n' c') := L_r.out.cell 1
        have c_s0 : W7.cell? ⟨W5.heap.size, 0, none⟩ = some (.slice P m d) := L_s.out.cell 0
        have c_s1 : W7.cell? ⟨W5.heap.size, 1, none⟩ = some (.slice P m d) := L_s.out.cell 1
        have c_f0 : W7.cell? ⟨W6.heap.size, 0, none⟩ = some (.slice (some ⟨g, 0, none⟩) n n) := L_f.out.cell 0
        have c_f1 : W7.cell? ⟨W6.heap.size, 1, none⟩ = some (.slice (some ⟨g', 0, none⟩) n n) := L_f.out.cell 1
        go_upto_region 14 with fail
        go_region_held3 (fun w' => w'.cell? ⟨W2.heap.size, 0, none⟩ = some (.int .i64 0) ∧ w'.cell? ⟨W2.heap.size, 1, none⟩ = some (.int .i64 dv) ∧ w'.cell? ⟨W1.heap.size, 0, none⟩ = some (.slice A n c) ∧ w'.cell? ⟨W1.heap.size, 1, none⟩ = some (.slice A' n' c') ∧ w'.cell? ⟨W5.heap.size, 0, none⟩ = some (.slice P m d) ∧ w'.cell? ⟨W5.heap.size, 1, none⟩ = some (.slice P m d) ∧ w'.cell? ⟨W6.heap.size, 0, none⟩ = some (.slice (some ⟨g, 0, none⟩) n n) ∧ w'.cell? ⟨W6.heap.size, 1, none⟩ = some (.slice (some ⟨g', 0, none⟩) n n))
          (first | (simp [go_sem, c_d0, c_d1, c_r0, c_r1, c_s0, c_s1, c_f0, c_f1]; done) | with_reducible exact k_1 | with_reducible exact k_2 | with_reducible exact k_3 | fail)
          (first
            | (go_at_call 50; refine (implCovers_is n c n' c' m d m d _ _ _ _ A A' P P xs ys ps ps _ P3.out (I_x.out.drew).X (I_x.out.drew).Y (I_p.out.drew) (I_p.out.drew) (Nat.le_trans mn.2 (by decide)) (Nat.le_trans mn'.2 (by decide)) (Nat.le_trans mp.2 (by decide)) (Nat.le_trans mp.2 (by decide))).mono ?_
               rintro e W7r1 ⟨rfl, br1d⟩
               have br1 := below_drawn br1d
               have k_1 : W7r1.cell? ⟨W2.heap.size, 0, none⟩ = some (.int .i64 0) ∧ W7r1.cell? ⟨W2.heap.size, 1, none⟩ = some (.int .i64 dv) ∧ W7r1.cell? ⟨W1.heap.size, 0, none⟩ = some (.slice A n c) ∧ W7r1.cell? ⟨W1.heap.size, 1, none⟩ = some (.slice A' n' c') ∧ W7r1.cell? ⟨W5.heap.size, 0, none⟩ = some (.slice P m d) ∧ W7r1.cell? ⟨W5.heap.size, 1, none⟩ = some (.slice P m d) ∧ W7r1.cell? ⟨W6.heap.size, 0, none⟩ = some (.slice (some ⟨g, 0, none⟩) n n) ∧ W7r1.cell? ⟨W6.heap.size, 1, none⟩ = some (.slice (some ⟨g', 0, none⟩) n n) := ⟨(L_d.out.kept br1 L_d.out.inside).cell 0, (L_d.out.kept br1 L_d.out.inside).cell 1, (L_r.out.kept br1 L_r.out.inside).cell 0, (L_r.out.kept br1 L_r.out.inside).cell 1, (L_s.out.kept br1 L_s.out.inside).cell 0, (L_s.out.kept br1 L_s.out.inside).cell 1, (L_f.out.kept br1 L_f.out.inside).cell 0, (L_f.out.kept br1 L_f.out.inside).cell 1⟩)
            | (go_at_call_of 64 (Value.agg #[.slice (some ⟨g, 0, none⟩) n n, .slice (some ⟨g', 0, none⟩) n n]); refine (implDistOf_is n n n n m d _ _ _ (some ⟨g, 0, none⟩) (some ⟨g', 0, none⟩) P (mins xs ps) (maxs ys ps) ps _ P4.out ((I_f.out.kept br1)).X ((I_f.out.kept br1)).Y ((I_p.out.kept br1)) (Nat.le_trans mn.2 (by decide)) (Nat.le_trans mn.2 (by decide)) (Nat.le_trans mp.2 (by decide))).mono ?_
               rintro e W7r2 ⟨rfl, br2⟩
               have k_2 : W7r2.cell? ⟨W2.heap.size, 0, none⟩ = some (.int .i64 0) ∧ W7r2.cell? ⟨W2.heap.size, 1, none⟩ = some (.int .i64 dv) ∧ W7r2.cell? ⟨W1.heap.size, 0, none⟩ = some (.slice A n c) ∧ W7r2.cell? ⟨W1.heap.size, 1, none⟩ = some (.slice A' n' c') ∧ W7r2.cell? ⟨W5.heap.size, 0, none⟩ = some (.slice P m d) ∧ W7r2.cell? ⟨W5.heap.size, 1, none⟩ = some (.slice P m d) ∧ W7r2.cell? ⟨W6.heap.size, 0, none⟩ = some (.slice (some ⟨g, 0, none⟩) n n) ∧ W7r2.cell? ⟨W6.heap.size, 1, none⟩ = some (.slice (some ⟨g', 0, none⟩) n n) := ⟨((L_d.out.kept br1 L_d.out.inside).kept br2 (L_d.out.kept br1 L_d.out.inside).inside).cell 0, ((L_d.out.kept br1 L_d.out.inside).kept br2 (L_d.out.kept br1 L_d.out.inside).inside).cell 1, ((L_r.out.kept br1 L_r.out.inside).kept br2 (L_r.out.kept br1 L_r.out.inside).inside).cell 0, ((L_r.out.kept br1 L_r.out.inside).kept br2 (L_r.out.kept br1 L_r.out.inside).inside).cell 1, ((L_s.out.kept br1 L_s.out.inside).kept br2 (L_s.out.kept br1 L_s.out.inside).inside).cell 0, ((L_s.out.kept br1 L_s.out.inside).kept br2 (L_s.out.kept br1 L_s.out.inside).inside).cell 1, ((L_f.out.kept br1 L_f.out.inside).kept br2 (L_f.out.kept br1 L_f.out.inside).inside).cell 0, ((L_f.out.kept br1 L_f.out.inside).kept br2 (L_f.out.kept br1 L_f.out.inside).inside).cell 1⟩)
            | (go_at_call_of 64 (Value.agg #[.slice A n c, .slice A' n' c']); refine (implDistOf_is n c n' c' n c _ _ _ A A' A xs ys xs _ P5.out (((I_x.out.kept br1).kept br2)).X (((I_x.out.kept br1).kept br2)).Y (((I_x.out.kept br1).kept br2)).X (Nat.le_trans mn.2 (by decide)) (Nat.le_trans mn'.2 (by decide)) (Nat.le_trans mn.2 (by decide))).mono ?_
               rintro e W7r3 ⟨rfl, br3⟩
               have k_3 : W7r3.cell? ⟨W2.heap.size, 0, none⟩ = some (.int .i64 0) ∧ W7r3.cell? ⟨W2.heap.size, 1, none⟩ = some (.int .i64 dv) ∧ W7r3.cell? ⟨W1.heap.size, 0, none⟩ = some (.slice A n c) ∧ W7r3.cell? ⟨W1.heap.size, 1, none⟩ = some (.slice A' n' c') ∧ W7r3.cell? ⟨W5.heap.size, 0, none⟩ = some (.slice P m d) ∧ W7r3.cell? ⟨W5.heap.size, 1, none⟩ = some (.slice P m d) ∧ W7r3.cell? ⟨W6.heap.size, 0, none⟩ = some (.slice (some ⟨g, 0, none⟩) n n) ∧ W7r3.cell? ⟨W6.heap.size, 1, none⟩ = some (.slice (some ⟨g', 0, none⟩) n n) := ⟨(((L_d.out.kept br1 L_d.out.inside).kept br2 (L_d.out.kept br1 L_d.out.inside).inside).kept br3 ((L_d.out.kept br1 L_d.out.inside).kept br2 (L_d.out.kept br1 L_d.out.inside).inside).inside).cell 0, (((L_d.out.kept br1 L_d.out.inside).kept br2 (L_d.out.kept br1 L_d.out.inside).inside).kept br3 ((L_d.out.kept br1 L_d.out.inside).kept br2 (L_d.out.kept br1 L_d.out.inside).inside).inside).cell 1, (((L_r.out.kept br1 L_r.out.inside).kept br2 (L_r.out.kept br1 L_r.out.inside).inside).kept br3 ((L_r.out.kept br1 L_r.out.inside).kept br2 (L_r.out.kept br1 L_r.out.inside).inside).inside).cell 0, (((L_r.out.kept br1 L_r.out.inside).kept br2 (L_r.out.kept br1 L_r.out.inside).inside).kept br3 ((L_r.out.kept br1 L_r.out.inside).kept br2 (L_r.out.kept br1 L_r.out.inside).inside).inside).cell 1, (((L_s.out.kept br1 L_s.out.inside).kept br2 (L_s.out.kept br1 L_s.out.inside).inside).kept br3 ((L_s.out.kept br1 L_s.out.inside).kept br2 (L_s.out.kept br1 L_s.out.inside).inside).inside).cell 0, (((L_s.out.kept br1 L_s.out.inside).kept br2 (L_s.out.kept br1 L_s.out.inside).inside).kept br3 ((L_s.out.kept br1 L_s.out.inside).kept br2 (L_s.out.kept br1 L_s.out.inside).inside).inside).cell 1, (((L_f.out.kept br1 L_f.out.inside).kept br2 (L_f.out.kept br1 L_f.out.inside).inside).kept br3 ((L_f.out.kept br1 L_f.out.inside).kept br2 (L_f.out.kept br1 L_f.out.inside).inside).inside).cell 0, (((L_f.out.kept br1 L_f.out.inside).kept br2 (L_f.out.kept br1 L_f.out.inside).inside).kept br3 ((L_f.out.kept br1 L_f.out.inside).kept br2 (L_f.out.kept br1 L_f.out.inside).inside).inside).cell 1⟩))
        clear c_d0 c_d1 c_r0 c_r1 c_s0 c_s1 c_f0 c_f1
        clear k_1 k_2 k_3
        replace L_r := Lib.hid (L_r.out.kept br1 L_r.out.inside)
        replace L_d := Lib.hid (L_d.out.kept br1 L_d.out.inside)
        replace L_a := Lib.hid (L_a.out.kept br1 L_a.out.inside)
        replace L_b := Lib.hid (L_b.out.kept br1 L_b.out.inside)
        replace L_s := Lib.hid (L_s.out.kept br1 L_s.out.inside)
        replace L_f := Lib.hid (L_f.out.kept br1 L_f.out.inside)
        replace I_x := Lib.hid (I_x.out.kept br1)
        replace I_p := Lib.hid (I_p.out.kept br1)
        replace I_u := Lib.hid (I_u.out.kept br1)
        replace I_v := Lib.hid (I_v.out.kept br1)
        replace I_f := Lib.hid (I_f.out.kept br1)
        replace B := Lib.hid (B.out.trans (br1.mono B.out.size))
        clear br1
        replace L_r := Lib.hid (L_r.out.kept br2 L_r.out.inside)
        replace L_d := Lib.hid (L_d.out.kept br2 L_d.out.inside)
        replace L_a := Lib.hid (L_a.out.kept br2 L_a.out.inside)
        replace L_b := Lib.hid (L_b.out.kept br2 L_b.out.inside)
        replace L_s := Lib.hid (L_s.out.kept br2 L_s.out.inside)
        replace L_f := Lib.hid (L_f.out.kept br2 L_f.out.inside)
        replace I_x := Lib.hid (I_x.out.kept br2)
        replace I_p := Lib.hid (I_p.out.kept br2)
        replace I_u := Lib.hid (I_u.out.kept br2)
        replace I_v := Lib.hid (I_v.out.kept br2)
        replace I_f := Lib.hid (I_f.out.kept br2)
        replace B := Lib.hid (B.out.trans (br2.mono B.out.size))
        clear br2
        replace L_r := Lib.hid (L_r.out.kept br3 L_r.out.inside)
        replace L_d := Lib.hid (L_d.out.kept br3 L_d.out.inside)
        replace L_a := Lib.hid (L_a.out.kept br3 L_a.out.inside)
        replace L_b := Lib.hid (L_b.out.kept br3 L_b.out.inside)
        replace L_s := Lib.hid (L_s.out.kept br3 L_s.out.inside)
        replace L_f := Lib.hid (L_f.out.kept br3 L_f.out.inside)
        replace I_x := Lib.hid (I_x.out.kept br3)
        replace I_p := Lib.hid (I_p.out.kept br3)
        replace I_u := Lib.hid (I_u.out.kept br3)
        replace I_v := Lib.hid (I_v.out.kept br3)
        replace I_f := Lib.hid (I_f.out.kept br3)
        replace B := Lib.hid (B.out.trans (br3.mono B.out.size))
        clear br3
        go_wp2
        go_ret
        exact ⟨rfl, B.out⟩
    · have hdc' : (dc != 0) = true := by simpa using hdc
      go_wp2
      go_ret
      exact ⟨rfl, B.out⟩

end Go.Proofs.Ytdkaofmlgaofgab
