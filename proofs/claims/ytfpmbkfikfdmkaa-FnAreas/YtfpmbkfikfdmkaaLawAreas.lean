/- FnAreas: whatever the bytes, the law of areas holds of what they draw. No condition. -/
import Derived.Test.YtfpmbkfikfdmkaaLawDists
import Derived.Test.YtfpmbkfikfdmkaaImplGrowth
import Derived.Test.YtfpmbkfikfdmkaaImplOverlap
import Derived.Test.YtfpmbkfikfdmkaaImplArea
import Derived.Test.YtfpmbkfikfdmkaaMeets
import Derived.Test.YtfpmbkfikfdmkaaHeldLast
namespace Go.Proofs.Ytfpmbkfikfdmkaa
open Go.RowKit

theorem areaF_bd (xs ys : List Int) : 0 ≤ (areaF xs ys).2 ∧ (areaF xs ys).2 ≤ 8000000000 := by
  unfold areaF
  by_cases h0 : rf xs ys xs.length = 0
  · rw [if_pos h0]
    obtain ⟨n, h, _⟩ := rights (xs := xs) (ys := ys) (us := xs) (vs := ys) (by unfold rf2; simp [h0])
    have hb := areaTo_bd h n (Nat.le_refl _)
    rw [h.len]
    have hd := h.dim
    refine ⟨hb.1, Int.le_trans hb.2 ?_⟩
    rcases hd with rfl | rfl <;> decide
  · rw [if_neg h0]; exact ⟨Int.le_refl _, show (0 : Int) ≤ 8000000000 by decide⟩
theorem grow_code {x1 x2 x3 x4 : List Int} (h : (growF x1 x2 x3 x4).1 = 0) : rf2 x1 x2 x3 x4 = 0 := by
  unfold growF at h
  by_cases h0 : rf2 x1 x2 x3 x4 = 0
  · exact h0
  · rw [if_neg h0] at h; exact h
theorem over_code (x1 x2 x3 x4 : List Int) : (overF x1 x2 x3 x4).1 = (growF x1 x2 x3 x4).1 := by
  unfold overF growF
  by_cases h0 : rf2 x1 x2 x3 x4 = 0
  · rw [if_pos h0, if_pos h0]
  · rw [if_neg h0, if_neg h0]
theorem implGrowthOf_is (n1 c1 n2 c2 n3 c3 n4 c4 lo1 lo2 lo3 lo4 : Nat) (A1 A2 A3 A4 : Option Addr) (x1 x2 x3 x4 : List Int) (w : World) {a b : Int} (hD : growF x1 x2 x3 x4 = (a, b))
    (h1 : Ints w lo1 A1 n1 x1) (h2 : Ints w lo2 A2 n2 x2) (h3 : Ints w lo3 A3 n3 x3) (h4 : Ints w lo4 A4 n4 x4) (m1 : n1 ≤ maxLen) (m2 : n2 ≤ maxLen) (m3 : n3 ≤ maxLen) (m4 : n4 ≤ maxLen) :
    Calls Try.prog 21 #[.agg #[.slice A1 n1 c1, .slice A2 n2 c2], .agg #[.slice A3 n3 c3, .slice A4 n4 c4]] w fun e w' => e = .returned (.agg #[.int .i64 a, .int .i64 b]) ∧ Below w.heap.size w w' :=
  (implGrowthOf_any n1 c1 n2 c2 n3 c3 n4 c4 lo1 lo2 lo3 lo4 A1 A2 A3 A4 x1 x2 x3 x4 w h1 h2 h3 h4 m1 m2 m3 m4).mono fun _ _ h => ⟨by rw [h.1, hD], h.2⟩
theorem specGrowthOf_is (n1 c1 n2 c2 n3 c3 n4 c4 lo1 lo2 lo3 lo4 : Nat) (A1 A2 A3 A4 : Option Addr) (x1 x2 x3 x4 : List Int) (w : World) {a b : Int} (hD : growF x1 x2 x3 x4 = (a, b))
    (h1 : Ints w lo1 A1 n1 x1) (h2 : Ints w lo2 A2 n2 x2) (h3 : Ints w lo3 A3 n3 x3) (h4 : Ints w lo4 A4 n4 x4) (m1 : n1 ≤ maxLen) (m2 : n2 ≤ maxLen) (m3 : n3 ≤ maxLen) (m4 : n4 ≤ maxLen) :
    Calls Try.prog 23 #[.agg #[.slice A1 n1 c1, .slice A2 n2 c2], .agg #[.slice A3 n3 c3, .slice A4 n4 c4]] w fun e w' => e = .returned (.agg #[.int .i64 a, .int .i64 b]) ∧ Below w.heap.size w w' :=
  (specGrowthOf_any n1 c1 n2 c2 n3 c3 n4 c4 lo1 lo2 lo3 lo4 A1 A2 A3 A4 x1 x2 x3 x4 w h1 h2 h3 h4 m1 m2 m3 m4).mono fun _ _ h => ⟨by rw [h.1, hD], h.2⟩
theorem implOverlapOf_is (n1 c1 n2 c2 n3 c3 n4 c4 lo1 lo2 lo3 lo4 : Nat) (A1 A2 A3 A4 : Option Addr) (x1 x2 x3 x4 : List Int) (w : World) {a b : Int} (hD : overF x1 x2 x3 x4 = (a, b))
    (h1 : Ints w lo1 A1 n1 x1) (h2 : Ints w lo2 A2 n2 x2) (h3 : Ints w lo3 A3 n3 x3) (h4 : Ints w lo4 A4 n4 x4) (m1 : n1 ≤ maxLen) (m2 : n2 ≤ maxLen) (m3 : n3 ≤ maxLen) (m4 : n4 ≤ maxLen) :
    Calls Try.prog 22 #[.agg #[.slice A1 n1 c1, .slice A2 n2 c2], .agg #[.slice A3 n3 c3, .slice A4 n4 c4]] w fun e w' => e = .returned (.agg #[.int .i64 a, .int .i64 b]) ∧ Below w.heap.size w w' :=
  (implOverlapOf_any n1 c1 n2 c2 n3 c3 n4 c4 lo1 lo2 lo3 lo4 A1 A2 A3 A4 x1 x2 x3 x4 w h1 h2 h3 h4 m1 m2 m3 m4).mono fun _ _ h => ⟨by rw [h.1, hD], h.2⟩
theorem specOverlapOf_is (n1 c1 n2 c2 n3 c3 n4 c4 lo1 lo2 lo3 lo4 : Nat) (A1 A2 A3 A4 : Option Addr) (x1 x2 x3 x4 : List Int) (w : World) {a b : Int} (hD : overF x1 x2 x3 x4 = (a, b))
    (h1 : Ints w lo1 A1 n1 x1) (h2 : Ints w lo2 A2 n2 x2) (h3 : Ints w lo3 A3 n3 x3) (h4 : Ints w lo4 A4 n4 x4) (m1 : n1 ≤ maxLen) (m2 : n2 ≤ maxLen) (m3 : n3 ≤ maxLen) (m4 : n4 ≤ maxLen) :
    Calls Try.prog 24 #[.agg #[.slice A1 n1 c1, .slice A2 n2 c2], .agg #[.slice A3 n3 c3, .slice A4 n4 c4]] w fun e w' => e = .returned (.agg #[.int .i64 a, .int .i64 b]) ∧ Below w.heap.size w w' :=
  (specOverlapOf_any n1 c1 n2 c2 n3 c3 n4 c4 lo1 lo2 lo3 lo4 A1 A2 A3 A4 x1 x2 x3 x4 w h1 h2 h3 h4 m1 m2 m3 m4).mono fun _ _ h => ⟨by rw [h.1, hD], h.2⟩
theorem implAreaOf_is (n1 c1 n2 c2 lo1 lo2 : Nat) (A1 A2 : Option Addr) (x1 x2 : List Int) (w : World) {a b : Int} (hD : areaF x1 x2 = (a, b))
    (h1 : Ints w lo1 A1 n1 x1) (h2 : Ints w lo2 A2 n2 x2) (m1 : n1 ≤ maxLen) (m2 : n2 ≤ maxLen) :
    Calls Try.prog 25 #[.agg #[.slice A1 n1 c1, .slice A2 n2 c2]] w fun e w' => e = .returned (.agg #[.int .i64 a, .int .i64 b]) ∧ Below w.heap.size w w' :=
  (implAreaOf_any n1 c1 n2 c2 lo1 lo2 A1 A2 x1 x2 w h1 h2 m1 m2).mono fun _ _ h => ⟨by rw [h.1, hD], h.2⟩
theorem specAreaOf_is (n1 c1 n2 c2 lo1 lo2 : Nat) (A1 A2 : Option Addr) (x1 x2 : List Int) (w : World) {a b : Int} (hD : areaF x1 x2 = (a, b))
    (h1 : Ints w lo1 A1 n1 x1) (h2 : Ints w lo2 A2 n2 x2) (m1 : n1 ≤ maxLen) (m2 : n2 ≤ maxLen) :
    Calls Try.prog 26 #[.agg #[.slice A1 n1 c1, .slice A2 n2 c2]] w fun e w' => e = .returned (.agg #[.int .i64 a, .int .i64 b]) ∧ Below w.heap.size w w' :=
  (specAreaOf_any n1 c1 n2 c2 lo1 lo2 A1 A2 x1 x2 w h1 h2 m1 m2).mono fun _ _ h => ⟨by rw [h.1, hD], h.2⟩
theorem implMarginOf_is (n1 c1 n2 c2 lo1 lo2 : Nat) (A1 A2 : Option Addr) (x1 x2 : List Int) (w : World) {a b : Int} (hD : marginF x1 x2 = (a, b))
    (h1 : Ints w lo1 A1 n1 x1) (h2 : Ints w lo2 A2 n2 x2) (m1 : n1 ≤ maxLen) (m2 : n2 ≤ maxLen) :
    Calls Try.prog 27 #[.agg #[.slice A1 n1 c1, .slice A2 n2 c2]] w fun e w' => e = .returned (.agg #[.int .i64 a, .int .i64 b]) ∧ Below w.heap.size w w' :=
  (implMarginOf_any n1 c1 n2 c2 lo1 lo2 A1 A2 x1 x2 w h1 h2 m1 m2).mono fun _ _ h => ⟨by rw [h.1, hD], h.2⟩
theorem specMarginOf_is (n1 c1 n2 c2 lo1 lo2 : Nat) (A1 A2 : Option Addr) (x1 x2 : List Int) (w : World) {a b : Int} (hD : marginF x1 x2 = (a, b))
    (h1 : Ints w lo1 A1 n1 x1) (h2 : Ints w lo2 A2 n2 x2) (m1 : n1 ≤ maxLen) (m2 : n2 ≤ maxLen) :
    Calls Try.prog 28 #[.agg #[.slice A1 n1 c1, .slice A2 n2 c2]] w fun e w' => e = .returned (.agg #[.int .i64 a, .int .i64 b]) ∧ Below w.heap.size w w' :=
  (specMarginOf_any n1 c1 n2 c2 lo1 lo2 A1 A2 x1 x2 w h1 h2 m1 m2).mono fun _ _ h => ⟨by rw [h.1, hD], h.2⟩
theorem implMeets_is (n1 c1 n2 c2 n3 c3 n4 c4 lo1 lo2 lo3 lo4 : Nat) (A1 A2 A3 A4 : Option Addr) (x1 x2 x3 x4 : List Int) (w : World) {b : Bool} (hb : meetsF x1 x2 x3 x4 = b)
    (h1 : Ints w lo1 A1 n1 x1) (h2 : Ints w lo2 A2 n2 x2) (h3 : Ints w lo3 A3 n3 x3) (h4 : Ints w lo4 A4 n4 x4) (m1 : n1 ≤ maxLen) (m2 : n2 ≤ maxLen) (m3 : n3 ≤ maxLen) (m4 : n4 ≤ maxLen) :
    Calls Try.prog 14 #[.agg #[.slice A1 n1 c1, .slice A2 n2 c2], .agg #[.slice A3 n3 c3, .slice A4 n4 c4]] w fun e w' => e = .returned (.bool b) ∧ Below w.heap.size w w' :=
  (implMeets_any n1 c1 n2 c2 n3 c3 n4 c4 lo1 lo2 lo3 lo4 A1 A2 A3 A4 x1 x2 x3 x4 w h1 h2 h3 h4 m1 m2 m3 m4).mono fun _ _ h => ⟨by rw [h.1, hb], h.2⟩

set_option maxRecDepth 100000 in
set_option maxHeartbeats 32000000 in
theorem lawAreas_walk (n0 c0 : Nat) (A0 : Option Addr) (zs : List Int) (w : World) (hz : Bys w w.heap.size A0 n0 zs) :
    Calls Try.prog 4 #[.slice A0 n0 c0] w fun e w' => e = .returned (.bool true) ∧ Below w.heap.size w w' := by
  have HZ := Lib.hid hz
  clear hz
  have B := Lib.hid (Below.refl w.heap.size w)
  have fld : ∀ (x y : Int) (X : World), (Instr.field 35 (.agg #[.int .i64 x, .int .i64 y]) 1).run Try.prog X = .ok (.int .i64 y) X := fun _ _ _ => by kernel_rfl
  have fld2 : ∀ (x : Int) (u1 u2 : Value) (X : World), (Instr.field 30 (.agg #[.int .i64 x, u1, u2]) 1).run Try.prog X = .ok (.agg #[u1, u2]) X := fun _ _ _ _ => by kernel_rfl
  go_enter Try.func4, Try.ntmps4
  go_wp2_with fail
  refine (lwBig_any n0 c0 A0 w).mono ?_
  rintro e W0 ⟨rfl, rfl⟩
  by_cases hbig : (1048576 : Int) < n0
  · have hb : decide ((1048576 : Int) < n0) = true := by simpa using hbig
    rw [hb]
    go_wp2
    go_ret
    exact ⟨rfl, B.out⟩
  have hb : decide ((1048576 : Int) < n0) = false := by simpa using hbig
  rw [hb]
  have hn0 : n0 ≤ 1048576 := by omega
  go_wp2_with fail
  refine (drawGrowthOf_any w.heap.size n0 c0 A0 zs w HZ.out (Nat.le_refl _) hn0).mono ?_
  rintro e W1 ⟨A, A', P, P', n, c, n', c', m, d, m', d', xs, ys, us, vs, rfl, XI, PI, b1⟩
  have I_x := Lib.hid XI
  have I_p := Lib.hid PI
  have mn := XI.n1
  have mn' := XI.n2
  have mp := PI.n1
  have mp' := PI.n2
  clear XI PI
  replace HZ := Lib.hid (HZ.out.kept b1 B.out.size)
  replace B := Lib.hid (B.out.trans (b1.mono B.out.size))
  clear b1
  clear HZ
  obtain ⟨⟨gc, gv⟩, hg⟩ : ∃ D, growF xs ys us vs = D := ⟨_, rfl⟩
  have HG := Lib.hid hg
  clear hg
  obtain ⟨⟨oc, ov⟩, ho⟩ : ∃ D, overF xs ys us vs = D := ⟨_, rfl⟩
  have HO := Lib.hid ho
  clear ho
  obtain ⟨⟨ac, av⟩, ha⟩ : ∃ D, areaF xs ys = D := ⟨_, rfl⟩
  have HA := Lib.hid ha
  clear ha
  obtain ⟨⟨mc, mv⟩, hm⟩ : ∃ D, marginF xs ys = D := ⟨_, rfl⟩
  have HM := Lib.hid hm
  clear hm
  have b_a := below_alloc W1 (.cells #[.slice A n c, .slice A' n' c'] 26)
  have N_a := Lib.hid (Lies.new W1 26 #[.slice A n c, .slice A' n' c'])
  replace I_x := Lib.hid (I_x.out.kept b_a)
  replace I_p := Lib.hid (I_p.out.kept b_a)
  replace B := Lib.hid (B.out.trans (b_a.mono B.out.size))
  clear b_a
  have L_a := Lib.hid N_a.out
  clear N_a
  have b_b := below_alloc (W1.alloc (.cells #[.slice A n c, .slice A' n' c'] 26)) (.cells #[.slice P m d, .slice P' m' d'] 26)
  have N_b := Lib.hid (Lies.laid2 W1 (.cells #[.slice A n c, .slice A' n' c'] 26) 26 #[.slice P m d, .slice P' m' d'])
  replace L_a := Lib.hid (L_a.out.kept b_b L_a.out.inside)
  replace I_x := Lib.hid (I_x.out.kept b_b)
  replace I_p := Lib.hid (I_p.out.kept b_b)
  replace B := Lib.hid (B.out.trans (b_b.mono B.out.size))
  clear b_b
  have L_b := Lib.hid N_b.out
  clear N_b
  go_upto_region 4 with fail
  generalize hW : ((W1.alloc (.cells #[.slice A n c, .slice A' n' c'] 26)).alloc (.cells #[.slice P m d, .slice P' m' d'] 26)) = W2 at *
  clear hW
  have c_a0 : W2.cell? ⟨W1.heap.size, 0, none⟩ = some (.slice A n c) := L_a.out.cell 0
  have c_a1 : W2.cell? ⟨W1.heap.size, 1, none⟩ = some (.slice A' n' c') := L_a.out.cell 1
  have c_b0 : W2.cell? ⟨W1.heap.size + 1, 0, none⟩ = some (.slice P m d) := L_b.out.cell 0
  have c_b1 : W2.cell? ⟨W1.heap.size + 1, 1, none⟩ = some (.slice P' m' d') := L_b.out.cell 1
  go_wp2_with fail
  clear c_a0 c_a1 c_b0 c_b1
  refine (implGrowthOf_is n c n' c' m d m' d' _ _ _ _ A A' P P' xs ys us vs _ HG.out (I_x.out).X (I_x.out).Y (I_p.out).X (I_p.out).Y (Nat.le_trans mn.2 (by decide)) (Nat.le_trans mn'.2 (by decide)) (Nat.le_trans mp.2 (by decide)) (Nat.le_trans mp'.2 (by decide))).mono ?_
  rintro e W3 ⟨rfl, b3⟩
  replace L_a := Lib.hid (L_a.out.kept b3 L_a.out.inside)
  replace L_b := Lib.hid (L_b.out.kept b3 L_b.out.inside)
  replace I_x := Lib.hid (I_x.out.kept b3)
  replace I_p := Lib.hid (I_p.out.kept b3)
  replace B := Lib.hid (B.out.trans (b3.mono B.out.size))
  clear b3
  have b_g := below_alloc W3 (.cells #[.int .i64 gc, .int .i64 gv] 35)
  have N_g := Lib.hid (Lies.new W3 35 #[.int .i64 gc, .int .i64 gv])
  replace L_a := Lib.hid (L_a.out.kept b_g L_a.out.inside)
  replace L_b := Lib.hid (L_b.out.kept b_g L_b.out.inside)
  replace I_x := Lib.hid (I_x.out.kept b_g)
  replace I_p := Lib.hid (I_p.out.kept b_g)
  replace B := Lib.hid (B.out.trans (b_g.mono B.out.size))
  clear b_g
  have L_g := Lib.hid N_g.out
  clear N_g
  have c_a0 : (W3.alloc (.cells #[.int .i64 gc, .int .i64 gv] 35)).cell? ⟨W1.heap.size, 0, none⟩ = some (.slice A n c) := L_a.out.cell 0
  have c_a1 : (W3.alloc (.cells #[.int .i64 gc, .int .i64 gv] 35)).cell? ⟨W1.heap.size, 1, none⟩ = some (.slice A' n' c') := L_a.out.cell 1
  have c_b0 : (W3.alloc (.cells #[.int .i64 gc, .int .i64 gv] 35)).cell? ⟨W1.heap.size + 1, 0, none⟩ = some (.slice P m d) := L_b.out.cell 0
  have c_b1 : (W3.alloc (.cells #[.int .i64 gc, .int .i64 gv] 35)).cell? ⟨W1.heap.size + 1, 1, none⟩ = some (.slice P' m' d') := L_b.out.cell 1
  go_wp2_with fail
  clear c_a0 c_a1 c_b0 c_b1
  refine (implOverlapOf_is n c n' c' m d m' d' _ _ _ _ A A' P P' xs ys us vs _ HO.out (I_x.out).X (I_x.out).Y (I_p.out).X (I_p.out).Y (Nat.le_trans mn.2 (by decide)) (Nat.le_trans mn'.2 (by decide)) (Nat.le_trans mp.2 (by decide)) (Nat.le_trans mp'.2 (by decide))).mono ?_
  rintro e W4 ⟨rfl, b4⟩
  replace L_a := Lib.hid (L_a.out.kept b4 L_a.out.inside)
  replace L_b := Lib.hid (L_b.out.kept b4 L_b.out.inside)
  replace L_g := Lib.hid (L_g.out.kept b4 L_g.out.inside)
  replace I_x := Lib.hid (I_x.out.kept b4)
  replace I_p := Lib.hid (I_p.out.kept b4)
  replace B := Lib.hid (B.out.trans (b4.mono B.out.size))
  clear b4
  have b_o := below_alloc W4 (.cells #[.int .i64 oc, .int .i64 ov] 35)
  have N_o := Lib.hid (Lies.new W4 35 #[.int .i64 oc, .int .i64 ov])
  replace L_a := Lib.hid (L_a.out.kept b_o L_a.out.inside)
  replace L_b := Lib.hid (L_b.out.kept b_o L_b.out.inside)
  replace L_g := Lib.hid (L_g.out.kept b_o L_g.out.inside)
  replace I_x := Lib.hid (I_x.out.kept b_o)
  replace I_p := Lib.hid (I_p.out.kept b_o)
  replace B := Lib.hid (B.out.trans (b_o.mono B.out.size))
  clear b_o
  have L_o := Lib.hid N_o.out
  clear N_o
  go_upto_region 6 with fail
  generalize hW : (W4.alloc (.cells #[.int .i64 oc, .int .i64 ov] 35)) = W5 at *
  clear hW
  have c_a0 : W5.cell? ⟨W1.heap.size, 0, none⟩ = some (.slice A n c) := L_a.out.cell 0
  have c_a1 : W5.cell? ⟨W1.heap.size, 1, none⟩ = some (.slice A' n' c') := L_a.out.cell 1
  have c_b0 : W5.cell? ⟨W1.heap.size + 1, 0, none⟩ = some (.slice P m d) := L_b.out.cell 0
  have c_b1 : W5.cell? ⟨W1.heap.size + 1, 1, none⟩ = some (.slice P' m' d') := L_b.out.cell 1
  have c_g0 : W5.cell? ⟨W3.heap.size, 0, none⟩ = some (.int .i64 gc) := L_g.out.cell 0
  have c_g1 : W5.cell? ⟨W3.heap.size, 1, none⟩ = some (.int .i64 gv) := L_g.out.cell 1
  have c_o0 : W5.cell? ⟨W4.heap.size, 0, none⟩ = some (.int .i64 oc) := L_o.out.cell 0
  have c_o1 : W5.cell? ⟨W4.heap.size, 1, none⟩ = some (.int .i64 ov) := L_o.out.cell 1
  go_upto_region 6 with fail
  go_region_held3 (fun w' => w'.cell? ⟨W1.heap.size, 0, none⟩ = some (.slice A n c) ∧ w'.cell? ⟨W1.heap.size, 1, none⟩ = some (.slice A' n' c') ∧ w'.cell? ⟨W1.heap.size + 1, 0, none⟩ = some (.slice P m d) ∧ w'.cell? ⟨W1.heap.size + 1, 1, none⟩ = some (.slice P' m' d') ∧ w'.cell? ⟨W3.heap.size, 0, none⟩ = some (.int .i64 gc) ∧ w'.cell? ⟨W3.heap.size, 1, none⟩ = some (.int .i64 gv) ∧ w'.cell? ⟨W4.heap.size, 0, none⟩ = some (.int .i64 oc) ∧ w'.cell? ⟨W4.heap.size, 1, none⟩ = some (.int .i64 ov))
    (first | (simp [go_sem, c_a0, c_a1, c_b0, c_b1, c_g0, c_g1, c_o0, c_o1]; done) | with_reducible exact k_1 | with_reducible exact k_2 | with_reducible exact k_3 | with_reducible exact k_4 | with_reducible exact k_5 | with_reducible exact k_6 | fail)
    (first
      | (go_at_call 23; refine (specGrowthOf_is n c n' c' m d m' d' _ _ _ _ A A' P P' xs ys us vs _ HG.out (I_x.out.drew).X (I_x.out.drew).Y (I_p.out.drew).X (I_p.out.drew).Y (Nat.le_trans mn.2 (by decide)) (Nat.le_trans mn'.2 (by decide)) (Nat.le_trans mp.2 (by decide)) (Nat.le_trans mp'.2 (by decide))).mono ?_
         rintro e W5r1 ⟨rfl, br1d⟩
         have br1 := below_drawn br1d
         have k_1 : W5r1.cell? ⟨W1.heap.size, 0, none⟩ = some (.slice A n c) ∧ W5r1.cell? ⟨W1.heap.size, 1, none⟩ = some (.slice A' n' c') ∧ W5r1.cell? ⟨W1.heap.size + 1, 0, none⟩ = some (.slice P m d) ∧ W5r1.cell? ⟨W1.heap.size + 1, 1, none⟩ = some (.slice P' m' d') ∧ W5r1.cell? ⟨W3.heap.size, 0, none⟩ = some (.int .i64 gc) ∧ W5r1.cell? ⟨W3.heap.size, 1, none⟩ = some (.int .i64 gv) ∧ W5r1.cell? ⟨W4.heap.size, 0, none⟩ = some (.int .i64 oc) ∧ W5r1.cell? ⟨W4.heap.size, 1, none⟩ = some (.int .i64 ov) := ⟨(L_a.out.kept br1 L_a.out.inside).cell 0, (L_a.out.kept br1 L_a.out.inside).cell 1, (L_b.out.kept br1 L_b.out.inside).cell 0, (L_b.out.kept br1 L_b.out.inside).cell 1, (L_g.out.kept br1 L_g.out.inside).cell 0, (L_g.out.kept br1 L_g.out.inside).cell 1, (L_o.out.kept br1 L_o.out.inside).cell 0, (L_o.out.kept br1 L_o.out.inside).cell 1⟩)
      | (go_at_call 24; refine (specOverlapOf_is n c n' c' m d m' d' _ _ _ _ A A' P P' xs ys us vs _ HO.out ((I_x.out.kept br1)).X ((I_x.out.kept br1)).Y ((I_p.out.kept br1)).X ((I_p.out.kept br1)).Y (Nat.le_trans mn.2 (by decide)) (Nat.le_trans mn'.2 (by decide)) (Nat.le_trans mp.2 (by decide)) (Nat.le_trans mp'.2 (by decide))).mono ?_
         rintro e W5r2 ⟨rfl, br2⟩
         have k_2 : W5r2.cell? ⟨W1.heap.size, 0, none⟩ = some (.slice A n c) ∧ W5r2.cell? ⟨W1.heap.size, 1, none⟩ = some (.slice A' n' c') ∧ W5r2.cell? ⟨W1.heap.size + 1, 0, none⟩ = some (.slice P m d) ∧ W5r2.cell? ⟨W1.heap.size + 1, 1, none⟩ = some (.slice P' m' d') ∧ W5r2.cell? ⟨W3.heap.size, 0, none⟩ = some (.int .i64 gc) ∧ W5r2.cell? ⟨W3.heap.size, 1, none⟩ = some (.int .i64 gv) ∧ W5r2.cell? ⟨W4.heap.size, 0, none⟩ = some (.int .i64 oc) ∧ W5r2.cell? ⟨W4.heap.size, 1, none⟩ = some (.int .i64 ov) := ⟨((L_a.out.kept br1 L_a.out.inside).kept br2 (L_a.out.kept br1 L_a.out.inside).inside).cell 0, ((L_a.out.kept br1 L_a.out.inside).kept br2 (L_a.out.kept br1 L_a.out.inside).inside).cell 1, ((L_b.out.kept br1 L_b.out.inside).kept br2 (L_b.out.kept br1 L_b.out.inside).inside).cell 0, ((L_b.out.kept br1 L_b.out.inside).kept br2 (L_b.out.kept br1 L_b.out.inside).inside).cell 1, ((L_g.out.kept br1 L_g.out.inside).kept br2 (L_g.out.kept br1 L_g.out.inside).inside).cell 0, ((L_g.out.kept br1 L_g.out.inside).kept br2 (L_g.out.kept br1 L_g.out.inside).inside).cell 1, ((L_o.out.kept br1 L_o.out.inside).kept br2 (L_o.out.kept br1 L_o.out.inside).inside).cell 0, ((L_o.out.kept br1 L_o.out.inside).kept br2 (L_o.out.kept br1 L_o.out.inside).inside).cell 1⟩)
      | (go_at_call 25; refine (implAreaOf_is n c n' c' _ _ A A' xs ys _ HA.out (((I_x.out.kept br1).kept br2)).X (((I_x.out.kept br1).kept br2)).Y (Nat.le_trans mn.2 (by decide)) (Nat.le_trans mn'.2 (by decide))).mono ?_
         rintro e W5r3 ⟨rfl, br3⟩
         have k_3 : W5r3.cell? ⟨W1.heap.size, 0, none⟩ = some (.slice A n c) ∧ W5r3.cell? ⟨W1.heap.size, 1, none⟩ = some (.slice A' n' c') ∧ W5r3.cell? ⟨W1.heap.size + 1, 0, none⟩ = some (.slice P m d) ∧ W5r3.cell? ⟨W1.heap.size + 1, 1, none⟩ = some (.slice P' m' d') ∧ W5r3.cell? ⟨W3.heap.size, 0, none⟩ = some (.int .i64 gc) ∧ W5r3.cell? ⟨W3.heap.size, 1, none⟩ = some (.int .i64 gv) ∧ W5r3.cell? ⟨W4.heap.size, 0, none⟩ = some (.int .i64 oc) ∧ W5r3.cell? ⟨W4.heap.size, 1, none⟩ = some (.int .i64 ov) := ⟨(((L_a.out.kept br1 L_a.out.inside).kept br2 (L_a.out.kept br1 L_a.out.inside).inside).kept br3 ((L_a.out.kept br1 L_a.out.inside).kept br2 (L_a.out.kept br1 L_a.out.inside).inside).inside).cell 0, (((L_a.out.kept br1 L_a.out.inside).kept br2 (L_a.out.kept br1 L_a.out.inside).inside).kept br3 ((L_a.out.kept br1 L_a.out.inside).kept br2 (L_a.out.kept br1 L_a.out.inside).inside).inside).cell 1, (((L_b.out.kept br1 L_b.out.inside).kept br2 (L_b.out.kept br1 L_b.out.inside).inside).kept br3 ((L_b.out.kept br1 L_b.out.inside).kept br2 (L_b.out.kept br1 L_b.out.inside).inside).inside).cell 0, (((L_b.out.kept br1 L_b.out.inside).kept br2 (L_b.out.kept br1 L_b.out.inside).inside).kept br3 ((L_b.out.kept br1 L_b.out.inside).kept br2 (L_b.out.kept br1 L_b.out.inside).inside).inside).cell 1, (((L_g.out.kept br1 L_g.out.inside).kept br2 (L_g.out.kept br1 L_g.out.inside).inside).kept br3 ((L_g.out.kept br1 L_g.out.inside).kept br2 (L_g.out.kept br1 L_g.out.inside).inside).inside).cell 0, (((L_g.out.kept br1 L_g.out.inside).kept br2 (L_g.out.kept br1 L_g.out.inside).inside).kept br3 ((L_g.out.kept br1 L_g.out.inside).kept br2 (L_g.out.kept br1 L_g.out.inside).inside).inside).cell 1, (((L_o.out.kept br1 L_o.out.inside).kept br2 (L_o.out.kept br1 L_o.out.inside).inside).kept br3 ((L_o.out.kept br1 L_o.out.inside).kept br2 (L_o.out.kept br1 L_o.out.inside).inside).inside).cell 0, (((L_o.out.kept br1 L_o.out.inside).kept br2 (L_o.out.kept br1 L_o.out.inside).inside).kept br3 ((L_o.out.kept br1 L_o.out.inside).kept br2 (L_o.out.kept br1 L_o.out.inside).inside).inside).cell 1⟩)
      | (go_at_call 26; refine (specAreaOf_is n c n' c' _ _ A A' xs ys _ HA.out ((((I_x.out.kept br1).kept br2).kept br3)).X ((((I_x.out.kept br1).kept br2).kept br3)).Y (Nat.le_trans mn.2 (by decide)) (Nat.le_trans mn'.2 (by decide))).mono ?_
         rintro e W5r4 ⟨rfl, br4⟩
         have k_4 : W5r4.cell? ⟨W1.heap.size, 0, none⟩ = some (.slice A n c) ∧ W5r4.cell? ⟨W1.heap.size, 1, none⟩ = some (.slice A' n' c') ∧ W5r4.cell? ⟨W1.heap.size + 1, 0, none⟩ = some (.slice P m d) ∧ W5r4.cell? ⟨W1.heap.size + 1, 1, none⟩ = some (.slice P' m' d') ∧ W5r4.cell? ⟨W3.heap.size, 0, none⟩ = some (.int .i64 gc) ∧ W5r4.cell? ⟨W3.heap.size, 1, none⟩ = some (.int .i64 gv) ∧ W5r4.cell? ⟨W4.heap.size, 0, none⟩ = some (.int .i64 oc) ∧ W5r4.cell? ⟨W4.heap.size, 1, none⟩ = some (.int .i64 ov) := ⟨((((L_a.out.kept br1 L_a.out.inside).kept br2 (L_a.out.kept br1 L_a.out.inside).inside).kept br3 ((L_a.out.kept br1 L_a.out.inside).kept br2 (L_a.out.kept br1 L_a.out.inside).inside).inside).kept br4 (((L_a.out.kept br1 L_a.out.inside).kept br2 (L_a.out.kept br1 L_a.out.inside).inside).kept br3 ((L_a.out.kept br1 L_a.out.inside).kept br2 (L_a.out.kept br1 L_a.out.inside).inside).inside).inside).cell 0, ((((L_a.out.kept br1 L_a.out.inside).kept br2 (L_a.out.kept br1 L_a.out.inside).inside).kept br3 ((L_a.out.kept br1 L_a.out.inside).kept br2 (L_a.out.kept br1 L_a.out.inside).inside).inside).kept br4 (((L_a.out.kept br1 L_a.out.inside).kept br2 (L_a.out.kept br1 L_a.out.inside).inside).kept br3 ((L_a.out.kept br1 L_a.out.inside).kept br2 (L_a.out.kept br1 L_a.out.inside).inside).inside).inside).cell 1, ((((L_b.out.kept br1 L_b.out.inside).kept br2 (L_b.out.kept br1 L_b.out.inside).inside).kept br3 ((L_b.out.kept br1 L_b.out.inside).kept br2 (L_b.out.kept br1 L_b.out.inside).inside).inside).kept br4 (((L_b.out.kept br1 L_b.out.inside).kept br2 (L_b.out.kept br1 L_b.out.inside).inside).kept br3 ((L_b.out.kept br1 L_b.out.inside).kept br2 (L_b.out.kept br1 L_b.out.inside).inside).inside).inside).cell 0, ((((L_b.out.kept br1 L_b.out.inside).kept br2 (L_b.out.kept br1 L_b.out.inside).inside).kept br3 ((L_b.out.kept br1 L_b.out.inside).kept br2 (L_b.out.kept br1 L_b.out.inside).inside).inside).kept br4 (((L_b.out.kept br1 L_b.out.inside).kept br2 (L_b.out.kept br1 L_b.out.inside).inside).kept br3 ((L_b.out.kept br1 L_b.out.inside).kept br2 (L_b.out.kept br1 L_b.out.inside).inside).inside).inside).cell 1, ((((L_g.out.kept br1 L_g.out.inside).kept br2 (L_g.out.kept br1 L_g.out.inside).inside).kept br3 ((L_g.out.kept br1 L_g.out.inside).kept br2 (L_g.out.kept br1 L_g.out.inside).inside).inside).kept br4 (((L_g.out.kept br1 L_g.out.inside).kept br2 (L_g.out.kept br1 L_g.out.inside).inside).kept br3 ((L_g.out.kept br1 L_g.out.inside).kept br2 (L_g.out.kept br1 L_g.out.inside).inside).inside).inside).cell 0, ((((L_g.out.kept br1 L_g.out.inside).kept br2 (L_g.out.kept br1 L_g.out.inside).inside).kept br3 ((L_g.out.kept br1 L_g.out.inside).kept br2 (L_g.out.kept br1 L_g.out.inside).inside).inside).kept br4 (((L_g.out.kept br1 L_g.out.inside).kept br2 (L_g.out.kept br1 L_g.out.inside).inside).kept br3 ((L_g.out.kept br1 L_g.out.inside).kept br2 (L_g.out.kept br1 L_g.out.inside).inside).inside).inside).cell 1, ((((L_o.out.kept br1 L_o.out.inside).kept br2 (L_o.out.kept br1 L_o.out.inside).inside).kept br3 ((L_o.out.kept br1 L_o.out.inside).kept br2 (L_o.out.kept br1 L_o.out.inside).inside).inside).kept br4 (((L_o.out.kept br1 L_o.out.inside).kept br2 (L_o.out.kept br1 L_o.out.inside).inside).kept br3 ((L_o.out.kept br1 L_o.out.inside).kept br2 (L_o.out.kept br1 L_o.out.inside).inside).inside).inside).cell 0, ((((L_o.out.kept br1 L_o.out.inside).kept br2 (L_o.out.kept br1 L_o.out.inside).inside).kept br3 ((L_o.out.kept br1 L_o.out.inside).kept br2 (L_o.out.kept br1 L_o.out.inside).inside).inside).kept br4 (((L_o.out.kept br1 L_o.out.inside).kept br2 (L_o.out.kept br1 L_o.out.inside).inside).kept br3 ((L_o.out.kept br1 L_o.out.inside).kept br2 (L_o.out.kept br1 L_o.out.inside).inside).inside).inside).cell 1⟩)
      | (go_at_call 27; refine (implMarginOf_is n c n' c' _ _ A A' xs ys _ HM.out (((((I_x.out.kept br1).kept br2).kept br3).kept br4)).X (((((I_x.out.kept br1).kept br2).kept br3).kept br4)).Y (Nat.le_trans mn.2 (by decide)) (Nat.le_trans mn'.2 (by decide))).mono ?_
         rintro e W5r5 ⟨rfl, br5⟩
         have k_5 : W5r5.cell? ⟨W1.heap.size, 0, none⟩ = some (.slice A n c) ∧ W5r5.cell? ⟨W1.heap.size, 1, none⟩ = some (.slice A' n' c') ∧ W5r5.cell? ⟨W1.heap.size + 1, 0, none⟩ = some (.slice P m d) ∧ W5r5.cell? ⟨W1.heap.size + 1, 1, none⟩ = some (.slice P' m' d') ∧ W5r5.cell? ⟨W3.heap.size, 0, none⟩ = some (.int .i64 gc) ∧ W5r5.cell? ⟨W3.heap.size, 1, none⟩ = some (.int .i64 gv) ∧ W5r5.cell? ⟨W4.heap.size, 0, none⟩ = some (.int .i64 oc) ∧ W5r5.cell? ⟨W4.heap.size, 1, none⟩ = some (.int .i64 ov) := ⟨(((((L_a.out.kept br1 L_a.out.inside).kept br2 (L_a.out.kept br1 L_a.out.inside).inside).kept br3 ((L_a.out.kept br1 L_a.out.inside).kept br2 (L_a.out.kept br1 L_a.out.inside).inside).inside).kept br4 (((L_a.out.kept br1 L_a.out.inside).kept br2 (L_a.out.kept br1 L_a.out.inside).inside).kept br3 ((L_a.out.kept br1 L_a.out.inside).kept br2 (L_a.out.kept br1 L_a.out.inside).inside).inside).inside).kept br5 ((((L_a.out.kept br1 L_a.out.inside).kept br2 (L_a.out.kept br1 L_a.out.inside).inside).kept br3 ((L_a.out.kept br1 L_a.out.inside).kept br2 (L_a.out.kept br1 L_a.out.inside).inside).inside).kept br4 (((L_a.out.kept br1 L_a.out.inside).kept br2 (L_a.out.kept br1 L_a.out.inside).inside).kept br3 ((L_a.out.kept br1 L_a.out.inside).kept br2 (L_a.out.kept br1 L_a.out.inside).inside).inside).inside).inside).cell 0, (((((L_a.out.kept br1 L_a.out.inside).kept br2 (L_a.out.kept br1 L_a.out.inside).inside).kept br3 ((L_a.out.kept br1 L_a.out.inside).kept br2 (L_a.out.kept br1 L_a.out.inside).inside).inside).kept br4 (((L_a.out.kept br1 L_a.out.inside).kept br2 (L_a.out.kept br1 L_a.out.inside).inside).kept br3 ((L_a.out.kept br1 L_a.out.inside).kept br2 (L_a.out.kept br1 L_a.out.inside).inside).inside).inside).kept br5 ((((L_a.out.kept br1 L_a.out.inside).kept br2 (L_a.out.kept br1 L_a.out.inside).inside).kept br3 ((L_a.out.kept br1 L_a.out.inside).kept br2 (L_a.out.kept br1 L_a.out.inside).inside).inside).kept br4 (((L_a.out.kept br1 L_a.out.inside).kept br2 (L_a.out.kept br1 L_a.out.inside).inside).kept br3 ((L_a.out.kept br1 L_a.out.inside).kept br2 (L_a.out.kept br1 L_a.out.inside).inside).inside).inside).inside).cell 1, (((((L_b.out.kept br1 L_b.out.inside).kept br2 (L_b.out.kept br1 L_b.out.inside).inside).kept br3 ((L_b.out.kept br1 L_b.out.inside).kept br2 (L_b.out.kept br1 L_b.out.inside).inside).inside).kept br4 (((L_b.out.kept br1 L_b.out.inside).kept br2 (L_b.out.kept br1 L_b.out.inside).inside).kept br3 ((L_b.out.kept br1 L_b.out.inside).kept br2 (L_b.out.kept br1 L_b.out.inside).inside).inside).inside).kept br5 ((((L_b.out.kept br1 L_b.out.inside).kept br2 (L_b.out.kept br1 L_b.out.inside).inside).kept br3 ((L_b.out.kept br1 L_b.out.inside).kept br2 (L_b.out.kept br1 L_b.out.inside).inside).inside).kept br4 (((L_b.out.kept br1 L_b.out.inside).kept br2 (L_b.out.kept br1 L_b.out.inside).inside).kept br3 ((L_b.out.kept br1 L_b.out.inside).kept br2 (L_b.out.kept br1 L_b.out.inside).inside).inside).inside).inside).cell 0, (((((L_b.out.kept br1 L_b.out.inside).kept br2 (L_b.out.kept br1 L_b.out.inside).inside).kept br3 ((L_b.out.kept br1 L_b.out.inside).kept br2 (L_b.out.kept br1 L_b.out.inside).inside).inside).kept br4 (((L_b.out.kept br1 L_b.out.inside).kept br2 (L_b.out.kept br1 L_b.out.inside).inside).kept br3 ((L_b.out.kept br1 L_b.out.inside).kept br2 (L_b.out.kept br1 L_b.out.inside).inside).inside).inside).kept br5 ((((L_b.out.kept br1 L_b.out.inside).kept br2 (L_b.out.kept br1 L_b.out.inside).inside).kept br3 ((L_b.out.kept br1 L_b.out.inside).kept br2 (L_b.out.kept br1 L_b.out.inside).inside).inside).kept br4 (((L_b.out.kept br1 L_b.out.inside).kept br2 (L_b.out.kept br1 L_b.out.inside).inside).kept br3 ((L_b.out.kept br1 L_b.out.inside).kept br2 (L_b.out.kept br1 L_b.out.inside).inside).inside).inside).inside).cell 1, (((((L_g.out.kept br1 L_g.out.inside).kept br2 (L_g.out.kept br1 L_g.out.inside).inside).kept br3 ((L_g.out.kept br1 L_g.out.inside).kept br2 (L_g.out.kept br1 L_g.out.inside).inside).inside).kept br4 (((L_g.out.kept br1 L_g.out.inside).kept br2 (L_g.out.kept br1 L_g.out.inside).inside).kept br3 ((L_g.out.kept br1 L_g.out.inside).kept br2 (L_g.out.kept br1 L_g.out.inside).inside).inside).inside).kept br5 ((((L_g.out.kept br1 L_g.out.inside).kept br2 (L_g.out.kept br1 L_g.out.inside).inside).kept br3 ((L_g.out.kept br1 L_g.out.inside).kept br2 (L_g.out.kept br1 L_g.out.inside).inside).inside).kept br4 (((L_g.out.kept br1 L_g.out.inside).kept br2 (L_g.out.kept br1 L_g.out.inside).inside).kept br3 ((L_g.out.kept br1 L_g.out.inside).kept br2 (L_g.out.kept br1 L_g.out.inside).inside).inside).inside).inside).cell 0, (((((L_g.out.kept br1 L_g.out.inside).kept br2 (L_g.out.kept br1 L_g.out.inside).inside).kept br3 ((L_g.out.kept br1 L_g.out.inside).kept br2 (L_g.out.kept br1 L_g.out.inside).inside).inside).kept br4 (((L_g.out.kept br1 L_g.out.inside).kept br2 (L_g.out.kept br1 L_g.out.inside).inside).kept br3 ((L_g.out.kept br1 L_g.out.inside).kept br2 (L_g.out.kept br1 L_g.out.inside).inside).inside).inside).kept br5 ((((L_g.out.kept br1 L_g.out.inside).kept br2 (L_g.out.kept br1 L_g.out.inside).inside).kept br3 ((L_g.out.kept br1 L_g.out.inside).kept br2 (L_g.out.kept br1 L_g.out.inside).inside).inside).kept br4 (((L_g.out.kept br1 L_g.out.inside).kept br2 (L_g.out.kept br1 L_g.out.inside).inside).kept br3 ((L_g.out.kept br1 L_g.out.inside).kept br2 (L_g.out.kept br1 L_g.out.inside).inside).inside).inside).inside).cell 1, (((((L_o.out.kept br1 L_o.out.inside).kept br2 (L_o.out.kept br1 L_o.out.inside).inside).kept br3 ((L_o.out.kept br1 L_o.out.inside).kept br2 (L_o.out.kept br1 L_o.out.inside).inside).inside).kept br4 (((L_o.out.kept br1 L_o.out.inside).kept br2 (L_o.out.kept br1 L_o.out.inside).inside).kept br3 ((L_o.out.kept br1 L_o.out.inside).kept br2 (L_o.out.kept br1 L_o.out.inside).inside).inside).inside).kept br5 ((((L_o.out.kept br1 L_o.out.inside).kept br2 (L_o.out.kept br1 L_o.out.inside).inside).kept br3 ((L_o.out.kept br1 L_o.out.inside).kept br2 (L_o.out.kept br1 L_o.out.inside).inside).inside).kept br4 (((L_o.out.kept br1 L_o.out.inside).kept br2 (L_o.out.kept br1 L_o.out.inside).inside).kept br3 ((L_o.out.kept br1 L_o.out.inside).kept br2 (L_o.out.kept br1 L_o.out.inside).inside).inside).inside).inside).cell 0, (((((L_o.out.kept br1 L_o.out.inside).kept br2 (L_o.out.kept br1 L_o.out.inside).inside).kept br3 ((L_o.out.kept br1 L_o.out.inside).kept br2 (L_o.out.kept br1 L_o.out.inside).inside).inside).kept br4 (((L_o.out.kept br1 L_o.out.inside).kept br2 (L_o.out.kept br1 L_o.out.inside).inside).kept br3 ((L_o.out.kept br1 L_o.out.inside).kept br2 (L_o.out.kept br1 L_o.out.inside).inside).inside).inside).kept br5 ((((L_o.out.kept br1 L_o.out.inside).kept br2 (L_o.out.kept br1 L_o.out.inside).inside).kept br3 ((L_o.out.kept br1 L_o.out.inside).kept br2 (L_o.out.kept br1 L_o.out.inside).inside).inside).kept br4 (((L_o.out.kept br1 L_o.out.inside).kept br2 (L_o.out.kept br1 L_o.out.inside).inside).kept br3 ((L_o.out.kept br1 L_o.out.inside).kept br2 (L_o.out.kept br1 L_o.out.inside).inside).inside).inside).inside).cell 1⟩)
      | (go_at_call 28; refine (specMarginOf_is n c n' c' _ _ A A' xs ys _ HM.out ((((((I_x.out.kept br1).kept br2).kept br3).kept br4).kept br5)).X ((((((I_x.out.kept br1).kept br2).kept br3).kept br4).kept br5)).Y (Nat.le_trans mn.2 (by decide)) (Nat.le_trans mn'.2 (by decide))).mono ?_
         rintro e W5r6 ⟨rfl, br6⟩
         have k_6 : W5r6.cell? ⟨W1.heap.size, 0, none⟩ = some (.slice A n c) ∧ W5r6.cell? ⟨W1.heap.size, 1, none⟩ = some (.slice A' n' c') ∧ W5r6.cell? ⟨W1.heap.size + 1, 0, none⟩ = some (.slice P m d) ∧ W5r6.cell? ⟨W1.heap.size + 1, 1, none⟩ = some (.slice P' m' d') ∧ W5r6.cell? ⟨W3.heap.size, 0, none⟩ = some (.int .i64 gc) ∧ W5r6.cell? ⟨W3.heap.size, 1, none⟩ = some (.int .i64 gv) ∧ W5r6.cell? ⟨W4.heap.size, 0, none⟩ = some (.int .i64 oc) ∧ W5r6.cell? ⟨W4.heap.size, 1, none⟩ = some (.int .i64 ov) := ⟨((((((L_a.out.kept br1 L_a.out.inside).kept br2 (L_a.out.kept br1 L_a.out.inside).inside).kept br3 ((L_a.out.kept br1 L_a.out.inside).kept br2 (L_a.out.kept br1 L_a.out.inside).inside).inside).kept br4 (((L_a.out.kept br1 L_a.out.inside).kept br2 (L_a.out.kept br1 L_a.out.inside).inside).kept br3 ((L_a.out.kept br1 L_a.out.inside).kept br2 (L_a.out.kept br1 L_a.out.inside).inside).inside).inside).kept br5 ((((L_a.out.kept br1 L_a.out.inside).kept br2 (L_a.out.kept br1 L_a.out.inside).inside).kept br3 ((L_a.out.kept br1 L_a.out.inside).kept br2 (L_a.out.kept br1 L_a.out.inside).inside).inside).kept br4 (((L_a.out.kept br1 L_a.out.inside).kept br2 (L_a.out.kept br1 L_a.out.inside).inside).kept br3 ((L_a.out.kept br1 L_a.out.inside).kept br2 (L_a.out.kept br1 L_a.out.inside).inside).inside).inside).inside).kept br6 (((((L_a.out.kept br1 L_a.out.inside).kept br2 (L_a.out.kept br1 L_a.out.inside).inside).kept br3 ((L_a.out.kept br1 L_a.out.inside).kept br2 (L_a.out.kept br1 L_a.out.inside).inside).inside).kept br4 (((L_a.out.kept br1 L_a.out.inside).kept br2 (L_a.out.kept br1 L_a.out.inside).inside).kept br3 ((L_a.out.kept br1 L_a.out.inside).kept br2 (L_a.out.kept br1 L_a.out.inside).inside).inside).inside).kept br5 ((((L_a.out.kept br1 L_a.out.inside).kept br2 (L_a.out.kept br1 L_a.out.inside).inside).kept br3 ((L_a.out.kept br1 L_a.out.inside).kept br2 (L_a.out.kept br1 L_a.out.inside).inside).inside).kept br4 (((L_a.out.kept br1 L_a.out.inside).kept br2 (L_a.out.kept br1 L_a.out.inside).inside).kept br3 ((L_a.out.kept br1 L_a.out.inside).kept br2 (L_a.out.kept br1 L_a.out.inside).inside).inside).inside).inside).inside).cell 0, ((((((L_a.out.kept br1 L_a.out.inside).kept br2 (L_a.out.kept br1 L_a.out.inside).inside).kept br3 ((L_a.out.kept br1 L_a.out.inside).kept br2 (L_a.out.kept br1 L_a.out.inside).inside).inside).kept br4 (((L_a.out.kept br1 L_a.out.inside).kept br2 (L_a.out.kept br1 L_a.out.inside).inside).kept br3 ((L_a.out.kept br1 L_a.out.inside).kept br2 (L_a.out.kept br1 L_a.out.inside).inside).inside).inside).kept br5 ((((L_a.out.kept br1 L_a.out.inside).kept br2 (L_a.out.kept br1 L_a.out.inside).inside).kept br3 ((L_a.out.kept br1 L_a.out.inside).kept br2 (L_a.out.kept br1 L_a.out.inside).inside).inside).kept br4 (((L_a.out.kept br1 L_a.out.inside).kept br2 (L_a.out.kept br1 L_a.out.inside).inside).kept br3 ((L_a.out.kept br1 L_a.out.inside).kept br2 (L_a.out.kept br1 L_a.out.inside).inside).inside).inside).inside).kept br6 (((((L_a.out.kept br1 L_a.out.inside).kept br2 (L_a.out.kept br1 L_a.out.inside).inside).kept br3 ((L_a.out.kept br1 L_a.out.inside).kept br2 (L_a.out.kept br1 L_a.out.inside).inside).inside).kept br4 (((L_a.out.kept br1 L_a.out.inside).kept br2 (L_a.out.kept br1 L_a.out.inside).inside).kept br3 ((L_a.out.kept br1 L_a.out.inside).kept br2 (L_a.out.kept br1 L_a.out.inside).inside).inside).inside).kept br5 ((((L_a.out.kept br1 L_a.out.inside).kept br2 (L_a.out.kept br1 L_a.out.inside).inside).kept br3 ((L_a.out.kept br1 L_a.out.inside).kept br2 (L_a.out.kept br1 L_a.out.inside).inside).inside).kept br4 (((L_a.out.kept br1 L_a.out.inside).kept br2 (L_a.out.kept br1 L_a.out.inside).inside).kept br3 ((L_a.out.kept br1 L_a.out.inside).kept br2 (L_a.out.kept br1 L_a.out.inside).inside).inside).inside).inside).inside).cell 1, ((((((L_b.out.kept br1 L_b.out.inside).kept br2 (L_b.out.kept br1 L_b.out.inside).inside).kept br3 ((L_b.out.kept br1 L_b.out.inside).kept br2 (L_b.out.kept br1 L_b.out.inside).inside).inside).kept br4 (((L_b.out.kept br1 L_b.out.inside).kept br2 (L_b.out.kept br1 L_b.out.inside).inside).kept br3 ((L_b.out.kept br1 L_b.out.inside).kept br2 (L_b.out.kept br1 L_b.out.inside).inside).inside).inside).kept br5 ((((L_b.out.kept br1 L_b.out.inside).kept br2 (L_b.out.kept br1 L_b.out.inside).inside).kept br3 ((L_b.out.kept br1 L_b.out.inside).kept br2 (L_b.out.kept br1 L_b.out.inside).inside).inside).kept br4 (((L_b.out.kept br1 L_b.out.inside).kept br2 (L_b.out.kept br1 L_b.out.inside).inside).kept br3 ((L_b.out.kept br1 L_b.out.inside).kept br2 (L_b.out.kept br1 L_b.out.inside).inside).inside).inside).inside).kept br6 (((((L_b.out.kept br1 L_b.out.inside).kept br2 (L_b.out.kept br1 L_b.out.inside).inside).kept br3 ((L_b.out.kept br1 L_b.out.inside).kept br2 (L_b.out.kept br1 L_b.out.inside).inside).inside).kept br4 (((L_b.out.kept br1 L_b.out.inside).kept br2 (L_b.out.kept br1 L_b.out.inside).inside).kept br3 ((L_b.out.kept br1 L_b.out.inside).kept br2 (L_b.out.kept br1 L_b.out.inside).inside).inside).inside).kept br5 ((((L_b.out.kept br1 L_b.out.inside).kept br2 (L_b.out.kept br1 L_b.out.inside).inside).kept br3 ((L_b.out.kept br1 L_b.out.inside).kept br2 (L_b.out.kept br1 L_b.out.inside).inside).inside).kept br4 (((L_b.out.kept br1 L_b.out.inside).kept br2 (L_b.out.kept br1 L_b.out.inside).inside).kept br3 ((L_b.out.kept br1 L_b.out.inside).kept br2 (L_b.out.kept br1 L_b.out.inside).inside).inside).inside).inside).inside).cell 0, ((((((L_b.out.kept br1 L_b.out.inside).kept br2 (L_b.out.kept br1 L_b.out.inside).inside).kept br3 ((L_b.out.kept br1 L_b.out.inside).kept br2 (L_b.out.kept br1 L_b.out.inside).inside).inside).kept br4 (((L_b.out.kept br1 L_b.out.inside).kept br2 (L_b.out.kept br1 L_b.out.inside).inside).kept br3 ((L_b.out.kept br1 L_b.out.inside).kept br2 (L_b.out.kept br1 L_b.out.inside).inside).inside).inside).kept br5 ((((L_b.out.kept br1 L_b.out.inside).kept br2 (L_b.out.kept br1 L_b.out.inside).inside).kept br3 ((L_b.out.kept br1 L_b.out.inside).kept br2 (L_b.out.kept br1 L_b.out.inside).inside).inside).kept br4 (((L_b.out.kept br1 L_b.out.inside).kept br2 (L_b.out.kept br1 L_b.out.inside).inside).kept br3 ((L_b.out.kept br1 L_b.out.inside).kept br2 (L_b.out.kept br1 L_b.out.inside).inside).inside).inside).inside).kept br6 (((((L_b.out.kept br1 L_b.out.inside).kept br2 (L_b.out.kept br1 L_b.out.inside).inside).kept br3 ((L_b.out.kept br1 L_b.out.inside).kept br2 (L_b.out.kept br1 L_b.out.inside).inside).inside).kept br4 (((L_b.out.kept br1 L_b.out.inside).kept br2 (L_b.out.kept br1 L_b.out.inside).inside).kept br3 ((L_b.out.kept br1 L_b.out.inside).kept br2 (L_b.out.kept br1 L_b.out.inside).inside).inside).inside).kept br5 ((((L_b.out.kept br1 L_b.out.inside).kept br2 (L_b.out.kept br1 L_b.out.inside).inside).kept br3 ((L_b.out.kept br1 L_b.out.inside).kept br2 (L_b.out.kept br1 L_b.out.inside).inside).inside).kept br4 (((L_b.out.kept br1 L_b.out.inside).kept br2 (L_b.out.kept br1 L_b.out.inside).inside).kept br3 ((L_b.out.kept br1 L_b.out.inside).kept br2 (L_b.out.kept br1 L_b.out.inside).inside).inside).inside).inside).inside).cell 1, ((((((L_g.out.kept br1 L_g.out.inside).kept br2 (L_g.out.kept br1 L_g.out.inside).inside).kept br3 ((L_g.out.kept br1 L_g.out.inside).kept br2 (L_g.out.kept br1 L_g.out.inside).inside).inside).kept br4 (((L_g.out.kept br1 L_g.out.inside).kept br2 (L_g.out.kept br1 L_g.out.inside).inside).kept br3 ((L_g.out.kept br1 L_g.out.inside).kept br2 (L_g.out.kept br1 L_g.out.inside).inside).inside).inside).kept br5 ((((L_g.out.kept br1 L_g.out.inside).kept br2 (L_g.out.kept br1 L_g.out.inside).inside).kept br3 ((L_g.out.kept br1 L_g.out.inside).kept br2 (L_g.out.kept br1 L_g.out.inside).inside).inside).kept br4 (((L_g.out.kept br1 L_g.out.inside).kept br2 (L_g.out.kept br1 L_g.out.inside).inside).kept br3 ((L_g.out.kept br1 L_g.out.inside).kept br2 (L_g.out.kept br1 L_g.out.inside).inside).inside).inside).inside).kept br6 (((((L_g.out.kept br1 L_g.out.inside).kept br2 (L_g.out.kept br1 L_g.out.inside).inside).kept br3 ((L_g.out.kept br1 L_g.out.inside).kept br2 (L_g.out.kept br1 L_g.out.inside).inside).inside).kept br4 (((L_g.out.kept br1 L_g.out.inside).kept br2 (L_g.out.kept br1 L_g.out.inside).inside).kept br3 ((L_g.out.kept br1 L_g.out.inside).kept br2 (L_g.out.kept br1 L_g.out.inside).inside).inside).inside).kept br5 ((((L_g.out.kept br1 L_g.out.inside).kept br2 (L_g.out.kept br1 L_g.out.inside).inside).kept br3 ((L_g.out.kept br1 L_g.out.inside).kept br2 (L_g.out.kept br1 L_g.out.inside).inside).inside).kept br4 (((L_g.out.kept br1 L_g.out.inside).kept br2 (L_g.out.kept br1 L_g.out.inside).inside).kept br3 ((L_g.out.kept br1 L_g.out.inside).kept br2 (L_g.out.kept br1 L_g.out.inside).inside).inside).inside).inside).inside).cell 0, ((((((L_g.out.kept br1 L_g.out.inside).kept br2 (L_g.out.kept br1 L_g.out.inside).inside).kept br3 ((L_g.out.kept br1 L_g.out.inside).kept br2 (L_g.out.kept br1 L_g.out.inside).inside).inside).kept br4 (((L_g.out.kept br1 L_g.out.inside).kept br2 (L_g.out.kept br1 L_g.out.inside).inside).kept br3 ((L_g.out.kept br1 L_g.out.inside).kept br2 (L_g.out.kept br1 L_g.out.inside).inside).inside).inside).kept br5 ((((L_g.out.kept br1 L_g.out.inside).kept br2 (L_g.out.kept br1 L_g.out.inside).inside).kept br3 ((L_g.out.kept br1 L_g.out.inside).kept br2 (L_g.out.kept br1 L_g.out.inside).inside).inside).kept br4 (((L_g.out.kept br1 L_g.out.inside).kept br2 (L_g.out.kept br1 L_g.out.inside).inside).kept br3 ((L_g.out.kept br1 L_g.out.inside).kept br2 (L_g.out.kept br1 L_g.out.inside).inside).inside).inside).inside).kept br6 (((((L_g.out.kept br1 L_g.out.inside).kept br2 (L_g.out.kept br1 L_g.out.inside).inside).kept br3 ((L_g.out.kept br1 L_g.out.inside).kept br2 (L_g.out.kept br1 L_g.out.inside).inside).inside).kept br4 (((L_g.out.kept br1 L_g.out.inside).kept br2 (L_g.out.kept br1 L_g.out.inside).inside).kept br3 ((L_g.out.kept br1 L_g.out.inside).kept br2 (L_g.out.kept br1 L_g.out.inside).inside).inside).inside).kept br5 ((((L_g.out.kept br1 L_g.out.inside).kept br2 (L_g.out.kept br1 L_g.out.inside).inside).kept br3 ((L_g.out.kept br1 L_g.out.inside).kept br2 (L_g.out.kept br1 L_g.out.inside).inside).inside).kept br4 (((L_g.out.kept br1 L_g.out.inside).kept br2 (L_g.out.kept br1 L_g.out.inside).inside).kept br3 ((L_g.out.kept br1 L_g.out.inside).kept br2 (L_g.out.kept br1 L_g.out.inside).inside).inside).inside).inside).inside).cell 1, ((((((L_o.out.kept br1 L_o.out.inside).kept br2 (L_o.out.kept br1 L_o.out.inside).inside).kept br3 ((L_o.out.kept br1 L_o.out.inside).kept br2 (L_o.out.kept br1 L_o.out.inside).inside).inside).kept br4 (((L_o.out.kept br1 L_o.out.inside).kept br2 (L_o.out.kept br1 L_o.out.inside).inside).kept br3 ((L_o.out.kept br1 L_o.out.inside).kept br2 (L_o.out.kept br1 L_o.out.inside).inside).inside).inside).kept br5 ((((L_o.out.kept br1 L_o.out.inside).kept br2 (L_o.out.kept br1 L_o.out.inside).inside).kept br3 ((L_o.out.kept br1 L_o.out.inside).kept br2 (L_o.out.kept br1 L_o.out.inside).inside).inside).kept br4 (((L_o.out.kept br1 L_o.out.inside).kept br2 (L_o.out.kept br1 L_o.out.inside).inside).kept br3 ((L_o.out.kept br1 L_o.out.inside).kept br2 (L_o.out.kept br1 L_o.out.inside).inside).inside).inside).inside).kept br6 (((((L_o.out.kept br1 L_o.out.inside).kept br2 (L_o.out.kept br1 L_o.out.inside).inside).kept br3 ((L_o.out.kept br1 L_o.out.inside).kept br2 (L_o.out.kept br1 L_o.out.inside).inside).inside).kept br4 (((L_o.out.kept br1 L_o.out.inside).kept br2 (L_o.out.kept br1 L_o.out.inside).inside).kept br3 ((L_o.out.kept br1 L_o.out.inside).kept br2 (L_o.out.kept br1 L_o.out.inside).inside).inside).inside).kept br5 ((((L_o.out.kept br1 L_o.out.inside).kept br2 (L_o.out.kept br1 L_o.out.inside).inside).kept br3 ((L_o.out.kept br1 L_o.out.inside).kept br2 (L_o.out.kept br1 L_o.out.inside).inside).inside).kept br4 (((L_o.out.kept br1 L_o.out.inside).kept br2 (L_o.out.kept br1 L_o.out.inside).inside).kept br3 ((L_o.out.kept br1 L_o.out.inside).kept br2 (L_o.out.kept br1 L_o.out.inside).inside).inside).inside).inside).inside).cell 0, ((((((L_o.out.kept br1 L_o.out.inside).kept br2 (L_o.out.kept br1 L_o.out.inside).inside).kept br3 ((L_o.out.kept br1 L_o.out.inside).kept br2 (L_o.out.kept br1 L_o.out.inside).inside).inside).kept br4 (((L_o.out.kept br1 L_o.out.inside).kept br2 (L_o.out.kept br1 L_o.out.inside).inside).kept br3 ((L_o.out.kept br1 L_o.out.inside).kept br2 (L_o.out.kept br1 L_o.out.inside).inside).inside).inside).kept br5 ((((L_o.out.kept br1 L_o.out.inside).kept br2 (L_o.out.kept br1 L_o.out.inside).inside).kept br3 ((L_o.out.kept br1 L_o.out.inside).kept br2 (L_o.out.kept br1 L_o.out.inside).inside).inside).kept br4 (((L_o.out.kept br1 L_o.out.inside).kept br2 (L_o.out.kept br1 L_o.out.inside).inside).kept br3 ((L_o.out.kept br1 L_o.out.inside).kept br2 (L_o.out.kept br1 L_o.out.inside).inside).inside).inside).inside).kept br6 (((((L_o.out.kept br1 L_o.out.inside).kept br2 (L_o.out.kept br1 L_o.out.inside).inside).kept br3 ((L_o.out.kept br1 L_o.out.inside).kept br2 (L_o.out.kept br1 L_o.out.inside).inside).inside).kept br4 (((L_o.out.kept br1 L_o.out.inside).kept br2 (L_o.out.kept br1 L_o.out.inside).inside).kept br3 ((L_o.out.kept br1 L_o.out.inside).kept br2 (L_o.out.kept br1 L_o.out.inside).inside).inside).inside).kept br5 ((((L_o.out.kept br1 L_o.out.inside).kept br2 (L_o.out.kept br1 L_o.out.inside).inside).kept br3 ((L_o.out.kept br1 L_o.out.inside).kept br2 (L_o.out.kept br1 L_o.out.inside).inside).inside).kept br4 (((L_o.out.kept br1 L_o.out.inside).kept br2 (L_o.out.kept br1 L_o.out.inside).inside).kept br3 ((L_o.out.kept br1 L_o.out.inside).kept br2 (L_o.out.kept br1 L_o.out.inside).inside).inside).inside).inside).inside).cell 1⟩))
  clear c_a0 c_a1 c_b0 c_b1 c_g0 c_g1 c_o0 c_o1
  clear k_1 k_2 k_3 k_4 k_5 k_6
  replace L_a := Lib.hid (L_a.out.kept br1 L_a.out.inside)
  replace L_b := Lib.hid (L_b.out.kept br1 L_b.out.inside)
  replace L_g := Lib.hid (L_g.out.kept br1 L_g.out.inside)
  replace L_o := Lib.hid (L_o.out.kept br1 L_o.out.inside)
  replace I_x := Lib.hid (I_x.out.kept br1)
  replace I_p := Lib.hid (I_p.out.kept br1)
  replace B := Lib.hid (B.out.trans (br1.mono B.out.size))
  clear br1
  replace L_a := Lib.hid (L_a.out.kept br2 L_a.out.inside)
  replace L_b := Lib.hid (L_b.out.kept br2 L_b.out.inside)
  replace L_g := Lib.hid (L_g.out.kept br2 L_g.out.inside)
  replace L_o := Lib.hid (L_o.out.kept br2 L_o.out.inside)
  replace I_x := Lib.hid (I_x.out.kept br2)
  replace I_p := Lib.hid (I_p.out.kept br2)
  replace B := Lib.hid (B.out.trans (br2.mono B.out.size))
  clear br2
  replace L_a := Lib.hid (L_a.out.kept br3 L_a.out.inside)
  replace L_b := Lib.hid (L_b.out.kept br3 L_b.out.inside)
  replace L_g := Lib.hid (L_g.out.kept br3 L_g.out.inside)
  replace L_o := Lib.hid (L_o.out.kept br3 L_o.out.inside)
  replace I_x := Lib.hid (I_x.out.kept br3)
  replace I_p := Lib.hid (I_p.out.kept br3)
  replace B := Lib.hid (B.out.trans (br3.mono B.out.size))
  clear br3
  replace L_a := Lib.hid (L_a.out.kept br4 L_a.out.inside)
  replace L_b := Lib.hid (L_b.out.kept br4 L_b.out.inside)
  replace L_g := Lib.hid (L_g.out.kept br4 L_g.out.inside)
  replace L_o := Lib.hid (L_o.out.kept br4 L_o.out.inside)
  replace I_x := Lib.hid (I_x.out.kept br4)
  replace I_p := Lib.hid (I_p.out.kept br4)
  replace B := Lib.hid (B.out.trans (br4.mono B.out.size))
  clear br4
  replace L_a := Lib.hid (L_a.out.kept br5 L_a.out.inside)
  replace L_b := Lib.hid (L_b.out.kept br5 L_b.out.inside)
  replace L_g := Lib.hid (L_g.out.kept br5 L_g.out.inside)
  replace L_o := Lib.hid (L_o.out.kept br5 L_o.out.inside)
  replace I_x := Lib.hid (I_x.out.kept br5)
  replace I_p := Lib.hid (I_p.out.kept br5)
  replace B := Lib.hid (B.out.trans (br5.mono B.out.size))
  clear br5
  replace L_a := Lib.hid (L_a.out.kept br6 L_a.out.inside)
  replace L_b := Lib.hid (L_b.out.kept br6 L_b.out.inside)
  replace L_g := Lib.hid (L_g.out.kept br6 L_g.out.inside)
  replace L_o := Lib.hid (L_o.out.kept br6 L_o.out.inside)
  replace I_x := Lib.hid (I_x.out.kept br6)
  replace I_p := Lib.hid (I_p.out.kept br6)
  replace B := Lib.hid (B.out.trans (br6.mono B.out.size))
  clear br6
  have c_g0 : W5r6.cell? ⟨W3.heap.size, 0, none⟩ = some (.int .i64 gc) := L_g.out.cell 0
  have c_g1 : W5r6.cell? ⟨W3.heap.size, 1, none⟩ = some (.int .i64 gv) := L_g.out.cell 1
  have c_o0 : W5r6.cell? ⟨W4.heap.size, 0, none⟩ = some (.int .i64 oc) := L_o.out.cell 0
  have c_o1 : W5r6.cell? ⟨W4.heap.size, 1, none⟩ = some (.int .i64 ov) := L_o.out.cell 1
  by_cases hgc : gc = 0
  · subst hgc
    have h0 := grow_code (x1 := xs) (x2 := ys) (x3 := us) (x4 := vs) (by rw [HG.out])
    obtain ⟨_, p2, p3, p4, p5, p6, p7, p8, p9, p10⟩ := areas_say h0
    obtain ⟨⟨bc, bv⟩, hb'⟩ : ∃ D, areaF us vs = D := ⟨_, rfl⟩
    obtain ⟨⟨uc, uv⟩, hu'⟩ : ∃ D, areaF (mins xs us) (maxs ys vs) = D := ⟨_, rfl⟩
    obtain ⟨⟨nc, nv⟩, hn'⟩ : ∃ D, marginF us vs = D := ⟨_, rfl⟩
    obtain ⟨⟨qc, qv⟩, hq'⟩ : ∃ D, marginF (mins xs us) (maxs ys vs) = D := ⟨_, rfl⟩
    rw [HO.out] at p3 p4 p5 p6 p7 p10
    rw [HG.out] at p2 p8
    rw [HA.out] at p5 p8
    rw [hb'] at p6
    rw [hu'] at p8
    rw [hn', hq'] at p9
    simp only at p2 p3 p4 p5 p6 p8 p9 p10
    have ub := (areaF_bd (mins xs us) (maxs ys vs)).2
    have ul := (areaF_bd (mins xs us) (maxs ys vs)).1
    rw [hu'] at ub ul
    simp only at ub ul
    have ew : IntKind.i64.wrap (av + gv) = uv := by rw [← p8]; exact IntWalk.i64_in _ (by omega)
    subst p3
    have P7 := Lib.hid p7
    have HB := Lib.hid hb'
    have HU := Lib.hid hu'
    have HN := Lib.hid hn'
    have HQ := Lib.hid hq'
    clear p7 hb' hu' hn' hq' p8 ub ul
    go_upto_region 10 with fail
    clear c_g0 c_g1 c_o0 c_o1
    have c_a0 : W5r6.cell? ⟨W1.heap.size, 0, none⟩ = some (.slice A n c) := L_a.out.cell 0
    have c_a1 : W5r6.cell? ⟨W1.heap.size, 1, none⟩ = some (.slice A' n' c') := L_a.out.cell 1
    have c_b0 : W5r6.cell? ⟨W1.heap.size + 1, 0, none⟩ = some (.slice P m d) := L_b.out.cell 0
    have c_b1 : W5r6.cell? ⟨W1.heap.size + 1, 1, none⟩ = some (.slice P' m' d') := L_b.out.cell 1
    go_wp2_with fail
    clear c_a0 c_a1 c_b0 c_b1
    refine (implUnionOf_is n c n' c' m d m' d' _ _ _ _ A A' P P' xs ys us vs _ h0 (I_x.out).X (I_x.out).Y (I_p.out).X (I_p.out).Y (Nat.le_trans mn.2 (by decide)) (Nat.le_trans mn'.2 (by decide)) (Nat.le_trans mp.2 (by decide)) (Nat.le_trans mp'.2 (by decide)) mn.1).mono ?_
    rintro e W6 ⟨g, g', rfl, FI, b6⟩
    have I_f := Lib.hid FI
    clear FI
    replace L_a := Lib.hid (L_a.out.kept b6 L_a.out.inside)
    replace L_b := Lib.hid (L_b.out.kept b6 L_b.out.inside)
    replace L_g := Lib.hid (L_g.out.kept b6 L_g.out.inside)
    replace L_o := Lib.hid (L_o.out.kept b6 L_o.out.inside)
    replace I_x := Lib.hid (I_x.out.kept b6)
    replace I_p := Lib.hid (I_p.out.kept b6)
    replace B := Lib.hid (B.out.trans (b6.mono B.out.size))
    clear b6
    have b_f := below_alloc W6 (.cells #[.slice (some ⟨g, 0, none⟩) n n, .slice (some ⟨g', 0, none⟩) n n] 26)
    have N_f := Lib.hid (Lies.new W6 26 #[.slice (some ⟨g, 0, none⟩) n n, .slice (some ⟨g', 0, none⟩) n n])
    replace L_a := Lib.hid (L_a.out.kept b_f L_a.out.inside)
    replace L_b := Lib.hid (L_b.out.kept b_f L_b.out.inside)
    replace L_g := Lib.hid (L_g.out.kept b_f L_g.out.inside)
    replace L_o := Lib.hid (L_o.out.kept b_f L_o.out.inside)
    replace I_x := Lib.hid (I_x.out.kept b_f)
    replace I_p := Lib.hid (I_p.out.kept b_f)
    replace I_f := Lib.hid (I_f.out.kept b_f)
    replace B := Lib.hid (B.out.trans (b_f.mono B.out.size))
    clear b_f
    have L_f := Lib.hid N_f.out
    clear N_f
    go_upto_region 11 with fail
    generalize hW : (W6.alloc (.cells #[.slice (some ⟨g, 0, none⟩) n n, .slice (some ⟨g', 0, none⟩) n n] 26)) = W7 at *
    clear hW
    by_cases hov : ov = 0
    · subst hov
      have c_a0 : W7.cell? ⟨W1.heap.size, 0, none⟩ = some (.slice A n c) := L_a.out.cell 0
      have c_a1 : W7.cell? ⟨W1.heap.size, 1, none⟩ = some (.slice A' n' c') := L_a.out.cell 1
      have c_b0 : W7.cell? ⟨W1.heap.size + 1, 0, none⟩ = some (.slice P m d) := L_b.out.cell 0
      have c_b1 : W7.cell? ⟨W1.heap.size + 1, 1, none⟩ = some (.slice P' m' d') := L_b.out.cell 1
      have c_g0 : W7.cell? ⟨W3.heap.size, 0, none⟩ = some (.int .i64 0) := L_g.out.cell 0
      have c_g1 : W7.cell? ⟨W3.heap.size, 1, none⟩ = some (.int .i64 gv) := L_g.out.cell 1
      have c_o0 : W7.cell? ⟨W4.heap.size, 0, none⟩ = some (.int .i64 0) := L_o.out.cell 0
      have c_o1 : W7.cell? ⟨W4.heap.size, 1, none⟩ = some (.int .i64 0) := L_o.out.cell 1
      have c_f0 : W7.cell? ⟨W6.heap.size, 0, none⟩ = some (.slice (some ⟨g, 0, none⟩) n n) := L_f.out.cell 0
      have c_f1 : W7.cell? ⟨W6.heap.size, 1, none⟩ = some (.slice (some ⟨g', 0, none⟩) n n) := L_f.out.cell 1
      go_upto_region 11 with fail
      refine wp_region_last 63 (fun w' => w'.cell? ⟨W1.heap.size, 0, none⟩ = some (.slice A n c) ∧ w'.cell? ⟨W1.heap.size, 1, none⟩ = some (.slice A' n' c') ∧ w'.cell? ⟨W1.heap.size + 1, 0, none⟩ = some (.slice P m d) ∧ w'.cell? ⟨W1.heap.size + 1, 1, none⟩ = some (.slice P' m' d') ∧ w'.cell? ⟨W3.heap.size, 0, none⟩ = some (.int .i64 0) ∧ w'.cell? ⟨W3.heap.size, 1, none⟩ = some (.int .i64 gv) ∧ w'.cell? ⟨W4.heap.size, 0, none⟩ = some (.int .i64 0) ∧ w'.cell? ⟨W4.heap.size, 1, none⟩ = some (.int .i64 0) ∧ w'.cell? ⟨W6.heap.size, 0, none⟩ = some (.slice (some ⟨g, 0, none⟩) n n) ∧ w'.cell? ⟨W6.heap.size, 1, none⟩ = some (.slice (some ⟨g', 0, none⟩) n n)) (by kernel_rfl) (⟨L_a.out.drew.cell 0, L_a.out.drew.cell 1, L_b.out.drew.cell 0, L_b.out.drew.cell 1, L_g.out.drew.cell 0, L_g.out.drew.cell 1, L_o.out.drew.cell 0, L_o.out.drew.cell 1, L_f.out.drew.cell 0, L_f.out.drew.cell 1⟩) (fun hHeld => ?_)
      clear c_a0 c_a1 c_b0 c_b1 c_g0 c_g1 c_o0 c_o1 c_f0 c_f1
      apply wpAnyL_take (i := 0)
      · simp only [List.getElem?_toArray, List.getElem?_cons_succ, List.getElem?_cons_zero]; exact rfl
      refine ⟨⟨by kernel_rfl, by kernel_rfl, by kernel_rfl, by kernel_rfl, by kernel_rfl⟩, fun _ _ _ h => h, ?_, hHeld, ?_⟩
      · intro w hSw; (try dsimp only at hSw); go_simp; all_goals (with_reducible rfl)
      (try simp only [Act.put, List.setIfInBounds_toArray, List.set_cons_zero, List.set_cons_succ])
      apply wpAnyL_take (i := 1)
      · simp only [List.getElem?_toArray, List.getElem?_cons_succ, List.getElem?_cons_zero]; exact rfl
      refine ⟨⟨by kernel_rfl, by kernel_rfl, by kernel_rfl, by kernel_rfl, by kernel_rfl⟩, fun _ _ _ h => h, ?_, hHeld, ?_⟩
      · intro w hSw; (try dsimp only at hSw); go_simp; all_goals (with_reducible rfl)
      (try simp only [Act.put, List.setIfInBounds_toArray, List.set_cons_zero, List.set_cons_succ])
      apply wpAnyL_take (i := 2)
      · simp only [List.getElem?_toArray, List.getElem?_cons_succ, List.getElem?_cons_zero]; exact rfl
      refine ⟨⟨by kernel_rfl, by kernel_rfl, by kernel_rfl, by kernel_rfl, by kernel_rfl⟩, fun _ _ _ h => h, ?_, hHeld, ?_⟩
      · intro w hSw; (try dsimp only at hSw); go_simp; all_goals (with_reducible rfl)
      (try simp only [Act.put, List.setIfInBounds_toArray, List.set_cons_zero, List.set_cons_succ])
      apply wpAnyL_take (i := 3)
      · simp only [List.getElem?_toArray, List.getElem?_cons_succ, List.getElem?_cons_zero]; exact rfl
      refine ⟨⟨by kernel_rfl, by kernel_rfl, by kernel_rfl, by kernel_rfl, by kernel_rfl⟩, fun _ _ _ h => h, ?_, hHeld, ?_⟩
      · intro w hSw; (try dsimp only at hSw); go_simp; all_goals (with_reducible rfl)
      (try simp only [Act.put, List.setIfInBounds_toArray, List.set_cons_zero, List.set_cons_succ])
      apply wpAnyL_take (i := 4)
      · simp only [List.getElem?_toArray, List.getElem?_cons_succ, List.getElem?_cons_zero]; exact rfl
      refine ⟨⟨by kernel_rfl, by kernel_rfl, by kernel_rfl, by kernel_rfl, by kernel_rfl⟩, fun _ _ _ h => h, ?_, hHeld, ?_⟩
      · intro w hSw; (try dsimp only at hSw); go_simp; all_goals (with_reducible rfl)
      (try simp only [Act.put, List.setIfInBounds_toArray, List.set_cons_zero, List.set_cons_succ])
      apply wpAnyL_take (i := 5)
      · simp only [List.getElem?_toArray, List.getElem?_cons_succ, List.getElem?_cons_zero]; exact rfl
      refine ⟨⟨by kernel_rfl, by kernel_rfl, by kernel_rfl, by kernel_rfl, by kernel_rfl⟩, fun _ _ _ h => h, ?_, hHeld, ?_⟩
      · intro w hSw; (try dsimp only at hSw); go_simp; all_goals (with_reducible rfl)
      (try simp only [Act.put, List.setIfInBounds_toArray, List.set_cons_zero, List.set_cons_succ])
      apply wpAnyL_take (i := 6)
      · simp only [List.getElem?_toArray, List.getElem?_cons_succ, List.getElem?_cons_zero]; exact rfl
      refine ⟨⟨by kernel_rfl, by kernel_rfl, by kernel_rfl, by kernel_rfl, by kernel_rfl⟩, fun _ _ _ h => h, ?_, hHeld, ?_⟩
      · intro w hSw; (try dsimp only at hSw); go_simp; all_goals (with_reducible rfl)
      (try simp only [Act.put, List.setIfInBounds_toArray, List.set_cons_zero, List.set_cons_succ])
      apply wpAnyL_take (i := 7)
      · simp only [List.getElem?_toArray, List.getElem?_cons_succ, List.getElem?_cons_zero]; exact rfl
      refine ⟨⟨by kernel_rfl, by kernel_rfl, by kernel_rfl, by kernel_rfl, by kernel_rfl⟩, fun _ _ _ h => h, ?_, hHeld, ?_⟩
      · intro w hSw; (try dsimp only at hSw); go_simp; all_goals (with_reducible rfl)
      (try simp only [Act.put, List.setIfInBounds_toArray, List.set_cons_zero, List.set_cons_succ])
      apply wpAnyL_take (i := 8)
      · simp only [List.getElem?_toArray, List.getElem?_cons_succ, List.getElem?_cons_zero]; exact rfl
      refine ⟨⟨by kernel_rfl, by kernel_rfl, by kernel_rfl, by kernel_rfl, by kernel_rfl⟩, fun _ _ _ h => h, ?_, hHeld, ?_⟩
      · intro w hSw; (try dsimp only at hSw); go_simp; all_goals (with_reducible rfl)
      (try simp only [Act.put, List.setIfInBounds_toArray, List.set_cons_zero, List.set_cons_succ])
      apply wpAnyL_take (i := 9)
      · simp only [List.getElem?_toArray, List.getElem?_cons_succ, List.getElem?_cons_zero]; exact rfl
      refine ⟨⟨by kernel_rfl, by kernel_rfl, by kernel_rfl, by kernel_rfl, by kernel_rfl⟩, fun _ _ _ h => h, ?_, hHeld, ?_⟩
      · intro w hSw; (try dsimp only at hSw); go_simp; all_goals (with_reducible rfl)
      (try simp only [Act.put, List.setIfInBounds_toArray, List.set_cons_zero, List.set_cons_succ])
      apply wpAnyL_take (i := 10)
      · simp only [List.getElem?_toArray, List.getElem?_cons_succ, List.getElem?_cons_zero]; exact rfl
      refine ⟨⟨by kernel_rfl, by kernel_rfl, by kernel_rfl, by kernel_rfl, by kernel_rfl⟩, fun _ _ _ h => h, ?_, hHeld, ?_⟩
      · intro w hSw; (try dsimp only at hSw); go_simp; all_goals (with_reducible rfl)
      (try simp only [Act.put, List.setIfInBounds_toArray, List.set_cons_zero, List.set_cons_succ])
      apply wpAnyL_take (i := 11)
      · simp only [List.getElem?_toArray, List.getElem?_cons_succ, List.getElem?_cons_zero]; exact rfl
      refine ⟨⟨by kernel_rfl, by kernel_rfl, by kernel_rfl, by kernel_rfl, by kernel_rfl⟩, fun _ _ _ h => h, ?_, hHeld, ?_⟩
      · intro w hSw; (try dsimp only at hSw); go_simp; all_goals (with_reducible rfl)
      (try simp only [Act.put, List.setIfInBounds_toArray, List.set_cons_zero, List.set_cons_succ])
      apply wpAnyL_one (i := 12)
      · simp only [List.getElem?_toArray, List.getElem?_cons_succ, List.getElem?_cons_zero]; exact rfl
      refine ⟨by kernel_rfl, fun K hK => ?_⟩
      go_simp
      go_at_call_of 25 (Value.agg #[.slice A n c, .slice A' n' c'])
      refine (implAreaOf_is n c n' c' _ _ A A' xs ys _ HA.out (I_x.out.drew).X (I_x.out.drew).Y (Nat.le_trans mn.2 (by decide)) (Nat.le_trans mn'.2 (by decide))).mono ?_
      rintro e W7r1 ⟨rfl, br1d⟩
      have br1 := below_drawn br1d
      clear br1d
      replace L_a := Lib.hid (L_a.out.kept br1 L_a.out.inside)
      replace L_b := Lib.hid (L_b.out.kept br1 L_b.out.inside)
      replace L_g := Lib.hid (L_g.out.kept br1 L_g.out.inside)
      replace L_o := Lib.hid (L_o.out.kept br1 L_o.out.inside)
      replace L_f := Lib.hid (L_f.out.kept br1 L_f.out.inside)
      replace I_x := Lib.hid (I_x.out.kept br1)
      replace I_p := Lib.hid (I_p.out.kept br1)
      replace I_f := Lib.hid (I_f.out.kept br1)
      replace B := Lib.hid (B.out.trans (br1.mono B.out.size))
      clear br1
      have k_1 : W7r1.cell? ⟨W1.heap.size, 0, none⟩ = some (.slice A n c) ∧ W7r1.cell? ⟨W1.heap.size, 1, none⟩ = some (.slice A' n' c') ∧ W7r1.cell? ⟨W1.heap.size + 1, 0, none⟩ = some (.slice P m d) ∧ W7r1.cell? ⟨W1.heap.size + 1, 1, none⟩ = some (.slice P' m' d') ∧ W7r1.cell? ⟨W3.heap.size, 0, none⟩ = some (.int .i64 0) ∧ W7r1.cell? ⟨W3.heap.size, 1, none⟩ = some (.int .i64 gv) ∧ W7r1.cell? ⟨W4.heap.size, 0, none⟩ = some (.int .i64 0) ∧ W7r1.cell? ⟨W4.heap.size, 1, none⟩ = some (.int .i64 0) ∧ W7r1.cell? ⟨W6.heap.size, 0, none⟩ = some (.slice (some ⟨g, 0, none⟩) n n) ∧ W7r1.cell? ⟨W6.heap.size, 1, none⟩ = some (.slice (some ⟨g', 0, none⟩) n n) := ⟨L_a.out.cell 0, L_a.out.cell 1, L_b.out.cell 0, L_b.out.cell 1, L_g.out.cell 0, L_g.out.cell 1, L_o.out.cell 0, L_o.out.cell 1, L_f.out.cell 0, L_f.out.cell 1⟩
      refine hK.out _ _ (fun _ => k_1) ?_
      clear hK K hHeld
      (try simp only [Act.put, List.setIfInBounds_toArray, List.set_cons_zero, List.set_cons_succ])
      apply wpAnyL_take (i := 13)
      · simp only [List.getElem?_toArray, List.getElem?_cons_succ, List.getElem?_cons_zero]; exact rfl
      refine ⟨⟨by kernel_rfl, by kernel_rfl, by kernel_rfl, by kernel_rfl, by kernel_rfl⟩, fun _ _ _ h => h, ?_, k_1, ?_⟩
      · intro w hSw; (try dsimp only at hSw); go_simp; all_goals (with_reducible rfl)
      (try simp only [Act.put, List.setIfInBounds_toArray, List.set_cons_zero, List.set_cons_succ])
      apply wpAnyL_take (i := 14)
      · simp only [List.getElem?_toArray, List.getElem?_cons_succ, List.getElem?_cons_zero]; exact rfl
      refine ⟨⟨by kernel_rfl, by kernel_rfl, by kernel_rfl, by kernel_rfl, by kernel_rfl⟩, fun _ _ _ h => h, ?_, k_1, ?_⟩
      · intro w hSw; (try dsimp only at hSw); go_simp; all_goals (with_reducible rfl)
      (try simp only [Act.put, List.setIfInBounds_toArray, List.set_cons_zero, List.set_cons_succ])
      apply wpAnyL_take (i := 15)
      · simp only [List.getElem?_toArray, List.getElem?_cons_succ, List.getElem?_cons_zero]; exact rfl
      refine ⟨⟨by kernel_rfl, by kernel_rfl, by kernel_rfl, by kernel_rfl, by kernel_rfl⟩, fun _ _ _ h => h, ?_, k_1, ?_⟩
      · intro w hSw; (try dsimp only at hSw); go_simp; all_goals (with_reducible rfl)
      (try simp only [Act.put, List.setIfInBounds_toArray, List.set_cons_zero, List.set_cons_succ])
      apply wpAnyL_take (i := 16)
      · simp only [List.getElem?_toArray, List.getElem?_cons_succ, List.getElem?_cons_zero]; exact rfl
      refine ⟨⟨by kernel_rfl, by kernel_rfl, by kernel_rfl, by kernel_rfl, by kernel_rfl⟩, fun _ _ _ h => h, ?_, k_1, ?_⟩
      · intro w hSw; (try dsimp only at hSw); go_simp; all_goals (with_reducible rfl)
      (try simp only [Act.put, List.setIfInBounds_toArray, List.set_cons_zero, List.set_cons_succ])
      apply wpAnyL_take (i := 17)
      · simp only [List.getElem?_toArray, List.getElem?_cons_succ, List.getElem?_cons_zero]; exact rfl
      refine ⟨⟨by kernel_rfl, by kernel_rfl, by kernel_rfl, by kernel_rfl, by kernel_rfl⟩, fun _ _ _ h => h, ?_, k_1, ?_⟩
      · intro w hSw; (try dsimp only at hSw); go_simp; all_goals (with_reducible rfl)
      (try simp only [Act.put, List.setIfInBounds_toArray, List.set_cons_zero, List.set_cons_succ])
      apply wpAnyL_take (i := 18)
      · simp only [List.getElem?_toArray, List.getElem?_cons_succ, List.getElem?_cons_zero]; exact rfl
      refine ⟨⟨by kernel_rfl, by kernel_rfl, by kernel_rfl, by kernel_rfl, by kernel_rfl⟩, fun _ _ _ h => h, ?_, k_1, ?_⟩
      · intro w hSw; (try dsimp only at hSw); go_simp; all_goals (with_reducible rfl)
      (try simp only [Act.put, List.setIfInBounds_toArray, List.set_cons_zero, List.set_cons_succ])
      apply wpAnyL_take (i := 19)
      · simp only [List.getElem?_toArray, List.getElem?_cons_succ, List.getElem?_cons_zero]; exact rfl
      refine ⟨⟨by kernel_rfl, by kernel_rfl, by kernel_rfl, by kernel_rfl, by kernel_rfl⟩, fun _ _ _ h => h, ?_, k_1, ?_⟩
      · intro w hSw; (try dsimp only at hSw); go_simp; all_goals (with_reducible rfl)
      (try simp only [Act.put, List.setIfInBounds_toArray, List.set_cons_zero, List.set_cons_succ])
      apply wpAnyL_one (i := 20)
      · simp only [List.getElem?_toArray, List.getElem?_cons_succ, List.getElem?_cons_zero]; exact rfl
      refine ⟨by kernel_rfl, fun K hK => ?_⟩
      go_simp
      go_at_call_of 25 (Value.agg #[.slice P m d, .slice P' m' d'])
      refine (implAreaOf_is m d m' d' _ _ P P' us vs _ HB.out (I_p.out).X (I_p.out).Y (Nat.le_trans mp.2 (by decide)) (Nat.le_trans mp'.2 (by decide))).mono ?_
      rintro e W7r2 ⟨rfl, br2⟩
      replace L_a := Lib.hid (L_a.out.kept br2 L_a.out.inside)
      replace L_b := Lib.hid (L_b.out.kept br2 L_b.out.inside)
      replace L_g := Lib.hid (L_g.out.kept br2 L_g.out.inside)
      replace L_o := Lib.hid (L_o.out.kept br2 L_o.out.inside)
      replace L_f := Lib.hid (L_f.out.kept br2 L_f.out.inside)
      replace I_x := Lib.hid (I_x.out.kept br2)
      replace I_p := Lib.hid (I_p.out.kept br2)
      replace I_f := Lib.hid (I_f.out.kept br2)
      replace B := Lib.hid (B.out.trans (br2.mono B.out.size))
      clear br2
      have k_2 : W7r2.cell? ⟨W1.heap.size, 0, none⟩ = some (.slice A n c) ∧ W7r2.cell? ⟨W1.heap.size, 1, none⟩ = some (.slice A' n' c') ∧ W7r2.cell? ⟨W1.heap.size + 1, 0, none⟩ = some (.slice P m d) ∧ W7r2.cell? ⟨W1.heap.size + 1, 1, none⟩ = some (.slice P' m' d') ∧ W7r2.cell? ⟨W3.heap.size, 0, none⟩ = some (.int .i64 0) ∧ W7r2.cell? ⟨W3.heap.size, 1, none⟩ = some (.int .i64 gv) ∧ W7r2.cell? ⟨W4.heap.size, 0, none⟩ = some (.int .i64 0) ∧ W7r2.cell? ⟨W4.heap.size, 1, none⟩ = some (.int .i64 0) ∧ W7r2.cell? ⟨W6.heap.size, 0, none⟩ = some (.slice (some ⟨g, 0, none⟩) n n) ∧ W7r2.cell? ⟨W6.heap.size, 1, none⟩ = some (.slice (some ⟨g', 0, none⟩) n n) := ⟨L_a.out.cell 0, L_a.out.cell 1, L_b.out.cell 0, L_b.out.cell 1, L_g.out.cell 0, L_g.out.cell 1, L_o.out.cell 0, L_o.out.cell 1, L_f.out.cell 0, L_f.out.cell 1⟩
      refine hK.out _ _ (fun _ => k_2) ?_
      clear hK K k_1
      (try simp only [Act.put, List.setIfInBounds_toArray, List.set_cons_zero, List.set_cons_succ])
      apply wpAnyL_take (i := 21)
      · simp only [List.getElem?_toArray, List.getElem?_cons_succ, List.getElem?_cons_zero]; exact rfl
      refine ⟨⟨by kernel_rfl, by kernel_rfl, by kernel_rfl, by kernel_rfl, by kernel_rfl⟩, fun _ _ _ h => h, ?_, k_2, ?_⟩
      · intro w hSw; (try dsimp only at hSw); go_simp; all_goals (with_reducible rfl)
      (try simp only [Act.put, List.setIfInBounds_toArray, List.set_cons_zero, List.set_cons_succ])
      apply wpAnyL_take (i := 22)
      · simp only [List.getElem?_toArray, List.getElem?_cons_succ, List.getElem?_cons_zero]; exact rfl
      refine ⟨⟨by kernel_rfl, by kernel_rfl, by kernel_rfl, by kernel_rfl, by kernel_rfl⟩, fun _ _ _ h => h, ?_, k_2, ?_⟩
      · intro w hSw; (try dsimp only at hSw); go_simp; all_goals (with_reducible rfl)
      (try simp only [Act.put, List.setIfInBounds_toArray, List.set_cons_zero, List.set_cons_succ])
      apply wpAnyL_take (i := 23)
      · simp only [List.getElem?_toArray, List.getElem?_cons_succ, List.getElem?_cons_zero]; exact rfl
      refine ⟨⟨by kernel_rfl, by kernel_rfl, by kernel_rfl, by kernel_rfl, by kernel_rfl⟩, fun _ _ _ h => h, ?_, k_2, ?_⟩
      · intro w hSw; (try dsimp only at hSw); go_simp; all_goals (with_reducible rfl)
      (try simp only [Act.put, List.setIfInBounds_toArray, List.set_cons_zero, List.set_cons_succ])
      apply wpAnyL_take (i := 24)
      · simp only [List.getElem?_toArray, List.getElem?_cons_succ, List.getElem?_cons_zero]; exact rfl
      refine ⟨⟨by kernel_rfl, by kernel_rfl, by kernel_rfl, by kernel_rfl, by kernel_rfl⟩, fun _ _ _ h => h, ?_, k_2, ?_⟩
      · intro w hSw; (try dsimp only at hSw); go_simp; all_goals (with_reducible rfl)
      (try simp only [Act.put, List.setIfInBounds_toArray, List.set_cons_zero, List.set_cons_succ])
      apply wpAnyL_take (i := 25)
      · simp only [List.getElem?_toArray, List.getElem?_cons_succ, List.getElem?_cons_zero]; exact rfl
      refine ⟨⟨by kernel_rfl, by kernel_rfl, by kernel_rfl, by kernel_rfl, by kernel_rfl⟩, fun _ _ _ h => h, ?_, k_2, ?_⟩
      · intro w hSw; (try dsimp only at hSw); go_simp; all_goals (with_reducible rfl)
      (try simp only [Act.put, List.setIfInBounds_toArray, List.set_cons_zero, List.set_cons_succ])
      apply wpAnyL_take (i := 26)
      · simp only [List.getElem?_toArray, List.getElem?_cons_succ, List.getElem?_cons_zero]; exact rfl
      refine ⟨⟨by kernel_rfl, by kernel_rfl, by kernel_rfl, by kernel_rfl, by kernel_rfl⟩, fun _ _ _ h => h, ?_, k_2, ?_⟩
      · intro w hSw; (try dsimp only at hSw); go_simp; all_goals (with_reducible rfl)
      (try simp only [Act.put, List.setIfInBounds_toArray, List.set_cons_zero, List.set_cons_succ])
      apply wpAnyL_take (i := 27)
      · simp only [List.getElem?_toArray, List.getElem?_cons_succ, List.getElem?_cons_zero]; exact rfl
      refine ⟨⟨by kernel_rfl, by kernel_rfl, by kernel_rfl, by kernel_rfl, by kernel_rfl⟩, fun _ _ _ h => h, ?_, k_2, ?_⟩
      · intro w hSw; (try dsimp only at hSw); go_simp; all_goals (with_reducible rfl)
      (try simp only [Act.put, List.setIfInBounds_toArray, List.set_cons_zero, List.set_cons_succ])
      apply wpAnyL_one (i := 28)
      · simp only [List.getElem?_toArray, List.getElem?_cons_succ, List.getElem?_cons_zero]; exact rfl
      refine ⟨by kernel_rfl, fun K hK => ?_⟩
      go_simp
      go_at_call 22
      refine (implOverlapOf_is m d m' d' n c n' c' _ _ _ _ P P' A A' us vs xs ys _ P7.out (I_p.out).X (I_p.out).Y (I_x.out).X (I_x.out).Y (Nat.le_trans mp.2 (by decide)) (Nat.le_trans mp'.2 (by decide)) (Nat.le_trans mn.2 (by decide)) (Nat.le_trans mn'.2 (by decide))).mono ?_
      rintro e W7r3 ⟨rfl, br3⟩
      replace L_a := Lib.hid (L_a.out.kept br3 L_a.out.inside)
      replace L_b := Lib.hid (L_b.out.kept br3 L_b.out.inside)
      replace L_g := Lib.hid (L_g.out.kept br3 L_g.out.inside)
      replace L_o := Lib.hid (L_o.out.kept br3 L_o.out.inside)
      replace L_f := Lib.hid (L_f.out.kept br3 L_f.out.inside)
      replace I_x := Lib.hid (I_x.out.kept br3)
      replace I_p := Lib.hid (I_p.out.kept br3)
      replace I_f := Lib.hid (I_f.out.kept br3)
      replace B := Lib.hid (B.out.trans (br3.mono B.out.size))
      clear br3
      have k_3 : W7r3.cell? ⟨W1.heap.size, 0, none⟩ = some (.slice A n c) ∧ W7r3.cell? ⟨W1.heap.size, 1, none⟩ = some (.slice A' n' c') ∧ W7r3.cell? ⟨W1.heap.size + 1, 0, none⟩ = some (.slice P m d) ∧ W7r3.cell? ⟨W1.heap.size + 1, 1, none⟩ = some (.slice P' m' d') ∧ W7r3.cell? ⟨W3.heap.size, 0, none⟩ = some (.int .i64 0) ∧ W7r3.cell? ⟨W3.heap.size, 1, none⟩ = some (.int .i64 gv) ∧ W7r3.cell? ⟨W4.heap.size, 0, none⟩ = some (.int .i64 0) ∧ W7r3.cell? ⟨W4.heap.size, 1, none⟩ = some (.int .i64 0) ∧ W7r3.cell? ⟨W6.heap.size, 0, none⟩ = some (.slice (some ⟨g, 0, none⟩) n n) ∧ W7r3.cell? ⟨W6.heap.size, 1, none⟩ = some (.slice (some ⟨g', 0, none⟩) n n) := ⟨L_a.out.cell 0, L_a.out.cell 1, L_b.out.cell 0, L_b.out.cell 1, L_g.out.cell 0, L_g.out.cell 1, L_o.out.cell 0, L_o.out.cell 1, L_f.out.cell 0, L_f.out.cell 1⟩
      refine hK.out _ _ (fun _ => k_3) ?_
      clear hK K k_2
      (try simp only [Act.put, List.setIfInBounds_toArray, List.set_cons_zero, List.set_cons_succ])
      apply wpAnyL_take (i := 29)
      · simp only [List.getElem?_toArray, List.getElem?_cons_succ, List.getElem?_cons_zero]; exact rfl
      refine ⟨⟨by kernel_rfl, by kernel_rfl, by kernel_rfl, by kernel_rfl, by kernel_rfl⟩, fun _ _ _ h => h, ?_, k_3, ?_⟩
      · intro w hSw; (try dsimp only at hSw); go_simp; all_goals (with_reducible rfl)
      (try simp only [Act.put, List.setIfInBounds_toArray, List.set_cons_zero, List.set_cons_succ])
      apply wpAnyL_take (i := 30)
      · simp only [List.getElem?_toArray, List.getElem?_cons_succ, List.getElem?_cons_zero]; exact rfl
      refine ⟨⟨by kernel_rfl, by kernel_rfl, by kernel_rfl, by kernel_rfl, by kernel_rfl⟩, fun _ _ _ h => h, ?_, k_3, ?_⟩
      · intro w hSw; (try dsimp only at hSw); go_simp; all_goals (with_reducible rfl)
      (try simp only [Act.put, List.setIfInBounds_toArray, List.set_cons_zero, List.set_cons_succ])
      apply wpAnyL_take (i := 31)
      · simp only [List.getElem?_toArray, List.getElem?_cons_succ, List.getElem?_cons_zero]; exact rfl
      refine ⟨⟨by kernel_rfl, by kernel_rfl, by kernel_rfl, by kernel_rfl, by kernel_rfl⟩, fun _ _ _ h => h, ?_, k_3, ?_⟩
      · intro w hSw; (try dsimp only at hSw); go_simp; all_goals (with_reducible rfl)
      (try simp only [Act.put, List.setIfInBounds_toArray, List.set_cons_zero, List.set_cons_succ])
      apply wpAnyL_take (i := 32)
      · simp only [List.getElem?_toArray, List.getElem?_cons_succ, List.getElem?_cons_zero]; exact rfl
      refine ⟨⟨by kernel_rfl, by kernel_rfl, by kernel_rfl, by kernel_rfl, by kernel_rfl⟩, fun _ _ _ h => h, ?_, k_3, ?_⟩
      · intro w hSw; (try dsimp only at hSw); go_simp; all_goals (with_reducible rfl)
      (try simp only [Act.put, List.setIfInBounds_toArray, List.set_cons_zero, List.set_cons_succ])
      apply wpAnyL_take (i := 35)
      · simp only [List.getElem?_toArray, List.getElem?_cons_succ, List.getElem?_cons_zero]; exact rfl
      refine ⟨⟨by kernel_rfl, by kernel_rfl, by kernel_rfl, by kernel_rfl, by kernel_rfl⟩, fun _ _ _ h => h, ?_, k_3, ?_⟩
      · intro w hSw; (try dsimp only at hSw); go_simp; all_goals (with_reducible rfl)
      (try simp only [Act.put, List.setIfInBounds_toArray, List.set_cons_zero, List.set_cons_succ])
      apply wpAnyL_take (i := 38)
      · simp only [List.getElem?_toArray, List.getElem?_cons_succ, List.getElem?_cons_zero]; exact rfl
      refine ⟨⟨by kernel_rfl, by kernel_rfl, by kernel_rfl, by kernel_rfl, by kernel_rfl⟩, fun _ _ _ h => h, ?_, k_3, ?_⟩
      · intro w hSw; (try dsimp only at hSw); go_simp; all_goals (with_reducible rfl)
      (try simp only [Act.put, List.setIfInBounds_toArray, List.set_cons_zero, List.set_cons_succ])
      apply wpAnyL_take (i := 39)
      · simp only [List.getElem?_toArray, List.getElem?_cons_succ, List.getElem?_cons_zero]; exact rfl
      refine ⟨⟨by kernel_rfl, by kernel_rfl, by kernel_rfl, by kernel_rfl, by kernel_rfl⟩, fun _ _ _ h => h, ?_, k_3, ?_⟩
      · intro w hSw; (try dsimp only at hSw); go_simp; all_goals (with_reducible rfl)
      (try simp only [Act.put, List.setIfInBounds_toArray, List.set_cons_zero, List.set_cons_succ])
      apply wpAnyL_one (i := 33)
      · simp only [List.getElem?_toArray, List.getElem?_cons_succ, List.getElem?_cons_zero]; exact rfl
      refine ⟨by kernel_rfl, fun K hK => ?_⟩
      go_simp
      go_at_call_of 25 (Value.agg #[.slice (some ⟨g, 0, none⟩) n n, .slice (some ⟨g', 0, none⟩) n n])
      refine (implAreaOf_is n n n n _ _ (some ⟨g, 0, none⟩) (some ⟨g', 0, none⟩) (mins xs us) (maxs ys vs) _ HU.out (I_f.out).X (I_f.out).Y (Nat.le_trans mn.2 (by decide)) (Nat.le_trans mn.2 (by decide))).mono ?_
      rintro e W7r4 ⟨rfl, br4⟩
      replace L_a := Lib.hid (L_a.out.kept br4 L_a.out.inside)
      replace L_b := Lib.hid (L_b.out.kept br4 L_b.out.inside)
      replace L_g := Lib.hid (L_g.out.kept br4 L_g.out.inside)
      replace L_o := Lib.hid (L_o.out.kept br4 L_o.out.inside)
      replace L_f := Lib.hid (L_f.out.kept br4 L_f.out.inside)
      replace I_x := Lib.hid (I_x.out.kept br4)
      replace I_p := Lib.hid (I_p.out.kept br4)
      replace I_f := Lib.hid (I_f.out.kept br4)
      replace B := Lib.hid (B.out.trans (br4.mono B.out.size))
      clear br4
      have k_4 : W7r4.cell? ⟨W1.heap.size, 0, none⟩ = some (.slice A n c) ∧ W7r4.cell? ⟨W1.heap.size, 1, none⟩ = some (.slice A' n' c') ∧ W7r4.cell? ⟨W1.heap.size + 1, 0, none⟩ = some (.slice P m d) ∧ W7r4.cell? ⟨W1.heap.size + 1, 1, none⟩ = some (.slice P' m' d') ∧ W7r4.cell? ⟨W3.heap.size, 0, none⟩ = some (.int .i64 0) ∧ W7r4.cell? ⟨W3.heap.size, 1, none⟩ = some (.int .i64 gv) ∧ W7r4.cell? ⟨W4.heap.size, 0, none⟩ = some (.int .i64 0) ∧ W7r4.cell? ⟨W4.heap.size, 1, none⟩ = some (.int .i64 0) ∧ W7r4.cell? ⟨W6.heap.size, 0, none⟩ = some (.slice (some ⟨g, 0, none⟩) n n) ∧ W7r4.cell? ⟨W6.heap.size, 1, none⟩ = some (.slice (some ⟨g', 0, none⟩) n n) := ⟨L_a.out.cell 0, L_a.out.cell 1, L_b.out.cell 0, L_b.out.cell 1, L_g.out.cell 0, L_g.out.cell 1, L_o.out.cell 0, L_o.out.cell 1, L_f.out.cell 0, L_f.out.cell 1⟩
      refine hK.out _ _ (fun _ => k_4) ?_
      clear hK K k_3
      (try simp only [Act.put, List.setIfInBounds_toArray, List.set_cons_zero, List.set_cons_succ])
      apply wpAnyL_take (i := 34)
      · simp only [List.getElem?_toArray, List.getElem?_cons_succ, List.getElem?_cons_zero]; exact rfl
      refine ⟨⟨by kernel_rfl, by kernel_rfl, by kernel_rfl, by kernel_rfl, by kernel_rfl⟩, fun _ _ _ h => h, ?_, k_4, ?_⟩
      · intro w hSw; (try dsimp only at hSw); go_simp; all_goals (with_reducible rfl)
      (try simp only [Act.put, List.setIfInBounds_toArray, List.set_cons_zero, List.set_cons_succ])
      apply wpAnyL_one (i := 36)
      · simp only [List.getElem?_toArray, List.getElem?_cons_succ, List.getElem?_cons_zero]; exact rfl
      refine ⟨by kernel_rfl, fun K hK => ?_⟩
      go_simp
      go_at_call_of 25 (Value.agg #[.slice A n c, .slice A' n' c'])
      refine (implAreaOf_is n c n' c' _ _ A A' xs ys _ HA.out (I_x.out).X (I_x.out).Y (Nat.le_trans mn.2 (by decide)) (Nat.le_trans mn'.2 (by decide))).mono ?_
      rintro e W7r5 ⟨rfl, br5⟩
      replace L_a := Lib.hid (L_a.out.kept br5 L_a.out.inside)
      replace L_b := Lib.hid (L_b.out.kept br5 L_b.out.inside)
      replace L_g := Lib.hid (L_g.out.kept br5 L_g.out.inside)
      replace L_o := Lib.hid (L_o.out.kept br5 L_o.out.inside)
      replace L_f := Lib.hid (L_f.out.kept br5 L_f.out.inside)
      replace I_x := Lib.hid (I_x.out.kept br5)
      replace I_p := Lib.hid (I_p.out.kept br5)
      replace I_f := Lib.hid (I_f.out.kept br5)
      replace B := Lib.hid (B.out.trans (br5.mono B.out.size))
      clear br5
      have k_5 : W7r5.cell? ⟨W1.heap.size, 0, none⟩ = some (.slice A n c) ∧ W7r5.cell? ⟨W1.heap.size, 1, none⟩ = some (.slice A' n' c') ∧ W7r5.cell? ⟨W1.heap.size + 1, 0, none⟩ = some (.slice P m d) ∧ W7r5.cell? ⟨W1.heap.size + 1, 1, none⟩ = some (.slice P' m' d') ∧ W7r5.cell? ⟨W3.heap.size, 0, none⟩ = some (.int .i64 0) ∧ W7r5.cell? ⟨W3.heap.size, 1, none⟩ = some (.int .i64 gv) ∧ W7r5.cell? ⟨W4.heap.size, 0, none⟩ = some (.int .i64 0) ∧ W7r5.cell? ⟨W4.heap.size, 1, none⟩ = some (.int .i64 0) ∧ W7r5.cell? ⟨W6.heap.size, 0, none⟩ = some (.slice (some ⟨g, 0, none⟩) n n) ∧ W7r5.cell? ⟨W6.heap.size, 1, none⟩ = some (.slice (some ⟨g', 0, none⟩) n n) := ⟨L_a.out.cell 0, L_a.out.cell 1, L_b.out.cell 0, L_b.out.cell 1, L_g.out.cell 0, L_g.out.cell 1, L_o.out.cell 0, L_o.out.cell 1, L_f.out.cell 0, L_f.out.cell 1⟩
      refine hK.out _ _ (fun _ => k_5) ?_
      clear hK K k_4
      (try simp only [Act.put, List.setIfInBounds_toArray, List.set_cons_zero, List.set_cons_succ])
      apply wpAnyL_take (i := 37)
      · simp only [List.getElem?_toArray, List.getElem?_cons_succ, List.getElem?_cons_zero]; exact rfl
      refine ⟨⟨by kernel_rfl, by kernel_rfl, by kernel_rfl, by kernel_rfl, by kernel_rfl⟩, fun _ _ _ h => h, ?_, k_5, ?_⟩
      · intro w hSw; (try dsimp only at hSw); go_simp; all_goals (with_reducible rfl)
      (try simp only [Act.put, List.setIfInBounds_toArray, List.set_cons_zero, List.set_cons_succ])
      apply wpAnyL_take (i := 40)
      · simp only [List.getElem?_toArray, List.getElem?_cons_succ, List.getElem?_cons_zero]; exact rfl
      refine ⟨⟨by kernel_rfl, by kernel_rfl, by kernel_rfl, by kernel_rfl, by kernel_rfl⟩, fun _ _ _ h => h, ?_, k_5, ?_⟩
      · intro w hSw; (try dsimp only at hSw); go_simp; all_goals (with_reducible rfl)
      (try simp only [Act.put, List.setIfInBounds_toArray, List.set_cons_zero, List.set_cons_succ])
      apply wpAnyL_take (i := 41)
      · simp only [List.getElem?_toArray, List.getElem?_cons_succ, List.getElem?_cons_zero]; exact rfl
      refine ⟨⟨by kernel_rfl, by kernel_rfl, by kernel_rfl, by kernel_rfl, by kernel_rfl⟩, fun _ _ _ h => h, ?_, k_5, ?_⟩
      · intro w hSw; (try dsimp only at hSw); go_simp; all_goals (with_reducible rfl)
      (try simp only [Act.put, List.setIfInBounds_toArray, List.set_cons_zero, List.set_cons_succ])
      apply wpAnyL_take (i := 42)
      · simp only [List.getElem?_toArray, List.getElem?_cons_succ, List.getElem?_cons_zero]; exact rfl
      refine ⟨⟨by kernel_rfl, by kernel_rfl, by kernel_rfl, by kernel_rfl, by kernel_rfl⟩, fun _ _ _ h => h, ?_, k_5, ?_⟩
      · intro w hSw; (try dsimp only at hSw); go_simp; all_goals (with_reducible rfl)
      (try simp only [Act.put, List.setIfInBounds_toArray, List.set_cons_zero, List.set_cons_succ])
      apply wpAnyL_take (i := 43)
      · simp only [List.getElem?_toArray, List.getElem?_cons_succ, List.getElem?_cons_zero]; exact rfl
      refine ⟨⟨by kernel_rfl, by kernel_rfl, by kernel_rfl, by kernel_rfl, by kernel_rfl⟩, fun _ _ _ h => h, ?_, k_5, ?_⟩
      · intro w hSw; (try dsimp only at hSw); go_simp; all_goals (with_reducible rfl)
      (try simp only [Act.put, List.setIfInBounds_toArray, List.set_cons_zero, List.set_cons_succ])
      apply wpAnyL_take (i := 44)
      · simp only [List.getElem?_toArray, List.getElem?_cons_succ, List.getElem?_cons_zero]; exact rfl
      refine ⟨⟨by kernel_rfl, by kernel_rfl, by kernel_rfl, by kernel_rfl, by kernel_rfl⟩, fun _ _ _ h => h, ?_, k_5, ?_⟩
      · intro w hSw; (try dsimp only at hSw); go_simp; all_goals (with_reducible rfl)
      (try simp only [Act.put, List.setIfInBounds_toArray, List.set_cons_zero, List.set_cons_succ])
      apply wpAnyL_take (i := 47)
      · simp only [List.getElem?_toArray, List.getElem?_cons_succ, List.getElem?_cons_zero]; exact rfl
      refine ⟨⟨by kernel_rfl, by kernel_rfl, by kernel_rfl, by kernel_rfl, by kernel_rfl⟩, fun _ _ _ h => h, ?_, k_5, ?_⟩
      · intro w hSw; (try dsimp only at hSw); go_simp; all_goals (with_reducible rfl)
      (try simp only [Act.put, List.setIfInBounds_toArray, List.set_cons_zero, List.set_cons_succ])
      apply wpAnyL_one (i := 45)
      · simp only [List.getElem?_toArray, List.getElem?_cons_succ, List.getElem?_cons_zero]; exact rfl
      refine ⟨by kernel_rfl, fun K hK => ?_⟩
      go_simp
      go_at_call_of 27 (Value.agg #[.slice (some ⟨g, 0, none⟩) n n, .slice (some ⟨g', 0, none⟩) n n])
      refine (implMarginOf_is n n n n _ _ (some ⟨g, 0, none⟩) (some ⟨g', 0, none⟩) (mins xs us) (maxs ys vs) _ HQ.out (I_f.out).X (I_f.out).Y (Nat.le_trans mn.2 (by decide)) (Nat.le_trans mn.2 (by decide))).mono ?_
      rintro e W7r6 ⟨rfl, br6⟩
      replace L_a := Lib.hid (L_a.out.kept br6 L_a.out.inside)
      replace L_b := Lib.hid (L_b.out.kept br6 L_b.out.inside)
      replace L_g := Lib.hid (L_g.out.kept br6 L_g.out.inside)
      replace L_o := Lib.hid (L_o.out.kept br6 L_o.out.inside)
      replace L_f := Lib.hid (L_f.out.kept br6 L_f.out.inside)
      replace I_x := Lib.hid (I_x.out.kept br6)
      replace I_p := Lib.hid (I_p.out.kept br6)
      replace I_f := Lib.hid (I_f.out.kept br6)
      replace B := Lib.hid (B.out.trans (br6.mono B.out.size))
      clear br6
      have k_6 : W7r6.cell? ⟨W1.heap.size, 0, none⟩ = some (.slice A n c) ∧ W7r6.cell? ⟨W1.heap.size, 1, none⟩ = some (.slice A' n' c') ∧ W7r6.cell? ⟨W1.heap.size + 1, 0, none⟩ = some (.slice P m d) ∧ W7r6.cell? ⟨W1.heap.size + 1, 1, none⟩ = some (.slice P' m' d') ∧ W7r6.cell? ⟨W3.heap.size, 0, none⟩ = some (.int .i64 0) ∧ W7r6.cell? ⟨W3.heap.size, 1, none⟩ = some (.int .i64 gv) ∧ W7r6.cell? ⟨W4.heap.size, 0, none⟩ = some (.int .i64 0) ∧ W7r6.cell? ⟨W4.heap.size, 1, none⟩ = some (.int .i64 0) ∧ W7r6.cell? ⟨W6.heap.size, 0, none⟩ = some (.slice (some ⟨g, 0, none⟩) n n) ∧ W7r6.cell? ⟨W6.heap.size, 1, none⟩ = some (.slice (some ⟨g', 0, none⟩) n n) := ⟨L_a.out.cell 0, L_a.out.cell 1, L_b.out.cell 0, L_b.out.cell 1, L_g.out.cell 0, L_g.out.cell 1, L_o.out.cell 0, L_o.out.cell 1, L_f.out.cell 0, L_f.out.cell 1⟩
      refine hK.out _ _ (fun _ => k_6) ?_
      clear hK K k_5
      (try simp only [Act.put, List.setIfInBounds_toArray, List.set_cons_zero, List.set_cons_succ])
      apply wpAnyL_take (i := 46)
      · simp only [List.getElem?_toArray, List.getElem?_cons_succ, List.getElem?_cons_zero]; exact rfl
      refine ⟨⟨by kernel_rfl, by kernel_rfl, by kernel_rfl, by kernel_rfl, by kernel_rfl⟩, fun _ _ _ h => h, ?_, k_6, ?_⟩
      · intro w hSw; (try dsimp only at hSw); go_simp; all_goals (with_reducible rfl)
      (try simp only [Act.put, List.setIfInBounds_toArray, List.set_cons_zero, List.set_cons_succ])
      apply wpAnyL_one (i := 48)
      · simp only [List.getElem?_toArray, List.getElem?_cons_succ, List.getElem?_cons_zero]; exact rfl
      refine ⟨by kernel_rfl, fun K hK => ?_⟩
      go_simp
      go_at_call_of 27 (Value.agg #[.slice P m d, .slice P' m' d'])
      refine (implMarginOf_is m d m' d' _ _ P P' us vs _ HN.out (I_p.out).X (I_p.out).Y (Nat.le_trans mp.2 (by decide)) (Nat.le_trans mp'.2 (by decide))).mono ?_
      rintro e W7r7 ⟨rfl, br7⟩
      replace L_a := Lib.hid (L_a.out.kept br7 L_a.out.inside)
      replace L_b := Lib.hid (L_b.out.kept br7 L_b.out.inside)
      replace L_g := Lib.hid (L_g.out.kept br7 L_g.out.inside)
      replace L_o := Lib.hid (L_o.out.kept br7 L_o.out.inside)
      replace L_f := Lib.hid (L_f.out.kept br7 L_f.out.inside)
      replace I_x := Lib.hid (I_x.out.kept br7)
      replace I_p := Lib.hid (I_p.out.kept br7)
      replace I_f := Lib.hid (I_f.out.kept br7)
      replace B := Lib.hid (B.out.trans (br7.mono B.out.size))
      clear br7
      have k_7 : W7r7.cell? ⟨W1.heap.size, 0, none⟩ = some (.slice A n c) ∧ W7r7.cell? ⟨W1.heap.size, 1, none⟩ = some (.slice A' n' c') ∧ W7r7.cell? ⟨W1.heap.size + 1, 0, none⟩ = some (.slice P m d) ∧ W7r7.cell? ⟨W1.heap.size + 1, 1, none⟩ = some (.slice P' m' d') ∧ W7r7.cell? ⟨W3.heap.size, 0, none⟩ = some (.int .i64 0) ∧ W7r7.cell? ⟨W3.heap.size, 1, none⟩ = some (.int .i64 gv) ∧ W7r7.cell? ⟨W4.heap.size, 0, none⟩ = some (.int .i64 0) ∧ W7r7.cell? ⟨W4.heap.size, 1, none⟩ = some (.int .i64 0) ∧ W7r7.cell? ⟨W6.heap.size, 0, none⟩ = some (.slice (some ⟨g, 0, none⟩) n n) ∧ W7r7.cell? ⟨W6.heap.size, 1, none⟩ = some (.slice (some ⟨g', 0, none⟩) n n) := ⟨L_a.out.cell 0, L_a.out.cell 1, L_b.out.cell 0, L_b.out.cell 1, L_g.out.cell 0, L_g.out.cell 1, L_o.out.cell 0, L_o.out.cell 1, L_f.out.cell 0, L_f.out.cell 1⟩
      refine hK.out _ _ (fun _ => k_7) ?_
      clear hK K k_6
      (try simp only [Act.put, List.setIfInBounds_toArray, List.set_cons_zero, List.set_cons_succ])
      apply wpAnyL_take (i := 49)
      · simp only [List.getElem?_toArray, List.getElem?_cons_succ, List.getElem?_cons_zero]; exact rfl
      refine ⟨⟨by kernel_rfl, by kernel_rfl, by kernel_rfl, by kernel_rfl, by kernel_rfl⟩, fun _ _ _ h => h, ?_, k_7, ?_⟩
      · intro w hSw; (try dsimp only at hSw); go_simp; all_goals (with_reducible rfl)
      (try simp only [Act.put, List.setIfInBounds_toArray, List.set_cons_zero, List.set_cons_succ])
      apply wpAnyL_take (i := 50)
      · simp only [List.getElem?_toArray, List.getElem?_cons_succ, List.getElem?_cons_zero]; exact rfl
      refine ⟨⟨by kernel_rfl, by kernel_rfl, by kernel_rfl, by kernel_rfl, by kernel_rfl⟩, fun _ _ _ h => h, ?_, k_7, ?_⟩
      · intro w hSw; (try dsimp only at hSw); go_simp; all_goals (with_reducible rfl)
      (try simp only [Act.put, List.setIfInBounds_toArray, List.set_cons_zero, List.set_cons_succ])
      apply wpAnyL_take (i := 51)
      · simp only [List.getElem?_toArray, List.getElem?_cons_succ, List.getElem?_cons_zero]; exact rfl
      refine ⟨⟨by kernel_rfl, by kernel_rfl, by kernel_rfl, by kernel_rfl, by kernel_rfl⟩, fun _ _ _ h => h, ?_, k_7, ?_⟩
      · intro w hSw; (try dsimp only at hSw); go_simp; all_goals (with_reducible rfl)
      (try simp only [Act.put, List.setIfInBounds_toArray, List.set_cons_zero, List.set_cons_succ])
      apply wpAnyL_take (i := 52)
      · simp only [List.getElem?_toArray, List.getElem?_cons_succ, List.getElem?_cons_zero]; exact rfl
      refine ⟨⟨by kernel_rfl, by kernel_rfl, by kernel_rfl, by kernel_rfl, by kernel_rfl⟩, fun _ _ _ h => h, ?_, k_7, ?_⟩
      · intro w hSw; (try dsimp only at hSw); go_simp; all_goals (with_reducible rfl)
      (try simp only [Act.put, List.setIfInBounds_toArray, List.set_cons_zero, List.set_cons_succ])
      apply wpAnyL_take (i := 53)
      · simp only [List.getElem?_toArray, List.getElem?_cons_succ, List.getElem?_cons_zero]; exact rfl
      refine ⟨⟨by kernel_rfl, by kernel_rfl, by kernel_rfl, by kernel_rfl, by kernel_rfl⟩, fun _ _ _ h => h, ?_, k_7, ?_⟩
      · intro w hSw; (try dsimp only at hSw); go_simp; all_goals (with_reducible rfl)
      (try simp only [Act.put, List.setIfInBounds_toArray, List.set_cons_zero, List.set_cons_succ])
      apply wpAnyL_take (i := 54)
      · simp only [List.getElem?_toArray, List.getElem?_cons_succ, List.getElem?_cons_zero]; exact rfl
      refine ⟨⟨by kernel_rfl, by kernel_rfl, by kernel_rfl, by kernel_rfl, by kernel_rfl⟩, fun _ _ _ h => h, ?_, k_7, ?_⟩
      · intro w hSw; (try dsimp only at hSw); go_simp; all_goals (with_reducible rfl)
      (try simp only [Act.put, List.setIfInBounds_toArray, List.set_cons_zero, List.set_cons_succ])
      apply wpAnyL_take (i := 55)
      · simp only [List.getElem?_toArray, List.getElem?_cons_succ, List.getElem?_cons_zero]; exact rfl
      refine ⟨⟨by kernel_rfl, by kernel_rfl, by kernel_rfl, by kernel_rfl, by kernel_rfl⟩, fun _ _ _ h => h, ?_, k_7, ?_⟩
      · intro w hSw; (try dsimp only at hSw); go_simp; all_goals (with_reducible rfl)
      (try simp only [Act.put, List.setIfInBounds_toArray, List.set_cons_zero, List.set_cons_succ])
      apply wpAnyL_take (i := 56)
      · simp only [List.getElem?_toArray, List.getElem?_cons_succ, List.getElem?_cons_zero]; exact rfl
      refine ⟨⟨by kernel_rfl, by kernel_rfl, by kernel_rfl, by kernel_rfl, by kernel_rfl⟩, fun _ _ _ h => h, ?_, k_7, ?_⟩
      · intro w hSw; (try dsimp only at hSw); go_simp; all_goals (with_reducible rfl)
      (try simp only [Act.put, List.setIfInBounds_toArray, List.set_cons_zero, List.set_cons_succ])
      apply wpAnyL_skip (i := 57)
      · simp only [List.getElem?_toArray, List.getElem?_cons_succ, List.getElem?_cons_zero]; exact rfl
      refine ⟨⟨by kernel_rfl, by kernel_rfl, by kernel_rfl, by kernel_rfl, by kernel_rfl⟩, fun _ _ _ h => h, k_7, ?_⟩
      (try simp only [Act.put, List.setIfInBounds_toArray, List.set_cons_zero, List.set_cons_succ])
      apply wpAnyL_skip (i := 58)
      · simp only [List.getElem?_toArray, List.getElem?_cons_succ, List.getElem?_cons_zero]; exact rfl
      refine ⟨⟨by kernel_rfl, by kernel_rfl, by kernel_rfl, by kernel_rfl, by kernel_rfl⟩, fun _ _ _ h => h, k_7, ?_⟩
      (try simp only [Act.put, List.setIfInBounds_toArray, List.set_cons_zero, List.set_cons_succ])
      apply wpAnyL_skip (i := 59)
      · simp only [List.getElem?_toArray, List.getElem?_cons_succ, List.getElem?_cons_zero]; exact rfl
      refine ⟨⟨by kernel_rfl, by kernel_rfl, by kernel_rfl, by kernel_rfl, by kernel_rfl⟩, fun _ _ _ h => h, k_7, ?_⟩
      (try simp only [Act.put, List.setIfInBounds_toArray, List.set_cons_zero, List.set_cons_succ])
      apply wpAnyL_take (i := 60)
      · simp only [List.getElem?_toArray, List.getElem?_cons_succ, List.getElem?_cons_zero]; exact rfl
      refine ⟨⟨by kernel_rfl, by kernel_rfl, by kernel_rfl, by kernel_rfl, by kernel_rfl⟩, fun _ _ _ h => h, ?_, k_7, ?_⟩
      · intro w hSw; (try dsimp only at hSw); go_simp; all_goals (with_reducible rfl)
      (try simp only [Act.put, List.setIfInBounds_toArray, List.set_cons_zero, List.set_cons_succ])
      apply wpAnyL_take (i := 61)
      · simp only [List.getElem?_toArray, List.getElem?_cons_succ, List.getElem?_cons_zero]; exact rfl
      refine ⟨⟨by kernel_rfl, by kernel_rfl, by kernel_rfl, by kernel_rfl, by kernel_rfl⟩, fun _ _ _ h => h, ?_, k_7, ?_⟩
      · intro w hSw; (try dsimp only at hSw); go_simp; all_goals (with_reducible rfl)
      (try simp only [Act.put, List.setIfInBounds_toArray, List.set_cons_zero, List.set_cons_succ])
      apply wpAnyL_take (i := 62)
      · simp only [List.getElem?_toArray, List.getElem?_cons_succ, List.getElem?_cons_zero]; exact rfl
      refine ⟨⟨by kernel_rfl, by kernel_rfl, by kernel_rfl, by kernel_rfl, by kernel_rfl⟩, fun _ _ _ h => h, ?_, k_7, ?_⟩
      · intro w hSw; (try dsimp only at hSw); go_simp; all_goals (with_reducible rfl)
      (try simp only [Act.put, List.setIfInBounds_toArray, List.set_cons_zero, List.set_cons_succ])
      refine wpAnyL_done (by kernel_rfl) ?_ _
      clear k_7
      go_wp2
      go_ret
      exact ⟨by first | rfl | kernel_rfl | simp, B.out⟩
    · have hov' : (ov == 0) = false := by simpa using hov
      have HE : Hid (meetsF xs ys us vs = true) := p10.resolve_left hov
      have c_a0 : W7.cell? ⟨W1.heap.size, 0, none⟩ = some (.slice A n c) := L_a.out.cell 0
      have c_a1 : W7.cell? ⟨W1.heap.size, 1, none⟩ = some (.slice A' n' c') := L_a.out.cell 1
      have c_b0 : W7.cell? ⟨W1.heap.size + 1, 0, none⟩ = some (.slice P m d) := L_b.out.cell 0
      have c_b1 : W7.cell? ⟨W1.heap.size + 1, 1, none⟩ = some (.slice P' m' d') := L_b.out.cell 1
      have c_g0 : W7.cell? ⟨W3.heap.size, 0, none⟩ = some (.int .i64 0) := L_g.out.cell 0
      have c_g1 : W7.cell? ⟨W3.heap.size, 1, none⟩ = some (.int .i64 gv) := L_g.out.cell 1
      have c_o0 : W7.cell? ⟨W4.heap.size, 0, none⟩ = some (.int .i64 0) := L_o.out.cell 0
      have c_o1 : W7.cell? ⟨W4.heap.size, 1, none⟩ = some (.int .i64 ov) := L_o.out.cell 1
      have c_f0 : W7.cell? ⟨W6.heap.size, 0, none⟩ = some (.slice (some ⟨g, 0, none⟩) n n) := L_f.out.cell 0
      have c_f1 : W7.cell? ⟨W6.heap.size, 1, none⟩ = some (.slice (some ⟨g', 0, none⟩) n n) := L_f.out.cell 1
      go_upto_region 11 with fail
      refine wp_region_last 63 (fun w' => w'.cell? ⟨W1.heap.size, 0, none⟩ = some (.slice A n c) ∧ w'.cell? ⟨W1.heap.size, 1, none⟩ = some (.slice A' n' c') ∧ w'.cell? ⟨W1.heap.size + 1, 0, none⟩ = some (.slice P m d) ∧ w'.cell? ⟨W1.heap.size + 1, 1, none⟩ = some (.slice P' m' d') ∧ w'.cell? ⟨W3.heap.size, 0, none⟩ = some (.int .i64 0) ∧ w'.cell? ⟨W3.heap.size, 1, none⟩ = some (.int .i64 gv) ∧ w'.cell? ⟨W4.heap.size, 0, none⟩ = some (.int .i64 0) ∧ w'.cell? ⟨W4.heap.size, 1, none⟩ = some (.int .i64 ov) ∧ w'.cell? ⟨W6.heap.size, 0, none⟩ = some (.slice (some ⟨g, 0, none⟩) n n) ∧ w'.cell? ⟨W6.heap.size, 1, none⟩ = some (.slice (some ⟨g', 0, none⟩) n n)) (by kernel_rfl) (⟨L_a.out.drew.cell 0, L_a.out.drew.cell 1, L_b.out.drew.cell 0, L_b.out.drew.cell 1, L_g.out.drew.cell 0, L_g.out.drew.cell 1, L_o.out.drew.cell 0, L_o.out.drew.cell 1, L_f.out.drew.cell 0, L_f.out.drew.cell 1⟩) (fun hHeld => ?_)
      clear c_a0 c_a1 c_b0 c_b1 c_g0 c_g1 c_o0 c_o1 c_f0 c_f1
      apply wpAnyL_take (i := 0)
      · simp only [List.getElem?_toArray, List.getElem?_cons_succ, List.getElem?_cons_zero]; exact rfl
      refine ⟨⟨by kernel_rfl, by kernel_rfl, by kernel_rfl, by kernel_rfl, by kernel_rfl⟩, fun _ _ _ h => h, ?_, hHeld, ?_⟩
      · intro w hSw; (try dsimp only at hSw); go_simp; all_goals (with_reducible rfl)
      (try simp only [Act.put, List.setIfInBounds_toArray, List.set_cons_zero, List.set_cons_succ])
      apply wpAnyL_take (i := 1)
      · simp only [List.getElem?_toArray, List.getElem?_cons_succ, List.getElem?_cons_zero]; exact rfl
      refine ⟨⟨by kernel_rfl, by kernel_rfl, by kernel_rfl, by kernel_rfl, by kernel_rfl⟩, fun _ _ _ h => h, ?_, hHeld, ?_⟩
      · intro w hSw; (try dsimp only at hSw); go_simp; all_goals (with_reducible rfl)
      (try simp only [Act.put, List.setIfInBounds_toArray, List.set_cons_zero, List.set_cons_succ])
      apply wpAnyL_take (i := 2)
      · simp only [List.getElem?_toArray, List.getElem?_cons_succ, List.getElem?_cons_zero]; exact rfl
      refine ⟨⟨by kernel_rfl, by kernel_rfl, by kernel_rfl, by kernel_rfl, by kernel_rfl⟩, fun _ _ _ h => h, ?_, hHeld, ?_⟩
      · intro w hSw; (try dsimp only at hSw); go_simp; all_goals (with_reducible rfl)
      (try simp only [Act.put, List.setIfInBounds_toArray, List.set_cons_zero, List.set_cons_succ])
      apply wpAnyL_take (i := 3)
      · simp only [List.getElem?_toArray, List.getElem?_cons_succ, List.getElem?_cons_zero]; exact rfl
      refine ⟨⟨by kernel_rfl, by kernel_rfl, by kernel_rfl, by kernel_rfl, by kernel_rfl⟩, fun _ _ _ h => h, ?_, hHeld, ?_⟩
      · intro w hSw; (try dsimp only at hSw); go_simp; all_goals (with_reducible rfl)
      (try simp only [Act.put, List.setIfInBounds_toArray, List.set_cons_zero, List.set_cons_succ])
      apply wpAnyL_take (i := 4)
      · simp only [List.getElem?_toArray, List.getElem?_cons_succ, List.getElem?_cons_zero]; exact rfl
      refine ⟨⟨by kernel_rfl, by kernel_rfl, by kernel_rfl, by kernel_rfl, by kernel_rfl⟩, fun _ _ _ h => h, ?_, hHeld, ?_⟩
      · intro w hSw; (try dsimp only at hSw); go_simp; all_goals (with_reducible rfl)
      (try simp only [Act.put, List.setIfInBounds_toArray, List.set_cons_zero, List.set_cons_succ])
      apply wpAnyL_take (i := 5)
      · simp only [List.getElem?_toArray, List.getElem?_cons_succ, List.getElem?_cons_zero]; exact rfl
      refine ⟨⟨by kernel_rfl, by kernel_rfl, by kernel_rfl, by kernel_rfl, by kernel_rfl⟩, fun _ _ _ h => h, ?_, hHeld, ?_⟩
      · intro w hSw; (try dsimp only at hSw); go_simp; all_goals (with_reducible rfl)
      (try simp only [Act.put, List.setIfInBounds_toArray, List.set_cons_zero, List.set_cons_succ])
      apply wpAnyL_take (i := 6)
      · simp only [List.getElem?_toArray, List.getElem?_cons_succ, List.getElem?_cons_zero]; exact rfl
      refine ⟨⟨by kernel_rfl, by kernel_rfl, by kernel_rfl, by kernel_rfl, by kernel_rfl⟩, fun _ _ _ h => h, ?_, hHeld, ?_⟩
      · intro w hSw; (try dsimp only at hSw); go_simp; all_goals (with_reducible rfl)
      (try simp only [Act.put, List.setIfInBounds_toArray, List.set_cons_zero, List.set_cons_succ])
      apply wpAnyL_take (i := 7)
      · simp only [List.getElem?_toArray, List.getElem?_cons_succ, List.getElem?_cons_zero]; exact rfl
      refine ⟨⟨by kernel_rfl, by kernel_rfl, by kernel_rfl, by kernel_rfl, by kernel_rfl⟩, fun _ _ _ h => h, ?_, hHeld, ?_⟩
      · intro w hSw; (try dsimp only at hSw); go_simp; all_goals (with_reducible rfl)
      (try simp only [Act.put, List.setIfInBounds_toArray, List.set_cons_zero, List.set_cons_succ])
      apply wpAnyL_take (i := 8)
      · simp only [List.getElem?_toArray, List.getElem?_cons_succ, List.getElem?_cons_zero]; exact rfl
      refine ⟨⟨by kernel_rfl, by kernel_rfl, by kernel_rfl, by kernel_rfl, by kernel_rfl⟩, fun _ _ _ h => h, ?_, hHeld, ?_⟩
      · intro w hSw; (try dsimp only at hSw); go_simp; all_goals (with_reducible rfl)
      (try simp only [Act.put, List.setIfInBounds_toArray, List.set_cons_zero, List.set_cons_succ])
      apply wpAnyL_take (i := 9)
      · simp only [List.getElem?_toArray, List.getElem?_cons_succ, List.getElem?_cons_zero]; exact rfl
      refine ⟨⟨by kernel_rfl, by kernel_rfl, by kernel_rfl, by kernel_rfl, by kernel_rfl⟩, fun _ _ _ h => h, ?_, hHeld, ?_⟩
      · intro w hSw; (try dsimp only at hSw); go_simp; all_goals (with_reducible rfl)
      (try simp only [Act.put, List.setIfInBounds_toArray, List.set_cons_zero, List.set_cons_succ])
      apply wpAnyL_take (i := 10)
      · simp only [List.getElem?_toArray, List.getElem?_cons_succ, List.getElem?_cons_zero]; exact rfl
      refine ⟨⟨by kernel_rfl, by kernel_rfl, by kernel_rfl, by kernel_rfl, by kernel_rfl⟩, fun _ _ _ h => h, ?_, hHeld, ?_⟩
      · intro w hSw; (try dsimp only at hSw); go_simp; all_goals (with_reducible rfl)
      (try simp only [Act.put, List.setIfInBounds_toArray, List.set_cons_zero, List.set_cons_succ])
      apply wpAnyL_take (i := 11)
      · simp only [List.getElem?_toArray, List.getElem?_cons_succ, List.getElem?_cons_zero]; exact rfl
      refine ⟨⟨by kernel_rfl, by kernel_rfl, by kernel_rfl, by kernel_rfl, by kernel_rfl⟩, fun _ _ _ h => h, ?_, hHeld, ?_⟩
      · intro w hSw; (try dsimp only at hSw); go_simp; all_goals (with_reducible rfl)
      (try simp only [Act.put, List.setIfInBounds_toArray, List.set_cons_zero, List.set_cons_succ])
      apply wpAnyL_one (i := 12)
      · simp only [List.getElem?_toArray, List.getElem?_cons_succ, List.getElem?_cons_zero]; exact rfl
      refine ⟨by kernel_rfl, fun K hK => ?_⟩
      go_simp
      go_at_call_of 25 (Value.agg #[.slice A n c, .slice A' n' c'])
      refine (implAreaOf_is n c n' c' _ _ A A' xs ys _ HA.out (I_x.out.drew).X (I_x.out.drew).Y (Nat.le_trans mn.2 (by decide)) (Nat.le_trans mn'.2 (by decide))).mono ?_
      rintro e W7r1 ⟨rfl, br1d⟩
      have br1 := below_drawn br1d
      clear br1d
      replace L_a := Lib.hid (L_a.out.kept br1 L_a.out.inside)
      replace L_b := Lib.hid (L_b.out.kept br1 L_b.out.inside)
      replace L_g := Lib.hid (L_g.out.kept br1 L_g.out.inside)
      replace L_o := Lib.hid (L_o.out.kept br1 L_o.out.inside)
      replace L_f := Lib.hid (L_f.out.kept br1 L_f.out.inside)
      replace I_x := Lib.hid (I_x.out.kept br1)
      replace I_p := Lib.hid (I_p.out.kept br1)
      replace I_f := Lib.hid (I_f.out.kept br1)
      replace B := Lib.hid (B.out.trans (br1.mono B.out.size))
      clear br1
      have k_1 : W7r1.cell? ⟨W1.heap.size, 0, none⟩ = some (.slice A n c) ∧ W7r1.cell? ⟨W1.heap.size, 1, none⟩ = some (.slice A' n' c') ∧ W7r1.cell? ⟨W1.heap.size + 1, 0, none⟩ = some (.slice P m d) ∧ W7r1.cell? ⟨W1.heap.size + 1, 1, none⟩ = some (.slice P' m' d') ∧ W7r1.cell? ⟨W3.heap.size, 0, none⟩ = some (.int .i64 0) ∧ W7r1.cell? ⟨W3.heap.size, 1, none⟩ = some (.int .i64 gv) ∧ W7r1.cell? ⟨W4.heap.size, 0, none⟩ = some (.int .i64 0) ∧ W7r1.cell? ⟨W4.heap.size, 1, none⟩ = some (.int .i64 ov) ∧ W7r1.cell? ⟨W6.heap.size, 0, none⟩ = some (.slice (some ⟨g, 0, none⟩) n n) ∧ W7r1.cell? ⟨W6.heap.size, 1, none⟩ = some (.slice (some ⟨g', 0, none⟩) n n) := ⟨L_a.out.cell 0, L_a.out.cell 1, L_b.out.cell 0, L_b.out.cell 1, L_g.out.cell 0, L_g.out.cell 1, L_o.out.cell 0, L_o.out.cell 1, L_f.out.cell 0, L_f.out.cell 1⟩
      refine hK.out _ _ (fun _ => k_1) ?_
      clear hK K hHeld
      (try simp only [Act.put, List.setIfInBounds_toArray, List.set_cons_zero, List.set_cons_succ])
      apply wpAnyL_take (i := 13)
      · simp only [List.getElem?_toArray, List.getElem?_cons_succ, List.getElem?_cons_zero]; exact rfl
      refine ⟨⟨by kernel_rfl, by kernel_rfl, by kernel_rfl, by kernel_rfl, by kernel_rfl⟩, fun _ _ _ h => h, ?_, k_1, ?_⟩
      · intro w hSw; (try dsimp only at hSw); go_simp; all_goals (with_reducible rfl)
      (try simp only [Act.put, List.setIfInBounds_toArray, List.set_cons_zero, List.set_cons_succ])
      apply wpAnyL_take (i := 14)
      · simp only [List.getElem?_toArray, List.getElem?_cons_succ, List.getElem?_cons_zero]; exact rfl
      refine ⟨⟨by kernel_rfl, by kernel_rfl, by kernel_rfl, by kernel_rfl, by kernel_rfl⟩, fun _ _ _ h => h, ?_, k_1, ?_⟩
      · intro w hSw; (try dsimp only at hSw); go_simp; all_goals (with_reducible rfl)
      (try simp only [Act.put, List.setIfInBounds_toArray, List.set_cons_zero, List.set_cons_succ])
      apply wpAnyL_take (i := 15)
      · simp only [List.getElem?_toArray, List.getElem?_cons_succ, List.getElem?_cons_zero]; exact rfl
      refine ⟨⟨by kernel_rfl, by kernel_rfl, by kernel_rfl, by kernel_rfl, by kernel_rfl⟩, fun _ _ _ h => h, ?_, k_1, ?_⟩
      · intro w hSw; (try dsimp only at hSw); go_simp; all_goals (with_reducible rfl)
      (try simp only [Act.put, List.setIfInBounds_toArray, List.set_cons_zero, List.set_cons_succ])
      apply wpAnyL_take (i := 16)
      · simp only [List.getElem?_toArray, List.getElem?_cons_succ, List.getElem?_cons_zero]; exact rfl
      refine ⟨⟨by kernel_rfl, by kernel_rfl, by kernel_rfl, by kernel_rfl, by kernel_rfl⟩, fun _ _ _ h => h, ?_, k_1, ?_⟩
      · intro w hSw; (try dsimp only at hSw); go_simp; all_goals (with_reducible rfl)
      (try simp only [Act.put, List.setIfInBounds_toArray, List.set_cons_zero, List.set_cons_succ])
      apply wpAnyL_take (i := 17)
      · simp only [List.getElem?_toArray, List.getElem?_cons_succ, List.getElem?_cons_zero]; exact rfl
      refine ⟨⟨by kernel_rfl, by kernel_rfl, by kernel_rfl, by kernel_rfl, by kernel_rfl⟩, fun _ _ _ h => h, ?_, k_1, ?_⟩
      · intro w hSw; (try dsimp only at hSw); go_simp; all_goals (with_reducible rfl)
      (try simp only [Act.put, List.setIfInBounds_toArray, List.set_cons_zero, List.set_cons_succ])
      apply wpAnyL_take (i := 18)
      · simp only [List.getElem?_toArray, List.getElem?_cons_succ, List.getElem?_cons_zero]; exact rfl
      refine ⟨⟨by kernel_rfl, by kernel_rfl, by kernel_rfl, by kernel_rfl, by kernel_rfl⟩, fun _ _ _ h => h, ?_, k_1, ?_⟩
      · intro w hSw; (try dsimp only at hSw); go_simp; all_goals (with_reducible rfl)
      (try simp only [Act.put, List.setIfInBounds_toArray, List.set_cons_zero, List.set_cons_succ])
      apply wpAnyL_take (i := 19)
      · simp only [List.getElem?_toArray, List.getElem?_cons_succ, List.getElem?_cons_zero]; exact rfl
      refine ⟨⟨by kernel_rfl, by kernel_rfl, by kernel_rfl, by kernel_rfl, by kernel_rfl⟩, fun _ _ _ h => h, ?_, k_1, ?_⟩
      · intro w hSw; (try dsimp only at hSw); go_simp; all_goals (with_reducible rfl)
      (try simp only [Act.put, List.setIfInBounds_toArray, List.set_cons_zero, List.set_cons_succ])
      apply wpAnyL_one (i := 20)
      · simp only [List.getElem?_toArray, List.getElem?_cons_succ, List.getElem?_cons_zero]; exact rfl
      refine ⟨by kernel_rfl, fun K hK => ?_⟩
      go_simp
      go_at_call_of 25 (Value.agg #[.slice P m d, .slice P' m' d'])
      refine (implAreaOf_is m d m' d' _ _ P P' us vs _ HB.out (I_p.out).X (I_p.out).Y (Nat.le_trans mp.2 (by decide)) (Nat.le_trans mp'.2 (by decide))).mono ?_
      rintro e W7r2 ⟨rfl, br2⟩
      replace L_a := Lib.hid (L_a.out.kept br2 L_a.out.inside)
      replace L_b := Lib.hid (L_b.out.kept br2 L_b.out.inside)
      replace L_g := Lib.hid (L_g.out.kept br2 L_g.out.inside)
      replace L_o := Lib.hid (L_o.out.kept br2 L_o.out.inside)
      replace L_f := Lib.hid (L_f.out.kept br2 L_f.out.inside)
      replace I_x := Lib.hid (I_x.out.kept br2)
      replace I_p := Lib.hid (I_p.out.kept br2)
      replace I_f := Lib.hid (I_f.out.kept br2)
      replace B := Lib.hid (B.out.trans (br2.mono B.out.size))
      clear br2
      have k_2 : W7r2.cell? ⟨W1.heap.size, 0, none⟩ = some (.slice A n c) ∧ W7r2.cell? ⟨W1.heap.size, 1, none⟩ = some (.slice A' n' c') ∧ W7r2.cell? ⟨W1.heap.size + 1, 0, none⟩ = some (.slice P m d) ∧ W7r2.cell? ⟨W1.heap.size + 1, 1, none⟩ = some (.slice P' m' d') ∧ W7r2.cell? ⟨W3.heap.size, 0, none⟩ = some (.int .i64 0) ∧ W7r2.cell? ⟨W3.heap.size, 1, none⟩ = some (.int .i64 gv) ∧ W7r2.cell? ⟨W4.heap.size, 0, none⟩ = some (.int .i64 0) ∧ W7r2.cell? ⟨W4.heap.size, 1, none⟩ = some (.int .i64 ov) ∧ W7r2.cell? ⟨W6.heap.size, 0, none⟩ = some (.slice (some ⟨g, 0, none⟩) n n) ∧ W7r2.cell? ⟨W6.heap.size, 1, none⟩ = some (.slice (some ⟨g', 0, none⟩) n n) := ⟨L_a.out.cell 0, L_a.out.cell 1, L_b.out.cell 0, L_b.out.cell 1, L_g.out.cell 0, L_g.out.cell 1, L_o.out.cell 0, L_o.out.cell 1, L_f.out.cell 0, L_f.out.cell 1⟩
      refine hK.out _ _ (fun _ => k_2) ?_
      clear hK K k_1
      (try simp only [Act.put, List.setIfInBounds_toArray, List.set_cons_zero, List.set_cons_succ])
      apply wpAnyL_take (i := 21)
      · simp only [List.getElem?_toArray, List.getElem?_cons_succ, List.getElem?_cons_zero]; exact rfl
      refine ⟨⟨by kernel_rfl, by kernel_rfl, by kernel_rfl, by kernel_rfl, by kernel_rfl⟩, fun _ _ _ h => h, ?_, k_2, ?_⟩
      · intro w hSw; (try dsimp only at hSw); go_simp; all_goals (with_reducible rfl)
      (try simp only [Act.put, List.setIfInBounds_toArray, List.set_cons_zero, List.set_cons_succ])
      apply wpAnyL_take (i := 22)
      · simp only [List.getElem?_toArray, List.getElem?_cons_succ, List.getElem?_cons_zero]; exact rfl
      refine ⟨⟨by kernel_rfl, by kernel_rfl, by kernel_rfl, by kernel_rfl, by kernel_rfl⟩, fun _ _ _ h => h, ?_, k_2, ?_⟩
      · intro w hSw; (try dsimp only at hSw); go_simp; all_goals (with_reducible rfl)
      (try simp only [Act.put, List.setIfInBounds_toArray, List.set_cons_zero, List.set_cons_succ])
      apply wpAnyL_take (i := 23)
      · simp only [List.getElem?_toArray, List.getElem?_cons_succ, List.getElem?_cons_zero]; exact rfl
      refine ⟨⟨by kernel_rfl, by kernel_rfl, by kernel_rfl, by kernel_rfl, by kernel_rfl⟩, fun _ _ _ h => h, ?_, k_2, ?_⟩
      · intro w hSw; (try dsimp only at hSw); go_simp; all_goals (with_reducible rfl)
      (try simp only [Act.put, List.setIfInBounds_toArray, List.set_cons_zero, List.set_cons_succ])
      apply wpAnyL_take (i := 24)
      · simp only [List.getElem?_toArray, List.getElem?_cons_succ, List.getElem?_cons_zero]; exact rfl
      refine ⟨⟨by kernel_rfl, by kernel_rfl, by kernel_rfl, by kernel_rfl, by kernel_rfl⟩, fun _ _ _ h => h, ?_, k_2, ?_⟩
      · intro w hSw; (try dsimp only at hSw); go_simp; all_goals (with_reducible rfl)
      (try simp only [Act.put, List.setIfInBounds_toArray, List.set_cons_zero, List.set_cons_succ])
      apply wpAnyL_take (i := 25)
      · simp only [List.getElem?_toArray, List.getElem?_cons_succ, List.getElem?_cons_zero]; exact rfl
      refine ⟨⟨by kernel_rfl, by kernel_rfl, by kernel_rfl, by kernel_rfl, by kernel_rfl⟩, fun _ _ _ h => h, ?_, k_2, ?_⟩
      · intro w hSw; (try dsimp only at hSw); go_simp; all_goals (with_reducible rfl)
      (try simp only [Act.put, List.setIfInBounds_toArray, List.set_cons_zero, List.set_cons_succ])
      apply wpAnyL_take (i := 26)
      · simp only [List.getElem?_toArray, List.getElem?_cons_succ, List.getElem?_cons_zero]; exact rfl
      refine ⟨⟨by kernel_rfl, by kernel_rfl, by kernel_rfl, by kernel_rfl, by kernel_rfl⟩, fun _ _ _ h => h, ?_, k_2, ?_⟩
      · intro w hSw; (try dsimp only at hSw); go_simp; all_goals (with_reducible rfl)
      (try simp only [Act.put, List.setIfInBounds_toArray, List.set_cons_zero, List.set_cons_succ])
      apply wpAnyL_take (i := 27)
      · simp only [List.getElem?_toArray, List.getElem?_cons_succ, List.getElem?_cons_zero]; exact rfl
      refine ⟨⟨by kernel_rfl, by kernel_rfl, by kernel_rfl, by kernel_rfl, by kernel_rfl⟩, fun _ _ _ h => h, ?_, k_2, ?_⟩
      · intro w hSw; (try dsimp only at hSw); go_simp; all_goals (with_reducible rfl)
      (try simp only [Act.put, List.setIfInBounds_toArray, List.set_cons_zero, List.set_cons_succ])
      apply wpAnyL_one (i := 28)
      · simp only [List.getElem?_toArray, List.getElem?_cons_succ, List.getElem?_cons_zero]; exact rfl
      refine ⟨by kernel_rfl, fun K hK => ?_⟩
      go_simp
      go_at_call 22
      refine (implOverlapOf_is m d m' d' n c n' c' _ _ _ _ P P' A A' us vs xs ys _ P7.out (I_p.out).X (I_p.out).Y (I_x.out).X (I_x.out).Y (Nat.le_trans mp.2 (by decide)) (Nat.le_trans mp'.2 (by decide)) (Nat.le_trans mn.2 (by decide)) (Nat.le_trans mn'.2 (by decide))).mono ?_
      rintro e W7r3 ⟨rfl, br3⟩
      replace L_a := Lib.hid (L_a.out.kept br3 L_a.out.inside)
      replace L_b := Lib.hid (L_b.out.kept br3 L_b.out.inside)
      replace L_g := Lib.hid (L_g.out.kept br3 L_g.out.inside)
      replace L_o := Lib.hid (L_o.out.kept br3 L_o.out.inside)
      replace L_f := Lib.hid (L_f.out.kept br3 L_f.out.inside)
      replace I_x := Lib.hid (I_x.out.kept br3)
      replace I_p := Lib.hid (I_p.out.kept br3)
      replace I_f := Lib.hid (I_f.out.kept br3)
      replace B := Lib.hid (B.out.trans (br3.mono B.out.size))
      clear br3
      have k_3 : W7r3.cell? ⟨W1.heap.size, 0, none⟩ = some (.slice A n c) ∧ W7r3.cell? ⟨W1.heap.size, 1, none⟩ = some (.slice A' n' c') ∧ W7r3.cell? ⟨W1.heap.size + 1, 0, none⟩ = some (.slice P m d) ∧ W7r3.cell? ⟨W1.heap.size + 1, 1, none⟩ = some (.slice P' m' d') ∧ W7r3.cell? ⟨W3.heap.size, 0, none⟩ = some (.int .i64 0) ∧ W7r3.cell? ⟨W3.heap.size, 1, none⟩ = some (.int .i64 gv) ∧ W7r3.cell? ⟨W4.heap.size, 0, none⟩ = some (.int .i64 0) ∧ W7r3.cell? ⟨W4.heap.size, 1, none⟩ = some (.int .i64 ov) ∧ W7r3.cell? ⟨W6.heap.size, 0, none⟩ = some (.slice (some ⟨g, 0, none⟩) n n) ∧ W7r3.cell? ⟨W6.heap.size, 1, none⟩ = some (.slice (some ⟨g', 0, none⟩) n n) := ⟨L_a.out.cell 0, L_a.out.cell 1, L_b.out.cell 0, L_b.out.cell 1, L_g.out.cell 0, L_g.out.cell 1, L_o.out.cell 0, L_o.out.cell 1, L_f.out.cell 0, L_f.out.cell 1⟩
      refine hK.out _ _ (fun _ => k_3) ?_
      clear hK K k_2
      (try simp only [Act.put, List.setIfInBounds_toArray, List.set_cons_zero, List.set_cons_succ])
      apply wpAnyL_take (i := 29)
      · simp only [List.getElem?_toArray, List.getElem?_cons_succ, List.getElem?_cons_zero]; exact rfl
      refine ⟨⟨by kernel_rfl, by kernel_rfl, by kernel_rfl, by kernel_rfl, by kernel_rfl⟩, fun _ _ _ h => h, ?_, k_3, ?_⟩
      · intro w hSw; (try dsimp only at hSw); go_simp; all_goals (with_reducible rfl)
      (try simp only [Act.put, List.setIfInBounds_toArray, List.set_cons_zero, List.set_cons_succ])
      apply wpAnyL_take (i := 30)
      · simp only [List.getElem?_toArray, List.getElem?_cons_succ, List.getElem?_cons_zero]; exact rfl
      refine ⟨⟨by kernel_rfl, by kernel_rfl, by kernel_rfl, by kernel_rfl, by kernel_rfl⟩, fun _ _ _ h => h, ?_, k_3, ?_⟩
      · intro w hSw; (try dsimp only at hSw); go_simp; all_goals (with_reducible rfl)
      (try simp only [Act.put, List.setIfInBounds_toArray, List.set_cons_zero, List.set_cons_succ])
      apply wpAnyL_take (i := 31)
      · simp only [List.getElem?_toArray, List.getElem?_cons_succ, List.getElem?_cons_zero]; exact rfl
      refine ⟨⟨by kernel_rfl, by kernel_rfl, by kernel_rfl, by kernel_rfl, by kernel_rfl⟩, fun _ _ _ h => h, ?_, k_3, ?_⟩
      · intro w hSw; (try dsimp only at hSw); go_simp; all_goals (with_reducible rfl)
      (try simp only [Act.put, List.setIfInBounds_toArray, List.set_cons_zero, List.set_cons_succ])
      apply wpAnyL_take (i := 32)
      · simp only [List.getElem?_toArray, List.getElem?_cons_succ, List.getElem?_cons_zero]; exact rfl
      refine ⟨⟨by kernel_rfl, by kernel_rfl, by kernel_rfl, by kernel_rfl, by kernel_rfl⟩, fun _ _ _ h => h, ?_, k_3, ?_⟩
      · intro w hSw; (try dsimp only at hSw); go_simp; all_goals (with_reducible rfl)
      (try simp only [Act.put, List.setIfInBounds_toArray, List.set_cons_zero, List.set_cons_succ])
      apply wpAnyL_take (i := 35)
      · simp only [List.getElem?_toArray, List.getElem?_cons_succ, List.getElem?_cons_zero]; exact rfl
      refine ⟨⟨by kernel_rfl, by kernel_rfl, by kernel_rfl, by kernel_rfl, by kernel_rfl⟩, fun _ _ _ h => h, ?_, k_3, ?_⟩
      · intro w hSw; (try dsimp only at hSw); go_simp; all_goals (with_reducible rfl)
      (try simp only [Act.put, List.setIfInBounds_toArray, List.set_cons_zero, List.set_cons_succ])
      apply wpAnyL_take (i := 38)
      · simp only [List.getElem?_toArray, List.getElem?_cons_succ, List.getElem?_cons_zero]; exact rfl
      refine ⟨⟨by kernel_rfl, by kernel_rfl, by kernel_rfl, by kernel_rfl, by kernel_rfl⟩, fun _ _ _ h => h, ?_, k_3, ?_⟩
      · intro w hSw; (try dsimp only at hSw); go_simp; all_goals (with_reducible rfl)
      (try simp only [Act.put, List.setIfInBounds_toArray, List.set_cons_zero, List.set_cons_succ])
      apply wpAnyL_take (i := 39)
      · simp only [List.getElem?_toArray, List.getElem?_cons_succ, List.getElem?_cons_zero]; exact rfl
      refine ⟨⟨by kernel_rfl, by kernel_rfl, by kernel_rfl, by kernel_rfl, by kernel_rfl⟩, fun _ _ _ h => h, ?_, k_3, ?_⟩
      · intro w hSw; (try dsimp only at hSw); go_simp; all_goals (with_reducible rfl)
      (try simp only [Act.put, List.setIfInBounds_toArray, List.set_cons_zero, List.set_cons_succ])
      apply wpAnyL_one (i := 33)
      · simp only [List.getElem?_toArray, List.getElem?_cons_succ, List.getElem?_cons_zero]; exact rfl
      refine ⟨by kernel_rfl, fun K hK => ?_⟩
      go_simp
      go_at_call_of 25 (Value.agg #[.slice (some ⟨g, 0, none⟩) n n, .slice (some ⟨g', 0, none⟩) n n])
      refine (implAreaOf_is n n n n _ _ (some ⟨g, 0, none⟩) (some ⟨g', 0, none⟩) (mins xs us) (maxs ys vs) _ HU.out (I_f.out).X (I_f.out).Y (Nat.le_trans mn.2 (by decide)) (Nat.le_trans mn.2 (by decide))).mono ?_
      rintro e W7r4 ⟨rfl, br4⟩
      replace L_a := Lib.hid (L_a.out.kept br4 L_a.out.inside)
      replace L_b := Lib.hid (L_b.out.kept br4 L_b.out.inside)
      replace L_g := Lib.hid (L_g.out.kept br4 L_g.out.inside)
      replace L_o := Lib.hid (L_o.out.kept br4 L_o.out.inside)
      replace L_f := Lib.hid (L_f.out.kept br4 L_f.out.inside)
      replace I_x := Lib.hid (I_x.out.kept br4)
      replace I_p := Lib.hid (I_p.out.kept br4)
      replace I_f := Lib.hid (I_f.out.kept br4)
      replace B := Lib.hid (B.out.trans (br4.mono B.out.size))
      clear br4
      have k_4 : W7r4.cell? ⟨W1.heap.size, 0, none⟩ = some (.slice A n c) ∧ W7r4.cell? ⟨W1.heap.size, 1, none⟩ = some (.slice A' n' c') ∧ W7r4.cell? ⟨W1.heap.size + 1, 0, none⟩ = some (.slice P m d) ∧ W7r4.cell? ⟨W1.heap.size + 1, 1, none⟩ = some (.slice P' m' d') ∧ W7r4.cell? ⟨W3.heap.size, 0, none⟩ = some (.int .i64 0) ∧ W7r4.cell? ⟨W3.heap.size, 1, none⟩ = some (.int .i64 gv) ∧ W7r4.cell? ⟨W4.heap.size, 0, none⟩ = some (.int .i64 0) ∧ W7r4.cell? ⟨W4.heap.size, 1, none⟩ = some (.int .i64 ov) ∧ W7r4.cell? ⟨W6.heap.size, 0, none⟩ = some (.slice (some ⟨g, 0, none⟩) n n) ∧ W7r4.cell? ⟨W6.heap.size, 1, none⟩ = some (.slice (some ⟨g', 0, none⟩) n n) := ⟨L_a.out.cell 0, L_a.out.cell 1, L_b.out.cell 0, L_b.out.cell 1, L_g.out.cell 0, L_g.out.cell 1, L_o.out.cell 0, L_o.out.cell 1, L_f.out.cell 0, L_f.out.cell 1⟩
      refine hK.out _ _ (fun _ => k_4) ?_
      clear hK K k_3
      (try simp only [Act.put, List.setIfInBounds_toArray, List.set_cons_zero, List.set_cons_succ])
      apply wpAnyL_take (i := 34)
      · simp only [List.getElem?_toArray, List.getElem?_cons_succ, List.getElem?_cons_zero]; exact rfl
      refine ⟨⟨by kernel_rfl, by kernel_rfl, by kernel_rfl, by kernel_rfl, by kernel_rfl⟩, fun _ _ _ h => h, ?_, k_4, ?_⟩
      · intro w hSw; (try dsimp only at hSw); go_simp; all_goals (with_reducible rfl)
      (try simp only [Act.put, List.setIfInBounds_toArray, List.set_cons_zero, List.set_cons_succ])
      apply wpAnyL_one (i := 36)
      · simp only [List.getElem?_toArray, List.getElem?_cons_succ, List.getElem?_cons_zero]; exact rfl
      refine ⟨by kernel_rfl, fun K hK => ?_⟩
      go_simp
      go_at_call_of 25 (Value.agg #[.slice A n c, .slice A' n' c'])
      refine (implAreaOf_is n c n' c' _ _ A A' xs ys _ HA.out (I_x.out).X (I_x.out).Y (Nat.le_trans mn.2 (by decide)) (Nat.le_trans mn'.2 (by decide))).mono ?_
      rintro e W7r5 ⟨rfl, br5⟩
      replace L_a := Lib.hid (L_a.out.kept br5 L_a.out.inside)
      replace L_b := Lib.hid (L_b.out.kept br5 L_b.out.inside)
      replace L_g := Lib.hid (L_g.out.kept br5 L_g.out.inside)
      replace L_o := Lib.hid (L_o.out.kept br5 L_o.out.inside)
      replace L_f := Lib.hid (L_f.out.kept br5 L_f.out.inside)
      replace I_x := Lib.hid (I_x.out.kept br5)
      replace I_p := Lib.hid (I_p.out.kept br5)
      replace I_f := Lib.hid (I_f.out.kept br5)
      replace B := Lib.hid (B.out.trans (br5.mono B.out.size))
      clear br5
      have k_5 : W7r5.cell? ⟨W1.heap.size, 0, none⟩ = some (.slice A n c) ∧ W7r5.cell? ⟨W1.heap.size, 1, none⟩ = some (.slice A' n' c') ∧ W7r5.cell? ⟨W1.heap.size + 1, 0, none⟩ = some (.slice P m d) ∧ W7r5.cell? ⟨W1.heap.size + 1, 1, none⟩ = some (.slice P' m' d') ∧ W7r5.cell? ⟨W3.heap.size, 0, none⟩ = some (.int .i64 0) ∧ W7r5.cell? ⟨W3.heap.size, 1, none⟩ = some (.int .i64 gv) ∧ W7r5.cell? ⟨W4.heap.size, 0, none⟩ = some (.int .i64 0) ∧ W7r5.cell? ⟨W4.heap.size, 1, none⟩ = some (.int .i64 ov) ∧ W7r5.cell? ⟨W6.heap.size, 0, none⟩ = some (.slice (some ⟨g, 0, none⟩) n n) ∧ W7r5.cell? ⟨W6.heap.size, 1, none⟩ = some (.slice (some ⟨g', 0, none⟩) n n) := ⟨L_a.out.cell 0, L_a.out.cell 1, L_b.out.cell 0, L_b.out.cell 1, L_g.out.cell 0, L_g.out.cell 1, L_o.out.cell 0, L_o.out.cell 1, L_f.out.cell 0, L_f.out.cell 1⟩
      refine hK.out _ _ (fun _ => k_5) ?_
      clear hK K k_4
      (try simp only [Act.put, List.setIfInBounds_toArray, List.set_cons_zero, List.set_cons_succ])
      apply wpAnyL_take (i := 37)
      · simp only [List.getElem?_toArray, List.getElem?_cons_succ, List.getElem?_cons_zero]; exact rfl
      refine ⟨⟨by kernel_rfl, by kernel_rfl, by kernel_rfl, by kernel_rfl, by kernel_rfl⟩, fun _ _ _ h => h, ?_, k_5, ?_⟩
      · intro w hSw; (try dsimp only at hSw); go_simp; all_goals (with_reducible rfl)
      (try simp only [Act.put, List.setIfInBounds_toArray, List.set_cons_zero, List.set_cons_succ])
      apply wpAnyL_take (i := 40)
      · simp only [List.getElem?_toArray, List.getElem?_cons_succ, List.getElem?_cons_zero]; exact rfl
      refine ⟨⟨by kernel_rfl, by kernel_rfl, by kernel_rfl, by kernel_rfl, by kernel_rfl⟩, fun _ _ _ h => h, ?_, k_5, ?_⟩
      · intro w hSw; (try dsimp only at hSw); go_simp; all_goals (with_reducible rfl)
      (try simp only [Act.put, List.setIfInBounds_toArray, List.set_cons_zero, List.set_cons_succ])
      apply wpAnyL_take (i := 41)
      · simp only [List.getElem?_toArray, List.getElem?_cons_succ, List.getElem?_cons_zero]; exact rfl
      refine ⟨⟨by kernel_rfl, by kernel_rfl, by kernel_rfl, by kernel_rfl, by kernel_rfl⟩, fun _ _ _ h => h, ?_, k_5, ?_⟩
      · intro w hSw; (try dsimp only at hSw); go_simp; all_goals (with_reducible rfl)
      (try simp only [Act.put, List.setIfInBounds_toArray, List.set_cons_zero, List.set_cons_succ])
      apply wpAnyL_take (i := 42)
      · simp only [List.getElem?_toArray, List.getElem?_cons_succ, List.getElem?_cons_zero]; exact rfl
      refine ⟨⟨by kernel_rfl, by kernel_rfl, by kernel_rfl, by kernel_rfl, by kernel_rfl⟩, fun _ _ _ h => h, ?_, k_5, ?_⟩
      · intro w hSw; (try dsimp only at hSw); go_simp; all_goals (with_reducible rfl)
      (try simp only [Act.put, List.setIfInBounds_toArray, List.set_cons_zero, List.set_cons_succ])
      apply wpAnyL_take (i := 43)
      · simp only [List.getElem?_toArray, List.getElem?_cons_succ, List.getElem?_cons_zero]; exact rfl
      refine ⟨⟨by kernel_rfl, by kernel_rfl, by kernel_rfl, by kernel_rfl, by kernel_rfl⟩, fun _ _ _ h => h, ?_, k_5, ?_⟩
      · intro w hSw; (try dsimp only at hSw); go_simp; all_goals (with_reducible rfl)
      (try simp only [Act.put, List.setIfInBounds_toArray, List.set_cons_zero, List.set_cons_succ])
      apply wpAnyL_take (i := 44)
      · simp only [List.getElem?_toArray, List.getElem?_cons_succ, List.getElem?_cons_zero]; exact rfl
      refine ⟨⟨by kernel_rfl, by kernel_rfl, by kernel_rfl, by kernel_rfl, by kernel_rfl⟩, fun _ _ _ h => h, ?_, k_5, ?_⟩
      · intro w hSw; (try dsimp only at hSw); go_simp; all_goals (with_reducible rfl)
      (try simp only [Act.put, List.setIfInBounds_toArray, List.set_cons_zero, List.set_cons_succ])
      apply wpAnyL_take (i := 47)
      · simp only [List.getElem?_toArray, List.getElem?_cons_succ, List.getElem?_cons_zero]; exact rfl
      refine ⟨⟨by kernel_rfl, by kernel_rfl, by kernel_rfl, by kernel_rfl, by kernel_rfl⟩, fun _ _ _ h => h, ?_, k_5, ?_⟩
      · intro w hSw; (try dsimp only at hSw); go_simp; all_goals (with_reducible rfl)
      (try simp only [Act.put, List.setIfInBounds_toArray, List.set_cons_zero, List.set_cons_succ])
      apply wpAnyL_one (i := 45)
      · simp only [List.getElem?_toArray, List.getElem?_cons_succ, List.getElem?_cons_zero]; exact rfl
      refine ⟨by kernel_rfl, fun K hK => ?_⟩
      go_simp
      go_at_call_of 27 (Value.agg #[.slice (some ⟨g, 0, none⟩) n n, .slice (some ⟨g', 0, none⟩) n n])
      refine (implMarginOf_is n n n n _ _ (some ⟨g, 0, none⟩) (some ⟨g', 0, none⟩) (mins xs us) (maxs ys vs) _ HQ.out (I_f.out).X (I_f.out).Y (Nat.le_trans mn.2 (by decide)) (Nat.le_trans mn.2 (by decide))).mono ?_
      rintro e W7r6 ⟨rfl, br6⟩
      replace L_a := Lib.hid (L_a.out.kept br6 L_a.out.inside)
      replace L_b := Lib.hid (L_b.out.kept br6 L_b.out.inside)
      replace L_g := Lib.hid (L_g.out.kept br6 L_g.out.inside)
      replace L_o := Lib.hid (L_o.out.kept br6 L_o.out.inside)
      replace L_f := Lib.hid (L_f.out.kept br6 L_f.out.inside)
      replace I_x := Lib.hid (I_x.out.kept br6)
      replace I_p := Lib.hid (I_p.out.kept br6)
      replace I_f := Lib.hid (I_f.out.kept br6)
      replace B := Lib.hid (B.out.trans (br6.mono B.out.size))
      clear br6
      have k_6 : W7r6.cell? ⟨W1.heap.size, 0, none⟩ = some (.slice A n c) ∧ W7r6.cell? ⟨W1.heap.size, 1, none⟩ = some (.slice A' n' c') ∧ W7r6.cell? ⟨W1.heap.size + 1, 0, none⟩ = some (.slice P m d) ∧ W7r6.cell? ⟨W1.heap.size + 1, 1, none⟩ = some (.slice P' m' d') ∧ W7r6.cell? ⟨W3.heap.size, 0, none⟩ = some (.int .i64 0) ∧ W7r6.cell? ⟨W3.heap.size, 1, none⟩ = some (.int .i64 gv) ∧ W7r6.cell? ⟨W4.heap.size, 0, none⟩ = some (.int .i64 0) ∧ W7r6.cell? ⟨W4.heap.size, 1, none⟩ = some (.int .i64 ov) ∧ W7r6.cell? ⟨W6.heap.size, 0, none⟩ = some (.slice (some ⟨g, 0, none⟩) n n) ∧ W7r6.cell? ⟨W6.heap.size, 1, none⟩ = some (.slice (some ⟨g', 0, none⟩) n n) := ⟨L_a.out.cell 0, L_a.out.cell 1, L_b.out.cell 0, L_b.out.cell 1, L_g.out.cell 0, L_g.out.cell 1, L_o.out.cell 0, L_o.out.cell 1, L_f.out.cell 0, L_f.out.cell 1⟩
      refine hK.out _ _ (fun _ => k_6) ?_
      clear hK K k_5
      (try simp only [Act.put, List.setIfInBounds_toArray, List.set_cons_zero, List.set_cons_succ])
      apply wpAnyL_take (i := 46)
      · simp only [List.getElem?_toArray, List.getElem?_cons_succ, List.getElem?_cons_zero]; exact rfl
      refine ⟨⟨by kernel_rfl, by kernel_rfl, by kernel_rfl, by kernel_rfl, by kernel_rfl⟩, fun _ _ _ h => h, ?_, k_6, ?_⟩
      · intro w hSw; (try dsimp only at hSw); go_simp; all_goals (with_reducible rfl)
      (try simp only [Act.put, List.setIfInBounds_toArray, List.set_cons_zero, List.set_cons_succ])
      apply wpAnyL_one (i := 48)
      · simp only [List.getElem?_toArray, List.getElem?_cons_succ, List.getElem?_cons_zero]; exact rfl
      refine ⟨by kernel_rfl, fun K hK => ?_⟩
      go_simp
      go_at_call_of 27 (Value.agg #[.slice P m d, .slice P' m' d'])
      refine (implMarginOf_is m d m' d' _ _ P P' us vs _ HN.out (I_p.out).X (I_p.out).Y (Nat.le_trans mp.2 (by decide)) (Nat.le_trans mp'.2 (by decide))).mono ?_
      rintro e W7r7 ⟨rfl, br7⟩
      replace L_a := Lib.hid (L_a.out.kept br7 L_a.out.inside)
      replace L_b := Lib.hid (L_b.out.kept br7 L_b.out.inside)
      replace L_g := Lib.hid (L_g.out.kept br7 L_g.out.inside)
      replace L_o := Lib.hid (L_o.out.kept br7 L_o.out.inside)
      replace L_f := Lib.hid (L_f.out.kept br7 L_f.out.inside)
      replace I_x := Lib.hid (I_x.out.kept br7)
      replace I_p := Lib.hid (I_p.out.kept br7)
      replace I_f := Lib.hid (I_f.out.kept br7)
      replace B := Lib.hid (B.out.trans (br7.mono B.out.size))
      clear br7
      have k_7 : W7r7.cell? ⟨W1.heap.size, 0, none⟩ = some (.slice A n c) ∧ W7r7.cell? ⟨W1.heap.size, 1, none⟩ = some (.slice A' n' c') ∧ W7r7.cell? ⟨W1.heap.size + 1, 0, none⟩ = some (.slice P m d) ∧ W7r7.cell? ⟨W1.heap.size + 1, 1, none⟩ = some (.slice P' m' d') ∧ W7r7.cell? ⟨W3.heap.size, 0, none⟩ = some (.int .i64 0) ∧ W7r7.cell? ⟨W3.heap.size, 1, none⟩ = some (.int .i64 gv) ∧ W7r7.cell? ⟨W4.heap.size, 0, none⟩ = some (.int .i64 0) ∧ W7r7.cell? ⟨W4.heap.size, 1, none⟩ = some (.int .i64 ov) ∧ W7r7.cell? ⟨W6.heap.size, 0, none⟩ = some (.slice (some ⟨g, 0, none⟩) n n) ∧ W7r7.cell? ⟨W6.heap.size, 1, none⟩ = some (.slice (some ⟨g', 0, none⟩) n n) := ⟨L_a.out.cell 0, L_a.out.cell 1, L_b.out.cell 0, L_b.out.cell 1, L_g.out.cell 0, L_g.out.cell 1, L_o.out.cell 0, L_o.out.cell 1, L_f.out.cell 0, L_f.out.cell 1⟩
      refine hK.out _ _ (fun _ => k_7) ?_
      clear hK K k_6
      (try simp only [Act.put, List.setIfInBounds_toArray, List.set_cons_zero, List.set_cons_succ])
      apply wpAnyL_take (i := 49)
      · simp only [List.getElem?_toArray, List.getElem?_cons_succ, List.getElem?_cons_zero]; exact rfl
      refine ⟨⟨by kernel_rfl, by kernel_rfl, by kernel_rfl, by kernel_rfl, by kernel_rfl⟩, fun _ _ _ h => h, ?_, k_7, ?_⟩
      · intro w hSw; (try dsimp only at hSw); go_simp; all_goals (with_reducible rfl)
      (try simp only [Act.put, List.setIfInBounds_toArray, List.set_cons_zero, List.set_cons_succ])
      apply wpAnyL_take (i := 50)
      · simp only [List.getElem?_toArray, List.getElem?_cons_succ, List.getElem?_cons_zero]; exact rfl
      refine ⟨⟨by kernel_rfl, by kernel_rfl, by kernel_rfl, by kernel_rfl, by kernel_rfl⟩, fun _ _ _ h => h, ?_, k_7, ?_⟩
      · intro w hSw; (try dsimp only at hSw); go_simp; all_goals (with_reducible rfl)
      (try simp only [Act.put, List.setIfInBounds_toArray, List.set_cons_zero, List.set_cons_succ])
      apply wpAnyL_take (i := 51)
      · simp only [List.getElem?_toArray, List.getElem?_cons_succ, List.getElem?_cons_zero]; exact rfl
      refine ⟨⟨by kernel_rfl, by kernel_rfl, by kernel_rfl, by kernel_rfl, by kernel_rfl⟩, fun _ _ _ h => h, ?_, k_7, ?_⟩
      · intro w hSw; (try dsimp only at hSw); go_simp; all_goals (with_reducible rfl)
      (try simp only [Act.put, List.setIfInBounds_toArray, List.set_cons_zero, List.set_cons_succ])
      apply wpAnyL_take (i := 52)
      · simp only [List.getElem?_toArray, List.getElem?_cons_succ, List.getElem?_cons_zero]; exact rfl
      refine ⟨⟨by kernel_rfl, by kernel_rfl, by kernel_rfl, by kernel_rfl, by kernel_rfl⟩, fun _ _ _ h => h, ?_, k_7, ?_⟩
      · intro w hSw; (try dsimp only at hSw); go_simp; all_goals (with_reducible rfl)
      (try simp only [Act.put, List.setIfInBounds_toArray, List.set_cons_zero, List.set_cons_succ])
      apply wpAnyL_take (i := 53)
      · simp only [List.getElem?_toArray, List.getElem?_cons_succ, List.getElem?_cons_zero]; exact rfl
      refine ⟨⟨by kernel_rfl, by kernel_rfl, by kernel_rfl, by kernel_rfl, by kernel_rfl⟩, fun _ _ _ h => h, ?_, k_7, ?_⟩
      · intro w hSw; (try dsimp only at hSw); go_simp; all_goals (with_reducible rfl)
      (try simp only [Act.put, List.setIfInBounds_toArray, List.set_cons_zero, List.set_cons_succ])
      apply wpAnyL_take (i := 54)
      · simp only [List.getElem?_toArray, List.getElem?_cons_succ, List.getElem?_cons_zero]; exact rfl
      refine ⟨⟨by kernel_rfl, by kernel_rfl, by kernel_rfl, by kernel_rfl, by kernel_rfl⟩, fun _ _ _ h => h, ?_, k_7, ?_⟩
      · intro w hSw; (try dsimp only at hSw); go_simp; all_goals (with_reducible rfl)
      (try simp only [Act.put, List.setIfInBounds_toArray, List.set_cons_zero, List.set_cons_succ])
      apply wpAnyL_take (i := 55)
      · simp only [List.getElem?_toArray, List.getElem?_cons_succ, List.getElem?_cons_zero]; exact rfl
      refine ⟨⟨by kernel_rfl, by kernel_rfl, by kernel_rfl, by kernel_rfl, by kernel_rfl⟩, fun _ _ _ h => h, ?_, k_7, ?_⟩
      · intro w hSw; (try dsimp only at hSw); go_simp; all_goals (with_reducible rfl)
      (try simp only [Act.put, List.setIfInBounds_toArray, List.set_cons_zero, List.set_cons_succ])
      apply wpAnyL_take (i := 56)
      · simp only [List.getElem?_toArray, List.getElem?_cons_succ, List.getElem?_cons_zero]; exact rfl
      refine ⟨⟨by kernel_rfl, by kernel_rfl, by kernel_rfl, by kernel_rfl, by kernel_rfl⟩, fun _ _ _ h => h, ?_, k_7, ?_⟩
      · intro w hSw; (try dsimp only at hSw); go_simp; all_goals (with_reducible rfl)
      (try simp only [Act.put, List.setIfInBounds_toArray, List.set_cons_zero, List.set_cons_succ])
      apply wpAnyL_take (i := 57)
      · simp only [List.getElem?_toArray, List.getElem?_cons_succ, List.getElem?_cons_zero]; exact rfl
      refine ⟨⟨by kernel_rfl, by kernel_rfl, by kernel_rfl, by kernel_rfl, by kernel_rfl⟩, fun _ _ _ h => h, ?_, k_7, ?_⟩
      · intro w hSw; (try dsimp only at hSw); go_simp; all_goals (with_reducible rfl)
      (try simp only [Act.put, List.setIfInBounds_toArray, List.set_cons_zero, List.set_cons_succ])
      apply wpAnyL_take (i := 58)
      · simp only [List.getElem?_toArray, List.getElem?_cons_succ, List.getElem?_cons_zero]; exact rfl
      refine ⟨⟨by kernel_rfl, by kernel_rfl, by kernel_rfl, by kernel_rfl, by kernel_rfl⟩, fun _ _ _ h => h, ?_, k_7, ?_⟩
      · intro w hSw; (try dsimp only at hSw); go_simp; all_goals (with_reducible rfl)
      (try simp only [Act.put, List.setIfInBounds_toArray, List.set_cons_zero, List.set_cons_succ])
      apply wpAnyL_one (i := 59)
      · simp only [List.getElem?_toArray, List.getElem?_cons_succ, List.getElem?_cons_zero]; exact rfl
      refine ⟨by kernel_rfl, fun K hK => ?_⟩
      go_simp
      go_at_call 14
      refine (implMeets_is n c n' c' m d m' d' _ _ _ _ A A' P P' xs ys us vs _ HE.out (I_x.out).X (I_x.out).Y (I_p.out).X (I_p.out).Y (Nat.le_trans mn.2 (by decide)) (Nat.le_trans mn'.2 (by decide)) (Nat.le_trans mp.2 (by decide)) (Nat.le_trans mp'.2 (by decide))).mono ?_
      rintro e W7r8 ⟨rfl, br8⟩
      replace L_a := Lib.hid (L_a.out.kept br8 L_a.out.inside)
      replace L_b := Lib.hid (L_b.out.kept br8 L_b.out.inside)
      replace L_g := Lib.hid (L_g.out.kept br8 L_g.out.inside)
      replace L_o := Lib.hid (L_o.out.kept br8 L_o.out.inside)
      replace L_f := Lib.hid (L_f.out.kept br8 L_f.out.inside)
      replace I_x := Lib.hid (I_x.out.kept br8)
      replace I_p := Lib.hid (I_p.out.kept br8)
      replace I_f := Lib.hid (I_f.out.kept br8)
      replace B := Lib.hid (B.out.trans (br8.mono B.out.size))
      clear br8
      have k_8 : W7r8.cell? ⟨W1.heap.size, 0, none⟩ = some (.slice A n c) ∧ W7r8.cell? ⟨W1.heap.size, 1, none⟩ = some (.slice A' n' c') ∧ W7r8.cell? ⟨W1.heap.size + 1, 0, none⟩ = some (.slice P m d) ∧ W7r8.cell? ⟨W1.heap.size + 1, 1, none⟩ = some (.slice P' m' d') ∧ W7r8.cell? ⟨W3.heap.size, 0, none⟩ = some (.int .i64 0) ∧ W7r8.cell? ⟨W3.heap.size, 1, none⟩ = some (.int .i64 gv) ∧ W7r8.cell? ⟨W4.heap.size, 0, none⟩ = some (.int .i64 0) ∧ W7r8.cell? ⟨W4.heap.size, 1, none⟩ = some (.int .i64 ov) ∧ W7r8.cell? ⟨W6.heap.size, 0, none⟩ = some (.slice (some ⟨g, 0, none⟩) n n) ∧ W7r8.cell? ⟨W6.heap.size, 1, none⟩ = some (.slice (some ⟨g', 0, none⟩) n n) := ⟨L_a.out.cell 0, L_a.out.cell 1, L_b.out.cell 0, L_b.out.cell 1, L_g.out.cell 0, L_g.out.cell 1, L_o.out.cell 0, L_o.out.cell 1, L_f.out.cell 0, L_f.out.cell 1⟩
      refine hK.out _ _ (fun _ => k_8) ?_
      clear hK K k_7
      (try simp only [Act.put, List.setIfInBounds_toArray, List.set_cons_zero, List.set_cons_succ])
      apply wpAnyL_take (i := 60)
      · simp only [List.getElem?_toArray, List.getElem?_cons_succ, List.getElem?_cons_zero]; exact rfl
      refine ⟨⟨by kernel_rfl, by kernel_rfl, by kernel_rfl, by kernel_rfl, by kernel_rfl⟩, fun _ _ _ h => h, ?_, k_8, ?_⟩
      · intro w hSw; (try dsimp only at hSw); go_simp; all_goals (with_reducible rfl)
      (try simp only [Act.put, List.setIfInBounds_toArray, List.set_cons_zero, List.set_cons_succ])
      apply wpAnyL_take (i := 61)
      · simp only [List.getElem?_toArray, List.getElem?_cons_succ, List.getElem?_cons_zero]; exact rfl
      refine ⟨⟨by kernel_rfl, by kernel_rfl, by kernel_rfl, by kernel_rfl, by kernel_rfl⟩, fun _ _ _ h => h, ?_, k_8, ?_⟩
      · intro w hSw; (try dsimp only at hSw); go_simp; all_goals (with_reducible rfl)
      (try simp only [Act.put, List.setIfInBounds_toArray, List.set_cons_zero, List.set_cons_succ])
      apply wpAnyL_take (i := 62)
      · simp only [List.getElem?_toArray, List.getElem?_cons_succ, List.getElem?_cons_zero]; exact rfl
      refine ⟨⟨by kernel_rfl, by kernel_rfl, by kernel_rfl, by kernel_rfl, by kernel_rfl⟩, fun _ _ _ h => h, ?_, k_8, ?_⟩
      · intro w hSw; (try dsimp only at hSw); go_simp; all_goals (with_reducible rfl)
      (try simp only [Act.put, List.setIfInBounds_toArray, List.set_cons_zero, List.set_cons_succ])
      refine wpAnyL_done (by kernel_rfl) ?_ _
      clear k_8
      go_wp2
      go_ret
      exact ⟨rfl, B.out⟩
  · have hgc' : (gc != 0) = true := by simpa using hgc
    have hoc : oc = gc := by have := over_code xs ys us vs; rw [HO.out, HG.out] at this; exact this
    subst hoc
    go_wp2
    go_ret
    exact ⟨by simp, B.out⟩

end Go.Proofs.Ytfpmbkfikfdmkaa
