/- FnExactSameTrees: for every two trees impl.SameTrees answers as the model does and leaves its arguments alone. No condition. -/
import Derived.Test.YtdkaofmlgaofgaaSameTrees
import Derived.Test.YtdkaofmlgaofgaaLawSameA
namespace Go.Proofs.Ytdkaofmlgaofgaa
open Go.RowKit

set_option maxRecDepth 100000 in
set_option maxHeartbeats 6400000 in
theorem lawSameTrees_walk (st0 dd0 rt0 rn0 ct0 : Int) (n0 c0 m0 e0 l0 f0 : Nat) (A0 B0 C0 : Option Addr) (ns0 : List NV) (fs0 : List Int) (rs0 : List RV) (st1 dd1 rt1 rn1 ct1 : Int) (n1 c1 m1 e1 l1 f1 : Nat) (A1 B1 C1 : Option Addr) (ns1 : List NV) (fs1 : List Int) (rs1 : List RV) (w : World) (hp0 : ArenaL w A0 B0 C0 n0 m0 l0 ns0 fs0 rs0) (hp1 : ArenaL w A1 B1 C1 n1 m1 l1 ns1 fs1 rs1) :
    Calls Try.prog 3 #[.agg #[.int .i64 st0, .int .i64 dd0, .slice A0 n0 c0, .slice B0 m0 e0, .slice C0 l0 f0, .int .i64 rt0, .int .i64 rn0, .int .i64 ct0], .agg #[.int .i64 st1, .int .i64 dd1, .slice A1 n1 c1, .slice B1 m1 e1, .slice C1 l1 f1, .int .i64 rt1, .int .i64 rn1, .int .i64 ct1]] w fun e w' => e = .returned (.bool true) ∧ Below w.heap.size w w' := by
  have I_0 := Lib.hid hp0
  have I_1 := Lib.hid hp1
  clear hp0 hp1
  obtain ⟨val, hval⟩ : ∃ v, sameT st0 st1 rt0 rt1 rn0 rn1 ct0 ct1 (sameA dd0 dd1 ns0 ns1 fs0 fs1 rs0 rs1) = v := ⟨_, rfl⟩
  have HV := Lib.hid hval
  clear hval
  have B := Lib.hid (Below.refl w.heap.size w)
  have L_a0 := Lib.hid (Lies.new w 28 #[.int .i64 st0, .int .i64 dd0, .slice A0 n0 c0, .slice B0 m0 e0, .slice C0 l0 f0, .int .i64 rt0, .int .i64 rn0, .int .i64 ct0])
  replace B := Lib.hid (B.out.alloc B.out.size (.cells #[.int .i64 st0, .int .i64 dd0, .slice A0 n0 c0, .slice B0 m0 e0, .slice C0 l0 f0, .int .i64 rt0, .int .i64 rn0, .int .i64 ct0] 28))
  replace L_a0 := Lib.hid (L_a0.out.alloc (.cells #[.int .i64 st1, .int .i64 dd1, .slice A1 n1 c1, .slice B1 m1 e1, .slice C1 l1 f1, .int .i64 rt1, .int .i64 rn1, .int .i64 ct1] 28))
  have L_a1 := Lib.hid (Lies.new (w.alloc (.cells #[.int .i64 st0, .int .i64 dd0, .slice A0 n0 c0, .slice B0 m0 e0, .slice C0 l0 f0, .int .i64 rt0, .int .i64 rn0, .int .i64 ct0] 28)) 28 #[.int .i64 st1, .int .i64 dd1, .slice A1 n1 c1, .slice B1 m1 e1, .slice C1 l1 f1, .int .i64 rt1, .int .i64 rn1, .int .i64 ct1])
  replace B := Lib.hid (B.out.alloc B.out.size (.cells #[.int .i64 st1, .int .i64 dd1, .slice A1 n1 c1, .slice B1 m1 e1, .slice C1 l1 f1, .int .i64 rt1, .int .i64 rn1, .int .i64 ct1] 28))
  simp only [World.size_alloc] at L_a1
  go_enter Try.func3, Try.ntmps3
  go_wp2_with fail
  refine (szTree_any _ _ _ _ _ 1048576 _ _ _ _ _ _ _ _ _ ns0 fs0 rs0 _ (I_0.out.kept B.out) (by decide) (by decide)).mono ?_
  rintro e W1 ⟨r0, rfl, hr0, b1⟩
  replace L_a0 := Lib.hid (L_a0.out.kept b1 L_a0.out.inside)
  replace L_a1 := Lib.hid (L_a1.out.kept b1 L_a1.out.inside)
  replace B := Lib.hid (B.out.trans (b1.mono B.out.size))
  clear b1
  rcases hr0 with rfl | ⟨p0, q0, hs0⟩
  · go_wp2
    go_ret
    exact ⟨rfl, B.out⟩
  have HS0 := Lib.hid hs0
  have t0 : ¬ r0 < 0 := by omega
  clear hs0
  have c_a00 : W1.cell? ⟨w.heap.size, 0, none⟩ = some (.int .i64 st0) := L_a0.out.cell 0
  have c_a01 : W1.cell? ⟨w.heap.size, 1, none⟩ = some (.int .i64 dd0) := L_a0.out.cell 1
  have c_a02 : W1.cell? ⟨w.heap.size, 2, none⟩ = some (.slice A0 n0 c0) := L_a0.out.cell 2
  have c_a03 : W1.cell? ⟨w.heap.size, 3, none⟩ = some (.slice B0 m0 e0) := L_a0.out.cell 3
  have c_a04 : W1.cell? ⟨w.heap.size, 4, none⟩ = some (.slice C0 l0 f0) := L_a0.out.cell 4
  have c_a05 : W1.cell? ⟨w.heap.size, 5, none⟩ = some (.int .i64 rt0) := L_a0.out.cell 5
  have c_a06 : W1.cell? ⟨w.heap.size, 6, none⟩ = some (.int .i64 rn0) := L_a0.out.cell 6
  have c_a07 : W1.cell? ⟨w.heap.size, 7, none⟩ = some (.int .i64 ct0) := L_a0.out.cell 7
  have c_a10 : W1.cell? ⟨w.heap.size + 1, 0, none⟩ = some (.int .i64 st1) := L_a1.out.cell 0
  have c_a11 : W1.cell? ⟨w.heap.size + 1, 1, none⟩ = some (.int .i64 dd1) := L_a1.out.cell 1
  have c_a12 : W1.cell? ⟨w.heap.size + 1, 2, none⟩ = some (.slice A1 n1 c1) := L_a1.out.cell 2
  have c_a13 : W1.cell? ⟨w.heap.size + 1, 3, none⟩ = some (.slice B1 m1 e1) := L_a1.out.cell 3
  have c_a14 : W1.cell? ⟨w.heap.size + 1, 4, none⟩ = some (.slice C1 l1 f1) := L_a1.out.cell 4
  have c_a15 : W1.cell? ⟨w.heap.size + 1, 5, none⟩ = some (.int .i64 rt1) := L_a1.out.cell 5
  have c_a16 : W1.cell? ⟨w.heap.size + 1, 6, none⟩ = some (.int .i64 rn1) := L_a1.out.cell 6
  have c_a17 : W1.cell? ⟨w.heap.size + 1, 7, none⟩ = some (.int .i64 ct1) := L_a1.out.cell 7
  go_wp2_with fail
  clear c_a00 c_a01 c_a02 c_a03 c_a04 c_a05 c_a06 c_a07 c_a10 c_a11 c_a12 c_a13 c_a14 c_a15 c_a16 c_a17
  refine (szTree_any _ _ _ _ _ r0 _ _ _ _ _ _ _ _ _ ns1 fs1 rs1 _ (I_1.out.kept B.out) p0 q0).mono ?_
  rintro e W2 ⟨r1, rfl, hr1, b2⟩
  replace L_a0 := Lib.hid (L_a0.out.kept b2 L_a0.out.inside)
  replace L_a1 := Lib.hid (L_a1.out.kept b2 L_a1.out.inside)
  replace B := Lib.hid (B.out.trans (b2.mono B.out.size))
  clear b2
  rcases hr1 with rfl | ⟨p1, q1, hs1⟩
  · go_wp2
    go_ret
    exact ⟨rfl, B.out⟩
  have HS1 := Lib.hid hs1
  have t1 : ¬ r1 < 0 := by omega
  clear hs1
  go_wp2_with fail
  have k_0 : W2.cell? ⟨w.heap.size, 0, none⟩ = some (.int .i64 st0) ∧ W2.cell? ⟨w.heap.size, 1, none⟩ = some (.int .i64 dd0) ∧ W2.cell? ⟨w.heap.size, 2, none⟩ = some (.slice A0 n0 c0) ∧ W2.cell? ⟨w.heap.size, 3, none⟩ = some (.slice B0 m0 e0) ∧ W2.cell? ⟨w.heap.size, 4, none⟩ = some (.slice C0 l0 f0) ∧ W2.cell? ⟨w.heap.size, 5, none⟩ = some (.int .i64 rt0) ∧ W2.cell? ⟨w.heap.size, 6, none⟩ = some (.int .i64 rn0) ∧ W2.cell? ⟨w.heap.size, 7, none⟩ = some (.int .i64 ct0) ∧ W2.cell? ⟨w.heap.size + 1, 0, none⟩ = some (.int .i64 st1) ∧ W2.cell? ⟨w.heap.size + 1, 1, none⟩ = some (.int .i64 dd1) ∧ W2.cell? ⟨w.heap.size + 1, 2, none⟩ = some (.slice A1 n1 c1) ∧ W2.cell? ⟨w.heap.size + 1, 3, none⟩ = some (.slice B1 m1 e1) ∧ W2.cell? ⟨w.heap.size + 1, 4, none⟩ = some (.slice C1 l1 f1) ∧ W2.cell? ⟨w.heap.size + 1, 5, none⟩ = some (.int .i64 rt1) ∧ W2.cell? ⟨w.heap.size + 1, 6, none⟩ = some (.int .i64 rn1) ∧ W2.cell? ⟨w.heap.size + 1, 7, none⟩ = some (.int .i64 ct1) := ⟨L_a0.out.cell 0, L_a0.out.cell 1, L_a0.out.cell 2, L_a0.out.cell 3, L_a0.out.cell 4, L_a0.out.cell 5, L_a0.out.cell 6, L_a0.out.cell 7, L_a1.out.cell 0, L_a1.out.cell 1, L_a1.out.cell 2, L_a1.out.cell 3, L_a1.out.cell 4, L_a1.out.cell 5, L_a1.out.cell 6, L_a1.out.cell 7⟩
  go_region_held3 (fun w' => w'.cell? ⟨w.heap.size, 0, none⟩ = some (.int .i64 st0) ∧ w'.cell? ⟨w.heap.size, 1, none⟩ = some (.int .i64 dd0) ∧ w'.cell? ⟨w.heap.size, 2, none⟩ = some (.slice A0 n0 c0) ∧ w'.cell? ⟨w.heap.size, 3, none⟩ = some (.slice B0 m0 e0) ∧ w'.cell? ⟨w.heap.size, 4, none⟩ = some (.slice C0 l0 f0) ∧ w'.cell? ⟨w.heap.size, 5, none⟩ = some (.int .i64 rt0) ∧ w'.cell? ⟨w.heap.size, 6, none⟩ = some (.int .i64 rn0) ∧ w'.cell? ⟨w.heap.size, 7, none⟩ = some (.int .i64 ct0) ∧ w'.cell? ⟨w.heap.size + 1, 0, none⟩ = some (.int .i64 st1) ∧ w'.cell? ⟨w.heap.size + 1, 1, none⟩ = some (.int .i64 dd1) ∧ w'.cell? ⟨w.heap.size + 1, 2, none⟩ = some (.slice A1 n1 c1) ∧ w'.cell? ⟨w.heap.size + 1, 3, none⟩ = some (.slice B1 m1 e1) ∧ w'.cell? ⟨w.heap.size + 1, 4, none⟩ = some (.slice C1 l1 f1) ∧ w'.cell? ⟨w.heap.size + 1, 5, none⟩ = some (.int .i64 rt1) ∧ w'.cell? ⟨w.heap.size + 1, 6, none⟩ = some (.int .i64 rn1) ∧ w'.cell? ⟨w.heap.size + 1, 7, none⟩ = some (.int .i64 ct1))
    (first | (simp [go_sem, k_0]; done) | with_reducible exact k_1 | with_reducible exact k_2 | with_reducible exact k_3)
    (first
      | (go_at_call_of 6 (Value.agg #[.int .i64 st0, .int .i64 dd0, .slice A0 n0 c0, .slice B0 m0 e0, .slice C0 l0 f0, .int .i64 rt0, .int .i64 rn0, .int .i64 ct0]); refine (toTree_any _ _ _ _ _ _ _ _ _ _ _ _ _ _ ns0 fs0 rs0 _ (I_0.out.kept B.out.drew) HS0.out).mono ?_
         rintro e W3 ⟨g1s0, g2s0, g3s0, nss0, rss0, rfl, os0, vs0, us0, b3d⟩
         have b3 := below_drawn b3d
         have k_1 : W3.cell? ⟨w.heap.size, 0, none⟩ = some (.int .i64 st0) ∧ W3.cell? ⟨w.heap.size, 1, none⟩ = some (.int .i64 dd0) ∧ W3.cell? ⟨w.heap.size, 2, none⟩ = some (.slice A0 n0 c0) ∧ W3.cell? ⟨w.heap.size, 3, none⟩ = some (.slice B0 m0 e0) ∧ W3.cell? ⟨w.heap.size, 4, none⟩ = some (.slice C0 l0 f0) ∧ W3.cell? ⟨w.heap.size, 5, none⟩ = some (.int .i64 rt0) ∧ W3.cell? ⟨w.heap.size, 6, none⟩ = some (.int .i64 rn0) ∧ W3.cell? ⟨w.heap.size, 7, none⟩ = some (.int .i64 ct0) ∧ W3.cell? ⟨w.heap.size + 1, 0, none⟩ = some (.int .i64 st1) ∧ W3.cell? ⟨w.heap.size + 1, 1, none⟩ = some (.int .i64 dd1) ∧ W3.cell? ⟨w.heap.size + 1, 2, none⟩ = some (.slice A1 n1 c1) ∧ W3.cell? ⟨w.heap.size + 1, 3, none⟩ = some (.slice B1 m1 e1) ∧ W3.cell? ⟨w.heap.size + 1, 4, none⟩ = some (.slice C1 l1 f1) ∧ W3.cell? ⟨w.heap.size + 1, 5, none⟩ = some (.int .i64 rt1) ∧ W3.cell? ⟨w.heap.size + 1, 6, none⟩ = some (.int .i64 rn1) ∧ W3.cell? ⟨w.heap.size + 1, 7, none⟩ = some (.int .i64 ct1) := ⟨(L_a0.out.kept b3 L_a0.out.inside).cell 0, (L_a0.out.kept b3 L_a0.out.inside).cell 1, (L_a0.out.kept b3 L_a0.out.inside).cell 2, (L_a0.out.kept b3 L_a0.out.inside).cell 3, (L_a0.out.kept b3 L_a0.out.inside).cell 4, (L_a0.out.kept b3 L_a0.out.inside).cell 5, (L_a0.out.kept b3 L_a0.out.inside).cell 6, (L_a0.out.kept b3 L_a0.out.inside).cell 7, (L_a1.out.kept b3 L_a1.out.inside).cell 0, (L_a1.out.kept b3 L_a1.out.inside).cell 1, (L_a1.out.kept b3 L_a1.out.inside).cell 2, (L_a1.out.kept b3 L_a1.out.inside).cell 3, (L_a1.out.kept b3 L_a1.out.inside).cell 4, (L_a1.out.kept b3 L_a1.out.inside).cell 5, (L_a1.out.kept b3 L_a1.out.inside).cell 6, (L_a1.out.kept b3 L_a1.out.inside).cell 7⟩
         clear b3d)
      | (go_at_call_of 6 (Value.agg #[.int .i64 st1, .int .i64 dd1, .slice A1 n1 c1, .slice B1 m1 e1, .slice C1 l1 f1, .int .i64 rt1, .int .i64 rn1, .int .i64 ct1]); refine (toTree_any _ _ _ _ _ _ _ _ _ _ _ _ _ _ ns1 fs1 rs1 _ (I_1.out.kept (B.out.trans (b3.mono B.out.size))) HS1.out).mono ?_
         rintro e W4 ⟨g1s1, g2s1, g3s1, nss1, rss1, rfl, os1, vs1, us1, b4⟩
         have k_2 : W4.cell? ⟨w.heap.size, 0, none⟩ = some (.int .i64 st0) ∧ W4.cell? ⟨w.heap.size, 1, none⟩ = some (.int .i64 dd0) ∧ W4.cell? ⟨w.heap.size, 2, none⟩ = some (.slice A0 n0 c0) ∧ W4.cell? ⟨w.heap.size, 3, none⟩ = some (.slice B0 m0 e0) ∧ W4.cell? ⟨w.heap.size, 4, none⟩ = some (.slice C0 l0 f0) ∧ W4.cell? ⟨w.heap.size, 5, none⟩ = some (.int .i64 rt0) ∧ W4.cell? ⟨w.heap.size, 6, none⟩ = some (.int .i64 rn0) ∧ W4.cell? ⟨w.heap.size, 7, none⟩ = some (.int .i64 ct0) ∧ W4.cell? ⟨w.heap.size + 1, 0, none⟩ = some (.int .i64 st1) ∧ W4.cell? ⟨w.heap.size + 1, 1, none⟩ = some (.int .i64 dd1) ∧ W4.cell? ⟨w.heap.size + 1, 2, none⟩ = some (.slice A1 n1 c1) ∧ W4.cell? ⟨w.heap.size + 1, 3, none⟩ = some (.slice B1 m1 e1) ∧ W4.cell? ⟨w.heap.size + 1, 4, none⟩ = some (.slice C1 l1 f1) ∧ W4.cell? ⟨w.heap.size + 1, 5, none⟩ = some (.int .i64 rt1) ∧ W4.cell? ⟨w.heap.size + 1, 6, none⟩ = some (.int .i64 rn1) ∧ W4.cell? ⟨w.heap.size + 1, 7, none⟩ = some (.int .i64 ct1) := ⟨((L_a0.out.kept b3 L_a0.out.inside).kept b4 (L_a0.out.kept b3 L_a0.out.inside).inside).cell 0, ((L_a0.out.kept b3 L_a0.out.inside).kept b4 (L_a0.out.kept b3 L_a0.out.inside).inside).cell 1, ((L_a0.out.kept b3 L_a0.out.inside).kept b4 (L_a0.out.kept b3 L_a0.out.inside).inside).cell 2, ((L_a0.out.kept b3 L_a0.out.inside).kept b4 (L_a0.out.kept b3 L_a0.out.inside).inside).cell 3, ((L_a0.out.kept b3 L_a0.out.inside).kept b4 (L_a0.out.kept b3 L_a0.out.inside).inside).cell 4, ((L_a0.out.kept b3 L_a0.out.inside).kept b4 (L_a0.out.kept b3 L_a0.out.inside).inside).cell 5, ((L_a0.out.kept b3 L_a0.out.inside).kept b4 (L_a0.out.kept b3 L_a0.out.inside).inside).cell 6, ((L_a0.out.kept b3 L_a0.out.inside).kept b4 (L_a0.out.kept b3 L_a0.out.inside).inside).cell 7, ((L_a1.out.kept b3 L_a1.out.inside).kept b4 (L_a1.out.kept b3 L_a1.out.inside).inside).cell 0, ((L_a1.out.kept b3 L_a1.out.inside).kept b4 (L_a1.out.kept b3 L_a1.out.inside).inside).cell 1, ((L_a1.out.kept b3 L_a1.out.inside).kept b4 (L_a1.out.kept b3 L_a1.out.inside).inside).cell 2, ((L_a1.out.kept b3 L_a1.out.inside).kept b4 (L_a1.out.kept b3 L_a1.out.inside).inside).cell 3, ((L_a1.out.kept b3 L_a1.out.inside).kept b4 (L_a1.out.kept b3 L_a1.out.inside).inside).cell 4, ((L_a1.out.kept b3 L_a1.out.inside).kept b4 (L_a1.out.kept b3 L_a1.out.inside).inside).cell 5, ((L_a1.out.kept b3 L_a1.out.inside).kept b4 (L_a1.out.kept b3 L_a1.out.inside).inside).cell 6, ((L_a1.out.kept b3 L_a1.out.inside).kept b4 (L_a1.out.kept b3 L_a1.out.inside).inside).cell 7⟩)
      | (go_at_call 5; refine (specSameTrees_is val _ _ _ _ _ _ _ _ _ _ _ _ _ _ _ _ _ _ _ _ _ _ _ _ _ _ _ _ nss0 nss1 fs0 fs1 rss0 rss1 _ ((congrArg (sameT _ _ _ _ _ _ _ _) (sameA_congr vs0 vs1 us0 us1)).trans HV.out) ((os0.kept b4).arena HS0.out.s1 HS0.out.s2 HS0.out.s3) (os1.arena HS1.out.s1 HS1.out.s2 HS1.out.s3)).mono ?_
         rintro e W5 ⟨rfl, b5⟩
         have k_3 : W5.cell? ⟨w.heap.size, 0, none⟩ = some (.int .i64 st0) ∧ W5.cell? ⟨w.heap.size, 1, none⟩ = some (.int .i64 dd0) ∧ W5.cell? ⟨w.heap.size, 2, none⟩ = some (.slice A0 n0 c0) ∧ W5.cell? ⟨w.heap.size, 3, none⟩ = some (.slice B0 m0 e0) ∧ W5.cell? ⟨w.heap.size, 4, none⟩ = some (.slice C0 l0 f0) ∧ W5.cell? ⟨w.heap.size, 5, none⟩ = some (.int .i64 rt0) ∧ W5.cell? ⟨w.heap.size, 6, none⟩ = some (.int .i64 rn0) ∧ W5.cell? ⟨w.heap.size, 7, none⟩ = some (.int .i64 ct0) ∧ W5.cell? ⟨w.heap.size + 1, 0, none⟩ = some (.int .i64 st1) ∧ W5.cell? ⟨w.heap.size + 1, 1, none⟩ = some (.int .i64 dd1) ∧ W5.cell? ⟨w.heap.size + 1, 2, none⟩ = some (.slice A1 n1 c1) ∧ W5.cell? ⟨w.heap.size + 1, 3, none⟩ = some (.slice B1 m1 e1) ∧ W5.cell? ⟨w.heap.size + 1, 4, none⟩ = some (.slice C1 l1 f1) ∧ W5.cell? ⟨w.heap.size + 1, 5, none⟩ = some (.int .i64 rt1) ∧ W5.cell? ⟨w.heap.size + 1, 6, none⟩ = some (.int .i64 rn1) ∧ W5.cell? ⟨w.heap.size + 1, 7, none⟩ = some (.int .i64 ct1) := ⟨(((L_a0.out.kept b3 L_a0.out.inside).kept b4 (L_a0.out.kept b3 L_a0.out.inside).inside).kept b5 ((L_a0.out.kept b3 L_a0.out.inside).kept b4 (L_a0.out.kept b3 L_a0.out.inside).inside).inside).cell 0, (((L_a0.out.kept b3 L_a0.out.inside).kept b4 (L_a0.out.kept b3 L_a0.out.inside).inside).kept b5 ((L_a0.out.kept b3 L_a0.out.inside).kept b4 (L_a0.out.kept b3 L_a0.out.inside).inside).inside).cell 1, (((L_a0.out.kept b3 L_a0.out.inside).kept b4 (L_a0.out.kept b3 L_a0.out.inside).inside).kept b5 ((L_a0.out.kept b3 L_a0.out.inside).kept b4 (L_a0.out.kept b3 L_a0.out.inside).inside).inside).cell 2, (((L_a0.out.kept b3 L_a0.out.inside).kept b4 (L_a0.out.kept b3 L_a0.out.inside).inside).kept b5 ((L_a0.out.kept b3 L_a0.out.inside).kept b4 (L_a0.out.kept b3 L_a0.out.inside).inside).inside).cell 3, (((L_a0.out.kept b3 L_a0.out.inside).kept b4 (L_a0.out.kept b3 L_a0.out.inside).inside).kept b5 ((L_a0.out.kept b3 L_a0.out.inside).kept b4 (L_a0.out.kept b3 L_a0.out.inside).inside).inside).cell 4, (((L_a0.out.kept b3 L_a0.out.inside).kept b4 (L_a0.out.kept b3 L_a0.out.inside).inside).kept b5 ((L_a0.out.kept b3 L_a0.out.inside).kept b4 (L_a0.out.kept b3 L_a0.out.inside).inside).inside).cell 5, (((L_a0.out.kept b3 L_a0.out.inside).kept b4 (L_a0.out.kept b3 L_a0.out.inside).inside).kept b5 ((L_a0.out.kept b3 L_a0.out.inside).kept b4 (L_a0.out.kept b3 L_a0.out.inside).inside).inside).cell 6, (((L_a0.out.kept b3 L_a0.out.inside).kept b4 (L_a0.out.kept b3 L_a0.out.inside).inside).kept b5 ((L_a0.out.kept b3 L_a0.out.inside).kept b4 (L_a0.out.kept b3 L_a0.out.inside).inside).inside).cell 7, (((L_a1.out.kept b3 L_a1.out.inside).kept b4 (L_a1.out.kept b3 L_a1.out.inside).inside).kept b5 ((L_a1.out.kept b3 L_a1.out.inside).kept b4 (L_a1.out.kept b3 L_a1.out.inside).inside).inside).cell 0, (((L_a1.out.kept b3 L_a1.out.inside).kept b4 (L_a1.out.kept b3 L_a1.out.inside).inside).kept b5 ((L_a1.out.kept b3 L_a1.out.inside).kept b4 (L_a1.out.kept b3 L_a1.out.inside).inside).inside).cell 1, (((L_a1.out.kept b3 L_a1.out.inside).kept b4 (L_a1.out.kept b3 L_a1.out.inside).inside).kept b5 ((L_a1.out.kept b3 L_a1.out.inside).kept b4 (L_a1.out.kept b3 L_a1.out.inside).inside).inside).cell 2, (((L_a1.out.kept b3 L_a1.out.inside).kept b4 (L_a1.out.kept b3 L_a1.out.inside).inside).kept b5 ((L_a1.out.kept b3 L_a1.out.inside).kept b4 (L_a1.out.kept b3 L_a1.out.inside).inside).inside).cell 3, (((L_a1.out.kept b3 L_a1.out.inside).kept b4 (L_a1.out.kept b3 L_a1.out.inside).inside).kept b5 ((L_a1.out.kept b3 L_a1.out.inside).kept b4 (L_a1.out.kept b3 L_a1.out.inside).inside).inside).cell 4, (((L_a1.out.kept b3 L_a1.out.inside).kept b4 (L_a1.out.kept b3 L_a1.out.inside).inside).kept b5 ((L_a1.out.kept b3 L_a1.out.inside).kept b4 (L_a1.out.kept b3 L_a1.out.inside).inside).inside).cell 5, (((L_a1.out.kept b3 L_a1.out.inside).kept b4 (L_a1.out.kept b3 L_a1.out.inside).inside).kept b5 ((L_a1.out.kept b3 L_a1.out.inside).kept b4 (L_a1.out.kept b3 L_a1.out.inside).inside).inside).cell 6, (((L_a1.out.kept b3 L_a1.out.inside).kept b4 (L_a1.out.kept b3 L_a1.out.inside).inside).kept b5 ((L_a1.out.kept b3 L_a1.out.inside).kept b4 (L_a1.out.kept b3 L_a1.out.inside).inside).inside).cell 7⟩))
  clear k_0 k_1 k_2 k_3
  replace L_a0 := Lib.hid (L_a0.out.kept b3 L_a0.out.inside)
  replace L_a1 := Lib.hid (L_a1.out.kept b3 L_a1.out.inside)
  replace B := Lib.hid (B.out.trans (b3.mono B.out.size))
  clear b3
  have O_s0 := Lib.hid os0
  clear os0
  replace L_a0 := Lib.hid (L_a0.out.kept b4 L_a0.out.inside)
  replace L_a1 := Lib.hid (L_a1.out.kept b4 L_a1.out.inside)
  replace O_s0 := Lib.hid (O_s0.out.kept b4)
  replace B := Lib.hid (B.out.trans (b4.mono B.out.size))
  clear b4
  have O_s1 := Lib.hid os1
  clear os1
  replace L_a0 := Lib.hid (L_a0.out.kept b5 L_a0.out.inside)
  replace L_a1 := Lib.hid (L_a1.out.kept b5 L_a1.out.inside)
  replace O_s0 := Lib.hid (O_s0.out.kept b5)
  replace O_s1 := Lib.hid (O_s1.out.kept b5)
  replace B := Lib.hid (B.out.trans (b5.mono B.out.size))
  clear b5
  have V_s0 := Lib.hid vs0
  have U_s0 := Lib.hid us0
  clear vs0 us0
  clear O_s0 V_s0 U_s0
  have V_s1 := Lib.hid vs1
  have U_s1 := Lib.hid us1
  clear vs1 us1
  clear O_s1 V_s1 U_s1
  have c_a00 : W5.cell? ⟨w.heap.size, 0, none⟩ = some (.int .i64 st0) := L_a0.out.cell 0
  have c_a01 : W5.cell? ⟨w.heap.size, 1, none⟩ = some (.int .i64 dd0) := L_a0.out.cell 1
  have c_a02 : W5.cell? ⟨w.heap.size, 2, none⟩ = some (.slice A0 n0 c0) := L_a0.out.cell 2
  have c_a03 : W5.cell? ⟨w.heap.size, 3, none⟩ = some (.slice B0 m0 e0) := L_a0.out.cell 3
  have c_a04 : W5.cell? ⟨w.heap.size, 4, none⟩ = some (.slice C0 l0 f0) := L_a0.out.cell 4
  have c_a05 : W5.cell? ⟨w.heap.size, 5, none⟩ = some (.int .i64 rt0) := L_a0.out.cell 5
  have c_a06 : W5.cell? ⟨w.heap.size, 6, none⟩ = some (.int .i64 rn0) := L_a0.out.cell 6
  have c_a07 : W5.cell? ⟨w.heap.size, 7, none⟩ = some (.int .i64 ct0) := L_a0.out.cell 7
  go_wp2_with fail
  clear c_a00 c_a01 c_a02 c_a03 c_a04 c_a05 c_a06 c_a07
  refine (toTree_any _ _ _ _ _ _ _ _ _ _ _ _ _ _ ns0 fs0 rs0 _ (I_0.out.kept B.out) HS0.out).mono ?_
  rintro e W6 ⟨g1t0, g2t0, g3t0, nst0, rst0, rfl, ot0, vt0, ut0, b6⟩
  replace L_a0 := Lib.hid (L_a0.out.kept b6 L_a0.out.inside)
  replace L_a1 := Lib.hid (L_a1.out.kept b6 L_a1.out.inside)
  replace B := Lib.hid (B.out.trans (b6.mono B.out.size))
  clear b6
  have O_t0 := Lib.hid ot0
  clear ot0
  have V_t0 := Lib.hid vt0
  have U_t0 := Lib.hid ut0
  clear vt0 ut0
  replace L_a0 := Lib.hid (L_a0.out.alloc (.cells #[.int .i64 st0, .int .i64 dd0, .slice (some ⟨g1t0, 0, none⟩) n0 n0, .slice (some ⟨g2t0, 0, none⟩) m0 m0, .slice (some ⟨g3t0, 0, none⟩) l0 l0, .int .i64 rt0, .int .i64 rn0, .int .i64 ct0] 36))
  replace L_a1 := Lib.hid (L_a1.out.alloc (.cells #[.int .i64 st0, .int .i64 dd0, .slice (some ⟨g1t0, 0, none⟩) n0 n0, .slice (some ⟨g2t0, 0, none⟩) m0 m0, .slice (some ⟨g3t0, 0, none⟩) l0 l0, .int .i64 rt0, .int .i64 rn0, .int .i64 ct0] 36))
  replace O_t0 := Lib.hid (O_t0.out.kept (below_alloc _ (.cells #[.int .i64 st0, .int .i64 dd0, .slice (some ⟨g1t0, 0, none⟩) n0 n0, .slice (some ⟨g2t0, 0, none⟩) m0 m0, .slice (some ⟨g3t0, 0, none⟩) l0 l0, .int .i64 rt0, .int .i64 rn0, .int .i64 ct0] 36)))
  have L_x0 := Lib.hid (Lies.new W6 36 #[.int .i64 st0, .int .i64 dd0, .slice (some ⟨g1t0, 0, none⟩) n0 n0, .slice (some ⟨g2t0, 0, none⟩) m0 m0, .slice (some ⟨g3t0, 0, none⟩) l0 l0, .int .i64 rt0, .int .i64 rn0, .int .i64 ct0])
  replace B := Lib.hid (B.out.alloc B.out.size (.cells #[.int .i64 st0, .int .i64 dd0, .slice (some ⟨g1t0, 0, none⟩) n0 n0, .slice (some ⟨g2t0, 0, none⟩) m0 m0, .slice (some ⟨g3t0, 0, none⟩) l0 l0, .int .i64 rt0, .int .i64 rn0, .int .i64 ct0] 36))
  have c_a10 : (W6.alloc (.cells #[.int .i64 st0, .int .i64 dd0, .slice (some ⟨g1t0, 0, none⟩) n0 n0, .slice (some ⟨g2t0, 0, none⟩) m0 m0, .slice (some ⟨g3t0, 0, none⟩) l0 l0, .int .i64 rt0, .int .i64 rn0, .int .i64 ct0] 36)).cell? ⟨w.heap.size + 1, 0, none⟩ = some (.int .i64 st1) := L_a1.out.cell 0
  have c_a11 : (W6.alloc (.cells #[.int .i64 st0, .int .i64 dd0, .slice (some ⟨g1t0, 0, none⟩) n0 n0, .slice (some ⟨g2t0, 0, none⟩) m0 m0, .slice (some ⟨g3t0, 0, none⟩) l0 l0, .int .i64 rt0, .int .i64 rn0, .int .i64 ct0] 36)).cell? ⟨w.heap.size + 1, 1, none⟩ = some (.int .i64 dd1) := L_a1.out.cell 1
  have c_a12 : (W6.alloc (.cells #[.int .i64 st0, .int .i64 dd0, .slice (some ⟨g1t0, 0, none⟩) n0 n0, .slice (some ⟨g2t0, 0, none⟩) m0 m0, .slice (some ⟨g3t0, 0, none⟩) l0 l0, .int .i64 rt0, .int .i64 rn0, .int .i64 ct0] 36)).cell? ⟨w.heap.size + 1, 2, none⟩ = some (.slice A1 n1 c1) := L_a1.out.cell 2
  have c_a13 : (W6.alloc (.cells #[.int .i64 st0, .int .i64 dd0, .slice (some ⟨g1t0, 0, none⟩) n0 n0, .slice (some ⟨g2t0, 0, none⟩) m0 m0, .slice (some ⟨g3t0, 0, none⟩) l0 l0, .int .i64 rt0, .int .i64 rn0, .int .i64 ct0] 36)).cell? ⟨w.heap.size + 1, 3, none⟩ = some (.slice B1 m1 e1) := L_a1.out.cell 3
  have c_a14 : (W6.alloc (.cells #[.int .i64 st0, .int .i64 dd0, .slice (some ⟨g1t0, 0, none⟩) n0 n0, .slice (some ⟨g2t0, 0, none⟩) m0 m0, .slice (some ⟨g3t0, 0, none⟩) l0 l0, .int .i64 rt0, .int .i64 rn0, .int .i64 ct0] 36)).cell? ⟨w.heap.size + 1, 4, none⟩ = some (.slice C1 l1 f1) := L_a1.out.cell 4
  have c_a15 : (W6.alloc (.cells #[.int .i64 st0, .int .i64 dd0, .slice (some ⟨g1t0, 0, none⟩) n0 n0, .slice (some ⟨g2t0, 0, none⟩) m0 m0, .slice (some ⟨g3t0, 0, none⟩) l0 l0, .int .i64 rt0, .int .i64 rn0, .int .i64 ct0] 36)).cell? ⟨w.heap.size + 1, 5, none⟩ = some (.int .i64 rt1) := L_a1.out.cell 5
  have c_a16 : (W6.alloc (.cells #[.int .i64 st0, .int .i64 dd0, .slice (some ⟨g1t0, 0, none⟩) n0 n0, .slice (some ⟨g2t0, 0, none⟩) m0 m0, .slice (some ⟨g3t0, 0, none⟩) l0 l0, .int .i64 rt0, .int .i64 rn0, .int .i64 ct0] 36)).cell? ⟨w.heap.size + 1, 6, none⟩ = some (.int .i64 rn1) := L_a1.out.cell 6
  have c_a17 : (W6.alloc (.cells #[.int .i64 st0, .int .i64 dd0, .slice (some ⟨g1t0, 0, none⟩) n0 n0, .slice (some ⟨g2t0, 0, none⟩) m0 m0, .slice (some ⟨g3t0, 0, none⟩) l0 l0, .int .i64 rt0, .int .i64 rn0, .int .i64 ct0] 36)).cell? ⟨w.heap.size + 1, 7, none⟩ = some (.int .i64 ct1) := L_a1.out.cell 7
  go_wp2_with fail
  clear c_a10 c_a11 c_a12 c_a13 c_a14 c_a15 c_a16 c_a17
  refine (toTree_any _ _ _ _ _ _ _ _ _ _ _ _ _ _ ns1 fs1 rs1 _ (I_1.out.kept B.out) HS1.out).mono ?_
  rintro e W7 ⟨g1t1, g2t1, g3t1, nst1, rst1, rfl, ot1, vt1, ut1, b7⟩
  replace L_a0 := Lib.hid (L_a0.out.kept b7 L_a0.out.inside)
  replace L_a1 := Lib.hid (L_a1.out.kept b7 L_a1.out.inside)
  replace L_x0 := Lib.hid (L_x0.out.kept b7 L_x0.out.inside)
  replace O_t0 := Lib.hid (O_t0.out.kept b7)
  replace B := Lib.hid (B.out.trans (b7.mono B.out.size))
  clear b7
  have O_t1 := Lib.hid ot1
  clear ot1
  have V_t1 := Lib.hid vt1
  have U_t1 := Lib.hid ut1
  clear vt1 ut1
  replace L_a0 := Lib.hid (L_a0.out.alloc (.cells #[.int .i64 st1, .int .i64 dd1, .slice (some ⟨g1t1, 0, none⟩) n1 n1, .slice (some ⟨g2t1, 0, none⟩) m1 m1, .slice (some ⟨g3t1, 0, none⟩) l1 l1, .int .i64 rt1, .int .i64 rn1, .int .i64 ct1] 36))
  replace L_a1 := Lib.hid (L_a1.out.alloc (.cells #[.int .i64 st1, .int .i64 dd1, .slice (some ⟨g1t1, 0, none⟩) n1 n1, .slice (some ⟨g2t1, 0, none⟩) m1 m1, .slice (some ⟨g3t1, 0, none⟩) l1 l1, .int .i64 rt1, .int .i64 rn1, .int .i64 ct1] 36))
  replace L_x0 := Lib.hid (L_x0.out.alloc (.cells #[.int .i64 st1, .int .i64 dd1, .slice (some ⟨g1t1, 0, none⟩) n1 n1, .slice (some ⟨g2t1, 0, none⟩) m1 m1, .slice (some ⟨g3t1, 0, none⟩) l1 l1, .int .i64 rt1, .int .i64 rn1, .int .i64 ct1] 36))
  replace O_t0 := Lib.hid (O_t0.out.kept (below_alloc _ (.cells #[.int .i64 st1, .int .i64 dd1, .slice (some ⟨g1t1, 0, none⟩) n1 n1, .slice (some ⟨g2t1, 0, none⟩) m1 m1, .slice (some ⟨g3t1, 0, none⟩) l1 l1, .int .i64 rt1, .int .i64 rn1, .int .i64 ct1] 36)))
  replace O_t1 := Lib.hid (O_t1.out.kept (below_alloc _ (.cells #[.int .i64 st1, .int .i64 dd1, .slice (some ⟨g1t1, 0, none⟩) n1 n1, .slice (some ⟨g2t1, 0, none⟩) m1 m1, .slice (some ⟨g3t1, 0, none⟩) l1 l1, .int .i64 rt1, .int .i64 rn1, .int .i64 ct1] 36)))
  have L_x1 := Lib.hid (Lies.new W7 36 #[.int .i64 st1, .int .i64 dd1, .slice (some ⟨g1t1, 0, none⟩) n1 n1, .slice (some ⟨g2t1, 0, none⟩) m1 m1, .slice (some ⟨g3t1, 0, none⟩) l1 l1, .int .i64 rt1, .int .i64 rn1, .int .i64 ct1])
  replace B := Lib.hid (B.out.alloc B.out.size (.cells #[.int .i64 st1, .int .i64 dd1, .slice (some ⟨g1t1, 0, none⟩) n1 n1, .slice (some ⟨g2t1, 0, none⟩) m1 m1, .slice (some ⟨g3t1, 0, none⟩) l1 l1, .int .i64 rt1, .int .i64 rn1, .int .i64 ct1] 36))
  have c_x00 : (W7.alloc (.cells #[.int .i64 st1, .int .i64 dd1, .slice (some ⟨g1t1, 0, none⟩) n1 n1, .slice (some ⟨g2t1, 0, none⟩) m1 m1, .slice (some ⟨g3t1, 0, none⟩) l1 l1, .int .i64 rt1, .int .i64 rn1, .int .i64 ct1] 36)).cell? ⟨W6.heap.size, 0, none⟩ = some (.int .i64 st0) := L_x0.out.cell 0
  have c_x01 : (W7.alloc (.cells #[.int .i64 st1, .int .i64 dd1, .slice (some ⟨g1t1, 0, none⟩) n1 n1, .slice (some ⟨g2t1, 0, none⟩) m1 m1, .slice (some ⟨g3t1, 0, none⟩) l1 l1, .int .i64 rt1, .int .i64 rn1, .int .i64 ct1] 36)).cell? ⟨W6.heap.size, 1, none⟩ = some (.int .i64 dd0) := L_x0.out.cell 1
  have c_x02 : (W7.alloc (.cells #[.int .i64 st1, .int .i64 dd1, .slice (some ⟨g1t1, 0, none⟩) n1 n1, .slice (some ⟨g2t1, 0, none⟩) m1 m1, .slice (some ⟨g3t1, 0, none⟩) l1 l1, .int .i64 rt1, .int .i64 rn1, .int .i64 ct1] 36)).cell? ⟨W6.heap.size, 2, none⟩ = some (.slice (some ⟨g1t0, 0, none⟩) n0 n0) := L_x0.out.cell 2
  have c_x03 : (W7.alloc (.cells #[.int .i64 st1, .int .i64 dd1, .slice (some ⟨g1t1, 0, none⟩) n1 n1, .slice (some ⟨g2t1, 0, none⟩) m1 m1, .slice (some ⟨g3t1, 0, none⟩) l1 l1, .int .i64 rt1, .int .i64 rn1, .int .i64 ct1] 36)).cell? ⟨W6.heap.size, 3, none⟩ = some (.slice (some ⟨g2t0, 0, none⟩) m0 m0) := L_x0.out.cell 3
  have c_x04 : (W7.alloc (.cells #[.int .i64 st1, .int .i64 dd1, .slice (some ⟨g1t1, 0, none⟩) n1 n1, .slice (some ⟨g2t1, 0, none⟩) m1 m1, .slice (some ⟨g3t1, 0, none⟩) l1 l1, .int .i64 rt1, .int .i64 rn1, .int .i64 ct1] 36)).cell? ⟨W6.heap.size, 4, none⟩ = some (.slice (some ⟨g3t0, 0, none⟩) l0 l0) := L_x0.out.cell 4
  have c_x05 : (W7.alloc (.cells #[.int .i64 st1, .int .i64 dd1, .slice (some ⟨g1t1, 0, none⟩) n1 n1, .slice (some ⟨g2t1, 0, none⟩) m1 m1, .slice (some ⟨g3t1, 0, none⟩) l1 l1, .int .i64 rt1, .int .i64 rn1, .int .i64 ct1] 36)).cell? ⟨W6.heap.size, 5, none⟩ = some (.int .i64 rt0) := L_x0.out.cell 5
  have c_x06 : (W7.alloc (.cells #[.int .i64 st1, .int .i64 dd1, .slice (some ⟨g1t1, 0, none⟩) n1 n1, .slice (some ⟨g2t1, 0, none⟩) m1 m1, .slice (some ⟨g3t1, 0, none⟩) l1 l1, .int .i64 rt1, .int .i64 rn1, .int .i64 ct1] 36)).cell? ⟨W6.heap.size, 6, none⟩ = some (.int .i64 rn0) := L_x0.out.cell 6
  have c_x07 : (W7.alloc (.cells #[.int .i64 st1, .int .i64 dd1, .slice (some ⟨g1t1, 0, none⟩) n1 n1, .slice (some ⟨g2t1, 0, none⟩) m1 m1, .slice (some ⟨g3t1, 0, none⟩) l1 l1, .int .i64 rt1, .int .i64 rn1, .int .i64 ct1] 36)).cell? ⟨W6.heap.size, 7, none⟩ = some (.int .i64 ct0) := L_x0.out.cell 7
  go_wp2_with fail
  clear c_x00 c_x01 c_x02 c_x03 c_x04 c_x05 c_x06 c_x07
  refine (implSameTrees_is val _ _ _ _ _ _ _ _ _ _ _ _ _ _ _ _ _ _ _ _ _ _ _ _ _ _ _ _ nst0 nst1 fs0 fs1 rst0 rst1 _ ((congrArg (sameT _ _ _ _ _ _ _ _) (sameA_congr V_t0.out V_t1.out U_t0.out U_t1.out)).trans HV.out) (O_t0.out.arena HS0.out.s1 HS0.out.s2 HS0.out.s3) (O_t1.out.arena HS1.out.s1 HS1.out.s2 HS1.out.s3)).mono ?_
  rintro e W8 ⟨rfl, b8⟩
  replace L_a0 := Lib.hid (L_a0.out.kept b8 L_a0.out.inside)
  replace L_a1 := Lib.hid (L_a1.out.kept b8 L_a1.out.inside)
  replace L_x0 := Lib.hid (L_x0.out.kept b8 L_x0.out.inside)
  replace L_x1 := Lib.hid (L_x1.out.kept b8 L_x1.out.inside)
  replace O_t0 := Lib.hid (O_t0.out.kept b8)
  replace O_t1 := Lib.hid (O_t1.out.kept b8)
  replace B := Lib.hid (B.out.trans (b8.mono B.out.size))
  clear b8
  have hpv : (val != val) = false := by cases val <;> rfl
  go_wp2_with fail
  have k_0 : W8.cell? ⟨W6.heap.size, 0, none⟩ = some (.int .i64 st0) ∧ W8.cell? ⟨W6.heap.size, 1, none⟩ = some (.int .i64 dd0) ∧ W8.cell? ⟨W6.heap.size, 2, none⟩ = some (.slice (some ⟨g1t0, 0, none⟩) n0 n0) ∧ W8.cell? ⟨W6.heap.size, 3, none⟩ = some (.slice (some ⟨g2t0, 0, none⟩) m0 m0) ∧ W8.cell? ⟨W6.heap.size, 4, none⟩ = some (.slice (some ⟨g3t0, 0, none⟩) l0 l0) ∧ W8.cell? ⟨W6.heap.size, 5, none⟩ = some (.int .i64 rt0) ∧ W8.cell? ⟨W6.heap.size, 6, none⟩ = some (.int .i64 rn0) ∧ W8.cell? ⟨W6.heap.size, 7, none⟩ = some (.int .i64 ct0) ∧ W8.cell? ⟨w.heap.size, 0, none⟩ = some (.int .i64 st0) ∧ W8.cell? ⟨w.heap.size, 1, none⟩ = some (.int .i64 dd0) ∧ W8.cell? ⟨w.heap.size, 2, none⟩ = some (.slice A0 n0 c0) ∧ W8.cell? ⟨w.heap.size, 3, none⟩ = some (.slice B0 m0 e0) ∧ W8.cell? ⟨w.heap.size, 4, none⟩ = some (.slice C0 l0 f0) ∧ W8.cell? ⟨w.heap.size, 5, none⟩ = some (.int .i64 rt0) ∧ W8.cell? ⟨w.heap.size, 6, none⟩ = some (.int .i64 rn0) ∧ W8.cell? ⟨w.heap.size, 7, none⟩ = some (.int .i64 ct0) := ⟨L_x0.out.cell 0, L_x0.out.cell 1, L_x0.out.cell 2, L_x0.out.cell 3, L_x0.out.cell 4, L_x0.out.cell 5, L_x0.out.cell 6, L_x0.out.cell 7, L_a0.out.cell 0, L_a0.out.cell 1, L_a0.out.cell 2, L_a0.out.cell 3, L_a0.out.cell 4, L_a0.out.cell 5, L_a0.out.cell 6, L_a0.out.cell 7⟩
  go_region_held3 (fun w' => w'.cell? ⟨W6.heap.size, 0, none⟩ = some (.int .i64 st0) ∧ w'.cell? ⟨W6.heap.size, 1, none⟩ = some (.int .i64 dd0) ∧ w'.cell? ⟨W6.heap.size, 2, none⟩ = some (.slice (some ⟨g1t0, 0, none⟩) n0 n0) ∧ w'.cell? ⟨W6.heap.size, 3, none⟩ = some (.slice (some ⟨g2t0, 0, none⟩) m0 m0) ∧ w'.cell? ⟨W6.heap.size, 4, none⟩ = some (.slice (some ⟨g3t0, 0, none⟩) l0 l0) ∧ w'.cell? ⟨W6.heap.size, 5, none⟩ = some (.int .i64 rt0) ∧ w'.cell? ⟨W6.heap.size, 6, none⟩ = some (.int .i64 rn0) ∧ w'.cell? ⟨W6.heap.size, 7, none⟩ = some (.int .i64 ct0) ∧ w'.cell? ⟨w.heap.size, 0, none⟩ = some (.int .i64 st0) ∧ w'.cell? ⟨w.heap.size, 1, none⟩ = some (.int .i64 dd0) ∧ w'.cell? ⟨w.heap.size, 2, none⟩ = some (.slice A0 n0 c0) ∧ w'.cell? ⟨w.heap.size, 3, none⟩ = some (.slice B0 m0 e0) ∧ w'.cell? ⟨w.heap.size, 4, none⟩ = some (.slice C0 l0 f0) ∧ w'.cell? ⟨w.heap.size, 5, none⟩ = some (.int .i64 rt0) ∧ w'.cell? ⟨w.heap.size, 6, none⟩ = some (.int .i64 rn0) ∧ w'.cell? ⟨w.heap.size, 7, none⟩ = some (.int .i64 ct0))
    (first | (simp [go_sem, k_0]; done) | with_reducible exact k_1 | with_reducible exact k_2)
    (first
      | (go_at_call 6; refine (toTree_any _ _ _ _ _ _ _ _ _ _ _ _ _ _ ns0 fs0 rs0 _ (I_0.out.kept B.out.drew) HS0.out).mono ?_
         rintro e W9 ⟨g1u0, g2u0, g3u0, nsu0, rsu0, rfl, ou0, vu0, uu0, b9d⟩
         have b9 := below_drawn b9d
         have k_1 : W9.cell? ⟨W6.heap.size, 0, none⟩ = some (.int .i64 st0) ∧ W9.cell? ⟨W6.heap.size, 1, none⟩ = some (.int .i64 dd0) ∧ W9.cell? ⟨W6.heap.size, 2, none⟩ = some (.slice (some ⟨g1t0, 0, none⟩) n0 n0) ∧ W9.cell? ⟨W6.heap.size, 3, none⟩ = some (.slice (some ⟨g2t0, 0, none⟩) m0 m0) ∧ W9.cell? ⟨W6.heap.size, 4, none⟩ = some (.slice (some ⟨g3t0, 0, none⟩) l0 l0) ∧ W9.cell? ⟨W6.heap.size, 5, none⟩ = some (.int .i64 rt0) ∧ W9.cell? ⟨W6.heap.size, 6, none⟩ = some (.int .i64 rn0) ∧ W9.cell? ⟨W6.heap.size, 7, none⟩ = some (.int .i64 ct0) ∧ W9.cell? ⟨w.heap.size, 0, none⟩ = some (.int .i64 st0) ∧ W9.cell? ⟨w.heap.size, 1, none⟩ = some (.int .i64 dd0) ∧ W9.cell? ⟨w.heap.size, 2, none⟩ = some (.slice A0 n0 c0) ∧ W9.cell? ⟨w.heap.size, 3, none⟩ = some (.slice B0 m0 e0) ∧ W9.cell? ⟨w.heap.size, 4, none⟩ = some (.slice C0 l0 f0) ∧ W9.cell? ⟨w.heap.size, 5, none⟩ = some (.int .i64 rt0) ∧ W9.cell? ⟨w.heap.size, 6, none⟩ = some (.int .i64 rn0) ∧ W9.cell? ⟨w.heap.size, 7, none⟩ = some (.int .i64 ct0) := ⟨(L_x0.out.kept b9 L_x0.out.inside).cell 0, (L_x0.out.kept b9 L_x0.out.inside).cell 1, (L_x0.out.kept b9 L_x0.out.inside).cell 2, (L_x0.out.kept b9 L_x0.out.inside).cell 3, (L_x0.out.kept b9 L_x0.out.inside).cell 4, (L_x0.out.kept b9 L_x0.out.inside).cell 5, (L_x0.out.kept b9 L_x0.out.inside).cell 6, (L_x0.out.kept b9 L_x0.out.inside).cell 7, (L_a0.out.kept b9 L_a0.out.inside).cell 0, (L_a0.out.kept b9 L_a0.out.inside).cell 1, (L_a0.out.kept b9 L_a0.out.inside).cell 2, (L_a0.out.kept b9 L_a0.out.inside).cell 3, (L_a0.out.kept b9 L_a0.out.inside).cell 4, (L_a0.out.kept b9 L_a0.out.inside).cell 5, (L_a0.out.kept b9 L_a0.out.inside).cell 6, (L_a0.out.kept b9 L_a0.out.inside).cell 7⟩
         clear b9d)
      | (go_at_call 8; refine (eqTree_same _ _ _ _ _ _ _ _ _ _ _ nsu0 rsu0 _ _ _ _ _ _ _ _ _ nst0 fs0 rst0 _ ((O_t0.out.kept b9).arena HS0.out.s1 HS0.out.s2 HS0.out.s3) (ou0.arena HS0.out.s1 HS0.out.s2 HS0.out.s3) (V_t0.out.trans vu0.symm) (U_t0.out.trans uu0.symm)).mono ?_
         rintro e W10 ⟨rfl, b10⟩
         have k_2 : W10.cell? ⟨W6.heap.size, 0, none⟩ = some (.int .i64 st0) ∧ W10.cell? ⟨W6.heap.size, 1, none⟩ = some (.int .i64 dd0) ∧ W10.cell? ⟨W6.heap.size, 2, none⟩ = some (.slice (some ⟨g1t0, 0, none⟩) n0 n0) ∧ W10.cell? ⟨W6.heap.size, 3, none⟩ = some (.slice (some ⟨g2t0, 0, none⟩) m0 m0) ∧ W10.cell? ⟨W6.heap.size, 4, none⟩ = some (.slice (some ⟨g3t0, 0, none⟩) l0 l0) ∧ W10.cell? ⟨W6.heap.size, 5, none⟩ = some (.int .i64 rt0) ∧ W10.cell? ⟨W6.heap.size, 6, none⟩ = some (.int .i64 rn0) ∧ W10.cell? ⟨W6.heap.size, 7, none⟩ = some (.int .i64 ct0) ∧ W10.cell? ⟨w.heap.size, 0, none⟩ = some (.int .i64 st0) ∧ W10.cell? ⟨w.heap.size, 1, none⟩ = some (.int .i64 dd0) ∧ W10.cell? ⟨w.heap.size, 2, none⟩ = some (.slice A0 n0 c0) ∧ W10.cell? ⟨w.heap.size, 3, none⟩ = some (.slice B0 m0 e0) ∧ W10.cell? ⟨w.heap.size, 4, none⟩ = some (.slice C0 l0 f0) ∧ W10.cell? ⟨w.heap.size, 5, none⟩ = some (.int .i64 rt0) ∧ W10.cell? ⟨w.heap.size, 6, none⟩ = some (.int .i64 rn0) ∧ W10.cell? ⟨w.heap.size, 7, none⟩ = some (.int .i64 ct0) := ⟨((L_x0.out.kept b9 L_x0.out.inside).kept b10 (L_x0.out.kept b9 L_x0.out.inside).inside).cell 0, ((L_x0.out.kept b9 L_x0.out.inside).kept b10 (L_x0.out.kept b9 L_x0.out.inside).inside).cell 1, ((L_x0.out.kept b9 L_x0.out.inside).kept b10 (L_x0.out.kept b9 L_x0.out.inside).inside).cell 2, ((L_x0.out.kept b9 L_x0.out.inside).kept b10 (L_x0.out.kept b9 L_x0.out.inside).inside).cell 3, ((L_x0.out.kept b9 L_x0.out.inside).kept b10 (L_x0.out.kept b9 L_x0.out.inside).inside).cell 4, ((L_x0.out.kept b9 L_x0.out.inside).kept b10 (L_x0.out.kept b9 L_x0.out.inside).inside).cell 5, ((L_x0.out.kept b9 L_x0.out.inside).kept b10 (L_x0.out.kept b9 L_x0.out.inside).inside).cell 6, ((L_x0.out.kept b9 L_x0.out.inside).kept b10 (L_x0.out.kept b9 L_x0.out.inside).inside).cell 7, ((L_a0.out.kept b9 L_a0.out.inside).kept b10 (L_a0.out.kept b9 L_a0.out.inside).inside).cell 0, ((L_a0.out.kept b9 L_a0.out.inside).kept b10 (L_a0.out.kept b9 L_a0.out.inside).inside).cell 1, ((L_a0.out.kept b9 L_a0.out.inside).kept b10 (L_a0.out.kept b9 L_a0.out.inside).inside).cell 2, ((L_a0.out.kept b9 L_a0.out.inside).kept b10 (L_a0.out.kept b9 L_a0.out.inside).inside).cell 3, ((L_a0.out.kept b9 L_a0.out.inside).kept b10 (L_a0.out.kept b9 L_a0.out.inside).inside).cell 4, ((L_a0.out.kept b9 L_a0.out.inside).kept b10 (L_a0.out.kept b9 L_a0.out.inside).inside).cell 5, ((L_a0.out.kept b9 L_a0.out.inside).kept b10 (L_a0.out.kept b9 L_a0.out.inside).inside).cell 6, ((L_a0.out.kept b9 L_a0.out.inside).kept b10 (L_a0.out.kept b9 L_a0.out.inside).inside).cell 7⟩))
  clear k_0 k_1 k_2
  replace L_a0 := Lib.hid (L_a0.out.kept b9 L_a0.out.inside)
  replace L_a1 := Lib.hid (L_a1.out.kept b9 L_a1.out.inside)
  replace L_x0 := Lib.hid (L_x0.out.kept b9 L_x0.out.inside)
  replace L_x1 := Lib.hid (L_x1.out.kept b9 L_x1.out.inside)
  replace O_t0 := Lib.hid (O_t0.out.kept b9)
  replace O_t1 := Lib.hid (O_t1.out.kept b9)
  replace B := Lib.hid (B.out.trans (b9.mono B.out.size))
  clear b9
  have O_u0 := Lib.hid ou0
  clear ou0
  replace L_a0 := Lib.hid (L_a0.out.kept b10 L_a0.out.inside)
  replace L_a1 := Lib.hid (L_a1.out.kept b10 L_a1.out.inside)
  replace L_x0 := Lib.hid (L_x0.out.kept b10 L_x0.out.inside)
  replace L_x1 := Lib.hid (L_x1.out.kept b10 L_x1.out.inside)
  replace O_t0 := Lib.hid (O_t0.out.kept b10)
  replace O_t1 := Lib.hid (O_t1.out.kept b10)
  replace O_u0 := Lib.hid (O_u0.out.kept b10)
  replace B := Lib.hid (B.out.trans (b10.mono B.out.size))
  clear b10
  have V_u0 := Lib.hid vu0
  have U_u0 := Lib.hid uu0
  clear vu0 uu0
  clear O_u0 V_u0 U_u0
  go_wp2_with fail
  have k_0 : W10.cell? ⟨W7.heap.size, 0, none⟩ = some (.int .i64 st1) ∧ W10.cell? ⟨W7.heap.size, 1, none⟩ = some (.int .i64 dd1) ∧ W10.cell? ⟨W7.heap.size, 2, none⟩ = some (.slice (some ⟨g1t1, 0, none⟩) n1 n1) ∧ W10.cell? ⟨W7.heap.size, 3, none⟩ = some (.slice (some ⟨g2t1, 0, none⟩) m1 m1) ∧ W10.cell? ⟨W7.heap.size, 4, none⟩ = some (.slice (some ⟨g3t1, 0, none⟩) l1 l1) ∧ W10.cell? ⟨W7.heap.size, 5, none⟩ = some (.int .i64 rt1) ∧ W10.cell? ⟨W7.heap.size, 6, none⟩ = some (.int .i64 rn1) ∧ W10.cell? ⟨W7.heap.size, 7, none⟩ = some (.int .i64 ct1) ∧ W10.cell? ⟨w.heap.size + 1, 0, none⟩ = some (.int .i64 st1) ∧ W10.cell? ⟨w.heap.size + 1, 1, none⟩ = some (.int .i64 dd1) ∧ W10.cell? ⟨w.heap.size + 1, 2, none⟩ = some (.slice A1 n1 c1) ∧ W10.cell? ⟨w.heap.size + 1, 3, none⟩ = some (.slice B1 m1 e1) ∧ W10.cell? ⟨w.heap.size + 1, 4, none⟩ = some (.slice C1 l1 f1) ∧ W10.cell? ⟨w.heap.size + 1, 5, none⟩ = some (.int .i64 rt1) ∧ W10.cell? ⟨w.heap.size + 1, 6, none⟩ = some (.int .i64 rn1) ∧ W10.cell? ⟨w.heap.size + 1, 7, none⟩ = some (.int .i64 ct1) := ⟨L_x1.out.cell 0, L_x1.out.cell 1, L_x1.out.cell 2, L_x1.out.cell 3, L_x1.out.cell 4, L_x1.out.cell 5, L_x1.out.cell 6, L_x1.out.cell 7, L_a1.out.cell 0, L_a1.out.cell 1, L_a1.out.cell 2, L_a1.out.cell 3, L_a1.out.cell 4, L_a1.out.cell 5, L_a1.out.cell 6, L_a1.out.cell 7⟩
  go_region_held3 (fun w' => w'.cell? ⟨W7.heap.size, 0, none⟩ = some (.int .i64 st1) ∧ w'.cell? ⟨W7.heap.size, 1, none⟩ = some (.int .i64 dd1) ∧ w'.cell? ⟨W7.heap.size, 2, none⟩ = some (.slice (some ⟨g1t1, 0, none⟩) n1 n1) ∧ w'.cell? ⟨W7.heap.size, 3, none⟩ = some (.slice (some ⟨g2t1, 0, none⟩) m1 m1) ∧ w'.cell? ⟨W7.heap.size, 4, none⟩ = some (.slice (some ⟨g3t1, 0, none⟩) l1 l1) ∧ w'.cell? ⟨W7.heap.size, 5, none⟩ = some (.int .i64 rt1) ∧ w'.cell? ⟨W7.heap.size, 6, none⟩ = some (.int .i64 rn1) ∧ w'.cell? ⟨W7.heap.size, 7, none⟩ = some (.int .i64 ct1) ∧ w'.cell? ⟨w.heap.size + 1, 0, none⟩ = some (.int .i64 st1) ∧ w'.cell? ⟨w.heap.size + 1, 1, none⟩ = some (.int .i64 dd1) ∧ w'.cell? ⟨w.heap.size + 1, 2, none⟩ = some (.slice A1 n1 c1) ∧ w'.cell? ⟨w.heap.size + 1, 3, none⟩ = some (.slice B1 m1 e1) ∧ w'.cell? ⟨w.heap.size + 1, 4, none⟩ = some (.slice C1 l1 f1) ∧ w'.cell? ⟨w.heap.size + 1, 5, none⟩ = some (.int .i64 rt1) ∧ w'.cell? ⟨w.heap.size + 1, 6, none⟩ = some (.int .i64 rn1) ∧ w'.cell? ⟨w.heap.size + 1, 7, none⟩ = some (.int .i64 ct1))
    (first | (simp [go_sem, k_0]; done) | with_reducible exact k_1 | with_reducible exact k_2)
    (first
      | (go_at_call 6; refine (toTree_any _ _ _ _ _ _ _ _ _ _ _ _ _ _ ns1 fs1 rs1 _ (I_1.out.kept B.out.drew) HS1.out).mono ?_
         rintro e W11 ⟨g1u1, g2u1, g3u1, nsu1, rsu1, rfl, ou1, vu1, uu1, b11d⟩
         have b11 := below_drawn b11d
         have k_1 : W11.cell? ⟨W7.heap.size, 0, none⟩ = some (.int .i64 st1) ∧ W11.cell? ⟨W7.heap.size, 1, none⟩ = some (.int .i64 dd1) ∧ W11.cell? ⟨W7.heap.size, 2, none⟩ = some (.slice (some ⟨g1t1, 0, none⟩) n1 n1) ∧ W11.cell? ⟨W7.heap.size, 3, none⟩ = some (.slice (some ⟨g2t1, 0, none⟩) m1 m1) ∧ W11.cell? ⟨W7.heap.size, 4, none⟩ = some (.slice (some ⟨g3t1, 0, none⟩) l1 l1) ∧ W11.cell? ⟨W7.heap.size, 5, none⟩ = some (.int .i64 rt1) ∧ W11.cell? ⟨W7.heap.size, 6, none⟩ = some (.int .i64 rn1) ∧ W11.cell? ⟨W7.heap.size, 7, none⟩ = some (.int .i64 ct1) ∧ W11.cell? ⟨w.heap.size + 1, 0, none⟩ = some (.int .i64 st1) ∧ W11.cell? ⟨w.heap.size + 1, 1, none⟩ = some (.int .i64 dd1) ∧ W11.cell? ⟨w.heap.size + 1, 2, none⟩ = some (.slice A1 n1 c1) ∧ W11.cell? ⟨w.heap.size + 1, 3, none⟩ = some (.slice B1 m1 e1) ∧ W11.cell? ⟨w.heap.size + 1, 4, none⟩ = some (.slice C1 l1 f1) ∧ W11.cell? ⟨w.heap.size + 1, 5, none⟩ = some (.int .i64 rt1) ∧ W11.cell? ⟨w.heap.size + 1, 6, none⟩ = some (.int .i64 rn1) ∧ W11.cell? ⟨w.heap.size + 1, 7, none⟩ = some (.int .i64 ct1) := ⟨(L_x1.out.kept b11 L_x1.out.inside).cell 0, (L_x1.out.kept b11 L_x1.out.inside).cell 1, (L_x1.out.kept b11 L_x1.out.inside).cell 2, (L_x1.out.kept b11 L_x1.out.inside).cell 3, (L_x1.out.kept b11 L_x1.out.inside).cell 4, (L_x1.out.kept b11 L_x1.out.inside).cell 5, (L_x1.out.kept b11 L_x1.out.inside).cell 6, (L_x1.out.kept b11 L_x1.out.inside).cell 7, (L_a1.out.kept b11 L_a1.out.inside).cell 0, (L_a1.out.kept b11 L_a1.out.inside).cell 1, (L_a1.out.kept b11 L_a1.out.inside).cell 2, (L_a1.out.kept b11 L_a1.out.inside).cell 3, (L_a1.out.kept b11 L_a1.out.inside).cell 4, (L_a1.out.kept b11 L_a1.out.inside).cell 5, (L_a1.out.kept b11 L_a1.out.inside).cell 6, (L_a1.out.kept b11 L_a1.out.inside).cell 7⟩
         clear b11d)
      | (go_at_call 8; refine (eqTree_same _ _ _ _ _ _ _ _ _ _ _ nsu1 rsu1 _ _ _ _ _ _ _ _ _ nst1 fs1 rst1 _ ((O_t1.out.kept b11).arena HS1.out.s1 HS1.out.s2 HS1.out.s3) (ou1.arena HS1.out.s1 HS1.out.s2 HS1.out.s3) (V_t1.out.trans vu1.symm) (U_t1.out.trans uu1.symm)).mono ?_
         rintro e W12 ⟨rfl, b12⟩
         have k_2 : W12.cell? ⟨W7.heap.size, 0, none⟩ = some (.int .i64 st1) ∧ W12.cell? ⟨W7.heap.size, 1, none⟩ = some (.int .i64 dd1) ∧ W12.cell? ⟨W7.heap.size, 2, none⟩ = some (.slice (some ⟨g1t1, 0, none⟩) n1 n1) ∧ W12.cell? ⟨W7.heap.size, 3, none⟩ = some (.slice (some ⟨g2t1, 0, none⟩) m1 m1) ∧ W12.cell? ⟨W7.heap.size, 4, none⟩ = some (.slice (some ⟨g3t1, 0, none⟩) l1 l1) ∧ W12.cell? ⟨W7.heap.size, 5, none⟩ = some (.int .i64 rt1) ∧ W12.cell? ⟨W7.heap.size, 6, none⟩ = some (.int .i64 rn1) ∧ W12.cell? ⟨W7.heap.size, 7, none⟩ = some (.int .i64 ct1) ∧ W12.cell? ⟨w.heap.size + 1, 0, none⟩ = some (.int .i64 st1) ∧ W12.cell? ⟨w.heap.size + 1, 1, none⟩ = some (.int .i64 dd1) ∧ W12.cell? ⟨w.heap.size + 1, 2, none⟩ = some (.slice A1 n1 c1) ∧ W12.cell? ⟨w.heap.size + 1, 3, none⟩ = some (.slice B1 m1 e1) ∧ W12.cell? ⟨w.heap.size + 1, 4, none⟩ = some (.slice C1 l1 f1) ∧ W12.cell? ⟨w.heap.size + 1, 5, none⟩ = some (.int .i64 rt1) ∧ W12.cell? ⟨w.heap.size + 1, 6, none⟩ = some (.int .i64 rn1) ∧ W12.cell? ⟨w.heap.size + 1, 7, none⟩ = some (.int .i64 ct1) := ⟨((L_x1.out.kept b11 L_x1.out.inside).kept b12 (L_x1.out.kept b11 L_x1.out.inside).inside).cell 0, ((L_x1.out.kept b11 L_x1.out.inside).kept b12 (L_x1.out.kept b11 L_x1.out.inside).inside).cell 1, ((L_x1.out.kept b11 L_x1.out.inside).kept b12 (L_x1.out.kept b11 L_x1.out.inside).inside).cell 2, ((L_x1.out.kept b11 L_x1.out.inside).kept b12 (L_x1.out.kept b11 L_x1.out.inside).inside).cell 3, ((L_x1.out.kept b11 L_x1.out.inside).kept b12 (L_x1.out.kept b11 L_x1.out.inside).inside).cell 4, ((L_x1.out.kept b11 L_x1.out.inside).kept b12 (L_x1.out.kept b11 L_x1.out.inside).inside).cell 5, ((L_x1.out.kept b11 L_x1.out.inside).kept b12 (L_x1.out.kept b11 L_x1.out.inside).inside).cell 6, ((L_x1.out.kept b11 L_x1.out.inside).kept b12 (L_x1.out.kept b11 L_x1.out.inside).inside).cell 7, ((L_a1.out.kept b11 L_a1.out.inside).kept b12 (L_a1.out.kept b11 L_a1.out.inside).inside).cell 0, ((L_a1.out.kept b11 L_a1.out.inside).kept b12 (L_a1.out.kept b11 L_a1.out.inside).inside).cell 1, ((L_a1.out.kept b11 L_a1.out.inside).kept b12 (L_a1.out.kept b11 L_a1.out.inside).inside).cell 2, ((L_a1.out.kept b11 L_a1.out.inside).kept b12 (L_a1.out.kept b11 L_a1.out.inside).inside).cell 3, ((L_a1.out.kept b11 L_a1.out.inside).kept b12 (L_a1.out.kept b11 L_a1.out.inside).inside).cell 4, ((L_a1.out.kept b11 L_a1.out.inside).kept b12 (L_a1.out.kept b11 L_a1.out.inside).inside).cell 5, ((L_a1.out.kept b11 L_a1.out.inside).kept b12 (L_a1.out.kept b11 L_a1.out.inside).inside).cell 6, ((L_a1.out.kept b11 L_a1.out.inside).kept b12 (L_a1.out.kept b11 L_a1.out.inside).inside).cell 7⟩))
  clear k_0 k_1 k_2
  replace L_a0 := Lib.hid (L_a0.out.kept b11 L_a0.out.inside)
  replace L_a1 := Lib.hid (L_a1.out.kept b11 L_a1.out.inside)
  replace L_x0 := Lib.hid (L_x0.out.kept b11 L_x0.out.inside)
  replace L_x1 := Lib.hid (L_x1.out.kept b11 L_x1.out.inside)
  replace O_t0 := Lib.hid (O_t0.out.kept b11)
  replace O_t1 := Lib.hid (O_t1.out.kept b11)
  replace B := Lib.hid (B.out.trans (b11.mono B.out.size))
  clear b11
  have O_u1 := Lib.hid ou1
  clear ou1
  replace L_a0 := Lib.hid (L_a0.out.kept b12 L_a0.out.inside)
  replace L_a1 := Lib.hid (L_a1.out.kept b12 L_a1.out.inside)
  replace L_x0 := Lib.hid (L_x0.out.kept b12 L_x0.out.inside)
  replace L_x1 := Lib.hid (L_x1.out.kept b12 L_x1.out.inside)
  replace O_t0 := Lib.hid (O_t0.out.kept b12)
  replace O_t1 := Lib.hid (O_t1.out.kept b12)
  replace O_u1 := Lib.hid (O_u1.out.kept b12)
  replace B := Lib.hid (B.out.trans (b12.mono B.out.size))
  clear b12
  have V_u1 := Lib.hid vu1
  have U_u1 := Lib.hid uu1
  clear vu1 uu1
  clear O_u1 V_u1 U_u1
  go_wp2
  go_ret
  exact ⟨rfl, B.out⟩

end Go.Proofs.Ytdkaofmlgaofgaa
