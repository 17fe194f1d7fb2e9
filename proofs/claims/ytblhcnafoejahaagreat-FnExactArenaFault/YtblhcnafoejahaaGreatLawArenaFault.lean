/- FnExactArenaFault: for every arena impl.ArenaFault answers as the model does and leaves its argument alone. No condition. -/
import Derived.Test.YtblhcnafoejahaaGreatSpecArena3
import Derived.Test.YtblhcnafoejahaaGreatOpenArena
namespace Go.Proofs.YtblhcnafoejahaaGreat
open Go.RowKit

theorem specArenaFault_is (v d : Int) (n1 c1 n2 c2 n3 c3 : Nat) (A1 A2 A3 : Option Addr) (ns : List NV) (fs : List Int) (rs : List RV) (w : World) (hv : arenaF d (ns.map NV.val) fs (rs.map RV.val) = v) (hp : ArenaL w A1 A2 A3 n1 n2 n3 ns fs rs) (hc : n1 ≤ c1) (hcm : c1 ≤ maxLen) :
    Calls Tryz.prog 5 #[.agg #[.int .i64 d, .slice A1 n1 c1, .slice A2 n2 c2, .slice A3 n3 c3]] w fun e w' => e = .returned (.int .i64 v) ∧ Below w.heap.size w w' :=
  hv ▸ specArenaFault_any d n1 c1 n2 c2 n3 c3 A1 A2 A3 ns fs rs w hp hc hcm
theorem implArenaFault_is (v d : Int) (n1 c1 n2 c2 n3 c3 : Nat) (A1 A2 A3 : Option Addr) (ns : List NV) (fs : List Int) (rs : List RV) (w : World) (hv : arenaF d (ns.map NV.val) fs (rs.map RV.val) = v) (hp : ArenaL w A1 A2 A3 n1 n2 n3 ns fs rs) (hn3 : n3 ≤ 1048576) :
    Calls Tryz.prog 7 #[.agg #[.int .i64 d, .slice A1 n1 c1, .slice A2 n2 c2, .slice A3 n3 c3]] w fun e w' => e = .returned (.int .i64 v) ∧ Below w.heap.size w w' :=
  hv ▸ implArenaFault_any d n1 c1 n2 c2 n3 c3 A1 A2 A3 ns fs rs w hp hn3

set_option maxRecDepth 100000 in
set_option maxHeartbeats 6400000 in
theorem lawArenaFault_walk (dd0 : Int) (n0 c0 m0 e0 l0 f0 : Nat) (A0 B0 C0 : Option Addr) (ns0 : List NV) (fs0 : List Int) (rs0 : List RV) (w : World) (hp0 : ArenaL w A0 B0 C0 n0 m0 l0 ns0 fs0 rs0) :
    Calls Tryz.prog 3 #[.agg #[.int .i64 dd0, .slice A0 n0 c0, .slice B0 m0 e0, .slice C0 l0 f0]] w fun e w' => e = .returned (.bool true) ∧ Below w.heap.size w w' := by
  have I_0 := Lib.hid hp0
  clear hp0
  obtain ⟨val, hval⟩ : ∃ v, arenaF dd0 (ns0.map NV.val) fs0 (rs0.map RV.val) = v := ⟨_, rfl⟩
  have HV := Lib.hid hval
  clear hval
  have B := Lib.hid (Below.refl w.heap.size w)
  have L_a0 := Lib.hid (Lies.new w 26 #[.int .i64 dd0, .slice A0 n0 c0, .slice B0 m0 e0, .slice C0 l0 f0])
  replace B := Lib.hid (B.out.alloc B.out.size (.cells #[.int .i64 dd0, .slice A0 n0 c0, .slice B0 m0 e0, .slice C0 l0 f0] 26))
  go_enter Tryz.func3, Tryz.ntmps3
  go_wp2_with fail
  refine (szArena_any _ 1048576 _ _ _ _ _ _ _ _ _ ns0 fs0 rs0 _ (I_0.out.kept B.out) (by decide) (by decide)).mono ?_
  rintro e W1 ⟨r0, rfl, hr0, b1⟩
  replace L_a0 := Lib.hid (L_a0.out.kept b1 L_a0.out.inside)
  replace B := Lib.hid (B.out.trans (b1.mono B.out.size))
  clear b1
  rcases hr0 with rfl | ⟨p0, q0, hs0⟩
  · go_wp2
    go_ret
    exact ⟨rfl, B.out⟩
  have HS0 := Lib.hid hs0
  have t0 : ¬ r0 < 0 := by omega
  clear hs0
  have c_a00 : W1.cell? ⟨w.heap.size, 0, none⟩ = some (.int .i64 dd0) := L_a0.out.cell 0
  have c_a01 : W1.cell? ⟨w.heap.size, 1, none⟩ = some (.slice A0 n0 c0) := L_a0.out.cell 1
  have c_a02 : W1.cell? ⟨w.heap.size, 2, none⟩ = some (.slice B0 m0 e0) := L_a0.out.cell 2
  have c_a03 : W1.cell? ⟨w.heap.size, 3, none⟩ = some (.slice C0 l0 f0) := L_a0.out.cell 3
  go_wp2_with fail
  clear c_a00 c_a01 c_a02 c_a03
  refine (toArena_any _ _ _ _ _ _ _ _ _ _ ns0 fs0 rs0 _ (I_0.out.kept B.out) HS0.out).mono ?_
  rintro e W2 ⟨g1s0, g2s0, g3s0, nss0, rss0, rfl, os0, vs0, us0, b2⟩
  replace L_a0 := Lib.hid (L_a0.out.kept b2 L_a0.out.inside)
  replace B := Lib.hid (B.out.trans (b2.mono B.out.size))
  clear b2
  have O_s0 := Lib.hid os0
  clear os0
  have V_s0 := Lib.hid vs0
  have U_s0 := Lib.hid us0
  clear vs0 us0
  go_wp2_with fail
  refine (specArenaFault_is val _ _ _ _ _ _ _ _ _ _ nss0 fs0 rss0 _ (show arenaF dd0 (List.map NV.val nss0) fs0 (List.map RV.val rss0) = val by rw [V_s0.out, U_s0.out]; exact HV.out) (O_s0.out.arena HS0.out.s1 HS0.out.s2 HS0.out.s3) (Nat.le_refl _) (Nat.le_trans HS0.out.s1 (by decide))).mono ?_
  rintro e W3 ⟨rfl, b3⟩
  replace L_a0 := Lib.hid (L_a0.out.kept b3 L_a0.out.inside)
  replace O_s0 := Lib.hid (O_s0.out.kept b3)
  replace B := Lib.hid (B.out.trans (b3.mono B.out.size))
  clear b3
  clear O_s0 V_s0 U_s0
  have c_a00 : W3.cell? ⟨w.heap.size, 0, none⟩ = some (.int .i64 dd0) := L_a0.out.cell 0
  have c_a01 : W3.cell? ⟨w.heap.size, 1, none⟩ = some (.slice A0 n0 c0) := L_a0.out.cell 1
  have c_a02 : W3.cell? ⟨w.heap.size, 2, none⟩ = some (.slice B0 m0 e0) := L_a0.out.cell 2
  have c_a03 : W3.cell? ⟨w.heap.size, 3, none⟩ = some (.slice C0 l0 f0) := L_a0.out.cell 3
  go_wp2_with fail
  clear c_a00 c_a01 c_a02 c_a03
  refine (toArena_any _ _ _ _ _ _ _ _ _ _ ns0 fs0 rs0 _ (I_0.out.kept B.out) HS0.out).mono ?_
  rintro e W4 ⟨g1t0, g2t0, g3t0, nst0, rst0, rfl, ot0, vt0, ut0, b4⟩
  replace L_a0 := Lib.hid (L_a0.out.kept b4 L_a0.out.inside)
  replace B := Lib.hid (B.out.trans (b4.mono B.out.size))
  clear b4
  have O_t0 := Lib.hid ot0
  clear ot0
  have V_t0 := Lib.hid vt0
  have U_t0 := Lib.hid ut0
  clear vt0 ut0
  replace L_a0 := Lib.hid (L_a0.out.alloc (.cells #[.int .i64 dd0, .slice (some ⟨g1t0, 0, none⟩) n0 n0, .slice (some ⟨g2t0, 0, none⟩) m0 m0, .slice (some ⟨g3t0, 0, none⟩) l0 l0] 32))
  replace O_t0 := Lib.hid (O_t0.out.kept (below_alloc _ (.cells #[.int .i64 dd0, .slice (some ⟨g1t0, 0, none⟩) n0 n0, .slice (some ⟨g2t0, 0, none⟩) m0 m0, .slice (some ⟨g3t0, 0, none⟩) l0 l0] 32)))
  have L_x0 := Lib.hid (Lies.new W4 32 #[.int .i64 dd0, .slice (some ⟨g1t0, 0, none⟩) n0 n0, .slice (some ⟨g2t0, 0, none⟩) m0 m0, .slice (some ⟨g3t0, 0, none⟩) l0 l0])
  replace B := Lib.hid (B.out.alloc B.out.size (.cells #[.int .i64 dd0, .slice (some ⟨g1t0, 0, none⟩) n0 n0, .slice (some ⟨g2t0, 0, none⟩) m0 m0, .slice (some ⟨g3t0, 0, none⟩) l0 l0] 32))
  have c_x00 : (W4.alloc (.cells #[.int .i64 dd0, .slice (some ⟨g1t0, 0, none⟩) n0 n0, .slice (some ⟨g2t0, 0, none⟩) m0 m0, .slice (some ⟨g3t0, 0, none⟩) l0 l0] 32)).cell? ⟨W4.heap.size, 0, none⟩ = some (.int .i64 dd0) := L_x0.out.cell 0
  have c_x01 : (W4.alloc (.cells #[.int .i64 dd0, .slice (some ⟨g1t0, 0, none⟩) n0 n0, .slice (some ⟨g2t0, 0, none⟩) m0 m0, .slice (some ⟨g3t0, 0, none⟩) l0 l0] 32)).cell? ⟨W4.heap.size, 1, none⟩ = some (.slice (some ⟨g1t0, 0, none⟩) n0 n0) := L_x0.out.cell 1
  have c_x02 : (W4.alloc (.cells #[.int .i64 dd0, .slice (some ⟨g1t0, 0, none⟩) n0 n0, .slice (some ⟨g2t0, 0, none⟩) m0 m0, .slice (some ⟨g3t0, 0, none⟩) l0 l0] 32)).cell? ⟨W4.heap.size, 2, none⟩ = some (.slice (some ⟨g2t0, 0, none⟩) m0 m0) := L_x0.out.cell 2
  have c_x03 : (W4.alloc (.cells #[.int .i64 dd0, .slice (some ⟨g1t0, 0, none⟩) n0 n0, .slice (some ⟨g2t0, 0, none⟩) m0 m0, .slice (some ⟨g3t0, 0, none⟩) l0 l0] 32)).cell? ⟨W4.heap.size, 3, none⟩ = some (.slice (some ⟨g3t0, 0, none⟩) l0 l0) := L_x0.out.cell 3
  go_wp2_with fail
  clear c_x00 c_x01 c_x02 c_x03
  refine (implArenaFault_is val _ _ _ _ _ _ _ _ _ _ nst0 fs0 rst0 _ (show arenaF dd0 (List.map NV.val nst0) fs0 (List.map RV.val rst0) = val by rw [V_t0.out, U_t0.out]; exact HV.out) (O_t0.out.arena HS0.out.s1 HS0.out.s2 HS0.out.s3) HS0.out.s3).mono ?_
  rintro e W5 ⟨rfl, b5⟩
  replace L_a0 := Lib.hid (L_a0.out.kept b5 L_a0.out.inside)
  replace L_x0 := Lib.hid (L_x0.out.kept b5 L_x0.out.inside)
  replace O_t0 := Lib.hid (O_t0.out.kept b5)
  replace B := Lib.hid (B.out.trans (b5.mono B.out.size))
  clear b5
  have hpv : (val != val) = false := by simp
  go_wp2_with fail
  have k_0 : W5.cell? ⟨W4.heap.size, 0, none⟩ = some (.int .i64 dd0) ∧ W5.cell? ⟨W4.heap.size, 1, none⟩ = some (.slice (some ⟨g1t0, 0, none⟩) n0 n0) ∧ W5.cell? ⟨W4.heap.size, 2, none⟩ = some (.slice (some ⟨g2t0, 0, none⟩) m0 m0) ∧ W5.cell? ⟨W4.heap.size, 3, none⟩ = some (.slice (some ⟨g3t0, 0, none⟩) l0 l0) ∧ W5.cell? ⟨w.heap.size, 0, none⟩ = some (.int .i64 dd0) ∧ W5.cell? ⟨w.heap.size, 1, none⟩ = some (.slice A0 n0 c0) ∧ W5.cell? ⟨w.heap.size, 2, none⟩ = some (.slice B0 m0 e0) ∧ W5.cell? ⟨w.heap.size, 3, none⟩ = some (.slice C0 l0 f0) := ⟨L_x0.out.cell 0, L_x0.out.cell 1, L_x0.out.cell 2, L_x0.out.cell 3, L_a0.out.cell 0, L_a0.out.cell 1, L_a0.out.cell 2, L_a0.out.cell 3⟩
  go_region_held3 (fun w' => w'.cell? ⟨W4.heap.size, 0, none⟩ = some (.int .i64 dd0) ∧ w'.cell? ⟨W4.heap.size, 1, none⟩ = some (.slice (some ⟨g1t0, 0, none⟩) n0 n0) ∧ w'.cell? ⟨W4.heap.size, 2, none⟩ = some (.slice (some ⟨g2t0, 0, none⟩) m0 m0) ∧ w'.cell? ⟨W4.heap.size, 3, none⟩ = some (.slice (some ⟨g3t0, 0, none⟩) l0 l0) ∧ w'.cell? ⟨w.heap.size, 0, none⟩ = some (.int .i64 dd0) ∧ w'.cell? ⟨w.heap.size, 1, none⟩ = some (.slice A0 n0 c0) ∧ w'.cell? ⟨w.heap.size, 2, none⟩ = some (.slice B0 m0 e0) ∧ w'.cell? ⟨w.heap.size, 3, none⟩ = some (.slice C0 l0 f0))
    (first | (simp [go_sem, k_0]; done) | with_reducible exact k_1 | with_reducible exact k_2)
    (first
      | (go_at_call 6; refine (toArena_any _ _ _ _ _ _ _ _ _ _ ns0 fs0 rs0 _ (I_0.out.kept B.out.drew) HS0.out).mono ?_
         rintro e W6 ⟨g1u0, g2u0, g3u0, nsu0, rsu0, rfl, ou0, vu0, uu0, b6d⟩
         have b6 := below_drawn b6d
         have k_1 : W6.cell? ⟨W4.heap.size, 0, none⟩ = some (.int .i64 dd0) ∧ W6.cell? ⟨W4.heap.size, 1, none⟩ = some (.slice (some ⟨g1t0, 0, none⟩) n0 n0) ∧ W6.cell? ⟨W4.heap.size, 2, none⟩ = some (.slice (some ⟨g2t0, 0, none⟩) m0 m0) ∧ W6.cell? ⟨W4.heap.size, 3, none⟩ = some (.slice (some ⟨g3t0, 0, none⟩) l0 l0) ∧ W6.cell? ⟨w.heap.size, 0, none⟩ = some (.int .i64 dd0) ∧ W6.cell? ⟨w.heap.size, 1, none⟩ = some (.slice A0 n0 c0) ∧ W6.cell? ⟨w.heap.size, 2, none⟩ = some (.slice B0 m0 e0) ∧ W6.cell? ⟨w.heap.size, 3, none⟩ = some (.slice C0 l0 f0) := ⟨(L_x0.out.kept b6 L_x0.out.inside).cell 0, (L_x0.out.kept b6 L_x0.out.inside).cell 1, (L_x0.out.kept b6 L_x0.out.inside).cell 2, (L_x0.out.kept b6 L_x0.out.inside).cell 3, (L_a0.out.kept b6 L_a0.out.inside).cell 0, (L_a0.out.kept b6 L_a0.out.inside).cell 1, (L_a0.out.kept b6 L_a0.out.inside).cell 2, (L_a0.out.kept b6 L_a0.out.inside).cell 3⟩
         clear b6d)
      | (go_at_call 8; refine (eqArena_same _ _ _ _ _ _ _ nsu0 rsu0 _ _ _ _ _ _ _ _ _ nst0 fs0 rst0 _ ((O_t0.out.kept b6).arena HS0.out.s1 HS0.out.s2 HS0.out.s3) (ou0.arena HS0.out.s1 HS0.out.s2 HS0.out.s3) (V_t0.out.trans vu0.symm) (U_t0.out.trans uu0.symm)).mono ?_
         rintro e W7 ⟨rfl, b7⟩
         have k_2 : W7.cell? ⟨W4.heap.size, 0, none⟩ = some (.int .i64 dd0) ∧ W7.cell? ⟨W4.heap.size, 1, none⟩ = some (.slice (some ⟨g1t0, 0, none⟩) n0 n0) ∧ W7.cell? ⟨W4.heap.size, 2, none⟩ = some (.slice (some ⟨g2t0, 0, none⟩) m0 m0) ∧ W7.cell? ⟨W4.heap.size, 3, none⟩ = some (.slice (some ⟨g3t0, 0, none⟩) l0 l0) ∧ W7.cell? ⟨w.heap.size, 0, none⟩ = some (.int .i64 dd0) ∧ W7.cell? ⟨w.heap.size, 1, none⟩ = some (.slice A0 n0 c0) ∧ W7.cell? ⟨w.heap.size, 2, none⟩ = some (.slice B0 m0 e0) ∧ W7.cell? ⟨w.heap.size, 3, none⟩ = some (.slice C0 l0 f0) := ⟨((L_x0.out.kept b6 L_x0.out.inside).kept b7 (L_x0.out.kept b6 L_x0.out.inside).inside).cell 0, ((L_x0.out.kept b6 L_x0.out.inside).kept b7 (L_x0.out.kept b6 L_x0.out.inside).inside).cell 1, ((L_x0.out.kept b6 L_x0.out.inside).kept b7 (L_x0.out.kept b6 L_x0.out.inside).inside).cell 2, ((L_x0.out.kept b6 L_x0.out.inside).kept b7 (L_x0.out.kept b6 L_x0.out.inside).inside).cell 3, ((L_a0.out.kept b6 L_a0.out.inside).kept b7 (L_a0.out.kept b6 L_a0.out.inside).inside).cell 0, ((L_a0.out.kept b6 L_a0.out.inside).kept b7 (L_a0.out.kept b6 L_a0.out.inside).inside).cell 1, ((L_a0.out.kept b6 L_a0.out.inside).kept b7 (L_a0.out.kept b6 L_a0.out.inside).inside).cell 2, ((L_a0.out.kept b6 L_a0.out.inside).kept b7 (L_a0.out.kept b6 L_a0.out.inside).inside).cell 3⟩))
  clear k_0 k_1 k_2
  replace L_a0 := Lib.hid (L_a0.out.kept b6 L_a0.out.inside)
  replace L_x0 := Lib.hid (L_x0.out.kept b6 L_x0.out.inside)
  replace O_t0 := Lib.hid (O_t0.out.kept b6)
  replace B := Lib.hid (B.out.trans (b6.mono B.out.size))
  clear b6
  have O_u0 := Lib.hid ou0
  clear ou0
  replace L_a0 := Lib.hid (L_a0.out.kept b7 L_a0.out.inside)
  replace L_x0 := Lib.hid (L_x0.out.kept b7 L_x0.out.inside)
  replace O_t0 := Lib.hid (O_t0.out.kept b7)
  replace O_u0 := Lib.hid (O_u0.out.kept b7)
  replace B := Lib.hid (B.out.trans (b7.mono B.out.size))
  clear b7
  have V_u0 := Lib.hid vu0
  have U_u0 := Lib.hid uu0
  clear vu0 uu0
  clear O_u0 V_u0 U_u0
  go_wp2
  go_ret
  exact ⟨rfl, B.out⟩

end Go.Proofs.YtblhcnafoejahaaGreat
