/- FnExactEndWatch: for every arena and number impl.EndWatch answers as the model does, leaves its argument alone and answers in memory of its own. No condition. -/
import Derived.Test.YtpgoildfjkokiaaGreatSpecArena4
import Derived.Test.YtpgoildfjkokiaaGreatNodeArg
import Derived.Test.YtpgoildfjkokiaaGreatAnswers
import Derived.Test.YtpgoildfjkokiaaGreatImplWithout
namespace Go.Proofs.YtpgoildfjkokiaaGreat
open Go.RowKit

theorem specEndWatch_is (d cl : Int) (n1 c1 n2 c2 n3 c3 : Nat) (A1 A2 A3 : Option Addr) (ns : List NV) (fs : List Int) (rs : List RV) (w : World) {cd D idr : Int} {V : List NVal} {F : List Int} {U : List RVal} (hR : endR d (ns.map NV.val) fs (rs.map RV.val) cl = (cd, D, V, F, U, idr)) (hp : ArenaL w A1 A2 A3 n1 n2 n3 ns fs rs) (hc : n1 ≤ c1) (hcm : c1 ≤ maxLen) (hfew : n1 + n2 + n3 ≤ 1048576) :
    Calls Tryz.prog 29 #[.agg #[.int .i64 d, .slice A1 n1 c1, .slice A2 n2 c2, .slice A3 n3 c3], .int .i64 cl] w fun e w' => ∃ A1' c1' A2' c2' A3' c3' qs ts, e = .returned (.agg #[.int .i64 cd, .int .i64 D, .slice A1' V.length c1', .slice A2' F.length c2', .slice A3' U.length c3', .int .i64 idr]) ∧ SpA w' w.heap.size A1' V.length c1' A2' F.length c2' A3' U.length c3' qs F ts ∧ qs.map NV.val = V ∧ ts.map RV.val = U ∧ Below w.heap.size w w' := by
  have h0 := specEndWatch_any d cl n1 c1 n2 c2 n3 c3 A1 A2 A3 ns fs rs w hp hc hcm hfew
  rw [hR] at h0
  exact h0

theorem implEndWatch_is (d cl : Int) (n1 c1 n2 c2 n3 c3 : Nat) (A1 A2 A3 : Option Addr) (ns : List NV) (fs : List Int) (rs : List RV) (w : World) {cd D idr : Int} {V : List NVal} {F : List Int} {U : List RVal} (hR : endR d (ns.map NV.val) fs (rs.map RV.val) cl = (cd, D, V, F, U, idr)) (hp : ArenaL w A1 A2 A3 n1 n2 n3 ns fs rs) (hfew : n1 + n2 + n3 ≤ 1048576) :
    Calls Tryz.prog 30 #[.agg #[.int .i64 d, .slice A1 n1 c1, .slice A2 n2 c2, .slice A3 n3 c3], .int .i64 cl] w fun e w' => ∃ A1' c1' A2' c2' A3' c3' qs ts, e = .returned (.agg #[.int .i64 cd, .int .i64 D, .slice A1' V.length c1', .slice A2' F.length c2', .slice A3' U.length c3', .int .i64 idr]) ∧ AnsAr w' w.heap.size A1' V.length c1' A2' F.length c2' A3' U.length c3' qs F ts ∧ qs.map NV.val = V ∧ ts.map RV.val = U ∧ Below w.heap.size w w' := by
  have h0 := implEndWatch_any d cl n1 c1 n2 c2 n3 c3 A1 A2 A3 ns fs rs w hp hfew
  rw [hR] at h0
  exact h0

set_option maxRecDepth 100000 in
set_option maxHeartbeats 6400000 in
theorem lawEndWatch_walk (dd0 : Int) (n0 c0 m0 e0 l0 f0 : Nat) (A0 B0 C0 : Option Addr) (ns0 : List NV) (fs0 : List Int) (rs0 : List RV) (x1 : Int) (w : World) (hp0 : ArenaL w A0 B0 C0 n0 m0 l0 ns0 fs0 rs0) :
    Calls Tryz.prog 6 #[.agg #[.int .i64 dd0, .slice A0 n0 c0, .slice B0 m0 e0, .slice C0 l0 f0], .int .i64 x1] w fun e w' => e = .returned (.bool true) ∧ Below w.heap.size w w' := by
  have HP0 := Lib.hid hp0
  clear hp0
  obtain ⟨⟨cd, D, V, F, U, idr⟩, hR⟩ : ∃ R, endR dd0 (ns0.map NV.val) fs0 (rs0.map RV.val) x1 = R := ⟨_, rfl⟩
  have HR := Lib.hid hR
  clear hR
  have B := Lib.hid (Below.refl w.heap.size w)
  have L_a0 := Lib.hid (Lies.new w 38 #[.int .i64 dd0, .slice A0 n0 c0, .slice B0 m0 e0, .slice C0 l0 f0])
  replace B := Lib.hid (B.out.alloc B.out.size (.cells #[.int .i64 dd0, .slice A0 n0 c0, .slice B0 m0 e0, .slice C0 l0 f0] 38))
  go_enter Tryz.func6, Tryz.ntmps6
  go_wp2_with fail
  refine (szArena_sum _ 1048576 _ _ _ _ _ _ _ _ _ ns0 fs0 rs0 _ (HP0.out.kept B.out) (by decide) (by decide)).mono ?_
  rintro e W1 ⟨r0, rfl, hr0, b1⟩
  have sz_W1 := b1.size
  try simp only [World.size_alloc] at sz_W1
  replace L_a0 := Lib.hid (L_a0.out.kept b1 L_a0.out.inside)
  replace B := Lib.hid (B.out.trans (b1.mono B.out.size))
  clear b1
  rcases hr0 with rfl | ⟨p0, q0, hs0, hu0⟩
  · go_wp2
    go_ret
    exact ⟨rfl, B.out⟩
  have HS0 := Lib.hid hs0
  have HF0 := Lib.hid (FewA.of HP0.out p0 (show (1048576 : Int) ≤ 1048576 by omega) hu0)
  have t0 : ¬ r0 < 0 := by omega
  clear hs0 hu0
  have hfew : n0 + m0 + l0 ≤ 1048576 := by have h1 := HF0.out; unfold FewA at h1; omega
  have szB := B.out.size
  have c_a00 : W1.cell? ⟨w.heap.size, 0, none⟩ = some (.int .i64 dd0) := L_a0.out.cell 0
  have c_a01 : W1.cell? ⟨w.heap.size, 1, none⟩ = some (.slice A0 n0 c0) := L_a0.out.cell 1
  have c_a02 : W1.cell? ⟨w.heap.size, 2, none⟩ = some (.slice B0 m0 e0) := L_a0.out.cell 2
  have c_a03 : W1.cell? ⟨w.heap.size, 3, none⟩ = some (.slice C0 l0 f0) := L_a0.out.cell 3
  go_wp2_with fail
  clear c_a00 c_a01 c_a02 c_a03
  refine (toArena_any _ _ _ _ _ _ _ _ _ _ ns0 fs0 rs0 _ (HP0.out.kept B.out) HS0.out).mono ?_
  rintro e W2 ⟨g1s0, g2s0, g3s0, nss0, rss0, rfl, os0, vs0, us0, b2⟩
  have sz_W2 := b2.size
  try simp only [World.size_alloc] at sz_W2
  replace L_a0 := Lib.hid (L_a0.out.kept b2 L_a0.out.inside)
  replace B := Lib.hid (B.out.trans (b2.mono B.out.size))
  clear b2
  have O_s0 := Lib.hid os0
  clear os0
  have V_s0 := Lib.hid vs0
  have U_s0 := Lib.hid us0
  clear vs0 us0
  go_wp2_with fail
  refine (specEndWatch_is (cd := cd) (D := D) (idr := idr) (V := V) (F := F) (U := U) dd0 x1 _ _ _ _ _ _ _ _ _ nss0 fs0 rss0 _ (by rw [V_s0.out, U_s0.out]; exact HR.out) (O_s0.out.arena HS0.out.s1 HS0.out.s2 HS0.out.s3) (Nat.le_refl _) (Nat.le_trans HS0.out.s1 (by decide)) hfew).mono ?_
  rintro e W3 ⟨Aw, cw, Bw, dw, Cw, fw, qw, tw, rfl, hj, vj, uj, b3⟩
  have sz_W3 := b3.size
  try simp only [World.size_alloc] at sz_W3
  replace L_a0 := Lib.hid (L_a0.out.kept b3 L_a0.out.inside)
  replace O_s0 := Lib.hid (O_s0.out.kept b3)
  replace B := Lib.hid (B.out.trans (b3.mono B.out.size))
  clear b3
  clear O_s0
  clear V_s0 U_s0
  have J := Lib.hid hj.arena
  have VJ := Lib.hid vj
  have UJ := Lib.hid uj
  clear hj vj uj
  have JB := Lib.hid (Below.refl W3.heap.size W3)
  replace L_a0 := Lib.hid (L_a0.out.alloc (.cells #[.int .i64 cd, .int .i64 D, .slice Aw V.length cw, .slice Bw F.length dw, .slice Cw U.length fw, .int .i64 idr] 53))
  replace JB := Lib.hid (JB.out.alloc JB.out.size (.cells #[.int .i64 cd, .int .i64 D, .slice Aw V.length cw, .slice Bw F.length dw, .slice Cw U.length fw, .int .i64 idr] 53))
  have L_w0 := Lib.hid (Lies.new W3 53 #[.int .i64 cd, .int .i64 D, .slice Aw V.length cw, .slice Bw F.length dw, .slice Cw U.length fw, .int .i64 idr])
  replace B := Lib.hid (B.out.alloc B.out.size (.cells #[.int .i64 cd, .int .i64 D, .slice Aw V.length cw, .slice Bw F.length dw, .slice Cw U.length fw, .int .i64 idr] 53))
  have c_a00 : (W3.alloc (.cells #[.int .i64 cd, .int .i64 D, .slice Aw V.length cw, .slice Bw F.length dw, .slice Cw U.length fw, .int .i64 idr] 53)).cell? ⟨w.heap.size, 0, none⟩ = some (.int .i64 dd0) := L_a0.out.cell 0
  have c_a01 : (W3.alloc (.cells #[.int .i64 cd, .int .i64 D, .slice Aw V.length cw, .slice Bw F.length dw, .slice Cw U.length fw, .int .i64 idr] 53)).cell? ⟨w.heap.size, 1, none⟩ = some (.slice A0 n0 c0) := L_a0.out.cell 1
  have c_a02 : (W3.alloc (.cells #[.int .i64 cd, .int .i64 D, .slice Aw V.length cw, .slice Bw F.length dw, .slice Cw U.length fw, .int .i64 idr] 53)).cell? ⟨w.heap.size, 2, none⟩ = some (.slice B0 m0 e0) := L_a0.out.cell 2
  have c_a03 : (W3.alloc (.cells #[.int .i64 cd, .int .i64 D, .slice Aw V.length cw, .slice Bw F.length dw, .slice Cw U.length fw, .int .i64 idr] 53)).cell? ⟨w.heap.size, 3, none⟩ = some (.slice C0 l0 f0) := L_a0.out.cell 3
  go_wp2_with fail
  clear c_a00 c_a01 c_a02 c_a03
  refine (toArena_any _ _ _ _ _ _ _ _ _ _ ns0 fs0 rs0 _ (HP0.out.kept B.out) HS0.out).mono ?_
  rintro e W4 ⟨g1t0, g2t0, g3t0, nst0, rst0, rfl, ot0, vt0, ut0, b4⟩
  have sz_W4 := b4.size
  try simp only [World.size_alloc] at sz_W4
  replace L_a0 := Lib.hid (L_a0.out.kept b4 L_a0.out.inside)
  replace L_w0 := Lib.hid (L_w0.out.kept b4 L_w0.out.inside)
  replace JB := Lib.hid (JB.out.trans (b4.mono JB.out.size))
  replace B := Lib.hid (B.out.trans (b4.mono B.out.size))
  clear b4
  have HI_t0 : Hid (∀ c ∈ arCells (some ⟨g1t0, 0, none⟩) (some ⟨g2t0, 0, none⟩) (some ⟨g3t0, 0, none⟩) m0 nst0 rst0, c.block < W4.heap.size) := fun c hc => (ot0.each c hc).2.2.2
  have b1_t0 := ot0.b1
  try simp only [World.size_alloc] at b1_t0
  have O_t0 := Lib.hid ot0
  clear ot0
  have V_t0 := Lib.hid vt0
  have U_t0 := Lib.hid ut0
  clear vt0 ut0
  replace L_a0 := Lib.hid (L_a0.out.alloc (.cells #[.int .i64 dd0, .slice (some ⟨g1t0, 0, none⟩) n0 n0, .slice (some ⟨g2t0, 0, none⟩) m0 m0, .slice (some ⟨g3t0, 0, none⟩) l0 l0] 26))
  replace L_w0 := Lib.hid (L_w0.out.alloc (.cells #[.int .i64 dd0, .slice (some ⟨g1t0, 0, none⟩) n0 n0, .slice (some ⟨g2t0, 0, none⟩) m0 m0, .slice (some ⟨g3t0, 0, none⟩) l0 l0] 26))
  replace O_t0 := Lib.hid (O_t0.out.kept (below_alloc _ (.cells #[.int .i64 dd0, .slice (some ⟨g1t0, 0, none⟩) n0 n0, .slice (some ⟨g2t0, 0, none⟩) m0 m0, .slice (some ⟨g3t0, 0, none⟩) l0 l0] 26)))
  replace JB := Lib.hid (JB.out.alloc JB.out.size (.cells #[.int .i64 dd0, .slice (some ⟨g1t0, 0, none⟩) n0 n0, .slice (some ⟨g2t0, 0, none⟩) m0 m0, .slice (some ⟨g3t0, 0, none⟩) l0 l0] 26))
  have L_x0 := Lib.hid (Lies.new W4 26 #[.int .i64 dd0, .slice (some ⟨g1t0, 0, none⟩) n0 n0, .slice (some ⟨g2t0, 0, none⟩) m0 m0, .slice (some ⟨g3t0, 0, none⟩) l0 l0])
  replace B := Lib.hid (B.out.alloc B.out.size (.cells #[.int .i64 dd0, .slice (some ⟨g1t0, 0, none⟩) n0 n0, .slice (some ⟨g2t0, 0, none⟩) m0 m0, .slice (some ⟨g3t0, 0, none⟩) l0 l0] 26))
  have c_x00 : (W4.alloc (.cells #[.int .i64 dd0, .slice (some ⟨g1t0, 0, none⟩) n0 n0, .slice (some ⟨g2t0, 0, none⟩) m0 m0, .slice (some ⟨g3t0, 0, none⟩) l0 l0] 26)).cell? ⟨W4.heap.size, 0, none⟩ = some (.int .i64 dd0) := L_x0.out.cell 0
  have c_x01 : (W4.alloc (.cells #[.int .i64 dd0, .slice (some ⟨g1t0, 0, none⟩) n0 n0, .slice (some ⟨g2t0, 0, none⟩) m0 m0, .slice (some ⟨g3t0, 0, none⟩) l0 l0] 26)).cell? ⟨W4.heap.size, 1, none⟩ = some (.slice (some ⟨g1t0, 0, none⟩) n0 n0) := L_x0.out.cell 1
  have c_x02 : (W4.alloc (.cells #[.int .i64 dd0, .slice (some ⟨g1t0, 0, none⟩) n0 n0, .slice (some ⟨g2t0, 0, none⟩) m0 m0, .slice (some ⟨g3t0, 0, none⟩) l0 l0] 26)).cell? ⟨W4.heap.size, 2, none⟩ = some (.slice (some ⟨g2t0, 0, none⟩) m0 m0) := L_x0.out.cell 2
  have c_x03 : (W4.alloc (.cells #[.int .i64 dd0, .slice (some ⟨g1t0, 0, none⟩) n0 n0, .slice (some ⟨g2t0, 0, none⟩) m0 m0, .slice (some ⟨g3t0, 0, none⟩) l0 l0] 26)).cell? ⟨W4.heap.size, 3, none⟩ = some (.slice (some ⟨g3t0, 0, none⟩) l0 l0) := L_x0.out.cell 3
  go_wp2_with fail
  clear c_x00 c_x01 c_x02 c_x03
  refine (implEndWatch_is (cd := cd) (D := D) (idr := idr) (V := V) (F := F) (U := U) dd0 x1 _ _ _ _ _ _ _ _ _ nst0 fs0 rst0 _ (by rw [V_t0.out, U_t0.out]; exact HR.out) (O_t0.out.arena HS0.out.s1 HS0.out.s2 HS0.out.s3) hfew).mono ?_
  rintro e W5 ⟨Ag, cg, Bg, dg, Cg, fg, qg, tg, rfl, he, ve, ue, b5⟩
  have sz_W5 := b5.size
  try simp only [World.size_alloc] at sz_W5
  replace L_a0 := Lib.hid (L_a0.out.kept b5 L_a0.out.inside)
  replace L_w0 := Lib.hid (L_w0.out.kept b5 L_w0.out.inside)
  replace L_x0 := Lib.hid (L_x0.out.kept b5 L_x0.out.inside)
  replace O_t0 := Lib.hid (O_t0.out.kept b5)
  replace JB := Lib.hid (JB.out.trans (b5.mono JB.out.size))
  replace B := Lib.hid (B.out.trans (b5.mono B.out.size))
  clear b5
  try simp only [World.size_alloc] at he
  have E_g := Lib.hid he
  have VE_g := Lib.hid ve
  have UE_g := Lib.hid ue
  have HI_g := Lib.hid (fun (c : Addr) (hc : c ∈ arCells Ag Bg Cg F.length qg tg) => (he.each c hc).2.2.2)
  have hKf := he.few
  obtain ⟨K, hK⟩ : ∃ K, (arCells Ag Bg Cg F.length qg tg).length = K := ⟨_, rfl⟩
  rw [hK] at hKf
  have HK := Lib.hid hK
  clear hK
  clear he ve ue
  replace L_a0 := Lib.hid (L_a0.out.alloc (.cells #[.int .i64 cd, .int .i64 D, .slice Ag V.length cg, .slice Bg F.length dg, .slice Cg U.length fg, .int .i64 idr] 53))
  replace L_w0 := Lib.hid (L_w0.out.alloc (.cells #[.int .i64 cd, .int .i64 D, .slice Ag V.length cg, .slice Bg F.length dg, .slice Cg U.length fg, .int .i64 idr] 53))
  replace L_x0 := Lib.hid (L_x0.out.alloc (.cells #[.int .i64 cd, .int .i64 D, .slice Ag V.length cg, .slice Bg F.length dg, .slice Cg U.length fg, .int .i64 idr] 53))
  replace O_t0 := Lib.hid (O_t0.out.kept (below_alloc _ (.cells #[.int .i64 cd, .int .i64 D, .slice Ag V.length cg, .slice Bg F.length dg, .slice Cg U.length fg, .int .i64 idr] 53)))
  replace E_g := Lib.hid (E_g.out.kept (below_alloc _ (.cells #[.int .i64 cd, .int .i64 D, .slice Ag V.length cg, .slice Bg F.length dg, .slice Cg U.length fg, .int .i64 idr] 53)))
  replace JB := Lib.hid (JB.out.alloc JB.out.size (.cells #[.int .i64 cd, .int .i64 D, .slice Ag V.length cg, .slice Bg F.length dg, .slice Cg U.length fg, .int .i64 idr] 53))
  have L_g0 := Lib.hid (Lies.new W5 53 #[.int .i64 cd, .int .i64 D, .slice Ag V.length cg, .slice Bg F.length dg, .slice Cg U.length fg, .int .i64 idr])
  replace B := Lib.hid (B.out.alloc B.out.size (.cells #[.int .i64 cd, .int .i64 D, .slice Ag V.length cg, .slice Bg F.length dg, .slice Cg U.length fg, .int .i64 idr] 53))
  have c_w00 : (W5.alloc (.cells #[.int .i64 cd, .int .i64 D, .slice Ag V.length cg, .slice Bg F.length dg, .slice Cg U.length fg, .int .i64 idr] 53)).cell? ⟨W3.heap.size, 0, none⟩ = some (.int .i64 cd) := L_w0.out.cell 0
  have c_w01 : (W5.alloc (.cells #[.int .i64 cd, .int .i64 D, .slice Ag V.length cg, .slice Bg F.length dg, .slice Cg U.length fg, .int .i64 idr] 53)).cell? ⟨W3.heap.size, 1, none⟩ = some (.int .i64 D) := L_w0.out.cell 1
  have c_w02 : (W5.alloc (.cells #[.int .i64 cd, .int .i64 D, .slice Ag V.length cg, .slice Bg F.length dg, .slice Cg U.length fg, .int .i64 idr] 53)).cell? ⟨W3.heap.size, 2, none⟩ = some (.slice Aw V.length cw) := L_w0.out.cell 2
  have c_w03 : (W5.alloc (.cells #[.int .i64 cd, .int .i64 D, .slice Ag V.length cg, .slice Bg F.length dg, .slice Cg U.length fg, .int .i64 idr] 53)).cell? ⟨W3.heap.size, 3, none⟩ = some (.slice Bw F.length dw) := L_w0.out.cell 3
  have c_w04 : (W5.alloc (.cells #[.int .i64 cd, .int .i64 D, .slice Ag V.length cg, .slice Bg F.length dg, .slice Cg U.length fg, .int .i64 idr] 53)).cell? ⟨W3.heap.size, 4, none⟩ = some (.slice Cw U.length fw) := L_w0.out.cell 4
  have c_w05 : (W5.alloc (.cells #[.int .i64 cd, .int .i64 D, .slice Ag V.length cg, .slice Bg F.length dg, .slice Cg U.length fg, .int .i64 idr] 53)).cell? ⟨W3.heap.size, 5, none⟩ = some (.int .i64 idr) := L_w0.out.cell 5
  have c_g00 : (W5.alloc (.cells #[.int .i64 cd, .int .i64 D, .slice Ag V.length cg, .slice Bg F.length dg, .slice Cg U.length fg, .int .i64 idr] 53)).cell? ⟨W5.heap.size, 0, none⟩ = some (.int .i64 cd) := L_g0.out.cell 0
  have c_g01 : (W5.alloc (.cells #[.int .i64 cd, .int .i64 D, .slice Ag V.length cg, .slice Bg F.length dg, .slice Cg U.length fg, .int .i64 idr] 53)).cell? ⟨W5.heap.size, 1, none⟩ = some (.int .i64 D) := L_g0.out.cell 1
  have c_g02 : (W5.alloc (.cells #[.int .i64 cd, .int .i64 D, .slice Ag V.length cg, .slice Bg F.length dg, .slice Cg U.length fg, .int .i64 idr] 53)).cell? ⟨W5.heap.size, 2, none⟩ = some (.slice Ag V.length cg) := L_g0.out.cell 2
  have c_g03 : (W5.alloc (.cells #[.int .i64 cd, .int .i64 D, .slice Ag V.length cg, .slice Bg F.length dg, .slice Cg U.length fg, .int .i64 idr] 53)).cell? ⟨W5.heap.size, 3, none⟩ = some (.slice Bg F.length dg) := L_g0.out.cell 3
  have c_g04 : (W5.alloc (.cells #[.int .i64 cd, .int .i64 D, .slice Ag V.length cg, .slice Bg F.length dg, .slice Cg U.length fg, .int .i64 idr] 53)).cell? ⟨W5.heap.size, 4, none⟩ = some (.slice Cg U.length fg) := L_g0.out.cell 4
  have c_g05 : (W5.alloc (.cells #[.int .i64 cd, .int .i64 D, .slice Ag V.length cg, .slice Bg F.length dg, .slice Cg U.length fg, .int .i64 idr] 53)).cell? ⟨W5.heap.size, 5, none⟩ = some (.int .i64 idr) := L_g0.out.cell 5
  go_wp2_with fail
  clear c_w00 c_w01 c_w02 c_w03 c_w04 c_w05
  clear c_g00 c_g01 c_g02 c_g03 c_g04 c_g05
  refine (eqArenaResult_same _ _ _ _ _ _ _ _ _ qw tw _ _ _ _ _ _ _ _ _ qg F tg _ E_g.out.arena (J.out.kept JB.out) (VE_g.out.trans VJ.out.symm) (UE_g.out.trans UJ.out.symm)).mono ?_
  rintro e W6 ⟨rfl, b6⟩
  have sz_W6 := b6.size
  try simp only [World.size_alloc] at sz_W6
  replace L_a0 := Lib.hid (L_a0.out.kept b6 L_a0.out.inside)
  replace L_w0 := Lib.hid (L_w0.out.kept b6 L_w0.out.inside)
  replace L_x0 := Lib.hid (L_x0.out.kept b6 L_x0.out.inside)
  replace L_g0 := Lib.hid (L_g0.out.kept b6 L_g0.out.inside)
  replace O_t0 := Lib.hid (O_t0.out.kept b6)
  replace E_g := Lib.hid (E_g.out.kept b6)
  replace JB := Lib.hid (JB.out.trans (b6.mono JB.out.size))
  replace B := Lib.hid (B.out.trans (b6.mono B.out.size))
  clear b6
  go_wp2_with fail
  have k_0 : W6.cell? ⟨W4.heap.size, 0, none⟩ = some (.int .i64 dd0) ∧ W6.cell? ⟨W4.heap.size, 1, none⟩ = some (.slice (some ⟨g1t0, 0, none⟩) n0 n0) ∧ W6.cell? ⟨W4.heap.size, 2, none⟩ = some (.slice (some ⟨g2t0, 0, none⟩) m0 m0) ∧ W6.cell? ⟨W4.heap.size, 3, none⟩ = some (.slice (some ⟨g3t0, 0, none⟩) l0 l0) ∧ W6.cell? ⟨w.heap.size, 0, none⟩ = some (.int .i64 dd0) ∧ W6.cell? ⟨w.heap.size, 1, none⟩ = some (.slice A0 n0 c0) ∧ W6.cell? ⟨w.heap.size, 2, none⟩ = some (.slice B0 m0 e0) ∧ W6.cell? ⟨w.heap.size, 3, none⟩ = some (.slice C0 l0 f0) := ⟨L_x0.out.cell 0, L_x0.out.cell 1, L_x0.out.cell 2, L_x0.out.cell 3, L_a0.out.cell 0, L_a0.out.cell 1, L_a0.out.cell 2, L_a0.out.cell 3⟩
  go_region_held3 (fun w' => w'.cell? ⟨W4.heap.size, 0, none⟩ = some (.int .i64 dd0) ∧ w'.cell? ⟨W4.heap.size, 1, none⟩ = some (.slice (some ⟨g1t0, 0, none⟩) n0 n0) ∧ w'.cell? ⟨W4.heap.size, 2, none⟩ = some (.slice (some ⟨g2t0, 0, none⟩) m0 m0) ∧ w'.cell? ⟨W4.heap.size, 3, none⟩ = some (.slice (some ⟨g3t0, 0, none⟩) l0 l0) ∧ w'.cell? ⟨w.heap.size, 0, none⟩ = some (.int .i64 dd0) ∧ w'.cell? ⟨w.heap.size, 1, none⟩ = some (.slice A0 n0 c0) ∧ w'.cell? ⟨w.heap.size, 2, none⟩ = some (.slice B0 m0 e0) ∧ w'.cell? ⟨w.heap.size, 3, none⟩ = some (.slice C0 l0 f0))
    (first | (simp [go_sem, k_0]; done) | with_reducible exact k_1 | with_reducible exact k_2)
    (first
      | (go_at_call 14; refine (toArena_any _ _ _ _ _ _ _ _ _ _ ns0 fs0 rs0 _ (HP0.out.kept B.out.drew) HS0.out).mono ?_
         rintro e Wx0 ⟨g1t0z, g2t0z, g3t0z, nst0z, rst0z, rfl, ot0z, vt0z, ut0z, bxd⟩
         have bx := below_drawn bxd
         have k_1 : Wx0.cell? ⟨W4.heap.size, 0, none⟩ = some (.int .i64 dd0) ∧ Wx0.cell? ⟨W4.heap.size, 1, none⟩ = some (.slice (some ⟨g1t0, 0, none⟩) n0 n0) ∧ Wx0.cell? ⟨W4.heap.size, 2, none⟩ = some (.slice (some ⟨g2t0, 0, none⟩) m0 m0) ∧ Wx0.cell? ⟨W4.heap.size, 3, none⟩ = some (.slice (some ⟨g3t0, 0, none⟩) l0 l0) ∧ Wx0.cell? ⟨w.heap.size, 0, none⟩ = some (.int .i64 dd0) ∧ Wx0.cell? ⟨w.heap.size, 1, none⟩ = some (.slice A0 n0 c0) ∧ Wx0.cell? ⟨w.heap.size, 2, none⟩ = some (.slice B0 m0 e0) ∧ Wx0.cell? ⟨w.heap.size, 3, none⟩ = some (.slice C0 l0 f0) := ⟨(L_x0.out.kept bx L_x0.out.inside).cell 0, (L_x0.out.kept bx L_x0.out.inside).cell 1, (L_x0.out.kept bx L_x0.out.inside).cell 2, (L_x0.out.kept bx L_x0.out.inside).cell 3, (L_a0.out.kept bx L_a0.out.inside).cell 0, (L_a0.out.kept bx L_a0.out.inside).cell 1, (L_a0.out.kept bx L_a0.out.inside).cell 2, (L_a0.out.kept bx L_a0.out.inside).cell 3⟩
         clear bxd)
      | (go_at_call 17; refine (eqArena_same _ _ _ _ _ _ _ nst0z rst0z _ _ _ _ _ _ _ _ _ nst0 fs0 rst0 _ ((O_t0.out.kept bx).arena HS0.out.s1 HS0.out.s2 HS0.out.s3) (ot0z.arena HS0.out.s1 HS0.out.s2 HS0.out.s3) (V_t0.out.trans vt0z.symm) (U_t0.out.trans ut0z.symm)).mono ?_
         rintro e Wy0 ⟨rfl, by1⟩
         have k_2 : Wy0.cell? ⟨W4.heap.size, 0, none⟩ = some (.int .i64 dd0) ∧ Wy0.cell? ⟨W4.heap.size, 1, none⟩ = some (.slice (some ⟨g1t0, 0, none⟩) n0 n0) ∧ Wy0.cell? ⟨W4.heap.size, 2, none⟩ = some (.slice (some ⟨g2t0, 0, none⟩) m0 m0) ∧ Wy0.cell? ⟨W4.heap.size, 3, none⟩ = some (.slice (some ⟨g3t0, 0, none⟩) l0 l0) ∧ Wy0.cell? ⟨w.heap.size, 0, none⟩ = some (.int .i64 dd0) ∧ Wy0.cell? ⟨w.heap.size, 1, none⟩ = some (.slice A0 n0 c0) ∧ Wy0.cell? ⟨w.heap.size, 2, none⟩ = some (.slice B0 m0 e0) ∧ Wy0.cell? ⟨w.heap.size, 3, none⟩ = some (.slice C0 l0 f0) := ⟨((L_x0.out.kept bx L_x0.out.inside).kept by1 (L_x0.out.kept bx L_x0.out.inside).inside).cell 0, ((L_x0.out.kept bx L_x0.out.inside).kept by1 (L_x0.out.kept bx L_x0.out.inside).inside).cell 1, ((L_x0.out.kept bx L_x0.out.inside).kept by1 (L_x0.out.kept bx L_x0.out.inside).inside).cell 2, ((L_x0.out.kept bx L_x0.out.inside).kept by1 (L_x0.out.kept bx L_x0.out.inside).inside).cell 3, ((L_a0.out.kept bx L_a0.out.inside).kept by1 (L_a0.out.kept bx L_a0.out.inside).inside).cell 0, ((L_a0.out.kept bx L_a0.out.inside).kept by1 (L_a0.out.kept bx L_a0.out.inside).inside).cell 1, ((L_a0.out.kept bx L_a0.out.inside).kept by1 (L_a0.out.kept bx L_a0.out.inside).inside).cell 2, ((L_a0.out.kept bx L_a0.out.inside).kept by1 (L_a0.out.kept bx L_a0.out.inside).inside).cell 3⟩))
  clear k_0 k_1 k_2 ot0z vt0z ut0z
  have sz_Wx0 := bx.size
  try simp only [World.size_alloc] at sz_Wx0
  replace L_a0 := Lib.hid (L_a0.out.kept bx L_a0.out.inside)
  replace L_w0 := Lib.hid (L_w0.out.kept bx L_w0.out.inside)
  replace L_x0 := Lib.hid (L_x0.out.kept bx L_x0.out.inside)
  replace L_g0 := Lib.hid (L_g0.out.kept bx L_g0.out.inside)
  replace O_t0 := Lib.hid (O_t0.out.kept bx)
  replace E_g := Lib.hid (E_g.out.kept bx)
  replace JB := Lib.hid (JB.out.trans (bx.mono JB.out.size))
  replace B := Lib.hid (B.out.trans (bx.mono B.out.size))
  clear bx
  have sz_Wy0 := by1.size
  try simp only [World.size_alloc] at sz_Wy0
  replace L_a0 := Lib.hid (L_a0.out.kept by1 L_a0.out.inside)
  replace L_w0 := Lib.hid (L_w0.out.kept by1 L_w0.out.inside)
  replace L_x0 := Lib.hid (L_x0.out.kept by1 L_x0.out.inside)
  replace L_g0 := Lib.hid (L_g0.out.kept by1 L_g0.out.inside)
  replace O_t0 := Lib.hid (O_t0.out.kept by1)
  replace E_g := Lib.hid (E_g.out.kept by1)
  replace JB := Lib.hid (JB.out.trans (by1.mono JB.out.size))
  replace B := Lib.hid (B.out.trans (by1.mono B.out.size))
  clear by1
  have c_x00 : Wy0.cell? ⟨W4.heap.size, 0, none⟩ = some (.int .i64 dd0) := L_x0.out.cell 0
  have c_x01 : Wy0.cell? ⟨W4.heap.size, 1, none⟩ = some (.slice (some ⟨g1t0, 0, none⟩) n0 n0) := L_x0.out.cell 1
  have c_x02 : Wy0.cell? ⟨W4.heap.size, 2, none⟩ = some (.slice (some ⟨g2t0, 0, none⟩) m0 m0) := L_x0.out.cell 2
  have c_x03 : Wy0.cell? ⟨W4.heap.size, 3, none⟩ = some (.slice (some ⟨g3t0, 0, none⟩) l0 l0) := L_x0.out.cell 3
  go_wp2_with fail
  clear c_x00 c_x01 c_x02 c_x03
  refine (markArena_arg 1 _ W4.heap.size _ _ _ _ _ _ _ _ _ _ nst0 fs0 rst0 _ O_t0.out (by unfold FewA; rw [V_t0.out, U_t0.out]; exact HF0.out) HI_t0.out (by decide) (by decide)).mono ?_
  rintro e W7 ⟨rm0, rfl, hrm0, t7⟩
  have sz_W7 := t7.2.1
  try simp only [World.size_alloc] at sz_W7
  clear O_t0
  replace L_a0 := Lib.hid (t7.lies L_a0.out (fun hx => by have h1 := hx.1; have h2 := hx.2; (try simp only [World.size_alloc] at h1 h2); omega))
  replace L_w0 := Lib.hid (t7.lies L_w0.out (fun hx => by have h1 := hx.1; have h2 := hx.2; (try simp only [World.size_alloc] at h1 h2); omega))
  replace L_x0 := Lib.hid (t7.lies L_x0.out (fun hx => by have h1 := hx.1; have h2 := hx.2; (try simp only [World.size_alloc] at h1 h2); omega))
  replace L_g0 := Lib.hid (t7.lies L_g0.out (fun hx => by have h1 := hx.1; have h2 := hx.2; (try simp only [World.size_alloc] at h1 h2); omega))
  replace E_g := Lib.hid (E_g.out.turned t7 (fun x hx => by have h1 := hx.1; have h2 := hx.2; (try simp only [World.size_alloc] at h1 h2); omega))
  replace JB := Lib.hid (t7.below JB.out (by intro x hx; have h1 := hx.1; have h2 := hx.2; (try simp only [World.size_alloc] at h1 h2); omega))
  replace B := Lib.hid (t7.below B.out (by intro x hx; show w.heap.size ≤ x; have h1 := hx.1; have h2 := hx.2; (try simp only [World.size_alloc] at h1 h2); omega))
  clear t7
  have kpos0 : ¬ rm0 < 0 := by omega
  have c_w00 : W7.cell? ⟨W3.heap.size, 0, none⟩ = some (.int .i64 cd) := L_w0.out.cell 0
  have c_w01 : W7.cell? ⟨W3.heap.size, 1, none⟩ = some (.int .i64 D) := L_w0.out.cell 1
  have c_w02 : W7.cell? ⟨W3.heap.size, 2, none⟩ = some (.slice Aw V.length cw) := L_w0.out.cell 2
  have c_w03 : W7.cell? ⟨W3.heap.size, 3, none⟩ = some (.slice Bw F.length dw) := L_w0.out.cell 3
  have c_w04 : W7.cell? ⟨W3.heap.size, 4, none⟩ = some (.slice Cw U.length fw) := L_w0.out.cell 4
  have c_w05 : W7.cell? ⟨W3.heap.size, 5, none⟩ = some (.int .i64 idr) := L_w0.out.cell 5
  have c_g00 : W7.cell? ⟨W5.heap.size, 0, none⟩ = some (.int .i64 cd) := L_g0.out.cell 0
  have c_g01 : W7.cell? ⟨W5.heap.size, 1, none⟩ = some (.int .i64 D) := L_g0.out.cell 1
  have c_g02 : W7.cell? ⟨W5.heap.size, 2, none⟩ = some (.slice Ag V.length cg) := L_g0.out.cell 2
  have c_g03 : W7.cell? ⟨W5.heap.size, 3, none⟩ = some (.slice Bg F.length dg) := L_g0.out.cell 3
  have c_g04 : W7.cell? ⟨W5.heap.size, 4, none⟩ = some (.slice Cg U.length fg) := L_g0.out.cell 4
  have c_g05 : W7.cell? ⟨W5.heap.size, 5, none⟩ = some (.int .i64 idr) := L_g0.out.cell 5
  go_wp2_with fail
  clear c_w00 c_w01 c_w02 c_w03 c_w04 c_w05
  clear c_g00 c_g01 c_g02 c_g03 c_g04 c_g05
  refine (eqArenaResult_same _ _ _ _ _ _ _ _ _ qw tw _ _ _ _ _ _ _ _ _ qg F tg _ E_g.out.arena (J.out.kept JB.out) (VE_g.out.trans VJ.out.symm) (UE_g.out.trans UJ.out.symm)).mono ?_
  rintro e W8 ⟨rfl, b8⟩
  have sz_W8 := b8.size
  try simp only [World.size_alloc] at sz_W8
  replace L_a0 := Lib.hid (L_a0.out.kept b8 L_a0.out.inside)
  replace L_w0 := Lib.hid (L_w0.out.kept b8 L_w0.out.inside)
  replace L_x0 := Lib.hid (L_x0.out.kept b8 L_x0.out.inside)
  replace L_g0 := Lib.hid (L_g0.out.kept b8 L_g0.out.inside)
  replace E_g := Lib.hid (E_g.out.kept b8)
  replace JB := Lib.hid (JB.out.trans (b8.mono JB.out.size))
  replace B := Lib.hid (B.out.trans (b8.mono B.out.size))
  clear b8
  have c_g00 : W8.cell? ⟨W5.heap.size, 0, none⟩ = some (.int .i64 cd) := L_g0.out.cell 0
  have c_g01 : W8.cell? ⟨W5.heap.size, 1, none⟩ = some (.int .i64 D) := L_g0.out.cell 1
  have c_g02 : W8.cell? ⟨W5.heap.size, 2, none⟩ = some (.slice Ag V.length cg) := L_g0.out.cell 2
  have c_g03 : W8.cell? ⟨W5.heap.size, 3, none⟩ = some (.slice Bg F.length dg) := L_g0.out.cell 3
  have c_g04 : W8.cell? ⟨W5.heap.size, 4, none⟩ = some (.slice Cg U.length fg) := L_g0.out.cell 4
  have c_g05 : W8.cell? ⟨W5.heap.size, 5, none⟩ = some (.int .i64 idr) := L_g0.out.cell 5
  go_wp2_with fail
  clear c_g00 c_g01 c_g02 c_g03 c_g04 c_g05
  refine (markAns_any _ _ _ _ W5.heap.size _ _ _ _ _ _ _ _ _ qg F tg _ E_g.out HI_g.out HK.out).mono ?_
  rintro e W9 ⟨rfl, em, t9⟩
  have sz_W9 := t9.2.1
  try simp only [World.size_alloc] at sz_W9
  replace L_a0 := Lib.hid (t9.lies L_a0.out (fun hx => by have h1 := hx.1; have h2 := hx.2; (try simp only [World.size_alloc] at h1 h2); omega))
  replace L_w0 := Lib.hid (t9.lies L_w0.out (fun hx => by have h1 := hx.1; have h2 := hx.2; (try simp only [World.size_alloc] at h1 h2); omega))
  replace L_x0 := Lib.hid (t9.lies L_x0.out (fun hx => by have h1 := hx.1; have h2 := hx.2; (try simp only [World.size_alloc] at h1 h2); omega))
  replace L_g0 := Lib.hid (t9.lies L_g0.out (fun hx => by have h1 := hx.1; have h2 := hx.2; (try simp only [World.size_alloc] at h1 h2); omega))
  replace JB := Lib.hid (t9.below JB.out (by intro x hx; have h1 := hx.1; have h2 := hx.2; (try simp only [World.size_alloc] at h1 h2); omega))
  replace B := Lib.hid (t9.below B.out (by intro x hx; show w.heap.size ≤ x; have h1 := hx.1; have h2 := hx.2; (try simp only [World.size_alloc] at h1 h2); omega))
  replace E_g := Lib.hid em
  clear em
  have qpos : ¬ ((1 : Int) + (K : Int) < 0) := by omega
  have qeq : (((1 : Int) + (K : Int)) != (1 + (K : Int))) = false := by simp
  clear t9
  have c_g00 : W9.cell? ⟨W5.heap.size, 0, none⟩ = some (.int .i64 cd) := L_g0.out.cell 0
  have c_g01 : W9.cell? ⟨W5.heap.size, 1, none⟩ = some (.int .i64 D) := L_g0.out.cell 1
  have c_g02 : W9.cell? ⟨W5.heap.size, 2, none⟩ = some (.slice Ag V.length cg) := L_g0.out.cell 2
  have c_g03 : W9.cell? ⟨W5.heap.size, 3, none⟩ = some (.slice Bg F.length dg) := L_g0.out.cell 3
  have c_g04 : W9.cell? ⟨W5.heap.size, 4, none⟩ = some (.slice Cg U.length fg) := L_g0.out.cell 4
  have c_g05 : W9.cell? ⟨W5.heap.size, 5, none⟩ = some (.int .i64 idr) := L_g0.out.cell 5
  go_wp2_with fail
  clear c_g00 c_g01 c_g02 c_g03 c_g04 c_g05
  refine (heldAns_any _ _ _ _ _ _ _ _ _ _ _ _ qg tg _ E_g.out HK.out hKf).mono ?_
  rintro e W10 ⟨rfl, b10⟩
  have sz_W10 := b10.size
  try simp only [World.size_alloc] at sz_W10
  replace L_a0 := Lib.hid (L_a0.out.kept b10 L_a0.out.inside)
  replace L_w0 := Lib.hid (L_w0.out.kept b10 L_w0.out.inside)
  replace L_x0 := Lib.hid (L_x0.out.kept b10 L_x0.out.inside)
  replace L_g0 := Lib.hid (L_g0.out.kept b10 L_g0.out.inside)
  replace E_g := Lib.hid (E_g.out.kept b10)
  replace JB := Lib.hid (JB.out.trans (b10.mono JB.out.size))
  replace B := Lib.hid (B.out.trans (b10.mono B.out.size))
  clear b10
  have c_a00 : W10.cell? ⟨w.heap.size, 0, none⟩ = some (.int .i64 dd0) := L_a0.out.cell 0
  have c_a01 : W10.cell? ⟨w.heap.size, 1, none⟩ = some (.slice A0 n0 c0) := L_a0.out.cell 1
  have c_a02 : W10.cell? ⟨w.heap.size, 2, none⟩ = some (.slice B0 m0 e0) := L_a0.out.cell 2
  have c_a03 : W10.cell? ⟨w.heap.size, 3, none⟩ = some (.slice C0 l0 f0) := L_a0.out.cell 3
  go_wp2_with fail
  clear c_a00 c_a01 c_a02 c_a03
  refine (toArena_any _ _ _ _ _ _ _ _ _ _ ns0 fs0 rs0 _ (HP0.out.kept B.out) HS0.out).mono ?_
  rintro e W11 ⟨g1r0, g2r0, g3r0, nsr0, rsr0, rfl, or0, vr0, ur0, b11⟩
  have sz_W11 := b11.size
  try simp only [World.size_alloc] at sz_W11
  replace L_a0 := Lib.hid (L_a0.out.kept b11 L_a0.out.inside)
  replace L_w0 := Lib.hid (L_w0.out.kept b11 L_w0.out.inside)
  replace L_x0 := Lib.hid (L_x0.out.kept b11 L_x0.out.inside)
  replace L_g0 := Lib.hid (L_g0.out.kept b11 L_g0.out.inside)
  replace E_g := Lib.hid (E_g.out.kept b11)
  replace JB := Lib.hid (JB.out.trans (b11.mono JB.out.size))
  replace B := Lib.hid (B.out.trans (b11.mono B.out.size))
  clear b11
  have O_r0 := Lib.hid or0
  clear or0
  have V_r0 := Lib.hid vr0
  have U_r0 := Lib.hid ur0
  clear vr0 ur0
  go_wp2_with fail
  refine (implEndWatch_is (cd := cd) (D := D) (idr := idr) (V := V) (F := F) (U := U) dd0 x1 _ _ _ _ _ _ _ _ _ nsr0 fs0 rsr0 _ (by rw [V_r0.out, U_r0.out]; exact HR.out) (O_r0.out.arena HS0.out.s1 HS0.out.s2 HS0.out.s3) hfew).mono ?_
  rintro e W12 ⟨Ah, ch, Bh, dh, Ch, fh, qh, th, rfl, he, ve, ue, b12⟩
  have sz_W12 := b12.size
  try simp only [World.size_alloc] at sz_W12
  replace L_a0 := Lib.hid (L_a0.out.kept b12 L_a0.out.inside)
  replace L_w0 := Lib.hid (L_w0.out.kept b12 L_w0.out.inside)
  replace L_x0 := Lib.hid (L_x0.out.kept b12 L_x0.out.inside)
  replace L_g0 := Lib.hid (L_g0.out.kept b12 L_g0.out.inside)
  replace O_r0 := Lib.hid (O_r0.out.kept b12)
  replace E_g := Lib.hid (E_g.out.kept b12)
  replace JB := Lib.hid (JB.out.trans (b12.mono JB.out.size))
  replace B := Lib.hid (B.out.trans (b12.mono B.out.size))
  clear b12
  clear O_r0
  clear V_r0 U_r0
  try simp only [World.size_alloc] at he
  have E_h := Lib.hid he
  have VE_h := Lib.hid ve
  have UE_h := Lib.hid ue
  clear he ve ue
  replace L_a0 := Lib.hid (L_a0.out.alloc (.cells #[.int .i64 cd, .int .i64 D, .slice Ah V.length ch, .slice Bh F.length dh, .slice Ch U.length fh, .int .i64 idr] 53))
  replace L_w0 := Lib.hid (L_w0.out.alloc (.cells #[.int .i64 cd, .int .i64 D, .slice Ah V.length ch, .slice Bh F.length dh, .slice Ch U.length fh, .int .i64 idr] 53))
  replace L_x0 := Lib.hid (L_x0.out.alloc (.cells #[.int .i64 cd, .int .i64 D, .slice Ah V.length ch, .slice Bh F.length dh, .slice Ch U.length fh, .int .i64 idr] 53))
  replace L_g0 := Lib.hid (L_g0.out.alloc (.cells #[.int .i64 cd, .int .i64 D, .slice Ah V.length ch, .slice Bh F.length dh, .slice Ch U.length fh, .int .i64 idr] 53))
  replace E_g := Lib.hid (E_g.out.kept (below_alloc _ (.cells #[.int .i64 cd, .int .i64 D, .slice Ah V.length ch, .slice Bh F.length dh, .slice Ch U.length fh, .int .i64 idr] 53)))
  replace E_h := Lib.hid (E_h.out.kept (below_alloc _ (.cells #[.int .i64 cd, .int .i64 D, .slice Ah V.length ch, .slice Bh F.length dh, .slice Ch U.length fh, .int .i64 idr] 53)))
  replace JB := Lib.hid (JB.out.alloc JB.out.size (.cells #[.int .i64 cd, .int .i64 D, .slice Ah V.length ch, .slice Bh F.length dh, .slice Ch U.length fh, .int .i64 idr] 53))
  have L_h0 := Lib.hid (Lies.new W12 53 #[.int .i64 cd, .int .i64 D, .slice Ah V.length ch, .slice Bh F.length dh, .slice Ch U.length fh, .int .i64 idr])
  replace B := Lib.hid (B.out.alloc B.out.size (.cells #[.int .i64 cd, .int .i64 D, .slice Ah V.length ch, .slice Bh F.length dh, .slice Ch U.length fh, .int .i64 idr] 53))
  have c_h00 : (W12.alloc (.cells #[.int .i64 cd, .int .i64 D, .slice Ah V.length ch, .slice Bh F.length dh, .slice Ch U.length fh, .int .i64 idr] 53)).cell? ⟨W12.heap.size, 0, none⟩ = some (.int .i64 cd) := L_h0.out.cell 0
  have c_h01 : (W12.alloc (.cells #[.int .i64 cd, .int .i64 D, .slice Ah V.length ch, .slice Bh F.length dh, .slice Ch U.length fh, .int .i64 idr] 53)).cell? ⟨W12.heap.size, 1, none⟩ = some (.int .i64 D) := L_h0.out.cell 1
  have c_h02 : (W12.alloc (.cells #[.int .i64 cd, .int .i64 D, .slice Ah V.length ch, .slice Bh F.length dh, .slice Ch U.length fh, .int .i64 idr] 53)).cell? ⟨W12.heap.size, 2, none⟩ = some (.slice Ah V.length ch) := L_h0.out.cell 2
  have c_h03 : (W12.alloc (.cells #[.int .i64 cd, .int .i64 D, .slice Ah V.length ch, .slice Bh F.length dh, .slice Ch U.length fh, .int .i64 idr] 53)).cell? ⟨W12.heap.size, 3, none⟩ = some (.slice Bh F.length dh) := L_h0.out.cell 3
  have c_h04 : (W12.alloc (.cells #[.int .i64 cd, .int .i64 D, .slice Ah V.length ch, .slice Bh F.length dh, .slice Ch U.length fh, .int .i64 idr] 53)).cell? ⟨W12.heap.size, 4, none⟩ = some (.slice Ch U.length fh) := L_h0.out.cell 4
  have c_h05 : (W12.alloc (.cells #[.int .i64 cd, .int .i64 D, .slice Ah V.length ch, .slice Bh F.length dh, .slice Ch U.length fh, .int .i64 idr] 53)).cell? ⟨W12.heap.size, 5, none⟩ = some (.int .i64 idr) := L_h0.out.cell 5
  have c_w00 : (W12.alloc (.cells #[.int .i64 cd, .int .i64 D, .slice Ah V.length ch, .slice Bh F.length dh, .slice Ch U.length fh, .int .i64 idr] 53)).cell? ⟨W3.heap.size, 0, none⟩ = some (.int .i64 cd) := L_w0.out.cell 0
  have c_w01 : (W12.alloc (.cells #[.int .i64 cd, .int .i64 D, .slice Ah V.length ch, .slice Bh F.length dh, .slice Ch U.length fh, .int .i64 idr] 53)).cell? ⟨W3.heap.size, 1, none⟩ = some (.int .i64 D) := L_w0.out.cell 1
  have c_w02 : (W12.alloc (.cells #[.int .i64 cd, .int .i64 D, .slice Ah V.length ch, .slice Bh F.length dh, .slice Ch U.length fh, .int .i64 idr] 53)).cell? ⟨W3.heap.size, 2, none⟩ = some (.slice Aw V.length cw) := L_w0.out.cell 2
  have c_w03 : (W12.alloc (.cells #[.int .i64 cd, .int .i64 D, .slice Ah V.length ch, .slice Bh F.length dh, .slice Ch U.length fh, .int .i64 idr] 53)).cell? ⟨W3.heap.size, 3, none⟩ = some (.slice Bw F.length dw) := L_w0.out.cell 3
  have c_w04 : (W12.alloc (.cells #[.int .i64 cd, .int .i64 D, .slice Ah V.length ch, .slice Bh F.length dh, .slice Ch U.length fh, .int .i64 idr] 53)).cell? ⟨W3.heap.size, 4, none⟩ = some (.slice Cw U.length fw) := L_w0.out.cell 4
  have c_w05 : (W12.alloc (.cells #[.int .i64 cd, .int .i64 D, .slice Ah V.length ch, .slice Bh F.length dh, .slice Ch U.length fh, .int .i64 idr] 53)).cell? ⟨W3.heap.size, 5, none⟩ = some (.int .i64 idr) := L_w0.out.cell 5
  go_wp2_with fail
  clear c_h00 c_h01 c_h02 c_h03 c_h04 c_h05
  clear c_w00 c_w01 c_w02 c_w03 c_w04 c_w05
  refine (eqArenaResult_same _ _ _ _ _ _ _ _ _ qw tw _ _ _ _ _ _ _ _ _ qh F th _ E_h.out.arena (J.out.kept JB.out) (VE_h.out.trans VJ.out.symm) (UE_h.out.trans UJ.out.symm)).mono ?_
  rintro e W13 ⟨rfl, b13⟩
  have sz_W13 := b13.size
  try simp only [World.size_alloc] at sz_W13
  replace L_a0 := Lib.hid (L_a0.out.kept b13 L_a0.out.inside)
  replace L_w0 := Lib.hid (L_w0.out.kept b13 L_w0.out.inside)
  replace L_x0 := Lib.hid (L_x0.out.kept b13 L_x0.out.inside)
  replace L_g0 := Lib.hid (L_g0.out.kept b13 L_g0.out.inside)
  replace L_h0 := Lib.hid (L_h0.out.kept b13 L_h0.out.inside)
  replace E_g := Lib.hid (E_g.out.kept b13)
  replace E_h := Lib.hid (E_h.out.kept b13)
  replace JB := Lib.hid (JB.out.trans (b13.mono JB.out.size))
  replace B := Lib.hid (B.out.trans (b13.mono B.out.size))
  clear b13
  have c_g00 : W13.cell? ⟨W5.heap.size, 0, none⟩ = some (.int .i64 cd) := L_g0.out.cell 0
  have c_g01 : W13.cell? ⟨W5.heap.size, 1, none⟩ = some (.int .i64 D) := L_g0.out.cell 1
  have c_g02 : W13.cell? ⟨W5.heap.size, 2, none⟩ = some (.slice Ag V.length cg) := L_g0.out.cell 2
  have c_g03 : W13.cell? ⟨W5.heap.size, 3, none⟩ = some (.slice Bg F.length dg) := L_g0.out.cell 3
  have c_g04 : W13.cell? ⟨W5.heap.size, 4, none⟩ = some (.slice Cg U.length fg) := L_g0.out.cell 4
  have c_g05 : W13.cell? ⟨W5.heap.size, 5, none⟩ = some (.int .i64 idr) := L_g0.out.cell 5
  go_wp2_with fail
  clear c_g00 c_g01 c_g02 c_g03 c_g04 c_g05
  refine (heldAns_any _ _ _ _ _ _ _ _ _ _ _ _ qg tg _ E_g.out HK.out hKf).mono ?_
  rintro e W14 ⟨rfl, b14⟩
  have sz_W14 := b14.size
  try simp only [World.size_alloc] at sz_W14
  replace L_a0 := Lib.hid (L_a0.out.kept b14 L_a0.out.inside)
  replace L_w0 := Lib.hid (L_w0.out.kept b14 L_w0.out.inside)
  replace L_x0 := Lib.hid (L_x0.out.kept b14 L_x0.out.inside)
  replace L_g0 := Lib.hid (L_g0.out.kept b14 L_g0.out.inside)
  replace L_h0 := Lib.hid (L_h0.out.kept b14 L_h0.out.inside)
  replace E_g := Lib.hid (E_g.out.kept b14)
  replace E_h := Lib.hid (E_h.out.kept b14)
  replace JB := Lib.hid (JB.out.trans (b14.mono JB.out.size))
  replace B := Lib.hid (B.out.trans (b14.mono B.out.size))
  clear b14
  go_wp2
  go_ret
  exact ⟨rfl, B.out⟩

end Go.Proofs.YtpgoildfjkokiaaGreat
