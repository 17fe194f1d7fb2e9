/- FnExactFindPair: for every list of pairs and two numbers impl.FindPair answers as the model does, leaves its argument alone and answers in memory of its own. No condition. -/
import Derived.Test.YtpgoildfjkokiabFindRes
namespace Go.Proofs.Ytpgoildfjkokiab
open Go.RowKit

theorem specFindPair_is (d id : Int) (n c : Nat) (A : Option Addr) (ps : List PV) (w : World) {cd I : Int} {X Y : List Int} (hR : findR (ps.map PV.val) d id = (cd, I, X, Y)) (hp : Pairs w A n ps) (hn : n ≤ maxLen) :
    Calls Try.prog 5 #[.slice A n c, .int .i64 d, .int .i64 id] w fun e w' => ∃ A' c' B' d', e = .returned (.agg #[.int .i64 cd, .int .i64 I, .slice A' X.length c', .slice B' Y.length d']) ∧ Ints w' w.heap.size A' X.length X ∧ Ints w' w.heap.size B' Y.length Y ∧ Below w.heap.size w w' := by
  have h0 := specFindPair_any d id n c A ps w hp hn
  rw [hR] at h0
  exact h0
theorem implFindPair_is (d id : Int) (n c : Nat) (A : Option Addr) (ps : List PV) (w : World) {cd I : Int} {X Y : List Int} (hR : findR (ps.map PV.val) d id = (cd, I, X, Y)) (hp : Pairs w A n ps) (hn : n ≤ maxLen) (hid : (Lit.int .i64 id).wf = true) :
    Calls Try.prog 7 #[.slice A n c, .int .i64 d, .int .i64 id] w fun e w' => ∃ A' c' B' d', e = .returned (.agg #[.int .i64 cd, .int .i64 I, .slice A' X.length c', .slice B' Y.length d']) ∧ PairAns w' w.heap.size A' X.length B' Y.length X Y ∧ (A' = none → c' = 0 ∧ d' = 0) ∧ Below w.heap.size w w' := by
  have hno : cd ≠ 0 → I = 0 ∧ X = [] ∧ Y = [] := by
    intro h
    unfold findR at hR
    split at hR
    · injection hR with _ h2; injection h2 with h2 h3; injection h3 with h3 h4; exact ⟨h2.symm, h3.symm, h4.symm⟩
    · split at hR
      · injection hR with _ h2; injection h2 with h2 h3; injection h3 with h3 h4; exact ⟨h2.symm, h3.symm, h4.symm⟩
      · injection hR with h1 _; exact absurd h1.symm h
  have h0 := implFindPair_any d id n c A ps w hp hn hid
  rw [hR] at h0
  refine h0.mono ?_
  rintro e w' ⟨hb, ⟨h1, rfl⟩ | ⟨h1, g, g', m, hm, rfl, o1, o2, hg, hgg⟩⟩
  · obtain ⟨rfl, rfl, rfl⟩ := hno h1
    exact ⟨none, 0, none, 0, rfl, Or.inl ⟨rfl, rfl, rfl, rfl, rfl, rfl⟩, fun _ => ⟨rfl, rfl⟩, hb⟩
  · simp only at h1
    subst h1
    obtain rfl : X.length = m := o1.1
    have e2 : Y.length = X.length := o2.1
    refine ⟨some ⟨g, 0, none⟩, X.length, some ⟨g', 0, none⟩, X.length, ?_, Or.inr ⟨g, g', rfl, rfl, hm, by omega, o1, by rw [e2]; exact o2, hg, hgg⟩, (fun h => by cases h), hb⟩
    rw [e2]
theorem markPairS_any2 (g n hi : Nat) (qs : List PV) (w : World) (ho : PairsAny w g n hi qs) (hl : qs.length = n) (hn : n ≤ 1048576) (hs : ∀ q ∈ qs, q.n1 + q.n2 ≤ 1048576) :
    Calls Try.prog 10 #[.slice (some ⟨g, 0, none⟩) n n, .int .i64 1] w fun e w' => ∃ r : Int, e = .returned (.int .i64 r) ∧ (0 ≤ r ∧ r ≤ 1 + n * 1048578) ∧ Turned (fun x => g ≤ x ∧ x < hi) w w' := markPairS_all 1 g n n hi qs w ho hl (by decide) (by decide) hn hs

set_option maxRecDepth 100000 in
set_option maxHeartbeats 6400000 in
theorem lawFindPair_walk (n0 c0 : Nat) (A0 : Option Addr) (ps0 : List PV) (x1 x2 : Int) (w : World) (hp0 : Pairs w A0 n0 ps0) (hn0 : n0 ≤ maxLen) (hx2 : (Lit.int .i64 x2).wf = true) :
    Calls Try.prog 3 #[.slice A0 n0 c0, .int .i64 x1, .int .i64 x2] w fun e w' => e = .returned (.bool true) ∧ Below w.heap.size w w' := by
  have HP0 := Lib.hid hp0
  have HX2 := Lib.hid hx2
  clear hp0 hx2
  obtain ⟨⟨cd, I, X, Y⟩, hR⟩ : ∃ R, findR (ps0.map PV.val) x1 x2 = R := ⟨_, rfl⟩
  have HR := Lib.hid hR
  clear hR
  have B := Lib.hid (Below.refl w.heap.size w)
  go_enter Try.func3, Try.ntmps3
  go_wp2_with fail
  refine (szPairS_any 1048576 _ _ _ ps0 _ HP0.out hn0 (by decide) (by decide)).mono ?_
  rintro e W1 ⟨r0, rfl, hr0, b1⟩
  have sz_W1 := b1.size
  try simp only [World.size_alloc] at sz_W1
  replace B := Lib.hid (B.out.trans (b1.mono B.out.size))
  clear b1
  rcases hr0 with rfl | ⟨p0, q0, hnl, hs0⟩
  · go_wp2
    go_ret
    exact ⟨rfl, B.out⟩
  have mm0 : n0 ≤ 1048576 := by omega
  have HSM := Lib.hid hs0
  have HSZ : Hid (∀ (k : Nat) (p : PV), ps0[k]? = some p → p.n1 ≤ 1048576 ∧ p.n2 ≤ 1048576) := fun k p hk => by have h1 := hs0 k p hk; constructor <;> omega
  have t0 : ¬ r0 < 0 := by omega
  clear hs0 hnl
  have szB := B.out.size
  go_wp2_with fail
  refine (toPairS_any _ _ _ ps0 _ (HP0.out.kept B.out) mm0 HSZ.out).mono ?_
  rintro e W2 ⟨gs0, qss0, rfl, hgs0, os0, ls0, vs0, b2⟩
  have sz_W2 := b2.size
  try simp only [World.size_alloc] at sz_W2
  replace B := Lib.hid (B.out.trans (b2.mono B.out.size))
  clear b2
  try simp only [World.size_alloc] at hgs0
  have O_s0 := Lib.hid os0
  have K_s0 := Lib.hid ls0
  have V_s0 := Lib.hid vs0
  clear os0 ls0 vs0
  go_wp2_with fail
  refine (specFindPair_is (cd := cd) (I := I) (X := X) (Y := Y) x1 x2 _ _ _ qss0 _ (by rw [V_s0.out]; exact HR.out) (O_s0.out.pairs K_s0.out) hn0).mono ?_
  rintro e W3 ⟨Aw, cw, Bw, dw, rfl, hj1, hj2, b3⟩
  have sz_W3 := b3.size
  try simp only [World.size_alloc] at sz_W3
  replace O_s0 := Lib.hid (O_s0.out.kept b3)
  replace B := Lib.hid (B.out.trans (b3.mono B.out.size))
  clear b3
  clear O_s0
  clear V_s0 K_s0
  have J1 := Lib.hid (hj1.lower (Nat.zero_le _))
  have J2 := Lib.hid (hj2.lower (Nat.zero_le _))
  clear hj1 hj2
  have JB := Lib.hid (Below.refl W3.heap.size W3)
  replace JB := Lib.hid (JB.out.alloc JB.out.size (.cells #[.int .i64 cd, .int .i64 I, .slice Aw X.length cw, .slice Bw Y.length dw] 30))
  have L_w0 := Lib.hid (Lies.new W3 30 #[.int .i64 cd, .int .i64 I, .slice Aw X.length cw, .slice Bw Y.length dw])
  replace B := Lib.hid (B.out.alloc B.out.size (.cells #[.int .i64 cd, .int .i64 I, .slice Aw X.length cw, .slice Bw Y.length dw] 30))
  go_wp2_with fail
  refine (toPairS_any _ _ _ ps0 _ (HP0.out.kept B.out) mm0 HSZ.out).mono ?_
  rintro e W4 ⟨gt0, qst0, rfl, hgt0, ot0, lt0, vt0, b4⟩
  have sz_W4 := b4.size
  try simp only [World.size_alloc] at sz_W4
  replace L_w0 := Lib.hid (L_w0.out.kept b4 L_w0.out.inside)
  replace JB := Lib.hid (JB.out.trans (b4.mono JB.out.size))
  replace B := Lib.hid (B.out.trans (b4.mono B.out.size))
  clear b4
  try simp only [World.size_alloc] at hgt0
  have O_pt0 := Lib.hid ot0.any
  have SQ_t0 := Lib.hid (small_pairs HP0.out HSM.out ot0 vt0)
  have O_t0 := Lib.hid ot0
  have K_t0 := Lib.hid lt0
  have V_t0 := Lib.hid vt0
  clear ot0 lt0 vt0
  have lt_t0 := O_t0.out.inside
  go_wp2_with fail
  refine (implFindPair_is (cd := cd) (I := I) (X := X) (Y := Y) x1 x2 _ _ _ qst0 _ (by rw [V_t0.out]; exact HR.out) (O_t0.out.pairs K_t0.out) hn0 HX2.out).mono ?_
  rintro e W5 ⟨Ag, cg, Bg, dg, rfl, he, hcg, b5⟩
  have sz_W5 := b5.size
  try simp only [World.size_alloc] at sz_W5
  replace L_w0 := Lib.hid (L_w0.out.kept b5 L_w0.out.inside)
  replace O_t0 := Lib.hid (O_t0.out.kept b5)
  replace O_pt0 := Lib.hid (O_pt0.out.kept b5)
  replace JB := Lib.hid (JB.out.trans (b5.mono JB.out.size))
  replace B := Lib.hid (B.out.trans (b5.mono B.out.size))
  clear b5
  have E_g := Lib.hid he
  have fewg := he.few
  have HBD_g := Lib.hid he.bound
  try simp only [World.size_alloc] at he
  clear he
  replace L_w0 := Lib.hid (L_w0.out.alloc (.cells #[.int .i64 cd, .int .i64 I, .slice Ag X.length cg, .slice Bg Y.length dg] 30))
  replace O_t0 := Lib.hid (O_t0.out.kept (below_alloc _ (.cells #[.int .i64 cd, .int .i64 I, .slice Ag X.length cg, .slice Bg Y.length dg] 30)))
  replace O_pt0 := Lib.hid (O_pt0.out.kept (below_alloc _ (.cells #[.int .i64 cd, .int .i64 I, .slice Ag X.length cg, .slice Bg Y.length dg] 30)))
  replace E_g := Lib.hid (E_g.out.kept (below_alloc _ (.cells #[.int .i64 cd, .int .i64 I, .slice Ag X.length cg, .slice Bg Y.length dg] 30)))
  replace JB := Lib.hid (JB.out.alloc JB.out.size (.cells #[.int .i64 cd, .int .i64 I, .slice Ag X.length cg, .slice Bg Y.length dg] 30))
  have L_g0 := Lib.hid (Lies.new W5 30 #[.int .i64 cd, .int .i64 I, .slice Ag X.length cg, .slice Bg Y.length dg])
  replace B := Lib.hid (B.out.alloc B.out.size (.cells #[.int .i64 cd, .int .i64 I, .slice Ag X.length cg, .slice Bg Y.length dg] 30))
  have c_w00 : (W5.alloc (.cells #[.int .i64 cd, .int .i64 I, .slice Ag X.length cg, .slice Bg Y.length dg] 30)).cell? ⟨W3.heap.size, 0, none⟩ = some (.int .i64 cd) := L_w0.out.cell 0
  have c_w01 : (W5.alloc (.cells #[.int .i64 cd, .int .i64 I, .slice Ag X.length cg, .slice Bg Y.length dg] 30)).cell? ⟨W3.heap.size, 1, none⟩ = some (.int .i64 I) := L_w0.out.cell 1
  have c_w02 : (W5.alloc (.cells #[.int .i64 cd, .int .i64 I, .slice Ag X.length cg, .slice Bg Y.length dg] 30)).cell? ⟨W3.heap.size, 2, none⟩ = some (.slice Aw X.length cw) := L_w0.out.cell 2
  have c_w03 : (W5.alloc (.cells #[.int .i64 cd, .int .i64 I, .slice Ag X.length cg, .slice Bg Y.length dg] 30)).cell? ⟨W3.heap.size, 3, none⟩ = some (.slice Bw Y.length dw) := L_w0.out.cell 3
  have c_g00 : (W5.alloc (.cells #[.int .i64 cd, .int .i64 I, .slice Ag X.length cg, .slice Bg Y.length dg] 30)).cell? ⟨W5.heap.size, 0, none⟩ = some (.int .i64 cd) := L_g0.out.cell 0
  have c_g01 : (W5.alloc (.cells #[.int .i64 cd, .int .i64 I, .slice Ag X.length cg, .slice Bg Y.length dg] 30)).cell? ⟨W5.heap.size, 1, none⟩ = some (.int .i64 I) := L_g0.out.cell 1
  have c_g02 : (W5.alloc (.cells #[.int .i64 cd, .int .i64 I, .slice Ag X.length cg, .slice Bg Y.length dg] 30)).cell? ⟨W5.heap.size, 2, none⟩ = some (.slice Ag X.length cg) := L_g0.out.cell 2
  have c_g03 : (W5.alloc (.cells #[.int .i64 cd, .int .i64 I, .slice Ag X.length cg, .slice Bg Y.length dg] 30)).cell? ⟨W5.heap.size, 3, none⟩ = some (.slice Bg Y.length dg) := L_g0.out.cell 3
  go_wp2_with fail
  clear c_w00 c_w01 c_w02 c_w03
  clear c_g00 c_g01 c_g02 c_g03
  refine (eqPairResult_same _ _ _ _ _ _ _ _ _ _ _ _ X Y _ E_g.out.ints.1 E_g.out.ints.2 (J1.out.kept JB.out) (J2.out.kept JB.out) (Nat.le_trans fewg.1 (by decide)) (Nat.le_trans fewg.2 (by decide))).mono ?_
  rintro e W6 ⟨rfl, b6⟩
  have sz_W6 := b6.size
  try simp only [World.size_alloc] at sz_W6
  replace L_w0 := Lib.hid (L_w0.out.kept b6 L_w0.out.inside)
  replace L_g0 := Lib.hid (L_g0.out.kept b6 L_g0.out.inside)
  replace O_t0 := Lib.hid (O_t0.out.kept b6)
  replace O_pt0 := Lib.hid (O_pt0.out.kept b6)
  replace E_g := Lib.hid (E_g.out.kept b6)
  replace JB := Lib.hid (JB.out.trans (b6.mono JB.out.size))
  replace B := Lib.hid (B.out.trans (b6.mono B.out.size))
  clear b6
  go_wp2_with fail
  refine (toPairS_any _ _ _ ps0 _ (HP0.out.kept B.out) mm0 HSZ.out).mono ?_
  rintro e W7 ⟨gz0, qsz0, rfl, hgz0, oz0, lz0, vz0, b7⟩
  have sz_W7 := b7.size
  try simp only [World.size_alloc] at sz_W7
  replace L_w0 := Lib.hid (L_w0.out.kept b7 L_w0.out.inside)
  replace L_g0 := Lib.hid (L_g0.out.kept b7 L_g0.out.inside)
  replace O_t0 := Lib.hid (O_t0.out.kept b7)
  replace O_pt0 := Lib.hid (O_pt0.out.kept b7)
  replace E_g := Lib.hid (E_g.out.kept b7)
  replace JB := Lib.hid (JB.out.trans (b7.mono JB.out.size))
  replace B := Lib.hid (B.out.trans (b7.mono B.out.size))
  clear b7
  try simp only [World.size_alloc] at hgz0
  have O_z0 := Lib.hid oz0
  have K_z0 := Lib.hid lz0
  have V_z0 := Lib.hid vz0
  clear oz0 lz0 vz0
  go_wp2_with fail
  refine (eqPairS_same _ _ _ _ _ qst0 qsz0 _ (O_t0.out.pairs K_t0.out) (O_z0.out.pairs K_z0.out) (V_t0.out.trans V_z0.out.symm) hn0).mono ?_
  rintro e W8 ⟨rfl, b8⟩
  have sz_W8 := b8.size
  try simp only [World.size_alloc] at sz_W8
  replace L_w0 := Lib.hid (L_w0.out.kept b8 L_w0.out.inside)
  replace L_g0 := Lib.hid (L_g0.out.kept b8 L_g0.out.inside)
  replace O_t0 := Lib.hid (O_t0.out.kept b8)
  replace O_pt0 := Lib.hid (O_pt0.out.kept b8)
  replace O_z0 := Lib.hid (O_z0.out.kept b8)
  replace E_g := Lib.hid (E_g.out.kept b8)
  replace JB := Lib.hid (JB.out.trans (b8.mono JB.out.size))
  replace B := Lib.hid (B.out.trans (b8.mono B.out.size))
  clear b8
  clear O_z0
  clear K_z0 V_z0
  go_wp2_with fail
  refine (markPairS_any2 _ _ W4.heap.size qst0 _ O_pt0.out K_t0.out mm0 SQ_t0.out).mono ?_
  rintro e W9 ⟨rm0, rfl, hrm0, t9⟩
  have sz_W9 := t9.2.1
  try simp only [World.size_alloc] at sz_W9
  clear O_t0
  clear O_pt0
  replace L_w0 := Lib.hid (t9.lies L_w0.out (fun hx => by have h1 := hx.1; have h2 := hx.2; (try simp only [World.size_alloc] at h1 h2); omega))
  replace L_g0 := Lib.hid (t9.lies L_g0.out (fun hx => by have h1 := hx.1; have h2 := hx.2; (try simp only [World.size_alloc] at h1 h2); omega))
  replace E_g := Lib.hid (E_g.out.turned t9 (fun x hx => by have h1 := hx.1; have h2 := hx.2; (try simp only [World.size_alloc] at h1 h2 ⊢); omega))
  replace JB := Lib.hid (t9.below JB.out (by intro x hx; have h1 := hx.1; have h2 := hx.2; (try simp only [World.size_alloc] at h1 h2); omega))
  replace B := Lib.hid (t9.below B.out (by intro x hx; show w.heap.size ≤ x; have h1 := hx.1; have h2 := hx.2; (try simp only [World.size_alloc] at h1 h2); omega))
  clear t9
  have kpos0 : ¬ rm0 < 0 := by omega
  have c_w00 : W9.cell? ⟨W3.heap.size, 0, none⟩ = some (.int .i64 cd) := L_w0.out.cell 0
  have c_w01 : W9.cell? ⟨W3.heap.size, 1, none⟩ = some (.int .i64 I) := L_w0.out.cell 1
  have c_w02 : W9.cell? ⟨W3.heap.size, 2, none⟩ = some (.slice Aw X.length cw) := L_w0.out.cell 2
  have c_w03 : W9.cell? ⟨W3.heap.size, 3, none⟩ = some (.slice Bw Y.length dw) := L_w0.out.cell 3
  have c_g00 : W9.cell? ⟨W5.heap.size, 0, none⟩ = some (.int .i64 cd) := L_g0.out.cell 0
  have c_g01 : W9.cell? ⟨W5.heap.size, 1, none⟩ = some (.int .i64 I) := L_g0.out.cell 1
  have c_g02 : W9.cell? ⟨W5.heap.size, 2, none⟩ = some (.slice Ag X.length cg) := L_g0.out.cell 2
  have c_g03 : W9.cell? ⟨W5.heap.size, 3, none⟩ = some (.slice Bg Y.length dg) := L_g0.out.cell 3
  go_wp2_with fail
  clear c_w00 c_w01 c_w02 c_w03
  clear c_g00 c_g01 c_g02 c_g03
  refine (eqPairResult_same _ _ _ _ _ _ _ _ _ _ _ _ X Y _ E_g.out.ints.1 E_g.out.ints.2 (J1.out.kept JB.out) (J2.out.kept JB.out) (Nat.le_trans fewg.1 (by decide)) (Nat.le_trans fewg.2 (by decide))).mono ?_
  rintro e W10 ⟨rfl, b10⟩
  have sz_W10 := b10.size
  try simp only [World.size_alloc] at sz_W10
  replace L_w0 := Lib.hid (L_w0.out.kept b10 L_w0.out.inside)
  replace L_g0 := Lib.hid (L_g0.out.kept b10 L_g0.out.inside)
  replace E_g := Lib.hid (E_g.out.kept b10)
  replace JB := Lib.hid (JB.out.trans (b10.mono JB.out.size))
  replace B := Lib.hid (B.out.trans (b10.mono B.out.size))
  clear b10
  have c_g00 : W10.cell? ⟨W5.heap.size, 0, none⟩ = some (.int .i64 cd) := L_g0.out.cell 0
  have c_g01 : W10.cell? ⟨W5.heap.size, 1, none⟩ = some (.int .i64 I) := L_g0.out.cell 1
  have c_g02 : W10.cell? ⟨W5.heap.size, 2, none⟩ = some (.slice Ag X.length cg) := L_g0.out.cell 2
  have c_g03 : W10.cell? ⟨W5.heap.size, 3, none⟩ = some (.slice Bg Y.length dg) := L_g0.out.cell 3
  go_wp2_with fail
  clear c_g00 c_g01 c_g02 c_g03
  refine (markPairResult_ans _ _ _ W5.heap.size _ _ _ _ _ _ X Y _ E_g.out hcg HBD_g.out).mono ?_
  rintro e W11 ⟨⟨rfl, em⟩, t11⟩
  have sz_W11 := t11.2.1
  try simp only [World.size_alloc] at sz_W11
  replace L_w0 := Lib.hid (t11.lies L_w0.out (fun hx => by have h1 := hx.1; have h2 := hx.2; (try simp only [World.size_alloc] at h1 h2); omega))
  replace L_g0 := Lib.hid (t11.lies L_g0.out (fun hx => by have h1 := hx.1; have h2 := hx.2; (try simp only [World.size_alloc] at h1 h2); omega))
  replace JB := Lib.hid (t11.below JB.out (by intro x hx; have h1 := hx.1; have h2 := hx.2; (try simp only [World.size_alloc] at h1 h2); omega))
  replace B := Lib.hid (t11.below B.out (by intro x hx; show w.heap.size ≤ x; have h1 := hx.1; have h2 := hx.2; (try simp only [World.size_alloc] at h1 h2); omega))
  replace E_g := Lib.hid em
  clear em
  have qpos : ¬ ((1 : Int) + (X.length : Int) + (Y.length : Int) < 0) := by omega
  have qeq : (((1 : Int) + (X.length : Int) + (Y.length : Int)) != (1 + (X.length : Int) + (Y.length : Int))) = false := by simp
  clear t11
  have c_g00 : W11.cell? ⟨W5.heap.size, 0, none⟩ = some (.int .i64 cd) := L_g0.out.cell 0
  have c_g01 : W11.cell? ⟨W5.heap.size, 1, none⟩ = some (.int .i64 I) := L_g0.out.cell 1
  have c_g02 : W11.cell? ⟨W5.heap.size, 2, none⟩ = some (.slice Ag X.length cg) := L_g0.out.cell 2
  have c_g03 : W11.cell? ⟨W5.heap.size, 3, none⟩ = some (.slice Bg Y.length dg) := L_g0.out.cell 3
  go_wp2_with fail
  clear c_g00 c_g01 c_g02 c_g03
  refine (heldPairResult_any 1 _ _ _ _ _ _ _ _ _ E_g.out.ints.1 E_g.out.ints.2 (by decide) (by decide) (by omega) (by omega)).mono ?_
  rintro e W12 ⟨rfl, b12⟩
  have sz_W12 := b12.size
  try simp only [World.size_alloc] at sz_W12
  replace L_w0 := Lib.hid (L_w0.out.kept b12 L_w0.out.inside)
  replace L_g0 := Lib.hid (L_g0.out.kept b12 L_g0.out.inside)
  replace E_g := Lib.hid (E_g.out.kept b12)
  replace JB := Lib.hid (JB.out.trans (b12.mono JB.out.size))
  replace B := Lib.hid (B.out.trans (b12.mono B.out.size))
  clear b12
  go_wp2_with fail
  refine (toPairS_any _ _ _ ps0 _ (HP0.out.kept B.out) mm0 HSZ.out).mono ?_
  rintro e W13 ⟨gr0, qsr0, rfl, hgr0, or0, lr0, vr0, b13⟩
  have sz_W13 := b13.size
  try simp only [World.size_alloc] at sz_W13
  replace L_w0 := Lib.hid (L_w0.out.kept b13 L_w0.out.inside)
  replace L_g0 := Lib.hid (L_g0.out.kept b13 L_g0.out.inside)
  replace E_g := Lib.hid (E_g.out.kept b13)
  replace JB := Lib.hid (JB.out.trans (b13.mono JB.out.size))
  replace B := Lib.hid (B.out.trans (b13.mono B.out.size))
  clear b13
  try simp only [World.size_alloc] at hgr0
  have O_r0 := Lib.hid or0
  have K_r0 := Lib.hid lr0
  have V_r0 := Lib.hid vr0
  clear or0 lr0 vr0
  go_wp2_with fail
  refine (implFindPair_is (cd := cd) (I := I) (X := X) (Y := Y) x1 x2 _ _ _ qsr0 _ (by rw [V_r0.out]; exact HR.out) (O_r0.out.pairs K_r0.out) hn0 HX2.out).mono ?_
  rintro e W14 ⟨Ah, ch, Bh, dh, rfl, he, hch, b14⟩
  have sz_W14 := b14.size
  try simp only [World.size_alloc] at sz_W14
  replace L_w0 := Lib.hid (L_w0.out.kept b14 L_w0.out.inside)
  replace L_g0 := Lib.hid (L_g0.out.kept b14 L_g0.out.inside)
  replace O_r0 := Lib.hid (O_r0.out.kept b14)
  replace E_g := Lib.hid (E_g.out.kept b14)
  replace JB := Lib.hid (JB.out.trans (b14.mono JB.out.size))
  replace B := Lib.hid (B.out.trans (b14.mono B.out.size))
  clear b14
  clear O_r0
  clear V_r0 K_r0
  have E_h := Lib.hid he
  have fewh := he.few
  have HBD_h := Lib.hid he.bound
  try simp only [World.size_alloc] at he
  clear he
  replace L_w0 := Lib.hid (L_w0.out.alloc (.cells #[.int .i64 cd, .int .i64 I, .slice Ah X.length ch, .slice Bh Y.length dh] 30))
  replace L_g0 := Lib.hid (L_g0.out.alloc (.cells #[.int .i64 cd, .int .i64 I, .slice Ah X.length ch, .slice Bh Y.length dh] 30))
  replace E_g := Lib.hid (E_g.out.kept (below_alloc _ (.cells #[.int .i64 cd, .int .i64 I, .slice Ah X.length ch, .slice Bh Y.length dh] 30)))
  replace E_h := Lib.hid (E_h.out.kept (below_alloc _ (.cells #[.int .i64 cd, .int .i64 I, .slice Ah X.length ch, .slice Bh Y.length dh] 30)))
  replace JB := Lib.hid (JB.out.alloc JB.out.size (.cells #[.int .i64 cd, .int .i64 I, .slice Ah X.length ch, .slice Bh Y.length dh] 30))
  have L_h0 := Lib.hid (Lies.new W14 30 #[.int .i64 cd, .int .i64 I, .slice Ah X.length ch, .slice Bh Y.length dh])
  replace B := Lib.hid (B.out.alloc B.out.size (.cells #[.int .i64 cd, .int .i64 I, .slice Ah X.length ch, .slice Bh Y.length dh] 30))
  have c_h00 : (W14.alloc (.cells #[.int .i64 cd, .int .i64 I, .slice Ah X.length ch, .slice Bh Y.length dh] 30)).cell? ⟨W14.heap.size, 0, none⟩ = some (.int .i64 cd) := L_h0.out.cell 0
  have c_h01 : (W14.alloc (.cells #[.int .i64 cd, .int .i64 I, .slice Ah X.length ch, .slice Bh Y.length dh] 30)).cell? ⟨W14.heap.size, 1, none⟩ = some (.int .i64 I) := L_h0.out.cell 1
  have c_h02 : (W14.alloc (.cells #[.int .i64 cd, .int .i64 I, .slice Ah X.length ch, .slice Bh Y.length dh] 30)).cell? ⟨W14.heap.size, 2, none⟩ = some (.slice Ah X.length ch) := L_h0.out.cell 2
  have c_h03 : (W14.alloc (.cells #[.int .i64 cd, .int .i64 I, .slice Ah X.length ch, .slice Bh Y.length dh] 30)).cell? ⟨W14.heap.size, 3, none⟩ = some (.slice Bh Y.length dh) := L_h0.out.cell 3
  have c_w00 : (W14.alloc (.cells #[.int .i64 cd, .int .i64 I, .slice Ah X.length ch, .slice Bh Y.length dh] 30)).cell? ⟨W3.heap.size, 0, none⟩ = some (.int .i64 cd) := L_w0.out.cell 0
  have c_w01 : (W14.alloc (.cells #[.int .i64 cd, .int .i64 I, .slice Ah X.length ch, .slice Bh Y.length dh] 30)).cell? ⟨W3.heap.size, 1, none⟩ = some (.int .i64 I) := L_w0.out.cell 1
  have c_w02 : (W14.alloc (.cells #[.int .i64 cd, .int .i64 I, .slice Ah X.length ch, .slice Bh Y.length dh] 30)).cell? ⟨W3.heap.size, 2, none⟩ = some (.slice Aw X.length cw) := L_w0.out.cell 2
  have c_w03 : (W14.alloc (.cells #[.int .i64 cd, .int .i64 I, .slice Ah X.length ch, .slice Bh Y.length dh] 30)).cell? ⟨W3.heap.size, 3, none⟩ = some (.slice Bw Y.length dw) := L_w0.out.cell 3
  go_wp2_with fail
  clear c_h00 c_h01 c_h02 c_h03
  clear c_w00 c_w01 c_w02 c_w03
  refine (eqPairResult_same _ _ _ _ _ _ _ _ _ _ _ _ X Y _ E_h.out.ints.1 E_h.out.ints.2 (J1.out.kept JB.out) (J2.out.kept JB.out) (Nat.le_trans fewh.1 (by decide)) (Nat.le_trans fewh.2 (by decide))).mono ?_
  rintro e W15 ⟨rfl, b15⟩
  have sz_W15 := b15.size
  try simp only [World.size_alloc] at sz_W15
  replace L_w0 := Lib.hid (L_w0.out.kept b15 L_w0.out.inside)
  replace L_g0 := Lib.hid (L_g0.out.kept b15 L_g0.out.inside)
  replace L_h0 := Lib.hid (L_h0.out.kept b15 L_h0.out.inside)
  replace E_g := Lib.hid (E_g.out.kept b15)
  replace E_h := Lib.hid (E_h.out.kept b15)
  replace JB := Lib.hid (JB.out.trans (b15.mono JB.out.size))
  replace B := Lib.hid (B.out.trans (b15.mono B.out.size))
  clear b15
  have c_g00 : W15.cell? ⟨W5.heap.size, 0, none⟩ = some (.int .i64 cd) := L_g0.out.cell 0
  have c_g01 : W15.cell? ⟨W5.heap.size, 1, none⟩ = some (.int .i64 I) := L_g0.out.cell 1
  have c_g02 : W15.cell? ⟨W5.heap.size, 2, none⟩ = some (.slice Ag X.length cg) := L_g0.out.cell 2
  have c_g03 : W15.cell? ⟨W5.heap.size, 3, none⟩ = some (.slice Bg Y.length dg) := L_g0.out.cell 3
  go_wp2_with fail
  clear c_g00 c_g01 c_g02 c_g03
  refine (heldPairResult_any 1 _ _ _ _ _ _ _ _ _ E_g.out.ints.1 E_g.out.ints.2 (by decide) (by decide) (by omega) (by omega)).mono ?_
  rintro e W16 ⟨rfl, b16⟩
  have sz_W16 := b16.size
  try simp only [World.size_alloc] at sz_W16
  replace L_w0 := Lib.hid (L_w0.out.kept b16 L_w0.out.inside)
  replace L_g0 := Lib.hid (L_g0.out.kept b16 L_g0.out.inside)
  replace L_h0 := Lib.hid (L_h0.out.kept b16 L_h0.out.inside)
  replace E_g := Lib.hid (E_g.out.kept b16)
  replace E_h := Lib.hid (E_h.out.kept b16)
  replace JB := Lib.hid (JB.out.trans (b16.mono JB.out.size))
  replace B := Lib.hid (B.out.trans (b16.mono B.out.size))
  clear b16
  go_wp2
  go_ret
  exact ⟨rfl, B.out⟩

end Go.Proofs.Ytpgoildfjkokiab
