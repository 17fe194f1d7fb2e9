/- FnExactSeedsOf: for every list of entries and every number of dimensions impl.SeedsOf answers as the model does, leaves its argument alone and answers in memory of its own. No condition. -/
import Derived.Test.YtbnlgmcjklfcoaaSeedsRes
namespace Go.Proofs.Ytbnlgmcjklfcoaa
open Go.RowKit

set_option maxRecDepth 100000 in
set_option maxHeartbeats 6400000 in
theorem lawSeedsOf_walk (n c : Nat) (A : Option Addr) (ps : List EV) (d : Int) (w : World) (hp : Entries w A n ps) (hn : n ≤ maxLen) :
    Calls Try.prog 5 #[.slice A n c, .int .i64 d] w fun e w' => e = .returned (.bool true) ∧ Below w.heap.size w w' := by
  have HP := Lib.hid hp
  clear hp
  obtain ⟨cd, hc⟩ : ∃ cd, enoughF (ps.map EV.val) d = cd := ⟨_, rfl⟩
  obtain ⟨L, hL⟩ : ∃ L, seedsL (ps.map EV.val) d = L := ⟨_, rfl⟩
  have HC := Lib.hid hc
  have HL := Lib.hid hL
  clear hc hL
  go_enter Try.func5, Try.ntmps5
  go_wp2_with fail
  refine (szEntryS_any 1048576 _ _ _ ps _ HP.out hn (by decide) (by decide)).mono ?_
  rintro e W1 ⟨r, rfl, hr, b1⟩
  have B := Lib.hid b1
  have szW1 := b1.size
  clear b1
  rcases hr with rfl | ⟨r0, r1, hn1, hs⟩
  · go_wp2
    go_ret
    exact ⟨rfl, B.out⟩
  have HM : Hid (SmallE 1048576 ps) := fun k p hk => Int.le_trans (hs k p hk) (by decide)
  have HS := Lib.hid (SmallE.two (l := 1048576) hs (by decide))
  clear hs
  have hr0 : ¬ r < 0 := by omega
  have mn : n ≤ 1048576 := by omega
  clear r0 r1 hn1
  go_wp2_with fail
  refine (toEntryS_any _ _ _ ps _ (HP.out.kept B.out) mn HS.out).mono ?_
  rintro e W2 ⟨gs, qs, rfl, hs, os, ls, vs, b2⟩
  replace B := Lib.hid (B.out.trans (b2.mono B.out.size))
  have sz_b2 := b2.size
  try simp only [World.size_alloc] at sz_b2
  clear b2
  try simp only [World.size_alloc] at hs
  have O_s := Lib.hid os
  have K_s := Lib.hid ls
  have V_s := Lib.hid vs
  clear os ls vs hs
  go_wp2_with fail
  refine (specSeedsOf_is cd d L _ _ _ qs (ps.map EV.val) _ (O_s.out.entries K_s.out) hn V_s.out HC.out HL.out).mono ?_
  rintro e W3 ⟨Aw, nw, cw, rfl, Rw, b3⟩
  clear O_s K_s V_s
  replace B := Lib.hid (B.out.trans (b3.mono B.out.size))
  have sz_b3 := b3.size
  try simp only [World.size_alloc] at sz_b3
  clear b3
  have J_w := Lib.hid Rw.ints
  have Hw := Lib.hid (fun b o e => (Rw.hi b o e).2)
  have nw2 := Rw.two
  clear Rw
  replace J_w := Lib.hid (J_w.out.kept (below_alloc _ (.cells #[.int .i64 cd, .slice Aw nw cw] 42)))
  replace B := Lib.hid (B.out.alloc B.out.size (.cells #[.int .i64 cd, .slice Aw nw cw] 42))
  have L_w := Lib.hid (Lies.new W3 42 #[.int .i64 cd, .slice Aw nw cw])
  go_wp2_with fail
  refine (toEntryS_any _ _ _ ps _ (HP.out.kept B.out) mn HS.out).mono ?_
  rintro e W4 ⟨gt, qt, rfl, ht, ot, lt, vt, b4⟩
  replace L_w := Lib.hid (L_w.out.kept b4 L_w.out.inside)
  replace J_w := Lib.hid (J_w.out.kept b4)
  replace B := Lib.hid (B.out.trans (b4.mono B.out.size))
  have sz_b4 := b4.size
  try simp only [World.size_alloc] at sz_b4
  clear b4
  try simp only [World.size_alloc] at ht
  have O_t := Lib.hid ot
  have K_t := Lib.hid lt
  have V_t := Lib.hid vt
  have A_t := Lib.hid ot.any
  have SQ_t := Lib.hid (small_own HP.out HM.out ot vt (by decide))
  have it := ot.inside
  clear ot lt vt
  go_wp2_with fail
  refine (implSeedsOf_is cd d L _ _ _ qt (ps.map EV.val) _ (O_t.out.entries K_t.out) hn V_t.out HC.out HL.out).mono ?_
  rintro e W5 ⟨Ag, ng, cg, rfl, Rg, b5⟩
  replace L_w := Lib.hid (L_w.out.kept b5 L_w.out.inside)
  replace J_w := Lib.hid (J_w.out.kept b5)
  replace O_t := Lib.hid (O_t.out.kept b5)
  replace A_t := Lib.hid (A_t.out.kept b5)
  replace B := Lib.hid (B.out.trans (b5.mono B.out.size))
  have sz_b5 := b5.size
  try simp only [World.size_alloc] at sz_b5
  clear b5
  have R_g := Lib.hid Rg
  have Hg := Lib.hid Rg.hi
  have ng2 := Rg.two
  clear Rg
  replace L_w := Lib.hid (L_w.out.alloc (.cells #[.int .i64 cd, .slice Ag ng cg] 42))
  replace R_g := Lib.hid (R_g.out.kept (below_alloc _ (.cells #[.int .i64 cd, .slice Ag ng cg] 42)))
  replace J_w := Lib.hid (J_w.out.kept (below_alloc _ (.cells #[.int .i64 cd, .slice Ag ng cg] 42)))
  replace O_t := Lib.hid (O_t.out.kept (below_alloc _ (.cells #[.int .i64 cd, .slice Ag ng cg] 42)))
  replace A_t := Lib.hid (A_t.out.kept (below_alloc _ (.cells #[.int .i64 cd, .slice Ag ng cg] 42)))
  replace B := Lib.hid (B.out.alloc B.out.size (.cells #[.int .i64 cd, .slice Ag ng cg] 42))
  have L_g := Lib.hid (Lies.new W5 42 #[.int .i64 cd, .slice Ag ng cg])
  have c_L_g0 : (W5.alloc (.cells #[.int .i64 cd, .slice Ag ng cg] 42)).cell? ⟨W5.heap.size, 0, none⟩ = some (.int .i64 cd) := L_g.out.cell 0
  have c_L_g1 : (W5.alloc (.cells #[.int .i64 cd, .slice Ag ng cg] 42)).cell? ⟨W5.heap.size, 1, none⟩ = some (.slice Ag ng cg) := L_g.out.cell 1
  have c_L_w0 : (W5.alloc (.cells #[.int .i64 cd, .slice Ag ng cg] 42)).cell? ⟨W3.heap.size, 0, none⟩ = some (.int .i64 cd) := L_w.out.cell 0
  have c_L_w1 : (W5.alloc (.cells #[.int .i64 cd, .slice Ag ng cg] 42)).cell? ⟨W3.heap.size, 1, none⟩ = some (.slice Aw nw cw) := L_w.out.cell 1
  go_wp2_with fail
  refine (eqIntsResult_same cd _ _ _ _ _ _ L _ (R_g.out.ints) J_w.out ng2).mono ?_
  rintro e W6 ⟨rfl, b6⟩
  clear c_L_g0 c_L_g1 c_L_w0 c_L_w1
  replace L_w := Lib.hid (L_w.out.kept b6 L_w.out.inside)
  replace L_g := Lib.hid (L_g.out.kept b6 L_g.out.inside)
  replace R_g := Lib.hid (R_g.out.kept b6)
  replace J_w := Lib.hid (J_w.out.kept b6)
  replace O_t := Lib.hid (O_t.out.kept b6)
  replace A_t := Lib.hid (A_t.out.kept b6)
  replace B := Lib.hid (B.out.trans (b6.mono B.out.size))
  have sz_b6 := b6.size
  try simp only [World.size_alloc] at sz_b6
  clear b6
  go_wp2_with fail
  refine (toEntryS_any _ _ _ ps _ (HP.out.kept B.out) mn HS.out).mono ?_
  rintro e W7 ⟨gz, qz, rfl, hz, oz, lz, vz, b7⟩
  replace L_w := Lib.hid (L_w.out.kept b7 L_w.out.inside)
  replace L_g := Lib.hid (L_g.out.kept b7 L_g.out.inside)
  replace R_g := Lib.hid (R_g.out.kept b7)
  replace J_w := Lib.hid (J_w.out.kept b7)
  replace O_t := Lib.hid (O_t.out.kept b7)
  replace A_t := Lib.hid (A_t.out.kept b7)
  replace B := Lib.hid (B.out.trans (b7.mono B.out.size))
  have sz_b7 := b7.size
  try simp only [World.size_alloc] at sz_b7
  clear b7
  try simp only [World.size_alloc] at hz
  have O_z := Lib.hid oz
  have K_z := Lib.hid lz
  have V_z := Lib.hid vz
  have V_e := Lib.hid (V_t.out.trans vz.symm)
  clear oz lz vz hz
  go_wp2_with fail
  refine (eqEntryS_same _ _ _ _ _ qt qz _ (O_t.out.entries K_t.out) (O_z.out.entries K_z.out) V_e.out hn).mono ?_
  rintro e W8 ⟨rfl, b8⟩
  clear O_z K_z V_z V_e
  replace L_w := Lib.hid (L_w.out.kept b8 L_w.out.inside)
  replace L_g := Lib.hid (L_g.out.kept b8 L_g.out.inside)
  replace R_g := Lib.hid (R_g.out.kept b8)
  replace J_w := Lib.hid (J_w.out.kept b8)
  replace O_t := Lib.hid (O_t.out.kept b8)
  replace A_t := Lib.hid (A_t.out.kept b8)
  replace B := Lib.hid (B.out.trans (b8.mono B.out.size))
  have sz_b8 := b8.size
  try simp only [World.size_alloc] at sz_b8
  clear b8
  go_wp2_with fail
  refine (markEntryS_all 1 _ _ _ W4.heap.size qt _ A_t.out K_t.out (by decide) (by decide) mn SQ_t.out).mono ?_
  rintro e W9 ⟨rm, rfl, ⟨hrm, _⟩, t9⟩
  have sz_t9 := t9.2.1
  clear O_t A_t SQ_t K_t V_t
  have gw3 : W3.heap.size < gt := by omega
  replace L_w := Lib.hid (t9.lies L_w.out (by show ¬ _; omega))
  replace L_g := Lib.hid (t9.lies L_g.out (by show ¬ _; omega))
  replace J_w := Lib.hid (t9.ints J_w.out (by intro b o e; have := Hw.out b o e; show ¬ _; omega))
  replace R_g := Lib.hid (R_g.out.turned t9 (fun x h1 _ => by show ¬ _; omega))
  replace B := Lib.hid (t9.below B.out (by intro x hx; show w.heap.size ≤ x; have hx' : gt ≤ x := hx.1; omega))
  clear t9
  have kpos : ¬ rm < 0 := by omega
  have kposd : decide (rm < 0) = false := decide_eq_false kpos
  have c_L_g0 : W9.cell? ⟨W5.heap.size, 0, none⟩ = some (.int .i64 cd) := L_g.out.cell 0
  have c_L_g1 : W9.cell? ⟨W5.heap.size, 1, none⟩ = some (.slice Ag ng cg) := L_g.out.cell 1
  have c_L_w0 : W9.cell? ⟨W3.heap.size, 0, none⟩ = some (.int .i64 cd) := L_w.out.cell 0
  have c_L_w1 : W9.cell? ⟨W3.heap.size, 1, none⟩ = some (.slice Aw nw cw) := L_w.out.cell 1
  go_wp2_with fail
  refine (eqIntsResult_same cd _ _ _ _ _ _ L _ (R_g.out.ints) J_w.out ng2).mono ?_
  rintro e W10 ⟨rfl, b10⟩
  clear c_L_g0 c_L_g1 c_L_w0 c_L_w1
  replace L_w := Lib.hid (L_w.out.kept b10 L_w.out.inside)
  replace L_g := Lib.hid (L_g.out.kept b10 L_g.out.inside)
  replace R_g := Lib.hid (R_g.out.kept b10)
  replace J_w := Lib.hid (J_w.out.kept b10)
  replace B := Lib.hid (B.out.trans (b10.mono B.out.size))
  have sz_b10 := b10.size
  try simp only [World.size_alloc] at sz_b10
  clear b10
  have c_L_g0 : W10.cell? ⟨W5.heap.size, 0, none⟩ = some (.int .i64 cd) := L_g.out.cell 0
  have c_L_g1 : W10.cell? ⟨W5.heap.size, 1, none⟩ = some (.slice Ag ng cg) := L_g.out.cell 1
  go_wp2_with fail
  refine (markIntsResult_any 1 cd ng cg _ Ag L _ R_g.out (by decide) (by decide)).mono ?_
  rintro e W11 ⟨rfl, rg, t11⟩
  have sz_t11 := t11.2.1
  clear c_L_g0 c_L_g1
  replace L_w := Lib.hid (t11.lies L_w.out (fun e => by have := (Hg.out _ _ e).1; omega))
  replace L_g := Lib.hid (t11.lies L_g.out (fun e => by have := (Hg.out _ _ e).2; omega))
  replace J_w := Lib.hid (t11.ints J_w.out (by intro b o e e2; have h1 := Hw.out b o e; have h2 := (Hg.out _ _ e2).1; omega))
  replace B := Lib.hid (t11.below B.out (by intro x hx; have := (Hg.out _ _ hx).1; have := B.out.size; omega))
  replace R_g := Lib.hid rg
  clear t11 rg
  have kng : ¬ (1 : Int) + ng < 0 := by omega
  have qeq : (((1 : Int) + ng) != (1 + ng)) = false := by simp
  have c_L_g0 : W11.cell? ⟨W5.heap.size, 0, none⟩ = some (.int .i64 cd) := L_g.out.cell 0
  have c_L_g1 : W11.cell? ⟨W5.heap.size, 1, none⟩ = some (.slice Ag ng cg) := L_g.out.cell 1
  go_wp2_with fail
  refine (heldIntsResult_any 1 cd ng cg _ Ag _ R_g.out (by decide) (by decide)).mono ?_
  rintro e W12 ⟨rfl, b12⟩
  clear c_L_g0 c_L_g1
  replace L_w := Lib.hid (L_w.out.kept b12 L_w.out.inside)
  replace L_g := Lib.hid (L_g.out.kept b12 L_g.out.inside)
  replace R_g := Lib.hid (R_g.out.kept b12)
  replace J_w := Lib.hid (J_w.out.kept b12)
  replace B := Lib.hid (B.out.trans (b12.mono B.out.size))
  have sz_b12 := b12.size
  try simp only [World.size_alloc] at sz_b12
  clear b12
  go_wp2_with fail
  refine (toEntryS_any _ _ _ ps _ (HP.out.kept B.out) mn HS.out).mono ?_
  rintro e W13 ⟨gy, qy, rfl, hy, oy, ly, vy, b13⟩
  replace L_w := Lib.hid (L_w.out.kept b13 L_w.out.inside)
  replace L_g := Lib.hid (L_g.out.kept b13 L_g.out.inside)
  replace R_g := Lib.hid (R_g.out.kept b13)
  replace J_w := Lib.hid (J_w.out.kept b13)
  replace B := Lib.hid (B.out.trans (b13.mono B.out.size))
  have sz_b13 := b13.size
  try simp only [World.size_alloc] at sz_b13
  clear b13
  try simp only [World.size_alloc] at hy
  have O_y := Lib.hid oy
  have K_y := Lib.hid ly
  have V_y := Lib.hid vy
  clear oy ly vy hy
  go_wp2_with fail
  refine (implSeedsOf_is cd d L _ _ _ qy (ps.map EV.val) _ (O_y.out.entries K_y.out) hn V_y.out HC.out HL.out).mono ?_
  rintro e W14 ⟨Ah, nh, ch, rfl, Rh, b14⟩
  clear O_y K_y V_y
  replace L_w := Lib.hid (L_w.out.kept b14 L_w.out.inside)
  replace L_g := Lib.hid (L_g.out.kept b14 L_g.out.inside)
  replace R_g := Lib.hid (R_g.out.kept b14)
  replace J_w := Lib.hid (J_w.out.kept b14)
  replace B := Lib.hid (B.out.trans (b14.mono B.out.size))
  have sz_b14 := b14.size
  try simp only [World.size_alloc] at sz_b14
  clear b14
  have J_h := Lib.hid Rh.ints
  have nh2 := Rh.two
  clear Rh
  replace L_w := Lib.hid (L_w.out.alloc (.cells #[.int .i64 cd, .slice Ah nh ch] 42))
  replace L_g := Lib.hid (L_g.out.alloc (.cells #[.int .i64 cd, .slice Ah nh ch] 42))
  replace R_g := Lib.hid (R_g.out.kept (below_alloc _ (.cells #[.int .i64 cd, .slice Ah nh ch] 42)))
  replace J_w := Lib.hid (J_w.out.kept (below_alloc _ (.cells #[.int .i64 cd, .slice Ah nh ch] 42)))
  replace J_h := Lib.hid (J_h.out.kept (below_alloc _ (.cells #[.int .i64 cd, .slice Ah nh ch] 42)))
  replace B := Lib.hid (B.out.alloc B.out.size (.cells #[.int .i64 cd, .slice Ah nh ch] 42))
  have L_h := Lib.hid (Lies.new W14 42 #[.int .i64 cd, .slice Ah nh ch])
  have c_L_h0 : (W14.alloc (.cells #[.int .i64 cd, .slice Ah nh ch] 42)).cell? ⟨W14.heap.size, 0, none⟩ = some (.int .i64 cd) := L_h.out.cell 0
  have c_L_h1 : (W14.alloc (.cells #[.int .i64 cd, .slice Ah nh ch] 42)).cell? ⟨W14.heap.size, 1, none⟩ = some (.slice Ah nh ch) := L_h.out.cell 1
  have c_L_w0 : (W14.alloc (.cells #[.int .i64 cd, .slice Ah nh ch] 42)).cell? ⟨W3.heap.size, 0, none⟩ = some (.int .i64 cd) := L_w.out.cell 0
  have c_L_w1 : (W14.alloc (.cells #[.int .i64 cd, .slice Ah nh ch] 42)).cell? ⟨W3.heap.size, 1, none⟩ = some (.slice Aw nw cw) := L_w.out.cell 1
  go_wp2_with fail
  refine (eqIntsResult_same cd _ _ _ _ _ _ L _ (J_h.out) J_w.out nh2).mono ?_
  rintro e W15 ⟨rfl, b15⟩
  clear c_L_h0 c_L_h1 c_L_w0 c_L_w1
  replace L_w := Lib.hid (L_w.out.kept b15 L_w.out.inside)
  replace L_g := Lib.hid (L_g.out.kept b15 L_g.out.inside)
  replace L_h := Lib.hid (L_h.out.kept b15 L_h.out.inside)
  replace R_g := Lib.hid (R_g.out.kept b15)
  replace J_w := Lib.hid (J_w.out.kept b15)
  replace J_h := Lib.hid (J_h.out.kept b15)
  replace B := Lib.hid (B.out.trans (b15.mono B.out.size))
  have sz_b15 := b15.size
  try simp only [World.size_alloc] at sz_b15
  clear b15
  have c_L_g0 : W15.cell? ⟨W5.heap.size, 0, none⟩ = some (.int .i64 cd) := L_g.out.cell 0
  have c_L_g1 : W15.cell? ⟨W5.heap.size, 1, none⟩ = some (.slice Ag ng cg) := L_g.out.cell 1
  go_wp2_with fail
  refine (heldIntsResult_any 1 cd ng cg _ Ag _ R_g.out (by decide) (by decide)).mono ?_
  rintro e W16 ⟨rfl, b16⟩
  clear c_L_g0 c_L_g1
  replace L_w := Lib.hid (L_w.out.kept b16 L_w.out.inside)
  replace L_g := Lib.hid (L_g.out.kept b16 L_g.out.inside)
  replace L_h := Lib.hid (L_h.out.kept b16 L_h.out.inside)
  replace R_g := Lib.hid (R_g.out.kept b16)
  replace J_w := Lib.hid (J_w.out.kept b16)
  replace J_h := Lib.hid (J_h.out.kept b16)
  replace B := Lib.hid (B.out.trans (b16.mono B.out.size))
  have sz_b16 := b16.size
  try simp only [World.size_alloc] at sz_b16
  clear b16
  go_wp2
  go_ret
  exact ⟨rfl, B.out⟩

end Go.Proofs.Ytbnlgmcjklfcoaa
