/- The draws: a source of bytes, the next number, one of several. -/
import Derived.Test.YtfpmbkfikfdmkaaMarks
import Derived.Deep.DeepCutAuto
import Derived.IntWalk
namespace Go.Proofs.Ytfpmbkfikfdmkaa
open Go.RowKit

/-- The slice value '.slice A n c' reads as the bytes zs, which lie below lo. -/
def Bys (w : World) (lo : Nat) (A : Option Addr) (n : Nat) (zs : List Int) : Prop :=
  zs.length = n ∧ (0 < n → ∃ b o, A = some ⟨b, o, none⟩ ∧ b < lo ∧ ∀ (k : Nat) (x : Int), zs[k]? = some x → w.cell? ⟨b, o + k, none⟩ = some (.int .u8 x)) ∧ ∀ x ∈ zs, 0 ≤ x ∧ x ≤ 255
theorem Bys.low {w w' : World} {lo n : Nat} {A : Option Addr} {zs : List Int} (h : Bys w lo A n zs) (hb : Below lo w w') : Bys w' lo A n zs := by
  refine ⟨h.1, fun hn => ?_, h.2.2⟩
  obtain ⟨b, o, e, h2, h3⟩ := h.2.1 hn
  exact ⟨b, o, e, h2, fun k x hx => (hb.cell (p := ⟨b, o + k, none⟩) h2).trans (h3 k x hx)⟩

/-- Block g, from lo on, is a source of bytes of which no more than m have been asked. -/
def Src (w : World) (lo g : Nat) (m : Int) : Prop :=
  ∃ A n c zs a, Lies w g 148 #[.slice A n c, .int .i64 a] ∧ 0 ≤ a ∧ a ≤ m ∧ Bys w lo A n zs ∧ n ≤ 1048576 ∧ lo ≤ g
theorem Src.low {w w' : World} {lo g : Nat} {m m' : Int} (h : Src w lo g m) (hb : Below lo w w') (hg : w'.heap[g]? = w.heap[g]?) (hm : m ≤ m') : Src w' lo g m' := by
  obtain ⟨A, n, c, zs, a, h1, h2, h3, h4, h5, h6⟩ := h
  exact ⟨A, n, c, zs, a, hg.trans h1, h2, Int.le_trans h3 hm, h4.low hb, h5, h6⟩
theorem Src.kept {w w' : World} {lo g : Nat} {m : Int} (h : Src w lo g m) (hb : Below w.heap.size w w') : Src w' lo g m := by
  have h' := h
  obtain ⟨A, n, c, zs, a, h1, h2, h3, h4, h5, h6⟩ := h'
  exact h.low (hb.mono (by have := h1.inside; omega)) (hb.block g h1.inside) (Int.le_refl _)
theorem Src.inside {w : World} {lo g : Nat} {m : Int} (h : Src w lo g m) : lo ≤ g ∧ g < w.heap.size := by
  obtain ⟨A, n, c, zs, a, h1, h2, h3, h4, h5, h6⟩ := h
  exact ⟨h6, h1.inside⟩

set_option maxRecDepth 100000 in
set_option maxHeartbeats 1600000 in
theorem l1Next_any (lo g : Nat) (m M : Int) (w : World) (hs : Src w lo g M) (hM : M ≤ 1000000) (m1 : 1 ≤ m) (m2 : m ≤ 60000) :
    Calls Try.prog 118 #[.pointer (some ⟨g, 0, none⟩), .int .i64 m] w fun e w' => ∃ v : Int, e = .returned (.int .i64 v) ∧ (0 ≤ v ∧ v < m) ∧ Src w' lo g (M + 1) ∧ Turned (fun x => x = g) w w' := by
  obtain ⟨A, n, c, zs, a, hl, a0, a1, hz, hn, hg⟩ := hs
  have HL := Lib.hid hl
  have HZ := Lib.hid hz
  have t2 : w.cell? ⟨g, 0, none⟩ = some (.slice A n c) := hl.cell 0
  have t0 : w.cell? ⟨g, 1, none⟩ = some (.int .i64 a) := hl.cell 1
  have t1 : w.frozen? ⟨g, 1, none⟩ = false := hl.thawed 1
  have L1 : Hid (Lies (w.setCell ⟨g, 1, none⟩ (.int .i64 (a + 1))) g 148 #[.slice A n c, .int .i64 (a + 1)]) := hl.set 1 _
  have B1 : Hid (Below lo w (w.setCell ⟨g, 1, none⟩ (.int .i64 (a + 1)))) := (Below.refl _ _).setCell hg _
  have T1 : Hid (Turned (fun x => x = g) w (w.setCell ⟨g, 1, none⟩ (.int .i64 (a + 1)))) := (Turned.refl (fun x => x = g) w).setCell (a := ⟨g, 1, none⟩) rfl _
  have m3 : ¬ m < 1 := by omega
  clear hl hz
  go_enter Try.func118, Try.ntmps118
  by_cases hn0 : n = 0
  · have hk : ((n : Int) == 0) = true := by simp [hn0]
    go_wp2
    go_ret
    have hm := Int.emod_nonneg (a * 7) (show m ≠ 0 by omega)
    have hm2 := Int.emod_lt_of_pos (a * 7) (show 0 < m by omega)
    exact ⟨_, rfl, ⟨hm, hm2⟩, ⟨A, n, c, zs, a + 1, L1.out, by omega, by omega, HZ.out.low B1.out, hn, hg⟩, T1.out⟩
  have hk : ((n : Int) == 0) = false := by simpa using hn0
  obtain ⟨b, o, hA, hb, hcell⟩ := HZ.out.2.1 (by omega)
  subst hA
  have p0 : 0 ≤ a % (n : Int) := Int.emod_nonneg a (by omega)
  have p1 : a % (n : Int) < n := Int.emod_lt_of_pos a (by omega)
  obtain ⟨x, hx⟩ : ∃ x, zs[(a % (n : Int)).toNat]? = some x := ⟨_, List.getElem?_eq_getElem (by have := HZ.out.1; omega)⟩
  have hxr := HZ.out.2.2 x (List.mem_of_getElem? hx)
  have t4 : (w.setCell ⟨g, 1, none⟩ (.int .i64 (a + 1))).cell? ⟨b, o + (a % (n : Int)).toNat, none⟩ = some (.int .u8 x) := (B1.out.cell (p := ⟨b, o + (a % (n : Int)).toNat, none⟩) hb).trans (hcell _ _ hx)
  have t5 : (w.setCell ⟨g, 1, none⟩ (.int .i64 (a + 1))).cell? ⟨g, 0, none⟩ = some (.slice (some ⟨b, o, none⟩) n c) := L1.out.cell 0
  have d0 : 0 ≤ a / (n : Int) := Int.ediv_nonneg a0 (by omega)
  have d1 : a / (n : Int) ≤ a := Int.ediv_le_self _ a0
  obtain ⟨x0, x1⟩ := hxr
  clear hx hcell
  have e1 : a.tmod (n : Int) = a % n := Int.tmod_eq_emod_of_nonneg a0
  have e2 : a.tdiv (n : Int) = a / n := Int.tdiv_eq_ediv_of_nonneg a0
  have e3 : IntKind.i64.wrap (a / n * 37) = a / n * 37 := IntWalk.i64_in _ (by omega)
  have e4 : IntKind.i64.wrap (x + a / n * 37) = x + a / n * 37 := IntWalk.i64_in _ (by omega)
  go_upto_region 8 with fail
  go_cut [7] (fun s7 wx => ∃ v : Int, s7 = .int .i64 v ∧ 0 ≤ v ∧ v ≤ 38000000 ∧ ∃ q, wx = (w.setCell ⟨g, 1, none⟩ (.int .i64 (a + 1))).drewN q)
  case first =>
    go_quiet (fail)
    go_wp2_with fail
    go_meet
    exact ⟨_, rfl, by omega, by omega, _, rfl⟩
  case' rest =>
    obtain ⟨v, rfl, v0, v1, q, rfl⟩ := hcut
  have L2 := Lib.hid (L1.out.draws q)
  have B2 := Lib.hid (below_draws B1.out q)
  have T2 : Hid (Turned (fun x => x = g) w ((w.setCell ⟨g, 1, none⟩ (.int .i64 (a + 1))).drewN q)) := T1.out.trans (Turned.of_below (below_draws (Below.refl _ _) q))
  generalize hW : (w.setCell ⟨g, 1, none⟩ (.int .i64 (a + 1))).drewN q = W2 at *
  clear hW t4 t5 e1 e2 e3 e4 L1 B1 T1
  have m4 : ¬ 60000 < m := by omega
  by_cases h2 : 200 < m
  rotate_left
  · go_wp2
    go_ret
    have hm := Int.emod_nonneg v (show m ≠ 0 by omega)
    have hm2 := Int.emod_lt_of_pos v (show 0 < m by omega)
    exact ⟨_, rfl, ⟨hm, hm2⟩, ⟨_, n, c, zs, a + 1, L2.out, by omega, by omega, HZ.out.low B2.out, hn, hg⟩, T2.out⟩
  have p0' : 0 ≤ (a + 1) % (n : Int) := Int.emod_nonneg _ (by omega)
  have p1' : (a + 1) % (n : Int) < n := Int.emod_lt_of_pos _ (by omega)
  obtain ⟨y, hy⟩ : ∃ y, zs[((a + 1) % (n : Int)).toNat]? = some y := ⟨_, List.getElem?_eq_getElem (by have := HZ.out.1; omega)⟩
  have hyr := HZ.out.2.2 y (List.mem_of_getElem? hy)
  have t4 : W2.cell? ⟨b, o + ((a + 1) % (n : Int)).toNat, none⟩ = some (.int .u8 y) := by
    obtain ⟨b', o', hA', hb', hcell'⟩ := (HZ.out.low B2.out).2.1 (by omega)
    injection hA' with hA'; injection hA' with hA1 hA2; subst hA1 hA2
    exact hcell' _ _ hy
  have t5 : W2.cell? ⟨g, 0, none⟩ = some (.slice (some ⟨b, o, none⟩) n c) := L2.out.cell 0
  obtain ⟨y0, y1⟩ := hyr
  clear hy
  have e0 : IntKind.i64.wrap (a + 1) = a + 1 := IntWalk.i64_in _ (by omega)
  have e1 : (a + 1).tmod (n : Int) = (a + 1) % n := Int.tmod_eq_emod_of_nonneg (by omega)
  have e3 : IntKind.i64.wrap (v * 251) = v * 251 := IntWalk.i64_in _ (by omega)
  have e4 : IntKind.i64.wrap (y * 13) = y * 13 := IntWalk.i64_in _ (by omega)
  have e5 : IntKind.i64.wrap (v * 251 + y * 13) = v * 251 + y * 13 := IntWalk.i64_in _ (by omega)
  have e6 : IntKind.i64.wrap (v * 251 + y * 13 + a) = v * 251 + y * 13 + a := IntWalk.i64_in _ (by omega)
  go_upto_region 10 with fail
  go_cut [7] (fun s7 wx => ∃ v : Int, s7 = .int .i64 v ∧ 0 ≤ v ∧ v ≤ 10000000000 ∧ ∃ q, wx = W2.drewN q)
  case first =>
    go_quiet (fail)
    go_wp2_with fail
    go_meet
    exact ⟨_, rfl, by omega, by omega, _, rfl⟩
  case' rest =>
    obtain ⟨u, rfl, u0, u1, q2, rfl⟩ := hcut
  have L3 := Lib.hid (L2.out.draws q2)
  have B3 := Lib.hid (below_draws B2.out q2)
  have T3 : Hid (Turned (fun x => x = g) w (W2.drewN q2)) := T2.out.trans (Turned.of_below (below_draws (Below.refl _ _) q2))
  generalize hW : W2.drewN q2 = W3 at *
  clear hW t4 t5 e0 e1 e3 e4 e5 e6 L2 B2 T2
  go_wp2
  go_ret
  have hm := Int.emod_nonneg u (show m ≠ 0 by omega)
  have hm2 := Int.emod_lt_of_pos u (show 0 < m by omega)
  exact ⟨_, rfl, ⟨hm, hm2⟩, ⟨_, n, c, zs, a + 1, L3.out, by omega, by omega, HZ.out.low B3.out, hn, hg⟩, T3.out⟩

end Go.Proofs.Ytfpmbkfikfdmkaa
