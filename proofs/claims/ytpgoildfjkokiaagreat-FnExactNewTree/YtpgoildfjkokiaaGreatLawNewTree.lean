/- An arena of vacant places, as the model lays it. -/
import Derived.Test.YtpgoildfjkokiaaGreatNewRes
import Derived.Test.YtpgoildfjkokiaaGreatLawTakeNode
import Derived.Test.YtpgoildfjkokiaaGreatAnswers
import Derived.Test.YtpgoildfjkokiaaGreatTrees
namespace Go.Proofs.YtpgoildfjkokiaaGreat
open Go.RowKit

theorem new_spv {w : World} {base n c1 c2 : Nat} {A1 A2 : Option Addr} (hN : w.ownsRow base 42 4 (.slice A1 n c1) n (vacRow n)) (hF : w.ownsRow base 2 1 (.slice A2 n c2) n ((upTo n).map (Value.int .i64))) :
    SpV w base A1 n c1 A2 n c2 none 0 0 (List.replicate n vacNV) (upTo n) [] := by
  have hB : nodesB (List.replicate n vacNV) = [] := by
    unfold nodesB
    rw [List.flatMap_def, List.map_replicate]
    have : nodeB vacNV = [] := rfl
    rw [this]
    simp
  refine ⟨⟨by rw [vacRow_flat]; exact hN, fun q hq => ?_, fun b _ => by rw [hB]; exact List.not_mem_nil⟩, hF, RetsOut.nil _ _, fun b e => ⟨fun e2 => ?_, by rw [hB]; exact List.not_mem_nil⟩, fun b e => by rcases e with e | e <;> simp [Value.ownBlock, rvsB] at e⟩
  · rw [List.eq_of_mem_replicate hq]
    exact ⟨⟨⟨rfl, Or.inl ⟨rfl, rfl⟩⟩, fun q hq => by simp [vacNV] at hq⟩, by decide⟩
  · rcases hN.2 with ⟨e3, e4⟩ | ⟨g, cap, cur, e3, _, h3, _⟩
    · rw [e3] at e2; simp [Value.ownBlock] at e2
    · rcases hF.2 with ⟨e5, e6⟩ | ⟨g', cap', cur', e5, _, h5, _⟩
      · rw [e5] at e; simp [Value.ownBlock] at e
      · rw [e3] at e2
        rw [e5] at e
        simp only [Value.ownBlock, Option.some.injEq] at e2 e
        subst e2 e
        rw [h3] at h5
        injection h5 with h5
        injection h5 with _ h6
        cases h6

/-- What is free in a new tree's arena. -/
def restTo (m : Nat) : List Int := (List.range m).map (fun k => ((k + 1 : Nat) : Int))
set_option maxRecDepth 100000 in
set_option maxHeartbeats 6400000 in
theorem l6New_any (d st : Int) (m : Nat) (w : World) (hd : 2 ≤ d ∧ d ≤ 3) (hm : 4 ≤ m + 1 ∧ m + 1 ≤ 40) :
    Calls Tryz.prog 33 #[.int .i64 d, .int .i64 st, .int .i64 ((m + 1 : Nat) : Int)] w fun e w' => ∃ A1 c1 A2 c2 q, e = .returned (.agg #[.int .i64 st, .int .i64 d, .slice A1 (m + 1) c1, .slice A2 m c2, .slice none 0 0, .int .i64 0, .int .i64 0, .int .i64 0]) ∧ SpA w' w.heap.size A1 (m + 1) c1 A2 m c2 none 0 0 ((List.replicate (m + 1) vacNV).set 0 q) (restTo m) [] ∧ q.val = vacV ∧ Below w.heap.size w w' := by
  have B := Lib.hid (below_alloc w (.cells #[.int .i64 0, .int .i64 0, .slice none 0 0, .slice none 0 0, .slice none 0 0, .int .i64 0, .int .i64 0, .int .i64 0] 28))
  have L_r := Lib.hid (Lies.new w 28 #[.int .i64 0, .int .i64 0, .slice none 0 0, .slice none 0 0, .slice none 0 0, .int .i64 0, .int .i64 0, .int .i64 0])
  go_enter Tryz.func33, Tryz.ntmps33
  go_wp2_with fail
  refine (l4New_any d (m + 1) _ hm.2).mono ?_
  rintro e W1 ⟨vN, vF, rfl, hN, hF, b1⟩
  simp only [World.size_alloc] at hN hF
  have hr := L_r.out.inside
  have hs1 := b1.size
  simp only [World.size_alloc] at hs1
  replace L_r := Lib.hid (L_r.out.kept b1 hr)
  replace B := Lib.hid (B.out.trans (b1.mono B.out.size))
  clear b1 hr
  obtain ⟨A1, c1, rfl⟩ := ownsRow_slice hN
  obtain ⟨A2, c2, rfl⟩ := ownsRow_slice hF
  obtain ⟨g, rfl, _, g1, g2, _, _⟩ := owned_at hN (Nat.succ_pos m)
  have HV := Lib.hid (new_spv hN hF)
  clear hN hF
  go_upto_region 2 with fail
  have L_t := Lib.hid (Lies.new W1 28 #[.int .i64 st, .int .i64 d, .slice (some ⟨g, 0, none⟩) (m + 1) c1, .slice A2 (m + 1) c2, .slice none 0 0, .int .i64 0, .int .i64 0, .int .i64 0])
  have HV1 := Lib.hid (HV.out.kept (below_alloc W1 (.cells #[.int .i64 st, .int .i64 d, .slice (some ⟨g, 0, none⟩) (m + 1) c1, .slice A2 (m + 1) c2, .slice none 0 0, .int .i64 0, .int .i64 0, .int .i64 0] 28)))
  have hin := HV.out.inB
  have ST : Hid (SpArT (W1.alloc (.cells #[.int .i64 st, .int .i64 d, .slice (some ⟨g, 0, none⟩) (m + 1) c1, .slice A2 (m + 1) c2, .slice none 0 0, .int .i64 0, .int .i64 0, .int .i64 0] 28)) (w.heap.size + 1) W1.heap.size st d (some ⟨g, 0, none⟩) (m + 1) c1 A2 (m + 1) c2 none 0 0 (List.replicate (m + 1) vacNV) (upTo (m + 1)) []) :=
    ⟨L_t.out, HV1.out, fun b hb => by have := (hin b hb).2; omega⟩
  replace L_r := Lib.hid (L_r.out.alloc (.cells #[.int .i64 st, .int .i64 d, .slice (some ⟨g, 0, none⟩) (m + 1) c1, .slice A2 (m + 1) c2, .slice none 0 0, .int .i64 0, .int .i64 0, .int .i64 0] 28))
  replace B := Lib.hid (B.out.alloc B.out.size (.cells #[.int .i64 st, .int .i64 d, .slice (some ⟨g, 0, none⟩) (m + 1) c1, .slice A2 (m + 1) c2, .slice none 0 0, .int .i64 0, .int .i64 0, .int .i64 0] 28))
  have UP : Hid (upTo (m + 1) = (((0 : Nat) : Int)) :: restTo m) := upTo_cons m
  clear HV HV1 hin L_t
  generalize hW : W1.alloc (.cells #[.int .i64 st, .int .i64 d, .slice (some ⟨g, 0, none⟩) (m + 1) c1, .slice A2 (m + 1) c2, .slice none 0 0, .int .i64 0, .int .i64 0, .int .i64 0] 28) = W2 at *
  have hs2 : W2.heap.size = W1.heap.size + 1 := by rw [← hW]; simp only [World.size_alloc]
  have hlt2 : W1.heap.size < W2.heap.size := by omega
  clear hW hs2
  go_wp2_with fail
  refine (l4Empty_any _).mono ?_
  rintro e W3 ⟨rfl, b3⟩
  have hs3 := b3.size
  replace ST := Lib.hid (ST.out.kept b3)
  replace L_r := Lib.hid (L_r.out.kept b3 L_r.out.inside)
  replace B := Lib.hid (B.out.trans (b3.mono B.out.size))
  rw [UP.out] at ST
  clear b3
  go_wp2_with fail
  refine (l4TakeT_any 0 0 (-1) st d (w.heap.size + 1) W1.heap.size g (m + 1) c1 (m + 1) c2 0 0 0 0 d.toNat 0 A2 none none (List.replicate (m + 1) vacNV) (restTo m) [] [] w W3 ST.out (Nat.succ_pos m) hm.2 (by omega) ⟨rfl, fun h => absurd h (Nat.lt_irrefl 0), fun p hp => by simp at hp⟩ B.out (by omega) (by omega) (by omega) (by omega) (by omega) (fun k u hu => by simp at hu) (by omega)).mono ?_
  rintro e W4 ⟨A2', c2', q, rfl, hS4, hq, hT⟩
  have hs4 := hT.2.1
  replace L_r := Lib.hid (hT.lies L_r.out (by show ¬ (w.heap.size = _ ∨ w.heap.size = _); omega))
  replace B := Lib.hid (hT.below B.out (fun x hx => by rcases hx with rfl | rfl <;> omega))
  have S4 := Lib.hid hS4
  have HQ := Lib.hid hq
  clear hT hS4 hq ST
  have V4 : Hid (SpV W4 (w.heap.size + 1) (some ⟨g, 0, none⟩) (m + 1) c1 A2' m c2' none 0 0 ((List.replicate (m + 1) vacNV).set 0 q) (restTo m) []) := S4.out.V
  go_upto_region 3 with fail
  have t0 : W4.cell? ⟨W1.heap.size, 0, none⟩ = some (.int .i64 st) := S4.out.o.cell 0
  have t1 : W4.cell? ⟨W1.heap.size, 1, none⟩ = some (.int .i64 d) := S4.out.o.cell 1
  have t2 : W4.cell? ⟨W1.heap.size, 2, none⟩ = some (.slice (some ⟨g, 0, none⟩) (m + 1) c1) := S4.out.o.cell 2
  have t3 : W4.cell? ⟨W1.heap.size, 3, none⟩ = some (.slice A2' m c2') := S4.out.o.cell 3
  have t4 : W4.cell? ⟨W1.heap.size, 4, none⟩ = some (.slice none 0 0) := S4.out.o.cell 4
  have t5 : W4.cell? ⟨W1.heap.size, 5, none⟩ = some (.int .i64 0) := S4.out.o.cell 5
  have t6 : W4.cell? ⟨W1.heap.size, 6, none⟩ = some (.int .i64 0) := S4.out.o.cell 6
  have t7 : W4.cell? ⟨W1.heap.size, 7, none⟩ = some (.int .i64 0) := S4.out.o.cell 7
  have z0 : W4.cell? ⟨w.heap.size, 0, none⟩ = some (.int .i64 0) := L_r.out.cell 0
  have y0 : W4.frozen? ⟨w.heap.size, 0, none⟩ = false := L_r.out.thawed 0
  have z1 : W4.cell? ⟨w.heap.size, 1, none⟩ = some (.int .i64 0) := L_r.out.cell 1
  have y1 : W4.frozen? ⟨w.heap.size, 1, none⟩ = false := L_r.out.thawed 1
  have z2 : W4.cell? ⟨w.heap.size, 2, none⟩ = some (.slice none 0 0) := L_r.out.cell 2
  have y2 : W4.frozen? ⟨w.heap.size, 2, none⟩ = false := L_r.out.thawed 2
  have z3 : W4.cell? ⟨w.heap.size, 3, none⟩ = some (.slice none 0 0) := L_r.out.cell 3
  have y3 : W4.frozen? ⟨w.heap.size, 3, none⟩ = false := L_r.out.thawed 3
  have z4 : W4.cell? ⟨w.heap.size, 4, none⟩ = some (.slice none 0 0) := L_r.out.cell 4
  have y4 : W4.frozen? ⟨w.heap.size, 4, none⟩ = false := L_r.out.thawed 4
  have z5 : W4.cell? ⟨w.heap.size, 5, none⟩ = some (.int .i64 0) := L_r.out.cell 5
  have y5 : W4.frozen? ⟨w.heap.size, 5, none⟩ = false := L_r.out.thawed 5
  have z6 : W4.cell? ⟨w.heap.size, 6, none⟩ = some (.int .i64 0) := L_r.out.cell 6
  have y6 : W4.frozen? ⟨w.heap.size, 6, none⟩ = false := L_r.out.thawed 6
  have z7 : W4.cell? ⟨w.heap.size, 7, none⟩ = some (.int .i64 0) := L_r.out.cell 7
  have y7 : W4.frozen? ⟨w.heap.size, 7, none⟩ = false := L_r.out.thawed 7
  go_wp2
  refine bodyPost_ret (v := .agg #[.int .i64 st, .int .i64 d, .slice (some ⟨g, 0, none⟩) (m + 1) c1, .slice A2' m c2', .slice none 0 0, .int .i64 0, .int .i64 0, .int .i64 0]) (by simp [results, Tryz.results33, go_sem, z0, z1, z2, z3, z4, z5, z6, z7]) rfl ?_
  refine ⟨some ⟨g, 0, none⟩, c1, A2', c2', q, rfl, ?_, HQ.out, ?_⟩
  · refine SpA.of (base := w.heap.size + 1) (c1 := c1) (c2 := c2') (c3 := 0) ?_ (by omega) (by omega) (by omega) (fun q hq => by simp at hq) (by omega)
    with_reducible (repeat (first | exact V4.out | refine SpV.far ?_ ?_ _))
    all_goals (show w.heap.size < _; omega)
  · with_reducible (repeat (first | exact B.out | refine Below.setCell ?_ ?_ _))
    all_goals (show w.heap.size ≤ w.heap.size; exact Nat.le_refl _)

/-- An answer that is a tree: its code, style, number of dimensions, nodes, who is free. -/
abbrev TrVal := Int × Int × Int × List NVal × List Int
def trNo (c : Int) : TrVal := (c, 0, 0, [], [])
def newTreeR (d st r : Int) : TrVal :=
  if ¬ (0 ≤ st ∧ st ≤ 1) then trNo 3 else if newF d r ≠ 0 then trNo (newF d r) else (0, st, d, List.replicate r.toNat vacV, restTo (r.toNat - 1))
theorem newTreeR_style {d st r : Int} (h : ¬ (0 ≤ st ∧ st ≤ 1)) : newTreeR d st r = trNo 3 := by unfold newTreeR; rw [if_pos h]
theorem newTreeR_no {d st r : Int} (h : 0 ≤ st ∧ st ≤ 1) (h2 : newF d r ≠ 0) : newTreeR d st r = trNo (newF d r) := by unfold newTreeR; rw [if_neg (by simp [h]), if_pos h2]
theorem newTreeR_yes {d st r : Int} (h : 0 ≤ st ∧ st ≤ 1) (h2 : newF d r = 0) : newTreeR d st r = (0, st, d, List.replicate r.toNat vacV, restTo (r.toNat - 1)) := by unfold newTreeR; rw [if_neg (by simp [h]), if_neg (by simp [h2])]
theorem newF_zero {d r : Int} (h : newF d r = 0) : (2 ≤ d ∧ d ≤ 3) ∧ (4 ≤ r ∧ r ≤ 40) := by
  unfold newF at h
  by_cases h1 : 2 ≤ d ∧ d ≤ 3
  · rw [if_pos h1] at h
    by_cases h2 : 4 ≤ r ∧ r ≤ 40
    · exact ⟨h1, h2⟩
    · rw [if_neg h2] at h; cases h
  · rw [if_neg h1] at h; cases h
/-- The model's answer. -/
def SpTree (R : TrVal) (w : World) (e : Ending) (w' : World) : Prop :=
  ∃ A1 c1 A2 c2 ns, e = .returned (.agg #[.int .i64 R.1, .int .i64 R.2.1, .int .i64 R.2.2.1, .slice A1 R.2.2.2.1.length c1, .slice A2 R.2.2.2.2.length c2, .slice none 0 0, .int .i64 0, .int .i64 0, .int .i64 0]) ∧ SpA w' w.heap.size A1 R.2.2.2.1.length c1 A2 R.2.2.2.2.length c2 none 0 0 ns R.2.2.2.2 [] ∧ ns.map NV.val = R.2.2.2.1 ∧ Below w.heap.size w w'
theorem SpTree.no {c : Int} {R : TrVal} {w w' : World} (hR : R = trNo c) (hb : Below w.heap.size w w') : SpTree R w (.returned (.agg #[.int .i64 c, .int .i64 0, .int .i64 0, .slice none 0 0, .slice none 0 0, .slice none 0 0, .int .i64 0, .int .i64 0, .int .i64 0])) w' := by
  subst hR
  exact ⟨none, 0, none, 0, [], rfl, SpA.none _ _, rfl, hb⟩

set_option maxRecDepth 100000 in
set_option maxHeartbeats 3200000 in
theorem specNewTree_any (d st r : Int) (w : World) :
    Calls Tryz.prog 7 #[.int .i64 d, .int .i64 st, .int .i64 r] w (SpTree (newTreeR d st r) w) := by
  have B := Lib.hid (below_alloc w (.cells #[.int .i64 0, .int .i64 0, .int .i64 0, .slice none 0 0, .slice none 0 0, .slice none 0 0, .int .i64 0, .int .i64 0, .int .i64 0] 30))
  have L_r := Lib.hid (Lies.new w 30 #[.int .i64 0, .int .i64 0, .int .i64 0, .slice none 0 0, .slice none 0 0, .slice none 0 0, .int .i64 0, .int .i64 0, .int .i64 0])
  have fld : ∀ (x y z : Int) (u1 u2 u3 : Value) (X : World), (Instr.field 53 (.agg #[.int .i64 x, .int .i64 y, u1, u2, u3, .int .i64 z]) 0).run Tryz.prog X = .ok (.int .i64 x) X := fun _ _ _ _ _ _ _ => by kernel_rfl
  by_cases hs : 0 ≤ st ∧ st ≤ 1
  rotate_left
  · have HR := Lib.hid (newTreeR_style (d := d) (r := r) hs)
    go_enter Tryz.func7, Tryz.ntmps7
    go_wp2_with fail
    refine (l1In_no _ _ _ _ hs).mono ?_
    rintro e W1 ⟨rfl, rfl⟩
    generalize hW : w.alloc (.cells #[.int .i64 0, .int .i64 0, .int .i64 0, .slice none 0 0, .slice none 0 0, .slice none 0 0, .int .i64 0, .int .i64 0, .int .i64 0] 30) = W1 at *
    clear hW
    have z0 : W1.cell? ⟨w.heap.size, 0, none⟩ = some (.int .i64 0) := L_r.out.cell 0
    have y0 : W1.frozen? ⟨w.heap.size, 0, none⟩ = false := L_r.out.thawed 0
    have z1 : W1.cell? ⟨w.heap.size, 1, none⟩ = some (.int .i64 0) := L_r.out.cell 1
    have y1 : W1.frozen? ⟨w.heap.size, 1, none⟩ = false := L_r.out.thawed 1
    have z2 : W1.cell? ⟨w.heap.size, 2, none⟩ = some (.int .i64 0) := L_r.out.cell 2
    have y2 : W1.frozen? ⟨w.heap.size, 2, none⟩ = false := L_r.out.thawed 2
    have z3 : W1.cell? ⟨w.heap.size, 3, none⟩ = some (.slice none 0 0) := L_r.out.cell 3
    have y3 : W1.frozen? ⟨w.heap.size, 3, none⟩ = false := L_r.out.thawed 3
    have z4 : W1.cell? ⟨w.heap.size, 4, none⟩ = some (.slice none 0 0) := L_r.out.cell 4
    have y4 : W1.frozen? ⟨w.heap.size, 4, none⟩ = false := L_r.out.thawed 4
    have z5 : W1.cell? ⟨w.heap.size, 5, none⟩ = some (.slice none 0 0) := L_r.out.cell 5
    have y5 : W1.frozen? ⟨w.heap.size, 5, none⟩ = false := L_r.out.thawed 5
    have z6 : W1.cell? ⟨w.heap.size, 6, none⟩ = some (.int .i64 0) := L_r.out.cell 6
    have y6 : W1.frozen? ⟨w.heap.size, 6, none⟩ = false := L_r.out.thawed 6
    have z7 : W1.cell? ⟨w.heap.size, 7, none⟩ = some (.int .i64 0) := L_r.out.cell 7
    have y7 : W1.frozen? ⟨w.heap.size, 7, none⟩ = false := L_r.out.thawed 7
    have z8 : W1.cell? ⟨w.heap.size, 8, none⟩ = some (.int .i64 0) := L_r.out.cell 8
    have y8 : W1.frozen? ⟨w.heap.size, 8, none⟩ = false := L_r.out.thawed 8
    go_wp2
    refine bodyPost_ret (v := .agg #[.int .i64 (3), .int .i64 0, .int .i64 0, .slice none 0 0, .slice none 0 0, .slice none 0 0, .int .i64 0, .int .i64 0, .int .i64 0]) (by simp [results, Tryz.results7, go_sem, z0, z1, z2, z3, z4, z5, z6, z7, z8]) rfl ?_
    with_reducible refine SpTree.no HR.out ?_
    with_reducible (repeat (first | exact B.out | refine Below.setCell ?_ ?_ _))
    all_goals (show w.heap.size ≤ w.heap.size; exact Nat.le_refl _)
  by_cases hz : newF d r = 0
  rotate_left
  · have HR := Lib.hid (newTreeR_no hs hz)
    have hz1 : (newF d r != 0) = true := by simpa using hz
    go_enter Tryz.func7, Tryz.ntmps7
    go_wp2_with fail
    refine (l1In_yes _ _ _ _ hs.1 hs.2).mono ?_
    rintro e W1 ⟨rfl, rfl⟩
    go_wp2_with fail
    refine (specNewArena_any d r _).mono ?_
    rintro e W1 ⟨b1, ⟨_, rfl⟩ | ⟨hc, _⟩⟩
    rotate_left
    · exact absurd hc hz
    replace L_r := Lib.hid (L_r.out.kept b1 L_r.out.inside)
    replace B := Lib.hid (B.out.trans (b1.mono B.out.size))
    clear b1
    have z0 : W1.cell? ⟨w.heap.size, 0, none⟩ = some (.int .i64 0) := L_r.out.cell 0
    have y0 : W1.frozen? ⟨w.heap.size, 0, none⟩ = false := L_r.out.thawed 0
    have z1 : W1.cell? ⟨w.heap.size, 1, none⟩ = some (.int .i64 0) := L_r.out.cell 1
    have y1 : W1.frozen? ⟨w.heap.size, 1, none⟩ = false := L_r.out.thawed 1
    have z2 : W1.cell? ⟨w.heap.size, 2, none⟩ = some (.int .i64 0) := L_r.out.cell 2
    have y2 : W1.frozen? ⟨w.heap.size, 2, none⟩ = false := L_r.out.thawed 2
    have z3 : W1.cell? ⟨w.heap.size, 3, none⟩ = some (.slice none 0 0) := L_r.out.cell 3
    have y3 : W1.frozen? ⟨w.heap.size, 3, none⟩ = false := L_r.out.thawed 3
    have z4 : W1.cell? ⟨w.heap.size, 4, none⟩ = some (.slice none 0 0) := L_r.out.cell 4
    have y4 : W1.frozen? ⟨w.heap.size, 4, none⟩ = false := L_r.out.thawed 4
    have z5 : W1.cell? ⟨w.heap.size, 5, none⟩ = some (.slice none 0 0) := L_r.out.cell 5
    have y5 : W1.frozen? ⟨w.heap.size, 5, none⟩ = false := L_r.out.thawed 5
    have z6 : W1.cell? ⟨w.heap.size, 6, none⟩ = some (.int .i64 0) := L_r.out.cell 6
    have y6 : W1.frozen? ⟨w.heap.size, 6, none⟩ = false := L_r.out.thawed 6
    have z7 : W1.cell? ⟨w.heap.size, 7, none⟩ = some (.int .i64 0) := L_r.out.cell 7
    have y7 : W1.frozen? ⟨w.heap.size, 7, none⟩ = false := L_r.out.thawed 7
    have z8 : W1.cell? ⟨w.heap.size, 8, none⟩ = some (.int .i64 0) := L_r.out.cell 8
    have y8 : W1.frozen? ⟨w.heap.size, 8, none⟩ = false := L_r.out.thawed 8
    go_wp2
    refine bodyPost_ret (v := .agg #[.int .i64 (newF d r), .int .i64 0, .int .i64 0, .slice none 0 0, .slice none 0 0, .slice none 0 0, .int .i64 0, .int .i64 0, .int .i64 0]) (by simp [results, Tryz.results7, go_sem, z0, z1, z2, z3, z4, z5, z6, z7, z8]) rfl ?_
    with_reducible refine SpTree.no HR.out ?_
    with_reducible (repeat (first | exact B.out | refine Below.setCell ?_ ?_ _))
    all_goals (show w.heap.size ≤ w.heap.size; exact Nat.le_refl _)
  · have HR0 := Lib.hid (newTreeR_yes hs hz)
    obtain ⟨hd, hr1, hr2⟩ := newF_zero hz
    obtain ⟨m, rfl⟩ : ∃ m : Nat, r = ((m + 1 : Nat) : Int) := ⟨r.toNat - 1, by omega⟩
    have hm : 4 ≤ m + 1 ∧ m + 1 ≤ 40 := by omega
    have HR : Hid (newTreeR d st ((m + 1 : Nat) : Int) = (0, st, d, List.replicate (m + 1) vacV, restTo m)) := by
      show _ = _
      rw [HR0.out, Int.toNat_natCast]; rfl
    go_enter Tryz.func7, Tryz.ntmps7
    go_wp2_with fail
    refine (l1In_yes _ _ _ _ hs.1 hs.2).mono ?_
    rintro e W1 ⟨rfl, rfl⟩
    go_wp2_with fail
    refine (specNewArena_any d _ _).mono ?_
    rintro e W1 ⟨b1, ⟨hc, _⟩ | ⟨_, A1, c1, A2, c2, rfl, _, _⟩⟩
    · exact absurd hz hc
    replace L_r := Lib.hid (L_r.out.kept b1 L_r.out.inside)
    replace B := Lib.hid (B.out.trans (b1.mono B.out.size))
    clear b1
    go_wp2_with fail
    refine (l6New_any d st m _ hd hm).mono ?_
    rintro e W2 ⟨A3, c3, A4, c4, q, rfl, hS, hq, b2⟩
    have hb := B.out.size
    have hlr := L_r.out.inside
    replace L_r := Lib.hid (L_r.out.kept b2 L_r.out.inside)
    replace B := Lib.hid (B.out.trans (b2.mono B.out.size))
    clear b2
    have HS := Lib.hid hS
    have HQ := Lib.hid hq
    clear hS hq
    have z0 : W2.cell? ⟨w.heap.size, 0, none⟩ = some (.int .i64 0) := L_r.out.cell 0
    have y0 : W2.frozen? ⟨w.heap.size, 0, none⟩ = false := L_r.out.thawed 0
    have z1 : W2.cell? ⟨w.heap.size, 1, none⟩ = some (.int .i64 0) := L_r.out.cell 1
    have y1 : W2.frozen? ⟨w.heap.size, 1, none⟩ = false := L_r.out.thawed 1
    have z2 : W2.cell? ⟨w.heap.size, 2, none⟩ = some (.int .i64 0) := L_r.out.cell 2
    have y2 : W2.frozen? ⟨w.heap.size, 2, none⟩ = false := L_r.out.thawed 2
    have z3 : W2.cell? ⟨w.heap.size, 3, none⟩ = some (.slice none 0 0) := L_r.out.cell 3
    have y3 : W2.frozen? ⟨w.heap.size, 3, none⟩ = false := L_r.out.thawed 3
    have z4 : W2.cell? ⟨w.heap.size, 4, none⟩ = some (.slice none 0 0) := L_r.out.cell 4
    have y4 : W2.frozen? ⟨w.heap.size, 4, none⟩ = false := L_r.out.thawed 4
    have z5 : W2.cell? ⟨w.heap.size, 5, none⟩ = some (.slice none 0 0) := L_r.out.cell 5
    have y5 : W2.frozen? ⟨w.heap.size, 5, none⟩ = false := L_r.out.thawed 5
    have z6 : W2.cell? ⟨w.heap.size, 6, none⟩ = some (.int .i64 0) := L_r.out.cell 6
    have y6 : W2.frozen? ⟨w.heap.size, 6, none⟩ = false := L_r.out.thawed 6
    have z7 : W2.cell? ⟨w.heap.size, 7, none⟩ = some (.int .i64 0) := L_r.out.cell 7
    have y7 : W2.frozen? ⟨w.heap.size, 7, none⟩ = false := L_r.out.thawed 7
    have z8 : W2.cell? ⟨w.heap.size, 8, none⟩ = some (.int .i64 0) := L_r.out.cell 8
    have y8 : W2.frozen? ⟨w.heap.size, 8, none⟩ = false := L_r.out.thawed 8
    go_wp2
    refine bodyPost_ret (v := .agg #[.int .i64 0, .int .i64 st, .int .i64 d, .slice A3 (m + 1) c3, .slice A4 m c4, .slice none 0 0, .int .i64 0, .int .i64 0, .int .i64 0]) (by simp [results, Tryz.results7, go_sem, z0, z1, z2, z3, z4, z5, z6, z7, z8]) rfl ?_
    have hl1 : (List.replicate (m + 1) vacV).length = m + 1 := List.length_replicate
    have hl2 : (restTo m).length = m := by unfold restTo; rw [List.length_map, List.length_range]
    unfold SpTree
    rw [HR.out]
    dsimp only
    rw [hl1, hl2]
    refine ⟨A3, c3, A4, c4, (List.replicate (m + 1) vacNV).set 0 q, rfl, SpA.of (base := W1.heap.size) (c1 := c3) (c2 := c4) (c3 := 0) ?_ HS.out.m1 HS.out.m2 HS.out.m3 HS.out.t hb, ?_, ?_⟩
    · with_reducible (repeat (first | exact HS.out.V | refine SpV.far ?_ ?_ _))
      all_goals (show w.heap.size < _; omega)
    · rw [List.map_set, HQ.out, List.map_replicate]
      rfl
    · with_reducible (repeat (first | exact B.out | refine Below.setCell ?_ ?_ _))
      all_goals (show w.heap.size ≤ w.heap.size; exact Nat.le_refl _)

end Go.Proofs.YtpgoildfjkokiaaGreat

/- The walk of impl.NewTree. -/
namespace Go.Proofs.YtpgoildfjkokiaaGreat
open Go.RowKit

set_option maxHeartbeats 800000 in
theorem isStyle_any (st : Int) (w : World) : Calls Tryz.prog 34 #[.int .i64 st] w fun e w' => e = .returned (.bool (decide (0 ≤ st ∧ st ≤ 1))) ∧ Below w.heap.size w w' := by
  have B := Lib.hid (below_alloc w (.cells #[.int .i64 st] 2))
  have I1 := Lib.hid (one_ints w st)
  go_enter Tryz.func34, Tryz.ntmps34
  go_wp2_with fail
  refine (within_any 0 1 _ 1 1 _ [st] _ I1.out (by decide)).mono ?_
  rintro e W1 ⟨rfl, rfl⟩
  go_wp2
  go_ret
  refine ⟨?_, B.out⟩
  rw [allIn_one]
  by_cases h1 : 0 ≤ st <;> by_cases h2 : st ≤ 1 <;> simp [h1, h2]

/-- The program's answer, in memory of its own. -/
def ImTree (R : TrVal) (w : World) (e : Ending) (w' : World) : Prop :=
  ∃ A1 c1 A2 c2 A3 c3 ns rs, e = .returned (.agg #[.int .i64 R.1, .int .i64 R.2.1, .int .i64 R.2.2.1, .slice A1 R.2.2.2.1.length c1, .slice A2 R.2.2.2.2.length c2, .slice A3 0 c3, .int .i64 0, .int .i64 0, .int .i64 0]) ∧ AnsAr w' w.heap.size A1 R.2.2.2.1.length c1 A2 R.2.2.2.2.length c2 A3 0 c3 ns R.2.2.2.2 rs ∧ ns.map NV.val = R.2.2.2.1 ∧ rs = [] ∧ Below w.heap.size w w'
theorem ImTree.no {c : Int} {R : TrVal} {w w' : World} (hR : R = trNo c) (hb : Below w.heap.size w w') : ImTree R w (.returned (.agg #[.int .i64 c, .int .i64 0, .int .i64 0, .slice none 0 0, .slice none 0 0, .slice none 0 0, .int .i64 0, .int .i64 0, .int .i64 0])) w' := by
  subst hR
  exact ⟨none, 0, none, 0, none, 0, [], [], rfl, AnsAr.none _ _, rfl, rfl, hb⟩

set_option maxRecDepth 100000 in
set_option maxHeartbeats 6400000 in
theorem implNewTree_any (d st r : Int) (w : World) :
    Calls Tryz.prog 8 #[.int .i64 d, .int .i64 st, .int .i64 r] w (ImTree (newTreeR d st r) w) := by
  have B := Lib.hid (below_alloc w (.cells #[.int .i64 0, .int .i64 0, .int .i64 0, .slice none 0 0, .slice none 0 0, .slice none 0 0, .int .i64 0, .int .i64 0, .int .i64 0] 30))
  have L_r := Lib.hid (Lies.new w 30 #[.int .i64 0, .int .i64 0, .int .i64 0, .slice none 0 0, .slice none 0 0, .slice none 0 0, .int .i64 0, .int .i64 0, .int .i64 0])
  obtain ⟨cd, D, N, hI⟩ := newIs_ex d r
  have HI := Lib.hid hI
  have hcd : newF d r = cd := hI.1
  clear hI
  by_cases hs : 0 ≤ st ∧ st ≤ 1
  rotate_left
  · have HR := Lib.hid (newTreeR_style (d := d) (r := r) hs)
    have hs1 : decide (0 ≤ st ∧ st ≤ 1) = false := by simpa using hs
    clear hcd
    go_enter Tryz.func8, Tryz.ntmps8
    go_wp2_with fail
    refine (isStyle_any _ _).mono ?_
    rintro e W1 ⟨rfl, b1⟩
    rw [hs1]
    replace L_r := Lib.hid (L_r.out.kept b1 L_r.out.inside)
    replace B := Lib.hid (B.out.trans (b1.mono B.out.size))
    clear b1
    have z0 : W1.cell? ⟨w.heap.size, 0, none⟩ = some (.int .i64 0) := L_r.out.cell 0
    have y0 : W1.frozen? ⟨w.heap.size, 0, none⟩ = false := L_r.out.thawed 0
    have z1 : W1.cell? ⟨w.heap.size, 1, none⟩ = some (.int .i64 0) := L_r.out.cell 1
    have y1 : W1.frozen? ⟨w.heap.size, 1, none⟩ = false := L_r.out.thawed 1
    have z2 : W1.cell? ⟨w.heap.size, 2, none⟩ = some (.int .i64 0) := L_r.out.cell 2
    have y2 : W1.frozen? ⟨w.heap.size, 2, none⟩ = false := L_r.out.thawed 2
    have z3 : W1.cell? ⟨w.heap.size, 3, none⟩ = some (.slice none 0 0) := L_r.out.cell 3
    have y3 : W1.frozen? ⟨w.heap.size, 3, none⟩ = false := L_r.out.thawed 3
    have z4 : W1.cell? ⟨w.heap.size, 4, none⟩ = some (.slice none 0 0) := L_r.out.cell 4
    have y4 : W1.frozen? ⟨w.heap.size, 4, none⟩ = false := L_r.out.thawed 4
    have z5 : W1.cell? ⟨w.heap.size, 5, none⟩ = some (.slice none 0 0) := L_r.out.cell 5
    have y5 : W1.frozen? ⟨w.heap.size, 5, none⟩ = false := L_r.out.thawed 5
    have z6 : W1.cell? ⟨w.heap.size, 6, none⟩ = some (.int .i64 0) := L_r.out.cell 6
    have y6 : W1.frozen? ⟨w.heap.size, 6, none⟩ = false := L_r.out.thawed 6
    have z7 : W1.cell? ⟨w.heap.size, 7, none⟩ = some (.int .i64 0) := L_r.out.cell 7
    have y7 : W1.frozen? ⟨w.heap.size, 7, none⟩ = false := L_r.out.thawed 7
    have z8 : W1.cell? ⟨w.heap.size, 8, none⟩ = some (.int .i64 0) := L_r.out.cell 8
    have y8 : W1.frozen? ⟨w.heap.size, 8, none⟩ = false := L_r.out.thawed 8
    go_wp2
    refine bodyPost_ret (v := .agg #[.int .i64 (3), .int .i64 0, .int .i64 0, .slice none 0 0, .slice none 0 0, .slice none 0 0, .int .i64 0, .int .i64 0, .int .i64 0]) (by simp [results, Tryz.results8, go_sem, z0, z1, z2, z3, z4, z5, z6, z7, z8]) rfl ?_
    with_reducible refine ImTree.no HR.out ?_
    with_reducible (repeat (first | exact B.out | refine Below.setCell ?_ ?_ _))
    all_goals (show w.heap.size ≤ w.heap.size; exact Nat.le_refl _)
  have hs1 : decide (0 ≤ st ∧ st ≤ 1) = true := by simpa using hs
  by_cases hz : cd = 0
  rotate_left
  · have HR : Hid (newTreeR d st r = trNo cd) := by show _ = _; rw [newTreeR_no hs (by rw [hcd]; exact hz), hcd]
    have hz1 : (cd != 0) = true := by simpa using hz
    clear hcd
    go_enter Tryz.func8, Tryz.ntmps8
    go_wp2_with fail
    refine (isStyle_any _ _).mono ?_
    rintro e W1 ⟨rfl, b1⟩
    rw [hs1]
    replace L_r := Lib.hid (L_r.out.kept b1 L_r.out.inside)
    replace B := Lib.hid (B.out.trans (b1.mono B.out.size))
    clear b1
    go_wp2_with fail
    refine (implNew_is d r cd D N _ HI.out).mono ?_
    rintro e W2 ⟨A1, c1, A2, c2, qs, rfl, _, _, b2⟩
    replace L_r := Lib.hid (L_r.out.kept b2 L_r.out.inside)
    replace B := Lib.hid (B.out.trans (b2.mono B.out.size))
    clear b2
    go_upto_region 4 with fail
    replace L_r := Lib.hid (L_r.out.alloc (.cells #[.int .i64 cd, .int .i64 D, .slice A1 N c1, .slice A2 N c2, .slice none 0 0, .int .i64 0] 53))
    replace B := Lib.hid (B.out.alloc B.out.size (.cells #[.int .i64 cd, .int .i64 D, .slice A1 N c1, .slice A2 N c2, .slice none 0 0, .int .i64 0] 53))
    have L_n := Lib.hid (Lies.new W2 53 #[.int .i64 cd, .int .i64 D, .slice A1 N c1, .slice A2 N c2, .slice none 0 0, .int .i64 0])
    generalize hW : W2.alloc (.cells #[.int .i64 cd, .int .i64 D, .slice A1 N c1, .slice A2 N c2, .slice none 0 0, .int .i64 0] 53) = W3 at *
    clear hW
    have n0 : W3.cell? ⟨W2.heap.size, 0, none⟩ = some (.int .i64 cd) := L_n.out.cell 0
    have z0 : W3.cell? ⟨w.heap.size, 0, none⟩ = some (.int .i64 0) := L_r.out.cell 0
    have y0 : W3.frozen? ⟨w.heap.size, 0, none⟩ = false := L_r.out.thawed 0
    have z1 : W3.cell? ⟨w.heap.size, 1, none⟩ = some (.int .i64 0) := L_r.out.cell 1
    have y1 : W3.frozen? ⟨w.heap.size, 1, none⟩ = false := L_r.out.thawed 1
    have z2 : W3.cell? ⟨w.heap.size, 2, none⟩ = some (.int .i64 0) := L_r.out.cell 2
    have y2 : W3.frozen? ⟨w.heap.size, 2, none⟩ = false := L_r.out.thawed 2
    have z3 : W3.cell? ⟨w.heap.size, 3, none⟩ = some (.slice none 0 0) := L_r.out.cell 3
    have y3 : W3.frozen? ⟨w.heap.size, 3, none⟩ = false := L_r.out.thawed 3
    have z4 : W3.cell? ⟨w.heap.size, 4, none⟩ = some (.slice none 0 0) := L_r.out.cell 4
    have y4 : W3.frozen? ⟨w.heap.size, 4, none⟩ = false := L_r.out.thawed 4
    have z5 : W3.cell? ⟨w.heap.size, 5, none⟩ = some (.slice none 0 0) := L_r.out.cell 5
    have y5 : W3.frozen? ⟨w.heap.size, 5, none⟩ = false := L_r.out.thawed 5
    have z6 : W3.cell? ⟨w.heap.size, 6, none⟩ = some (.int .i64 0) := L_r.out.cell 6
    have y6 : W3.frozen? ⟨w.heap.size, 6, none⟩ = false := L_r.out.thawed 6
    have z7 : W3.cell? ⟨w.heap.size, 7, none⟩ = some (.int .i64 0) := L_r.out.cell 7
    have y7 : W3.frozen? ⟨w.heap.size, 7, none⟩ = false := L_r.out.thawed 7
    have z8 : W3.cell? ⟨w.heap.size, 8, none⟩ = some (.int .i64 0) := L_r.out.cell 8
    have y8 : W3.frozen? ⟨w.heap.size, 8, none⟩ = false := L_r.out.thawed 8
    go_wp2
    refine bodyPost_ret (v := .agg #[.int .i64 (cd), .int .i64 0, .int .i64 0, .slice none 0 0, .slice none 0 0, .slice none 0 0, .int .i64 0, .int .i64 0, .int .i64 0]) (by simp [results, Tryz.results8, go_sem, z0, z1, z2, z3, z4, z5, z6, z7, z8]) rfl ?_
    with_reducible refine ImTree.no HR.out ?_
    with_reducible (repeat (first | exact B.out | refine Below.setCell ?_ ?_ _))
    all_goals (show w.heap.size ≤ w.heap.size; exact Nat.le_refl _)
  subst hz
  obtain ⟨hd, hr1, hr2⟩ := newF_zero hcd
  have HR0 := Lib.hid (newTreeR_yes hs hcd)
  obtain ⟨rfl, rfl, _⟩ := HI.out.2.1 rfl
  obtain ⟨m, rfl⟩ : ∃ m : Nat, r = ((m + 1 : Nat) : Int) := ⟨r.toNat - 1, by omega⟩
  have hm : 4 ≤ m + 1 ∧ m + 1 ≤ 40 := by omega
  have HR : Hid (newTreeR D st ((m + 1 : Nat) : Int) = (0, st, D, List.replicate (m + 1) vacV, restTo m)) := by
    show _ = _
    rw [HR0.out, Int.toNat_natCast]; rfl
  rw [Int.toNat_natCast] at HI
  clear HR0 hcd
  go_enter Tryz.func8, Tryz.ntmps8
  go_wp2_with fail
  refine (isStyle_any _ _).mono ?_
  rintro e W1 ⟨rfl, b1⟩
  rw [hs1]
  replace L_r := Lib.hid (L_r.out.kept b1 L_r.out.inside)
  replace B := Lib.hid (B.out.trans (b1.mono B.out.size))
  clear b1
  go_wp2_with fail
  refine (implNew_is D _ 0 D (m + 1) _ HI.out).mono ?_
  rintro e W2 ⟨A1, c1, A2, c2, qs, rfl, hV, hq, b2⟩
  replace L_r := Lib.hid (L_r.out.kept b2 L_r.out.inside)
  replace B := Lib.hid (B.out.trans (b2.mono B.out.size))
  clear b2
  go_upto_region 4 with fail
  have h2r := L_r.out.inside
  have hVL := hV.L
  have HA := Lib.hid (hVL.kept (below_alloc W2 (.cells #[.int .i64 0, .int .i64 D, .slice A1 (m + 1) c1, .slice A2 (m + 1) c2, .slice none 0 0, .int .i64 0] 53)))
  replace L_r := Lib.hid (L_r.out.alloc (.cells #[.int .i64 0, .int .i64 D, .slice A1 (m + 1) c1, .slice A2 (m + 1) c2, .slice none 0 0, .int .i64 0] 53))
  replace B := Lib.hid (B.out.alloc B.out.size (.cells #[.int .i64 0, .int .i64 D, .slice A1 (m + 1) c1, .slice A2 (m + 1) c2, .slice none 0 0, .int .i64 0] 53))
  have L_n := Lib.hid (Lies.new W2 53 #[.int .i64 0, .int .i64 D, .slice A1 (m + 1) c1, .slice A2 (m + 1) c2, .slice none 0 0, .int .i64 0])
  have hlr2 := L_r.out.inside
  obtain ⟨V, hVV⟩ : ∃ V, List.replicate (m + 1) vacV = V := ⟨_, rfl⟩
  obtain ⟨F, hFF⟩ : ∃ F, restTo m = F := ⟨_, rfl⟩
  obtain ⟨U, hUU⟩ : ∃ U, ([] : List RVal) = U := ⟨_, rfl⟩
  have HU := Lib.hid hUU
  have HT : Hid (takeR D (qs.map NV.val) (upTo (m + 1)) (([] : List RV).map RV.val) (0, 0, -1, ([] : List EV).map EV.val) = (0, D, V, F, U, 0)) := by
    show _ = _
    rw [hq, List.map_replicate, ← hVV, ← hFF, ← hUU]
    exact takeR_vac hd hm
  rw [hVV, hFF] at HR
  clear hV hVL hq hVV hFF hUU
  generalize hW : W2.alloc (.cells #[.int .i64 0, .int .i64 D, .slice A1 (m + 1) c1, .slice A2 (m + 1) c2, .slice none 0 0, .int .i64 0] 53) = W3 at *
  clear hW
  have n0 : W3.cell? ⟨W2.heap.size, 0, none⟩ = some (.int .i64 0) := L_n.out.cell 0
  go_upto_region 6 with fail
  go_cut [8] (fun s8 wx => ∃ (n_t : Nat) (At Bt Ct : Option Addr) (ct dt ft : Nat) (qt : List NV) (tt : List RV), s8 = .pointer (some ⟨n_t, 0, none⟩) ∧ Hid (Lies wx n_t 53 #[.int .i64 0, .int .i64 D, .slice At V.length ct, .slice Bt F.length dt, .slice Ct U.length ft, .int .i64 0]) ∧ W3.heap.size ≤ n_t ∧ Hid (AnsAr wx W3.heap.size At V.length ct Bt F.length dt Ct U.length ft qt F tt) ∧ Hid (qt.map NV.val = V) ∧ Hid (tt.map RV.val = U) ∧ Hid (Since W3 wx))
  case first =>
    have c_n0 : W3.cell? ⟨W2.heap.size, 0, none⟩ = some (.int .i64 0) := L_n.out.cell 0
    have c_n1 : W3.cell? ⟨W2.heap.size, 1, none⟩ = some (.int .i64 D) := L_n.out.cell 1
    have c_n2 : W3.cell? ⟨W2.heap.size, 2, none⟩ = some (.slice A1 (m + 1) c1) := L_n.out.cell 2
    have c_n3 : W3.cell? ⟨W2.heap.size, 3, none⟩ = some (.slice A2 (m + 1) c2) := L_n.out.cell 3
    have c_n4 : W3.cell? ⟨W2.heap.size, 4, none⟩ = some (.slice none 0 0) := L_n.out.cell 4
    have c_n5 : W3.cell? ⟨W2.heap.size, 5, none⟩ = some (.int .i64 0) := L_n.out.cell 5
    have i_n := L_n.out.inside
    have l_n := Nat.le_of_lt i_n
    have zd := size_of_drew
    go_region_held3 (fun w' => w'.cell? ⟨W2.heap.size, 0, none⟩ = some (.int .i64 0) ∧ w'.cell? ⟨W2.heap.size, 1, none⟩ = some (.int .i64 D) ∧ w'.cell? ⟨W2.heap.size, 2, none⟩ = some (.slice A1 (m + 1) c1) ∧ w'.cell? ⟨W2.heap.size, 3, none⟩ = some (.slice A2 (m + 1) c2) ∧ w'.cell? ⟨W2.heap.size, 4, none⟩ = some (.slice none 0 0) ∧ w'.cell? ⟨W2.heap.size, 5, none⟩ = some (.int .i64 0))
      (exact ⟨Lies.cell (t := 53) (cs := #[.int .i64 0, .int .i64 D, .slice A1 (m + 1) c1, .slice A2 (m + 1) c2, .slice none 0 0, .int .i64 0]) (by with_reducible (repeat (first | refine Lies.far ?_ ?_ _ | refine Lies.alloc ?_ _ | refine Lies.drew ?_ | refine Lies.call ?_ b5 | refine Lies.call ?_ b4 | exact L_n.out)); all_goals (simp only [size_of_drew, size_of_setCell, World.size_alloc]; omega)) 0, Lies.cell (t := 53) (cs := #[.int .i64 0, .int .i64 D, .slice A1 (m + 1) c1, .slice A2 (m + 1) c2, .slice none 0 0, .int .i64 0]) (by with_reducible (repeat (first | refine Lies.far ?_ ?_ _ | refine Lies.alloc ?_ _ | refine Lies.drew ?_ | refine Lies.call ?_ b5 | refine Lies.call ?_ b4 | exact L_n.out)); all_goals (simp only [size_of_drew, size_of_setCell, World.size_alloc]; omega)) 1, Lies.cell (t := 53) (cs := #[.int .i64 0, .int .i64 D, .slice A1 (m + 1) c1, .slice A2 (m + 1) c2, .slice none 0 0, .int .i64 0]) (by with_reducible (repeat (first | refine Lies.far ?_ ?_ _ | refine Lies.alloc ?_ _ | refine Lies.drew ?_ | refine Lies.call ?_ b5 | refine Lies.call ?_ b4 | exact L_n.out)); all_goals (simp only [size_of_drew, size_of_setCell, World.size_alloc]; omega)) 2, Lies.cell (t := 53) (cs := #[.int .i64 0, .int .i64 D, .slice A1 (m + 1) c1, .slice A2 (m + 1) c2, .slice none 0 0, .int .i64 0]) (by with_reducible (repeat (first | refine Lies.far ?_ ?_ _ | refine Lies.alloc ?_ _ | refine Lies.drew ?_ | refine Lies.call ?_ b5 | refine Lies.call ?_ b4 | exact L_n.out)); all_goals (simp only [size_of_drew, size_of_setCell, World.size_alloc]; omega)) 3, Lies.cell (t := 53) (cs := #[.int .i64 0, .int .i64 D, .slice A1 (m + 1) c1, .slice A2 (m + 1) c2, .slice none 0 0, .int .i64 0]) (by with_reducible (repeat (first | refine Lies.far ?_ ?_ _ | refine Lies.alloc ?_ _ | refine Lies.drew ?_ | refine Lies.call ?_ b5 | refine Lies.call ?_ b4 | exact L_n.out)); all_goals (simp only [size_of_drew, size_of_setCell, World.size_alloc]; omega)) 4, Lies.cell (t := 53) (cs := #[.int .i64 0, .int .i64 D, .slice A1 (m + 1) c1, .slice A2 (m + 1) c2, .slice none 0 0, .int .i64 0]) (by with_reducible (repeat (first | refine Lies.far ?_ ?_ _ | refine Lies.alloc ?_ _ | refine Lies.drew ?_ | refine Lies.call ?_ b5 | refine Lies.call ?_ b4 | exact L_n.out)); all_goals (simp only [size_of_drew, size_of_setCell, World.size_alloc]; omega)) 5⟩)
      (first
        | (go_at_call 37; refine (vacantNode_any _).mono ?_
           rintro e W4 ⟨rfl, b4⟩
           have q_W4 := cells_kept b4
           have u_W4 := frozen_kept b4
           have z_W4 := sizes_kept b4
           try simp only [size_of_drew, World.size_alloc] at z_W4
           have le_W3_W4 : W3.heap.size ≤ W4.heap.size := by omega
           try (have lt_W3_W4 : W3.heap.size < W4.heap.size := by omega))
        | (go_at_call 36; refine (implTakeNode_is (cd := 0) (D := D) (idr := 0) (V := V) (F := F) (U := U) D 0 0 (-1) (m + 1) c1 (m + 1) c2 0 0 0 0 A1 A2 none none qs (upTo (m + 1)) [] [] _ HT.out (HA.out.kept (by with_reducible (repeat (first | refine Since.below ?_ | refine Since.drew ?_ | refine Since.alloc ?_ _ | refine Since.call ?_ b4 | exact Since.of (Below.refl W3.heap.size W3))))) (by decide) ⟨rfl, fun h => absurd h (Nat.lt_irrefl 0), fun p hp => by simp at hp⟩ (by decide)).mono ?_
           rintro e W5 ⟨At, ct, Bt, dt, Ct, ft, qt, tt, rfl, he, ve, ue, b5⟩
           have q_W5 := cells_kept b5
           have u_W5 := frozen_kept b5
           have z_W5 := sizes_kept b5
           try simp only [size_of_drew, World.size_alloc] at z_W5
           have le_W3_W5 : W3.heap.size ≤ W5.heap.size := by omega
           try (have lt_W3_W5 : W3.heap.size < W5.heap.size := by omega)
           have le_W4_W5 : W4.heap.size ≤ W5.heap.size := by omega
           try (have lt_W4_W5 : W4.heap.size < W5.heap.size := by omega)))
    all_goals
      rename_i hH
      clear hH zd q_W4 u_W4 q_W5 u_W5 c_n0 c_n1 c_n2 c_n3 c_n4 c_n5
      go_wp2_with fail
      go_meet
      refine ⟨_, At, Bt, Ct, ct, dt, ft, qt, tt, rfl, ?_, ?_, ?_, ?_, ?_, ?_⟩
      · refine Lib.hid ?_
        first
          | (refine Lies.as (cs := ((((((#[.int .i64 0, .int .i64 0, .slice none 0 0, .slice none 0 0, .slice none 0 0, .int .i64 0].setIfInBounds 0 (.int .i64 0)).setIfInBounds 1 (.int .i64 D)).setIfInBounds 2 (.slice At V.length ct)).setIfInBounds 3 (.slice Bt F.length dt)).setIfInBounds 4 (.slice Ct U.length ft)).setIfInBounds 5 (.int .i64 0))) ?_ (by simp)
             with_reducible (repeat (first | refine Lies.set ?_ _ _ | refine Lies.far ?_ ?_ _ | (refine Lies.laid ?_; (simp only [size_of_drew, size_of_setCell, World.size_alloc]; done)) | exact Lies.new _ _ _ | exact Lies.laid2 _ _ _ _ | refine Lies.alloc ?_ _ | refine Lies.drew ?_ | refine Lies.call ?_ b5 | refine Lies.call ?_ b4))
             all_goals first | exact Nat.ne_of_lt (Nat.lt_succ_self _) | exact Nat.ne_of_gt (Nat.lt_succ_self _) | exact Nat.ne_of_lt lt_W3_W4 | exact Nat.ne_of_gt lt_W3_W4 | exact Nat.ne_of_lt lt_W3_W5 | exact Nat.ne_of_gt lt_W3_W5 | exact Nat.ne_of_lt lt_W4_W5 | exact Nat.ne_of_gt lt_W4_W5 | (show ¬ _ = _; (try simp only [size_of_drew, size_of_setCell, World.size_alloc]); omega)
             done)
          | (with_reducible (repeat (first | refine Lies.far ?_ ?_ _ | (refine Lies.laid ?_; (simp only [size_of_drew, size_of_setCell, World.size_alloc]; done)) | exact Lies.new _ _ _ | exact Lies.laid2 _ _ _ _ | refine Lies.alloc ?_ _ | refine Lies.drew ?_ | refine Lies.call ?_ b5 | refine Lies.call ?_ b4))
             all_goals first | exact Nat.ne_of_lt (Nat.lt_succ_self _) | exact Nat.ne_of_gt (Nat.lt_succ_self _) | exact Nat.ne_of_lt lt_W3_W4 | exact Nat.ne_of_gt lt_W3_W4 | exact Nat.ne_of_lt lt_W3_W5 | exact Nat.ne_of_gt lt_W3_W5 | exact Nat.ne_of_lt lt_W4_W5 | exact Nat.ne_of_gt lt_W4_W5 | (show ¬ _ = _; (try simp only [size_of_drew, size_of_setCell, World.size_alloc]); omega)
             done)
      · first | exact Nat.le_refl _ | exact Nat.le_succ _ | exact le_W3_W4 | exact Nat.le_succ_of_le le_W3_W4 | exact le_W3_W5 | exact Nat.le_succ_of_le le_W3_W5 | omega
      · refine Lib.hid ?_
        refine AnsAr.lower (AnsAr.stay he ?_) ?_
        with_reducible (repeat (first | refine Stay.far ?_ ?_ _ | refine Stay.alloc ?_ _ | refine Stay.drew ?_))
        · exact Stay.refl _ _
        all_goals ((try dsimp only); (try simp only [size_of_drew, size_of_setCell, World.size_alloc]); omega)
      · exact Lib.hid ve
      · exact Lib.hid ue
      · refine Lib.hid ?_
        with_reducible (repeat (first | refine Since.setCell ?_ ?_ _ | refine Since.alloc ?_ _ | refine Since.drew ?_ | refine Since.call ?_ b5 | refine Since.call ?_ b4))
        · exact Since.of (Below.refl _ _)
        all_goals first | exact Nat.le_refl _ | exact Nat.le_succ _ | exact le_W3_W4 | exact Nat.le_succ_of_le le_W3_W4 | exact le_W3_W5 | exact Nat.le_succ_of_le le_W3_W5 | (show _ ≤ _; (try simp only [size_of_drew, size_of_setCell, World.size_alloc]); omega)
  case' rest =>
    obtain ⟨n_t, At, Bt, Ct, ct, dt, ft, qt, tt, rfl, L_t, g_t, E, VE, UE, S⟩ := hcut
    have bS := S.out.below
    clear S
  have d_t_r : ¬ n_t = w.heap.size := by have := L_r.out.inside; omega
  have e_t_r : ¬ w.heap.size = n_t := fun e => d_t_r e.symm
  have d_t_n : ¬ n_t = W2.heap.size := by have := L_n.out.inside; omega
  have e_t_n : ¬ W2.heap.size = n_t := fun e => d_t_n e.symm
  skip
  have sz_wc := bS.size
  try simp only [World.size_alloc] at sz_wc
  replace L_r := Lib.hid (L_r.out.kept bS L_r.out.inside)
  replace L_n := Lib.hid (L_n.out.kept bS L_n.out.inside)
  replace B := Lib.hid (B.out.trans (bS.mono B.out.size))
  clear bS
  have t0 : wc.cell? ⟨n_t, 0, none⟩ = some (.int .i64 0) := L_t.out.cell 0
  have t1 : wc.cell? ⟨n_t, 1, none⟩ = some (.int .i64 D) := L_t.out.cell 1
  have t2 : wc.cell? ⟨n_t, 2, none⟩ = some (.slice At V.length ct) := L_t.out.cell 2
  have t3 : wc.cell? ⟨n_t, 3, none⟩ = some (.slice Bt F.length dt) := L_t.out.cell 3
  have t4 : wc.cell? ⟨n_t, 4, none⟩ = some (.slice Ct U.length ft) := L_t.out.cell 4
  have t5 : wc.cell? ⟨n_t, 5, none⟩ = some (.int .i64 0) := L_t.out.cell 5
  have hlr9 := L_r.out.inside
  have z0 : wc.cell? ⟨w.heap.size, 0, none⟩ = some (.int .i64 0) := L_r.out.cell 0
  have y0 : wc.frozen? ⟨w.heap.size, 0, none⟩ = false := L_r.out.thawed 0
  have z1 : wc.cell? ⟨w.heap.size, 1, none⟩ = some (.int .i64 0) := L_r.out.cell 1
  have y1 : wc.frozen? ⟨w.heap.size, 1, none⟩ = false := L_r.out.thawed 1
  have z2 : wc.cell? ⟨w.heap.size, 2, none⟩ = some (.int .i64 0) := L_r.out.cell 2
  have y2 : wc.frozen? ⟨w.heap.size, 2, none⟩ = false := L_r.out.thawed 2
  have z3 : wc.cell? ⟨w.heap.size, 3, none⟩ = some (.slice none 0 0) := L_r.out.cell 3
  have y3 : wc.frozen? ⟨w.heap.size, 3, none⟩ = false := L_r.out.thawed 3
  have z4 : wc.cell? ⟨w.heap.size, 4, none⟩ = some (.slice none 0 0) := L_r.out.cell 4
  have y4 : wc.frozen? ⟨w.heap.size, 4, none⟩ = false := L_r.out.thawed 4
  have z5 : wc.cell? ⟨w.heap.size, 5, none⟩ = some (.slice none 0 0) := L_r.out.cell 5
  have y5 : wc.frozen? ⟨w.heap.size, 5, none⟩ = false := L_r.out.thawed 5
  have z6 : wc.cell? ⟨w.heap.size, 6, none⟩ = some (.int .i64 0) := L_r.out.cell 6
  have y6 : wc.frozen? ⟨w.heap.size, 6, none⟩ = false := L_r.out.thawed 6
  have z7 : wc.cell? ⟨w.heap.size, 7, none⟩ = some (.int .i64 0) := L_r.out.cell 7
  have y7 : wc.frozen? ⟨w.heap.size, 7, none⟩ = false := L_r.out.thawed 7
  have z8 : wc.cell? ⟨w.heap.size, 8, none⟩ = some (.int .i64 0) := L_r.out.cell 8
  have y8 : wc.frozen? ⟨w.heap.size, 8, none⟩ = false := L_r.out.thawed 8
  go_wp2
  refine bodyPost_ret (v := .agg #[.int .i64 0, .int .i64 st, .int .i64 D, .slice At V.length ct, .slice Bt F.length dt, .slice Ct U.length ft, .int .i64 0, .int .i64 0, .int .i64 0]) (by simp [results, Tryz.results8, go_sem, z0, z1, z2, z3, z4, z5, z6, z7, z8]) rfl ?_
  have hU := HU.out
  subst hU
  have E0 : Hid (AnsAr wc W3.heap.size At V.length ct Bt F.length dt Ct 0 ft qt F tt) := E.out
  unfold ImTree
  rw [HR.out]
  dsimp only
  refine ⟨At, ct, Bt, dt, Ct, ft, qt, tt, rfl, ?_, VE.out, List.map_eq_nil_iff.1 UE.out, ?_⟩
  · refine AnsAr.lower (lo := W3.heap.size) ?_ (by omega)
    with_reducible (repeat (first | exact E0.out | refine AnsAr.far ?_ ?_ _))
    all_goals (show w.heap.size < _; omega)
  · with_reducible (repeat (first | exact B.out | refine Below.setCell ?_ ?_ _))
    all_goals (show w.heap.size ≤ w.heap.size; exact Nat.le_refl _)

end Go.Proofs.YtpgoildfjkokiaaGreat

/- Answers that are trees: the walks of the laws' markTree, heldTree, markTreeResult, heldTreeResult, eqTreeResult. -/
namespace Go.Proofs.YtpgoildfjkokiaaGreat
open Go.RowKit

set_option maxHeartbeats 1600000 in
theorem markTree_any (k st d rt rn ct : Int) (n1 c1 n2 c2 n3 c3 : Nat) (A1 A2 A3 : Option Addr) (ns : List NV) (rs : List RV) (w : World) (hS : ArSh w A1 A2 A3 n1 n2 n3 ns rs) (hw : Writ w (arCells A1 A2 A3 n2 ns rs)) (hd : (arCells A1 A2 A3 n2 ns rs).Nodup) (h0 : 0 ≤ k) (h1 : k + (arCells A1 A2 A3 n2 ns rs).length ≤ 4398046511104) :
    Calls Tryz.prog 39 #[.agg #[.int .i64 st, .int .i64 d, .slice A1 n1 c1, .slice A2 n2 c2, .slice A3 n3 c3, .int .i64 rt, .int .i64 rn, .int .i64 ct], .int .i64 k] w fun e w' => e = .returned (.int .i64 (k + (arCells A1 A2 A3 n2 ns rs).length)) ∧ Passed k (arCells A1 A2 A3 n2 ns rs) w w' := by
  have B := Lib.hid (below_alloc w (.cells #[.int .i64 st, .int .i64 d, .slice A1 n1 c1, .slice A2 n2 c2, .slice A3 n3 c3, .int .i64 rt, .int .i64 rn, .int .i64 ct] 28))
  have SH := Lib.hid (hS.kept B.out)
  have HW := Lib.hid (hw.kept B.out)
  have HD := Lib.hid hd
  clear hS hw hd
  go_enter Tryz.func39, Tryz.ntmps39
  go_wp2_with fail
  refine (markArena_any k d n1 c1 n2 c2 n3 c3 A1 A2 A3 ns rs _ SH.out HW.out HD.out h0 h1).mono ?_
  rintro e W1 ⟨rfl, p1⟩
  have P1 := Lib.hid (p1.before B.out)
  clear p1
  go_wp2
  go_ret
  exact ⟨rfl, P1.out⟩

set_option maxHeartbeats 1600000 in
theorem markTreeResult_any (k cd st d rt rn ct : Int) (n1 c1 n2 c2 n3 c3 : Nat) (A1 A2 A3 : Option Addr) (ns : List NV) (rs : List RV) (w : World) (hS : ArSh w A1 A2 A3 n1 n2 n3 ns rs) (hw : Writ w (arCells A1 A2 A3 n2 ns rs)) (hd : (arCells A1 A2 A3 n2 ns rs).Nodup) (h0 : 0 ≤ k) (h1 : k + (arCells A1 A2 A3 n2 ns rs).length ≤ 4398046511104) :
    Calls Tryz.prog 10 #[.agg #[.int .i64 cd, .int .i64 st, .int .i64 d, .slice A1 n1 c1, .slice A2 n2 c2, .slice A3 n3 c3, .int .i64 rt, .int .i64 rn, .int .i64 ct], .int .i64 k] w fun e w' => e = .returned (.int .i64 (k + (arCells A1 A2 A3 n2 ns rs).length)) ∧ Passed k (arCells A1 A2 A3 n2 ns rs) w w' := by
  have B := Lib.hid (below_alloc w (.cells #[.int .i64 cd, .int .i64 st, .int .i64 d, .slice A1 n1 c1, .slice A2 n2 c2, .slice A3 n3 c3, .int .i64 rt, .int .i64 rn, .int .i64 ct] 30))
  have SH := Lib.hid (hS.kept B.out)
  have HW := Lib.hid (hw.kept B.out)
  have HD := Lib.hid hd
  clear hS hw hd
  go_enter Tryz.func10, Tryz.ntmps10
  go_wp2_with fail
  refine (markTree_any k st d rt rn ct n1 c1 n2 c2 n3 c3 A1 A2 A3 ns rs _ SH.out HW.out HD.out h0 h1).mono ?_
  rintro e W1 ⟨rfl, p1⟩
  have P1 := Lib.hid (p1.before B.out)
  clear p1
  go_wp2
  go_ret
  exact ⟨rfl, P1.out⟩

set_option maxHeartbeats 1600000 in
theorem heldTree_any (k st d rt rn ct : Int) (n1 c1 n2 c2 n3 c3 : Nat) (A1 A2 A3 : Option Addr) (ns : List NV) (rs : List RV) (w : World) (hS : ArSh w A1 A2 A3 n1 n2 n3 ns rs) (hm : MarkAt w k (arCells A1 A2 A3 n2 ns rs)) (h0 : 0 ≤ k) (h1 : k + (arCells A1 A2 A3 n2 ns rs).length ≤ 4398046511104) :
    Calls Tryz.prog 40 #[.agg #[.int .i64 st, .int .i64 d, .slice A1 n1 c1, .slice A2 n2 c2, .slice A3 n3 c3, .int .i64 rt, .int .i64 rn, .int .i64 ct], .int .i64 k] w fun e w' => e = .returned (.int .i64 (k + (arCells A1 A2 A3 n2 ns rs).length)) ∧ Below w.heap.size w w' := by
  have B := Lib.hid (below_alloc w (.cells #[.int .i64 st, .int .i64 d, .slice A1 n1 c1, .slice A2 n2 c2, .slice A3 n3 c3, .int .i64 rt, .int .i64 rn, .int .i64 ct] 28))
  have SH := Lib.hid (hS.kept B.out)
  have HM := Lib.hid (hm.kept B.out)
  have g : ¬ (k + ((arCells A1 A2 A3 n2 ns rs).length : Int) < 0) := by omega
  clear hS hm
  go_enter Tryz.func40, Tryz.ntmps40
  go_wp2_with fail
  refine (heldArena_any k d n1 c1 n2 c2 n3 c3 A1 A2 A3 ns rs _ SH.out HM.out h0 h1).mono ?_
  rintro e W1 ⟨rfl, b1⟩
  have B1 := Lib.hid (B.out.trans (b1.mono B.out.size))
  clear b1
  go_wp2
  go_ret
  exact ⟨rfl, B1.out⟩

set_option maxHeartbeats 1600000 in
theorem heldTreeResult_any (k cd st d rt rn ct : Int) (n1 c1 n2 c2 n3 c3 : Nat) (A1 A2 A3 : Option Addr) (ns : List NV) (rs : List RV) (w : World) (hS : ArSh w A1 A2 A3 n1 n2 n3 ns rs) (hm : MarkAt w k (arCells A1 A2 A3 n2 ns rs)) (h0 : 0 ≤ k) (h1 : k + (arCells A1 A2 A3 n2 ns rs).length ≤ 4398046511104) :
    Calls Tryz.prog 11 #[.agg #[.int .i64 cd, .int .i64 st, .int .i64 d, .slice A1 n1 c1, .slice A2 n2 c2, .slice A3 n3 c3, .int .i64 rt, .int .i64 rn, .int .i64 ct], .int .i64 k] w fun e w' => e = .returned (.int .i64 (k + (arCells A1 A2 A3 n2 ns rs).length)) ∧ Below w.heap.size w w' := by
  have B := Lib.hid (below_alloc w (.cells #[.int .i64 cd, .int .i64 st, .int .i64 d, .slice A1 n1 c1, .slice A2 n2 c2, .slice A3 n3 c3, .int .i64 rt, .int .i64 rn, .int .i64 ct] 30))
  have SH := Lib.hid (hS.kept B.out)
  have HM := Lib.hid (hm.kept B.out)
  have g : ¬ (k + ((arCells A1 A2 A3 n2 ns rs).length : Int) < 0) := by omega
  clear hS hm
  go_enter Tryz.func11, Tryz.ntmps11
  go_wp2_with fail
  refine (heldTree_any k st d rt rn ct n1 c1 n2 c2 n3 c3 A1 A2 A3 ns rs _ SH.out HM.out h0 h1).mono ?_
  rintro e W1 ⟨rfl, b1⟩
  have B1 := Lib.hid (B.out.trans (b1.mono B.out.size))
  clear b1
  go_wp2
  go_ret
  exact ⟨rfl, B1.out⟩

set_option maxHeartbeats 1600000 in
theorem eqTreeResult_same (cd st d rt rn ct : Int) (c4 c5 c6 : Nat) (A4 A5 A6 : Option Addr) (ns' : List NV) (rs' : List RV) (A1 A2 A3 : Option Addr) (n1 c1 n2 c2 n3 c3 : Nat) (ns : List NV) (fs : List Int) (rs : List RV) (w : World) (hp : ArenaL w A1 A2 A3 n1 n2 n3 ns fs rs) (hq : ArenaL w A4 A5 A6 n1 n2 n3 ns' fs rs') (hv : ns.map NV.val = ns'.map NV.val) (hr : rs.map RV.val = rs'.map RV.val) :
    Calls Tryz.prog 9 #[.agg #[.int .i64 cd, .int .i64 st, .int .i64 d, .slice A1 n1 c1, .slice A2 n2 c2, .slice A3 n3 c3, .int .i64 rt, .int .i64 rn, .int .i64 ct], .agg #[.int .i64 cd, .int .i64 st, .int .i64 d, .slice A4 n1 c4, .slice A5 n2 c5, .slice A6 n3 c6, .int .i64 rt, .int .i64 rn, .int .i64 ct]] w fun e w' => e = .returned (.bool true) ∧ Below w.heap.size w w' := by
  have e1 : (cd != cd) = false := by simp
  have HP := Lib.hid hp
  have HQ := Lib.hid hq
  have HV := Lib.hid hv
  have HR := Lib.hid hr
  clear hp hq hv hr
  have B := Lib.hid (below_alloc w (.cells #[.int .i64 cd, .int .i64 st, .int .i64 d, .slice A1 n1 c1, .slice A2 n2 c2, .slice A3 n3 c3, .int .i64 rt, .int .i64 rn, .int .i64 ct] 30))
  replace B := Lib.hid (B.out.alloc B.out.size (.cells #[.int .i64 cd, .int .i64 st, .int .i64 d, .slice A4 n1 c4, .slice A5 n2 c5, .slice A6 n3 c6, .int .i64 rt, .int .i64 rn, .int .i64 ct] 30))
  go_enter Tryz.func9, Tryz.ntmps9
  go_wp2_with fail
  refine (eqTree_same st d rt rn ct c4 c5 c6 A4 A5 A6 ns' rs' A1 A2 A3 n1 c1 n2 c2 n3 c3 ns fs rs _ (HP.out.kept B.out) (HQ.out.kept B.out) HV.out HR.out).mono ?_
  rintro e W1 ⟨rfl, b1⟩
  replace B := Lib.hid (B.out.trans (b1.mono B.out.size))
  clear b1
  go_wp2
  go_ret
  exact ⟨rfl, B.out⟩

theorem markAnsT_any (cd st d rt rn ct : Int) (lo hi n1 c1 n2 c2 n3 c3 : Nat) (A1 A2 A3 : Option Addr) (ns : List NV) (fs : List Int) (rs : List RV) (w : World) (h : AnsAr w lo A1 n1 c1 A2 n2 c2 A3 n3 c3 ns fs rs) (hh : ∀ c ∈ arCells A1 A2 A3 n2 ns rs, c.block < hi) {K : Nat} (hK : (arCells A1 A2 A3 n2 ns rs).length = K) :
    Calls Tryz.prog 10 #[.agg #[.int .i64 cd, .int .i64 st, .int .i64 d, .slice A1 n1 c1, .slice A2 n2 c2, .slice A3 n3 c3, .int .i64 rt, .int .i64 rn, .int .i64 ct], .int .i64 1] w fun e w' => e = .returned (.int .i64 (1 + K)) ∧ HeldAr w' 1 A1 n1 A2 n2 A3 n3 ns rs ∧ Turned (fun x => lo ≤ x ∧ x < hi) w w' := by
  have hf := h.few
  refine (markTreeResult_any 1 cd st d rt rn ct n1 c1 n2 c2 n3 c3 A1 A2 A3 ns rs w h.sh h.writ h.nd (by decide) (by omega)).mono fun e w' hp => ?_
  obtain ⟨h1, h2⟩ := hp
  refine ⟨by rw [h1, hK], ⟨h.sh.passed2 h2 h.writ, h2.M⟩, h2.T.wider ?_⟩
  rintro b ⟨c, hc, rfl⟩
  exact ⟨(h.each c hc).2.2.1, hh c hc⟩
theorem heldAnsT_any (cd st d rt rn ct : Int) (n1 c1 n2 c2 n3 c3 : Nat) (A1 A2 A3 : Option Addr) (ns : List NV) (rs : List RV) (w : World) (h : HeldAr w 1 A1 n1 A2 n2 A3 n3 ns rs) {K : Nat} (hK : (arCells A1 A2 A3 n2 ns rs).length = K) (hf : K ≤ 17179869184) :
    Calls Tryz.prog 11 #[.agg #[.int .i64 cd, .int .i64 st, .int .i64 d, .slice A1 n1 c1, .slice A2 n2 c2, .slice A3 n3 c3, .int .i64 rt, .int .i64 rn, .int .i64 ct], .int .i64 1] w fun e w' => e = .returned (.int .i64 (1 + K)) ∧ Below w.heap.size w w' := by
  refine (heldTreeResult_any 1 cd st d rt rn ct n1 c1 n2 c2 n3 c3 A1 A2 A3 ns rs w h.S h.M (by decide) (by omega)).mono fun e w' hp => ?_
  obtain ⟨h1, h2⟩ := hp
  exact ⟨by rw [h1, hK], h2⟩

end Go.Proofs.YtpgoildfjkokiaaGreat

/- FnExactNewTree: for all numbers impl.NewTree answers as the model does and answers in memory of its own. No condition. -/
namespace Go.Proofs.YtpgoildfjkokiaaGreat
open Go.RowKit

theorem specNewTree_is (d st r : Int) (w : World) {cd S D : Int} {V : List NVal} {F : List Int} (hR : newTreeR d st r = (cd, S, D, V, F)) : Calls Tryz.prog 7 #[.int .i64 d, .int .i64 st, .int .i64 r] w fun e w' => ∃ A1 c1 A2 c2 ns, e = .returned (.agg #[.int .i64 cd, .int .i64 S, .int .i64 D, .slice A1 V.length c1, .slice A2 F.length c2, .slice none 0 0, .int .i64 0, .int .i64 0, .int .i64 0]) ∧ SpA w' w.heap.size A1 V.length c1 A2 F.length c2 none 0 0 ns F [] ∧ ns.map NV.val = V ∧ Below w.heap.size w w' := by
  have h0 := specNewTree_any d st r w
  rw [hR] at h0
  exact h0

theorem implNewTree_is (d st r : Int) (w : World) {cd S D : Int} {V : List NVal} {F : List Int} (hR : newTreeR d st r = (cd, S, D, V, F)) : Calls Tryz.prog 8 #[.int .i64 d, .int .i64 st, .int .i64 r] w fun e w' => ∃ A1 c1 A2 c2 A3 c3 ns rs, e = .returned (.agg #[.int .i64 cd, .int .i64 S, .int .i64 D, .slice A1 V.length c1, .slice A2 F.length c2, .slice A3 0 c3, .int .i64 0, .int .i64 0, .int .i64 0]) ∧ AnsAr w' w.heap.size A1 V.length c1 A2 F.length c2 A3 0 c3 ns F rs ∧ ns.map NV.val = V ∧ rs = [] ∧ Below w.heap.size w w' := by
  have h0 := implNewTree_any d st r w
  rw [hR] at h0
  exact h0

set_option maxRecDepth 100000 in
set_option maxHeartbeats 6400000 in
theorem lawNewTree_walk (x0 : Int) (x1 : Int) (x2 : Int) (w : World)  :
    Calls Tryz.prog 3 #[.int .i64 x0, .int .i64 x1, .int .i64 x2] w fun e w' => e = .returned (.bool true) ∧ Below w.heap.size w w' := by
  obtain ⟨⟨cd, S, D, V, F⟩, hR⟩ : ∃ R, newTreeR x0 x1 x2 = R := ⟨_, rfl⟩
  have HR := Lib.hid hR
  clear hR
  have B := Lib.hid (Below.refl w.heap.size w)
  go_enter Tryz.func3, Tryz.ntmps3
  have szB := B.out.size
  go_wp2_with fail
  refine (specNewTree_is x0 x1 x2 _ HR.out).mono ?_
  rintro e W1 ⟨Aw, cw, Bw, dw, qw, rfl, hj, vj, b1⟩
  have sz_W1 := b1.size
  try simp only [World.size_alloc] at sz_W1
  replace B := Lib.hid (B.out.trans (b1.mono B.out.size))
  clear b1
  have J := Lib.hid hj.arena
  have VJ := Lib.hid vj
  clear hj vj
  have JB := Lib.hid (Below.refl W1.heap.size W1)
  replace JB := Lib.hid (JB.out.alloc JB.out.size (.cells #[.int .i64 cd, .int .i64 S, .int .i64 D, .slice Aw V.length cw, .slice Bw F.length dw, .slice none 0 0, .int .i64 0, .int .i64 0, .int .i64 0] 30))
  have L_w0 := Lib.hid (Lies.new W1 30 #[.int .i64 cd, .int .i64 S, .int .i64 D, .slice Aw V.length cw, .slice Bw F.length dw, .slice none 0 0, .int .i64 0, .int .i64 0, .int .i64 0])
  replace B := Lib.hid (B.out.alloc B.out.size (.cells #[.int .i64 cd, .int .i64 S, .int .i64 D, .slice Aw V.length cw, .slice Bw F.length dw, .slice none 0 0, .int .i64 0, .int .i64 0, .int .i64 0] 30))
  go_wp2_with fail
  refine (implNewTree_is x0 x1 x2 _ HR.out).mono ?_
  rintro e W2 ⟨Ag, cg, Bg, dg, Cg, fg, qg, tg, rfl, he, ve, ue, b2⟩
  have sz_W2 := b2.size
  try simp only [World.size_alloc] at sz_W2
  replace L_w0 := Lib.hid (L_w0.out.kept b2 L_w0.out.inside)
  replace JB := Lib.hid (JB.out.trans (b2.mono JB.out.size))
  replace B := Lib.hid (B.out.trans (b2.mono B.out.size))
  clear b2
  try simp only [World.size_alloc] at he
  have E_g := Lib.hid he
  have VE_g := Lib.hid ve
  have UE_g : Hid (tg.map RV.val = ([] : List RV).map RV.val) := Lib.hid (by rw [ue])
  have HI_g := Lib.hid (fun (c : Addr) (hc : c ∈ arCells Ag Bg Cg F.length qg tg) => (he.each c hc).2.2.2)
  have hKf := he.few
  obtain ⟨K, hK⟩ : ∃ K, (arCells Ag Bg Cg F.length qg tg).length = K := ⟨_, rfl⟩
  rw [hK] at hKf
  have HK := Lib.hid hK
  clear hK
  clear he ve ue
  replace L_w0 := Lib.hid (L_w0.out.alloc (.cells #[.int .i64 cd, .int .i64 S, .int .i64 D, .slice Ag V.length cg, .slice Bg F.length dg, .slice Cg 0 fg, .int .i64 0, .int .i64 0, .int .i64 0] 30))
  replace E_g := Lib.hid (E_g.out.kept (below_alloc _ (.cells #[.int .i64 cd, .int .i64 S, .int .i64 D, .slice Ag V.length cg, .slice Bg F.length dg, .slice Cg 0 fg, .int .i64 0, .int .i64 0, .int .i64 0] 30)))
  replace JB := Lib.hid (JB.out.alloc JB.out.size (.cells #[.int .i64 cd, .int .i64 S, .int .i64 D, .slice Ag V.length cg, .slice Bg F.length dg, .slice Cg 0 fg, .int .i64 0, .int .i64 0, .int .i64 0] 30))
  have L_g0 := Lib.hid (Lies.new W2 30 #[.int .i64 cd, .int .i64 S, .int .i64 D, .slice Ag V.length cg, .slice Bg F.length dg, .slice Cg 0 fg, .int .i64 0, .int .i64 0, .int .i64 0])
  replace B := Lib.hid (B.out.alloc B.out.size (.cells #[.int .i64 cd, .int .i64 S, .int .i64 D, .slice Ag V.length cg, .slice Bg F.length dg, .slice Cg 0 fg, .int .i64 0, .int .i64 0, .int .i64 0] 30))
  have c_w00 : (W2.alloc (.cells #[.int .i64 cd, .int .i64 S, .int .i64 D, .slice Ag V.length cg, .slice Bg F.length dg, .slice Cg 0 fg, .int .i64 0, .int .i64 0, .int .i64 0] 30)).cell? ⟨W1.heap.size, 0, none⟩ = some (.int .i64 cd) := L_w0.out.cell 0
  have c_w01 : (W2.alloc (.cells #[.int .i64 cd, .int .i64 S, .int .i64 D, .slice Ag V.length cg, .slice Bg F.length dg, .slice Cg 0 fg, .int .i64 0, .int .i64 0, .int .i64 0] 30)).cell? ⟨W1.heap.size, 1, none⟩ = some (.int .i64 S) := L_w0.out.cell 1
  have c_w02 : (W2.alloc (.cells #[.int .i64 cd, .int .i64 S, .int .i64 D, .slice Ag V.length cg, .slice Bg F.length dg, .slice Cg 0 fg, .int .i64 0, .int .i64 0, .int .i64 0] 30)).cell? ⟨W1.heap.size, 2, none⟩ = some (.int .i64 D) := L_w0.out.cell 2
  have c_w03 : (W2.alloc (.cells #[.int .i64 cd, .int .i64 S, .int .i64 D, .slice Ag V.length cg, .slice Bg F.length dg, .slice Cg 0 fg, .int .i64 0, .int .i64 0, .int .i64 0] 30)).cell? ⟨W1.heap.size, 3, none⟩ = some (.slice Aw V.length cw) := L_w0.out.cell 3
  have c_w04 : (W2.alloc (.cells #[.int .i64 cd, .int .i64 S, .int .i64 D, .slice Ag V.length cg, .slice Bg F.length dg, .slice Cg 0 fg, .int .i64 0, .int .i64 0, .int .i64 0] 30)).cell? ⟨W1.heap.size, 4, none⟩ = some (.slice Bw F.length dw) := L_w0.out.cell 4
  have c_w05 : (W2.alloc (.cells #[.int .i64 cd, .int .i64 S, .int .i64 D, .slice Ag V.length cg, .slice Bg F.length dg, .slice Cg 0 fg, .int .i64 0, .int .i64 0, .int .i64 0] 30)).cell? ⟨W1.heap.size, 5, none⟩ = some (.slice none 0 0) := L_w0.out.cell 5
  have c_w06 : (W2.alloc (.cells #[.int .i64 cd, .int .i64 S, .int .i64 D, .slice Ag V.length cg, .slice Bg F.length dg, .slice Cg 0 fg, .int .i64 0, .int .i64 0, .int .i64 0] 30)).cell? ⟨W1.heap.size, 6, none⟩ = some (.int .i64 0) := L_w0.out.cell 6
  have c_w07 : (W2.alloc (.cells #[.int .i64 cd, .int .i64 S, .int .i64 D, .slice Ag V.length cg, .slice Bg F.length dg, .slice Cg 0 fg, .int .i64 0, .int .i64 0, .int .i64 0] 30)).cell? ⟨W1.heap.size, 7, none⟩ = some (.int .i64 0) := L_w0.out.cell 7
  have c_w08 : (W2.alloc (.cells #[.int .i64 cd, .int .i64 S, .int .i64 D, .slice Ag V.length cg, .slice Bg F.length dg, .slice Cg 0 fg, .int .i64 0, .int .i64 0, .int .i64 0] 30)).cell? ⟨W1.heap.size, 8, none⟩ = some (.int .i64 0) := L_w0.out.cell 8
  have c_g00 : (W2.alloc (.cells #[.int .i64 cd, .int .i64 S, .int .i64 D, .slice Ag V.length cg, .slice Bg F.length dg, .slice Cg 0 fg, .int .i64 0, .int .i64 0, .int .i64 0] 30)).cell? ⟨W2.heap.size, 0, none⟩ = some (.int .i64 cd) := L_g0.out.cell 0
  have c_g01 : (W2.alloc (.cells #[.int .i64 cd, .int .i64 S, .int .i64 D, .slice Ag V.length cg, .slice Bg F.length dg, .slice Cg 0 fg, .int .i64 0, .int .i64 0, .int .i64 0] 30)).cell? ⟨W2.heap.size, 1, none⟩ = some (.int .i64 S) := L_g0.out.cell 1
  have c_g02 : (W2.alloc (.cells #[.int .i64 cd, .int .i64 S, .int .i64 D, .slice Ag V.length cg, .slice Bg F.length dg, .slice Cg 0 fg, .int .i64 0, .int .i64 0, .int .i64 0] 30)).cell? ⟨W2.heap.size, 2, none⟩ = some (.int .i64 D) := L_g0.out.cell 2
  have c_g03 : (W2.alloc (.cells #[.int .i64 cd, .int .i64 S, .int .i64 D, .slice Ag V.length cg, .slice Bg F.length dg, .slice Cg 0 fg, .int .i64 0, .int .i64 0, .int .i64 0] 30)).cell? ⟨W2.heap.size, 3, none⟩ = some (.slice Ag V.length cg) := L_g0.out.cell 3
  have c_g04 : (W2.alloc (.cells #[.int .i64 cd, .int .i64 S, .int .i64 D, .slice Ag V.length cg, .slice Bg F.length dg, .slice Cg 0 fg, .int .i64 0, .int .i64 0, .int .i64 0] 30)).cell? ⟨W2.heap.size, 4, none⟩ = some (.slice Bg F.length dg) := L_g0.out.cell 4
  have c_g05 : (W2.alloc (.cells #[.int .i64 cd, .int .i64 S, .int .i64 D, .slice Ag V.length cg, .slice Bg F.length dg, .slice Cg 0 fg, .int .i64 0, .int .i64 0, .int .i64 0] 30)).cell? ⟨W2.heap.size, 5, none⟩ = some (.slice Cg 0 fg) := L_g0.out.cell 5
  have c_g06 : (W2.alloc (.cells #[.int .i64 cd, .int .i64 S, .int .i64 D, .slice Ag V.length cg, .slice Bg F.length dg, .slice Cg 0 fg, .int .i64 0, .int .i64 0, .int .i64 0] 30)).cell? ⟨W2.heap.size, 6, none⟩ = some (.int .i64 0) := L_g0.out.cell 6
  have c_g07 : (W2.alloc (.cells #[.int .i64 cd, .int .i64 S, .int .i64 D, .slice Ag V.length cg, .slice Bg F.length dg, .slice Cg 0 fg, .int .i64 0, .int .i64 0, .int .i64 0] 30)).cell? ⟨W2.heap.size, 7, none⟩ = some (.int .i64 0) := L_g0.out.cell 7
  have c_g08 : (W2.alloc (.cells #[.int .i64 cd, .int .i64 S, .int .i64 D, .slice Ag V.length cg, .slice Bg F.length dg, .slice Cg 0 fg, .int .i64 0, .int .i64 0, .int .i64 0] 30)).cell? ⟨W2.heap.size, 8, none⟩ = some (.int .i64 0) := L_g0.out.cell 8
  go_wp2_with fail
  clear c_w00 c_w01 c_w02 c_w03 c_w04 c_w05 c_w06 c_w07 c_w08
  clear c_g00 c_g01 c_g02 c_g03 c_g04 c_g05 c_g06 c_g07 c_g08
  refine (eqTreeResult_same _ _ _ _ _ _ _ _ _ _ _ _ qw [] _ _ _ _ _ _ _ _ _ qg F tg _ E_g.out.arena (J.out.kept JB.out) (VE_g.out.trans VJ.out.symm) UE_g.out).mono ?_
  rintro e W3 ⟨rfl, b3⟩
  have sz_W3 := b3.size
  try simp only [World.size_alloc] at sz_W3
  replace L_w0 := Lib.hid (L_w0.out.kept b3 L_w0.out.inside)
  replace L_g0 := Lib.hid (L_g0.out.kept b3 L_g0.out.inside)
  replace E_g := Lib.hid (E_g.out.kept b3)
  replace JB := Lib.hid (JB.out.trans (b3.mono JB.out.size))
  replace B := Lib.hid (B.out.trans (b3.mono B.out.size))
  clear b3
  have c_g00 : W3.cell? ⟨W2.heap.size, 0, none⟩ = some (.int .i64 cd) := L_g0.out.cell 0
  have c_g01 : W3.cell? ⟨W2.heap.size, 1, none⟩ = some (.int .i64 S) := L_g0.out.cell 1
  have c_g02 : W3.cell? ⟨W2.heap.size, 2, none⟩ = some (.int .i64 D) := L_g0.out.cell 2
  have c_g03 : W3.cell? ⟨W2.heap.size, 3, none⟩ = some (.slice Ag V.length cg) := L_g0.out.cell 3
  have c_g04 : W3.cell? ⟨W2.heap.size, 4, none⟩ = some (.slice Bg F.length dg) := L_g0.out.cell 4
  have c_g05 : W3.cell? ⟨W2.heap.size, 5, none⟩ = some (.slice Cg 0 fg) := L_g0.out.cell 5
  have c_g06 : W3.cell? ⟨W2.heap.size, 6, none⟩ = some (.int .i64 0) := L_g0.out.cell 6
  have c_g07 : W3.cell? ⟨W2.heap.size, 7, none⟩ = some (.int .i64 0) := L_g0.out.cell 7
  have c_g08 : W3.cell? ⟨W2.heap.size, 8, none⟩ = some (.int .i64 0) := L_g0.out.cell 8
  go_wp2_with fail
  clear c_g00 c_g01 c_g02 c_g03 c_g04 c_g05 c_g06 c_g07 c_g08
  refine (markAnsT_any _ _ _ _ _ _ _ W2.heap.size _ _ _ _ _ _ _ _ _ qg F tg _ E_g.out HI_g.out HK.out).mono ?_
  rintro e W4 ⟨rfl, em, t4⟩
  have sz_W4 := t4.2.1
  try simp only [World.size_alloc] at sz_W4
  replace L_w0 := Lib.hid (t4.lies L_w0.out (fun hx => by have h1 := hx.1; have h2 := hx.2; (try simp only [World.size_alloc] at h1 h2); omega))
  replace L_g0 := Lib.hid (t4.lies L_g0.out (fun hx => by have h1 := hx.1; have h2 := hx.2; (try simp only [World.size_alloc] at h1 h2); omega))
  replace JB := Lib.hid (t4.below JB.out (by intro x hx; have h1 := hx.1; have h2 := hx.2; (try simp only [World.size_alloc] at h1 h2); omega))
  replace B := Lib.hid (t4.below B.out (by intro x hx; show w.heap.size ≤ x; have h1 := hx.1; have h2 := hx.2; (try simp only [World.size_alloc] at h1 h2); omega))
  replace E_g := Lib.hid em
  clear em
  have qpos : ¬ ((1 : Int) + (K : Int) < 0) := by omega
  have qeq : (((1 : Int) + (K : Int)) != (1 + (K : Int))) = false := by simp
  clear t4
  have c_g00 : W4.cell? ⟨W2.heap.size, 0, none⟩ = some (.int .i64 cd) := L_g0.out.cell 0
  have c_g01 : W4.cell? ⟨W2.heap.size, 1, none⟩ = some (.int .i64 S) := L_g0.out.cell 1
  have c_g02 : W4.cell? ⟨W2.heap.size, 2, none⟩ = some (.int .i64 D) := L_g0.out.cell 2
  have c_g03 : W4.cell? ⟨W2.heap.size, 3, none⟩ = some (.slice Ag V.length cg) := L_g0.out.cell 3
  have c_g04 : W4.cell? ⟨W2.heap.size, 4, none⟩ = some (.slice Bg F.length dg) := L_g0.out.cell 4
  have c_g05 : W4.cell? ⟨W2.heap.size, 5, none⟩ = some (.slice Cg 0 fg) := L_g0.out.cell 5
  have c_g06 : W4.cell? ⟨W2.heap.size, 6, none⟩ = some (.int .i64 0) := L_g0.out.cell 6
  have c_g07 : W4.cell? ⟨W2.heap.size, 7, none⟩ = some (.int .i64 0) := L_g0.out.cell 7
  have c_g08 : W4.cell? ⟨W2.heap.size, 8, none⟩ = some (.int .i64 0) := L_g0.out.cell 8
  go_wp2_with fail
  clear c_g00 c_g01 c_g02 c_g03 c_g04 c_g05 c_g06 c_g07 c_g08
  refine (heldAnsT_any _ _ _ _ _ _ _ _ _ _ _ _ _ _ _ qg tg _ E_g.out HK.out hKf).mono ?_
  rintro e W5 ⟨rfl, b5⟩
  have sz_W5 := b5.size
  try simp only [World.size_alloc] at sz_W5
  replace L_w0 := Lib.hid (L_w0.out.kept b5 L_w0.out.inside)
  replace L_g0 := Lib.hid (L_g0.out.kept b5 L_g0.out.inside)
  replace E_g := Lib.hid (E_g.out.kept b5)
  replace JB := Lib.hid (JB.out.trans (b5.mono JB.out.size))
  replace B := Lib.hid (B.out.trans (b5.mono B.out.size))
  clear b5
  go_wp2_with fail
  refine (implNewTree_is x0 x1 x2 _ HR.out).mono ?_
  rintro e W6 ⟨Ah, ch, Bh, dh, Ch, fh, qh, th, rfl, he, ve, ue, b6⟩
  have sz_W6 := b6.size
  try simp only [World.size_alloc] at sz_W6
  replace L_w0 := Lib.hid (L_w0.out.kept b6 L_w0.out.inside)
  replace L_g0 := Lib.hid (L_g0.out.kept b6 L_g0.out.inside)
  replace E_g := Lib.hid (E_g.out.kept b6)
  replace JB := Lib.hid (JB.out.trans (b6.mono JB.out.size))
  replace B := Lib.hid (B.out.trans (b6.mono B.out.size))
  clear b6
  try simp only [World.size_alloc] at he
  have E_h := Lib.hid he
  have VE_h := Lib.hid ve
  have UE_h : Hid (th.map RV.val = ([] : List RV).map RV.val) := Lib.hid (by rw [ue])
  clear he ve ue
  replace L_w0 := Lib.hid (L_w0.out.alloc (.cells #[.int .i64 cd, .int .i64 S, .int .i64 D, .slice Ah V.length ch, .slice Bh F.length dh, .slice Ch 0 fh, .int .i64 0, .int .i64 0, .int .i64 0] 30))
  replace L_g0 := Lib.hid (L_g0.out.alloc (.cells #[.int .i64 cd, .int .i64 S, .int .i64 D, .slice Ah V.length ch, .slice Bh F.length dh, .slice Ch 0 fh, .int .i64 0, .int .i64 0, .int .i64 0] 30))
  replace E_g := Lib.hid (E_g.out.kept (below_alloc _ (.cells #[.int .i64 cd, .int .i64 S, .int .i64 D, .slice Ah V.length ch, .slice Bh F.length dh, .slice Ch 0 fh, .int .i64 0, .int .i64 0, .int .i64 0] 30)))
  replace E_h := Lib.hid (E_h.out.kept (below_alloc _ (.cells #[.int .i64 cd, .int .i64 S, .int .i64 D, .slice Ah V.length ch, .slice Bh F.length dh, .slice Ch 0 fh, .int .i64 0, .int .i64 0, .int .i64 0] 30)))
  replace JB := Lib.hid (JB.out.alloc JB.out.size (.cells #[.int .i64 cd, .int .i64 S, .int .i64 D, .slice Ah V.length ch, .slice Bh F.length dh, .slice Ch 0 fh, .int .i64 0, .int .i64 0, .int .i64 0] 30))
  have L_h0 := Lib.hid (Lies.new W6 30 #[.int .i64 cd, .int .i64 S, .int .i64 D, .slice Ah V.length ch, .slice Bh F.length dh, .slice Ch 0 fh, .int .i64 0, .int .i64 0, .int .i64 0])
  replace B := Lib.hid (B.out.alloc B.out.size (.cells #[.int .i64 cd, .int .i64 S, .int .i64 D, .slice Ah V.length ch, .slice Bh F.length dh, .slice Ch 0 fh, .int .i64 0, .int .i64 0, .int .i64 0] 30))
  have c_h00 : (W6.alloc (.cells #[.int .i64 cd, .int .i64 S, .int .i64 D, .slice Ah V.length ch, .slice Bh F.length dh, .slice Ch 0 fh, .int .i64 0, .int .i64 0, .int .i64 0] 30)).cell? ⟨W6.heap.size, 0, none⟩ = some (.int .i64 cd) := L_h0.out.cell 0
  have c_h01 : (W6.alloc (.cells #[.int .i64 cd, .int .i64 S, .int .i64 D, .slice Ah V.length ch, .slice Bh F.length dh, .slice Ch 0 fh, .int .i64 0, .int .i64 0, .int .i64 0] 30)).cell? ⟨W6.heap.size, 1, none⟩ = some (.int .i64 S) := L_h0.out.cell 1
  have c_h02 : (W6.alloc (.cells #[.int .i64 cd, .int .i64 S, .int .i64 D, .slice Ah V.length ch, .slice Bh F.length dh, .slice Ch 0 fh, .int .i64 0, .int .i64 0, .int .i64 0] 30)).cell? ⟨W6.heap.size, 2, none⟩ = some (.int .i64 D) := L_h0.out.cell 2
  have c_h03 : (W6.alloc (.cells #[.int .i64 cd, .int .i64 S, .int .i64 D, .slice Ah V.length ch, .slice Bh F.length dh, .slice Ch 0 fh, .int .i64 0, .int .i64 0, .int .i64 0] 30)).cell? ⟨W6.heap.size, 3, none⟩ = some (.slice Ah V.length ch) := L_h0.out.cell 3
  have c_h04 : (W6.alloc (.cells #[.int .i64 cd, .int .i64 S, .int .i64 D, .slice Ah V.length ch, .slice Bh F.length dh, .slice Ch 0 fh, .int .i64 0, .int .i64 0, .int .i64 0] 30)).cell? ⟨W6.heap.size, 4, none⟩ = some (.slice Bh F.length dh) := L_h0.out.cell 4
  have c_h05 : (W6.alloc (.cells #[.int .i64 cd, .int .i64 S, .int .i64 D, .slice Ah V.length ch, .slice Bh F.length dh, .slice Ch 0 fh, .int .i64 0, .int .i64 0, .int .i64 0] 30)).cell? ⟨W6.heap.size, 5, none⟩ = some (.slice Ch 0 fh) := L_h0.out.cell 5
  have c_h06 : (W6.alloc (.cells #[.int .i64 cd, .int .i64 S, .int .i64 D, .slice Ah V.length ch, .slice Bh F.length dh, .slice Ch 0 fh, .int .i64 0, .int .i64 0, .int .i64 0] 30)).cell? ⟨W6.heap.size, 6, none⟩ = some (.int .i64 0) := L_h0.out.cell 6
  have c_h07 : (W6.alloc (.cells #[.int .i64 cd, .int .i64 S, .int .i64 D, .slice Ah V.length ch, .slice Bh F.length dh, .slice Ch 0 fh, .int .i64 0, .int .i64 0, .int .i64 0] 30)).cell? ⟨W6.heap.size, 7, none⟩ = some (.int .i64 0) := L_h0.out.cell 7
  have c_h08 : (W6.alloc (.cells #[.int .i64 cd, .int .i64 S, .int .i64 D, .slice Ah V.length ch, .slice Bh F.length dh, .slice Ch 0 fh, .int .i64 0, .int .i64 0, .int .i64 0] 30)).cell? ⟨W6.heap.size, 8, none⟩ = some (.int .i64 0) := L_h0.out.cell 8
  have c_w00 : (W6.alloc (.cells #[.int .i64 cd, .int .i64 S, .int .i64 D, .slice Ah V.length ch, .slice Bh F.length dh, .slice Ch 0 fh, .int .i64 0, .int .i64 0, .int .i64 0] 30)).cell? ⟨W1.heap.size, 0, none⟩ = some (.int .i64 cd) := L_w0.out.cell 0
  have c_w01 : (W6.alloc (.cells #[.int .i64 cd, .int .i64 S, .int .i64 D, .slice Ah V.length ch, .slice Bh F.length dh, .slice Ch 0 fh, .int .i64 0, .int .i64 0, .int .i64 0] 30)).cell? ⟨W1.heap.size, 1, none⟩ = some (.int .i64 S) := L_w0.out.cell 1
  have c_w02 : (W6.alloc (.cells #[.int .i64 cd, .int .i64 S, .int .i64 D, .slice Ah V.length ch, .slice Bh F.length dh, .slice Ch 0 fh, .int .i64 0, .int .i64 0, .int .i64 0] 30)).cell? ⟨W1.heap.size, 2, none⟩ = some (.int .i64 D) := L_w0.out.cell 2
  have c_w03 : (W6.alloc (.cells #[.int .i64 cd, .int .i64 S, .int .i64 D, .slice Ah V.length ch, .slice Bh F.length dh, .slice Ch 0 fh, .int .i64 0, .int .i64 0, .int .i64 0] 30)).cell? ⟨W1.heap.size, 3, none⟩ = some (.slice Aw V.length cw) := L_w0.out.cell 3
  have c_w04 : (W6.alloc (.cells #[.int .i64 cd, .int .i64 S, .int .i64 D, .slice Ah V.length ch, .slice Bh F.length dh, .slice Ch 0 fh, .int .i64 0, .int .i64 0, .int .i64 0] 30)).cell? ⟨W1.heap.size, 4, none⟩ = some (.slice Bw F.length dw) := L_w0.out.cell 4
  have c_w05 : (W6.alloc (.cells #[.int .i64 cd, .int .i64 S, .int .i64 D, .slice Ah V.length ch, .slice Bh F.length dh, .slice Ch 0 fh, .int .i64 0, .int .i64 0, .int .i64 0] 30)).cell? ⟨W1.heap.size, 5, none⟩ = some (.slice none 0 0) := L_w0.out.cell 5
  have c_w06 : (W6.alloc (.cells #[.int .i64 cd, .int .i64 S, .int .i64 D, .slice Ah V.length ch, .slice Bh F.length dh, .slice Ch 0 fh, .int .i64 0, .int .i64 0, .int .i64 0] 30)).cell? ⟨W1.heap.size, 6, none⟩ = some (.int .i64 0) := L_w0.out.cell 6
  have c_w07 : (W6.alloc (.cells #[.int .i64 cd, .int .i64 S, .int .i64 D, .slice Ah V.length ch, .slice Bh F.length dh, .slice Ch 0 fh, .int .i64 0, .int .i64 0, .int .i64 0] 30)).cell? ⟨W1.heap.size, 7, none⟩ = some (.int .i64 0) := L_w0.out.cell 7
  have c_w08 : (W6.alloc (.cells #[.int .i64 cd, .int .i64 S, .int .i64 D, .slice Ah V.length ch, .slice Bh F.length dh, .slice Ch 0 fh, .int .i64 0, .int .i64 0, .int .i64 0] 30)).cell? ⟨W1.heap.size, 8, none⟩ = some (.int .i64 0) := L_w0.out.cell 8
  go_wp2_with fail
  clear c_h00 c_h01 c_h02 c_h03 c_h04 c_h05 c_h06 c_h07 c_h08
  clear c_w00 c_w01 c_w02 c_w03 c_w04 c_w05 c_w06 c_w07 c_w08
  refine (eqTreeResult_same _ _ _ _ _ _ _ _ _ _ _ _ qw [] _ _ _ _ _ _ _ _ _ qh F th _ E_h.out.arena (J.out.kept JB.out) (VE_h.out.trans VJ.out.symm) UE_h.out).mono ?_
  rintro e W7 ⟨rfl, b7⟩
  have sz_W7 := b7.size
  try simp only [World.size_alloc] at sz_W7
  replace L_w0 := Lib.hid (L_w0.out.kept b7 L_w0.out.inside)
  replace L_g0 := Lib.hid (L_g0.out.kept b7 L_g0.out.inside)
  replace L_h0 := Lib.hid (L_h0.out.kept b7 L_h0.out.inside)
  replace E_g := Lib.hid (E_g.out.kept b7)
  replace E_h := Lib.hid (E_h.out.kept b7)
  replace JB := Lib.hid (JB.out.trans (b7.mono JB.out.size))
  replace B := Lib.hid (B.out.trans (b7.mono B.out.size))
  clear b7
  have c_g00 : W7.cell? ⟨W2.heap.size, 0, none⟩ = some (.int .i64 cd) := L_g0.out.cell 0
  have c_g01 : W7.cell? ⟨W2.heap.size, 1, none⟩ = some (.int .i64 S) := L_g0.out.cell 1
  have c_g02 : W7.cell? ⟨W2.heap.size, 2, none⟩ = some (.int .i64 D) := L_g0.out.cell 2
  have c_g03 : W7.cell? ⟨W2.heap.size, 3, none⟩ = some (.slice Ag V.length cg) := L_g0.out.cell 3
  have c_g04 : W7.cell? ⟨W2.heap.size, 4, none⟩ = some (.slice Bg F.length dg) := L_g0.out.cell 4
  have c_g05 : W7.cell? ⟨W2.heap.size, 5, none⟩ = some (.slice Cg 0 fg) := L_g0.out.cell 5
  have c_g06 : W7.cell? ⟨W2.heap.size, 6, none⟩ = some (.int .i64 0) := L_g0.out.cell 6
  have c_g07 : W7.cell? ⟨W2.heap.size, 7, none⟩ = some (.int .i64 0) := L_g0.out.cell 7
  have c_g08 : W7.cell? ⟨W2.heap.size, 8, none⟩ = some (.int .i64 0) := L_g0.out.cell 8
  go_wp2_with fail
  clear c_g00 c_g01 c_g02 c_g03 c_g04 c_g05 c_g06 c_g07 c_g08
  refine (heldAnsT_any _ _ _ _ _ _ _ _ _ _ _ _ _ _ _ qg tg _ E_g.out HK.out hKf).mono ?_
  rintro e W8 ⟨rfl, b8⟩
  have sz_W8 := b8.size
  try simp only [World.size_alloc] at sz_W8
  replace L_w0 := Lib.hid (L_w0.out.kept b8 L_w0.out.inside)
  replace L_g0 := Lib.hid (L_g0.out.kept b8 L_g0.out.inside)
  replace L_h0 := Lib.hid (L_h0.out.kept b8 L_h0.out.inside)
  replace E_g := Lib.hid (E_g.out.kept b8)
  replace E_h := Lib.hid (E_h.out.kept b8)
  replace JB := Lib.hid (JB.out.trans (b8.mono JB.out.size))
  replace B := Lib.hid (B.out.trans (b8.mono B.out.size))
  clear b8
  go_wp2
  go_ret
  exact ⟨rfl, B.out⟩

end Go.Proofs.YtpgoildfjkokiaaGreat
