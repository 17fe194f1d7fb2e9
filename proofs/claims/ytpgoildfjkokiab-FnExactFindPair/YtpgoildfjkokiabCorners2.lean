/- The walks of (box).rect and impl.rectsFault. -/
import Derived.Test.YtpgoildfjkokiabCorners
namespace Go.Proofs.Ytpgoildfjkokiab
open Go.RowKit

set_option maxHeartbeats 1600000 in
theorem rect_any (p0 p1 p2 q0 q1 q2 d : Int) (n : Nat) (xs ys : List Int) (w : World) (hp : Pad xs p0 p1 p2) (hq : Pad ys q0 q1 q2) (hn : xs.length = n) (hm : ys.length = n) (hd : d = n) :
    Calls Try.prog 35 #[.agg #[.int .i64 p0, .int .i64 p1, .int .i64 p2, .int .i64 q0, .int .i64 q1, .int .i64 q2], .int .i64 d] w fun e w' => ∃ g g', e = .returned (.agg #[.slice (some ⟨g, 0, none⟩) n n, .slice (some ⟨g', 0, none⟩) n n]) ∧
      Own w' g n xs ∧ Own w' g' n ys ∧ w.heap.size ≤ g ∧ g < g' ∧ Below w.heap.size w w' := by
  have B0 : Hid (Below w.heap.size w ((w.alloc (.cells #[.int .i64 p0, .int .i64 p1, .int .i64 p2, .int .i64 q0, .int .i64 q1, .int .i64 q2] 54)).alloc (.cells #[.slice none 0 0, .slice none 0 0] 26))) := (below_alloc _ _).alloc (by simp) _
  have HP := Lib.hid hp
  have HQ := Lib.hid hq
  have HN := Lib.hid hn
  have HM := Lib.hid hm
  have HD := Lib.hid hd
  have L0 := Lib.hid ((Lies.new w 54 #[.int .i64 p0, .int .i64 p1, .int .i64 p2, .int .i64 q0, .int .i64 q1, .int .i64 q2]).alloc (.cells #[.slice none 0 0, .slice none 0 0] 26))
  have L1 := Lib.hid (Lies.new (w.alloc (.cells #[.int .i64 p0, .int .i64 p1, .int .i64 p2, .int .i64 q0, .int .i64 q1, .int .i64 q2] 54)) 26 #[.slice none 0 0, .slice none 0 0])
  simp only [World.size_alloc] at L1
  clear hp hq hn hm hd
  go_enter Try.func35, Try.ntmps35
  go_wp2
  generalize hW : ((w.alloc (.cells #[.int .i64 p0, .int .i64 p1, .int .i64 p2, .int .i64 q0, .int .i64 q1, .int .i64 q2] 54)).alloc (.cells #[.slice none 0 0, .slice none 0 0] 26)) = W0 at *
  clear hW
  have hs0 : w.heap.size + 1 < W0.heap.size := L1.out.inside
  have c0 : W0.cell? ⟨w.heap.size, 0, none⟩ = some (.int .i64 p0) ∧ W0.cell? ⟨w.heap.size, 1, none⟩ = some (.int .i64 p1) ∧ W0.cell? ⟨w.heap.size, 2, none⟩ = some (.int .i64 p2) ∧ W0.cell? ⟨w.heap.size, 3, none⟩ = some (.int .i64 q0) ∧ W0.cell? ⟨w.heap.size, 4, none⟩ = some (.int .i64 q1) ∧ W0.cell? ⟨w.heap.size, 5, none⟩ = some (.int .i64 q2) := ⟨(L0.out).cell 0, (L0.out).cell 1, (L0.out).cell 2, (L0.out).cell 3, (L0.out).cell 4, (L0.out).cell 5⟩
  go_region_held3 (fun w' => w'.cell? ⟨w.heap.size, 0, none⟩ = some (.int .i64 p0) ∧ w'.cell? ⟨w.heap.size, 1, none⟩ = some (.int .i64 p1) ∧ w'.cell? ⟨w.heap.size, 2, none⟩ = some (.int .i64 p2) ∧ w'.cell? ⟨w.heap.size, 3, none⟩ = some (.int .i64 q0) ∧ w'.cell? ⟨w.heap.size, 4, none⟩ = some (.int .i64 q1) ∧ w'.cell? ⟨w.heap.size, 5, none⟩ = some (.int .i64 q2))
    (first | (simp [go_sem, c0]; done) | with_reducible exact K1 | with_reducible exact K2 | (simp [go_sem, K2]; done))
    (first
      | (go_at_call_of 45 (Value.agg #[.int .i64 p0, .int .i64 p1, .int .i64 p2]); refine (point_any _ _ _ _ _ _ _ HP.out HN.out HD.out).mono ?_
         rintro e W1 ⟨g, rfl, hg, o1, b1d⟩
         have b1 := below_drawn b1d
         have hg1 : W0.heap.size ≤ g := hg
         have O1 := Lib.hid o1
         have K1 : W1.cell? ⟨w.heap.size, 0, none⟩ = some (.int .i64 p0) ∧ W1.cell? ⟨w.heap.size, 1, none⟩ = some (.int .i64 p1) ∧ W1.cell? ⟨w.heap.size, 2, none⟩ = some (.int .i64 p2) ∧ W1.cell? ⟨w.heap.size, 3, none⟩ = some (.int .i64 q0) ∧ W1.cell? ⟨w.heap.size, 4, none⟩ = some (.int .i64 q1) ∧ W1.cell? ⟨w.heap.size, 5, none⟩ = some (.int .i64 q2) := ⟨(L0.out.kept b1 L0.out.inside).cell 0, (L0.out.kept b1 L0.out.inside).cell 1, (L0.out.kept b1 L0.out.inside).cell 2, (L0.out.kept b1 L0.out.inside).cell 3, (L0.out.kept b1 L0.out.inside).cell 4, (L0.out.kept b1 L0.out.inside).cell 5⟩
         clear b1d hg o1)
      | (go_at_call_of 45 (Value.agg #[.int .i64 q0, .int .i64 q1, .int .i64 q2]); refine (point_any _ _ _ _ _ _ _ HQ.out HM.out HD.out).mono ?_
         rintro e W2 ⟨g', rfl, hg2, o2, b2⟩
         have O2 := Lib.hid o2
         have K2 : W2.cell? ⟨w.heap.size, 0, none⟩ = some (.int .i64 p0) ∧ W2.cell? ⟨w.heap.size, 1, none⟩ = some (.int .i64 p1) ∧ W2.cell? ⟨w.heap.size, 2, none⟩ = some (.int .i64 p2) ∧ W2.cell? ⟨w.heap.size, 3, none⟩ = some (.int .i64 q0) ∧ W2.cell? ⟨w.heap.size, 4, none⟩ = some (.int .i64 q1) ∧ W2.cell? ⟨w.heap.size, 5, none⟩ = some (.int .i64 q2) := ⟨((L0.out.kept b1 L0.out.inside).kept b2 (L0.out.kept b1 L0.out.inside).inside).cell 0, ((L0.out.kept b1 L0.out.inside).kept b2 (L0.out.kept b1 L0.out.inside).inside).cell 1, ((L0.out.kept b1 L0.out.inside).kept b2 (L0.out.kept b1 L0.out.inside).inside).cell 2, ((L0.out.kept b1 L0.out.inside).kept b2 (L0.out.kept b1 L0.out.inside).inside).cell 3, ((L0.out.kept b1 L0.out.inside).kept b2 (L0.out.kept b1 L0.out.inside).inside).cell 4, ((L0.out.kept b1 L0.out.inside).kept b2 (L0.out.kept b1 L0.out.inside).inside).cell 5⟩
         have z0 : W2.cell? ⟨w.heap.size + 1, 0, none⟩ = some (.slice none 0 0) := ((L1.out.kept b1 L1.out.inside).kept b2 (L1.out.kept b1 L1.out.inside).inside).cell 0
         have z1 : W2.cell? ⟨w.heap.size + 1, 1, none⟩ = some (.slice none 0 0) := ((L1.out.kept b1 L1.out.inside).kept b2 (L1.out.kept b1 L1.out.inside).inside).cell 1
         have y0 : W2.frozen? ⟨w.heap.size + 1, 0, none⟩ = false := ((L1.out.kept b1 L1.out.inside).kept b2 (L1.out.kept b1 L1.out.inside).inside).thawed 0
         have y1 : W2.frozen? ⟨w.heap.size + 1, 1, none⟩ = false := ((L1.out.kept b1 L1.out.inside).kept b2 (L1.out.kept b1 L1.out.inside).inside).thawed 1
         clear o2))
  go_wp2
  have hgi : g < W1.heap.size := O1.out.inside
  refine bodyPost_ret (v := .agg #[.slice (some ⟨g, 0, none⟩) n n, .slice (some ⟨g', 0, none⟩) n n]) (by simp [results, Try.results35, go_sem, z0, z1]) rfl ⟨g, g', rfl, ?_, ?_, by omega, by omega, ?_⟩
  · exact ((O1.out.kept b2).far (by show g ≠ w.heap.size + 1; omega) _).far (by show g ≠ w.heap.size + 1; omega) _
  · exact (O2.out.far (by show g' ≠ w.heap.size + 1; omega) _).far (by show g' ≠ w.heap.size + 1; omega) _
  · have BE := (B0.out.trans (b1.mono B0.out.size)).trans (b2.mono (Nat.le_trans B0.out.size b1.size))
    repeat (with_reducible refine Below.setCell ?_ (by exact Nat.le_succ _) _)
    exact BE

/-- What is wrong with two boxes. -/
def rf2 (xs ys us vs : List Int) : Int := if rf xs ys xs.length ≠ 0 then rf xs ys xs.length else rf us vs xs.length


end Go.Proofs.Ytpgoildfjkokiab
