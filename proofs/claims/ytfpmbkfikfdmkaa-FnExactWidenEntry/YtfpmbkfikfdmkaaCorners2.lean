/- The walks of (box).rect and impl.rectsFault. -/
import Derived.Test.YtfpmbkfikfdmkaaCorners
namespace Go.Proofs.Ytfpmbkfikfdmkaa
open Go.RowKit

set_option maxHeartbeats 1600000 in
theorem rect_any (p0 p1 p2 q0 q1 q2 d : Int) (n : Nat) (xs ys : List Int) (w : World) (hp : Pad xs p0 p1 p2) (hq : Pad ys q0 q1 q2) (hn : xs.length = n) (hm : ys.length = n) (hd : d = n) :
    Calls Try.prog 71 #[.agg #[.int .i64 p0, .int .i64 p1, .int .i64 p2, .int .i64 q0, .int .i64 q1, .int .i64 q2], .int .i64 d] w fun e w' => ∃ g g', e = .returned (.agg #[.slice (some ⟨g, 0, none⟩) n n, .slice (some ⟨g', 0, none⟩) n n]) ∧
      Own w' g n xs ∧ Own w' g' n ys ∧ w.heap.size ≤ g ∧ g < g' ∧ Below w.heap.size w w' := by
  have B0 : Hid (Below w.heap.size w ((w.alloc (.cells #[.int .i64 p0, .int .i64 p1, .int .i64 p2, .int .i64 q0, .int .i64 q1, .int .i64 q2] 94)).alloc (.cells #[.slice none 0 0, .slice none 0 0] 26))) := (below_alloc _ _).alloc (by simp) _
  have HP := Lib.hid hp
  have HQ := Lib.hid hq
  have HN := Lib.hid hn
  have HM := Lib.hid hm
  have HD := Lib.hid hd
  have L0 := Lib.hid ((Lies.new w 94 #[.int .i64 p0, .int .i64 p1, .int .i64 p2, .int .i64 q0, .int .i64 q1, .int .i64 q2]).alloc (.cells #[.slice none 0 0, .slice none 0 0] 26))
  have L1 := Lib.hid (Lies.new (w.alloc (.cells #[.int .i64 p0, .int .i64 p1, .int .i64 p2, .int .i64 q0, .int .i64 q1, .int .i64 q2] 94)) 26 #[.slice none 0 0, .slice none 0 0])
  simp only [World.size_alloc] at L1
  clear hp hq hn hm hd
  go_enter Try.func71, Try.ntmps71
  go_wp2
  generalize hW : ((w.alloc (.cells #[.int .i64 p0, .int .i64 p1, .int .i64 p2, .int .i64 q0, .int .i64 q1, .int .i64 q2] 94)).alloc (.cells #[.slice none 0 0, .slice none 0 0] 26)) = W0 at *
  clear hW
  have hs0 : w.heap.size + 1 < W0.heap.size := L1.out.inside
  have c0 : W0.cell? ⟨w.heap.size, 0, none⟩ = some (.int .i64 p0) ∧ W0.cell? ⟨w.heap.size, 1, none⟩ = some (.int .i64 p1) ∧ W0.cell? ⟨w.heap.size, 2, none⟩ = some (.int .i64 p2) ∧ W0.cell? ⟨w.heap.size, 3, none⟩ = some (.int .i64 q0) ∧ W0.cell? ⟨w.heap.size, 4, none⟩ = some (.int .i64 q1) ∧ W0.cell? ⟨w.heap.size, 5, none⟩ = some (.int .i64 q2) := ⟨(L0.out).cell 0, (L0.out).cell 1, (L0.out).cell 2, (L0.out).cell 3, (L0.out).cell 4, (L0.out).cell 5⟩
  go_region_held3 (fun w' => w'.cell? ⟨w.heap.size, 0, none⟩ = some (.int .i64 p0) ∧ w'.cell? ⟨w.heap.size, 1, none⟩ = some (.int .i64 p1) ∧ w'.cell? ⟨w.heap.size, 2, none⟩ = some (.int .i64 p2) ∧ w'.cell? ⟨w.heap.size, 3, none⟩ = some (.int .i64 q0) ∧ w'.cell? ⟨w.heap.size, 4, none⟩ = some (.int .i64 q1) ∧ w'.cell? ⟨w.heap.size, 5, none⟩ = some (.int .i64 q2))
    (first | (simp [go_sem, c0]; done) | with_reducible exact K1 | with_reducible exact K2 | (simp [go_sem, K2]; done))
    (first
      | (go_at_call_of 122 (Value.agg #[.int .i64 p0, .int .i64 p1, .int .i64 p2]); refine (point_any _ _ _ _ _ _ _ HP.out HN.out HD.out).mono ?_
         rintro e W1 ⟨g, rfl, hg, o1, b1d⟩
         have b1 := below_drawn b1d
         have hg1 : W0.heap.size ≤ g := hg
         have O1 := Lib.hid o1
         have K1 : W1.cell? ⟨w.heap.size, 0, none⟩ = some (.int .i64 p0) ∧ W1.cell? ⟨w.heap.size, 1, none⟩ = some (.int .i64 p1) ∧ W1.cell? ⟨w.heap.size, 2, none⟩ = some (.int .i64 p2) ∧ W1.cell? ⟨w.heap.size, 3, none⟩ = some (.int .i64 q0) ∧ W1.cell? ⟨w.heap.size, 4, none⟩ = some (.int .i64 q1) ∧ W1.cell? ⟨w.heap.size, 5, none⟩ = some (.int .i64 q2) := ⟨(L0.out.kept b1 L0.out.inside).cell 0, (L0.out.kept b1 L0.out.inside).cell 1, (L0.out.kept b1 L0.out.inside).cell 2, (L0.out.kept b1 L0.out.inside).cell 3, (L0.out.kept b1 L0.out.inside).cell 4, (L0.out.kept b1 L0.out.inside).cell 5⟩
         clear b1d hg o1)
      | (go_at_call_of 122 (Value.agg #[.int .i64 q0, .int .i64 q1, .int .i64 q2]); refine (point_any _ _ _ _ _ _ _ HQ.out HM.out HD.out).mono ?_
         rintro e W2 ⟨g', rfl, hg2, o2, b2⟩
         have O2 := Lib.hid o2
         have K2 : W2.cell? ⟨w.heap.size, 0, none⟩ = some (.int .i64 p0) ∧ W2.cell? ⟨w.heap.size, 1, none⟩ = some (.int .i64 p1) ∧ W2.cell? ⟨w.heap.size, 2, none⟩ = some (.int .i64 p2) ∧ W2.cell? ⟨w.heap.size, 3, none⟩ = some (.int .i64 q0) ∧ W2.cell? ⟨w.heap.size, 4, none⟩ = some (.int .i64 q1) ∧ W2.cell? ⟨w.heap.size, 5, none⟩ = some (.int .i64 q2) := ⟨((L0.out.kept b1 L0.out.inside).kept b2 (L0.out.kept b1 L0.out.inside).inside).cell 0, ((L0.out.kept b1 L0.out.inside).kept b2 (L0.out.kept b1 L0.out.inside).inside).cell 1, ((L0.out.kept b1 L0.out.inside).kept b2 (L0.out.kept b1 L0.out.inside).inside).cell 2, ((L0.out.kept b1 L0.out.inside).kept b2 (L0.out.kept b1 L0.out.inside).inside).cell 3, ((L0.out.kept b1 L0.out.inside).kept b2 (L0.out.kept b1 L0.out.inside).inside).cell 4, ((L0.out.kept b1 L0.out.inside).kept b2 (L0.out.kept b1 L0.out.inside).inside).cell 5⟩
         have z0 : W2.cell? ⟨w.heap.size + 1, 0, none⟩ = some (.slice none 0 0) := ((L1.out.kept b1 L1.out.inside).kept b2 (L1.out.kept b1 L1.out.inside).inside).cell 0
         have z1 : W2.cell? ⟨w.heap.size + 1, 1, none⟩ = some (.slice none 0 0) := ((L1.out.kept b1 L1.out.inside).kept b2 (L1.out.kept b1 L1.out.inside).inside).cell 1
         have y0 : W2.frozen? ⟨w.heap.size + 1, 0, none⟩ = false := ((L1.out.kept b1 L1.out.inside).kept b2 (L1.out.kept b1 L1.out.inside).inside).thawed 0
         have y1 : W2.frozen? ⟨w.heap.size + 1, 1, none⟩ = false := ((L1.out.kept b1 L1.out.inside).kept b2 (L1.out.kept b1 L1.out.inside).inside).thawed 1
         clear o2))
  go_wp2
  have hgi : g < W1.heap.size := O1.out.inside
  refine bodyPost_ret (v := .agg #[.slice (some ⟨g, 0, none⟩) n n, .slice (some ⟨g', 0, none⟩) n n]) (by simp [results, Try.results71, go_sem, z0, z1]) rfl ⟨g, g', rfl, ?_, ?_, by omega, by omega, ?_⟩
  · exact ((O1.out.kept b2).far (by show g ≠ w.heap.size + 1; omega) _).far (by show g ≠ w.heap.size + 1; omega) _
  · exact (O2.out.far (by show g' ≠ w.heap.size + 1; omega) _).far (by show g' ≠ w.heap.size + 1; omega) _
  · have BE := (B0.out.trans (b1.mono B0.out.size)).trans (b2.mono (Nat.le_trans B0.out.size b1.size))
    repeat (with_reducible refine Below.setCell ?_ (by exact Nat.le_succ _) _)
    exact BE

/-- What is wrong with two boxes. -/
def rf2 (xs ys us vs : List Int) : Int := if rf xs ys xs.length ≠ 0 then rf xs ys xs.length else rf us vs xs.length

set_option maxHeartbeats 1600000 in
theorem rectsFault_any (n1 c1 n2 c2 n3 c3 n4 c4 lo1 lo2 lo3 lo4 : Nat) (A1 A2 A3 A4 : Option Addr) (x1 x2 x3 x4 : List Int) (w : World)
    (h1 : Ints w lo1 A1 n1 x1) (h2 : Ints w lo2 A2 n2 x2) (h3 : Ints w lo3 A3 n3 x3) (h4 : Ints w lo4 A4 n4 x4) (m1 : n1 ≤ maxLen) (m2 : n2 ≤ maxLen) (m3 : n3 ≤ maxLen) (m4 : n4 ≤ maxLen) :
    Calls Try.prog 68 #[.agg #[.slice A1 n1 c1, .slice A2 n2 c2], .agg #[.slice A3 n3 c3, .slice A4 n4 c4]] w fun e w' => e = .returned (.int .i64 (rf2 x1 x2 x3 x4)) ∧ Below w.heap.size w w' := by
  have B0 : Hid (Below w.heap.size w ((w.alloc (.cells #[.slice A1 n1 c1, .slice A2 n2 c2] 26)).alloc (.cells #[.slice A3 n3 c3, .slice A4 n4 c4] 26))) := (below_alloc _ _).alloc (by simp) _
  have H1 := Lib.hid h1
  have H2 := Lib.hid h2
  have H3 := Lib.hid h3
  have H4 := Lib.hid h4
  have HL := Lib.hid h1.1
  have L0 := Lib.hid ((Lies.new w 26 #[.slice A1 n1 c1, .slice A2 n2 c2]).alloc (.cells #[.slice A3 n3 c3, .slice A4 n4 c4] 26))
  have L1 := Lib.hid (Lies.new (w.alloc (.cells #[.slice A1 n1 c1, .slice A2 n2 c2] 26)) 26 #[.slice A3 n3 c3, .slice A4 n4 c4])
  simp only [World.size_alloc] at L1
  clear h1 h2 h3 h4
  by_cases hr : rf x1 x2 (n1 : Int) = 0
  case' pos =>
    have hne : (rf x1 x2 (n1 : Int) != 0) = false := by simp [hr]
    have HR : Hid (rf2 x1 x2 x3 x4 = rf x3 x4 (n1 : Int)) := by show rf2 x1 x2 x3 x4 = _; unfold rf2; rw [HL.out, hr]; simp
  case' neg =>
    have hne : (rf x1 x2 (n1 : Int) != 0) = true := by simpa using hr
    have HR : Hid (rf2 x1 x2 x3 x4 = rf x1 x2 (n1 : Int)) := by show rf2 x1 x2 x3 x4 = _; unfold rf2; rw [HL.out, if_pos hr]
  all_goals
    clear hr
    go_enter Try.func68, Try.ntmps68
    go_wp2
    generalize hW : ((w.alloc (.cells #[.slice A1 n1 c1, .slice A2 n2 c2] 26)).alloc (.cells #[.slice A3 n3 c3, .slice A4 n4 c4] 26)) = W0 at *
    clear hW
    have c0 : W0.cell? ⟨w.heap.size, 0, none⟩ = some (.slice A1 n1 c1) ∧ W0.cell? ⟨w.heap.size, 1, none⟩ = some (.slice A2 n2 c2) := ⟨L0.out.cell 0, L0.out.cell 1⟩
    go_region_held3 (fun w' => w'.cell? ⟨w.heap.size, 0, none⟩ = some (.slice A1 n1 c1) ∧ w'.cell? ⟨w.heap.size, 1, none⟩ = some (.slice A2 n2 c2))
      (first | (simp [go_sem, c0]; done) | with_reducible exact K1 | with_reducible exact K2)
      (first
        | (go_at_call 72; refine (dimsOf_any _ _ _ _ _ _ _).mono ?_
           rintro e W1 ⟨rfl, b1d⟩
           have b1 := below_drawn b1d
           have K1 : W1.cell? ⟨w.heap.size, 0, none⟩ = some (.slice A1 n1 c1) ∧ W1.cell? ⟨w.heap.size, 1, none⟩ = some (.slice A2 n2 c2) := ⟨(L0.out.kept b1 L0.out.inside).cell 0, (L0.out.kept b1 L0.out.inside).cell 1⟩
           clear b1d)
        | (go_at_call 18; refine (implRectFault_any _ _ _ _ _ _ _ _ _ x1 x2 _ ((H1.out.kept B0.out).kept b1) ((H2.out.kept B0.out).kept b1) m1 m2).mono ?_
           rintro e W2 ⟨rfl, b2⟩
           have K2 : W2.cell? ⟨w.heap.size, 0, none⟩ = some (.slice A1 n1 c1) ∧ W2.cell? ⟨w.heap.size, 1, none⟩ = some (.slice A2 n2 c2) := ⟨((L0.out.kept b1 L0.out.inside).kept b2 (L0.out.kept b1 L0.out.inside).inside).cell 0, ((L0.out.kept b1 L0.out.inside).kept b2 (L0.out.kept b1 L0.out.inside).inside).cell 1⟩))
    go_wp2
  · go_ret
    exact ⟨ret_i64 HR.out.symm, (B0.out.trans (b1.mono B0.out.size)).trans (b2.mono (Nat.le_trans B0.out.size b1.size))⟩
  clear hne
  have B2 := Lib.hid ((B0.out.trans (b1.mono B0.out.size)).trans (b2.mono (Nat.le_trans B0.out.size b1.size)))
  replace L0 := Lib.hid ((L0.out.kept b1 L0.out.inside).kept b2 (L0.out.kept b1 L0.out.inside).inside)
  replace L1 := Lib.hid ((L1.out.kept b1 L1.out.inside).kept b2 (L1.out.kept b1 L1.out.inside).inside)
  clear b1 b2 K1 B0 c0
  have c0 : W2.cell? ⟨w.heap.size, 0, none⟩ = some (.slice A1 n1 c1) ∧ W2.cell? ⟨w.heap.size, 1, none⟩ = some (.slice A2 n2 c2) ∧ W2.cell? ⟨w.heap.size + 1, 0, none⟩ = some (.slice A3 n3 c3) ∧ W2.cell? ⟨w.heap.size + 1, 1, none⟩ = some (.slice A4 n4 c4) := ⟨L0.out.cell 0, L0.out.cell 1, L1.out.cell 0, L1.out.cell 1⟩
  clear K2
  go_region_held3 (fun w' => w'.cell? ⟨w.heap.size, 0, none⟩ = some (.slice A1 n1 c1) ∧ w'.cell? ⟨w.heap.size, 1, none⟩ = some (.slice A2 n2 c2) ∧ w'.cell? ⟨w.heap.size + 1, 0, none⟩ = some (.slice A3 n3 c3) ∧ w'.cell? ⟨w.heap.size + 1, 1, none⟩ = some (.slice A4 n4 c4))
    (first | (simp [go_sem, c0]; done) | with_reducible exact K3 | with_reducible exact K4)
    (first
      | (go_at_call 72; refine (dimsOf_any _ _ _ _ _ _ _).mono ?_
         rintro e W3 ⟨rfl, b3d⟩
         have b3 := below_drawn b3d
         have K3 : W3.cell? ⟨w.heap.size, 0, none⟩ = some (.slice A1 n1 c1) ∧ W3.cell? ⟨w.heap.size, 1, none⟩ = some (.slice A2 n2 c2) ∧ W3.cell? ⟨w.heap.size + 1, 0, none⟩ = some (.slice A3 n3 c3) ∧ W3.cell? ⟨w.heap.size + 1, 1, none⟩ = some (.slice A4 n4 c4) := ⟨(L0.out.kept b3 L0.out.inside).cell 0, (L0.out.kept b3 L0.out.inside).cell 1, (L1.out.kept b3 L1.out.inside).cell 0, (L1.out.kept b3 L1.out.inside).cell 1⟩
         clear b3d)
      | (go_at_call 18; refine (implRectFault_any _ _ _ _ _ _ _ _ _ x3 x4 _ ((H3.out.kept B2.out).kept b3) ((H4.out.kept B2.out).kept b3) m3 m4).mono ?_
         rintro e W4 ⟨rfl, b4⟩
         have K4 : W4.cell? ⟨w.heap.size, 0, none⟩ = some (.slice A1 n1 c1) ∧ W4.cell? ⟨w.heap.size, 1, none⟩ = some (.slice A2 n2 c2) ∧ W4.cell? ⟨w.heap.size + 1, 0, none⟩ = some (.slice A3 n3 c3) ∧ W4.cell? ⟨w.heap.size + 1, 1, none⟩ = some (.slice A4 n4 c4) := ⟨((L0.out.kept b3 L0.out.inside).kept b4 (L0.out.kept b3 L0.out.inside).inside).cell 0, ((L0.out.kept b3 L0.out.inside).kept b4 (L0.out.kept b3 L0.out.inside).inside).cell 1, ((L1.out.kept b3 L1.out.inside).kept b4 (L1.out.kept b3 L1.out.inside).inside).cell 0, ((L1.out.kept b3 L1.out.inside).kept b4 (L1.out.kept b3 L1.out.inside).inside).cell 1⟩))
  go_wp2
  go_ret
  exact ⟨ret_i64 HR.out.symm, (B2.out.trans (b3.mono B2.out.size)).trans (b4.mono (Nat.le_trans B2.out.size b3.size))⟩

end Go.Proofs.Ytfpmbkfikfdmkaa
