/- The walks of impl.wants, one a kind of inquiry. -/
import Derived.Test.YtbonpmgbcdknbaaReadQuery
import Derived.Test.YtbonpmgbcdknbaaCovers
import Derived.Test.YtbonpmgbcdknbaaDist
namespace Go.Proofs.Ytbonpmgbcdknbaa
open Go.RowKit

set_option maxHeartbeats 3200000 in
theorem wants_1 (v : Bool) (n1 c1 n2 c2 lo1 lo2 : Nat) (A1 A2 : Option Addr) (x1 x2 : List Int) (p0 p1 p2 q0 q1 q2 r0 r1 r2 s0 s1 s2 : Int) (w : World) (h1 : Ints w lo1 A1 n1 x1) (h2 : Ints w lo2 A2 n2 x2) (hp : Pad x1 p0 p1 p2) (hq : Pad x2 q0 q1 q2) (hv : boxMeets p0 p1 p2 q0 q1 q2 r0 r1 r2 s0 s1 s2 = v) :
    Calls Try.prog 74 #[.iface 122 (.agg #[.slice A1 n1 c1, .slice A2 n2 c2]), .agg #[.int .i64 r0, .int .i64 r1, .int .i64 r2, .int .i64 s0, .int .i64 s1, .int .i64 s2]] w fun e w' => e = .returned (.bool v) ∧ Below w.heap.size w w' := by
  have I_x1 := Lib.hid h1
  have I_x2 := Lib.hid h2
  have P1 := Lib.hid hp
  have P2 := Lib.hid hq
  have HV := Lib.hid hv
  clear h1 h2 hp hq hv
  have B := Lib.hid (Below.refl w.heap.size w)
  have L_b := Lib.hid (Lies.new w 83 #[.int .i64 r0, .int .i64 r1, .int .i64 r2, .int .i64 s0, .int .i64 s1, .int .i64 s2])
  replace B := Lib.hid (B.out.alloc B.out.size (.cells #[.int .i64 r0, .int .i64 r1, .int .i64 r2, .int .i64 s0, .int .i64 s1, .int .i64 s2] 83))
  replace L_b := Lib.hid (L_b.out.alloc (.cells #[.slice A1 n1 c1, .slice A2 n2 c2] 122))
  have L_x := Lib.hid (Lies.new (w.alloc (.cells #[.int .i64 r0, .int .i64 r1, .int .i64 r2, .int .i64 s0, .int .i64 s1, .int .i64 s2] 83)) 122 #[.slice A1 n1 c1, .slice A2 n2 c2])
  replace B := Lib.hid (B.out.alloc B.out.size (.cells #[.slice A1 n1 c1, .slice A2 n2 c2] 122))
  simp only [World.size_alloc] at L_x
  have ta1 : ∀ w : World, (Instr.typeAssert (.iface 122 (.agg #[.slice A1 n1 c1, .slice A2 n2 c2])) 100 122 true).run Try.prog w = .ok (.tuple #[.agg #[.slice A1 n1 c1, .slice A2 n2 c2], .bool true]) w := fun _ => by kernel_rfl
  go_enter Try.func74, Try.ntmps74
  go_wp2
  generalize hW : ((w.alloc (.cells #[.int .i64 r0, .int .i64 r1, .int .i64 r2, .int .i64 s0, .int .i64 s1, .int .i64 s2] 83)).alloc (.cells #[.slice A1 n1 c1, .slice A2 n2 c2] 122)) = W0 at *
  clear hW
  have k_0 : W0.cell? ⟨w.heap.size + 1, 0, none⟩ = some (.slice A1 n1 c1) ∧ W0.cell? ⟨w.heap.size + 1, 1, none⟩ = some (.slice A2 n2 c2) ∧ W0.cell? ⟨w.heap.size, 0, none⟩ = some (.int .i64 r0) ∧ W0.cell? ⟨w.heap.size, 1, none⟩ = some (.int .i64 r1) ∧ W0.cell? ⟨w.heap.size, 2, none⟩ = some (.int .i64 r2) ∧ W0.cell? ⟨w.heap.size, 3, none⟩ = some (.int .i64 s0) ∧ W0.cell? ⟨w.heap.size, 4, none⟩ = some (.int .i64 s1) ∧ W0.cell? ⟨w.heap.size, 5, none⟩ = some (.int .i64 s2) := ⟨L_x.out.cell 0, L_x.out.cell 1, L_b.out.cell 0, L_b.out.cell 1, L_b.out.cell 2, L_b.out.cell 3, L_b.out.cell 4, L_b.out.cell 5⟩
  go_region_held3 (fun w' => w'.cell? ⟨w.heap.size + 1, 0, none⟩ = some (.slice A1 n1 c1) ∧ w'.cell? ⟨w.heap.size + 1, 1, none⟩ = some (.slice A2 n2 c2) ∧ w'.cell? ⟨w.heap.size, 0, none⟩ = some (.int .i64 r0) ∧ w'.cell? ⟨w.heap.size, 1, none⟩ = some (.int .i64 r1) ∧ w'.cell? ⟨w.heap.size, 2, none⟩ = some (.int .i64 r2) ∧ w'.cell? ⟨w.heap.size, 3, none⟩ = some (.int .i64 s0) ∧ w'.cell? ⟨w.heap.size, 4, none⟩ = some (.int .i64 s1) ∧ w'.cell? ⟨w.heap.size, 5, none⟩ = some (.int .i64 s2))
    (first | (simp [go_sem, k_0]; done) | with_reducible exact k_1 | with_reducible exact k_2)
    (first
      | (go_at_call 59; refine (boxFrom_any _ _ _ _ _ _ _ _ x1 x2 _ _ _ _ _ _ _ P1.out P2.out (I_x1.out.kept B.out.drew) (I_x2.out.kept B.out.drew)).mono ?_
         rintro e W1 ⟨rfl, b1d⟩
         have b1 := below_drawn b1d
         have k_1 : W1.cell? ⟨w.heap.size + 1, 0, none⟩ = some (.slice A1 n1 c1) ∧ W1.cell? ⟨w.heap.size + 1, 1, none⟩ = some (.slice A2 n2 c2) ∧ W1.cell? ⟨w.heap.size, 0, none⟩ = some (.int .i64 r0) ∧ W1.cell? ⟨w.heap.size, 1, none⟩ = some (.int .i64 r1) ∧ W1.cell? ⟨w.heap.size, 2, none⟩ = some (.int .i64 r2) ∧ W1.cell? ⟨w.heap.size, 3, none⟩ = some (.int .i64 s0) ∧ W1.cell? ⟨w.heap.size, 4, none⟩ = some (.int .i64 s1) ∧ W1.cell? ⟨w.heap.size, 5, none⟩ = some (.int .i64 s2) := ⟨(L_x.out.kept b1 L_x.out.inside).cell 0, (L_x.out.kept b1 L_x.out.inside).cell 1, (L_b.out.kept b1 L_b.out.inside).cell 0, (L_b.out.kept b1 L_b.out.inside).cell 1, (L_b.out.kept b1 L_b.out.inside).cell 2, (L_b.out.kept b1 L_b.out.inside).cell 3, (L_b.out.kept b1 L_b.out.inside).cell 4, (L_b.out.kept b1 L_b.out.inside).cell 5⟩
         clear b1d)
      | (go_at_call 91; refine (meets_is v _ _ _ _ _ _ _ _ _ _ _ _ _ HV.out).mono ?_
         rintro e W2 ⟨rfl, b2⟩
         have k_2 : W2.cell? ⟨w.heap.size + 1, 0, none⟩ = some (.slice A1 n1 c1) ∧ W2.cell? ⟨w.heap.size + 1, 1, none⟩ = some (.slice A2 n2 c2) ∧ W2.cell? ⟨w.heap.size, 0, none⟩ = some (.int .i64 r0) ∧ W2.cell? ⟨w.heap.size, 1, none⟩ = some (.int .i64 r1) ∧ W2.cell? ⟨w.heap.size, 2, none⟩ = some (.int .i64 r2) ∧ W2.cell? ⟨w.heap.size, 3, none⟩ = some (.int .i64 s0) ∧ W2.cell? ⟨w.heap.size, 4, none⟩ = some (.int .i64 s1) ∧ W2.cell? ⟨w.heap.size, 5, none⟩ = some (.int .i64 s2) := ⟨((L_x.out.kept b1 L_x.out.inside).kept b2 (L_x.out.kept b1 L_x.out.inside).inside).cell 0, ((L_x.out.kept b1 L_x.out.inside).kept b2 (L_x.out.kept b1 L_x.out.inside).inside).cell 1, ((L_b.out.kept b1 L_b.out.inside).kept b2 (L_b.out.kept b1 L_b.out.inside).inside).cell 0, ((L_b.out.kept b1 L_b.out.inside).kept b2 (L_b.out.kept b1 L_b.out.inside).inside).cell 1, ((L_b.out.kept b1 L_b.out.inside).kept b2 (L_b.out.kept b1 L_b.out.inside).inside).cell 2, ((L_b.out.kept b1 L_b.out.inside).kept b2 (L_b.out.kept b1 L_b.out.inside).inside).cell 3, ((L_b.out.kept b1 L_b.out.inside).kept b2 (L_b.out.kept b1 L_b.out.inside).inside).cell 4, ((L_b.out.kept b1 L_b.out.inside).kept b2 (L_b.out.kept b1 L_b.out.inside).inside).cell 5⟩))
  clear k_0 k_1 k_2
  replace L_b := Lib.hid (L_b.out.kept b1 L_b.out.inside)
  replace L_x := Lib.hid (L_x.out.kept b1 L_x.out.inside)
  replace B := Lib.hid (B.out.trans (b1.mono B.out.size))
  clear b1
  replace L_b := Lib.hid (L_b.out.kept b2 L_b.out.inside)
  replace L_x := Lib.hid (L_x.out.kept b2 L_x.out.inside)
  replace B := Lib.hid (B.out.trans (b2.mono B.out.size))
  clear b2
  go_wp2
  go_ret
  exact ⟨rfl, B.out⟩

set_option maxHeartbeats 3200000 in
theorem wants_2 (v : Bool) (n1 c1 n2 c2 lo1 lo2 : Nat) (A1 A2 : Option Addr) (x1 x2 : List Int) (p0 p1 p2 q0 q1 q2 r0 r1 r2 s0 s1 s2 : Int) (w : World) (h1 : Ints w lo1 A1 n1 x1) (h2 : Ints w lo2 A2 n2 x2) (hp : Pad x1 p0 p1 p2) (hq : Pad x2 q0 q1 q2) (hv : boxCovers p0 p1 p2 q0 q1 q2 r0 r1 r2 s0 s1 s2 = v) :
    Calls Try.prog 74 #[.iface 124 (.agg #[.slice A1 n1 c1, .slice A2 n2 c2]), .agg #[.int .i64 r0, .int .i64 r1, .int .i64 r2, .int .i64 s0, .int .i64 s1, .int .i64 s2]] w fun e w' => e = .returned (.bool v) ∧ Below w.heap.size w w' := by
  have I_x1 := Lib.hid h1
  have I_x2 := Lib.hid h2
  have P1 := Lib.hid hp
  have P2 := Lib.hid hq
  have HV := Lib.hid hv
  clear h1 h2 hp hq hv
  have B := Lib.hid (Below.refl w.heap.size w)
  have L_b := Lib.hid (Lies.new w 83 #[.int .i64 r0, .int .i64 r1, .int .i64 r2, .int .i64 s0, .int .i64 s1, .int .i64 s2])
  replace B := Lib.hid (B.out.alloc B.out.size (.cells #[.int .i64 r0, .int .i64 r1, .int .i64 r2, .int .i64 s0, .int .i64 s1, .int .i64 s2] 83))
  replace L_b := Lib.hid (L_b.out.alloc (.cells #[.slice A1 n1 c1, .slice A2 n2 c2] 124))
  have L_x := Lib.hid (Lies.new (w.alloc (.cells #[.int .i64 r0, .int .i64 r1, .int .i64 r2, .int .i64 s0, .int .i64 s1, .int .i64 s2] 83)) 124 #[.slice A1 n1 c1, .slice A2 n2 c2])
  replace B := Lib.hid (B.out.alloc B.out.size (.cells #[.slice A1 n1 c1, .slice A2 n2 c2] 124))
  simp only [World.size_alloc] at L_x
  have ta1 : ∀ w : World, (Instr.typeAssert (.iface 124 (.agg #[.slice A1 n1 c1, .slice A2 n2 c2])) 100 122 true).run Try.prog w = .ok (.tuple #[.agg #[.slice none 0 0, .slice none 0 0], .bool false]) w := fun _ => by kernel_rfl
  have ta2 : ∀ w : World, (Instr.typeAssert (.iface 124 (.agg #[.slice A1 n1 c1, .slice A2 n2 c2])) 100 124 true).run Try.prog w = .ok (.tuple #[.agg #[.slice A1 n1 c1, .slice A2 n2 c2], .bool true]) w := fun _ => by kernel_rfl
  go_enter Try.func74, Try.ntmps74
  go_wp2
  generalize hW : ((w.alloc (.cells #[.int .i64 r0, .int .i64 r1, .int .i64 r2, .int .i64 s0, .int .i64 s1, .int .i64 s2] 83)).alloc (.cells #[.slice A1 n1 c1, .slice A2 n2 c2] 124)) = W0 at *
  clear hW
  have k_0 : W0.cell? ⟨w.heap.size + 1, 0, none⟩ = some (.slice A1 n1 c1) ∧ W0.cell? ⟨w.heap.size + 1, 1, none⟩ = some (.slice A2 n2 c2) ∧ W0.cell? ⟨w.heap.size, 0, none⟩ = some (.int .i64 r0) ∧ W0.cell? ⟨w.heap.size, 1, none⟩ = some (.int .i64 r1) ∧ W0.cell? ⟨w.heap.size, 2, none⟩ = some (.int .i64 r2) ∧ W0.cell? ⟨w.heap.size, 3, none⟩ = some (.int .i64 s0) ∧ W0.cell? ⟨w.heap.size, 4, none⟩ = some (.int .i64 s1) ∧ W0.cell? ⟨w.heap.size, 5, none⟩ = some (.int .i64 s2) := ⟨L_x.out.cell 0, L_x.out.cell 1, L_b.out.cell 0, L_b.out.cell 1, L_b.out.cell 2, L_b.out.cell 3, L_b.out.cell 4, L_b.out.cell 5⟩
  go_region_held3 (fun w' => w'.cell? ⟨w.heap.size + 1, 0, none⟩ = some (.slice A1 n1 c1) ∧ w'.cell? ⟨w.heap.size + 1, 1, none⟩ = some (.slice A2 n2 c2) ∧ w'.cell? ⟨w.heap.size, 0, none⟩ = some (.int .i64 r0) ∧ w'.cell? ⟨w.heap.size, 1, none⟩ = some (.int .i64 r1) ∧ w'.cell? ⟨w.heap.size, 2, none⟩ = some (.int .i64 r2) ∧ w'.cell? ⟨w.heap.size, 3, none⟩ = some (.int .i64 s0) ∧ w'.cell? ⟨w.heap.size, 4, none⟩ = some (.int .i64 s1) ∧ w'.cell? ⟨w.heap.size, 5, none⟩ = some (.int .i64 s2))
    (first | (simp [go_sem, k_0]; done) | with_reducible exact k_1 | with_reducible exact k_2)
    (first
      | (go_at_call 59; refine (boxFrom_any _ _ _ _ _ _ _ _ x1 x2 _ _ _ _ _ _ _ P1.out P2.out (I_x1.out.kept B.out.drew) (I_x2.out.kept B.out.drew)).mono ?_
         rintro e W1 ⟨rfl, b1d⟩
         have b1 := below_drawn b1d
         have k_1 : W1.cell? ⟨w.heap.size + 1, 0, none⟩ = some (.slice A1 n1 c1) ∧ W1.cell? ⟨w.heap.size + 1, 1, none⟩ = some (.slice A2 n2 c2) ∧ W1.cell? ⟨w.heap.size, 0, none⟩ = some (.int .i64 r0) ∧ W1.cell? ⟨w.heap.size, 1, none⟩ = some (.int .i64 r1) ∧ W1.cell? ⟨w.heap.size, 2, none⟩ = some (.int .i64 r2) ∧ W1.cell? ⟨w.heap.size, 3, none⟩ = some (.int .i64 s0) ∧ W1.cell? ⟨w.heap.size, 4, none⟩ = some (.int .i64 s1) ∧ W1.cell? ⟨w.heap.size, 5, none⟩ = some (.int .i64 s2) := ⟨(L_x.out.kept b1 L_x.out.inside).cell 0, (L_x.out.kept b1 L_x.out.inside).cell 1, (L_b.out.kept b1 L_b.out.inside).cell 0, (L_b.out.kept b1 L_b.out.inside).cell 1, (L_b.out.kept b1 L_b.out.inside).cell 2, (L_b.out.kept b1 L_b.out.inside).cell 3, (L_b.out.kept b1 L_b.out.inside).cell 4, (L_b.out.kept b1 L_b.out.inside).cell 5⟩
         clear b1d)
      | (go_at_call 92; refine (coversM_is v _ _ _ _ _ _ _ _ _ _ _ _ _ HV.out).mono ?_
         rintro e W2 ⟨rfl, b2⟩
         have k_2 : W2.cell? ⟨w.heap.size + 1, 0, none⟩ = some (.slice A1 n1 c1) ∧ W2.cell? ⟨w.heap.size + 1, 1, none⟩ = some (.slice A2 n2 c2) ∧ W2.cell? ⟨w.heap.size, 0, none⟩ = some (.int .i64 r0) ∧ W2.cell? ⟨w.heap.size, 1, none⟩ = some (.int .i64 r1) ∧ W2.cell? ⟨w.heap.size, 2, none⟩ = some (.int .i64 r2) ∧ W2.cell? ⟨w.heap.size, 3, none⟩ = some (.int .i64 s0) ∧ W2.cell? ⟨w.heap.size, 4, none⟩ = some (.int .i64 s1) ∧ W2.cell? ⟨w.heap.size, 5, none⟩ = some (.int .i64 s2) := ⟨((L_x.out.kept b1 L_x.out.inside).kept b2 (L_x.out.kept b1 L_x.out.inside).inside).cell 0, ((L_x.out.kept b1 L_x.out.inside).kept b2 (L_x.out.kept b1 L_x.out.inside).inside).cell 1, ((L_b.out.kept b1 L_b.out.inside).kept b2 (L_b.out.kept b1 L_b.out.inside).inside).cell 0, ((L_b.out.kept b1 L_b.out.inside).kept b2 (L_b.out.kept b1 L_b.out.inside).inside).cell 1, ((L_b.out.kept b1 L_b.out.inside).kept b2 (L_b.out.kept b1 L_b.out.inside).inside).cell 2, ((L_b.out.kept b1 L_b.out.inside).kept b2 (L_b.out.kept b1 L_b.out.inside).inside).cell 3, ((L_b.out.kept b1 L_b.out.inside).kept b2 (L_b.out.kept b1 L_b.out.inside).inside).cell 4, ((L_b.out.kept b1 L_b.out.inside).kept b2 (L_b.out.kept b1 L_b.out.inside).inside).cell 5⟩))
  clear k_0 k_1 k_2
  replace L_b := Lib.hid (L_b.out.kept b1 L_b.out.inside)
  replace L_x := Lib.hid (L_x.out.kept b1 L_x.out.inside)
  replace B := Lib.hid (B.out.trans (b1.mono B.out.size))
  clear b1
  replace L_b := Lib.hid (L_b.out.kept b2 L_b.out.inside)
  replace L_x := Lib.hid (L_x.out.kept b2 L_x.out.inside)
  replace B := Lib.hid (B.out.trans (b2.mono B.out.size))
  clear b2
  go_wp2
  go_ret
  exact ⟨rfl, B.out⟩

set_option maxHeartbeats 3200000 in
theorem wants_3 (n : Nat) (n3 c3 lo3 : Nat) (A3 : Option Addr) (x3 x4 x5 : List Int) (p0 p1 p2 r0 r1 r2 s0 s1 s2 : Int) (w : World) (h3 : Ints w lo3 A3 n3 x3) (hp : Pad x3 p0 p1 p2) (hr : Pad x4 r0 r1 r2) (hs : Pad x5 s0 s1 s2) (hR : Right x4 x5 n) (hall : allIn (-1000) 1000 x3 = true) (hl : x3.length = n) :
    Calls Try.prog 74 #[.iface 126 (.agg #[.slice A3 n3 c3]), .agg #[.int .i64 r0, .int .i64 r1, .int .i64 r2, .int .i64 s0, .int .i64 s1, .int .i64 s2]] w fun e w' => e = .returned (.bool (distTo x4 x5 x3 n == 0)) ∧ Below w.heap.size w w' := by
  have I_x3 := Lib.hid h3
  have P3 := Lib.hid hp
  have P4 := Lib.hid hr
  have P5 := Lib.hid hs
  have HR := Lib.hid hR
  have HA := Lib.hid hall
  have HL := Lib.hid hl
  clear h3 hp hr hs hR hall hl
  have B := Lib.hid (Below.refl w.heap.size w)
  have L_b := Lib.hid (Lies.new w 83 #[.int .i64 r0, .int .i64 r1, .int .i64 r2, .int .i64 s0, .int .i64 s1, .int .i64 s2])
  replace B := Lib.hid (B.out.alloc B.out.size (.cells #[.int .i64 r0, .int .i64 r1, .int .i64 r2, .int .i64 s0, .int .i64 s1, .int .i64 s2] 83))
  replace L_b := Lib.hid (L_b.out.alloc (.cells #[.slice A3 n3 c3] 126))
  have L_x := Lib.hid (Lies.new (w.alloc (.cells #[.int .i64 r0, .int .i64 r1, .int .i64 r2, .int .i64 s0, .int .i64 s1, .int .i64 s2] 83)) 126 #[.slice A3 n3 c3])
  replace B := Lib.hid (B.out.alloc B.out.size (.cells #[.slice A3 n3 c3] 126))
  simp only [World.size_alloc] at L_x
  have ta1 : ∀ w : World, (Instr.typeAssert (.iface 126 (.agg #[.slice A3 n3 c3])) 100 122 true).run Try.prog w = .ok (.tuple #[.agg #[.slice none 0 0, .slice none 0 0], .bool false]) w := fun _ => by kernel_rfl
  have ta2 : ∀ w : World, (Instr.typeAssert (.iface 126 (.agg #[.slice A3 n3 c3])) 100 124 true).run Try.prog w = .ok (.tuple #[.agg #[.slice none 0 0, .slice none 0 0], .bool false]) w := fun _ => by kernel_rfl
  have ta3 : ∀ w : World, (Instr.typeAssert (.iface 126 (.agg #[.slice A3 n3 c3])) 100 126 true).run Try.prog w = .ok (.tuple #[.agg #[.slice A3 n3 c3], .bool true]) w := fun _ => by kernel_rfl
  go_enter Try.func74, Try.ntmps74
  go_wp2
  generalize hW : ((w.alloc (.cells #[.int .i64 r0, .int .i64 r1, .int .i64 r2, .int .i64 s0, .int .i64 s1, .int .i64 s2] 83)).alloc (.cells #[.slice A3 n3 c3] 126)) = W0 at *
  clear hW
  have k_0 : W0.cell? ⟨w.heap.size + 1, 0, none⟩ = some (.slice A3 n3 c3) ∧ W0.cell? ⟨w.heap.size, 0, none⟩ = some (.int .i64 r0) ∧ W0.cell? ⟨w.heap.size, 1, none⟩ = some (.int .i64 r1) ∧ W0.cell? ⟨w.heap.size, 2, none⟩ = some (.int .i64 r2) ∧ W0.cell? ⟨w.heap.size, 3, none⟩ = some (.int .i64 s0) ∧ W0.cell? ⟨w.heap.size, 4, none⟩ = some (.int .i64 s1) ∧ W0.cell? ⟨w.heap.size, 5, none⟩ = some (.int .i64 s2) := ⟨L_x.out.cell 0, L_b.out.cell 0, L_b.out.cell 1, L_b.out.cell 2, L_b.out.cell 3, L_b.out.cell 4, L_b.out.cell 5⟩
  go_region_held3 (fun w' => w'.cell? ⟨w.heap.size + 1, 0, none⟩ = some (.slice A3 n3 c3) ∧ w'.cell? ⟨w.heap.size, 0, none⟩ = some (.int .i64 r0) ∧ w'.cell? ⟨w.heap.size, 1, none⟩ = some (.int .i64 r1) ∧ w'.cell? ⟨w.heap.size, 2, none⟩ = some (.int .i64 r2) ∧ w'.cell? ⟨w.heap.size, 3, none⟩ = some (.int .i64 s0) ∧ w'.cell? ⟨w.heap.size, 4, none⟩ = some (.int .i64 s1) ∧ w'.cell? ⟨w.heap.size, 5, none⟩ = some (.int .i64 s2))
    (first | (simp [go_sem, k_0]; done) | with_reducible exact k_1 | with_reducible exact k_2)
    (first
      | (go_at_call 81; refine (cornerFrom_any _ _ _ _ x3 _ _ _ _ P3.out (I_x3.out.kept B.out.drew)).mono ?_
         rintro e W1 ⟨rfl, b1d⟩
         have b1 := below_drawn b1d
         have k_1 : W1.cell? ⟨w.heap.size + 1, 0, none⟩ = some (.slice A3 n3 c3) ∧ W1.cell? ⟨w.heap.size, 0, none⟩ = some (.int .i64 r0) ∧ W1.cell? ⟨w.heap.size, 1, none⟩ = some (.int .i64 r1) ∧ W1.cell? ⟨w.heap.size, 2, none⟩ = some (.int .i64 r2) ∧ W1.cell? ⟨w.heap.size, 3, none⟩ = some (.int .i64 s0) ∧ W1.cell? ⟨w.heap.size, 4, none⟩ = some (.int .i64 s1) ∧ W1.cell? ⟨w.heap.size, 5, none⟩ = some (.int .i64 s2) := ⟨(L_x.out.kept b1 L_x.out.inside).cell 0, (L_b.out.kept b1 L_b.out.inside).cell 0, (L_b.out.kept b1 L_b.out.inside).cell 1, (L_b.out.kept b1 L_b.out.inside).cell 2, (L_b.out.kept b1 L_b.out.inside).cell 3, (L_b.out.kept b1 L_b.out.inside).cell 4, (L_b.out.kept b1 L_b.out.inside).cell 5⟩
         clear b1d)
      | (go_at_call 93; refine (distanceM_any _ _ _ _ _ _ _ _ _ _ x4 x5 x3 _ P4.out P5.out P3.out HR.out HA.out HL.out).mono ?_
         rintro e W2 ⟨rfl, b2⟩
         have k_2 : W2.cell? ⟨w.heap.size + 1, 0, none⟩ = some (.slice A3 n3 c3) ∧ W2.cell? ⟨w.heap.size, 0, none⟩ = some (.int .i64 r0) ∧ W2.cell? ⟨w.heap.size, 1, none⟩ = some (.int .i64 r1) ∧ W2.cell? ⟨w.heap.size, 2, none⟩ = some (.int .i64 r2) ∧ W2.cell? ⟨w.heap.size, 3, none⟩ = some (.int .i64 s0) ∧ W2.cell? ⟨w.heap.size, 4, none⟩ = some (.int .i64 s1) ∧ W2.cell? ⟨w.heap.size, 5, none⟩ = some (.int .i64 s2) := ⟨((L_x.out.kept b1 L_x.out.inside).kept b2 (L_x.out.kept b1 L_x.out.inside).inside).cell 0, ((L_b.out.kept b1 L_b.out.inside).kept b2 (L_b.out.kept b1 L_b.out.inside).inside).cell 0, ((L_b.out.kept b1 L_b.out.inside).kept b2 (L_b.out.kept b1 L_b.out.inside).inside).cell 1, ((L_b.out.kept b1 L_b.out.inside).kept b2 (L_b.out.kept b1 L_b.out.inside).inside).cell 2, ((L_b.out.kept b1 L_b.out.inside).kept b2 (L_b.out.kept b1 L_b.out.inside).inside).cell 3, ((L_b.out.kept b1 L_b.out.inside).kept b2 (L_b.out.kept b1 L_b.out.inside).inside).cell 4, ((L_b.out.kept b1 L_b.out.inside).kept b2 (L_b.out.kept b1 L_b.out.inside).inside).cell 5⟩))
  clear k_0 k_1 k_2
  replace L_b := Lib.hid (L_b.out.kept b1 L_b.out.inside)
  replace L_x := Lib.hid (L_x.out.kept b1 L_x.out.inside)
  replace B := Lib.hid (B.out.trans (b1.mono B.out.size))
  clear b1
  replace L_b := Lib.hid (L_b.out.kept b2 L_b.out.inside)
  replace L_x := Lib.hid (L_x.out.kept b2 L_x.out.inside)
  replace B := Lib.hid (B.out.trans (b2.mono B.out.size))
  clear b2
  go_wp2
  go_ret
  exact ⟨rfl, B.out⟩

set_option maxHeartbeats 1600000 in
theorem wants_4 (kk : Int) (n3 c3 : Nat) (A3 : Option Addr) (r0 r1 r2 s0 s1 s2 : Int) (w : World) :
    Calls Try.prog 74 #[.iface 129 (.agg #[.slice A3 n3 c3, .int .i64 kk]), .agg #[.int .i64 r0, .int .i64 r1, .int .i64 r2, .int .i64 s0, .int .i64 s1, .int .i64 s2]] w fun e w' => e = .returned (.bool true) ∧ Below w.heap.size w w' := by
  have B := Lib.hid (Below.refl w.heap.size w)
  have L_b := Lib.hid (Lies.new w 83 #[.int .i64 r0, .int .i64 r1, .int .i64 r2, .int .i64 s0, .int .i64 s1, .int .i64 s2])
  replace B := Lib.hid (B.out.alloc B.out.size (.cells #[.int .i64 r0, .int .i64 r1, .int .i64 r2, .int .i64 s0, .int .i64 s1, .int .i64 s2] 83))
  replace L_b := Lib.hid (L_b.out.alloc (.cells #[.slice A3 n3 c3, .int .i64 kk] 129))
  have L_x := Lib.hid (Lies.new (w.alloc (.cells #[.int .i64 r0, .int .i64 r1, .int .i64 r2, .int .i64 s0, .int .i64 s1, .int .i64 s2] 83)) 129 #[.slice A3 n3 c3, .int .i64 kk])
  replace B := Lib.hid (B.out.alloc B.out.size (.cells #[.slice A3 n3 c3, .int .i64 kk] 129))
  have ta1 : ∀ w : World, (Instr.typeAssert (.iface 129 (.agg #[.slice A3 n3 c3, .int .i64 kk])) 100 122 true).run Try.prog w = .ok (.tuple #[.agg #[.slice none 0 0, .slice none 0 0], .bool false]) w := fun _ => by kernel_rfl
  have ta2 : ∀ w : World, (Instr.typeAssert (.iface 129 (.agg #[.slice A3 n3 c3, .int .i64 kk])) 100 124 true).run Try.prog w = .ok (.tuple #[.agg #[.slice none 0 0, .slice none 0 0], .bool false]) w := fun _ => by kernel_rfl
  have ta3 : ∀ w : World, (Instr.typeAssert (.iface 129 (.agg #[.slice A3 n3 c3, .int .i64 kk])) 100 126 true).run Try.prog w = .ok (.tuple #[.agg #[.slice none 0 0], .bool false]) w := fun _ => by kernel_rfl
  have ta4 : ∀ w : World, (Instr.typeAssert (.iface 129 (.agg #[.slice A3 n3 c3, .int .i64 kk])) 100 129 true).run Try.prog w = .ok (.tuple #[.agg #[.slice A3 n3 c3, .int .i64 kk], .bool true]) w := fun _ => by kernel_rfl
  go_enter Try.func74, Try.ntmps74
  go_wp2
  go_ret
  exact ⟨rfl, B.out⟩

end Go.Proofs.Ytbonpmgbcdknbaa
