/- The draws: what the laws of boxes ask for. -/
import Derived.Test.YtfpmbkfikfdmkaaDraw6
namespace Go.Proofs.Ytfpmbkfikfdmkaa
open Go.RowKit

theorem Bys.kept {w w' : World} {lo n : Nat} {A : Option Addr} {zs : List Int} (h : Bys w lo A n zs) (hb : Below w.heap.size w w') (hlo : lo ≤ w.heap.size) : Bys w' lo A n zs := h.low (hb.mono hlo)

set_option maxRecDepth 100000 in
set_option maxHeartbeats 3200000 in
theorem drawGrowthOf_any (lo n0 c0 : Nat) (A0 : Option Addr) (zs : List Int) (w : World) (hz : Bys w lo A0 n0 zs) (hlo : lo ≤ w.heap.size) (hn0 : n0 ≤ 1048576) :
    Calls Try.prog 20 #[.slice A0 n0 c0] w fun e w' => Drawn2 w w' e := by
  have B0 := (below_alloc w (.cells #[.slice none 0 0, .slice none 0 0] 26)).alloc (below_alloc w (.cells #[.slice none 0 0, .slice none 0 0] 26)).size (.cells #[.slice none 0 0, .slice none 0 0] 26)
  have L2 := Lib.hid ((Lies.new w 26 #[.slice none 0 0, .slice none 0 0]).alloc (.cells #[.slice none 0 0, .slice none 0 0] 26))
  have L3 := Lib.hid (Lies.laid2 w (.cells #[.slice none 0 0, .slice none 0 0] 26) 26 #[.slice none 0 0, .slice none 0 0])
  have HZ := Lib.hid (hz.low (B0.mono hlo))
  have HB := Lib.hid B0
  clear hz B0
  go_enter Try.func20, Try.ntmps20
  go_wp2_with fail
  refine (drawUnionOf_any lo n0 c0 A0 zs _ HZ.out (Nat.le_trans hlo HB.out.size) hn0).mono ?_
  rintro e W1 ⟨A, A', B, B', n, c, n', c', m, d, m', d', xs, ys, us, vs, rfl, XI, YI, b1⟩
  simp only [World.size_alloc] at XI YI
  have X := Lib.hid XI
  have Y := Lib.hid YI
  have BB := Lib.hid (HB.out.trans (b1.mono HB.out.size))
  replace L2 := Lib.hid (L2.out.kept b1 L2.out.inside)
  replace L3 := Lib.hid (L3.out.kept b1 L3.out.inside)
  clear XI YI b1 HB HZ
  have r0 : W1.cell? ⟨w.heap.size, 0, none⟩ = some (.slice none 0 0) := L2.out.cell 0
  have r1 : W1.cell? ⟨w.heap.size, 1, none⟩ = some (.slice none 0 0) := L2.out.cell 1
  have r2 : W1.cell? ⟨w.heap.size + 1, 0, none⟩ = some (.slice none 0 0) := L3.out.cell 0
  have r3 : W1.cell? ⟨w.heap.size + 1, 1, none⟩ = some (.slice none 0 0) := L3.out.cell 1
  have f0 : W1.frozen? ⟨w.heap.size, 0, none⟩ = false := L2.out.thawed 0
  have f1 : W1.frozen? ⟨w.heap.size, 1, none⟩ = false := L2.out.thawed 1
  have f2 : W1.frozen? ⟨w.heap.size + 1, 0, none⟩ = false := L3.out.thawed 0
  have f3 : W1.frozen? ⟨w.heap.size + 1, 1, none⟩ = false := L3.out.thawed 1
  go_wp2
  refine bodyPost_ret (v := .tuple #[.agg #[.slice A n c, .slice A' n' c'], .agg #[.slice B m d, .slice B' m' d']]) (by simp [results, Try.results20, go_sem, r0, r1, r2, r3]) rfl ⟨A, A', B, B', n, c, n', c', m, d, m', d', xs, ys, us, vs, rfl, ?_, ?_, ?_⟩
  · exact ((((X.out.put (a := ⟨w.heap.size, 0, none⟩) (by show w.heap.size < _; omega)).put (a := ⟨w.heap.size, 1, none⟩) (by show w.heap.size < _; omega)).put (a := ⟨w.heap.size + 1, 0, none⟩) (by show w.heap.size + 1 < _; omega)).put (a := ⟨w.heap.size + 1, 1, none⟩) (by show w.heap.size + 1 < _; omega)).lower (l' := w.heap.size) (by omega)
  · exact ((((Y.out.put (a := ⟨w.heap.size, 0, none⟩) (by show w.heap.size < _; omega)).put (a := ⟨w.heap.size, 1, none⟩) (by show w.heap.size < _; omega)).put (a := ⟨w.heap.size + 1, 0, none⟩) (by show w.heap.size + 1 < _; omega)).put (a := ⟨w.heap.size + 1, 1, none⟩) (by show w.heap.size + 1 < _; omega)).lower (l' := w.heap.size) (by omega)
  · exact (((BB.out.setCell (show w.heap.size ≤ (⟨w.heap.size, 0, none⟩ : Addr).block from Nat.le_refl _) _).setCell (show w.heap.size ≤ (⟨w.heap.size, 1, none⟩ : Addr).block from Nat.le_refl _) _).setCell (show w.heap.size ≤ (⟨w.heap.size + 1, 0, none⟩ : Addr).block from by show w.heap.size ≤ w.heap.size + 1; omega) _).setCell (show w.heap.size ≤ (⟨w.heap.size + 1, 1, none⟩ : Addr).block from by show w.heap.size ≤ w.heap.size + 1; omega) _

/-- A box that was drawn. -/
def Drawn1 (w w' : World) (e : Ending) : Prop :=
  ∃ (A A' : Option Addr) (n c n' c' : Nat) (xs ys : List Int), e = .returned (.agg #[.slice A n c, .slice A' n' c']) ∧ BoxI w' w.heap.size A A' n n' xs ys ∧ Below w.heap.size w w'


set_option maxRecDepth 100000 in
set_option maxHeartbeats 6400000 in
theorem drawCovers_any (lo n0 c0 : Nat) (A0 : Option Addr) (zs : List Int) (w : World) (hz : Bys w lo A0 n0 zs) (hlo : lo ≤ w.heap.size) (hn0 : n0 ≤ 1048576) :
    Calls Try.prog 12 #[.slice A0 n0 c0] w fun e w' => Drawn2 w w' e := by
  have B0 := (below_alloc w (.cells #[.slice none 0 0, .slice none 0 0] 26)).alloc (below_alloc w (.cells #[.slice none 0 0, .slice none 0 0] 26)).size (.cells #[.slice none 0 0, .slice none 0 0] 26)
  have L2 := Lib.hid ((Lies.new w 26 #[.slice none 0 0, .slice none 0 0]).alloc (.cells #[.slice none 0 0, .slice none 0 0] 26))
  have L3 := Lib.hid (Lies.laid2 w (.cells #[.slice none 0 0, .slice none 0 0] 26) 26 #[.slice none 0 0, .slice none 0 0])
  have HZ := Lib.hid (hz.low (B0.mono hlo))
  have HB := Lib.hid B0
  clear hz B0
  go_enter Try.func12, Try.ntmps12
  go_wp2_with fail
  refine (drawUnionOf_any lo n0 c0 A0 zs _ HZ.out (Nat.le_trans hlo HB.out.size) hn0).mono ?_
  rintro e W1 ⟨A, A', B, B', n, c, n', c', m, d, m', d', xs, ys, us, vs, rfl, XI, YI, b1⟩
  simp only [World.size_alloc] at XI YI
  have hsz := b1.size
  simp only [World.size_alloc] at hsz
  have BA := (below_alloc W1 (.cells #[.slice A n c, .slice A' n' c'] 26)).alloc (below_alloc W1 (.cells #[.slice A n c, .slice A' n' c'] 26)).size (.cells #[.slice B m d, .slice B' m' d'] 26)
  have X := Lib.hid (XI.kept BA)
  have Y := Lib.hid (YI.kept BA)
  replace HZ := Lib.hid ((HZ.out.low (b1.mono (by simp only [World.size_alloc]; omega))).low (BA.mono (by omega)))
  have BB := Lib.hid ((HB.out.trans (b1.mono HB.out.size)).trans (BA.mono (by omega)))
  replace L2 := Lib.hid ((L2.out.kept b1 L2.out.inside).kept BA (L2.out.kept b1 L2.out.inside).inside)
  replace L3 := Lib.hid ((L3.out.kept b1 L3.out.inside).kept BA (L3.out.kept b1 L3.out.inside).inside)
  have La := Lib.hid ((Lies.new W1 26 #[.slice A n c, .slice A' n' c']).alloc (.cells #[.slice B m d, .slice B' m' d'] 26))
  have Lb := Lib.hid (Lies.laid2 W1 (.cells #[.slice A n c, .slice A' n' c'] 26) 26 #[.slice B m d, .slice B' m' d'])
  clear XI YI b1 HB BA
  go_upto_region 2 with fail
  have h2s : (((W1.alloc (.cells #[.slice A n c, .slice A' n' c'] 26)).alloc (.cells #[.slice B m d, .slice B' m' d'] 26))).heap.size = W1.heap.size + 1 + 1 := by simp only [World.size_alloc]
  generalize hW : (W1.alloc (.cells #[.slice A n c, .slice A' n' c'] 26)).alloc (.cells #[.slice B m d, .slice B' m' d'] 26) = W2 at *
  clear hW
  have h2s' : W1.heap.size + 1 < W2.heap.size := by omega
  clear h2s
  go_wp2_with fail
  refine (l1Later_any lo n0 c0 A0 zs 2 W2 HZ.out (by omega) hn0 (by decide)).mono ?_
  rintro e W3 ⟨rfl, s3, b3⟩
  have hs3 := b3.size
  have S3 := Lib.hid s3
  have B3 := Lib.hid b3
  clear s3 b3
  go_wp2_with fail
  refine (l1Chance_any lo _ 2 _ _ S3.out (by decide) (by decide) (by decide)).mono ?_
  rintro e W4 ⟨v, rfl, d4⟩
  have T4 := (Turned.of_below (G := fun x => x = W2.heap.size) B3.out).trans d4.T
  replace BB := Lib.hid (BB.out.trans (T4.1 w.heap.size (fun k hk => by omega) (by omega)))
  replace L2 := Lib.hid (T4.lies L2.out (by omega))
  replace L3 := Lib.hid (T4.lies L3.out (by omega))
  replace La := Lib.hid (T4.lies La.out (by omega))
  replace Lb := Lib.hid (T4.lies Lb.out (by omega))
  replace X := Lib.hid (X.out.turned T4 (by intro x hx; omega))
  replace Y := Lib.hid (Y.out.turned T4 (by intro x hx; omega))
  clear T4 d4 S3 B3 HZ
  have a0 : W4.cell? ⟨W1.heap.size, 0, none⟩ = some (.slice A n c) := La.out.cell 0
  have a1 : W4.cell? ⟨W1.heap.size, 1, none⟩ = some (.slice A' n' c') := La.out.cell 1
  have b0 : W4.cell? ⟨W1.heap.size + 1, 0, none⟩ = some (.slice B m d) := Lb.out.cell 0
  have b1 : W4.cell? ⟨W1.heap.size + 1, 1, none⟩ = some (.slice B' m' d') := Lb.out.cell 1
  have r0 : W4.cell? ⟨w.heap.size, 0, none⟩ = some (.slice none 0 0) := L2.out.cell 0
  have r1 : W4.cell? ⟨w.heap.size, 1, none⟩ = some (.slice none 0 0) := L2.out.cell 1
  have r2 : W4.cell? ⟨w.heap.size + 1, 0, none⟩ = some (.slice none 0 0) := L3.out.cell 0
  have r3 : W4.cell? ⟨w.heap.size + 1, 1, none⟩ = some (.slice none 0 0) := L3.out.cell 1
  have f0 : W4.frozen? ⟨w.heap.size, 0, none⟩ = false := L2.out.thawed 0
  have f1 : W4.frozen? ⟨w.heap.size, 1, none⟩ = false := L2.out.thawed 1
  have f2 : W4.frozen? ⟨w.heap.size + 1, 0, none⟩ = false := L3.out.thawed 0
  have f3 : W4.frozen? ⟨w.heap.size + 1, 1, none⟩ = false := L3.out.thawed 1
  have m1 : ¬ W1.heap.size = w.heap.size := by omega
  have m2 : ¬ W1.heap.size = w.heap.size + 1 := by omega
  have m3 : ¬ W1.heap.size + 1 = w.heap.size := by omega
  have m4 : ¬ W1.heap.size + 1 = w.heap.size + 1 := by omega
  have m5 : ¬ w.heap.size = W1.heap.size := by omega
  have m6 : ¬ w.heap.size + 1 = W1.heap.size := by omega
  have m7 : ¬ w.heap.size = W1.heap.size + 1 := by omega
  have m8 : ¬ w.heap.size + 1 = W1.heap.size + 1 := by omega
  have m9 : ¬ W1.heap.size = W1.heap.size + 1 := by omega
  clear L2 L3 La Lb
  cases v with
  | true =>
    go_upto_region 3 with fail
    go_region_held3 (fun w' => w'.cell? ⟨W1.heap.size, 0, none⟩ = some (.slice A n c) ∧ w'.cell? ⟨W1.heap.size, 1, none⟩ = some (.slice A' n' c') ∧ w'.cell? ⟨W1.heap.size + 1, 0, none⟩ = some (.slice B m d) ∧ w'.cell? ⟨W1.heap.size + 1, 1, none⟩ = some (.slice B' m' d')) (go_keep) (fail)
    go_wp2
    refine bodyPost_ret (v := .tuple #[.agg #[.slice B m d, .slice B' m' d'], .agg #[.slice A n c, .slice A' n' c']]) (by simp [results, Try.results12, go_sem, r0, r1, r2, r3]) rfl ⟨B, B', A, A', m, d, m', d', n, c, n', c', us, vs, xs, ys, rfl, ?_, ?_, ?_⟩
    · exact (((((Y.out.put (a := ⟨w.heap.size, 0, none⟩) (by show w.heap.size < _; omega)).put (a := ⟨w.heap.size, 1, none⟩) (by show w.heap.size < _; omega)).put (a := ⟨w.heap.size + 1, 0, none⟩) (by show w.heap.size + 1 < _; omega)).put (a := ⟨w.heap.size + 1, 1, none⟩) (by show w.heap.size + 1 < _; omega)).lower (l' := w.heap.size) (by omega)).drew
    · exact (((((X.out.put (a := ⟨w.heap.size, 0, none⟩) (by show w.heap.size < _; omega)).put (a := ⟨w.heap.size, 1, none⟩) (by show w.heap.size < _; omega)).put (a := ⟨w.heap.size + 1, 0, none⟩) (by show w.heap.size + 1 < _; omega)).put (a := ⟨w.heap.size + 1, 1, none⟩) (by show w.heap.size + 1 < _; omega)).lower (l' := w.heap.size) (by omega)).drew
    · exact ((((BB.out.setCell (show w.heap.size ≤ (⟨w.heap.size, 0, none⟩ : Addr).block from Nat.le_refl _) _).setCell (show w.heap.size ≤ (⟨w.heap.size, 1, none⟩ : Addr).block from Nat.le_refl _) _).setCell (show w.heap.size ≤ (⟨w.heap.size + 1, 0, none⟩ : Addr).block from by show w.heap.size ≤ w.heap.size + 1; omega) _).setCell (show w.heap.size ≤ (⟨w.heap.size + 1, 1, none⟩ : Addr).block from by show w.heap.size ≤ w.heap.size + 1; omega) _).drew
  | false =>
    go_upto_region 4 with fail
    go_region_held3 (fun w' => w'.cell? ⟨W1.heap.size, 0, none⟩ = some (.slice A n c) ∧ w'.cell? ⟨W1.heap.size, 1, none⟩ = some (.slice A' n' c') ∧ w'.cell? ⟨W1.heap.size + 1, 0, none⟩ = some (.slice B m d) ∧ w'.cell? ⟨W1.heap.size + 1, 1, none⟩ = some (.slice B' m' d')) (go_keep) (fail)
    go_wp2
    refine bodyPost_ret (v := .tuple #[.agg #[.slice A n c, .slice A' n' c'], .agg #[.slice B m d, .slice B' m' d']]) (by simp [results, Try.results12, go_sem, r0, r1, r2, r3]) rfl ⟨A, A', B, B', n, c, n', c', m, d, m', d', xs, ys, us, vs, rfl, ?_, ?_, ?_⟩
    · exact (((((X.out.put (a := ⟨w.heap.size, 0, none⟩) (by show w.heap.size < _; omega)).put (a := ⟨w.heap.size, 1, none⟩) (by show w.heap.size < _; omega)).put (a := ⟨w.heap.size + 1, 0, none⟩) (by show w.heap.size + 1 < _; omega)).put (a := ⟨w.heap.size + 1, 1, none⟩) (by show w.heap.size + 1 < _; omega)).lower (l' := w.heap.size) (by omega)).drew
    · exact (((((Y.out.put (a := ⟨w.heap.size, 0, none⟩) (by show w.heap.size < _; omega)).put (a := ⟨w.heap.size, 1, none⟩) (by show w.heap.size < _; omega)).put (a := ⟨w.heap.size + 1, 0, none⟩) (by show w.heap.size + 1 < _; omega)).put (a := ⟨w.heap.size + 1, 1, none⟩) (by show w.heap.size + 1 < _; omega)).lower (l' := w.heap.size) (by omega)).drew
    · exact ((((BB.out.setCell (show w.heap.size ≤ (⟨w.heap.size, 0, none⟩ : Addr).block from Nat.le_refl _) _).setCell (show w.heap.size ≤ (⟨w.heap.size, 1, none⟩ : Addr).block from Nat.le_refl _) _).setCell (show w.heap.size ≤ (⟨w.heap.size + 1, 0, none⟩ : Addr).block from by show w.heap.size ≤ w.heap.size + 1; omega) _).setCell (show w.heap.size ≤ (⟨w.heap.size + 1, 1, none⟩ : Addr).block from by show w.heap.size ≤ w.heap.size + 1; omega) _).drew

/-- A box and a point that were drawn. -/
def DrawnD (w w' : World) (e : Ending) : Prop :=
  ∃ (A A' P : Option Addr) (n c n' c' m d : Nat) (xs ys ps : List Int), e = .returned (.tuple #[.agg #[.slice A n c, .slice A' n' c'], .slice P m d]) ∧ BoxI w' w.heap.size A A' n n' xs ys ∧ Ints w' w.heap.size P m ps ∧ (1 ≤ m ∧ m ≤ 4) ∧ Below w.heap.size w w'


end Go.Proofs.Ytfpmbkfikfdmkaa
