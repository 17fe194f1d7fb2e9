/- The walks of spec.l3Box and spec.BoxOf. -/
import Derived.Test.YtblhcnafoejahaaSpecNodeFault
import Derived.Test.YtblhcnafoejahaaBoxMath
import Derived.Test.YtblhcnafoejahaaUnion
import Derived.Test.YtblhcnafoejahaaCopy2
namespace Go.Proofs.Ytblhcnafoejahaa
open Go.RowKit

theorem Ints.form {w : World} {lo n : Nat} {A : Option Addr} {xs : List Int} (h : Ints w lo A n xs) (hn : 0 < n) : ∃ b o, A = some ⟨b, o, none⟩ ∧ lo ≤ b ∧ b < w.heap.size := by
  obtain ⟨b, o, e, h1, h2, _⟩ := h.2 hn
  exact ⟨b, o, e, h1, h2⟩
theorem Ints.farC {w : World} {lo n b o : Nat} {xs : List Int} (h : Ints w lo (some ⟨b, o, none⟩) n xs) {a : Addr} (ha : ¬ a.block = b) (v : Value) : Ints (w.setCell a v) lo (some ⟨b, o, none⟩) n xs := by
  obtain ⟨hl, hr⟩ := h
  refine ⟨hl, fun hn => ?_⟩
  obtain ⟨b', o', e, h1, h2, h3⟩ := hr hn
  injection e with e
  injection e with e1 e2
  subst e1 e2
  refine ⟨b, o, rfl, h1, by rw [size_of_setCell]; exact h2, fun k x hx => ?_⟩
  rw [World.cell?_of_block (w := w) (a := ⟨b, o + k, none⟩) (heap_setCell_other w a b v (fun e => ha e.symm))]
  exact h3 k x hx

/-- Where the loop stands: the answer's box, the box so far and its two rows. -/
structure Boxed (w wr : World) (ob dd : Nat) (b1 o1 c1 b2 o2 c2 : Nat) (xs ys : List Int) : Prop where
  b : Below w.heap.size w wr
  r : Lies wr w.heap.size 35 #[.slice none 0 0, .slice none 0 0]
  o : Lies wr ob 35 #[.slice (some ⟨b1, o1, none⟩) dd c1, .slice (some ⟨b2, o2, none⟩) dd c2]
  x : Ints wr 0 (some ⟨b1, o1, none⟩) dd xs
  y : Ints wr 0 (some ⟨b2, o2, none⟩) dd ys
  n1 : b1 ≠ ob ∧ w.heap.size < b1 ∧ b1 < wr.heap.size
  n2 : b2 ≠ ob ∧ w.heap.size < b2 ∧ b2 < wr.heap.size
  no : w.heap.size < ob

set_option maxRecDepth 100000 in
set_option maxHeartbeats 3200000 in
theorem l3Box_any (n c dd : Nat) (A : Option Addr) (ps : List EV) (w : World) (hp : Entries w A n ps) (hn : n ≤ maxLen) (h0 : 0 < n) (hd : 0 < dd) (hd3 : dd ≤ 3) (hl : LensE dd (ps.map EV.val)) :
    Calls Try.prog 40 #[.slice A n c] w fun e w' => ∃ b1 o1 c1 b2 o2 c2, e = .returned (.agg #[.slice (some ⟨b1, o1, none⟩) dd c1, .slice (some ⟨b2, o2, none⟩) dd c2]) ∧ Ints w' 0 (some ⟨b1, o1, none⟩) dd (lowB (ps.map EV.val)) ∧ Ints w' 0 (some ⟨b2, o2, none⟩) dd (highB (ps.map EV.val)) ∧ (w.heap.size < b1 ∧ b1 < w'.heap.size) ∧ (w.heap.size < b2 ∧ b2 < w'.heap.size) ∧ Below w.heap.size w w' := by
  have HP := Lib.hid hp
  have HE := Lib.hid hl
  have HL : Hid ((ps.map EV.val).length = n) := by show List.length _ = n; rw [List.length_map]; exact hp.1
  clear hp hl
  unfold maxLen at hn
  obtain ⟨b, o, A1, n1, c1, A2, n2, c2, ref, nsn, x1, x2, rfl, hb, d0, d1, d2, d3, hx, i1, i2, m1, m2⟩ := HP.out.cellAt h0
  have HX := Lib.hid (eval_get hx.out)
  clear hx d2 d3
  have l1 : dd = n1 := (i1.out.1.symm.trans (HE.out 0 _ HX.out).1).symm
  have l2 : dd = n2 := (i2.out.1.symm.trans (HE.out 0 _ HX.out).2).symm
  subst l1
  subst l2
  have B := Lib.hid (below_alloc w (.cells #[.slice none 0 0, .slice none 0 0] 35))
  have L_r := Lib.hid (Lies.new w 35 #[.slice none 0 0, .slice none 0 0])
  have e0 : Hid ((w.alloc (.cells #[.slice none 0 0, .slice none 0 0] 35)).cell? ⟨b, o, none⟩ = some (.slice A1 dd c1)) := (B.out.cell (p := ⟨b, o, none⟩) hb).trans (by simpa using d0)
  have e1 : Hid ((w.alloc (.cells #[.slice none 0 0, .slice none 0 0] 35)).cell? ⟨b, o + 1, none⟩ = some (.slice A2 dd c2)) := (B.out.cell (p := ⟨b, o + 1, none⟩) hb).trans (by simpa using d1)
  have hb1 : b < (w.alloc (.cells #[.slice none 0 0, .slice none 0 0] 35)).heap.size := Nat.lt_of_lt_of_le hb B.out.size
  clear d0 d1
  go_enter Try.func40, Try.ntmps40
  go_wp2_with fail
  refine (l1Copy_any b o dd c1 c2 _ _ A1 A2 x1 x2 _ hb1 e0.out e1.out (i1.out.kept B.out) (i2.out.kept B.out) hd hd3).mono ?_
  rintro e W1 ⟨g, cap, g', cap', rfl, j1, j2, b1⟩
  simp only [World.size_alloc] at j1 j2
  obtain ⟨gb, go, ge, gl, gs⟩ := j1.form hd
  obtain ⟨gb', go', ge', gl', gs'⟩ := j2.form hd
  injection ge with ge
  injection ge with ge1 ge2
  injection ge' with ge'
  injection ge' with ge1' ge2'
  subst ge1 ge2 ge1' ge2'
  replace L_r := Lib.hid (L_r.out.kept b1 L_r.out.inside)
  replace B := Lib.hid (B.out.trans (b1.mono B.out.size))
  have hin := L_r.out.inside
  have BX : Hid (Boxed w (W1.alloc (.cells #[.slice (some ⟨g, 0, none⟩) dd cap, .slice (some ⟨g', 0, none⟩) dd cap'] 35)) W1.heap.size dd g 0 cap g' 0 cap' (lowB ((ps.map EV.val).take 1)) (highB ((ps.map EV.val).take 1))) := by
    refine ⟨B.out.alloc B.out.size _, L_r.out.alloc _, Lies.new _ _ _, ?_, ?_, ⟨by omega, by omega, by simp only [World.size_alloc]; omega⟩, ⟨by omega, by omega, by simp only [World.size_alloc]; omega⟩, by omega⟩
    · rw [lowB_one HX.out]; exact ((j1.kept (below_alloc _ _)).lower (Nat.zero_le _))
    · rw [highB_one HX.out]; exact ((j2.kept (below_alloc _ _)).lower (Nat.zero_le _))
  clear j1 j2 b1 gl gs gl' gs' L_r hin e0 e1 i1 i2 HX hb1
  go_wp2
  go_loopw [4] (fun i wr => ∃ (k b1 o1 c1 b2 o2 c2 : Nat), 1 ≤ k ∧ k ≤ n ∧ i = .int .i64 k ∧ Hid (Boxed w wr W1.heap.size dd b1 o1 c1 b2 o2 c2 (lowB ((ps.map EV.val).take k)) (highB ((ps.map EV.val).take k)))) (fun i _ => n - (intOf i).toNat)
  case atStart => exact ⟨1, g, 0, cap, g', 0, cap', Nat.le_refl _, by omega, rfl, BX⟩
  case round =>
    obtain ⟨k, b1, o1, k1, b2, o2, k2, hk1, hk', rfl, hU⟩ := hrel
    clear BX B
    by_cases hlt : k < n
    · obtain ⟨bb, oo, A1, n1, c1, A2, n2, c2, ref, nsn, x1, x2, hA, hb', d0, d1, d2, d3, hx, i1, i2, m1, m2⟩ := HP.out.cellAt hlt
      injection hA with hA
      injection hA with hA1 hA2
      subst hA1 hA2
      have HX := Lib.hid (eval_get hx.out)
      clear hx d2 d3
      have l1 : dd = n1 := (i1.out.1.symm.trans (HE.out k _ HX.out).1).symm
      have l2 : dd = n2 := (i2.out.1.symm.trans (HE.out k _ HX.out).2).symm
      subst l1
      subst l2
      have kb := Nat.lt_of_lt_of_le hb' hU.out.b.size
      have hin := hU.out.o.inside
      have TW : Hid (TwoAt W1.heap.size 0 b (o + k * 4) (.slice (some ⟨b1, o1, none⟩) dd k1) (.slice (some ⟨b2, o2, none⟩) dd k2) (.slice A1 dd c1) (.slice A2 dd c2) wr) := ⟨hU.out.o.cell 0, hU.out.o.cell 1, (hU.out.b.cell (p := ⟨b, o + k * 4, none⟩) hb').trans d0, (hU.out.b.cell (p := ⟨b, o + k * 4 + 1, none⟩) hb').trans d1⟩
      clear d0 d1
      go_wp2_with fail
      refine (l1UnionAt_any W1.heap.size b (o + k * 4) dd k1 k2 c1 c2 _ _ _ _ _ _ A1 A2 (lowB ((ps.map EV.val).take k)) (highB ((ps.map EV.val).take k)) x1 x2 _ hin kb TW.out hU.out.x hU.out.y (i1.out.kept hU.out.b) (i2.out.kept hU.out.b) hd3).mono ?_
      rintro e W2 ⟨R, rc, R', rc', rfl, j1, j2, b2'⟩
      obtain ⟨rb, ro, rfl, rl, rs⟩ := j1.form hd
      obtain ⟨rb', ro', rfl, rl', rs'⟩ := j2.form hd
      have lr2 := Lib.hid (hU.out.r.kept b2' hU.out.r.inside)
      have lo2 := Lib.hid (hU.out.o.kept b2' hU.out.o.inside)
      have lb2 := Lib.hid (hU.out.b.trans (b2'.mono hU.out.b.size))
      have hno := hU.out.no
      have hU' : Hid (Boxed w ((W2.setCell ⟨W1.heap.size, 0, none⟩ (.slice (some ⟨rb, ro, none⟩) dd rc)).setCell ⟨W1.heap.size, 1, none⟩ (.slice (some ⟨rb', ro', none⟩) dd rc')) W1.heap.size dd rb ro rc rb' ro' rc' (lowB ((ps.map EV.val).take (k + 1))) (highB ((ps.map EV.val).take (k + 1)))) := by
        refine ⟨(lb2.out.setCell (p := ⟨W1.heap.size, 0, none⟩) (by show w.heap.size ≤ W1.heap.size; omega) _).setCell (p := ⟨W1.heap.size, 1, none⟩) (by show w.heap.size ≤ W1.heap.size; omega) _, (lr2.out.far (by show w.heap.size ≠ W1.heap.size; omega) _).far (by show w.heap.size ≠ W1.heap.size; omega) _, (lo2.out.set 0 _).set 1 _, ?_, ?_, ⟨by omega, by have := hU.out.b.size; omega, by simp only [size_of_setCell]; exact rs⟩, ⟨by omega, by have := hU.out.b.size; omega, by simp only [size_of_setCell]; exact rs'⟩, hno⟩
        · rw [lowB_next hk1 HX.out]; exact (((j1.lower (Nat.zero_le _)).farC (by show ¬ W1.heap.size = rb; omega) _).farC (by show ¬ W1.heap.size = rb; omega) _)
        · rw [highB_next hk1 HX.out]; exact (((j2.lower (Nat.zero_le _)).farC (by show ¬ W1.heap.size = rb'; omega) _).farC (by show ¬ W1.heap.size = rb'; omega) _)
      have s0 : W2.cell? ⟨W1.heap.size, 0, none⟩ = some (.slice (some ⟨b1, o1, none⟩) dd k1) := lo2.out.cell 0
      have s1 : W2.cell? ⟨W1.heap.size, 1, none⟩ = some (.slice (some ⟨b2, o2, none⟩) dd k2) := lo2.out.cell 1
      have f0 : W2.frozen? ⟨W1.heap.size, 0, none⟩ = false := lo2.out.thawed 0
      have f1 : W2.frozen? ⟨W1.heap.size, 1, none⟩ = false := lo2.out.thawed 1
      clear hU j1 j2 b2' lr2 lo2 lb2 i1 i2 HX TW rl rs rl' rs' hno hin kb
      go_wp2
      go_roundw
      case rel => exact ⟨k + 1, _, _, _, _, _, _, by omega, by omega, by go_num, hU'⟩
      case measure => simp [intOf]; omega
    · have hkn : k = n := by omega
      have hno := hU.out.no
      have JX : Hid (Ints wr 0 (some ⟨b1, o1, none⟩) dd (lowB (ps.map EV.val))) := by
        have h1 := hU.out.x
        rwa [List.take_of_length_le (by rw [HL.out]; omega)] at h1
      have JY : Hid (Ints wr 0 (some ⟨b2, o2, none⟩) dd (highB (ps.map EV.val))) := by
        have h1 := hU.out.y
        rwa [List.take_of_length_le (by rw [HL.out]; omega)] at h1
      have s0 : wr.cell? ⟨W1.heap.size, 0, none⟩ = some (.slice (some ⟨b1, o1, none⟩) dd k1) := hU.out.o.cell 0
      have s1 : wr.cell? ⟨W1.heap.size, 1, none⟩ = some (.slice (some ⟨b2, o2, none⟩) dd k2) := hU.out.o.cell 1
      have z0 : wr.cell? ⟨w.heap.size, 0, none⟩ = some (.slice none 0 0) := hU.out.r.cell 0
      have z1 : wr.cell? ⟨w.heap.size, 1, none⟩ = some (.slice none 0 0) := hU.out.r.cell 1
      have f0 : wr.frozen? ⟨w.heap.size, 0, none⟩ = false := hU.out.r.thawed 0
      have f1 : wr.frozen? ⟨w.heap.size, 1, none⟩ = false := hU.out.r.thawed 1
      have hn1 := hU.out.n1
      have hn2 := hU.out.n2
      clear hkn
      go_wp2
      refine bodyPost_ret (v := .agg #[.slice (some ⟨b1, o1, none⟩) dd k1, .slice (some ⟨b2, o2, none⟩) dd k2]) (by simp [results, Try.results40, go_sem, z0, z1]) rfl ⟨b1, o1, k1, b2, o2, k2, rfl, ?_, ?_, ⟨hn1.2.1, by simp only [size_of_setCell]; exact hn1.2.2⟩, ⟨hn2.2.1, by simp only [size_of_setCell]; exact hn2.2.2⟩, ?_⟩
      · exact (JX.out.farC (by show ¬ w.heap.size = b1; omega) _).farC (by show ¬ w.heap.size = b1; omega) _
      · exact (JY.out.farC (by show ¬ w.heap.size = b2; omega) _).farC (by show ¬ w.heap.size = b2; omega) _
      · exact (hU.out.b.setCell (Nat.le_refl _) _).setCell (Nat.le_refl _) _

set_option maxRecDepth 100000 in
set_option maxHeartbeats 3200000 in
theorem specBoxOf_any (lv ns rt d : Int) (n c : Nat) (A : Option Addr) (ps : List EV) (w : World) (hp : Entries w A n ps) (hn : n ≤ maxLen) :
    Calls Try.prog 13 #[.agg #[.int .i64 lv, .int .i64 ns, .int .i64 rt, .slice A n c], .int .i64 d] w fun e w' => (boxC (nodeF lv ns rt (ps.map EV.val) d) n ≠ 0 → e = .returned (.agg #[.int .i64 (boxC (nodeF lv ns rt (ps.map EV.val) d) n), .slice none 0 0, .slice none 0 0])) ∧
      (boxC (nodeF lv ns rt (ps.map EV.val) d) n = 0 → ∃ b1 o1 c1 b2 o2 c2, e = .returned (.agg #[.int .i64 0, .slice (some ⟨b1, o1, none⟩) d.toNat c1, .slice (some ⟨b2, o2, none⟩) d.toNat c2]) ∧ Ints w' 0 (some ⟨b1, o1, none⟩) d.toNat (lowB (ps.map EV.val)) ∧ Ints w' 0 (some ⟨b2, o2, none⟩) d.toNat (highB (ps.map EV.val)) ∧ (w.heap.size ≤ b1 ∧ b1 < w'.heap.size) ∧ (w.heap.size ≤ b2 ∧ b2 < w'.heap.size)) ∧ Below w.heap.size w w' := by
  have HP := Lib.hid hp
  clear hp
  have B := Lib.hid (below_alloc w (.cells #[.int .i64 lv, .int .i64 ns, .int .i64 rt, .slice A n c] 29))
  replace B := Lib.hid (B.out.alloc B.out.size (.cells #[.int .i64 0, .slice none 0 0, .slice none 0 0] 37))
  have L_n := Lib.hid ((Lies.new w 29 #[.int .i64 lv, .int .i64 ns, .int .i64 rt, .slice A n c]).alloc (.cells #[.int .i64 0, .slice none 0 0, .slice none 0 0] 37))
  have L_r := Lib.hid (Lies.new (w.alloc (.cells #[.int .i64 lv, .int .i64 ns, .int .i64 rt, .slice A n c] 29)) 37 #[.int .i64 0, .slice none 0 0, .slice none 0 0])
  simp only [World.size_alloc] at L_r
  have hn0 := hn
  unfold maxLen at hn
  by_cases hz : nodeF lv ns rt (ps.map EV.val) d = 0
  rotate_left
  · have hz1 : (nodeF lv ns rt (ps.map EV.val) d != 0) = true := by simpa using hz
    have HC : Hid (boxC (nodeF lv ns rt (ps.map EV.val) d) n = nodeF lv ns rt (ps.map EV.val) d) := by show boxC _ _ = _; unfold boxC; rw [if_pos hz]
    have HZ := Lib.hid hz
    clear hz
    go_enter Try.func13, Try.ntmps13
    go_wp2_with fail
    refine (specNodeFault_any _ _ _ _ _ _ _ ps _ (HP.out.kept B.out) hn0).mono ?_
    rintro e W1 ⟨rfl, b1⟩
    replace L_n := Lib.hid (L_n.out.kept b1 L_n.out.inside)
    replace L_r := Lib.hid (L_r.out.kept b1 L_r.out.inside)
    replace B := Lib.hid (B.out.trans (b1.mono B.out.size))
    clear b1
    have z0 : W1.cell? ⟨w.heap.size + 1, 0, none⟩ = some (.int .i64 0) := L_r.out.cell 0
    have y0 : W1.frozen? ⟨w.heap.size + 1, 0, none⟩ = false := L_r.out.thawed 0
    have z1 : W1.cell? ⟨w.heap.size + 1, 1, none⟩ = some (.slice none 0 0) := L_r.out.cell 1
    have y1 : W1.frozen? ⟨w.heap.size + 1, 1, none⟩ = false := L_r.out.thawed 1
    have z2 : W1.cell? ⟨w.heap.size + 1, 2, none⟩ = some (.slice none 0 0) := L_r.out.cell 2
    have y2 : W1.frozen? ⟨w.heap.size + 1, 2, none⟩ = false := L_r.out.thawed 2
    go_wp2
    refine bodyPost_ret (v := .agg #[.int .i64 (nodeF lv ns rt (ps.map EV.val) d), .slice none 0 0, .slice none 0 0]) (by simp [results, Try.results13, go_sem, z0, z1, z2]) rfl ⟨fun _ => by rw [HC.out], fun h => absurd (HC.out.symm.trans h) HZ.out, ?_⟩
    repeat (with_reducible refine Below.setCell ?_ (by exact Nat.le_succ _) _)
    exact B.out
  have hz1 : (nodeF lv ns rt (ps.map EV.val) d != 0) = false := by simp [hz]
  have HZ := Lib.hid hz
  obtain ⟨hok, hn5, hent, _, _⟩ := nodeF_zero hz
  have HE := Lib.hid (lens_of hent)
  have hd2 : 2 ≤ d := hok.1.1
  have hd3 : d ≤ 3 := hok.1.2
  clear hz hok hent hn5
  by_cases h0 : n = 0
  · have HC : Hid (boxC (nodeF lv ns rt (ps.map EV.val) d) n = 4) := by show boxC _ _ = _; unfold boxC; rw [if_neg (by simp [HZ.out]), if_pos h0]
    have h01 : ((n : Int) == 0) = true := by simp [h0]
    clear h0
    go_enter Try.func13, Try.ntmps13
    go_wp2_with fail
    refine (specNodeFault_any _ _ _ _ _ _ _ ps _ (HP.out.kept B.out) hn0).mono ?_
    rintro e W1 ⟨rfl, b1⟩
    replace L_n := Lib.hid (L_n.out.kept b1 L_n.out.inside)
    replace L_r := Lib.hid (L_r.out.kept b1 L_r.out.inside)
    replace B := Lib.hid (B.out.trans (b1.mono B.out.size))
    clear b1
    have q3 : W1.cell? ⟨w.heap.size, 3, none⟩ = some (.slice A n c) := L_n.out.cell 3
    have z0 : W1.cell? ⟨w.heap.size + 1, 0, none⟩ = some (.int .i64 0) := L_r.out.cell 0
    have y0 : W1.frozen? ⟨w.heap.size + 1, 0, none⟩ = false := L_r.out.thawed 0
    have z1 : W1.cell? ⟨w.heap.size + 1, 1, none⟩ = some (.slice none 0 0) := L_r.out.cell 1
    have y1 : W1.frozen? ⟨w.heap.size + 1, 1, none⟩ = false := L_r.out.thawed 1
    have z2 : W1.cell? ⟨w.heap.size + 1, 2, none⟩ = some (.slice none 0 0) := L_r.out.cell 2
    have y2 : W1.frozen? ⟨w.heap.size + 1, 2, none⟩ = false := L_r.out.thawed 2
    go_wp2
    refine bodyPost_ret (v := .agg #[.int .i64 4, .slice none 0 0, .slice none 0 0]) (by simp [results, Try.results13, go_sem, z0, z1, z2]) rfl ⟨fun _ => by rw [HC.out], fun h => by rw [HC.out] at h; omega, ?_⟩
    repeat (with_reducible refine Below.setCell ?_ (by exact Nat.le_succ _) _)
    exact B.out
  · have HC : Hid (boxC (nodeF lv ns rt (ps.map EV.val) d) n = 0) := by show boxC _ _ = _; unfold boxC; rw [if_neg (by simp [HZ.out]), if_neg h0]
    have h01 : ((n : Int) == 0) = false := by simp [h0]
    have hpos : 0 < n := by omega
    clear h0
    go_enter Try.func13, Try.ntmps13
    go_wp2_with fail
    refine (specNodeFault_any _ _ _ _ _ _ _ ps _ (HP.out.kept B.out) hn0).mono ?_
    rintro e W1 ⟨rfl, b1⟩
    replace L_n := Lib.hid (L_n.out.kept b1 L_n.out.inside)
    replace L_r := Lib.hid (L_r.out.kept b1 L_r.out.inside)
    replace B := Lib.hid (B.out.trans (b1.mono B.out.size))
    clear b1
    have q3 : W1.cell? ⟨w.heap.size, 3, none⟩ = some (.slice A n c) := L_n.out.cell 3
    go_wp2_with fail
    refine (l3Box_any n c d.toNat A ps _ (HP.out.kept B.out) hn0 hpos (by omega) (by omega) HE.out).mono ?_
    rintro e W2 ⟨b1, o1, c1, b2, o2, c2, rfl, j1, j2, k1, k2, bb⟩
    have bs := B.out.size
    have hr := L_r.out.inside
    replace L_r := Lib.hid (L_r.out.kept bb L_r.out.inside)
    replace B := Lib.hid (B.out.trans (bb.mono B.out.size))
    have J1 := Lib.hid j1
    have J2 := Lib.hid j2
    clear bb j1 j2 q3 L_n
    have z0 : W2.cell? ⟨w.heap.size + 1, 0, none⟩ = some (.int .i64 0) := L_r.out.cell 0
    have y0 : W2.frozen? ⟨w.heap.size + 1, 0, none⟩ = false := L_r.out.thawed 0
    have z1 : W2.cell? ⟨w.heap.size + 1, 1, none⟩ = some (.slice none 0 0) := L_r.out.cell 1
    have y1 : W2.frozen? ⟨w.heap.size + 1, 1, none⟩ = false := L_r.out.thawed 1
    have z2 : W2.cell? ⟨w.heap.size + 1, 2, none⟩ = some (.slice none 0 0) := L_r.out.cell 2
    have y2 : W2.frozen? ⟨w.heap.size + 1, 2, none⟩ = false := L_r.out.thawed 2
    go_wp2
    refine bodyPost_ret (v := .agg #[.int .i64 0, .slice (some ⟨b1, o1, none⟩) d.toNat c1, .slice (some ⟨b2, o2, none⟩) d.toNat c2]) (by simp [results, Try.results13, go_sem, z0, z1, z2]) rfl ⟨fun h => absurd HC.out h, fun _ => ⟨b1, o1, c1, b2, o2, c2, rfl, ?_, ?_, ⟨by omega, by simp only [size_of_setCell]; exact k1.2⟩, ⟨by omega, by simp only [size_of_setCell]; exact k2.2⟩⟩, ?_⟩
    · exact ((J1.out.farC (by show ¬ w.heap.size + 1 = b1; omega) _).farC (by show ¬ w.heap.size + 1 = b1; omega) _).farC (by show ¬ w.heap.size + 1 = b1; omega) _
    · exact ((J2.out.farC (by show ¬ w.heap.size + 1 = b2; omega) _).farC (by show ¬ w.heap.size + 1 = b2; omega) _).farC (by show ¬ w.heap.size + 1 = b2; omega) _
    · repeat (with_reducible refine Below.setCell ?_ (by exact Nat.le_succ _) _)
      exact B.out

end Go.Proofs.Ytblhcnafoejahaa
