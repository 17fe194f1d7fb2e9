/- The walks of impl.nodeBody's count and around, and of impl.BoxOf. -/
import Derived.Test.YtblhcnafoejahaaReadNode
import Derived.Test.YtblhcnafoejahaaBoxMath
namespace Go.Proofs.Ytblhcnafoejahaa
open Go.RowKit

theorem pad_maxs2 {xs us : List Int} {p0 p1 p2 r0 r1 r2 : Int} (hl : xs.length = us.length) (hp : Pad xs p0 p1 p2) (hq : Pad us r0 r1 r2) : Pad (maxs xs us) (max p0 r0) (max p1 r1) (max p2 r2) := by
  rcases hp with ⟨rfl, rfl⟩ | rfl <;> rcases hq with ⟨rfl, rfl⟩ | rfl <;> simp at hl <;> simp [Pad, maxs]

theorem bodyCount_any (d : Int) (n c : Nat) (A : Option Addr) (w : World) :
    Calls Try.prog 119 #[.agg #[.int .i64 d, .slice A n c]] w fun e w' => e = .returned (.int .i64 n) ∧ Below w.heap.size w w' := by
  go_enter Try.func119, Try.ntmps119
  go_wp2
  go_ret
  exact ⟨rfl, below_alloc _ _⟩

/-- Where the loop stands. -/
structure Around (w wr : World) (bd : Array Value) (t0 t1 t2 t3 t4 t5 : Int) : Prop where
  b : Below w.heap.size w wr
  r : Lies wr (w.heap.size + 1) 81 #[.int .i64 0, .int .i64 0, .int .i64 0, .int .i64 0, .int .i64 0, .int .i64 0]
  a : Lies wr (w.heap.size + 1 + 1) 81 #[.int .i64 t0, .int .i64 t1, .int .i64 t2, .int .i64 t3, .int .i64 t4, .int .i64 t5]

set_option maxRecDepth 100000 in
set_option maxHeartbeats 3200000 in
theorem around_any (d : Int) (n c dd : Nat) (A : Option Addr) (vs : List EVal) (ss : List SL) (w : World) (hp : Slots w A n ss) (ho : SlotsOf vs ss) (hn : n ≤ maxLen) (h0 : 0 < n) (hl : LensE dd vs) :
    Calls Try.prog 117 #[.agg #[.int .i64 d, .slice A n c]] w fun e w' => ∃ t0 t1 t2 t3 t4 t5, e = .returned (.agg #[.int .i64 t0, .int .i64 t1, .int .i64 t2, .int .i64 t3, .int .i64 t4, .int .i64 t5]) ∧ Pad (lowB vs) t0 t1 t2 ∧ Pad (highB vs) t3 t4 t5 ∧ Below w.heap.size w w' := by
  have HP := Lib.hid hp
  have HO := Lib.hid ho
  have HE := Lib.hid hl
  have HL : Hid (vs.length = n) := ho.1.symm.trans hp.1
  clear hp ho hl
  unfold maxLen at hn
  obtain ⟨b, o, p0, p1, p2, q0, q1, q2, ref, nsn, rfl, hb, d0, d1, d2, d3, d4, d5, d6, d7, hx⟩ := HP.out.cellAt h0
  obtain ⟨v0, hv0, hs0⟩ := HO.out.at hx.out
  have P0 : Hid (Pad (lowB (vs.take 1)) p0 p1 p2) := by show Pad _ _ _ _; rw [lowB_one hv0]; exact hs0.1
  have P1 : Hid (Pad (highB (vs.take 1)) q0 q1 q2) := by show Pad _ _ _ _; rw [highB_one hv0]; exact hs0.2.1
  have S0 := Lib.hid hs0
  have V0 := Lib.hid hv0
  clear hs0 hv0 hx
  have B := Lib.hid (below_alloc w (.cells #[.int .i64 d, .slice (some ⟨b, o, none⟩) n c] 93))
  replace B := Lib.hid (B.out.alloc B.out.size (.cells #[.int .i64 0, .int .i64 0, .int .i64 0, .int .i64 0, .int .i64 0, .int .i64 0] 81))
  have hsz : b < w.heap.size + 1 + 1 := by omega
  have e0 : ((w.alloc (.cells #[.int .i64 d, .slice (some ⟨b, o, none⟩) n c] 93)).alloc (.cells #[.int .i64 0, .int .i64 0, .int .i64 0, .int .i64 0, .int .i64 0, .int .i64 0] 81)).cell? ⟨b, o, none⟩ = some (.int .i64 p0) := (B.out.cell (p := ⟨b, o, none⟩) hb).trans (by simpa using d0)
  have e1 : ((w.alloc (.cells #[.int .i64 d, .slice (some ⟨b, o, none⟩) n c] 93)).alloc (.cells #[.int .i64 0, .int .i64 0, .int .i64 0, .int .i64 0, .int .i64 0, .int .i64 0] 81)).cell? ⟨b, o + 1, none⟩ = some (.int .i64 p1) := (B.out.cell (p := ⟨b, o + 1, none⟩) hb).trans (by simpa using d1)
  have e2 : ((w.alloc (.cells #[.int .i64 d, .slice (some ⟨b, o, none⟩) n c] 93)).alloc (.cells #[.int .i64 0, .int .i64 0, .int .i64 0, .int .i64 0, .int .i64 0, .int .i64 0] 81)).cell? ⟨b, o + 2, none⟩ = some (.int .i64 p2) := (B.out.cell (p := ⟨b, o + 2, none⟩) hb).trans (by simpa using d2)
  have e3 : ((w.alloc (.cells #[.int .i64 d, .slice (some ⟨b, o, none⟩) n c] 93)).alloc (.cells #[.int .i64 0, .int .i64 0, .int .i64 0, .int .i64 0, .int .i64 0, .int .i64 0] 81)).cell? ⟨b, o + 3, none⟩ = some (.int .i64 q0) := (B.out.cell (p := ⟨b, o + 3, none⟩) hb).trans (by simpa using d3)
  have e4 : ((w.alloc (.cells #[.int .i64 d, .slice (some ⟨b, o, none⟩) n c] 93)).alloc (.cells #[.int .i64 0, .int .i64 0, .int .i64 0, .int .i64 0, .int .i64 0, .int .i64 0] 81)).cell? ⟨b, o + 4, none⟩ = some (.int .i64 q1) := (B.out.cell (p := ⟨b, o + 4, none⟩) hb).trans (by simpa using d4)
  have e5 : ((w.alloc (.cells #[.int .i64 d, .slice (some ⟨b, o, none⟩) n c] 93)).alloc (.cells #[.int .i64 0, .int .i64 0, .int .i64 0, .int .i64 0, .int .i64 0, .int .i64 0] 81)).cell? ⟨b, o + 5, none⟩ = some (.int .i64 q2) := (B.out.cell (p := ⟨b, o + 5, none⟩) hb).trans (by simpa using d5)
  clear d0 d1 d2 d3 d4 d5 d6 d7
  have AR : Hid (Around w (((w.alloc (.cells #[.int .i64 d, .slice (some ⟨b, o, none⟩) n c] 93)).alloc (.cells #[.int .i64 0, .int .i64 0, .int .i64 0, .int .i64 0, .int .i64 0, .int .i64 0] 81)).alloc (.cells #[.int .i64 p0, .int .i64 p1, .int .i64 p2, .int .i64 q0, .int .i64 q1, .int .i64 q2] 81)) #[] p0 p1 p2 q0 q1 q2) := by
    refine ⟨B.out.alloc B.out.size _, ?_, ?_⟩
    · have h := Lies.new (w.alloc (.cells #[.int .i64 d, .slice (some ⟨b, o, none⟩) n c] 93)) 81 #[.int .i64 0, .int .i64 0, .int .i64 0, .int .i64 0, .int .i64 0, .int .i64 0]
      simp only [World.size_alloc] at h
      exact h.alloc _
    · have h := Lies.new ((w.alloc (.cells #[.int .i64 d, .slice (some ⟨b, o, none⟩) n c] 93)).alloc (.cells #[.int .i64 0, .int .i64 0, .int .i64 0, .int .i64 0, .int .i64 0, .int .i64 0] 81)) 81 #[.int .i64 p0, .int .i64 p1, .int .i64 p2, .int .i64 q0, .int .i64 q1, .int .i64 q2]
      simp only [World.size_alloc] at h
      exact h
  go_enter Try.func117, Try.ntmps117
  go_wp2
  clear e0 e1 e2 e3 e4 e5 B
  go_loopw [14] (fun i wr => ∃ (k : Nat) (t0 t1 t2 t3 t4 t5 : Int), k ≤ n ∧ i = .int .i64 k ∧ Hid (Around w wr #[] t0 t1 t2 t3 t4 t5) ∧ Hid (Pad (lowB (vs.take (max k 1))) t0 t1 t2) ∧ Hid (Pad (highB (vs.take (max k 1))) t3 t4 t5)) (fun i _ => n - (intOf i).toNat)
  case atStart => exact ⟨0, p0, p1, p2, q0, q1, q2, Nat.zero_le _, rfl, AR, P0, P1⟩
  case round =>
    obtain ⟨k, t0, t1, t2, t3, t4, t5, hk', rfl, hR, hP, hQ⟩ := hrel
    by_cases hlt : k < n
    · obtain ⟨b', o', r0, r1, r2, s0, s1, s2, ref', nsn', hA, hb', d0, d1, d2, d3, d4, d5, d6, d7, hx⟩ := HP.out.cellAt hlt
      injection hA with hA
      injection hA with hA1 hA2
      subst hA1 hA2
      have e0 : wr.cell? ⟨b, o + k * 8, none⟩ = some (.int .i64 r0) := (hR.out.b.cell (p := ⟨b, o + k * 8, none⟩) hb').trans d0
      have e1 : wr.cell? ⟨b, o + k * 8 + 1, none⟩ = some (.int .i64 r1) := (hR.out.b.cell (p := ⟨b, o + k * 8 + 1, none⟩) hb').trans d1
      have e2 : wr.cell? ⟨b, o + k * 8 + 2, none⟩ = some (.int .i64 r2) := (hR.out.b.cell (p := ⟨b, o + k * 8 + 2, none⟩) hb').trans d2
      have e3 : wr.cell? ⟨b, o + k * 8 + 3, none⟩ = some (.int .i64 s0) := (hR.out.b.cell (p := ⟨b, o + k * 8 + 3, none⟩) hb').trans d3
      have e4 : wr.cell? ⟨b, o + k * 8 + 4, none⟩ = some (.int .i64 s1) := (hR.out.b.cell (p := ⟨b, o + k * 8 + 4, none⟩) hb').trans d4
      have e5 : wr.cell? ⟨b, o + k * 8 + 5, none⟩ = some (.int .i64 s2) := (hR.out.b.cell (p := ⟨b, o + k * 8 + 5, none⟩) hb').trans d5
      have e6 : wr.cell? ⟨b, o + k * 8 + 6, none⟩ = some (.int .i64 ref') := (hR.out.b.cell (p := ⟨b, o + k * 8 + 6, none⟩) hb').trans d6
      have e7 : wr.cell? ⟨b, o + k * 8 + 7, none⟩ = some (.int .i64 nsn') := (hR.out.b.cell (p := ⟨b, o + k * 8 + 7, none⟩) hb').trans d7
      clear d0 d1 d2 d3 d4 d5 d6 d7
      obtain ⟨v, hv, hsv⟩ := HO.out.at hx.out
      clear hx
      have hP' : Hid (Pad (lowB (vs.take (max (k + 1) 1))) (min t0 r0) (min t1 r1) (min t2 r2)) := by
        show Pad _ _ _ _
        by_cases hk0 : k = 0
        · subst hk0
          have h1 : Pad (lowB (vs.take 1)) t0 t1 t2 := hP.out
          have e : lowB (vs.take 1) = v.1 := lowB_one hv
          rw [e] at h1
          have h2 := pad_mins rfl h1 hsv.1
          rw [mins_self] at h2
          rw [show max (0 + 1) 1 = 1 from rfl, e]; exact h2
        · rw [show max (k + 1) 1 = k + 1 by omega, lowB_next (by omega) hv]
          have h1 := hP.out
          rw [show max k 1 = k by omega] at h1
          exact pad_mins (by rw [lowB_len HE.out (by omega) (by rw [HL.out]; omega), (HE.out k _ hv).1]) h1 hsv.1
      have hQ' : Hid (Pad (highB (vs.take (max (k + 1) 1))) (max t3 s0) (max t4 s1) (max t5 s2)) := by
        show Pad _ _ _ _
        by_cases hk0 : k = 0
        · subst hk0
          have h1 : Pad (highB (vs.take 1)) t3 t4 t5 := hQ.out
          have e : highB (vs.take 1) = v.2.1 := highB_one hv
          rw [e] at h1
          have h2 := pad_maxs2 rfl h1 hsv.2.1
          rw [maxs_self] at h2
          rw [show max (0 + 1) 1 = 1 from rfl, e]; exact h2
        · rw [show max (k + 1) 1 = k + 1 by omega, highB_next (by omega) hv]
          have h1 := hQ.out
          rw [show max k 1 = k by omega] at h1
          exact pad_maxs2 (by rw [highB_len HE.out (by omega) (by rw [HL.out]; omega), (HE.out k _ hv).2]) h1 hsv.2.1
      clear hP hQ hv hsv
      have hR1 : Hid (Around w (wr.alloc (.cells #[.int .i64 r0, .int .i64 r1, .int .i64 r2, .int .i64 s0, .int .i64 s1, .int .i64 s2, .int .i64 ref', .int .i64 nsn'] 145)) #[] t0 t1 t2 t3 t4 t5) := ⟨hR.out.b.alloc hR.out.b.size _, hR.out.r.alloc _, hR.out.a.alloc _⟩
      have g0 : (wr.alloc (.cells #[.int .i64 r0, .int .i64 r1, .int .i64 r2, .int .i64 s0, .int .i64 s1, .int .i64 s2, .int .i64 ref', .int .i64 nsn'] 145)).cell? ⟨w.heap.size + 1 + 1, 0, none⟩ = some (.int .i64 t0) := hR1.out.a.cell 0
      have g1 : (wr.alloc (.cells #[.int .i64 r0, .int .i64 r1, .int .i64 r2, .int .i64 s0, .int .i64 s1, .int .i64 s2, .int .i64 ref', .int .i64 nsn'] 145)).cell? ⟨w.heap.size + 1 + 1, 1, none⟩ = some (.int .i64 t1) := hR1.out.a.cell 1
      have g2 : (wr.alloc (.cells #[.int .i64 r0, .int .i64 r1, .int .i64 r2, .int .i64 s0, .int .i64 s1, .int .i64 s2, .int .i64 ref', .int .i64 nsn'] 145)).cell? ⟨w.heap.size + 1 + 1, 2, none⟩ = some (.int .i64 t2) := hR1.out.a.cell 2
      have g3 : (wr.alloc (.cells #[.int .i64 r0, .int .i64 r1, .int .i64 r2, .int .i64 s0, .int .i64 s1, .int .i64 s2, .int .i64 ref', .int .i64 nsn'] 145)).cell? ⟨w.heap.size + 1 + 1, 3, none⟩ = some (.int .i64 t3) := hR1.out.a.cell 3
      have g4 : (wr.alloc (.cells #[.int .i64 r0, .int .i64 r1, .int .i64 r2, .int .i64 s0, .int .i64 s1, .int .i64 s2, .int .i64 ref', .int .i64 nsn'] 145)).cell? ⟨w.heap.size + 1 + 1, 4, none⟩ = some (.int .i64 t4) := hR1.out.a.cell 4
      have g5 : (wr.alloc (.cells #[.int .i64 r0, .int .i64 r1, .int .i64 r2, .int .i64 s0, .int .i64 s1, .int .i64 s2, .int .i64 ref', .int .i64 nsn'] 145)).cell? ⟨w.heap.size + 1 + 1, 5, none⟩ = some (.int .i64 t5) := hR1.out.a.cell 5
      go_wp2_with fail
      refine (union_any t0 t1 t2 t3 t4 t5 r0 r1 r2 s0 s1 s2 _).mono ?_
      rintro e W1 ⟨rfl, b1⟩
      have hR2 : Hid (Around w W1 #[] t0 t1 t2 t3 t4 t5) := ⟨hR1.out.b.trans (b1.mono hR1.out.b.size), hR1.out.r.kept b1 hR1.out.r.inside, hR1.out.a.kept b1 hR1.out.a.inside⟩
      clear hR hR1 b1 e0 e1 e2 e3 e4 e5 e6 e7 g0 g1 g5
      have g0 : W1.cell? ⟨w.heap.size + 1 + 1, 0, none⟩ = some (.int .i64 t0) := hR2.out.a.cell 0
      have f0 : W1.frozen? ⟨w.heap.size + 1 + 1, 0, none⟩ = false := hR2.out.a.thawed 0
      have g1 : W1.cell? ⟨w.heap.size + 1 + 1, 1, none⟩ = some (.int .i64 t1) := hR2.out.a.cell 1
      have f1 : W1.frozen? ⟨w.heap.size + 1 + 1, 1, none⟩ = false := hR2.out.a.thawed 1
      have g2 : W1.cell? ⟨w.heap.size + 1 + 1, 2, none⟩ = some (.int .i64 t2) := hR2.out.a.cell 2
      have f2 : W1.frozen? ⟨w.heap.size + 1 + 1, 2, none⟩ = false := hR2.out.a.thawed 2
      have g3 : W1.cell? ⟨w.heap.size + 1 + 1, 3, none⟩ = some (.int .i64 t3) := hR2.out.a.cell 3
      have f3 : W1.frozen? ⟨w.heap.size + 1 + 1, 3, none⟩ = false := hR2.out.a.thawed 3
      have g4 : W1.cell? ⟨w.heap.size + 1 + 1, 4, none⟩ = some (.int .i64 t4) := hR2.out.a.cell 4
      have f4 : W1.frozen? ⟨w.heap.size + 1 + 1, 4, none⟩ = false := hR2.out.a.thawed 4
      have g5 : W1.cell? ⟨w.heap.size + 1 + 1, 5, none⟩ = some (.int .i64 t5) := hR2.out.a.cell 5
      have f5 : W1.frozen? ⟨w.heap.size + 1 + 1, 5, none⟩ = false := hR2.out.a.thawed 5
      go_wp2
      go_roundw
      case rel =>
        refine ⟨k + 1, _, _, _, _, _, _, by omega, by go_num, ?_, hP', hQ'⟩
        refine ⟨?_, ?_, ?_⟩
        · with_reducible (repeat (first | exact hR2.out.b | refine Below.setCell ?_ ?_ _))
          all_goals (show w.heap.size ≤ w.heap.size + 1 + 1; omega)
        · with_reducible (repeat (first | exact hR2.out.r | refine Lies.far ?_ ?_ _))
          all_goals (show w.heap.size + 1 ≠ w.heap.size + 1 + 1; omega)
        · exact (((((hR2.out.a.set 0 _).set 1 _).set 2 _).set 3 _).set 4 _).set 5 _
      case measure => simp [intOf]; omega
    · have hkn : k = n := by omega
      have HPP : Hid (Pad (lowB vs) t0 t1 t2) := by
        have h1 := hP.out
        rwa [show max k 1 = n by omega, List.take_of_length_le (by rw [HL.out]; omega)] at h1
      have HQQ : Hid (Pad (highB vs) t3 t4 t5) := by
        have h1 := hQ.out
        rwa [show max k 1 = n by omega, List.take_of_length_le (by rw [HL.out]; omega)] at h1
      clear hP hQ hkn
      have g0 : wr.cell? ⟨w.heap.size + 1 + 1, 0, none⟩ = some (.int .i64 t0) := hR.out.a.cell 0
      have z0 : wr.cell? ⟨w.heap.size + 1, 0, none⟩ = some (.int .i64 0) := hR.out.r.cell 0
      have y0 : wr.frozen? ⟨w.heap.size + 1, 0, none⟩ = false := hR.out.r.thawed 0
      have g1 : wr.cell? ⟨w.heap.size + 1 + 1, 1, none⟩ = some (.int .i64 t1) := hR.out.a.cell 1
      have z1 : wr.cell? ⟨w.heap.size + 1, 1, none⟩ = some (.int .i64 0) := hR.out.r.cell 1
      have y1 : wr.frozen? ⟨w.heap.size + 1, 1, none⟩ = false := hR.out.r.thawed 1
      have g2 : wr.cell? ⟨w.heap.size + 1 + 1, 2, none⟩ = some (.int .i64 t2) := hR.out.a.cell 2
      have z2 : wr.cell? ⟨w.heap.size + 1, 2, none⟩ = some (.int .i64 0) := hR.out.r.cell 2
      have y2 : wr.frozen? ⟨w.heap.size + 1, 2, none⟩ = false := hR.out.r.thawed 2
      have g3 : wr.cell? ⟨w.heap.size + 1 + 1, 3, none⟩ = some (.int .i64 t3) := hR.out.a.cell 3
      have z3 : wr.cell? ⟨w.heap.size + 1, 3, none⟩ = some (.int .i64 0) := hR.out.r.cell 3
      have y3 : wr.frozen? ⟨w.heap.size + 1, 3, none⟩ = false := hR.out.r.thawed 3
      have g4 : wr.cell? ⟨w.heap.size + 1 + 1, 4, none⟩ = some (.int .i64 t4) := hR.out.a.cell 4
      have z4 : wr.cell? ⟨w.heap.size + 1, 4, none⟩ = some (.int .i64 0) := hR.out.r.cell 4
      have y4 : wr.frozen? ⟨w.heap.size + 1, 4, none⟩ = false := hR.out.r.thawed 4
      have g5 : wr.cell? ⟨w.heap.size + 1 + 1, 5, none⟩ = some (.int .i64 t5) := hR.out.a.cell 5
      have z5 : wr.cell? ⟨w.heap.size + 1, 5, none⟩ = some (.int .i64 0) := hR.out.r.cell 5
      have y5 : wr.frozen? ⟨w.heap.size + 1, 5, none⟩ = false := hR.out.r.thawed 5
      go_wp2
      refine bodyPost_ret (v := .agg #[.int .i64 t0, .int .i64 t1, .int .i64 t2, .int .i64 t3, .int .i64 t4, .int .i64 t5]) (by simp [results, Try.results117, go_sem, z0, z1, z2, z3, z4, z5]) rfl ⟨t0, t1, t2, t3, t4, t5, rfl, HPP.out, HQQ.out, ?_⟩
      with_reducible (repeat (first | exact hR.out.b | refine Below.setCell ?_ ?_ _))
      all_goals (show w.heap.size ≤ w.heap.size + 1; omega)

set_option maxRecDepth 100000 in
set_option maxHeartbeats 3200000 in
theorem implBoxOf_any (lv ns rt d : Int) (n c : Nat) (A : Option Addr) (ps : List EV) (w : World) (hp : Entries w A n ps) (hn : n ≤ maxLen) :
    Calls Try.prog 14 #[.agg #[.int .i64 lv, .int .i64 ns, .int .i64 rt, .slice A n c], .int .i64 d] w fun e w' => (boxC (nodeF lv ns rt (ps.map EV.val) d) n ≠ 0 → e = .returned (.agg #[.int .i64 (boxC (nodeF lv ns rt (ps.map EV.val) d) n), .slice none 0 0, .slice none 0 0])) ∧
      (boxC (nodeF lv ns rt (ps.map EV.val) d) n = 0 → ∃ g g', e = .returned (.agg #[.int .i64 0, .slice (some ⟨g, 0, none⟩) d.toNat d.toNat, .slice (some ⟨g', 0, none⟩) d.toNat d.toNat]) ∧ w.heap.size ≤ g ∧ g < g' ∧ Own w' g d.toNat (lowB (ps.map EV.val)) ∧ Own w' g' d.toNat (highB (ps.map EV.val))) ∧ Below w.heap.size w w' := by
  have HP := Lib.hid hp
  have HL : Hid ((ps.map EV.val).length = n) := by show List.length _ = n; rw [List.length_map]; exact hp.1
  clear hp
  have B := Lib.hid (below_alloc w (.cells #[.int .i64 lv, .int .i64 ns, .int .i64 rt, .slice A n c] 29))
  replace B := Lib.hid (B.out.alloc B.out.size (.cells #[.int .i64 0, .slice none 0 0, .slice none 0 0] 37))
  have L_r := Lib.hid (Lies.new (w.alloc (.cells #[.int .i64 lv, .int .i64 ns, .int .i64 rt, .slice A n c] 29)) 37 #[.int .i64 0, .slice none 0 0, .slice none 0 0])
  simp only [World.size_alloc] at L_r
  go_enter Try.func14, Try.ntmps14
  go_wp2_with fail
  refine (readNode_any _ _ _ _ _ _ _ ps _ (HP.out.kept B.out) hn).mono ?_
  rintro e W1 ⟨b1, h⟩
  replace L_r := Lib.hid (L_r.out.kept b1 L_r.out.inside)
  replace B := Lib.hid (B.out.trans (b1.mono B.out.size))
  clear b1
  rcases h with ⟨hz, rfl⟩ | ⟨hz, A', c', ss, rfl, hS, hO⟩
  · have hz1 : (nodeF lv ns rt (ps.map EV.val) d != 0) = true := by simpa using hz
    have HC : Hid (boxC (nodeF lv ns rt (ps.map EV.val) d) n = nodeF lv ns rt (ps.map EV.val) d) := by show boxC _ _ = _; unfold boxC; rw [if_pos hz]
    have HZ := Lib.hid hz
    clear hz
    have z0 : W1.cell? ⟨w.heap.size + 1, 0, none⟩ = some (.int .i64 0) := L_r.out.cell 0
    have y0 : W1.frozen? ⟨w.heap.size + 1, 0, none⟩ = false := L_r.out.thawed 0
    have z1 : W1.cell? ⟨w.heap.size + 1, 1, none⟩ = some (.slice none 0 0) := L_r.out.cell 1
    have y1 : W1.frozen? ⟨w.heap.size + 1, 1, none⟩ = false := L_r.out.thawed 1
    have z2 : W1.cell? ⟨w.heap.size + 1, 2, none⟩ = some (.slice none 0 0) := L_r.out.cell 2
    have y2 : W1.frozen? ⟨w.heap.size + 1, 2, none⟩ = false := L_r.out.thawed 2
    go_wp2
    refine bodyPost_ret (v := .agg #[.int .i64 (nodeF lv ns rt (ps.map EV.val) d), .slice none 0 0, .slice none 0 0]) (by simp [results, Try.results14, go_sem, z0, z1, z2]) rfl ⟨fun _ => by rw [HC.out], fun h => absurd (HC.out.symm.trans h) HZ.out, ?_⟩
    repeat (with_reducible refine Below.setCell ?_ (by exact Nat.le_succ _) _)
    exact B.out
  have HS := Lib.hid hS
  have HO := Lib.hid hO
  have HZ := Lib.hid hz
  obtain ⟨hok, hn5, hent, _, _⟩ := nodeF_zero hz
  have HE := Lib.hid (lens_of hent)
  have hd2 : 2 ≤ d := hok.1.1
  have hd3 : d ≤ 3 := hok.1.2
  clear hS hO hz hok hent hn5
  by_cases hl0 : lv = 0
  · have hm1 : ∀ w : World, (method 281 150 (.agg #[.int .i64 d, .slice A' n c', .int .i64 lv, .int .i64 ns, .int .i64 rt]) "loop.example/g00680/impl.count").run Try.prog w = .ok (119, .agg #[.int .i64 d, .slice A' n c']) w := fun _ => by kernel_rfl
    have hm2 : ∀ w : World, (method 281 150 (.agg #[.int .i64 d, .slice A' n c', .int .i64 lv, .int .i64 ns, .int .i64 rt]) "loop.example/g00680/impl.around").run Try.prog w = .ok (117, .agg #[.int .i64 d, .slice A' n c']) w := fun _ => by kernel_rfl
    have HV : Hid (holderV d lv ns rt A' n c' = .iface 150 (.agg #[.int .i64 d, .slice A' n c', .int .i64 lv, .int .i64 ns, .int .i64 rt])) := by show holderV _ _ _ _ _ _ _ = _; unfold holderV; rw [if_pos hl0]
    clear hl0
    rw [HV.out]
    by_cases h0 : n = 0
    · have HC : Hid (boxC (nodeF lv ns rt (ps.map EV.val) d) n = 4) := by show boxC _ _ = _; unfold boxC; rw [if_neg (by simp [HZ.out]), if_pos h0]
      have h01 : ((n : Int) == 0) = true := by simp [h0]
      clear h0
      go_wp2_with fail
      refine (bodyCount_any _ _ _ _ _).mono ?_
      rintro e W2 ⟨rfl, b2⟩
      replace L_r := Lib.hid (L_r.out.kept b2 L_r.out.inside)
      replace B := Lib.hid (B.out.trans (b2.mono B.out.size))
      clear b2
      have z0 : W2.cell? ⟨w.heap.size + 1, 0, none⟩ = some (.int .i64 0) := L_r.out.cell 0
      have y0 : W2.frozen? ⟨w.heap.size + 1, 0, none⟩ = false := L_r.out.thawed 0
      have z1 : W2.cell? ⟨w.heap.size + 1, 1, none⟩ = some (.slice none 0 0) := L_r.out.cell 1
      have y1 : W2.frozen? ⟨w.heap.size + 1, 1, none⟩ = false := L_r.out.thawed 1
      have z2 : W2.cell? ⟨w.heap.size + 1, 2, none⟩ = some (.slice none 0 0) := L_r.out.cell 2
      have y2 : W2.frozen? ⟨w.heap.size + 1, 2, none⟩ = false := L_r.out.thawed 2
      go_wp2
      refine bodyPost_ret (v := .agg #[.int .i64 4, .slice none 0 0, .slice none 0 0]) (by simp [results, Try.results14, go_sem, z0, z1, z2]) rfl ⟨fun _ => by rw [HC.out], fun h => by rw [HC.out] at h; omega, ?_⟩
      repeat (with_reducible refine Below.setCell ?_ (by exact Nat.le_succ _) _)
      exact B.out
    · have HC : Hid (boxC (nodeF lv ns rt (ps.map EV.val) d) n = 0) := by show boxC _ _ = _; unfold boxC; rw [if_neg (by simp [HZ.out]), if_neg h0]
      have h01 : ((n : Int) == 0) = false := by simp [h0]
      have hpos : 0 < n := by omega
      clear h0
      go_wp2_with fail
      refine (bodyCount_any _ _ _ _ _).mono ?_
      rintro e W2 ⟨rfl, b2⟩
      replace L_r := Lib.hid (L_r.out.kept b2 L_r.out.inside)
      replace HS := Lib.hid (HS.out.kept b2)
      replace B := Lib.hid (B.out.trans (b2.mono B.out.size))
      clear b2
      go_wp2_with fail
      refine (around_any _ _ _ d.toNat _ (ps.map EV.val) ss _ HS.out HO.out hn hpos HE.out).mono ?_
      rintro e W3 ⟨t0, t1, t2, t3, t4, t5, rfl, pL, pH, b3⟩
      replace L_r := Lib.hid (L_r.out.kept b3 L_r.out.inside)
      replace B := Lib.hid (B.out.trans (b3.mono B.out.size))
      have PL := Lib.hid pL
      have PH := Lib.hid pH
      have N1 : Hid ((lowB (ps.map EV.val)).length = d.toNat) := by
        have := lowB_len (k := n) HE.out hpos (by rw [HL.out]; omega)
        rwa [List.take_of_length_le (by rw [HL.out]; omega)] at this
      have N2 : Hid ((highB (ps.map EV.val)).length = d.toNat) := by
        have := highB_len (k := n) HE.out hpos (by rw [HL.out]; omega)
        rwa [List.take_of_length_le (by rw [HL.out]; omega)] at this
      clear b3 pL pH
      go_wp2_with fail
      refine (rect_any t0 t1 t2 t3 t4 t5 d d.toNat (lowB (ps.map EV.val)) (highB (ps.map EV.val)) _ PL.out PH.out N1.out N2.out (by omega)).mono ?_
      rintro e W4 ⟨g, g', rfl, o1, o2, lg, lg', b4⟩
      have bs := B.out.size
      have hr := L_r.out.inside
      replace L_r := Lib.hid (L_r.out.kept b4 L_r.out.inside)
      replace B := Lib.hid (B.out.trans (b4.mono B.out.size))
      have O1 := Lib.hid o1
      have O2 := Lib.hid o2
      clear b4 o1 o2
      have z0 : W4.cell? ⟨w.heap.size + 1, 0, none⟩ = some (.int .i64 0) := L_r.out.cell 0
      have y0 : W4.frozen? ⟨w.heap.size + 1, 0, none⟩ = false := L_r.out.thawed 0
      have z1 : W4.cell? ⟨w.heap.size + 1, 1, none⟩ = some (.slice none 0 0) := L_r.out.cell 1
      have y1 : W4.frozen? ⟨w.heap.size + 1, 1, none⟩ = false := L_r.out.thawed 1
      have z2 : W4.cell? ⟨w.heap.size + 1, 2, none⟩ = some (.slice none 0 0) := L_r.out.cell 2
      have y2 : W4.frozen? ⟨w.heap.size + 1, 2, none⟩ = false := L_r.out.thawed 2
      go_wp2
      refine bodyPost_ret (v := .agg #[.int .i64 0, .slice (some ⟨g, 0, none⟩) d.toNat d.toNat, .slice (some ⟨g', 0, none⟩) d.toNat d.toNat]) (by simp [results, Try.results14, go_sem, z0, z1, z2]) rfl ⟨fun h => absurd HC.out h, fun _ => ⟨g, g', rfl, by omega, lg', ?_, ?_⟩, ?_⟩
      · with_reducible (repeat (first | exact O1.out | refine Own.far ?_ ?_ _))
        all_goals (show g ≠ w.heap.size + 1; omega)
      · with_reducible (repeat (first | exact O2.out | refine Own.far ?_ ?_ _))
        all_goals (show g' ≠ w.heap.size + 1; omega)
      · repeat (with_reducible refine Below.setCell ?_ (by exact Nat.le_succ _) _)
        exact B.out
  · have hm1 : ∀ w : World, (method 281 151 (.agg #[.int .i64 d, .slice A' n c', .int .i64 lv, .int .i64 ns, .int .i64 rt]) "loop.example/g00680/impl.count").run Try.prog w = .ok (119, .agg #[.int .i64 d, .slice A' n c']) w := fun _ => by kernel_rfl
    have hm2 : ∀ w : World, (method 281 151 (.agg #[.int .i64 d, .slice A' n c', .int .i64 lv, .int .i64 ns, .int .i64 rt]) "loop.example/g00680/impl.around").run Try.prog w = .ok (117, .agg #[.int .i64 d, .slice A' n c']) w := fun _ => by kernel_rfl
    have HV : Hid (holderV d lv ns rt A' n c' = .iface 151 (.agg #[.int .i64 d, .slice A' n c', .int .i64 lv, .int .i64 ns, .int .i64 rt])) := by show holderV _ _ _ _ _ _ _ = _; unfold holderV; rw [if_neg hl0]
    clear hl0
    rw [HV.out]
    by_cases h0 : n = 0
    · have HC : Hid (boxC (nodeF lv ns rt (ps.map EV.val) d) n = 4) := by show boxC _ _ = _; unfold boxC; rw [if_neg (by simp [HZ.out]), if_pos h0]
      have h01 : ((n : Int) == 0) = true := by simp [h0]
      clear h0
      go_wp2_with fail
      refine (bodyCount_any _ _ _ _ _).mono ?_
      rintro e W2 ⟨rfl, b2⟩
      replace L_r := Lib.hid (L_r.out.kept b2 L_r.out.inside)
      replace B := Lib.hid (B.out.trans (b2.mono B.out.size))
      clear b2
      have z0 : W2.cell? ⟨w.heap.size + 1, 0, none⟩ = some (.int .i64 0) := L_r.out.cell 0
      have y0 : W2.frozen? ⟨w.heap.size + 1, 0, none⟩ = false := L_r.out.thawed 0
      have z1 : W2.cell? ⟨w.heap.size + 1, 1, none⟩ = some (.slice none 0 0) := L_r.out.cell 1
      have y1 : W2.frozen? ⟨w.heap.size + 1, 1, none⟩ = false := L_r.out.thawed 1
      have z2 : W2.cell? ⟨w.heap.size + 1, 2, none⟩ = some (.slice none 0 0) := L_r.out.cell 2
      have y2 : W2.frozen? ⟨w.heap.size + 1, 2, none⟩ = false := L_r.out.thawed 2
      go_wp2
      refine bodyPost_ret (v := .agg #[.int .i64 4, .slice none 0 0, .slice none 0 0]) (by simp [results, Try.results14, go_sem, z0, z1, z2]) rfl ⟨fun _ => by rw [HC.out], fun h => by rw [HC.out] at h; omega, ?_⟩
      repeat (with_reducible refine Below.setCell ?_ (by exact Nat.le_succ _) _)
      exact B.out
    · have HC : Hid (boxC (nodeF lv ns rt (ps.map EV.val) d) n = 0) := by show boxC _ _ = _; unfold boxC; rw [if_neg (by simp [HZ.out]), if_neg h0]
      have h01 : ((n : Int) == 0) = false := by simp [h0]
      have hpos : 0 < n := by omega
      clear h0
      go_wp2_with fail
      refine (bodyCount_any _ _ _ _ _).mono ?_
      rintro e W2 ⟨rfl, b2⟩
      replace L_r := Lib.hid (L_r.out.kept b2 L_r.out.inside)
      replace HS := Lib.hid (HS.out.kept b2)
      replace B := Lib.hid (B.out.trans (b2.mono B.out.size))
      clear b2
      go_wp2_with fail
      refine (around_any _ _ _ d.toNat _ (ps.map EV.val) ss _ HS.out HO.out hn hpos HE.out).mono ?_
      rintro e W3 ⟨t0, t1, t2, t3, t4, t5, rfl, pL, pH, b3⟩
      replace L_r := Lib.hid (L_r.out.kept b3 L_r.out.inside)
      replace B := Lib.hid (B.out.trans (b3.mono B.out.size))
      have PL := Lib.hid pL
      have PH := Lib.hid pH
      have N1 : Hid ((lowB (ps.map EV.val)).length = d.toNat) := by
        have := lowB_len (k := n) HE.out hpos (by rw [HL.out]; omega)
        rwa [List.take_of_length_le (by rw [HL.out]; omega)] at this
      have N2 : Hid ((highB (ps.map EV.val)).length = d.toNat) := by
        have := highB_len (k := n) HE.out hpos (by rw [HL.out]; omega)
        rwa [List.take_of_length_le (by rw [HL.out]; omega)] at this
      clear b3 pL pH
      go_wp2_with fail
      refine (rect_any t0 t1 t2 t3 t4 t5 d d.toNat (lowB (ps.map EV.val)) (highB (ps.map EV.val)) _ PL.out PH.out N1.out N2.out (by omega)).mono ?_
      rintro e W4 ⟨g, g', rfl, o1, o2, lg, lg', b4⟩
      have bs := B.out.size
      have hr := L_r.out.inside
      replace L_r := Lib.hid (L_r.out.kept b4 L_r.out.inside)
      replace B := Lib.hid (B.out.trans (b4.mono B.out.size))
      have O1 := Lib.hid o1
      have O2 := Lib.hid o2
      clear b4 o1 o2
      have z0 : W4.cell? ⟨w.heap.size + 1, 0, none⟩ = some (.int .i64 0) := L_r.out.cell 0
      have y0 : W4.frozen? ⟨w.heap.size + 1, 0, none⟩ = false := L_r.out.thawed 0
      have z1 : W4.cell? ⟨w.heap.size + 1, 1, none⟩ = some (.slice none 0 0) := L_r.out.cell 1
      have y1 : W4.frozen? ⟨w.heap.size + 1, 1, none⟩ = false := L_r.out.thawed 1
      have z2 : W4.cell? ⟨w.heap.size + 1, 2, none⟩ = some (.slice none 0 0) := L_r.out.cell 2
      have y2 : W4.frozen? ⟨w.heap.size + 1, 2, none⟩ = false := L_r.out.thawed 2
      go_wp2
      refine bodyPost_ret (v := .agg #[.int .i64 0, .slice (some ⟨g, 0, none⟩) d.toNat d.toNat, .slice (some ⟨g', 0, none⟩) d.toNat d.toNat]) (by simp [results, Try.results14, go_sem, z0, z1, z2]) rfl ⟨fun h => absurd HC.out h, fun _ => ⟨g, g', rfl, by omega, lg', ?_, ?_⟩, ?_⟩
      · with_reducible (repeat (first | exact O1.out | refine Own.far ?_ ?_ _))
        all_goals (show g ≠ w.heap.size + 1; omega)
      · with_reducible (repeat (first | exact O2.out | refine Own.far ?_ ?_ _))
        all_goals (show g' ≠ w.heap.size + 1; omega)
      · repeat (with_reducible refine Below.setCell ?_ (by exact Nat.le_succ _) _)
        exact B.out

end Go.Proofs.Ytblhcnafoejahaa
