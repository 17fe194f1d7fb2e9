/- The walks of impl.nodeBody's count and around, and of impl.BoxOf. -/
import Derived.Test.YtfpmbkfikfdmkaaReadNode
import Derived.Test.YtfpmbkfikfdmkaaBoxMath
namespace Go.Proofs.Ytfpmbkfikfdmkaa
open Go.RowKit

theorem pad_maxs2 {xs us : List Int} {p0 p1 p2 r0 r1 r2 : Int} (hl : xs.length = us.length) (hp : Pad xs p0 p1 p2) (hq : Pad us r0 r1 r2) : Pad (maxs xs us) (max p0 r0) (max p1 r1) (max p2 r2) := by
  rcases hp with ⟨rfl, rfl⟩ | rfl <;> rcases hq with ⟨rfl, rfl⟩ | rfl <;> simp at hl <;> simp [Pad, maxs]

theorem bodyCount_any (d : Int) (n c : Nat) (A : Option Addr) (w : World) :
    Calls Try.prog 136 #[.agg #[.int .i64 d, .slice A n c]] w fun e w' => e = .returned (.int .i64 n) ∧ Below w.heap.size w w' := by
  go_enter Try.func136, Try.ntmps136
  go_wp2
  go_ret
  exact ⟨rfl, below_alloc _ _⟩

/-- Where the loop stands. -/
structure Around (w wr : World) (bd : Array Value) (t0 t1 t2 t3 t4 t5 : Int) : Prop where
  b : Below w.heap.size w wr
  r : Lies wr (w.heap.size + 1) 94 #[.int .i64 0, .int .i64 0, .int .i64 0, .int .i64 0, .int .i64 0, .int .i64 0]
  a : Lies wr (w.heap.size + 1 + 1) 94 #[.int .i64 t0, .int .i64 t1, .int .i64 t2, .int .i64 t3, .int .i64 t4, .int .i64 t5]

set_option maxRecDepth 100000 in
set_option maxHeartbeats 3200000 in
theorem around_any (d : Int) (n c dd : Nat) (A : Option Addr) (vs : List EVal) (ss : List SL) (w : World) (hp : Slots w A n ss) (ho : SlotsOf vs ss) (hn : n ≤ maxLen) (h0 : 0 < n) (hl : LensE dd vs) :
    Calls Try.prog 146 #[.agg #[.int .i64 d, .slice A n c]] w fun e w' => ∃ t0 t1 t2 t3 t4 t5, e = .returned (.agg #[.int .i64 t0, .int .i64 t1, .int .i64 t2, .int .i64 t3, .int .i64 t4, .int .i64 t5]) ∧ Pad (lowB vs) t0 t1 t2 ∧ Pad (highB vs) t3 t4 t5 ∧ Below w.heap.size w w' := by
  have HP := Lib.hid hp
  have HO := Lib.hid ho
  have HE := Lib.hid hl
  have HL : Hid (vs.length = n) := ho.1.symm.trans hp.1
  clear hp ho hl
  unfold maxLen at hn
  obtain ⟨b, o, p0, p1, p2, q0, q1, q2, ref, nsn, rfl, hb, d0, d1, d2, d3, d4, d5, d6, d7, hx⟩ := HP.out.cellAt h0
  obtain ⟨v0, hv0, hs0⟩ := HO.out.at hx.out
  have P0 : Hid (Pad (lowB (vs.take 1)) p0 p1 p2) := by show Pad _ _ _ _; rw [lowB_one hv0]; exact hs0.1
  have P1 : Hid (Pad (highB (vs.take 1)) q0 q1 q2) := by show Pad _ _ _ _; rw [highB_one hv0]; exact hs0.2.1
  have S0 := Lib.hid hs0
  have V0 := Lib.hid hv0
  clear hs0 hv0 hx
  have B := Lib.hid (below_alloc w (.cells #[.int .i64 d, .slice (some ⟨b, o, none⟩) n c] 116))
  replace B := Lib.hid (B.out.alloc B.out.size (.cells #[.int .i64 0, .int .i64 0, .int .i64 0, .int .i64 0, .int .i64 0, .int .i64 0] 94))
  have hsz : b < w.heap.size + 1 + 1 := by omega
  have e0 : ((w.alloc (.cells #[.int .i64 d, .slice (some ⟨b, o, none⟩) n c] 116)).alloc (.cells #[.int .i64 0, .int .i64 0, .int .i64 0, .int .i64 0, .int .i64 0, .int .i64 0] 94)).cell? ⟨b, o, none⟩ = some (.int .i64 p0) := (B.out.cell (p := ⟨b, o, none⟩) hb).trans (by simpa using d0)
  have e1 : ((w.alloc (.cells #[.int .i64 d, .slice (some ⟨b, o, none⟩) n c] 116)).alloc (.cells #[.int .i64 0, .int .i64 0, .int .i64 0, .int .i64 0, .int .i64 0, .int .i64 0] 94)).cell? ⟨b, o + 1, none⟩ = some (.int .i64 p1) := (B.out.cell (p := ⟨b, o + 1, none⟩) hb).trans (by simpa using d1)
  have e2 : ((w.alloc (.cells #[.int .i64 d, .slice (some ⟨b, o, none⟩) n c] 116)).alloc (.cells #[.int .i64 0, .int .i64 0, .int .i64 0, .int .i64 0, .int .i64 0, .int .i64 0] 94)).cell? ⟨b, o + 2, none⟩ = some (.int .i64 p2) := (B.out.cell (p := ⟨b, o + 2, none⟩) hb).trans (by simpa using d2)
  have e3 : ((w.alloc (.cells #[.int .i64 d, .slice (some ⟨b, o, none⟩) n c] 116)).alloc (.cells #[.int .i64 0, .int .i64 0, .int .i64 0, .int .i64 0, .int .i64 0, .int .i64 0] 94)).cell? ⟨b, o + 3, none⟩ = some (.int .i64 q0) := (B.out.cell (p := ⟨b, o + 3, none⟩) hb).trans (by simpa using d3)
  have e4 : ((w.alloc (.cells #[.int .i64 d, .slice (some ⟨b, o, none⟩) n c] 116)).alloc (.cells #[.int .i64 0, .int .i64 0, .int .i64 0, .int .i64 0, .int .i64 0, .int .i64 0] 94)).cell? ⟨b, o + 4, none⟩ = some (.int .i64 q1) := (B.out.cell (p := ⟨b, o + 4, none⟩) hb).trans (by simpa using d4)
  have e5 : ((w.alloc (.cells #[.int .i64 d, .slice (some ⟨b, o, none⟩) n c] 116)).alloc (.cells #[.int .i64 0, .int .i64 0, .int .i64 0, .int .i64 0, .int .i64 0, .int .i64 0] 94)).cell? ⟨b, o + 5, none⟩ = some (.int .i64 q2) := (B.out.cell (p := ⟨b, o + 5, none⟩) hb).trans (by simpa using d5)
  clear d0 d1 d2 d3 d4 d5 d6 d7
  have AR : Hid (Around w (((w.alloc (.cells #[.int .i64 d, .slice (some ⟨b, o, none⟩) n c] 116)).alloc (.cells #[.int .i64 0, .int .i64 0, .int .i64 0, .int .i64 0, .int .i64 0, .int .i64 0] 94)).alloc (.cells #[.int .i64 p0, .int .i64 p1, .int .i64 p2, .int .i64 q0, .int .i64 q1, .int .i64 q2] 94)) #[] p0 p1 p2 q0 q1 q2) := by
    refine ⟨B.out.alloc B.out.size _, ?_, ?_⟩
    · have h := Lies.new (w.alloc (.cells #[.int .i64 d, .slice (some ⟨b, o, none⟩) n c] 116)) 94 #[.int .i64 0, .int .i64 0, .int .i64 0, .int .i64 0, .int .i64 0, .int .i64 0]
      simp only [World.size_alloc] at h
      exact h.alloc _
    · have h := Lies.new ((w.alloc (.cells #[.int .i64 d, .slice (some ⟨b, o, none⟩) n c] 116)).alloc (.cells #[.int .i64 0, .int .i64 0, .int .i64 0, .int .i64 0, .int .i64 0, .int .i64 0] 94)) 94 #[.int .i64 p0, .int .i64 p1, .int .i64 p2, .int .i64 q0, .int .i64 q1, .int .i64 q2]
      simp only [World.size_alloc] at h
      exact h
  go_enter Try.func146, Try.ntmps146
  go_wp2
  clear e0 e1 e2 e3 e4 e5 B
  go_loopw [14] (fun i wr => ∃ (k : Nat) (t0 t1 t2 t3 t4 t5 : Int), k ≤ n ∧ i = .int .i64 k ∧ Hid (Around w wr #[] t0 t1 t2 t3 t4 t5) ∧ Hid (Pad (lowB (vs.take (max k 1))) t0 t1 t2) ∧ Hid (Pad (highB (vs.take (max k 1))) t3 t4 t5)) (fun i _ => n - (intOf i).toNat)
  case atStart => exact ⟨0, p0, p1, p2, q0, q1, q2, Nat.zero_le _, rfl, AR, P0, P1⟩
  case round =>
    obtain ⟨k, t0, t1, t2, t3, t4, t5, hk', rfl, hR, hP, hQ⟩ := hrel
    by_cases hlt : k < n
    · obtain ⟨b', o', r0, r1, r2, s0, s1, s2, ref', nsn', hA, hb', d0, d1, d2, d3, d4, d5, d6, d7, hx⟩ := HP.out.cellAt hlt
      injection hA with hA
      injection hA with hA1 hA2
      subst hA1 hA2
      have e0 : wr.cell? ⟨b, o + k * 8, none⟩ = some (.int .i64 r0) := (hR.out.b.cell (p := ⟨b, o + k * 8, none⟩) hb').trans d0
      have e1 : wr.cell? ⟨b, o + k * 8 + 1, none⟩ = some (.int .i64 r1) := (hR.out.b.cell (p := ⟨b, o + k * 8 + 1, none⟩) hb').trans d1
      have e2 : wr.cell? ⟨b, o + k * 8 + 2, none⟩ = some (.int .i64 r2) := (hR.out.b.cell (p := ⟨b, o + k * 8 + 2, none⟩) hb').trans d2
      have e3 : wr.cell? ⟨b, o + k * 8 + 3, none⟩ = some (.int .i64 s0) := (hR.out.b.cell (p := ⟨b, o + k * 8 + 3, none⟩) hb').trans d3
      have e4 : wr.cell? ⟨b, o + k * 8 + 4, none⟩ = some (.int .i64 s1) := (hR.out.b.cell (p := ⟨b, o + k * 8 + 4, none⟩) hb').trans d4
      have e5 : wr.cell? ⟨b, o + k * 8 + 5, none⟩ = some (.int .i64 s2) := (hR.out.b.cell (p := ⟨b, o + k * 8 + 5, none⟩) hb').trans d5
      have e6 : wr.cell? ⟨b, o + k * 8 + 6, none⟩ = some (.int .i64 ref') := (hR.out.b.cell (p := ⟨b, o + k * 8 + 6, none⟩) hb').trans d6
      have e7 : wr.cell? ⟨b, o + k * 8 + 7, none⟩ = some (.int .i64 nsn') := (hR.out.b.cell (p := ⟨b, o + k * 8 + 7, none⟩) hb').trans d7
      clear d0 d1 d2 d3 d4 d5 d6 d7
      obtain ⟨v, hv, hsv⟩ := HO.out.at hx.out
      clear hx
      have hP' : Hid (Pad (lowB (vs.take (max (k + 1) 1))) (min t0 r0) (min t1 r1) (min t2 r2)) := by
        show Pad _ _ _ _
        by_cases hk0 : k = 0
        · subst hk0
          have h1 : Pad (lowB (vs.take 1)) t0 t1 t2 := hP.out
          have e : lowB (vs.take 1) = v.1 := lowB_one hv
          rw [e] at h1
          have h2 := pad_mins rfl h1 hsv.1
          rw [mins_self] at h2
          rw [show max (0 + 1) 1 = 1 from rfl, e]; exact h2
        · rw [show max (k + 1) 1 = k + 1 by omega, lowB_next (by omega) hv]
          have h1 := hP.out
          rw [show max k 1 = k by omega] at h1
          exact pad_mins (by rw [lowB_len HE.out (by omega) (by rw [HL.out]; omega), (HE.out k _ hv).1]) h1 hsv.1
      have hQ' : Hid (Pad (highB (vs.take (max (k + 1) 1))) (max t3 s0) (max t4 s1) (max t5 s2)) := by
        show Pad _ _ _ _
        by_cases hk0 : k = 0
        · subst hk0
          have h1 : Pad (highB (vs.take 1)) t3 t4 t5 := hQ.out
          have e : highB (vs.take 1) = v.2.1 := highB_one hv
          rw [e] at h1
          have h2 := pad_maxs2 rfl h1 hsv.2.1
          rw [maxs_self] at h2
          rw [show max (0 + 1) 1 = 1 from rfl, e]; exact h2
        · rw [show max (k + 1) 1 = k + 1 by omega, highB_next (by omega) hv]
          have h1 := hQ.out
          rw [show max k 1 = k by omega] at h1
          exact pad_maxs2 (by rw [highB_len HE.out (by omega) (by rw [HL.out]; omega), (HE.out k _ hv).2]) h1 hsv.2.1
      clear hP hQ hv hsv
      have hR1 : Hid (Around w (wr.alloc (.cells #[.int .i64 r0, .int .i64 r1, .int .i64 r2, .int .i64 s0, .int .i64 s1, .int .i64 s2, .int .i64 ref', .int .i64 nsn'] 136)) #[] t0 t1 t2 t3 t4 t5) := ⟨hR.out.b.alloc hR.out.b.size _, hR.out.r.alloc _, hR.out.a.alloc _⟩
      have g0 : (wr.alloc (.cells #[.int .i64 r0, .int .i64 r1, .int .i64 r2, .int .i64 s0, .int .i64 s1, .int .i64 s2, .int .i64 ref', .int .i64 nsn'] 136)).cell? ⟨w.heap.size + 1 + 1, 0, none⟩ = some (.int .i64 t0) := hR1.out.a.cell 0
      have g1 : (wr.alloc (.cells #[.int .i64 r0, .int .i64 r1, .int .i64 r2, .int .i64 s0, .int .i64 s1, .int .i64 s2, .int .i64 ref', .int .i64 nsn'] 136)).cell? ⟨w.heap.size + 1 + 1, 1, none⟩ = some (.int .i64 t1) := hR1.out.a.cell 1
      have g2 : (wr.alloc (.cells #[.int .i64 r0, .int .i64 r1, .int .i64 r2, .int .i64 s0, .int .i64 s1, .int .i64 s2, .int .i64 ref', .int .i64 nsn'] 136)).cell? ⟨w.heap.size + 1 + 1, 2, none⟩ = some (.int .i64 t2) := hR1.out.a.cell 2
      have g3 : (wr.alloc (.cells #[.int .i64 r0, .int .i64 r1, .int .i64 r2, .int .i64 s0, .int .i64 s1, .int .i64 s2, .int .i64 ref', .int .i64 nsn'] 136)).cell? ⟨w.heap.size + 1 + 1, 3, none⟩ = some (.int .i64 t3) := hR1.out.a.cell 3
      have g4 : (wr.alloc (.cells #[.int .i64 r0, .int .i64 r1, .int .i64 r2, .int .i64 s0, .int .i64 s1, .int .i64 s2, .int .i64 ref', .int .i64 nsn'] 136)).cell? ⟨w.heap.size + 1 + 1, 4, none⟩ = some (.int .i64 t4) := hR1.out.a.cell 4
      have g5 : (wr.alloc (.cells #[.int .i64 r0, .int .i64 r1, .int .i64 r2, .int .i64 s0, .int .i64 s1, .int .i64 s2, .int .i64 ref', .int .i64 nsn'] 136)).cell? ⟨w.heap.size + 1 + 1, 5, none⟩ = some (.int .i64 t5) := hR1.out.a.cell 5
      go_wp2_with fail
      refine (union_any t0 t1 t2 t3 t4 t5 r0 r1 r2 s0 s1 s2 _).mono ?_
      rintro e W1 ⟨rfl, b1⟩
      have hR2 : Hid (Around w W1 #[] t0 t1 t2 t3 t4 t5) := ⟨hR1.out.b.trans (b1.mono hR1.out.b.size), hR1.out.r.kept b1 hR1.out.r.inside, hR1.out.a.kept b1 hR1.out.a.inside⟩
      clear hR hR1 b1 e0 e1 e2 e3 e4 e5 e6 e7 g0 g1 g5
      have g0 : W1.cell? ⟨w.heap.size + 1 + 1, 0, none⟩ = some (.int .i64 t0) := hR2.out.a.cell 0
      have f0 : W1.frozen? ⟨w.heap.size + 1 + 1, 0, none⟩ = false := hR2.out.a.thawed 0
      have g1 : W1.cell? ⟨w.heap.size + 1 + 1, 1, none⟩ = some (.int .i64 t1) := hR2.out.a.cell 1
      have f1 : W1.frozen? ⟨w.heap.size + 1 + 1, 1, none⟩ = false := hR2.out.a.thawed 1
      have g2 : W1.cell? ⟨w.heap.size + 1 + 1, 2, none⟩ = some (.int .i64 t2) := hR2.out.a.cell 2
      have f2 : W1.frozen? ⟨w.heap.size + 1 + 1, 2, none⟩ = false := hR2.out.a.thawed 2
      have g3 : W1.cell? ⟨w.heap.size + 1 + 1, 3, none⟩ = some (.int .i64 t3) := hR2.out.a.cell 3
      have f3 : W1.frozen? ⟨w.heap.size + 1 + 1, 3, none⟩ = false := hR2.out.a.thawed 3
      have g4 : W1.cell? ⟨w.heap.size + 1 + 1, 4, none⟩ = some (.int .i64 t4) := hR2.out.a.cell 4
      have f4 : W1.frozen? ⟨w.heap.size + 1 + 1, 4, none⟩ = false := hR2.out.a.thawed 4
      have g5 : W1.cell? ⟨w.heap.size + 1 + 1, 5, none⟩ = some (.int .i64 t5) := hR2.out.a.cell 5
      have f5 : W1.frozen? ⟨w.heap.size + 1 + 1, 5, none⟩ = false := hR2.out.a.thawed 5
      go_wp2
      go_roundw
      case rel =>
        refine ⟨k + 1, _, _, _, _, _, _, by omega, by go_num, ?_, hP', hQ'⟩
        refine ⟨?_, ?_, ?_⟩
        · with_reducible (repeat (first | exact hR2.out.b | refine Below.setCell ?_ ?_ _))
          all_goals (show w.heap.size ≤ w.heap.size + 1 + 1; omega)
        · with_reducible (repeat (first | exact hR2.out.r | refine Lies.far ?_ ?_ _))
          all_goals (show w.heap.size + 1 ≠ w.heap.size + 1 + 1; omega)
        · exact (((((hR2.out.a.set 0 _).set 1 _).set 2 _).set 3 _).set 4 _).set 5 _
      case measure => simp [intOf]; omega
    · have hkn : k = n := by omega
      have HPP : Hid (Pad (lowB vs) t0 t1 t2) := by
        have h1 := hP.out
        rwa [show max k 1 = n by omega, List.take_of_length_le (by rw [HL.out]; omega)] at h1
      have HQQ : Hid (Pad (highB vs) t3 t4 t5) := by
        have h1 := hQ.out
        rwa [show max k 1 = n by omega, List.take_of_length_le (by rw [HL.out]; omega)] at h1
      clear hP hQ hkn
      have g0 : wr.cell? ⟨w.heap.size + 1 + 1, 0, none⟩ = some (.int .i64 t0) := hR.out.a.cell 0
      have z0 : wr.cell? ⟨w.heap.size + 1, 0, none⟩ = some (.int .i64 0) := hR.out.r.cell 0
      have y0 : wr.frozen? ⟨w.heap.size + 1, 0, none⟩ = false := hR.out.r.thawed 0
      have g1 : wr.cell? ⟨w.heap.size + 1 + 1, 1, none⟩ = some (.int .i64 t1) := hR.out.a.cell 1
      have z1 : wr.cell? ⟨w.heap.size + 1, 1, none⟩ = some (.int .i64 0) := hR.out.r.cell 1
      have y1 : wr.frozen? ⟨w.heap.size + 1, 1, none⟩ = false := hR.out.r.thawed 1
      have g2 : wr.cell? ⟨w.heap.size + 1 + 1, 2, none⟩ = some (.int .i64 t2) := hR.out.a.cell 2
      have z2 : wr.cell? ⟨w.heap.size + 1, 2, none⟩ = some (.int .i64 0) := hR.out.r.cell 2
      have y2 : wr.frozen? ⟨w.heap.size + 1, 2, none⟩ = false := hR.out.r.thawed 2
      have g3 : wr.cell? ⟨w.heap.size + 1 + 1, 3, none⟩ = some (.int .i64 t3) := hR.out.a.cell 3
      have z3 : wr.cell? ⟨w.heap.size + 1, 3, none⟩ = some (.int .i64 0) := hR.out.r.cell 3
      have y3 : wr.frozen? ⟨w.heap.size + 1, 3, none⟩ = false := hR.out.r.thawed 3
      have g4 : wr.cell? ⟨w.heap.size + 1 + 1, 4, none⟩ = some (.int .i64 t4) := hR.out.a.cell 4
      have z4 : wr.cell? ⟨w.heap.size + 1, 4, none⟩ = some (.int .i64 0) := hR.out.r.cell 4
      have y4 : wr.frozen? ⟨w.heap.size + 1, 4, none⟩ = false := hR.out.r.thawed 4
      have g5 : wr.cell? ⟨w.heap.size + 1 + 1, 5, none⟩ = some (.int .i64 t5) := hR.out.a.cell 5
      have z5 : wr.cell? ⟨w.heap.size + 1, 5, none⟩ = some (.int .i64 0) := hR.out.r.cell 5
      have y5 : wr.frozen? ⟨w.heap.size + 1, 5, none⟩ = false := hR.out.r.thawed 5
      go_wp2
      refine bodyPost_ret (v := .agg #[.int .i64 t0, .int .i64 t1, .int .i64 t2, .int .i64 t3, .int .i64 t4, .int .i64 t5]) (by simp [results, Try.results146, go_sem, z0, z1, z2, z3, z4, z5]) rfl ⟨t0, t1, t2, t3, t4, t5, rfl, HPP.out, HQQ.out, ?_⟩
      with_reducible (repeat (first | exact hR.out.b | refine Below.setCell ?_ ?_ _))
      all_goals (show w.heap.size ≤ w.heap.size + 1; omega)


end Go.Proofs.Ytfpmbkfikfdmkaa
