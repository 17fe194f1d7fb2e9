/- The walks of spec.l5Enough and spec.l5Seeds. -/
import Derived.Test.YtbnlgmcjklfcoaaSeeds
import Derived.Test.YtbnlgmcjklfcoaaSpecChoose
namespace Go.Proofs.Ytbnlgmcjklfcoaa
open Go.RowKit

set_option maxHeartbeats 1600000 in
theorem l5Enough_any (d : Int) (n c : Nat) (A : Option Addr) (ps : List EV) (w : World) (hp : Entries w A n ps) (hn : n ≤ maxLen) :
    Calls Try.prog 87 #[.slice A n c, .int .i64 d] w fun e w' => e = .returned (.int .i64 (enoughF (ps.map EV.val) d)) ∧ Below w.heap.size w w' := by
  have HP := Lib.hid hp
  have HL : Hid ((ps.map EV.val).length = n) := by show List.length _ = n; rw [List.length_map]; exact hp.1
  clear hp
  by_cases hz : entsF (ps.map EV.val) d = 0
  rotate_left
  · have HF := Lib.hid (enoughF_ents hz)
    have hz1 : (entsF (ps.map EV.val) d != 0) = true := by simpa using hz
    clear hz
    go_enter Try.func87, Try.ntmps87
    go_wp2_with fail
    refine (specEntriesFault_any _ _ _ _ ps _ HP.out hn).mono ?_
    rintro e W1 ⟨rfl, b1⟩
    go_wp2
    go_ret
    exact ⟨ret_i64 HF.out.symm, b1⟩
  have hz1 : (entsF (ps.map EV.val) d != 0) = false := by simp [hz]
  have HZ := Lib.hid hz
  clear hz
  by_cases h4 : n < 4
  · have HF := Lib.hid (enoughF_few HZ.out (by rw [HL.out]; exact h4))
    have h41 : (n : Int) < 4 := by omega
    go_enter Try.func87, Try.ntmps87
    go_wp2_with fail
    refine (specEntriesFault_any _ _ _ _ ps _ HP.out hn).mono ?_
    rintro e W1 ⟨rfl, b1⟩
    go_wp2
    go_ret
    exact ⟨ret_i64 HF.out.symm, b1⟩
  · have HF := Lib.hid (enoughF_ok HZ.out (by rw [HL.out]; exact h4))
    have h41 : ¬ (n : Int) < 4 := by omega
    go_enter Try.func87, Try.ntmps87
    go_wp2_with fail
    refine (specEntriesFault_any _ _ _ _ ps _ HP.out hn).mono ?_
    rintro e W1 ⟨rfl, b1⟩
    go_wp2
    go_ret
    exact ⟨ret_i64 HF.out.symm, b1⟩

theorem l1Area_is (U : Int) (b1 f1 n c1 c2 lo1 lo2 : Nat) (A1 A2 : Option Addr) (xs ys : List Int) (w : World)
    (ht : w.cell? ⟨b1, f1, none⟩ = some (.slice A1 n c1)) (ht' : w.cell? ⟨b1, f1 + 1, none⟩ = some (.slice A2 n c2))
    (h1 : Ints w lo1 A1 n xs) (h2 : Ints w lo2 A2 n ys) (hr : Right xs ys n) (hU : U = areaTo xs ys n) :
    Calls Try.prog 132 #[.pointer (some ⟨b1, f1, none⟩)] w fun e w' => e = .returned (.int .i64 U) ∧ Drawn w w' := by
  subst hU; exact l1Area_at b1 f1 n c1 c2 lo1 lo2 A1 A2 xs ys w ht ht' h1 h2 hr

theorem ret_twoN {a a' b b' : Value} (h : a = a') (h' : b = b') : Ending.returned (.tuple #[a, b]) = .returned (.tuple #[a', b']) := by rw [h, h']
theorem waste_small {x1 x2 z1 z2 : List Int} {dd : Nat} (h : Right x1 x2 dd) (h' : Right z1 z2 dd) : IntKind.i64.wrap (areaTo (mins x1 z1) (maxs x2 z2) dd - areaTo x1 x2 dd - areaTo z1 z2 dd) = areaTo (mins x1 z1) (maxs x2 z2) dd - areaTo x1 x2 dd - areaTo z1 z2 dd := by
  obtain ⟨u0, u1⟩ := area_small (right_union h h')
  obtain ⟨a0, a1⟩ := area_small h
  obtain ⟨c0, c1⟩ := area_small h'
  rw [IntKind.wrap_i64]; omega

set_option maxRecDepth 100000 in
set_option maxHeartbeats 6400000 in
theorem l5Seeds_any (dd n c : Nat) (A : Option Addr) (ps : List EV) (w : World) (hp : Entries w A n ps) (hn : n ≤ maxLen) (h2 : 2 ≤ n) (hr : ∀ (j : Nat) (u : EVal), (ps.map EV.val)[j]? = some u → Right u.1 u.2.1 dd) :
    Calls Try.prog 88 #[.slice A n c] w fun e w' => e = .returned (.tuple #[.int .i64 ((seedOut (ps.map EV.val) dd n n).1 : Nat), .int .i64 ((seedOut (ps.map EV.val) dd n n).2 : Nat)]) ∧ Below w.heap.size w w' := by
  have HP := Lib.hid hp
  have HR := Lib.hid hr
  clear hp hr
  unfold maxLen at hn
  obtain ⟨b, o, A1, c1, A2, c2, ref, nsn, x1, x2, rfl, hb, d0, d1, _, _, hx, i1, i2, R1⟩ := HP.out.boxAt (k := 0) (by omega) HR.out
  obtain ⟨b', o', B1, e1, B2, e2, ref', nsn', z1, z2, hA, _, f0, f1, _, _, hz, j1, j2, R2⟩ := HP.out.boxAt (k := 1) (by omega) HR.out
  injection hA with hA
  injection hA with hA1 hA2
  subst hA1 hA2
  simp only [Nat.zero_mul, Nat.add_zero, Nat.one_mul] at d0 d1 f0 f1
  obtain ⟨G, hG⟩ : ∃ G, G = areaTo (mins x1 z1) (maxs x2 z2) dd - areaTo x1 x2 dd := ⟨_, rfl⟩
  obtain ⟨U, hU⟩ : ∃ U, U = areaTo z1 z2 dd := ⟨_, rfl⟩
  have HW := waste_small R1 R2
  have HM := wasteAt_of (dd := dd) hx.out hz.out
  simp only at HM
  rw [← hG, ← hU] at HW HM
  replace HM := Lib.hid HM
  replace HW := Lib.hid HW
  have HG := Lib.hid hG
  have HU := Lib.hid hU
  clear hx hz hG hU
  have h1n : (1 : Int) < n := by omega
  have h0n : (0 : Int) < n := by omega
  have p0n : 0 < n := by omega
  have p1n : 1 < n := by omega
  go_enter Try.func88, Try.ntmps88
  go_wp2
  go_region_held3 (fun _ => True) (exact trivial)
    (first
      | (go_at_call 131; refine (l1Growth_is G b o b (o + 4) dd _ _ _ _ _ _ _ _ A1 A2 B1 B2 x1 x2 z1 z2 w.drew hb hb ⟨d0, d1, f0, f1⟩ i1.drew i2.drew j1.drew j2.drew R1 R2 HG.out).mono ?_
         rintro e W1 ⟨rfl, b1d⟩
         have b1 := Lib.hid (below_drawn b1d)
         clear b1d)
      | (go_at_call 132; refine (l1Area_is U b (o + 4) dd _ _ _ _ B1 B2 z1 z2 _ ((b1.out.cell (p := ⟨b, o + 4, none⟩) hb).trans f0) ((b1.out.cell (p := ⟨b, o + 4 + 1, none⟩) hb).trans f1) (j1.kept b1.out) (j2.kept b1.out) R2 HU.out).mono ?_
         rintro e W2 ⟨rfl, d2⟩
         have B := Lib.hid (b1.out.trans (d2.below.mono b1.out.size))
         clear d2))
  clear b1 d0 d1 f0 f1 i1 i2 j1 j2 R1 R2 HG HU
  try rw [HW.out]
  go_wp2
  go_loopw [4, 5, 6, 7] (fun x y m i wr => ∃ (k s1 s2 : Nat) (mm : Int), k ≤ n ∧ i = .int .i64 (k : Int) ∧ x = .int .i64 (s1 : Int) ∧ y = .int .i64 (s2 : Int) ∧ m = .int .i64 mm ∧ Hid (Below w.heap.size w wr) ∧ Hid (seedOut (ps.map EV.val) dd n k = (s1, s2)) ∧ Hid (wasteAt (ps.map EV.val) dd s1 s2 = mm)) (fun _ _ _ i _ => n - (intOf i).toNat)
  case atStart => exact ⟨0, 0, 1, G - U, Nat.zero_le _, rfl, rfl, rfl, by first | rfl | rw [HW.out], B, rfl, HM⟩
  case round =>
    obtain ⟨k, s1, s2, mm, hk, rfl, rfl, rfl, rfl, hB, hS, hM⟩ := hrel
    by_cases hlt : k < n
    · go_wp2
      go_loopw [4, 5, 6, 8] (fun x y m jv wr => ∃ (q j t1 t2 : Nat) (mm : Int), q ≤ n - (k + 1) ∧ Hid (j = k + 1 + q) ∧ jv = .int .i64 (j : Int) ∧ x = .int .i64 (t1 : Int) ∧ y = .int .i64 (t2 : Int) ∧ m = .int .i64 mm ∧ Hid (Below w.heap.size w wr) ∧ Hid (seedIn (ps.map EV.val) dd (s1, s2) k q = (t1, t2)) ∧ Hid (wasteAt (ps.map EV.val) dd t1 t2 = mm)) (fun _ _ _ jv _ => n - (intOf jv).toNat)
      case atStart => exact ⟨0, k + 1, s1, s2, mm, Nat.zero_le _, (rfl : k + 1 = k + 1 + 0), by go_num, rfl, rfl, rfl, hB, rfl, hM⟩
      case round =>
        obtain ⟨q, j, t1, t2, m2, hq, hj, rfl, rfl, rfl, rfl, hB2, hS2, hM2⟩ := hrel
        have hkj : k < j := by have := hj.out; omega
        by_cases hlt2 : j < n
        · obtain ⟨b', o', A1, c1, A2, c2, ref, nsn, x1, x2, hA, hb', d0, d1, _, _, hx, i1, i2, R1⟩ := HP.out.boxAt hlt HR.out
          injection hA with hA
          injection hA with hA1 hA2
          subst hA1 hA2
          obtain ⟨b', o', B1, e1, B2, e2, ref', nsn', z1, z2, hA, _, f0, f1, _, _, hz, j1, j2, R2⟩ := HP.out.boxAt hlt2 HR.out
          injection hA with hA
          injection hA with hA1 hA2
          subst hA1 hA2
          obtain ⟨G, hG⟩ : ∃ G, G = areaTo (mins x1 z1) (maxs x2 z2) dd - areaTo x1 x2 dd := ⟨_, rfl⟩
          obtain ⟨U, hU⟩ : ∃ U, U = areaTo z1 z2 dd := ⟨_, rfl⟩
          have HW := waste_small R1 R2
          have HM := wasteAt_of (dd := dd) hx.out hz.out
          simp only at HM
          rw [← hG, ← hU] at HW HM
          obtain ⟨V, hV⟩ : ∃ V, V = G - U := ⟨_, rfl⟩
          rw [← hV] at HW HM
          replace HM := Lib.hid HM
          replace HW := Lib.hid HW
          have HG := Lib.hid hG
          have HU := Lib.hid hU
          have HVV := Lib.hid hV
          clear hx hz hG hU hV
          have kb : b < wr.heap.size := Nat.lt_of_lt_of_le hb hB2.out.size
          have g0 := (hB2.out.cell (p := ⟨b, o + k * 4, none⟩) hb).trans d0
          have g1 := (hB2.out.cell (p := ⟨b, o + k * 4 + 1, none⟩) hb).trans d1
          have h0 := (hB2.out.cell (p := ⟨b, o + j * 4, none⟩) hb).trans f0
          have h1 := (hB2.out.cell (p := ⟨b, o + j * 4 + 1, none⟩) hb).trans f1
          have ki1 := i1.kept hB2.out
          have ki2 := i2.kept hB2.out
          have kj1 := j1.kept hB2.out
          have kj2 := j2.kept hB2.out
          clear d0 d1 f0 f1 i1 i2 j1 j2
          go_wp2
          go_region_held3 (fun _ => True) (exact trivial)
            (first
              | (go_at_call 131; refine (l1Growth_is G b (o + k * 4) b (o + j * 4) dd _ _ _ _ _ _ _ _ A1 A2 B1 B2 x1 x2 z1 z2 wr.drew kb kb ⟨g0, g1, h0, h1⟩ ki1.drew ki2.drew kj1.drew kj2.drew R1 R2 HG.out).mono ?_
                 rintro e W1 ⟨rfl, b1d⟩
                 have b1 := Lib.hid (below_drawn b1d)
                 clear b1d)
              | (go_at_call 132; refine (l1Area_is U b (o + j * 4) dd _ _ _ _ B1 B2 z1 z2 _ ((b1.out.cell (p := ⟨b, o + j * 4, none⟩) kb).trans h0) ((b1.out.cell (p := ⟨b, o + j * 4 + 1, none⟩) kb).trans h1) (kj1.kept b1.out) (kj2.kept b1.out) R2 HU.out).mono ?_
                 rintro e W2 ⟨rfl, d2⟩
                 have B2' := Lib.hid ((hB2.out.trans (b1.out.mono hB2.out.size)).trans (d2.below.mono (hB2.out.trans (b1.out.mono hB2.out.size)).size))
                 clear d2))
          clear b1 g0 g1 h0 h1 ki1 ki2 kj1 kj2 R1 R2 HG HU
          rw [← HVV.out] 
          try rw [HW.out]
          by_cases hgt : m2 < V
          · have HN : Hid (seedIn (ps.map EV.val) dd (s1, s2) k (q + 1) = (k, j)) := by
              show stepS _ _ (seedIn _ _ _ _ _) _ _ = _
              rw [hS2.out, ← hj.out]; exact stepS_yes (by rw [hM2.out, HM.out]; exact hgt)
            go_wp2
            go_roundw
            case rel => exact ⟨q + 1, j + 1, k, j, V, by have := hj.out; omega, Lib.hid (by have := hj.out; omega), by go_num, rfl, rfl, by first | rfl | rw [HW.out], B2', HN, HM⟩
            case measure => simp [intOf]; omega
          · have HN : Hid (seedIn (ps.map EV.val) dd (s1, s2) k (q + 1) = (t1, t2)) := by
              show stepS _ _ (seedIn _ _ _ _ _) _ _ = _
              rw [hS2.out, ← hj.out]; exact stepS_no (by rw [hM2.out, HM.out]; exact hgt)
            go_wp2
            go_roundw
            case rel => exact ⟨q + 1, j + 1, t1, t2, m2, by have := hj.out; omega, Lib.hid (by have := hj.out; omega), by go_num, rfl, rfl, rfl, B2', HN, hM2⟩
            case measure => simp [intOf]; omega
        · have hqn : q = n - (k + 1) := by have := hj.out; omega
          subst hqn
          have HN : Hid (seedOut (ps.map EV.val) dd n (k + 1) = (t1, t2)) := by
            show seedIn _ _ (seedOut _ _ _ _) _ _ = _
            rw [hS.out]; exact hS2.out
          go_wp2
          go_roundw
          case rel => exact ⟨k + 1, t1, t2, m2, by omega, by go_num, rfl, rfl, rfl, hB2, HN, hM2⟩
          case measure => simp [intOf]; omega
    · have hkn : k = n := by omega
      subst hkn
      go_wp2
      go_ret2
      exact ⟨ret_twoN (int_valS (by rw [hS.out])) (int_valS (by rw [hS.out])), hB.out⟩

end Go.Proofs.Ytbnlgmcjklfcoaa
