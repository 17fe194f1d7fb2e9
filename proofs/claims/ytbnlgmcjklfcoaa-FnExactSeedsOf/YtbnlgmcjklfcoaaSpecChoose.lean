/- The walk of spec.l5Choose, and of spec.ChooseEntry. -/
import Derived.Test.YtbnlgmcjklfcoaaBest
import Derived.Test.YtbnlgmcjklfcoaaSpecEntries
namespace Go.Proofs.Ytbnlgmcjklfcoaa
open Go.RowKit

theorem int_valS {a b : Nat} (h : a = b) : Value.int .i64 (a : Int) = .int .i64 (b : Int) := by rw [h]
theorem l1Growth_is (G : Int) (b1 f1 b2 f2 n c1 c2 c3 c4 lo1 lo2 lo3 lo4 : Nat) (A1 A2 A3 A4 : Option Addr) (x1 x2 x3 x4 : List Int) (w : World) (hb1 : b1 < w.heap.size) (hb2 : b2 < w.heap.size)
    (ht : TwoAt b1 f1 b2 f2 (.slice A1 n c1) (.slice A2 n c2) (.slice A3 n c3) (.slice A4 n c4) w) (h1 : Ints w lo1 A1 n x1) (h2 : Ints w lo2 A2 n x2) (h3 : Ints w lo3 A3 n x3) (h4 : Ints w lo4 A4 n x4) (hr : Right x1 x2 n) (hr' : Right x3 x4 n) (hG : G = areaTo (mins x1 x3) (maxs x2 x4) n - areaTo x1 x2 n) :
    Calls Try.prog 131 #[.pointer (some ⟨b1, f1, none⟩), .pointer (some ⟨b2, f2, none⟩)] w fun e w' => e = .returned (.int .i64 G) ∧ Below w.heap.size w w' := by
  subst hG
  exact l1Growth_at b1 f1 b2 f2 n c1 c2 c3 c4 lo1 lo2 lo3 lo4 A1 A2 A3 A4 x1 x2 x3 x4 w hb1 hb2 ht h1 h2 h3 h4 hr hr'
theorem l1Area_q (U : Int) (b1 f1 n c1 c2 lo1 lo2 m : Nat) (A1 A2 : Option Addr) (xs ys : List Int) (w : World)
    (ht : w.cell? ⟨b1, f1, none⟩ = some (.slice A1 n c1)) (ht' : w.cell? ⟨b1, f1 + 1, none⟩ = some (.slice A2 n c2))
    (h1 : Ints w lo1 A1 n xs) (h2 : Ints w lo2 A2 n ys) (hr : Right xs ys n) (hU : U = areaTo xs ys n) :
    Calls Try.prog 132 #[.pointer (some ⟨b1, f1, none⟩)] (w.drewN m) fun e w' => e = .returned (.int .i64 U) ∧ ∃ m', w' = w.drewN m' := by
  subst hU
  refine (l1Area_at b1 f1 n c1 c2 lo1 lo2 A1 A2 xs ys (w.drewN m) ht ht' (h1.kept (below_draws (Below.refl _ _) m)) (h2.kept (below_draws (Below.refl _ _) m)) hr).mono ?_
  rintro e w' ⟨he, q, rfl⟩
  exact ⟨he, m + q, World.drewN_drewN _ _ _⟩

/-- The k-th entry's cells and box, with the box's length told. -/
theorem Entries.boxAt {w : World} {n k dd : Nat} {A : Option Addr} {ps : List EV} (h : Entries w A n ps) (hk : k < n) (hr : ∀ (j : Nat) (u : EVal), (ps.map EV.val)[j]? = some u → Right u.1 u.2.1 dd) :
    ∃ b o A1 c1 A2 c2 ref nsn x1 x2, A = some ⟨b, o, none⟩ ∧ b < w.heap.size ∧ w.cell? ⟨b, o + k * 4, none⟩ = some (.slice A1 dd c1) ∧ w.cell? ⟨b, o + k * 4 + 1, none⟩ = some (.slice A2 dd c2) ∧ w.cell? ⟨b, o + k * 4 + 2, none⟩ = some (.int .i64 ref) ∧ w.cell? ⟨b, o + k * 4 + 3, none⟩ = some (.int .i64 nsn) ∧
      Hid ((ps.map EV.val)[k]? = some (x1, x2, ref, nsn)) ∧ Ints w 0 A1 dd x1 ∧ Ints w 0 A2 dd x2 ∧ Right x1 x2 dd := by
  obtain ⟨b, o, A1, n1, c1, A2, n2, c2, ref, nsn, x1, x2, rfl, hb, d0, d1, d2, d3, hx, i1, i2, m1, m2⟩ := h.cellAt hk
  have hx' := eval_get hx.out
  have R := hr k _ hx'
  have e1 : n1 = dd := i1.1.symm.trans R.len
  have e2 : n2 = dd := i2.1.symm.trans R.len'
  subst e1
  subst e2
  exact ⟨b, o, A1, c1, A2, c2, ref, nsn, x1, x2, rfl, hb, d0, d1, d2, d3, hx', i1, i2, R⟩

set_option maxRecDepth 100000 in
set_option maxHeartbeats 6400000 in
theorem l5Choose_any (bR dd n c c3 c4 : Nat) (A A3 A4 : Option Addr) (ps : List EV) (y1 y2 : List Int) (w : World) (hp : Entries w A n ps) (hn : n ≤ maxLen) (h0 : 0 < n) (hr : ∀ (j : Nat) (u : EVal), (ps.map EV.val)[j]? = some u → Right u.1 u.2.1 dd)
    (hb : bR < w.heap.size) (t0 : w.cell? ⟨bR, 0, none⟩ = some (.slice A3 dd c3)) (t1 : w.cell? ⟨bR, 1, none⟩ = some (.slice A4 dd c4)) (h3 : Ints w 0 A3 dd y1) (h4 : Ints w 0 A4 dd y2) (hR : Right y1 y2 dd) :
    Calls Try.prog 80 #[.slice A n c, .pointer (some ⟨bR, 0, none⟩)] w fun e w' => e = .returned (.int .i64 (bestTo (bidsE y1 y2 dd (ps.map EV.val)) n)) ∧ Below w.heap.size w w' := by
  have HP := Lib.hid hp
  have HR := Lib.hid hr
  have T0 := Lib.hid t0
  have T1 := Lib.hid t1
  have I3 := Lib.hid h3
  have I4 := Lib.hid h4
  have HY := Lib.hid hR
  clear hp hr t0 t1 h3 h4 hR
  unfold maxLen at hn
  go_enter Try.func80, Try.ntmps80
  go_wp2
  go_loopw [5, 6] (fun m i wr => ∃ k : Nat, 1 ≤ k ∧ k ≤ n ∧ i = .int .i64 k ∧ m = .int .i64 (bestTo (bidsE y1 y2 dd (ps.map EV.val)) k) ∧ Hid (Below w.heap.size w wr)) (fun _ i _ => n - (intOf i).toNat)
  case atStart => exact ⟨1, Nat.le_refl _, h0, rfl, by rw [bestTo_one]; rfl, Below.refl _ _⟩
  case round =>
    obtain ⟨k, hk1, hk', rfl, rfl, hB⟩ := hrel
    by_cases hlt : k < n
    · have hbl : bestTo (bidsE y1 y2 dd (ps.map EV.val)) k < n := Nat.lt_trans (bestTo_lt _ k (by omega)) hlt
      obtain ⟨b, o, A1, c1, A2, c2, ref, nsn, x1, x2, rfl, hb1, d0, d1, _, _, hx, i1, i2, R1⟩ := HP.out.boxAt hlt HR.out
      obtain ⟨b', o', B1, e1, B2, e2, ref', nsn', z1, z2, hA, _, f0, f1, _, _, hz, j1, j2, R2⟩ := HP.out.boxAt hbl HR.out
      injection hA with hA
      injection hA with hA1 hA2
      subst hA1 hA2
      have HK : Hid ((bidsE y1 y2 dd (ps.map EV.val)).getD k (0, 0) = bidE y1 y2 dd (x1, x2, ref, nsn)) := bidsE_at hx.out
      have HZ : Hid ((bidsE y1 y2 dd (ps.map EV.val)).getD (bestTo (bidsE y1 y2 dd (ps.map EV.val)) k) (0, 0) = bidE y1 y2 dd (z1, z2, ref', nsn')) := bidsE_at hz.out
      clear hx hz
      obtain ⟨j, hj⟩ : ∃ j, j = bestTo (bidsE y1 y2 dd (ps.map EV.val)) k := ⟨_, rfl⟩
      have HJ := Lib.hid hj
      rw [← hj] at hbl f0 f1
      rw [← hj]
      replace HZ : Hid ((bidsE y1 y2 dd (ps.map EV.val)).getD (bestTo (bidsE y1 y2 dd (ps.map EV.val)) k) (0, 0) = bidE y1 y2 dd (z1, z2, ref', nsn')) := HZ
      clear hj
      obtain ⟨G, hG⟩ : ∃ G, G = areaTo (mins x1 y1) (maxs x2 y2) dd - areaTo x1 x2 dd := ⟨_, rfl⟩
      obtain ⟨H, hH⟩ : ∃ H, H = areaTo (mins z1 y1) (maxs z2 y2) dd - areaTo z1 z2 dd := ⟨_, rfl⟩
      obtain ⟨U, hU⟩ : ∃ U, U = areaTo x1 x2 dd := ⟨_, rfl⟩
      obtain ⟨V, hV⟩ : ∃ V, V = areaTo z1 z2 dd := ⟨_, rfl⟩
      have HC1 : Hid ((bidsE y1 y2 dd (ps.map EV.val)).getD k (0, 0) = (G, U)) := by show _ = _; rw [HK.out, hG, hU]; rfl
      have HC2 : Hid ((bidsE y1 y2 dd (ps.map EV.val)).getD (bestTo (bidsE y1 y2 dd (ps.map EV.val)) k) (0, 0) = (H, V)) := by show _ = _; rw [HZ.out, hH, hV]; rfl
      clear HK HZ
      replace hG := Lib.hid hG
      replace hH := Lib.hid hH
      replace hU := Lib.hid hU
      replace hV := Lib.hid hV
      have kb := Nat.lt_of_lt_of_le hb1 hB.out.size
      have kR := Nat.lt_of_lt_of_le hb hB.out.size
      go_wp2_with fail
      refine (l1Growth_is G b (o + k * 4) bR 0 dd _ _ _ _ _ _ _ _ A1 A2 A3 A4 x1 x2 y1 y2 _ kb kR ⟨(hB.out.cell (p := ⟨b, o + k * 4, none⟩) hb1).trans d0, (hB.out.cell (p := ⟨b, o + k * 4 + 1, none⟩) hb1).trans d1, (hB.out.cell (p := ⟨bR, 0, none⟩) hb).trans T0.out, (hB.out.cell (p := ⟨bR, 1, none⟩) hb).trans T1.out⟩ (i1.kept hB.out) (i2.kept hB.out) (I3.out.kept hB.out) (I4.out.kept hB.out) R1 HY.out hG.out).mono ?_
      rintro e W1 ⟨rfl, b1⟩
      replace hB := Lib.hid (hB.out.trans (b1.mono hB.out.size))
      clear b1
      replace kb := Nat.lt_of_lt_of_le hb1 hB.out.size
      replace kR := Nat.lt_of_lt_of_le hb hB.out.size
      go_wp2_with fail
      refine (l1Growth_is H b (o + j * 4) bR 0 dd _ _ _ _ _ _ _ _ B1 B2 A3 A4 z1 z2 y1 y2 _ kb kR ⟨(hB.out.cell (p := ⟨b, o + j * 4, none⟩) hb1).trans f0, (hB.out.cell (p := ⟨b, o + j * 4 + 1, none⟩) hb1).trans f1, (hB.out.cell (p := ⟨bR, 0, none⟩) hb).trans T0.out, (hB.out.cell (p := ⟨bR, 1, none⟩) hb).trans T1.out⟩ (j1.kept hB.out) (j2.kept hB.out) (I3.out.kept hB.out) (I4.out.kept hB.out) R2 HY.out hH.out).mono ?_
      rintro e W2 ⟨rfl, b2⟩
      replace hB := Lib.hid (hB.out.trans (b2.mono hB.out.size))
      clear b2
      replace kb := Nat.lt_of_lt_of_le hb1 hB.out.size
      have q0 := Lib.hid ((hB.out.cell (p := ⟨b, o + k * 4, none⟩) hb1).trans d0)
      have q1 := Lib.hid ((hB.out.cell (p := ⟨b, o + k * 4 + 1, none⟩) hb1).trans d1)
      have g0 := Lib.hid ((hB.out.cell (p := ⟨b, o + j * 4, none⟩) hb1).trans f0)
      have g1 := Lib.hid ((hB.out.cell (p := ⟨b, o + j * 4 + 1, none⟩) hb1).trans f1)
      have hi1 := Lib.hid (i1.kept hB.out)
      have hi2 := Lib.hid (i2.kept hB.out)
      have hj1 := Lib.hid (j1.kept hB.out)
      have hj2 := Lib.hid (j2.kept hB.out)
      replace R1 := Lib.hid R1
      replace R2 := Lib.hid R2
      clear d0 d1 f0 f1 i1 i2 j1 j2
      by_cases hGH : G < H
      · have HN : Hid (bestTo (bidsE y1 y2 dd (ps.map EV.val)) (k + 1) = k) := bestTo_yes (by rw [HC1.out, HC2.out, ltK_iff]; exact Or.inl hGH)
        have dGH : decide (G < H) = true := decide_eq_true hGH
        clear hGH
        go_wp2
        go_quiet (fail)
        go_wp2
        go_roundw
        case rel => exact ⟨k + 1, by omega, by omega, by go_num, int_valS (by rw [HN.out]), below_draws hB.out _⟩
        case measure => simp [intOf]; omega
      · have dGH : decide (G < H) = false := decide_eq_false hGH
        by_cases hE : G = H
        · have hE1 : (G == H) = true := by simpa using hE
          by_cases hUV : U < V
          · have dUV : decide (U < V) = true := decide_eq_true hUV
            have HN : Hid (bestTo (bidsE y1 y2 dd (ps.map EV.val)) (k + 1) = k) := bestTo_yes (by rw [HC1.out, HC2.out, ltK_iff]; exact Or.inr ⟨hE, hUV⟩)
            clear hE
            go_wp2
            have QA : ∀ m, Calls Try.prog 132 #[.pointer (some ⟨b, o + k * 4, none⟩)] (W2.drewN m) (fun e w' => e = .returned (.int .i64 U) ∧ ∃ m', w' = W2.drewN m') := fun m => l1Area_q U b (o + k * 4) dd c1 c2 0 0 m A1 A2 x1 x2 W2 q0.out q1.out hi1.out hi2.out R1.out hU.out
            have QB : ∀ m, Calls Try.prog 132 #[.pointer (some ⟨b, o + j * 4, none⟩)] (W2.drewN m) (fun e w' => e = .returned (.int .i64 V) ∧ ∃ m', w' = W2.drewN m') := fun m => l1Area_q V b (o + j * 4) dd e1 e2 0 0 m B1 B2 z1 z2 W2 g0.out g1.out hj1.out hj2.out R2.out hV.out
            clear q0 q1 g0 g1 hi1 hi2 hj1 hj2 R1 R2 hU hV
            go_quiet ((go_at_call 132; first | with_reducible exact QA _ | with_reducible exact QB _))
            go_wp2
            go_roundw
            case rel => exact ⟨k + 1, by omega, by omega, by go_num, int_valS (by rw [HN.out]), below_draws hB.out _⟩
            case measure => simp [intOf]; omega
          · have dUV : decide (U < V) = false := decide_eq_false hUV
            have HN : Hid (bestTo (bidsE y1 y2 dd (ps.map EV.val)) (k + 1) = j) := (bestTo_no (by rw [HC1.out, HC2.out, ltK_not]; omega)).trans HJ.out.symm
            clear hE
            go_wp2
            have QA : ∀ m, Calls Try.prog 132 #[.pointer (some ⟨b, o + k * 4, none⟩)] (W2.drewN m) (fun e w' => e = .returned (.int .i64 U) ∧ ∃ m', w' = W2.drewN m') := fun m => l1Area_q U b (o + k * 4) dd c1 c2 0 0 m A1 A2 x1 x2 W2 q0.out q1.out hi1.out hi2.out R1.out hU.out
            have QB : ∀ m, Calls Try.prog 132 #[.pointer (some ⟨b, o + j * 4, none⟩)] (W2.drewN m) (fun e w' => e = .returned (.int .i64 V) ∧ ∃ m', w' = W2.drewN m') := fun m => l1Area_q V b (o + j * 4) dd e1 e2 0 0 m B1 B2 z1 z2 W2 g0.out g1.out hj1.out hj2.out R2.out hV.out
            clear q0 q1 g0 g1 hi1 hi2 hj1 hj2 R1 R2 hU hV
            go_quiet ((go_at_call 132; first | with_reducible exact QA _ | with_reducible exact QB _))
            go_wp2
            go_roundw
            case rel => exact ⟨k + 1, by omega, by omega, by go_num, int_valS (by rw [HN.out]), below_draws hB.out _⟩
            case measure => simp [intOf]; omega
        · have hE1 : (G == H) = false := by simpa using hE
          have HN : Hid (bestTo (bidsE y1 y2 dd (ps.map EV.val)) (k + 1) = j) := (bestTo_no (by rw [HC1.out, HC2.out, ltK_not]; omega)).trans HJ.out.symm
          clear hE
          go_wp2
          go_quiet (fail)
          go_wp2
          go_roundw
          case rel => exact ⟨k + 1, by omega, by omega, by go_num, int_valS (by rw [HN.out]), below_draws hB.out _⟩
          case measure => simp [intOf]; omega
    · have hkn : k = n := by omega
      subst hkn
      go_wp2
      go_ret
      exact ⟨rfl, hB.out⟩

end Go.Proofs.Ytbnlgmcjklfcoaa
