/- The walks of sameRetired, slices.EqualFunc over retired places, spec.SameArenas, impl.SameArenas. -/
import Derived.Test.YtdkaofmlgaofgaaSameNodes
import Derived.Test.YtdkaofmlgaofgaaArenas
namespace Go.Proofs.Ytdkaofmlgaofgaa
open Go.RowKit

instance : DecidableEq RVal := fun a b => by unfold RVal at a b; infer_instance
/-- Whether two arenas say the same. -/
def sameA (d d' : Int) (ns ns' : List NV) (fs fs' : List Int) (rs rs' : List RV) : Bool := (d == d') && sameL NV.val ns ns' && decide (fs = fs') && sameL RV.val rs rs'
theorem below_same {w w' : World} (h : ∃ q, w' = w.drewN q) : Below w.heap.size w w' := by obtain ⟨q, rfl⟩ := h; exact below_draws (Below.refl _ _) q

set_option maxHeartbeats 1600000 in
theorem sameRetired_any (id id' : Int) (n1 c1 n3 c3 lo1 lo3 : Nat) (A1 A3 : Option Addr) (x1 x3 : List Int) (w : World) (h1 : Ints w lo1 A1 n1 x1) (h3 : Ints w lo3 A3 n3 x3) (m1 : n1 ≤ maxLen) :
    Calls Try.prog 25 #[.agg #[.int .i64 id, .slice A1 n1 c1], .agg #[.int .i64 id', .slice A3 n3 c3]] w fun e w' => e = .returned (.bool ((id == id') && decide (x1 = x3))) ∧ Below w.heap.size w w' := by
  have I_1 := Lib.hid h1
  have I_3 := Lib.hid h3
  clear h1 h3
  have B := Lib.hid (below_alloc w (.cells #[.int .i64 id, .slice A1 n1 c1] 48))
  replace B := Lib.hid (B.out.alloc B.out.size (.cells #[.int .i64 id', .slice A3 n3 c3] 48))
  by_cases hr : id = id'
  rotate_left
  · have e1 : (id == id') = false := by simpa using hr
    clear hr
    go_enter Try.func25, Try.ntmps25
    go_wp2
    go_ret
    exact ⟨ret_bool (by simp [e1]), B.out⟩
  have e1 : (id == id') = true := by simpa using hr
  clear hr
  go_enter Try.func25, Try.ntmps25
  go_wp2_with fail
  refine (slicesEqual_any _ _ _ _ _ _ _ _ x1 x3 _ (I_1.out.kept B.out) (I_3.out.kept B.out) m1).mono ?_
  rintro e W1 ⟨rfl, hq⟩
  have b1 := below_same hq
  replace B := Lib.hid (B.out.trans (b1.mono B.out.size))
  clear b1 hq
  generalize hsf : decide (x1 = x3) = sf
  have HSF := Lib.hid hsf
  clear hsf
  go_wp2
  go_ret
  exact ⟨ret_bool (by rw [HSF.out]; simp [e1]), B.out⟩

set_option maxHeartbeats 3200000 in
theorem equalFuncR_any (n n' c c' : Nat) (A A' : Option Addr) (ps qs : List RV) (w : World) (hp : Rets w A n ps) (hq : Rets w A' n' qs) (hn : n ≤ maxLen) (hn' : n' ≤ maxLen) :
    Calls Try.prog 24 #[.slice A n c, .slice A' n' c', .func (.func 25) #[] #[]] w fun e w' => e = .returned (.bool (sameL RV.val ps qs)) ∧ Below w.heap.size w w' := by
  have HP := Lib.hid hp
  have HQ := Lib.hid hq
  clear hp hq
  unfold maxLen at hn hn'
  by_cases hnn : n = n'
  rotate_left
  · have hne : ((n : Int) != n') = true := by simp; omega
    have HF : Hid (sameL RV.val ps qs = false) := sameL_len (by rw [HP.out.1, HQ.out.1]; exact hnn)
    clear hnn
    go_enter Try.func24, Try.ntmps24
    go_wp2
    go_ret
    exact ⟨ret_bool HF.out.symm, Below.refl _ _⟩
  subst hnn
  have hne : ((n : Int) != n) = false := by simp
  go_enter Try.func24, Try.ntmps24
  go_wp2
  go_loopw [17] (fun i wr => ∃ k : Nat, k ≤ n ∧ i = .int .i64 k ∧ Hid (Below w.heap.size w wr) ∧ Hid (∀ (j : Nat) (p q : RV), j < k → ps[j]? = some p → qs[j]? = some q → RV.val p = RV.val q)) (fun i _ => n - (intOf i).toNat)
  case atStart => exact ⟨0, Nat.zero_le _, rfl, Below.refl _ _, fun j p q hj => absurd hj (Nat.not_lt_zero _)⟩
  case round =>
    obtain ⟨k, hk', rfl, hB, hA⟩ := hrel
    by_cases hlt : k < n
    · obtain ⟨b, o, id, A1, n1, c1, x1, rfl, hb, d0, d1, hx, i1, m1⟩ := HP.out.cellAt hlt
      obtain ⟨b', o', id', A3, n3, c3, x3, rfl, hb', d4, d5, hy, i3, m3⟩ := HQ.out.cellAt hlt
      have kb' := Nat.lt_of_lt_of_le hb' hB.out.size
      have e0 : wr.cell? ⟨b, o + k * 2, none⟩ = some (.int .i64 id) := (hB.out.cell (p := ⟨b, o + k * 2, none⟩) hb).trans d0
      have e1 : wr.cell? ⟨b, o + k * 2 + 1, none⟩ = some (.slice A1 n1 c1) := (hB.out.cell (p := ⟨b, o + k * 2 + 1, none⟩) hb).trans d1
      have hB1 := Lib.hid (below_alloc wr (.cells #[.int .i64 id, .slice A1 n1 c1] 48))
      have e4 : (wr.alloc (.cells #[.int .i64 id, .slice A1 n1 c1] 48)).cell? ⟨b', o' + k * 2, none⟩ = some (.int .i64 id') := (hB1.out.cell (p := ⟨b', o' + k * 2, none⟩) kb').trans ((hB.out.cell (p := ⟨b', o' + k * 2, none⟩) hb').trans d4)
      have e5 : (wr.alloc (.cells #[.int .i64 id, .slice A1 n1 c1] 48)).cell? ⟨b', o' + k * 2 + 1, none⟩ = some (.slice A3 n3 c3) := (hB1.out.cell (p := ⟨b', o' + k * 2 + 1, none⟩) kb').trans ((hB.out.cell (p := ⟨b', o' + k * 2 + 1, none⟩) hb').trans d5)
      have hB2 := Lib.hid (hB.out.alloc hB.out.size (.cells #[.int .i64 id, .slice A1 n1 c1] 48))
      replace hB2 := Lib.hid (hB2.out.alloc hB2.out.size (.cells #[.int .i64 id', .slice A3 n3 c3] 48))
      clear d0 d1 d4 d5 hB1
      cases hsm : ((id == id') && decide (x1 = x3))
      · have HS := Lib.hid hsm
        have HF : Hid (sameL RV.val ps qs = false) := sameL_at hx.out hy.out (fun e => by
          simp only [RV.val, Prod.mk.injEq] at e
          simp [e.1, e.2] at hsm)
        clear hsm hx hy hA
        go_wp2_with fail
        refine (sameRetired_any _ _ _ _ _ _ _ _ _ _ x1 x3 _ (i1.out.kept hB2.out) (i3.out.kept hB2.out) m1).mono ?_
        rintro e W1 ⟨rfl, b1⟩
        rw [HS.out]
        go_wp2
        go_ret
        exact ⟨ret_bool HF.out.symm, hB2.out.trans (b1.mono hB2.out.size)⟩
      · have HS := Lib.hid hsm
        have hA' := Lib.hid (agreeL_next (f := RV.val) hA.out hx.out hy.out (by
          simp at hsm
          simp only [RV.val, Prod.mk.injEq]
          exact hsm))
        clear hsm hx hy hA
        go_wp2_with fail
        refine (sameRetired_any _ _ _ _ _ _ _ _ _ _ x1 x3 _ (i1.out.kept hB2.out) (i3.out.kept hB2.out) m1).mono ?_
        rintro e W1 ⟨rfl, b1⟩
        rw [HS.out]
        have hB' := Lib.hid (hB2.out.trans (b1.mono hB2.out.size))
        clear hB hB2 b1 e0 e1 e4 e5
        go_wp2
        go_roundw
        case rel => exact ⟨k + 1, by omega, by go_num, hB', hA'⟩
        case measure => simp [intOf]; omega
    · have HF : Hid (sameL RV.val ps qs = true) := sameL_all (by rw [HP.out.1, HQ.out.1]) fun j p q hj hp' hq' => hA.out j p q (by have := HP.out.1; omega) hp' hq'
      clear hA
      go_wp2
      go_ret
      exact ⟨ret_bool HF.out.symm, hB.out⟩

set_option maxRecDepth 100000 in
set_option maxHeartbeats 6400000 in
theorem implSameArenas_any (d d' : Int) (A1 A2 A3 A4 A5 A6 : Option Addr) (n1 c1 n2 c2 n3 c3 n4 c4 n5 c5 n6 c6 : Nat) (ns ns' : List NV) (fs fs' : List Int) (rs rs' : List RV) (w : World) (hp : ArenaL w A1 A2 A3 n1 n2 n3 ns fs rs) (hq : ArenaL w A4 A5 A6 n4 n5 n6 ns' fs' rs') :
    Calls Try.prog 12 #[.agg #[.int .i64 d, .slice A1 n1 c1, .slice A2 n2 c2, .slice A3 n3 c3], .agg #[.int .i64 d', .slice A4 n4 c4, .slice A5 n5 c5, .slice A6 n6 c6]] w fun e w' => e = .returned (.bool (sameA d d' ns ns' fs fs' rs rs')) ∧ Below w.heap.size w w' := by
  have HP := Lib.hid hp
  have HQ := Lib.hid hq
  have m1 := hp.m1
  have m2 := hp.m2
  have m3 := hp.m3
  have m4 := hq.m1
  have m5 := hq.m2
  have m6 := hq.m3
  clear hp hq
  have B := Lib.hid (below_alloc w (.cells #[.int .i64 d, .slice A1 n1 c1, .slice A2 n2 c2, .slice A3 n3 c3] 34))
  replace B := Lib.hid (B.out.alloc B.out.size (.cells #[.int .i64 d', .slice A4 n4 c4, .slice A5 n5 c5, .slice A6 n6 c6] 34))
  have L_a := Lib.hid ((Lies.new w 34 #[.int .i64 d, .slice A1 n1 c1, .slice A2 n2 c2, .slice A3 n3 c3]).alloc (.cells #[.int .i64 d', .slice A4 n4 c4, .slice A5 n5 c5, .slice A6 n6 c6] 34))
  have L_b := Lib.hid (Lies.new (w.alloc (.cells #[.int .i64 d, .slice A1 n1 c1, .slice A2 n2 c2, .slice A3 n3 c3] 34)) 34 #[.int .i64 d', .slice A4 n4 c4, .slice A5 n5 c5, .slice A6 n6 c6])
  simp only [World.size_alloc] at L_b
  by_cases hd : d = d'
  rotate_left
  · have g1 : (d != d') = true := by simpa using hd
    have HF : Hid (sameA d d' ns ns' fs fs' rs rs' = false) := by show sameA _ _ _ _ _ _ _ _ = _; unfold sameA; simp [hd]
    clear hd
    go_enter Try.func12, Try.ntmps12
    go_wp2
    go_ret
    exact ⟨ret_bool HF.out.symm, B.out⟩
  have g1 : (d != d') = false := by simp [hd]
  have HD : Hid ((d == d') = true) := by show (d == d') = _; simpa using hd
  clear hd
  cases hn : sameL NV.val ns ns'
  · have HN := Lib.hid hn
    have HF : Hid (sameA d d' ns ns' fs fs' rs rs' = false) := by show sameA _ _ _ _ _ _ _ _ = _; unfold sameA; simp [hn]
    clear hn
    go_enter Try.func12, Try.ntmps12
    go_wp2_with fail
    refine (implSameNodes_any _ _ _ _ _ _ ns ns' _ (HP.out.N.kept B.out) (HQ.out.N.kept B.out) m1 m4).mono ?_
    rintro e W1 ⟨rfl, b1⟩
    rw [HN.out]
    replace L_a := Lib.hid (L_a.out.kept b1 L_a.out.inside)
    replace L_b := Lib.hid (L_b.out.kept b1 L_b.out.inside)
    replace B := Lib.hid (B.out.trans (b1.mono B.out.size))
    clear b1
    go_wp2
    go_ret
    exact ⟨ret_bool HF.out.symm, B.out⟩
  have HN := Lib.hid hn
  clear hn
  cases he : decide (fs = fs')
  · have HE := Lib.hid he
    have HF : Hid (sameA d d' ns ns' fs fs' rs rs' = false) := by show sameA _ _ _ _ _ _ _ _ = _; unfold sameA; simp [he]
    clear he
    go_enter Try.func12, Try.ntmps12
    go_wp2_with fail
    refine (implSameNodes_any _ _ _ _ _ _ ns ns' _ (HP.out.N.kept B.out) (HQ.out.N.kept B.out) m1 m4).mono ?_
    rintro e W1 ⟨rfl, b1⟩
    rw [HN.out]
    replace L_a := Lib.hid (L_a.out.kept b1 L_a.out.inside)
    replace L_b := Lib.hid (L_b.out.kept b1 L_b.out.inside)
    replace B := Lib.hid (B.out.trans (b1.mono B.out.size))
    clear b1
    have qa : W1.cell? ⟨w.heap.size, 2, none⟩ = some (.slice A2 n2 c2) := L_a.out.cell 2
    have qb : W1.cell? ⟨w.heap.size + 1, 2, none⟩ = some (.slice A5 n5 c5) := L_b.out.cell 2
    go_wp2_with fail
    refine (slicesEqual_any _ _ _ _ _ _ _ _ fs fs' _ (HP.out.F.kept B.out) (HQ.out.F.kept B.out) m2).mono ?_
    rintro e W2 ⟨rfl, hq⟩
    rw [HE.out]
    have b2 := below_same hq
    clear hq qa qb
    replace L_a := Lib.hid (L_a.out.kept b2 L_a.out.inside)
    replace L_b := Lib.hid (L_b.out.kept b2 L_b.out.inside)
    replace B := Lib.hid (B.out.trans (b2.mono B.out.size))
    clear b2
    go_wp2
    go_ret
    exact ⟨ret_bool HF.out.symm, B.out⟩
  have HE := Lib.hid he
  clear he
  have HA : Hid (sameA d d' ns ns' fs fs' rs rs' = sameL RV.val rs rs') := by show sameA _ _ _ _ _ _ _ _ = _; unfold sameA; rw [HD.out, HN.out, HE.out]; simp
  go_enter Try.func12, Try.ntmps12
  go_wp2_with fail
  refine (implSameNodes_any _ _ _ _ _ _ ns ns' _ (HP.out.N.kept B.out) (HQ.out.N.kept B.out) m1 m4).mono ?_
  rintro e W1 ⟨rfl, b1⟩
  rw [HN.out]
  replace L_a := Lib.hid (L_a.out.kept b1 L_a.out.inside)
  replace L_b := Lib.hid (L_b.out.kept b1 L_b.out.inside)
  replace B := Lib.hid (B.out.trans (b1.mono B.out.size))
  clear b1
  have qa : W1.cell? ⟨w.heap.size, 2, none⟩ = some (.slice A2 n2 c2) := L_a.out.cell 2
  have qb : W1.cell? ⟨w.heap.size + 1, 2, none⟩ = some (.slice A5 n5 c5) := L_b.out.cell 2
  go_wp2_with fail
  refine (slicesEqual_any _ _ _ _ _ _ _ _ fs fs' _ (HP.out.F.kept B.out) (HQ.out.F.kept B.out) m2).mono ?_
  rintro e W2 ⟨rfl, hq⟩
  rw [HE.out]
  have b2 := below_same hq
  clear hq qa qb
  replace L_a := Lib.hid (L_a.out.kept b2 L_a.out.inside)
  replace L_b := Lib.hid (L_b.out.kept b2 L_b.out.inside)
  replace B := Lib.hid (B.out.trans (b2.mono B.out.size))
  clear b2
  have qa : W2.cell? ⟨w.heap.size, 3, none⟩ = some (.slice A3 n3 c3) := L_a.out.cell 3
  have qb : W2.cell? ⟨w.heap.size + 1, 3, none⟩ = some (.slice A6 n6 c6) := L_b.out.cell 3
  go_wp2_with fail
  refine (equalFuncR_any _ _ _ _ _ _ rs rs' _ (HP.out.R.kept B.out) (HQ.out.R.kept B.out) m3 m6).mono ?_
  rintro e W3 ⟨rfl, b3⟩
  replace L_a := Lib.hid (L_a.out.kept b3 L_a.out.inside)
  replace L_b := Lib.hid (L_b.out.kept b3 L_b.out.inside)
  replace B := Lib.hid (B.out.trans (b3.mono B.out.size))
  clear b3
  clear qa qb
  go_wp2
  go_ret
  exact ⟨ret_bool HA.out.symm, B.out⟩

set_option maxRecDepth 100000 in
set_option maxHeartbeats 6400000 in
theorem specSameArenas_any (d d' : Int) (A1 A2 A3 A4 A5 A6 : Option Addr) (n1 c1 n2 c2 n3 c3 n4 c4 n5 c5 n6 c6 : Nat) (ns ns' : List NV) (fs fs' : List Int) (rs rs' : List RV) (w : World) (hp : ArenaL w A1 A2 A3 n1 n2 n3 ns fs rs) (hq : ArenaL w A4 A5 A6 n4 n5 n6 ns' fs' rs') :
    Calls Try.prog 10 #[.agg #[.int .i64 d, .slice A1 n1 c1, .slice A2 n2 c2, .slice A3 n3 c3], .agg #[.int .i64 d', .slice A4 n4 c4, .slice A5 n5 c5, .slice A6 n6 c6]] w fun e w' => e = .returned (.bool (sameA d d' ns ns' fs fs' rs rs')) ∧ Below w.heap.size w w' := by
  have HP := Lib.hid hp
  have HQ := Lib.hid hq
  have m1 := hp.m1
  have m2 := hp.m2
  have m3 := hp.m3
  have m4 := hq.m1
  have m5 := hq.m2
  have m6 := hq.m3
  clear hp hq
  have B := Lib.hid (below_alloc w (.cells #[.int .i64 d, .slice A1 n1 c1, .slice A2 n2 c2, .slice A3 n3 c3] 34))
  replace B := Lib.hid (B.out.alloc B.out.size (.cells #[.int .i64 d', .slice A4 n4 c4, .slice A5 n5 c5, .slice A6 n6 c6] 34))
  have L_a := Lib.hid ((Lies.new w 34 #[.int .i64 d, .slice A1 n1 c1, .slice A2 n2 c2, .slice A3 n3 c3]).alloc (.cells #[.int .i64 d', .slice A4 n4 c4, .slice A5 n5 c5, .slice A6 n6 c6] 34))
  have L_b := Lib.hid (Lies.new (w.alloc (.cells #[.int .i64 d, .slice A1 n1 c1, .slice A2 n2 c2, .slice A3 n3 c3] 34)) 34 #[.int .i64 d', .slice A4 n4 c4, .slice A5 n5 c5, .slice A6 n6 c6])
  simp only [World.size_alloc] at L_b
  by_cases hd : d = d'
  rotate_left
  · have g1 : (d != d') = true := by simpa using hd
    have HF : Hid (sameA d d' ns ns' fs fs' rs rs' = false) := by show sameA _ _ _ _ _ _ _ _ = _; unfold sameA; simp [hd]
    clear hd
    go_enter Try.func10, Try.ntmps10
    go_wp2
    go_ret
    exact ⟨ret_bool HF.out.symm, B.out⟩
  have g1 : (d != d') = false := by simp [hd]
  have HD : Hid ((d == d') = true) := by show (d == d') = _; simpa using hd
  clear hd
  cases hn : sameL NV.val ns ns'
  · have HN := Lib.hid hn
    have HF : Hid (sameA d d' ns ns' fs fs' rs rs' = false) := by show sameA _ _ _ _ _ _ _ _ = _; unfold sameA; simp [hn]
    clear hn
    go_enter Try.func10, Try.ntmps10
    go_wp2_with fail
    refine (specSameNodes_any _ _ _ _ _ _ ns ns' _ (HP.out.N.kept B.out) (HQ.out.N.kept B.out) m1 m4).mono ?_
    rintro e W1 ⟨rfl, b1⟩
    rw [HN.out]
    replace L_a := Lib.hid (L_a.out.kept b1 L_a.out.inside)
    replace L_b := Lib.hid (L_b.out.kept b1 L_b.out.inside)
    replace B := Lib.hid (B.out.trans (b1.mono B.out.size))
    clear b1
    go_wp2
    go_ret
    exact ⟨ret_bool HF.out.symm, B.out⟩
  have HN := Lib.hid hn
  clear hn
  cases he : decide (fs = fs')
  · have HE := Lib.hid he
    have HF : Hid (sameA d d' ns ns' fs fs' rs rs' = false) := by show sameA _ _ _ _ _ _ _ _ = _; unfold sameA; simp [he]
    clear he
    go_enter Try.func10, Try.ntmps10
    go_wp2_with fail
    refine (specSameNodes_any _ _ _ _ _ _ ns ns' _ (HP.out.N.kept B.out) (HQ.out.N.kept B.out) m1 m4).mono ?_
    rintro e W1 ⟨rfl, b1⟩
    rw [HN.out]
    replace L_a := Lib.hid (L_a.out.kept b1 L_a.out.inside)
    replace L_b := Lib.hid (L_b.out.kept b1 L_b.out.inside)
    replace B := Lib.hid (B.out.trans (b1.mono B.out.size))
    clear b1
    have qa : W1.cell? ⟨w.heap.size, 2, none⟩ = some (.slice A2 n2 c2) := L_a.out.cell 2
    have qb : W1.cell? ⟨w.heap.size + 1, 2, none⟩ = some (.slice A5 n5 c5) := L_b.out.cell 2
    go_wp2_with fail
    refine (l1Same_any _ _ _ _ _ _ _ _ fs fs' _ (HP.out.F.kept B.out) (HQ.out.F.kept B.out) m2).mono ?_
    rintro e W2 ⟨rfl, hq⟩
    rw [HE.out]
    have b2 := below_same hq
    clear hq qa qb
    replace L_a := Lib.hid (L_a.out.kept b2 L_a.out.inside)
    replace L_b := Lib.hid (L_b.out.kept b2 L_b.out.inside)
    replace B := Lib.hid (B.out.trans (b2.mono B.out.size))
    clear b2
    go_wp2
    go_ret
    exact ⟨ret_bool HF.out.symm, B.out⟩
  have HE := Lib.hid he
  clear he
  have HA : Hid (sameA d d' ns ns' fs fs' rs rs' = sameL RV.val rs rs') := by show sameA _ _ _ _ _ _ _ _ = _; unfold sameA; rw [HD.out, HN.out, HE.out]; simp
  unfold maxLen at m3 m6
  by_cases hnn : n3 = n6
  rotate_left
  · have hne : ((n3 : Int) != n6) = true := by simp; omega
    have HF : Hid (sameA d d' ns ns' fs fs' rs rs' = false) := HA.out.trans (sameL_len (by rw [HP.out.R.1, HQ.out.R.1]; exact hnn))
    clear hnn
    go_enter Try.func10, Try.ntmps10
    go_wp2_with fail
    refine (specSameNodes_any _ _ _ _ _ _ ns ns' _ (HP.out.N.kept B.out) (HQ.out.N.kept B.out) m1 m4).mono ?_
    rintro e W1 ⟨rfl, b1⟩
    rw [HN.out]
    replace L_a := Lib.hid (L_a.out.kept b1 L_a.out.inside)
    replace L_b := Lib.hid (L_b.out.kept b1 L_b.out.inside)
    replace B := Lib.hid (B.out.trans (b1.mono B.out.size))
    clear b1
    have qa : W1.cell? ⟨w.heap.size, 2, none⟩ = some (.slice A2 n2 c2) := L_a.out.cell 2
    have qb : W1.cell? ⟨w.heap.size + 1, 2, none⟩ = some (.slice A5 n5 c5) := L_b.out.cell 2
    go_wp2_with fail
    refine (l1Same_any _ _ _ _ _ _ _ _ fs fs' _ (HP.out.F.kept B.out) (HQ.out.F.kept B.out) m2).mono ?_
    rintro e W2 ⟨rfl, hq⟩
    rw [HE.out]
    have b2 := below_same hq
    clear hq qa qb
    replace L_a := Lib.hid (L_a.out.kept b2 L_a.out.inside)
    replace L_b := Lib.hid (L_b.out.kept b2 L_b.out.inside)
    replace B := Lib.hid (B.out.trans (b2.mono B.out.size))
    clear b2
    have qa : W2.cell? ⟨w.heap.size, 3, none⟩ = some (.slice A3 n3 c3) := L_a.out.cell 3
    have qb : W2.cell? ⟨w.heap.size + 1, 3, none⟩ = some (.slice A6 n6 c6) := L_b.out.cell 3
    go_wp2
    go_ret
    exact ⟨ret_bool HF.out.symm, B.out⟩
  subst hnn
  have hne : ((n3 : Int) != n3) = false := by simp
  go_enter Try.func10, Try.ntmps10
  go_wp2_with fail
  refine (specSameNodes_any _ _ _ _ _ _ ns ns' _ (HP.out.N.kept B.out) (HQ.out.N.kept B.out) m1 m4).mono ?_
  rintro e W1 ⟨rfl, b1⟩
  rw [HN.out]
  replace L_a := Lib.hid (L_a.out.kept b1 L_a.out.inside)
  replace L_b := Lib.hid (L_b.out.kept b1 L_b.out.inside)
  replace B := Lib.hid (B.out.trans (b1.mono B.out.size))
  clear b1
  have qa : W1.cell? ⟨w.heap.size, 2, none⟩ = some (.slice A2 n2 c2) := L_a.out.cell 2
  have qb : W1.cell? ⟨w.heap.size + 1, 2, none⟩ = some (.slice A5 n5 c5) := L_b.out.cell 2
  go_wp2_with fail
  refine (l1Same_any _ _ _ _ _ _ _ _ fs fs' _ (HP.out.F.kept B.out) (HQ.out.F.kept B.out) m2).mono ?_
  rintro e W2 ⟨rfl, hq⟩
  rw [HE.out]
  have b2 := below_same hq
  clear hq qa qb
  replace L_a := Lib.hid (L_a.out.kept b2 L_a.out.inside)
  replace L_b := Lib.hid (L_b.out.kept b2 L_b.out.inside)
  replace B := Lib.hid (B.out.trans (b2.mono B.out.size))
  clear b2
  have qa : W2.cell? ⟨w.heap.size, 3, none⟩ = some (.slice A3 n3 c3) := L_a.out.cell 3
  have qb : W2.cell? ⟨w.heap.size + 1, 3, none⟩ = some (.slice A6 n3 c6) := L_b.out.cell 3
  go_wp2
  clear qa qb
  go_loopw [5] (fun i wr => ∃ k : Nat, k ≤ n3 ∧ i = .int .i64 k ∧ Hid (Below w.heap.size w wr) ∧ Hid (Lies wr w.heap.size 34 #[.int .i64 d, .slice A1 n1 c1, .slice A2 n2 c2, .slice A3 n3 c3]) ∧ Hid (Lies wr (w.heap.size + 1) 34 #[.int .i64 d', .slice A4 n4 c4, .slice A5 n5 c5, .slice A6 n3 c6]) ∧ Hid (∀ (j : Nat) (p q : RV), j < k → rs[j]? = some p → rs'[j]? = some q → RV.val p = RV.val q)) (fun i _ => n3 - (intOf i).toNat)
  case atStart => exact ⟨0, Nat.zero_le _, rfl, B, L_a, L_b, fun j p q hj => absurd hj (Nat.not_lt_zero _)⟩
  case round =>
    clear B L_a L_b
    obtain ⟨k, hk', rfl, hB, L_a, L_b, hA⟩ := hrel
    have qa : wr.cell? ⟨w.heap.size, 3, none⟩ = some (.slice A3 n3 c3) := L_a.out.cell 3
    have qb : wr.cell? ⟨w.heap.size + 1, 3, none⟩ = some (.slice A6 n3 c6) := L_b.out.cell 3
    by_cases hlt : k < n3
    · obtain ⟨b, o, id, X1, k1, e1, x1, rfl, hb, d0, d1, hx, i1, q1⟩ := HP.out.R.cellAt hlt
      obtain ⟨b', o', id', X3, k3, e3, x3, rfl, hb', d4, d5, hy, i3, q3⟩ := HQ.out.R.cellAt hlt
      have kb := Nat.lt_of_lt_of_le hb hB.out.size
      have kb' := Nat.lt_of_lt_of_le hb' hB.out.size
      have ka := L_a.out.inside
      have ka' := L_b.out.inside
      have k_0 : wr.cell? ⟨w.heap.size, 3, none⟩ = some (.slice (some ⟨b, o, none⟩) n3 c3) ∧ wr.cell? ⟨w.heap.size + 1, 3, none⟩ = some (.slice (some ⟨b', o', none⟩) n3 c6) ∧ wr.cell? ⟨b, o + k * 2, none⟩ = some (.int .i64 id) ∧ wr.cell? ⟨b, o + k * 2 + 1, none⟩ = some (.slice X1 k1 e1) ∧ wr.cell? ⟨b', o' + k * 2, none⟩ = some (.int .i64 id') ∧ wr.cell? ⟨b', o' + k * 2 + 1, none⟩ = some (.slice X3 k3 e3) := ⟨qa, qb, (hB.out.cell (p := ⟨b, o + k * 2, none⟩) hb).trans d0, (hB.out.cell (p := ⟨b, o + k * 2 + 1, none⟩) hb).trans d1, (hB.out.cell (p := ⟨b', o' + k * 2, none⟩) hb').trans d4, (hB.out.cell (p := ⟨b', o' + k * 2 + 1, none⟩) hb').trans d5⟩
      clear d0 d1 d4 d5 qa qb
      by_cases h_id : id = id'
      rotate_left
      · have g_id : (id != id') = true := by simpa using h_id
        have HF : Hid (sameA d d' ns ns' fs fs' rs rs' = false) := HA.out.trans (sameL_at hx.out hy.out (fun e => h_id (congrArg (fun v : RVal => v.1) e)))
        obtain ⟨e0, e1, e2, e3, e4, e5⟩ := k_0
        clear h_id hx hy hA
        go_wp2_with fail
        go_quiet (fail)
        go_wp2
        go_ret
        exact ⟨ret_bool HF.out.symm, below_draws hB.out _⟩
      have g_id : (id != id') = false := by simp [h_id]
      replace h_id := Lib.hid h_id
      cases hsm : decide (x1 = x3)
      · have HS := Lib.hid hsm
        have HF : Hid (sameA d d' ns ns' fs fs' rs rs' = false) := HA.out.trans (sameL_at hx.out hy.out (fun e => by
          simp only [RV.val, Prod.mk.injEq] at e
          simp [e.2] at hsm))
        clear hsm hx hy hA
        go_wp2_with fail
        go_region_held3 (fun w' => w'.cell? ⟨w.heap.size, 3, none⟩ = some (.slice (some ⟨b, o, none⟩) n3 c3) ∧ w'.cell? ⟨w.heap.size + 1, 3, none⟩ = some (.slice (some ⟨b', o', none⟩) n3 c6) ∧ w'.cell? ⟨b, o + k * 2, none⟩ = some (.int .i64 id) ∧ w'.cell? ⟨b, o + k * 2 + 1, none⟩ = some (.slice X1 k1 e1) ∧ w'.cell? ⟨b', o' + k * 2, none⟩ = some (.int .i64 id') ∧ w'.cell? ⟨b', o' + k * 2 + 1, none⟩ = some (.slice X3 k3 e3))
          (first | (simp [go_sem, k_0]; done) | with_reducible exact k_1)
          (first
            | (go_at_call 18; refine (l1Same_any _ _ _ _ _ _ _ _ x1 x3 _ (i1.out.kept hB.out.drew) (i3.out.kept hB.out.drew) q1).mono ?_
               rintro e W4 ⟨rfl, hq⟩
               rw [HS.out]
               have b1 := below_drawn (below_same hq)
               have k_1 : W4.cell? ⟨w.heap.size, 3, none⟩ = some (.slice (some ⟨b, o, none⟩) n3 c3) ∧ W4.cell? ⟨w.heap.size + 1, 3, none⟩ = some (.slice (some ⟨b', o', none⟩) n3 c6) ∧ W4.cell? ⟨b, o + k * 2, none⟩ = some (.int .i64 id) ∧ W4.cell? ⟨b, o + k * 2 + 1, none⟩ = some (.slice X1 k1 e1) ∧ W4.cell? ⟨b', o' + k * 2, none⟩ = some (.int .i64 id') ∧ W4.cell? ⟨b', o' + k * 2 + 1, none⟩ = some (.slice X3 k3 e3) := ⟨(b1.cell (p := ⟨w.heap.size, 3, none⟩) ka).trans k_0.1, (b1.cell (p := ⟨w.heap.size + 1, 3, none⟩) ka').trans k_0.2.1, (b1.cell (p := ⟨b, o + k * 2, none⟩) kb).trans k_0.2.2.1, (b1.cell (p := ⟨b, o + k * 2 + 1, none⟩) kb).trans k_0.2.2.2.1, (b1.cell (p := ⟨b', o' + k * 2, none⟩) kb').trans k_0.2.2.2.2.1, (b1.cell (p := ⟨b', o' + k * 2 + 1, none⟩) kb').trans k_0.2.2.2.2.2⟩
               clear hq))
        clear k_0 k_1
        have hB' := Lib.hid (hB.out.trans (b1.mono hB.out.size))
        replace L_a := Lib.hid (L_a.out.kept b1 L_a.out.inside)
        replace L_b := Lib.hid (L_b.out.kept b1 L_b.out.inside)
        clear hB b1
        go_wp2
        go_ret
        exact ⟨ret_bool HF.out.symm, hB'.out⟩
      · have HS := Lib.hid hsm
        have hA' := Lib.hid (agreeL_next (f := RV.val) hA.out hx.out hy.out (by
          simp at hsm
          simp only [RV.val, Prod.mk.injEq]
          exact ⟨h_id.out, hsm⟩))
        clear hsm hx hy hA
        go_wp2_with fail
        go_region_held3 (fun w' => w'.cell? ⟨w.heap.size, 3, none⟩ = some (.slice (some ⟨b, o, none⟩) n3 c3) ∧ w'.cell? ⟨w.heap.size + 1, 3, none⟩ = some (.slice (some ⟨b', o', none⟩) n3 c6) ∧ w'.cell? ⟨b, o + k * 2, none⟩ = some (.int .i64 id) ∧ w'.cell? ⟨b, o + k * 2 + 1, none⟩ = some (.slice X1 k1 e1) ∧ w'.cell? ⟨b', o' + k * 2, none⟩ = some (.int .i64 id') ∧ w'.cell? ⟨b', o' + k * 2 + 1, none⟩ = some (.slice X3 k3 e3))
          (first | (simp [go_sem, k_0]; done) | with_reducible exact k_1)
          (first
            | (go_at_call 18; refine (l1Same_any _ _ _ _ _ _ _ _ x1 x3 _ (i1.out.kept hB.out.drew) (i3.out.kept hB.out.drew) q1).mono ?_
               rintro e W4 ⟨rfl, hq⟩
               rw [HS.out]
               have b1 := below_drawn (below_same hq)
               have k_1 : W4.cell? ⟨w.heap.size, 3, none⟩ = some (.slice (some ⟨b, o, none⟩) n3 c3) ∧ W4.cell? ⟨w.heap.size + 1, 3, none⟩ = some (.slice (some ⟨b', o', none⟩) n3 c6) ∧ W4.cell? ⟨b, o + k * 2, none⟩ = some (.int .i64 id) ∧ W4.cell? ⟨b, o + k * 2 + 1, none⟩ = some (.slice X1 k1 e1) ∧ W4.cell? ⟨b', o' + k * 2, none⟩ = some (.int .i64 id') ∧ W4.cell? ⟨b', o' + k * 2 + 1, none⟩ = some (.slice X3 k3 e3) := ⟨(b1.cell (p := ⟨w.heap.size, 3, none⟩) ka).trans k_0.1, (b1.cell (p := ⟨w.heap.size + 1, 3, none⟩) ka').trans k_0.2.1, (b1.cell (p := ⟨b, o + k * 2, none⟩) kb).trans k_0.2.2.1, (b1.cell (p := ⟨b, o + k * 2 + 1, none⟩) kb).trans k_0.2.2.2.1, (b1.cell (p := ⟨b', o' + k * 2, none⟩) kb').trans k_0.2.2.2.2.1, (b1.cell (p := ⟨b', o' + k * 2 + 1, none⟩) kb').trans k_0.2.2.2.2.2⟩
               clear hq))
        clear k_0 k_1
        have hB' := Lib.hid (hB.out.trans (b1.mono hB.out.size))
        replace L_a := Lib.hid (L_a.out.kept b1 L_a.out.inside)
        replace L_b := Lib.hid (L_b.out.kept b1 L_b.out.inside)
        clear hB b1
        go_wp2
        go_roundw
        case rel => exact ⟨k + 1, by omega, by go_num, hB', L_a, L_b, hA'⟩
        case measure => simp [intOf]; omega
    · have HF : Hid (sameA d d' ns ns' fs fs' rs rs' = true) := HA.out.trans (sameL_all (by rw [HP.out.R.1, HQ.out.R.1]) fun j p q hj hp' hq' => hA.out j p q (by have := HP.out.R.1; omega) hp' hq')
      clear hA
      go_wp2
      go_ret
      exact ⟨ret_bool HF.out.symm, hB.out⟩

end Go.Proofs.Ytdkaofmlgaofgaa
