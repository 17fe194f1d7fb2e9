/- The walks of spec.SamePairs, impl.SamePairs with its closure, and slices.EqualFunc over it. -/
import Derived.Test.YtbonpmgbcdknbaaPairLists
import Derived.Test.YtbonpmgbcdknbaaSame
namespace Go.Proofs.Ytbonpmgbcdknbaa
open Go.RowKit

/-- Whether two lists of pairs say the same. -/
def samesF (ps qs : List PV) : Bool := decide (ps.map PV.val = qs.map PV.val)
theorem sames_len {ps qs : List PV} (h : ps.length ≠ qs.length) : samesF ps qs = false := by
  refine decide_eq_false fun e => h ?_
  have := congrArg List.length e
  simpa using this
theorem sames_at {ps qs : List PV} {k : Nat} {p q : PV} (hp : ps[k]? = some p) (hq : qs[k]? = some q) (h : p.val ≠ q.val) : samesF ps qs = false := decide_eq_false fun e => h (val_at e hp hq)
theorem sames_all {ps qs : List PV} (hl : ps.length = qs.length) (h : ∀ (j : Nat) (p q : PV), j < ps.length → ps[j]? = some p → qs[j]? = some q → p.val = q.val) : samesF ps qs = true := by
  refine decide_eq_true (List.ext_getElem? fun j => ?_)
  rw [List.getElem?_map, List.getElem?_map]
  rcases Nat.lt_or_ge j ps.length with hj | hj
  · have h1 : ps[j]? = some (ps[j]'hj) := List.getElem?_eq_getElem hj
    have h2 : qs[j]? = some (qs[j]'(by omega)) := List.getElem?_eq_getElem (by omega)
    rw [h1, h2]
    exact congrArg some (h j _ _ hj h1 h2)
  · rw [List.getElem?_eq_none hj, List.getElem?_eq_none (by omega)]
theorem agree_next {ps qs : List PV} {k : Nat} {p q : PV} (hA : ∀ (j : Nat) (p q : PV), j < k → ps[j]? = some p → qs[j]? = some q → p.val = q.val) (hp : ps[k]? = some p) (hq : qs[k]? = some q) (h : p.val = q.val) :
    ∀ (j : Nat) (p q : PV), j < k + 1 → ps[j]? = some p → qs[j]? = some q → p.val = q.val := by
  intro j p' q' hj hp' hq'
  rcases Nat.lt_succ_iff_lt_or_eq.1 hj with h' | h'
  · exact hA j p' q' h' hp' hq'
  · subst h'; rw [hp] at hp'; rw [hq] at hq'; injection hp' with hp'; injection hq' with hq'; subst hp' hq'; exact h

set_option maxHeartbeats 3200000 in
theorem specSamePairs_any (n n' c c' : Nat) (A A' : Option Addr) (ps qs : List PV) (w : World) (hp : Pairs w A n ps) (hq : Pairs w A' n' qs) (hn : n ≤ maxLen) (hn' : n' ≤ maxLen) :
    Calls Try.prog 42 #[.slice A n c, .slice A' n' c'] w fun e w' => e = .returned (.bool (samesF ps qs)) ∧ Below w.heap.size w w' := by
  have HP := Lib.hid hp
  have HQ := Lib.hid hq
  clear hp hq
  unfold maxLen at hn hn'
  by_cases hnn : n = n'
  rotate_left
  · have hne : ((n : Int) != n') = true := by simp; omega
    have HF : Hid (samesF ps qs = false) := sames_len (by rw [HP.out.1, HQ.out.1]; exact hnn)
    clear hnn
    go_enter Try.func42, Try.ntmps42
    go_wp2
    go_ret
    exact ⟨ret_bool HF.out.symm, Below.refl _ _⟩
  subst hnn
  have hne : ((n : Int) != n) = false := by simp
  go_enter Try.func42, Try.ntmps42
  go_wp2
  go_loopw [5] (fun i wr => ∃ k : Nat, k ≤ n ∧ i = .int .i64 k ∧ Hid (Below w.heap.size w wr) ∧ Hid (∀ (j : Nat) (p q : PV), j < k → ps[j]? = some p → qs[j]? = some q → p.val = q.val)) (fun i _ => n - (intOf i).toNat)
  case atStart => exact ⟨0, Nat.zero_le _, rfl, Below.refl _ _, fun j p q hj => absurd hj (Nat.not_lt_zero _)⟩
  case round =>
    obtain ⟨k, hk', rfl, hB, hA⟩ := hrel
    by_cases hlt : k < n
    · obtain ⟨b, o, id, A1, n1, c1, A2, n2, c2, x1, x2, rfl, hb, d0, d1, d2, hx, i1, i2, m1, m2⟩ := HP.out.cellAt hlt
      obtain ⟨b', o', id', A3, n3, c3, A4, n4, c4, x3, x4, rfl, hb', d3, d4, d5, hy, i3, i4, m3, m4⟩ := HQ.out.cellAt hlt
      have kb := Nat.lt_of_lt_of_le hb hB.out.size
      have kb' := Nat.lt_of_lt_of_le hb' hB.out.size
      have k_0 : wr.cell? ⟨b, o + k * 3, none⟩ = some (.int .i64 id) ∧ wr.cell? ⟨b, o + k * 3 + 1, none⟩ = some (.slice A1 n1 c1) ∧ wr.cell? ⟨b, o + k * 3 + 2, none⟩ = some (.slice A2 n2 c2) ∧ wr.cell? ⟨b', o' + k * 3, none⟩ = some (.int .i64 id') ∧ wr.cell? ⟨b', o' + k * 3 + 1, none⟩ = some (.slice A3 n3 c3) ∧ wr.cell? ⟨b', o' + k * 3 + 2, none⟩ = some (.slice A4 n4 c4) :=
        ⟨(hB.out.cell (p := ⟨b, o + k * 3, none⟩) hb).trans d0, (hB.out.cell (p := ⟨b, o + k * 3 + 1, none⟩) hb).trans d1, (hB.out.cell (p := ⟨b, o + k * 3 + 2, none⟩) hb).trans d2, (hB.out.cell (p := ⟨b', o' + k * 3, none⟩) hb').trans d3, (hB.out.cell (p := ⟨b', o' + k * 3 + 1, none⟩) hb').trans d4, (hB.out.cell (p := ⟨b', o' + k * 3 + 2, none⟩) hb').trans d5⟩
      clear d0 d1 d2 d3 d4 d5
      by_cases hid : id = id'
      rotate_left
      · have h1 : (id != id') = true := by simpa using hid
        have HF : Hid (samesF ps qs = false) := sames_at hx.out hy.out (fun e => hid (congrArg Prod.fst e))
        obtain ⟨e0, e1, e2, e3, e4, e5⟩ := k_0
        clear hid hx hy
        go_wp2_with fail
        go_quiet (fail)
        go_wp2
        go_ret
        exact ⟨ret_bool HF.out.symm, below_draws hB.out _⟩
      subst hid
      have h1 : (id != id) = false := by simp
      cases hsm : sameF x1 x2 x3 x4
      · have HS := Lib.hid hsm
        have HF : Hid (samesF ps qs = false) := sames_at hx.out hy.out (fun e => by
          simp only [PV.val, Prod.mk.injEq] at e
          simp [sameF, e.2.1, e.2.2] at hsm)
        clear hsm hx hy
        go_wp2_with fail
        go_region_held3 (fun w' => w'.cell? ⟨b, o + k * 3, none⟩ = some (.int .i64 id) ∧ w'.cell? ⟨b, o + k * 3 + 1, none⟩ = some (.slice A1 n1 c1) ∧ w'.cell? ⟨b, o + k * 3 + 2, none⟩ = some (.slice A2 n2 c2) ∧ w'.cell? ⟨b', o' + k * 3, none⟩ = some (.int .i64 id) ∧ w'.cell? ⟨b', o' + k * 3 + 1, none⟩ = some (.slice A3 n3 c3) ∧ w'.cell? ⟨b', o' + k * 3 + 2, none⟩ = some (.slice A4 n4 c4))
          (first | (simp [go_sem, k_0]; done) | with_reducible exact k_1)
          (first
            | (go_at_call 64; refine (specSameRects_any _ _ _ _ _ _ _ _ _ _ _ _ _ _ _ _ x1 x2 x3 x4 _ (i1.out.kept hB.out.drew) (i2.out.kept hB.out.drew) (i3.out.kept hB.out.drew) (i4.out.kept hB.out.drew) m1 m2 m3 m4).mono ?_
               rintro e W1 ⟨rfl, b1d⟩
               rw [HS.out]
               have b1 := below_drawn b1d
               have k_1 : W1.cell? ⟨b, o + k * 3, none⟩ = some (.int .i64 id) ∧ W1.cell? ⟨b, o + k * 3 + 1, none⟩ = some (.slice A1 n1 c1) ∧ W1.cell? ⟨b, o + k * 3 + 2, none⟩ = some (.slice A2 n2 c2) ∧ W1.cell? ⟨b', o' + k * 3, none⟩ = some (.int .i64 id) ∧ W1.cell? ⟨b', o' + k * 3 + 1, none⟩ = some (.slice A3 n3 c3) ∧ W1.cell? ⟨b', o' + k * 3 + 2, none⟩ = some (.slice A4 n4 c4) := ⟨(b1.cell (p := ⟨b, o + k * 3, none⟩) kb).trans k_0.1, (b1.cell (p := ⟨b, o + k * 3 + 1, none⟩) kb).trans k_0.2.1, (b1.cell (p := ⟨b, o + k * 3 + 2, none⟩) kb).trans k_0.2.2.1, (b1.cell (p := ⟨b', o' + k * 3, none⟩) kb').trans k_0.2.2.2.1, (b1.cell (p := ⟨b', o' + k * 3 + 1, none⟩) kb').trans k_0.2.2.2.2.1, (b1.cell (p := ⟨b', o' + k * 3 + 2, none⟩) kb').trans k_0.2.2.2.2.2⟩
               clear b1d))
        clear k_0 k_1
        have hB' := Lib.hid (hB.out.trans (b1.mono hB.out.size))
        clear hB b1
        go_wp2
        go_ret
        exact ⟨ret_bool HF.out.symm, hB'.out⟩
      · have HS := Lib.hid hsm
        have hA' := Lib.hid (agree_next hA.out hx.out hy.out (by
          simp [sameF] at hsm
          simp only [PV.val, Prod.mk.injEq]
          exact ⟨trivial, hsm.1, hsm.2⟩))
        clear hsm hx hy hA
        go_wp2_with fail
        go_region_held3 (fun w' => w'.cell? ⟨b, o + k * 3, none⟩ = some (.int .i64 id) ∧ w'.cell? ⟨b, o + k * 3 + 1, none⟩ = some (.slice A1 n1 c1) ∧ w'.cell? ⟨b, o + k * 3 + 2, none⟩ = some (.slice A2 n2 c2) ∧ w'.cell? ⟨b', o' + k * 3, none⟩ = some (.int .i64 id) ∧ w'.cell? ⟨b', o' + k * 3 + 1, none⟩ = some (.slice A3 n3 c3) ∧ w'.cell? ⟨b', o' + k * 3 + 2, none⟩ = some (.slice A4 n4 c4))
          (first | (simp [go_sem, k_0]; done) | with_reducible exact k_1)
          (first
            | (go_at_call 64; refine (specSameRects_any _ _ _ _ _ _ _ _ _ _ _ _ _ _ _ _ x1 x2 x3 x4 _ (i1.out.kept hB.out.drew) (i2.out.kept hB.out.drew) (i3.out.kept hB.out.drew) (i4.out.kept hB.out.drew) m1 m2 m3 m4).mono ?_
               rintro e W1 ⟨rfl, b1d⟩
               rw [HS.out]
               have b1 := below_drawn b1d
               have k_1 : W1.cell? ⟨b, o + k * 3, none⟩ = some (.int .i64 id) ∧ W1.cell? ⟨b, o + k * 3 + 1, none⟩ = some (.slice A1 n1 c1) ∧ W1.cell? ⟨b, o + k * 3 + 2, none⟩ = some (.slice A2 n2 c2) ∧ W1.cell? ⟨b', o' + k * 3, none⟩ = some (.int .i64 id) ∧ W1.cell? ⟨b', o' + k * 3 + 1, none⟩ = some (.slice A3 n3 c3) ∧ W1.cell? ⟨b', o' + k * 3 + 2, none⟩ = some (.slice A4 n4 c4) := ⟨(b1.cell (p := ⟨b, o + k * 3, none⟩) kb).trans k_0.1, (b1.cell (p := ⟨b, o + k * 3 + 1, none⟩) kb).trans k_0.2.1, (b1.cell (p := ⟨b, o + k * 3 + 2, none⟩) kb).trans k_0.2.2.1, (b1.cell (p := ⟨b', o' + k * 3, none⟩) kb').trans k_0.2.2.2.1, (b1.cell (p := ⟨b', o' + k * 3 + 1, none⟩) kb').trans k_0.2.2.2.2.1, (b1.cell (p := ⟨b', o' + k * 3 + 2, none⟩) kb').trans k_0.2.2.2.2.2⟩
               clear b1d))
        clear k_0 k_1
        have hB' := Lib.hid (hB.out.trans (b1.mono hB.out.size))
        clear hB b1
        go_wp2
        go_roundw
        case rel => exact ⟨k + 1, by omega, by go_num, hB', hA'⟩
        case measure => simp [intOf]; omega
    · have HF : Hid (samesF ps qs = true) := sames_all (by rw [HP.out.1, HQ.out.1]) fun j p q hj hp' hq' => hA.out j p q (by have := HP.out.1; omega) hp' hq'
      clear hA
      go_wp2
      go_ret
      exact ⟨ret_bool HF.out.symm, hB.out⟩

set_option maxHeartbeats 1600000 in
theorem sameOne_any (id id' : Int) (n1 c1 n2 c2 n3 c3 n4 c4 lo1 lo2 lo3 lo4 : Nat) (A1 A2 A3 A4 : Option Addr) (x1 x2 x3 x4 : List Int) (w : World)
    (h1 : Ints w lo1 A1 n1 x1) (h2 : Ints w lo2 A2 n2 x2) (h3 : Ints w lo3 A3 n3 x3) (h4 : Ints w lo4 A4 n4 x4) (m1 : n1 ≤ maxLen) (m2 : n2 ≤ maxLen) (m3 : n3 ≤ maxLen) (m4 : n4 ≤ maxLen) :
    Calls Try.prog 76 #[.agg #[.int .i64 id, .slice A1 n1 c1, .slice A2 n2 c2], .agg #[.int .i64 id', .slice A3 n3 c3, .slice A4 n4 c4]] w fun e w' => e = .returned (.bool ((id == id') && sameF x1 x2 x3 x4)) ∧ Below w.heap.size w w' := by
  have I_1 := Lib.hid h1
  have I_2 := Lib.hid h2
  have I_3 := Lib.hid h3
  have I_4 := Lib.hid h4
  clear h1 h2 h3 h4
  have B := Lib.hid ((below_alloc w (.cells #[.int .i64 id, .slice A1 n1 c1, .slice A2 n2 c2] 33)).alloc (below_alloc w (.cells #[.int .i64 id, .slice A1 n1 c1, .slice A2 n2 c2] 33)).size (.cells #[.int .i64 id', .slice A3 n3 c3, .slice A4 n4 c4] 33))
  cases hid : (id == id')
  · go_enter Try.func76, Try.ntmps76
    go_wp2
    go_ret
    exact ⟨ret_bool (Bool.false_and _).symm, B.out⟩
  · go_enter Try.func76, Try.ntmps76
    go_wp2_with fail
    refine (implSameRects_any _ _ _ _ _ _ _ _ _ _ _ _ _ _ _ _ x1 x2 x3 x4 _ (I_1.out.kept B.out) (I_2.out.kept B.out) (I_3.out.kept B.out) (I_4.out.kept B.out) m1 m2 m3 m4).mono ?_
    rintro e W1 ⟨rfl, b1⟩
    go_wp2
    go_ret
    exact ⟨ret_bool (Bool.true_and _).symm, B.out.trans (b1.mono B.out.size)⟩

set_option maxHeartbeats 3200000 in
theorem equalFunc_any (n n' c c' : Nat) (A A' : Option Addr) (ps qs : List PV) (w : World) (hp : Pairs w A n ps) (hq : Pairs w A' n' qs) (hn : n ≤ maxLen) (hn' : n' ≤ maxLen) :
    Calls Try.prog 75 #[.slice A n c, .slice A' n' c', .func (.func 76) #[] #[]] w fun e w' => e = .returned (.bool (samesF ps qs)) ∧ Below w.heap.size w w' := by
  have HP := Lib.hid hp
  have HQ := Lib.hid hq
  clear hp hq
  unfold maxLen at hn hn'
  by_cases hnn : n = n'
  rotate_left
  · have hne : ((n : Int) != n') = true := by simp; omega
    have HF : Hid (samesF ps qs = false) := sames_len (by rw [HP.out.1, HQ.out.1]; exact hnn)
    clear hnn
    go_enter Try.func75, Try.ntmps75
    go_wp2
    go_ret
    exact ⟨ret_bool HF.out.symm, Below.refl _ _⟩
  subst hnn
  have hne : ((n : Int) != n) = false := by simp
  go_enter Try.func75, Try.ntmps75
  go_wp2
  go_loopw [17] (fun i wr => ∃ k : Nat, k ≤ n ∧ i = .int .i64 k ∧ Hid (Below w.heap.size w wr) ∧ Hid (∀ (j : Nat) (p q : PV), j < k → ps[j]? = some p → qs[j]? = some q → p.val = q.val)) (fun i _ => n - (intOf i).toNat)
  case atStart => exact ⟨0, Nat.zero_le _, rfl, Below.refl _ _, fun j p q hj => absurd hj (Nat.not_lt_zero _)⟩
  case round =>
    obtain ⟨k, hk', rfl, hB, hA⟩ := hrel
    by_cases hlt : k < n
    · obtain ⟨b, o, id, A1, n1, c1, A2, n2, c2, x1, x2, rfl, hb, d0, d1, d2, hx, i1, i2, m1, m2⟩ := HP.out.cellAt hlt
      obtain ⟨b', o', id', A3, n3, c3, A4, n4, c4, x3, x4, rfl, hb', d3, d4, d5, hy, i3, i4, m3, m4⟩ := HQ.out.cellAt hlt
      have kb' := Nat.lt_of_lt_of_le hb' hB.out.size
      have e0 : wr.cell? ⟨b, o + k * 3, none⟩ = some (.int .i64 id) := (hB.out.cell (p := ⟨b, o + k * 3, none⟩) hb).trans d0
      have e1 : wr.cell? ⟨b, o + k * 3 + 1, none⟩ = some (.slice A1 n1 c1) := (hB.out.cell (p := ⟨b, o + k * 3 + 1, none⟩) hb).trans d1
      have e2 : wr.cell? ⟨b, o + k * 3 + 2, none⟩ = some (.slice A2 n2 c2) := (hB.out.cell (p := ⟨b, o + k * 3 + 2, none⟩) hb).trans d2
      have hB1 := Lib.hid ((below_alloc wr (.cells #[.int .i64 id, .slice A1 n1 c1, .slice A2 n2 c2] 33)))
      have e3 : (wr.alloc (.cells #[.int .i64 id, .slice A1 n1 c1, .slice A2 n2 c2] 33)).cell? ⟨b', o' + k * 3, none⟩ = some (.int .i64 id') := (hB1.out.cell (p := ⟨b', o' + k * 3, none⟩) kb').trans ((hB.out.cell (p := ⟨b', o' + k * 3, none⟩) hb').trans d3)
      have e4 : (wr.alloc (.cells #[.int .i64 id, .slice A1 n1 c1, .slice A2 n2 c2] 33)).cell? ⟨b', o' + k * 3 + 1, none⟩ = some (.slice A3 n3 c3) := (hB1.out.cell (p := ⟨b', o' + k * 3 + 1, none⟩) kb').trans ((hB.out.cell (p := ⟨b', o' + k * 3 + 1, none⟩) hb').trans d4)
      have e5 : (wr.alloc (.cells #[.int .i64 id, .slice A1 n1 c1, .slice A2 n2 c2] 33)).cell? ⟨b', o' + k * 3 + 2, none⟩ = some (.slice A4 n4 c4) := (hB1.out.cell (p := ⟨b', o' + k * 3 + 2, none⟩) kb').trans ((hB.out.cell (p := ⟨b', o' + k * 3 + 2, none⟩) hb').trans d5)
      have hB2 := Lib.hid ((hB.out.alloc hB.out.size (.cells #[.int .i64 id, .slice A1 n1 c1, .slice A2 n2 c2] 33)).alloc (hB.out.alloc hB.out.size (.cells #[.int .i64 id, .slice A1 n1 c1, .slice A2 n2 c2] 33)).size (.cells #[.int .i64 id', .slice A3 n3 c3, .slice A4 n4 c4] 33))
      clear d0 d1 d2 d3 d4 d5 hB1
      cases hsm : ((id == id') && sameF x1 x2 x3 x4)
      · have HS := Lib.hid hsm
        have HF : Hid (samesF ps qs = false) := sames_at hx.out hy.out (fun e => by
          simp only [PV.val, Prod.mk.injEq] at e
          simp [sameF, e.1, e.2.1, e.2.2] at hsm)
        clear hsm hx hy
        go_wp2_with fail
        refine (sameOne_any _ _ _ _ _ _ _ _ _ _ _ _ _ _ _ _ _ _ x1 x2 x3 x4 _ (i1.out.kept hB2.out) (i2.out.kept hB2.out) (i3.out.kept hB2.out) (i4.out.kept hB2.out) m1 m2 m3 m4).mono ?_
        rintro e W1 ⟨rfl, b1⟩
        rw [HS.out]
        go_wp2
        go_ret
        exact ⟨ret_bool HF.out.symm, hB2.out.trans (b1.mono hB2.out.size)⟩
      · have HS := Lib.hid hsm
        have hA' := Lib.hid (agree_next hA.out hx.out hy.out (by
          simp [sameF] at hsm
          simp only [PV.val, Prod.mk.injEq]
          exact ⟨hsm.1, hsm.2.1, hsm.2.2⟩))
        clear hsm hx hy hA
        go_wp2_with fail
        refine (sameOne_any _ _ _ _ _ _ _ _ _ _ _ _ _ _ _ _ _ _ x1 x2 x3 x4 _ (i1.out.kept hB2.out) (i2.out.kept hB2.out) (i3.out.kept hB2.out) (i4.out.kept hB2.out) m1 m2 m3 m4).mono ?_
        rintro e W1 ⟨rfl, b1⟩
        rw [HS.out]
        have hB' := Lib.hid (hB2.out.trans (b1.mono hB2.out.size))
        clear hB hB2 b1 e0 e1 e2 e3 e4 e5
        go_wp2
        go_roundw
        case rel => exact ⟨k + 1, by omega, by go_num, hB', hA'⟩
        case measure => simp [intOf]; omega
    · have HF : Hid (samesF ps qs = true) := sames_all (by rw [HP.out.1, HQ.out.1]) fun j p q hj hp' hq' => hA.out j p q (by have := HP.out.1; omega) hp' hq'
      clear hA
      go_wp2
      go_ret
      exact ⟨ret_bool HF.out.symm, hB.out⟩

set_option maxHeartbeats 800000 in
theorem implSamePairs_any (n n' c c' : Nat) (A A' : Option Addr) (ps qs : List PV) (w : World) (hp : Pairs w A n ps) (hq : Pairs w A' n' qs) (hn : n ≤ maxLen) (hn' : n' ≤ maxLen) :
    Calls Try.prog 43 #[.slice A n c, .slice A' n' c'] w fun e w' => e = .returned (.bool (samesF ps qs)) ∧ Below w.heap.size w w' := by
  have HP := Lib.hid hp
  have HQ := Lib.hid hq
  clear hp hq
  go_enter Try.func43, Try.ntmps43
  go_wp2_with fail
  refine (equalFunc_any _ _ _ _ _ _ ps qs _ HP.out HQ.out hn hn').mono ?_
  rintro e W1 ⟨rfl, b1⟩
  go_wp2
  go_ret
  exact ⟨rfl, b1⟩

end Go.Proofs.Ytbonpmgbcdknbaa
