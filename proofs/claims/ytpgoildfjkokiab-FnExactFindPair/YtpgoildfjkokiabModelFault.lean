/- The walks of spec.l2Pair, impl.pairFault, impl.idsRise, spec.ModelFault, impl.ModelFault. -/
import Derived.Test.YtpgoildfjkokiabPairLists
namespace Go.Proofs.Ytpgoildfjkokiab
open Go.RowKit

/-- What is wrong with a pair. -/
def pairF (v : Int × List Int × List Int) (d : Int) : Int := if 0 ≤ v.1 ∧ v.1 ≤ 999 then rf v.2.1 v.2.2 d else 3
/-- What is wrong with the first pair with which something is. -/
def firstF (d : Int) : List (Int × List Int × List Int) → Int
  | [] => 0
  | v :: vs => if pairF v d ≠ 0 then pairF v d else firstF d vs
/-- Whether the numbers rise. -/
def rises : List (Int × List Int × List Int) → Bool
  | [] => true
  | [_] => true
  | a :: b :: t => decide (a.1 < b.1) && rises (b :: t)
/-- What is wrong with a list of pairs. -/
def mf (vs : List (Int × List Int × List Int)) (d : Int) : Int :=
  if 2 ≤ d ∧ d ≤ 3 then if 60 < vs.length then 2 else if firstF d vs ≠ 0 then firstF d vs else if rises vs then 0 else 1 else 3

theorem firstF_stop {d : Int} : ∀ {vs : List (Int × List Int × List Int)} {k : Nat} {v : Int × List Int × List Int}, (∀ j u, j < k → vs[j]? = some u → pairF u d = 0) → vs[k]? = some v → pairF v d ≠ 0 → firstF d vs = pairF v d
  | [], k, v, _, hk, _ => by simp at hk
  | u :: vs, 0, v, _, hk, hv => by
    simp at hk; subst hk
    rw [firstF, if_pos hv]
  | u :: vs, k + 1, v, hp, hk, hv => by
    have h0 := hp 0 u (by omega) (by simp)
    rw [firstF, if_neg (by simp [h0])]
    exact firstF_stop (k := k) (fun j u' hj hu => hp (j + 1) u' (by omega) (by simpa using hu)) (by simpa using hk) hv
theorem firstF_all {d : Int} : ∀ {vs : List (Int × List Int × List Int)}, (∀ (j : Nat) (u : Int × List Int × List Int), vs[j]? = some u → pairF u d = 0) → firstF d vs = 0
  | [], _ => rfl
  | u :: vs, hp => by
    have h0 := hp 0 u (by simp)
    rw [firstF, if_neg (by simp [h0])]
    exact firstF_all fun j u' hu => hp (j + 1) u' (by simpa using hu)
theorem rises_true : ∀ {vs : List (Int × List Int × List Int)}, (∀ j u v, vs[j]? = some u → vs[j + 1]? = some v → u.1 < v.1) → rises vs = true
  | [], _ => rfl
  | [_], _ => rfl
  | a :: b :: t, h => by
    rw [rises, decide_eq_true (h 0 a b (by simp) (by simp)), Bool.true_and]
    exact rises_true fun j u v hu hv => h (j + 1) u v (by simpa using hu) (by simpa using hv)
theorem rises_false : ∀ {vs : List (Int × List Int × List Int)} {k : Nat} {u v : Int × List Int × List Int}, vs[k]? = some u → vs[k + 1]? = some v → ¬ u.1 < v.1 → rises vs = false
  | [], k, u, v, hu, _, _ => by simp at hu
  | [_], k, u, v, _, hv, _ => by simp at hv
  | a :: b :: t, 0, u, v, hu, hv, h => by
    simp at hu hv; subst hu hv
    rw [rises, decide_eq_false h, Bool.false_and]
  | a :: b :: t, k + 1, u, v, hu, hv, h => by
    rw [rises, rises_false (vs := b :: t) (k := k) (by simpa using hu) (by simpa using hv) h, Bool.and_false]

theorem val_get {ps : List PV} {k : Nat} {p : PV} (h : ps[k]? = some p) : (ps.map PV.val)[k]? = some p.val := by simp [h]
theorem val_of {ps : List PV} {k : Nat} {u : Int × List Int × List Int} (h : (ps.map PV.val)[k]? = some u) : ∃ p, ps[k]? = some p ∧ p.val = u := by
  simpa using h

set_option maxHeartbeats 800000 in
theorem l2Pair_any (d id : Int) (b f n1 c1 n2 c2 : Nat) (A1 A2 : Option Addr) (x1 x2 : List Int) (w : World) (k0 : w.cell? ⟨b, f, none⟩ = some (.int .i64 id)) (k1 : w.cell? ⟨b, f + 1, none⟩ = some (.slice A1 n1 c1)) (k2 : w.cell? ⟨b, f + 2, none⟩ = some (.slice A2 n2 c2))
    (h1 : Ints w 0 A1 n1 x1) (h2 : Ints w 0 A2 n2 x2) (m1 : n1 ≤ maxLen) (m2 : n2 ≤ maxLen) :
    Calls Try.prog 27 #[.pointer (some ⟨b, f, none⟩), .int .i64 d] w fun e w' => e = .returned (.int .i64 (pairF (id, x1, x2) d)) ∧ Below w.heap.size w w' := by
  have I_1 := Lib.hid h1
  have I_2 := Lib.hid h2
  clear h1 h2
  by_cases hi : 0 ≤ id ∧ id ≤ 999
  · have HF : Hid (pairF (id, x1, x2) d = rf x1 x2 d) := by show pairF (id, x1, x2) d = _; unfold pairF; rw [if_pos hi]
    go_enter Try.func27, Try.ntmps27
    go_wp2_with fail
    refine (l1In_yes _ _ _ _ hi.1 hi.2).mono ?_
    rintro e w' ⟨rfl, rfl⟩
    go_wp2_with fail
    refine (specRectFault_any _ _ _ _ _ _ _ _ _ x1 x2 _ I_1.out I_2.out m1 m2).mono ?_
    rintro e W1 ⟨rfl, b1⟩
    go_wp2
    go_ret
    exact ⟨ret_i64 HF.out.symm, b1⟩
  · have HF : Hid (pairF (id, x1, x2) d = 3) := by show pairF (id, x1, x2) d = _; unfold pairF; rw [if_neg hi]
    go_enter Try.func27, Try.ntmps27
    go_wp2_with fail
    refine (l1In_no _ _ _ _ hi).mono ?_
    rintro e w' ⟨rfl, rfl⟩
    go_wp2
    go_ret
    exact ⟨ret_i64 HF.out.symm, Below.refl _ _⟩

set_option maxHeartbeats 800000 in
theorem pairFault_any (d id : Int) (n1 c1 n2 c2 lo1 lo2 : Nat) (A1 A2 : Option Addr) (x1 x2 : List Int) (w : World) (h1 : Ints w lo1 A1 n1 x1) (h2 : Ints w lo2 A2 n2 x2) (m1 : n1 ≤ maxLen) (m2 : n2 ≤ maxLen) :
    Calls Try.prog 31 #[.agg #[.int .i64 id, .slice A1 n1 c1, .slice A2 n2 c2], .int .i64 d] w fun e w' => e = .returned (.int .i64 (pairF (id, x1, x2) d)) ∧ Below w.heap.size w w' := by
  have I_1 := Lib.hid h1
  have I_2 := Lib.hid h2
  clear h1 h2
  have B := Lib.hid (below_alloc w (.cells #[.int .i64 id, .slice A1 n1 c1, .slice A2 n2 c2] 28))
  replace B := Lib.hid (B.out.alloc B.out.size (.cells #[.int .i64 id] 2))
  have ONE := Lib.hid (one_ints (w.alloc (.cells #[.int .i64 id, .slice A1 n1 c1, .slice A2 n2 c2] 28)) id)
  simp only [World.size_alloc] at ONE
  by_cases hi : 0 ≤ id ∧ id ≤ 999
  · have HF : Hid (pairF (id, x1, x2) d = rf x1 x2 d) := by show pairF (id, x1, x2) d = _; unfold pairF; rw [if_pos hi]
    have HA : Hid (allIn 0 999 [id] = true) := by show allIn 0 999 [id] = _; rw [allIn_one]; simp; omega
    clear hi
    go_enter Try.func31, Try.ntmps31
    go_wp2_with fail
    refine (within_is 0 999 _ _ _ _ [id] _ true HA.out ONE.out (by decide)).mono ?_
    rintro e w' ⟨rfl, rfl⟩
    clear ONE
    go_wp2_with fail
    refine (implRectFault_any _ _ _ _ _ _ _ _ _ x1 x2 _ (I_1.out.kept B.out) (I_2.out.kept B.out) m1 m2).mono ?_
    rintro e W1 ⟨rfl, b1⟩
    go_wp2
    go_ret
    exact ⟨ret_i64 HF.out.symm, B.out.trans (b1.mono B.out.size)⟩
  · have HF : Hid (pairF (id, x1, x2) d = 3) := by show pairF (id, x1, x2) d = _; unfold pairF; rw [if_neg hi]
    have HA : Hid (allIn 0 999 [id] = false) := by show allIn 0 999 [id] = _; rw [allIn_one]; simp; omega
    clear hi
    go_enter Try.func31, Try.ntmps31
    go_wp2_with fail
    refine (within_is 0 999 _ _ _ _ [id] _ false HA.out ONE.out (by decide)).mono ?_
    rintro e w' ⟨rfl, rfl⟩
    go_wp2
    go_ret
    exact ⟨ret_i64 HF.out.symm, B.out⟩

/-- The numbers of two pairs that stand side by side. -/
theorem Pairs.twoAt {w wr : World} {n m : Nat} {A : Option Addr} {ps : List PV} (h : Pairs w A n ps) (hB : Below w.heap.size w wr) (hk : m + 1 < n) :
    ∃ b o p q, A = some ⟨b, o, none⟩ ∧ Hid (ps[m]? = some p) ∧ Hid (ps[m + 1]? = some q) ∧ wr.cell? ⟨b, o + m * 3, none⟩ = some (.int .i64 p.id) ∧ wr.cell? ⟨b, o + (m + 1) * 3, none⟩ = some (.int .i64 q.id) := by
  obtain ⟨hl, hr, _⟩ := h
  obtain ⟨b, o, e, h2, h3⟩ := hr (by omega)
  have hx : ps[m]? = some (ps[m]'(by omega)) := List.getElem?_eq_getElem (by omega)
  have hy : ps[m + 1]? = some (ps[m + 1]'(by omega)) := List.getElem?_eq_getElem (by omega)
  exact ⟨b, o, _, _, e, hx, hy, (hB.cell (p := ⟨b, o + m * 3, none⟩) h2).trans (h3 m _ hx).1, (hB.cell (p := ⟨b, o + (m + 1) * 3, none⟩) h2).trans (h3 (m + 1) _ hy).1⟩

theorem mf_dim {vs : List (Int × List Int × List Int)} {d : Int} (h : ¬ (2 ≤ d ∧ d ≤ 3)) : mf vs d = 3 := by unfold mf; rw [if_neg h]
theorem mf_many {vs : List (Int × List Int × List Int)} {d : Int} (h : 2 ≤ d ∧ d ≤ 3) (h2 : 60 < vs.length) : mf vs d = 2 := by unfold mf; rw [if_pos h, if_pos h2]
theorem mf_first {vs : List (Int × List Int × List Int)} {d : Int} (h : 2 ≤ d ∧ d ≤ 3) (h2 : ¬ 60 < vs.length) (h3 : firstF d vs ≠ 0) : mf vs d = firstF d vs := by unfold mf; rw [if_pos h, if_neg h2, if_pos h3]
theorem mf_rises {vs : List (Int × List Int × List Int)} {d : Int} (h : 2 ≤ d ∧ d ≤ 3) (h2 : ¬ 60 < vs.length) (h3 : firstF d vs = 0) : mf vs d = if rises vs then 0 else 1 := by unfold mf; rw [if_pos h, if_neg h2, if_neg (by simp [h3])]

set_option maxHeartbeats 3200000 in
theorem specModelFault_any (d : Int) (n c : Nat) (A : Option Addr) (ps : List PV) (w : World) (hp : Pairs w A n ps) (hn : n ≤ maxLen) :
    Calls Try.prog 14 #[.slice A n c, .int .i64 d] w fun e w' => e = .returned (.int .i64 (mf (ps.map PV.val) d)) ∧ Below w.heap.size w w' := by
  have HP := Lib.hid hp
  have HL : Hid ((ps.map PV.val).length = n) := by show List.length _ = n; rw [List.length_map]; exact hp.1
  clear hp
  unfold maxLen at hn
  by_cases hd : 2 ≤ d ∧ d ≤ 3
  rotate_left
  · have HF := Lib.hid (mf_dim (vs := ps.map PV.val) hd)
    go_enter Try.func14, Try.ntmps14
    go_wp2_with fail
    refine (l1In_no _ _ _ _ hd).mono ?_
    rintro e w' ⟨rfl, rfl⟩
    go_wp2
    go_ret
    exact ⟨ret_i64 HF.out.symm, Below.refl _ _⟩
  by_cases hm : 60 < n
  · have HF := Lib.hid (mf_many (vs := ps.map PV.val) hd (by rw [HL.out]; exact hm))
    go_enter Try.func14, Try.ntmps14
    go_wp2_with fail
    refine (l1In_yes _ _ _ _ hd.1 hd.2).mono ?_
    rintro e w' ⟨rfl, rfl⟩
    go_wp2
    go_ret
    exact ⟨ret_i64 HF.out.symm, Below.refl _ _⟩
  have HM : Hid (¬ 60 < (ps.map PV.val).length) := by show ¬ _; rw [HL.out]; exact hm
  have HD := Lib.hid hd
  go_enter Try.func14, Try.ntmps14
  go_wp2_with fail
  refine (l1In_yes _ _ _ _ hd.1 hd.2).mono ?_
  rintro e w' ⟨rfl, rfl⟩
  clear hd
  go_wp2
  go_loopw [5] (fun i wr => ∃ k : Nat, k ≤ n ∧ i = .int .i64 k ∧ Hid (Below w.heap.size w wr) ∧ Hid (∀ (j : Nat) (u : Int × List Int × List Int), j < k → (ps.map PV.val)[j]? = some u → pairF u d = 0)) (fun i _ => n - (intOf i).toNat)
  case atStart => exact ⟨0, Nat.zero_le _, rfl, Below.refl _ _, fun j u hj => absurd hj (Nat.not_lt_zero _)⟩
  case round =>
    obtain ⟨k, hk', rfl, hB, hA⟩ := hrel
    by_cases hlt : k < n
    · obtain ⟨b, o, id, A1, n1, c1, A2, n2, c2, x1, x2, rfl, hb, d0, d1, d2, hx, i1, i2, m1, m2⟩ := HP.out.cellAt hlt
      have e0 : wr.cell? ⟨b, o + k * 3, none⟩ = some (.int .i64 id) := (hB.out.cell (p := ⟨b, o + k * 3, none⟩) hb).trans d0
      have e1 : wr.cell? ⟨b, o + k * 3 + 1, none⟩ = some (.slice A1 n1 c1) := (hB.out.cell (p := ⟨b, o + k * 3 + 1, none⟩) hb).trans d1
      have e2 : wr.cell? ⟨b, o + k * 3 + 2, none⟩ = some (.slice A2 n2 c2) := (hB.out.cell (p := ⟨b, o + k * 3 + 2, none⟩) hb).trans d2
      clear d0 d1 d2
      have HX := Lib.hid (val_get hx.out)
      by_cases hz : pairF (id, x1, x2) d = 0
      · have hz1 : (pairF (id, x1, x2) d != 0) = false := by simp [hz]
        have hA' : Hid (∀ (j : Nat) (u : Int × List Int × List Int), j < k + 1 → (ps.map PV.val)[j]? = some u → pairF u d = 0) := by
          intro j u hj hu
          rcases Nat.lt_succ_iff_lt_or_eq.1 hj with h | h
          · exact hA.out j u h hu
          · subst h; rw [HX.out] at hu; injection hu with hu; subst hu; exact hz
        clear hA hz hx
        go_wp2_with fail
        refine (l2Pair_any _ _ _ _ _ _ _ _ _ _ x1 x2 _ e0 e1 e2 (i1.out.kept hB.out) (i2.out.kept hB.out) m1 m2).mono ?_
        rintro e W1 ⟨rfl, b1⟩
        have hB' := Lib.hid (hB.out.trans (b1.mono hB.out.size))
        clear hB b1 e0 e1 e2
        go_wp2
        go_roundw
        case rel => exact ⟨k + 1, by omega, by go_num, hB', hA'⟩
        case measure => simp [intOf]; omega
      · have hz1 : (pairF (id, x1, x2) d != 0) = true := by simpa using hz
        have H1 : firstF d (ps.map PV.val) = pairF (id, x1, x2) d := firstF_stop hA.out HX.out hz
        have HF : Hid (mf (ps.map PV.val) d = pairF (id, x1, x2) d) := (mf_first HD.out HM.out (by rw [H1]; exact hz)).trans H1
        clear hA hz hx H1
        go_wp2_with fail
        refine (l2Pair_any _ _ _ _ _ _ _ _ _ _ x1 x2 _ e0 e1 e2 (i1.out.kept hB.out) (i2.out.kept hB.out) m1 m2).mono ?_
        rintro e W1 ⟨rfl, b1⟩
        go_wp2
        go_ret
        exact ⟨ret_i64 HF.out.symm, hB.out.trans (b1.mono hB.out.size)⟩
    · have H1 : firstF d (ps.map PV.val) = 0 := firstF_all fun j u hu => hA.out j u (by have h1 := (List.getElem?_eq_some_iff.1 hu).1; have h2 := HL.out; omega) hu
      have HR := Lib.hid (mf_rises HD.out HM.out H1)
      clear hA H1
      go_wp2
      go_loopw [7] (fun i wq => ∃ m : Nat, m ≤ n ∧ i = .int .i64 ((m : Int) + 1) ∧ Hid (Below w.heap.size w wq) ∧ Hid (∀ (j : Nat) (p q : PV), j < m → ps[j]? = some p → ps[j + 1]? = some q → p.id < q.id)) (fun i _ => n + 1 - (intOf i).toNat)
      case atStart => exact ⟨0, Nat.zero_le _, rfl, hB, fun j p q hj => absurd hj (Nat.not_lt_zero _)⟩
      case round =>
        obtain ⟨m, hm', rfl, hB2, hA⟩ := hrel
        by_cases hlt2 : m + 1 < n
        · obtain ⟨b, o, p, q, rfl, hx, hy, d0, d1⟩ := HP.out.twoAt hB2.out hlt2
          have hlt' : (m : Int) + 1 < n := by omega
          by_cases hr : q.id ≤ p.id
          · have HF : Hid (mf (ps.map PV.val) d = 1) := by
              show mf _ _ = _
              rw [HR.out, rises_false (val_get hx.out) (val_get hy.out) (show ¬ p.id < q.id by omega)]; rfl
            clear hx hy
            go_wp2
            go_quiet (fail)
            go_wp2
            go_ret
            exact ⟨ret_i64 HF.out.symm, below_draws hB2.out _⟩
          · have hA' : Hid (∀ (j : Nat) (p q : PV), j < m + 1 → ps[j]? = some p → ps[j + 1]? = some q → p.id < q.id) := by
              intro j p' q' hj hp' hq'
              rcases Nat.lt_succ_iff_lt_or_eq.1 hj with h | h
              · exact hA.out j p' q' h hp' hq'
              · subst h; rw [hx.out] at hp'; rw [hy.out] at hq'; injection hp' with hp'; injection hq' with hq'; subst hp' hq'; omega
            clear hx hy hA
            go_wp2
            go_quiet (fail)
            go_wp2
            go_roundw
            case rel => exact ⟨m + 1, by omega, by go_num, below_draws hB2.out _, hA'⟩
            case measure => simp [intOf]; omega
        · have HF : Hid (mf (ps.map PV.val) d = 0) := by
            show mf _ _ = _
            rw [HR.out, rises_true fun j u v hu hv => ?_]; rfl
            obtain ⟨p, hp, rfl⟩ := val_of hu
            obtain ⟨q, hq, rfl⟩ := val_of hv
            have hj := (List.getElem?_eq_some_iff.1 hq).1
            have hl := HP.out.1
            exact hA.out j p q (by omega) hp hq
          have hlt' : ¬ (m : Int) + 1 < n := by omega
          clear hA
          go_wp2
          go_ret
          exact ⟨ret_i64 HF.out.symm, hB2.out⟩

end Go.Proofs.Ytpgoildfjkokiab
