/- The walks of sameEntry, sameNode, slices.EqualFunc over both, spec.l3SameEntries, spec.SameNodes, impl.SameNodes. -/
import Derived.Test.YtpgoildfjkokiaaGreatNodeLists
import Derived.Test.YtpgoildfjkokiaaGreatSame
namespace Go.Proofs.YtpgoildfjkokiaaGreat
open Go.RowKit

instance : DecidableEq EVal := fun a b => by unfold EVal at a b; infer_instance
instance : DecidableEq NVal := fun a b => by unfold NVal at a b; infer_instance
/-- Whether two lists say the same. -/
def sameL {α β : Type} [DecidableEq β] (f : α → β) (ps qs : List α) : Bool := decide (ps.map f = qs.map f)
section
variable {α β : Type} [DecidableEq β] {f : α → β} {ps qs : List α}
theorem sameL_len (h : ps.length ≠ qs.length) : sameL f ps qs = false := by
  refine decide_eq_false fun e => h ?_
  have := congrArg List.length e
  simpa using this
theorem sameL_at {k : Nat} {p q : α} (hp : ps[k]? = some p) (hq : qs[k]? = some q) (h : f p ≠ f q) : sameL f ps qs = false := decide_eq_false fun e => h (by
  have h1 : (ps.map f)[k]? = some (f p) := by simp [hp]
  have h2 : (qs.map f)[k]? = some (f q) := by simp [hq]
  rw [e, h2] at h1
  injection h1 with h1; exact h1.symm)
theorem sameL_all (hl : ps.length = qs.length) (h : ∀ (j : Nat) (p q : α), j < ps.length → ps[j]? = some p → qs[j]? = some q → f p = f q) : sameL f ps qs = true := by
  refine decide_eq_true (List.ext_getElem? fun j => ?_)
  rw [List.getElem?_map, List.getElem?_map]
  rcases Nat.lt_or_ge j ps.length with hj | hj
  · have h1 : ps[j]? = some (ps[j]'hj) := List.getElem?_eq_getElem hj
    have h2 : qs[j]? = some (qs[j]'(by omega)) := List.getElem?_eq_getElem (by omega)
    rw [h1, h2]
    exact congrArg some (h j _ _ hj h1 h2)
  · rw [List.getElem?_eq_none hj, List.getElem?_eq_none (by omega)]
theorem sameL_congr {ps' qs' : List α} (h : ps.map f = ps'.map f) (h' : qs.map f = qs'.map f) : sameL f ps qs = sameL f ps' qs' := by unfold sameL; rw [h, h']
end
theorem agreeL_next {α β : Type} {f : α → β} {ps qs : List α} {k : Nat} {p q : α} (hA : ∀ (j : Nat) (p q : α), j < k → ps[j]? = some p → qs[j]? = some q → f p = f q) (hp : ps[k]? = some p) (hq : qs[k]? = some q) (h : f p = f q) :
    ∀ (j : Nat) (p q : α), j < k + 1 → ps[j]? = some p → qs[j]? = some q → f p = f q := by
  intro j p' q' hj hp' hq'
  rcases Nat.lt_succ_iff_lt_or_eq.1 hj with h' | h'
  · exact hA j p' q' h' hp' hq'
  · subst h'; rw [hp] at hp'; rw [hq] at hq'; injection hp' with hp'; injection hq' with hq'; subst hp' hq'; exact h

set_option maxHeartbeats 1600000 in
theorem sameEntry_any (ref nsn ref' nsn' : Int) (n1 c1 n2 c2 n3 c3 n4 c4 lo1 lo2 lo3 lo4 : Nat) (A1 A2 A3 A4 : Option Addr) (x1 x2 x3 x4 : List Int) (w : World)
    (h1 : Ints w lo1 A1 n1 x1) (h2 : Ints w lo2 A2 n2 x2) (h3 : Ints w lo3 A3 n3 x3) (h4 : Ints w lo4 A4 n4 x4) (m1 : n1 ≤ maxLen) (m2 : n2 ≤ maxLen) (m3 : n3 ≤ maxLen) (m4 : n4 ≤ maxLen) :
    Calls Tryz.prog 131 #[.agg #[.slice A1 n1 c1, .slice A2 n2 c2, .int .i64 ref, .int .i64 nsn], .agg #[.slice A3 n3 c3, .slice A4 n4 c4, .int .i64 ref', .int .i64 nsn']] w fun e w' => e = .returned (.bool ((ref == ref') && (nsn == nsn') && sameF x1 x2 x3 x4)) ∧ Below w.heap.size w w' := by
  have I_1 := Lib.hid h1
  have I_2 := Lib.hid h2
  have I_3 := Lib.hid h3
  have I_4 := Lib.hid h4
  clear h1 h2 h3 h4
  have B := Lib.hid (below_alloc w (.cells #[.slice A1 n1 c1, .slice A2 n2 c2, .int .i64 ref, .int .i64 nsn] 150))
  replace B := Lib.hid (B.out.alloc B.out.size (.cells #[.slice A3 n3 c3, .slice A4 n4 c4, .int .i64 ref', .int .i64 nsn'] 150))
  by_cases hr : ref = ref'
  rotate_left
  · have e1 : (ref == ref') = false := by simpa using hr
    clear hr
    go_enter Tryz.func131, Tryz.ntmps131
    go_wp2
    go_ret
    exact ⟨ret_bool (by simp [e1]), B.out⟩
  have e1 : (ref == ref') = true := by simpa using hr
  clear hr
  by_cases hr : nsn = nsn'
  rotate_left
  · have e2 : (nsn == nsn') = false := by simpa using hr
    clear hr
    go_enter Tryz.func131, Tryz.ntmps131
    go_wp2
    go_ret
    exact ⟨ret_bool (by simp [e2]), B.out⟩
  have e2 : (nsn == nsn') = true := by simpa using hr
  clear hr
  go_enter Tryz.func131, Tryz.ntmps131
  go_wp2_with fail
  refine (implSameRects_any _ _ _ _ _ _ _ _ _ _ _ _ _ _ _ _ x1 x2 x3 x4 _ (I_1.out.kept B.out) (I_2.out.kept B.out) (I_3.out.kept B.out) (I_4.out.kept B.out) m1 m2 m3 m4).mono ?_
  rintro e W1 ⟨rfl, b1⟩
  replace B := Lib.hid (B.out.trans (b1.mono B.out.size))
  clear b1
  generalize hsf : sameF x1 x2 x3 x4 = sf
  have HSF := Lib.hid hsf
  clear hsf
  go_wp2
  go_ret
  exact ⟨ret_bool (by rw [HSF.out]; simp [e1, e2]), B.out⟩

set_option maxHeartbeats 3200000 in
theorem equalFuncE_any (n n' c c' : Nat) (A A' : Option Addr) (ps qs : List EV) (w : World) (hp : Entries w A n ps) (hq : Entries w A' n' qs) (hn : n ≤ maxLen) (hn' : n' ≤ maxLen) :
    Calls Tryz.prog 130 #[.slice A n c, .slice A' n' c', .func (.func 131) #[] #[]] w fun e w' => e = .returned (.bool (sameL EV.val ps qs)) ∧ Below w.heap.size w w' := by
  have HP := Lib.hid hp
  have HQ := Lib.hid hq
  clear hp hq
  unfold maxLen at hn hn'
  by_cases hnn : n = n'
  rotate_left
  · have hne : ((n : Int) != n') = true := by simp; omega
    have HF : Hid (sameL EV.val ps qs = false) := sameL_len (by rw [HP.out.1, HQ.out.1]; exact hnn)
    clear hnn
    go_enter Tryz.func130, Tryz.ntmps130
    go_wp2
    go_ret
    exact ⟨ret_bool HF.out.symm, Below.refl _ _⟩
  subst hnn
  have hne : ((n : Int) != n) = false := by simp
  go_enter Tryz.func130, Tryz.ntmps130
  go_wp2
  go_loopw [17] (fun i wr => ∃ k : Nat, k ≤ n ∧ i = .int .i64 k ∧ Hid (Below w.heap.size w wr) ∧ Hid (∀ (j : Nat) (p q : EV), j < k → ps[j]? = some p → qs[j]? = some q → EV.val p = EV.val q)) (fun i _ => n - (intOf i).toNat)
  case atStart => exact ⟨0, Nat.zero_le _, rfl, Below.refl _ _, fun j p q hj => absurd hj (Nat.not_lt_zero _)⟩
  case round =>
    obtain ⟨k, hk', rfl, hB, hA⟩ := hrel
    by_cases hlt : k < n
    · obtain ⟨b, o, A1, n1, c1, A2, n2, c2, ref, nsn, x1, x2, rfl, hb, d0, d1, d2, d3, hx, i1, i2, m1, m2⟩ := HP.out.cellAt hlt
      obtain ⟨b', o', A3, n3, c3, A4, n4, c4, ref', nsn', x3, x4, rfl, hb', d4, d5, d6, d7, hy, i3, i4, m3, m4⟩ := HQ.out.cellAt hlt
      have kb' := Nat.lt_of_lt_of_le hb' hB.out.size
      have e0 : wr.cell? ⟨b, o + k * 4, none⟩ = some (.slice A1 n1 c1) := (hB.out.cell (p := ⟨b, o + k * 4, none⟩) hb).trans d0
      have e1 : wr.cell? ⟨b, o + k * 4 + 1, none⟩ = some (.slice A2 n2 c2) := (hB.out.cell (p := ⟨b, o + k * 4 + 1, none⟩) hb).trans d1
      have e2 : wr.cell? ⟨b, o + k * 4 + 2, none⟩ = some (.int .i64 ref) := (hB.out.cell (p := ⟨b, o + k * 4 + 2, none⟩) hb).trans d2
      have e3 : wr.cell? ⟨b, o + k * 4 + 3, none⟩ = some (.int .i64 nsn) := (hB.out.cell (p := ⟨b, o + k * 4 + 3, none⟩) hb).trans d3
      have hB1 := Lib.hid (below_alloc wr (.cells #[.slice A1 n1 c1, .slice A2 n2 c2, .int .i64 ref, .int .i64 nsn] 150))
      have e4 : (wr.alloc (.cells #[.slice A1 n1 c1, .slice A2 n2 c2, .int .i64 ref, .int .i64 nsn] 150)).cell? ⟨b', o' + k * 4, none⟩ = some (.slice A3 n3 c3) := (hB1.out.cell (p := ⟨b', o' + k * 4, none⟩) kb').trans ((hB.out.cell (p := ⟨b', o' + k * 4, none⟩) hb').trans d4)
      have e5 : (wr.alloc (.cells #[.slice A1 n1 c1, .slice A2 n2 c2, .int .i64 ref, .int .i64 nsn] 150)).cell? ⟨b', o' + k * 4 + 1, none⟩ = some (.slice A4 n4 c4) := (hB1.out.cell (p := ⟨b', o' + k * 4 + 1, none⟩) kb').trans ((hB.out.cell (p := ⟨b', o' + k * 4 + 1, none⟩) hb').trans d5)
      have e6 : (wr.alloc (.cells #[.slice A1 n1 c1, .slice A2 n2 c2, .int .i64 ref, .int .i64 nsn] 150)).cell? ⟨b', o' + k * 4 + 2, none⟩ = some (.int .i64 ref') := (hB1.out.cell (p := ⟨b', o' + k * 4 + 2, none⟩) kb').trans ((hB.out.cell (p := ⟨b', o' + k * 4 + 2, none⟩) hb').trans d6)
      have e7 : (wr.alloc (.cells #[.slice A1 n1 c1, .slice A2 n2 c2, .int .i64 ref, .int .i64 nsn] 150)).cell? ⟨b', o' + k * 4 + 3, none⟩ = some (.int .i64 nsn') := (hB1.out.cell (p := ⟨b', o' + k * 4 + 3, none⟩) kb').trans ((hB.out.cell (p := ⟨b', o' + k * 4 + 3, none⟩) hb').trans d7)
      have hB2 := Lib.hid (hB.out.alloc hB.out.size (.cells #[.slice A1 n1 c1, .slice A2 n2 c2, .int .i64 ref, .int .i64 nsn] 150))
      replace hB2 := Lib.hid (hB2.out.alloc hB2.out.size (.cells #[.slice A3 n3 c3, .slice A4 n4 c4, .int .i64 ref', .int .i64 nsn'] 150))
      clear d0 d1 d2 d3 d4 d5 d6 d7 hB1
      cases hsm : ((ref == ref') && (nsn == nsn') && sameF x1 x2 x3 x4)
      · have HS := Lib.hid hsm
        have HF : Hid (sameL EV.val ps qs = false) := sameL_at hx.out hy.out (fun e => by
          simp only [EV.val, Prod.mk.injEq] at e
          simp [sameF, e.1, e.2.1, e.2.2.1, e.2.2.2] at hsm)
        clear hsm hx hy hA
        go_wp2_with fail
        refine (sameEntry_any _ _ _ _ _ _ _ _ _ _ _ _ _ _ _ _ _ _ _ _ x1 x2 x3 x4 _ (i1.out.kept hB2.out) (i2.out.kept hB2.out) (i3.out.kept hB2.out) (i4.out.kept hB2.out) m1 m2 m3 m4).mono ?_
        rintro e W1 ⟨rfl, b1⟩
        rw [HS.out]
        go_wp2
        go_ret
        exact ⟨ret_bool HF.out.symm, hB2.out.trans (b1.mono hB2.out.size)⟩
      · have HS := Lib.hid hsm
        have hA' := Lib.hid (agreeL_next (f := EV.val) hA.out hx.out hy.out (by
          simp [sameF] at hsm
          simp only [EV.val, Prod.mk.injEq]
          exact ⟨hsm.2.1, hsm.2.2, hsm.1.1, hsm.1.2⟩))
        clear hsm hx hy hA
        go_wp2_with fail
        refine (sameEntry_any _ _ _ _ _ _ _ _ _ _ _ _ _ _ _ _ _ _ _ _ x1 x2 x3 x4 _ (i1.out.kept hB2.out) (i2.out.kept hB2.out) (i3.out.kept hB2.out) (i4.out.kept hB2.out) m1 m2 m3 m4).mono ?_
        rintro e W1 ⟨rfl, b1⟩
        rw [HS.out]
        have hB' := Lib.hid (hB2.out.trans (b1.mono hB2.out.size))
        clear hB hB2 b1 e0 e1 e2 e3 e4 e5 e6 e7
        go_wp2
        go_roundw
        case rel => exact ⟨k + 1, by omega, by go_num, hB', hA'⟩
        case measure => simp [intOf]; omega
    · have HF : Hid (sameL EV.val ps qs = true) := sameL_all (by rw [HP.out.1, HQ.out.1]) fun j p q hj hp' hq' => hA.out j p q (by have := HP.out.1; omega) hp' hq'
      clear hA
      go_wp2
      go_ret
      exact ⟨ret_bool HF.out.symm, hB.out⟩

set_option maxHeartbeats 1600000 in
theorem sameNode_any (lv ns rt lv' ns' rt' : Int) (n1 c1 n3 c3 : Nat) (A1 A3 : Option Addr) (es es' : List EV) (w : World)
    (h1 : Entries w A1 n1 es) (h3 : Entries w A3 n3 es') (m1 : n1 ≤ maxLen) (m3 : n3 ≤ maxLen) :
    Calls Tryz.prog 118 #[.agg #[.int .i64 lv, .int .i64 ns, .int .i64 rt, .slice A1 n1 c1], .agg #[.int .i64 lv', .int .i64 ns', .int .i64 rt', .slice A3 n3 c3]] w fun e w' => e = .returned (.bool ((lv == lv') && (ns == ns') && (rt == rt') && sameL EV.val es es')) ∧ Below w.heap.size w w' := by
  have I_1 := Lib.hid h1
  have I_3 := Lib.hid h3
  clear h1 h3
  have B := Lib.hid (below_alloc w (.cells #[.int .i64 lv, .int .i64 ns, .int .i64 rt, .slice A1 n1 c1] 42))
  replace B := Lib.hid (B.out.alloc B.out.size (.cells #[.int .i64 lv', .int .i64 ns', .int .i64 rt', .slice A3 n3 c3] 42))
  by_cases hr : lv = lv'
  rotate_left
  · have e_lv : (lv == lv') = false := by simpa using hr
    have g_lv : (lv != lv') = true := by simpa using hr
    clear hr
    go_enter Tryz.func118, Tryz.ntmps118
    go_wp2
    go_ret
    exact ⟨ret_bool (by simp [e_lv]), B.out⟩
  have e_lv : (lv == lv') = true := by simpa using hr
  have g_lv : (lv != lv') = false := by simp [hr]
  clear hr
  by_cases hr : ns = ns'
  rotate_left
  · have e_ns : (ns == ns') = false := by simpa using hr
    have g_ns : (ns != ns') = true := by simpa using hr
    clear hr
    go_enter Tryz.func118, Tryz.ntmps118
    go_wp2
    go_ret
    exact ⟨ret_bool (by simp [e_ns]), B.out⟩
  have e_ns : (ns == ns') = true := by simpa using hr
  have g_ns : (ns != ns') = false := by simp [hr]
  clear hr
  by_cases hr : rt = rt'
  rotate_left
  · have e_rt : (rt == rt') = false := by simpa using hr
    have g_rt : (rt != rt') = true := by simpa using hr
    clear hr
    go_enter Tryz.func118, Tryz.ntmps118
    go_wp2
    go_ret
    exact ⟨ret_bool (by simp [e_rt]), B.out⟩
  have e_rt : (rt == rt') = true := by simpa using hr
  have g_rt : (rt != rt') = false := by simp [hr]
  clear hr
  go_enter Tryz.func118, Tryz.ntmps118
  go_wp2_with fail
  refine (equalFuncE_any _ _ _ _ _ _ es es' _ (I_1.out.kept B.out) (I_3.out.kept B.out) m1 m3).mono ?_
  rintro e W1 ⟨rfl, b1⟩
  replace B := Lib.hid (B.out.trans (b1.mono B.out.size))
  clear b1
  generalize hsf : sameL EV.val es es' = sf
  have HSF := Lib.hid hsf
  clear hsf
  go_wp2
  go_ret
  exact ⟨ret_bool (by rw [HSF.out]; simp [e_lv, e_ns, e_rt]), B.out⟩


set_option maxRecDepth 100000 in
set_option maxHeartbeats 6400000 in
theorem specSameEntries_any (n n' c c' : Nat) (A A' : Option Addr) (ps qs : List EV) (w : World) (hp : Entries w A n ps) (hq : Entries w A' n' qs) (hn : n ≤ maxLen) (hn' : n' ≤ maxLen) :
    Calls Tryz.prog 128 #[.slice A n c, .slice A' n' c'] w fun e w' => e = .returned (.bool (sameL EV.val ps qs)) ∧ Below w.heap.size w w' := by
  have HP := Lib.hid hp
  have HQ := Lib.hid hq
  clear hp hq
  unfold maxLen at hn hn'
  by_cases hnn : n = n'
  rotate_left
  · have hne : ((n : Int) != n') = true := by simp; omega
    have HF : Hid (sameL EV.val ps qs = false) := sameL_len (by rw [HP.out.1, HQ.out.1]; exact hnn)
    clear hnn
    go_enter Tryz.func128, Tryz.ntmps128
    go_wp2
    go_ret
    exact ⟨ret_bool HF.out.symm, Below.refl _ _⟩
  subst hnn
  have hne : ((n : Int) != n) = false := by simp
  go_enter Tryz.func128, Tryz.ntmps128
  go_wp2
  go_loopw [5] (fun i wr => ∃ k : Nat, k ≤ n ∧ i = .int .i64 k ∧ Hid (Below w.heap.size w wr) ∧ Hid (∀ (j : Nat) (p q : EV), j < k → ps[j]? = some p → qs[j]? = some q → EV.val p = EV.val q)) (fun i _ => n - (intOf i).toNat)
  case atStart => exact ⟨0, Nat.zero_le _, rfl, Below.refl _ _, fun j p q hj => absurd hj (Nat.not_lt_zero _)⟩
  case round =>
    obtain ⟨k, hk', rfl, hB, hA⟩ := hrel
    by_cases hlt : k < n
    · obtain ⟨b, o, A1, n1, c1, A2, n2, c2, ref, nsn, x1, x2, rfl, hb, d0, d1, d2, d3, hx, i1, i2, m1, m2⟩ := HP.out.cellAt hlt
      obtain ⟨b', o', A3, n3, c3, A4, n4, c4, ref', nsn', x3, x4, rfl, hb', d4, d5, d6, d7, hy, i3, i4, m3, m4⟩ := HQ.out.cellAt hlt
      have kb := Nat.lt_of_lt_of_le hb hB.out.size
      have kb' := Nat.lt_of_lt_of_le hb' hB.out.size
      have k_0 : wr.cell? ⟨b, o + k * 4, none⟩ = some (.slice A1 n1 c1) ∧ wr.cell? ⟨b, o + k * 4 + 1, none⟩ = some (.slice A2 n2 c2) ∧ wr.cell? ⟨b, o + k * 4 + 2, none⟩ = some (.int .i64 ref) ∧ wr.cell? ⟨b, o + k * 4 + 3, none⟩ = some (.int .i64 nsn) ∧ wr.cell? ⟨b', o' + k * 4, none⟩ = some (.slice A3 n3 c3) ∧ wr.cell? ⟨b', o' + k * 4 + 1, none⟩ = some (.slice A4 n4 c4) ∧ wr.cell? ⟨b', o' + k * 4 + 2, none⟩ = some (.int .i64 ref') ∧ wr.cell? ⟨b', o' + k * 4 + 3, none⟩ = some (.int .i64 nsn') := ⟨(hB.out.cell (p := ⟨b, o + k * 4, none⟩) hb).trans d0, (hB.out.cell (p := ⟨b, o + k * 4 + 1, none⟩) hb).trans d1, (hB.out.cell (p := ⟨b, o + k * 4 + 2, none⟩) hb).trans d2, (hB.out.cell (p := ⟨b, o + k * 4 + 3, none⟩) hb).trans d3, (hB.out.cell (p := ⟨b', o' + k * 4, none⟩) hb').trans d4, (hB.out.cell (p := ⟨b', o' + k * 4 + 1, none⟩) hb').trans d5, (hB.out.cell (p := ⟨b', o' + k * 4 + 2, none⟩) hb').trans d6, (hB.out.cell (p := ⟨b', o' + k * 4 + 3, none⟩) hb').trans d7⟩
      clear d0 d1 d2 d3 d4 d5 d6 d7
      by_cases h_ref : ref = ref'
      rotate_left
      · have g_ref : (ref != ref') = true := by simpa using h_ref
        have HF : Hid (sameL EV.val ps qs = false) := sameL_at hx.out hy.out (fun e => h_ref ((congrArg (fun v : EVal => v.2.2.1) e)))
        obtain ⟨e0, e1, e2, e3, e4, e5, e6, e7⟩ := k_0
        clear h_ref hx hy hA
        go_wp2_with fail
        go_quiet (fail)
        go_wp2
        go_ret
        exact ⟨ret_bool HF.out.symm, below_draws hB.out _⟩
      have g_ref : (ref != ref') = false := by simp [h_ref]
      replace h_ref := Lib.hid h_ref
      by_cases h_nsn : nsn = nsn'
      rotate_left
      · have g_nsn : (nsn != nsn') = true := by simpa using h_nsn
        have HF : Hid (sameL EV.val ps qs = false) := sameL_at hx.out hy.out (fun e => h_nsn ((congrArg (fun v : EVal => v.2.2.2) e)))
        obtain ⟨e0, e1, e2, e3, e4, e5, e6, e7⟩ := k_0
        clear h_nsn hx hy hA
        go_wp2_with fail
        go_quiet (fail)
        go_wp2
        go_ret
        exact ⟨ret_bool HF.out.symm, below_draws hB.out _⟩
      have g_nsn : (nsn != nsn') = false := by simp [h_nsn]
      replace h_nsn := Lib.hid h_nsn
      cases hsm : sameF x1 x2 x3 x4
      · have HS := Lib.hid hsm
        have HF : Hid (sameL EV.val ps qs = false) := sameL_at hx.out hy.out (fun e => by
          simp only [EV.val, Prod.mk.injEq] at e
          simp [sameF, e.1, e.2.1] at hsm)
        clear hsm hx hy hA
        go_wp2_with fail
        go_region_held3 (fun w' => w'.cell? ⟨b, o + k * 4, none⟩ = some (.slice A1 n1 c1) ∧ w'.cell? ⟨b, o + k * 4 + 1, none⟩ = some (.slice A2 n2 c2) ∧ w'.cell? ⟨b, o + k * 4 + 2, none⟩ = some (.int .i64 ref) ∧ w'.cell? ⟨b, o + k * 4 + 3, none⟩ = some (.int .i64 nsn) ∧ w'.cell? ⟨b', o' + k * 4, none⟩ = some (.slice A3 n3 c3) ∧ w'.cell? ⟨b', o' + k * 4 + 1, none⟩ = some (.slice A4 n4 c4) ∧ w'.cell? ⟨b', o' + k * 4 + 2, none⟩ = some (.int .i64 ref') ∧ w'.cell? ⟨b', o' + k * 4 + 3, none⟩ = some (.int .i64 nsn'))
          (first | (simp [go_sem, k_0]; done) | with_reducible exact k_1)
          (first
            | (go_at_call 137; refine (specSameRects_any _ _ _ _ _ _ _ _ _ _ _ _ _ _ _ _ x1 x2 x3 x4 _ (i1.out.kept hB.out.drew) (i2.out.kept hB.out.drew) (i3.out.kept hB.out.drew) (i4.out.kept hB.out.drew) m1 m2 m3 m4).mono ?_
               rintro e W1 ⟨rfl, b1d⟩
               rw [HS.out]
               have b1 := below_drawn b1d
               have k_1 : W1.cell? ⟨b, o + k * 4, none⟩ = some (.slice A1 n1 c1) ∧ W1.cell? ⟨b, o + k * 4 + 1, none⟩ = some (.slice A2 n2 c2) ∧ W1.cell? ⟨b, o + k * 4 + 2, none⟩ = some (.int .i64 ref) ∧ W1.cell? ⟨b, o + k * 4 + 3, none⟩ = some (.int .i64 nsn) ∧ W1.cell? ⟨b', o' + k * 4, none⟩ = some (.slice A3 n3 c3) ∧ W1.cell? ⟨b', o' + k * 4 + 1, none⟩ = some (.slice A4 n4 c4) ∧ W1.cell? ⟨b', o' + k * 4 + 2, none⟩ = some (.int .i64 ref') ∧ W1.cell? ⟨b', o' + k * 4 + 3, none⟩ = some (.int .i64 nsn') := ⟨(b1.cell (p := ⟨b, o + k * 4, none⟩) kb).trans k_0.1, (b1.cell (p := ⟨b, o + k * 4 + 1, none⟩) kb).trans k_0.2.1, (b1.cell (p := ⟨b, o + k * 4 + 2, none⟩) kb).trans k_0.2.2.1, (b1.cell (p := ⟨b, o + k * 4 + 3, none⟩) kb).trans k_0.2.2.2.1, (b1.cell (p := ⟨b', o' + k * 4, none⟩) kb').trans k_0.2.2.2.2.1, (b1.cell (p := ⟨b', o' + k * 4 + 1, none⟩) kb').trans k_0.2.2.2.2.2.1, (b1.cell (p := ⟨b', o' + k * 4 + 2, none⟩) kb').trans k_0.2.2.2.2.2.2.1, (b1.cell (p := ⟨b', o' + k * 4 + 3, none⟩) kb').trans k_0.2.2.2.2.2.2.2⟩
               clear b1d))
        clear k_0 k_1
        have hB' := Lib.hid (hB.out.trans (b1.mono hB.out.size))
        clear hB b1
        go_wp2
        go_ret
        exact ⟨ret_bool HF.out.symm, hB'.out⟩
      · have HS := Lib.hid hsm
        have hA' := Lib.hid (agreeL_next (f := EV.val) hA.out hx.out hy.out (by
          simp [sameF] at hsm
          simp only [EV.val, Prod.mk.injEq]
          exact ⟨hsm.1, hsm.2, h_ref.out, h_nsn.out⟩))
        clear hsm hx hy hA
        go_wp2_with fail
        go_region_held3 (fun w' => w'.cell? ⟨b, o + k * 4, none⟩ = some (.slice A1 n1 c1) ∧ w'.cell? ⟨b, o + k * 4 + 1, none⟩ = some (.slice A2 n2 c2) ∧ w'.cell? ⟨b, o + k * 4 + 2, none⟩ = some (.int .i64 ref) ∧ w'.cell? ⟨b, o + k * 4 + 3, none⟩ = some (.int .i64 nsn) ∧ w'.cell? ⟨b', o' + k * 4, none⟩ = some (.slice A3 n3 c3) ∧ w'.cell? ⟨b', o' + k * 4 + 1, none⟩ = some (.slice A4 n4 c4) ∧ w'.cell? ⟨b', o' + k * 4 + 2, none⟩ = some (.int .i64 ref') ∧ w'.cell? ⟨b', o' + k * 4 + 3, none⟩ = some (.int .i64 nsn'))
          (first | (simp [go_sem, k_0]; done) | with_reducible exact k_1)
          (first
            | (go_at_call 137; refine (specSameRects_any _ _ _ _ _ _ _ _ _ _ _ _ _ _ _ _ x1 x2 x3 x4 _ (i1.out.kept hB.out.drew) (i2.out.kept hB.out.drew) (i3.out.kept hB.out.drew) (i4.out.kept hB.out.drew) m1 m2 m3 m4).mono ?_
               rintro e W1 ⟨rfl, b1d⟩
               rw [HS.out]
               have b1 := below_drawn b1d
               have k_1 : W1.cell? ⟨b, o + k * 4, none⟩ = some (.slice A1 n1 c1) ∧ W1.cell? ⟨b, o + k * 4 + 1, none⟩ = some (.slice A2 n2 c2) ∧ W1.cell? ⟨b, o + k * 4 + 2, none⟩ = some (.int .i64 ref) ∧ W1.cell? ⟨b, o + k * 4 + 3, none⟩ = some (.int .i64 nsn) ∧ W1.cell? ⟨b', o' + k * 4, none⟩ = some (.slice A3 n3 c3) ∧ W1.cell? ⟨b', o' + k * 4 + 1, none⟩ = some (.slice A4 n4 c4) ∧ W1.cell? ⟨b', o' + k * 4 + 2, none⟩ = some (.int .i64 ref') ∧ W1.cell? ⟨b', o' + k * 4 + 3, none⟩ = some (.int .i64 nsn') := ⟨(b1.cell (p := ⟨b, o + k * 4, none⟩) kb).trans k_0.1, (b1.cell (p := ⟨b, o + k * 4 + 1, none⟩) kb).trans k_0.2.1, (b1.cell (p := ⟨b, o + k * 4 + 2, none⟩) kb).trans k_0.2.2.1, (b1.cell (p := ⟨b, o + k * 4 + 3, none⟩) kb).trans k_0.2.2.2.1, (b1.cell (p := ⟨b', o' + k * 4, none⟩) kb').trans k_0.2.2.2.2.1, (b1.cell (p := ⟨b', o' + k * 4 + 1, none⟩) kb').trans k_0.2.2.2.2.2.1, (b1.cell (p := ⟨b', o' + k * 4 + 2, none⟩) kb').trans k_0.2.2.2.2.2.2.1, (b1.cell (p := ⟨b', o' + k * 4 + 3, none⟩) kb').trans k_0.2.2.2.2.2.2.2⟩
               clear b1d))
        clear k_0 k_1
        have hB' := Lib.hid (hB.out.trans (b1.mono hB.out.size))
        clear hB b1
        go_wp2
        go_roundw
        case rel => exact ⟨k + 1, by omega, by go_num, hB', hA'⟩
        case measure => simp [intOf]; omega
    · have HF : Hid (sameL EV.val ps qs = true) := sameL_all (by rw [HP.out.1, HQ.out.1]) fun j p q hj hp' hq' => hA.out j p q (by have := HP.out.1; omega) hp' hq'
      clear hA
      go_wp2
      go_ret
      exact ⟨ret_bool HF.out.symm, hB.out⟩

set_option maxRecDepth 100000 in
set_option maxHeartbeats 6400000 in
theorem specSameNodes_any (n n' c c' : Nat) (A A' : Option Addr) (ps qs : List NV) (w : World) (hp : NodesL w A n ps) (hq : NodesL w A' n' qs) (hn : n ≤ maxLen) (hn' : n' ≤ maxLen) :
    Calls Tryz.prog 115 #[.slice A n c, .slice A' n' c'] w fun e w' => e = .returned (.bool (sameL NV.val ps qs)) ∧ Below w.heap.size w w' := by
  have HP := Lib.hid hp
  have HQ := Lib.hid hq
  clear hp hq
  unfold maxLen at hn hn'
  by_cases hnn : n = n'
  rotate_left
  · have hne : ((n : Int) != n') = true := by simp; omega
    have HF : Hid (sameL NV.val ps qs = false) := sameL_len (by rw [HP.out.1, HQ.out.1]; exact hnn)
    clear hnn
    go_enter Tryz.func115, Tryz.ntmps115
    go_wp2
    go_ret
    exact ⟨ret_bool HF.out.symm, Below.refl _ _⟩
  subst hnn
  have hne : ((n : Int) != n) = false := by simp
  go_enter Tryz.func115, Tryz.ntmps115
  go_wp2
  go_loopw [5] (fun i wr => ∃ k : Nat, k ≤ n ∧ i = .int .i64 k ∧ Hid (Below w.heap.size w wr) ∧ Hid (∀ (j : Nat) (p q : NV), j < k → ps[j]? = some p → qs[j]? = some q → NV.val p = NV.val q)) (fun i _ => n - (intOf i).toNat)
  case atStart => exact ⟨0, Nat.zero_le _, rfl, Below.refl _ _, fun j p q hj => absurd hj (Nat.not_lt_zero _)⟩
  case round =>
    obtain ⟨k, hk', rfl, hB, hA⟩ := hrel
    by_cases hlt : k < n
    · obtain ⟨b, o, lv, ns, rt, A1, n1, c1, es, rfl, hb, d0, d1, d2, d3, hx, i1, m1⟩ := HP.out.cellAt hlt
      obtain ⟨b', o', lv', ns', rt', A3, n3, c3, es', rfl, hb', d4, d5, d6, d7, hy, i3, m3⟩ := HQ.out.cellAt hlt
      have kb := Nat.lt_of_lt_of_le hb hB.out.size
      have kb' := Nat.lt_of_lt_of_le hb' hB.out.size
      have k_0 : wr.cell? ⟨b, o + k * 4, none⟩ = some (.int .i64 lv) ∧ wr.cell? ⟨b, o + k * 4 + 1, none⟩ = some (.int .i64 ns) ∧ wr.cell? ⟨b, o + k * 4 + 2, none⟩ = some (.int .i64 rt) ∧ wr.cell? ⟨b, o + k * 4 + 3, none⟩ = some (.slice A1 n1 c1) ∧ wr.cell? ⟨b', o' + k * 4, none⟩ = some (.int .i64 lv') ∧ wr.cell? ⟨b', o' + k * 4 + 1, none⟩ = some (.int .i64 ns') ∧ wr.cell? ⟨b', o' + k * 4 + 2, none⟩ = some (.int .i64 rt') ∧ wr.cell? ⟨b', o' + k * 4 + 3, none⟩ = some (.slice A3 n3 c3) := ⟨(hB.out.cell (p := ⟨b, o + k * 4, none⟩) hb).trans d0, (hB.out.cell (p := ⟨b, o + k * 4 + 1, none⟩) hb).trans d1, (hB.out.cell (p := ⟨b, o + k * 4 + 2, none⟩) hb).trans d2, (hB.out.cell (p := ⟨b, o + k * 4 + 3, none⟩) hb).trans d3, (hB.out.cell (p := ⟨b', o' + k * 4, none⟩) hb').trans d4, (hB.out.cell (p := ⟨b', o' + k * 4 + 1, none⟩) hb').trans d5, (hB.out.cell (p := ⟨b', o' + k * 4 + 2, none⟩) hb').trans d6, (hB.out.cell (p := ⟨b', o' + k * 4 + 3, none⟩) hb').trans d7⟩
      clear d0 d1 d2 d3 d4 d5 d6 d7
      by_cases h_lv : lv = lv'
      rotate_left
      · have g_lv : (lv != lv') = true := by simpa using h_lv
        have HF : Hid (sameL NV.val ps qs = false) := sameL_at hx.out hy.out (fun e => h_lv ((congrArg (fun v : NVal => v.1) e)))
        obtain ⟨e0, e1, e2, e3, e4, e5, e6, e7⟩ := k_0
        clear h_lv hx hy hA
        go_wp2_with fail
        go_quiet (fail)
        go_wp2
        go_ret
        exact ⟨ret_bool HF.out.symm, below_draws hB.out _⟩
      have g_lv : (lv != lv') = false := by simp [h_lv]
      replace h_lv := Lib.hid h_lv
      by_cases h_ns : ns = ns'
      rotate_left
      · have g_ns : (ns != ns') = true := by simpa using h_ns
        have HF : Hid (sameL NV.val ps qs = false) := sameL_at hx.out hy.out (fun e => h_ns ((congrArg (fun v : NVal => v.2.1) e)))
        obtain ⟨e0, e1, e2, e3, e4, e5, e6, e7⟩ := k_0
        clear h_ns hx hy hA
        go_wp2_with fail
        go_quiet (fail)
        go_wp2
        go_ret
        exact ⟨ret_bool HF.out.symm, below_draws hB.out _⟩
      have g_ns : (ns != ns') = false := by simp [h_ns]
      replace h_ns := Lib.hid h_ns
      by_cases h_rt : rt = rt'
      rotate_left
      · have g_rt : (rt != rt') = true := by simpa using h_rt
        have HF : Hid (sameL NV.val ps qs = false) := sameL_at hx.out hy.out (fun e => h_rt ((congrArg (fun v : NVal => v.2.2.1) e)))
        obtain ⟨e0, e1, e2, e3, e4, e5, e6, e7⟩ := k_0
        clear h_rt hx hy hA
        go_wp2_with fail
        go_quiet (fail)
        go_wp2
        go_ret
        exact ⟨ret_bool HF.out.symm, below_draws hB.out _⟩
      have g_rt : (rt != rt') = false := by simp [h_rt]
      replace h_rt := Lib.hid h_rt
      cases hsm : sameL EV.val es es'
      · have HS := Lib.hid hsm
        have HF : Hid (sameL NV.val ps qs = false) := sameL_at hx.out hy.out (fun e => by
          simp only [NV.val, Prod.mk.injEq] at e
          simp [sameL, e.2.2.2] at hsm)
        clear hsm hx hy hA
        go_wp2_with fail
        go_region_held3 (fun w' => w'.cell? ⟨b, o + k * 4, none⟩ = some (.int .i64 lv) ∧ w'.cell? ⟨b, o + k * 4 + 1, none⟩ = some (.int .i64 ns) ∧ w'.cell? ⟨b, o + k * 4 + 2, none⟩ = some (.int .i64 rt) ∧ w'.cell? ⟨b, o + k * 4 + 3, none⟩ = some (.slice A1 n1 c1) ∧ w'.cell? ⟨b', o' + k * 4, none⟩ = some (.int .i64 lv') ∧ w'.cell? ⟨b', o' + k * 4 + 1, none⟩ = some (.int .i64 ns') ∧ w'.cell? ⟨b', o' + k * 4 + 2, none⟩ = some (.int .i64 rt') ∧ w'.cell? ⟨b', o' + k * 4 + 3, none⟩ = some (.slice A3 n3 c3))
          (first | (simp [go_sem, k_0]; done) | with_reducible exact k_1)
          (first
            | (go_at_call 128; refine (specSameEntries_any _ _ _ _ _ _ es es' _ (i1.out.kept hB.out.drew) (i3.out.kept hB.out.drew) m1 m3).mono ?_
               rintro e W1 ⟨rfl, b1d⟩
               rw [HS.out]
               have b1 := below_drawn b1d
               have k_1 : W1.cell? ⟨b, o + k * 4, none⟩ = some (.int .i64 lv) ∧ W1.cell? ⟨b, o + k * 4 + 1, none⟩ = some (.int .i64 ns) ∧ W1.cell? ⟨b, o + k * 4 + 2, none⟩ = some (.int .i64 rt) ∧ W1.cell? ⟨b, o + k * 4 + 3, none⟩ = some (.slice A1 n1 c1) ∧ W1.cell? ⟨b', o' + k * 4, none⟩ = some (.int .i64 lv') ∧ W1.cell? ⟨b', o' + k * 4 + 1, none⟩ = some (.int .i64 ns') ∧ W1.cell? ⟨b', o' + k * 4 + 2, none⟩ = some (.int .i64 rt') ∧ W1.cell? ⟨b', o' + k * 4 + 3, none⟩ = some (.slice A3 n3 c3) := ⟨(b1.cell (p := ⟨b, o + k * 4, none⟩) kb).trans k_0.1, (b1.cell (p := ⟨b, o + k * 4 + 1, none⟩) kb).trans k_0.2.1, (b1.cell (p := ⟨b, o + k * 4 + 2, none⟩) kb).trans k_0.2.2.1, (b1.cell (p := ⟨b, o + k * 4 + 3, none⟩) kb).trans k_0.2.2.2.1, (b1.cell (p := ⟨b', o' + k * 4, none⟩) kb').trans k_0.2.2.2.2.1, (b1.cell (p := ⟨b', o' + k * 4 + 1, none⟩) kb').trans k_0.2.2.2.2.2.1, (b1.cell (p := ⟨b', o' + k * 4 + 2, none⟩) kb').trans k_0.2.2.2.2.2.2.1, (b1.cell (p := ⟨b', o' + k * 4 + 3, none⟩) kb').trans k_0.2.2.2.2.2.2.2⟩
               clear b1d))
        clear k_0 k_1
        have hB' := Lib.hid (hB.out.trans (b1.mono hB.out.size))
        clear hB b1
        go_wp2
        go_ret
        exact ⟨ret_bool HF.out.symm, hB'.out⟩
      · have HS := Lib.hid hsm
        have hA' := Lib.hid (agreeL_next (f := NV.val) hA.out hx.out hy.out (by
          simp [sameL] at hsm
          simp only [NV.val, Prod.mk.injEq]
          exact ⟨h_lv.out, h_ns.out, h_rt.out, hsm⟩))
        clear hsm hx hy hA
        go_wp2_with fail
        go_region_held3 (fun w' => w'.cell? ⟨b, o + k * 4, none⟩ = some (.int .i64 lv) ∧ w'.cell? ⟨b, o + k * 4 + 1, none⟩ = some (.int .i64 ns) ∧ w'.cell? ⟨b, o + k * 4 + 2, none⟩ = some (.int .i64 rt) ∧ w'.cell? ⟨b, o + k * 4 + 3, none⟩ = some (.slice A1 n1 c1) ∧ w'.cell? ⟨b', o' + k * 4, none⟩ = some (.int .i64 lv') ∧ w'.cell? ⟨b', o' + k * 4 + 1, none⟩ = some (.int .i64 ns') ∧ w'.cell? ⟨b', o' + k * 4 + 2, none⟩ = some (.int .i64 rt') ∧ w'.cell? ⟨b', o' + k * 4 + 3, none⟩ = some (.slice A3 n3 c3))
          (first | (simp [go_sem, k_0]; done) | with_reducible exact k_1)
          (first
            | (go_at_call 128; refine (specSameEntries_any _ _ _ _ _ _ es es' _ (i1.out.kept hB.out.drew) (i3.out.kept hB.out.drew) m1 m3).mono ?_
               rintro e W1 ⟨rfl, b1d⟩
               rw [HS.out]
               have b1 := below_drawn b1d
               have k_1 : W1.cell? ⟨b, o + k * 4, none⟩ = some (.int .i64 lv) ∧ W1.cell? ⟨b, o + k * 4 + 1, none⟩ = some (.int .i64 ns) ∧ W1.cell? ⟨b, o + k * 4 + 2, none⟩ = some (.int .i64 rt) ∧ W1.cell? ⟨b, o + k * 4 + 3, none⟩ = some (.slice A1 n1 c1) ∧ W1.cell? ⟨b', o' + k * 4, none⟩ = some (.int .i64 lv') ∧ W1.cell? ⟨b', o' + k * 4 + 1, none⟩ = some (.int .i64 ns') ∧ W1.cell? ⟨b', o' + k * 4 + 2, none⟩ = some (.int .i64 rt') ∧ W1.cell? ⟨b', o' + k * 4 + 3, none⟩ = some (.slice A3 n3 c3) := ⟨(b1.cell (p := ⟨b, o + k * 4, none⟩) kb).trans k_0.1, (b1.cell (p := ⟨b, o + k * 4 + 1, none⟩) kb).trans k_0.2.1, (b1.cell (p := ⟨b, o + k * 4 + 2, none⟩) kb).trans k_0.2.2.1, (b1.cell (p := ⟨b, o + k * 4 + 3, none⟩) kb).trans k_0.2.2.2.1, (b1.cell (p := ⟨b', o' + k * 4, none⟩) kb').trans k_0.2.2.2.2.1, (b1.cell (p := ⟨b', o' + k * 4 + 1, none⟩) kb').trans k_0.2.2.2.2.2.1, (b1.cell (p := ⟨b', o' + k * 4 + 2, none⟩) kb').trans k_0.2.2.2.2.2.2.1, (b1.cell (p := ⟨b', o' + k * 4 + 3, none⟩) kb').trans k_0.2.2.2.2.2.2.2⟩
               clear b1d))
        clear k_0 k_1
        have hB' := Lib.hid (hB.out.trans (b1.mono hB.out.size))
        clear hB b1
        go_wp2
        go_roundw
        case rel => exact ⟨k + 1, by omega, by go_num, hB', hA'⟩
        case measure => simp [intOf]; omega
    · have HF : Hid (sameL NV.val ps qs = true) := sameL_all (by rw [HP.out.1, HQ.out.1]) fun j p q hj hp' hq' => hA.out j p q (by have := HP.out.1; omega) hp' hq'
      clear hA
      go_wp2
      go_ret
      exact ⟨ret_bool HF.out.symm, hB.out⟩


end Go.Proofs.YtpgoildfjkokiaaGreat
