/- The walks of impl.rises and impl.idsOf: whether numbers rise; the numbers of pairs, in a row of the call's own. -/
import Derived.Test.YtpgoildfjkokiabModelFault
import Derived.Test.YtpgoildfjkokiabCopy2
import Derived.OwnWalk
namespace Go.Proofs.Ytpgoildfjkokiab
open Go.RowKit

/-- Whether numbers rise. -/
def risesL : List Int → Bool
  | [] => true
  | [_] => true
  | a :: b :: t => decide (a < b) && risesL (b :: t)
theorem risesL_true : ∀ {vs : List Int}, (∀ (j : Nat) (u v : Int), vs[j]? = some u → vs[j + 1]? = some v → u < v) → risesL vs = true
  | [], _ => rfl
  | [_], _ => rfl
  | a :: b :: t, h => by
    rw [risesL, decide_eq_true (h 0 a b (by simp) (by simp)), Bool.true_and]
    exact risesL_true fun j u v hu hv => h (j + 1) u v (by simpa using hu) (by simpa using hv)
theorem risesL_false : ∀ {vs : List Int} {k : Nat} {u v : Int}, vs[k]? = some u → vs[k + 1]? = some v → ¬ u < v → risesL vs = false
  | [], k, u, v, hu, _, _ => by simp at hu
  | [_], k, u, v, _, hv, _ => by simp at hv
  | a :: b :: t, 0, u, v, hu, hv, h => by
    simp at hu hv; subst hu hv
    rw [risesL, decide_eq_false h, Bool.false_and]
  | a :: b :: t, k + 1, u, v, hu, hv, h => by
    rw [risesL, risesL_false (vs := b :: t) (k := k) (by simpa using hu) (by simpa using hv) h, Bool.and_false]
theorem rises_ids : ∀ (vs : List (Int × List Int × List Int)), risesL (vs.map (·.1)) = rises vs
  | [] => rfl
  | [_] => rfl
  | a :: b :: t => by
    have := rises_ids (b :: t)
    simp only [List.map_cons] at this ⊢
    rw [risesL, rises, this]

/-- Two numbers that stand side by side. -/
theorem Ints.twoAt {w wr : World} {lo n m : Nat} {A : Option Addr} {xs : List Int} (h : Ints w lo A n xs) (hB : Below w.heap.size w wr) (hk : m + 1 < n) :
    ∃ b o x y, A = some ⟨b, o, none⟩ ∧ Hid (xs[m]? = some x) ∧ Hid (xs[m + 1]? = some y) ∧ wr.cell? ⟨b, o + m, none⟩ = some (.int .i64 x) ∧ wr.cell? ⟨b, o + (m + 1), none⟩ = some (.int .i64 y) := by
  obtain ⟨hl, hr⟩ := h
  obtain ⟨b, o, e, _, h2, h3⟩ := hr (by omega)
  have hx : xs[m]? = some (xs[m]'(by omega)) := List.getElem?_eq_getElem (by omega)
  have hy : xs[m + 1]? = some (xs[m + 1]'(by omega)) := List.getElem?_eq_getElem (by omega)
  exact ⟨b, o, _, _, e, hx, hy, (hB.cell (p := ⟨b, o + m, none⟩) h2).trans (h3 m _ hx), (hB.cell (p := ⟨b, o + (m + 1), none⟩) h2).trans (h3 (m + 1) _ hy)⟩

set_option maxHeartbeats 1600000 in
theorem rises_any (n c lo : Nat) (A : Option Addr) (xs : List Int) (w : World) (hp : Ints w lo A n xs) (hn : n ≤ maxLen) :
    Calls Try.prog 32 #[.slice A n c] w fun e w' => e = .returned (.bool (risesL xs)) ∧ Below w.heap.size w w' := by
  have HP := Lib.hid hp
  clear hp
  unfold maxLen at hn
  go_enter Try.func32, Try.ntmps32
  go_wp2
  go_loopw [3] (fun i wr => ∃ m : Nat, m ≤ n ∧ i = .int .i64 ((m : Int) + 1) ∧ Hid (Below w.heap.size w wr) ∧ Hid (∀ (j : Nat) (p q : Int), j < m → xs[j]? = some p → xs[j + 1]? = some q → p < q)) (fun i _ => n + 1 - (intOf i).toNat)
  case atStart => exact ⟨0, Nat.zero_le _, rfl, Below.refl _ _, fun j p q hj => absurd hj (Nat.not_lt_zero _)⟩
  case round =>
    obtain ⟨m, hm, rfl, hB, hA⟩ := hrel
    by_cases hlt : m + 1 < n
    · obtain ⟨b, o, p, q, rfl, hx, hy, d0, d1⟩ := HP.out.twoAt hB.out hlt
      have hlt' : (m : Int) + 1 < n := by omega
      by_cases hr : q ≤ p
      · have HF := Lib.hid (risesL_false hx.out hy.out (show ¬ p < q by omega))
        clear hx hy
        go_wp2
        go_quiet (fail)
        go_wp2
        go_ret
        exact ⟨ret_bool HF.out.symm, below_draws hB.out _⟩
      · have hA' : Hid (∀ (j : Nat) (p q : Int), j < m + 1 → xs[j]? = some p → xs[j + 1]? = some q → p < q) := by
          intro j p' q' hj hp' hq'
          rcases Nat.lt_succ_iff_lt_or_eq.1 hj with h | h
          · exact hA.out j p' q' h hp' hq'
          · subst h; rw [hx.out] at hp'; rw [hy.out] at hq'; injection hp' with hp'; injection hq' with hq'; subst hp' hq'; omega
        clear hx hy hA
        go_wp2
        go_quiet (fail)
        go_wp2
        go_roundw
        case rel => exact ⟨m + 1, by omega, by go_num, below_draws hB.out _, hA'⟩
        case measure => simp [intOf]; omega
    · have HF : Hid (risesL xs = true) := by
        refine risesL_true fun j u v hu hv => ?_
        have hj := (List.getElem?_eq_some_iff.1 hv).1
        have hl := HP.out.1
        exact hA.out j u v (by omega) hu hv
      have hlt' : ¬ (m : Int) + 1 < n := by omega
      clear hA
      go_wp2
      go_ret
      exact ⟨ret_bool HF.out.symm, hB.out⟩

theorem ownsRow_base {w : World} {base : Nat} {e : TypeId} {size : Nat} {v : Value} {n : Nat} {xs : List Value} (h : w.ownsRow base e size v n xs) : ∀ r, v.ownBlock = some r → base ≤ r := by
  intro r hr
  obtain ⟨hl, h⟩ := h
  rcases h with ⟨rfl, _⟩ | ⟨g, cap, cur, rfl, h2, h3, h4⟩
  · simp [Value.ownBlock] at hr
  · simp [Value.ownBlock] at hr
    subst hr
    exact h2
theorem news_one (W : World) (x : Int) (j : Nat) (u : Value) (h : [Value.int .i64 x][j]? = some u) : (W.alloc (.cells #[.int .i64 x] 2)).cell? ((⟨W.heap.size, 0, none⟩ : Addr).add j) = some u := by
  rw [add_none, Nat.zero_add, cell_new]
  simpa using h

theorem ids_take {ps : List PV} {k : Nat} {p : PV} (h : ps[k]? = some p) : (ps.take (k + 1)).map PV.id = (ps.take k).map PV.id ++ [p.id] := by
  rw [List.take_add_one, h]; simp

set_option maxRecDepth 100000 in
set_option maxHeartbeats 3200000 in
theorem idsOf_any (n c : Nat) (A : Option Addr) (ps : List PV) (w : World) (hp : Pairs w A n ps) (hn : n ≤ 60) :
    Calls Try.prog 33 #[.slice A n c] w fun e w' => ∃ A' c', e = .returned (.slice A' n c') ∧ Ints w' 0 A' n (ps.map PV.id) ∧ Below w.heap.size w w' := by
  have HP := Lib.hid hp
  have HL : Hid (ps.length = n) := hp.1
  clear hp
  obtain ⟨i0, hi0, hz0, hz1, hz2⟩ := info_parts'
  have IP := Lib.hid (And.intro hi0 (And.intro hz0 (And.intro hz1 hz2)))
  clear hi0 hz0 hz1 hz2
  go_enter Try.func33, Try.ntmps33
  go_wp2_with (at_make; with_reducible refine wpList_make_own _ rfl (.const (.int .i64 0)) (.tmp 7) 24 rfl w.heap.size 2 i0 (.int .i64 0) 1 Try.underlying24 IP.out.1 IP.out.2.1 IP.out.2.2.1 .i64 .i64 (n : Int) n rfl rfl rfl ?b2 ?b3 ?b4 ?_)
  case b2 => rw [IP.out.2.2.2]; omega
  case b3 => unfold maxLen; omega
  case b4 => exact Nat.le_refl _
  intro w1 ho hg
  have B := Lib.hid (below_grown' (Below.refl w.heap.size w) hg (fun r e => by simp at e) (Nat.le_refl _))
  have HO := Lib.hid ho
  clear ho hg
  go_wp2
  go_loopw [3, 11] (fun vv i wr => ∃ (k : Nat) (v : Value), k ≤ n ∧ i = .int .i64 k ∧ v = vv ∧ Hid (Below w.heap.size w wr) ∧ Hid (wr.ownsRow w.heap.size 2 1 v k (((ps.take k).map PV.id).map (Value.int .i64)))) (fun _ i _ => n - (intOf i).toNat)
  case atStart => exact ⟨0, _, Nat.zero_le _, rfl, rfl, B, HO⟩
  case round =>
    obtain ⟨k, v, hk, rfl, rfl, hB, hO⟩ := hrel
    by_cases hlt : k < n
    · obtain ⟨b, o, id, A1, n1, c1, A2, n2, c2, x1, x2, rfl, hb, d0, d1, d2, hx, i1, i2, m1, m2⟩ := HP.out.cellAt hlt
      have e0 : wr.cell? ⟨b, o + k * 3, none⟩ = some (.int .i64 id) := (hB.out.cell (p := ⟨b, o + k * 3, none⟩) hb).trans d0
      have e1 : wr.cell? ⟨b, o + k * 3 + 1, none⟩ = some (.slice A1 n1 c1) := (hB.out.cell (p := ⟨b, o + k * 3 + 1, none⟩) hb).trans d1
      have e2 : wr.cell? ⟨b, o + k * 3 + 2, none⟩ = some (.slice A2 n2 c2) := (hB.out.cell (p := ⟨b, o + k * 3 + 2, none⟩) hb).trans d2
      clear d0 d1 d2 i1 i2
      have HT := Lib.hid (ids_take hx.out)
      have vb := Lib.hid (ownsRow_base hO.out)
      have hB1 := Lib.hid ((hB.out.alloc hB.out.size (.cells #[.int .i64 id, .slice A1 n1 c1, .slice A2 n2 c2] 28)).alloc (hB.out.alloc hB.out.size (.cells #[.int .i64 id, .slice A1 n1 c1, .slice A2 n2 c2] 28)).size (.cells #[.int .i64 id] 2))
      have hO1 := Lib.hid ((hO.out.alloc (.cells #[.int .i64 id, .slice A1 n1 c1, .slice A2 n2 c2] 28)).alloc (.cells #[.int .i64 id] 2))
      have NEWS := Lib.hid (news_one (wr.alloc (.cells #[.int .i64 id, .slice A1 n1 c1, .slice A2 n2 c2] 28)) id)
      simp only [World.size_alloc] at NEWS
      have bsz := hB.out.size
      clear hB hO hx
      go_wp2_with (at_builtin; with_reducible refine wpList_append_lies _ rfl (.tmp 15) (.tmp 18) 24 rfl w.heap.size 2 i0 (.int .i64 0) 1 8 Try.underlying24 IP.out.1 IP.out.2.1 IP.out.2.2.1 IP.out.2.2.2 rfl (by omega) v k (((ps.take k).map PV.id).map (Value.int .i64)) rfl hO1.out ⟨wr.heap.size + 1, 0, none⟩ 1 1 [.int .i64 id] rfl rfl NEWS.out ?q2 (by omega) ?q3 ?q4 ?q5 (wr.heap.size + 2) ?q6 ?_)
      case q2 => simp [Value.oneCell']
      case q3 => unfold maxLen; omega
      case q4 => omega
      case q5 => omega
      intro gg cap w' ho hgr hat hlt2
      have hB' := Lib.hid (below_grown' hB1.out hgr (fun r e => vb.out r e) hB1.out.size)
      have hO' : Hid (w'.ownsRow w.heap.size 2 1 (.slice (some ⟨gg, 0, none⟩) (k + 1) cap) (k + 1) (((ps.take (k + 1)).map PV.id).map (Value.int .i64))) := by
        show World.ownsRow _ _ _ _ _ _ _
        rw [HT.out, List.map_append]; simpa using ho
      clear ho hgr hat hlt2 hB1 hO1 NEWS HT
      go_wp2
      go_roundw
      case rel => exact ⟨k + 1, _, by omega, by go_num, rfl, hB', hO'⟩
      case measure => simp [intOf]; omega
    · have hkn : k = n := by omega
      subst hkn
      have HO2 : Hid (wr.ownsRow w.heap.size 2 1 v k ((ps.map PV.id).map (Value.int .i64))) := by
        have := hO.out
        rwa [List.take_of_length_le (by rw [HL.out]; omega)] at this
      obtain ⟨A', c', rfl, hI⟩ := ints_of_owns' HO2.out
      have HI := Lib.hid (hI.lower (Nat.zero_le _))
      clear hI HO2 hO
      go_wp2
      go_ret
      exact ⟨A', c', rfl, HI.out, hB.out⟩

end Go.Proofs.Ytpgoildfjkokiab
