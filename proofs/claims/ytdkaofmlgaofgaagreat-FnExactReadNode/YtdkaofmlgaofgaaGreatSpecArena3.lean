/- The walks of spec.l4Place, l1Has, l4Watch, l4Empty. -/
import Derived.Test.YtdkaofmlgaofgaaGreatArenaMath
import Derived.Test.YtdkaofmlgaofgaaGreatSpecNodeFault
namespace Go.Proofs.YtdkaofmlgaofgaaGreat
open Go.RowKit

set_option maxHeartbeats 800000 in
theorem l4Place_yes (b n c : Nat) (A : Option Addr) (id : Int) (w : World) (hc : w.cell? ⟨b, 1, none⟩ = some (.slice A n c)) (hn : n ≤ maxLen) (h : 0 ≤ id ∧ id ≤ (n : Int) - 1) :
    Calls Tryz.prog 111 #[.pointer (some ⟨b, 0, none⟩), .int .i64 id] w fun e w' => e = .returned (.bool true) ∧ w = w' := by
  unfold maxLen at hn
  go_enter Tryz.func111, Tryz.ntmps111
  go_wp2_with fail
  refine (l1In_yes _ _ _ _ h.1 h.2).mono ?_
  rintro e w' ⟨rfl, rfl⟩
  go_wp2
  go_ret
  exact ⟨rfl, rfl⟩
set_option maxHeartbeats 800000 in
theorem l4Place_no (b n c : Nat) (A : Option Addr) (id : Int) (w : World) (hc : w.cell? ⟨b, 1, none⟩ = some (.slice A n c)) (hn : n ≤ maxLen) (h : ¬ (0 ≤ id ∧ id ≤ (n : Int) - 1)) :
    Calls Tryz.prog 111 #[.pointer (some ⟨b, 0, none⟩), .int .i64 id] w fun e w' => e = .returned (.bool false) ∧ w = w' := by
  unfold maxLen at hn
  go_enter Tryz.func111, Tryz.ntmps111
  go_wp2_with fail
  refine (l1In_no _ _ _ _ h).mono ?_
  rintro e w' ⟨rfl, rfl⟩
  go_wp2
  go_ret
  exact ⟨rfl, rfl⟩

theorem contains_at {xs : List Int} {k : Nat} {x : Int} (h : xs[k]? = some x) : xs.contains x = true := by
  rw [List.contains_iff_mem]; exact List.mem_of_getElem? h
theorem contains_none {xs : List Int} {v : Int} (h : ∀ (j : Nat) (x : Int), xs[j]? = some x → x ≠ v) : xs.contains v = false := by
  rw [← Bool.not_eq_true, List.contains_iff_mem]
  intro hm
  obtain ⟨j, hj⟩ := List.getElem?_of_mem hm
  exact h j v hj rfl

set_option maxHeartbeats 1600000 in
theorem l1Has_any (v : Int) (n c lo : Nat) (A : Option Addr) (xs : List Int) (w : World) (hp : Ints w lo A n xs) (hn : n ≤ maxLen) :
    Calls Tryz.prog 149 #[.slice A n c, .int .i64 v] w fun e w' => e = .returned (.bool (xs.contains v)) ∧ ∃ q, w' = w.drewN q := by
  have HP := Lib.hid hp
  clear hp
  unfold maxLen at hn
  go_enter Tryz.func149, Tryz.ntmps149
  go_wp2
  go_loopw [5] (fun i wr => ∃ m : Nat, m ≤ n ∧ i = .int .i64 m ∧ wr = w ∧ Hid (∀ (j : Nat) (x : Int), j < m → xs[j]? = some x → x ≠ v)) (fun i _ => n - (intOf i).toNat)
  case atStart => exact ⟨0, Nat.zero_le _, rfl, rfl, fun j x hj => absurd hj (Nat.not_lt_zero _)⟩
  case round =>
    obtain ⟨m, hm, rfl, rfl, hA⟩ := hrel
    by_cases hlt : m < n
    · obtain ⟨b, o, x, rfl, _, hb, d0, hx⟩ := HP.out.cellAt hlt
      by_cases hr : x = v
      · have hr1 : (x == v) = true := by simpa using hr
        subst hr
        have HF := Lib.hid (contains_at hx.out)
        clear hx hA
        go_wp2
        go_ret
        exact ⟨ret_bool HF.out.symm, 0, rfl⟩
      · have hr1 : (x == v) = false := by simpa using hr
        have hA' := Lib.hid (upto_next (P := fun x => x ≠ v) hA.out hx.out hr)
        clear hx hA hr
        go_wp2
        go_roundw
        case rel => exact ⟨m + 1, by omega, by go_num, by trivial, hA'⟩
        case measure => simp [intOf]; omega
    · have HF : Hid (xs.contains v = false) := contains_none (upto_end hA.out (by have := HP.out.1; omega))
      clear hA
      go_wp2
      go_ret
      exact ⟨ret_bool HF.out.symm, 0, rfl⟩

set_option maxHeartbeats 1600000 in
theorem l4Watch_any (n c lo : Nat) (A : Option Addr) (xs : List Int) (w : World) (hp : Ints w lo A n xs) (hn : n ≤ maxLen) :
    Calls Tryz.prog 101 #[.slice A n c] w fun e w' => e = .returned (.int .i64 (watchF xs)) ∧ Below w.heap.size w w' := by
  have HP := Lib.hid hp
  have HL : Hid (xs.length = n) := hp.1
  clear hp
  unfold maxLen at hn
  by_cases hm : 4 < n
  · have HF := Lib.hid (watchF_many (ws := xs) (by rw [HL.out]; exact hm))
    go_enter Tryz.func101, Tryz.ntmps101
    go_wp2
    go_ret
    exact ⟨ret_i64 HF.out.symm, Below.refl _ _⟩
  have HM : Hid (¬ 4 < xs.length) := by show ¬ _; rw [HL.out]; exact hm
  go_enter Tryz.func101, Tryz.ntmps101
  go_wp2
  go_loopw [3] (fun i wr => ∃ m : Nat, m ≤ n ∧ i = .int .i64 m ∧ wr = w ∧ Hid (∀ (j : Nat) (x : Int), j < m → xs[j]? = some x → 0 ≤ x ∧ x ≤ 3)) (fun i _ => n - (intOf i).toNat)
  case atStart => exact ⟨0, Nat.zero_le _, rfl, rfl, fun j x hj => absurd hj (Nat.not_lt_zero _)⟩
  case round =>
    obtain ⟨m, hm', rfl, rfl, hA⟩ := hrel
    by_cases hlt : m < n
    · obtain ⟨b, o, x, rfl, _, hb, d0, hx⟩ := HP.out.cellAt hlt
      by_cases hr : 0 ≤ x ∧ x ≤ 3
      · have hA' := Lib.hid (upto_next (P := fun x => 0 ≤ x ∧ x ≤ 3) hA.out hx.out hr)
        clear hx hA
        go_wp2_with fail
        refine (l1In_yes _ _ _ _ hr.1 hr.2).mono ?_
        rintro e w' ⟨rfl, rfl⟩
        clear hr
        go_wp2
        go_roundw
        case rel => exact ⟨m + 1, by omega, by go_num, by trivial, hA'⟩
        case measure => simp [intOf]; omega
      · have HF := Lib.hid (watchF_out HM.out (allIn_false hx.out hr))
        clear hx hA
        go_wp2_with fail
        refine (l1In_no _ _ _ _ hr).mono ?_
        rintro e w' ⟨rfl, rfl⟩
        go_wp2
        go_ret
        exact ⟨ret_i64 HF.out.symm, Below.refl _ _⟩
    · have HR := Lib.hid (watchF_in HM.out (allIn_true (upto_end hA.out (by rw [HL.out]; omega))))
      clear hA
      go_wp2
      go_loopw [4] (fun i wq => ∃ m : Nat, m ≤ n ∧ i = .int .i64 ((m : Int) + 1) ∧ Hid (Below wr.heap.size wr wq) ∧ Hid (∀ (j : Nat) (p q : Int), j < m → xs[j]? = some p → xs[j + 1]? = some q → p < q)) (fun i _ => n + 1 - (intOf i).toNat)
      case atStart => exact ⟨0, Nat.zero_le _, rfl, Below.refl _ _, fun j p q hj => absurd hj (Nat.not_lt_zero _)⟩
      case round =>
        obtain ⟨m, hm2, rfl, hB, hA⟩ := hrel
        by_cases hlt : m + 1 < n
        · obtain ⟨b, o, p, q, rfl, hx, hy, d0, d1⟩ := HP.out.twoAt hB.out hlt
          have hlt' : (m : Int) + 1 < n := by omega
          by_cases hr : q ≤ p
          · have HF : Hid (watchF xs = 1) := by show watchF _ = _; rw [HR.out, risesL_false hx.out hy.out (show ¬ p < q by omega)]; rfl
            clear hx hy
            go_wp2
            go_quiet (fail)
            go_wp2
            go_ret
            exact ⟨ret_i64 HF.out.symm, below_draws hB.out _⟩
          · have hA' : Hid (∀ (j : Nat) (p q : Int), j < m + 1 → xs[j]? = some p → xs[j + 1]? = some q → p < q) := by
              intro j p' q' hj hp' hq'
              rcases Nat.lt_succ_iff_lt_or_eq.1 hj with h | h
              · exact hA.out j p' q' h hp' hq'
              · subst h; rw [hx.out] at hp'; rw [hy.out] at hq'; injection hp' with hp'; injection hq' with hq'; subst hp' hq'; omega
            clear hx hy hA
            go_wp2
            go_quiet (fail)
            go_wp2
            go_roundw
            case rel => exact ⟨m + 1, by omega, by go_num, below_draws hB.out _, hA'⟩
            case measure => simp [intOf]; omega
        · have HF : Hid (watchF xs = 0) := by
            show watchF _ = _
            rw [HR.out, risesL_true fun j u v hu hv => ?_]; rfl
            have hj := (List.getElem?_eq_some_iff.1 hv).1
            have hl := HP.out.1
            exact hA.out j u v (by omega) hu hv
          have hlt' : ¬ (m : Int) + 1 < n := by omega
          clear hA
          go_wp2
          go_ret
          exact ⟨ret_i64 HF.out.symm, hB.out⟩

set_option maxHeartbeats 400000 in
theorem l4Empty_any (w : World) : Calls Tryz.prog 190 #[] w fun e w' => e = .returned (.agg #[.int .i64 0, .int .i64 0, .int .i64 (-1), .slice none 0 0]) ∧ Below w.heap.size w w' := by
  go_enter Tryz.func190, Tryz.ntmps190
  go_wp2
  exact bodyPost_ret (v := .agg #[.int .i64 0, .int .i64 0, .int .i64 (-1), .slice none 0 0]) (by simp [results, Tryz.results190, go_sem]) rfl ⟨rfl, below_alloc _ _⟩
set_option maxHeartbeats 400000 in
theorem vacantNode_any (w : World) : Calls Tryz.prog 120 #[] w fun e w' => e = .returned (.agg #[.int .i64 0, .int .i64 0, .int .i64 (-1), .slice none 0 0]) ∧ Below w.heap.size w w' := by
  go_enter Tryz.func120, Tryz.ntmps120
  go_wp2
  exact bodyPost_ret (v := .agg #[.int .i64 0, .int .i64 0, .int .i64 (-1), .slice none 0 0]) (by simp [results, Tryz.results120, go_sem]) rfl ⟨rfl, below_alloc _ _⟩

end Go.Proofs.YtdkaofmlgaofgaaGreat

/- The walk of spec.l4Free. -/
namespace Go.Proofs.YtdkaofmlgaofgaaGreat
open Go.RowKit

/-- An empty node as it lies. -/
def vacNV : NV := ⟨0, 0, -1, none, 0, 0, []⟩
theorem vac_val : vacNV.val = vacV := rfl
theorem vac_nodes (w : World) : NodesL (w.alloc (.cells #[.int .i64 0, .int .i64 0, .int .i64 (-1), .slice none 0 0] 30)) (some ⟨w.heap.size, 0, none⟩) 1 [vacNV] := by
  refine ⟨rfl, fun _ => ⟨w.heap.size, 0, rfl, by simp only [World.size_alloc]; omega, fun k p hk => ?_⟩, fun p hp => ?_⟩
  · rcases k with _ | k
    · simp at hk; subst hk
      exact ⟨cell_new _ _ _ _, cell_new _ _ _ _, cell_new _ _ _ _, cell_new _ _ _ _⟩
    · simp at hk
  · simp only [List.mem_singleton] at hp
    subst hp
    exact ⟨⟨rfl, fun h => absurd h (Nat.lt_irrefl 0), fun p hp => by simp [vacNV] at hp⟩, Nat.zero_le _⟩
/-- One node of the list alone. -/
theorem NodesL.sub {w : World} {b o n j : Nat} {ps : List NV} {p : NV} (h : NodesL w (some ⟨b, o, none⟩) n ps) (hj : ps[j]? = some p) : NodesL w (some ⟨b, o + j * 4, none⟩) 1 [p] := by
  obtain ⟨hl, hr, hp⟩ := h
  have hjn : j < n := by have := (List.getElem?_eq_some_iff.1 hj).1; omega
  obtain ⟨b', o', e, h2, h3⟩ := hr (by omega)
  injection e with e; injection e with e1 e2; subst e1 e2
  refine ⟨rfl, fun _ => ⟨b, o + j * 4, rfl, h2, fun k q hk => ?_⟩, fun q hq => ?_⟩
  · rcases k with _ | k
    · simp at hk; subst hk
      simpa using h3 j p hj
    · simp at hk
  · simp only [List.mem_singleton] at hq
    subst hq
    exact hp _ (List.mem_of_getElem? hj)
theorem same_vac {p : NV} : sameL NV.val [p] [vacNV] = decide (p.val = vacV) := by
  unfold sameL
  simp [vac_val]

set_option maxRecDepth 100000 in
set_option maxHeartbeats 6400000 in
theorem l4Free_any (d : Int) (g n1 c1 n2 c2 n3 c3 : Nat) (A1 A2 A3 : Option Addr) (ns : List NV) (fs : List Int) (rs : List RV) (w : World) (hL : Lies w g 37 #[.int .i64 d, .slice A1 n1 c1, .slice A2 n2 c2, .slice A3 n3 c3]) (hp : ArenaL w A1 A2 A3 n1 n2 n3 ns fs rs) (hn : n1 ≤ 40) (hc : n1 ≤ c1) (hcm : c1 ≤ maxLen) :
    Calls Tryz.prog 148 #[.pointer (some ⟨g, 0, none⟩)] w fun e w' => e = .returned (.int .i64 (freeF (ns.map NV.val) fs)) ∧ Below w.heap.size w w' := by
  have HP := Lib.hid hp
  have m2 := hp.m2
  have HL1 : Hid ((ns.map NV.val).length = n1) := by show List.length _ = n1; rw [List.length_map]; exact hp.N.1
  have HL2 : Hid (fs.length = n2) := hp.F.1
  have L_a := Lib.hid hL
  clear hp hL
  unfold maxLen at m2 hcm
  go_enter Tryz.func148, Tryz.ntmps148
  go_wp2
  go_loopw [3] (fun i wr => ∃ m : Nat, m ≤ n2 ∧ i = .int .i64 m ∧ wr = w ∧ Hid (∀ (j : Nat) (x : Int), j < m → fs[j]? = some x → 0 ≤ x ∧ x ≤ (n1 : Int) - 1)) (fun i _ => n2 - (intOf i).toNat)
  case atStart => exact ⟨0, Nat.zero_le _, rfl, rfl, fun j x hj => absurd hj (Nat.not_lt_zero _)⟩
  case round =>
    obtain ⟨m, hm', rfl, rfl, hA⟩ := hrel
    have a1 : wr.cell? ⟨g, 1, none⟩ = some (.slice A1 n1 c1) := L_a.out.cell 1
    have a2 : wr.cell? ⟨g, 2, none⟩ = some (.slice A2 n2 c2) := L_a.out.cell 2
    by_cases hlt : m < n2
    · obtain ⟨b, o, x, rfl, _, hb, d0, hx⟩ := HP.out.F.cellAt hlt
      by_cases hr : 0 ≤ x ∧ x ≤ (n1 : Int) - 1
      · have hA' := Lib.hid (upto_next (P := fun x => 0 ≤ x ∧ x ≤ (n1 : Int) - 1) hA.out hx.out hr)
        clear hx hA
        go_wp2_with fail
        refine (l4Place_yes _ _ _ _ _ _ a1 (by unfold maxLen; omega) hr).mono ?_
        rintro e w' ⟨rfl, rfl⟩
        clear hr
        go_wp2
        go_roundw
        case rel => exact ⟨m + 1, by omega, by go_num, by trivial, hA'⟩
        case measure => simp [intOf]; omega
      · have HF : Hid (freeF (ns.map NV.val) fs = 3) := freeF_out (by rw [HL1.out]; exact allIn_false hx.out hr)
        clear hx hA
        go_wp2_with fail
        refine (l4Place_no _ _ _ _ _ _ a1 (by unfold maxLen; omega) hr).mono ?_
        rintro e w' ⟨rfl, rfl⟩
        go_wp2
        go_ret
        exact ⟨ret_i64 HF.out.symm, Below.refl _ _⟩
    · have HI : Hid (allIn 0 (((ns.map NV.val).length : Int) - 1) fs = true) := by
        show allIn _ _ _ = _
        rw [HL1.out]
        exact allIn_true (upto_end hA.out (by rw [HL2.out]; omega))
      clear hA
      go_wp2
      clear a1 a2
      go_loopw [4] (fun i wq => ∃ k : Nat, k ≤ n2 ∧ i = .int .i64 k ∧ Hid (Below wr.heap.size wr wq) ∧ Hid (∀ (j : Nat) (x : Int), j < k → fs[j]? = some x → vacAt (ns.map NV.val) x = true) ∧ Hid (∀ (j : Nat) (p q : Int), j + 1 < k → fs[j]? = some p → fs[j + 1]? = some q → p < q)) (fun i _ => n2 - (intOf i).toNat)
      case atStart => exact ⟨0, Nat.zero_le _, rfl, Below.refl _ _, fun j x hj => absurd hj (Nat.not_lt_zero _), fun j p q hj => absurd hj (Nat.not_lt_zero _)⟩
      case round =>
        obtain ⟨k, hk', rfl, hB, hV, hA⟩ := hrel
        have L_b := Lib.hid (L_a.out.kept hB.out L_a.out.inside)
        by_cases hlt2 : k < n2
        · obtain ⟨b, o, x, rfl, _, hb, d0, hf⟩ := HP.out.F.cellAt hlt2
          have hxi := allIn_get HI.out hf.out
          rw [HL1.out] at hxi
          obtain ⟨j, rfl⟩ := Int.eq_ofNat_of_zero_le hxi.1
          have hj1 : j < n1 := by omega
          obtain ⟨bn, on, lv, ns', rt, X1, k1, e1, es, rfl, hbn, _, _, _, _, hx, _, _⟩ := HP.out.N.cellAt hj1
          have kg := L_b.out.inside
          have kb := Nat.lt_of_lt_of_le hb hB.out.size
          have hw1 : IntKind.i64.wrap ((j : Int) + 1) = (j : Int) + 1 := by simp only [IntKind.wrap, IntKind.bits, IntKind.signed]; simp; omega
          have hw2 : (0 ≤ (j : Int) + 1) = True := by simp <;> omega
          have hw3 : ((j : Int) + 1 ≤ (c1 : Int)) = True := by simp <;> omega
          have hw4 : (j ≤ ((j : Int) + 1).toNat) = True := by simp <;> omega
          have hw5 : (c1 = j) = False := by simp <;> omega
          have hw6 : ((j : Int) + 1).toNat - j = 1 := by omega
          have HV1 := Lib.hid (vacAt_is (nval_get hx.out))
          have hk1 : k = 0 ∨ ∃ m, k = m + 1 := by rcases k with _ | m; exact Or.inl rfl; exact Or.inr ⟨m, rfl⟩
          have HS0 := Lib.hid (same_vac (p := ⟨lv, ns', rt, X1, k1, e1, es⟩))
          rcases hk1 with rfl | ⟨m, rfl⟩
          · rw [show ((0 : Nat) : Int) = 0 from rfl]
            have k_0 : wr.cell? ⟨g, 1, none⟩ = some (.slice (some ⟨bn, on, none⟩) n1 c1) ∧ wr.cell? ⟨g, 2, none⟩ = some (.slice (some ⟨b, o, none⟩) n2 c2) ∧ wr.cell? ⟨b, o, none⟩ = some (.int .i64 (j : Int)) := ⟨L_b.out.cell 1, L_b.out.cell 2, (hB.out.cell (p := ⟨b, o, none⟩) hb).trans (by simpa using d0)⟩
            clear d0
            cases hv : decide ((⟨lv, ns', rt, X1, k1, e1, es⟩ : NV).val = vacV)
            · have HS : Hid (sameL NV.val [⟨lv, ns', rt, X1, k1, e1, es⟩] [vacNV] = false) := by show sameL _ _ _ = _; rw [HS0.out]; exact hv
              have HF : Hid (freeF (ns.map NV.val) fs = 1) := freeF_full HI.out hf.out (by rw [HV1.out]; exact hv)
              clear hv HV1 HS0 hV hA
              go_wp2_with fail
              refine wp_region_held_drew (S := fun w' => w'.cell? ⟨g, 1, none⟩ = some (.slice (some ⟨bn, on, none⟩) n1 c1) ∧ w'.cell? ⟨g, 2, none⟩ = some (.slice (some ⟨b, o, none⟩) n2 c2) ∧ w'.cell? ⟨b, o, none⟩ = some (.int .i64 (j : Int))) (by kernel_rfl) k_0 (fun hHeld => ?_)
              refine wpAnyH_take (i := 0) (v := ?_) (by rw [List.getElem?_toArray]; exact rfl) (by kernel_rfl) (by kernel_rfl) (by kernel_rfl) (by exact fun _ _ _ h => h) (by refine Or.inl ⟨by rfl, fun w hSw => ?_⟩; (try dsimp only at hSw); go_simp; (try with_reducible rfl)) (by assumption) ?_
              try simp only [Act.put, List.setIfInBounds_toArray, List.set_cons_zero, List.set_cons_succ]
              refine wpAnyH_take (i := 1) (v := ?_) (by rw [List.getElem?_toArray]; exact rfl) (by kernel_rfl) (by kernel_rfl) (by kernel_rfl) (by exact fun _ _ _ h => h) (by refine Or.inl ⟨by rfl, fun w hSw => ?_⟩; (try dsimp only at hSw); go_simp; (try with_reducible rfl)) (by assumption) ?_
              try simp only [Act.put, List.setIfInBounds_toArray, List.set_cons_zero, List.set_cons_succ]
              refine wpAnyH_take (i := 2) (v := ?_) (by rw [List.getElem?_toArray]; exact rfl) (by kernel_rfl) (by kernel_rfl) (by kernel_rfl) (by exact fun _ _ _ h => h) (by refine Or.inl ⟨by rfl, fun w hSw => ?_⟩; (try dsimp only at hSw); go_simp; (try with_reducible rfl)) (by assumption) ?_
              try simp only [Act.put, List.setIfInBounds_toArray, List.set_cons_zero, List.set_cons_succ]
              refine wpAnyH_take (i := 3) (v := undef) (by rw [List.getElem?_toArray]; exact rfl) (by kernel_rfl) (by kernel_rfl) (by kernel_rfl) (by exact fun _ _ _ h => h) (by exact Or.inr ⟨by rfl, rfl⟩) (by assumption) ?_
              try simp only [Act.put, List.setIfInBounds_toArray, List.set_cons_zero, List.set_cons_succ]
              refine wpAnyH_take (i := 4) (v := undef) (by rw [List.getElem?_toArray]; exact rfl) (by kernel_rfl) (by kernel_rfl) (by kernel_rfl) (by exact fun _ _ _ h => h) (by exact Or.inr ⟨by rfl, rfl⟩) (by assumption) ?_
              try simp only [Act.put, List.setIfInBounds_toArray, List.set_cons_zero, List.set_cons_succ]
              refine wpAnyH_take (i := 5) (v := undef) (by rw [List.getElem?_toArray]; exact rfl) (by kernel_rfl) (by kernel_rfl) (by kernel_rfl) (by exact fun _ _ _ h => h) (by exact Or.inr ⟨by rfl, rfl⟩) (by assumption) ?_
              try simp only [Act.put, List.setIfInBounds_toArray, List.set_cons_zero, List.set_cons_succ]
              refine wpAnyH_take (i := 6) (v := undef) (by rw [List.getElem?_toArray]; exact rfl) (by kernel_rfl) (by kernel_rfl) (by kernel_rfl) (by exact fun _ _ _ h => h) (by exact Or.inr ⟨by rfl, rfl⟩) (by assumption) ?_
              try simp only [Act.put, List.setIfInBounds_toArray, List.set_cons_zero, List.set_cons_succ]
              refine wpAnyH_take (i := 7) (v := undef) (by rw [List.getElem?_toArray]; exact rfl) (by kernel_rfl) (by kernel_rfl) (by kernel_rfl) (by exact fun _ _ _ h => h) (by exact Or.inr ⟨by rfl, rfl⟩) (by assumption) ?_
              try simp only [Act.put, List.setIfInBounds_toArray, List.set_cons_zero, List.set_cons_succ]
              refine wpAnyH_take (i := 8) (v := undef) (by rw [List.getElem?_toArray]; exact rfl) (by kernel_rfl) (by kernel_rfl) (by kernel_rfl) (by exact fun _ _ _ h => h) (by exact Or.inr ⟨by rfl, rfl⟩) (by assumption) ?_
              try simp only [Act.put, List.setIfInBounds_toArray, List.set_cons_zero, List.set_cons_succ]
              refine wpAnyH_take (i := 9) (v := undef) (by rw [List.getElem?_toArray]; exact rfl) (by kernel_rfl) (by kernel_rfl) (by kernel_rfl) (by exact fun _ _ _ h => h) (by exact Or.inr ⟨by rfl, rfl⟩) (by assumption) ?_
              try simp only [Act.put, List.setIfInBounds_toArray, List.set_cons_zero, List.set_cons_succ]
              refine wpAnyH_take (i := 10) (v := undef) (by rw [List.getElem?_toArray]; exact rfl) (by kernel_rfl) (by kernel_rfl) (by kernel_rfl) (by exact fun _ _ _ h => h) (by exact Or.inr ⟨by rfl, rfl⟩) (by assumption) ?_
              try simp only [Act.put, List.setIfInBounds_toArray, List.set_cons_zero, List.set_cons_succ]
              refine wpAnyH_take (i := 11) (v := undef) (by rw [List.getElem?_toArray]; exact rfl) (by kernel_rfl) (by kernel_rfl) (by kernel_rfl) (by exact fun _ _ _ h => h) (by exact Or.inr ⟨by rfl, rfl⟩) (by assumption) ?_
              try simp only [Act.put, List.setIfInBounds_toArray, List.set_cons_zero, List.set_cons_succ]
              refine wpAnyH_take (i := 12) (v := undef) (by rw [List.getElem?_toArray]; exact rfl) (by kernel_rfl) (by kernel_rfl) (by kernel_rfl) (by exact fun _ _ _ h => h) (by exact Or.inr ⟨by rfl, rfl⟩) (by assumption) ?_
              try simp only [Act.put, List.setIfInBounds_toArray, List.set_cons_zero, List.set_cons_succ]
              refine wpAnyH_take (i := 13) (v := undef) (by rw [List.getElem?_toArray]; exact rfl) (by kernel_rfl) (by kernel_rfl) (by kernel_rfl) (by exact fun _ _ _ h => h) (by exact Or.inr ⟨by rfl, rfl⟩) (by assumption) ?_
              try simp only [Act.put, List.setIfInBounds_toArray, List.set_cons_zero, List.set_cons_succ]
              refine wpAnyH_take (i := 14) (v := undef) (by rw [List.getElem?_toArray]; exact rfl) (by kernel_rfl) (by kernel_rfl) (by kernel_rfl) (by exact fun _ _ _ h => h) (by exact Or.inr ⟨by rfl, rfl⟩) (by assumption) ?_
              try simp only [Act.put, List.setIfInBounds_toArray, List.set_cons_zero, List.set_cons_succ]
              refine wpAnyH_take (i := 15) (v := undef) (by rw [List.getElem?_toArray]; exact rfl) (by kernel_rfl) (by kernel_rfl) (by kernel_rfl) (by exact fun _ _ _ h => h) (by exact Or.inr ⟨by rfl, rfl⟩) (by assumption) ?_
              try simp only [Act.put, List.setIfInBounds_toArray, List.set_cons_zero, List.set_cons_succ]
              refine wpAnyH_take (i := 16) (v := undef) (by rw [List.getElem?_toArray]; exact rfl) (by kernel_rfl) (by kernel_rfl) (by kernel_rfl) (by exact fun _ _ _ h => h) (by exact Or.inr ⟨by rfl, rfl⟩) (by assumption) ?_
              try simp only [Act.put, List.setIfInBounds_toArray, List.set_cons_zero, List.set_cons_succ]
              refine wpAnyH_take (i := 17) (v := undef) (by rw [List.getElem?_toArray]; exact rfl) (by kernel_rfl) (by kernel_rfl) (by kernel_rfl) (by exact fun _ _ _ h => h) (by exact Or.inr ⟨by rfl, rfl⟩) (by assumption) ?_
              try simp only [Act.put, List.setIfInBounds_toArray, List.set_cons_zero, List.set_cons_succ]
              refine wpAnyH_take (i := 18) (v := undef) (by rw [List.getElem?_toArray]; exact rfl) (by kernel_rfl) (by kernel_rfl) (by kernel_rfl) (by exact fun _ _ _ h => h) (by exact Or.inr ⟨by rfl, rfl⟩) (by assumption) ?_
              try simp only [Act.put, List.setIfInBounds_toArray, List.set_cons_zero, List.set_cons_succ]
              refine wpAnyH_take (i := 19) (v := ?_) (by rw [List.getElem?_toArray]; exact rfl) (by kernel_rfl) (by kernel_rfl) (by kernel_rfl) (by exact fun _ _ _ h => h) (by refine Or.inl ⟨by rfl, fun w hSw => ?_⟩; (try dsimp only at hSw); go_simp; (try with_reducible rfl)) (by assumption) ?_
              try simp only [Act.put, List.setIfInBounds_toArray, List.set_cons_zero, List.set_cons_succ]
              refine wpAnyH_take (i := 20) (v := ?_) (by rw [List.getElem?_toArray]; exact rfl) (by kernel_rfl) (by kernel_rfl) (by kernel_rfl) (by exact fun _ _ _ h => h) (by refine Or.inl ⟨by rfl, fun w hSw => ?_⟩; (try dsimp only at hSw); go_simp; (try with_reducible rfl)) (by assumption) ?_
              try simp only [Act.put, List.setIfInBounds_toArray, List.set_cons_zero, List.set_cons_succ]
              refine wpAnyH_take (i := 21) (v := ?_) (by rw [List.getElem?_toArray]; exact rfl) (by kernel_rfl) (by kernel_rfl) (by kernel_rfl) (by exact fun _ _ _ h => h) (by refine Or.inl ⟨by rfl, fun w hSw => ?_⟩; (try dsimp only at hSw); go_simp; (try with_reducible rfl)) (by assumption) ?_
              try simp only [Act.put, List.setIfInBounds_toArray, List.set_cons_zero, List.set_cons_succ]
              refine wpAnyH_take (i := 22) (v := ?_) (by rw [List.getElem?_toArray]; exact rfl) (by kernel_rfl) (by kernel_rfl) (by kernel_rfl) (by exact fun _ _ _ h => h) (by refine Or.inl ⟨by rfl, fun w hSw => ?_⟩; (try dsimp only at hSw); go_simp; (try with_reducible rfl)) (by assumption) ?_
              try simp only [Act.put, List.setIfInBounds_toArray, List.set_cons_zero, List.set_cons_succ]
              refine wpAnyH_take (i := 23) (v := ?_) (by rw [List.getElem?_toArray]; exact rfl) (by kernel_rfl) (by kernel_rfl) (by kernel_rfl) (by exact fun _ _ _ h => h) (by refine Or.inl ⟨by rfl, fun w hSw => ?_⟩; (try dsimp only at hSw); go_simp; (try with_reducible rfl)) (by assumption) ?_
              try simp only [Act.put, List.setIfInBounds_toArray, List.set_cons_zero, List.set_cons_succ]
              refine wpAnyH_take (i := 24) (v := ?_) (by rw [List.getElem?_toArray]; exact rfl) (by kernel_rfl) (by kernel_rfl) (by kernel_rfl) (by exact fun _ _ _ h => h) (by refine Or.inl ⟨by rfl, fun w hSw => ?_⟩; (try dsimp only at hSw); go_simp; (try with_reducible rfl)) (by assumption) ?_
              try simp only [Act.put, List.setIfInBounds_toArray, List.set_cons_zero, List.set_cons_succ]
              refine wpAnyH_take (i := 25) (v := ?_) (by rw [List.getElem?_toArray]; exact rfl) (by kernel_rfl) (by kernel_rfl) (by kernel_rfl) (by exact fun _ _ _ h => h) (by refine Or.inl ⟨by rfl, fun w hSw => ?_⟩; (try dsimp only at hSw); go_simp; (try with_reducible rfl)) (by assumption) ?_
              try simp only [Act.put, List.setIfInBounds_toArray, List.set_cons_zero, List.set_cons_succ]
              refine wpAnyH_take (i := 26) (v := ?_) (by rw [List.getElem?_toArray]; exact rfl) (by kernel_rfl) (by kernel_rfl) (by kernel_rfl) (by exact fun _ _ _ h => h) (by refine Or.inl ⟨by rfl, fun w hSw => ?_⟩; (try dsimp only at hSw); go_simp; (try with_reducible rfl)) (by assumption) ?_
              try simp only [Act.put, List.setIfInBounds_toArray, List.set_cons_zero, List.set_cons_succ]
              refine wpAnyH_take (i := 27) (v := ?_) (by rw [List.getElem?_toArray]; exact rfl) (by kernel_rfl) (by kernel_rfl) (by kernel_rfl) (by exact fun _ _ _ h => h) (by refine Or.inl ⟨by rfl, fun w hSw => ?_⟩; (try dsimp only at hSw); go_simp; (try with_reducible rfl)) (by assumption) ?_
              try simp only [Act.put, List.setIfInBounds_toArray, List.set_cons_zero, List.set_cons_succ]
              refine wpAnyH_take (i := 28) (v := ?_) (by rw [List.getElem?_toArray]; exact rfl) (by kernel_rfl) (by kernel_rfl) (by kernel_rfl) (by exact fun _ _ _ h => h) (by refine Or.inl ⟨by rfl, fun w hSw => ?_⟩; (try dsimp only at hSw); go_simp; (try with_reducible rfl)) (by assumption) ?_
              try simp only [Act.put, List.setIfInBounds_toArray, List.set_cons_zero, List.set_cons_succ]
              refine wpAnyH_take (i := 29) (v := ?_) (by rw [List.getElem?_toArray]; exact rfl) (by kernel_rfl) (by kernel_rfl) (by kernel_rfl) (by exact fun _ _ _ h => h) (by refine Or.inl ⟨by rfl, fun w hSw => ?_⟩; (try dsimp only at hSw); go_simp; (try with_reducible rfl)) (by assumption) ?_
              try simp only [Act.put, List.setIfInBounds_toArray, List.set_cons_zero, List.set_cons_succ]
              refine wpAnyH_take (i := 30) (v := ?_) (by rw [List.getElem?_toArray]; exact rfl) (by kernel_rfl) (by kernel_rfl) (by kernel_rfl) (by exact fun _ _ _ h => h) (by refine Or.inl ⟨by rfl, fun w hSw => ?_⟩; (try dsimp only at hSw); go_simp; (try with_reducible rfl)) (by assumption) ?_
              try simp only [Act.put, List.setIfInBounds_toArray, List.set_cons_zero, List.set_cons_succ]
              refine wpAnyH_take (i := 31) (v := ?_) (by rw [List.getElem?_toArray]; exact rfl) (by kernel_rfl) (by kernel_rfl) (by kernel_rfl) (by exact fun _ _ _ h => h) (by refine Or.inl ⟨by rfl, fun w hSw => ?_⟩; (try dsimp only at hSw); go_simp; (try with_reducible rfl)) (by assumption) ?_
              try simp only [Act.put, List.setIfInBounds_toArray, List.set_cons_zero, List.set_cons_succ]
              refine wpAnyH_take (i := 32) (v := ?_) (by rw [List.getElem?_toArray]; exact rfl) (by kernel_rfl) (by kernel_rfl) (by kernel_rfl) (by exact fun _ _ _ h => h) (by refine Or.inl ⟨by rfl, fun w hSw => ?_⟩; (try dsimp only at hSw); go_simp; (try with_reducible rfl)) (by assumption) ?_
              try simp only [Act.put, List.setIfInBounds_toArray, List.set_cons_zero, List.set_cons_succ]
              refine wpAnyH_take (i := 33) (v := ?_) (by rw [List.getElem?_toArray]; exact rfl) (by kernel_rfl) (by kernel_rfl) (by kernel_rfl) (by exact fun _ _ _ h => h) (by refine Or.inl ⟨by rfl, fun w hSw => ?_⟩; (try dsimp only at hSw); go_simp; (try with_reducible rfl)) (by assumption) ?_
              try simp only [Act.put, List.setIfInBounds_toArray, List.set_cons_zero, List.set_cons_succ]
              refine wpAnyH_take (i := 34) (v := ?_) (by rw [List.getElem?_toArray]; exact rfl) (by kernel_rfl) (by kernel_rfl) (by kernel_rfl) (by exact fun _ _ _ h => h) (by refine Or.inl ⟨by rfl, fun w hSw => ?_⟩; (try dsimp only at hSw); go_simp; (try with_reducible rfl)) (by assumption) ?_
              try simp only [Act.put, List.setIfInBounds_toArray, List.set_cons_zero, List.set_cons_succ]
              refine wpAnyH_take (i := 35) (v := ?_) (by rw [List.getElem?_toArray]; exact rfl) (by kernel_rfl) (by kernel_rfl) (by kernel_rfl) (by exact fun _ _ _ h => h) (by refine Or.inl ⟨by rfl, fun w hSw => ?_⟩; (try dsimp only at hSw); go_simp; (try with_reducible rfl)) (by assumption) ?_
              try simp only [Act.put, List.setIfInBounds_toArray, List.set_cons_zero, List.set_cons_succ]
              refine wpAnyH_take (i := 36) (v := ?_) (by rw [List.getElem?_toArray]; exact rfl) (by kernel_rfl) (by kernel_rfl) (by kernel_rfl) (by exact fun _ _ _ h => h) (by refine Or.inl ⟨by rfl, fun w hSw => ?_⟩; (try dsimp only at hSw); go_simp; (try with_reducible rfl)) (by assumption) ?_
              try simp only [Act.put, List.setIfInBounds_toArray, List.set_cons_zero, List.set_cons_succ]
              refine wpAnyH_take (i := 37) (v := ?_) (by rw [List.getElem?_toArray]; exact rfl) (by kernel_rfl) (by kernel_rfl) (by kernel_rfl) (by exact fun _ _ _ h => h) (by refine Or.inl ⟨by rfl, fun w hSw => ?_⟩; (try dsimp only at hSw); go_simp; (try with_reducible rfl)) (by assumption) ?_
              try simp only [Act.put, List.setIfInBounds_toArray, List.set_cons_zero, List.set_cons_succ]
              refine wpAnyH_take (i := 38) (v := ?_) (by rw [List.getElem?_toArray]; exact rfl) (by kernel_rfl) (by kernel_rfl) (by kernel_rfl) (by exact fun _ _ _ h => h) (by refine Or.inl ⟨by rfl, fun w hSw => ?_⟩; (try dsimp only at hSw); go_simp; (try with_reducible rfl)) (by assumption) ?_
              try simp only [Act.put, List.setIfInBounds_toArray, List.set_cons_zero, List.set_cons_succ]
              refine wpAnyH_take (i := 39) (v := ?_) (by rw [List.getElem?_toArray]; exact rfl) (by kernel_rfl) (by kernel_rfl) (by kernel_rfl) (by exact fun _ _ _ h => h) (by refine Or.inl ⟨by rfl, fun w hSw => ?_⟩; (try dsimp only at hSw); go_simp; (try with_reducible rfl)) (by assumption) ?_
              try simp only [Act.put, List.setIfInBounds_toArray, List.set_cons_zero, List.set_cons_succ]
              refine wpAnyH_take (i := 40) (v := .slice (some ⟨bn, on + j * 4, none⟩) 1 (c1 - j)) (by rw [List.getElem?_toArray]; exact rfl) (by kernel_rfl) (by kernel_rfl) (by kernel_rfl) (by exact fun _ _ _ h => h) (by refine Or.inl ⟨by rfl, fun w hSw => ?_⟩; (try dsimp only at hSw); go_simp) (by assumption) ?_
              try simp only [Act.put, List.setIfInBounds_toArray, List.set_cons_zero, List.set_cons_succ]
              refine wpAnyH_ready (rs := [41]) (by kernel_rfl) (by simp) ?_
              refine AllReadyH.cons (by rw [List.getElem?_toArray]; exact rfl) (fun K hK => ?_) AllReadyH.nil
              go_simp
              refine (l4Empty_any _).mono ?_
              rintro e W1 ⟨rfl, b1d⟩
              have b1 := below_drawn b1d
              have k_1 : W1.cell? ⟨g, 1, none⟩ = some (.slice (some ⟨bn, on, none⟩) n1 c1) ∧ W1.cell? ⟨g, 2, none⟩ = some (.slice (some ⟨b, o, none⟩) n2 c2) ∧ W1.cell? ⟨b, o, none⟩ = some (.int .i64 (j : Int)) := ⟨(b1.cell (p := ⟨g, 1, none⟩) kg).trans k_0.1, (b1.cell (p := ⟨g, 2, none⟩) kg).trans k_0.2.1, (b1.cell (p := ⟨b, o, none⟩) kb).trans k_0.2.2⟩
              have kg1 : g < W1.heap.size := Nat.lt_of_lt_of_le kg b1.size
              have kb1 : b < W1.heap.size := Nat.lt_of_lt_of_le kb b1.size
              have b1a := below_alloc W1 (.cells #[.int .i64 0, .int .i64 0, .int .i64 (-1), .slice none 0 0] 30)
              have k_2 : (W1.alloc (.cells #[.int .i64 0, .int .i64 0, .int .i64 (-1), .slice none 0 0] 30)).cell? ⟨g, 1, none⟩ = some (.slice (some ⟨bn, on, none⟩) n1 c1) ∧ (W1.alloc (.cells #[.int .i64 0, .int .i64 0, .int .i64 (-1), .slice none 0 0] 30)).cell? ⟨g, 2, none⟩ = some (.slice (some ⟨b, o, none⟩) n2 c2) ∧ (W1.alloc (.cells #[.int .i64 0, .int .i64 0, .int .i64 (-1), .slice none 0 0] 30)).cell? ⟨b, o, none⟩ = some (.int .i64 (j : Int)) := ⟨(b1a.cell (p := ⟨g, 1, none⟩) kg1).trans k_1.1, (b1a.cell (p := ⟨g, 2, none⟩) kg1).trans k_1.2.1, (b1a.cell (p := ⟨b, o, none⟩) kb1).trans k_1.2.2⟩
              clear b1d
              dsimp only
              refine hK.out _ _ k_1 (fun hHeld => ?_)
              clear hK K
              try simp only [Act.put, List.setIfInBounds_toArray, List.set_cons_zero, List.set_cons_succ]
              refine wpAnyH_ready (rs := [42]) (by kernel_rfl) (by simp) ?_
              refine AllReadyH.cons (by rw [List.getElem?_toArray]; exact rfl) (fun K hK => ?_) AllReadyH.nil
              go_simp
              refine hK.out _ _ k_2 (fun hHeld => ?_)
              clear hK K
              try simp only [Act.put, List.setIfInBounds_toArray, List.set_cons_zero, List.set_cons_succ]
              refine wpAnyH_ready (rs := [43]) (by kernel_rfl) (by simp) ?_
              refine AllReadyH.cons (by rw [List.getElem?_toArray]; exact rfl) (fun K hK => ?_) AllReadyH.nil
              go_simp
              refine (specSameNodes_any 1 1 _ _ _ _ [⟨lv, ns', rt, X1, k1, e1, es⟩] [vacNV] _ (((HP.out.N.kept (hB.out.trans (b1.mono hB.out.size))).kept (below_alloc _ _)).sub hx.out) (vac_nodes _) (by decide) (by decide)).mono ?_
              rintro e W2 ⟨rfl, b2⟩
              rw [HS.out]
              have b2' := b1a.trans (b2.mono b1a.size)
              have k_3 : W2.cell? ⟨g, 1, none⟩ = some (.slice (some ⟨bn, on, none⟩) n1 c1) ∧ W2.cell? ⟨g, 2, none⟩ = some (.slice (some ⟨b, o, none⟩) n2 c2) ∧ W2.cell? ⟨b, o, none⟩ = some (.int .i64 (j : Int)) := ⟨(b2'.cell (p := ⟨g, 1, none⟩) kg1).trans k_1.1, (b2'.cell (p := ⟨g, 2, none⟩) kg1).trans k_1.2.1, (b2'.cell (p := ⟨b, o, none⟩) kb1).trans k_1.2.2⟩
              clear b2
              dsimp only
              refine hK.out _ _ k_3 (fun hHeld => ?_)
              clear hK K
              try simp only [Act.put, List.setIfInBounds_toArray, List.set_cons_zero, List.set_cons_succ]
              refine wpAnyH_take (i := 44) (v := ?_) (by rw [List.getElem?_toArray]; exact rfl) (by kernel_rfl) (by kernel_rfl) (by kernel_rfl) (by exact fun _ _ _ h => h) (by refine Or.inl ⟨by rfl, fun w hSw => ?_⟩; (try dsimp only at hSw); go_simp; (try with_reducible rfl)) (by assumption) ?_
              try simp only [Act.put, List.setIfInBounds_toArray, List.set_cons_zero, List.set_cons_succ]
              refine wpAnyH_take (i := 45) (v := ?_) (by rw [List.getElem?_toArray]; exact rfl) (by kernel_rfl) (by kernel_rfl) (by kernel_rfl) (by exact fun _ _ _ h => h) (by refine Or.inl ⟨by rfl, fun w hSw => ?_⟩; (try dsimp only at hSw); go_simp; (try with_reducible rfl)) (by assumption) ?_
              try simp only [Act.put, List.setIfInBounds_toArray, List.set_cons_zero, List.set_cons_succ]
              refine wpAnyH_done (by kernel_rfl) ?_ _
              clear k_0 k_1 k_2 k_3 b1a
              have hB' := Lib.hid (hB.out.trans ((b1.trans (b2'.mono b1.size)).mono hB.out.size))
              clear hB b1 b2'
              go_wp2
              go_ret
              exact ⟨ret_i64 HF.out.symm, hB'.out⟩
            · have HS : Hid (sameL NV.val [⟨lv, ns', rt, X1, k1, e1, es⟩] [vacNV] = true) := by show sameL _ _ _ = _; rw [HS0.out]; exact hv
              have hV' := Lib.hid (upto_next (P := fun x => vacAt (ns.map NV.val) x = true) hV.out hf.out (by rw [HV1.out]; exact hv))
              have hA' : Hid (∀ (j : Nat) (p q : Int), j + 1 < 0 + 1 → fs[j]? = some p → fs[j + 1]? = some q → p < q) := fun j p q hj => absurd hj (by omega)
              clear hv HV1 HS0 hV hA
              go_wp2_with fail
              refine wp_region_held_drew (S := fun w' => w'.cell? ⟨g, 1, none⟩ = some (.slice (some ⟨bn, on, none⟩) n1 c1) ∧ w'.cell? ⟨g, 2, none⟩ = some (.slice (some ⟨b, o, none⟩) n2 c2) ∧ w'.cell? ⟨b, o, none⟩ = some (.int .i64 (j : Int))) (by kernel_rfl) k_0 (fun hHeld => ?_)
              refine wpAnyH_take (i := 0) (v := ?_) (by rw [List.getElem?_toArray]; exact rfl) (by kernel_rfl) (by kernel_rfl) (by kernel_rfl) (by exact fun _ _ _ h => h) (by refine Or.inl ⟨by rfl, fun w hSw => ?_⟩; (try dsimp only at hSw); go_simp; (try with_reducible rfl)) (by assumption) ?_
              try simp only [Act.put, List.setIfInBounds_toArray, List.set_cons_zero, List.set_cons_succ]
              refine wpAnyH_take (i := 1) (v := ?_) (by rw [List.getElem?_toArray]; exact rfl) (by kernel_rfl) (by kernel_rfl) (by kernel_rfl) (by exact fun _ _ _ h => h) (by refine Or.inl ⟨by rfl, fun w hSw => ?_⟩; (try dsimp only at hSw); go_simp; (try with_reducible rfl)) (by assumption) ?_
              try simp only [Act.put, List.setIfInBounds_toArray, List.set_cons_zero, List.set_cons_succ]
              refine wpAnyH_take (i := 2) (v := ?_) (by rw [List.getElem?_toArray]; exact rfl) (by kernel_rfl) (by kernel_rfl) (by kernel_rfl) (by exact fun _ _ _ h => h) (by refine Or.inl ⟨by rfl, fun w hSw => ?_⟩; (try dsimp only at hSw); go_simp; (try with_reducible rfl)) (by assumption) ?_
              try simp only [Act.put, List.setIfInBounds_toArray, List.set_cons_zero, List.set_cons_succ]
              refine wpAnyH_take (i := 3) (v := undef) (by rw [List.getElem?_toArray]; exact rfl) (by kernel_rfl) (by kernel_rfl) (by kernel_rfl) (by exact fun _ _ _ h => h) (by exact Or.inr ⟨by rfl, rfl⟩) (by assumption) ?_
              try simp only [Act.put, List.setIfInBounds_toArray, List.set_cons_zero, List.set_cons_succ]
              refine wpAnyH_take (i := 4) (v := undef) (by rw [List.getElem?_toArray]; exact rfl) (by kernel_rfl) (by kernel_rfl) (by kernel_rfl) (by exact fun _ _ _ h => h) (by exact Or.inr ⟨by rfl, rfl⟩) (by assumption) ?_
              try simp only [Act.put, List.setIfInBounds_toArray, List.set_cons_zero, List.set_cons_succ]
              refine wpAnyH_take (i := 5) (v := undef) (by rw [List.getElem?_toArray]; exact rfl) (by kernel_rfl) (by kernel_rfl) (by kernel_rfl) (by exact fun _ _ _ h => h) (by exact Or.inr ⟨by rfl, rfl⟩) (by assumption) ?_
              try simp only [Act.put, List.setIfInBounds_toArray, List.set_cons_zero, List.set_cons_succ]
              refine wpAnyH_take (i := 6) (v := undef) (by rw [List.getElem?_toArray]; exact rfl) (by kernel_rfl) (by kernel_rfl) (by kernel_rfl) (by exact fun _ _ _ h => h) (by exact Or.inr ⟨by rfl, rfl⟩) (by assumption) ?_
              try simp only [Act.put, List.setIfInBounds_toArray, List.set_cons_zero, List.set_cons_succ]
              refine wpAnyH_take (i := 7) (v := undef) (by rw [List.getElem?_toArray]; exact rfl) (by kernel_rfl) (by kernel_rfl) (by kernel_rfl) (by exact fun _ _ _ h => h) (by exact Or.inr ⟨by rfl, rfl⟩) (by assumption) ?_
              try simp only [Act.put, List.setIfInBounds_toArray, List.set_cons_zero, List.set_cons_succ]
              refine wpAnyH_take (i := 8) (v := undef) (by rw [List.getElem?_toArray]; exact rfl) (by kernel_rfl) (by kernel_rfl) (by kernel_rfl) (by exact fun _ _ _ h => h) (by exact Or.inr ⟨by rfl, rfl⟩) (by assumption) ?_
              try simp only [Act.put, List.setIfInBounds_toArray, List.set_cons_zero, List.set_cons_succ]
              refine wpAnyH_take (i := 9) (v := undef) (by rw [List.getElem?_toArray]; exact rfl) (by kernel_rfl) (by kernel_rfl) (by kernel_rfl) (by exact fun _ _ _ h => h) (by exact Or.inr ⟨by rfl, rfl⟩) (by assumption) ?_
              try simp only [Act.put, List.setIfInBounds_toArray, List.set_cons_zero, List.set_cons_succ]
              refine wpAnyH_take (i := 10) (v := undef) (by rw [List.getElem?_toArray]; exact rfl) (by kernel_rfl) (by kernel_rfl) (by kernel_rfl) (by exact fun _ _ _ h => h) (by exact Or.inr ⟨by rfl, rfl⟩) (by assumption) ?_
              try simp only [Act.put, List.setIfInBounds_toArray, List.set_cons_zero, List.set_cons_succ]
              refine wpAnyH_take (i := 11) (v := undef) (by rw [List.getElem?_toArray]; exact rfl) (by kernel_rfl) (by kernel_rfl) (by kernel_rfl) (by exact fun _ _ _ h => h) (by exact Or.inr ⟨by rfl, rfl⟩) (by assumption) ?_
              try simp only [Act.put, List.setIfInBounds_toArray, List.set_cons_zero, List.set_cons_succ]
              refine wpAnyH_take (i := 12) (v := undef) (by rw [List.getElem?_toArray]; exact rfl) (by kernel_rfl) (by kernel_rfl) (by kernel_rfl) (by exact fun _ _ _ h => h) (by exact Or.inr ⟨by rfl, rfl⟩) (by assumption) ?_
              try simp only [Act.put, List.setIfInBounds_toArray, List.set_cons_zero, List.set_cons_succ]
              refine wpAnyH_take (i := 13) (v := undef) (by rw [List.getElem?_toArray]; exact rfl) (by kernel_rfl) (by kernel_rfl) (by kernel_rfl) (by exact fun _ _ _ h => h) (by exact Or.inr ⟨by rfl, rfl⟩) (by assumption) ?_
              try simp only [Act.put, List.setIfInBounds_toArray, List.set_cons_zero, List.set_cons_succ]
              refine wpAnyH_take (i := 14) (v := undef) (by rw [List.getElem?_toArray]; exact rfl) (by kernel_rfl) (by kernel_rfl) (by kernel_rfl) (by exact fun _ _ _ h => h) (by exact Or.inr ⟨by rfl, rfl⟩) (by assumption) ?_
              try simp only [Act.put, List.setIfInBounds_toArray, List.set_cons_zero, List.set_cons_succ]
              refine wpAnyH_take (i := 15) (v := undef) (by rw [List.getElem?_toArray]; exact rfl) (by kernel_rfl) (by kernel_rfl) (by kernel_rfl) (by exact fun _ _ _ h => h) (by exact Or.inr ⟨by rfl, rfl⟩) (by assumption) ?_
              try simp only [Act.put, List.setIfInBounds_toArray, List.set_cons_zero, List.set_cons_succ]
              refine wpAnyH_take (i := 16) (v := undef) (by rw [List.getElem?_toArray]; exact rfl) (by kernel_rfl) (by kernel_rfl) (by kernel_rfl) (by exact fun _ _ _ h => h) (by exact Or.inr ⟨by rfl, rfl⟩) (by assumption) ?_
              try simp only [Act.put, List.setIfInBounds_toArray, List.set_cons_zero, List.set_cons_succ]
              refine wpAnyH_take (i := 17) (v := undef) (by rw [List.getElem?_toArray]; exact rfl) (by kernel_rfl) (by kernel_rfl) (by kernel_rfl) (by exact fun _ _ _ h => h) (by exact Or.inr ⟨by rfl, rfl⟩) (by assumption) ?_
              try simp only [Act.put, List.setIfInBounds_toArray, List.set_cons_zero, List.set_cons_succ]
              refine wpAnyH_take (i := 18) (v := undef) (by rw [List.getElem?_toArray]; exact rfl) (by kernel_rfl) (by kernel_rfl) (by kernel_rfl) (by exact fun _ _ _ h => h) (by exact Or.inr ⟨by rfl, rfl⟩) (by assumption) ?_
              try simp only [Act.put, List.setIfInBounds_toArray, List.set_cons_zero, List.set_cons_succ]
              refine wpAnyH_take (i := 19) (v := ?_) (by rw [List.getElem?_toArray]; exact rfl) (by kernel_rfl) (by kernel_rfl) (by kernel_rfl) (by exact fun _ _ _ h => h) (by refine Or.inl ⟨by rfl, fun w hSw => ?_⟩; (try dsimp only at hSw); go_simp; (try with_reducible rfl)) (by assumption) ?_
              try simp only [Act.put, List.setIfInBounds_toArray, List.set_cons_zero, List.set_cons_succ]
              refine wpAnyH_take (i := 20) (v := ?_) (by rw [List.getElem?_toArray]; exact rfl) (by kernel_rfl) (by kernel_rfl) (by kernel_rfl) (by exact fun _ _ _ h => h) (by refine Or.inl ⟨by rfl, fun w hSw => ?_⟩; (try dsimp only at hSw); go_simp; (try with_reducible rfl)) (by assumption) ?_
              try simp only [Act.put, List.setIfInBounds_toArray, List.set_cons_zero, List.set_cons_succ]
              refine wpAnyH_take (i := 21) (v := ?_) (by rw [List.getElem?_toArray]; exact rfl) (by kernel_rfl) (by kernel_rfl) (by kernel_rfl) (by exact fun _ _ _ h => h) (by refine Or.inl ⟨by rfl, fun w hSw => ?_⟩; (try dsimp only at hSw); go_simp; (try with_reducible rfl)) (by assumption) ?_
              try simp only [Act.put, List.setIfInBounds_toArray, List.set_cons_zero, List.set_cons_succ]
              refine wpAnyH_take (i := 22) (v := ?_) (by rw [List.getElem?_toArray]; exact rfl) (by kernel_rfl) (by kernel_rfl) (by kernel_rfl) (by exact fun _ _ _ h => h) (by refine Or.inl ⟨by rfl, fun w hSw => ?_⟩; (try dsimp only at hSw); go_simp; (try with_reducible rfl)) (by assumption) ?_
              try simp only [Act.put, List.setIfInBounds_toArray, List.set_cons_zero, List.set_cons_succ]
              refine wpAnyH_take (i := 23) (v := ?_) (by rw [List.getElem?_toArray]; exact rfl) (by kernel_rfl) (by kernel_rfl) (by kernel_rfl) (by exact fun _ _ _ h => h) (by refine Or.inl ⟨by rfl, fun w hSw => ?_⟩; (try dsimp only at hSw); go_simp; (try with_reducible rfl)) (by assumption) ?_
              try simp only [Act.put, List.setIfInBounds_toArray, List.set_cons_zero, List.set_cons_succ]
              refine wpAnyH_take (i := 24) (v := ?_) (by rw [List.getElem?_toArray]; exact rfl) (by kernel_rfl) (by kernel_rfl) (by kernel_rfl) (by exact fun _ _ _ h => h) (by refine Or.inl ⟨by rfl, fun w hSw => ?_⟩; (try dsimp only at hSw); go_simp; (try with_reducible rfl)) (by assumption) ?_
              try simp only [Act.put, List.setIfInBounds_toArray, List.set_cons_zero, List.set_cons_succ]
              refine wpAnyH_take (i := 25) (v := ?_) (by rw [List.getElem?_toArray]; exact rfl) (by kernel_rfl) (by kernel_rfl) (by kernel_rfl) (by exact fun _ _ _ h => h) (by refine Or.inl ⟨by rfl, fun w hSw => ?_⟩; (try dsimp only at hSw); go_simp; (try with_reducible rfl)) (by assumption) ?_
              try simp only [Act.put, List.setIfInBounds_toArray, List.set_cons_zero, List.set_cons_succ]
              refine wpAnyH_take (i := 26) (v := ?_) (by rw [List.getElem?_toArray]; exact rfl) (by kernel_rfl) (by kernel_rfl) (by kernel_rfl) (by exact fun _ _ _ h => h) (by refine Or.inl ⟨by rfl, fun w hSw => ?_⟩; (try dsimp only at hSw); go_simp; (try with_reducible rfl)) (by assumption) ?_
              try simp only [Act.put, List.setIfInBounds_toArray, List.set_cons_zero, List.set_cons_succ]
              refine wpAnyH_take (i := 27) (v := ?_) (by rw [List.getElem?_toArray]; exact rfl) (by kernel_rfl) (by kernel_rfl) (by kernel_rfl) (by exact fun _ _ _ h => h) (by refine Or.inl ⟨by rfl, fun w hSw => ?_⟩; (try dsimp only at hSw); go_simp; (try with_reducible rfl)) (by assumption) ?_
              try simp only [Act.put, List.setIfInBounds_toArray, List.set_cons_zero, List.set_cons_succ]
              refine wpAnyH_take (i := 28) (v := ?_) (by rw [List.getElem?_toArray]; exact rfl) (by kernel_rfl) (by kernel_rfl) (by kernel_rfl) (by exact fun _ _ _ h => h) (by refine Or.inl ⟨by rfl, fun w hSw => ?_⟩; (try dsimp only at hSw); go_simp; (try with_reducible rfl)) (by assumption) ?_
              try simp only [Act.put, List.setIfInBounds_toArray, List.set_cons_zero, List.set_cons_succ]
              refine wpAnyH_take (i := 29) (v := ?_) (by rw [List.getElem?_toArray]; exact rfl) (by kernel_rfl) (by kernel_rfl) (by kernel_rfl) (by exact fun _ _ _ h => h) (by refine Or.inl ⟨by rfl, fun w hSw => ?_⟩; (try dsimp only at hSw); go_simp; (try with_reducible rfl)) (by assumption) ?_
              try simp only [Act.put, List.setIfInBounds_toArray, List.set_cons_zero, List.set_cons_succ]
              refine wpAnyH_take (i := 30) (v := ?_) (by rw [List.getElem?_toArray]; exact rfl) (by kernel_rfl) (by kernel_rfl) (by kernel_rfl) (by exact fun _ _ _ h => h) (by refine Or.inl ⟨by rfl, fun w hSw => ?_⟩; (try dsimp only at hSw); go_simp; (try with_reducible rfl)) (by assumption) ?_
              try simp only [Act.put, List.setIfInBounds_toArray, List.set_cons_zero, List.set_cons_succ]
              refine wpAnyH_take (i := 31) (v := ?_) (by rw [List.getElem?_toArray]; exact rfl) (by kernel_rfl) (by kernel_rfl) (by kernel_rfl) (by exact fun _ _ _ h => h) (by refine Or.inl ⟨by rfl, fun w hSw => ?_⟩; (try dsimp only at hSw); go_simp; (try with_reducible rfl)) (by assumption) ?_
              try simp only [Act.put, List.setIfInBounds_toArray, List.set_cons_zero, List.set_cons_succ]
              refine wpAnyH_take (i := 32) (v := ?_) (by rw [List.getElem?_toArray]; exact rfl) (by kernel_rfl) (by kernel_rfl) (by kernel_rfl) (by exact fun _ _ _ h => h) (by refine Or.inl ⟨by rfl, fun w hSw => ?_⟩; (try dsimp only at hSw); go_simp; (try with_reducible rfl)) (by assumption) ?_
              try simp only [Act.put, List.setIfInBounds_toArray, List.set_cons_zero, List.set_cons_succ]
              refine wpAnyH_take (i := 33) (v := ?_) (by rw [List.getElem?_toArray]; exact rfl) (by kernel_rfl) (by kernel_rfl) (by kernel_rfl) (by exact fun _ _ _ h => h) (by refine Or.inl ⟨by rfl, fun w hSw => ?_⟩; (try dsimp only at hSw); go_simp; (try with_reducible rfl)) (by assumption) ?_
              try simp only [Act.put, List.setIfInBounds_toArray, List.set_cons_zero, List.set_cons_succ]
              refine wpAnyH_take (i := 34) (v := ?_) (by rw [List.getElem?_toArray]; exact rfl) (by kernel_rfl) (by kernel_rfl) (by kernel_rfl) (by exact fun _ _ _ h => h) (by refine Or.inl ⟨by rfl, fun w hSw => ?_⟩; (try dsimp only at hSw); go_simp; (try with_reducible rfl)) (by assumption) ?_
              try simp only [Act.put, List.setIfInBounds_toArray, List.set_cons_zero, List.set_cons_succ]
              refine wpAnyH_take (i := 35) (v := ?_) (by rw [List.getElem?_toArray]; exact rfl) (by kernel_rfl) (by kernel_rfl) (by kernel_rfl) (by exact fun _ _ _ h => h) (by refine Or.inl ⟨by rfl, fun w hSw => ?_⟩; (try dsimp only at hSw); go_simp; (try with_reducible rfl)) (by assumption) ?_
              try simp only [Act.put, List.setIfInBounds_toArray, List.set_cons_zero, List.set_cons_succ]
              refine wpAnyH_take (i := 36) (v := ?_) (by rw [List.getElem?_toArray]; exact rfl) (by kernel_rfl) (by kernel_rfl) (by kernel_rfl) (by exact fun _ _ _ h => h) (by refine Or.inl ⟨by rfl, fun w hSw => ?_⟩; (try dsimp only at hSw); go_simp; (try with_reducible rfl)) (by assumption) ?_
              try simp only [Act.put, List.setIfInBounds_toArray, List.set_cons_zero, List.set_cons_succ]
              refine wpAnyH_take (i := 37) (v := ?_) (by rw [List.getElem?_toArray]; exact rfl) (by kernel_rfl) (by kernel_rfl) (by kernel_rfl) (by exact fun _ _ _ h => h) (by refine Or.inl ⟨by rfl, fun w hSw => ?_⟩; (try dsimp only at hSw); go_simp; (try with_reducible rfl)) (by assumption) ?_
              try simp only [Act.put, List.setIfInBounds_toArray, List.set_cons_zero, List.set_cons_succ]
              refine wpAnyH_take (i := 38) (v := ?_) (by rw [List.getElem?_toArray]; exact rfl) (by kernel_rfl) (by kernel_rfl) (by kernel_rfl) (by exact fun _ _ _ h => h) (by refine Or.inl ⟨by rfl, fun w hSw => ?_⟩; (try dsimp only at hSw); go_simp; (try with_reducible rfl)) (by assumption) ?_
              try simp only [Act.put, List.setIfInBounds_toArray, List.set_cons_zero, List.set_cons_succ]
              refine wpAnyH_take (i := 39) (v := ?_) (by rw [List.getElem?_toArray]; exact rfl) (by kernel_rfl) (by kernel_rfl) (by kernel_rfl) (by exact fun _ _ _ h => h) (by refine Or.inl ⟨by rfl, fun w hSw => ?_⟩; (try dsimp only at hSw); go_simp; (try with_reducible rfl)) (by assumption) ?_
              try simp only [Act.put, List.setIfInBounds_toArray, List.set_cons_zero, List.set_cons_succ]
              refine wpAnyH_take (i := 40) (v := .slice (some ⟨bn, on + j * 4, none⟩) 1 (c1 - j)) (by rw [List.getElem?_toArray]; exact rfl) (by kernel_rfl) (by kernel_rfl) (by kernel_rfl) (by exact fun _ _ _ h => h) (by refine Or.inl ⟨by rfl, fun w hSw => ?_⟩; (try dsimp only at hSw); go_simp) (by assumption) ?_
              try simp only [Act.put, List.setIfInBounds_toArray, List.set_cons_zero, List.set_cons_succ]
              refine wpAnyH_ready (rs := [41]) (by kernel_rfl) (by simp) ?_
              refine AllReadyH.cons (by rw [List.getElem?_toArray]; exact rfl) (fun K hK => ?_) AllReadyH.nil
              go_simp
              refine (l4Empty_any _).mono ?_
              rintro e W1 ⟨rfl, b1d⟩
              have b1 := below_drawn b1d
              have k_1 : W1.cell? ⟨g, 1, none⟩ = some (.slice (some ⟨bn, on, none⟩) n1 c1) ∧ W1.cell? ⟨g, 2, none⟩ = some (.slice (some ⟨b, o, none⟩) n2 c2) ∧ W1.cell? ⟨b, o, none⟩ = some (.int .i64 (j : Int)) := ⟨(b1.cell (p := ⟨g, 1, none⟩) kg).trans k_0.1, (b1.cell (p := ⟨g, 2, none⟩) kg).trans k_0.2.1, (b1.cell (p := ⟨b, o, none⟩) kb).trans k_0.2.2⟩
              have kg1 : g < W1.heap.size := Nat.lt_of_lt_of_le kg b1.size
              have kb1 : b < W1.heap.size := Nat.lt_of_lt_of_le kb b1.size
              have b1a := below_alloc W1 (.cells #[.int .i64 0, .int .i64 0, .int .i64 (-1), .slice none 0 0] 30)
              have k_2 : (W1.alloc (.cells #[.int .i64 0, .int .i64 0, .int .i64 (-1), .slice none 0 0] 30)).cell? ⟨g, 1, none⟩ = some (.slice (some ⟨bn, on, none⟩) n1 c1) ∧ (W1.alloc (.cells #[.int .i64 0, .int .i64 0, .int .i64 (-1), .slice none 0 0] 30)).cell? ⟨g, 2, none⟩ = some (.slice (some ⟨b, o, none⟩) n2 c2) ∧ (W1.alloc (.cells #[.int .i64 0, .int .i64 0, .int .i64 (-1), .slice none 0 0] 30)).cell? ⟨b, o, none⟩ = some (.int .i64 (j : Int)) := ⟨(b1a.cell (p := ⟨g, 1, none⟩) kg1).trans k_1.1, (b1a.cell (p := ⟨g, 2, none⟩) kg1).trans k_1.2.1, (b1a.cell (p := ⟨b, o, none⟩) kb1).trans k_1.2.2⟩
              clear b1d
              dsimp only
              refine hK.out _ _ k_1 (fun hHeld => ?_)
              clear hK K
              try simp only [Act.put, List.setIfInBounds_toArray, List.set_cons_zero, List.set_cons_succ]
              refine wpAnyH_ready (rs := [42]) (by kernel_rfl) (by simp) ?_
              refine AllReadyH.cons (by rw [List.getElem?_toArray]; exact rfl) (fun K hK => ?_) AllReadyH.nil
              go_simp
              refine hK.out _ _ k_2 (fun hHeld => ?_)
              clear hK K
              try simp only [Act.put, List.setIfInBounds_toArray, List.set_cons_zero, List.set_cons_succ]
              refine wpAnyH_ready (rs := [43]) (by kernel_rfl) (by simp) ?_
              refine AllReadyH.cons (by rw [List.getElem?_toArray]; exact rfl) (fun K hK => ?_) AllReadyH.nil
              go_simp
              refine (specSameNodes_any 1 1 _ _ _ _ [⟨lv, ns', rt, X1, k1, e1, es⟩] [vacNV] _ (((HP.out.N.kept (hB.out.trans (b1.mono hB.out.size))).kept (below_alloc _ _)).sub hx.out) (vac_nodes _) (by decide) (by decide)).mono ?_
              rintro e W2 ⟨rfl, b2⟩
              rw [HS.out]
              have b2' := b1a.trans (b2.mono b1a.size)
              have k_3 : W2.cell? ⟨g, 1, none⟩ = some (.slice (some ⟨bn, on, none⟩) n1 c1) ∧ W2.cell? ⟨g, 2, none⟩ = some (.slice (some ⟨b, o, none⟩) n2 c2) ∧ W2.cell? ⟨b, o, none⟩ = some (.int .i64 (j : Int)) := ⟨(b2'.cell (p := ⟨g, 1, none⟩) kg1).trans k_1.1, (b2'.cell (p := ⟨g, 2, none⟩) kg1).trans k_1.2.1, (b2'.cell (p := ⟨b, o, none⟩) kb1).trans k_1.2.2⟩
              clear b2
              dsimp only
              refine hK.out _ _ k_3 (fun hHeld => ?_)
              clear hK K
              try simp only [Act.put, List.setIfInBounds_toArray, List.set_cons_zero, List.set_cons_succ]
              refine wpAnyH_take (i := 44) (v := ?_) (by rw [List.getElem?_toArray]; exact rfl) (by kernel_rfl) (by kernel_rfl) (by kernel_rfl) (by exact fun _ _ _ h => h) (by refine Or.inl ⟨by rfl, fun w hSw => ?_⟩; (try dsimp only at hSw); go_simp; (try with_reducible rfl)) (by assumption) ?_
              try simp only [Act.put, List.setIfInBounds_toArray, List.set_cons_zero, List.set_cons_succ]
              refine wpAnyH_take (i := 45) (v := ?_) (by rw [List.getElem?_toArray]; exact rfl) (by kernel_rfl) (by kernel_rfl) (by kernel_rfl) (by exact fun _ _ _ h => h) (by refine Or.inl ⟨by rfl, fun w hSw => ?_⟩; (try dsimp only at hSw); go_simp; (try with_reducible rfl)) (by assumption) ?_
              try simp only [Act.put, List.setIfInBounds_toArray, List.set_cons_zero, List.set_cons_succ]
              refine wpAnyH_done (by kernel_rfl) ?_ _
              clear k_0 k_1 k_2 k_3 b1a
              have hB' := Lib.hid (hB.out.trans ((b1.trans (b2'.mono b1.size)).mono hB.out.size))
              clear hB b1 b2'
              go_wp2
              go_roundw
              case rel => exact ⟨0 + 1, by omega, by go_num, hB', hV', hA'⟩
              case measure => simp [intOf]; omega
          · obtain ⟨b', o', y, z, e, hy, hz, d2, d3⟩ := HP.out.F.twoAt hB.out hlt2
            injection e with e; injection e with e e'; subst e e'
            have ez : z = (j : Int) := by have := hz.out.symm.trans hf.out; injection this
            subst ez
            rw [show ((m + 1 : Nat) : Int) = (m : Int) + 1 from rfl]
            have gm : decide ((m : Int) + 1 > 0) = true := by simp <;> omega
            have gp : 0 ≤ (m : Int) + 1 := by omega
            have gp0 : 0 ≤ (m : Int) := by omega
            have gw : IntKind.i64.wrap (m : Int) = (m : Int) := by simp only [IntKind.wrap, IntKind.bits, IntKind.signed]; simp; omega
            have gl : (m : Int) < (n2 : Int) := by omega
            by_cases hr : (j : Int) ≤ y
            · have gj : decide ((j : Int) ≤ y) = true := by simpa using hr
              have HF : Hid (freeF (ns.map NV.val) fs = 1) := freeF_fall HI.out (risesL_false hy.out hf.out (show ¬ y < (j : Int) by omega))
              have q1 : wr.cell? ⟨g, 1, none⟩ = some (.slice (some ⟨bn, on, none⟩) n1 c1) := L_b.out.cell 1
              have q2 : wr.cell? ⟨g, 2, none⟩ = some (.slice (some ⟨b, o, none⟩) n2 c2) := L_b.out.cell 2
              clear HV1 HS0 hV hA hf hx hy hz d0
              go_wp2_with fail
              go_quiet (fail)
              go_wp2
              go_ret
              exact ⟨ret_i64 HF.out.symm, below_draws hB.out _⟩
            have gj : decide ((j : Int) ≤ y) = false := by simpa using hr
            have k_0 : wr.cell? ⟨g, 1, none⟩ = some (.slice (some ⟨bn, on, none⟩) n1 c1) ∧ wr.cell? ⟨g, 2, none⟩ = some (.slice (some ⟨b, o, none⟩) n2 c2) ∧ wr.cell? ⟨b, o + (m + 1), none⟩ = some (.int .i64 (j : Int)) ∧ wr.cell? ⟨b, o + m, none⟩ = some (.int .i64 y) := ⟨L_b.out.cell 1, L_b.out.cell 2, d3, d2⟩
            clear d0 d2 d3
            cases hv : decide ((⟨lv, ns', rt, X1, k1, e1, es⟩ : NV).val = vacV)
            · have HS : Hid (sameL NV.val [⟨lv, ns', rt, X1, k1, e1, es⟩] [vacNV] = false) := by show sameL _ _ _ = _; rw [HS0.out]; exact hv
              have HF : Hid (freeF (ns.map NV.val) fs = 1) := freeF_full HI.out hf.out (by rw [HV1.out]; exact hv)
              clear hv HV1 HS0 hV hA
              go_wp2_with fail
              refine wp_region_held_drew (S := fun w' => w'.cell? ⟨g, 1, none⟩ = some (.slice (some ⟨bn, on, none⟩) n1 c1) ∧ w'.cell? ⟨g, 2, none⟩ = some (.slice (some ⟨b, o, none⟩) n2 c2) ∧ w'.cell? ⟨b, o + (m + 1), none⟩ = some (.int .i64 (j : Int)) ∧ w'.cell? ⟨b, o + m, none⟩ = some (.int .i64 y)) (by kernel_rfl) k_0 (fun hHeld => ?_)
              refine wpAnyH_take (i := 0) (v := ?_) (by rw [List.getElem?_toArray]; exact rfl) (by kernel_rfl) (by kernel_rfl) (by kernel_rfl) (by exact fun _ _ _ h => h) (by refine Or.inl ⟨by rfl, fun w hSw => ?_⟩; (try dsimp only at hSw); go_simp; (try with_reducible rfl)) (by assumption) ?_
              try simp only [Act.put, List.setIfInBounds_toArray, List.set_cons_zero, List.set_cons_succ]
              refine wpAnyH_take (i := 1) (v := ?_) (by rw [List.getElem?_toArray]; exact rfl) (by kernel_rfl) (by kernel_rfl) (by kernel_rfl) (by exact fun _ _ _ h => h) (by refine Or.inl ⟨by rfl, fun w hSw => ?_⟩; (try dsimp only at hSw); go_simp; (try with_reducible rfl)) (by assumption) ?_
              try simp only [Act.put, List.setIfInBounds_toArray, List.set_cons_zero, List.set_cons_succ]
              refine wpAnyH_take (i := 2) (v := ?_) (by rw [List.getElem?_toArray]; exact rfl) (by kernel_rfl) (by kernel_rfl) (by kernel_rfl) (by exact fun _ _ _ h => h) (by refine Or.inl ⟨by rfl, fun w hSw => ?_⟩; (try dsimp only at hSw); go_simp; (try with_reducible rfl)) (by assumption) ?_
              try simp only [Act.put, List.setIfInBounds_toArray, List.set_cons_zero, List.set_cons_succ]
              refine wpAnyH_take (i := 3) (v := ?_) (by rw [List.getElem?_toArray]; exact rfl) (by kernel_rfl) (by kernel_rfl) (by kernel_rfl) (by exact fun _ _ _ h => h) (by refine Or.inl ⟨by rfl, fun w hSw => ?_⟩; (try dsimp only at hSw); go_simp; (try with_reducible rfl)) (by assumption) ?_
              try simp only [Act.put, List.setIfInBounds_toArray, List.set_cons_zero, List.set_cons_succ]
              refine wpAnyH_take (i := 4) (v := ?_) (by rw [List.getElem?_toArray]; exact rfl) (by kernel_rfl) (by kernel_rfl) (by kernel_rfl) (by exact fun _ _ _ h => h) (by refine Or.inl ⟨by rfl, fun w hSw => ?_⟩; (try dsimp only at hSw); go_simp; (try with_reducible rfl)) (by assumption) ?_
              try simp only [Act.put, List.setIfInBounds_toArray, List.set_cons_zero, List.set_cons_succ]
              refine wpAnyH_take (i := 5) (v := ?_) (by rw [List.getElem?_toArray]; exact rfl) (by kernel_rfl) (by kernel_rfl) (by kernel_rfl) (by exact fun _ _ _ h => h) (by refine Or.inl ⟨by rfl, fun w hSw => ?_⟩; (try dsimp only at hSw); go_simp; (try with_reducible rfl)) (by assumption) ?_
              try simp only [Act.put, List.setIfInBounds_toArray, List.set_cons_zero, List.set_cons_succ]
              refine wpAnyH_take (i := 6) (v := ?_) (by rw [List.getElem?_toArray]; exact rfl) (by kernel_rfl) (by kernel_rfl) (by kernel_rfl) (by exact fun _ _ _ h => h) (by refine Or.inl ⟨by rfl, fun w hSw => ?_⟩; (try dsimp only at hSw); go_simp; (try with_reducible rfl)) (by assumption) ?_
              try simp only [Act.put, List.setIfInBounds_toArray, List.set_cons_zero, List.set_cons_succ]
              refine wpAnyH_take (i := 7) (v := ?_) (by rw [List.getElem?_toArray]; exact rfl) (by kernel_rfl) (by kernel_rfl) (by kernel_rfl) (by exact fun _ _ _ h => h) (by refine Or.inl ⟨by rfl, fun w hSw => ?_⟩; (try dsimp only at hSw); go_simp; (try with_reducible rfl)) (by assumption) ?_
              try simp only [Act.put, List.setIfInBounds_toArray, List.set_cons_zero, List.set_cons_succ]
              refine wpAnyH_take (i := 8) (v := ?_) (by rw [List.getElem?_toArray]; exact rfl) (by kernel_rfl) (by kernel_rfl) (by kernel_rfl) (by exact fun _ _ _ h => h) (by refine Or.inl ⟨by rfl, fun w hSw => ?_⟩; (try dsimp only at hSw); go_simp; (try with_reducible rfl)) (by assumption) ?_
              try simp only [Act.put, List.setIfInBounds_toArray, List.set_cons_zero, List.set_cons_succ]
              refine wpAnyH_take (i := 9) (v := ?_) (by rw [List.getElem?_toArray]; exact rfl) (by kernel_rfl) (by kernel_rfl) (by kernel_rfl) (by exact fun _ _ _ h => h) (by refine Or.inl ⟨by rfl, fun w hSw => ?_⟩; (try dsimp only at hSw); go_simp; (try with_reducible rfl)) (by assumption) ?_
              try simp only [Act.put, List.setIfInBounds_toArray, List.set_cons_zero, List.set_cons_succ]
              refine wpAnyH_take (i := 10) (v := ?_) (by rw [List.getElem?_toArray]; exact rfl) (by kernel_rfl) (by kernel_rfl) (by kernel_rfl) (by exact fun _ _ _ h => h) (by refine Or.inl ⟨by rfl, fun w hSw => ?_⟩; (try dsimp only at hSw); go_simp; (try with_reducible rfl)) (by assumption) ?_
              try simp only [Act.put, List.setIfInBounds_toArray, List.set_cons_zero, List.set_cons_succ]
              refine wpAnyH_take (i := 11) (v := ?_) (by rw [List.getElem?_toArray]; exact rfl) (by kernel_rfl) (by kernel_rfl) (by kernel_rfl) (by exact fun _ _ _ h => h) (by refine Or.inl ⟨by rfl, fun w hSw => ?_⟩; (try dsimp only at hSw); go_simp; (try with_reducible rfl)) (by assumption) ?_
              try simp only [Act.put, List.setIfInBounds_toArray, List.set_cons_zero, List.set_cons_succ]
              refine wpAnyH_take (i := 12) (v := ?_) (by rw [List.getElem?_toArray]; exact rfl) (by kernel_rfl) (by kernel_rfl) (by kernel_rfl) (by exact fun _ _ _ h => h) (by refine Or.inl ⟨by rfl, fun w hSw => ?_⟩; (try dsimp only at hSw); go_simp; (try with_reducible rfl)) (by assumption) ?_
              try simp only [Act.put, List.setIfInBounds_toArray, List.set_cons_zero, List.set_cons_succ]
              refine wpAnyH_take (i := 13) (v := ?_) (by rw [List.getElem?_toArray]; exact rfl) (by kernel_rfl) (by kernel_rfl) (by kernel_rfl) (by exact fun _ _ _ h => h) (by refine Or.inl ⟨by rfl, fun w hSw => ?_⟩; (try dsimp only at hSw); go_simp; (try with_reducible rfl)) (by assumption) ?_
              try simp only [Act.put, List.setIfInBounds_toArray, List.set_cons_zero, List.set_cons_succ]
              refine wpAnyH_take (i := 14) (v := ?_) (by rw [List.getElem?_toArray]; exact rfl) (by kernel_rfl) (by kernel_rfl) (by kernel_rfl) (by exact fun _ _ _ h => h) (by refine Or.inl ⟨by rfl, fun w hSw => ?_⟩; (try dsimp only at hSw); go_simp; (try with_reducible rfl)) (by assumption) ?_
              try simp only [Act.put, List.setIfInBounds_toArray, List.set_cons_zero, List.set_cons_succ]
              refine wpAnyH_take (i := 15) (v := ?_) (by rw [List.getElem?_toArray]; exact rfl) (by kernel_rfl) (by kernel_rfl) (by kernel_rfl) (by exact fun _ _ _ h => h) (by refine Or.inl ⟨by rfl, fun w hSw => ?_⟩; (try dsimp only at hSw); go_simp; (try with_reducible rfl)) (by assumption) ?_
              try simp only [Act.put, List.setIfInBounds_toArray, List.set_cons_zero, List.set_cons_succ]
              refine wpAnyH_take (i := 16) (v := ?_) (by rw [List.getElem?_toArray]; exact rfl) (by kernel_rfl) (by kernel_rfl) (by kernel_rfl) (by exact fun _ _ _ h => h) (by refine Or.inl ⟨by rfl, fun w hSw => ?_⟩; (try dsimp only at hSw); go_simp; (try with_reducible rfl)) (by assumption) ?_
              try simp only [Act.put, List.setIfInBounds_toArray, List.set_cons_zero, List.set_cons_succ]
              refine wpAnyH_take (i := 17) (v := ?_) (by rw [List.getElem?_toArray]; exact rfl) (by kernel_rfl) (by kernel_rfl) (by kernel_rfl) (by exact fun _ _ _ h => h) (by refine Or.inl ⟨by rfl, fun w hSw => ?_⟩; (try dsimp only at hSw); go_simp; (try with_reducible rfl)) (by assumption) ?_
              try simp only [Act.put, List.setIfInBounds_toArray, List.set_cons_zero, List.set_cons_succ]
              refine wpAnyH_take (i := 18) (v := ?_) (by rw [List.getElem?_toArray]; exact rfl) (by kernel_rfl) (by kernel_rfl) (by kernel_rfl) (by exact fun _ _ _ h => h) (by refine Or.inl ⟨by rfl, fun w hSw => ?_⟩; (try dsimp only at hSw); go_simp; (try with_reducible rfl)) (by assumption) ?_
              try simp only [Act.put, List.setIfInBounds_toArray, List.set_cons_zero, List.set_cons_succ]
              refine wpAnyH_take (i := 19) (v := ?_) (by rw [List.getElem?_toArray]; exact rfl) (by kernel_rfl) (by kernel_rfl) (by kernel_rfl) (by exact fun _ _ _ h => h) (by refine Or.inl ⟨by rfl, fun w hSw => ?_⟩; (try dsimp only at hSw); go_simp; (try with_reducible rfl)) (by assumption) ?_
              try simp only [Act.put, List.setIfInBounds_toArray, List.set_cons_zero, List.set_cons_succ]
              refine wpAnyH_take (i := 20) (v := ?_) (by rw [List.getElem?_toArray]; exact rfl) (by kernel_rfl) (by kernel_rfl) (by kernel_rfl) (by exact fun _ _ _ h => h) (by refine Or.inl ⟨by rfl, fun w hSw => ?_⟩; (try dsimp only at hSw); go_simp; (try with_reducible rfl)) (by assumption) ?_
              try simp only [Act.put, List.setIfInBounds_toArray, List.set_cons_zero, List.set_cons_succ]
              refine wpAnyH_take (i := 21) (v := ?_) (by rw [List.getElem?_toArray]; exact rfl) (by kernel_rfl) (by kernel_rfl) (by kernel_rfl) (by exact fun _ _ _ h => h) (by refine Or.inl ⟨by rfl, fun w hSw => ?_⟩; (try dsimp only at hSw); go_simp; (try with_reducible rfl)) (by assumption) ?_
              try simp only [Act.put, List.setIfInBounds_toArray, List.set_cons_zero, List.set_cons_succ]
              refine wpAnyH_take (i := 22) (v := ?_) (by rw [List.getElem?_toArray]; exact rfl) (by kernel_rfl) (by kernel_rfl) (by kernel_rfl) (by exact fun _ _ _ h => h) (by refine Or.inl ⟨by rfl, fun w hSw => ?_⟩; (try dsimp only at hSw); go_simp; (try with_reducible rfl)) (by assumption) ?_
              try simp only [Act.put, List.setIfInBounds_toArray, List.set_cons_zero, List.set_cons_succ]
              refine wpAnyH_take (i := 23) (v := ?_) (by rw [List.getElem?_toArray]; exact rfl) (by kernel_rfl) (by kernel_rfl) (by kernel_rfl) (by exact fun _ _ _ h => h) (by refine Or.inl ⟨by rfl, fun w hSw => ?_⟩; (try dsimp only at hSw); go_simp; (try with_reducible rfl)) (by assumption) ?_
              try simp only [Act.put, List.setIfInBounds_toArray, List.set_cons_zero, List.set_cons_succ]
              refine wpAnyH_take (i := 24) (v := ?_) (by rw [List.getElem?_toArray]; exact rfl) (by kernel_rfl) (by kernel_rfl) (by kernel_rfl) (by exact fun _ _ _ h => h) (by refine Or.inl ⟨by rfl, fun w hSw => ?_⟩; (try dsimp only at hSw); go_simp; (try with_reducible rfl)) (by assumption) ?_
              try simp only [Act.put, List.setIfInBounds_toArray, List.set_cons_zero, List.set_cons_succ]
              refine wpAnyH_take (i := 25) (v := ?_) (by rw [List.getElem?_toArray]; exact rfl) (by kernel_rfl) (by kernel_rfl) (by kernel_rfl) (by exact fun _ _ _ h => h) (by refine Or.inl ⟨by rfl, fun w hSw => ?_⟩; (try dsimp only at hSw); go_simp; (try with_reducible rfl)) (by assumption) ?_
              try simp only [Act.put, List.setIfInBounds_toArray, List.set_cons_zero, List.set_cons_succ]
              refine wpAnyH_take (i := 26) (v := ?_) (by rw [List.getElem?_toArray]; exact rfl) (by kernel_rfl) (by kernel_rfl) (by kernel_rfl) (by exact fun _ _ _ h => h) (by refine Or.inl ⟨by rfl, fun w hSw => ?_⟩; (try dsimp only at hSw); go_simp; (try with_reducible rfl)) (by assumption) ?_
              try simp only [Act.put, List.setIfInBounds_toArray, List.set_cons_zero, List.set_cons_succ]
              refine wpAnyH_take (i := 27) (v := ?_) (by rw [List.getElem?_toArray]; exact rfl) (by kernel_rfl) (by kernel_rfl) (by kernel_rfl) (by exact fun _ _ _ h => h) (by refine Or.inl ⟨by rfl, fun w hSw => ?_⟩; (try dsimp only at hSw); go_simp; (try with_reducible rfl)) (by assumption) ?_
              try simp only [Act.put, List.setIfInBounds_toArray, List.set_cons_zero, List.set_cons_succ]
              refine wpAnyH_take (i := 28) (v := ?_) (by rw [List.getElem?_toArray]; exact rfl) (by kernel_rfl) (by kernel_rfl) (by kernel_rfl) (by exact fun _ _ _ h => h) (by refine Or.inl ⟨by rfl, fun w hSw => ?_⟩; (try dsimp only at hSw); go_simp; (try with_reducible rfl)) (by assumption) ?_
              try simp only [Act.put, List.setIfInBounds_toArray, List.set_cons_zero, List.set_cons_succ]
              refine wpAnyH_take (i := 29) (v := ?_) (by rw [List.getElem?_toArray]; exact rfl) (by kernel_rfl) (by kernel_rfl) (by kernel_rfl) (by exact fun _ _ _ h => h) (by refine Or.inl ⟨by rfl, fun w hSw => ?_⟩; (try dsimp only at hSw); go_simp; (try with_reducible rfl)) (by assumption) ?_
              try simp only [Act.put, List.setIfInBounds_toArray, List.set_cons_zero, List.set_cons_succ]
              refine wpAnyH_take (i := 30) (v := ?_) (by rw [List.getElem?_toArray]; exact rfl) (by kernel_rfl) (by kernel_rfl) (by kernel_rfl) (by exact fun _ _ _ h => h) (by refine Or.inl ⟨by rfl, fun w hSw => ?_⟩; (try dsimp only at hSw); go_simp; (try with_reducible rfl)) (by assumption) ?_
              try simp only [Act.put, List.setIfInBounds_toArray, List.set_cons_zero, List.set_cons_succ]
              refine wpAnyH_take (i := 31) (v := ?_) (by rw [List.getElem?_toArray]; exact rfl) (by kernel_rfl) (by kernel_rfl) (by kernel_rfl) (by exact fun _ _ _ h => h) (by refine Or.inl ⟨by rfl, fun w hSw => ?_⟩; (try dsimp only at hSw); go_simp; (try with_reducible rfl)) (by assumption) ?_
              try simp only [Act.put, List.setIfInBounds_toArray, List.set_cons_zero, List.set_cons_succ]
              refine wpAnyH_take (i := 32) (v := ?_) (by rw [List.getElem?_toArray]; exact rfl) (by kernel_rfl) (by kernel_rfl) (by kernel_rfl) (by exact fun _ _ _ h => h) (by refine Or.inl ⟨by rfl, fun w hSw => ?_⟩; (try dsimp only at hSw); go_simp; (try with_reducible rfl)) (by assumption) ?_
              try simp only [Act.put, List.setIfInBounds_toArray, List.set_cons_zero, List.set_cons_succ]
              refine wpAnyH_take (i := 33) (v := ?_) (by rw [List.getElem?_toArray]; exact rfl) (by kernel_rfl) (by kernel_rfl) (by kernel_rfl) (by exact fun _ _ _ h => h) (by refine Or.inl ⟨by rfl, fun w hSw => ?_⟩; (try dsimp only at hSw); go_simp; (try with_reducible rfl)) (by assumption) ?_
              try simp only [Act.put, List.setIfInBounds_toArray, List.set_cons_zero, List.set_cons_succ]
              refine wpAnyH_take (i := 34) (v := ?_) (by rw [List.getElem?_toArray]; exact rfl) (by kernel_rfl) (by kernel_rfl) (by kernel_rfl) (by exact fun _ _ _ h => h) (by refine Or.inl ⟨by rfl, fun w hSw => ?_⟩; (try dsimp only at hSw); go_simp; (try with_reducible rfl)) (by assumption) ?_
              try simp only [Act.put, List.setIfInBounds_toArray, List.set_cons_zero, List.set_cons_succ]
              refine wpAnyH_take (i := 35) (v := ?_) (by rw [List.getElem?_toArray]; exact rfl) (by kernel_rfl) (by kernel_rfl) (by kernel_rfl) (by exact fun _ _ _ h => h) (by refine Or.inl ⟨by rfl, fun w hSw => ?_⟩; (try dsimp only at hSw); go_simp; (try with_reducible rfl)) (by assumption) ?_
              try simp only [Act.put, List.setIfInBounds_toArray, List.set_cons_zero, List.set_cons_succ]
              refine wpAnyH_take (i := 36) (v := ?_) (by rw [List.getElem?_toArray]; exact rfl) (by kernel_rfl) (by kernel_rfl) (by kernel_rfl) (by exact fun _ _ _ h => h) (by refine Or.inl ⟨by rfl, fun w hSw => ?_⟩; (try dsimp only at hSw); go_simp; (try with_reducible rfl)) (by assumption) ?_
              try simp only [Act.put, List.setIfInBounds_toArray, List.set_cons_zero, List.set_cons_succ]
              refine wpAnyH_take (i := 37) (v := ?_) (by rw [List.getElem?_toArray]; exact rfl) (by kernel_rfl) (by kernel_rfl) (by kernel_rfl) (by exact fun _ _ _ h => h) (by refine Or.inl ⟨by rfl, fun w hSw => ?_⟩; (try dsimp only at hSw); go_simp; (try with_reducible rfl)) (by assumption) ?_
              try simp only [Act.put, List.setIfInBounds_toArray, List.set_cons_zero, List.set_cons_succ]
              refine wpAnyH_take (i := 38) (v := ?_) (by rw [List.getElem?_toArray]; exact rfl) (by kernel_rfl) (by kernel_rfl) (by kernel_rfl) (by exact fun _ _ _ h => h) (by refine Or.inl ⟨by rfl, fun w hSw => ?_⟩; (try dsimp only at hSw); go_simp; (try with_reducible rfl)) (by assumption) ?_
              try simp only [Act.put, List.setIfInBounds_toArray, List.set_cons_zero, List.set_cons_succ]
              refine wpAnyH_take (i := 39) (v := ?_) (by rw [List.getElem?_toArray]; exact rfl) (by kernel_rfl) (by kernel_rfl) (by kernel_rfl) (by exact fun _ _ _ h => h) (by refine Or.inl ⟨by rfl, fun w hSw => ?_⟩; (try dsimp only at hSw); go_simp; (try with_reducible rfl)) (by assumption) ?_
              try simp only [Act.put, List.setIfInBounds_toArray, List.set_cons_zero, List.set_cons_succ]
              refine wpAnyH_take (i := 40) (v := .slice (some ⟨bn, on + j * 4, none⟩) 1 (c1 - j)) (by rw [List.getElem?_toArray]; exact rfl) (by kernel_rfl) (by kernel_rfl) (by kernel_rfl) (by exact fun _ _ _ h => h) (by refine Or.inl ⟨by rfl, fun w hSw => ?_⟩; (try dsimp only at hSw); go_simp) (by assumption) ?_
              try simp only [Act.put, List.setIfInBounds_toArray, List.set_cons_zero, List.set_cons_succ]
              refine wpAnyH_ready (rs := [41]) (by kernel_rfl) (by simp) ?_
              refine AllReadyH.cons (by rw [List.getElem?_toArray]; exact rfl) (fun K hK => ?_) AllReadyH.nil
              go_simp
              refine (l4Empty_any _).mono ?_
              rintro e W1 ⟨rfl, b1d⟩
              have b1 := below_drawn b1d
              have k_1 : W1.cell? ⟨g, 1, none⟩ = some (.slice (some ⟨bn, on, none⟩) n1 c1) ∧ W1.cell? ⟨g, 2, none⟩ = some (.slice (some ⟨b, o, none⟩) n2 c2) ∧ W1.cell? ⟨b, o + (m + 1), none⟩ = some (.int .i64 (j : Int)) ∧ W1.cell? ⟨b, o + m, none⟩ = some (.int .i64 y) := ⟨(b1.cell (p := ⟨g, 1, none⟩) kg).trans k_0.1, (b1.cell (p := ⟨g, 2, none⟩) kg).trans k_0.2.1, (b1.cell (p := ⟨b, o + (m + 1), none⟩) kb).trans k_0.2.2.1, (b1.cell (p := ⟨b, o + m, none⟩) kb).trans k_0.2.2.2⟩
              have kg1 : g < W1.heap.size := Nat.lt_of_lt_of_le kg b1.size
              have kb1 : b < W1.heap.size := Nat.lt_of_lt_of_le kb b1.size
              have b1a := below_alloc W1 (.cells #[.int .i64 0, .int .i64 0, .int .i64 (-1), .slice none 0 0] 30)
              have k_2 : (W1.alloc (.cells #[.int .i64 0, .int .i64 0, .int .i64 (-1), .slice none 0 0] 30)).cell? ⟨g, 1, none⟩ = some (.slice (some ⟨bn, on, none⟩) n1 c1) ∧ (W1.alloc (.cells #[.int .i64 0, .int .i64 0, .int .i64 (-1), .slice none 0 0] 30)).cell? ⟨g, 2, none⟩ = some (.slice (some ⟨b, o, none⟩) n2 c2) ∧ (W1.alloc (.cells #[.int .i64 0, .int .i64 0, .int .i64 (-1), .slice none 0 0] 30)).cell? ⟨b, o + (m + 1), none⟩ = some (.int .i64 (j : Int)) ∧ (W1.alloc (.cells #[.int .i64 0, .int .i64 0, .int .i64 (-1), .slice none 0 0] 30)).cell? ⟨b, o + m, none⟩ = some (.int .i64 y) := ⟨(b1a.cell (p := ⟨g, 1, none⟩) kg1).trans k_1.1, (b1a.cell (p := ⟨g, 2, none⟩) kg1).trans k_1.2.1, (b1a.cell (p := ⟨b, o + (m + 1), none⟩) kb1).trans k_1.2.2.1, (b1a.cell (p := ⟨b, o + m, none⟩) kb1).trans k_1.2.2.2⟩
              clear b1d
              dsimp only
              refine hK.out _ _ k_1 (fun hHeld => ?_)
              clear hK K
              try simp only [Act.put, List.setIfInBounds_toArray, List.set_cons_zero, List.set_cons_succ]
              refine wpAnyH_ready (rs := [42]) (by kernel_rfl) (by simp) ?_
              refine AllReadyH.cons (by rw [List.getElem?_toArray]; exact rfl) (fun K hK => ?_) AllReadyH.nil
              go_simp
              refine hK.out _ _ k_2 (fun hHeld => ?_)
              clear hK K
              try simp only [Act.put, List.setIfInBounds_toArray, List.set_cons_zero, List.set_cons_succ]
              refine wpAnyH_ready (rs := [43]) (by kernel_rfl) (by simp) ?_
              refine AllReadyH.cons (by rw [List.getElem?_toArray]; exact rfl) (fun K hK => ?_) AllReadyH.nil
              go_simp
              refine (specSameNodes_any 1 1 _ _ _ _ [⟨lv, ns', rt, X1, k1, e1, es⟩] [vacNV] _ (((HP.out.N.kept (hB.out.trans (b1.mono hB.out.size))).kept (below_alloc _ _)).sub hx.out) (vac_nodes _) (by decide) (by decide)).mono ?_
              rintro e W2 ⟨rfl, b2⟩
              rw [HS.out]
              have b2' := b1a.trans (b2.mono b1a.size)
              have k_3 : W2.cell? ⟨g, 1, none⟩ = some (.slice (some ⟨bn, on, none⟩) n1 c1) ∧ W2.cell? ⟨g, 2, none⟩ = some (.slice (some ⟨b, o, none⟩) n2 c2) ∧ W2.cell? ⟨b, o + (m + 1), none⟩ = some (.int .i64 (j : Int)) ∧ W2.cell? ⟨b, o + m, none⟩ = some (.int .i64 y) := ⟨(b2'.cell (p := ⟨g, 1, none⟩) kg1).trans k_1.1, (b2'.cell (p := ⟨g, 2, none⟩) kg1).trans k_1.2.1, (b2'.cell (p := ⟨b, o + (m + 1), none⟩) kb1).trans k_1.2.2.1, (b2'.cell (p := ⟨b, o + m, none⟩) kb1).trans k_1.2.2.2⟩
              clear b2
              dsimp only
              refine hK.out _ _ k_3 (fun hHeld => ?_)
              clear hK K
              try simp only [Act.put, List.setIfInBounds_toArray, List.set_cons_zero, List.set_cons_succ]
              refine wpAnyH_take (i := 44) (v := ?_) (by rw [List.getElem?_toArray]; exact rfl) (by kernel_rfl) (by kernel_rfl) (by kernel_rfl) (by exact fun _ _ _ h => h) (by refine Or.inl ⟨by rfl, fun w hSw => ?_⟩; (try dsimp only at hSw); go_simp; (try with_reducible rfl)) (by assumption) ?_
              try simp only [Act.put, List.setIfInBounds_toArray, List.set_cons_zero, List.set_cons_succ]
              refine wpAnyH_take (i := 45) (v := ?_) (by rw [List.getElem?_toArray]; exact rfl) (by kernel_rfl) (by kernel_rfl) (by kernel_rfl) (by exact fun _ _ _ h => h) (by refine Or.inl ⟨by rfl, fun w hSw => ?_⟩; (try dsimp only at hSw); go_simp; (try with_reducible rfl)) (by assumption) ?_
              try simp only [Act.put, List.setIfInBounds_toArray, List.set_cons_zero, List.set_cons_succ]
              refine wpAnyH_done (by kernel_rfl) ?_ _
              clear k_0 k_1 k_2 k_3 b1a
              have hB' := Lib.hid (hB.out.trans ((b1.trans (b2'.mono b1.size)).mono hB.out.size))
              clear hB b1 b2'
              go_wp2
              go_ret
              exact ⟨ret_i64 HF.out.symm, hB'.out⟩
            · have HS : Hid (sameL NV.val [⟨lv, ns', rt, X1, k1, e1, es⟩] [vacNV] = true) := by show sameL _ _ _ = _; rw [HS0.out]; exact hv
              have hV' := Lib.hid (upto_next (P := fun x => vacAt (ns.map NV.val) x = true) hV.out hf.out (by rw [HV1.out]; exact hv))
              have hA' : Hid (∀ (j : Nat) (p q : Int), j + 1 < m + 1 + 1 → fs[j]? = some p → fs[j + 1]? = some q → p < q) := by
                intro i p' q' hi hp' hq'
                rcases Nat.lt_or_ge (i + 1) (m + 1) with h | h
                · exact hA.out i p' q' h hp' hq'
                · have : i = m := by omega
                  subst this; rw [hy.out] at hp'; rw [hf.out] at hq'; injection hp' with hp'; injection hq' with hq'; subst hp' hq'; omega
              clear hv HV1 HS0 hV hA
              go_wp2_with fail
              refine wp_region_held_drew (S := fun w' => w'.cell? ⟨g, 1, none⟩ = some (.slice (some ⟨bn, on, none⟩) n1 c1) ∧ w'.cell? ⟨g, 2, none⟩ = some (.slice (some ⟨b, o, none⟩) n2 c2) ∧ w'.cell? ⟨b, o + (m + 1), none⟩ = some (.int .i64 (j : Int)) ∧ w'.cell? ⟨b, o + m, none⟩ = some (.int .i64 y)) (by kernel_rfl) k_0 (fun hHeld => ?_)
              refine wpAnyH_take (i := 0) (v := ?_) (by rw [List.getElem?_toArray]; exact rfl) (by kernel_rfl) (by kernel_rfl) (by kernel_rfl) (by exact fun _ _ _ h => h) (by refine Or.inl ⟨by rfl, fun w hSw => ?_⟩; (try dsimp only at hSw); go_simp; (try with_reducible rfl)) (by assumption) ?_
              try simp only [Act.put, List.setIfInBounds_toArray, List.set_cons_zero, List.set_cons_succ]
              refine wpAnyH_take (i := 1) (v := ?_) (by rw [List.getElem?_toArray]; exact rfl) (by kernel_rfl) (by kernel_rfl) (by kernel_rfl) (by exact fun _ _ _ h => h) (by refine Or.inl ⟨by rfl, fun w hSw => ?_⟩; (try dsimp only at hSw); go_simp; (try with_reducible rfl)) (by assumption) ?_
              try simp only [Act.put, List.setIfInBounds_toArray, List.set_cons_zero, List.set_cons_succ]
              refine wpAnyH_take (i := 2) (v := ?_) (by rw [List.getElem?_toArray]; exact rfl) (by kernel_rfl) (by kernel_rfl) (by kernel_rfl) (by exact fun _ _ _ h => h) (by refine Or.inl ⟨by rfl, fun w hSw => ?_⟩; (try dsimp only at hSw); go_simp; (try with_reducible rfl)) (by assumption) ?_
              try simp only [Act.put, List.setIfInBounds_toArray, List.set_cons_zero, List.set_cons_succ]
              refine wpAnyH_take (i := 3) (v := ?_) (by rw [List.getElem?_toArray]; exact rfl) (by kernel_rfl) (by kernel_rfl) (by kernel_rfl) (by exact fun _ _ _ h => h) (by refine Or.inl ⟨by rfl, fun w hSw => ?_⟩; (try dsimp only at hSw); go_simp; (try with_reducible rfl)) (by assumption) ?_
              try simp only [Act.put, List.setIfInBounds_toArray, List.set_cons_zero, List.set_cons_succ]
              refine wpAnyH_take (i := 4) (v := ?_) (by rw [List.getElem?_toArray]; exact rfl) (by kernel_rfl) (by kernel_rfl) (by kernel_rfl) (by exact fun _ _ _ h => h) (by refine Or.inl ⟨by rfl, fun w hSw => ?_⟩; (try dsimp only at hSw); go_simp; (try with_reducible rfl)) (by assumption) ?_
              try simp only [Act.put, List.setIfInBounds_toArray, List.set_cons_zero, List.set_cons_succ]
              refine wpAnyH_take (i := 5) (v := ?_) (by rw [List.getElem?_toArray]; exact rfl) (by kernel_rfl) (by kernel_rfl) (by kernel_rfl) (by exact fun _ _ _ h => h) (by refine Or.inl ⟨by rfl, fun w hSw => ?_⟩; (try dsimp only at hSw); go_simp; (try with_reducible rfl)) (by assumption) ?_
              try simp only [Act.put, List.setIfInBounds_toArray, List.set_cons_zero, List.set_cons_succ]
              refine wpAnyH_take (i := 6) (v := ?_) (by rw [List.getElem?_toArray]; exact rfl) (by kernel_rfl) (by kernel_rfl) (by kernel_rfl) (by exact fun _ _ _ h => h) (by refine Or.inl ⟨by rfl, fun w hSw => ?_⟩; (try dsimp only at hSw); go_simp; (try with_reducible rfl)) (by assumption) ?_
              try simp only [Act.put, List.setIfInBounds_toArray, List.set_cons_zero, List.set_cons_succ]
              refine wpAnyH_take (i := 7) (v := ?_) (by rw [List.getElem?_toArray]; exact rfl) (by kernel_rfl) (by kernel_rfl) (by kernel_rfl) (by exact fun _ _ _ h => h) (by refine Or.inl ⟨by rfl, fun w hSw => ?_⟩; (try dsimp only at hSw); go_simp; (try with_reducible rfl)) (by assumption) ?_
              try simp only [Act.put, List.setIfInBounds_toArray, List.set_cons_zero, List.set_cons_succ]
              refine wpAnyH_take (i := 8) (v := ?_) (by rw [List.getElem?_toArray]; exact rfl) (by kernel_rfl) (by kernel_rfl) (by kernel_rfl) (by exact fun _ _ _ h => h) (by refine Or.inl ⟨by rfl, fun w hSw => ?_⟩; (try dsimp only at hSw); go_simp; (try with_reducible rfl)) (by assumption) ?_
              try simp only [Act.put, List.setIfInBounds_toArray, List.set_cons_zero, List.set_cons_succ]
              refine wpAnyH_take (i := 9) (v := ?_) (by rw [List.getElem?_toArray]; exact rfl) (by kernel_rfl) (by kernel_rfl) (by kernel_rfl) (by exact fun _ _ _ h => h) (by refine Or.inl ⟨by rfl, fun w hSw => ?_⟩; (try dsimp only at hSw); go_simp; (try with_reducible rfl)) (by assumption) ?_
              try simp only [Act.put, List.setIfInBounds_toArray, List.set_cons_zero, List.set_cons_succ]
              refine wpAnyH_take (i := 10) (v := ?_) (by rw [List.getElem?_toArray]; exact rfl) (by kernel_rfl) (by kernel_rfl) (by kernel_rfl) (by exact fun _ _ _ h => h) (by refine Or.inl ⟨by rfl, fun w hSw => ?_⟩; (try dsimp only at hSw); go_simp; (try with_reducible rfl)) (by assumption) ?_
              try simp only [Act.put, List.setIfInBounds_toArray, List.set_cons_zero, List.set_cons_succ]
              refine wpAnyH_take (i := 11) (v := ?_) (by rw [List.getElem?_toArray]; exact rfl) (by kernel_rfl) (by kernel_rfl) (by kernel_rfl) (by exact fun _ _ _ h => h) (by refine Or.inl ⟨by rfl, fun w hSw => ?_⟩; (try dsimp only at hSw); go_simp; (try with_reducible rfl)) (by assumption) ?_
              try simp only [Act.put, List.setIfInBounds_toArray, List.set_cons_zero, List.set_cons_succ]
              refine wpAnyH_take (i := 12) (v := ?_) (by rw [List.getElem?_toArray]; exact rfl) (by kernel_rfl) (by kernel_rfl) (by kernel_rfl) (by exact fun _ _ _ h => h) (by refine Or.inl ⟨by rfl, fun w hSw => ?_⟩; (try dsimp only at hSw); go_simp; (try with_reducible rfl)) (by assumption) ?_
              try simp only [Act.put, List.setIfInBounds_toArray, List.set_cons_zero, List.set_cons_succ]
              refine wpAnyH_take (i := 13) (v := ?_) (by rw [List.getElem?_toArray]; exact rfl) (by kernel_rfl) (by kernel_rfl) (by kernel_rfl) (by exact fun _ _ _ h => h) (by refine Or.inl ⟨by rfl, fun w hSw => ?_⟩; (try dsimp only at hSw); go_simp; (try with_reducible rfl)) (by assumption) ?_
              try simp only [Act.put, List.setIfInBounds_toArray, List.set_cons_zero, List.set_cons_succ]
              refine wpAnyH_take (i := 14) (v := ?_) (by rw [List.getElem?_toArray]; exact rfl) (by kernel_rfl) (by kernel_rfl) (by kernel_rfl) (by exact fun _ _ _ h => h) (by refine Or.inl ⟨by rfl, fun w hSw => ?_⟩; (try dsimp only at hSw); go_simp; (try with_reducible rfl)) (by assumption) ?_
              try simp only [Act.put, List.setIfInBounds_toArray, List.set_cons_zero, List.set_cons_succ]
              refine wpAnyH_take (i := 15) (v := ?_) (by rw [List.getElem?_toArray]; exact rfl) (by kernel_rfl) (by kernel_rfl) (by kernel_rfl) (by exact fun _ _ _ h => h) (by refine Or.inl ⟨by rfl, fun w hSw => ?_⟩; (try dsimp only at hSw); go_simp; (try with_reducible rfl)) (by assumption) ?_
              try simp only [Act.put, List.setIfInBounds_toArray, List.set_cons_zero, List.set_cons_succ]
              refine wpAnyH_take (i := 16) (v := ?_) (by rw [List.getElem?_toArray]; exact rfl) (by kernel_rfl) (by kernel_rfl) (by kernel_rfl) (by exact fun _ _ _ h => h) (by refine Or.inl ⟨by rfl, fun w hSw => ?_⟩; (try dsimp only at hSw); go_simp; (try with_reducible rfl)) (by assumption) ?_
              try simp only [Act.put, List.setIfInBounds_toArray, List.set_cons_zero, List.set_cons_succ]
              refine wpAnyH_take (i := 17) (v := ?_) (by rw [List.getElem?_toArray]; exact rfl) (by kernel_rfl) (by kernel_rfl) (by kernel_rfl) (by exact fun _ _ _ h => h) (by refine Or.inl ⟨by rfl, fun w hSw => ?_⟩; (try dsimp only at hSw); go_simp; (try with_reducible rfl)) (by assumption) ?_
              try simp only [Act.put, List.setIfInBounds_toArray, List.set_cons_zero, List.set_cons_succ]
              refine wpAnyH_take (i := 18) (v := ?_) (by rw [List.getElem?_toArray]; exact rfl) (by kernel_rfl) (by kernel_rfl) (by kernel_rfl) (by exact fun _ _ _ h => h) (by refine Or.inl ⟨by rfl, fun w hSw => ?_⟩; (try dsimp only at hSw); go_simp; (try with_reducible rfl)) (by assumption) ?_
              try simp only [Act.put, List.setIfInBounds_toArray, List.set_cons_zero, List.set_cons_succ]
              refine wpAnyH_take (i := 19) (v := ?_) (by rw [List.getElem?_toArray]; exact rfl) (by kernel_rfl) (by kernel_rfl) (by kernel_rfl) (by exact fun _ _ _ h => h) (by refine Or.inl ⟨by rfl, fun w hSw => ?_⟩; (try dsimp only at hSw); go_simp; (try with_reducible rfl)) (by assumption) ?_
              try simp only [Act.put, List.setIfInBounds_toArray, List.set_cons_zero, List.set_cons_succ]
              refine wpAnyH_take (i := 20) (v := ?_) (by rw [List.getElem?_toArray]; exact rfl) (by kernel_rfl) (by kernel_rfl) (by kernel_rfl) (by exact fun _ _ _ h => h) (by refine Or.inl ⟨by rfl, fun w hSw => ?_⟩; (try dsimp only at hSw); go_simp; (try with_reducible rfl)) (by assumption) ?_
              try simp only [Act.put, List.setIfInBounds_toArray, List.set_cons_zero, List.set_cons_succ]
              refine wpAnyH_take (i := 21) (v := ?_) (by rw [List.getElem?_toArray]; exact rfl) (by kernel_rfl) (by kernel_rfl) (by kernel_rfl) (by exact fun _ _ _ h => h) (by refine Or.inl ⟨by rfl, fun w hSw => ?_⟩; (try dsimp only at hSw); go_simp; (try with_reducible rfl)) (by assumption) ?_
              try simp only [Act.put, List.setIfInBounds_toArray, List.set_cons_zero, List.set_cons_succ]
              refine wpAnyH_take (i := 22) (v := ?_) (by rw [List.getElem?_toArray]; exact rfl) (by kernel_rfl) (by kernel_rfl) (by kernel_rfl) (by exact fun _ _ _ h => h) (by refine Or.inl ⟨by rfl, fun w hSw => ?_⟩; (try dsimp only at hSw); go_simp; (try with_reducible rfl)) (by assumption) ?_
              try simp only [Act.put, List.setIfInBounds_toArray, List.set_cons_zero, List.set_cons_succ]
              refine wpAnyH_take (i := 23) (v := ?_) (by rw [List.getElem?_toArray]; exact rfl) (by kernel_rfl) (by kernel_rfl) (by kernel_rfl) (by exact fun _ _ _ h => h) (by refine Or.inl ⟨by rfl, fun w hSw => ?_⟩; (try dsimp only at hSw); go_simp; (try with_reducible rfl)) (by assumption) ?_
              try simp only [Act.put, List.setIfInBounds_toArray, List.set_cons_zero, List.set_cons_succ]
              refine wpAnyH_take (i := 24) (v := ?_) (by rw [List.getElem?_toArray]; exact rfl) (by kernel_rfl) (by kernel_rfl) (by kernel_rfl) (by exact fun _ _ _ h => h) (by refine Or.inl ⟨by rfl, fun w hSw => ?_⟩; (try dsimp only at hSw); go_simp; (try with_reducible rfl)) (by assumption) ?_
              try simp only [Act.put, List.setIfInBounds_toArray, List.set_cons_zero, List.set_cons_succ]
              refine wpAnyH_take (i := 25) (v := ?_) (by rw [List.getElem?_toArray]; exact rfl) (by kernel_rfl) (by kernel_rfl) (by kernel_rfl) (by exact fun _ _ _ h => h) (by refine Or.inl ⟨by rfl, fun w hSw => ?_⟩; (try dsimp only at hSw); go_simp; (try with_reducible rfl)) (by assumption) ?_
              try simp only [Act.put, List.setIfInBounds_toArray, List.set_cons_zero, List.set_cons_succ]
              refine wpAnyH_take (i := 26) (v := ?_) (by rw [List.getElem?_toArray]; exact rfl) (by kernel_rfl) (by kernel_rfl) (by kernel_rfl) (by exact fun _ _ _ h => h) (by refine Or.inl ⟨by rfl, fun w hSw => ?_⟩; (try dsimp only at hSw); go_simp; (try with_reducible rfl)) (by assumption) ?_
              try simp only [Act.put, List.setIfInBounds_toArray, List.set_cons_zero, List.set_cons_succ]
              refine wpAnyH_take (i := 27) (v := ?_) (by rw [List.getElem?_toArray]; exact rfl) (by kernel_rfl) (by kernel_rfl) (by kernel_rfl) (by exact fun _ _ _ h => h) (by refine Or.inl ⟨by rfl, fun w hSw => ?_⟩; (try dsimp only at hSw); go_simp; (try with_reducible rfl)) (by assumption) ?_
              try simp only [Act.put, List.setIfInBounds_toArray, List.set_cons_zero, List.set_cons_succ]
              refine wpAnyH_take (i := 28) (v := ?_) (by rw [List.getElem?_toArray]; exact rfl) (by kernel_rfl) (by kernel_rfl) (by kernel_rfl) (by exact fun _ _ _ h => h) (by refine Or.inl ⟨by rfl, fun w hSw => ?_⟩; (try dsimp only at hSw); go_simp; (try with_reducible rfl)) (by assumption) ?_
              try simp only [Act.put, List.setIfInBounds_toArray, List.set_cons_zero, List.set_cons_succ]
              refine wpAnyH_take (i := 29) (v := ?_) (by rw [List.getElem?_toArray]; exact rfl) (by kernel_rfl) (by kernel_rfl) (by kernel_rfl) (by exact fun _ _ _ h => h) (by refine Or.inl ⟨by rfl, fun w hSw => ?_⟩; (try dsimp only at hSw); go_simp; (try with_reducible rfl)) (by assumption) ?_
              try simp only [Act.put, List.setIfInBounds_toArray, List.set_cons_zero, List.set_cons_succ]
              refine wpAnyH_take (i := 30) (v := ?_) (by rw [List.getElem?_toArray]; exact rfl) (by kernel_rfl) (by kernel_rfl) (by kernel_rfl) (by exact fun _ _ _ h => h) (by refine Or.inl ⟨by rfl, fun w hSw => ?_⟩; (try dsimp only at hSw); go_simp; (try with_reducible rfl)) (by assumption) ?_
              try simp only [Act.put, List.setIfInBounds_toArray, List.set_cons_zero, List.set_cons_succ]
              refine wpAnyH_take (i := 31) (v := ?_) (by rw [List.getElem?_toArray]; exact rfl) (by kernel_rfl) (by kernel_rfl) (by kernel_rfl) (by exact fun _ _ _ h => h) (by refine Or.inl ⟨by rfl, fun w hSw => ?_⟩; (try dsimp only at hSw); go_simp; (try with_reducible rfl)) (by assumption) ?_
              try simp only [Act.put, List.setIfInBounds_toArray, List.set_cons_zero, List.set_cons_succ]
              refine wpAnyH_take (i := 32) (v := ?_) (by rw [List.getElem?_toArray]; exact rfl) (by kernel_rfl) (by kernel_rfl) (by kernel_rfl) (by exact fun _ _ _ h => h) (by refine Or.inl ⟨by rfl, fun w hSw => ?_⟩; (try dsimp only at hSw); go_simp; (try with_reducible rfl)) (by assumption) ?_
              try simp only [Act.put, List.setIfInBounds_toArray, List.set_cons_zero, List.set_cons_succ]
              refine wpAnyH_take (i := 33) (v := ?_) (by rw [List.getElem?_toArray]; exact rfl) (by kernel_rfl) (by kernel_rfl) (by kernel_rfl) (by exact fun _ _ _ h => h) (by refine Or.inl ⟨by rfl, fun w hSw => ?_⟩; (try dsimp only at hSw); go_simp; (try with_reducible rfl)) (by assumption) ?_
              try simp only [Act.put, List.setIfInBounds_toArray, List.set_cons_zero, List.set_cons_succ]
              refine wpAnyH_take (i := 34) (v := ?_) (by rw [List.getElem?_toArray]; exact rfl) (by kernel_rfl) (by kernel_rfl) (by kernel_rfl) (by exact fun _ _ _ h => h) (by refine Or.inl ⟨by rfl, fun w hSw => ?_⟩; (try dsimp only at hSw); go_simp; (try with_reducible rfl)) (by assumption) ?_
              try simp only [Act.put, List.setIfInBounds_toArray, List.set_cons_zero, List.set_cons_succ]
              refine wpAnyH_take (i := 35) (v := ?_) (by rw [List.getElem?_toArray]; exact rfl) (by kernel_rfl) (by kernel_rfl) (by kernel_rfl) (by exact fun _ _ _ h => h) (by refine Or.inl ⟨by rfl, fun w hSw => ?_⟩; (try dsimp only at hSw); go_simp; (try with_reducible rfl)) (by assumption) ?_
              try simp only [Act.put, List.setIfInBounds_toArray, List.set_cons_zero, List.set_cons_succ]
              refine wpAnyH_take (i := 36) (v := ?_) (by rw [List.getElem?_toArray]; exact rfl) (by kernel_rfl) (by kernel_rfl) (by kernel_rfl) (by exact fun _ _ _ h => h) (by refine Or.inl ⟨by rfl, fun w hSw => ?_⟩; (try dsimp only at hSw); go_simp; (try with_reducible rfl)) (by assumption) ?_
              try simp only [Act.put, List.setIfInBounds_toArray, List.set_cons_zero, List.set_cons_succ]
              refine wpAnyH_take (i := 37) (v := ?_) (by rw [List.getElem?_toArray]; exact rfl) (by kernel_rfl) (by kernel_rfl) (by kernel_rfl) (by exact fun _ _ _ h => h) (by refine Or.inl ⟨by rfl, fun w hSw => ?_⟩; (try dsimp only at hSw); go_simp; (try with_reducible rfl)) (by assumption) ?_
              try simp only [Act.put, List.setIfInBounds_toArray, List.set_cons_zero, List.set_cons_succ]
              refine wpAnyH_take (i := 38) (v := ?_) (by rw [List.getElem?_toArray]; exact rfl) (by kernel_rfl) (by kernel_rfl) (by kernel_rfl) (by exact fun _ _ _ h => h) (by refine Or.inl ⟨by rfl, fun w hSw => ?_⟩; (try dsimp only at hSw); go_simp; (try with_reducible rfl)) (by assumption) ?_
              try simp only [Act.put, List.setIfInBounds_toArray, List.set_cons_zero, List.set_cons_succ]
              refine wpAnyH_take (i := 39) (v := ?_) (by rw [List.getElem?_toArray]; exact rfl) (by kernel_rfl) (by kernel_rfl) (by kernel_rfl) (by exact fun _ _ _ h => h) (by refine Or.inl ⟨by rfl, fun w hSw => ?_⟩; (try dsimp only at hSw); go_simp; (try with_reducible rfl)) (by assumption) ?_
              try simp only [Act.put, List.setIfInBounds_toArray, List.set_cons_zero, List.set_cons_succ]
              refine wpAnyH_take (i := 40) (v := .slice (some ⟨bn, on + j * 4, none⟩) 1 (c1 - j)) (by rw [List.getElem?_toArray]; exact rfl) (by kernel_rfl) (by kernel_rfl) (by kernel_rfl) (by exact fun _ _ _ h => h) (by refine Or.inl ⟨by rfl, fun w hSw => ?_⟩; (try dsimp only at hSw); go_simp) (by assumption) ?_
              try simp only [Act.put, List.setIfInBounds_toArray, List.set_cons_zero, List.set_cons_succ]
              refine wpAnyH_ready (rs := [41]) (by kernel_rfl) (by simp) ?_
              refine AllReadyH.cons (by rw [List.getElem?_toArray]; exact rfl) (fun K hK => ?_) AllReadyH.nil
              go_simp
              refine (l4Empty_any _).mono ?_
              rintro e W1 ⟨rfl, b1d⟩
              have b1 := below_drawn b1d
              have k_1 : W1.cell? ⟨g, 1, none⟩ = some (.slice (some ⟨bn, on, none⟩) n1 c1) ∧ W1.cell? ⟨g, 2, none⟩ = some (.slice (some ⟨b, o, none⟩) n2 c2) ∧ W1.cell? ⟨b, o + (m + 1), none⟩ = some (.int .i64 (j : Int)) ∧ W1.cell? ⟨b, o + m, none⟩ = some (.int .i64 y) := ⟨(b1.cell (p := ⟨g, 1, none⟩) kg).trans k_0.1, (b1.cell (p := ⟨g, 2, none⟩) kg).trans k_0.2.1, (b1.cell (p := ⟨b, o + (m + 1), none⟩) kb).trans k_0.2.2.1, (b1.cell (p := ⟨b, o + m, none⟩) kb).trans k_0.2.2.2⟩
              have kg1 : g < W1.heap.size := Nat.lt_of_lt_of_le kg b1.size
              have kb1 : b < W1.heap.size := Nat.lt_of_lt_of_le kb b1.size
              have b1a := below_alloc W1 (.cells #[.int .i64 0, .int .i64 0, .int .i64 (-1), .slice none 0 0] 30)
              have k_2 : (W1.alloc (.cells #[.int .i64 0, .int .i64 0, .int .i64 (-1), .slice none 0 0] 30)).cell? ⟨g, 1, none⟩ = some (.slice (some ⟨bn, on, none⟩) n1 c1) ∧ (W1.alloc (.cells #[.int .i64 0, .int .i64 0, .int .i64 (-1), .slice none 0 0] 30)).cell? ⟨g, 2, none⟩ = some (.slice (some ⟨b, o, none⟩) n2 c2) ∧ (W1.alloc (.cells #[.int .i64 0, .int .i64 0, .int .i64 (-1), .slice none 0 0] 30)).cell? ⟨b, o + (m + 1), none⟩ = some (.int .i64 (j : Int)) ∧ (W1.alloc (.cells #[.int .i64 0, .int .i64 0, .int .i64 (-1), .slice none 0 0] 30)).cell? ⟨b, o + m, none⟩ = some (.int .i64 y) := ⟨(b1a.cell (p := ⟨g, 1, none⟩) kg1).trans k_1.1, (b1a.cell (p := ⟨g, 2, none⟩) kg1).trans k_1.2.1, (b1a.cell (p := ⟨b, o + (m + 1), none⟩) kb1).trans k_1.2.2.1, (b1a.cell (p := ⟨b, o + m, none⟩) kb1).trans k_1.2.2.2⟩
              clear b1d
              dsimp only
              refine hK.out _ _ k_1 (fun hHeld => ?_)
              clear hK K
              try simp only [Act.put, List.setIfInBounds_toArray, List.set_cons_zero, List.set_cons_succ]
              refine wpAnyH_ready (rs := [42]) (by kernel_rfl) (by simp) ?_
              refine AllReadyH.cons (by rw [List.getElem?_toArray]; exact rfl) (fun K hK => ?_) AllReadyH.nil
              go_simp
              refine hK.out _ _ k_2 (fun hHeld => ?_)
              clear hK K
              try simp only [Act.put, List.setIfInBounds_toArray, List.set_cons_zero, List.set_cons_succ]
              refine wpAnyH_ready (rs := [43]) (by kernel_rfl) (by simp) ?_
              refine AllReadyH.cons (by rw [List.getElem?_toArray]; exact rfl) (fun K hK => ?_) AllReadyH.nil
              go_simp
              refine (specSameNodes_any 1 1 _ _ _ _ [⟨lv, ns', rt, X1, k1, e1, es⟩] [vacNV] _ (((HP.out.N.kept (hB.out.trans (b1.mono hB.out.size))).kept (below_alloc _ _)).sub hx.out) (vac_nodes _) (by decide) (by decide)).mono ?_
              rintro e W2 ⟨rfl, b2⟩
              rw [HS.out]
              have b2' := b1a.trans (b2.mono b1a.size)
              have k_3 : W2.cell? ⟨g, 1, none⟩ = some (.slice (some ⟨bn, on, none⟩) n1 c1) ∧ W2.cell? ⟨g, 2, none⟩ = some (.slice (some ⟨b, o, none⟩) n2 c2) ∧ W2.cell? ⟨b, o + (m + 1), none⟩ = some (.int .i64 (j : Int)) ∧ W2.cell? ⟨b, o + m, none⟩ = some (.int .i64 y) := ⟨(b2'.cell (p := ⟨g, 1, none⟩) kg1).trans k_1.1, (b2'.cell (p := ⟨g, 2, none⟩) kg1).trans k_1.2.1, (b2'.cell (p := ⟨b, o + (m + 1), none⟩) kb1).trans k_1.2.2.1, (b2'.cell (p := ⟨b, o + m, none⟩) kb1).trans k_1.2.2.2⟩
              clear b2
              dsimp only
              refine hK.out _ _ k_3 (fun hHeld => ?_)
              clear hK K
              try simp only [Act.put, List.setIfInBounds_toArray, List.set_cons_zero, List.set_cons_succ]
              refine wpAnyH_take (i := 44) (v := ?_) (by rw [List.getElem?_toArray]; exact rfl) (by kernel_rfl) (by kernel_rfl) (by kernel_rfl) (by exact fun _ _ _ h => h) (by refine Or.inl ⟨by rfl, fun w hSw => ?_⟩; (try dsimp only at hSw); go_simp; (try with_reducible rfl)) (by assumption) ?_
              try simp only [Act.put, List.setIfInBounds_toArray, List.set_cons_zero, List.set_cons_succ]
              refine wpAnyH_take (i := 45) (v := ?_) (by rw [List.getElem?_toArray]; exact rfl) (by kernel_rfl) (by kernel_rfl) (by kernel_rfl) (by exact fun _ _ _ h => h) (by refine Or.inl ⟨by rfl, fun w hSw => ?_⟩; (try dsimp only at hSw); go_simp; (try with_reducible rfl)) (by assumption) ?_
              try simp only [Act.put, List.setIfInBounds_toArray, List.set_cons_zero, List.set_cons_succ]
              refine wpAnyH_done (by kernel_rfl) ?_ _
              clear k_0 k_1 k_2 k_3 b1a
              have hB' := Lib.hid (hB.out.trans ((b1.trans (b2'.mono b1.size)).mono hB.out.size))
              clear hB b1 b2'
              go_wp2
              go_roundw
              case rel => exact ⟨m + 1 + 1, by omega, by go_num, hB', hV', hA'⟩
              case measure => simp [intOf]; omega
        · have HF : Hid (freeF (ns.map NV.val) fs = 0) := freeF_zero HI.out (risesL_true fun j p q hp' hq' => hA.out j p q (by have := (List.getElem?_eq_some_iff.1 hq').1; have := HL2.out; omega) hp' hq') (upto_end hV.out (by rw [HL2.out]; omega))
          have a2 : wr.cell? ⟨g, 2, none⟩ = some (.slice A2 n2 c2) := L_b.out.cell 2
          clear hA hV
          go_wp2
          go_ret
          exact ⟨ret_i64 HF.out.symm, hB.out⟩

end Go.Proofs.YtdkaofmlgaofgaaGreat

/- The walk of spec.ArenaFault. No condition but lengths. -/
namespace Go.Proofs.YtdkaofmlgaofgaaGreat
open Go.RowKit

theorem drewN_two (w : World) (a b : Nat) : ∃ m, (w.drewN a).drewN b = w.drewN m := ⟨a + b, by simp [World.drewN, Nat.add_assoc]⟩
theorem l1Has_q (m : Nat) (v : Int) (n c lo : Nat) (A : Option Addr) (xs : List Int) (w : World) (r : Bool) (hr : xs.contains v = r) (hp : Ints w lo A n xs) (hn : n ≤ maxLen) :
    Calls Tryz.prog 149 #[.slice A n c, .int .i64 v] (w.drewN m) fun e w' => e = .returned (.bool r) ∧ ∃ m', w' = w.drewN m' := by
  refine (l1Has_any v n c lo A xs (w.drewN m) hp hn).mono ?_
  rintro e w' ⟨rfl, q, rfl⟩
  obtain ⟨m', h⟩ := drewN_two w m q
  exact ⟨by rw [hr], m', h⟩

theorem take_has_no {xs : List Int} {k : Nat} {v : Int} (h : ∀ (j : Nat) (x : Int), j < k → xs[j]? = some x → x ≠ v) : (xs.take k).contains v = false := by
  refine contains_none fun j x hj => ?_
  rw [List.getElem?_take] at hj
  split at hj
  · exact h j x (by assumption) hj
  · simp at hj
theorem take_has_yes {xs : List Int} {k j : Nat} {v : Int} (hj : j < k) (h : xs[j]? = some v) : (xs.take k).contains v = true := by
  refine contains_at (k := j) ?_
  rw [List.getElem?_take, if_pos hj]; exact h

set_option maxRecDepth 100000 in
set_option maxHeartbeats 12800000 in
theorem specArenaFault_any (d : Int) (n1 c1 n2 c2 n3 c3 : Nat) (A1 A2 A3 : Option Addr) (ns : List NV) (fs : List Int) (rs : List RV) (w : World) (hp : ArenaL w A1 A2 A3 n1 n2 n3 ns fs rs) (hc : n1 ≤ c1) (hcm : c1 ≤ maxLen) :
    Calls Tryz.prog 77 #[.agg #[.int .i64 d, .slice A1 n1 c1, .slice A2 n2 c2, .slice A3 n3 c3]] w fun e w' => e = .returned (.int .i64 (arenaF d (ns.map NV.val) fs (rs.map RV.val))) ∧ Below w.heap.size w w' := by
  have HP := Lib.hid hp
  have m1 := hp.m1
  have m2 := hp.m2
  have m3 := hp.m3
  have HL1 : Hid ((ns.map NV.val).length = n1) := by show List.length _ = n1; rw [List.length_map]; exact hp.N.1
  have HL3 : Hid ((rs.map RV.val).length = n3) := by show List.length _ = n3; rw [List.length_map]; exact hp.R.1
  clear hp
  have m1' := m1
  have m2' := m2
  have m3' := m3
  unfold maxLen at m1' m2' m3'
  have B := Lib.hid (below_alloc w (.cells #[.int .i64 d, .slice A1 n1 c1, .slice A2 n2 c2, .slice A3 n3 c3] 37))
  have L_a := Lib.hid (Lies.new w 37 #[.int .i64 d, .slice A1 n1 c1, .slice A2 n2 c2, .slice A3 n3 c3])
  by_cases hd : 2 ≤ d ∧ d ≤ 3
  rotate_left
  · have HF := Lib.hid (arenaF_dim (ns := ns.map NV.val) (fs := fs) (rs := rs.map RV.val) hd)
    go_enter Tryz.func77, Tryz.ntmps77
    go_wp2_with fail
    refine (l1In_no _ _ _ _ hd).mono ?_
    rintro e w' ⟨rfl, rfl⟩
    go_wp2
    go_ret
    exact ⟨ret_i64 HF.out.symm, B.out⟩
  by_cases hm : 4 ≤ n1 ∧ n1 ≤ 40
  rotate_left
  · have HF := Lib.hid (arenaF_many (fs := fs) (rs := rs.map RV.val) hd (show ¬ (4 ≤ (ns.map NV.val).length ∧ (ns.map NV.val).length ≤ 40) by rw [HL1.out]; exact hm))
    go_enter Tryz.func77, Tryz.ntmps77
    go_wp2_with fail
    refine (l1In_yes _ _ _ _ hd.1 hd.2).mono ?_
    rintro e w' ⟨rfl, rfl⟩
    by_cases h4 : n1 < 4
    · have h4' : (n1 : Int) < 4 := by omega
      go_wp2
      go_ret
      exact ⟨ret_i64 HF.out.symm, B.out⟩
    · have h4' : ¬ (n1 : Int) < 4 := by omega
      have h40 : (40 : Int) < (n1 : Int) := by omega
      go_wp2
      go_ret
      exact ⟨ret_i64 HF.out.symm, B.out⟩
  have HD := Lib.hid hd
  have HM : Hid (4 ≤ (ns.map NV.val).length ∧ (ns.map NV.val).length ≤ 40) := by show _ ∧ _; rw [HL1.out]; exact hm
  have h4' : ¬ (n1 : Int) < 4 := by omega
  have h40 : ¬ (40 : Int) < (n1 : Int) := by omega
  go_enter Tryz.func77, Tryz.ntmps77
  go_wp2_with fail
  refine (l1In_yes _ _ _ _ hd.1 hd.2).mono ?_
  rintro e w' ⟨rfl, rfl⟩
  clear hd
  go_wp2
  clear h4' h40
  go_loopw [3] (fun i wr => ∃ k : Nat, k ≤ n1 ∧ i = .int .i64 k ∧ Hid (Below w.heap.size w wr) ∧ Hid (Lies wr w.heap.size 37 #[.int .i64 d, .slice A1 n1 c1, .slice A2 n2 c2, .slice A3 n3 c3]) ∧ Hid (∀ (j : Nat) (u : NVal), j < k → (ns.map NV.val)[j]? = some u → nodeFv d u = 0)) (fun i _ => n1 - (intOf i).toNat)
  case atStart => exact ⟨0, Nat.zero_le _, rfl, B, L_a, fun j u hj => absurd hj (Nat.not_lt_zero _)⟩
  case round =>
    obtain ⟨k, hk', rfl, hB, hN, hA⟩ := hrel
    have q1 : wr.cell? ⟨w.heap.size, 1, none⟩ = some (.slice A1 n1 c1) := hN.out.cell 1
    by_cases hlt : k < n1
    · obtain ⟨b, o, lv, nn, rt, X1, k1, e1, es, rfl, hb, d0, d1, d2, d3, hx, hE, hk1⟩ := HP.out.N.cellAt hlt
      have k_0 : wr.cell? ⟨w.heap.size, 1, none⟩ = some (.slice (some ⟨b, o, none⟩) n1 c1) ∧ wr.cell? ⟨w.heap.size, 0, none⟩ = some (.int .i64 d) ∧ wr.cell? ⟨b, o + k * 4, none⟩ = some (.int .i64 lv) ∧ wr.cell? ⟨b, o + k * 4 + 1, none⟩ = some (.int .i64 nn) ∧ wr.cell? ⟨b, o + k * 4 + 2, none⟩ = some (.int .i64 rt) ∧ wr.cell? ⟨b, o + k * 4 + 3, none⟩ = some (.slice X1 k1 e1) := ⟨hN.out.cell 1, hN.out.cell 0, (hB.out.cell (p := ⟨b, o + k * 4, none⟩) hb).trans d0, (hB.out.cell (p := ⟨b, o + k * 4 + 1, none⟩) hb).trans d1, (hB.out.cell (p := ⟨b, o + k * 4 + 2, none⟩) hb).trans d2, (hB.out.cell (p := ⟨b, o + k * 4 + 3, none⟩) hb).trans d3⟩
      have kb := Nat.lt_of_lt_of_le hb hB.out.size
      have hlt' : (k : Int) < (n1 : Int) := by omega
      have HX := Lib.hid (nval_get hx.out)
      clear d0 d1 d2 d3 hx
      go_wp2
      go_region_held3 (fun w' => w'.cell? ⟨w.heap.size, 1, none⟩ = some (.slice (some ⟨b, o, none⟩) n1 c1) ∧ w'.cell? ⟨w.heap.size, 0, none⟩ = some (.int .i64 d) ∧ w'.cell? ⟨b, o + k * 4, none⟩ = some (.int .i64 lv) ∧ w'.cell? ⟨b, o + k * 4 + 1, none⟩ = some (.int .i64 nn) ∧ w'.cell? ⟨b, o + k * 4 + 2, none⟩ = some (.int .i64 rt) ∧ w'.cell? ⟨b, o + k * 4 + 3, none⟩ = some (.slice X1 k1 e1))
        (first | (simp [go_sem, k_0]; done) | with_reducible exact k_1)
        (first
          | (go_at_call 90; refine (specNodeFault_any lv nn rt d k1 e1 X1 es _ (hE.out.kept hB.out.drew) hk1).mono ?_
             rintro e W1 ⟨rfl, b1d⟩
             have b1 := below_drawn b1d
             have k_1 : W1.cell? ⟨w.heap.size, 1, none⟩ = some (.slice (some ⟨b, o, none⟩) n1 c1) ∧ W1.cell? ⟨w.heap.size, 0, none⟩ = some (.int .i64 d) ∧ W1.cell? ⟨b, o + k * 4, none⟩ = some (.int .i64 lv) ∧ W1.cell? ⟨b, o + k * 4 + 1, none⟩ = some (.int .i64 nn) ∧ W1.cell? ⟨b, o + k * 4 + 2, none⟩ = some (.int .i64 rt) ∧ W1.cell? ⟨b, o + k * 4 + 3, none⟩ = some (.slice X1 k1 e1) := ⟨(hN.out.kept b1 hN.out.inside).cell 1, (hN.out.kept b1 hN.out.inside).cell 0, (b1.cell (p := ⟨b, o + k * 4, none⟩) kb).trans k_0.2.2.1, (b1.cell (p := ⟨b, o + k * 4 + 1, none⟩) kb).trans k_0.2.2.2.1, (b1.cell (p := ⟨b, o + k * 4 + 2, none⟩) kb).trans k_0.2.2.2.2.1, (b1.cell (p := ⟨b, o + k * 4 + 3, none⟩) kb).trans k_0.2.2.2.2.2⟩
             clear b1d))
      have hB1 := Lib.hid (hB.out.trans (b1.mono hB.out.size))
      have hN1 := Lib.hid (hN.out.kept b1 hN.out.inside)
      clear k_0 k_1 b1 q1
      by_cases hz : nodeF lv nn rt (es.map EV.val) d = 0
      · have hz1 : (nodeF lv nn rt (es.map EV.val) d != 0) = false := by simp [hz]
        have hA' := Lib.hid (upto_next (P := fun u => nodeFv d u = 0) hA.out HX.out hz)
        clear hA hz hB hN
        go_wp2
        go_roundw
        case rel => exact ⟨k + 1, by omega, by go_num, hB1, hN1, hA'⟩
        case measure => simp [intOf]; omega
      · have hz1 : (nodeF lv nn rt (es.map EV.val) d != 0) = true := by simpa using hz
        have HS := Lib.hid (firstNZ_stop (f := nodeFv d) hA.out HX.out hz)
        have HF : Hid (arenaF d (ns.map NV.val) fs (rs.map RV.val) = nodeF lv nn rt (es.map EV.val) d) := by
          show arenaF _ _ _ _ = _
          rw [arenaF_node HD.out HM.out (by rw [HS.out]; exact hz), HS.out]; rfl
        clear hA hz hB hN HS
        go_wp2
        go_ret
        exact ⟨ret_i64 HF.out.symm, hB1.out⟩
    · have HN1 := Lib.hid (firstNZ_all (f := nodeFv d) (upto_end hA.out (by rw [HL1.out]; omega)))
      clear hA
      go_wp2_with fail
      refine (l4Free_any d w.heap.size n1 c1 n2 c2 n3 c3 A1 A2 A3 ns fs rs _ hN.out (HP.out.kept hB.out) (by omega) hc hcm).mono ?_
      rintro e W1 ⟨rfl, b1⟩
      have hB1 := Lib.hid (hB.out.trans (b1.mono hB.out.size))
      have hN2 := Lib.hid (hN.out.kept b1 hN.out.inside)
      clear b1 q1 hB hN
      by_cases hz : freeF (ns.map NV.val) fs = 0
      rotate_left
      · have hz1 : (freeF (ns.map NV.val) fs != 0) = true := by simpa using hz
        have HF := Lib.hid (arenaF_free (rs := rs.map RV.val) HD.out HM.out HN1.out hz)
        go_wp2
        go_ret
        exact ⟨ret_i64 HF.out.symm, hB1.out⟩
      have hz1 : (freeF (ns.map NV.val) fs != 0) = false := by simp [hz]
      have HZ := Lib.hid hz
      clear hz
      go_wp2
      clear hk' hlt
      go_loopw [6] (fun i wr => ∃ k : Nat, k ≤ n3 ∧ i = .int .i64 k ∧ Hid (Below w.heap.size w wr) ∧ Hid (Lies wr w.heap.size 37 #[.int .i64 d, .slice A1 n1 c1, .slice A2 n2 c2, .slice A3 n3 c3]) ∧ Hid (∀ (j : Nat) (u : RVal), j < k → (rs.map RV.val)[j]? = some u → retF n1 u = 0)) (fun i _ => n3 - (intOf i).toNat)
      case atStart => exact ⟨0, Nat.zero_le _, rfl, hB1, hN2, fun j u hj => absurd hj (Nat.not_lt_zero _)⟩
      case round =>
        obtain ⟨k, hk', rfl, hB, hN, hA⟩ := hrel
        have q1 : wr.cell? ⟨w.heap.size, 1, none⟩ = some (.slice A1 n1 c1) := hN.out.cell 1
        have q3 : wr.cell? ⟨w.heap.size, 3, none⟩ = some (.slice A3 n3 c3) := hN.out.cell 3
        by_cases hlt : k < n3
        · obtain ⟨b, o, id, X1, k1, e1, ws, rfl, hb, d0, d1, hx, hI, hk1⟩ := HP.out.R.cellAt hlt
          have e0 : wr.cell? ⟨b, o + k * 2, none⟩ = some (.int .i64 id) := (hB.out.cell (p := ⟨b, o + k * 2, none⟩) hb).trans d0
          have e2 : wr.cell? ⟨b, o + k * 2 + 1, none⟩ = some (.slice X1 k1 e1) := (hB.out.cell (p := ⟨b, o + k * 2 + 1, none⟩) hb).trans d1
          have HX := Lib.hid (rval_get hx.out)
          have HW : Hid (ws.length = k1) := hI.out.1
          clear d0 d1 hx
          have stop : Hid (∀ x : Int, retF n1 (id, ws) = x → x ≠ 0 → arenaF d (ns.map NV.val) fs (rs.map RV.val) = x) := by
            intro x hx0 hx1
            have HS := firstNZ_stop (f := retF n1) hA.out HX.out (show retF n1 (id, ws) ≠ 0 by rw [hx0]; exact hx1)
            rw [arenaF_ret HD.out HM.out HN1.out HZ.out (by rw [HL1.out, HS]; show retF n1 (id, ws) ≠ 0; rw [hx0]; exact hx1), HL1.out, HS]; exact hx0
          by_cases hr : 0 ≤ id ∧ id ≤ (n1 : Int) - 1
          rotate_left
          · have HF := Lib.hid (stop.out 3 (retF_out hr) (by decide))
            clear stop hA
            go_wp2_with fail
            refine (l4Place_no _ _ _ _ _ _ q1 m1 hr).mono ?_
            rintro e w' ⟨rfl, rfl⟩
            go_wp2
            go_ret
            exact ⟨ret_i64 HF.out.symm, hB.out⟩
          go_wp2_with fail
          refine (l4Place_yes _ _ _ _ _ _ q1 m1 hr).mono ?_
          rintro e w' ⟨rfl, rfl⟩
          by_cases h0 : k1 = 0
          · have HF := Lib.hid (stop.out 2 (retF_none hr (by rw [HW.out]; exact h0)) (by decide))
            have h0' : ((k1 : Int) == 0) = true := by simp [h0]
            clear stop hA hr
            go_wp2
            go_ret
            exact ⟨ret_i64 HF.out.symm, hB.out⟩
          have h0' : ((k1 : Int) == 0) = false := by simp [h0]
          have HRW := Lib.hid (retF_watch (n := n1) (r := (id, ws)) hr (by show ¬ ws.length = 0; rw [HW.out]; exact h0))
          clear hr h0
          go_wp2_with fail
          refine (l4Watch_any _ _ _ _ ws _ (hI.out.kept hB.out) hk1).mono ?_
          rintro e W2 ⟨rfl, b2⟩
          have hB2 := Lib.hid (hB.out.trans (b2.mono hB.out.size))
          have hN3 := Lib.hid (hN.out.kept b2 hN.out.inside)
          clear b2 q1 q3 e0 e2 hB hN h0'
          by_cases hz : watchF ws = 0
          · have hz1 : (watchF ws != 0) = false := by simp [hz]
            have hA' := Lib.hid (upto_next (P := fun u => retF n1 u = 0) hA.out HX.out (HRW.out.trans hz))
            clear hA hz stop
            go_wp2
            go_roundw
            case rel => exact ⟨k + 1, by omega, by go_num, hB2, hN3, hA'⟩
            case measure => simp [intOf]; omega
          · have hz1 : (watchF ws != 0) = true := by simpa using hz
            have HF := Lib.hid (stop.out (watchF ws) HRW.out hz)
            clear hA hz stop
            go_wp2
            go_ret
            exact ⟨ret_i64 HF.out.symm, hB2.out⟩
        · have HR0 := Lib.hid (firstNZ_all (f := retF n1) (upto_end hA.out (by rw [HL3.out]; omega)))
          have HT : Hid (arenaF d (ns.map NV.val) fs (rs.map RV.val) = if takenF fs ((rs.map RV.val).map (·.1)) then 6 else 0) := arenaF_taken HD.out HM.out HN1.out HZ.out (by rw [HL1.out]; exact HR0.out)
          clear hA hB1 hN2
          go_wp2
          clear q1 q3 hk' hlt
          go_loopw [8] (fun i wr => ∃ k : Nat, k ≤ n3 ∧ i = .int .i64 k ∧ Hid (Below w.heap.size w wr) ∧ Hid (Lies wr w.heap.size 37 #[.int .i64 d, .slice A1 n1 c1, .slice A2 n2 c2, .slice A3 n3 c3]) ∧ Hid (∀ (j : Nat) (x : Int), j < k → ((rs.map RV.val).map (·.1))[j]? = some x → fs.contains x = false ∧ (((rs.map RV.val).map (·.1)).take j).contains x = false)) (fun i _ => n3 - (intOf i).toNat)
          case atStart => exact ⟨0, Nat.zero_le _, rfl, hB, hN, fun j u hj => absurd hj (Nat.not_lt_zero _)⟩
          case round =>
            obtain ⟨k, hk', rfl, hB, hN, hA⟩ := hrel
            have q3 : wr.cell? ⟨w.heap.size, 3, none⟩ = some (.slice A3 n3 c3) := hN.out.cell 3
            by_cases hlt : k < n3
            · obtain ⟨b, o, id, X1, k1, e1, ws, rfl, hb, d0, d1, hx, hI, hk1⟩ := HP.out.R.cellAt hlt
              have D0 := Lib.hid d0
              have HX := Lib.hid (rid_get hx.out)
              clear d0 d1 hx hI
              go_wp2
              clear q3
              go_loopw [9] (fun i wq => ∃ j : Nat, j ≤ k ∧ i = .int .i64 j ∧ Hid (Below w.heap.size w wq) ∧ Hid (Lies wq w.heap.size 37 #[.int .i64 d, .slice A1 n1 c1, .slice A2 n2 c2, .slice (some ⟨b, o, none⟩) n3 c3]) ∧ Hid (∀ (p : Nat) (x : Int), p < j → ((rs.map RV.val).map (·.1))[p]? = some x → x ≠ id)) (fun i _ => k - (intOf i).toNat)
              case atStart => exact ⟨0, Nat.zero_le _, rfl, hB, hN, fun j u hj => absurd hj (Nat.not_lt_zero _)⟩
              case round =>
                have hrr := True.intro
                obtain ⟨j, hj', rfl, hB2, hN2, hC⟩ := hrel
                have q3 : wr.cell? ⟨w.heap.size, 3, none⟩ = some (.slice (some ⟨b, o, none⟩) n3 c3) := hN2.out.cell 3
                have dk : wr.cell? ⟨b, o + k * 2, none⟩ = some (.int .i64 id) := (hB2.out.cell (p := ⟨b, o + k * 2, none⟩) hb).trans D0.out
                by_cases hj : j < k
                · obtain ⟨b', o', id2, X2, k2, e2, ws2, hA', hb2, d0, _, hx2, _, _⟩ := HP.out.R.cellAt (show j < n3 by omega)
                  injection hA' with hA'
                  injection hA' with hA1 hA2
                  subst hA1 hA2
                  have dj : wr.cell? ⟨b, o + j * 2, none⟩ = some (.int .i64 id2) := (hB2.out.cell (p := ⟨b, o + j * 2, none⟩) hb).trans d0
                  have HX2 := Lib.hid (rid_get hx2.out)
                  have hjn : (j : Int) < (n3 : Int) := by omega
                  have hkn : (k : Int) < (n3 : Int) := by omega
                  clear d0 hx2
                  by_cases he : id2 = id
                  · subst he
                    have hE : (id2 == id2) = true := by simp
                    have HF : Hid (arenaF d (ns.map NV.val) fs (rs.map RV.val) = 6) := by
                      show arenaF _ _ _ _ = _
                      rw [HT.out, takenF_at HX.out (Or.inr (take_has_yes hj HX2.out))]; rfl
                    clear hA hC
                    go_wp2
                    go_quiet (fail)
                    go_wp2
                    go_ret
                    exact ⟨ret_i64 HF.out.symm, below_draws hB2.out _⟩
                  · have hE : (id2 == id) = false := by simpa using he
                    have hC' := Lib.hid (upto_next (P := fun x => x ≠ id) hC.out HX2.out he)
                    clear hC he
                    go_wp2
                    go_quiet (fail)
                    go_wp2
                    go_roundw
                    case rel => exact ⟨j + 1, by omega, by go_num, below_draws hB2.out _, hN2.out.draws _, hC'⟩
                    case measure => simp [intOf]; omega
                · have hjk : j = k := by omega
                  subst hjk
                  have HNT := Lib.hid (take_has_no hC.out)
                  have q2 : wr.cell? ⟨w.heap.size, 2, none⟩ = some (.slice A2 n2 c2) := hN2.out.cell 2
                  have hkn : (j : Int) < (n3 : Int) := by omega
                  have I2 := Lib.hid (HP.out.F.kept hB2.out)
                  clear hC hB hN
                  cases hh : fs.contains id
                  · have hA' := Lib.hid (uptoAt_next (P := fun j x => fs.contains x = false ∧ (((rs.map RV.val).map (·.1)).take j).contains x = false) hA.out HX.out ⟨hh, HNT.out⟩)
                    have HH := Lib.hid hh
                    clear hA hh
                    go_wp2
                    go_quiet ((go_at_call 149; exact l1Has_q _ _ _ _ _ _ fs _ false HH.out I2.out m2))
                    go_wp2
                    go_roundw
                    case rel => exact ⟨j + 1, by omega, by go_num, below_draws hB2.out _, hN2.out.draws _, hA'⟩
                    case measure => simp [intOf]; omega
                  · have HF : Hid (arenaF d (ns.map NV.val) fs (rs.map RV.val) = 6) := by
                      show arenaF _ _ _ _ = _
                      rw [HT.out, takenF_at HX.out (Or.inl hh)]; rfl
                    have HH := Lib.hid hh
                    clear hA hh
                    go_wp2
                    go_quiet ((go_at_call 149; exact l1Has_q _ _ _ _ _ _ fs _ true HH.out I2.out m2))
                    go_wp2
                    go_ret
                    exact ⟨ret_i64 HF.out.symm, below_draws hB2.out _⟩
            · have HF : Hid (arenaF d (ns.map NV.val) fs (rs.map RV.val) = 0) := by
                show arenaF _ _ _ _ = _
                rw [HT.out, takenF_none (fun j x hx => hA.out j x (by have := (List.getElem?_eq_some_iff.1 hx).1; rw [List.length_map, HL3.out] at this; omega) hx)]; rfl
              clear hA
              go_wp2
              go_ret
              exact ⟨ret_i64 HF.out.symm, hB.out⟩

end Go.Proofs.YtdkaofmlgaofgaaGreat
