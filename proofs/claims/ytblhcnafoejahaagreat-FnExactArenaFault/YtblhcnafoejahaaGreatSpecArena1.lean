/- What is wrong with an arena, said plainly. -/
import Derived.Test.YtblhcnafoejahaaGreatArenas
import Derived.Test.YtblhcnafoejahaaGreatPairs
import Derived.Test.YtblhcnafoejahaaGreatSame
import Derived.Test.YtblhcnafoejahaaGreatSameNodes
namespace Go.Proofs.YtblhcnafoejahaaGreat
open Go.RowKit

theorem allIn_true {l h : Int} {xs : List Int} (hp : ∀ (j : Nat) (x : Int), xs[j]? = some x → l ≤ x ∧ x ≤ h) : allIn l h xs = true := by
  unfold allIn
  rw [List.all_eq_true]
  intro x hx
  obtain ⟨j, hj⟩ := List.getElem?_of_mem hx
  have := hp j x hj
  simp [this.1, this.2]
theorem allIn_get {l h : Int} {xs : List Int} (hp : allIn l h xs = true) {k : Nat} {x : Int} (hk : xs[k]? = some x) : l ≤ x ∧ x ≤ h := by
  unfold allIn at hp
  rw [List.all_eq_true] at hp
  have := hp x (List.mem_of_getElem? hk)
  simpa using this

/-- What is wrong with those who watch. -/
def watchF (ws : List Int) : Int := if 4 < ws.length then 2 else if allIn 0 3 ws then (if risesL ws then 0 else 1) else 3
theorem watchF_many {ws : List Int} (h : 4 < ws.length) : watchF ws = 2 := by unfold watchF; rw [if_pos h]
theorem watchF_out {ws : List Int} (h : ¬ 4 < ws.length) (h2 : allIn 0 3 ws = false) : watchF ws = 3 := by unfold watchF; rw [if_neg h, h2]; rfl
theorem watchF_in {ws : List Int} (h : ¬ 4 < ws.length) (h2 : allIn 0 3 ws = true) : watchF ws = if risesL ws then 0 else 1 := by unfold watchF; rw [if_neg h, h2]; rfl

/-- What an empty node says. -/
def vacV : NVal := (0, 0, -1, [])
def vacAt (ns : List NVal) (x : Int) : Bool := (ns[x.toNat]?).any fun v => decide (v = vacV)
theorem vacAt_is {ns : List NVal} {k : Nat} {v : NVal} (h : ns[k]? = some v) : vacAt ns (k : Int) = decide (v = vacV) := by
  unfold vacAt
  rw [Int.toNat_natCast, h]; rfl
/-- What is wrong with the free places. -/
def freeF (ns : List NVal) (fs : List Int) : Int :=
  if allIn 0 ((ns.length : Int) - 1) fs then (if risesL fs && fs.all (vacAt ns) then 0 else 1) else 3
theorem freeF_out {ns : List NVal} {fs : List Int} (h : allIn 0 ((ns.length : Int) - 1) fs = false) : freeF ns fs = 3 := by unfold freeF; rw [h]; rfl
theorem freeF_fall {ns : List NVal} {fs : List Int} (h : allIn 0 ((ns.length : Int) - 1) fs = true) (h2 : risesL fs = false) : freeF ns fs = 1 := by unfold freeF; rw [h, h2]; rfl
theorem freeF_full {ns : List NVal} {fs : List Int} (h : allIn 0 ((ns.length : Int) - 1) fs = true) {k : Nat} {x : Int} (hk : fs[k]? = some x) (h2 : vacAt ns x = false) : freeF ns fs = 1 := by
  unfold freeF
  rw [h, all_stop hk h2, Bool.and_false]; rfl
theorem freeF_zero {ns : List NVal} {fs : List Int} (h : allIn 0 ((ns.length : Int) - 1) fs = true) (h2 : risesL fs = true) (h3 : ∀ (j : Nat) (x : Int), fs[j]? = some x → vacAt ns x = true) : freeF ns fs = 0 := by
  unfold freeF
  rw [h, h2, all_next h3]; rfl

/-- What is wrong with a retired place. -/
def retF (n : Nat) (r : RVal) : Int := if 0 ≤ r.1 ∧ r.1 ≤ (n : Int) - 1 then (if r.2.length = 0 then 2 else watchF r.2) else 3
theorem retF_out {n : Nat} {r : RVal} (h : ¬ (0 ≤ r.1 ∧ r.1 ≤ (n : Int) - 1)) : retF n r = 3 := by unfold retF; rw [if_neg h]
theorem retF_none {n : Nat} {r : RVal} (h : 0 ≤ r.1 ∧ r.1 ≤ (n : Int) - 1) (h2 : r.2.length = 0) : retF n r = 2 := by unfold retF; rw [if_pos h, if_pos h2]
theorem retF_watch {n : Nat} {r : RVal} (h : 0 ≤ r.1 ∧ r.1 ≤ (n : Int) - 1) (h2 : ¬ r.2.length = 0) : retF n r = watchF r.2 := by unfold retF; rw [if_pos h, if_neg h2]
theorem retF_zero {n : Nat} {r : RVal} (h : retF n r = 0) : (0 ≤ r.1 ∧ r.1 ≤ (n : Int) - 1) ∧ 0 < r.2.length ∧ r.2.length ≤ 4 := by
  unfold retF at h
  by_cases h1 : 0 ≤ r.1 ∧ r.1 ≤ (n : Int) - 1
  · rw [if_pos h1] at h
    by_cases h2 : r.2.length = 0
    · rw [if_pos h2] at h; omega
    · rw [if_neg h2] at h
      unfold watchF at h
      by_cases h3 : 4 < r.2.length
      · rw [if_pos h3] at h; omega
      · exact ⟨h1, by omega, by omega⟩
  · rw [if_neg h1] at h; omega

/-- Whether one of the places is free, or stands there twice. -/
def takenF (fs ids : List Int) : Bool := (List.range ids.length).any fun k => (ids[k]?).any fun x => fs.contains x || (ids.take k).contains x
theorem takenF_at {fs ids : List Int} {k : Nat} {x : Int} (hk : ids[k]? = some x) (h : fs.contains x = true ∨ (ids.take k).contains x = true) : takenF fs ids = true := by
  unfold takenF
  rw [List.any_eq_true]
  refine ⟨k, List.mem_range.2 (List.getElem?_eq_some_iff.1 hk).1, ?_⟩
  rw [hk]
  rcases h with h | h
  · simp only [Option.any_some, h, Bool.true_or]
  · simp only [Option.any_some, h, Bool.or_true]
theorem takenF_none {fs ids : List Int} (h : ∀ (k : Nat) (x : Int), ids[k]? = some x → fs.contains x = false ∧ (ids.take k).contains x = false) : takenF fs ids = false := by
  unfold takenF
  rw [List.any_eq_false]
  intro k hk
  have hk' := List.mem_range.1 hk
  rw [List.getElem?_eq_getElem hk']
  obtain ⟨h1, h2⟩ := h k _ (List.getElem?_eq_getElem hk')
  simp only [Option.any_some, h1, h2, Bool.or_self]; decide

def nodeFv (d : Int) (v : NVal) : Int := nodeF v.1 v.2.1 v.2.2.1 v.2.2.2 d
/-- What is wrong with an arena. -/
def arenaF (d : Int) (ns : List NVal) (fs : List Int) (rs : List RVal) : Int :=
  if 2 ≤ d ∧ d ≤ 3 then
    if 4 ≤ ns.length ∧ ns.length ≤ 40 then
      if firstNZ (nodeFv d) ns ≠ 0 then firstNZ (nodeFv d) ns
      else if freeF ns fs ≠ 0 then freeF ns fs
      else if firstNZ (retF ns.length) rs ≠ 0 then firstNZ (retF ns.length) rs
      else if takenF fs (rs.map (·.1)) then 6 else 0
    else 2
  else 3
section
variable {d : Int} {ns : List NVal} {fs : List Int} {rs : List RVal}
theorem arenaF_dim (h : ¬ (2 ≤ d ∧ d ≤ 3)) : arenaF d ns fs rs = 3 := by unfold arenaF; rw [if_neg h]
theorem arenaF_many (h : 2 ≤ d ∧ d ≤ 3) (h2 : ¬ (4 ≤ ns.length ∧ ns.length ≤ 40)) : arenaF d ns fs rs = 2 := by unfold arenaF; rw [if_pos h, if_neg h2]
theorem arenaF_node (h : 2 ≤ d ∧ d ≤ 3) (h2 : 4 ≤ ns.length ∧ ns.length ≤ 40) (h3 : firstNZ (nodeFv d) ns ≠ 0) : arenaF d ns fs rs = firstNZ (nodeFv d) ns := by unfold arenaF; rw [if_pos h, if_pos h2, if_pos h3]
theorem arenaF_free (h : 2 ≤ d ∧ d ≤ 3) (h2 : 4 ≤ ns.length ∧ ns.length ≤ 40) (h3 : firstNZ (nodeFv d) ns = 0) (h4 : freeF ns fs ≠ 0) : arenaF d ns fs rs = freeF ns fs := by unfold arenaF; rw [if_pos h, if_pos h2, if_neg (by simp [h3]), if_pos h4]
theorem arenaF_ret (h : 2 ≤ d ∧ d ≤ 3) (h2 : 4 ≤ ns.length ∧ ns.length ≤ 40) (h3 : firstNZ (nodeFv d) ns = 0) (h4 : freeF ns fs = 0) (h5 : firstNZ (retF ns.length) rs ≠ 0) : arenaF d ns fs rs = firstNZ (retF ns.length) rs := by unfold arenaF; rw [if_pos h, if_pos h2, if_neg (by simp [h3]), if_neg (by simp [h4]), if_pos h5]
theorem arenaF_taken (h : 2 ≤ d ∧ d ≤ 3) (h2 : 4 ≤ ns.length ∧ ns.length ≤ 40) (h3 : firstNZ (nodeFv d) ns = 0) (h4 : freeF ns fs = 0) (h5 : firstNZ (retF ns.length) rs = 0) : arenaF d ns fs rs = if takenF fs (rs.map (·.1)) then 6 else 0 := by unfold arenaF; rw [if_pos h, if_pos h2, if_neg (by simp [h3]), if_neg (by simp [h4]), if_neg (by simp [h5])]
theorem arenaF_zero (h : arenaF d ns fs rs = 0) : (2 ≤ d ∧ d ≤ 3) ∧ (4 ≤ ns.length ∧ ns.length ≤ 40) ∧ firstNZ (nodeFv d) ns = 0 ∧ freeF ns fs = 0 ∧ firstNZ (retF ns.length) rs = 0 ∧ takenF fs (rs.map (·.1)) = false := by
  by_cases h1 : 2 ≤ d ∧ d ≤ 3
  rotate_left
  · rw [arenaF_dim h1] at h; omega
  by_cases h2 : 4 ≤ ns.length ∧ ns.length ≤ 40
  rotate_left
  · rw [arenaF_many h1 h2] at h; omega
  by_cases h3 : firstNZ (nodeFv d) ns = 0
  rotate_left
  · rw [arenaF_node h1 h2 h3] at h; exact absurd h h3
  by_cases h4 : freeF ns fs = 0
  rotate_left
  · rw [arenaF_free h1 h2 h3 h4] at h; exact absurd h h4
  by_cases h5 : firstNZ (retF ns.length) rs = 0
  rotate_left
  · rw [arenaF_ret h1 h2 h3 h4 h5] at h; exact absurd h h5
  rw [arenaF_taken h1 h2 h3 h4 h5] at h
  cases h6 : takenF fs (rs.map (·.1))
  · exact ⟨h1, h2, h3, h4, h5, rfl⟩
  · rw [h6] at h; simp at h
end

theorem nval_get {ps : List NV} {k : Nat} {p : NV} (h : ps[k]? = some p) : (ps.map NV.val)[k]? = some p.val := by simp [h]
theorem rval_get {ps : List RV} {k : Nat} {p : RV} (h : ps[k]? = some p) : (ps.map RV.val)[k]? = some p.val := by simp [h]
theorem rid_get {ps : List RV} {k : Nat} {p : RV} (h : ps[k]? = some p) : ((ps.map RV.val).map (·.1))[k]? = some p.id := by simp [h, RV.val]

end Go.Proofs.YtblhcnafoejahaaGreat

/- The walks of spec.l4Place, l1Has, l4Watch, l4Empty. -/
namespace Go.Proofs.YtblhcnafoejahaaGreat
open Go.RowKit

set_option maxHeartbeats 800000 in
theorem l4Place_yes (b n c : Nat) (A : Option Addr) (id : Int) (w : World) (hc : w.cell? ⟨b, 1, none⟩ = some (.slice A n c)) (hn : n ≤ maxLen) (h : 0 ≤ id ∧ id ≤ (n : Int) - 1) :
    Calls Tryz.prog 15 #[.pointer (some ⟨b, 0, none⟩), .int .i64 id] w fun e w' => e = .returned (.bool true) ∧ w = w' := by
  unfold maxLen at hn
  go_enter Tryz.func15, Tryz.ntmps15
  go_wp2_with fail
  refine (l1In_yes _ _ _ _ h.1 h.2).mono ?_
  rintro e w' ⟨rfl, rfl⟩
  go_wp2
  go_ret
  exact ⟨rfl, rfl⟩
set_option maxHeartbeats 800000 in
theorem l4Place_no (b n c : Nat) (A : Option Addr) (id : Int) (w : World) (hc : w.cell? ⟨b, 1, none⟩ = some (.slice A n c)) (hn : n ≤ maxLen) (h : ¬ (0 ≤ id ∧ id ≤ (n : Int) - 1)) :
    Calls Tryz.prog 15 #[.pointer (some ⟨b, 0, none⟩), .int .i64 id] w fun e w' => e = .returned (.bool false) ∧ w = w' := by
  unfold maxLen at hn
  go_enter Tryz.func15, Tryz.ntmps15
  go_wp2_with fail
  refine (l1In_no _ _ _ _ h).mono ?_
  rintro e w' ⟨rfl, rfl⟩
  go_wp2
  go_ret
  exact ⟨rfl, rfl⟩

theorem contains_at {xs : List Int} {k : Nat} {x : Int} (h : xs[k]? = some x) : xs.contains x = true := by
  rw [List.contains_iff_mem]; exact List.mem_of_getElem? h
theorem contains_none {xs : List Int} {v : Int} (h : ∀ (j : Nat) (x : Int), xs[j]? = some x → x ≠ v) : xs.contains v = false := by
  rw [← Bool.not_eq_true, List.contains_iff_mem]
  intro hm
  obtain ⟨j, hj⟩ := List.getElem?_of_mem hm
  exact h j v hj rfl

set_option maxHeartbeats 1600000 in
theorem l1Has_any (v : Int) (n c lo : Nat) (A : Option Addr) (xs : List Int) (w : World) (hp : Ints w lo A n xs) (hn : n ≤ maxLen) :
    Calls Tryz.prog 17 #[.slice A n c, .int .i64 v] w fun e w' => e = .returned (.bool (xs.contains v)) ∧ ∃ q, w' = w.drewN q := by
  have HP := Lib.hid hp
  clear hp
  unfold maxLen at hn
  go_enter Tryz.func17, Tryz.ntmps17
  go_wp2
  go_loopw [5] (fun i wr => ∃ m : Nat, m ≤ n ∧ i = .int .i64 m ∧ wr = w ∧ Hid (∀ (j : Nat) (x : Int), j < m → xs[j]? = some x → x ≠ v)) (fun i _ => n - (intOf i).toNat)
  case atStart => exact ⟨0, Nat.zero_le _, rfl, rfl, fun j x hj => absurd hj (Nat.not_lt_zero _)⟩
  case round =>
    obtain ⟨m, hm, rfl, rfl, hA⟩ := hrel
    by_cases hlt : m < n
    · obtain ⟨b, o, x, rfl, _, hb, d0, hx⟩ := HP.out.cellAt hlt
      by_cases hr : x = v
      · have hr1 : (x == v) = true := by simpa using hr
        subst hr
        have HF := Lib.hid (contains_at hx.out)
        clear hx hA
        go_wp2
        go_ret
        exact ⟨ret_bool HF.out.symm, 0, rfl⟩
      · have hr1 : (x == v) = false := by simpa using hr
        have hA' := Lib.hid (upto_next (P := fun x => x ≠ v) hA.out hx.out hr)
        clear hx hA hr
        go_wp2
        go_roundw
        case rel => exact ⟨m + 1, by omega, by go_num, by trivial, hA'⟩
        case measure => simp [intOf]; omega
    · have HF : Hid (xs.contains v = false) := contains_none (upto_end hA.out (by have := HP.out.1; omega))
      clear hA
      go_wp2
      go_ret
      exact ⟨ret_bool HF.out.symm, 0, rfl⟩

set_option maxHeartbeats 1600000 in
theorem l4Watch_any (n c lo : Nat) (A : Option Addr) (xs : List Int) (w : World) (hp : Ints w lo A n xs) (hn : n ≤ maxLen) :
    Calls Tryz.prog 16 #[.slice A n c] w fun e w' => e = .returned (.int .i64 (watchF xs)) ∧ Below w.heap.size w w' := by
  have HP := Lib.hid hp
  have HL : Hid (xs.length = n) := hp.1
  clear hp
  unfold maxLen at hn
  by_cases hm : 4 < n
  · have HF := Lib.hid (watchF_many (ws := xs) (by rw [HL.out]; exact hm))
    go_enter Tryz.func16, Tryz.ntmps16
    go_wp2
    go_ret
    exact ⟨ret_i64 HF.out.symm, Below.refl _ _⟩
  have HM : Hid (¬ 4 < xs.length) := by show ¬ _; rw [HL.out]; exact hm
  go_enter Tryz.func16, Tryz.ntmps16
  go_wp2
  go_loopw [3] (fun i wr => ∃ m : Nat, m ≤ n ∧ i = .int .i64 m ∧ wr = w ∧ Hid (∀ (j : Nat) (x : Int), j < m → xs[j]? = some x → 0 ≤ x ∧ x ≤ 3)) (fun i _ => n - (intOf i).toNat)
  case atStart => exact ⟨0, Nat.zero_le _, rfl, rfl, fun j x hj => absurd hj (Nat.not_lt_zero _)⟩
  case round =>
    obtain ⟨m, hm', rfl, rfl, hA⟩ := hrel
    by_cases hlt : m < n
    · obtain ⟨b, o, x, rfl, _, hb, d0, hx⟩ := HP.out.cellAt hlt
      by_cases hr : 0 ≤ x ∧ x ≤ 3
      · have hA' := Lib.hid (upto_next (P := fun x => 0 ≤ x ∧ x ≤ 3) hA.out hx.out hr)
        clear hx hA
        go_wp2_with fail
        refine (l1In_yes _ _ _ _ hr.1 hr.2).mono ?_
        rintro e w' ⟨rfl, rfl⟩
        clear hr
        go_wp2
        go_roundw
        case rel => exact ⟨m + 1, by omega, by go_num, by trivial, hA'⟩
        case measure => simp [intOf]; omega
      · have HF := Lib.hid (watchF_out HM.out (allIn_false hx.out hr))
        clear hx hA
        go_wp2_with fail
        refine (l1In_no _ _ _ _ hr).mono ?_
        rintro e w' ⟨rfl, rfl⟩
        go_wp2
        go_ret
        exact ⟨ret_i64 HF.out.symm, Below.refl _ _⟩
    · have HR := Lib.hid (watchF_in HM.out (allIn_true (upto_end hA.out (by rw [HL.out]; omega))))
      clear hA
      go_wp2
      go_loopw [4] (fun i wq => ∃ m : Nat, m ≤ n ∧ i = .int .i64 ((m : Int) + 1) ∧ Hid (Below wr.heap.size wr wq) ∧ Hid (∀ (j : Nat) (p q : Int), j < m → xs[j]? = some p → xs[j + 1]? = some q → p < q)) (fun i _ => n + 1 - (intOf i).toNat)
      case atStart => exact ⟨0, Nat.zero_le _, rfl, Below.refl _ _, fun j p q hj => absurd hj (Nat.not_lt_zero _)⟩
      case round =>
        obtain ⟨m, hm2, rfl, hB, hA⟩ := hrel
        by_cases hlt : m + 1 < n
        · obtain ⟨b, o, p, q, rfl, hx, hy, d0, d1⟩ := HP.out.twoAt hB.out hlt
          have hlt' : (m : Int) + 1 < n := by omega
          by_cases hr : q ≤ p
          · have HF : Hid (watchF xs = 1) := by show watchF _ = _; rw [HR.out, risesL_false hx.out hy.out (show ¬ p < q by omega)]; rfl
            clear hx hy
            go_wp2
            go_quiet (fail)
            go_wp2
            go_ret
            exact ⟨ret_i64 HF.out.symm, below_draws hB.out _⟩
          · have hA' : Hid (∀ (j : Nat) (p q : Int), j < m + 1 → xs[j]? = some p → xs[j + 1]? = some q → p < q) := by
              intro j p' q' hj hp' hq'
              rcases Nat.lt_succ_iff_lt_or_eq.1 hj with h | h
              · exact hA.out j p' q' h hp' hq'
              · subst h; rw [hx.out] at hp'; rw [hy.out] at hq'; injection hp' with hp'; injection hq' with hq'; subst hp' hq'; omega
            clear hx hy hA
            go_wp2
            go_quiet (fail)
            go_wp2
            go_roundw
            case rel => exact ⟨m + 1, by omega, by go_num, below_draws hB.out _, hA'⟩
            case measure => simp [intOf]; omega
        · have HF : Hid (watchF xs = 0) := by
            show watchF _ = _
            rw [HR.out, risesL_true fun j u v hu hv => ?_]; rfl
            have hj := (List.getElem?_eq_some_iff.1 hv).1
            have hl := HP.out.1
            exact hA.out j u v (by omega) hu hv
          have hlt' : ¬ (m : Int) + 1 < n := by omega
          clear hA
          go_wp2
          go_ret
          exact ⟨ret_i64 HF.out.symm, hB.out⟩

set_option maxHeartbeats 400000 in
theorem l4Empty_any (w : World) : Calls Tryz.prog 31 #[] w fun e w' => e = .returned (.agg #[.int .i64 0, .int .i64 0, .int .i64 (-1), .slice none 0 0]) ∧ Below w.heap.size w w' := by
  go_enter Tryz.func31, Tryz.ntmps31
  go_wp2
  exact bodyPost_ret (v := .agg #[.int .i64 0, .int .i64 0, .int .i64 (-1), .slice none 0 0]) (by simp [results, Tryz.results31, go_sem]) rfl ⟨rfl, below_alloc _ _⟩
set_option maxHeartbeats 400000 in
theorem vacantNode_any (w : World) : Calls Tryz.prog 49 #[] w fun e w' => e = .returned (.agg #[.int .i64 0, .int .i64 0, .int .i64 (-1), .slice none 0 0]) ∧ Below w.heap.size w w' := by
  go_enter Tryz.func49, Tryz.ntmps49
  go_wp2
  exact bodyPost_ret (v := .agg #[.int .i64 0, .int .i64 0, .int .i64 (-1), .slice none 0 0]) (by simp [results, Tryz.results49, go_sem]) rfl ⟨rfl, below_alloc _ _⟩

end Go.Proofs.YtblhcnafoejahaaGreat
