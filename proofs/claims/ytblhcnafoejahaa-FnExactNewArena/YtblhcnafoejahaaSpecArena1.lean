/- What is wrong with an arena, said plainly. -/
import Derived.Test.YtblhcnafoejahaaArenas
import Derived.Test.YtblhcnafoejahaaSpecNode
import Derived.Test.YtblhcnafoejahaaSame
import Derived.Test.YtblhcnafoejahaaSameNodes
namespace Go.Proofs.Ytblhcnafoejahaa
open Go.RowKit

theorem allIn_true {l h : Int} {xs : List Int} (hp : ∀ (j : Nat) (x : Int), xs[j]? = some x → l ≤ x ∧ x ≤ h) : allIn l h xs = true := by
  unfold allIn
  rw [List.all_eq_true]
  intro x hx
  obtain ⟨j, hj⟩ := List.getElem?_of_mem hx
  have := hp j x hj
  simp [this.1, this.2]
theorem allIn_get {l h : Int} {xs : List Int} (hp : allIn l h xs = true) {k : Nat} {x : Int} (hk : xs[k]? = some x) : l ≤ x ∧ x ≤ h := by
  unfold allIn at hp
  rw [List.all_eq_true] at hp
  have := hp x (List.mem_of_getElem? hk)
  simpa using this

/-- What is wrong with those who watch. -/
def watchF (ws : List Int) : Int := if 4 < ws.length then 2 else if allIn 0 3 ws then (if risesL ws then 0 else 1) else 3
theorem watchF_many {ws : List Int} (h : 4 < ws.length) : watchF ws = 2 := by unfold watchF; rw [if_pos h]
theorem watchF_out {ws : List Int} (h : ¬ 4 < ws.length) (h2 : allIn 0 3 ws = false) : watchF ws = 3 := by unfold watchF; rw [if_neg h, h2]; rfl
theorem watchF_in {ws : List Int} (h : ¬ 4 < ws.length) (h2 : allIn 0 3 ws = true) : watchF ws = if risesL ws then 0 else 1 := by unfold watchF; rw [if_neg h, h2]; rfl

/-- What an empty node says. -/
def vacV : NVal := (0, 0, -1, [])
def vacAt (ns : List NVal) (x : Int) : Bool := (ns[x.toNat]?).any fun v => decide (v = vacV)
theorem vacAt_is {ns : List NVal} {k : Nat} {v : NVal} (h : ns[k]? = some v) : vacAt ns (k : Int) = decide (v = vacV) := by
  unfold vacAt
  rw [Int.toNat_natCast, h]; rfl
/-- What is wrong with the free places. -/
def freeF (ns : List NVal) (fs : List Int) : Int :=
  if allIn 0 ((ns.length : Int) - 1) fs then (if risesL fs && fs.all (vacAt ns) then 0 else 1) else 3
theorem freeF_out {ns : List NVal} {fs : List Int} (h : allIn 0 ((ns.length : Int) - 1) fs = false) : freeF ns fs = 3 := by unfold freeF; rw [h]; rfl
theorem freeF_fall {ns : List NVal} {fs : List Int} (h : allIn 0 ((ns.length : Int) - 1) fs = true) (h2 : risesL fs = false) : freeF ns fs = 1 := by unfold freeF; rw [h, h2]; rfl
theorem freeF_full {ns : List NVal} {fs : List Int} (h : allIn 0 ((ns.length : Int) - 1) fs = true) {k : Nat} {x : Int} (hk : fs[k]? = some x) (h2 : vacAt ns x = false) : freeF ns fs = 1 := by
  unfold freeF
  rw [h, all_stop hk h2, Bool.and_false]; rfl
theorem freeF_zero {ns : List NVal} {fs : List Int} (h : allIn 0 ((ns.length : Int) - 1) fs = true) (h2 : risesL fs = true) (h3 : ∀ (j : Nat) (x : Int), fs[j]? = some x → vacAt ns x = true) : freeF ns fs = 0 := by
  unfold freeF
  rw [h, h2, all_next h3]; rfl

/-- What is wrong with a retired place. -/
def retF (n : Nat) (r : RVal) : Int := if 0 ≤ r.1 ∧ r.1 ≤ (n : Int) - 1 then (if r.2.length = 0 then 2 else watchF r.2) else 3
theorem retF_out {n : Nat} {r : RVal} (h : ¬ (0 ≤ r.1 ∧ r.1 ≤ (n : Int) - 1)) : retF n r = 3 := by unfold retF; rw [if_neg h]
theorem retF_none {n : Nat} {r : RVal} (h : 0 ≤ r.1 ∧ r.1 ≤ (n : Int) - 1) (h2 : r.2.length = 0) : retF n r = 2 := by unfold retF; rw [if_pos h, if_pos h2]
theorem retF_watch {n : Nat} {r : RVal} (h : 0 ≤ r.1 ∧ r.1 ≤ (n : Int) - 1) (h2 : ¬ r.2.length = 0) : retF n r = watchF r.2 := by unfold retF; rw [if_pos h, if_neg h2]
theorem retF_zero {n : Nat} {r : RVal} (h : retF n r = 0) : (0 ≤ r.1 ∧ r.1 ≤ (n : Int) - 1) ∧ 0 < r.2.length ∧ r.2.length ≤ 4 := by
  unfold retF at h
  by_cases h1 : 0 ≤ r.1 ∧ r.1 ≤ (n : Int) - 1
  · rw [if_pos h1] at h
    by_cases h2 : r.2.length = 0
    · rw [if_pos h2] at h; omega
    · rw [if_neg h2] at h
      unfold watchF at h
      by_cases h3 : 4 < r.2.length
      · rw [if_pos h3] at h; omega
      · exact ⟨h1, by omega, by omega⟩
  · rw [if_neg h1] at h; omega

/-- Whether one of the places is free, or stands there twice. -/
def takenF (fs ids : List Int) : Bool := (List.range ids.length).any fun k => (ids[k]?).any fun x => fs.contains x || (ids.take k).contains x
theorem takenF_at {fs ids : List Int} {k : Nat} {x : Int} (hk : ids[k]? = some x) (h : fs.contains x = true ∨ (ids.take k).contains x = true) : takenF fs ids = true := by
  unfold takenF
  rw [List.any_eq_true]
  refine ⟨k, List.mem_range.2 (List.getElem?_eq_some_iff.1 hk).1, ?_⟩
  rw [hk]
  rcases h with h | h
  · simp only [Option.any_some, h, Bool.true_or]
  · simp only [Option.any_some, h, Bool.or_true]
theorem takenF_none {fs ids : List Int} (h : ∀ (k : Nat) (x : Int), ids[k]? = some x → fs.contains x = false ∧ (ids.take k).contains x = false) : takenF fs ids = false := by
  unfold takenF
  rw [List.any_eq_false]
  intro k hk
  have hk' := List.mem_range.1 hk
  rw [List.getElem?_eq_getElem hk']
  obtain ⟨h1, h2⟩ := h k _ (List.getElem?_eq_getElem hk')
  simp only [Option.any_some, h1, h2, Bool.or_self]; decide

def nodeFv (d : Int) (v : NVal) : Int := nodeF v.1 v.2.1 v.2.2.1 v.2.2.2 d
/-- What is wrong with an arena. -/
def arenaF (d : Int) (ns : List NVal) (fs : List Int) (rs : List RVal) : Int :=
  if 2 ≤ d ∧ d ≤ 3 then
    if 4 ≤ ns.length ∧ ns.length ≤ 40 then
      if firstNZ (nodeFv d) ns ≠ 0 then firstNZ (nodeFv d) ns
      else if freeF ns fs ≠ 0 then freeF ns fs
      else if firstNZ (retF ns.length) rs ≠ 0 then firstNZ (retF ns.length) rs
      else if takenF fs (rs.map (·.1)) then 6 else 0
    else 2
  else 3
section
variable {d : Int} {ns : List NVal} {fs : List Int} {rs : List RVal}
theorem arenaF_dim (h : ¬ (2 ≤ d ∧ d ≤ 3)) : arenaF d ns fs rs = 3 := by unfold arenaF; rw [if_neg h]
theorem arenaF_many (h : 2 ≤ d ∧ d ≤ 3) (h2 : ¬ (4 ≤ ns.length ∧ ns.length ≤ 40)) : arenaF d ns fs rs = 2 := by unfold arenaF; rw [if_pos h, if_neg h2]
theorem arenaF_node (h : 2 ≤ d ∧ d ≤ 3) (h2 : 4 ≤ ns.length ∧ ns.length ≤ 40) (h3 : firstNZ (nodeFv d) ns ≠ 0) : arenaF d ns fs rs = firstNZ (nodeFv d) ns := by unfold arenaF; rw [if_pos h, if_pos h2, if_pos h3]
theorem arenaF_free (h : 2 ≤ d ∧ d ≤ 3) (h2 : 4 ≤ ns.length ∧ ns.length ≤ 40) (h3 : firstNZ (nodeFv d) ns = 0) (h4 : freeF ns fs ≠ 0) : arenaF d ns fs rs = freeF ns fs := by unfold arenaF; rw [if_pos h, if_pos h2, if_neg (by simp [h3]), if_pos h4]
theorem arenaF_ret (h : 2 ≤ d ∧ d ≤ 3) (h2 : 4 ≤ ns.length ∧ ns.length ≤ 40) (h3 : firstNZ (nodeFv d) ns = 0) (h4 : freeF ns fs = 0) (h5 : firstNZ (retF ns.length) rs ≠ 0) : arenaF d ns fs rs = firstNZ (retF ns.length) rs := by unfold arenaF; rw [if_pos h, if_pos h2, if_neg (by simp [h3]), if_neg (by simp [h4]), if_pos h5]
theorem arenaF_taken (h : 2 ≤ d ∧ d ≤ 3) (h2 : 4 ≤ ns.length ∧ ns.length ≤ 40) (h3 : firstNZ (nodeFv d) ns = 0) (h4 : freeF ns fs = 0) (h5 : firstNZ (retF ns.length) rs = 0) : arenaF d ns fs rs = if takenF fs (rs.map (·.1)) then 6 else 0 := by unfold arenaF; rw [if_pos h, if_pos h2, if_neg (by simp [h3]), if_neg (by simp [h4]), if_neg (by simp [h5])]
theorem arenaF_zero (h : arenaF d ns fs rs = 0) : (2 ≤ d ∧ d ≤ 3) ∧ (4 ≤ ns.length ∧ ns.length ≤ 40) ∧ firstNZ (nodeFv d) ns = 0 ∧ freeF ns fs = 0 ∧ firstNZ (retF ns.length) rs = 0 ∧ takenF fs (rs.map (·.1)) = false := by
  by_cases h1 : 2 ≤ d ∧ d ≤ 3
  rotate_left
  · rw [arenaF_dim h1] at h; omega
  by_cases h2 : 4 ≤ ns.length ∧ ns.length ≤ 40
  rotate_left
  · rw [arenaF_many h1 h2] at h; omega
  by_cases h3 : firstNZ (nodeFv d) ns = 0
  rotate_left
  · rw [arenaF_node h1 h2 h3] at h; exact absurd h h3
  by_cases h4 : freeF ns fs = 0
  rotate_left
  · rw [arenaF_free h1 h2 h3 h4] at h; exact absurd h h4
  by_cases h5 : firstNZ (retF ns.length) rs = 0
  rotate_left
  · rw [arenaF_ret h1 h2 h3 h4 h5] at h; exact absurd h h5
  rw [arenaF_taken h1 h2 h3 h4 h5] at h
  cases h6 : takenF fs (rs.map (·.1))
  · exact ⟨h1, h2, h3, h4, h5, rfl⟩
  · rw [h6] at h; simp at h
end

theorem nval_get {ps : List NV} {k : Nat} {p : NV} (h : ps[k]? = some p) : (ps.map NV.val)[k]? = some p.val := by simp [h]
theorem rval_get {ps : List RV} {k : Nat} {p : RV} (h : ps[k]? = some p) : (ps.map RV.val)[k]? = some p.val := by simp [h]
theorem rid_get {ps : List RV} {k : Nat} {p : RV} (h : ps[k]? = some p) : ((ps.map RV.val).map (·.1))[k]? = some p.id := by simp [h, RV.val]

end Go.Proofs.Ytblhcnafoejahaa

/- The walks of spec.l4Place, l1Has, l4Watch, l4Empty. -/
namespace Go.Proofs.Ytblhcnafoejahaa
open Go.RowKit


theorem contains_at {xs : List Int} {k : Nat} {x : Int} (h : xs[k]? = some x) : xs.contains x = true := by
  rw [List.contains_iff_mem]; exact List.mem_of_getElem? h
theorem contains_none {xs : List Int} {v : Int} (h : ∀ (j : Nat) (x : Int), xs[j]? = some x → x ≠ v) : xs.contains v = false := by
  rw [← Bool.not_eq_true, List.contains_iff_mem]
  intro hm
  obtain ⟨j, hj⟩ := List.getElem?_of_mem hm
  exact h j v hj rfl



set_option maxHeartbeats 400000 in
theorem l4Empty_any (w : World) : Calls Try.prog 73 #[] w fun e w' => e = .returned (.agg #[.int .i64 0, .int .i64 0, .int .i64 (-1), .slice none 0 0]) ∧ Below w.heap.size w w' := by
  go_enter Try.func73, Try.ntmps73
  go_wp2
  exact bodyPost_ret (v := .agg #[.int .i64 0, .int .i64 0, .int .i64 (-1), .slice none 0 0]) (by simp [results, Try.results73, go_sem]) rfl ⟨rfl, below_alloc _ _⟩
set_option maxHeartbeats 400000 in
theorem vacantNode_any (w : World) : Calls Try.prog 75 #[] w fun e w' => e = .returned (.agg #[.int .i64 0, .int .i64 0, .int .i64 (-1), .slice none 0 0]) ∧ Below w.heap.size w w' := by
  go_enter Try.func75, Try.ntmps75
  go_wp2
  exact bodyPost_ret (v := .agg #[.int .i64 0, .int .i64 0, .int .i64 (-1), .slice none 0 0]) (by simp [results, Try.results75, go_sem]) rfl ⟨rfl, below_alloc _ _⟩

end Go.Proofs.Ytblhcnafoejahaa
