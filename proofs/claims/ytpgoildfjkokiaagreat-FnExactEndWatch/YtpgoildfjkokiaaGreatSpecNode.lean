/- The walks of (box).rect and impl.rectsFault. -/
import Derived.Test.YtpgoildfjkokiaaGreatCorners
import Derived.Test.YtpgoildfjkokiaaGreatEntryLists
namespace Go.Proofs.YtpgoildfjkokiaaGreat
open Go.RowKit

set_option maxHeartbeats 1600000 in
theorem rect_any (p0 p1 p2 q0 q1 q2 d : Int) (n : Nat) (xs ys : List Int) (w : World) (hp : Pad xs p0 p1 p2) (hq : Pad ys q0 q1 q2) (hn : xs.length = n) (hm : ys.length = n) (hd : d = n) :
    Calls Tryz.prog 175 #[.agg #[.int .i64 p0, .int .i64 p1, .int .i64 p2, .int .i64 q0, .int .i64 q1, .int .i64 q2], .int .i64 d] w fun e w' => ∃ g g', e = .returned (.agg #[.slice (some ⟨g, 0, none⟩) n n, .slice (some ⟨g', 0, none⟩) n n]) ∧
      Own w' g n xs ∧ Own w' g' n ys ∧ w.heap.size ≤ g ∧ g < g' ∧ Below w.heap.size w w' := by
  have B0 : Hid (Below w.heap.size w ((w.alloc (.cells #[.int .i64 p0, .int .i64 p1, .int .i64 p2, .int .i64 q0, .int .i64 q1, .int .i64 q2] 179)).alloc (.cells #[.slice none 0 0, .slice none 0 0] 148))) := (below_alloc _ _).alloc (by simp) _
  have HP := Lib.hid hp
  have HQ := Lib.hid hq
  have HN := Lib.hid hn
  have HM := Lib.hid hm
  have HD := Lib.hid hd
  have L0 := Lib.hid ((Lies.new w 179 #[.int .i64 p0, .int .i64 p1, .int .i64 p2, .int .i64 q0, .int .i64 q1, .int .i64 q2]).alloc (.cells #[.slice none 0 0, .slice none 0 0] 148))
  have L1 := Lib.hid (Lies.new (w.alloc (.cells #[.int .i64 p0, .int .i64 p1, .int .i64 p2, .int .i64 q0, .int .i64 q1, .int .i64 q2] 179)) 148 #[.slice none 0 0, .slice none 0 0])
  simp only [World.size_alloc] at L1
  clear hp hq hn hm hd
  go_enter Tryz.func175, Tryz.ntmps175
  go_wp2
  generalize hW : ((w.alloc (.cells #[.int .i64 p0, .int .i64 p1, .int .i64 p2, .int .i64 q0, .int .i64 q1, .int .i64 q2] 179)).alloc (.cells #[.slice none 0 0, .slice none 0 0] 148)) = W0 at *
  clear hW
  have hs0 : w.heap.size + 1 < W0.heap.size := L1.out.inside
  have c0 : W0.cell? ⟨w.heap.size, 0, none⟩ = some (.int .i64 p0) ∧ W0.cell? ⟨w.heap.size, 1, none⟩ = some (.int .i64 p1) ∧ W0.cell? ⟨w.heap.size, 2, none⟩ = some (.int .i64 p2) ∧ W0.cell? ⟨w.heap.size, 3, none⟩ = some (.int .i64 q0) ∧ W0.cell? ⟨w.heap.size, 4, none⟩ = some (.int .i64 q1) ∧ W0.cell? ⟨w.heap.size, 5, none⟩ = some (.int .i64 q2) := ⟨(L0.out).cell 0, (L0.out).cell 1, (L0.out).cell 2, (L0.out).cell 3, (L0.out).cell 4, (L0.out).cell 5⟩
  go_region_held3 (fun w' => w'.cell? ⟨w.heap.size, 0, none⟩ = some (.int .i64 p0) ∧ w'.cell? ⟨w.heap.size, 1, none⟩ = some (.int .i64 p1) ∧ w'.cell? ⟨w.heap.size, 2, none⟩ = some (.int .i64 p2) ∧ w'.cell? ⟨w.heap.size, 3, none⟩ = some (.int .i64 q0) ∧ w'.cell? ⟨w.heap.size, 4, none⟩ = some (.int .i64 q1) ∧ w'.cell? ⟨w.heap.size, 5, none⟩ = some (.int .i64 q2))
    (first | (simp [go_sem, c0]; done) | with_reducible exact K1 | with_reducible exact K2 | (simp [go_sem, K2]; done))
    (first
      | (go_at_call_of 176 (Value.agg #[.int .i64 p0, .int .i64 p1, .int .i64 p2]); refine (point_any _ _ _ _ _ _ _ HP.out HN.out HD.out).mono ?_
         rintro e W1 ⟨g, rfl, hg, o1, b1d⟩
         have b1 := below_drawn b1d
         have hg1 : W0.heap.size ≤ g := hg
         have O1 := Lib.hid o1
         have K1 : W1.cell? ⟨w.heap.size, 0, none⟩ = some (.int .i64 p0) ∧ W1.cell? ⟨w.heap.size, 1, none⟩ = some (.int .i64 p1) ∧ W1.cell? ⟨w.heap.size, 2, none⟩ = some (.int .i64 p2) ∧ W1.cell? ⟨w.heap.size, 3, none⟩ = some (.int .i64 q0) ∧ W1.cell? ⟨w.heap.size, 4, none⟩ = some (.int .i64 q1) ∧ W1.cell? ⟨w.heap.size, 5, none⟩ = some (.int .i64 q2) := ⟨(L0.out.kept b1 L0.out.inside).cell 0, (L0.out.kept b1 L0.out.inside).cell 1, (L0.out.kept b1 L0.out.inside).cell 2, (L0.out.kept b1 L0.out.inside).cell 3, (L0.out.kept b1 L0.out.inside).cell 4, (L0.out.kept b1 L0.out.inside).cell 5⟩
         clear b1d hg o1)
      | (go_at_call_of 176 (Value.agg #[.int .i64 q0, .int .i64 q1, .int .i64 q2]); refine (point_any _ _ _ _ _ _ _ HQ.out HM.out HD.out).mono ?_
         rintro e W2 ⟨g', rfl, hg2, o2, b2⟩
         have O2 := Lib.hid o2
         have K2 : W2.cell? ⟨w.heap.size, 0, none⟩ = some (.int .i64 p0) ∧ W2.cell? ⟨w.heap.size, 1, none⟩ = some (.int .i64 p1) ∧ W2.cell? ⟨w.heap.size, 2, none⟩ = some (.int .i64 p2) ∧ W2.cell? ⟨w.heap.size, 3, none⟩ = some (.int .i64 q0) ∧ W2.cell? ⟨w.heap.size, 4, none⟩ = some (.int .i64 q1) ∧ W2.cell? ⟨w.heap.size, 5, none⟩ = some (.int .i64 q2) := ⟨((L0.out.kept b1 L0.out.inside).kept b2 (L0.out.kept b1 L0.out.inside).inside).cell 0, ((L0.out.kept b1 L0.out.inside).kept b2 (L0.out.kept b1 L0.out.inside).inside).cell 1, ((L0.out.kept b1 L0.out.inside).kept b2 (L0.out.kept b1 L0.out.inside).inside).cell 2, ((L0.out.kept b1 L0.out.inside).kept b2 (L0.out.kept b1 L0.out.inside).inside).cell 3, ((L0.out.kept b1 L0.out.inside).kept b2 (L0.out.kept b1 L0.out.inside).inside).cell 4, ((L0.out.kept b1 L0.out.inside).kept b2 (L0.out.kept b1 L0.out.inside).inside).cell 5⟩
         have z0 : W2.cell? ⟨w.heap.size + 1, 0, none⟩ = some (.slice none 0 0) := ((L1.out.kept b1 L1.out.inside).kept b2 (L1.out.kept b1 L1.out.inside).inside).cell 0
         have z1 : W2.cell? ⟨w.heap.size + 1, 1, none⟩ = some (.slice none 0 0) := ((L1.out.kept b1 L1.out.inside).kept b2 (L1.out.kept b1 L1.out.inside).inside).cell 1
         have y0 : W2.frozen? ⟨w.heap.size + 1, 0, none⟩ = false := ((L1.out.kept b1 L1.out.inside).kept b2 (L1.out.kept b1 L1.out.inside).inside).thawed 0
         have y1 : W2.frozen? ⟨w.heap.size + 1, 1, none⟩ = false := ((L1.out.kept b1 L1.out.inside).kept b2 (L1.out.kept b1 L1.out.inside).inside).thawed 1
         clear o2))
  go_wp2
  have hgi : g < W1.heap.size := O1.out.inside
  refine bodyPost_ret (v := .agg #[.slice (some ⟨g, 0, none⟩) n n, .slice (some ⟨g', 0, none⟩) n n]) (by simp [results, Tryz.results175, go_sem, z0, z1]) rfl ⟨g, g', rfl, ?_, ?_, by omega, by omega, ?_⟩
  · exact ((O1.out.kept b2).far (by show g ≠ w.heap.size + 1; omega) _).far (by show g ≠ w.heap.size + 1; omega) _
  · exact (O2.out.far (by show g' ≠ w.heap.size + 1; omega) _).far (by show g' ≠ w.heap.size + 1; omega) _
  · have BE := (B0.out.trans (b1.mono B0.out.size)).trans (b2.mono (Nat.le_trans B0.out.size b1.size))
    repeat (with_reducible refine Below.setCell ?_ (by exact Nat.le_succ _) _)
    exact BE

/-- What is wrong with two boxes. -/
def rf2 (xs ys us vs : List Int) : Int := if rf xs ys xs.length ≠ 0 then rf xs ys xs.length else rf us vs xs.length


end Go.Proofs.YtpgoildfjkokiaaGreat

/- The plain mathematics of a node's fault: the first entry with which something is wrong, whether all fit, the place of a Ref, whether one stands twice. No Go text. -/
namespace Go.Proofs.YtpgoildfjkokiaaGreat
open Go.RowKit

/-- The first of f's values that is not 0. -/
def firstNZ {α : Type} (f : α → Int) : List α → Int
  | [] => 0
  | v :: vs => if f v ≠ 0 then f v else firstNZ f vs
theorem firstNZ_stop {α : Type} {f : α → Int} : ∀ {vs : List α} {k : Nat} {v : α}, (∀ (j : Nat) (u : α), j < k → vs[j]? = some u → f u = 0) → vs[k]? = some v → f v ≠ 0 → firstNZ f vs = f v
  | [], k, v, _, hk, _ => by simp at hk
  | u :: vs, 0, v, _, hk, hv => by
    simp at hk; subst hk
    rw [firstNZ, if_pos hv]
  | u :: vs, k + 1, v, hp, hk, hv => by
    have h0 := hp 0 u (by omega) (by simp)
    rw [firstNZ, if_neg (by simp [h0])]
    exact firstNZ_stop (k := k) (fun j u' hj hu => hp (j + 1) u' (by omega) (by simpa using hu)) (by simpa using hk) hv
theorem firstNZ_all {α : Type} {f : α → Int} : ∀ {vs : List α}, (∀ (j : Nat) (u : α), vs[j]? = some u → f u = 0) → firstNZ f vs = 0
  | [], _ => rfl
  | u :: vs, hp => by
    have h0 := hp 0 u (by simp)
    rw [firstNZ, if_neg (by simp [h0])]
    exact firstNZ_all fun j u' hu => hp (j + 1) u' (by simpa using hu)
theorem firstNZ_zero {α : Type} {f : α → Int} : ∀ {vs : List α}, firstNZ f vs = 0 → ∀ (j : Nat) (u : α), vs[j]? = some u → f u = 0
  | [], _, j, u, hu => by simp at hu
  | v :: vs, h, j, u, hu => by
    rw [firstNZ] at h
    by_cases hv : f v = 0
    · rw [if_neg (by simp [hv])] at h
      cases j with
      | zero => simp at hu; subst hu; exact hv
      | succ j => exact firstNZ_zero h j u (by simpa using hu)
    · rw [if_pos hv] at h; exact absurd h hv

/-- What is wrong with an entry. -/
def entF (d : Int) (v : EVal) : Int := if rf v.1 v.2.1 d ≠ 0 then rf v.1 v.2.1 d else if (0 ≤ v.2.2.1 ∧ v.2.2.1 ≤ 999) ∧ 0 ≤ v.2.2.2 ∧ v.2.2.2 ≤ 100000 then 0 else 3
/-- Whether an entry fits to a level. -/
def fitsE (lv : Int) (v : EVal) : Bool := if lv = 0 then v.2.2.2 == 0 else decide (v.2.2.1 < 40)
/-- The place of the first entry with this Ref, or -1. -/
def findE (r : Int) : List EVal → Int
  | [] => -1
  | v :: vs => if v.2.2.1 = r then 0 else if findE r vs < 0 then -1 else findE r vs + 1
theorem findE_low (r : Int) : ∀ vs : List EVal, -1 ≤ findE r vs
  | [] => by simp [findE]
  | v :: vs => by
    have := findE_low r vs
    rw [findE]; split
    · omega
    · split <;> omega
theorem findE_stop {r : Int} : ∀ {vs : List EVal} {k : Nat} {v : EVal}, (∀ (j : Nat) (u : EVal), j < k → vs[j]? = some u → u.2.2.1 ≠ r) → vs[k]? = some v → v.2.2.1 = r → findE r vs = k
  | [], k, v, _, hk, _ => by simp at hk
  | u :: vs, 0, v, _, hk, hv => by
    simp at hk; subst hk
    rw [findE, if_pos hv]; simp
  | u :: vs, k + 1, v, hp, hk, hv => by
    have h0 := hp 0 u (by omega) (by simp)
    have h1 := findE_stop (k := k) (fun j u' hj hu => hp (j + 1) u' (by omega) (by simpa using hu)) (by simpa using hk) hv
    rw [findE, if_neg h0, h1, if_neg (by omega)]; simp
theorem findE_none {r : Int} : ∀ {vs : List EVal}, (∀ (j : Nat) (u : EVal), vs[j]? = some u → u.2.2.1 ≠ r) → findE r vs = -1
  | [], _ => rfl
  | u :: vs, hp => by
    have h0 := hp 0 u (by simp)
    have h1 := findE_none (vs := vs) (fun j u' hu => hp (j + 1) u' (by simpa using hu))
    rw [findE, if_neg h0, h1, if_pos (by omega)]
theorem findE_lt (r : Int) : ∀ vs : List EVal, findE r vs < vs.length ∨ vs = []
  | [] => Or.inr rfl
  | v :: vs => by
    left
    rw [findE]; split
    · simp only [List.length_cons]; omega
    · rcases findE_lt r vs with h | h
      · split <;> (simp only [List.length_cons]; omega)
      · subst h; simp [findE]
theorem findE_at {r : Int} : ∀ {vs : List EVal} {k : Nat}, findE r vs = k → ∃ v, vs[k]? = some v ∧ v.2.2.1 = r
  | [], k, h => by simp [findE] at h
  | u :: vs, k, h => by
    rw [findE] at h
    by_cases hu : u.2.2.1 = r
    · rw [if_pos hu] at h
      have : k = 0 := by omega
      subst this
      exact ⟨u, by simp, hu⟩
    · rw [if_neg hu] at h
      by_cases hn : findE r vs < 0
      · rw [if_pos hn] at h; omega
      · rw [if_neg hn] at h
        cases k with
        | zero => omega
        | succ k =>
          obtain ⟨v, h1, h2⟩ := findE_at (r := r) (vs := vs) (k := k) (by omega)
          exact ⟨v, by simpa using h1, h2⟩

/-- Whether an entry's Ref stands ahead of it, too. -/
def twiceE (vs : List EVal) : Bool := (List.range vs.length).any fun j => (vs[j]?).any fun u => decide (findE u.2.2.1 vs ≠ (j : Int))
theorem twiceE_at {vs : List EVal} {j : Nat} {u : EVal} (h : vs[j]? = some u) (hf : findE u.2.2.1 vs ≠ (j : Int)) : twiceE vs = true := by
  unfold twiceE
  rw [List.any_eq_true]
  exact ⟨j, List.mem_range.2 (List.getElem?_eq_some_iff.1 h).1, by rw [h]; simpa using hf⟩
theorem twiceE_none {vs : List EVal} (h : ∀ (j : Nat) (u : EVal), vs[j]? = some u → findE u.2.2.1 vs = (j : Int)) : twiceE vs = false := by
  unfold twiceE
  rw [List.any_eq_false]
  intro j hj
  cases hv : vs[j]? with
  | none => simp
  | some u => simp [h j u hv]
theorem twiceE_once {vs : List EVal} (h : twiceE vs = false) : ∀ (j : Nat) (u : EVal), vs[j]? = some u → findE u.2.2.1 vs = (j : Int) := by
  intro j u hu
  by_cases hf : findE u.2.2.1 vs = (j : Int)
  · exact hf
  · rw [twiceE_at hu hf] at h; exact absurd h (by simp)

theorem all_next {α : Type} {f : α → Bool} {vs : List α} (h : ∀ (j : Nat) (u : α), vs[j]? = some u → f u = true) : vs.all f = true := by
  rw [List.all_eq_true]
  intro u hu
  obtain ⟨j, hj, rfl⟩ := List.getElem_of_mem hu
  exact h j _ (List.getElem?_eq_getElem hj)
theorem all_stop {α : Type} {f : α → Bool} {vs : List α} {k : Nat} {u : α} (h : vs[k]? = some u) (hf : f u = false) : vs.all f = false := by
  rw [List.all_eq_false]
  exact ⟨u, List.mem_of_getElem? h, by simp [hf]⟩
theorem all_at {α : Type} {f : α → Bool} {vs : List α} (h : vs.all f = true) {k : Nat} {u : α} (hu : vs[k]? = some u) : f u = true := List.all_eq_true.1 h u (List.mem_of_getElem? hu)
/-- What holds of the first k holds of one more. -/
theorem upto_next {α : Type} {P : α → Prop} {vs : List α} {k : Nat} {v : α} (h : ∀ (j : Nat) (u : α), j < k → vs[j]? = some u → P u) (hk : vs[k]? = some v) (hv : P v) : ∀ (j : Nat) (u : α), j < k + 1 → vs[j]? = some u → P u := by
  intro j u hj hu
  rcases Nat.lt_succ_iff_lt_or_eq.1 hj with h' | h'
  · exact h j u h' hu
  · subst h'; rw [hk] at hu; injection hu with hu; subst hu; exact hv
theorem upto_end {α : Type} {P : α → Prop} {vs : List α} {k : Nat} (h : ∀ (j : Nat) (u : α), j < k → vs[j]? = some u → P u) (hk : vs.length ≤ k) : ∀ (j : Nat) (u : α), vs[j]? = some u → P u :=
  fun j u hu => h j u (Nat.lt_of_lt_of_le (List.getElem?_eq_some_iff.1 hu).1 hk) hu
theorem uptoAt_next {α : Type} {P : Nat → α → Prop} {vs : List α} {k : Nat} {v : α} (h : ∀ (j : Nat) (u : α), j < k → vs[j]? = some u → P j u) (hk : vs[k]? = some v) (hv : P k v) : ∀ (j : Nat) (u : α), j < k + 1 → vs[j]? = some u → P j u := by
  intro j u hj hu
  rcases Nat.lt_succ_iff_lt_or_eq.1 hj with h' | h'
  · exact h j u h' hu
  · subst h'; rw [hk] at hu; injection hu with hu; subst hu; exact hv
theorem uptoAt_end {α : Type} {P : Nat → α → Prop} {vs : List α} {k : Nat} (h : ∀ (j : Nat) (u : α), j < k → vs[j]? = some u → P j u) (hk : vs.length ≤ k) : ∀ (j : Nat) (u : α), vs[j]? = some u → P j u :=
  fun j u hu => h j u (Nat.lt_of_lt_of_le (List.getElem?_eq_some_iff.1 hu).1 hk) hu

/-- The head of a node is right. -/
def headOk (lv ns rt d : Int) : Prop := (2 ≤ d ∧ d ≤ 3) ∧ (0 ≤ lv ∧ lv ≤ 6) ∧ (0 ≤ ns ∧ ns ≤ 100000) ∧ -1 ≤ rt ∧ rt ≤ 39
instance (lv ns rt d : Int) : Decidable (headOk lv ns rt d) := by unfold headOk; infer_instance
/-- What is wrong with a node. -/
def nodeF (lv ns rt : Int) (vs : List EVal) (d : Int) : Int :=
  if headOk lv ns rt d then
    if 5 < vs.length then 2 else if firstNZ (entF d) vs ≠ 0 then firstNZ (entF d) vs else if vs.all (fitsE lv) then if twiceE vs then 6 else 0 else 1
  else 3
theorem nodeF_head {lv ns rt d : Int} {vs : List EVal} (h : ¬ headOk lv ns rt d) : nodeF lv ns rt vs d = 3 := by unfold nodeF; rw [if_neg h]
theorem nodeF_many {lv ns rt d : Int} {vs : List EVal} (h : headOk lv ns rt d) (h2 : 5 < vs.length) : nodeF lv ns rt vs d = 2 := by unfold nodeF; rw [if_pos h, if_pos h2]
theorem nodeF_first {lv ns rt d : Int} {vs : List EVal} (h : headOk lv ns rt d) (h2 : ¬ 5 < vs.length) (h3 : firstNZ (entF d) vs ≠ 0) : nodeF lv ns rt vs d = firstNZ (entF d) vs := by unfold nodeF; rw [if_pos h, if_neg h2, if_pos h3]
theorem nodeF_form {lv ns rt d : Int} {vs : List EVal} (h : headOk lv ns rt d) (h2 : ¬ 5 < vs.length) (h3 : firstNZ (entF d) vs = 0) (h4 : vs.all (fitsE lv) = false) : nodeF lv ns rt vs d = 1 := by
  unfold nodeF; rw [if_pos h, if_neg h2, if_neg (by simp [h3]), h4]; simp
theorem nodeF_twice {lv ns rt d : Int} {vs : List EVal} (h : headOk lv ns rt d) (h2 : ¬ 5 < vs.length) (h3 : firstNZ (entF d) vs = 0) (h4 : vs.all (fitsE lv) = true) : nodeF lv ns rt vs d = if twiceE vs then 6 else 0 := by
  unfold nodeF; rw [if_pos h, if_neg h2, if_neg (by simp [h3]), h4]; simp
/-- What a node without a fault is like. -/
theorem nodeF_zero {lv ns rt d : Int} {vs : List EVal} (h : nodeF lv ns rt vs d = 0) : headOk lv ns rt d ∧ vs.length ≤ 5 ∧ (∀ (j : Nat) (u : EVal), vs[j]? = some u → entF d u = 0) ∧ vs.all (fitsE lv) = true ∧ twiceE vs = false := by
  by_cases h1 : headOk lv ns rt d
  · by_cases h2 : 5 < vs.length
    · rw [nodeF_many h1 h2] at h; omega
    · by_cases h3 : firstNZ (entF d) vs = 0
      · cases h4 : vs.all (fitsE lv)
        · rw [nodeF_form h1 h2 h3 h4] at h; omega
        · rw [nodeF_twice h1 h2 h3 h4] at h
          cases h5 : twiceE vs
          · exact ⟨h1, by omega, firstNZ_zero h3, rfl, rfl⟩
          · rw [h5] at h; simp at h
      · rw [nodeF_first h1 h2 h3] at h; exact absurd h h3
  · rw [nodeF_head h1] at h; omega
theorem entF_zero {d : Int} {v : EVal} (h : entF d v = 0) : rf v.1 v.2.1 d = 0 ∧ (0 ≤ v.2.2.1 ∧ v.2.2.1 ≤ 999) ∧ 0 ≤ v.2.2.2 ∧ v.2.2.2 ≤ 100000 := by
  unfold entF at h
  by_cases h1 : rf v.1 v.2.1 d = 0
  · rw [if_neg (by simp [h1])] at h
    by_cases h2 : (0 ≤ v.2.2.1 ∧ v.2.2.1 ≤ 999) ∧ 0 ≤ v.2.2.2 ∧ v.2.2.2 ≤ 100000
    · exact ⟨h1, h2⟩
    · rw [if_neg h2] at h; omega
  · rw [if_pos h1] at h; exact absurd h h1

theorem eval_get {ps : List EV} {k : Nat} {p : EV} (h : ps[k]? = some p) : (ps.map EV.val)[k]? = some p.val := by simp [h]

end Go.Proofs.YtpgoildfjkokiaaGreat

/- The walks of spec.l3Entry, spec.l3Fits, spec.l3Find, spec.NodeFault. No condition but lengths. -/
namespace Go.Proofs.YtpgoildfjkokiaaGreat
open Go.RowKit

theorem entF_rf {d : Int} {v : EVal} (h : rf v.1 v.2.1 d ≠ 0) : entF d v = rf v.1 v.2.1 d := by unfold entF; rw [if_pos h]
theorem entF_no {d : Int} {v : EVal} (h : rf v.1 v.2.1 d = 0) (h2 : ¬ ((0 ≤ v.2.2.1 ∧ v.2.2.1 ≤ 999) ∧ 0 ≤ v.2.2.2 ∧ v.2.2.2 ≤ 100000)) : entF d v = 3 := by unfold entF; rw [if_neg (by simp [h]), if_neg h2]
theorem entF_yes {d : Int} {v : EVal} (h : rf v.1 v.2.1 d = 0) (h2 : (0 ≤ v.2.2.1 ∧ v.2.2.1 ≤ 999) ∧ 0 ≤ v.2.2.2 ∧ v.2.2.2 ≤ 100000) : entF d v = 0 := by unfold entF; rw [if_neg (by simp [h]), if_pos h2]

set_option maxHeartbeats 1600000 in
theorem l3Entry_any (d ref nsn : Int) (b f n1 c1 n2 c2 : Nat) (A1 A2 : Option Addr) (x1 x2 : List Int) (w : World) (hb : b < w.heap.size) (k0 : w.cell? ⟨b, f, none⟩ = some (.slice A1 n1 c1)) (k1 : w.cell? ⟨b, f + 1, none⟩ = some (.slice A2 n2 c2)) (k2 : w.cell? ⟨b, f + 2, none⟩ = some (.int .i64 ref)) (k3 : w.cell? ⟨b, f + 3, none⟩ = some (.int .i64 nsn))
    (h1 : Ints w 0 A1 n1 x1) (h2 : Ints w 0 A2 n2 x2) (m1 : n1 ≤ maxLen) (m2 : n2 ≤ maxLen) :
    Calls Tryz.prog 112 #[.pointer (some ⟨b, f, none⟩), .int .i64 d] w fun e w' => e = .returned (.int .i64 (entF d (x1, x2, ref, nsn))) ∧ Below w.heap.size w w' := by
  have I_1 := Lib.hid h1
  have I_2 := Lib.hid h2
  have K2 := Lib.hid k2
  have K3 := Lib.hid k3
  clear h1 h2 k2 k3
  by_cases hr : rf x1 x2 d = 0
  rotate_left
  · have HF : Hid (entF d (x1, x2, ref, nsn) = rf x1 x2 d) := entF_rf hr
    have hr1 : (rf x1 x2 d != 0) = true := by simpa using hr
    clear hr
    go_enter Tryz.func112, Tryz.ntmps112
    go_wp2_with fail
    refine (specRectFault_any _ _ _ _ _ _ _ _ _ x1 x2 _ I_1.out I_2.out m1 m2).mono ?_
    rintro e W1 ⟨rfl, b1⟩
    go_wp2
    go_ret
    exact ⟨ret_i64 HF.out.symm, b1⟩
  have HR := Lib.hid hr
  have hr1 : (rf x1 x2 d != 0) = false := by simp [hr]
  clear hr
  by_cases hi : 0 ≤ ref ∧ ref ≤ 999
  rotate_left
  · have HF : Hid (entF d (x1, x2, ref, nsn) = 3) := entF_no HR.out (fun h => hi h.1)
    go_enter Tryz.func112, Tryz.ntmps112
    go_wp2_with fail
    refine (specRectFault_any _ _ _ _ _ _ _ _ _ x1 x2 _ I_1.out I_2.out m1 m2).mono ?_
    rintro e W1 ⟨rfl, b1⟩
    have c2' : W1.cell? ⟨b, f + 2, none⟩ = some (.int .i64 ref) := (b1.cell (p := ⟨b, f + 2, none⟩) hb).trans K2.out
    go_wp2_with fail
    refine (l1In_no _ _ _ _ hi).mono ?_
    rintro e w' ⟨rfl, rfl⟩
    go_wp2
    go_ret
    exact ⟨ret_i64 HF.out.symm, b1⟩
  by_cases hj : 0 ≤ nsn ∧ nsn ≤ 100000
  rotate_left
  · have HF : Hid (entF d (x1, x2, ref, nsn) = 3) := entF_no HR.out (fun h => hj h.2)
    go_enter Tryz.func112, Tryz.ntmps112
    go_wp2_with fail
    refine (specRectFault_any _ _ _ _ _ _ _ _ _ x1 x2 _ I_1.out I_2.out m1 m2).mono ?_
    rintro e W1 ⟨rfl, b1⟩
    have c2' : W1.cell? ⟨b, f + 2, none⟩ = some (.int .i64 ref) := (b1.cell (p := ⟨b, f + 2, none⟩) hb).trans K2.out
    have c3' : W1.cell? ⟨b, f + 3, none⟩ = some (.int .i64 nsn) := (b1.cell (p := ⟨b, f + 3, none⟩) hb).trans K3.out
    go_wp2_with fail
    refine (l1In_yes _ _ _ _ hi.1 hi.2).mono ?_
    rintro e w' ⟨rfl, rfl⟩
    go_wp2_with fail
    refine (l1In_no _ _ _ _ hj).mono ?_
    rintro e w' ⟨rfl, rfl⟩
    go_wp2
    go_ret
    exact ⟨ret_i64 HF.out.symm, b1⟩
  · have HF : Hid (entF d (x1, x2, ref, nsn) = 0) := entF_yes HR.out ⟨hi, hj⟩
    go_enter Tryz.func112, Tryz.ntmps112
    go_wp2_with fail
    refine (specRectFault_any _ _ _ _ _ _ _ _ _ x1 x2 _ I_1.out I_2.out m1 m2).mono ?_
    rintro e W1 ⟨rfl, b1⟩
    have c2' : W1.cell? ⟨b, f + 2, none⟩ = some (.int .i64 ref) := (b1.cell (p := ⟨b, f + 2, none⟩) hb).trans K2.out
    have c3' : W1.cell? ⟨b, f + 3, none⟩ = some (.int .i64 nsn) := (b1.cell (p := ⟨b, f + 3, none⟩) hb).trans K3.out
    go_wp2_with fail
    refine (l1In_yes _ _ _ _ hi.1 hi.2).mono ?_
    rintro e w' ⟨rfl, rfl⟩
    go_wp2_with fail
    refine (l1In_yes _ _ _ _ hj.1 hj.2).mono ?_
    rintro e w' ⟨rfl, rfl⟩
    go_wp2
    go_ret
    exact ⟨ret_i64 HF.out.symm, b1⟩

set_option maxHeartbeats 400000 in
theorem l3Fits_any (lv ref nsn : Int) (b f : Nat) (x1 x2 : List Int) (w : World) (k2 : w.cell? ⟨b, f + 2, none⟩ = some (.int .i64 ref)) (k3 : w.cell? ⟨b, f + 3, none⟩ = some (.int .i64 nsn)) :
    Calls Tryz.prog 113 #[.int .i64 lv, .pointer (some ⟨b, f, none⟩)] w fun e w' => e = .returned (.bool (fitsE lv (x1, x2, ref, nsn))) ∧ w = w' := by
  by_cases h : lv = 0
  · have HF : Hid (fitsE lv (x1, x2, ref, nsn) = (nsn == 0)) := by show fitsE _ _ = _; simp [fitsE, h]
    have h1 : (lv == 0) = true := by simpa using h
    clear h
    go_enter Tryz.func113, Tryz.ntmps113
    go_wp2
    go_ret
    exact ⟨ret_bool HF.out.symm, rfl⟩
  · have HF : Hid (fitsE lv (x1, x2, ref, nsn) = decide (ref < 40)) := by show fitsE _ _ = _; simp [fitsE, h]
    have h1 : (lv == 0) = false := by simpa using h
    clear h
    go_enter Tryz.func113, Tryz.ntmps113
    go_wp2
    go_ret
    exact ⟨ret_bool HF.out.symm, rfl⟩

set_option maxHeartbeats 800000 in
theorem l3Find_any (r : Int) (n c : Nat) (A : Option Addr) (ps : List EV) (w : World) (hp : Entries w A n ps) (hn : n ≤ maxLen) :
    Calls Tryz.prog 114 #[.slice A n c, .int .i64 r] w fun e w' => e = .returned (.int .i64 (findE r (ps.map EV.val))) ∧ w = w' := by
  have HP := Lib.hid hp
  have HL : Hid ((ps.map EV.val).length = n) := by show List.length _ = n; rw [List.length_map]; exact hp.1
  clear hp
  unfold maxLen at hn
  go_enter Tryz.func114, Tryz.ntmps114
  go_wp2
  go_loop [5] (fun i => ∃ k : Nat, k ≤ n ∧ i = .int .i64 k ∧ Hid (∀ (j : Nat) (u : EVal), j < k → (ps.map EV.val)[j]? = some u → u.2.2.1 ≠ r)) (fun i => n - (intOf i).toNat)
  case atStart => exact ⟨0, Nat.zero_le _, rfl, fun j u hj => absurd hj (Nat.not_lt_zero _)⟩
  case round =>
    obtain ⟨k, hk', rfl, hA⟩ := hrel
    by_cases hlt : k < n
    · obtain ⟨b, o, A1, n1, c1, A2, n2, c2, ref, nsn, x1, x2, rfl, hb, d0, d1, d2, d3, hx, i1, i2, m1, m2⟩ := HP.out.cellAt hlt
      clear d0 d1 d3 i1 i2
      by_cases hz : ref = r
      · have HF : Hid (findE r (ps.map EV.val) = k) := findE_stop hA.out (eval_get hx.out) hz
        have hz1 : (ref == r) = true := by simpa using hz
        clear hx hA hz
        go_wp2
        go_ret
        exact ⟨ret_i64 HF.out.symm, rfl⟩
      · have hA' := Lib.hid (upto_next hA.out (eval_get hx.out) hz)
        have hz1 : (ref == r) = false := by simpa using hz
        clear hx hA hz
        go_wp2
        go_round
        case rel => exact ⟨k + 1, by omega, by go_num, hA'⟩
        case measure => simp [intOf]; omega
    · have HF : Hid (findE r (ps.map EV.val) = -1) := findE_none (upto_end hA.out (by rw [HL.out]; omega))
      clear hA
      go_wp2
      go_ret
      exact ⟨ret_i64 HF.out.symm, rfl⟩

/-- The same in a region whose order is drawn. -/
theorem l3Fits_q (v : Bool) (lv ref nsn : Int) (b f m : Nat) (x1 x2 : List Int) (w : World) (hv : fitsE lv (x1, x2, ref, nsn) = v) (k2 : w.cell? ⟨b, f + 2, none⟩ = some (.int .i64 ref)) (k3 : w.cell? ⟨b, f + 3, none⟩ = some (.int .i64 nsn)) :
    Calls Tryz.prog 113 #[.int .i64 lv, .pointer (some ⟨b, f, none⟩)] (w.drewN m) fun e w' => e = .returned (.bool v) ∧ ∃ m', w' = w.drewN m' :=
  (l3Fits_any lv ref nsn b f x1 x2 (w.drewN m) k2 k3).mono fun _ _ h => ⟨h.1.trans (ret_bool hv), m, h.2.symm⟩
theorem l3Find_q (r : Int) (n c m : Nat) (A : Option Addr) (ps : List EV) (w : World) (hp : Entries w A n ps) (hn : n ≤ maxLen) :
    Calls Tryz.prog 114 #[.slice A n c, .int .i64 r] (w.drewN m) fun e w' => e = .returned (.int .i64 (findE r (ps.map EV.val))) ∧ ∃ m', w' = w.drewN m' :=
  (l3Find_any r n c A ps (w.drewN m) (hp.kept (below_draws (Below.refl _ _) m)) hn).mono fun _ _ h => ⟨h.1, m, h.2.symm⟩

end Go.Proofs.YtpgoildfjkokiaaGreat
