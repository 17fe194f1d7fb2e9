/- What a place that is written leaves of an arena that is worked at; what is free, said plainly; the answers of TakeNode and WriteNode, said plainly. -/
import Derived.Test.YtpgoildfjkokiaaGreatArenaAll
import Derived.Test.YtpgoildfjkokiaaGreatSpecReadNode
import Derived.Test.YtpgoildfjkokiaaGreatRects
namespace Go.Proofs.YtpgoildfjkokiaaGreat
open Go.RowKit

section
variable {w w' : World} {lo G M pb cp n km k : Nat} {d : Int} {o : Value} {ps : List LV} {ids : List Int} {f : Int → Option Nat} {us : List RVal}
/-- One place is written: its block alone has turned, of what there was. -/
theorem Ret.place {j : Nat} {p p' : LV} (h : Ret w lo G M d o pb cp n ps km k ids f) (hi : ps[j]? = some p) (hg : p'.g = p.g) (hs : w.heap.size ≤ w'.heap.size) (hk : ∀ b, b < w.heap.size → b ≠ p.g → w'.heap[b]? = w.heap[b]?) (hp : PlaceOk w' lo d p') (hr : ∀ b, p'.row b → p.row b ∨ w.heap.size ≤ b) : Ret w' lo G M d o pb cp n (ps.set j p') km k ids f := by
  have hpm := List.mem_of_getElem? hi
  have hpg := (h.G'.P.P p hpm).g
  have hm := h.m
  have hoi := ownsRow_block2 h.S
  refine ⟨h.G'.put hi hg hs hk hp hr, ownsRow_others h.S (fun b e => hk b (hoi b e).2 (fun e2 => (h.V b e).2 p hpm (Or.inl e2.symm))), fun b e => ⟨(h.V b e).1, fun q hq => ?_⟩, h.M'.block (hk M h.M'.inside (by omega)), h.m, h.ne⟩
  rcases List.mem_or_eq_of_mem_set hq with hq | rfl
  · exact (h.V b e).2 q hq
  · rintro (e' | e')
    · exact (h.V b e).2 p hpm (Or.inl (hg.symm.trans e'))
    · rcases hr b e' with h2 | h2
      · exact (h.V b e).2 p hpm (Or.inr h2)
      · have := (hoi b e).2; omega
theorem Watched.place {i : Nat} {p p' : LV} (h : Watched ps f us) (hi : ps[i]? = some p) (hg : p'.g = p.g) (hw : p'.ws = p.ws ∨ ∀ u ∈ us, u.1 ≠ (i : Int)) : Watched (ps.set i p') f us := by
  intro k u hu
  obtain ⟨j, q, e1, e2, e3, e4⟩ := h k u hu
  by_cases e : i = j
  · subst e
    rw [hi] at e2
    injection e2 with e2
    subst e2
    rcases hw with hw | hw
    · exact ⟨i, p', e1, by rw [List.getElem?_set, if_pos rfl, if_pos (List.getElem?_eq_some_iff.1 hi).1], by rw [hg]; exact e3, hw.trans e4⟩
    · exact absurd e1 (hw u (List.mem_of_getElem? hu))
  · exact ⟨j, q, e1, by rw [List.getElem?_set, if_neg e]; exact e2, e3, e4⟩
end

theorem risesL_head : ∀ {a : Int} {t : List Int}, risesL (a :: t) = true → (∀ x ∈ t, a < x) ∧ risesL t = true
  | a, [], _ => ⟨fun x hx => by simp at hx, rfl⟩
  | a, b :: t, h => by
    rw [risesL, Bool.and_eq_true, decide_eq_true_eq] at h
    obtain ⟨h1, h2⟩ := risesL_head h.2
    refine ⟨fun x hx => ?_, h.2⟩
    rcases List.mem_cons.1 hx with rfl | hx
    · exact h.1
    · have := h1 x hx; omega
/-- The free places, told in order, are the list of them. -/
theorem freeL_is : ∀ {ps : List LV} {i : Nat} {fs : List Int}, risesL fs = true → (∀ x ∈ fs, (i : Int) ≤ x ∧ x < (i : Int) + ps.length) → (∀ (k : Nat) (q : LV), ps[k]? = some q → q.fr = fs.contains ((i : Int) + k)) → freeL i ps = fs
  | [], i, fs, _, hb, _ => by
    cases fs with
    | nil => rfl
    | cons a t => have := hb a (by simp); simp at this; omega
  | p :: t, i, fs, hr, hb, hf => by
    have h0 := hf 0 p rfl
    have low : ∀ x ∈ fs, (i : Int) ≠ x → ((i + 1 : Nat) : Int) ≤ x := fun x hx hne => by have := (hb x hx).1; omega
    by_cases hc : fs.contains (i : Int) = true
    · have hpf : p.fr = true := by rw [h0]; simpa using hc
      cases fs with
      | nil => simp at hc
      | cons a t' =>
        obtain ⟨h1, h2⟩ := risesL_head hr
        have hai : a = (i : Int) := by
          have := (hb a (by simp)).1
          by_cases e : a = (i : Int)
          · exact e
          · rw [List.contains_iff_mem] at hc
            rcases List.mem_cons.1 hc with e2 | e2
            · exact e2.symm
            · have := h1 _ e2; omega
        subst hai
        have ih := freeL_is (ps := t) (i := i + 1) (fs := t') h2 (fun x hx => ⟨by have := h1 x hx; omega, by have := (hb x (by simp [hx])).2; simp only [List.length_cons] at this; omega⟩) (fun k q hq => by
          have h3 := hf (k + 1) q (by simpa using hq)
          rw [h3]
          have e1 : ((i : Int) + ((k + 1 : Nat) : Int)) = (((i + 1 : Nat) : Int) + (k : Int)) := by omega
          rw [e1, List.contains_cons]
          have e2 : ((((i + 1 : Nat) : Int) + (k : Int)) == (i : Int)) = false := by simp; omega
          rw [e2, Bool.false_or])
        simp only [freeL, hpf, if_true, ih]
    · have hpf : p.fr = false := by rw [h0]; simpa using hc
      have hne : ∀ x ∈ fs, (i : Int) ≠ x := fun x hx e => hc (by rw [List.contains_iff_mem, e]; exact hx)
      have ih := freeL_is (ps := t) (i := i + 1) (fs := fs) hr (fun x hx => ⟨low x hx (hne x hx), by have := (hb x hx).2; simp only [List.length_cons] at this; omega⟩) (fun k q hq => by
        have h3 := hf (k + 1) q (by simpa using hq)
        rw [h3, show ((i : Int) + ((k + 1 : Nat) : Int)) = (((i + 1 : Nat) : Int) + (k : Int)) by omega])
      simp only [freeL, hpf, Bool.false_eq_true, if_false, ih]

theorem freeF_rises {ns : List NVal} {fs : List Int} (h : freeF ns fs = 0) : allIn 0 ((ns.length : Int) - 1) fs = true ∧ risesL fs = true := by
  cases h1 : allIn 0 ((ns.length : Int) - 1) fs
  · rw [freeF_out h1] at h; omega
  · cases h2 : risesL fs
    · rw [freeF_fall h1 h2] at h; omega
    · exact ⟨rfl, rfl⟩
theorem allIn_mem {l h : Int} {xs : List Int} (hp : allIn l h xs = true) {x : Int} (hx : x ∈ xs) : l ≤ x ∧ x ≤ h := by
  obtain ⟨k, hk⟩ := List.getElem?_of_mem hx
  exact allIn_get hp hk
/-- A retired place is not free. -/
theorem takenF_free {fs ids : List Int} (h : takenF fs ids = false) {x : Int} (hx : x ∈ ids) : fs.contains x = false := by
  obtain ⟨k, hk⟩ := List.getElem?_of_mem hx
  cases hc : fs.contains x
  · rfl
  · rw [takenF_at hk (Or.inl hc)] at h; cases h

/-- An answer that is an arena: its code, the number of dimensions, the nodes, who is free, who is retired, the place. -/
abbrev ArVal := Int × Int × List NVal × List Int × List RVal × Int
def arNo (c : Int) : ArVal := (c, 0, [], [], [], 0)
def takeR (d : Int) (vs : List NVal) (fs : List Int) (us : List RVal) (v : NVal) : ArVal :=
  if arenaF d vs fs us ≠ 0 then arNo (arenaF d vs fs us) else if nodeFv d v ≠ 0 then arNo (nodeFv d v) else match fs with
    | [] => arNo 7
    | x :: t => (0, d, vs.set x.toNat v, t, us, x)
def writeR (d : Int) (vs : List NVal) (fs : List Int) (us : List RVal) (id : Int) (v : NVal) : ArVal :=
  if arenaF d vs fs us ≠ 0 then arNo (arenaF d vs fs us) else if nodeFv d v ≠ 0 then arNo (nodeFv d v) else if readF vs.length fs id ≠ 0 then arNo (readF vs.length fs id) else (0, d, vs.set id.toNat v, fs, us, 0)
section
variable {d id x : Int} {vs : List NVal} {fs t : List Int} {us : List RVal} {v : NVal}
theorem takeR_arena (h : arenaF d vs fs us ≠ 0) : takeR d vs fs us v = arNo (arenaF d vs fs us) := by unfold takeR; rw [if_pos h]
theorem takeR_node (h : arenaF d vs fs us = 0) (h2 : nodeFv d v ≠ 0) : takeR d vs fs us v = arNo (nodeFv d v) := by unfold takeR; rw [if_neg (by simp [h]), if_pos h2]
theorem takeR_full (h : arenaF d vs [] us = 0) (h2 : nodeFv d v = 0) : takeR d vs [] us v = arNo 7 := by unfold takeR; rw [if_neg (by simp [h]), if_neg (by simp [h2])]
theorem takeR_yes (h : arenaF d vs (x :: t) us = 0) (h2 : nodeFv d v = 0) : takeR d vs (x :: t) us v = (0, d, vs.set x.toNat v, t, us, x) := by unfold takeR; rw [if_neg (by simp [h]), if_neg (by simp [h2])]
theorem writeR_arena (h : arenaF d vs fs us ≠ 0) : writeR d vs fs us id v = arNo (arenaF d vs fs us) := by unfold writeR; rw [if_pos h]
theorem writeR_node (h : arenaF d vs fs us = 0) (h2 : nodeFv d v ≠ 0) : writeR d vs fs us id v = arNo (nodeFv d v) := by unfold writeR; rw [if_neg (by simp [h]), if_pos h2]
theorem writeR_read (h : arenaF d vs fs us = 0) (h2 : nodeFv d v = 0) (h3 : readF vs.length fs id ≠ 0) : writeR d vs fs us id v = arNo (readF vs.length fs id) := by unfold writeR; rw [if_neg (by simp [h]), if_neg (by simp [h2]), if_pos h3]
theorem writeR_yes (h : arenaF d vs fs us = 0) (h2 : nodeFv d v = 0) (h3 : readF vs.length fs id = 0) : writeR d vs fs us id v = (0, d, vs.set id.toNat v, fs, us, 0) := by unfold writeR; rw [if_neg (by simp [h]), if_neg (by simp [h2]), if_neg (by simp [h3])]
end

/-- The program's answer, in memory of its own. -/
def ImPost (R : ArVal) (w : World) (e : Ending) (w' : World) : Prop :=
  ∃ A1 c1 A2 c2 A3 c3 ns rs, e = .returned (.agg #[.int .i64 R.1, .int .i64 R.2.1, .slice A1 R.2.2.1.length c1, .slice A2 R.2.2.2.1.length c2, .slice A3 R.2.2.2.2.1.length c3, .int .i64 R.2.2.2.2.2]) ∧ AnsAr w' w.heap.size A1 R.2.2.1.length c1 A2 R.2.2.2.1.length c2 A3 R.2.2.2.2.1.length c3 ns R.2.2.2.1 rs ∧ ns.map NV.val = R.2.2.1 ∧ rs.map RV.val = R.2.2.2.2.1 ∧ Below w.heap.size w w'
theorem ImPost.no {c : Int} {R : ArVal} {w w' : World} (hR : R = arNo c) (hb : Below w.heap.size w w') : ImPost R w (.returned (.agg #[.int .i64 c, .int .i64 0, .slice none 0 0, .slice none 0 0, .slice none 0 0, .int .i64 0])) w' := by
  subst hR
  exact ⟨none, 0, none, 0, none, 0, [], [], rfl, AnsAr.none _ _, rfl, rfl, hb⟩
theorem ImPost.yes {d id : Int} {V : List NVal} {F : List Int} {U : List RVal} {R : ArVal} {w w' : World} {A1 A2 A3 : Option Addr} {n1 n2 n3 c1 c2 c3 : Nat} {ns : List NV} {rs : List RV} (hR : R = (0, d, V, F, U, id)) (hA : AnsAr w' w.heap.size A1 n1 c1 A2 n2 c2 A3 n3 c3 ns F rs) (hv : ns.map NV.val = V) (hu : rs.map RV.val = U) (hb : Below w.heap.size w w') :
    ImPost R w (.returned (.agg #[.int .i64 0, .int .i64 d, .slice A1 n1 c1, .slice A2 n2 c2, .slice A3 n3 c3, .int .i64 id])) w' := by
  subst hR
  obtain rfl : V.length = n1 := by rw [← hv, List.length_map]; exact hA.N.len
  obtain rfl : F.length = n2 := hA.arena.F.1
  obtain rfl : U.length = n3 := by rw [← hu, List.length_map]; exact hA.R.len
  exact ⟨A1, c1, A2, c2, A3, c3, ns, rs, rfl, hA, hv, hu, hb⟩

end Go.Proofs.YtpgoildfjkokiaaGreat

/- What the giving back of places leaves, said plainly; the answers of RetireNode and EndWatch, said plainly. -/
namespace Go.Proofs.YtpgoildfjkokiaaGreat
open Go.RowKit

theorem risesL_cons : ∀ {a : Int} {t : List Int}, (∀ x ∈ t, a < x) → risesL t = true → risesL (a :: t) = true
  | a, [], _, _ => by unfold risesL; rfl
  | a, b :: t, h, h2 => by
    rw [risesL, Bool.and_eq_true, decide_eq_true_eq]
    exact ⟨h b (by simp), h2⟩
/-- A place is put among the free ones. -/
def giveF (id : Int) : List Int → List Int
  | [] => [id]
  | a :: t => if id < a then id :: a :: t else a :: giveF id t
theorem giveF_mem : ∀ {id x : Int} {fs : List Int}, x ∈ giveF id fs ↔ x = id ∨ x ∈ fs
  | id, x, [] => by simp [giveF]
  | id, x, a :: t => by
    unfold giveF
    split
    · simp
    · rw [List.mem_cons, giveF_mem, List.mem_cons]
      constructor
      · rintro (h | h | h)
        · exact Or.inr (Or.inl h)
        · exact Or.inl h
        · exact Or.inr (Or.inr h)
      · rintro (h | h | h)
        · exact Or.inr (Or.inl h)
        · exact Or.inl h
        · exact Or.inr (Or.inr h)
theorem giveF_len : ∀ {id : Int} {fs : List Int}, (giveF id fs).length = fs.length + 1
  | id, [] => rfl
  | id, a :: t => by
    unfold giveF
    split
    · simp
    · simp [giveF_len]
theorem giveF_rises : ∀ {id : Int} {fs : List Int}, risesL fs = true → id ∉ fs → risesL (giveF id fs) = true
  | id, [], _, _ => by unfold giveF; exact risesL_cons (fun x hx => by simp at hx) (by unfold risesL; rfl)
  | id, a :: t, h, hn => by
    obtain ⟨h1, h2⟩ := risesL_head h
    have hne : id ≠ a := fun e => hn (by simp [e])
    unfold giveF
    split
    · rename_i hlt
      refine risesL_cons (fun x hx => ?_) h
      rcases List.mem_cons.1 hx with rfl | hx
      · exact hlt
      · have := h1 x hx; omega
    · rename_i hlt
      refine risesL_cons (fun x hx => ?_) (giveF_rises h2 (fun e => hn (by simp [e])))
      rcases giveF_mem.1 hx with rfl | hx
      · omega
      · exact h1 x hx
theorem giveF_has {id x : Int} {fs : List Int} : (giveF id fs).contains x = (fs.contains x || (x == id)) := by
  rw [Bool.eq_iff_iff, Bool.or_eq_true, List.contains_iff_mem, List.contains_iff_mem, giveF_mem, beq_iff_eq]
  exact Or.comm

/-- The nodes, the free places and the retired ones when who is watched by nobody is given back. -/
def relV : List RVal → List NVal → List NVal
  | [], vs => vs
  | r :: t, vs => relV t (if r.2.isEmpty then vs.set r.1.toNat vacV else vs)
def relS : List RVal → List Int → List Int
  | [], fs => fs
  | r :: t, fs => relS t (if r.2.isEmpty then giveF r.1 fs else fs)
def relU (us : List RVal) : List RVal := us.filter fun r => !r.2.isEmpty
theorem relV_snoc : ∀ {us : List RVal} {r : RVal} {vs : List NVal}, relV (us ++ [r]) vs = if r.2.isEmpty then (relV us vs).set r.1.toNat vacV else relV us vs
  | [], r, vs => rfl
  | u :: t, r, vs => by rw [List.cons_append, relV, relV, relV_snoc]
theorem relS_snoc : ∀ {us : List RVal} {r : RVal} {fs : List Int}, relS (us ++ [r]) fs = if r.2.isEmpty then giveF r.1 (relS us fs) else relS us fs
  | [], r, fs => rfl
  | u :: t, r, fs => by rw [List.cons_append, relS, relS, relS_snoc]
theorem relU_snoc {us : List RVal} {r : RVal} : relU (us ++ [r]) = if r.2.isEmpty then relU us else relU us ++ [r] := by
  unfold relU
  rw [List.filter_append]
  cases h : r.2.isEmpty <;> simp [h]
theorem relV_len : ∀ {us : List RVal} {vs : List NVal}, (relV us vs).length = vs.length
  | [], vs => rfl
  | u :: t, vs => by rw [relV, relV_len]; split <;> simp
theorem relV_all : ∀ {us : List RVal} {vs : List NVal}, (∀ r ∈ us, r.2.isEmpty = false) → relV us vs = vs
  | [], vs, _ => rfl
  | u :: t, vs, h => by rw [relV, h u (by simp), if_neg (by simp), relV_all (fun r hr => h r (by simp [hr]))]
theorem relS_all : ∀ {us : List RVal} {fs : List Int}, (∀ r ∈ us, r.2.isEmpty = false) → relS us fs = fs
  | [], fs, _ => rfl
  | u :: t, fs, h => by rw [relS, h u (by simp), if_neg (by simp), relS_all (fun r hr => h r (by simp [hr]))]
theorem relU_all {us : List RVal} (h : ∀ r ∈ us, r.2.isEmpty = false) : relU us = us := by
  unfold relU
  exact List.filter_eq_self.2 fun r hr => by rw [h r hr]; rfl
theorem relS_mem : ∀ {us : List RVal} {fs : List Int} {x : Int}, x ∈ relS us fs ↔ x ∈ fs ∨ ∃ r ∈ us, r.1 = x ∧ r.2.isEmpty = true
  | [], fs, x => by simp [relS]
  | u :: t, fs, x => by
    rw [relS, relS_mem]
    constructor
    · rintro (h | ⟨r, hr, h⟩)
      · split at h
        · rcases giveF_mem.1 h with h | h
          · exact Or.inr ⟨u, by simp, h.symm, by assumption⟩
          · exact Or.inl h
        · exact Or.inl h
      · exact Or.inr ⟨r, by simp [hr], h⟩
    · rintro (h | ⟨r, hr, h1, h2⟩)
      · refine Or.inl ?_
        split
        · exact giveF_mem.2 (Or.inr h)
        · exact h
      · rcases List.mem_cons.1 hr with rfl | hr
        · exact Or.inl (by rw [if_pos h2]; exact giveF_mem.2 (Or.inl h1.symm))
        · exact Or.inr ⟨r, hr, h1, h2⟩
/-- Numbers that are all different. -/
def diffL (us : List RVal) : Prop := ∀ (i j : Nat) (a b : RVal), us[i]? = some a → us[j]? = some b → i ≠ j → a.1 ≠ b.1
theorem diffL_snoc {us : List RVal} {r : RVal} (h : diffL us) (hr : ∀ u ∈ us, u.1 ≠ r.1) : diffL (us ++ [r]) := by
  intro i j a b ha hb hne
  rcases Nat.lt_or_ge i us.length with hi | hi <;> rcases Nat.lt_or_ge j us.length with hj | hj
  · rw [List.getElem?_append_left hi] at ha
    rw [List.getElem?_append_left hj] at hb
    exact h i j a b ha hb hne
  · rw [List.getElem?_append_left hi] at ha
    rw [List.getElem?_append_right hj] at hb
    have e : j - us.length = 0 := by have := (List.getElem?_eq_some_iff.1 hb).1; simp at this; omega
    rw [e] at hb; simp at hb; subst hb
    exact hr a (List.mem_of_getElem? ha)
  · rw [List.getElem?_append_right hi] at ha
    rw [List.getElem?_append_left hj] at hb
    have e : i - us.length = 0 := by have := (List.getElem?_eq_some_iff.1 ha).1; simp at this; omega
    rw [e] at ha; simp at ha; subst ha
    exact fun e => hr b (List.mem_of_getElem? hb) e.symm
  · rw [List.getElem?_append_right hi] at ha
    rw [List.getElem?_append_right hj] at hb
    have h3 := (List.getElem?_eq_some_iff.1 ha).1
    have h4 := (List.getElem?_eq_some_iff.1 hb).1
    simp at h3 h4; omega
theorem takenF_diff {fs : List Int} {us : List RVal} (h : takenF fs (us.map (·.1)) = false) : diffL us := by
  have key : ∀ (i j : Nat) (a b : RVal), i < j → us[i]? = some a → us[j]? = some b → a.1 ≠ b.1 := by
    intro i j a b hij ha hb e
    have h1 : takenF fs (us.map (·.1)) = true := takenF_at (k := j) (x := b.1) (by rw [List.getElem?_map, hb]; rfl) (Or.inr (by
      rw [List.contains_iff_mem, ← e]
      refine List.mem_of_getElem? (i := i) ?_
      rw [List.getElem?_take, if_pos hij, List.getElem?_map, ha]; rfl))
    rw [h] at h1; cases h1
  intro i j a b ha hb hne
  rcases Nat.lt_or_gt_of_ne hne with h1 | h1
  · exact key i j a b h1 ha hb
  · exact fun e => key j i b a h1 hb ha e.symm
theorem relS_rises : ∀ {us : List RVal} {fs : List Int}, risesL fs = true → diffL us → (∀ u ∈ us, fs.contains u.1 = false) → risesL (relS us fs) = true
  | [], fs, h, _, _ => h
  | u :: t, fs, h, hd, hn => by
    rw [relS]
    have hd' : diffL t := fun i j a b ha hb hne => hd (i + 1) (j + 1) a b (by simpa using ha) (by simpa using hb) (by omega)
    split
    · refine relS_rises (giveF_rises h (fun e => ?_)) hd' (fun r hr => ?_)
      · have := hn u (by simp); rw [← List.contains_iff_mem] at e; rw [e] at this; cases this
      · rw [giveF_has, hn r (by simp [hr]), Bool.false_or, beq_eq_false_iff_ne]
        obtain ⟨j, hj⟩ := List.getElem?_of_mem hr
        exact fun e => hd 0 (j + 1) u r rfl (by simpa using hj) (by omega) e.symm
    · exact relS_rises h hd' (fun r hr => hn r (by simp [hr]))

def retireR (d : Int) (vs : List NVal) (fs : List Int) (us : List RVal) (id : Int) (ws : List Int) : ArVal :=
  if arenaF d vs fs us ≠ 0 then arNo (arenaF d vs fs us) else if readF vs.length fs id ≠ 0 then arNo (readF vs.length fs id) else if (us.map (·.1)).contains id then arNo 6 else if watchF ws ≠ 0 then arNo (watchF ws) else (0, d, relV (us ++ [(id, ws)]) vs, relS (us ++ [(id, ws)]) fs, relU (us ++ [(id, ws)]), 0)
def leftU (c : Int) (us : List RVal) : List RVal := us.map fun r => (r.1, r.2.filter (fun x => !(x == c)))
def endR (d : Int) (vs : List NVal) (fs : List Int) (us : List RVal) (c : Int) : ArVal :=
  if arenaF d vs fs us ≠ 0 then arNo (arenaF d vs fs us) else if ¬ (0 ≤ c ∧ c ≤ 3) then arNo 3 else (0, d, relV (leftU c us) vs, relS (leftU c us) fs, relU (leftU c us), 0)
section
variable {d id c : Int} {vs : List NVal} {fs ws : List Int} {us : List RVal}
theorem retireR_arena (h : arenaF d vs fs us ≠ 0) : retireR d vs fs us id ws = arNo (arenaF d vs fs us) := by unfold retireR; rw [if_pos h]
theorem retireR_read (h : arenaF d vs fs us = 0) (h3 : readF vs.length fs id ≠ 0) : retireR d vs fs us id ws = arNo (readF vs.length fs id) := by unfold retireR; rw [if_neg (by simp [h]), if_pos h3]
theorem retireR_taken (h : arenaF d vs fs us = 0) (h3 : readF vs.length fs id = 0) (h4 : (us.map (·.1)).contains id = true) : retireR d vs fs us id ws = arNo 6 := by unfold retireR; rw [if_neg (by simp [h]), if_neg (by simp [h3]), if_pos h4]
theorem retireR_watch (h : arenaF d vs fs us = 0) (h3 : readF vs.length fs id = 0) (h4 : (us.map (·.1)).contains id = false) (h5 : watchF ws ≠ 0) : retireR d vs fs us id ws = arNo (watchF ws) := by unfold retireR; rw [if_neg (by simp [h]), if_neg (by simp [h3]), if_neg (by rw [h4]; decide), if_pos h5]
theorem retireR_yes (h : arenaF d vs fs us = 0) (h3 : readF vs.length fs id = 0) (h4 : (us.map (·.1)).contains id = false) (h5 : watchF ws = 0) : retireR d vs fs us id ws = (0, d, relV (us ++ [(id, ws)]) vs, relS (us ++ [(id, ws)]) fs, relU (us ++ [(id, ws)]), 0) := by unfold retireR; rw [if_neg (by simp [h]), if_neg (by simp [h3]), if_neg (by rw [h4]; decide), if_neg (by simp [h5])]
theorem endR_arena (h : arenaF d vs fs us ≠ 0) : endR d vs fs us c = arNo (arenaF d vs fs us) := by unfold endR; rw [if_pos h]
theorem endR_out (h : arenaF d vs fs us = 0) (h2 : ¬ (0 ≤ c ∧ c ≤ 3)) : endR d vs fs us c = arNo 3 := by unfold endR; rw [if_neg (by simp [h]), if_pos h2]
theorem endR_yes (h : arenaF d vs fs us = 0) (h2 : 0 ≤ c ∧ c ≤ 3) : endR d vs fs us c = (0, d, relV (leftU c us) vs, relS (leftU c us) fs, relU (leftU c us), 0) := by unfold endR; rw [if_neg (by simp [h]), if_neg (by simpa using h2)]
/-- Who is retired in an arena without a fault is watched. -/
theorem arenaF_watched (h : arenaF d vs fs us = 0) : ∀ r ∈ us, r.2.isEmpty = false := by
  intro r hr
  obtain ⟨k, hk⟩ := List.getElem?_of_mem hr
  obtain ⟨_, h2, _⟩ := retF_zero (firstNZ_zero (arenaF_zero h).2.2.2.2.1 k _ hk)
  cases h3 : r.2 with
  | nil => rw [h3] at h2; simp at h2
  | cons a t => rfl
/-- One more is retired, and watched by nobody: it is given back at once. -/
theorem rel_give (h : ∀ r ∈ us, r.2.isEmpty = false) : relV (us ++ [(id, [])]) vs = vs.set id.toNat vacV ∧ relS (us ++ [(id, [])]) fs = giveF id fs ∧ relU (us ++ [(id, [])]) = us := by
  refine ⟨?_, ?_, ?_⟩
  · rw [relV_snoc, relV_all h]; rfl
  · rw [relS_snoc, relS_all h]; rfl
  · rw [relU_snoc, relU_all h]; rfl
theorem rel_keep (h : ∀ r ∈ us, r.2.isEmpty = false) (hw : ws.isEmpty = false) : relV (us ++ [(id, ws)]) vs = vs ∧ relS (us ++ [(id, ws)]) fs = fs ∧ relU (us ++ [(id, ws)]) = us ++ [(id, ws)] := by
  have h' : ∀ r ∈ us ++ [(id, ws)], r.2.isEmpty = false := by
    intro r hr
    rcases List.mem_append.1 hr with hr | hr
    · exact h r hr
    · simp only [List.mem_singleton] at hr; subst hr; exact hw
  exact ⟨relV_all h', relS_all h', relU_all h'⟩
end

end Go.Proofs.YtpgoildfjkokiaaGreat

/- What the next number adds to those that stay. -/
namespace Go.Proofs.YtpgoildfjkokiaaGreat

theorem filter_take_next {p : Int → Bool} {xs : List Int} {j : Nat} {x : Int} (h : xs[j]? = some x) : (xs.take (j + 1)).filter p = (xs.take j).filter p ++ (if p x then [x] else []) := by
  rw [List.take_add_one, h, List.filter_append]
  cases hp : p x <;> simp [hp]
theorem filter_take_le {p : Int → Bool} {xs : List Int} {j : Nat} : ((xs.take j).filter p).length ≤ j := Nat.le_trans (List.length_filter_le _ _) (by rw [List.length_take]; omega)

end Go.Proofs.YtpgoildfjkokiaaGreat
