/- An arena of vacant places has no fault; what is left when a place is taken there, said plainly. -/
import Derived.Test.YtpgoildfjkokiaaGreatFilters
import Derived.Test.YtpgoildfjkokiaaGreatArenaNone
import Derived.Test.YtpgoildfjkokiaaGreatDropInts
import Derived.Test.YtpgoildfjkokiaaGreatOpenArena
import Derived.Test.YtpgoildfjkokiaaGreatImplTake
import Derived.Maps.OwnSet
namespace Go.Proofs.YtpgoildfjkokiaaGreat
open Go.RowKit

theorem nodeFv_vac {d : Int} (h : 2 ≤ d ∧ d ≤ 3) : nodeFv d vacV = 0 := by
  unfold nodeFv vacV nodeF
  have hh : headOk (0, 0, (-1 : Int), ([] : List EVal)).1 (0, 0, (-1 : Int), ([] : List EVal)).2.1 (0, 0, (-1 : Int), ([] : List EVal)).2.2.1 d := ⟨h, by decide, by decide, by decide⟩
  rw [if_pos hh]
  rfl
theorem upTo_get {n k : Nat} {x : Int} (h : (upTo n)[k]? = some x) : x = (k : Int) ∧ k < n := by
  unfold upTo at h
  rw [List.getElem?_map] at h
  cases hr : (List.range n)[k]? with
  | none => rw [hr] at h; simp at h
  | some j =>
    rw [hr] at h
    have := List.getElem?_range (n := n) (i := k)
    simp only [Option.map_some, Option.some.injEq] at h
    have hk := (List.getElem?_eq_some_iff.1 hr)
    obtain ⟨h1, h2⟩ := hk
    rw [List.getElem_range] at h2
    rw [List.length_range] at h1
    exact ⟨by rw [← h, ← h2]; rfl, h1⟩
theorem replicate_get {n k : Nat} {v u : NVal} (h : (List.replicate n v)[k]? = some u) : u = v :=
  List.eq_of_mem_replicate (List.mem_of_getElem? h)
theorem arenaF_vac {d : Int} {n : Nat} (h : 2 ≤ d ∧ d ≤ 3) (hn : 4 ≤ n ∧ n ≤ 40) : arenaF d (List.replicate n vacV) (upTo n) [] = 0 := by
  have hl : (List.replicate n vacV).length = n := List.length_replicate
  have h3 : firstNZ (nodeFv d) (List.replicate n vacV) = 0 := firstNZ_all fun j u hu => by rw [replicate_get hu]; exact nodeFv_vac h
  have h4 : freeF (List.replicate n vacV) (upTo n) = 0 := by
    refine freeF_zero (allIn_true fun j x hx => ?_) (risesL_true fun j u v hu hv => ?_) fun j x hx => ?_
    · obtain ⟨rfl, h1⟩ := upTo_get hx
      rw [hl]; omega
    · obtain ⟨rfl, _⟩ := upTo_get hu
      obtain ⟨rfl, _⟩ := upTo_get hv
      omega
    · obtain ⟨rfl, h1⟩ := upTo_get hx
      rw [vacAt_is (v := vacV) (by rw [List.getElem?_replicate, if_pos h1])]
      simp
  rw [arenaF_taken h (by rw [hl]; exact hn) h3 h4 rfl]
  have ht : takenF (upTo n) (([] : List RVal).map (·.1)) = false := rfl
  rw [ht]; rfl
theorem upTo_cons (n : Nat) : upTo (n + 1) = 0 :: (List.range n).map (fun k => ((k + 1 : Nat) : Int)) := by
  unfold upTo
  rw [List.range_succ_eq_map, List.map_cons, List.map_map]
  rfl
/-- What a new tree's arena is: the first place is taken by an empty node. -/
theorem takeR_vac {d : Int} {n : Nat} (h : 2 ≤ d ∧ d ≤ 3) (hn : 4 ≤ n + 1 ∧ n + 1 ≤ 40) : takeR d (List.replicate (n + 1) vacV) (upTo (n + 1)) [] vacV = (0, d, (List.replicate (n + 1) vacV).set 0 vacV, (List.range n).map (fun k => ((k + 1 : Nat) : Int)), [], 0) := by
  have h1 := arenaF_vac h hn
  rw [upTo_cons] at h1 ⊢
  exact takeR_yes h1 (nodeFv_vac h)

end Go.Proofs.YtpgoildfjkokiaaGreat

/- What impl.ground's release stands on: delete at the operation, places that are given back, slices.DeleteFunc with its closure. -/
namespace Go.Proofs.YtpgoildfjkokiaaGreat
open Go.RowKit Go.Maps

/-- 'delete(m, id)' at the operation. -/
theorem wpList_pdrop (w : World) {ops : Array Oper} {rest : List Oper} {o : Oper} {a : Act} {Q : Exit → Act → World → Prop} (hg : o.guard = none) (m x : Operand) (hop : o.op = Op.call { callee := Callee.builtin Builtin.delete, args := #[m, x], argTypes := #[107, 2] }) (M km : Nat) (f : Int → Option Nat) (hm : a.eval m = .map (some M)) (hM : PMap w M km f) (id : Int) (hx : a.eval x = .int .i64 id) (hid : (Lit.int .i64 id).wf = true)
    (hK : ∀ w', PMap w' M km (fun x => if x = id then none else f x) → w.grownBy w' (some M) → wpList Tryz.prog ops Q rest (a.put o.dst (.tuple #[])) w') : wpList Tryz.prog ops Q (o :: rest) a w := by
  obtain ⟨D, h1, h2, h3⟩ := hM
  refine wpList_delete_own w hg m x _ _ hop _ key_law Tryz.underlying107 ptrElem M km D hm h1 _ (.int .i64 id) hx (keyOf_int_mk Tryz.underlying2 hid) ?_
  intro w' r1 r2
  refine hK w' ⟨D.del (.int .i64 id), r1, r1.isMap, fun y => ?_⟩ r2.grown
  by_cases hy : y = id
  · subst hy
    simp only [if_true]
    exact ⟨has_del_same, atKey_del_same _⟩
  · simp only [if_neg hy]
    have hne : (Lit.int .i64 y) ≠ (Lit.int .i64 id) := fun e => hy (by injection e)
    rw [has_del_other hne, atKey_del_other hne]
    exact h3 y

section
variable {w w' W : World} {lo G M pb cp n km k : Nat} {d : Int} {o : Value} {ps : List LV} {ids : List Int} {f f' : Int → Option Nat}
/-- The map is another. -/
theorem Ret.map' {km' : Nat} (h : Ret w lo G M d o pb cp n ps km k ids f) (hM : PMap w' M km' f') (hg : w.grownBy w' (some M)) : Ret w' lo G M d o pb cp n ps km' k ids f' := by
  have hm := h.m
  have hk : ∀ b, b < w.heap.size → b ≠ M → w'.heap[b]? = w.heap[b]? := fun b h1 h2 => hg.block b h1 (fun e => h2 (by injection e))
  refine ⟨h.G'.others hg.size (hk G h.G'.L.inside (fun e => h.ne e.symm)) (hk pb h.G'.R.i.2 (by have := h.G'.R.i.1; omega)) (fun p hp b hb => hk b ((h.G'.P.P p hp).inside hb).2 (by have := ((h.G'.P.P p hp).inside hb).1; omega)), h.S.kept hg (Or.inr fun e => by have := (ownsRow_block2 h.S M e).1; omega), h.V, hM, h.m, h.ne⟩
/-- The order is another, in the row where it was. -/
theorem Ret.order' {k' : Nat} {o' : Value} {ids' : List Int} (h : Ret w lo G M d o pb cp n ps km k ids f) (hT : Turned (fun x => o.ownBlock = some x) w W) (ho : W.ownsRow lo 2 1 o' k' (ids'.map (Value.int .i64))) (he : ∀ b, o'.ownBlock = some b → o.ownBlock = some b) :
    Ret (W.setCell ⟨G, 3, none⟩ o') lo G M d o' pb cp n ps km k' ids' f := by
  have hbk := ownsRow_block2 h.S
  have hgl := h.G'.g
  have hml := h.m
  have Gv : o.ownBlock ≠ some G := fun e => by have := (hbk G e).1; omega
  have keepB : ∀ b, b < w.heap.size → o.ownBlock ≠ some b → b ≠ G → (W.setCell ⟨G, 3, none⟩ o').heap[b]? = w.heap[b]? := fun b h1 h2 h3 => (heap_setCell_other W ⟨G, 3, none⟩ b _ h3).trans (hT.2.2 b h1 h2)
  have hs : w.heap.size ≤ (W.setCell ⟨G, 3, none⟩ o').heap.size := by rw [size_of_setCell]; exact hT.2.1
  have hpb : (W.setCell ⟨G, 3, none⟩ o').heap[pb]? = w.heap[pb]? := keepB pb h.G'.R.i.2 (fun e => (h.V pb e).1 rfl) (by have := h.G'.R.i.1; omega)
  have hpp : ∀ p ∈ ps, ∀ b, p.has b → (W.setCell ⟨G, 3, none⟩ o').heap[b]? = w.heap[b]? := fun p hp b hb' => keepB b ((h.G'.P.P p hp).inside hb').2 (fun e => (h.V b e).2 p hp hb') (by have := ((h.G'.P.P p hp).inside hb').1; omega)
  refine ⟨⟨Lies.set (w := W) (hT.lies h.G'.L Gv) 3 _, h.G'.P.others hs hpp, ⟨h.G'.R.l, fun j p hj => (World.cell?_of_block (w := w) (a := ⟨pb, j, none⟩) hpb).trans (h.G'.R.c j p hj), ⟨h.G'.R.i.1, Nat.lt_of_lt_of_le h.G'.R.i.2 hs⟩, h.G'.R.x⟩, hgl⟩, ?_, fun b e => h.V b (he b e), h.M'.block (keepB M h.M'.inside (fun e => by have := (hbk M e).1; omega) h.ne), h.m, h.ne⟩
  exact ownsRow_far2 ho (by show G < lo; exact hgl) _
end

/-- An empty place. -/
def LV.vac (p : LV) : LV := ⟨p.g, 0, 0, -1, none, 0, 0, [], [], true, none, 0, 0, []⟩
theorem vac_ok {w : World} {lo : Nat} {d : Int} {p : LV} (hd : 2 ≤ d ∧ d ≤ 3) (hL : Lies w p.g 87 (vacPlace d)) (hg : lo ≤ p.g) : PlaceOk w lo d p.vac := by
  refine ⟨?_, ⟨rfl, fun h => absurd h (Nat.lt_irrefl 0)⟩, ⟨rfl, fun k v s h => by change ([] : List EVal)[k]? = some v at h; simp at h⟩, ?_, ⟨rfl, fun h => absurd h (Nat.lt_irrefl 0)⟩, hg, fun h => absurd h (Nat.lt_irrefl 0), fun h => absurd h (Nat.lt_irrefl 0), ?_, fun h => absurd h (Nat.lt_irrefl 0)⟩
  · exact hL
  · have h1 := nodeFv_vac hd
    exact h1
  · rintro (⟨h, _⟩ | ⟨h, _⟩) <;> exact absurd h (Nat.lt_irrefl 0)

/-- Where the loop stands: who is watched by nobody is in the map no more, of those that were seen. -/
def RestAt (qs : List LV) (f : Int → Option Nat) (us : List RVal) (i : Nat) : Prop :=
  ∀ (j : Nat) (u : RVal), us[j]? = some u → (j < i ∧ u.2.isEmpty = true ∧ f u.1 = none) ∨ (¬ (j < i ∧ u.2.isEmpty = true) ∧ ∃ (m : Nat) (q : LV), u.1 = (m : Int) ∧ qs[m]? = some q ∧ f u.1 = some q.g ∧ q.ws = u.2)
theorem RestAt.start {qs : List LV} {f : Int → Option Nat} {us : List RVal} (h : Watched qs f us) : RestAt qs f us 0 := fun j u hu => Or.inr ⟨fun e => absurd e.1 (Nat.not_lt_zero _), h j u hu⟩
theorem RestAt.keep {qs : List LV} {f : Int → Option Nat} {us : List RVal} {i : Nat} {u : RVal} (h : RestAt qs f us i) (hu : us[i]? = some u) (hn : u.2.isEmpty = false) : RestAt qs f us (i + 1) := by
  intro j v hv
  rcases h j v hv with ⟨h1, h2, h3⟩ | ⟨h1, h2⟩
  · exact Or.inl ⟨by omega, h2, h3⟩
  · refine Or.inr ⟨fun e => ?_, h2⟩
    by_cases hj : j = i
    · subst hj; rw [hu] at hv; injection hv with hv; subst hv; rw [hn] at e; exact absurd e.2 (by decide)
    · exact h1 ⟨by omega, e.2⟩
theorem RestAt.drop {qs : List LV} {f : Int → Option Nat} {us : List RVal} {i m : Nat} {u : RVal} {p' : LV} (h : RestAt qs f us i) (hd : diffL us) (hu : us[i]? = some u) (he : u.2.isEmpty = true) (hm : u.1 = (m : Int)) : RestAt (qs.set m p') (fun x => if x = u.1 then none else f x) us (i + 1) := by
  intro j v hv
  by_cases hj : j = i
  · subst hj
    rw [hu] at hv; injection hv with hv; subst hv
    exact Or.inl ⟨by omega, he, if_pos rfl⟩
  · have hne : v.1 ≠ u.1 := hd j i v u hv hu hj
    rcases h j v hv with ⟨h1, h2, h3⟩ | ⟨h1, m', q, e1, e2, e3, e4⟩
    · exact Or.inl ⟨by omega, h2, (if_neg hne).trans h3⟩
    · refine Or.inr ⟨fun e => h1 ⟨by omega, e.2⟩, m', q, e1, ?_, (if_neg hne).trans e3, e4⟩
      rw [List.getElem?_set, if_neg (by rintro rfl; exact hne (e1.trans hm.symm))]; exact e2
theorem RestAt.done {qs : List LV} {f : Int → Option Nat} {us : List RVal} (h : RestAt qs f us us.length) : (∀ u ∈ us, (f u.1).isSome = !u.2.isEmpty) ∧ Watched qs f (relU us) := by
  have key : ∀ u ∈ us, (u.2.isEmpty = true ∧ f u.1 = none) ∨ (u.2.isEmpty = false ∧ ∃ (m : Nat) (q : LV), u.1 = (m : Int) ∧ qs[m]? = some q ∧ f u.1 = some q.g ∧ q.ws = u.2) := by
    intro u hu
    obtain ⟨j, hj⟩ := List.getElem?_of_mem hu
    have hl := (List.getElem?_eq_some_iff.1 hj).1
    rcases h j u hj with ⟨_, h2, h3⟩ | ⟨h1, h2⟩
    · exact Or.inl ⟨h2, h3⟩
    · refine Or.inr ⟨?_, h2⟩
      cases he : u.2.isEmpty
      · rfl
      · exact absurd ⟨hl, he⟩ h1
  refine ⟨fun u hu => ?_, fun i u hu => ?_⟩
  · rcases key u hu with ⟨h1, h2⟩ | ⟨h1, m, q, _, _, h3, _⟩
    · rw [h1, h2]; rfl
    · rw [h1, h3]; rfl
  · have hm := List.mem_filter.1 (List.mem_of_getElem? hu)
    rcases key u hm.1 with ⟨h1, _⟩ | ⟨_, h2⟩
    · rw [h1] at hm; exact absurd hm.2 (by decide)
    · exact h2

theorem slice_own (A : Option Addr) (n c m k : Nat) : (Value.slice A n c).ownBlock = (Value.slice A m k).ownBlock := by cases A <;> rfl
theorem filter_ids {f : Int → Option Nat} : ∀ {us : List RVal}, (∀ u ∈ us, (f u.1).isSome = !u.2.isEmpty) → ((us.map (·.1)).filter fun x => !(!(f x).isSome)) = (relU us).map (·.1)
  | [], _ => rfl
  | u :: t, h => by
    have ih := filter_ids (us := t) (fun v hv => h v (by simp [hv]))
    have hu := h u (by simp)
    unfold relU at ih ⊢
    cases he : u.2.isEmpty
    · rw [List.map_cons, List.filter_cons_of_pos (by rw [hu, he]; rfl), List.filter_cons_of_pos (by rw [he]; rfl), List.map_cons, ih]
    · rw [List.map_cons, List.filter_cons_of_neg (by rw [hu, he]; decide), List.filter_cons_of_neg (by rw [he]; decide), ih]

set_option maxHeartbeats 800000 in
theorem relOne_any (cb G M km : Nat) (id : Int) (f : Int → Option Nat) (r : Bool) (w : World) (hr : (f id).isSome = r) (hcb : w.cell? ⟨cb, 0, none⟩ = some (.pointer (some ⟨G, 0, none⟩))) (hc : w.cell? ⟨G, 2, none⟩ = some (.map (some M))) (hM : PMap w M km f) (hid : (Lit.int .i64 id).wf = true) :
    Calls Tryz.prog 101 #[.int .i64 id, .pointer (some ⟨cb, 0, none⟩)] w fun e w' => e = .returned (.bool (!r)) ∧ w = w' := by
  have HM := Lib.hid hM
  have HI := Lib.hid hid
  have HR := Lib.hid hr
  clear hM hid hr
  go_enter Tryz.func101, Tryz.ntmps101
  go_wp2_with fail
  refine (isRetired_any G M km id f _ hc HM.out HI.out).mono ?_
  rintro e w' ⟨rfl, rfl⟩
  rw [HR.out]
  go_wp2
  go_ret
  exact ⟨rfl, rfl⟩

set_option maxRecDepth 100000 in
set_option maxHeartbeats 800000 in
theorem indexRel_zero (c : Nat) (A : Option Addr) (cv : Value) (w : World) :
    Calls Tryz.prog 121 #[.slice A 0 c, .func (.func 101) #[] #[cv]] w fun e w' => e = .returned (.int .i64 (-1)) ∧ w = w' := by
  rcases A with _ | A
  all_goals
    go_enter Tryz.func121, Tryz.ntmps121
    go_wp2
    go_loopw [8] (fun i wr => i = .int .i64 0 ∧ wr = w) (fun _ _ => 0)
    case atStart => exact ⟨rfl, rfl⟩
    case round =>
      obtain ⟨rfl, rfl⟩ := hrel
      go_wp2
      go_ret
      exact ⟨rfl, rfl⟩
set_option maxRecDepth 100000 in
set_option maxHeartbeats 800000 in
theorem deleteRel_zero (c : Nat) (A : Option Addr) (cv : Value) (w : World) :
    Calls Tryz.prog 100 #[.slice A 0 c, .func (.func 101) #[] #[cv]] w fun e w' => e = .returned (.slice A 0 c) ∧ w = w' := by
  rcases A with _ | A
  all_goals
    go_enter Tryz.func100, Tryz.ntmps100
    go_wp2_with fail
    refine (indexRel_zero c _ cv _).mono ?_
    rintro e w' ⟨rfl, rfl⟩
    go_wp2
    go_ret
    exact ⟨rfl, rfl⟩
/-- The same at any length. -/
theorem deleteRel_all (base n c : Nat) (A : Option Addr) (cv : Value) (p : Int → Bool) (xs : List Int) (w : World) (ho : w.ownsRow base 2 1 (.slice A n c) n (xs.map (Value.int .i64))) (hn : n ≤ 1048576)
    (hcl : ∀ w1, Turned (fun x => (Value.slice A n c).ownBlock = some x) w w1 → ∀ x ∈ xs, Calls Tryz.prog 101 #[.int .i64 x, cv] w1 fun e w' => e = .returned (.bool (p x)) ∧ w1 = w') :
    Calls Tryz.prog 100 #[.slice A n c, .func (.func 101) #[] #[cv]] w fun e w' => ∃ m, e = .returned (.slice A m c) ∧ w'.ownsRow base 2 1 (.slice A m c) m ((xs.filter fun x => !p x).map (Value.int .i64)) ∧ Turned (fun x => (Value.slice A n c).ownBlock = some x) w w' := by
  rcases Nat.eq_zero_or_pos n with rfl | h0
  · obtain rfl : xs = [] := List.eq_nil_of_length_eq_zero (by have := ho.1; rw [List.length_map] at this; omega)
    refine (deleteRel_zero c A cv w).mono ?_
    rintro e w' ⟨rfl, rfl⟩
    exact ⟨0, rfl, ho, Turned.refl _ _⟩
  · obtain ⟨g, rfl, hg, _⟩ := owned_at ho h0
    have e1 : ∀ x, x = g ↔ (Value.slice (some (⟨g, 0, none⟩ : Addr)) n c).ownBlock = some x := fun x => by rw [hg]; exact ⟨fun h => by rw [h], fun h => by injection h with h; exact h.symm⟩
    refine (deleteRel_any base g n c cv p xs w ho hn (fun w1 h1 => hcl w1 (h1.wider fun x hx => (e1 x).1 hx))).mono ?_
    rintro e w' ⟨m, rfl, h1, h2⟩
    exact ⟨m, rfl, h1, h2.wider fun x hx => (e1 x).1 hx⟩

end Go.Proofs.YtpgoildfjkokiaaGreat

/- The walk of impl.ground's release: what is retired and watched by nobody is free. -/
namespace Go.Proofs.YtpgoildfjkokiaaGreat
open Go.RowKit Go.Maps

set_option maxRecDepth 100000 in
set_option maxHeartbeats 12800000 in
theorem release_any (d : Int) (lo B0 G M pb cp n km k : Nat) (o : Value) (ps : List LV) (us : List RVal) (fs : List Int) (f : Int → Option Nat) (w : World) (h : Ret w lo G M d o pb cp n ps km k (us.map (·.1)) f) (hW : Watched ps f us) (hdf : diffL us) (hfr : ∀ (i : Nat) (p : LV), ps[i]? = some p → p.fr = fs.contains (i : Int)) (hlo : lo ≤ w.heap.size) (hn : n ≤ 40) (hk : k ≤ 1048576) (hd : 2 ≤ d ∧ d ≤ 3) (hB1 : B0 ≤ G) (hB2 : B0 ≤ M) (hBlo : B0 ≤ lo) :
    Calls Tryz.prog 65 #[.pointer (some ⟨G, 0, none⟩)] w fun e w' => e = .returned noResult ∧ Below B0 w w' ∧ ∃ o' k' qs f', Ret w' lo G M d o' pb cp n qs km k' ((relU us).map (·.1)) f' ∧ Watched qs f' (relU us) ∧ qs.map LV.val = relV us (ps.map LV.val) ∧ ∀ (i : Nat) (q : LV), qs[i]? = some q → q.fr = (relS us fs).contains (i : Int) := by
  have H := Lib.hid h
  have HDF := Lib.hid hdf
  have HL : Hid (us.length = k) := by have h1 := h.S.1; rw [List.length_map, List.length_map] at h1; exact Lib.hid (by omega)
  have HWF : Hid (∀ x ∈ us.map (·.1), (Lit.int .i64 x).wf = true) := by
    intro x hx
    obtain ⟨u, hu, rfl⟩ := List.mem_map.1 hx
    obtain ⟨j, hj⟩ := List.getElem?_of_mem hu
    obtain ⟨m, q, e1, e2, _⟩ := hW j u hj
    have : m < n := by have h1 := (List.getElem?_eq_some_iff.1 e2).1; rw [h.G'.R.l] at h1; exact h1
    rw [e1]; exact WalkArith.wf_i64 (by omega)
  have HR0 := Lib.hid (RestAt.start hW)
  have HFR := Lib.hid hfr
  obtain ⟨A, c, rfl⟩ := ownsRow_sliceA h.S
  obtain ⟨bx, hbx⟩ : ∃ x, x = w.heap.size := ⟨_, rfl⟩
  have hX0 : Hid (Lies (w.alloc (.cells #[.pointer (some ⟨G, 0, none⟩)] 78)) bx 78 #[.pointer (some ⟨G, 0, none⟩)]) := by show Lies _ _ _ _; rw [hbx]; exact Lies.new w _ _
  have H0 := Lib.hid (h.kept (below_alloc w (.cells #[.pointer (some ⟨G, 0, none⟩)] 78)))
  have hB0 := Lib.hid ((below_alloc w (.cells #[.pointer (some ⟨G, 0, none⟩)] 78)).mono (show B0 ≤ w.heap.size by omega))
  have hXB : Hid (∀ b, (Value.slice A k c).ownBlock = some b → b ≠ bx) := fun b e => by have := (ownsRow_block2 h.S b e).2; omega
  have HPB : Hid (∀ q ∈ ps, q.g < bx) := fun q hq => by have h1 := (h.G'.P.P q hq).L.inside; omega
  have gx := H.out.G'.g
  have mx := H.out.m
  clear h hdf hfr hW
  go_enter Tryz.func65, Tryz.ntmps65
  have x0 : (w.alloc (.cells #[.pointer (some ⟨G, 0, none⟩)] 78)).cell? ⟨w.heap.size, 0, none⟩ = some (.pointer (some ⟨G, 0, none⟩)) := by rw [← hbx]; exact hX0.out.cell 0
  have x1 : (w.alloc (.cells #[.pointer (some ⟨G, 0, none⟩)] 78)).cell? ⟨G, 3, none⟩ = some (.slice A k c) := H0.out.G'.L.cell 3
  have hlo1 : lo ≤ (w.alloc (.cells #[.pointer (some ⟨G, 0, none⟩)] 78)).heap.size := by simp only [World.size_alloc]; omega
  have hbz : bx < (w.alloc (.cells #[.pointer (some ⟨G, 0, none⟩)] 78)).heap.size := by simp only [World.size_alloc]; omega
  go_wp2
  clear x0 x1
  go_loopw [9] (fun i wr => ∃ (j : Nat) (qs : List LV) (g' : Int → Option Nat), j ≤ k ∧ i = .int .i64 (j : Int) ∧ Hid (Ret wr lo G M d (.slice A k c) pb cp n qs km k (us.map (·.1)) g') ∧ Hid (RestAt qs g' us j) ∧ Hid (qs.map LV.val = relV (us.take j) (ps.map LV.val)) ∧ Hid (∀ (i : Nat) (q : LV), qs[i]? = some q → q.fr = (relS (us.take j) fs).contains (i : Int)) ∧ Hid (Lies wr bx 78 #[.pointer (some ⟨G, 0, none⟩)]) ∧ Hid (Below B0 w wr) ∧ lo ≤ wr.heap.size ∧ bx < wr.heap.size ∧ Hid (∀ q ∈ qs, q.g < bx)) (fun i _ => k - (intOf i).toNat)
  case atStart => exact ⟨0, ps, f, Nat.zero_le _, rfl, H0, HR0, rfl, HFR, hX0, hB0, hlo1, hbz, HPB⟩
  case round =>
    obtain ⟨j, qs, g', hj, rfl, hU, hR, hV, hF, hX, hB, hlr, hbr, hPB⟩ := hrel
    clear H0 HR0 HFR hX0 hB0 hlo1 hbz HPB
    have xx : wr.cell? ⟨bx, 0, none⟩ = some (.pointer (some ⟨G, 0, none⟩)) := hX.out.cell 0
    rw [hbx] at xx
    by_cases hlt : j < k
    · obtain ⟨u, hu⟩ : ∃ u, us[j]? = some u := ⟨_, List.getElem?_eq_getElem (by rw [HL.out]; exact hlt)⟩
      obtain ⟨gg, rfl, hgg, _, hgb, hcells, _⟩ := owned_at hU.out.S (by omega)
      have l1 : wr.cell? ⟨gg, j, none⟩ = some (.int .i64 u.1) := hcells j _ (by rw [List.getElem?_map, List.getElem?_map, hu]; rfl)
      have g2 : wr.cell? ⟨G, 2, none⟩ = some (.map (some M)) := hU.out.G'.L.cell 2
      have HU1 := Lib.hid hu
      obtain ⟨m, q, e1, e2, e3, e4⟩ : ∃ (m : Nat) (q : LV), u.1 = (m : Int) ∧ qs[m]? = some q ∧ g' u.1 = some q.g ∧ q.ws = u.2 := by
        rcases hR.out j u hu with ⟨h1, _⟩ | ⟨_, h2⟩
        · omega
        · exact h2
      have HQ := Lib.hid e2
      have hok := hU.out.G'.P.P q (List.mem_of_getElem? e2)
      have hmn : m < n := by have h1 := (List.getElem?_eq_some_iff.1 e2).1; rw [hU.out.G'.R.l] at h1; exact h1
      have qc2 : wr.cell? ⟨q.g, 2, none⟩ = some (.slice q.wA q.wn q.wc) := hok.L.cell 2
      have hwl : q.ws.length = q.wn := hok.W.1
      have hwf := HWF.out u.1 (List.mem_map.2 ⟨u, List.mem_of_getElem? hu, rfl⟩)
      have TK : us.take (j + 1) = us.take j ++ [u] := by rw [List.take_add_one, hu]; rfl
      obtain ⟨ux, uw⟩ := u
      simp only at e1 e3 e4 l1 hwf
      subst e1
      have hlook : (Instr.lookup 107 (.map (some M)) (.int .i64 (m : Int)) false).run Tryz.prog wr = .ok (.pointer (some ⟨q.g, 0, none⟩)) wr := hU.out.M'.look0 hwf e3
      have hjk : (j : Int) < (k : Int) := by omega
      have HWF1 := Lib.hid hwf
      have HTK := Lib.hid TK
      have hqlo := hok.g
      have hqin := hok.L.inside
      clear hcells hok e2 hu TK hwf
      cases he : uw.isEmpty
      · have hw0 : ((q.wn : Int) == 0) = false := by
          rw [beq_eq_false_iff_ne]
          intro e
          have h1 : q.ws.length = 0 := by omega
          rw [e4] at h1
          rw [List.isEmpty_eq_false_iff] at he
          exact he (List.eq_nil_of_length_eq_zero h1)
        have hR2 := Lib.hid (hR.out.keep HU1.out he)
        have hV2 : Hid (qs.map LV.val = relV (us.take (j + 1)) (ps.map LV.val)) := by show _ = _; rw [HTK.out, relV_snoc]; simp only [he]; rw [if_neg (by decide)]; exact hV.out
        have hF2 : Hid (∀ (i : Nat) (q : LV), qs[i]? = some q → q.fr = (relS (us.take (j + 1)) fs).contains (i : Int)) := by
          intro i q hq
          rw [HTK.out, relS_snoc]; simp only [he]; rw [if_neg (by decide)]; exact hF.out i q hq
        clear he e3 e4 hwl hR hV hF
        go_wp2
        go_roundw
        case rel => exact ⟨j + 1, qs, g', by omega, by go_num, hU, hR2, hV2, hF2, hX, hB, hlr, hbr, hPB⟩
        case measure => simp [intOf]; omega
      · have hw0 : ((q.wn : Int) == 0) = true := by
          rw [List.isEmpty_iff] at he
          rw [he] at e4
          rw [e4] at hwl
          simp only [List.length_nil] at hwl
          rw [← hwl]; rfl
        have HEM := Lib.hid he
        clear he e3 e4 hwl
        go_wp2_with (at_delete; refine wpList_pdrop _ rfl (.tmp 27) (.tmp 28) rfl M km g' rfl hU.out.M' (m : Int) rfl HWF1.out ?_)
        intro W1 hM1 hg1
        have hU1 := Lib.hid (hU.out.map' hM1 hg1)
        have hk1 : ∀ b, b < wr.heap.size → b ≠ M → W1.heap[b]? = wr.heap[b]? := fun b h1 h2 => hg1.block b h1 (fun e => h2 (by injection e))
        have hX1 := Lib.hid (show Lies W1 bx 78 #[.pointer (some ⟨G, 0, none⟩)] from (hk1 bx hX.out.inside (by omega)).trans hX.out)
        have hB1' : Hid (Below B0 w W1) := below_grown2 hB.out hg1 (fun r e => by injection e with e; omega) (by have := hB.out.size; omega)
        have hs1 := hg1.size
        clear hM1 hg1 hk1 hX hB hU l1 g2 qc2 hlook xx
        have xx : W1.cell? ⟨bx, 0, none⟩ = some (.pointer (some ⟨G, 0, none⟩)) := hX1.out.cell 0
        rw [hbx] at xx
        have hok1 := hU1.out.G'.P.P q (List.mem_of_getElem? HQ.out)
        have hpg := hok1.g
        have hpi := hok1.L.inside
        go_wp2_with fail
        refine (vacate_any d G pb cp n m q.g _ _ _ _ _ _ hU1.out.G'.L (hU1.out.G'.R.c m q HQ.out) hok1.L (by omega) (fun e => hU1.out.G'.R.x q (List.mem_of_getElem? HQ.out) (Or.inl e)) hmn hn).mono ?_
        rintro e W2 ⟨rfl, hT2, hL2⟩
        have hU2 : Hid (Ret W2 lo G M d (.slice (some ⟨gg, 0, none⟩) k c) pb cp n (qs.set m q.vac) km k (us.map (·.1)) (fun x => if x = (m : Int) then none else g' x)) :=
          hU1.out.place (p' := q.vac) HQ.out rfl hT2.2.1 (fun b h1 h2 => hT2.2.2 b h1 h2) (vac_ok hd hL2 hpg) (fun b hb => by rcases hb with ⟨h1, _⟩ | ⟨h1, _⟩ <;> exact absurd h1 (Nat.lt_irrefl 0))
        have hqb := hPB.out q (List.mem_of_getElem? HQ.out)
        have hPB2 : Hid (∀ p ∈ qs.set m q.vac, p.g < bx) := by
          intro p hp
          rcases List.mem_or_eq_of_mem_set hp with hp | rfl
          · exact hPB.out p hp
          · exact hqb
        have hX2 := Lib.hid (hT2.lies hX1.out (by show ¬ bx = q.g; omega))
        have hB2' : Hid (Below B0 w W2) := hB1'.out.trans (hT2.1 B0 (fun x hx => by subst hx; omega) (by have := hB1'.out.size; omega))
        have hs2 := hT2.2.1
        have hR2 := Lib.hid (hR.out.drop (p' := q.vac) HDF.out HU1.out HEM.out rfl)
        have hV2 : Hid ((qs.set m q.vac).map LV.val = relV (us.take (j + 1)) (ps.map LV.val)) := by
          show _ = _
          rw [HTK.out, relV_snoc]; rw [if_pos HEM.out, List.map_set, hV.out, Int.toNat_natCast]; rfl
        have hF2 : Hid (∀ (i : Nat) (p : LV), (qs.set m q.vac)[i]? = some p → p.fr = (relS (us.take (j + 1)) fs).contains (i : Int)) := by
          intro i p hp
          rw [HTK.out, relS_snoc]; rw [if_pos HEM.out, giveF_has]
          rw [List.getElem?_set] at hp
          by_cases e : m = i
          · subst e
            rw [if_pos rfl] at hp
            split at hp
            · injection hp with hp; subst hp; simp [LV.vac]
            · cases hp
          · rw [if_neg e] at hp
            rw [hF.out i p hp]
            have : ((i : Int) == (m : Int)) = false := by rw [beq_eq_false_iff_ne]; omega
            rw [this, Bool.or_false]
        clear hT2 hL2 hR hV hF hU1 hX1 hB1' hok1 xx
        go_wp2
        go_roundw
        case rel => exact ⟨j + 1, _, _, by omega, by go_num, hU2, hR2, hV2, hF2, hX2, hB2', by omega, by omega, hPB2⟩
        case measure => simp [intOf]; omega
    · have hjk : j = k := by omega
      subst hjk
      have HDN : Hid ((∀ u ∈ us, (g' u.1).isSome = !u.2.isEmpty) ∧ Watched qs g' (relU us)) := by have h1 := hR.out; rw [← HL.out] at h1; exact Lib.hid h1.done
      have HT : us.take j = us := List.take_of_length_le (by rw [HL.out]; exact Nat.le_refl _)
      have hV2 := hV.out
      have hF2 := hF.out
      rw [HT] at hV2 hF2
      have HV2 := Lib.hid hV2
      have HF2 := Lib.hid hF2
      subst hbx
      clear hR hV hF hV2 hF2 HT xx
      go_upto_region 8 with fail
      refine wp_region_last 9 (fun w' => w'.cell? ⟨w.heap.size, 0, none⟩ = some (.pointer (some ⟨G, 0, none⟩)) ∧ w'.cell? ⟨G, 3, none⟩ = some (.slice A j c)) (by kernel_rfl) (⟨hX.out.drew.cell 0, hU.out.G'.L.drew.cell 3⟩) (fun hHeld => ?_)
      apply wpAnyL_take (i := 0)
      · simp only [List.getElem?_toArray, List.getElem?_cons_succ, List.getElem?_cons_zero]; exact rfl
      refine ⟨⟨by kernel_rfl, by kernel_rfl, by kernel_rfl, by kernel_rfl, by kernel_rfl⟩, fun _ _ _ h => h, ?_, hHeld, ?_⟩
      · intro w hSw; (try dsimp only at hSw); go_simp; all_goals (with_reducible rfl)
      (try simp only [Act.put, List.setIfInBounds_toArray, List.set_cons_zero, List.set_cons_succ])
      apply wpAnyL_take (i := 1)
      · simp only [List.getElem?_toArray, List.getElem?_cons_succ, List.getElem?_cons_zero]; exact rfl
      refine ⟨⟨by kernel_rfl, by kernel_rfl, by kernel_rfl, by kernel_rfl, by kernel_rfl⟩, fun _ _ _ h => h, ?_, hHeld, ?_⟩
      · intro w hSw; (try dsimp only at hSw); go_simp; all_goals (with_reducible rfl)
      (try simp only [Act.put, List.setIfInBounds_toArray, List.set_cons_zero, List.set_cons_succ])
      apply wpAnyL_take (i := 2)
      · simp only [List.getElem?_toArray, List.getElem?_cons_succ, List.getElem?_cons_zero]; exact rfl
      refine ⟨⟨by kernel_rfl, by kernel_rfl, by kernel_rfl, by kernel_rfl, by kernel_rfl⟩, fun _ _ _ h => h, ?_, hHeld, ?_⟩
      · intro w hSw; (try dsimp only at hSw); go_simp; all_goals (with_reducible rfl)
      (try simp only [Act.put, List.setIfInBounds_toArray, List.set_cons_zero, List.set_cons_succ])
      apply wpAnyL_take (i := 3)
      · simp only [List.getElem?_toArray, List.getElem?_cons_succ, List.getElem?_cons_zero]; exact rfl
      refine ⟨⟨by kernel_rfl, by kernel_rfl, by kernel_rfl, by kernel_rfl, by kernel_rfl⟩, fun _ _ _ h => h, ?_, hHeld, ?_⟩
      · intro w hSw; (try dsimp only at hSw); go_simp; all_goals (with_reducible rfl)
      (try simp only [Act.put, List.setIfInBounds_toArray, List.set_cons_zero, List.set_cons_succ])
      apply wpAnyL_take (i := 4)
      · simp only [List.getElem?_toArray, List.getElem?_cons_succ, List.getElem?_cons_zero]; exact rfl
      refine ⟨⟨by kernel_rfl, by kernel_rfl, by kernel_rfl, by kernel_rfl, by kernel_rfl⟩, fun _ _ _ h => h, ?_, hHeld, ?_⟩
      · intro w hSw; (try dsimp only at hSw); go_simp; all_goals (with_reducible rfl)
      (try simp only [Act.put, List.setIfInBounds_toArray, List.set_cons_zero, List.set_cons_succ])
      apply wpAnyL_take (i := 5)
      · simp only [List.getElem?_toArray, List.getElem?_cons_succ, List.getElem?_cons_zero]; exact rfl
      refine ⟨⟨by kernel_rfl, by kernel_rfl, by kernel_rfl, by kernel_rfl, by kernel_rfl⟩, fun _ _ _ h => h, ?_, hHeld, ?_⟩
      · intro w hSw; (try dsimp only at hSw); go_simp; all_goals (with_reducible rfl)
      (try simp only [Act.put, List.setIfInBounds_toArray, List.set_cons_zero, List.set_cons_succ])
      apply wpAnyL_one (i := 6)
      · simp only [List.getElem?_toArray, List.getElem?_cons_succ, List.getElem?_cons_zero]; exact rfl
      refine ⟨by kernel_rfl, fun K hK => ?_⟩
      go_simp
      go_at_call 100
      refine (deleteRel_all lo j c A (.pointer (some ⟨w.heap.size, 0, none⟩)) (fun x => !(g' x).isSome) (us.map (·.1)) _ hU.out.S hk (fun w1 hw1 x hx => ?cl)).mono ?_
      case cl =>
        have hL1 := hw1.lies hX.out (fun e => by have := (ownsRow_block2 hU.out.S _ e).2; have e3 := hXB.out _ e; omega)
        have hG1 := hw1.lies hU.out.G'.L (fun e => by have := (ownsRow_block2 hU.out.S _ e).1; have := hU.out.G'.g; omega)
        have hM1 := hU.out.M'.block (hw1.2.2 M hU.out.M'.inside (fun e => by have := (ownsRow_block2 hU.out.S _ e).1; have := hU.out.m; omega))
        exact relOne_any w.heap.size G M km x g' _ w1 rfl (hL1.cell 0) (hG1.cell 2) hM1 (HWF.out x hx)
      rintro e W3 ⟨m, rfl, hS3, hT3⟩
      have HS3 : Hid (W3.ownsRow lo 2 1 (.slice A m c) m (((relU us).map (·.1)).map (Value.int .i64))) := by show World.ownsRow _ _ _ _ _ _ _; rw [← filter_ids HDN.out.1]; exact hS3
      have HT3 := Lib.hid (((Turned.refl (fun x => (Value.slice A j c).ownBlock = some x) wr).drew).trans hT3)
      have HG3 := Lib.hid (hT3.lies hU.out.G'.L (fun e => by have := (ownsRow_block2 hU.out.S _ e).1; have := hU.out.G'.g; omega))
      have HX3 := Lib.hid (hT3.lies hX.out (fun e => hXB.out _ e rfl))
      have s3 : W3.cell? ⟨G, 3, none⟩ = some (.slice A j c) := HG3.out.cell 3
      have z3 : W3.frozen? ⟨G, 3, none⟩ = false := HG3.out.thawed 3
      have b3 : W3.cell? ⟨w.heap.size, 0, none⟩ = some (.pointer (some ⟨G, 0, none⟩)) := HX3.out.cell 0
      clear hS3 hT3
      have hS_6 := And.intro b3 s3
      refine hK.out _ _ (fun _ => hS_6) ?_
      clear hK K
      (try simp only [Act.put, List.setIfInBounds_toArray, List.set_cons_zero, List.set_cons_succ])
      apply wpAnyL_one (i := 7)
      · simp only [List.getElem?_toArray, List.getElem?_cons_succ, List.getElem?_cons_zero]; exact rfl
      refine ⟨by kernel_rfl, fun K hK => ?_⟩
      go_simp
      have hS_7 := hS_6
      refine hK.out _ _ (fun _ => hS_7) ?_
      clear hK K
      (try simp only [Act.put, List.setIfInBounds_toArray, List.set_cons_zero, List.set_cons_succ])
      apply wpAnyL_one (i := 8)
      · simp only [List.getElem?_toArray, List.getElem?_cons_succ, List.getElem?_cons_zero]; exact rfl
      refine ⟨by kernel_rfl, fun K hK => ?_⟩
      go_simp
      have hS_8 := hS_7
      refine hK.out _ _ (fun _ => hS_8) ?_
      clear hK K
      (try simp only [Act.put, List.setIfInBounds_toArray, List.set_cons_zero, List.set_cons_succ])
      apply wpAnyL_one (i := 9)
      · simp only [List.getElem?_toArray, List.getElem?_cons_succ, List.getElem?_cons_zero]; exact rfl
      refine ⟨by kernel_rfl, fun K hK => ?_⟩
      go_simp
      refine hK.out _ _ (fun h => absurd rfl h) ?_
      clear hK K
      refine wpAnyL_done (by kernel_rfl) ?_ _
      have HRT := Lib.hid (hU.out.order' HT3.out HS3.out (fun b e => (slice_own A m c j c).symm.trans e))
      have HBB : Hid (Below B0 w (W3.setCell ⟨G, 3, none⟩ (.slice A m c))) := (hB.out.trans (HT3.out.1 B0 (fun x hx => by have := (ownsRow_block2 hU.out.S x hx).1; omega) (by have := hB.out.size; omega))).setCell (p := ⟨G, 3, none⟩) hB1 _
      clear hU HT3 HS3 HG3 HX3 s3 z3 b3 hHeld
      go_wp2
      go_end0
      exact ⟨rfl, HBB.out, _, _, qs, g', HRT.out, HDN.out.2, HV2.out, HF2.out⟩

end Go.Proofs.YtpgoildfjkokiaaGreat
