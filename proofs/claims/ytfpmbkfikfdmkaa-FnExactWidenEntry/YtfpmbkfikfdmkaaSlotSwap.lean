/- The stable order of a list: each element goes in after all that are not greater. Plain lists. -/
import Derived.Test.YtfpmbkfikfdmkaaWords
import Derived.Test.YtfpmbkfikfdmkaaSlots
namespace Go.Proofs.Ytfpmbkfikfdmkaa

section
variable {α β : Type} {le : α → α → Bool}
/-- x goes in after the first elements of l that are not greater. -/
def insF (le : α → α → Bool) (x : α) (l : List α) : List α := l.takeWhile (fun y => le y x) ++ x :: l.dropWhile (fun y => le y x)
def srtF (le : α → α → Bool) (xs : List α) : List α := xs.foldl (fun o x => insF le x o) []
theorem srtF_next {xs : List α} {k : Nat} {x : α} (h : xs[k]? = some x) : srtF le (xs.take (k + 1)) = insF le x (srtF le (xs.take k)) := by
  unfold srtF
  rw [List.take_add_one, h, Option.toList_some, List.foldl_append]; rfl
theorem insF_len (x : α) (l : List α) : (insF le x l).length = l.length + 1 := by
  have h := congrArg List.length (List.takeWhile_append_dropWhile (p := fun y => le y x) (l := l))
  unfold insF
  simp only [List.length_append, List.length_cons] at h ⊢
  omega
theorem srtF_len (xs : List α) : (srtF le xs).length = xs.length := by
  have h : ∀ (l o : List α), (l.foldl (fun o x => insF le x o) o).length = o.length + l.length := by
    intro l
    induction l with
    | nil => intro o; rfl
    | cons a t ih => intro o; rw [List.foldl_cons, ih, insF_len, List.length_cons]; omega
  unfold srtF; rw [h]; simp
theorem insF_perm (x : α) (l : List α) : (insF le x l).Perm (x :: l) := by
  unfold insF
  refine List.perm_middle.trans (List.Perm.cons x ?_)
  rw [List.takeWhile_append_dropWhile]
theorem srtF_perm (xs : List α) : (srtF le xs).Perm xs := by
  have h : ∀ (l o : List α), (l.foldl (fun o x => insF le x o) o).Perm (o ++ l) := by
    intro l
    induction l with
    | nil => intro o; simp
    | cons a t ih =>
      intro o
      rw [List.foldl_cons]
      refine (ih _).trans ?_
      refine ((insF_perm a o).append_right t).trans ?_
      exact List.perm_middle.symm
  simpa [srtF] using h xs []
/-- Where the search goes from the left: it stops at the first that is greater. -/
theorem insF_first : ∀ {l : List α} {x : α} {j : Nat}, j ≤ l.length → (∀ (t : Nat) (y : α), t < j → l[t]? = some y → le y x = true) → (∀ y, l[j]? = some y → le y x = false) → insF le x l = l.take j ++ x :: l.drop j
  | [], x, j, hj, _, _ => by
    obtain rfl : j = 0 := by simpa using hj
    rfl
  | a :: t, x, 0, hj, h1, h2 => by
    have ha : le a x = false := h2 a rfl
    simp [insF, ha]
  | a :: t, x, j + 1, hj, h1, h2 => by
    have ha : le a x = true := h1 0 a (by omega) rfl
    have ih := insF_first (l := t) (x := x) (j := j) (by simpa using hj) (fun i y hi hy => h1 (i + 1) y (by omega) (by simpa using hy)) (fun y hy => h2 y (by simpa using hy))
    unfold insF at ih ⊢
    simp only [List.takeWhile_cons, List.dropWhile_cons, ha, if_true, List.take_succ_cons, List.drop_succ_cons, List.cons_append]
    rw [ih]
/-- Where it goes from the right, in a list that rises: it stops at the first that is not greater. -/
theorem insF_last (tr : ∀ a b c, le a b = true → le b c = true → le a c = true) {l : List α} {x : α} {j : Nat} (hs : l.Pairwise (fun a b => le a b = true)) (hj : j ≤ l.length)
    (h1 : ∀ (t : Nat) (y : α), j ≤ t → l[t]? = some y → le y x = false) (h2 : ∀ y, 0 < j → l[j - 1]? = some y → le y x = true) : insF le x l = l.take j ++ x :: l.drop j := by
  refine insF_first hj (fun t y ht hy => ?_) (fun y hy => h1 j y (Nat.le_refl _) hy)
  have hj1 : j - 1 < l.length := by omega
  obtain ⟨z, hz⟩ : ∃ z, l[j - 1]? = some z := ⟨_, List.getElem?_eq_getElem hj1⟩
  have hzx := h2 z (by omega) hz
  rcases Nat.lt_or_ge t (j - 1) with h | h
  · refine tr _ z _ ?_ hzx
    rw [List.pairwise_iff_getElem] at hs
    have e1 := (List.getElem?_eq_some_iff.1 hy)
    have e2 := (List.getElem?_eq_some_iff.1 hz)
    obtain ⟨p1, rfl⟩ := e1
    obtain ⟨p2, rfl⟩ := e2
    exact hs t (j - 1) p1 p2 h
  · obtain rfl : t = j - 1 := by omega
    rw [hy] at hz; injection hz with hz; subst hz; exact hzx
theorem insF_rise (tr : ∀ a b c, le a b = true → le b c = true → le a c = true) (tot : ∀ a b, le a b = false → le b a = true) (x : α) : ∀ {l : List α}, l.Pairwise (fun a b => le a b = true) → (insF le x l).Pairwise (fun a b => le a b = true)
  | [], _ => by simp [insF]
  | a :: t, h => by
    obtain ⟨h1, h2⟩ := List.pairwise_cons.1 h
    unfold insF
    by_cases ha : le a x = true
    · have ih := insF_rise tr tot x h2
      simp only [List.takeWhile_cons, List.dropWhile_cons, ha, if_true, List.cons_append]
      refine List.pairwise_cons.2 ⟨fun b hb => ?_, ih⟩
      have hb' := (insF_perm (le := le) x t).mem_iff.1 hb
      rcases List.mem_cons.1 hb' with rfl | hb'
      · exact ha
      · exact h1 b hb'
    · have ha' : le a x = false := by simpa using ha
      have hxa := tot a x ha'
      simp only [List.takeWhile_cons, List.dropWhile_cons, ha', List.nil_append]
      refine List.pairwise_cons.2 ⟨fun b hb => ?_, h⟩
      rcases List.mem_cons.1 hb with rfl | hb
      · exact hxa
      · exact tr _ a _ hxa (h1 b hb)
theorem srtF_rise (tr : ∀ a b c, le a b = true → le b c = true → le a c = true) (tot : ∀ a b, le a b = false → le b a = true) (xs : List α) : (srtF le xs).Pairwise (fun a b => le a b = true) := by
  have h : ∀ (l o : List α), o.Pairwise (fun a b => le a b = true) → (l.foldl (fun o x => insF le x o) o).Pairwise (fun a b => le a b = true) := by
    intro l
    induction l with
    | nil => intro o ho; exact ho
    | cons a t ih => intro o ho; exact ih _ (insF_rise tr tot a ho)
  exact h xs [] List.Pairwise.nil
theorem insF_map {le' : β → β → Bool} {f : α → β} (h : ∀ a b, le a b = le' (f a) (f b)) (x : α) (l : List α) : (insF le x l).map f = insF le' (f x) (l.map f) := by
  have e : (fun y => le y x) = (fun y => le' y (f x)) ∘ f := by funext y; exact h y x
  unfold insF
  rw [List.map_append, List.map_cons, List.takeWhile_map, List.dropWhile_map, e]
theorem srtF_map {le' : β → β → Bool} {f : α → β} (h : ∀ a b, le a b = le' (f a) (f b)) (xs : List α) : (srtF le xs).map f = srtF le' (xs.map f) := by
  have h : ∀ (l o : List α), (l.foldl (fun o x => insF le x o) o).map f = (l.map f).foldl (fun o x => insF le' x o) (o.map f) := by
    intro l
    induction l with
    | nil => intro o; rfl
    | cons a t ih => intro o; rw [List.foldl_cons, ih, insF_map h]; rfl
  exact h xs []
end

/-- The order of two keys of two numbers. -/
def leK (a b : Int × Int) : Bool := decide (a.1 < b.1 ∨ a.1 = b.1 ∧ a.2 ≤ b.2)
theorem leK_tr (a b c : Int × Int) (h : leK a b = true) (h' : leK b c = true) : leK a c = true := by
  simp only [leK, decide_eq_true_eq] at h h' ⊢; omega
theorem leK_tot (a b : Int × Int) (h : leK a b = false) : leK b a = true := by
  simp only [leK, decide_eq_false_iff_not, decide_eq_true_eq] at h ⊢; omega

end Go.Proofs.Ytfpmbkfikfdmkaa

/- The row of an insertion sort while an element goes down: plain lists. -/
namespace Go.Proofs.Ytfpmbkfikfdmkaa

section
variable {α : Type} {le : α → α → Bool}
/-- x stands at j in what is sorted, ahead of the rest. -/
def rowAt (out rest : List α) (x : α) (j : Nat) : List α := (out.take j ++ x :: out.drop j) ++ rest
theorem rowAt_len {out rest : List α} {x : α} {j : Nat} : (rowAt out rest x j).length = out.length + 1 + rest.length := by
  unfold rowAt
  simp only [List.length_append, List.length_cons, List.length_take, List.length_drop]; omega
theorem rowAt_get {out rest : List α} {x : α} {j t : Nat} (hj : j ≤ out.length) : (rowAt out rest x j)[t]? = if t < j then out[t]? else if t = j then some x else if t ≤ out.length then out[t - 1]? else rest[t - out.length - 1]? := by
  unfold rowAt
  have hl : (out.take j).length = j := by rw [List.length_take]; omega
  rw [List.append_assoc]
  by_cases h1 : t < j
  · rw [if_pos h1, List.getElem?_append_left (by omega), List.getElem?_take, if_pos h1]
  · rw [if_neg h1, List.getElem?_append_right (by omega), hl]
    by_cases h2 : t = j
    · subst h2; simp
    · rw [if_neg h2, List.cons_append, show t - j = (t - j - 1) + 1 by omega, List.getElem?_cons_succ]
      by_cases h3 : t ≤ out.length
      · rw [if_pos h3, List.getElem?_append_left (by rw [List.length_drop]; omega), List.getElem?_drop]
        congr 1; omega
      · rw [if_neg h3, List.getElem?_append_right (by rw [List.length_drop]; omega), List.length_drop]
        congr 1; omega
theorem rowAt_self {out rest : List α} {x : α} {j : Nat} (hj : j ≤ out.length) : (rowAt out rest x j)[j]? = some x := by
  rw [rowAt_get hj, if_neg (by omega), if_pos rfl]
theorem rowAt_prev {out rest : List α} {x : α} {j : Nat} (hj : j ≤ out.length) (h0 : 0 < j) : (rowAt out rest x j)[j - 1]? = out[j - 1]? := by
  rw [rowAt_get hj, if_pos (by omega)]
/-- Two neighbours change places. -/
theorem rowAt_swap {out rest : List α} {x y : α} {j : Nat} (hj : j ≤ out.length) (h0 : 0 < j) (hy : out[j - 1]? = some y) : ((rowAt out rest x j).set j y).set (j - 1) x = rowAt out rest x (j - 1) := by
  apply List.ext_getElem?
  intro t
  have hl : (rowAt out rest x j).length = out.length + 1 + rest.length := rowAt_len
  rw [List.getElem?_set, List.getElem?_set, List.length_set, rowAt_get hj, rowAt_get (j := j - 1) (by omega)]
  by_cases h1 : j - 1 = t
  · subst h1
    rw [if_pos rfl, if_pos (by omega), if_neg (by omega), if_pos rfl]
  · rw [if_neg h1]
    by_cases h2 : j = t
    · subst h2
      rw [if_pos rfl, if_pos (by omega), if_neg (by omega), if_neg (by omega), if_pos (by omega), hy]
    · rw [if_neg h2]
      by_cases h3 : t < j
      · rw [if_pos h3, if_pos (by omega)]
      · simp only [if_neg h3, if_neg (show ¬ t = j by omega), if_neg (show ¬ t < j - 1 by omega), if_neg (show ¬ t = j - 1 by omega)]
theorem rowAt_start {xs : List α} {i : Nat} {x : α} (h : xs[i]? = some x) : srtF le (xs.take i) ++ xs.drop i = rowAt (srtF le (xs.take i)) (xs.drop (i + 1)) x i := by
  have hi := (List.getElem?_eq_some_iff.1 h).1
  have hl : (srtF le (xs.take i)).length = i := by rw [srtF_len, List.length_take]; omega
  have hd : xs.drop i = x :: xs.drop (i + 1) := by
    rw [List.drop_eq_getElem_cons hi]
    congr 1
    exact (List.getElem?_eq_some_iff.1 h).2
  unfold rowAt
  rw [List.take_of_length_le (l := srtF le (xs.take i)) (by omega), show (srtF le (xs.take i)).drop i = [] from List.drop_eq_nil_of_le (by omega), hd]
  simp
theorem rowAt_done {xs : List α} {i j : Nat} {x : α} (h : xs[i]? = some x) (he : insF le x (srtF le (xs.take i)) = (srtF le (xs.take i)).take j ++ x :: (srtF le (xs.take i)).drop j) : rowAt (srtF le (xs.take i)) (xs.drop (i + 1)) x j = srtF le (xs.take (i + 1)) ++ xs.drop (i + 1) := by
  unfold rowAt
  rw [← he, srtF_next h]
theorem srtF_one {xs : List α} (h : 0 < xs.length) : srtF le (xs.take 1) ++ xs.drop 1 = xs := by
  cases xs with
  | nil => simp at h
  | cons a t => simp [srtF, insF]
end

end Go.Proofs.Ytfpmbkfikfdmkaa

/- A whole slot is written anew; two neighbours change places. -/
namespace Go.Proofs.Ytfpmbkfikfdmkaa
open Go.RowKit

/-- One cell of a slot is written anew. -/
def SL.at8 (s : SL) (j : Nat) (m : Int) : SL := match j with | 0 => { s with p0 := m } | 1 => { s with p1 := m } | 2 => { s with p2 := m } | 3 => { s with q0 := m } | 4 => { s with q1 := m } | 5 => { s with q2 := m } | 6 => { s with ref := m } | _ => { s with nsn := m }
theorem SL.at8_cells (s : SL) {j : Nat} (m : Int) (hj : j < 8) : (s.at8 j m).cells = s.cells.set j (.int .i64 m) := by
  match j, hj with
  | 0, _ => rfl
  | 1, _ => rfl
  | 2, _ => rfl
  | 3, _ => rfl
  | 4, _ => rfl
  | 5, _ => rfl
  | 6, _ => rfl
  | 7, _ => rfl
theorem Slots.at8 {w : World} {g o n i j : Nat} {ss : List SL} {s : SL} (h : Slots w (some ⟨g, o, none⟩) n ss) (hi : ss[i]? = some s) (hj : j < 8) (m : Int) : Slots (w.setCell ⟨g, o + i * 8 + j, none⟩ (.int .i64 m)) (some ⟨g, o, none⟩) n (ss.set i (s.at8 j m)) := by
  obtain ⟨hl, hr⟩ := h
  have hin : i < ss.length := (List.getElem?_eq_some_iff.1 hi).1
  obtain ⟨b, o', e, h2, h3⟩ := hr (by omega)
  injection e with e; injection e with e1 e2; subst e1 e2
  refine ⟨by rw [List.length_set]; exact hl, fun _ => ⟨g, o, rfl, by rw [size_of_setCell]; exact h2, fun k t ht jj v hv => ?_⟩⟩
  have hj8 : jj < 8 := (List.getElem?_eq_some_iff.1 hv).1
  rw [List.getElem?_set] at ht
  by_cases hk : i = k
  · subst hk
    rw [if_pos rfl, if_pos hin] at ht
    injection ht with ht
    subst ht
    rw [SL.at8_cells s m hj, List.getElem?_set] at hv
    have hs8 : s.cells.length = 8 := rfl
    by_cases hjj : j = jj
    · subst hjj
      rw [if_pos rfl, if_pos (by rw [hs8]; omega)] at hv
      injection hv with hv
      subst hv
      obtain ⟨u, hu⟩ : ∃ u, s.cells[j]? = some u := ⟨_, List.getElem?_eq_getElem (by rw [hs8]; omega)⟩
      exact World.cell?_setCell_same _ _ _ (h3 i s hi j u hu)
    · rw [if_neg hjj] at hv
      rw [World.cell?_setCell_other _ _ _ _ (fun e' => hjj (by injection e' with _ e'; omega))]
      exact h3 i s hi jj v hv
  · rw [if_neg hk] at ht
    rw [World.cell?_setCell_other _ _ _ _ (fun e' => hk (by injection e' with _ e'; omega))]
    exact h3 k t ht jj v hv
theorem set_at8 {ss : List SL} {i : Nat} {s t : SL} (h : ss[i]? = some s) : (ss.set i t)[i]? = some t := by
  rw [List.getElem?_set, if_pos rfl, if_pos (List.getElem?_eq_some_iff.1 h).1]
/-- The world in which the slot at offset p of block g is t. -/
def putSlot (w : World) (g p : Nat) (t : SL) : World := (((((((w.setCell ⟨g, p, none⟩ (.int .i64 t.p0)).setCell ⟨g, p + 1, none⟩ (.int .i64 t.p1)).setCell ⟨g, p + 2, none⟩ (.int .i64 t.p2)).setCell ⟨g, p + 3, none⟩ (.int .i64 t.q0)).setCell ⟨g, p + 4, none⟩ (.int .i64 t.q1)).setCell ⟨g, p + 5, none⟩ (.int .i64 t.q2)).setCell ⟨g, p + 6, none⟩ (.int .i64 t.ref)).setCell ⟨g, p + 7, none⟩ (.int .i64 t.nsn)
theorem Slots.put8 {w : World} {g o n i : Nat} {ss : List SL} {s : SL} (h : Slots w (some ⟨g, o, none⟩) n ss) (hi : ss[i]? = some s) (t : SL) : Slots (putSlot w g (o + i * 8) t) (some ⟨g, o, none⟩) n (ss.set i t) := by
  have h0 := h.at8 hi (j := 0) (by decide) t.p0
  have h1 := h0.at8 (set_at8 hi) (j := 1) (by decide) t.p1
  rw [List.set_set] at h1
  have h2 := h1.at8 (set_at8 hi) (j := 2) (by decide) t.p2
  rw [List.set_set] at h2
  have h3 := h2.at8 (set_at8 hi) (j := 3) (by decide) t.q0
  rw [List.set_set] at h3
  have h4 := h3.at8 (set_at8 hi) (j := 4) (by decide) t.q1
  rw [List.set_set] at h4
  have h5 := h4.at8 (set_at8 hi) (j := 5) (by decide) t.q2
  rw [List.set_set] at h5
  have h6 := h5.at8 (set_at8 hi) (j := 6) (by decide) t.ref
  rw [List.set_set] at h6
  have h7 := h6.at8 (set_at8 hi) (j := 7) (by decide) t.nsn
  rw [List.set_set] at h7
  have e : (((((((s.at8 0 t.p0).at8 1 t.p1).at8 2 t.p2).at8 3 t.q0).at8 4 t.q1).at8 5 t.q2).at8 6 t.ref).at8 7 t.nsn = t := by cases t; rfl
  rw [e] at h7
  clear h h0 h1 h2 h3 h4 h5 h6 e
  simp only [Nat.add_zero] at h7
  unfold putSlot
  exact h7
theorem putSlot_below {w0 w : World} {g p lo : Nat} (h : Below lo w0 w) (hg : lo ≤ g) (t : SL) : Below lo w0 (putSlot w g p t) := by
  unfold putSlot
  repeat (with_reducible refine Below.setCell ?_ (by exact hg) _)
  exact h
/-- The insertion sort's exchange, in memory. -/
theorem Slots.swap {w : World} {g o n j : Nat} {out rest : List SL} {x y : SL} (h : Slots w (some ⟨g, o, none⟩) n (rowAt out rest x j)) (hj : j ≤ out.length) (h0 : 0 < j) (hy : out[j - 1]? = some y) :
    Slots (putSlot (putSlot w g (o + j * 8) y) g (o + (j - 1) * 8) x) (some ⟨g, o, none⟩) n (rowAt out rest x (j - 1)) := by
  have h1 := h.put8 (rowAt_self hj) y
  have hz : ((rowAt out rest x j).set j y)[j - 1]? = some y := by
    rw [List.getElem?_set, if_neg (by omega), rowAt_prev hj h0]; exact hy
  have h2 := h1.put8 hz x
  rw [rowAt_swap hj h0 hy] at h2
  exact h2

end Go.Proofs.Ytfpmbkfikfdmkaa
