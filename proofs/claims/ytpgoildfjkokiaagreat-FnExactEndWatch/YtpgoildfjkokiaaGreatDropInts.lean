/- The walks of slices.IndexFunc and slices.DeleteFunc at numbers, with a closure that answers by a number alone. -/
import Derived.Test.YtpgoildfjkokiaaGreatRetire3
import Derived.Test.YtpgoildfjkokiaaGreatAnswers
import Derived.Test.YtpgoildfjkokiaaGreatFilters
import Derived.Lib.SliceRun
namespace Go.Proofs.YtpgoildfjkokiaaGreat
open Go.RowKit

section
variable {w : World} {base size n c g i : Nat} {e : TypeId} {xs : List Value}
theorem owns_put (h : w.ownsRow base e size (.slice (some ⟨g, 0, none⟩) n c) n xs) (u : Value) : (w.setCell ⟨g, i, none⟩ u).ownsRow base e size (.slice (some ⟨g, 0, none⟩) n c) n (xs.set i u) := by
  obtain ⟨hl, h1⟩ := h
  refine ⟨by rw [List.length_set]; exact hl, ?_⟩
  rcases h1 with ⟨e1, _⟩ | ⟨g', cap, cur, e1, h2, h3, h4, h5, h6, h7⟩
  · injection e1 with e1; cases e1
  · injection e1 with e1 e2 e3
    injection e1 with e1
    injection e1 with e1
    subst e1 e3
    refine Or.inr ⟨g, c, cur.setIfInBounds i u, rfl, h2, heap_setCell_same w g i cur e u h3, h4, h5, by simpa using h6, ?_⟩
    rw [← h7, Array.toList_setIfInBounds, List.take_set]
/-- Fewer elements of the same row. -/
theorem owns_less {m : Nat} (h : w.ownsRow base e 1 (.slice (some ⟨g, 0, none⟩) n c) n xs) (hm : m ≤ n) : w.ownsRow base e 1 (.slice (some ⟨g, 0, none⟩) m c) m (xs.take m) := by
  obtain ⟨hl, h1⟩ := h
  refine ⟨by rw [List.length_take]; omega, ?_⟩
  rcases h1 with ⟨e1, _⟩ | ⟨g', cap, cur, e1, h2, h3, h4, h5, h6, h7⟩
  · injection e1 with e1; cases e1
  · injection e1 with e1 e2 e3
    injection e1 with e1
    injection e1 with e1
    subst e1 e3
    refine Or.inr ⟨g, c, cur, rfl, h2, h3, by omega, h5, h6, ?_⟩
    rw [← h7, List.take_take, show min m (n * 1) = m * 1 by omega]
/-- What is written behind the row's elements turns none of them. -/
theorem owns_behind : ∀ {vs : List Value} {o : Nat} {w : World}, n ≤ o → w.ownsRow base e 1 (.slice (some ⟨g, 0, none⟩) n c) n xs → (w.setCells g o vs).ownsRow base e 1 (.slice (some ⟨g, 0, none⟩) n c) n xs
  | [], _, _, _, h => h
  | v :: t, o, w, ho, h => by
    refine owns_behind (vs := t) (o := o + 1) (w := w.setCell ⟨g, o, none⟩ v) (by omega) ?_
    have h1 := owns_put (i := o) h v
    rwa [List.set_eq_of_length_le (by have := h.1; omega)] at h1
theorem Turned.setCells {G : Nat → Prop} {b : Nat} (hb : G b) : ∀ {vs : List Value} {o : Nat} {w w' : World}, Turned G w w' → Turned G w (w'.setCells b o vs)
  | [], _, _, _, h => h
  | v :: t, o, w, w', h => Turned.setCells hb (vs := t) (o := o + 1) (h.setCell (a := ⟨b, o, none⟩) hb v)
/-- A number of the row at its cell. -/
theorem owns_cell {ys : List Int} (h : w.ownsRow base e 1 (.slice (some ⟨g, 0, none⟩) n c) n (ys.map (Value.int .i64))) {j : Nat} {x : Int} (hj : ys[j]? = some x) : w.cell? ⟨g, j, none⟩ = some (.int .i64 x) ∧ w.frozen? ⟨g, j, none⟩ = false ∧ g < w.heap.size := by
  have h0 : 0 < n := by have h1 := h.1; have h2 := (List.getElem?_eq_some_iff.1 hj).1; rw [List.length_map] at h1; omega
  obtain ⟨g', rfl', hlo, hg, hb, hc, hf⟩ := owned_at h h0
  injection rfl' with e1
  injection e1 with e1
  subst e1
  exact ⟨hc j _ (by rw [List.getElem?_map, hj]; rfl), hf j, hb⟩
end

theorem zero_i64 (w : World) : (zeroValue 2).run Tryz.prog w = .ok (.int .i64 0) w := by kernel_rfl

/-- The row while elements are taken out: the first i are those that stay of the first j. -/
structure Dropping (xs ys : List Int) (p : Int → Bool) (n i j : Nat) : Prop where
  l : ys.length = n
  h : i = ((xs.take j).filter fun x => !p x).length
  t : ys.take i = (xs.take j).filter fun x => !p x
  r : ∀ k, j ≤ k → ys[k]? = xs[k]?
section
variable {xs ys : List Int} {p : Int → Bool} {n i j : Nat}
theorem Dropping.skip {x : Int} (h : Dropping xs ys p n i j) (hx : xs[j]? = some x) (hp : p x = true) : Dropping xs ys p n i (j + 1) := by
  have e := filter_take_next (p := fun x => !p x) hx
  simp only [hp, Bool.not_true, Bool.false_eq_true, if_false, List.append_nil] at e
  exact ⟨h.l, by rw [e]; exact h.h, by rw [e]; exact h.t, fun k hk => h.r k (by omega)⟩
theorem Dropping.keep {x : Int} (h : Dropping xs ys p n i j) (hij : i < j) (hj : j < n) (hx : xs[j]? = some x) (hp : p x = false) : Dropping xs (ys.set i x) p n (i + 1) (j + 1) := by
  have e := filter_take_next (p := fun x => !p x) hx
  simp only [hp, Bool.not_false, if_true] at e
  refine ⟨by rw [List.length_set]; exact h.l, by rw [e, List.length_append, ← h.h]; rfl, ?_, fun k hk => by rw [List.getElem?_set, if_neg (by omega)]; exact h.r k (by omega)⟩
  have hil : i < ys.length := by rw [h.l]; omega
  rw [e, List.take_add_one, List.getElem?_set, if_pos rfl, if_pos hil, List.take_set_of_le (Nat.le_refl _), h.t]
  rfl
theorem Dropping.first {x : Int} (hl : xs.length = n) (hx : xs[i]? = some x) (hp : p x = true) (hb : ∀ (j : Nat) (y : Int), j < i → xs[j]? = some y → p y = false) : Dropping xs xs p n i (i + 1) := by
  have h1 : (xs.take i).filter (fun x => !p x) = xs.take i := List.filter_eq_self.2 fun y hy => by
    obtain ⟨j, hj⟩ := List.getElem?_of_mem hy
    rw [List.getElem?_take] at hj
    split at hj
    · rw [hb j y (by assumption) hj]; rfl
    · cases hj
  have hi : i < xs.length := (List.getElem?_eq_some_iff.1 hx).1
  have e := filter_take_next (p := fun x => !p x) hx
  simp only [hp, Bool.not_true, Bool.false_eq_true, if_false, List.append_nil, h1] at e
  exact ⟨hl, by rw [e, List.length_take]; omega, by rw [e], fun k _ => rfl⟩
theorem Dropping.le (h : Dropping xs ys p n i j) : i ≤ j := by rw [h.h]; exact filter_take_le
theorem Dropping.last (h : Dropping xs ys p n i n) (hl : xs.length = n) : ys.take i = xs.filter fun x => !p x := by rw [h.t, List.take_of_length_le (by omega)]
end

set_option maxRecDepth 100000 in
set_option maxHeartbeats 1600000 in
theorem indexRel_any (base g n c : Nat) (cv : Value) (p : Int → Bool) (xs : List Int) (w : World) (ho : w.ownsRow base 2 1 (.slice (some ⟨g, 0, none⟩) n c) n (xs.map (Value.int .i64))) (hn : n ≤ 1048576)
    (hcl : ∀ x ∈ xs, Calls Tryz.prog 101 #[.int .i64 x, cv] w fun e w' => e = .returned (.bool (p x)) ∧ w = w') :
    Calls Tryz.prog 121 #[.slice (some ⟨g, 0, none⟩) n c, .func (.func 101) #[] #[cv]] w fun e w' => w = w' ∧ ((∃ i : Nat, e = .returned (.int .i64 (i : Int)) ∧ (∃ x, xs[i]? = some x ∧ p x = true) ∧ ∀ (j : Nat) (x : Int), j < i → xs[j]? = some x → p x = false) ∨ (e = .returned (.int .i64 (-1)) ∧ ∀ x ∈ xs, p x = false)) := by
  have HO := Lib.hid ho
  have HC := Lib.hid hcl
  have HL : Hid (xs.length = n) := by have h := ho.1; rw [List.length_map] at h; exact Lib.hid (by omega)
  clear ho hcl
  go_enter Tryz.func121, Tryz.ntmps121
  go_wp2
  go_loopw [8] (fun i wr => ∃ k : Nat, k ≤ n ∧ i = .int .i64 (k : Int) ∧ wr = w ∧ Hid (∀ (j : Nat) (x : Int), j < k → xs[j]? = some x → p x = false)) (fun i _ => n - (intOf i).toNat)
  case atStart => exact ⟨0, Nat.zero_le _, rfl, rfl, fun j u hj => absurd hj (Nat.not_lt_zero _)⟩
  case round =>
    obtain ⟨k, hk, rfl, rfl, hA⟩ := hrel
    by_cases hlt : k < n
    · obtain ⟨x, hx⟩ : ∃ x, xs[k]? = some x := ⟨_, List.getElem?_eq_getElem (by rw [HL.out]; exact hlt)⟩
      have HX := Lib.hid hx
      have l1 : wr.cell? ⟨g, k, none⟩ = some (.int .i64 x) := (owns_cell HO.out hx).1
      have hlt' : (k : Int) < (n : Int) := by omega
      have hcx := Lib.hid (HC.out x (List.mem_of_getElem? hx))
      clear hx
      cases hf : p x
      · have hA' := Lib.hid (upto_next (P := fun x => p x = false) hA.out HX.out hf)
        have hcx' : Hid (Calls Tryz.prog 101 #[.int .i64 x, cv] wr fun e w' => e = .returned (.bool false) ∧ wr = w') := by show Calls _ _ _ _ _; rw [← hf]; exact hcx.out
        clear hf hA hcx
        go_wp2_with fail
        refine hcx'.out.mono ?_
        rintro e w' ⟨rfl, rfl⟩
        go_wp2
        go_roundw
        case rel => exact ⟨k + 1, by omega, by go_num, by trivial, hA'⟩
        case measure => simp [intOf]; omega
      · have hcx' : Hid (Calls Tryz.prog 101 #[.int .i64 x, cv] wr fun e w' => e = .returned (.bool true) ∧ wr = w') := by show Calls _ _ _ _ _; rw [← hf]; exact hcx.out
        have HF := Lib.hid hf
        clear hf hcx
        go_wp2_with fail
        refine hcx'.out.mono ?_
        rintro e w' ⟨rfl, rfl⟩
        go_wp2
        go_ret
        exact ⟨rfl, Or.inl ⟨k, rfl, ⟨x, HX.out, HF.out⟩, hA.out⟩⟩
    · have HF : Hid (∀ x ∈ xs, p x = false) := by
        intro x hx
        obtain ⟨j, hj⟩ := List.getElem?_of_mem hx
        exact hA.out j x (by have h1 := (List.getElem?_eq_some_iff.1 hj).1; have h2 := HL.out; omega) hj
      clear hA
      go_wp2
      go_ret
      exact ⟨rfl, Or.inr ⟨rfl, HF.out⟩⟩

set_option maxRecDepth 100000 in
set_option maxHeartbeats 3200000 in
theorem deleteRel_any (base g n c : Nat) (cv : Value) (p : Int → Bool) (xs : List Int) (w : World) (ho : w.ownsRow base 2 1 (.slice (some ⟨g, 0, none⟩) n c) n (xs.map (Value.int .i64))) (hn : n ≤ 1048576)
    (hcl : ∀ w1, Turned (fun x => x = g) w w1 → ∀ x ∈ xs, Calls Tryz.prog 101 #[.int .i64 x, cv] w1 fun e w' => e = .returned (.bool (p x)) ∧ w1 = w') :
    Calls Tryz.prog 100 #[.slice (some ⟨g, 0, none⟩) n c, .func (.func 101) #[] #[cv]] w fun e w' => ∃ m, e = .returned (.slice (some ⟨g, 0, none⟩) m c) ∧ w'.ownsRow base 2 1 (.slice (some ⟨g, 0, none⟩) m c) m ((xs.filter fun x => !p x).map (Value.int .i64)) ∧ Turned (fun x => x = g) w w' := by
  have HO := Lib.hid ho
  have HC := Lib.hid hcl
  have HL : Hid (xs.length = n) := by have h := ho.1; rw [List.length_map] at h; exact Lib.hid (by omega)
  have hcap : n ≤ c := by
    rcases ho.2 with ⟨e1, _⟩ | ⟨g', cap, cur, e1, h2, h3, h4, _⟩
    · injection e1 with e1; cases e1
    · injection e1 with _ _ e3; subst e3; exact h4
  have T0 := Lib.hid (Turned.refl (fun x => x = g) w)
  clear ho hcl
  go_enter Tryz.func100, Tryz.ntmps100
  go_wp2_with fail
  refine (indexRel_any base g n c cv p xs w HO.out hn (HC.out w T0.out)).mono ?_
  rintro e w' ⟨rfl, ⟨i, rfl, ⟨x, hx, hp⟩, hb⟩ | ⟨rfl, hno⟩⟩
  rotate_left
  · have HF : Hid ((xs.filter fun x => !p x) = xs) := List.filter_eq_self.2 fun y hy => by rw [hno y hy]; rfl
    clear hno
    go_wp2
    go_ret
    exact ⟨n, rfl, by rw [HF.out]; exact HO.out, T0.out⟩
  have D0 := Lib.hid (Dropping.first HL.out hx hp hb)
  have hin : i < n := by have h1 := (List.getElem?_eq_some_iff.1 hx).1; rw [HL.out] at h1; exact h1
  have hne : ((i : Int) == -1) = false := by rw [beq_eq_false_iff_ne]; omega
  clear hx hp hb
  go_wp2
  go_loopw [5, 6] (fun vi vj wr => ∃ (i j : Nat) (ys : List Int), vi = .int .i64 (i : Int) ∧ vj = .int .i64 (j : Int) ∧ i < j ∧ j ≤ n ∧ Hid (Dropping xs ys p n i j) ∧ Hid (wr.ownsRow base 2 1 (.slice (some ⟨g, 0, none⟩) n c) n (ys.map (Value.int .i64))) ∧ Hid (Turned (fun x => x = g) w wr)) (fun _ vj _ => n - (intOf vj).toNat)
  case atStart => exact ⟨i, i + 1, xs, rfl, by go_num, by omega, by omega, D0, HO, T0⟩
  case round =>
    obtain ⟨i, j, ys, rfl, rfl, hij, hjn, hD, hU, hT⟩ := hrel
    clear D0
    by_cases hlt : j < n
    · obtain ⟨x, hx⟩ : ∃ x, xs[j]? = some x := ⟨_, List.getElem?_eq_getElem (by rw [HL.out]; exact hlt)⟩
      have HX := Lib.hid hx
      have l1 : wr.cell? ⟨g, j, none⟩ = some (.int .i64 x) := (owns_cell hU.out ((hD.out.r j (Nat.le_refl _)).trans hx)).1
      have hlt' : (j : Int) < (n : Int) := by omega
      have hit' : (i : Int) < (n : Int) := by omega
      have hcx := Lib.hid (HC.out wr hT.out x (List.mem_of_getElem? hx))
      obtain ⟨y, hy⟩ : ∃ y, ys[i]? = some y := ⟨_, List.getElem?_eq_getElem (by rw [hD.out.l]; omega)⟩
      have l2 : wr.cell? ⟨g, i, none⟩ = some (.int .i64 y) := (owns_cell hU.out hy).1
      have l3 : wr.frozen? ⟨g, i, none⟩ = false := (owns_cell hU.out hy).2.1
      clear hx hy
      cases hf : p x
      · have hcx' : Hid (Calls Tryz.prog 101 #[.int .i64 x, cv] wr fun e w' => e = .returned (.bool false) ∧ wr = w') := by show Calls _ _ _ _ _; rw [← hf]; exact hcx.out
        have hD' := Lib.hid (hD.out.keep hij hlt HX.out hf)
        have hU' : Hid ((wr.setCell ⟨g, i, none⟩ (.int .i64 x)).ownsRow base 2 1 (.slice (some ⟨g, 0, none⟩) n c) n ((ys.set i x).map (Value.int .i64))) := by show World.ownsRow _ _ _ _ _ _ _; rw [List.map_set]; exact owns_put hU.out _
        have hT' := Lib.hid (hT.out.setCell (a := ⟨g, i, none⟩) rfl (.int .i64 x))
        clear hf hcx hD hU hT
        go_wp2_with fail
        refine hcx'.out.mono ?_
        rintro e w' ⟨rfl, rfl⟩
        go_wp2
        go_roundw
        case rel => exact ⟨i + 1, j + 1, _, by go_num, by go_num, by omega, by omega, hD', hU', hT'⟩
        case measure => simp [intOf]; omega
      · have hcx' : Hid (Calls Tryz.prog 101 #[.int .i64 x, cv] wr fun e w' => e = .returned (.bool true) ∧ wr = w') := by show Calls _ _ _ _ _; rw [← hf]; exact hcx.out
        have hD' := Lib.hid (hD.out.skip HX.out hf)
        clear hf hcx hD l2 l3
        go_wp2_with fail
        refine hcx'.out.mono ?_
        rintro e w' ⟨rfl, rfl⟩
        go_wp2
        go_roundw
        case rel => exact ⟨i, j + 1, _, rfl, by go_num, by omega, by omega, hD', hU, hT⟩
        case measure => simp [intOf]; omega
    · have hjn' : j = n := by omega
      subst hjn'
      have hcl : ∀ ty, (Builtin.clear_ #[23] ty #[.slice (some ⟨g, i, none⟩) (j - i) (c - i)]).run Tryz.prog wr = .ok (.tuple #[]) (wr.setCells g i (List.replicate (j - i) (.int .i64 0))) := fun ty => by
        refine Lib.run_clear_slice wr _ _ ty _ Tryz.underlying23 zero_i64 rfl rfl g i _ _ (by omega) (fun k hk => ?_) (fun k hk => ?_)
        · obtain ⟨y, hy⟩ : ∃ y, ys[i + k]? = some y := ⟨_, List.getElem?_eq_getElem (by rw [hD.out.l]; omega)⟩
          rw [(owns_cell hU.out hy).1]; rfl
        · obtain ⟨y, hy⟩ : ∃ y, ys[i + k]? = some y := ⟨_, List.getElem?_eq_getElem (by rw [hD.out.l]; omega)⟩
          exact (owns_cell hU.out hy).2.1
      have HE := Lib.hid (hD.out.last HL.out)
      have hU' : Hid ((wr.setCells g i (List.replicate (j - i) (.int .i64 0))).ownsRow base 2 1 (.slice (some ⟨g, 0, none⟩) i c) i ((xs.filter fun x => !p x).map (Value.int .i64))) := by
        show World.ownsRow _ _ _ _ _ _ _
        have h1 := owns_less hU.out (m := i) (by omega)
        rw [← List.map_take, HE.out] at h1
        exact owns_behind (Nat.le_refl _) h1
      have hT' := Lib.hid (Turned.setCells (G := fun x => x = g) (b := g) rfl (vs := List.replicate (j - i) (.int .i64 0)) (o := i) hT.out)
      have hi1 : (i : Int) ≤ (j : Int) := by omega
      have hi2 : (i : Int) ≤ (c : Int) := by omega
      have hi3 : (j : Int) ≤ (c : Int) := by omega
      clear hD hU hT HE
      go_wp2
      go_ret
      exact ⟨i, rfl, hU'.out, hT'.out⟩
set_option maxRecDepth 100000 in
set_option maxHeartbeats 1600000 in
theorem indexEnd_any (base g n c : Nat) (cv : Value) (p : Int → Bool) (xs : List Int) (w : World) (ho : w.ownsRow base 2 1 (.slice (some ⟨g, 0, none⟩) n c) n (xs.map (Value.int .i64))) (hn : n ≤ 1048576)
    (hcl : ∀ x ∈ xs, Calls Tryz.prog 106 #[.int .i64 x, cv] w fun e w' => e = .returned (.bool (p x)) ∧ w = w') :
    Calls Tryz.prog 121 #[.slice (some ⟨g, 0, none⟩) n c, .func (.func 106) #[] #[cv]] w fun e w' => w = w' ∧ ((∃ i : Nat, e = .returned (.int .i64 (i : Int)) ∧ (∃ x, xs[i]? = some x ∧ p x = true) ∧ ∀ (j : Nat) (x : Int), j < i → xs[j]? = some x → p x = false) ∨ (e = .returned (.int .i64 (-1)) ∧ ∀ x ∈ xs, p x = false)) := by
  have HO := Lib.hid ho
  have HC := Lib.hid hcl
  have HL : Hid (xs.length = n) := by have h := ho.1; rw [List.length_map] at h; exact Lib.hid (by omega)
  clear ho hcl
  go_enter Tryz.func121, Tryz.ntmps121
  go_wp2
  go_loopw [8] (fun i wr => ∃ k : Nat, k ≤ n ∧ i = .int .i64 (k : Int) ∧ wr = w ∧ Hid (∀ (j : Nat) (x : Int), j < k → xs[j]? = some x → p x = false)) (fun i _ => n - (intOf i).toNat)
  case atStart => exact ⟨0, Nat.zero_le _, rfl, rfl, fun j u hj => absurd hj (Nat.not_lt_zero _)⟩
  case round =>
    obtain ⟨k, hk, rfl, rfl, hA⟩ := hrel
    by_cases hlt : k < n
    · obtain ⟨x, hx⟩ : ∃ x, xs[k]? = some x := ⟨_, List.getElem?_eq_getElem (by rw [HL.out]; exact hlt)⟩
      have HX := Lib.hid hx
      have l1 : wr.cell? ⟨g, k, none⟩ = some (.int .i64 x) := (owns_cell HO.out hx).1
      have hlt' : (k : Int) < (n : Int) := by omega
      have hcx := Lib.hid (HC.out x (List.mem_of_getElem? hx))
      clear hx
      cases hf : p x
      · have hA' := Lib.hid (upto_next (P := fun x => p x = false) hA.out HX.out hf)
        have hcx' : Hid (Calls Tryz.prog 106 #[.int .i64 x, cv] wr fun e w' => e = .returned (.bool false) ∧ wr = w') := by show Calls _ _ _ _ _; rw [← hf]; exact hcx.out
        clear hf hA hcx
        go_wp2_with fail
        refine hcx'.out.mono ?_
        rintro e w' ⟨rfl, rfl⟩
        go_wp2
        go_roundw
        case rel => exact ⟨k + 1, by omega, by go_num, by trivial, hA'⟩
        case measure => simp [intOf]; omega
      · have hcx' : Hid (Calls Tryz.prog 106 #[.int .i64 x, cv] wr fun e w' => e = .returned (.bool true) ∧ wr = w') := by show Calls _ _ _ _ _; rw [← hf]; exact hcx.out
        have HF := Lib.hid hf
        clear hf hcx
        go_wp2_with fail
        refine hcx'.out.mono ?_
        rintro e w' ⟨rfl, rfl⟩
        go_wp2
        go_ret
        exact ⟨rfl, Or.inl ⟨k, rfl, ⟨x, HX.out, HF.out⟩, hA.out⟩⟩
    · have HF : Hid (∀ x ∈ xs, p x = false) := by
        intro x hx
        obtain ⟨j, hj⟩ := List.getElem?_of_mem hx
        exact hA.out j x (by have h1 := (List.getElem?_eq_some_iff.1 hj).1; have h2 := HL.out; omega) hj
      clear hA
      go_wp2
      go_ret
      exact ⟨rfl, Or.inr ⟨rfl, HF.out⟩⟩

set_option maxRecDepth 100000 in
set_option maxHeartbeats 3200000 in
theorem deleteEnd_any (base g n c : Nat) (cv : Value) (p : Int → Bool) (xs : List Int) (w : World) (ho : w.ownsRow base 2 1 (.slice (some ⟨g, 0, none⟩) n c) n (xs.map (Value.int .i64))) (hn : n ≤ 1048576)
    (hcl : ∀ w1, Turned (fun x => x = g) w w1 → ∀ x ∈ xs, Calls Tryz.prog 106 #[.int .i64 x, cv] w1 fun e w' => e = .returned (.bool (p x)) ∧ w1 = w') :
    Calls Tryz.prog 100 #[.slice (some ⟨g, 0, none⟩) n c, .func (.func 106) #[] #[cv]] w fun e w' => ∃ m, e = .returned (.slice (some ⟨g, 0, none⟩) m c) ∧ w'.ownsRow base 2 1 (.slice (some ⟨g, 0, none⟩) m c) m ((xs.filter fun x => !p x).map (Value.int .i64)) ∧ Turned (fun x => x = g) w w' := by
  have HO := Lib.hid ho
  have HC := Lib.hid hcl
  have HL : Hid (xs.length = n) := by have h := ho.1; rw [List.length_map] at h; exact Lib.hid (by omega)
  have hcap : n ≤ c := by
    rcases ho.2 with ⟨e1, _⟩ | ⟨g', cap, cur, e1, h2, h3, h4, _⟩
    · injection e1 with e1; cases e1
    · injection e1 with _ _ e3; subst e3; exact h4
  have T0 := Lib.hid (Turned.refl (fun x => x = g) w)
  clear ho hcl
  go_enter Tryz.func100, Tryz.ntmps100
  go_wp2_with fail
  refine (indexEnd_any base g n c cv p xs w HO.out hn (HC.out w T0.out)).mono ?_
  rintro e w' ⟨rfl, ⟨i, rfl, ⟨x, hx, hp⟩, hb⟩ | ⟨rfl, hno⟩⟩
  rotate_left
  · have HF : Hid ((xs.filter fun x => !p x) = xs) := List.filter_eq_self.2 fun y hy => by rw [hno y hy]; rfl
    clear hno
    go_wp2
    go_ret
    exact ⟨n, rfl, by rw [HF.out]; exact HO.out, T0.out⟩
  have D0 := Lib.hid (Dropping.first HL.out hx hp hb)
  have hin : i < n := by have h1 := (List.getElem?_eq_some_iff.1 hx).1; rw [HL.out] at h1; exact h1
  have hne : ((i : Int) == -1) = false := by rw [beq_eq_false_iff_ne]; omega
  clear hx hp hb
  go_wp2
  go_loopw [5, 6] (fun vi vj wr => ∃ (i j : Nat) (ys : List Int), vi = .int .i64 (i : Int) ∧ vj = .int .i64 (j : Int) ∧ i < j ∧ j ≤ n ∧ Hid (Dropping xs ys p n i j) ∧ Hid (wr.ownsRow base 2 1 (.slice (some ⟨g, 0, none⟩) n c) n (ys.map (Value.int .i64))) ∧ Hid (Turned (fun x => x = g) w wr)) (fun _ vj _ => n - (intOf vj).toNat)
  case atStart => exact ⟨i, i + 1, xs, rfl, by go_num, by omega, by omega, D0, HO, T0⟩
  case round =>
    obtain ⟨i, j, ys, rfl, rfl, hij, hjn, hD, hU, hT⟩ := hrel
    clear D0
    by_cases hlt : j < n
    · obtain ⟨x, hx⟩ : ∃ x, xs[j]? = some x := ⟨_, List.getElem?_eq_getElem (by rw [HL.out]; exact hlt)⟩
      have HX := Lib.hid hx
      have l1 : wr.cell? ⟨g, j, none⟩ = some (.int .i64 x) := (owns_cell hU.out ((hD.out.r j (Nat.le_refl _)).trans hx)).1
      have hlt' : (j : Int) < (n : Int) := by omega
      have hit' : (i : Int) < (n : Int) := by omega
      have hcx := Lib.hid (HC.out wr hT.out x (List.mem_of_getElem? hx))
      obtain ⟨y, hy⟩ : ∃ y, ys[i]? = some y := ⟨_, List.getElem?_eq_getElem (by rw [hD.out.l]; omega)⟩
      have l2 : wr.cell? ⟨g, i, none⟩ = some (.int .i64 y) := (owns_cell hU.out hy).1
      have l3 : wr.frozen? ⟨g, i, none⟩ = false := (owns_cell hU.out hy).2.1
      clear hx hy
      cases hf : p x
      · have hcx' : Hid (Calls Tryz.prog 106 #[.int .i64 x, cv] wr fun e w' => e = .returned (.bool false) ∧ wr = w') := by show Calls _ _ _ _ _; rw [← hf]; exact hcx.out
        have hD' := Lib.hid (hD.out.keep hij hlt HX.out hf)
        have hU' : Hid ((wr.setCell ⟨g, i, none⟩ (.int .i64 x)).ownsRow base 2 1 (.slice (some ⟨g, 0, none⟩) n c) n ((ys.set i x).map (Value.int .i64))) := by show World.ownsRow _ _ _ _ _ _ _; rw [List.map_set]; exact owns_put hU.out _
        have hT' := Lib.hid (hT.out.setCell (a := ⟨g, i, none⟩) rfl (.int .i64 x))
        clear hf hcx hD hU hT
        go_wp2_with fail
        refine hcx'.out.mono ?_
        rintro e w' ⟨rfl, rfl⟩
        go_wp2
        go_roundw
        case rel => exact ⟨i + 1, j + 1, _, by go_num, by go_num, by omega, by omega, hD', hU', hT'⟩
        case measure => simp [intOf]; omega
      · have hcx' : Hid (Calls Tryz.prog 106 #[.int .i64 x, cv] wr fun e w' => e = .returned (.bool true) ∧ wr = w') := by show Calls _ _ _ _ _; rw [← hf]; exact hcx.out
        have hD' := Lib.hid (hD.out.skip HX.out hf)
        clear hf hcx hD l2 l3
        go_wp2_with fail
        refine hcx'.out.mono ?_
        rintro e w' ⟨rfl, rfl⟩
        go_wp2
        go_roundw
        case rel => exact ⟨i, j + 1, _, rfl, by go_num, by omega, by omega, hD', hU, hT⟩
        case measure => simp [intOf]; omega
    · have hjn' : j = n := by omega
      subst hjn'
      have hcl : ∀ ty, (Builtin.clear_ #[23] ty #[.slice (some ⟨g, i, none⟩) (j - i) (c - i)]).run Tryz.prog wr = .ok (.tuple #[]) (wr.setCells g i (List.replicate (j - i) (.int .i64 0))) := fun ty => by
        refine Lib.run_clear_slice wr _ _ ty _ Tryz.underlying23 zero_i64 rfl rfl g i _ _ (by omega) (fun k hk => ?_) (fun k hk => ?_)
        · obtain ⟨y, hy⟩ : ∃ y, ys[i + k]? = some y := ⟨_, List.getElem?_eq_getElem (by rw [hD.out.l]; omega)⟩
          rw [(owns_cell hU.out hy).1]; rfl
        · obtain ⟨y, hy⟩ : ∃ y, ys[i + k]? = some y := ⟨_, List.getElem?_eq_getElem (by rw [hD.out.l]; omega)⟩
          exact (owns_cell hU.out hy).2.1
      have HE := Lib.hid (hD.out.last HL.out)
      have hU' : Hid ((wr.setCells g i (List.replicate (j - i) (.int .i64 0))).ownsRow base 2 1 (.slice (some ⟨g, 0, none⟩) i c) i ((xs.filter fun x => !p x).map (Value.int .i64))) := by
        show World.ownsRow _ _ _ _ _ _ _
        have h1 := owns_less hU.out (m := i) (by omega)
        rw [← List.map_take, HE.out] at h1
        exact owns_behind (Nat.le_refl _) h1
      have hT' := Lib.hid (Turned.setCells (G := fun x => x = g) (b := g) rfl (vs := List.replicate (j - i) (.int .i64 0)) (o := i) hT.out)
      have hi1 : (i : Int) ≤ (j : Int) := by omega
      have hi2 : (i : Int) ≤ (c : Int) := by omega
      have hi3 : (j : Int) ≤ (c : Int) := by omega
      clear hD hU hT HE
      go_wp2
      go_ret
      exact ⟨i, rfl, hU'.out, hT'.out⟩

end Go.Proofs.YtpgoildfjkokiaaGreat
