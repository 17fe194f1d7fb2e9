/- Answers of NewArena: arenas whose nodes hold nothing. -/
import Derived.Test.YtblhcnafoejahaaCells5
import Derived.Test.YtblhcnafoejahaaPairs
import Derived.Test.YtblhcnafoejahaaSpecNew
import Derived.Test.YtblhcnafoejahaaImplNew
namespace Go.Proofs.Ytblhcnafoejahaa
open Go.RowKit

theorem ownsRow_cells {w : World} {base n c size : Nat} {e : TypeId} {A : Option Addr} {xs : List Value} (h : w.ownsRow base e size (.slice A n c) n xs) (h0 : 0 < n) :
    ∃ g, A = some ⟨g, 0, none⟩ ∧ base ≤ g ∧ g < w.heap.size ∧ (∀ (i : Nat) (v : Value), xs[i]? = some v → w.cell? ⟨g, i, none⟩ = some v) ∧ ∀ i, w.frozen? ⟨g, i, none⟩ = false := by
  obtain ⟨hl, h1⟩ := h
  rcases h1 with ⟨_, h2⟩ | ⟨g, cap, cur, e1, h2, h3, h4, h5, h6, h7⟩
  · omega
  · injection e1 with e1 e2 e3
    subst e1
    have hg : g < w.heap.size := by
      rcases Nat.lt_or_ge g w.heap.size with h' | h'
      · exact h'
      · exact absurd (h3.symm.trans (Array.getElem?_eq_none h')) (by simp)
    refine ⟨g, rfl, h2, hg, fun i v hv => ?_, fun i => ?_⟩
    · rw [cell_of_row w g i cur e (0, 0) h3]
      have hi : i < n * size := by have := (List.getElem?_eq_some_iff.1 hv).1; omega
      have h8 : (cur.toList.take (n * size))[i]? = some v := by rw [h7]; exact hv
      rw [List.getElem?_take, if_pos hi] at h8
      simpa using h8
    · simp [World.frozen?, h3]
theorem ownsRow_slice {w : World} {base n size : Nat} {e : TypeId} {v : Value} {xs : List Value} (h : w.ownsRow base e size v n xs) : ∃ A c, v = .slice A n c := by
  rcases h.2 with ⟨h1, h2⟩ | ⟨g, cap, cur, e1, _⟩
  · exact ⟨none, 0, by rw [h1, h2]⟩
  · exact ⟨_, _, e1⟩
theorem nCells_at : ∀ {ns : List NV} {k j : Nat} {q : NV} {v : Value}, ns[k]? = some q → q.cells[j]? = some v → (ns.flatMap NV.cells)[k * 4 + j]? = some v
  | [], k, j, q, v, h, _ => by simp at h
  | a :: t, 0, j, q, v, h, hv => by
    simp only [List.getElem?_cons_zero, Option.some.injEq] at h
    subst h
    have hj : j < a.cells.length := (List.getElem?_eq_some_iff.1 hv).1
    rw [List.flatMap_cons, Nat.zero_mul, Nat.zero_add, List.getElem?_append_left hj]; exact hv
  | a :: t, k + 1, j, q, v, h, hv => by
    have ih := nCells_at (ns := t) (k := k) (j := j) (q := q) (v := v) (by simpa using h) hv
    have hl : a.cells.length = 4 := rfl
    rw [List.flatMap_cons, List.getElem?_append_right (by rw [hl]; omega), hl, show (k + 1) * 4 + j - 4 = k * 4 + j by omega]; exact ih
theorem nCells_len (ns : List NV) : (ns.flatMap NV.cells).length = ns.length * 4 := by
  induction ns with
  | nil => rfl
  | cons a t ih => rw [List.flatMap_cons, List.length_append, ih, List.length_cons, show a.cells.length = 4 from rfl]; omega
theorem rowV_mem {b : Nat} : ∀ {ns : List NV} {k : Nat} {c : Addr}, (∀ q ∈ ns, q.es = []) → c ∈ rowC (nodeCells b 0) k ns → ∃ i q j, ns[i]? = some q ∧ j < 3 ∧ c = ⟨b, (k + i) * 4 + j, none⟩
  | [], k, c, he, h => by simp [rowC] at h
  | a :: t, k, c, he, h => by
    have ea : esA a.A1 a.es = [] := by rw [he a (by simp)]; exact esA_nil _
    simp only [rowC, nodeCells, ea, List.append_nil, List.mem_append, List.mem_singleton] at h
    rcases h with (h | h | h) | h
    · exact ⟨0, a, 0, rfl, by omega, by rw [h, show (k + 0) * 4 + 0 = 0 + k * 4 by omega]⟩
    · exact ⟨0, a, 1, rfl, by omega, by rw [h, show (k + 0) * 4 + 1 = 0 + k * 4 + 1 by omega]⟩
    · exact ⟨0, a, 2, rfl, by omega, by rw [h, show (k + 0) * 4 + 2 = 0 + k * 4 + 2 by omega]⟩
    · obtain ⟨i, q, j, h1, h2, h3⟩ := rowV_mem (fun q hq => he q (by simp [hq])) h
      exact ⟨i + 1, q, j, by simpa using h1, h2, by rw [h3, show k + 1 + i = k + (i + 1) by omega]⟩
theorem rowV_nodup {b : Nat} : ∀ {ns : List NV} {k : Nat}, (∀ q ∈ ns, q.es = []) → (rowC (nodeCells b 0) k ns).Nodup ∧ (rowC (nodeCells b 0) k ns).length = ns.length * 3
  | [], k, he => by simp [rowC]
  | a :: t, k, he => by
    have ea : esA a.A1 a.es = [] := by rw [he a (by simp)]; exact esA_nil _
    obtain ⟨h1, h2⟩ := rowV_nodup (b := b) (ns := t) (k := k + 1) (fun q hq => he q (by simp [hq]))
    refine ⟨?_, ?_⟩
    · simp only [rowC]
      rw [List.nodup_append]
      refine ⟨?_, h1, fun c hc c' hc' e => ?_⟩
      · simp only [nodeCells, ea]; simp
      · subst e
        obtain ⟨i, q, j, g1, g2, rfl⟩ := rowV_mem (fun q hq => he q (by simp [hq])) hc'
        simp only [nodeCells, ea, List.append_nil, List.mem_append, List.mem_singleton, Addr.mk.injEq] at hc
        omega
    · simp only [rowC, List.length_append, h2, nodeCells, ea, List.length_cons, List.length_nil]; omega
theorem intCells_nodup (b n : Nat) : (intCells (some ⟨b, 0, none⟩) n).Nodup := by
  unfold intCells
  exact List.Pairwise.map _ (fun x y hxy e => hxy (by injection e with _ e2; simp only [Nat.zero_add] at e2; exact e2)) List.nodup_range

/-- An answer of NewArena. -/
structure VacAr (w : World) (lo : Nat) (A1 A2 : Option Addr) (n : Nat) (ns : List NV) : Prop where
  L : ArenaL w A1 A2 none n n 0 ns (upTo n) []
  S : ArSh w A1 A2 none n n 0 ns []
  W : Writ w (arCells A1 A2 none n ns [])
  D : (arCells A1 A2 none n ns []).Nodup
  H : ∀ c ∈ arCells A1 A2 none n ns [], lo ≤ c.block ∧ c.block < w.heap.size
  s : (arCells A1 A2 none n ns []).length ≤ 1000

theorem vac_list {w : World} {base : Nat} {A1 A2 : Option Addr} {n c1 c2 : Nat} {ns : List NV}
    (h1 : w.ownsRow base 29 4 (.slice A1 n c1) n (ns.flatMap NV.cells)) (h2 : w.ownsRow base 2 1 (.slice A2 n c2) n ((upTo n).map (Value.int .i64)))
    (he : ∀ q ∈ ns, q.es = [] ∧ q.n1 = 0) (hn : n ≤ 40) : ArenaL w A1 A2 none n n 0 ns (upTo n) [] := by
  have hl : ns.length = n := by have := h1.1; rw [nCells_len] at this; omega
  have hm : n ≤ maxLen := Nat.le_trans hn (by decide)
  refine ⟨⟨hl, fun h0 => ?_, fun p hp => ?_⟩, ?_, ⟨rfl, fun h => absurd h (Nat.lt_irrefl 0), fun p hp => by simp at hp⟩, hm, hm, by decide⟩
  · obtain ⟨g, rfl, g1, g2, g3, g4⟩ := ownsRow_cells h1 h0
    refine ⟨g, 0, rfl, g2, fun k p hk => ?_⟩
    simp only [Nat.zero_add]
    exact ⟨g3 _ _ (nCells_at (j := 0) hk rfl), g3 _ _ (nCells_at (j := 1) hk rfl), g3 _ _ (nCells_at (j := 2) hk rfl), g3 _ _ (nCells_at (j := 3) hk rfl)⟩
  · obtain ⟨e1, e2⟩ := he p hp
    refine ⟨⟨by rw [e1, e2]; rfl, fun h => by omega, fun q hq => by rw [e1] at hq; simp at hq⟩, by omega⟩
  · obtain ⟨A, c, e, h⟩ := ints_of_owns h2
    injection e with e1 e2 e3
    subst e1
    exact ⟨h.1, fun h0 => by obtain ⟨b, o, f1, f2, f3, f4⟩ := h.2 h0; exact ⟨b, o, f1, Nat.zero_le _, f3, f4⟩⟩

theorem vac_ours {w : World} {base : Nat} {A1 A2 : Option Addr} {n c1 c2 : Nat} {ns : List NV}
    (h1 : w.ownsRow base 29 4 (.slice A1 n c1) n (ns.flatMap NV.cells)) (h2 : w.ownsRow base 2 1 (.slice A2 n c2) n ((upTo n).map (Value.int .i64)))
    (he : ∀ q ∈ ns, q.es = [] ∧ q.n1 = 0) (hn : n ≤ 40) (hd : ∀ b, (Value.slice A2 n c2).ownBlock = some b → (Value.slice A1 n c1).ownBlock ≠ some b) : VacAr w base A1 A2 n ns := by
  have hl : ns.length = n := by have := h1.1; rw [nCells_len] at this; omega
  have hle : (upTo n).length = n := by simp [upTo]
  have L := vac_list h1 h2 he hn
  rcases Nat.eq_zero_or_pos n with rfl | h0
  · obtain rfl : ns = [] := List.eq_nil_of_length_eq_zero hl
    have hz : arCells A1 A2 none 0 [] [] = [] := by unfold arCells; rw [nsA_nil, rsA_nil, intCells_zero]; rfl
    refine ⟨L, ⟨⟨rfl, fun h => absurd h (Nat.lt_irrefl 0), fun p hp => by simp at hp⟩, fun h => absurd h (Nat.lt_irrefl 0), ⟨rfl, fun h => absurd h (Nat.lt_irrefl 0), fun p hp => by simp at hp⟩, by decide, by decide, by decide⟩, ?_, ?_, ?_, ?_⟩
    · rw [hz]; intro c hc; simp at hc
    · rw [hz]; simp
    · rw [hz]; intro c hc; simp at hc
    · rw [hz]; simp
  · obtain ⟨g, rfl, g1, g2, g3, g4⟩ := ownsRow_cells h1 h0
    obtain ⟨f, rfl, f1, f2, f3, f4⟩ := ownsRow_cells h2 h0
    have hgf : g ≠ f := fun e => hd f rfl (by rw [e]; rfl)
    have he1 : ∀ q ∈ ns, q.es = [] := fun q hq => (he q hq).1
    have hcs : arCells (some ⟨g, 0, none⟩) (some ⟨f, 0, none⟩) none n ns [] = rowC (nodeCells g 0) 0 ns ++ intCells (some ⟨f, 0, none⟩) n := by
      unfold arCells; rw [rsA_nil, List.append_nil]; rfl
    obtain ⟨nd, nl⟩ := rowV_nodup (b := g) (k := 0) he1
    have im : ∀ c ∈ intCells (some ⟨f, 0, none⟩) n, ∃ i, i < n ∧ c = ⟨f, i, none⟩ := by
      intro c hc
      simp only [intCells, List.mem_map, List.mem_range, Nat.zero_add] at hc
      obtain ⟨i, hi, e⟩ := hc
      exact ⟨i, hi, e.symm⟩
    refine ⟨L, ⟨⟨hl, fun _ => ⟨g, 0, rfl, fun k p hk => ?_⟩, fun p hp => ?_⟩, fun _ => ⟨f, 0, rfl⟩, ⟨rfl, fun h => absurd h (Nat.lt_irrefl 0), fun p hp => by simp at hp⟩, by omega, by omega, by decide⟩, ?_, ?_, ?_, ?_⟩
    · simp only [Nat.zero_add]
      exact g3 _ _ (nCells_at (j := 3) hk rfl)
    · obtain ⟨e1, e2⟩ := he p hp
      exact ⟨⟨by rw [e1, e2]; rfl, fun h => by omega, fun q hq => by rw [e1] at hq; simp at hq⟩, by omega⟩
    · rw [hcs]
      intro c hc
      rcases List.mem_append.1 hc with hc | hc
      · obtain ⟨i, q, j, h5, h6, rfl⟩ := rowV_mem he1 hc
        refine ⟨?_, g4 _⟩
        rw [Nat.zero_add]
        match j, h6 with
        | 0, _ => exact ⟨_, g3 _ _ (nCells_at (j := 0) h5 rfl)⟩
        | 1, _ => exact ⟨_, g3 _ _ (nCells_at (j := 1) h5 rfl)⟩
        | 2, _ => exact ⟨_, g3 _ _ (nCells_at (j := 2) h5 rfl)⟩
      · obtain ⟨i, hi, rfl⟩ := im c hc
        exact ⟨⟨(i : Int), f3 _ _ (by simp [upTo, hi])⟩, f4 _⟩
    · rw [hcs, List.nodup_append]
      refine ⟨nd, intCells_nodup _ _, fun c hc c' hc' e => ?_⟩
      subst e
      obtain ⟨i, q, j, h5, h6, rfl⟩ := rowV_mem he1 hc
      obtain ⟨i', hi, e⟩ := im _ hc'
      injection e with e _
      exact hgf e
    · rw [hcs]
      intro c hc
      rcases List.mem_append.1 hc with hc | hc
      · obtain ⟨i, q, j, h5, h6, rfl⟩ := rowV_mem he1 hc
        exact ⟨g1, g2⟩
      · obtain ⟨i, hi, rfl⟩ := im c hc
        exact ⟨f1, f2⟩
    · rw [hcs, List.length_append, nl, hl, intCells_len]; omega
theorem VacAr.kept {w w' : World} {lo n : Nat} {A1 A2 : Option Addr} {ns : List NV} (h : VacAr w lo A1 A2 n ns) (hb : Below w.heap.size w w') : VacAr w' lo A1 A2 n ns :=
  ⟨h.L.kept hb, h.S.kept hb, h.W.kept hb, h.D, fun c hc => ⟨(h.H c hc).1, Nat.lt_of_lt_of_le (h.H c hc).2 hb.size⟩, h.s⟩

theorem freeL_vac : ∀ (gs : List Nat) (i : Nat), freeL i (gs.map vacLV) = (List.range' i gs.length).map Int.ofNat
  | [], i => rfl
  | g :: t, i => by
    have ih := freeL_vac t (i + 1)
    simp only [List.map_cons, freeL, List.length_cons, List.range'_succ]
    rw [ih]; rfl
theorem freeL_up {gs : List Nat} {n : Nat} (h : gs.length = n) : freeL 0 (gs.map vacLV) = upTo n := by
  rw [freeL_vac, h]; unfold upTo; rw [List.range_eq_range']
theorem vals_vac {gs : List Nat} {n : Nat} (h : gs.length = n) : (gs.map vacLV).map LV.val = List.replicate n vacV := by
  subst h
  induction gs with
  | nil => rfl
  | cons a t ih => simp only [List.map_cons, List.length_cons, List.replicate_succ]; rw [ih]; rfl

/-- What both give: the code, the number of dimensions, how many places. -/
def NewIs (d r cd D : Int) (N : Nat) : Prop := groundF d r = cd ∧ (cd = 0 → D = d ∧ N = r.toNat ∧ N ≤ 40) ∧ (cd ≠ 0 → D = 0 ∧ N = 0)
theorem newIs_ex (d r : Int) : ∃ cd D N, NewIs d r cd D N := by
  by_cases h : groundF d r = 0
  · refine ⟨0, d, r.toNat, h, fun _ => ⟨rfl, rfl, ?_⟩, fun h => absurd rfl h⟩
    unfold groundF at h
    split at h
    · split at h
      · omega
      · omega
    · omega
  · exact ⟨_, 0, 0, rfl, fun h' => absurd h' h, fun _ => ⟨rfl, rfl⟩⟩
theorem owns_none (w : World) (base size : Nat) (e : TypeId) : w.ownsRow base e size (.slice none 0 0) 0 [] := ⟨by simp, Or.inl ⟨rfl, rfl⟩⟩

theorem vacRow_flat (n : Nat) : (List.replicate n vacNV).flatMap NV.cells = vacRow n := by
  unfold vacRow
  rw [List.flatMap_def, List.map_replicate]; rfl
theorem specNew_is (d r cd D : Int) (N : Nat) (w : World) (h : NewIs d r cd D N) :
    Calls Try.prog 27 #[.int .i64 d, .int .i64 r] w fun e w' => ∃ A1 c1 A2 c2, e = .returned (.agg #[.int .i64 cd, .int .i64 D, .slice A1 N c1, .slice A2 N c2, .slice none 0 0, .int .i64 0]) ∧ ArenaL w' A1 A2 none N N 0 (List.replicate N vacNV) (upTo N) [] ∧ Below w.heap.size w w' := by
  refine (specNewArena_any d r w).mono fun e w' hp => ?_
  obtain ⟨B, hp⟩ := hp
  obtain ⟨h1, h2, h3⟩ := h
  replace h1 : newF d r = cd := h1
  rw [h1] at hp
  rcases hp with ⟨hc, rfl⟩ | ⟨rfl, A1, c1, A2, c2, rfl, hN, hF⟩
  · obtain ⟨rfl, rfl⟩ := h3 hc
    exact ⟨_, _, _, _, rfl, vac_list (c1 := 0) (c2 := 0) (owns_none _ 0 _ _) (owns_none _ 0 _ _) (fun q hq => by simp at hq) (by omega), B⟩
  · obtain ⟨rfl, rfl, hm⟩ := h2 rfl
    exact ⟨_, _, _, _, rfl, vac_list (by rw [vacRow_flat]; exact hN) hF (fun q hq => by rw [List.eq_of_mem_replicate hq]; exact ⟨rfl, rfl⟩) hm, B⟩

theorem implNew_is (d r cd D : Int) (N : Nat) (w : World) (h : NewIs d r cd D N) :
    Calls Try.prog 28 #[.int .i64 d, .int .i64 r] w fun e w' => ∃ A1 c1 A2 c2 qs, e = .returned (.agg #[.int .i64 cd, .int .i64 D, .slice A1 N c1, .slice A2 N c2, .slice none 0 0, .int .i64 0]) ∧ VacAr w' w.heap.size A1 A2 N qs ∧ qs.map NV.val = (List.replicate N vacNV).map NV.val ∧ Below w.heap.size w w' := by
  refine (implNewArena_any d r w).mono fun e w' hp => ?_
  obtain ⟨B, hp⟩ := hp
  obtain ⟨h1, h2, h3⟩ := h
  rw [h1] at hp
  rcases hp with ⟨hc, rfl⟩ | ⟨rfl, base, kf, vN, vF, qs, gs, rfl, hb, hg, hN, hF, hd, hv⟩
  · obtain ⟨rfl, rfl⟩ := h3 hc
    exact ⟨none, 0, none, 0, [], rfl, vac_ours (owns_none _ _ _ _) (owns_none _ _ _ _) (fun q hq => by simp at hq) (by omega) (fun b e => by simp [Value.ownBlock] at e), rfl, B⟩
  · obtain ⟨rfl, rfl, hm⟩ := h2 rfl
    rw [freeL_up hg] at hF
    rw [vals_vac hg] at hv
    obtain rfl : kf = r.toNat := by have := hF.1; simp [upTo] at this; omega
    obtain ⟨A1, c1, rfl⟩ := ownsRow_slice hN.S
    obtain ⟨A2, c2, rfl⟩ := ownsRow_slice hF
    refine ⟨A1, c1, A2, c2, qs, rfl, vac_ours (ownsRow_low hN.S hb) (ownsRow_low hF hb) (fun q hq => ?_) hm (fun b e => (hd b e).1), by rw [hv, List.map_replicate]; rfl, B⟩
    have hq1 : q.val ∈ List.replicate r.toNat vacV := by rw [← hv]; exact List.mem_map_of_mem hq
    have hq2 := List.eq_of_mem_replicate hq1
    have he : q.es = [] := by
      have := congrArg (fun v : NVal => v.2.2.2) hq2
      simpa [NV.val, vacV] using this
    exact ⟨he, by have := (hN.Q q hq).len; rw [he] at this; simpa using this.symm⟩

end Go.Proofs.Ytblhcnafoejahaa
