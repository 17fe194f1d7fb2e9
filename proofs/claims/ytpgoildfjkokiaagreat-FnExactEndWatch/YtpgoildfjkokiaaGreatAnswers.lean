/- Arenas that an answer owns: what they read as, and that marks may be written into all their cells, which are all different. -/
import Derived.Test.YtpgoildfjkokiaaGreatTrees
import Derived.Test.YtpgoildfjkokiaaGreatArenaArg
namespace Go.Proofs.YtpgoildfjkokiaaGreat
open Go.RowKit

theorem owned_at {w : World} {base n c size : Nat} {e : TypeId} {A : Option Addr} {xs : List Value} (h : w.ownsRow base e size (.slice A n c) n xs) (h0 : 0 < n) :
    ∃ g, A = some ⟨g, 0, none⟩ ∧ (Value.slice A n c).ownBlock = some g ∧ base ≤ g ∧ g < w.heap.size ∧ (∀ (i : Nat) (v : Value), xs[i]? = some v → w.cell? ⟨g, i, none⟩ = some v) ∧ ∀ i, w.frozen? ⟨g, i, none⟩ = false := by
  obtain ⟨hl, h1⟩ := h
  rcases h1 with ⟨_, h2⟩ | ⟨g, cap, cur, e1, h2, h3, h4, h5, h6, h7⟩
  · omega
  · injection e1 with e1 e2 e3
    subst e1
    have hg : g < w.heap.size := by
      rcases Nat.lt_or_ge g w.heap.size with h' | h'
      · exact h'
      · exact absurd (h3.symm.trans (Array.getElem?_eq_none h')) (by simp)
    refine ⟨g, rfl, rfl, h2, hg, fun i v hv => ?_, fun i => ?_⟩
    · rw [cell_of_row w g i cur e (0, 0) h3]
      have hi : i < n * size := by have := (List.getElem?_eq_some_iff.1 hv).1; omega
      have h8 : (cur.toList.take (n * size))[i]? = some v := by rw [h7]; exact hv
      rw [List.getElem?_take, if_pos hi] at h8
      simpa using h8
    · simp [World.frozen?, h3]
theorem nvCells_len (ns : List NV) : (ns.flatMap NV.cells).length = ns.length * 4 := by
  induction ns with
  | nil => rfl
  | cons a t ih => rw [List.flatMap_cons, List.length_append, ih, List.length_cons, show a.cells.length = 4 from rfl]; omega
theorem nvCells_at : ∀ {ns : List NV} {k j : Nat} {q : NV} {v : Value}, ns[k]? = some q → q.cells[j]? = some v → (ns.flatMap NV.cells)[k * 4 + j]? = some v
  | [], k, j, q, v, h, _ => by simp at h
  | a :: t, 0, j, q, v, h, hv => by
    simp only [List.getElem?_cons_zero, Option.some.injEq] at h
    subst h
    have hj : j < a.cells.length := (List.getElem?_eq_some_iff.1 hv).1
    rw [List.flatMap_cons, Nat.zero_mul, Nat.zero_add, List.getElem?_append_left hj]; exact hv
  | a :: t, k + 1, j, q, v, h, hv => by
    have ih := nvCells_at (ns := t) (k := k) (j := j) (q := q) (v := v) (by simpa using h) hv
    have hl : a.cells.length = 4 := rfl
    rw [List.flatMap_cons, List.getElem?_append_right (by rw [hl]; omega), hl, show (k + 1) * 4 + j - 4 = k * 4 + j by omega]; exact ih
theorem rvCells_len (rs : List RV) : (rs.flatMap RV.cells).length = rs.length * 2 := by
  induction rs with
  | nil => rfl
  | cons a t ih => rw [List.flatMap_cons, List.length_append, ih, List.length_cons, show a.cells.length = 2 from rfl]; omega
theorem rvCells_at : ∀ {ns : List RV} {k j : Nat} {q : RV} {v : Value}, ns[k]? = some q → q.cells[j]? = some v → (ns.flatMap RV.cells)[k * 2 + j]? = some v
  | [], k, j, q, v, h, _ => by simp at h
  | a :: t, 0, j, q, v, h, hv => by
    simp only [List.getElem?_cons_zero, Option.some.injEq] at h
    subst h
    have hj : j < a.cells.length := (List.getElem?_eq_some_iff.1 hv).1
    rw [List.flatMap_cons, Nat.zero_mul, Nat.zero_add, List.getElem?_append_left hj]; exact hv
  | a :: t, k + 1, j, q, v, h, hv => by
    have ih := rvCells_at (ns := t) (k := k) (j := j) (q := q) (v := v) (by simpa using h) hv
    have hl : a.cells.length = 2 := rfl
    rw [List.flatMap_cons, List.getElem?_append_right (by rw [hl]; omega), hl, show (k + 1) * 2 + j - 2 = k * 2 + j by omega]; exact ih

theorem intCells_block {g n : Nat} {c : Addr} (h : c ∈ intCells (some ⟨g, 0, none⟩) n) : c.block = g := by
  simp only [intCells, List.mem_map, List.mem_range] at h
  obtain ⟨i, _, rfl⟩ := h; rfl
theorem intCells_nd (b n : Nat) : (intCells (some ⟨b, 0, none⟩) n).Nodup := by
  unfold intCells
  exact List.Pairwise.map _ (fun x y hxy e => hxy (by injection e with _ e2; simp only [Nat.zero_add] at e2; exact e2)) List.nodup_range

theorem esCells_nd {g : Nat} : ∀ {qs : List EV} {k : Nat}, (∀ q ∈ qs, ∃ g1 g2, q.A1 = some ⟨g1, 0, none⟩ ∧ q.A2 = some ⟨g2, 0, none⟩) → (coords qs).Nodup → g ∉ coords qs →
    (esCells g 0 k qs).Nodup ∧ ∀ c ∈ esCells g 0 k qs, (c.block = g ∧ k * 4 ≤ c.off) ∨ c.block ∈ coords qs
  | [], k, _, _, _ => by simp [esCells]
  | q :: t, k, hf, hd, hg => by
    obtain ⟨g1, g2, a1, a2⟩ := hf q (by simp)
    have ec : coords (q :: t) = g1 :: g2 :: coords t := by simp [coords, a1, a2, blk]
    rw [ec] at hd hg ⊢
    rw [List.nodup_cons, List.nodup_cons] at hd
    obtain ⟨h1, h2t, ht⟩ := hd
    have h12 : g1 ≠ g2 := fun e => h1 (by rw [e]; simp)
    have h1t : g1 ∉ coords t := fun e => h1 (by simp [e])
    have hg1 : g ≠ g1 := fun e => hg (by rw [e]; simp)
    have hg2 : g ≠ g2 := fun e => hg (by rw [e]; simp)
    have hgt : g ∉ coords t := fun e => hg (by simp [e])
    obtain ⟨n1, m1⟩ := esCells_nd (g := g) (qs := t) (k := k + 1) (fun p hp => hf p (by simp [hp])) ht hgt
    have hhead : ∀ c ∈ entCells g 0 k q, c.block = g1 ∨ c.block = g2 ∨ c = ⟨g, 0 + k * 4 + 2, none⟩ ∨ c = ⟨g, 0 + k * 4 + 3, none⟩ := by
      intro c hc
      simp only [entCells, List.mem_append, List.mem_singleton, a1, a2] at hc
      rcases hc with hc | hc | hc | hc
      · exact Or.inl (intCells_block hc)
      · exact Or.inr (Or.inl (intCells_block hc))
      · exact Or.inr (Or.inr (Or.inl hc))
      · exact Or.inr (Or.inr (Or.inr hc))
    refine ⟨?_, fun c hc => ?_⟩
    · simp only [esCells]
      rw [List.nodup_append]
      refine ⟨?_, n1, fun a ha b hb e => ?_⟩
      · simp only [entCells, a1, a2]
        rw [List.nodup_append]
        refine ⟨intCells_nd _ _, ?_, fun a ha b hb e => ?_⟩
        · rw [List.nodup_append]
          refine ⟨intCells_nd _ _, by simp, fun a ha b hb e => ?_⟩
          subst e
          have hb1 := intCells_block ha
          simp only [List.mem_append, List.mem_singleton] at hb
          rcases hb with rfl | rfl
          · exact hg2 hb1
          · exact hg2 hb1
        · subst e
          have hb1 := intCells_block ha
          simp only [List.mem_append, List.mem_singleton] at hb
          rcases hb with hb | rfl | rfl
          · exact h12 (hb1.symm.trans (intCells_block hb))
          · exact hg1 hb1
          · exact hg1 hb1
      · subst e
        rcases hhead a ha with h | h | rfl | rfl <;> rcases m1 _ hb with ⟨h3, h4⟩ | h3
        · exact hg1 (h3.symm.trans h)
        · rw [h] at h3; exact h1t h3
        · exact hg2 (h3.symm.trans h)
        · rw [h] at h3; exact h2t h3
        · simp only at h4; omega
        · exact hgt h3
        · simp only at h4; omega
        · exact hgt h3
    · simp only [esCells] at hc
      rcases List.mem_append.1 hc with hc | hc
      · rcases hhead c hc with h | h | rfl | rfl
        · exact Or.inr (by rw [h]; simp)
        · exact Or.inr (by rw [h]; simp)
        · exact Or.inl ⟨rfl, by simp only; omega⟩
        · exact Or.inl ⟨rfl, by simp only; omega⟩
      · rcases m1 c hc with ⟨h3, h4⟩ | h3
        · exact Or.inl ⟨h3, by omega⟩
        · exact Or.inr (by simp [h3])

section
variable {w w' : World} {base n c : Nat} {A : Option Addr} {qs : List EV}
theorem EntriesRes.nd (h : EntriesRes w base A n c qs) : (esA A qs).Nodup ∧ ∀ a ∈ esA A qs, (Value.slice A n c).ownBlock = some a.block ∨ a.block ∈ coords qs := by
  rcases Nat.eq_zero_or_pos n with rfl | h0
  · obtain rfl : qs = [] := List.eq_nil_of_length_eq_zero h.len
    rw [esA_nil]; simp
  · obtain ⟨g, rfl, ho, _⟩ := owned_at h.S h0
    obtain ⟨n1, m1⟩ := esCells_nd (g := g) (k := 0) (fun q hq => by obtain ⟨g1, g2, a1, a2, _⟩ := h.C q hq; exact ⟨g1, g2, a1, a2⟩) h.D (h.E g ho)
    refine ⟨n1, fun a ha => ?_⟩
    rcases m1 a ha with ⟨h3, _⟩ | h3
    · exact Or.inl (by rw [ho, h3])
    · exact Or.inr h3
theorem EntriesRes.sh (h : EntriesRes w base A n c qs) : EntSh w A n qs := by
  refine ⟨h.len, fun h0 => ?_, fun e he => ?_⟩
  · obtain ⟨g, e1, _, _, _, hc, _⟩ := owned_at h.S h0
    refine ⟨g, 0, e1, fun k e hk => ?_⟩
    simp only [Nat.zero_add]
    exact ⟨hc _ _ (eCells_at (j := 0) hk rfl), hc _ _ (eCells_at (j := 1) hk rfl)⟩
  · obtain ⟨g1, g2, a1, a2, _, _, a5, a6, _, _⟩ := h.C e he
    exact ⟨fun _ => ⟨g1, 0, a1⟩, fun _ => ⟨g2, 0, a2⟩, by omega, by omega⟩
theorem EntriesRes.each (h : EntriesRes w base A n c qs) : ∀ a ∈ esA A qs, CellOk w base a := by
  intro a ha
  rcases Nat.eq_zero_or_pos n with rfl | h0
  · obtain rfl : qs = [] := List.eq_nil_of_length_eq_zero h.len
    rw [esA_nil] at ha; simp at ha
  · obtain ⟨g, rfl, _, hg1, hg2, hc, hf⟩ := owned_at h.S h0
    obtain ⟨i, e, he, hm⟩ := esCells_mem ha
    obtain ⟨g1, g2, a1, a2, b1, b2, _, _, o1, o2⟩ := h.C e (List.mem_of_getElem? he)
    simp only [entCells, List.mem_append, List.mem_singleton, Nat.zero_add, a1, a2] at hm
    rcases hm with hm | hm | rfl | rfl
    · exact (o1.each a hm).lower b1
    · exact (o2.each a hm).lower b2
    · exact ⟨⟨_, hc _ _ (eCells_at (j := 2) he rfl)⟩, hf _, hg1, hg2⟩
    · exact ⟨⟨_, hc _ _ (eCells_at (j := 3) he rfl)⟩, hf _, hg1, hg2⟩
theorem EntriesRes.cells_le (h : EntriesRes w base A n c qs) : (esA A qs).length ≤ 8 * n := by
  have hl := h.len
  rcases Nat.eq_zero_or_pos n with rfl | h0
  · obtain rfl : qs = [] := List.eq_nil_of_length_eq_zero hl
    rw [esA_nil]; simp
  · obtain ⟨g, rfl, _⟩ := owned_at h.S h0
    have e : (esA (some ⟨g, 0, none⟩) qs).length = sumE qs + 2 * qs.length := esCells_length (fun e he => ⟨(h.sh.2.2 e he).1, (h.sh.2.2 e he).2.1⟩)
    have hs : ∀ l : List EV, (∀ q ∈ l, q.n1 ≤ 3 ∧ q.n2 ≤ 3) → sumE l ≤ 6 * l.length := by
      intro l
      induction l with
      | nil => intro _; simp [sumE]
      | cons a t ih =>
        intro hh
        have h1 := hh a (by simp)
        have h2 := ih (fun q hq => hh q (by simp [hq]))
        simp only [sumE, List.map_cons, List.sum_cons, List.length_cons] at h2 ⊢
        omega
    have := hs qs (fun q hq => by obtain ⟨_, _, _, _, _, _, a5, a6, _⟩ := h.C q hq; exact ⟨a5, a6⟩)
    omega
end

theorem rowN_nd {w : World} {base g : Nat} : ∀ {ns : List NV} {k : Nat}, (∀ q ∈ ns, EntriesRes w base q.A1 q.n1 q.c1 q.es) → (nodesB ns).Nodup → g ∉ nodesB ns →
    (rowC (nodeCells g 0) k ns).Nodup ∧ ∀ c ∈ rowC (nodeCells g 0) k ns, (c.block = g ∧ k * 4 ≤ c.off) ∨ c.block ∈ nodesB ns
  | [], k, _, _, _ => by simp [rowC]
  | q :: t, k, hf, hd, hg => by
    have ec : nodesB (q :: t) = nodeB q ++ nodesB t := by simp [nodesB]
    rw [ec] at hd hg ⊢
    obtain ⟨hq1, ht, hdis⟩ := List.nodup_append.1 hd
    have hgq : g ∉ nodeB q := fun e => hg (List.mem_append_left _ e)
    have hgt : g ∉ nodesB t := fun e => hg (List.mem_append_right _ e)
    obtain ⟨n1, m1⟩ := rowN_nd (g := g) (ns := t) (k := k + 1) (fun p hp => hf p (by simp [hp])) ht hgt
    obtain ⟨n2, m2⟩ := (hf q (by simp)).nd
    have m3 : ∀ a ∈ esA q.A1 q.es, a.block ∈ nodeB q := by
      intro a ha
      rcases m2 a ha with h | h
      · exact List.mem_append_left _ (by rw [h]; simp)
      · exact List.mem_append_right _ h
    have hhead : ∀ c ∈ nodeCells g 0 k q, (c.block = g ∧ k * 4 ≤ c.off ∧ c.off < k * 4 + 3) ∨ c ∈ esA q.A1 q.es := by
      intro c hc
      simp only [nodeCells, List.mem_append, List.mem_singleton] at hc
      rcases hc with rfl | rfl | rfl | hc
      · exact Or.inl ⟨rfl, by simp only; omega, by simp only; omega⟩
      · exact Or.inl ⟨rfl, by simp only; omega, by simp only; omega⟩
      · exact Or.inl ⟨rfl, by simp only; omega, by simp only; omega⟩
      · exact Or.inr hc
    refine ⟨?_, fun c hc => ?_⟩
    · simp only [rowC]
      rw [List.nodup_append]
      refine ⟨?_, n1, fun a ha b hb e => ?_⟩
      · have hx : ∀ j, (⟨g, j, none⟩ : Addr) ∉ esA q.A1 q.es := fun j hm => hgq (m3 _ hm)
        simp only [nodeCells, List.singleton_append, List.nodup_cons, List.mem_cons, not_or]
        refine ⟨⟨?_, ?_, hx _⟩, ⟨?_, hx _⟩, hx _, n2⟩
        all_goals (intro e; injection e with _ e2; omega)
      · subst e
        rcases hhead a ha with ⟨h, h5, h6⟩ | h <;> rcases m1 _ hb with ⟨h3, h4⟩ | h3
        · omega
        · rw [h] at h3; exact hgt h3
        · exact hgq (by rw [← h3]; exact m3 _ h)
        · exact hdis _ (m3 _ h) _ h3 rfl
    · simp only [rowC] at hc
      rcases List.mem_append.1 hc with hc | hc
      · rcases hhead c hc with ⟨h, h5, _⟩ | h
        · exact Or.inl ⟨h, h5⟩
        · exact Or.inr (List.mem_append_left _ (m3 _ h))
      · rcases m1 c hc with ⟨h3, h4⟩ | h3
        · exact Or.inl ⟨h3, by omega⟩
        · exact Or.inr (List.mem_append_right _ h3)

section
variable {w w' : World} {base n c : Nat} {A : Option Addr} {xs : List Int}
theorem ints_nd (h : w.ownsRow base 2 1 (.slice A n c) n (xs.map (Value.int .i64))) : (intCells A n).Nodup ∧ (∀ a ∈ intCells A n, (Value.slice A n c).ownBlock = some a.block) ∧ Formed A n ∧ (∀ a ∈ intCells A n, CellOk w base a) := by
  rcases Nat.eq_zero_or_pos n with rfl | h0
  · rw [intCells_zero]; exact ⟨by simp, fun a ha => by simp at ha, fun h => absurd h (Nat.lt_irrefl 0), fun a ha => by simp at ha⟩
  · obtain ⟨g, rfl, ho, hg1, hg2, hc, hf⟩ := owned_at h h0
    refine ⟨intCells_nd _ _, fun a ha => by rw [ho, intCells_block ha], fun _ => ⟨g, 0, rfl⟩, fun a ha => ?_⟩
    simp only [intCells, List.mem_map, List.mem_range, Nat.zero_add] at ha
    obtain ⟨i, hi, rfl⟩ := ha
    have hl : xs.length = n := by have := h.1; simpa using this
    have hx : (xs.map (Value.int .i64))[i]? = some (.int .i64 (xs[i]'(by omega))) := by rw [List.getElem?_map, List.getElem?_eq_getElem (by omega)]; rfl
    exact ⟨⟨_, hc _ _ hx⟩, hf _, hg1, hg2⟩
end

theorem rowR_nd {w : World} {base g : Nat} : ∀ {ns : List RV} {k : Nat}, (∀ q ∈ ns, w.ownsRow base 2 1 (.slice q.A1 q.n1 q.c1) q.n1 (q.ws.map (Value.int .i64))) → (rvsB ns).Nodup → g ∉ rvsB ns →
    (rowC (retCells g 0) k ns).Nodup ∧ ∀ c ∈ rowC (retCells g 0) k ns, (c.block = g ∧ k * 2 ≤ c.off) ∨ c.block ∈ rvsB ns
  | [], k, _, _, _ => by simp [rowC]
  | q :: t, k, hf, hd, hg => by
    have ec : rvsB (q :: t) = rvB q ++ rvsB t := by simp [rvsB]
    rw [ec] at hd hg ⊢
    obtain ⟨hq1, ht, hdis⟩ := List.nodup_append.1 hd
    have hgq : g ∉ rvB q := fun e => hg (List.mem_append_left _ e)
    have hgt : g ∉ rvsB t := fun e => hg (List.mem_append_right _ e)
    obtain ⟨n1, m1⟩ := rowR_nd (g := g) (ns := t) (k := k + 1) (fun p hp => hf p (by simp [hp])) ht hgt
    obtain ⟨n2, m2, _, _⟩ := ints_nd (hf q (by simp))
    have m3 : ∀ a ∈ intCells q.A1 q.n1, a.block ∈ rvB q := fun a ha => rvB_mem.2 (m2 a ha)
    have hhead : ∀ c ∈ retCells g 0 k q, (c.block = g ∧ k * 2 ≤ c.off ∧ c.off < k * 2 + 1) ∨ c ∈ intCells q.A1 q.n1 := by
      intro c hc
      simp only [retCells, List.mem_append, List.mem_singleton] at hc
      rcases hc with rfl | hc
      · exact Or.inl ⟨rfl, by simp only; omega, by simp only; omega⟩
      · exact Or.inr hc
    refine ⟨?_, fun c hc => ?_⟩
    · simp only [rowC]
      rw [List.nodup_append]
      refine ⟨?_, n1, fun a ha b hb e => ?_⟩
      · simp only [retCells, List.singleton_append, List.nodup_cons]
        exact ⟨fun hm => hgq (m3 _ hm), n2⟩
      · subst e
        rcases hhead a ha with ⟨h, h5, h6⟩ | h <;> rcases m1 _ hb with ⟨h3, h4⟩ | h3
        · omega
        · rw [h] at h3; exact hgt h3
        · exact hgq (by rw [← h3]; exact m3 _ h)
        · exact hdis _ (m3 _ h) _ h3 rfl
    · simp only [rowC] at hc
      rcases List.mem_append.1 hc with hc | hc
      · rcases hhead c hc with ⟨h, h5, _⟩ | h
        · exact Or.inl ⟨h, h5⟩
        · exact Or.inr (List.mem_append_left _ (m3 _ h))
      · rcases m1 c hc with ⟨h3, h4⟩ | h3
        · exact Or.inl ⟨h3, by omega⟩
        · exact Or.inr (List.mem_append_right _ h3)

/-- An arena that an answer owns. -/
structure AnsAr (w : World) (lo : Nat) (A1 : Option Addr) (n1 c1 : Nat) (A2 : Option Addr) (n2 c2 : Nat) (A3 : Option Addr) (n3 c3 : Nat) (ns : List NV) (fs : List Int) (rs : List RV) : Prop where
  N : NodesOut w lo (.slice A1 n1 c1) n1 ns
  F : w.ownsRow lo 2 1 (.slice A2 n2 c2) n2 (fs.map (Value.int .i64))
  R : RetsOut w lo (.slice A3 n3 c3) n3 rs
  d : ∀ b, (Value.slice A2 n2 c2).ownBlock = some b → (Value.slice A1 n1 c1).ownBlock ≠ some b ∧ b ∉ nodesB ns
  e : ∀ b, ((Value.slice A3 n3 c3).ownBlock = some b ∨ b ∈ rvsB rs) → (Value.slice A1 n1 c1).ownBlock ≠ some b ∧ (Value.slice A2 n2 c2).ownBlock ≠ some b ∧ b ∉ nodesB ns
  s1 : n1 ≤ 1000
  s2 : n2 ≤ 1048576
  s3 : n3 ≤ 1048576
  t1 : ∀ q ∈ ns, q.n1 ≤ 10
  t3 : ∀ q ∈ rs, q.n1 ≤ 10
section
variable {w w' : World} {lo n1 c1 n2 c2 n3 c3 : Nat} {A1 A2 A3 : Option Addr} {ns : List NV} {fs : List Int} {rs : List RV}
theorem AnsAr.none (w : World) (lo : Nat) : AnsAr w lo none 0 0 none 0 0 none 0 0 [] [] [] :=
  ⟨⟨⟨rfl, Or.inl ⟨rfl, rfl⟩⟩, fun q hq => by simp at hq, List.nodup_nil, fun b h => by simp [Value.ownBlock] at h⟩, ⟨rfl, Or.inl ⟨rfl, rfl⟩⟩, RetsOut.nil _ _, fun b h => by simp [Value.ownBlock] at h, fun b h => by simp [Value.ownBlock, rvsB] at h, by decide, by decide, by decide, fun q hq => by simp at hq, fun q hq => by simp at hq⟩
theorem AnsAr.others (h : AnsAr w lo A1 n1 c1 A2 n2 c2 A3 n3 c3 ns fs rs) (hk : ∀ b, lo ≤ b → b < w.heap.size → w'.heap[b]? = w.heap[b]?) : AnsAr w' lo A1 n1 c1 A2 n2 c2 A3 n3 c3 ns fs rs :=
  ⟨h.N.others (fun b e => hk b (ownsRow_block2 h.N.S b e).1 (ownsRow_block2 h.N.S b e).2) (fun b e => hk b (nodesB_in h.N b e).1 (nodesB_in h.N b e).2),
   ownsRow_others h.F (fun b e => hk b (ownsRow_block2 h.F b e).1 (ownsRow_block2 h.F b e).2),
   h.R.others (fun b e => hk b (ownsRow_block2 h.R.S b e).1 (ownsRow_block2 h.R.S b e).2) (fun b e => hk b (rvsB_in h.R b e).1 (rvsB_in h.R b e).2), h.d, h.e, h.s1, h.s2, h.s3, h.t1, h.t3⟩
theorem AnsAr.kept (h : AnsAr w lo A1 n1 c1 A2 n2 c2 A3 n3 c3 ns fs rs) (hb : Below w.heap.size w w') : AnsAr w' lo A1 n1 c1 A2 n2 c2 A3 n3 c3 ns fs rs := h.others fun b _ h2 => hb.block b h2
theorem AnsAr.turned {G : Nat → Prop} (h : AnsAr w lo A1 n1 c1 A2 n2 c2 A3 n3 c3 ns fs rs) (ht : Turned G w w') (hG : ∀ x, G x → x < lo) : AnsAr w' lo A1 n1 c1 A2 n2 c2 A3 n3 c3 ns fs rs :=
  h.others fun b h1 h2 => ht.2.2 b h2 fun hg => by have := hG b hg; omega
theorem AnsAr.far (h : AnsAr w lo A1 n1 c1 A2 n2 c2 A3 n3 c3 ns fs rs) {a : Addr} (ha : a.block < lo) (v : Value) : AnsAr (w.setCell a v) lo A1 n1 c1 A2 n2 c2 A3 n3 c3 ns fs rs :=
  h.others fun b h1 _ => heap_setCell_other w a b v (by omega)
theorem AnsAr.lower {lo' : Nat} (h : AnsAr w lo A1 n1 c1 A2 n2 c2 A3 n3 c3 ns fs rs) (hl : lo' ≤ lo) : AnsAr w lo' A1 n1 c1 A2 n2 c2 A3 n3 c3 ns fs rs := by
  refine ⟨⟨ownsRow_lower h.N.S hl, fun q hq => ?_, h.N.D, h.N.X⟩, ownsRow_lower h.F hl, ⟨ownsRow_lower h.R.S hl, fun q hq => ownsRow_lower (h.R.Q q hq) hl, h.R.D, h.R.X⟩, h.d, h.e, h.s1, h.s2, h.s3, h.t1, h.t3⟩
  have hq' := h.N.Q q hq
  refine ⟨ownsRow_lower hq'.S hl, fun x hx => ?_, hq'.D, hq'.E⟩
  obtain ⟨g1, g2, a1, a2, a3, a4, r⟩ := hq'.C x hx
  exact ⟨g1, g2, a1, a2, by omega, by omega, r⟩
theorem NodesOut.len {v : Value} {n : Nat} (h : NodesOut w lo v n ns) : ns.length = n := by have := h.S.1; rw [nvCells_len] at this; omega
theorem RetsOut.len {v : Value} {n : Nat} (h : RetsOut w lo v n rs) : rs.length = n := by have := h.S.1; rw [rvCells_len] at this; omega
theorem NodesOut.nodes {A : Option Addr} {n c : Nat} (h : NodesOut w lo (.slice A n c) n ns) (ht : ∀ q ∈ ns, q.n1 ≤ 10) : NodesL w A n ns := by
  refine ⟨h.len, fun h0 => ?_, fun p hp => ⟨(h.Q p hp).entries, Nat.le_trans (ht p hp) (by decide)⟩⟩
  obtain ⟨g, rfl, _, g1, g2, g3, g4⟩ := owned_at h.S h0
  refine ⟨g, 0, rfl, g2, fun k p hk => ?_⟩
  simp only [Nat.zero_add]
  exact ⟨g3 _ _ (nvCells_at (j := 0) hk rfl), g3 _ _ (nvCells_at (j := 1) hk rfl), g3 _ _ (nvCells_at (j := 2) hk rfl), g3 _ _ (nvCells_at (j := 3) hk rfl)⟩
theorem RetsOut.rets {A : Option Addr} {n c : Nat} (h : RetsOut w lo (.slice A n c) n rs) (ht : ∀ q ∈ rs, q.n1 ≤ 10) : Rets w A n rs := by
  refine ⟨h.len, fun h0 => ?_, fun p hp => ⟨?_, Nat.le_trans (ht p hp) (by decide)⟩⟩
  · obtain ⟨g, rfl, _, g1, g2, g3, g4⟩ := owned_at h.S h0
    refine ⟨g, 0, rfl, g2, fun k p hk => ?_⟩
    simp only [Nat.zero_add]
    exact ⟨g3 _ _ (rvCells_at (j := 0) hk rfl), g3 _ _ (rvCells_at (j := 1) hk rfl)⟩
  · obtain ⟨A', c', e, hI⟩ := ints_of_owns (h.Q p hp)
    injection e with e1 e2 e3
    rw [e1]; exact hI.lower (Nat.zero_le _)
theorem AnsAr.arena (h : AnsAr w lo A1 n1 c1 A2 n2 c2 A3 n3 c3 ns fs rs) : ArenaL w A1 A2 A3 n1 n2 n3 ns fs rs := by
  refine ⟨h.N.nodes h.t1, ?_, h.R.rets h.t3, Nat.le_trans h.s1 (by decide), Nat.le_trans h.s2 (by decide), Nat.le_trans h.s3 (by decide)⟩
  obtain ⟨A', c', e, hI⟩ := ints_of_owns h.F
  injection e with e1 e2 e3
  rw [e1]; exact hI.lower (Nat.zero_le _)
theorem AnsAr.sh (h : AnsAr w lo A1 n1 c1 A2 n2 c2 A3 n3 c3 ns fs rs) : ArSh w A1 A2 A3 n1 n2 n3 ns rs := by
  refine ⟨⟨h.N.len, fun h0 => ?_, fun e he => ⟨(h.N.Q e he).sh, Nat.le_trans (h.t1 e he) (by decide)⟩⟩, (ints_nd h.F).2.2.1, ⟨h.R.len, fun h0 => ?_, fun e he => ⟨(ints_nd (h.R.Q e he)).2.2.1, Nat.le_trans (h.t3 e he) (by decide)⟩⟩, Nat.le_trans h.s1 (by decide), h.s2, h.s3⟩
  · obtain ⟨g, rfl, _, g1, g2, g3, g4⟩ := owned_at h.N.S h0
    refine ⟨g, 0, rfl, fun k p hk => ?_⟩
    simp only [Nat.zero_add]
    exact g3 _ _ (nvCells_at (j := 3) hk rfl)
  · obtain ⟨g, rfl, _, g1, g2, g3, g4⟩ := owned_at h.R.S h0
    refine ⟨g, 0, rfl, fun k p hk => ?_⟩
    simp only [Nat.zero_add]
    exact g3 _ _ (rvCells_at (j := 1) hk rfl)
theorem NodesOut.each {A : Option Addr} {n c : Nat} (h : NodesOut w lo (.slice A n c) n ns) : ∀ a ∈ nsA A ns, CellOk w lo a := by
  intro a ha
  rcases Nat.eq_zero_or_pos n with rfl | h0
  · obtain rfl : ns = [] := List.eq_nil_of_length_eq_zero h.len
    rw [nsA_nil] at ha; simp at ha
  · obtain ⟨g, rfl, _, g1, g2, g3, g4⟩ := owned_at h.S h0
    obtain ⟨i, q, hq, hm⟩ := rowC_mem ha
    simp only [nodeCells, List.mem_append, List.mem_singleton, Nat.zero_add] at hm
    rcases hm with rfl | rfl | rfl | hm
    · exact ⟨⟨_, g3 _ _ (nvCells_at (j := 0) hq rfl)⟩, g4 _, g1, g2⟩
    · exact ⟨⟨_, g3 _ _ (nvCells_at (j := 1) hq rfl)⟩, g4 _, g1, g2⟩
    · exact ⟨⟨_, g3 _ _ (nvCells_at (j := 2) hq rfl)⟩, g4 _, g1, g2⟩
    · exact (h.Q q (List.mem_of_getElem? hq)).each a hm
theorem RetsOut.each {A : Option Addr} {n c : Nat} (h : RetsOut w lo (.slice A n c) n rs) : ∀ a ∈ rsA A rs, CellOk w lo a := by
  intro a ha
  rcases Nat.eq_zero_or_pos n with rfl | h0
  · obtain rfl : rs = [] := List.eq_nil_of_length_eq_zero h.len
    rw [rsA_nil] at ha; simp at ha
  · obtain ⟨g, rfl, _, g1, g2, g3, g4⟩ := owned_at h.S h0
    obtain ⟨i, q, hq, hm⟩ := rowC_mem ha
    simp only [retCells, List.mem_append, List.mem_singleton, Nat.zero_add] at hm
    rcases hm with rfl | hm
    · exact ⟨⟨_, g3 _ _ (rvCells_at (j := 0) hq rfl)⟩, g4 _, g1, g2⟩
    · exact (ints_nd (h.Q q (List.mem_of_getElem? hq))).2.2.2 a hm
theorem AnsAr.each (h : AnsAr w lo A1 n1 c1 A2 n2 c2 A3 n3 c3 ns fs rs) : ∀ c ∈ arCells A1 A2 A3 n2 ns rs, CellOk w lo c := by
  intro c hc
  unfold arCells at hc
  rcases List.mem_append.1 hc with hc | hc
  · rcases List.mem_append.1 hc with hc | hc
    · exact h.N.each c hc
    · exact (ints_nd h.F).2.2.2 c hc
  · exact h.R.each c hc
theorem AnsAr.writ (h : AnsAr w lo A1 n1 c1 A2 n2 c2 A3 n3 c3 ns fs rs) : Writ w (arCells A1 A2 A3 n2 ns rs) := fun c hc => ⟨(h.each c hc).1, (h.each c hc).2.1⟩
theorem NodesOut.nd {A : Option Addr} {n c : Nat} (h : NodesOut w lo (.slice A n c) n ns) : (nsA A ns).Nodup ∧ ∀ a ∈ nsA A ns, (Value.slice A n c).ownBlock = some a.block ∨ a.block ∈ nodesB ns := by
  rcases Nat.eq_zero_or_pos n with rfl | h0
  · obtain rfl : ns = [] := List.eq_nil_of_length_eq_zero h.len
    rw [nsA_nil]; simp
  · obtain ⟨g, rfl, ho, _⟩ := owned_at h.S h0
    obtain ⟨n1, m1⟩ := rowN_nd (g := g) (k := 0) h.Q h.D (h.X g ho)
    refine ⟨n1, fun a ha => ?_⟩
    rcases m1 a ha with ⟨h3, _⟩ | h3
    · exact Or.inl (by rw [ho, h3])
    · exact Or.inr h3
theorem RetsOut.nd {A : Option Addr} {n c : Nat} (h : RetsOut w lo (.slice A n c) n rs) : (rsA A rs).Nodup ∧ ∀ a ∈ rsA A rs, (Value.slice A n c).ownBlock = some a.block ∨ a.block ∈ rvsB rs := by
  rcases Nat.eq_zero_or_pos n with rfl | h0
  · obtain rfl : rs = [] := List.eq_nil_of_length_eq_zero h.len
    rw [rsA_nil]; simp
  · obtain ⟨g, rfl, ho, _⟩ := owned_at h.S h0
    obtain ⟨n1, m1⟩ := rowR_nd (g := g) (k := 0) h.Q h.D (h.X g ho)
    refine ⟨n1, fun a ha => ?_⟩
    rcases m1 a ha with ⟨h3, _⟩ | h3
    · exact Or.inl (by rw [ho, h3])
    · exact Or.inr h3
theorem AnsAr.nd (h : AnsAr w lo A1 n1 c1 A2 n2 c2 A3 n3 c3 ns fs rs) : (arCells A1 A2 A3 n2 ns rs).Nodup := by
  obtain ⟨a1, a2⟩ := h.N.nd
  obtain ⟨b1, b2, _, _⟩ := ints_nd h.F
  obtain ⟨r1, r2⟩ := h.R.nd
  unfold arCells
  rw [List.nodup_append, List.nodup_append]
  refine ⟨⟨a1, b1, fun a ha b hb e => ?_⟩, r1, fun a ha b hb e => ?_⟩
  · subst e
    obtain ⟨h1, h2⟩ := h.d _ (b2 a hb)
    rcases a2 a ha with h3 | h3
    · exact h1 h3
    · exact h2 h3
  · subst e
    obtain ⟨h1, h2, h3⟩ := h.e _ (r2 a hb)
    rcases List.mem_append.1 ha with ha | ha
    · rcases a2 a ha with h4 | h4
      · exact h1 h4
      · exact h3 h4
    · exact h2 (b2 a ha)
theorem sum_le {α : Type} {f : α → Nat} {m : Nat} : ∀ {l : List α}, (∀ x ∈ l, f x ≤ m) → (l.map f).sum ≤ l.length * m
  | [], _ => by simp
  | a :: t, h => by
    have h1 := h a (by simp)
    have h2 := sum_le (f := f) (m := m) (l := t) (fun x hx => h x (by simp [hx]))
    simp only [List.map_cons, List.sum_cons, List.length_cons]
    rw [Nat.add_mul]; omega
theorem AnsAr.few (h : AnsAr w lo A1 n1 c1 A2 n2 c2 A3 n3 c3 ns fs rs) : (arCells A1 A2 A3 n2 ns rs).length ≤ 17179869184 := by
  have hN : (nsA A1 ns).length ≤ 1000 * 83 := by
    have hl := h.N.len
    have h1 := h.s1
    cases A1 with
    | none => simp [nsA]
    | some a =>
      have h2 : (rowC (nodeCells a.block a.off) 0 ns).length ≤ (ns.map fun q => 3 + (esA q.A1 q.es).length).sum := rowC_length (fun k e he => by simp only [nodeCells, List.length_append, List.length_cons, List.length_nil]; omega)
      have h3 := sum_le (f := fun q : NV => 3 + (esA q.A1 q.es).length) (m := 83) (l := ns) (fun q hq => by have := (h.N.Q q hq).cells_le; have := h.t1 q hq; omega)
      have h4 : ns.length * 83 ≤ 1000 * 83 := Nat.mul_le_mul_right _ (by omega)
      show (rowC (nodeCells a.block a.off) 0 ns).length ≤ _
      omega
  have hF : (intCells A2 n2).length ≤ 1048576 := by rw [intCells_size (ints_nd h.F).2.2.1]; exact h.s2
  have hR : (rsA A3 rs).length ≤ 1048576 * 11 := by
    have hl := h.R.len
    have h1 := h.s3
    cases A3 with
    | none => simp [rsA]
    | some a =>
      have h2 : (rowC (retCells a.block a.off) 0 rs).length ≤ (rs.map fun q => 1 + (intCells q.A1 q.n1).length).sum := rowC_length (fun k e he => by simp only [retCells, List.length_append, List.length_cons, List.length_nil]; omega)
      have h3 := sum_le (f := fun q : RV => 1 + (intCells q.A1 q.n1).length) (m := 11) (l := rs) (fun q hq => by have := intCells_size (ints_nd (h.R.Q q hq)).2.2.1; have := h.t3 q hq; omega)
      have h4 : rs.length * 11 ≤ 1048576 * 11 := Nat.mul_le_mul_right _ (by omega)
      show (rowC (retCells a.block a.off) 0 rs).length ≤ _
      omega
  unfold arCells
  simp only [List.length_append]
  omega
end

/-- An arena of an answer, into which the marks from k on were written. -/
structure HeldAr (w : World) (k : Int) (A1 : Option Addr) (n1 : Nat) (A2 : Option Addr) (n2 : Nat) (A3 : Option Addr) (n3 : Nat) (ns : List NV) (rs : List RV) : Prop where
  S : ArSh w A1 A2 A3 n1 n2 n3 ns rs
  M : MarkAt w k (arCells A1 A2 A3 n2 ns rs)
theorem HeldAr.kept {w w' : World} {k : Int} {A1 A2 A3 : Option Addr} {n1 n2 n3 : Nat} {ns : List NV} {rs : List RV} (h : HeldAr w k A1 n1 A2 n2 A3 n3 ns rs) (hb : Below w.heap.size w w') : HeldAr w' k A1 n1 A2 n2 A3 n3 ns rs := ⟨h.S.kept hb, h.M.kept hb⟩
section
variable {w w' : World} {k : Int} {cs : List Addr}
theorem Passed.slice2 (hp : Passed k cs w w') (hW : Writ w cs) {a : Addr} {v : Value} (h : w.cell? a = some v) (hv : ∀ x, v ≠ .int .i64 x) : w'.cell? a = some v :=
  (hp.o a (cell_in h) (fun hm => by obtain ⟨x, hx⟩ := (hW a hm).1; rw [h] at hx; injection hx with hx; exact hv x hx)).trans h
theorem EntSh.passed2 {A : Option Addr} {n : Nat} {es : List EV} (h : EntSh w A n es) (hp : Passed k cs w w') (hW : Writ w cs) : EntSh w' A n es := by
  refine ⟨h.1, fun h0 => ?_, h.2.2⟩
  obtain ⟨b, o, e, h1⟩ := h.2.1 h0
  exact ⟨b, o, e, fun k x hk => ⟨hp.slice2 hW (h1 k x hk).1 (fun _ e => by simp at e), hp.slice2 hW (h1 k x hk).2 (fun _ e => by simp at e)⟩⟩
theorem NodeSh.passed2 {A : Option Addr} {n : Nat} {es : List NV} (h : NodeSh w A n es) (hp : Passed k cs w w') (hW : Writ w cs) : NodeSh w' A n es := by
  refine ⟨h.1, fun h0 => ?_, fun e he => ⟨(h.2.2 e he).1.passed2 hp hW, (h.2.2 e he).2⟩⟩
  obtain ⟨b, o, e, h1⟩ := h.2.1 h0
  exact ⟨b, o, e, fun k x hk => hp.slice2 hW (h1 k x hk) (fun _ e => by simp at e)⟩
theorem RetSh.passed2 {A : Option Addr} {n : Nat} {es : List RV} (h : RetSh w A n es) (hp : Passed k cs w w') (hW : Writ w cs) : RetSh w' A n es := by
  refine ⟨h.1, fun h0 => ?_, h.2.2⟩
  obtain ⟨b, o, e, h1⟩ := h.2.1 h0
  exact ⟨b, o, e, fun k x hk => hp.slice2 hW (h1 k x hk) (fun _ e => by simp at e)⟩
theorem ArSh.passed2 {A1 A2 A3 : Option Addr} {n1 n2 n3 : Nat} {ns : List NV} {rs : List RV} (h : ArSh w A1 A2 A3 n1 n2 n3 ns rs) (hp : Passed k cs w w') (hW : Writ w cs) : ArSh w' A1 A2 A3 n1 n2 n3 ns rs :=
  ⟨h.N.passed2 hp hW, h.F, h.R.passed2 hp hW, h.b1, h.b2, h.b3⟩
end

theorem markAns_any (cd d id : Int) (lo hi n1 c1 n2 c2 n3 c3 : Nat) (A1 A2 A3 : Option Addr) (ns : List NV) (fs : List Int) (rs : List RV) (w : World) (h : AnsAr w lo A1 n1 c1 A2 n2 c2 A3 n3 c3 ns fs rs) (hh : ∀ c ∈ arCells A1 A2 A3 n2 ns rs, c.block < hi) {K : Nat} (hK : (arCells A1 A2 A3 n2 ns rs).length = K) :
    Calls Tryz.prog 27 #[.agg #[.int .i64 cd, .int .i64 d, .slice A1 n1 c1, .slice A2 n2 c2, .slice A3 n3 c3, .int .i64 id], .int .i64 1] w fun e w' => e = .returned (.int .i64 (1 + K)) ∧ HeldAr w' 1 A1 n1 A2 n2 A3 n3 ns rs ∧ Turned (fun x => lo ≤ x ∧ x < hi) w w' := by
  have hf := h.few
  refine (markArenaResult_any 1 cd d id n1 c1 n2 c2 n3 c3 A1 A2 A3 ns rs w h.sh h.writ h.nd (by decide) (by omega)).mono fun e w' hp => ?_
  obtain ⟨h1, h2⟩ := hp
  refine ⟨by rw [h1, hK], ⟨h.sh.passed2 h2 h.writ, h2.M⟩, h2.T.wider ?_⟩
  rintro b ⟨c, hc, rfl⟩
  exact ⟨(h.each c hc).2.2.1, hh c hc⟩
theorem heldAns_any (cd d id : Int) (n1 c1 n2 c2 n3 c3 : Nat) (A1 A2 A3 : Option Addr) (ns : List NV) (rs : List RV) (w : World) (h : HeldAr w 1 A1 n1 A2 n2 A3 n3 ns rs) {K : Nat} (hK : (arCells A1 A2 A3 n2 ns rs).length = K) (hf : K ≤ 17179869184) :
    Calls Tryz.prog 28 #[.agg #[.int .i64 cd, .int .i64 d, .slice A1 n1 c1, .slice A2 n2 c2, .slice A3 n3 c3, .int .i64 id], .int .i64 1] w fun e w' => e = .returned (.int .i64 (1 + K)) ∧ Below w.heap.size w w' := by
  refine (heldArenaResult_any 1 cd d id n1 c1 n2 c2 n3 c3 A1 A2 A3 ns rs w h.S h.M (by decide) (by omega)).mono fun e w' hp => ?_
  obtain ⟨h1, h2⟩ := hp
  exact ⟨by rw [h1, hK], h2⟩

end Go.Proofs.YtpgoildfjkokiaaGreat
