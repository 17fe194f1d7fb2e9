/- The bridge between a row's reading of its arguments and the words of my walks, for lists of pairs. No condition. -/
import Derived.Test.YtpgoildfjkokiabFrame
import Derived.Test.YtpgoildfjkokiabPairs
import Derived.Deep.Slices
import Derived.ChangeSame
namespace Go.Proofs.Ytpgoildfjkokiab
open Go.ChangeShapes Go.WideShapes Go.ChangeAt Go.RowKit Go.Joins Go.Deep

theorem cellsInts' : Try.prog.cellsOf 24 = 1 := by kernel_rfl
theorem cellsPair : Try.prog.cellsOf 42 = 3 := by kernel_rfl

theorem int_of_trod' {H : Type} {enc : TypeId × Value → H} {W : World} {fuel : Nat} {v : Value} {y : DataW H × List MemPlace}
    (h : DataW.trod enc Try.prog W 0 (fun _ => true) true fuel 2 [v] = some y) : ∃ x, v = .int .i64 x := by
  obtain ⟨a, e0, _, _⟩ := DataW.trod_int Try.underlying2 h
  exact ⟨a, by simpa using e0⟩

/-- One pair out of its three cells. -/
theorem pair_of_cells {H : Type} {enc : TypeId × Value → H} {W : World} {fuel : Nat} {cs : List Value} {y : DataW H × List MemPlace} (hl : cs.length = 3)
    (h : DataW.trod enc Try.prog W 0 (fun _ => true) true fuel 42 cs = some y) : ∃ p : PV, cs = [.int .i64 p.id, .slice p.A1 p.n1 p.c1, .slice p.A2 p.n2 p.c2] ∧ PairOk W p := by
  match cs, hl with
  | [v0, v1, v2], _ =>
    obtain ⟨y0, y1, n, _, _, h0, h1⟩ := trod_struct2 Try.underlying42 h
    simp only [cellsI64, cellsRect, List.drop, List.take] at h0 h1
    obtain ⟨z0, z1, n', _, _, k0, k1⟩ := trod_struct2 Try.underlying40 h1
    simp only [cellsInts', List.drop, List.take] at k0 k1
    obtain ⟨id, rfl⟩ := int_of_trod' h0
    obtain ⟨A1, n1, c1, x1, rfl, hx1, hn1⟩ := ints_of_trod k0
    obtain ⟨A2, n2, c2, x2, rfl, hx2, hn2⟩ := ints_of_trod k1
    exact ⟨⟨id, A1, n1, c1, A2, n2, c2, x1, x2⟩, rfl, hx1, hx2, hn1, hn2⟩

set_option maxRecDepth 100000 in
theorem pairs_of_trod {H : Type} {enc : TypeId × Value → H} {W : World} {fuel : Nat} {v : Value} {y : DataW H × List MemPlace}
    (h : DataW.trod enc Try.prog W 0 (fun _ => true) true fuel 22 [v] = some y) : ∃ A n c ps, v = .slice A n c ∧ Pairs W A n ps ∧ n ≤ maxLen := by
  rcases open_slice Try.underlying22 h with ⟨hcs, _⟩ | ⟨a, len, cap, m, fu, D, Pl, hcs, _, hlc, hcm, hm, _, hx⟩
  · exact ⟨none, 0, 0, [], by simpa using hcs, ⟨rfl, fun h => absurd h (Nat.lt_irrefl 0), fun p hp => by simp at hp⟩, Nat.zero_le _⟩
  · have hml : len ≤ m := by rw [hm]; simp; exact hlc
    rw [cellsPair] at hx
    have each : ∀ i, i < len → ∃ p : PV, W.cell? (a.add (i * 3)) = some (.int .i64 p.id) ∧ W.cell? (a.add (i * 3 + 1)) = some (.slice p.A1 p.n1 p.c1) ∧ W.cell? (a.add (i * 3 + 2)) = some (.slice p.A2 p.n2 p.c2) ∧ PairOk W p := by
      intro i hi
      obtain ⟨cs', h1, h2⟩ := hx i (by omega)
      obtain ⟨_, hlen, hcell⟩ := World.cells?_some h1
      obtain ⟨p, rfl, hp⟩ := pair_of_cells hlen h2
      have e0 := hcell 0 (by omega)
      have e1 := hcell 1 (by omega)
      have e2 := hcell 2 (by omega)
      rw [add_add] at e0 e1 e2
      exact ⟨p, by simpa using e0, by simpa using e1, by simpa using e2, hp⟩
    have : Inhabited PV := ⟨⟨0, none, 0, 0, none, 0, 0, [], []⟩⟩
    obtain ⟨f, hf⟩ := choose_lt each
    refine ⟨some a, len, cap, (List.range len).map f, by simpa using hcs, ⟨by simp, fun hp => ?_, fun p hp => ?_⟩, Nat.le_trans hlc hcm⟩
    · obtain ⟨b, off, spot⟩ := a
      have hspot : spot = none := by simpa [Addr.add] using World.cell?_spot (hf 0 hp).1
      subst hspot
      refine ⟨b, off, rfl, ?_, fun k p hk => ?_⟩
      · have h0 := (hf 0 hp).1
        rw [Go.WideShapes.add_plain] at h0
        exact block_lt_of_cell h0
      · have hk2 : k < len := by
          have := (List.getElem?_eq_some_iff.1 hk).1
          simpa using this
        have hfk : f k = p := by
          rw [List.getElem?_map, List.getElem?_range hk2] at hk
          simpa using hk
        obtain ⟨a0, a1, a2, _⟩ := hf k hk2
        rw [Go.WideShapes.add_plain] at a0 a1 a2
        rw [hfk] at a0 a1 a2
        exact ⟨a0, a1, a2⟩
    · obtain ⟨k, hk, rfl⟩ := List.mem_map.1 hp
      exact (hf k (List.mem_range.1 hk)).2.2.2

end Go.Proofs.Ytpgoildfjkokiab
