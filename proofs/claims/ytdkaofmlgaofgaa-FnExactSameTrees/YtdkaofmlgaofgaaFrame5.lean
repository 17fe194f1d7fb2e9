/- The bridge between a row's reading of its arguments and the words of my walks, for lists of nodes. No condition. -/
import Derived.Test.YtdkaofmlgaofgaaFrame4
import Derived.Test.YtdkaofmlgaofgaaNodeLists
namespace Go.Proofs.Ytdkaofmlgaofgaa
open Go.ChangeShapes Go.WideShapes Go.ChangeAt Go.RowKit Go.Joins Go.Deep

/-- One node out of its four cells. -/
theorem node_of_cells {H : Type} {enc : TypeId × Value → H} {W : World} {fuel : Nat} {cs : List Value} {y : DataW H × List MemPlace} (hl : cs.length = 4)
    (h : DataW.trod enc Try.prog W 0 (fun _ => true) true fuel 58 cs = some y) : ∃ p : NV, cs = [.int .i64 p.lv, .int .i64 p.ns, .int .i64 p.rt, .slice p.A1 p.n1 p.c1] ∧ NodeOk W p := by
  have cellsEs : Try.prog.cellsOf 56 = 1 := by kernel_rfl
  match cs, hl with
  | [v0, v1, v2, v3], _ =>
    obtain ⟨y0, y1, y2, y3, n, _, _, h0, h1, h2, h3⟩ := trod_struct4 Try.underlying58 h
    simp only [cellsI64, cellsEs, List.drop, List.take] at h0 h1 h2 h3
    obtain ⟨lv, rfl⟩ := int_of_trodE h0
    obtain ⟨ns, rfl⟩ := int_of_trodE h1
    obtain ⟨rt, rfl⟩ := int_of_trodE h2
    obtain ⟨A1, n1, c1, es, rfl, he, hn1⟩ := entries_of_trod h3
    exact ⟨⟨lv, ns, rt, A1, n1, c1, es⟩, rfl, he, hn1⟩

set_option maxRecDepth 100000 in
theorem nodes_of_trod {H : Type} {enc : TypeId × Value → H} {W : World} {fuel : Nat} {v : Value} {y : DataW H × List MemPlace}
    (h : DataW.trod enc Try.prog W 0 (fun _ => true) true fuel 22 [v] = some y) : ∃ A n c ps, v = .slice A n c ∧ NodesL W A n ps ∧ n ≤ maxLen := by
  rcases open_slice Try.underlying22 h with ⟨hcs, _⟩ | ⟨a, len, cap, m, fu, D, Pl, hcs, _, hlc, hcm, hm, _, hx⟩
  · exact ⟨none, 0, 0, [], by simpa using hcs, ⟨rfl, fun h => absurd h (Nat.lt_irrefl 0), fun p hp => by simp at hp⟩, Nat.zero_le _⟩
  · have hml : len ≤ m := by rw [hm]; simp; exact hlc
    rw [cellsNode] at hx
    have each : ∀ i, i < len → ∃ p : NV, W.cell? (a.add (i * 4)) = some (.int .i64 p.lv) ∧ W.cell? (a.add (i * 4 + 1)) = some (.int .i64 p.ns) ∧ W.cell? (a.add (i * 4 + 2)) = some (.int .i64 p.rt) ∧ W.cell? (a.add (i * 4 + 3)) = some (.slice p.A1 p.n1 p.c1) ∧ NodeOk W p := by
      intro i hi
      obtain ⟨cs', h1, h2⟩ := hx i (by omega)
      obtain ⟨_, hlen, hcell⟩ := World.cells?_some h1
      obtain ⟨p, rfl, hp⟩ := node_of_cells hlen h2
      have e0 := hcell 0 (by omega)
      have e1 := hcell 1 (by omega)
      have e2 := hcell 2 (by omega)
      have e3 := hcell 3 (by omega)
      rw [add_add] at e0 e1 e2 e3
      exact ⟨p, by simpa using e0, by simpa using e1, by simpa using e2, by simpa using e3, hp⟩
    have : Inhabited NV := ⟨⟨0, 0, 0, none, 0, 0, []⟩⟩
    obtain ⟨f, hf⟩ := choose_lt each
    refine ⟨some a, len, cap, (List.range len).map f, by simpa using hcs, ⟨by simp, fun hp => ?_, fun p hp => ?_⟩, Nat.le_trans hlc hcm⟩
    · obtain ⟨b, off, spot⟩ := a
      have hspot : spot = none := by simpa [Addr.add] using World.cell?_spot (hf 0 hp).1
      subst hspot
      refine ⟨b, off, rfl, ?_, fun k p hk => ?_⟩
      · have h0 := (hf 0 hp).1
        rw [Go.WideShapes.add_plain] at h0
        exact block_lt_of_cell h0
      · have hk2 : k < len := by
          have := (List.getElem?_eq_some_iff.1 hk).1
          simpa using this
        have hfk : f k = p := by
          rw [List.getElem?_map, List.getElem?_range hk2] at hk
          simpa using hk
        obtain ⟨a0, a1, a2, a3, _⟩ := hf k hk2
        rw [Go.WideShapes.add_plain] at a0 a1 a2 a3
        rw [hfk] at a0 a1 a2 a3
        exact ⟨a0, a1, a2, a3⟩
    · obtain ⟨k, hk, rfl⟩ := List.mem_map.1 hp
      exact (hf k (List.mem_range.1 hk)).2.2.2.2

end Go.Proofs.Ytdkaofmlgaofgaa
