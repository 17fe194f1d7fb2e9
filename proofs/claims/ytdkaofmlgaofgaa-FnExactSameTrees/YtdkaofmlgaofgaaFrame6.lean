/- The bridge between a row's reading of its arguments and the words of my walks, for arenas. No condition. -/
import Derived.Test.YtdkaofmlgaofgaaFrame5
import Derived.Test.YtdkaofmlgaofgaaArenas
namespace Go.Proofs.Ytdkaofmlgaofgaa
open Go.ChangeShapes Go.WideShapes Go.ChangeAt Go.RowKit Go.Joins Go.Deep

theorem cellsRetired : Try.prog.cellsOf 60 = 2 := by kernel_rfl
theorem cellsArena : Try.prog.cellsOf 26 = 4 := by kernel_rfl

/-- One retired place out of its two cells. -/
theorem retired_of_cells {H : Type} {enc : TypeId × Value → H} {W : World} {fuel : Nat} {cs : List Value} {y : DataW H × List MemPlace} (hl : cs.length = 2)
    (h : DataW.trod enc Try.prog W 0 (fun _ => true) true fuel 60 cs = some y) : ∃ p : RV, cs = [.int .i64 p.id, .slice p.A1 p.n1 p.c1] ∧ RetOk W p := by
  match cs, hl with
  | [v0, v1], _ =>
    obtain ⟨y0, y1, n, _, _, h0, h1⟩ := trod_struct2 Try.underlying60 h
    simp only [cellsI64, cellsIntsE, List.drop, List.take] at h0 h1
    obtain ⟨id, rfl⟩ := int_of_trodE h0
    obtain ⟨A1, n1, c1, ws, rfl, he, hn1⟩ := ints_of_trod h1
    exact ⟨⟨id, A1, n1, c1, ws⟩, rfl, he, hn1⟩

set_option maxRecDepth 100000 in
theorem rets_of_trod {H : Type} {enc : TypeId × Value → H} {W : World} {fuel : Nat} {v : Value} {y : DataW H × List MemPlace}
    (h : DataW.trod enc Try.prog W 0 (fun _ => true) true fuel 24 [v] = some y) : ∃ A n c ps, v = .slice A n c ∧ Rets W A n ps ∧ n ≤ maxLen := by
  rcases open_slice Try.underlying24 h with ⟨hcs, _⟩ | ⟨a, len, cap, m, fu, D, Pl, hcs, _, hlc, hcm, hm, _, hx⟩
  · exact ⟨none, 0, 0, [], by simpa using hcs, ⟨rfl, fun h => absurd h (Nat.lt_irrefl 0), fun p hp => by simp at hp⟩, Nat.zero_le _⟩
  · have hml : len ≤ m := by rw [hm]; simp; exact hlc
    rw [cellsRetired] at hx
    have each : ∀ i, i < len → ∃ p : RV, W.cell? (a.add (i * 2)) = some (.int .i64 p.id) ∧ W.cell? (a.add (i * 2 + 1)) = some (.slice p.A1 p.n1 p.c1) ∧ RetOk W p := by
      intro i hi
      obtain ⟨cs', h1, h2⟩ := hx i (by omega)
      obtain ⟨_, hlen, hcell⟩ := World.cells?_some h1
      obtain ⟨p, rfl, hp⟩ := retired_of_cells hlen h2
      have e0 := hcell 0 (by omega)
      have e1 := hcell 1 (by omega)
      rw [add_add] at e0 e1
      exact ⟨p, by simpa using e0, by simpa using e1, hp⟩
    have : Inhabited RV := ⟨⟨0, none, 0, 0, []⟩⟩
    obtain ⟨f, hf⟩ := choose_lt each
    refine ⟨some a, len, cap, (List.range len).map f, by simpa using hcs, ⟨by simp, fun hp => ?_, fun p hp => ?_⟩, Nat.le_trans hlc hcm⟩
    · obtain ⟨b, off, spot⟩ := a
      have hspot : spot = none := by simpa [Addr.add] using World.cell?_spot (hf 0 hp).1
      subst hspot
      refine ⟨b, off, rfl, ?_, fun k p hk => ?_⟩
      · have h0 := (hf 0 hp).1
        rw [Go.WideShapes.add_plain] at h0
        exact block_lt_of_cell h0
      · have hk2 : k < len := by
          have := (List.getElem?_eq_some_iff.1 hk).1
          simpa using this
        have hfk : f k = p := by
          rw [List.getElem?_map, List.getElem?_range hk2] at hk
          simpa using hk
        obtain ⟨a0, a1, _⟩ := hf k hk2
        rw [Go.WideShapes.add_plain] at a0 a1
        rw [hfk] at a0 a1
        exact ⟨a0, a1⟩
    · obtain ⟨k, hk, rfl⟩ := List.mem_map.1 hp
      exact (hf k (List.mem_range.1 hk)).2.2

set_option maxRecDepth 100000 in
theorem arena_of_trod {H : Type} {enc : TypeId × Value → H} {W : World} {base : Nat} {v : Value} {d : DataW H} {p : List MemPlace} (hv : Value.okWide Try.prog W .any base 26 v)
    (h : DataW.Trod enc Try.prog W 0 (fun _ => true) true 26 v d p) :
    ∃ dd A1 n1 c1 A2 n2 c2 A3 n3 c3 ns fs rs, v = .agg #[.int .i64 dd, .slice A1 n1 c1, .slice A2 n2 c2, .slice A3 n3 c3] ∧ ArenaL W A1 A2 A3 n1 n2 n3 ns fs rs := by
  obtain ⟨c0, c1, c2, c3, y0, y1, y2, y3, m, rfl, _, _, h0, h1, h2, h3⟩ := open_agg4 Try.underlying26 (by kernel_rfl) cellsArena hv h
  obtain ⟨dd, rfl⟩ := int_of_trodE h0
  obtain ⟨A1, n1, c1, ns, rfl, q1, m1⟩ := nodes_of_trod h1
  obtain ⟨A2, n2, c2, fs, rfl, q2, m2⟩ := ints_of_trod h2
  obtain ⟨A3, n3, c3, rs, rfl, q3, m3⟩ := rets_of_trod h3
  exact ⟨dd, A1, n1, c1, A2, n2, c2, A3, n3, c3, ns, fs, rs, rfl, q1, q2, q3, m1, m2, m3⟩

end Go.Proofs.Ytdkaofmlgaofgaa
