/- The bridge between a row's reading of its arguments and the words of my walks, for nodes. No condition. -/
import Derived.Test.YtblhcnafoejahaaFrame
import Derived.Test.YtblhcnafoejahaaEntries
import Derived.Deep.Slices
import Derived.Deep.Strs
import Derived.ChangeSame
namespace Go.Proofs.Ytblhcnafoejahaa
open Go.ChangeShapes Go.WideShapes Go.ChangeAt Go.RowKit Go.Joins Go.Deep

theorem cellsIntsE : Try.prog.cellsOf 33 = 1 := by kernel_rfl
theorem cellsEntry : Try.prog.cellsOf 115 = 4 := by kernel_rfl
theorem cellsNode : Try.prog.cellsOf 24 = 4 := by kernel_rfl

theorem int_of_trodE {H : Type} {enc : TypeId × Value → H} {W : World} {fuel : Nat} {v : Value} {y : DataW H × List MemPlace}
    (h : DataW.trod enc Try.prog W 0 (fun _ => true) true fuel 2 [v] = some y) : ∃ x, v = .int .i64 x := by
  obtain ⟨a, e0, _, _⟩ := DataW.trod_int Try.underlying2 h
  exact ⟨a, by simpa using e0⟩

/-- One entry out of its four cells. -/
theorem entry_of_cells {H : Type} {enc : TypeId × Value → H} {W : World} {fuel : Nat} {cs : List Value} {y : DataW H × List MemPlace} (hl : cs.length = 4)
    (h : DataW.trod enc Try.prog W 0 (fun _ => true) true fuel 115 cs = some y) : ∃ p : EV, cs = [.slice p.A1 p.n1 p.c1, .slice p.A2 p.n2 p.c2, .int .i64 p.ref, .int .i64 p.nsn] ∧ EntryOk W p := by
  match cs, hl with
  | [v0, v1, v2, v3], _ =>
    obtain ⟨y0, y1, y2, n, _, _, h0, h1, h2⟩ := trod_struct3 Try.underlying115 h
    simp only [cellsI64, cellsRect, List.drop, List.take] at h0 h1 h2
    obtain ⟨z0, z1, n', _, _, k0, k1⟩ := trod_struct2 Try.underlying113 h0
    simp only [cellsIntsE, List.drop, List.take] at k0 k1
    obtain ⟨ref, rfl⟩ := int_of_trodE h1
    obtain ⟨nsn, rfl⟩ := int_of_trodE h2
    obtain ⟨A1, n1, c1, x1, rfl, hx1, hn1⟩ := ints_of_trod k0
    obtain ⟨A2, n2, c2, x2, rfl, hx2, hn2⟩ := ints_of_trod k1
    exact ⟨⟨A1, n1, c1, A2, n2, c2, ref, nsn, x1, x2⟩, rfl, hx1, hx2, hn1, hn2⟩

set_option maxRecDepth 100000 in
theorem entries_of_trod {H : Type} {enc : TypeId × Value → H} {W : World} {fuel : Nat} {v : Value} {y : DataW H × List MemPlace}
    (h : DataW.trod enc Try.prog W 0 (fun _ => true) true fuel 22 [v] = some y) : ∃ A n c ps, v = .slice A n c ∧ Entries W A n ps ∧ n ≤ maxLen := by
  rcases open_slice Try.underlying22 h with ⟨hcs, _⟩ | ⟨a, len, cap, m, fu, D, Pl, hcs, _, hlc, hcm, hm, _, hx⟩
  · exact ⟨none, 0, 0, [], by simpa using hcs, ⟨rfl, fun h => absurd h (Nat.lt_irrefl 0), fun p hp => by simp at hp⟩, Nat.zero_le _⟩
  · have hml : len ≤ m := by rw [hm]; simp; exact hlc
    rw [cellsEntry] at hx
    have each : ∀ i, i < len → ∃ p : EV, W.cell? (a.add (i * 4)) = some (.slice p.A1 p.n1 p.c1) ∧ W.cell? (a.add (i * 4 + 1)) = some (.slice p.A2 p.n2 p.c2) ∧ W.cell? (a.add (i * 4 + 2)) = some (.int .i64 p.ref) ∧ W.cell? (a.add (i * 4 + 3)) = some (.int .i64 p.nsn) ∧ EntryOk W p := by
      intro i hi
      obtain ⟨cs', h1, h2⟩ := hx i (by omega)
      obtain ⟨_, hlen, hcell⟩ := World.cells?_some h1
      obtain ⟨p, rfl, hp⟩ := entry_of_cells hlen h2
      have e0 := hcell 0 (by omega)
      have e1 := hcell 1 (by omega)
      have e2 := hcell 2 (by omega)
      have e3 := hcell 3 (by omega)
      rw [add_add] at e0 e1 e2 e3
      exact ⟨p, by simpa using e0, by simpa using e1, by simpa using e2, by simpa using e3, hp⟩
    have : Inhabited EV := ⟨⟨none, 0, 0, none, 0, 0, 0, 0, [], []⟩⟩
    obtain ⟨f, hf⟩ := choose_lt each
    refine ⟨some a, len, cap, (List.range len).map f, by simpa using hcs, ⟨by simp, fun hp => ?_, fun p hp => ?_⟩, Nat.le_trans hlc hcm⟩
    · obtain ⟨b, off, spot⟩ := a
      have hspot : spot = none := by simpa [Addr.add] using World.cell?_spot (hf 0 hp).1
      subst hspot
      refine ⟨b, off, rfl, ?_, fun k p hk => ?_⟩
      · have h0 := (hf 0 hp).1
        rw [Go.WideShapes.add_plain] at h0
        exact block_lt_of_cell h0
      · have hk2 : k < len := by
          have := (List.getElem?_eq_some_iff.1 hk).1
          simpa using this
        have hfk : f k = p := by
          rw [List.getElem?_map, List.getElem?_range hk2] at hk
          simpa using hk
        obtain ⟨a0, a1, a2, a3, _⟩ := hf k hk2
        rw [Go.WideShapes.add_plain] at a0 a1 a2 a3
        rw [hfk] at a0 a1 a2 a3
        exact ⟨a0, a1, a2, a3⟩
    · obtain ⟨k, hk, rfl⟩ := List.mem_map.1 hp
      exact (hf k (List.mem_range.1 hk)).2.2.2.2

set_option maxRecDepth 100000 in
theorem node_of_trod {H : Type} {enc : TypeId × Value → H} {W : World} {base : Nat} {v : Value} {d : DataW H} {p : List MemPlace} (hv : Value.okWide Try.prog W .any base 24 v)
    (h : DataW.Trod enc Try.prog W 0 (fun _ => true) true 24 v d p) :
    ∃ lv ns rt A n c ps, v = .agg #[.int .i64 lv, .int .i64 ns, .int .i64 rt, .slice A n c] ∧ Entries W A n ps ∧ n ≤ maxLen := by
  obtain ⟨c0, c1, c2, c3, y0, y1, y2, y3, m, rfl, _, _, h0, h1, h2, h3⟩ := open_agg4 Try.underlying24 (by kernel_rfl) cellsNode hv h
  obtain ⟨lv, rfl⟩ := int_of_trodE h0
  obtain ⟨ns, rfl⟩ := int_of_trodE h1
  obtain ⟨rt, rfl⟩ := int_of_trodE h2
  obtain ⟨A, n, c, ps, rfl, hp, hn⟩ := entries_of_trod h3
  exact ⟨lv, ns, rt, A, n, c, ps, rfl, hp, hn⟩

set_option maxRecDepth 100000 in
theorem entry_of_trod {H : Type} {enc : TypeId × Value → H} {W : World} {base : Nat} {v : Value} {d : DataW H} {p : List MemPlace} (hv : Value.okWide Try.prog W .any base 115 v)
    (h : DataW.Trod enc Try.prog W 0 (fun _ => true) true 115 v d p) :
    ∃ A1 n1 c1 A2 n2 c2 ref nsn x1 x2, v = .agg #[.slice A1 n1 c1, .slice A2 n2 c2, .int .i64 ref, .int .i64 nsn] ∧ Ints W 0 A1 n1 x1 ∧ Ints W 0 A2 n2 x2 ∧ n1 ≤ maxLen ∧ n2 ≤ maxLen := by
  obtain ⟨cs, rfl, hsz⟩ := okWide_struct Try.underlying115 hv
  obtain ⟨fuel, hf⟩ := h
  obtain ⟨q, hq, ho⟩ := entry_of_cells (cs := cs.toList) (by have := hsz.trans cellsEntry; simpa using this) (by simpa [Value.cells] using hf)
  obtain rfl : cs = #[.slice q.A1 q.n1 q.c1, .slice q.A2 q.n2 q.c2, .int .i64 q.ref, .int .i64 q.nsn] := by cases cs; simp_all
  exact ⟨q.A1, q.n1, q.c1, q.A2, q.n2, q.c2, q.ref, q.nsn, q.x1, q.x2, rfl, ho.1, ho.2.1, ho.2.2.1, ho.2.2.2⟩

end Go.Proofs.Ytblhcnafoejahaa
