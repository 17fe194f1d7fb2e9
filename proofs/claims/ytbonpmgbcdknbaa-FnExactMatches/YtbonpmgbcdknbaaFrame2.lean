/- The bridge between a row's reading of its arguments and the words of my walks, for queries. No condition. -/
import Derived.Test.YtbonpmgbcdknbaaFrame
namespace Go.Proofs.Ytbonpmgbcdknbaa
open Go.ChangeShapes Go.WideShapes Go.ChangeAt Go.RowKit Go.Joins

theorem cellsInts : Try.prog.cellsOf 29 = 1 := by kernel_rfl
theorem cellsQuery : Try.prog.cellsOf 55 = 5 := by kernel_rfl

theorem array5 {α : Type} {cs : Array α} (h : cs.size = 5) : ∃ c0 c1 c2 c3 c4, cs = #[c0, c1, c2, c3, c4] := by
  obtain ⟨l⟩ := cs
  match l, h with
  | [c0, c1, c2, c3, c4], _ => exact ⟨c0, c1, c2, c3, c4, rfl⟩

theorem int_of_trod {H : Type} {enc : TypeId × Value → H} {W : World} {fuel : Nat} {v : Value} {y : DataW H × List MemPlace}
    (h : DataW.trod enc Try.prog W 0 (fun _ => true) true fuel 2 [v] = some y) : ∃ x, v = .int .i64 x := by
  obtain ⟨a, e0, _, _⟩ := DataW.trod_int Try.underlying2 h
  exact ⟨a, by simpa using e0⟩

set_option maxRecDepth 100000 in
theorem query_of_trod {H : Type} {enc : TypeId × Value → H} {W : World} {base : Nat} {v : Value} {d : DataW H} {p : List MemPlace} (hv : Value.okWide Try.prog W .any base 55 v)
    (h : DataW.Trod enc Try.prog W 0 (fun _ => true) true 55 v d p) :
    ∃ kd A1 n1 c1 A2 n2 c2 A3 n3 c3 kk x1 x2 x3, v = .agg #[.int .i64 kd, .slice A1 n1 c1, .slice A2 n2 c2, .slice A3 n3 c3, .int .i64 kk] ∧ Ints W 0 A1 n1 x1 ∧ Ints W 0 A2 n2 x2 ∧ Ints W 0 A3 n3 x3 ∧ n1 ≤ maxLen ∧ n2 ≤ maxLen ∧ n3 ≤ maxLen := by
  obtain ⟨cs, rfl, hsz⟩ := okWide_struct Try.underlying55 hv
  obtain ⟨c0, c1, c2, c3, c4, rfl⟩ := array5 (hsz.trans cellsQuery)
  obtain ⟨fuel, hf⟩ := h
  obtain ⟨y0, y1, y2, y3, n, hx, _, h0, h1, h2, h3⟩ := trod_struct4 Try.underlying55 hf
  simp only [cellsI64, cellsRect, cellsInts, Value.cells, List.drop, List.take] at h0 h1 h2 h3
  obtain ⟨z0, z1, n', _, _, k0, k1⟩ := trod_struct2 Try.underlying41 h1
  simp only [cellsInts, List.drop, List.take] at k0 k1
  obtain ⟨kd, rfl⟩ := int_of_trod h0
  obtain ⟨kk, rfl⟩ := int_of_trod h3
  obtain ⟨A1, n1, e1, x1, rfl, hx1, hn1⟩ := ints_of_trod k0
  obtain ⟨A2, n2, e2, x2, rfl, hx2, hn2⟩ := ints_of_trod k1
  obtain ⟨A3, n3, e3, x3, rfl, hx3, hn3⟩ := ints_of_trod h2
  exact ⟨kd, A1, n1, e1, A2, n2, e2, A3, n3, e3, kk, x1, x2, x3, rfl, hx1, hx2, hx3, hn1, hn2, hn3⟩

end Go.Proofs.Ytbonpmgbcdknbaa
