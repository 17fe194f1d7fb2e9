/- The bridge between a row's reading of its arguments and the words of my walks, for trees. No condition. -/
import Derived.Test.YtdkaofmlgaofgaaFrame6
namespace Go.Proofs.Ytdkaofmlgaofgaa
open Go.ChangeShapes Go.WideShapes Go.ChangeAt Go.RowKit Go.Joins Go.Deep

theorem cellsTree : Try.prog.cellsOf 28 = 8 := by kernel_rfl
theorem cellsNodesT : Try.prog.cellsOf 22 = 1 := by kernel_rfl
theorem cellsIntsT : Try.prog.cellsOf 23 = 1 := by kernel_rfl
theorem cellsRetsT : Try.prog.cellsOf 24 = 1 := by kernel_rfl
theorem array8 {α : Type} {cs : Array α} (h : cs.size = 8) : ∃ c0 c1 c2 c3 c4 c5 c6 c7, cs = #[c0, c1, c2, c3, c4, c5, c6, c7] := by
  obtain ⟨l⟩ := cs
  match l, h with
  | [c0, c1, c2, c3, c4, c5, c6, c7], _ => exact ⟨c0, c1, c2, c3, c4, c5, c6, c7, rfl⟩
theorem trod_struct5 {H : Type} {enc : TypeId × Value → H} {P : Program} {w : World} {base : Nat} {spare : Nat → Bool} {held : Bool} {t : TypeId} {f0 f1 f2 f3 f4 : Field} {fuel : Nat} {cs : List Value} {x : DataW H × List MemPlace} (ht : P.underlying t = some (.struct #[f0, f1, f2, f3, f4])) (h : DataW.trod enc P w base spare held fuel t cs = some x) :
    ∃ y0 y1 y2 y3 y4 n, DataW.trod enc P w base spare held n f0.type ((cs.drop f0.offset).take (P.cellsOf f0.type)) = some y0 ∧
      DataW.trod enc P w base spare held n f1.type ((cs.drop f1.offset).take (P.cellsOf f1.type)) = some y1 ∧ DataW.trod enc P w base spare held n f2.type ((cs.drop f2.offset).take (P.cellsOf f2.type)) = some y2 ∧
      DataW.trod enc P w base spare held n f3.type ((cs.drop f3.offset).take (P.cellsOf f3.type)) = some y3 ∧ DataW.trod enc P w base spare held n f4.type ((cs.drop f4.offset).take (P.cellsOf f4.type)) = some y4 := by
  obtain ⟨xs, n, _, rfl, hl, hlen, hf⟩ := DataW.trod_struct ht h
  match xs, hlen with
  | [y0, y1, y2, y3, y4], _ => exact ⟨y0, y1, y2, y3, y4, n, by simpa using hf 0 f0 rfl, by simpa using hf 1 f1 rfl, by simpa using hf 2 f2 rfl, by simpa using hf 3 f3 rfl, by simpa using hf 4 f4 rfl⟩

set_option maxRecDepth 100000 in
theorem tree_of_trod {H : Type} {enc : TypeId × Value → H} {W : World} {base : Nat} {v : Value} {d : DataW H} {p : List MemPlace} (hv : Value.okWide Try.prog W .any base 28 v)
    (h : DataW.Trod enc Try.prog W 0 (fun _ => true) true 28 v d p) :
    ∃ st dd A1 n1 c1 A2 n2 c2 A3 n3 c3 rt rn ct ns fs rs, v = .agg #[.int .i64 st, .int .i64 dd, .slice A1 n1 c1, .slice A2 n2 c2, .slice A3 n3 c3, .int .i64 rt, .int .i64 rn, .int .i64 ct] ∧ ArenaL W A1 A2 A3 n1 n2 n3 ns fs rs := by
  obtain ⟨cs, rfl, hsz⟩ := okWide_struct Try.underlying28 hv
  obtain ⟨c0, c1, c2, c3, c4, c5, c6, c7, rfl⟩ := array8 (hsz.trans cellsTree)
  obtain ⟨fuel, hf⟩ := h
  obtain ⟨y0, y1, y2, y3, y4, n, h0, h1, h2, h3, h4⟩ := trod_struct5 Try.underlying28 hf
  simp only [cellsI64, cellsArena, Value.cells, List.drop, List.take] at h0 h1 h2 h3 h4
  obtain ⟨z0, z1, z2, z3, n', _, _, k0, k1, k2, k3⟩ := trod_struct4 Try.underlying26 h1
  simp only [cellsI64, cellsNodesT, cellsIntsT, cellsRetsT, List.drop, List.take] at k0 k1 k2 k3
  obtain ⟨st, rfl⟩ := int_of_trodE h0
  obtain ⟨rt, rfl⟩ := int_of_trodE h2
  obtain ⟨rn, rfl⟩ := int_of_trodE h3
  obtain ⟨ct, rfl⟩ := int_of_trodE h4
  obtain ⟨dd, rfl⟩ := int_of_trodE k0
  obtain ⟨A1, n1, d1, ns, rfl, q1, m1⟩ := nodes_of_trod k1
  obtain ⟨A2, n2, d2, fs, rfl, q2, m2⟩ := ints_of_trod k2
  obtain ⟨A3, n3, d3, rs, rfl, q3, m3⟩ := rets_of_trod k3
  exact ⟨st, dd, A1, n1, d1, A2, n2, d2, A3, n3, d3, rt, rn, ct, ns, fs, rs, rfl, q1, q2, q3, m1, m2, m3⟩

end Go.Proofs.Ytdkaofmlgaofgaa
