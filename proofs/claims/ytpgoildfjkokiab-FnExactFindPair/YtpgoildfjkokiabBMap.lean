/- A map from numbers to boxes: what it is in memory, a look-up and a store. -/
import Derived.Test.YtpgoildfjkokiabCorners2
import Derived.Maps.Own
import Derived.Maps.OwnSet
import Derived.Maps.OwnOps
import Derived.Maps.Views
namespace Go.Proofs.Ytpgoildfjkokiab
open Go.RowKit Go.Maps

/-- A box's six numbers. -/
abbrev BoxN := Int × Int × Int × Int × Int × Int
def boxVal (b : BoxN) : Value := .agg #[.int .i64 b.1, .int .i64 b.2.1, .int .i64 b.2.2.1, .int .i64 b.2.2.2.1, .int .i64 b.2.2.2.2.1, .int .i64 b.2.2.2.2.2]
def boxDat (b : BoxN) : DataW Unit := .agg [.lit (.int .i64 b.1), .lit (.int .i64 b.2.1), .lit (.int .i64 b.2.2.1), .lit (.int .i64 b.2.2.2.1), .lit (.int .i64 b.2.2.2.2.1), .lit (.int .i64 b.2.2.2.2.2)]
/-- How a box reads: by its six numbers. -/
def boxElem : Value → Option (DataW Unit × List MemPlace)
  | .agg cs => match cs.toList with
    | [.int .i64 a, .int .i64 b, .int .i64 c, .int .i64 d, .int .i64 e, .int .i64 f] => some (boxDat (a, b, c, d, e, f), [])
    | _ => none
  | _ => none
theorem boxElem_val (b : BoxN) : boxElem (boxVal b) = some (boxDat b, []) := rfl
theorem boxElem_inv {v : Value} {b : BoxN} {ps : List MemPlace} (h : boxElem v = some (boxDat b, ps)) : v = boxVal b := by
  unfold boxElem at h
  split at h
  · rename_i cs
    split at h
    · rename_i a b' c d e f hcs
      injection h with h
      injection h with h _
      unfold boxDat at h
      simp only [DataW.agg.injEq, List.cons.injEq, DataW.lit.injEq, Lit.int.injEq, true_and, and_true] at h
      obtain ⟨h1, h2, h3, h4, h5, h6⟩ := h
      have e1 : cs = #[.int .i64 a, .int .i64 b', .int .i64 c, .int .i64 d, .int .i64 e, .int .i64 f] := by
        apply Array.toList_inj.1
        rw [hcs]
      rw [e1, h1, h2, h3, h4, h5, h6]; rfl
    · cases h
  · cases h
theorem key_lawB : Keyed Try.prog 2 := int_keyed Try.underlying2
theorem zero_boxB (w : World) : (zeroValue 54).run Try.prog w = .ok (boxVal (0, 0, 0, 0, 0, 0)) w := by kernel_rfl

/-- Block M is a map of at most k entries: f tells the box at a number. -/
def BMap (w : World) (M k : Nat) (f : Int → Option BoxN) : Prop :=
  ∃ D : DataW Unit, w.ownsMap Try.prog 2 boxElem M k D ∧ IsMap D ∧ ∀ id : Int, Maps.has D (.int .i64 id) = (f id).isSome ∧ D.atKey (.int .i64 id) (boxDat (0, 0, 0, 0, 0, 0)) = boxDat ((f id).getD (0, 0, 0, 0, 0, 0))
section
variable {w w' : World} {M k : Nat} {f : Int → Option BoxN}
theorem BMap.block (h : BMap w M k f) (hb : w'.heap[M]? = w.heap[M]?) : BMap w' M k f := by
  obtain ⟨D, ⟨es, clock, h1, h2⟩, h3⟩ := h
  exact ⟨D, ⟨es, clock, hb.trans h1, h2⟩, h3⟩
theorem BMap.inside (h : BMap w M k f) : M < w.heap.size := by
  obtain ⟨D, ⟨es, clock, h1, h2⟩, h3⟩ := h
  rcases Nat.lt_or_ge M w.heap.size with h' | h'
  · exact h'
  · exact absurd (h1.symm.trans (Array.getElem?_eq_none h')) (by simp)
theorem BMap.kept (h : BMap w M k f) (hb : Below w.heap.size w w') : BMap w' M k f := h.block (hb.block M h.inside)
theorem BMap.made (w : World) : BMap (w.alloc (.map #[] 0)) w.heap.size 0 (fun _ => none) :=
  ⟨.map [], World.ownsMap_made w _ _ _, ⟨[], rfl⟩, fun id => ⟨rfl, rfl⟩⟩
theorem BMap.look (h : BMap w M k f) {id : Int} (hid : (Lit.int .i64 id).wf = true) : (Instr.lookup 49 (.map (some M)) (.int .i64 id) true).run Try.prog w = .ok (.tuple #[boxVal ((f id).getD (0, 0, 0, 0, 0, 0)), .bool (f id).isSome]) w := by
  obtain ⟨D, h1, h2, h3⟩ := h
  obtain ⟨v, ps, hrun, hv⟩ := h1.look_ok key_lawB Try.underlying49 (zero_boxB w) (zd := boxDat (0, 0, 0, 0, 0, 0)) (zp := []) rfl (keyOf_int_mk Try.underlying2 hid)
  rw [hrun, (h3 id).1]
  rw [(h3 id).2] at hv
  rw [boxElem_inv hv]
theorem BMap.look0 (h : BMap w M k f) {id : Int} (hid : (Lit.int .i64 id).wf = true) : (Instr.lookup 49 (.map (some M)) (.int .i64 id) false).run Try.prog w = .ok (boxVal ((f id).getD (0, 0, 0, 0, 0, 0))) w := by
  obtain ⟨D, h1, h2, h3⟩ := h
  obtain ⟨v, ps, hrun, hv⟩ := h1.lookup key_lawB Try.underlying49 (zero_boxB w) (zd := boxDat (0, 0, 0, 0, 0, 0)) (zp := []) rfl (keyOf_int_mk Try.underlying2 hid)
  rw [(h3 id).2] at hv
  rw [hrun, boxElem_inv hv]
theorem BMap.store (h : BMap w M k f) (hk : k < maxLen) {id : Int} (hid : (Lit.int .i64 id).wf = true) (b : BoxN) : ∃ w', (Instr.mapUpdate 49 (.map (some M)) (.int .i64 id) (boxVal b)).run Try.prog w = .ok () w' ∧ BMap w' M (k + 1) (fun x => if x = id then some b else f x) ∧ w.grownBy w' (some M) := by
  obtain ⟨D, h1, h2, h3⟩ := h
  obtain ⟨w', hrun, r1, r2⟩ := h1.update key_lawB Try.underlying49 hk (keyOf_int_mk Try.underlying2 hid) (val := boxVal b) (d := boxDat b) (ps := []) rfl
  refine ⟨w', hrun, ⟨D.put (.int .i64 id) (boxDat b), r1, r1.isMap, fun x => ?_⟩, r2⟩
  by_cases hx : x = id
  · subst hx
    simp only [if_true]
    have hk' : WideAt.IsKeyLit (Lit.int .i64 x) := by trivial
    exact ⟨has_put_same h2 hk' _, atKey_put_same h2 hk' _ _⟩
  · simp only [if_neg hx]
    have hne : (Lit.int .i64 x) ≠ (Lit.int .i64 id) := fun e => hx (by injection e)
    rw [has_put_other hne, atKey_put_other hne]
    exact h3 x
end
/-- 's[id] = b' at the operation. -/
theorem wpList_bmap (w : World) {ops : Array Oper} {rest : List Oper} {o : Oper} {a : Act} {Q : Exit → Act → World → Prop} (hg : o.guard = none) (m x v : Operand) (hop : o.op = Op.mapUpdate 49 m x v) (M km : Nat) (f : Int → Option BoxN) (hm : a.eval m = .map (some M)) (hM : BMap w M km f) (hk : km < maxLen) (id : Int) (hx : a.eval x = .int .i64 id) (hid : (Lit.int .i64 id).wf = true) (b : BoxN) (hv : a.eval v = boxVal b)
    (hK : ∀ w', BMap w' M (km + 1) (fun x => if x = id then some b else f x) → w.grownBy w' (some M) → wpList Try.prog ops Q rest (a.put o.dst undef) w') : wpList Try.prog ops Q (o :: rest) a w := by
  refine wpList_plain hg fun K' hK' => ?_
  obtain ⟨w', hrun, r1, r2⟩ := hM.store hk hid b
  unfold Oper.wp
  simp [execOp, hop, hm, hx, hv, hrun, Result.andThen]
  exact hK' _ _ (hK w' r1 r2)

end Go.Proofs.Ytpgoildfjkokiab
