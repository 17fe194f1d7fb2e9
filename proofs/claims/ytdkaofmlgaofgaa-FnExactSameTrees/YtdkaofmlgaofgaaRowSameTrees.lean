/- FnExactSameTreesSaid: for every argument the law FnExactSameTrees returns true and its arguments read afterwards as before. No condition. -/
import Derived.Test.YtdkaofmlgaofgaaLawSameTrees
import Derived.Test.YtdkaofmlgaofgaaFrame
import Derived.Test.YtdkaofmlgaofgaaFrame7
namespace Go.Proofs.Ytdkaofmlgaofgaa
open Go.ChangeShapes Go.WideShapes Go.ChangeAt Go.RowKit Go.Joins

set_option maxRecDepth 100000 in
theorem sameTrees_holds_lifted (os : Os) (started : os.Started) (H : Type) (enc : TypeId × Value → H) :
    ReturnsInHanded {} Try.checked os 3 .any (Rows.fnExactSameTreesSpec.pre6 enc Try.prog Try.f3 Rows.fnExactSameTreesRow.domain false) (Rows.fnExactSameTreesSpec.post enc Try.prog Try.f3 false true false false) := by
  refine returnsInHanded_of_change (C := Try.checked) ownKnobTry started (by kernel_rfl) Try.func3
    (ChangeSpec.witness6 (enc := enc) (C := Try.checked) false ⟨#[], #[.agg #[.int .i64 0, .int .i64 0, .slice none 0 0, .slice none 0 0, .slice none 0 0, .int .i64 0, .int .i64 0, .int .i64 0], .agg #[.int .i64 0, .int .i64 0, .slice none 0 0, .slice none 0 0, .slice none 0 0, .int .i64 0, .int .i64 0, .int .i64 0]], []⟩ 8 (by kernel_rfl) (by kernel_rfl) (by kernel_rfl) (by kernel_rfl)) ?_
  intro W base args ds gs before hval0 hW hcnd _
  have hval : ∀ (j : Nat) t v, Try.f3.params[j]? = some t → args[j]? = some v → Value.okWide Try.prog W .any base t v := hval0
  have hW' := hW
  obtain ⟨p, q, hA0, hV, rfl, hfz, hnd⟩ := hW
  have hA : DataW.TrodAll enc Try.prog W 0 (fun _ => true) true Try.f3.params.toList args.toList ds p := hA0
  rw [Try.params3] at hA hval
  obtain ⟨v0, vs0, d0, ds0, p0, q0, hargs, rfl, rfl, h0, r0⟩ := trodAll_cons hA
  obtain ⟨v1, vs1, d1, ds1, p1, q1, rfl, rfl, rfl, h1, r1⟩ := trodAll_cons r0
  obtain ⟨rfl, rfl, rfl⟩ := trodAll_nil r1
  obtain rfl : args = #[v0, v1] := by cases args; simp_all
  obtain ⟨rfl, rfl⟩ := trodVars_none hV
  have k0 := h0
  obtain ⟨st0, dd0, A0, n0, c0, B0, m0, e0, C0, l0, f0, rt0, rn0, ct0, ns0, fs0, rs0, rfl, hx0⟩ := tree_of_trod (hval 0 28 v0 rfl rfl) h0
  have k1 := h1
  obtain ⟨st1, dd1, A1, n1, c1, B1, m1, e1, C1, l1, f1, rt1, rn1, ct1, ns1, fs1, rs1, rfl, hx1⟩ := tree_of_trod (hval 1 28 v1 rfl rfl) h1
  clear hA0 hval0
  refine (lawSameTrees_walk st0 dd0 rt0 rn0 ct0 n0 c0 m0 e0 l0 f0 A0 B0 C0 ns0 fs0 rs0 st1 dd1 rt1 rn1 ct1 n1 c1 m1 e1 l1 f1 A1 B1 C1 ns1 fs1 rs1 W hx0 hx1).mono fun e W' ⟨he, bel⟩ => ?_
  subst he
  exact ⟨_, rfl, _, _, _, [], _, [], hW', trodAll_mk1 (shut_bool Try.underlying4 _), (trodAll_cons_mk (Below.trod laidOutTry (by kernel_rfl) (of_decide_eq_true (by kernel_rfl)) k0 bel (place_lt k0)) (trodAll_cons_mk (Below.trod laidOutTry (by kernel_rfl) (of_decide_eq_true (by kernel_rfl)) k1 bel (place_lt k1)) trodAll_mk0)), rfl, bel.frame _, fun h => by cases h⟩

theorem sameTrees_holds : Rows.FnExactSameTreesSaid :=
  OpenClaim.holds_of_wide 3 Try.f3 rfl rfl rfl rfl rfl rfl rfl ⟨rfl, rfl, rfl, rfl, rfl⟩ rfl rfl rfl rfl rfl (by kernel_rfl) Try.func3 (by kernel_rfl)
    (of_decide_eq_true (by kernel_rfl)) (by unfold Func.isWrapper; first | (rw [if_pos (by decide +kernel)]; kernel_rfl) | (rw [if_neg (by decide +kernel)]; exact ⟨rfl, rfl⟩))
    (fun os started H enc _ => sameTrees_holds_lifted os started H enc)
#print axioms sameTrees_holds

end Go.Proofs.Ytdkaofmlgaofgaa
