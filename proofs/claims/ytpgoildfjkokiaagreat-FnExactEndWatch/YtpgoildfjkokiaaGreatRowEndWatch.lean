/- FnExactEndWatchSaid: for every argument the law FnExactEndWatch returns true and its arguments read afterwards as before. No condition. -/
import Derived.Test.YtpgoildfjkokiaaGreatLawEndWatch
import Derived.Test.YtpgoildfjkokiaaGreatFrame6
import Derived.Test.YtpgoildfjkokiaaGreatFactA
import Derived.Test.YtpgoildfjkokiaaGreatFactB
import Derived.Test.YtpgoildfjkokiaaGreatFactC
import Derived.Test.YtpgoildfjkokiaaGreatFactD
namespace Go.Proofs.YtpgoildfjkokiaaGreat
open Go.ChangeShapes Go.WideShapes Go.ChangeAt Go.RowKit Go.Joins

set_option maxRecDepth 100000 in
theorem endWatch_holds_lifted (os : Os) (started : os.Started) (H : Type) (enc : TypeId × Value → H) :
    ReturnsInHanded {} Tryz.checked os 6 .any (Rows.fnExactEndWatchSpec.pre6 enc Tryz.prog Tryz.f6 Rows.fnExactEndWatchRow.domain false) (Rows.fnExactEndWatchSpec.post enc Tryz.prog Tryz.f6 false true false false) := by
  refine returnsInHanded_of_change (C := Tryz.checked) ownKnobTry started (by kernel_rfl) Tryz.func6
    (ChangeSpec.witness6 (enc := enc) (C := Tryz.checked) false ⟨#[], #[.agg #[.int .i64 0, .slice none 0 0, .slice none 0 0, .slice none 0 0], .int .i64 0], []⟩ 8 (by kernel_rfl) (by kernel_rfl) (by kernel_rfl) (by kernel_rfl)) ?_
  intro W base args ds gs before hval0 hW hcnd _
  have hval : ∀ (j : Nat) t v, Tryz.f6.params[j]? = some t → args[j]? = some v → Value.okWide Tryz.prog W .any base t v := hval0
  have hW' := hW
  obtain ⟨p, q, hA0, hV, rfl, hfz, hnd⟩ := hW
  have hA : DataW.TrodAll enc Tryz.prog W 0 (fun _ => true) true Tryz.f6.params.toList args.toList ds p := hA0
  rw [Tryz.params6] at hA hval
  obtain ⟨v0, vs0, d0, ds0, p0, q0, hargs, rfl, rfl, h0, r0⟩ := trodAll_cons hA
  obtain ⟨v1, vs1, d1, ds1, p1, q1, rfl, rfl, rfl, h1, r1⟩ := trodAll_cons r0
  obtain ⟨rfl, rfl, rfl⟩ := trodAll_nil r1
  obtain rfl : args = #[v0, v1] := by cases args; simp_all
  obtain ⟨rfl, rfl⟩ := trodVars_none hV
  have k0 := h0
  obtain ⟨dd0, A0, n0, c0, B0, m0, e0, C0, l0, f0, ns0, fs0, rs0, rfl, hx0⟩ := arena_of_trod (hval 0 38 v0 rfl rfl) h0
  obtain ⟨x1, rfl, rfl, rfl, w1⟩ := open_int Tryz.underlying2 (hval 1 2 v1 rfl rfl) h1
  clear hA0 hval0
  refine (lawEndWatch_walk dd0 n0 c0 m0 e0 l0 f0 A0 B0 C0 ns0 fs0 rs0 x1 W hx0).mono fun e W' ⟨he, bel⟩ => ?_
  subst he
  exact ⟨_, rfl, _, _, _, [], _, [], hW', trodAll_mk1 (shut_bool Tryz.underlying4 _), (trodAll_cons_mk (Below.trod laidOutTry (by kernel_rfl) (of_decide_eq_true (by kernel_rfl)) k0 bel (place_lt k0)) (trodAll_cons_mk (shut_int Tryz.underlying2 w1) trodAll_mk0)), rfl, bel.frame _, fun h => by cases h⟩

theorem and_both {a b : Bool} (h : a = true) (k : b = true) : (a && b) = true := by rw [h, k]; rfl
set_option maxHeartbeats 0 in
theorem endWatch_holds_closed : joinedFacts Tryz.pinned.checked.prog 6 Tryz.f6 Rows.fnExactEndWatchSpec Rows.fnExactEndWatchRow = true := by
  unfold joinedFacts
  repeat' (with_reducible refine and_both ?_ ?_)
  all_goals first | with_reducible exact fact_mayEnter | with_reducible exact fact_laid | with_reducible exact fact_rowed | with_reducible exact fact_heard | (with_reducible rw [fact_lifts]; as_aux_lemma => kernel_rfl) | (with_reducible rw [fact_made]; as_aux_lemma => kernel_rfl) | (with_reducible rw [fact_plain]; as_aux_lemma => kernel_rfl) | (as_aux_lemma => kernel_rfl)
set_option maxHeartbeats 0 in
theorem endWatch_holds : Rows.FnExactEndWatchSaid :=
  OpenClaim.holds_of_wide 6 Tryz.f6 rfl rfl rfl rfl rfl rfl rfl ⟨rfl, rfl, rfl, rfl, rfl⟩ rfl rfl rfl rfl rfl (by as_aux_lemma => kernel_rfl) Tryz.func6 endWatch_holds_closed
    (of_decide_eq_true (by as_aux_lemma => kernel_rfl)) (by as_aux_lemma => unfold Func.isWrapper; first | (rw [if_pos (by decide +kernel)]; kernel_rfl) | (rw [if_neg (by decide +kernel)]; exact ⟨rfl, rfl⟩))
    (fun os started H enc _ => endWatch_holds_lifted os started H enc)
#print axioms endWatch_holds

end Go.Proofs.YtpgoildfjkokiaaGreat
