/- FnExactSameNodes: for every two lists of nodes impl.SameNodes answers as the model does and leaves its arguments alone. No condition. -/
import Derived.Test.YtmcdpcjbbmkhhaaSameNodes
namespace Go.Proofs.Ytmcdpcjbbmkhhaa
open Go.RowKit

theorem SmallN.mono {l l' : Int} {ps : List NV} (h : SmallN l ps) (hl : l ≤ l') : SmallN l' ps := fun k p hk => ⟨Int.le_trans (h k p hk).1 hl, (h k p hk).2.mono hl⟩

set_option maxHeartbeats 3200000 in
theorem lawSameNodes_walk (n c : Nat) (A : Option Addr) (ps : List NV) (n' c' : Nat) (A' : Option Addr) (qs : List NV) (w : World) (hp : NodesL w A n ps) (hn : n ≤ maxLen) (hq : NodesL w A' n' qs) (hn' : n' ≤ maxLen) :
    Calls Try.prog 9 #[.slice A n c, .slice A' n' c'] w fun e w' => e = .returned (.bool true) ∧ Below w.heap.size w w' := by
  have HP := Lib.hid hp
  have HQ := Lib.hid hq
  clear hp hq
  go_enter Try.func9, Try.ntmps9
  go_wp2_with fail
  refine (szNodeS_any 1048576 _ _ _ ps _ HP.out hn (by decide) (by decide)).mono ?_
  rintro e W1 ⟨r, rfl, hr, b1⟩
  have B := Lib.hid b1
  clear b1
  rcases hr with rfl | ⟨r0, r1, hn1, hs⟩
  · go_wp2
    go_ret
    exact ⟨rfl, B.out⟩
  have HS := Lib.hid hs
  clear hs
  have hr0 : ¬ r < 0 := by omega
  go_wp2_with fail
  refine (szNodeS_any r _ _ _ qs _ (HQ.out.kept B.out) hn' r0 r1).mono ?_
  rintro e W2 ⟨r2, rfl, hr2, b2⟩
  replace B := Lib.hid (B.out.trans (b2.mono B.out.size))
  clear b2
  rcases hr2 with rfl | ⟨s0, s1, hn2, hs2⟩
  · go_wp2
    go_ret
    exact ⟨rfl, B.out⟩
  have HS2 := Lib.hid (hs2.mono r1)
  clear hs2
  have hs0 : ¬ r2 < 0 := by omega
  clear hr0
  go_wp2_with fail
  refine (toNodeS_any _ _ _ ps _ (HP.out.kept B.out) (by omega) HS.out).mono ?_
  rintro e W3 ⟨ga, ta, rfl, hga, oa, la, va, b3⟩
  replace B := Lib.hid (B.out.trans (b3.mono B.out.size))
  clear b3
  have Oa := Lib.hid oa
  have Va := Lib.hid va
  have La := Lib.hid la
  clear oa va la hga
  go_wp2_with fail
  refine (toNodeS_any _ _ _ qs _ (HQ.out.kept B.out) (by omega) HS2.out).mono ?_
  rintro e W4 ⟨gb, tb, rfl, hgb, ob, lb, vb, b4⟩
  replace Oa := Lib.hid (Oa.out.kept b4)
  replace B := Lib.hid (B.out.trans (b4.mono B.out.size))
  clear b4
  have Ob := Lib.hid ob
  have Vb := Lib.hid vb
  have Lb := Lib.hid lb
  clear ob vb lb hgb
  go_wp2_with fail
  refine (specSameNodes_any _ _ _ _ _ _ ta tb _ (Oa.out.nodes La.out) (Ob.out.nodes Lb.out) hn hn').mono ?_
  rintro e W5 ⟨rfl, b5⟩
  replace Oa := Lib.hid (Oa.out.kept b5)
  replace Ob := Lib.hid (Ob.out.kept b5)
  replace B := Lib.hid (B.out.trans (b5.mono B.out.size))
  clear b5
  rw [sameL_congr Va.out Vb.out]
  clear Oa Va La
  clear Ob Vb Lb
  go_wp2_with fail
  refine (toNodeS_any _ _ _ ps _ (HP.out.kept B.out) (by omega) HS.out).mono ?_
  rintro e W6 ⟨gc, tc, rfl, hgc, oc, lc, vc, b6⟩
  replace B := Lib.hid (B.out.trans (b6.mono B.out.size))
  clear b6
  have Oc := Lib.hid oc
  have Vc := Lib.hid vc
  have Lc := Lib.hid lc
  clear oc vc lc hgc
  go_wp2_with fail
  refine (toNodeS_any _ _ _ qs _ (HQ.out.kept B.out) (by omega) HS2.out).mono ?_
  rintro e W7 ⟨gd, td, rfl, hgd, od, ld, vd, b7⟩
  replace Oc := Lib.hid (Oc.out.kept b7)
  replace B := Lib.hid (B.out.trans (b7.mono B.out.size))
  clear b7
  have Od := Lib.hid od
  have Vd := Lib.hid vd
  have Ld := Lib.hid ld
  clear od vd ld hgd
  go_wp2_with fail
  refine (implSameNodes_any _ _ _ _ _ _ tc td _ (Oc.out.nodes Lc.out) (Od.out.nodes Ld.out) hn hn').mono ?_
  rintro e W8 ⟨rfl, b8⟩
  replace Oc := Lib.hid (Oc.out.kept b8)
  replace Od := Lib.hid (Od.out.kept b8)
  replace B := Lib.hid (B.out.trans (b8.mono B.out.size))
  clear b8
  rw [sameL_congr Vc.out Vd.out]
  generalize hval : sameL NV.val ps qs = val at *
  clear hval
  have hpv : (val != val) = false := by cases val <;> rfl
  go_wp2_with fail
  refine (toNodeS_any _ _ _ ps _ (HP.out.kept B.out) (by omega) HS.out).mono ?_
  rintro e W9 ⟨ge, te, rfl, hge, oe, le, ve, b9⟩
  replace Oc := Lib.hid (Oc.out.kept b9)
  replace Od := Lib.hid (Od.out.kept b9)
  replace B := Lib.hid (B.out.trans (b9.mono B.out.size))
  clear b9
  have Oe := Lib.hid oe
  have Ve := Lib.hid ve
  have Le := Lib.hid le
  clear oe ve le hge
  go_wp2_with fail
  refine (eqNodeS_same _ _ _ _ _ tc te _ (Oc.out.nodes Lc.out) (Oe.out.nodes Le.out) (Vc.out.trans Ve.out.symm) hn).mono ?_
  rintro e W10 ⟨rfl, b10⟩
  replace Oc := Lib.hid (Oc.out.kept b10)
  replace Od := Lib.hid (Od.out.kept b10)
  replace Oe := Lib.hid (Oe.out.kept b10)
  replace B := Lib.hid (B.out.trans (b10.mono B.out.size))
  clear b10
  clear Oc Vc Lc
  clear Oe Ve Le
  go_wp2_with fail
  refine (toNodeS_any _ _ _ qs _ (HQ.out.kept B.out) (by omega) HS2.out).mono ?_
  rintro e W11 ⟨gf, tf, rfl, hgf, of, lf, vf, b11⟩
  replace Od := Lib.hid (Od.out.kept b11)
  replace B := Lib.hid (B.out.trans (b11.mono B.out.size))
  clear b11
  have Of := Lib.hid of
  have Vf := Lib.hid vf
  have Lf := Lib.hid lf
  clear of vf lf hgf
  go_wp2_with fail
  refine (eqNodeS_same _ _ _ _ _ td tf _ (Od.out.nodes Ld.out) (Of.out.nodes Lf.out) (Vd.out.trans Vf.out.symm) hn').mono ?_
  rintro e W12 ⟨rfl, b12⟩
  replace Od := Lib.hid (Od.out.kept b12)
  replace Of := Lib.hid (Of.out.kept b12)
  replace B := Lib.hid (B.out.trans (b12.mono B.out.size))
  clear b12
  go_wp2
  go_ret
  exact ⟨rfl, B.out⟩

end Go.Proofs.Ytmcdpcjbbmkhhaa
