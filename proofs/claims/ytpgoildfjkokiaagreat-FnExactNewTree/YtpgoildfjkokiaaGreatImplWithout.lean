/- The laws' helpers on an answer that is a node: markNode, markNodeResult, heldNode, heldNodeResult, eqNodeResult. -/
import Derived.Test.YtpgoildfjkokiaaGreatMarkRes
import Derived.Test.YtpgoildfjkokiaaGreatWithout
namespace Go.Proofs.YtpgoildfjkokiaaGreat
open Go.RowKit

theorem EntriesRes.nil (w : World) (base : Nat) : EntriesRes w base none 0 0 [] := ⟨⟨rfl, Or.inl ⟨rfl, rfl⟩⟩, fun q hq => by simp at hq, List.nodup_nil, fun g h => by simp [Value.ownBlock] at h⟩
theorem EntriesRes.small {w : World} {base n c : Nat} {A : Option Addr} {qs : List EV} (h : EntriesRes w base A n c qs) : ∀ q ∈ qs, q.n1 ≤ 3 ∧ q.n2 ≤ 3 := fun q hq => by obtain ⟨_, _, _, _, _, _, a5, a6, _⟩ := h.C q hq; exact ⟨a5, a6⟩
/-- All its blocks lie below the heap's end. -/
theorem EntriesRes.bound {w : World} {base n c : Nat} {A : Option Addr} {qs : List EV} (h : EntriesRes w base A n c qs) : (∀ x ∈ coords qs, x < w.heap.size) ∧ ∀ g, (Value.slice A n c).ownBlock = some g → g < w.heap.size := by
  refine ⟨fun x hx => (h.C.inside x hx).2, fun g hg => ?_⟩
  obtain ⟨hl, h1⟩ := h.S
  rcases h1 with ⟨e, _⟩ | ⟨g', cap, cur, e, h2, h3, _⟩
  · rw [e] at hg; simp [Value.ownBlock] at hg
  · rw [e] at hg
    simp only [Value.ownBlock, Option.some.injEq] at hg
    subst hg
    rcases Nat.lt_or_ge g' w.heap.size with h' | h'
    · exact h'
    · exact absurd (h3.symm.trans (Array.getElem?_eq_none h')) (by simp)

set_option maxHeartbeats 800000 in
theorem markNodeR_any (k0 lv ns rt : Int) (n c base hi : Nat) (A : Option Addr) (qs : List EV) (w : World) (ho : EntriesRes w base A n c qs) (hh : ∀ x ∈ coords qs, x < hi) (hg : ∀ g, (Value.slice A n c).ownBlock = some g → g < hi) (h0 : 0 ≤ k0) (h1 : k0 ≤ 1048576) (hn : n ≤ 1048576) :
    Calls Tryz.prog 56 #[.agg #[.int .i64 lv, .int .i64 ns, .int .i64 rt, .slice A n c], .int .i64 k0] w fun e w' => ∃ qs', e = .returned (.int .i64 (k0 + sumK qs')) ∧ EntriesRes w' base A n c qs' ∧ MarkedTo k0 qs' n ∧ Turned (fun x => base ≤ x ∧ x < hi) w w' := by
  have HO := Lib.hid ho
  have HH := Lib.hid hh
  have HG := Lib.hid hg
  clear ho hh hg
  have B := Lib.hid (below_alloc w (.cells #[.int .i64 lv, .int .i64 ns, .int .i64 rt, .slice A n c] 42))
  go_enter Tryz.func56, Tryz.ntmps56
  go_wp2_with fail
  refine (markRes_any k0 n c base hi A qs _ (HO.out.kept B.out) HH.out HG.out h0 h1 hn).mono ?_
  rintro e W1 ⟨qs', rfl, o1, m1, t1⟩
  have T := Lib.hid ((Turned.of_below B.out).trans t1)
  have O := Lib.hid o1
  have M := Lib.hid m1
  clear t1 o1 m1
  go_wp2
  go_ret
  exact ⟨qs', rfl, O.out, M.out, T.out⟩
set_option maxHeartbeats 800000 in
theorem markNodeResult_any (k0 cd lv ns rt : Int) (n c base hi : Nat) (A : Option Addr) (qs : List EV) (w : World) (ho : EntriesRes w base A n c qs) (hh : ∀ x ∈ coords qs, x < hi) (hg : ∀ g, (Value.slice A n c).ownBlock = some g → g < hi) (h0 : 0 ≤ k0) (h1 : k0 ≤ 1048576) (hn : n ≤ 1048576) :
    Calls Tryz.prog 19 #[.agg #[.int .i64 cd, .int .i64 lv, .int .i64 ns, .int .i64 rt, .slice A n c], .int .i64 k0] w fun e w' => ∃ qs', e = .returned (.int .i64 (k0 + sumK qs')) ∧ EntriesRes w' base A n c qs' ∧ MarkedTo k0 qs' n ∧ Turned (fun x => base ≤ x ∧ x < hi) w w' := by
  have HO := Lib.hid ho
  have HH := Lib.hid hh
  have HG := Lib.hid hg
  clear ho hh hg
  have B := Lib.hid (below_alloc w (.cells #[.int .i64 cd, .int .i64 lv, .int .i64 ns, .int .i64 rt, .slice A n c] 44))
  go_enter Tryz.func19, Tryz.ntmps19
  go_wp2_with fail
  refine (markNodeR_any k0 _ _ _ n c base hi A qs _ (HO.out.kept B.out) HH.out HG.out h0 h1 hn).mono ?_
  rintro e W1 ⟨qs', rfl, o1, m1, t1⟩
  have T := Lib.hid ((Turned.of_below B.out).trans t1)
  have O := Lib.hid o1
  have M := Lib.hid m1
  clear t1 o1 m1
  go_wp2
  go_ret
  exact ⟨qs', rfl, O.out, M.out, T.out⟩

set_option maxHeartbeats 800000 in
theorem heldNode_any (k0 lv ns rt : Int) (n c : Nat) (A : Option Addr) (qs : List EV) (w : World) (hp : Entries w A n qs) (hm : MarkedTo k0 qs n) (h0 : 0 ≤ k0) (h1 : k0 ≤ 1048576) (hn : n ≤ 1048576) (hs : ∀ q ∈ qs, q.n1 ≤ 3 ∧ q.n2 ≤ 3) :
    Calls Tryz.prog 57 #[.agg #[.int .i64 lv, .int .i64 ns, .int .i64 rt, .slice A n c], .int .i64 k0] w fun e w' => e = .returned (.int .i64 (k0 + sumK qs)) ∧ Below w.heap.size w w' := by
  have HP := Lib.hid hp
  have HM := Lib.hid hm
  have HS := Lib.hid hs
  have hpos : ¬ (k0 + sumK qs < 0) := by have := (small_sum hs).1; omega
  clear hp hm hs
  have B := Lib.hid (below_alloc w (.cells #[.int .i64 lv, .int .i64 ns, .int .i64 rt, .slice A n c] 42))
  go_enter Tryz.func57, Tryz.ntmps57
  go_wp2_with fail
  refine (heldEntryS_any k0 n c A qs _ (HP.out.kept B.out) HM.out h0 h1 hn HS.out).mono ?_
  rintro e W1 ⟨rfl, b1⟩
  replace B := Lib.hid (B.out.trans (b1.mono B.out.size))
  clear b1
  go_wp2
  go_ret
  exact ⟨rfl, B.out⟩
set_option maxHeartbeats 800000 in
theorem heldNodeResult_any (k0 cd lv ns rt : Int) (n c : Nat) (A : Option Addr) (qs : List EV) (w : World) (hp : Entries w A n qs) (hm : MarkedTo k0 qs n) (h0 : 0 ≤ k0) (h1 : k0 ≤ 1048576) (hn : n ≤ 1048576) (hs : ∀ q ∈ qs, q.n1 ≤ 3 ∧ q.n2 ≤ 3) :
    Calls Tryz.prog 20 #[.agg #[.int .i64 cd, .int .i64 lv, .int .i64 ns, .int .i64 rt, .slice A n c], .int .i64 k0] w fun e w' => e = .returned (.int .i64 (k0 + sumK qs)) ∧ Below w.heap.size w w' := by
  have HP := Lib.hid hp
  have HM := Lib.hid hm
  have HS := Lib.hid hs
  have hpos : ¬ (k0 + sumK qs < 0) := by have := (small_sum hs).1; omega
  clear hp hm hs
  have B := Lib.hid (below_alloc w (.cells #[.int .i64 cd, .int .i64 lv, .int .i64 ns, .int .i64 rt, .slice A n c] 44))
  go_enter Tryz.func20, Tryz.ntmps20
  go_wp2_with fail
  refine (heldNode_any k0 _ _ _ n c A qs _ (HP.out.kept B.out) HM.out h0 h1 hn HS.out).mono ?_
  rintro e W1 ⟨rfl, b1⟩
  replace B := Lib.hid (B.out.trans (b1.mono B.out.size))
  clear b1
  go_wp2
  go_ret
  exact ⟨rfl, B.out⟩

set_option maxHeartbeats 1600000 in
theorem eqNodeResult_same (cd lv ns rt : Int) (n c c' : Nat) (A A' : Option Addr) (ps qs : List EV) (w : World) (hp : Entries w A n ps) (hq : Entries w A' n qs) (hv : ps.map EV.val = qs.map EV.val) (hn : n ≤ maxLen) :
    Calls Tryz.prog 16 #[.agg #[.int .i64 cd, .int .i64 lv, .int .i64 ns, .int .i64 rt, .slice A n c], .agg #[.int .i64 cd, .int .i64 lv, .int .i64 ns, .int .i64 rt, .slice A' n c']] w fun e w' => e = .returned (.bool true) ∧ Below w.heap.size w w' := by
  have e1 : (cd != cd) = false := by simp
  have HP := Lib.hid hp
  have HQ := Lib.hid hq
  have HV := Lib.hid hv
  clear hp hq hv
  have B := Lib.hid (below_alloc w (.cells #[.int .i64 cd, .int .i64 lv, .int .i64 ns, .int .i64 rt, .slice A n c] 44))
  replace B := Lib.hid (B.out.alloc B.out.size (.cells #[.int .i64 cd, .int .i64 lv, .int .i64 ns, .int .i64 rt, .slice A' n c'] 44))
  go_enter Tryz.func16, Tryz.ntmps16
  go_wp2_with fail
  refine (eqNode_same _ _ _ _ _ _ _ _ ps qs _ (HP.out.kept B.out) (HQ.out.kept B.out) HV.out hn).mono ?_
  rintro e W1 ⟨rfl, b1⟩
  replace B := Lib.hid (B.out.trans (b1.mono B.out.size))
  clear b1
  go_wp2
  go_ret
  exact ⟨rfl, B.out⟩

end Go.Proofs.YtpgoildfjkokiaaGreat

/- The walk of impl.WithoutEntry. No condition but the length. -/
namespace Go.Proofs.YtpgoildfjkokiaaGreat
open Go.RowKit

/-- An answer that is a node: with a code that is not 0 all else is zero. -/
def nrOf (cd lv ns rt : Int) (vs : List EVal) : Int × Int × Int × Int × List EVal := if cd = 0 then (0, lv, ns, rt, vs) else (cd, 0, 0, 0, [])
theorem nrOf_no {cd lv ns rt : Int} {vs : List EVal} (h : cd ≠ 0) : nrOf cd lv ns rt vs = (cd, 0, 0, 0, []) := by unfold nrOf; rw [if_neg h]
theorem nrOf_yes {cd lv ns rt : Int} {vs : List EVal} (h : cd = 0) : nrOf cd lv ns rt vs = (0, lv, ns, rt, vs) := by unfold nrOf; rw [if_pos h]
/-- What WithoutEntry answers. -/
def withoutR (lv ns rt : Int) (vs : List EVal) (d r : Int) : Int × Int × Int × Int × List EVal := nrOf (efC (nodeF lv ns rt vs d) (findE r vs)) lv ns rt (vs.eraseIdx (findE r vs).toNat)
/-- The answer R lies in memory, and owns its rows. -/
def ResPost (R : Int × Int × Int × Int × List EVal) (w : World) (e : Ending) (w' : World) : Prop :=
  ∃ A' n' c' qs, e = .returned (.agg #[.int .i64 R.1, .int .i64 R.2.1, .int .i64 R.2.2.1, .int .i64 R.2.2.2.1, .slice A' n' c']) ∧ EntriesRes w' w.heap.size A' n' c' qs ∧ qs.map EV.val = R.2.2.2.2 ∧ n' ≤ 6 ∧ Below w.heap.size w w'


end Go.Proofs.YtpgoildfjkokiaaGreat
