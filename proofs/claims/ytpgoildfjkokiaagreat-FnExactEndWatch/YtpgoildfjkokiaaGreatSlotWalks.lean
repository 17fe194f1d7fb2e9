/- What is wrong with an arena, said plainly. -/
import Derived.Test.YtpgoildfjkokiaaGreatArenas
import Derived.Test.YtpgoildfjkokiaaGreatSpecNode
import Derived.Test.YtpgoildfjkokiaaGreatSame
import Derived.Test.YtpgoildfjkokiaaGreatSameNodes
import Derived.Test.YtpgoildfjkokiaaGreatHolder
namespace Go.Proofs.YtpgoildfjkokiaaGreat
open Go.RowKit

theorem allIn_true {l h : Int} {xs : List Int} (hp : ∀ (j : Nat) (x : Int), xs[j]? = some x → l ≤ x ∧ x ≤ h) : allIn l h xs = true := by
  unfold allIn
  rw [List.all_eq_true]
  intro x hx
  obtain ⟨j, hj⟩ := List.getElem?_of_mem hx
  have := hp j x hj
  simp [this.1, this.2]
theorem allIn_get {l h : Int} {xs : List Int} (hp : allIn l h xs = true) {k : Nat} {x : Int} (hk : xs[k]? = some x) : l ≤ x ∧ x ≤ h := by
  unfold allIn at hp
  rw [List.all_eq_true] at hp
  have := hp x (List.mem_of_getElem? hk)
  simpa using this

/-- What is wrong with those who watch. -/
def watchF (ws : List Int) : Int := if 4 < ws.length then 2 else if allIn 0 3 ws then (if risesL ws then 0 else 1) else 3
theorem watchF_many {ws : List Int} (h : 4 < ws.length) : watchF ws = 2 := by unfold watchF; rw [if_pos h]
theorem watchF_out {ws : List Int} (h : ¬ 4 < ws.length) (h2 : allIn 0 3 ws = false) : watchF ws = 3 := by unfold watchF; rw [if_neg h, h2]; rfl
theorem watchF_in {ws : List Int} (h : ¬ 4 < ws.length) (h2 : allIn 0 3 ws = true) : watchF ws = if risesL ws then 0 else 1 := by unfold watchF; rw [if_neg h, h2]; rfl

/-- What an empty node says. -/
def vacV : NVal := (0, 0, -1, [])
def vacAt (ns : List NVal) (x : Int) : Bool := (ns[x.toNat]?).any fun v => decide (v = vacV)
theorem vacAt_is {ns : List NVal} {k : Nat} {v : NVal} (h : ns[k]? = some v) : vacAt ns (k : Int) = decide (v = vacV) := by
  unfold vacAt
  rw [Int.toNat_natCast, h]; rfl
/-- What is wrong with the free places. -/
def freeF (ns : List NVal) (fs : List Int) : Int :=
  if allIn 0 ((ns.length : Int) - 1) fs then (if risesL fs && fs.all (vacAt ns) then 0 else 1) else 3
theorem freeF_out {ns : List NVal} {fs : List Int} (h : allIn 0 ((ns.length : Int) - 1) fs = false) : freeF ns fs = 3 := by unfold freeF; rw [h]; rfl
theorem freeF_fall {ns : List NVal} {fs : List Int} (h : allIn 0 ((ns.length : Int) - 1) fs = true) (h2 : risesL fs = false) : freeF ns fs = 1 := by unfold freeF; rw [h, h2]; rfl
theorem freeF_full {ns : List NVal} {fs : List Int} (h : allIn 0 ((ns.length : Int) - 1) fs = true) {k : Nat} {x : Int} (hk : fs[k]? = some x) (h2 : vacAt ns x = false) : freeF ns fs = 1 := by
  unfold freeF
  rw [h, all_stop hk h2, Bool.and_false]; rfl
theorem freeF_zero {ns : List NVal} {fs : List Int} (h : allIn 0 ((ns.length : Int) - 1) fs = true) (h2 : risesL fs = true) (h3 : ∀ (j : Nat) (x : Int), fs[j]? = some x → vacAt ns x = true) : freeF ns fs = 0 := by
  unfold freeF
  rw [h, h2, all_next h3]; rfl

/-- What is wrong with a retired place. -/
def retF (n : Nat) (r : RVal) : Int := if 0 ≤ r.1 ∧ r.1 ≤ (n : Int) - 1 then (if r.2.length = 0 then 2 else watchF r.2) else 3
theorem retF_out {n : Nat} {r : RVal} (h : ¬ (0 ≤ r.1 ∧ r.1 ≤ (n : Int) - 1)) : retF n r = 3 := by unfold retF; rw [if_neg h]
theorem retF_none {n : Nat} {r : RVal} (h : 0 ≤ r.1 ∧ r.1 ≤ (n : Int) - 1) (h2 : r.2.length = 0) : retF n r = 2 := by unfold retF; rw [if_pos h, if_pos h2]
theorem retF_watch {n : Nat} {r : RVal} (h : 0 ≤ r.1 ∧ r.1 ≤ (n : Int) - 1) (h2 : ¬ r.2.length = 0) : retF n r = watchF r.2 := by unfold retF; rw [if_pos h, if_neg h2]
theorem retF_zero {n : Nat} {r : RVal} (h : retF n r = 0) : (0 ≤ r.1 ∧ r.1 ≤ (n : Int) - 1) ∧ 0 < r.2.length ∧ r.2.length ≤ 4 := by
  unfold retF at h
  by_cases h1 : 0 ≤ r.1 ∧ r.1 ≤ (n : Int) - 1
  · rw [if_pos h1] at h
    by_cases h2 : r.2.length = 0
    · rw [if_pos h2] at h; omega
    · rw [if_neg h2] at h
      unfold watchF at h
      by_cases h3 : 4 < r.2.length
      · rw [if_pos h3] at h; omega
      · exact ⟨h1, by omega, by omega⟩
  · rw [if_neg h1] at h; omega

/-- Whether one of the places is free, or stands there twice. -/
def takenF (fs ids : List Int) : Bool := (List.range ids.length).any fun k => (ids[k]?).any fun x => fs.contains x || (ids.take k).contains x
theorem takenF_at {fs ids : List Int} {k : Nat} {x : Int} (hk : ids[k]? = some x) (h : fs.contains x = true ∨ (ids.take k).contains x = true) : takenF fs ids = true := by
  unfold takenF
  rw [List.any_eq_true]
  refine ⟨k, List.mem_range.2 (List.getElem?_eq_some_iff.1 hk).1, ?_⟩
  rw [hk]
  rcases h with h | h
  · simp only [Option.any_some, h, Bool.true_or]
  · simp only [Option.any_some, h, Bool.or_true]
theorem takenF_none {fs ids : List Int} (h : ∀ (k : Nat) (x : Int), ids[k]? = some x → fs.contains x = false ∧ (ids.take k).contains x = false) : takenF fs ids = false := by
  unfold takenF
  rw [List.any_eq_false]
  intro k hk
  have hk' := List.mem_range.1 hk
  rw [List.getElem?_eq_getElem hk']
  obtain ⟨h1, h2⟩ := h k _ (List.getElem?_eq_getElem hk')
  simp only [Option.any_some, h1, h2, Bool.or_self]; decide

def nodeFv (d : Int) (v : NVal) : Int := nodeF v.1 v.2.1 v.2.2.1 v.2.2.2 d
/-- What is wrong with an arena. -/
def arenaF (d : Int) (ns : List NVal) (fs : List Int) (rs : List RVal) : Int :=
  if 2 ≤ d ∧ d ≤ 3 then
    if 4 ≤ ns.length ∧ ns.length ≤ 40 then
      if firstNZ (nodeFv d) ns ≠ 0 then firstNZ (nodeFv d) ns
      else if freeF ns fs ≠ 0 then freeF ns fs
      else if firstNZ (retF ns.length) rs ≠ 0 then firstNZ (retF ns.length) rs
      else if takenF fs (rs.map (·.1)) then 6 else 0
    else 2
  else 3
section
variable {d : Int} {ns : List NVal} {fs : List Int} {rs : List RVal}
theorem arenaF_dim (h : ¬ (2 ≤ d ∧ d ≤ 3)) : arenaF d ns fs rs = 3 := by unfold arenaF; rw [if_neg h]
theorem arenaF_many (h : 2 ≤ d ∧ d ≤ 3) (h2 : ¬ (4 ≤ ns.length ∧ ns.length ≤ 40)) : arenaF d ns fs rs = 2 := by unfold arenaF; rw [if_pos h, if_neg h2]
theorem arenaF_node (h : 2 ≤ d ∧ d ≤ 3) (h2 : 4 ≤ ns.length ∧ ns.length ≤ 40) (h3 : firstNZ (nodeFv d) ns ≠ 0) : arenaF d ns fs rs = firstNZ (nodeFv d) ns := by unfold arenaF; rw [if_pos h, if_pos h2, if_pos h3]
theorem arenaF_free (h : 2 ≤ d ∧ d ≤ 3) (h2 : 4 ≤ ns.length ∧ ns.length ≤ 40) (h3 : firstNZ (nodeFv d) ns = 0) (h4 : freeF ns fs ≠ 0) : arenaF d ns fs rs = freeF ns fs := by unfold arenaF; rw [if_pos h, if_pos h2, if_neg (by simp [h3]), if_pos h4]
theorem arenaF_ret (h : 2 ≤ d ∧ d ≤ 3) (h2 : 4 ≤ ns.length ∧ ns.length ≤ 40) (h3 : firstNZ (nodeFv d) ns = 0) (h4 : freeF ns fs = 0) (h5 : firstNZ (retF ns.length) rs ≠ 0) : arenaF d ns fs rs = firstNZ (retF ns.length) rs := by unfold arenaF; rw [if_pos h, if_pos h2, if_neg (by simp [h3]), if_neg (by simp [h4]), if_pos h5]
theorem arenaF_taken (h : 2 ≤ d ∧ d ≤ 3) (h2 : 4 ≤ ns.length ∧ ns.length ≤ 40) (h3 : firstNZ (nodeFv d) ns = 0) (h4 : freeF ns fs = 0) (h5 : firstNZ (retF ns.length) rs = 0) : arenaF d ns fs rs = if takenF fs (rs.map (·.1)) then 6 else 0 := by unfold arenaF; rw [if_pos h, if_pos h2, if_neg (by simp [h3]), if_neg (by simp [h4]), if_neg (by simp [h5])]
theorem arenaF_zero (h : arenaF d ns fs rs = 0) : (2 ≤ d ∧ d ≤ 3) ∧ (4 ≤ ns.length ∧ ns.length ≤ 40) ∧ firstNZ (nodeFv d) ns = 0 ∧ freeF ns fs = 0 ∧ firstNZ (retF ns.length) rs = 0 ∧ takenF fs (rs.map (·.1)) = false := by
  by_cases h1 : 2 ≤ d ∧ d ≤ 3
  rotate_left
  · rw [arenaF_dim h1] at h; omega
  by_cases h2 : 4 ≤ ns.length ∧ ns.length ≤ 40
  rotate_left
  · rw [arenaF_many h1 h2] at h; omega
  by_cases h3 : firstNZ (nodeFv d) ns = 0
  rotate_left
  · rw [arenaF_node h1 h2 h3] at h; exact absurd h h3
  by_cases h4 : freeF ns fs = 0
  rotate_left
  · rw [arenaF_free h1 h2 h3 h4] at h; exact absurd h h4
  by_cases h5 : firstNZ (retF ns.length) rs = 0
  rotate_left
  · rw [arenaF_ret h1 h2 h3 h4 h5] at h; exact absurd h h5
  rw [arenaF_taken h1 h2 h3 h4 h5] at h
  cases h6 : takenF fs (rs.map (·.1))
  · exact ⟨h1, h2, h3, h4, h5, rfl⟩
  · rw [h6] at h; simp at h
end

theorem nval_get {ps : List NV} {k : Nat} {p : NV} (h : ps[k]? = some p) : (ps.map NV.val)[k]? = some p.val := by simp [h]
theorem rval_get {ps : List RV} {k : Nat} {p : RV} (h : ps[k]? = some p) : (ps.map RV.val)[k]? = some p.val := by simp [h]
theorem rid_get {ps : List RV} {k : Nat} {p : RV} (h : ps[k]? = some p) : ((ps.map RV.val).map (·.1))[k]? = some p.id := by simp [h, RV.val]

end Go.Proofs.YtpgoildfjkokiaaGreat

/- The walks of fits and sound of both kinds of node, of impl.nodeBody's all, place and refTwice, and of slices.IndexFunc at slots. -/
namespace Go.Proofs.YtpgoildfjkokiaaGreat
open Go.RowKit

theorem run_makeFunc : ∀ (fn : Fn) (first cap : Array Value) (w : World), (Instr.makeFunc fn first cap).run Tryz.prog w = .ok (.func fn first cap) w := fun _ _ _ _ => rfl

set_option maxHeartbeats 400000 in
theorem leafFits_any (d lv ns rt : Int) (n c : Nat) (A : Option Addr) (p0 p1 p2 q0 q1 q2 ref nsn : Int) (w : World) :
    Calls Tryz.prog 178 #[.agg #[.int .i64 d, .slice A n c, .int .i64 lv, .int .i64 ns, .int .i64 rt], .agg #[.int .i64 p0, .int .i64 p1, .int .i64 p2, .int .i64 q0, .int .i64 q1, .int .i64 q2, .int .i64 ref, .int .i64 nsn]] w fun e w' => e = .returned (.bool (nsn == 0)) ∧ Below w.heap.size w w' := by
  go_enter Tryz.func178, Tryz.ntmps178
  go_wp2
  go_ret
  exact ⟨rfl, (below_alloc _ _).alloc (below_alloc _ _).size _⟩
set_option maxHeartbeats 400000 in
theorem innerFits_any (d lv ns rt : Int) (n c : Nat) (A : Option Addr) (p0 p1 p2 q0 q1 q2 ref nsn : Int) (w : World) :
    Calls Tryz.prog 183 #[.agg #[.int .i64 d, .slice A n c, .int .i64 lv, .int .i64 ns, .int .i64 rt], .agg #[.int .i64 p0, .int .i64 p1, .int .i64 p2, .int .i64 q0, .int .i64 q1, .int .i64 q2, .int .i64 ref, .int .i64 nsn]] w fun e w' => e = .returned (.bool (decide (ref < 40))) ∧ Below w.heap.size w w' := by
  go_enter Tryz.func183, Tryz.ntmps183
  go_wp2
  go_ret
  exact ⟨rfl, (below_alloc _ _).alloc (below_alloc _ _).size _⟩

/-- Whether a slot fits. -/
def fitsS (lv : Int) (s : SL) : Bool := if lv = 0 then s.nsn == 0 else decide (s.ref < 40)
theorem fits_all {lv : Int} {vs : List EVal} {ss : List SL} (h : SlotsOf vs ss) : ss.all (fitsS lv) = vs.all (fitsE lv) := by
  have one : ∀ {v : EVal} {s : SL}, SlotOf v s → fitsS lv s = fitsE lv v := fun h => by unfold fitsS fitsE; rw [h.2.2.1, h.2.2.2]
  cases hv : vs.all (fitsE lv)
  · rw [List.all_eq_false] at hv ⊢
    obtain ⟨v, hm, hf⟩ := hv
    obtain ⟨k, hk, rfl⟩ := List.getElem_of_mem hm
    have hk' : k < ss.length := by rw [h.1]; exact hk
    exact ⟨ss[k], List.getElem_mem hk', by rw [one (h.2 k _ _ (List.getElem?_eq_getElem hk) (List.getElem?_eq_getElem hk'))]; exact hf⟩
  · refine all_next fun j s hs => ?_
    obtain ⟨v, h1, h2⟩ := h.at hs
    rw [one h2]; exact all_at hv h1

set_option maxRecDepth 100000 in
set_option maxHeartbeats 1600000 in
theorem allLeaf_any (d lv ns rt : Int) (n c : Nat) (A : Option Addr) (ss : List SL) (w : World) (hp : Slots w A n ss) (hn : n ≤ maxLen) :
    Calls Tryz.prog 182 #[.agg #[.int .i64 d, .slice A n c, .int .i64 lv, .int .i64 ns, .int .i64 rt], .func (.func 178) #[.agg #[.int .i64 d, .slice A n c, .int .i64 lv, .int .i64 ns, .int .i64 rt]] #[]] w fun e w' => e = .returned (.bool (ss.all (fun s : SL => s.nsn == 0))) ∧ Below w.heap.size w w' := by
  have HP := Lib.hid hp
  clear hp
  have B := Lib.hid (below_alloc w (.cells #[.int .i64 d, .slice A n c, .int .i64 lv, .int .i64 ns, .int .i64 rt] 164))
  unfold maxLen at hn
  go_enter Tryz.func182, Tryz.ntmps182
  go_wp2
  go_loopw [11] (fun i wr => ∃ k : Nat, k ≤ n ∧ i = .int .i64 k ∧ Hid (Below w.heap.size w wr) ∧ Hid (∀ (j : Nat) (u : SL), j < k → ss[j]? = some u → (fun s : SL => s.nsn == 0) u = true)) (fun i _ => n - (intOf i).toNat)
  case atStart => exact ⟨0, Nat.zero_le _, rfl, B, fun j u hj => absurd hj (Nat.not_lt_zero _)⟩
  case round =>
    obtain ⟨k, hk', rfl, hB, hA⟩ := hrel
    by_cases hlt : k < n
    · obtain ⟨b, o, p0, p1, p2, q0, q1, q2, ref, nsn, rfl, hb, d0, d1, d2, d3, d4, d5, d6, d7, hx⟩ := HP.out.cellAt hlt
      have e0 : wr.cell? ⟨b, o + k * 8, none⟩ = some (.int .i64 p0) := (hB.out.cell (p := ⟨b, o + k * 8, none⟩) hb).trans d0
      have e1 : wr.cell? ⟨b, o + k * 8 + 1, none⟩ = some (.int .i64 p1) := (hB.out.cell (p := ⟨b, o + k * 8 + 1, none⟩) hb).trans d1
      have e2 : wr.cell? ⟨b, o + k * 8 + 2, none⟩ = some (.int .i64 p2) := (hB.out.cell (p := ⟨b, o + k * 8 + 2, none⟩) hb).trans d2
      have e3 : wr.cell? ⟨b, o + k * 8 + 3, none⟩ = some (.int .i64 q0) := (hB.out.cell (p := ⟨b, o + k * 8 + 3, none⟩) hb).trans d3
      have e4 : wr.cell? ⟨b, o + k * 8 + 4, none⟩ = some (.int .i64 q1) := (hB.out.cell (p := ⟨b, o + k * 8 + 4, none⟩) hb).trans d4
      have e5 : wr.cell? ⟨b, o + k * 8 + 5, none⟩ = some (.int .i64 q2) := (hB.out.cell (p := ⟨b, o + k * 8 + 5, none⟩) hb).trans d5
      have e6 : wr.cell? ⟨b, o + k * 8 + 6, none⟩ = some (.int .i64 ref) := (hB.out.cell (p := ⟨b, o + k * 8 + 6, none⟩) hb).trans d6
      have e7 : wr.cell? ⟨b, o + k * 8 + 7, none⟩ = some (.int .i64 nsn) := (hB.out.cell (p := ⟨b, o + k * 8 + 7, none⟩) hb).trans d7
      clear d0 d1 d2 d3 d4 d5 d6 d7
      have hB1 := Lib.hid (hB.out.alloc hB.out.size (.cells #[.int .i64 p0, .int .i64 p1, .int .i64 p2, .int .i64 q0, .int .i64 q1, .int .i64 q2, .int .i64 ref, .int .i64 nsn] 181))
      cases hz : (nsn == 0)
      · have HF : Hid (ss.all (fun s : SL => s.nsn == 0) = false) := all_stop hx.out hz
        have HZ := Lib.hid hz
        clear hz hA hx
        go_wp2_with fail
        refine (leafFits_any _ _ _ _ _ _ _ p0 p1 p2 q0 q1 q2 ref nsn _).mono ?_
        rintro e W1 ⟨rfl, b1⟩
        rw [HZ.out]
        have hB2 := Lib.hid (hB1.out.trans (b1.mono hB1.out.size))
        clear hB hB1 b1 e0 e1 e2 e3 e4 e5 e6 e7
        go_wp2
        go_ret
        exact ⟨ret_bool HF.out.symm, hB2.out⟩
      · have hA' := Lib.hid (upto_next (P := fun u => (fun s : SL => s.nsn == 0) u = true) hA.out hx.out hz)
        have HZ := Lib.hid hz
        clear hz hA hx
        go_wp2_with fail
        refine (leafFits_any _ _ _ _ _ _ _ p0 p1 p2 q0 q1 q2 ref nsn _).mono ?_
        rintro e W1 ⟨rfl, b1⟩
        rw [HZ.out]
        have hB2 := Lib.hid (hB1.out.trans (b1.mono hB1.out.size))
        clear hB hB1 b1 e0 e1 e2 e3 e4 e5 e6 e7
        go_wp2
        go_roundw
        case rel => exact ⟨k + 1, by omega, by go_num, hB2, hA'⟩
        case measure => simp [intOf]; omega
    · have HF : Hid (ss.all (fun s : SL => s.nsn == 0) = true) := all_next (upto_end hA.out (by rw [HP.out.1]; omega))
      clear hA
      go_wp2
      go_ret
      exact ⟨ret_bool HF.out.symm, hB.out⟩

set_option maxRecDepth 100000 in
set_option maxHeartbeats 1600000 in
theorem allInner_any (d lv ns rt : Int) (n c : Nat) (A : Option Addr) (ss : List SL) (w : World) (hp : Slots w A n ss) (hn : n ≤ maxLen) :
    Calls Tryz.prog 182 #[.agg #[.int .i64 d, .slice A n c, .int .i64 lv, .int .i64 ns, .int .i64 rt], .func (.func 183) #[.agg #[.int .i64 d, .slice A n c, .int .i64 lv, .int .i64 ns, .int .i64 rt]] #[]] w fun e w' => e = .returned (.bool (ss.all (fun s : SL => decide (s.ref < 40)))) ∧ Below w.heap.size w w' := by
  have HP := Lib.hid hp
  clear hp
  have B := Lib.hid (below_alloc w (.cells #[.int .i64 d, .slice A n c, .int .i64 lv, .int .i64 ns, .int .i64 rt] 164))
  unfold maxLen at hn
  go_enter Tryz.func182, Tryz.ntmps182
  go_wp2
  go_loopw [11] (fun i wr => ∃ k : Nat, k ≤ n ∧ i = .int .i64 k ∧ Hid (Below w.heap.size w wr) ∧ Hid (∀ (j : Nat) (u : SL), j < k → ss[j]? = some u → (fun s : SL => decide (s.ref < 40)) u = true)) (fun i _ => n - (intOf i).toNat)
  case atStart => exact ⟨0, Nat.zero_le _, rfl, B, fun j u hj => absurd hj (Nat.not_lt_zero _)⟩
  case round =>
    obtain ⟨k, hk', rfl, hB, hA⟩ := hrel
    by_cases hlt : k < n
    · obtain ⟨b, o, p0, p1, p2, q0, q1, q2, ref, nsn, rfl, hb, d0, d1, d2, d3, d4, d5, d6, d7, hx⟩ := HP.out.cellAt hlt
      have e0 : wr.cell? ⟨b, o + k * 8, none⟩ = some (.int .i64 p0) := (hB.out.cell (p := ⟨b, o + k * 8, none⟩) hb).trans d0
      have e1 : wr.cell? ⟨b, o + k * 8 + 1, none⟩ = some (.int .i64 p1) := (hB.out.cell (p := ⟨b, o + k * 8 + 1, none⟩) hb).trans d1
      have e2 : wr.cell? ⟨b, o + k * 8 + 2, none⟩ = some (.int .i64 p2) := (hB.out.cell (p := ⟨b, o + k * 8 + 2, none⟩) hb).trans d2
      have e3 : wr.cell? ⟨b, o + k * 8 + 3, none⟩ = some (.int .i64 q0) := (hB.out.cell (p := ⟨b, o + k * 8 + 3, none⟩) hb).trans d3
      have e4 : wr.cell? ⟨b, o + k * 8 + 4, none⟩ = some (.int .i64 q1) := (hB.out.cell (p := ⟨b, o + k * 8 + 4, none⟩) hb).trans d4
      have e5 : wr.cell? ⟨b, o + k * 8 + 5, none⟩ = some (.int .i64 q2) := (hB.out.cell (p := ⟨b, o + k * 8 + 5, none⟩) hb).trans d5
      have e6 : wr.cell? ⟨b, o + k * 8 + 6, none⟩ = some (.int .i64 ref) := (hB.out.cell (p := ⟨b, o + k * 8 + 6, none⟩) hb).trans d6
      have e7 : wr.cell? ⟨b, o + k * 8 + 7, none⟩ = some (.int .i64 nsn) := (hB.out.cell (p := ⟨b, o + k * 8 + 7, none⟩) hb).trans d7
      clear d0 d1 d2 d3 d4 d5 d6 d7
      have hB1 := Lib.hid (hB.out.alloc hB.out.size (.cells #[.int .i64 p0, .int .i64 p1, .int .i64 p2, .int .i64 q0, .int .i64 q1, .int .i64 q2, .int .i64 ref, .int .i64 nsn] 181))
      cases hz : decide (ref < 40)
      · have HF : Hid (ss.all (fun s : SL => decide (s.ref < 40)) = false) := all_stop hx.out hz
        have HZ := Lib.hid hz
        clear hz hA hx
        go_wp2_with fail
        refine (innerFits_any _ _ _ _ _ _ _ p0 p1 p2 q0 q1 q2 ref nsn _).mono ?_
        rintro e W1 ⟨rfl, b1⟩
        rw [HZ.out]
        have hB2 := Lib.hid (hB1.out.trans (b1.mono hB1.out.size))
        clear hB hB1 b1 e0 e1 e2 e3 e4 e5 e6 e7
        go_wp2
        go_ret
        exact ⟨ret_bool HF.out.symm, hB2.out⟩
      · have hA' := Lib.hid (upto_next (P := fun u => (fun s : SL => decide (s.ref < 40)) u = true) hA.out hx.out hz)
        have HZ := Lib.hid hz
        clear hz hA hx
        go_wp2_with fail
        refine (innerFits_any _ _ _ _ _ _ _ p0 p1 p2 q0 q1 q2 ref nsn _).mono ?_
        rintro e W1 ⟨rfl, b1⟩
        rw [HZ.out]
        have hB2 := Lib.hid (hB1.out.trans (b1.mono hB1.out.size))
        clear hB hB1 b1 e0 e1 e2 e3 e4 e5 e6 e7
        go_wp2
        go_roundw
        case rel => exact ⟨k + 1, by omega, by go_num, hB2, hA'⟩
        case measure => simp [intOf]; omega
    · have HF : Hid (ss.all (fun s : SL => decide (s.ref < 40)) = true) := all_next (upto_end hA.out (by rw [HP.out.1]; omega))
      clear hA
      go_wp2
      go_ret
      exact ⟨ret_bool HF.out.symm, hB.out⟩

set_option maxHeartbeats 800000 in
theorem leafSound_any (d lv ns rt : Int) (n c : Nat) (A : Option Addr) (ss : List SL) (w : World) (hp : Slots w A n ss) (hn : n ≤ maxLen) (hl : lv = 0) :
    Calls Tryz.prog 179 #[.agg #[.int .i64 d, .slice A n c, .int .i64 lv, .int .i64 ns, .int .i64 rt]] w fun e w' => e = .returned (.bool (ss.all (fitsS lv))) ∧ Below w.heap.size w w' := by
  have HP := Lib.hid hp
  have HL := Lib.hid hl
  have hmf := run_makeFunc
  clear hp hl
  have B := Lib.hid (below_alloc w (.cells #[.int .i64 d, .slice A n c, .int .i64 lv, .int .i64 ns, .int .i64 rt] 184))
  go_enter Tryz.func179, Tryz.ntmps179
  go_wp2_with fail
  refine (allLeaf_any _ _ _ _ _ _ _ ss _ (HP.out.kept B.out) hn).mono ?_
  rintro e W1 ⟨rfl, b1⟩
  replace B := Lib.hid (B.out.trans (b1.mono B.out.size))
  clear b1
  go_wp2
  go_ret
  exact ⟨ret_bool (by rw [show fitsS lv = (fun s : SL => s.nsn == 0) from funext fun s => by unfold fitsS; rw [if_pos HL.out]]), B.out⟩
set_option maxHeartbeats 800000 in
theorem innerSound_any (d lv ns rt : Int) (n c : Nat) (A : Option Addr) (ss : List SL) (w : World) (hp : Slots w A n ss) (hn : n ≤ maxLen) (hl : ¬ lv = 0) :
    Calls Tryz.prog 184 #[.agg #[.int .i64 d, .slice A n c, .int .i64 lv, .int .i64 ns, .int .i64 rt]] w fun e w' => e = .returned (.bool (ss.all (fitsS lv))) ∧ Below w.heap.size w w' := by
  have HP := Lib.hid hp
  have HL := Lib.hid hl
  have hmf := run_makeFunc
  clear hp hl
  have B := Lib.hid (below_alloc w (.cells #[.int .i64 d, .slice A n c, .int .i64 lv, .int .i64 ns, .int .i64 rt] 185))
  go_enter Tryz.func184, Tryz.ntmps184
  go_wp2_with fail
  refine (allInner_any _ _ _ _ _ _ _ ss _ (HP.out.kept B.out) hn).mono ?_
  rintro e W1 ⟨rfl, b1⟩
  replace B := Lib.hid (B.out.trans (b1.mono B.out.size))
  clear b1
  go_wp2
  go_ret
  exact ⟨ret_bool (by rw [show fitsS lv = (fun s : SL => decide (s.ref < 40)) from funext fun s => by unfold fitsS; rw [if_neg HL.out]]), B.out⟩

set_option maxHeartbeats 400000 in
theorem placeOne_any (r : Int) (g : Nat) (p0 p1 p2 q0 q1 q2 ref nsn : Int) (w : World) (hg : g < w.heap.size) (hc : w.cell? ⟨g, 0, none⟩ = some (.int .i64 r)) :
    Calls Tryz.prog 167 #[.agg #[.int .i64 p0, .int .i64 p1, .int .i64 p2, .int .i64 q0, .int .i64 q1, .int .i64 q2, .int .i64 ref, .int .i64 nsn], .pointer (some ⟨g, 0, none⟩)] w fun e w' => e = .returned (.bool (ref == r)) ∧ Below w.heap.size w w' := by
  have hc' : (w.alloc (.cells #[.int .i64 p0, .int .i64 p1, .int .i64 p2, .int .i64 q0, .int .i64 q1, .int .i64 q2, .int .i64 ref, .int .i64 nsn] 181)).cell? ⟨g, 0, none⟩ = some (.int .i64 r) := ((below_alloc w (.cells #[.int .i64 p0, .int .i64 p1, .int .i64 p2, .int .i64 q0, .int .i64 q1, .int .i64 q2, .int .i64 ref, .int .i64 nsn] 181)).cell (p := ⟨g, 0, none⟩) hg).trans hc
  clear hc
  go_enter Tryz.func167, Tryz.ntmps167
  go_wp2
  go_ret
  exact ⟨rfl, below_alloc _ _⟩

set_option maxHeartbeats 1600000 in
theorem indexFunc_any (r : Int) (g n c : Nat) (A : Option Addr) (vs : List EVal) (ss : List SL) (w : World) (hp : Slots w A n ss) (ho : SlotsOf vs ss) (hn : n ≤ maxLen) (hg : g < w.heap.size) (hc : w.cell? ⟨g, 0, none⟩ = some (.int .i64 r)) :
    Calls Tryz.prog 166 #[.slice A n c, .func (.func 167) #[] #[.pointer (some ⟨g, 0, none⟩)]] w fun e w' => e = .returned (.int .i64 (findE r vs)) ∧ Below w.heap.size w w' := by
  have HP := Lib.hid hp
  have HO := Lib.hid ho
  have HC := Lib.hid hc
  have HL : Hid (vs.length = n) := ho.1.symm.trans hp.1
  clear hp ho hc
  unfold maxLen at hn
  go_enter Tryz.func166, Tryz.ntmps166
  go_wp2
  go_loopw [8] (fun i wr => ∃ k : Nat, k ≤ n ∧ i = .int .i64 k ∧ Hid (Below w.heap.size w wr) ∧ Hid (∀ (j : Nat) (u : EVal), j < k → vs[j]? = some u → u.2.2.1 ≠ r)) (fun i _ => n - (intOf i).toNat)
  case atStart => exact ⟨0, Nat.zero_le _, rfl, Below.refl _ _, fun j u hj => absurd hj (Nat.not_lt_zero _)⟩
  case round =>
    obtain ⟨k, hk', rfl, hB, hA⟩ := hrel
    by_cases hlt : k < n
    · obtain ⟨b, o, p0, p1, p2, q0, q1, q2, ref, nsn, rfl, hb, d0, d1, d2, d3, d4, d5, d6, d7, hx⟩ := HP.out.cellAt hlt
      have e0 : wr.cell? ⟨b, o + k * 8, none⟩ = some (.int .i64 p0) := (hB.out.cell (p := ⟨b, o + k * 8, none⟩) hb).trans d0
      have e1 : wr.cell? ⟨b, o + k * 8 + 1, none⟩ = some (.int .i64 p1) := (hB.out.cell (p := ⟨b, o + k * 8 + 1, none⟩) hb).trans d1
      have e2 : wr.cell? ⟨b, o + k * 8 + 2, none⟩ = some (.int .i64 p2) := (hB.out.cell (p := ⟨b, o + k * 8 + 2, none⟩) hb).trans d2
      have e3 : wr.cell? ⟨b, o + k * 8 + 3, none⟩ = some (.int .i64 q0) := (hB.out.cell (p := ⟨b, o + k * 8 + 3, none⟩) hb).trans d3
      have e4 : wr.cell? ⟨b, o + k * 8 + 4, none⟩ = some (.int .i64 q1) := (hB.out.cell (p := ⟨b, o + k * 8 + 4, none⟩) hb).trans d4
      have e5 : wr.cell? ⟨b, o + k * 8 + 5, none⟩ = some (.int .i64 q2) := (hB.out.cell (p := ⟨b, o + k * 8 + 5, none⟩) hb).trans d5
      have e6 : wr.cell? ⟨b, o + k * 8 + 6, none⟩ = some (.int .i64 ref) := (hB.out.cell (p := ⟨b, o + k * 8 + 6, none⟩) hb).trans d6
      have e7 : wr.cell? ⟨b, o + k * 8 + 7, none⟩ = some (.int .i64 nsn) := (hB.out.cell (p := ⟨b, o + k * 8 + 7, none⟩) hb).trans d7
      clear d0 d1 d2 d3 d4 d5 d6 d7
      obtain ⟨v, hv, hsv⟩ := HO.out.at hx.out
      have hrv : Hid (ref = v.2.2.1) := hsv.2.2.1
      have HV := Lib.hid hv
      clear hv hsv hx
      have gk := Nat.lt_of_lt_of_le hg hB.out.size
      by_cases hz : ref = r
      · have HF : Hid (findE r vs = k) := findE_stop hA.out HV.out (hrv.out.symm.trans hz)
        have HZ : Hid ((ref == r) = true) := by show (ref == r) = _; simpa using hz
        clear hz hA
        go_wp2_with fail
        refine (placeOne_any r g p0 p1 p2 q0 q1 q2 ref nsn _ gk ((hB.out.cell (p := ⟨g, 0, none⟩) hg).trans HC.out)).mono ?_
        rintro e W1 ⟨rfl, b1⟩
        rw [HZ.out]
        have hB2 := Lib.hid (hB.out.trans (b1.mono hB.out.size))
        clear hB b1 e0 e1 e2 e3 e4 e5 e6 e7
        go_wp2
        go_ret
        exact ⟨ret_i64 HF.out.symm, hB2.out⟩
      · have hA' := Lib.hid (upto_next hA.out HV.out (fun h => hz (hrv.out.trans h)))
        have HZ : Hid ((ref == r) = false) := by show (ref == r) = _; simpa using hz
        clear hz hA
        go_wp2_with fail
        refine (placeOne_any r g p0 p1 p2 q0 q1 q2 ref nsn _ gk ((hB.out.cell (p := ⟨g, 0, none⟩) hg).trans HC.out)).mono ?_
        rintro e W1 ⟨rfl, b1⟩
        rw [HZ.out]
        have hB2 := Lib.hid (hB.out.trans (b1.mono hB.out.size))
        clear hB b1 e0 e1 e2 e3 e4 e5 e6 e7 gk
        go_wp2
        go_roundw
        case rel => exact ⟨k + 1, by omega, by go_num, hB2, hA'⟩
        case measure => simp [intOf]; omega
    · have HF : Hid (findE r vs = -1) := findE_none (upto_end hA.out (by rw [HL.out]; omega))
      clear hA
      go_wp2
      go_ret
      exact ⟨ret_i64 HF.out.symm, hB.out⟩

set_option maxHeartbeats 800000 in
theorem place_any (d r : Int) (n c : Nat) (A : Option Addr) (vs : List EVal) (ss : List SL) (w : World) (hp : Slots w A n ss) (ho : SlotsOf vs ss) (hn : n ≤ maxLen) :
    Calls Tryz.prog 164 #[.agg #[.int .i64 d, .slice A n c], .int .i64 r] w fun e w' => e = .returned (.int .i64 (findE r vs)) ∧ Below w.heap.size w w' := by
  have HP := Lib.hid hp
  have HO := Lib.hid ho
  have hmf := run_makeFunc
  clear hp ho
  have B := Lib.hid (below_alloc w (.cells #[.int .i64 d, .slice A n c] 161))
  replace B := Lib.hid (B.out.alloc B.out.size (.cells #[.int .i64 r] 2))
  have L_r := Lib.hid (Lies.new (w.alloc (.cells #[.int .i64 d, .slice A n c] 161)) 2 #[.int .i64 r])
  simp only [World.size_alloc] at L_r
  have hin := L_r.out.inside
  go_enter Tryz.func164, Tryz.ntmps164
  go_wp2_with fail
  refine (indexFunc_any r _ _ _ _ vs ss _ (HP.out.kept B.out) HO.out hn L_r.out.inside (L_r.out.cell 0)).mono ?_
  rintro e W1 ⟨rfl, b1⟩
  replace B := Lib.hid (B.out.trans (b1.mono B.out.size))
  clear b1
  go_wp2
  go_ret
  exact ⟨rfl, B.out⟩

set_option maxHeartbeats 1600000 in
theorem refTwice_any (d : Int) (n c : Nat) (A : Option Addr) (vs : List EVal) (ss : List SL) (w : World) (hp : Slots w A n ss) (ho : SlotsOf vs ss) (hn : n ≤ maxLen) :
    Calls Tryz.prog 165 #[.agg #[.int .i64 d, .slice A n c]] w fun e w' => e = .returned (.bool (twiceE vs)) ∧ Below w.heap.size w w' := by
  have HP := Lib.hid hp
  have HO := Lib.hid ho
  have HL : Hid (vs.length = n) := ho.1.symm.trans hp.1
  clear hp ho
  have B := Lib.hid (below_alloc w (.cells #[.int .i64 d, .slice A n c] 161))
  have L_b := Lib.hid (Lies.new w 161 #[.int .i64 d, .slice A n c])
  have hn0 := hn
  unfold maxLen at hn
  go_enter Tryz.func165, Tryz.ntmps165
  go_wp2
  go_loopw [8] (fun i wr => ∃ k : Nat, k ≤ n ∧ i = .int .i64 k ∧ Hid (Below w.heap.size w wr) ∧ Hid (Lies wr w.heap.size 161 #[.int .i64 d, .slice A n c]) ∧ Hid (∀ (j : Nat) (u : EVal), j < k → vs[j]? = some u → findE u.2.2.1 vs = (j : Int))) (fun i _ => n - (intOf i).toNat)
  case atStart => exact ⟨0, Nat.zero_le _, rfl, B, L_b, fun j u hj => absurd hj (Nat.not_lt_zero _)⟩
  case round =>
    obtain ⟨k, hk', rfl, hB, hN, hA⟩ := hrel
    by_cases hlt : k < n
    · obtain ⟨b, o, p0, p1, p2, q0, q1, q2, ref, nsn, rfl, hb, d0, d1, d2, d3, d4, d5, d6, d7, hx⟩ := HP.out.cellAt hlt
      have e0 : wr.cell? ⟨b, o + k * 8, none⟩ = some (.int .i64 p0) := (hB.out.cell (p := ⟨b, o + k * 8, none⟩) hb).trans d0
      have e1 : wr.cell? ⟨b, o + k * 8 + 1, none⟩ = some (.int .i64 p1) := (hB.out.cell (p := ⟨b, o + k * 8 + 1, none⟩) hb).trans d1
      have e2 : wr.cell? ⟨b, o + k * 8 + 2, none⟩ = some (.int .i64 p2) := (hB.out.cell (p := ⟨b, o + k * 8 + 2, none⟩) hb).trans d2
      have e3 : wr.cell? ⟨b, o + k * 8 + 3, none⟩ = some (.int .i64 q0) := (hB.out.cell (p := ⟨b, o + k * 8 + 3, none⟩) hb).trans d3
      have e4 : wr.cell? ⟨b, o + k * 8 + 4, none⟩ = some (.int .i64 q1) := (hB.out.cell (p := ⟨b, o + k * 8 + 4, none⟩) hb).trans d4
      have e5 : wr.cell? ⟨b, o + k * 8 + 5, none⟩ = some (.int .i64 q2) := (hB.out.cell (p := ⟨b, o + k * 8 + 5, none⟩) hb).trans d5
      have e6 : wr.cell? ⟨b, o + k * 8 + 6, none⟩ = some (.int .i64 ref) := (hB.out.cell (p := ⟨b, o + k * 8 + 6, none⟩) hb).trans d6
      have e7 : wr.cell? ⟨b, o + k * 8 + 7, none⟩ = some (.int .i64 nsn) := (hB.out.cell (p := ⟨b, o + k * 8 + 7, none⟩) hb).trans d7
      clear d0 d1 d2 d3 d4 d5 d6 d7
      obtain ⟨v, hv, hsv⟩ := HO.out.at hx.out
      have hrv : Hid (ref = v.2.2.1) := hsv.2.2.1
      have HV := Lib.hid hv
      clear hv hsv hx
      have hB1 := Lib.hid (hB.out.alloc hB.out.size (.cells #[.int .i64 p0, .int .i64 p1, .int .i64 p2, .int .i64 q0, .int .i64 q1, .int .i64 q2, .int .i64 ref, .int .i64 nsn] 181))
      have hN1 := Lib.hid (hN.out.alloc (.cells #[.int .i64 p0, .int .i64 p1, .int .i64 p2, .int .i64 q0, .int .i64 q1, .int .i64 q2, .int .i64 ref, .int .i64 nsn] 181))
      have g0 : (wr.alloc (.cells #[.int .i64 p0, .int .i64 p1, .int .i64 p2, .int .i64 q0, .int .i64 q1, .int .i64 q2, .int .i64 ref, .int .i64 nsn] 181)).cell? ⟨w.heap.size, 0, none⟩ = some (.int .i64 d) := hN1.out.cell 0
      have g1 : (wr.alloc (.cells #[.int .i64 p0, .int .i64 p1, .int .i64 p2, .int .i64 q0, .int .i64 q1, .int .i64 q2, .int .i64 ref, .int .i64 nsn] 181)).cell? ⟨w.heap.size, 1, none⟩ = some (.slice (some ⟨b, o, none⟩) n c) := hN1.out.cell 1
      by_cases hz : findE ref vs = (k : Int)
      · have hA' := Lib.hid (uptoAt_next (P := fun j (u : EVal) => findE u.2.2.1 vs = (j : Int)) hA.out HV.out (by rw [← hrv.out]; exact hz))
        have hz1 : (findE ref vs != (k : Int)) = false := by simp [hz]
        clear hz hA
        go_wp2_with fail
        refine (place_any _ ref _ _ _ vs ss _ (HP.out.kept hB1.out) HO.out hn0).mono ?_
        rintro e W1 ⟨rfl, b1⟩
        have hB2 := Lib.hid (hB1.out.trans (b1.mono hB1.out.size))
        have hN2 := Lib.hid (hN1.out.kept b1 hN1.out.inside)
        clear hB hB1 hN hN1 b1 e0 e1 e2 e3 e4 e5 e6 e7 g0 g1
        go_wp2
        go_roundw
        case rel => exact ⟨k + 1, by omega, by go_num, hB2, hN2, hA'⟩
        case measure => simp [intOf]; omega
      · have HF : Hid (twiceE vs = true) := twiceE_at HV.out (by rw [← hrv.out]; exact hz)
        have hz1 : (findE ref vs != (k : Int)) = true := by simpa using hz
        clear hz hA
        go_wp2_with fail
        refine (place_any _ ref _ _ _ vs ss _ (HP.out.kept hB1.out) HO.out hn0).mono ?_
        rintro e W1 ⟨rfl, b1⟩
        have hB2 := Lib.hid (hB1.out.trans (b1.mono hB1.out.size))
        clear hB hB1 hN hN1 b1 e0 e1 e2 e3 e4 e5 e6 e7 g0 g1
        go_wp2
        go_ret
        exact ⟨ret_bool HF.out.symm, hB2.out⟩
    · have HF : Hid (twiceE vs = false) := twiceE_none (uptoAt_end (P := fun j (u : EVal) => findE u.2.2.1 vs = (j : Int)) hA.out (by rw [HL.out]; omega))
      clear hA
      go_wp2
      go_ret
      exact ⟨ret_bool HF.out.symm, hB.out⟩

end Go.Proofs.YtpgoildfjkokiaaGreat
