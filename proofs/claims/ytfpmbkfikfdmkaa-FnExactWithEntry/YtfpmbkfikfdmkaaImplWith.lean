/- The walk of impl.WithEntry. No condition but lengths. -/
import Derived.Test.YtfpmbkfikfdmkaaWithNil
import Derived.Test.YtfpmbkfikfdmkaaReadNil
import Derived.Test.YtfpmbkfikfdmkaaImplWithout
import Derived.Test.YtfpmbkfikfdmkaaImplBoxOf
namespace Go.Proofs.Ytfpmbkfikfdmkaa
open Go.RowKit

/-- WithEntry's code. -/
def withC (f g : Int) (ft : Bool) (fd : Int) (n : Nat) : Int := if f ≠ 0 then f else if g ≠ 0 then g else if ft = false then 1 else if 0 ≤ fd then 6 else if 5 ≤ n then 7 else 0
/-- What WithEntry answers. -/
def withR (lv ns rt : Int) (vs : List EVal) (d : Int) (ev : EVal) : Int × Int × Int × Int × List EVal := nrOf (withC (nodeF lv ns rt vs d) (entF d ev) (fitsE lv ev) (findE ev.2.2.1 vs) vs.length) lv ns rt (vs ++ [ev])
theorem withR_no {lv ns rt d cd : Int} {vs : List EVal} {ev : EVal} (h : withC (nodeF lv ns rt vs d) (entF d ev) (fitsE lv ev) (findE ev.2.2.1 vs) vs.length = cd) (hc : cd ≠ 0) : withR lv ns rt vs d ev = (cd, 0, 0, 0, []) := by unfold withR; rw [h]; exact nrOf_no hc
theorem withR_yes {lv ns rt d : Int} {vs : List EVal} {ev : EVal} (h : withC (nodeF lv ns rt vs d) (entF d ev) (fitsE lv ev) (findE ev.2.2.1 vs) vs.length = 0) : withR lv ns rt vs d ev = (0, lv, ns, rt, vs ++ [ev]) := by unfold withR; rw [h]; exact nrOf_yes rfl

/-- readNode, and that of no entries there are no slots. -/
def ReadFull (lv ns rt d : Int) (n : Nat) (vs : List EVal) (w : World) (e : Ending) (w' : World) : Prop :=
  Below w.heap.size w w' ∧ ((nodeF lv ns rt vs d ≠ 0 ∧ e = .returned (.tuple #[.nilIface, .int .i64 (nodeF lv ns rt vs d)])) ∨
    (nodeF lv ns rt vs d = 0 ∧ ∃ (A' : Option Addr) (c' : Nat) (ss : List SL), e = .returned (.tuple #[holderV d lv ns rt A' n c', .int .i64 0]) ∧ Slots w' A' n ss ∧ SlotsOf vs ss ∧ (n = 0 → A' = none ∧ c' = 0)))
theorem readNode_full (lv ns rt d : Int) (n c : Nat) (A : Option Addr) (ps : List EV) (w : World) (hp : Entries w A n ps) (hn : n ≤ maxLen) :
    Calls Try.prog 109 #[.agg #[.int .i64 lv, .int .i64 ns, .int .i64 rt, .slice A n c], .int .i64 d] w (ReadFull lv ns rt d n (ps.map EV.val) w) := by
  by_cases hz : nodeF lv ns rt (ps.map EV.val) d = 0 ∧ n = 0
  · obtain ⟨hz, rfl⟩ := hz
    have hps : ps = [] := List.length_eq_zero_iff.1 hp.1
    subst hps
    refine (readNode_nil lv ns rt d c A w hz).mono fun e w' h => ⟨h.2, Or.inr ⟨hz, none, 0, [], h.1, ⟨rfl, fun h => absurd h (Nat.lt_irrefl 0)⟩, ⟨rfl, fun k v s hv _ => by simp at hv⟩, fun _ => ⟨rfl, rfl⟩⟩⟩
  · refine (readNode_any lv ns rt d n c A ps w hp hn).mono fun e w' h => ⟨h.1, ?_⟩
    rcases h.2 with h1 | ⟨h0, A', c', ss, h1, h2, h3⟩
    · exact Or.inl h1
    · exact Or.inr ⟨h0, A', c', ss, h1, h2, h3, fun e => absurd ⟨h0, e⟩ hz⟩

set_option maxRecDepth 100000 in
set_option maxHeartbeats 6400000 in
theorem implWithEntry_any (lv ns rt d ref nsn : Int) (n c n1 c1 n2 c2 lo1 lo2 : Nat) (A A1 A2 : Option Addr) (ps : List EV) (x1 x2 : List Int) (w : World) (hp : Entries w A n ps) (h1 : Ints w lo1 A1 n1 x1) (h2 : Ints w lo2 A2 n2 x2) (hn : n ≤ maxLen) (m1 : n1 ≤ maxLen) (m2 : n2 ≤ maxLen) :
    Calls Try.prog 46 #[.agg #[.int .i64 lv, .int .i64 ns, .int .i64 rt, .slice A n c], .int .i64 d, .agg #[.slice A1 n1 c1, .slice A2 n2 c2, .int .i64 ref, .int .i64 nsn]] w (ResPost (withR lv ns rt (ps.map EV.val) d (x1, x2, ref, nsn)) w) := by
  have HP := Lib.hid hp
  have I_1 := Lib.hid h1
  have I_2 := Lib.hid h2
  have HL : Hid ((ps.map EV.val).length = n) := by show List.length _ = n; rw [List.length_map]; exact hp.1
  clear hp h1 h2
  have B := Lib.hid (below_alloc w (.cells #[.int .i64 lv, .int .i64 ns, .int .i64 rt, .slice A n c] 61))
  replace B := Lib.hid (B.out.alloc B.out.size (.cells #[.slice A1 n1 c1, .slice A2 n2 c2, .int .i64 ref, .int .i64 nsn] 67))
  replace B := Lib.hid (B.out.alloc B.out.size (.cells #[.int .i64 0, .int .i64 0, .int .i64 0, .int .i64 0, .slice none 0 0] 63))
  have L_e := Lib.hid ((Lies.new (w.alloc (.cells #[.int .i64 lv, .int .i64 ns, .int .i64 rt, .slice A n c] 61)) 67 #[.slice A1 n1 c1, .slice A2 n2 c2, .int .i64 ref, .int .i64 nsn]).alloc (.cells #[.int .i64 0, .int .i64 0, .int .i64 0, .int .i64 0, .slice none 0 0] 63))
  have L_r := Lib.hid (Lies.new ((w.alloc (.cells #[.int .i64 lv, .int .i64 ns, .int .i64 rt, .slice A n c] 61)).alloc (.cells #[.slice A1 n1 c1, .slice A2 n2 c2, .int .i64 ref, .int .i64 nsn] 67)) 63 #[.int .i64 0, .int .i64 0, .int .i64 0, .int .i64 0, .slice none 0 0])
  simp only [World.size_alloc] at L_e L_r
  go_enter Try.func46, Try.ntmps46
  go_wp2_with fail
  refine (readNode_full _ _ _ _ _ _ _ ps _ (HP.out.kept B.out) hn).mono ?_
  rintro e W1 ⟨b1, h⟩
  replace L_e := Lib.hid (L_e.out.kept b1 L_e.out.inside)
  replace L_r := Lib.hid (L_r.out.kept b1 L_r.out.inside)
  replace B := Lib.hid (B.out.trans (b1.mono B.out.size))
  clear b1
  rcases h with ⟨hz, rfl⟩ | ⟨hz, A', c', ss, rfl, hS, hO, hNil⟩
  · have hz1 : (nodeF lv ns rt (ps.map EV.val) d != 0) = true := by simpa using hz
    have HR : Hid (withR lv ns rt (ps.map EV.val) d (x1, x2, ref, nsn) = (nodeF lv ns rt (ps.map EV.val) d, 0, 0, 0, [])) := withR_no (by unfold withC; rw [if_pos hz]) hz
    clear hz
    have z0 : W1.cell? ⟨w.heap.size + 1 + 1, 0, none⟩ = some (.int .i64 0) := L_r.out.cell 0
    have y0 : W1.frozen? ⟨w.heap.size + 1 + 1, 0, none⟩ = false := L_r.out.thawed 0
    have z1 : W1.cell? ⟨w.heap.size + 1 + 1, 1, none⟩ = some (.int .i64 0) := L_r.out.cell 1
    have y1 : W1.frozen? ⟨w.heap.size + 1 + 1, 1, none⟩ = false := L_r.out.thawed 1
    have z2 : W1.cell? ⟨w.heap.size + 1 + 1, 2, none⟩ = some (.int .i64 0) := L_r.out.cell 2
    have y2 : W1.frozen? ⟨w.heap.size + 1 + 1, 2, none⟩ = false := L_r.out.thawed 2
    have z3 : W1.cell? ⟨w.heap.size + 1 + 1, 3, none⟩ = some (.int .i64 0) := L_r.out.cell 3
    have y3 : W1.frozen? ⟨w.heap.size + 1 + 1, 3, none⟩ = false := L_r.out.thawed 3
    have z4 : W1.cell? ⟨w.heap.size + 1 + 1, 4, none⟩ = some (.slice none 0 0) := L_r.out.cell 4
    have y4 : W1.frozen? ⟨w.heap.size + 1 + 1, 4, none⟩ = false := L_r.out.thawed 4
    go_wp2
    refine bodyPost_ret (v := .agg #[.int .i64 (nodeF lv ns rt (ps.map EV.val) d), .int .i64 0, .int .i64 0, .int .i64 0, .slice none 0 0]) (by simp [results, Try.results46, go_sem, z0, z1, z2, z3, z4]) rfl ?_
    refine ⟨none, 0, 0, [], by rw [HR.out], EntriesRes.nil _ _, by rw [HR.out]; rfl, by decide, ?_⟩
    with_reducible (repeat (first | exact B.out | refine Below.setCell ?_ ?_ _))
    all_goals (show w.heap.size ≤ w.heap.size + 1 + 1; omega)
  have HS := Lib.hid hS
  have HO := Lib.hid hO
  have HZ := Lib.hid hz
  have HNil := Lib.hid hNil
  obtain ⟨hok, hn5, hent, _, _⟩ := nodeF_zero hz
  have HE := Lib.hid (lens_of hent)
  have hd2 : 2 ≤ d := hok.1.1
  have hd3 : d ≤ 3 := hok.1.2
  have hn5' : n ≤ 5 := by rw [HL.out] at hn5; exact hn5
  clear hS hO hz hok hent hn5 hNil
  have q0 : W1.cell? ⟨w.heap.size + 1, 0, none⟩ = some (.slice A1 n1 c1) := L_e.out.cell 0
  have q1 : W1.cell? ⟨w.heap.size + 1, 1, none⟩ = some (.slice A2 n2 c2) := L_e.out.cell 1
  have q2 : W1.cell? ⟨w.heap.size + 1, 2, none⟩ = some (.int .i64 ref) := L_e.out.cell 2
  have q3 : W1.cell? ⟨w.heap.size + 1, 3, none⟩ = some (.int .i64 nsn) := L_e.out.cell 3
  by_cases hg : entF d (x1, x2, ref, nsn) = 0
  rotate_left
  · have hg1 : (entF d (x1, x2, ref, nsn) != 0) = true := by simpa using hg
    have HR : Hid (withR lv ns rt (ps.map EV.val) d (x1, x2, ref, nsn) = (entF d (x1, x2, ref, nsn), 0, 0, 0, [])) := withR_no (by unfold withC; rw [if_neg (by simp [HZ.out]), if_pos hg]) hg
    clear hg
    go_wp2_with fail
    refine (entryFault_any _ _ _ _ _ _ _ _ _ _ _ x1 x2 _ (I_1.out.kept B.out) (I_2.out.kept B.out) m1 m2).mono ?_
    rintro e W2 ⟨rfl, b2⟩
    replace L_r := Lib.hid (L_r.out.kept b2 L_r.out.inside)
    replace B := Lib.hid (B.out.trans (b2.mono B.out.size))
    clear b2 q0 q1 q2 q3
    have z0 : W2.cell? ⟨w.heap.size + 1 + 1, 0, none⟩ = some (.int .i64 0) := L_r.out.cell 0
    have y0 : W2.frozen? ⟨w.heap.size + 1 + 1, 0, none⟩ = false := L_r.out.thawed 0
    have z1 : W2.cell? ⟨w.heap.size + 1 + 1, 1, none⟩ = some (.int .i64 0) := L_r.out.cell 1
    have y1 : W2.frozen? ⟨w.heap.size + 1 + 1, 1, none⟩ = false := L_r.out.thawed 1
    have z2 : W2.cell? ⟨w.heap.size + 1 + 1, 2, none⟩ = some (.int .i64 0) := L_r.out.cell 2
    have y2 : W2.frozen? ⟨w.heap.size + 1 + 1, 2, none⟩ = false := L_r.out.thawed 2
    have z3 : W2.cell? ⟨w.heap.size + 1 + 1, 3, none⟩ = some (.int .i64 0) := L_r.out.cell 3
    have y3 : W2.frozen? ⟨w.heap.size + 1 + 1, 3, none⟩ = false := L_r.out.thawed 3
    have z4 : W2.cell? ⟨w.heap.size + 1 + 1, 4, none⟩ = some (.slice none 0 0) := L_r.out.cell 4
    have y4 : W2.frozen? ⟨w.heap.size + 1 + 1, 4, none⟩ = false := L_r.out.thawed 4
    go_wp2
    refine bodyPost_ret (v := .agg #[.int .i64 (entF d (x1, x2, ref, nsn)), .int .i64 0, .int .i64 0, .int .i64 0, .slice none 0 0]) (by simp [results, Try.results46, go_sem, z0, z1, z2, z3, z4]) rfl ?_
    refine ⟨none, 0, 0, [], by rw [HR.out], EntriesRes.nil _ _, by rw [HR.out]; rfl, by decide, ?_⟩
    with_reducible (repeat (first | exact B.out | refine Below.setCell ?_ ?_ _))
    all_goals (show w.heap.size ≤ w.heap.size + 1 + 1; omega)
  have hg1 : (entF d (x1, x2, ref, nsn) != 0) = false := by simp [hg]
  have HG := Lib.hid hg
  obtain ⟨p0, p1, p2, q0', q1', q2', hp, hq⟩ := pads_of (entF_zero hg).1
  have hle := rf_len (entF_zero hg).1
  have HPP := Lib.hid hp
  have HQQ := Lib.hid hq
  have HLE : Hid (x1.length = d.toNat ∧ x2.length = d.toNat) := by
    simp only at hle
    exact ⟨by omega, by omega⟩
  clear hg hp hq hle
  go_wp2_with fail
  refine (entryFault_any _ _ _ _ _ _ _ _ _ _ _ x1 x2 _ (I_1.out.kept B.out) (I_2.out.kept B.out) m1 m2).mono ?_
  rintro e W2 ⟨rfl, b2⟩
  replace L_e := Lib.hid (L_e.out.kept b2 L_e.out.inside)
  replace L_r := Lib.hid (L_r.out.kept b2 L_r.out.inside)
  replace HS := Lib.hid (HS.out.kept b2)
  replace B := Lib.hid (B.out.trans (b2.mono B.out.size))
  clear b2 q0 q1 q2 q3
  have q0 : W2.cell? ⟨w.heap.size + 1, 0, none⟩ = some (.slice A1 n1 c1) := L_e.out.cell 0
  have q1 : W2.cell? ⟨w.heap.size + 1, 1, none⟩ = some (.slice A2 n2 c2) := L_e.out.cell 1
  have q2 : W2.cell? ⟨w.heap.size + 1, 2, none⟩ = some (.int .i64 ref) := L_e.out.cell 2
  have q3 : W2.cell? ⟨w.heap.size + 1, 3, none⟩ = some (.int .i64 nsn) := L_e.out.cell 3
  go_wp2_with fail
  refine (slotFrom_any _ _ _ _ _ _ _ _ _ _ x1 x2 p0 p1 p2 q0' q1' q2' _ HPP.out HQQ.out (I_1.out.kept B.out) (I_2.out.kept B.out)).mono ?_
  rintro e W3 ⟨rfl, b3⟩
  replace L_r := Lib.hid (L_r.out.kept b3 L_r.out.inside)
  replace HS := Lib.hid (HS.out.kept b3)
  replace B := Lib.hid (B.out.trans (b3.mono B.out.size))
  clear b3 q0 q1 q2 q3 L_e
  have L_s := Lib.hid (Lies.new W3 136 #[.int .i64 p0, .int .i64 p1, .int .i64 p2, .int .i64 q0', .int .i64 q1', .int .i64 q2', .int .i64 ref, .int .i64 nsn])
  replace L_r := Lib.hid (L_r.out.alloc (.cells #[.int .i64 p0, .int .i64 p1, .int .i64 p2, .int .i64 q0', .int .i64 q1', .int .i64 q2', .int .i64 ref, .int .i64 nsn] 136))
  replace HS := Lib.hid (HS.out.kept (below_alloc _ (.cells #[.int .i64 p0, .int .i64 p1, .int .i64 p2, .int .i64 q0', .int .i64 q1', .int .i64 q2', .int .i64 ref, .int .i64 nsn] 136)))
  replace B := Lib.hid (B.out.alloc B.out.size (.cells #[.int .i64 p0, .int .i64 p1, .int .i64 p2, .int .i64 q0', .int .i64 q1', .int .i64 q2', .int .i64 ref, .int .i64 nsn] 136))
  by_cases hl0 : lv = 0
  · have hm1 : ∀ w : World, (method 306 182 (.agg #[.int .i64 d, .slice A' n c', .int .i64 lv, .int .i64 ns, .int .i64 rt]) "loop.example/g00680/impl.fits").run Try.prog w = .ok (177, .agg #[.int .i64 d, .slice A' n c', .int .i64 lv, .int .i64 ns, .int .i64 rt]) w := fun _ => by kernel_rfl
    have hm2 : ∀ w : World, (method 306 182 (.agg #[.int .i64 d, .slice A' n c', .int .i64 lv, .int .i64 ns, .int .i64 rt]) "loop.example/g00680/impl.place").run Try.prog w = .ok (142, .agg #[.int .i64 d, .slice A' n c']) w := fun _ => by kernel_rfl
    have hm3 : ∀ w : World, (method 306 182 (.agg #[.int .i64 d, .slice A' n c', .int .i64 lv, .int .i64 ns, .int .i64 rt]) "loop.example/g00680/impl.count").run Try.prog w = .ok (136, .agg #[.int .i64 d, .slice A' n c']) w := fun _ => by kernel_rfl
    have hm4 : ∀ w : World, (method 306 182 (.agg #[.int .i64 d, .slice A' n c', .int .i64 lv, .int .i64 ns, .int .i64 rt]) "loop.example/g00680/impl.with").run Try.prog w = .ok (174, .agg #[.int .i64 d, .slice A' n c', .int .i64 lv, .int .i64 ns, .int .i64 rt]) w := fun _ => by kernel_rfl
    have HV : Hid (holderV d lv ns rt A' n c' = .iface 182 (.agg #[.int .i64 d, .slice A' n c', .int .i64 lv, .int .i64 ns, .int .i64 rt])) := by show holderV _ _ _ _ _ _ _ = _; unfold holderV; rw [if_pos hl0]
    have HFT : Hid (fitsE lv (x1, x2, ref, nsn) = (nsn == 0)) := by show fitsE _ _ = _; simp [fitsE, hl0]
    clear hl0
    rw [HV.out]
    cases hft : (nsn == 0)
    · have HR : Hid (withR lv ns rt (ps.map EV.val) d (x1, x2, ref, nsn) = (1, 0, 0, 0, [])) := withR_no (by unfold withC; rw [if_neg (by simp [HZ.out]), if_neg (by simp [HG.out]), if_pos (HFT.out.trans hft)]) (by decide)
      have HF1 := Lib.hid hft
      clear hft
      go_wp2_with fail
      refine (leafFits_any _ _ _ _ _ _ _ p0 p1 p2 q0' q1' q2' ref nsn _).mono ?_
      rintro e W4 ⟨rfl, b4⟩
      rw [HF1.out]
      replace L_r := Lib.hid (L_r.out.kept b4 L_r.out.inside)
      replace L_s := Lib.hid (L_s.out.kept b4 L_s.out.inside)
      replace HS := Lib.hid (HS.out.kept b4)
      replace B := Lib.hid (B.out.trans (b4.mono B.out.size))
      clear b4
      have z0 : W4.cell? ⟨w.heap.size + 1 + 1, 0, none⟩ = some (.int .i64 0) := L_r.out.cell 0
      have y0 : W4.frozen? ⟨w.heap.size + 1 + 1, 0, none⟩ = false := L_r.out.thawed 0
      have z1 : W4.cell? ⟨w.heap.size + 1 + 1, 1, none⟩ = some (.int .i64 0) := L_r.out.cell 1
      have y1 : W4.frozen? ⟨w.heap.size + 1 + 1, 1, none⟩ = false := L_r.out.thawed 1
      have z2 : W4.cell? ⟨w.heap.size + 1 + 1, 2, none⟩ = some (.int .i64 0) := L_r.out.cell 2
      have y2 : W4.frozen? ⟨w.heap.size + 1 + 1, 2, none⟩ = false := L_r.out.thawed 2
      have z3 : W4.cell? ⟨w.heap.size + 1 + 1, 3, none⟩ = some (.int .i64 0) := L_r.out.cell 3
      have y3 : W4.frozen? ⟨w.heap.size + 1 + 1, 3, none⟩ = false := L_r.out.thawed 3
      have z4 : W4.cell? ⟨w.heap.size + 1 + 1, 4, none⟩ = some (.slice none 0 0) := L_r.out.cell 4
      have y4 : W4.frozen? ⟨w.heap.size + 1 + 1, 4, none⟩ = false := L_r.out.thawed 4
      go_wp2
      refine bodyPost_ret (v := .agg #[.int .i64 1, .int .i64 0, .int .i64 0, .int .i64 0, .slice none 0 0]) (by simp [results, Try.results46, go_sem, z0, z1, z2, z3, z4]) rfl ?_
      refine ⟨none, 0, 0, [], by rw [HR.out], EntriesRes.nil _ _, by rw [HR.out]; rfl, by decide, ?_⟩
      with_reducible (repeat (first | exact B.out | refine Below.setCell ?_ ?_ _))
      all_goals (show w.heap.size ≤ w.heap.size + 1 + 1; omega)
    · have HF1 := Lib.hid hft
      have HF2 : Hid (fitsE lv (x1, x2, ref, nsn) = true) := HFT.out.trans hft
      clear hft
      go_wp2_with fail
      refine (leafFits_any _ _ _ _ _ _ _ p0 p1 p2 q0' q1' q2' ref nsn _).mono ?_
      rintro e W4 ⟨rfl, b4⟩
      rw [HF1.out]
      replace L_r := Lib.hid (L_r.out.kept b4 L_r.out.inside)
      replace L_s := Lib.hid (L_s.out.kept b4 L_s.out.inside)
      replace HS := Lib.hid (HS.out.kept b4)
      replace B := Lib.hid (B.out.trans (b4.mono B.out.size))
      clear b4
      have s0 : W4.cell? ⟨W3.heap.size, 0, none⟩ = some (.int .i64 p0) := L_s.out.cell 0
      have s1 : W4.cell? ⟨W3.heap.size, 1, none⟩ = some (.int .i64 p1) := L_s.out.cell 1
      have s2 : W4.cell? ⟨W3.heap.size, 2, none⟩ = some (.int .i64 p2) := L_s.out.cell 2
      have s3 : W4.cell? ⟨W3.heap.size, 3, none⟩ = some (.int .i64 q0') := L_s.out.cell 3
      have s4 : W4.cell? ⟨W3.heap.size, 4, none⟩ = some (.int .i64 q1') := L_s.out.cell 4
      have s5 : W4.cell? ⟨W3.heap.size, 5, none⟩ = some (.int .i64 q2') := L_s.out.cell 5
      have s6 : W4.cell? ⟨W3.heap.size, 6, none⟩ = some (.int .i64 ref) := L_s.out.cell 6
      have s7 : W4.cell? ⟨W3.heap.size, 7, none⟩ = some (.int .i64 nsn) := L_s.out.cell 7
      by_cases hfd : 0 ≤ findE ref (ps.map EV.val)
      · have HR : Hid (withR lv ns rt (ps.map EV.val) d (x1, x2, ref, nsn) = (6, 0, 0, 0, [])) := withR_no (by unfold withC; rw [if_neg (by simp [HZ.out]), if_neg (by simp [HG.out]), if_neg (by simp [HF2.out]), if_pos hfd]) (by decide)
        go_wp2_with fail
        refine (place_any _ ref _ _ _ (ps.map EV.val) ss _ HS.out HO.out hn).mono ?_
        rintro e W5 ⟨rfl, b5⟩
        clear s0 s1 s2 s3 s4 s5 s6 s7
        replace L_r := Lib.hid (L_r.out.kept b5 L_r.out.inside)
        replace L_s := Lib.hid (L_s.out.kept b5 L_s.out.inside)
        replace HS := Lib.hid (HS.out.kept b5)
        replace B := Lib.hid (B.out.trans (b5.mono B.out.size))
        clear b5
        have z0 : W5.cell? ⟨w.heap.size + 1 + 1, 0, none⟩ = some (.int .i64 0) := L_r.out.cell 0
        have y0 : W5.frozen? ⟨w.heap.size + 1 + 1, 0, none⟩ = false := L_r.out.thawed 0
        have z1 : W5.cell? ⟨w.heap.size + 1 + 1, 1, none⟩ = some (.int .i64 0) := L_r.out.cell 1
        have y1 : W5.frozen? ⟨w.heap.size + 1 + 1, 1, none⟩ = false := L_r.out.thawed 1
        have z2 : W5.cell? ⟨w.heap.size + 1 + 1, 2, none⟩ = some (.int .i64 0) := L_r.out.cell 2
        have y2 : W5.frozen? ⟨w.heap.size + 1 + 1, 2, none⟩ = false := L_r.out.thawed 2
        have z3 : W5.cell? ⟨w.heap.size + 1 + 1, 3, none⟩ = some (.int .i64 0) := L_r.out.cell 3
        have y3 : W5.frozen? ⟨w.heap.size + 1 + 1, 3, none⟩ = false := L_r.out.thawed 3
        have z4 : W5.cell? ⟨w.heap.size + 1 + 1, 4, none⟩ = some (.slice none 0 0) := L_r.out.cell 4
        have y4 : W5.frozen? ⟨w.heap.size + 1 + 1, 4, none⟩ = false := L_r.out.thawed 4
        go_wp2
        refine bodyPost_ret (v := .agg #[.int .i64 6, .int .i64 0, .int .i64 0, .int .i64 0, .slice none 0 0]) (by simp [results, Try.results46, go_sem, z0, z1, z2, z3, z4]) rfl ?_
        refine ⟨none, 0, 0, [], by rw [HR.out], EntriesRes.nil _ _, by rw [HR.out]; rfl, by decide, ?_⟩
        with_reducible (repeat (first | exact B.out | refine Below.setCell ?_ ?_ _))
        all_goals (show w.heap.size ≤ w.heap.size + 1 + 1; omega)
      · by_cases h5 : n = 5
        · have HR : Hid (withR lv ns rt (ps.map EV.val) d (x1, x2, ref, nsn) = (7, 0, 0, 0, [])) := withR_no (by unfold withC; rw [if_neg (by simp [HZ.out]), if_neg (by simp [HG.out]), if_neg (by simp [HF2.out]), if_neg hfd, if_pos (by rw [HL.out]; omega)]) (by decide)
          have h51 : ((n : Int) == 5) = true := by simp [h5]
          clear h5
          go_wp2_with fail
          refine (place_any _ ref _ _ _ (ps.map EV.val) ss _ HS.out HO.out hn).mono ?_
          rintro e W5 ⟨rfl, b5⟩
          clear s0 s1 s2 s3 s4 s5 s6 s7
          replace L_r := Lib.hid (L_r.out.kept b5 L_r.out.inside)
          replace L_s := Lib.hid (L_s.out.kept b5 L_s.out.inside)
          replace HS := Lib.hid (HS.out.kept b5)
          replace B := Lib.hid (B.out.trans (b5.mono B.out.size))
          clear b5
          go_wp2_with fail
          refine (bodyCount_any _ _ _ _ _).mono ?_
          rintro e W6 ⟨rfl, b6⟩
          replace L_r := Lib.hid (L_r.out.kept b6 L_r.out.inside)
          replace L_s := Lib.hid (L_s.out.kept b6 L_s.out.inside)
          replace HS := Lib.hid (HS.out.kept b6)
          replace B := Lib.hid (B.out.trans (b6.mono B.out.size))
          clear b6
          have z0 : W6.cell? ⟨w.heap.size + 1 + 1, 0, none⟩ = some (.int .i64 0) := L_r.out.cell 0
          have y0 : W6.frozen? ⟨w.heap.size + 1 + 1, 0, none⟩ = false := L_r.out.thawed 0
          have z1 : W6.cell? ⟨w.heap.size + 1 + 1, 1, none⟩ = some (.int .i64 0) := L_r.out.cell 1
          have y1 : W6.frozen? ⟨w.heap.size + 1 + 1, 1, none⟩ = false := L_r.out.thawed 1
          have z2 : W6.cell? ⟨w.heap.size + 1 + 1, 2, none⟩ = some (.int .i64 0) := L_r.out.cell 2
          have y2 : W6.frozen? ⟨w.heap.size + 1 + 1, 2, none⟩ = false := L_r.out.thawed 2
          have z3 : W6.cell? ⟨w.heap.size + 1 + 1, 3, none⟩ = some (.int .i64 0) := L_r.out.cell 3
          have y3 : W6.frozen? ⟨w.heap.size + 1 + 1, 3, none⟩ = false := L_r.out.thawed 3
          have z4 : W6.cell? ⟨w.heap.size + 1 + 1, 4, none⟩ = some (.slice none 0 0) := L_r.out.cell 4
          have y4 : W6.frozen? ⟨w.heap.size + 1 + 1, 4, none⟩ = false := L_r.out.thawed 4
          go_wp2
          refine bodyPost_ret (v := .agg #[.int .i64 7, .int .i64 0, .int .i64 0, .int .i64 0, .slice none 0 0]) (by simp [results, Try.results46, go_sem, z0, z1, z2, z3, z4]) rfl ?_
          refine ⟨none, 0, 0, [], by rw [HR.out], EntriesRes.nil _ _, by rw [HR.out]; rfl, by decide, ?_⟩
          with_reducible (repeat (first | exact B.out | refine Below.setCell ?_ ?_ _))
          all_goals (show w.heap.size ≤ w.heap.size + 1 + 1; omega)
        · have HR : Hid (withR lv ns rt (ps.map EV.val) d (x1, x2, ref, nsn) = (0, lv, ns, rt, ps.map EV.val ++ [(x1, x2, ref, nsn)])) := withR_yes (by unfold withC; rw [if_neg (by simp [HZ.out]), if_neg (by simp [HG.out]), if_neg (by simp [HF2.out]), if_neg hfd, if_neg (by rw [HL.out]; omega)])
          have h51 : ((n : Int) == 5) = false := by simp; omega
          have hn4 : n ≤ 4 := by omega
          clear h5
          go_wp2_with fail
          refine (place_any _ ref _ _ _ (ps.map EV.val) ss _ HS.out HO.out hn).mono ?_
          rintro e W5 ⟨rfl, b5⟩
          clear s0 s1 s2 s3 s4 s5 s6 s7
          replace L_r := Lib.hid (L_r.out.kept b5 L_r.out.inside)
          replace L_s := Lib.hid (L_s.out.kept b5 L_s.out.inside)
          replace HS := Lib.hid (HS.out.kept b5)
          replace B := Lib.hid (B.out.trans (b5.mono B.out.size))
          clear b5
          go_wp2_with fail
          refine (bodyCount_any _ _ _ _ _).mono ?_
          rintro e W6 ⟨rfl, b6⟩
          replace L_r := Lib.hid (L_r.out.kept b6 L_r.out.inside)
          replace L_s := Lib.hid (L_s.out.kept b6 L_s.out.inside)
          replace HS := Lib.hid (HS.out.kept b6)
          replace B := Lib.hid (B.out.trans (b6.mono B.out.size))
          clear b6
          have s0 : W6.cell? ⟨W3.heap.size, 0, none⟩ = some (.int .i64 p0) := L_s.out.cell 0
          have s1 : W6.cell? ⟨W3.heap.size, 1, none⟩ = some (.int .i64 p1) := L_s.out.cell 1
          have s2 : W6.cell? ⟨W3.heap.size, 2, none⟩ = some (.int .i64 p2) := L_s.out.cell 2
          have s3 : W6.cell? ⟨W3.heap.size, 3, none⟩ = some (.int .i64 q0') := L_s.out.cell 3
          have s4 : W6.cell? ⟨W3.heap.size, 4, none⟩ = some (.int .i64 q1') := L_s.out.cell 4
          have s5 : W6.cell? ⟨W3.heap.size, 5, none⟩ = some (.int .i64 q2') := L_s.out.cell 5
          have s6 : W6.cell? ⟨W3.heap.size, 6, none⟩ = some (.int .i64 ref) := L_s.out.cell 6
          have s7 : W6.cell? ⟨W3.heap.size, 7, none⟩ = some (.int .i64 nsn) := L_s.out.cell 7
          by_cases h00 : n = 0
          · obtain ⟨rfl, rfl⟩ := HNil.out h00
            have HPE : Hid (ps.map EV.val = []) := List.length_eq_zero_iff.1 (HL.out.trans h00)
            subst h00
            go_wp2_with fail
            refine (with_nil d lv ns rt (x1, x2, ref, nsn) p0 p1 p2 q0' q1' q2' ref nsn _ ⟨HPP.out, HQQ.out, rfl, rfl⟩).mono ?_
            rintro e W6' ⟨g2, k2, rfl, hs2, ho2, b3⟩
            replace L_r := Lib.hid (L_r.out.kept b3 L_r.out.inside)
            replace B := Lib.hid (B.out.trans (b3.mono B.out.size))
            have HS2 := Lib.hid hs2
            have HO2 := Lib.hid ho2
            have HE2 := Lib.hid (LensE.snoc (dd := d.toNat) (vs := []) (v := (x1, x2, ref, nsn)) (fun k u hu => by simp at hu) HLE.out)
            clear b3 hs2 ho2
            go_wp2_with fail
            refine (bodyNode_any d lv ns rt 1 k2 d.toNat (some ⟨g2, 0, none⟩) _ _ _ HS2.out HO2.out (by omega) HE2.out (by omega) (by omega)).mono ?_
            rintro e W7 ⟨A9, c9, qs, rfl, rs, vq, b7⟩
            have hs9 := B.out.size
            have hr9 := L_r.out.inside
            replace L_r := Lib.hid (L_r.out.kept b7 L_r.out.inside)
            replace B := Lib.hid (B.out.trans (b7.mono B.out.size))
            have RS := Lib.hid rs
            have VQ := Lib.hid vq
            clear b7 rs vq s0 s1 s2 s3 s4 s5 s6 s7
            have z0 : W7.cell? ⟨w.heap.size + 1 + 1, 0, none⟩ = some (.int .i64 0) := L_r.out.cell 0
            have y0 : W7.frozen? ⟨w.heap.size + 1 + 1, 0, none⟩ = false := L_r.out.thawed 0
            have z1 : W7.cell? ⟨w.heap.size + 1 + 1, 1, none⟩ = some (.int .i64 0) := L_r.out.cell 1
            have y1 : W7.frozen? ⟨w.heap.size + 1 + 1, 1, none⟩ = false := L_r.out.thawed 1
            have z2 : W7.cell? ⟨w.heap.size + 1 + 1, 2, none⟩ = some (.int .i64 0) := L_r.out.cell 2
            have y2 : W7.frozen? ⟨w.heap.size + 1 + 1, 2, none⟩ = false := L_r.out.thawed 2
            have z3 : W7.cell? ⟨w.heap.size + 1 + 1, 3, none⟩ = some (.int .i64 0) := L_r.out.cell 3
            have y3 : W7.frozen? ⟨w.heap.size + 1 + 1, 3, none⟩ = false := L_r.out.thawed 3
            have z4 : W7.cell? ⟨w.heap.size + 1 + 1, 4, none⟩ = some (.slice none 0 0) := L_r.out.cell 4
            have y4 : W7.frozen? ⟨w.heap.size + 1 + 1, 4, none⟩ = false := L_r.out.thawed 4
            go_wp2
            refine bodyPost_ret (v := .agg #[.int .i64 0, .int .i64 lv, .int .i64 ns, .int .i64 rt, .slice A9 1 c9]) (by simp [results, Try.results46, go_sem, z0, z1, z2, z3, z4]) rfl ?_
            refine ⟨A9, 1, c9, qs, by rw [HR.out], ?_, by rw [HR.out, HPE.out]; exact VQ.out, by omega, ?_⟩
            · exact (((((RS.out.farLow (by show w.heap.size + 1 + 1 < _; omega) _).farLow (by show w.heap.size + 1 + 1 < _; omega) _).farLow (by show w.heap.size + 1 + 1 < _; omega) _).farLow (by show w.heap.size + 1 + 1 < _; omega) _).farLow (by show w.heap.size + 1 + 1 < _; omega) _).lower (by omega)
            · with_reducible (repeat (first | exact B.out | refine Below.setCell ?_ ?_ _))
              all_goals (show w.heap.size ≤ w.heap.size + 1 + 1; omega)
          · have hpos : 0 < n := by omega
            clear h00
            go_wp2_with fail
            refine (with_any d lv ns rt n c' A' (ps.map EV.val) ss (x1, x2, ref, nsn) p0 p1 p2 q0' q1' q2' ref nsn _ HS.out HO.out hpos (by omega) ⟨HPP.out, HQQ.out, rfl, rfl⟩).mono ?_
            rintro e W6' ⟨g2, k2, rfl, hs2, ho2, b3⟩
            replace L_r := Lib.hid (L_r.out.kept b3 L_r.out.inside)
            replace B := Lib.hid (B.out.trans (b3.mono B.out.size))
            have HS2 := Lib.hid hs2
            have HO2 := Lib.hid ho2
            have HE2 := Lib.hid (HE.out.snoc (v := (x1, x2, ref, nsn)) HLE.out)
            clear b3 hs2 ho2
            go_wp2_with fail
            refine (bodyNode_any d lv ns rt (n + 1) k2 d.toNat (some ⟨g2, 0, none⟩) _ _ _ HS2.out HO2.out (by omega) HE2.out (by omega) (by omega)).mono ?_
            rintro e W7 ⟨A9, c9, qs, rfl, rs, vq, b7⟩
            have hs9 := B.out.size
            have hr9 := L_r.out.inside
            replace L_r := Lib.hid (L_r.out.kept b7 L_r.out.inside)
            replace B := Lib.hid (B.out.trans (b7.mono B.out.size))
            have RS := Lib.hid rs
            have VQ := Lib.hid vq
            clear b7 rs vq s0 s1 s2 s3 s4 s5 s6 s7
            have z0 : W7.cell? ⟨w.heap.size + 1 + 1, 0, none⟩ = some (.int .i64 0) := L_r.out.cell 0
            have y0 : W7.frozen? ⟨w.heap.size + 1 + 1, 0, none⟩ = false := L_r.out.thawed 0
            have z1 : W7.cell? ⟨w.heap.size + 1 + 1, 1, none⟩ = some (.int .i64 0) := L_r.out.cell 1
            have y1 : W7.frozen? ⟨w.heap.size + 1 + 1, 1, none⟩ = false := L_r.out.thawed 1
            have z2 : W7.cell? ⟨w.heap.size + 1 + 1, 2, none⟩ = some (.int .i64 0) := L_r.out.cell 2
            have y2 : W7.frozen? ⟨w.heap.size + 1 + 1, 2, none⟩ = false := L_r.out.thawed 2
            have z3 : W7.cell? ⟨w.heap.size + 1 + 1, 3, none⟩ = some (.int .i64 0) := L_r.out.cell 3
            have y3 : W7.frozen? ⟨w.heap.size + 1 + 1, 3, none⟩ = false := L_r.out.thawed 3
            have z4 : W7.cell? ⟨w.heap.size + 1 + 1, 4, none⟩ = some (.slice none 0 0) := L_r.out.cell 4
            have y4 : W7.frozen? ⟨w.heap.size + 1 + 1, 4, none⟩ = false := L_r.out.thawed 4
            go_wp2
            refine bodyPost_ret (v := .agg #[.int .i64 0, .int .i64 lv, .int .i64 ns, .int .i64 rt, .slice A9 (n + 1) c9]) (by simp [results, Try.results46, go_sem, z0, z1, z2, z3, z4]) rfl ?_
            refine ⟨A9, (n + 1), c9, qs, by rw [HR.out], ?_, by rw [HR.out]; exact VQ.out, by omega, ?_⟩
            · exact (((((RS.out.farLow (by show w.heap.size + 1 + 1 < _; omega) _).farLow (by show w.heap.size + 1 + 1 < _; omega) _).farLow (by show w.heap.size + 1 + 1 < _; omega) _).farLow (by show w.heap.size + 1 + 1 < _; omega) _).farLow (by show w.heap.size + 1 + 1 < _; omega) _).lower (by omega)
            · with_reducible (repeat (first | exact B.out | refine Below.setCell ?_ ?_ _))
              all_goals (show w.heap.size ≤ w.heap.size + 1 + 1; omega)
  · have hm1 : ∀ w : World, (method 306 183 (.agg #[.int .i64 d, .slice A' n c', .int .i64 lv, .int .i64 ns, .int .i64 rt]) "loop.example/g00680/impl.fits").run Try.prog w = .ok (182, .agg #[.int .i64 d, .slice A' n c', .int .i64 lv, .int .i64 ns, .int .i64 rt]) w := fun _ => by kernel_rfl
    have hm2 : ∀ w : World, (method 306 183 (.agg #[.int .i64 d, .slice A' n c', .int .i64 lv, .int .i64 ns, .int .i64 rt]) "loop.example/g00680/impl.place").run Try.prog w = .ok (142, .agg #[.int .i64 d, .slice A' n c']) w := fun _ => by kernel_rfl
    have hm3 : ∀ w : World, (method 306 183 (.agg #[.int .i64 d, .slice A' n c', .int .i64 lv, .int .i64 ns, .int .i64 rt]) "loop.example/g00680/impl.count").run Try.prog w = .ok (136, .agg #[.int .i64 d, .slice A' n c']) w := fun _ => by kernel_rfl
    have hm4 : ∀ w : World, (method 306 183 (.agg #[.int .i64 d, .slice A' n c', .int .i64 lv, .int .i64 ns, .int .i64 rt]) "loop.example/g00680/impl.with").run Try.prog w = .ok (174, .agg #[.int .i64 d, .slice A' n c', .int .i64 lv, .int .i64 ns, .int .i64 rt]) w := fun _ => by kernel_rfl
    have HV : Hid (holderV d lv ns rt A' n c' = .iface 183 (.agg #[.int .i64 d, .slice A' n c', .int .i64 lv, .int .i64 ns, .int .i64 rt])) := by show holderV _ _ _ _ _ _ _ = _; unfold holderV; rw [if_neg hl0]
    have HFT : Hid (fitsE lv (x1, x2, ref, nsn) = (decide (ref < 40))) := by show fitsE _ _ = _; simp [fitsE, hl0]
    clear hl0
    rw [HV.out]
    cases hft : (decide (ref < 40))
    · have HR : Hid (withR lv ns rt (ps.map EV.val) d (x1, x2, ref, nsn) = (1, 0, 0, 0, [])) := withR_no (by unfold withC; rw [if_neg (by simp [HZ.out]), if_neg (by simp [HG.out]), if_pos (HFT.out.trans hft)]) (by decide)
      have HF1 := Lib.hid hft
      clear hft
      go_wp2_with fail
      refine (innerFits_any _ _ _ _ _ _ _ p0 p1 p2 q0' q1' q2' ref nsn _).mono ?_
      rintro e W4 ⟨rfl, b4⟩
      rw [HF1.out]
      replace L_r := Lib.hid (L_r.out.kept b4 L_r.out.inside)
      replace L_s := Lib.hid (L_s.out.kept b4 L_s.out.inside)
      replace HS := Lib.hid (HS.out.kept b4)
      replace B := Lib.hid (B.out.trans (b4.mono B.out.size))
      clear b4
      have z0 : W4.cell? ⟨w.heap.size + 1 + 1, 0, none⟩ = some (.int .i64 0) := L_r.out.cell 0
      have y0 : W4.frozen? ⟨w.heap.size + 1 + 1, 0, none⟩ = false := L_r.out.thawed 0
      have z1 : W4.cell? ⟨w.heap.size + 1 + 1, 1, none⟩ = some (.int .i64 0) := L_r.out.cell 1
      have y1 : W4.frozen? ⟨w.heap.size + 1 + 1, 1, none⟩ = false := L_r.out.thawed 1
      have z2 : W4.cell? ⟨w.heap.size + 1 + 1, 2, none⟩ = some (.int .i64 0) := L_r.out.cell 2
      have y2 : W4.frozen? ⟨w.heap.size + 1 + 1, 2, none⟩ = false := L_r.out.thawed 2
      have z3 : W4.cell? ⟨w.heap.size + 1 + 1, 3, none⟩ = some (.int .i64 0) := L_r.out.cell 3
      have y3 : W4.frozen? ⟨w.heap.size + 1 + 1, 3, none⟩ = false := L_r.out.thawed 3
      have z4 : W4.cell? ⟨w.heap.size + 1 + 1, 4, none⟩ = some (.slice none 0 0) := L_r.out.cell 4
      have y4 : W4.frozen? ⟨w.heap.size + 1 + 1, 4, none⟩ = false := L_r.out.thawed 4
      go_wp2
      refine bodyPost_ret (v := .agg #[.int .i64 1, .int .i64 0, .int .i64 0, .int .i64 0, .slice none 0 0]) (by simp [results, Try.results46, go_sem, z0, z1, z2, z3, z4]) rfl ?_
      refine ⟨none, 0, 0, [], by rw [HR.out], EntriesRes.nil _ _, by rw [HR.out]; rfl, by decide, ?_⟩
      with_reducible (repeat (first | exact B.out | refine Below.setCell ?_ ?_ _))
      all_goals (show w.heap.size ≤ w.heap.size + 1 + 1; omega)
    · have HF1 := Lib.hid hft
      have HF2 : Hid (fitsE lv (x1, x2, ref, nsn) = true) := HFT.out.trans hft
      clear hft
      go_wp2_with fail
      refine (innerFits_any _ _ _ _ _ _ _ p0 p1 p2 q0' q1' q2' ref nsn _).mono ?_
      rintro e W4 ⟨rfl, b4⟩
      rw [HF1.out]
      replace L_r := Lib.hid (L_r.out.kept b4 L_r.out.inside)
      replace L_s := Lib.hid (L_s.out.kept b4 L_s.out.inside)
      replace HS := Lib.hid (HS.out.kept b4)
      replace B := Lib.hid (B.out.trans (b4.mono B.out.size))
      clear b4
      have s0 : W4.cell? ⟨W3.heap.size, 0, none⟩ = some (.int .i64 p0) := L_s.out.cell 0
      have s1 : W4.cell? ⟨W3.heap.size, 1, none⟩ = some (.int .i64 p1) := L_s.out.cell 1
      have s2 : W4.cell? ⟨W3.heap.size, 2, none⟩ = some (.int .i64 p2) := L_s.out.cell 2
      have s3 : W4.cell? ⟨W3.heap.size, 3, none⟩ = some (.int .i64 q0') := L_s.out.cell 3
      have s4 : W4.cell? ⟨W3.heap.size, 4, none⟩ = some (.int .i64 q1') := L_s.out.cell 4
      have s5 : W4.cell? ⟨W3.heap.size, 5, none⟩ = some (.int .i64 q2') := L_s.out.cell 5
      have s6 : W4.cell? ⟨W3.heap.size, 6, none⟩ = some (.int .i64 ref) := L_s.out.cell 6
      have s7 : W4.cell? ⟨W3.heap.size, 7, none⟩ = some (.int .i64 nsn) := L_s.out.cell 7
      by_cases hfd : 0 ≤ findE ref (ps.map EV.val)
      · have HR : Hid (withR lv ns rt (ps.map EV.val) d (x1, x2, ref, nsn) = (6, 0, 0, 0, [])) := withR_no (by unfold withC; rw [if_neg (by simp [HZ.out]), if_neg (by simp [HG.out]), if_neg (by simp [HF2.out]), if_pos hfd]) (by decide)
        go_wp2_with fail
        refine (place_any _ ref _ _ _ (ps.map EV.val) ss _ HS.out HO.out hn).mono ?_
        rintro e W5 ⟨rfl, b5⟩
        clear s0 s1 s2 s3 s4 s5 s6 s7
        replace L_r := Lib.hid (L_r.out.kept b5 L_r.out.inside)
        replace L_s := Lib.hid (L_s.out.kept b5 L_s.out.inside)
        replace HS := Lib.hid (HS.out.kept b5)
        replace B := Lib.hid (B.out.trans (b5.mono B.out.size))
        clear b5
        have z0 : W5.cell? ⟨w.heap.size + 1 + 1, 0, none⟩ = some (.int .i64 0) := L_r.out.cell 0
        have y0 : W5.frozen? ⟨w.heap.size + 1 + 1, 0, none⟩ = false := L_r.out.thawed 0
        have z1 : W5.cell? ⟨w.heap.size + 1 + 1, 1, none⟩ = some (.int .i64 0) := L_r.out.cell 1
        have y1 : W5.frozen? ⟨w.heap.size + 1 + 1, 1, none⟩ = false := L_r.out.thawed 1
        have z2 : W5.cell? ⟨w.heap.size + 1 + 1, 2, none⟩ = some (.int .i64 0) := L_r.out.cell 2
        have y2 : W5.frozen? ⟨w.heap.size + 1 + 1, 2, none⟩ = false := L_r.out.thawed 2
        have z3 : W5.cell? ⟨w.heap.size + 1 + 1, 3, none⟩ = some (.int .i64 0) := L_r.out.cell 3
        have y3 : W5.frozen? ⟨w.heap.size + 1 + 1, 3, none⟩ = false := L_r.out.thawed 3
        have z4 : W5.cell? ⟨w.heap.size + 1 + 1, 4, none⟩ = some (.slice none 0 0) := L_r.out.cell 4
        have y4 : W5.frozen? ⟨w.heap.size + 1 + 1, 4, none⟩ = false := L_r.out.thawed 4
        go_wp2
        refine bodyPost_ret (v := .agg #[.int .i64 6, .int .i64 0, .int .i64 0, .int .i64 0, .slice none 0 0]) (by simp [results, Try.results46, go_sem, z0, z1, z2, z3, z4]) rfl ?_
        refine ⟨none, 0, 0, [], by rw [HR.out], EntriesRes.nil _ _, by rw [HR.out]; rfl, by decide, ?_⟩
        with_reducible (repeat (first | exact B.out | refine Below.setCell ?_ ?_ _))
        all_goals (show w.heap.size ≤ w.heap.size + 1 + 1; omega)
      · by_cases h5 : n = 5
        · have HR : Hid (withR lv ns rt (ps.map EV.val) d (x1, x2, ref, nsn) = (7, 0, 0, 0, [])) := withR_no (by unfold withC; rw [if_neg (by simp [HZ.out]), if_neg (by simp [HG.out]), if_neg (by simp [HF2.out]), if_neg hfd, if_pos (by rw [HL.out]; omega)]) (by decide)
          have h51 : ((n : Int) == 5) = true := by simp [h5]
          clear h5
          go_wp2_with fail
          refine (place_any _ ref _ _ _ (ps.map EV.val) ss _ HS.out HO.out hn).mono ?_
          rintro e W5 ⟨rfl, b5⟩
          clear s0 s1 s2 s3 s4 s5 s6 s7
          replace L_r := Lib.hid (L_r.out.kept b5 L_r.out.inside)
          replace L_s := Lib.hid (L_s.out.kept b5 L_s.out.inside)
          replace HS := Lib.hid (HS.out.kept b5)
          replace B := Lib.hid (B.out.trans (b5.mono B.out.size))
          clear b5
          go_wp2_with fail
          refine (bodyCount_any _ _ _ _ _).mono ?_
          rintro e W6 ⟨rfl, b6⟩
          replace L_r := Lib.hid (L_r.out.kept b6 L_r.out.inside)
          replace L_s := Lib.hid (L_s.out.kept b6 L_s.out.inside)
          replace HS := Lib.hid (HS.out.kept b6)
          replace B := Lib.hid (B.out.trans (b6.mono B.out.size))
          clear b6
          have z0 : W6.cell? ⟨w.heap.size + 1 + 1, 0, none⟩ = some (.int .i64 0) := L_r.out.cell 0
          have y0 : W6.frozen? ⟨w.heap.size + 1 + 1, 0, none⟩ = false := L_r.out.thawed 0
          have z1 : W6.cell? ⟨w.heap.size + 1 + 1, 1, none⟩ = some (.int .i64 0) := L_r.out.cell 1
          have y1 : W6.frozen? ⟨w.heap.size + 1 + 1, 1, none⟩ = false := L_r.out.thawed 1
          have z2 : W6.cell? ⟨w.heap.size + 1 + 1, 2, none⟩ = some (.int .i64 0) := L_r.out.cell 2
          have y2 : W6.frozen? ⟨w.heap.size + 1 + 1, 2, none⟩ = false := L_r.out.thawed 2
          have z3 : W6.cell? ⟨w.heap.size + 1 + 1, 3, none⟩ = some (.int .i64 0) := L_r.out.cell 3
          have y3 : W6.frozen? ⟨w.heap.size + 1 + 1, 3, none⟩ = false := L_r.out.thawed 3
          have z4 : W6.cell? ⟨w.heap.size + 1 + 1, 4, none⟩ = some (.slice none 0 0) := L_r.out.cell 4
          have y4 : W6.frozen? ⟨w.heap.size + 1 + 1, 4, none⟩ = false := L_r.out.thawed 4
          go_wp2
          refine bodyPost_ret (v := .agg #[.int .i64 7, .int .i64 0, .int .i64 0, .int .i64 0, .slice none 0 0]) (by simp [results, Try.results46, go_sem, z0, z1, z2, z3, z4]) rfl ?_
          refine ⟨none, 0, 0, [], by rw [HR.out], EntriesRes.nil _ _, by rw [HR.out]; rfl, by decide, ?_⟩
          with_reducible (repeat (first | exact B.out | refine Below.setCell ?_ ?_ _))
          all_goals (show w.heap.size ≤ w.heap.size + 1 + 1; omega)
        · have HR : Hid (withR lv ns rt (ps.map EV.val) d (x1, x2, ref, nsn) = (0, lv, ns, rt, ps.map EV.val ++ [(x1, x2, ref, nsn)])) := withR_yes (by unfold withC; rw [if_neg (by simp [HZ.out]), if_neg (by simp [HG.out]), if_neg (by simp [HF2.out]), if_neg hfd, if_neg (by rw [HL.out]; omega)])
          have h51 : ((n : Int) == 5) = false := by simp; omega
          have hn4 : n ≤ 4 := by omega
          clear h5
          go_wp2_with fail
          refine (place_any _ ref _ _ _ (ps.map EV.val) ss _ HS.out HO.out hn).mono ?_
          rintro e W5 ⟨rfl, b5⟩
          clear s0 s1 s2 s3 s4 s5 s6 s7
          replace L_r := Lib.hid (L_r.out.kept b5 L_r.out.inside)
          replace L_s := Lib.hid (L_s.out.kept b5 L_s.out.inside)
          replace HS := Lib.hid (HS.out.kept b5)
          replace B := Lib.hid (B.out.trans (b5.mono B.out.size))
          clear b5
          go_wp2_with fail
          refine (bodyCount_any _ _ _ _ _).mono ?_
          rintro e W6 ⟨rfl, b6⟩
          replace L_r := Lib.hid (L_r.out.kept b6 L_r.out.inside)
          replace L_s := Lib.hid (L_s.out.kept b6 L_s.out.inside)
          replace HS := Lib.hid (HS.out.kept b6)
          replace B := Lib.hid (B.out.trans (b6.mono B.out.size))
          clear b6
          have s0 : W6.cell? ⟨W3.heap.size, 0, none⟩ = some (.int .i64 p0) := L_s.out.cell 0
          have s1 : W6.cell? ⟨W3.heap.size, 1, none⟩ = some (.int .i64 p1) := L_s.out.cell 1
          have s2 : W6.cell? ⟨W3.heap.size, 2, none⟩ = some (.int .i64 p2) := L_s.out.cell 2
          have s3 : W6.cell? ⟨W3.heap.size, 3, none⟩ = some (.int .i64 q0') := L_s.out.cell 3
          have s4 : W6.cell? ⟨W3.heap.size, 4, none⟩ = some (.int .i64 q1') := L_s.out.cell 4
          have s5 : W6.cell? ⟨W3.heap.size, 5, none⟩ = some (.int .i64 q2') := L_s.out.cell 5
          have s6 : W6.cell? ⟨W3.heap.size, 6, none⟩ = some (.int .i64 ref) := L_s.out.cell 6
          have s7 : W6.cell? ⟨W3.heap.size, 7, none⟩ = some (.int .i64 nsn) := L_s.out.cell 7
          by_cases h00 : n = 0
          · obtain ⟨rfl, rfl⟩ := HNil.out h00
            have HPE : Hid (ps.map EV.val = []) := List.length_eq_zero_iff.1 (HL.out.trans h00)
            subst h00
            go_wp2_with fail
            refine (with_nil d lv ns rt (x1, x2, ref, nsn) p0 p1 p2 q0' q1' q2' ref nsn _ ⟨HPP.out, HQQ.out, rfl, rfl⟩).mono ?_
            rintro e W6' ⟨g2, k2, rfl, hs2, ho2, b3⟩
            replace L_r := Lib.hid (L_r.out.kept b3 L_r.out.inside)
            replace B := Lib.hid (B.out.trans (b3.mono B.out.size))
            have HS2 := Lib.hid hs2
            have HO2 := Lib.hid ho2
            have HE2 := Lib.hid (LensE.snoc (dd := d.toNat) (vs := []) (v := (x1, x2, ref, nsn)) (fun k u hu => by simp at hu) HLE.out)
            clear b3 hs2 ho2
            go_wp2_with fail
            refine (bodyNode_any d lv ns rt 1 k2 d.toNat (some ⟨g2, 0, none⟩) _ _ _ HS2.out HO2.out (by omega) HE2.out (by omega) (by omega)).mono ?_
            rintro e W7 ⟨A9, c9, qs, rfl, rs, vq, b7⟩
            have hs9 := B.out.size
            have hr9 := L_r.out.inside
            replace L_r := Lib.hid (L_r.out.kept b7 L_r.out.inside)
            replace B := Lib.hid (B.out.trans (b7.mono B.out.size))
            have RS := Lib.hid rs
            have VQ := Lib.hid vq
            clear b7 rs vq s0 s1 s2 s3 s4 s5 s6 s7
            have z0 : W7.cell? ⟨w.heap.size + 1 + 1, 0, none⟩ = some (.int .i64 0) := L_r.out.cell 0
            have y0 : W7.frozen? ⟨w.heap.size + 1 + 1, 0, none⟩ = false := L_r.out.thawed 0
            have z1 : W7.cell? ⟨w.heap.size + 1 + 1, 1, none⟩ = some (.int .i64 0) := L_r.out.cell 1
            have y1 : W7.frozen? ⟨w.heap.size + 1 + 1, 1, none⟩ = false := L_r.out.thawed 1
            have z2 : W7.cell? ⟨w.heap.size + 1 + 1, 2, none⟩ = some (.int .i64 0) := L_r.out.cell 2
            have y2 : W7.frozen? ⟨w.heap.size + 1 + 1, 2, none⟩ = false := L_r.out.thawed 2
            have z3 : W7.cell? ⟨w.heap.size + 1 + 1, 3, none⟩ = some (.int .i64 0) := L_r.out.cell 3
            have y3 : W7.frozen? ⟨w.heap.size + 1 + 1, 3, none⟩ = false := L_r.out.thawed 3
            have z4 : W7.cell? ⟨w.heap.size + 1 + 1, 4, none⟩ = some (.slice none 0 0) := L_r.out.cell 4
            have y4 : W7.frozen? ⟨w.heap.size + 1 + 1, 4, none⟩ = false := L_r.out.thawed 4
            go_wp2
            refine bodyPost_ret (v := .agg #[.int .i64 0, .int .i64 lv, .int .i64 ns, .int .i64 rt, .slice A9 1 c9]) (by simp [results, Try.results46, go_sem, z0, z1, z2, z3, z4]) rfl ?_
            refine ⟨A9, 1, c9, qs, by rw [HR.out], ?_, by rw [HR.out, HPE.out]; exact VQ.out, by omega, ?_⟩
            · exact (((((RS.out.farLow (by show w.heap.size + 1 + 1 < _; omega) _).farLow (by show w.heap.size + 1 + 1 < _; omega) _).farLow (by show w.heap.size + 1 + 1 < _; omega) _).farLow (by show w.heap.size + 1 + 1 < _; omega) _).farLow (by show w.heap.size + 1 + 1 < _; omega) _).lower (by omega)
            · with_reducible (repeat (first | exact B.out | refine Below.setCell ?_ ?_ _))
              all_goals (show w.heap.size ≤ w.heap.size + 1 + 1; omega)
          · have hpos : 0 < n := by omega
            clear h00
            go_wp2_with fail
            refine (with_any d lv ns rt n c' A' (ps.map EV.val) ss (x1, x2, ref, nsn) p0 p1 p2 q0' q1' q2' ref nsn _ HS.out HO.out hpos (by omega) ⟨HPP.out, HQQ.out, rfl, rfl⟩).mono ?_
            rintro e W6' ⟨g2, k2, rfl, hs2, ho2, b3⟩
            replace L_r := Lib.hid (L_r.out.kept b3 L_r.out.inside)
            replace B := Lib.hid (B.out.trans (b3.mono B.out.size))
            have HS2 := Lib.hid hs2
            have HO2 := Lib.hid ho2
            have HE2 := Lib.hid (HE.out.snoc (v := (x1, x2, ref, nsn)) HLE.out)
            clear b3 hs2 ho2
            go_wp2_with fail
            refine (bodyNode_any d lv ns rt (n + 1) k2 d.toNat (some ⟨g2, 0, none⟩) _ _ _ HS2.out HO2.out (by omega) HE2.out (by omega) (by omega)).mono ?_
            rintro e W7 ⟨A9, c9, qs, rfl, rs, vq, b7⟩
            have hs9 := B.out.size
            have hr9 := L_r.out.inside
            replace L_r := Lib.hid (L_r.out.kept b7 L_r.out.inside)
            replace B := Lib.hid (B.out.trans (b7.mono B.out.size))
            have RS := Lib.hid rs
            have VQ := Lib.hid vq
            clear b7 rs vq s0 s1 s2 s3 s4 s5 s6 s7
            have z0 : W7.cell? ⟨w.heap.size + 1 + 1, 0, none⟩ = some (.int .i64 0) := L_r.out.cell 0
            have y0 : W7.frozen? ⟨w.heap.size + 1 + 1, 0, none⟩ = false := L_r.out.thawed 0
            have z1 : W7.cell? ⟨w.heap.size + 1 + 1, 1, none⟩ = some (.int .i64 0) := L_r.out.cell 1
            have y1 : W7.frozen? ⟨w.heap.size + 1 + 1, 1, none⟩ = false := L_r.out.thawed 1
            have z2 : W7.cell? ⟨w.heap.size + 1 + 1, 2, none⟩ = some (.int .i64 0) := L_r.out.cell 2
            have y2 : W7.frozen? ⟨w.heap.size + 1 + 1, 2, none⟩ = false := L_r.out.thawed 2
            have z3 : W7.cell? ⟨w.heap.size + 1 + 1, 3, none⟩ = some (.int .i64 0) := L_r.out.cell 3
            have y3 : W7.frozen? ⟨w.heap.size + 1 + 1, 3, none⟩ = false := L_r.out.thawed 3
            have z4 : W7.cell? ⟨w.heap.size + 1 + 1, 4, none⟩ = some (.slice none 0 0) := L_r.out.cell 4
            have y4 : W7.frozen? ⟨w.heap.size + 1 + 1, 4, none⟩ = false := L_r.out.thawed 4
            go_wp2
            refine bodyPost_ret (v := .agg #[.int .i64 0, .int .i64 lv, .int .i64 ns, .int .i64 rt, .slice A9 (n + 1) c9]) (by simp [results, Try.results46, go_sem, z0, z1, z2, z3, z4]) rfl ?_
            refine ⟨A9, (n + 1), c9, qs, by rw [HR.out], ?_, by rw [HR.out]; exact VQ.out, by omega, ?_⟩
            · exact (((((RS.out.farLow (by show w.heap.size + 1 + 1 < _; omega) _).farLow (by show w.heap.size + 1 + 1 < _; omega) _).farLow (by show w.heap.size + 1 + 1 < _; omega) _).farLow (by show w.heap.size + 1 + 1 < _; omega) _).farLow (by show w.heap.size + 1 + 1 < _; omega) _).lower (by omega)
            · with_reducible (repeat (first | exact B.out | refine Below.setCell ?_ ?_ _))
              all_goals (show w.heap.size ≤ w.heap.size + 1 + 1; omega)

end Go.Proofs.Ytfpmbkfikfdmkaa
