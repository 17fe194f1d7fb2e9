/- The walks of impl.ground's at, and of impl.ReadNode. -/
import Derived.Test.YtpgoildfjkokiaaGreatSpecReadNode
import Derived.Test.YtpgoildfjkokiaaGreatOpenArena
import Derived.Test.YtpgoildfjkokiaaGreatRects
import Derived.OrdersHeld
import Derived.Deep.RegionHeld3
namespace Go.Proofs.YtpgoildfjkokiaaGreat
open Go.RowKit

set_option maxHeartbeats 1600000 in
theorem at_out (G pb cp n : Nat) (id : Int) (w : World) (hc : w.cell? ⟨G, 1, none⟩ = some (.slice (some ⟨pb, 0, none⟩) n cp)) (hG : G < w.heap.size) (hn : n ≤ 40) (h : ¬ (0 ≤ id ∧ id ≤ (n : Int) - 1)) :
    Calls Tryz.prog 50 #[.pointer (some ⟨G, 0, none⟩), .int .i64 id] w fun e w' => e = .returned (.tuple #[.pointer none, .int .i64 3]) ∧ Below w.heap.size w w' := by
  have B := Lib.hid (below_alloc w (.cells #[.int .i64 id] 2))
  have HR : Hid (allIn 0 ((n : Int) - 1) [id] = false) := allIn_two.trans (by simpa using h)
  have ONE := Lib.hid (one_ints w id)
  clear h
  go_enter Tryz.func50, Tryz.ntmps50
  go_wp2_with fail
  refine (last_any G pb cp n _ hc hn).mono ?_
  rintro e w' ⟨rfl, rfl⟩
  go_wp2_with fail
  refine (within_is 0 ((n : Int) - 1) _ _ _ _ [id] _ false HR.out ONE.out (by decide)).mono ?_
  rintro e w' ⟨rfl, rfl⟩
  go_wp2
  go_ret2
  exact ⟨rfl, B.out⟩
set_option maxHeartbeats 1600000 in
theorem at_in (G pb cp n g : Nat) (fr : Bool) (k : Nat) (w : World) (hc : w.cell? ⟨G, 1, none⟩ = some (.slice (some ⟨pb, 0, none⟩) n cp)) (hG : G < w.heap.size) (hn : n ≤ 40) (hk : k < n) (hpb : pb < w.heap.size) (hp : w.cell? ⟨pb, k, none⟩ = some (.pointer (some ⟨g, 0, none⟩))) (hg : g < w.heap.size) (hf : w.cell? ⟨g, 1, none⟩ = some (.bool fr)) :
    Calls Tryz.prog 50 #[.pointer (some ⟨G, 0, none⟩), .int .i64 k] w fun e w' => e = .returned (.tuple #[if fr then .pointer none else .pointer (some ⟨g, 0, none⟩), .int .i64 (if fr then 4 else 0)]) ∧ Below w.heap.size w w' := by
  have B := Lib.hid (below_alloc w (.cells #[.int .i64 (k : Int)] 2))
  have HR : Hid (allIn 0 ((n : Int) - 1) [(k : Int)] = true) := allIn_two.trans (by simp; omega)
  have ONE := Lib.hid (one_ints w (k : Int))
  have c1 : (w.alloc (.cells #[.int .i64 (k : Int)] 2)).cell? ⟨G, 1, none⟩ = some (.slice (some ⟨pb, 0, none⟩) n cp) := (B.out.cell (p := ⟨G, 1, none⟩) hG).trans hc
  have c2 : (w.alloc (.cells #[.int .i64 (k : Int)] 2)).cell? ⟨pb, k, none⟩ = some (.pointer (some ⟨g, 0, none⟩)) := (B.out.cell (p := ⟨pb, k, none⟩) hpb).trans hp
  have c3 : (w.alloc (.cells #[.int .i64 (k : Int)] 2)).cell? ⟨g, 1, none⟩ = some (.bool fr) := (B.out.cell (p := ⟨g, 1, none⟩) hg).trans hf
  clear hp hf
  go_enter Tryz.func50, Tryz.ntmps50
  go_wp2_with fail
  refine (last_any G pb cp n _ hc hn).mono ?_
  rintro e w' ⟨rfl, rfl⟩
  go_wp2_with fail
  refine (within_is 0 ((n : Int) - 1) _ _ _ _ [(k : Int)] _ true HR.out ONE.out (by decide)).mono ?_
  rintro e w' ⟨rfl, rfl⟩
  cases fr
  · go_wp2
    go_ret2
    exact ⟨rfl, B.out⟩
  · go_wp2
    go_ret2
    exact ⟨rfl, B.out⟩

set_option maxRecDepth 100000 in
set_option maxHeartbeats 6400000 in
theorem implReadNode_any (d : Int) (n1 c1 n2 c2 n3 c3 : Nat) (A1 A2 A3 : Option Addr) (ns : List NV) (fs : List Int) (rs : List RV) (id : Int) (w : World) (hp : ArenaL w A1 A2 A3 n1 n2 n3 ns fs rs) (hn3 : n3 ≤ 1048576) :
    Calls Tryz.prog 15 #[.agg #[.int .i64 d, .slice A1 n1 c1, .slice A2 n2 c2, .slice A3 n3 c3], .int .i64 id] w (ResPost (readR d (ns.map NV.val) fs (rs.map RV.val) id) w) := by
  have HP := Lib.hid hp
  have HL : Hid ((ns.map NV.val).length = n1) := by show List.length _ = n1; rw [List.length_map]; exact hp.N.1
  clear hp
  have B := Lib.hid (below_alloc w (.cells #[.int .i64 d, .slice A1 n1 c1, .slice A2 n2 c2, .slice A3 n3 c3] 26))
  replace B := Lib.hid (B.out.alloc B.out.size (.cells #[.int .i64 0, .int .i64 0, .int .i64 0, .int .i64 0, .slice none 0 0] 44))
  have L_r := Lib.hid (Lies.new (w.alloc (.cells #[.int .i64 d, .slice A1 n1 c1, .slice A2 n2 c2, .slice A3 n3 c3] 26)) 44 #[.int .i64 0, .int .i64 0, .int .i64 0, .int .i64 0, .slice none 0 0])
  simp only [World.size_alloc] at L_r
  go_enter Tryz.func15, Tryz.ntmps15
  go_wp2_with fail
  refine (openArena_any d n1 c1 n2 c2 n3 c3 A1 A2 A3 ns fs rs _ (HP.out.kept B.out) hn3).mono ?_
  rintro e W1 ⟨b1, h⟩
  replace L_r := Lib.hid (L_r.out.kept b1 L_r.out.inside)
  replace B := Lib.hid (B.out.trans (b1.mono B.out.size))
  have sW1 := b1.size
  simp only [World.size_alloc] at sW1
  clear b1
  rcases h with ⟨hz, rfl⟩ | ⟨hz, G, rfl, hO⟩
  · have hz1 : (arenaF d (ns.map NV.val) fs (rs.map RV.val) != 0) = true := by simpa using hz
    have HR := Lib.hid (readC_fault (id := id) hz)
    clear hz
    have z0 : W1.cell? ⟨w.heap.size + 1, 0, none⟩ = some (.int .i64 0) := L_r.out.cell 0
    have y0 : W1.frozen? ⟨w.heap.size + 1, 0, none⟩ = false := L_r.out.thawed 0
    have z1 : W1.cell? ⟨w.heap.size + 1, 1, none⟩ = some (.int .i64 0) := L_r.out.cell 1
    have y1 : W1.frozen? ⟨w.heap.size + 1, 1, none⟩ = false := L_r.out.thawed 1
    have z2 : W1.cell? ⟨w.heap.size + 1, 2, none⟩ = some (.int .i64 0) := L_r.out.cell 2
    have y2 : W1.frozen? ⟨w.heap.size + 1, 2, none⟩ = false := L_r.out.thawed 2
    have z3 : W1.cell? ⟨w.heap.size + 1, 3, none⟩ = some (.int .i64 0) := L_r.out.cell 3
    have y3 : W1.frozen? ⟨w.heap.size + 1, 3, none⟩ = false := L_r.out.thawed 3
    have z4 : W1.cell? ⟨w.heap.size + 1, 4, none⟩ = some (.slice none 0 0) := L_r.out.cell 4
    have y4 : W1.frozen? ⟨w.heap.size + 1, 4, none⟩ = false := L_r.out.thawed 4
    go_wp2
    refine bodyPost_ret (v := .agg #[.int .i64 (arenaF d (ns.map NV.val) fs (rs.map RV.val)), .int .i64 0, .int .i64 0, .int .i64 0, .slice none 0 0]) (by simp [results, Tryz.results15, go_sem, z0, z1, z2, z3, z4]) rfl ?_
    refine ⟨none, 0, 0, [], by rw [HR.out], EntriesRes.nil _ _, by rw [HR.out]; rfl, by decide, ?_⟩
    repeat (with_reducible refine Below.setCell ?_ (by exact Nat.le_succ _) _)
    exact B.out

  have HZ := Lib.hid hz
  obtain ⟨hdd, hnn, _⟩ := arenaF_zero hz
  have hn40 : n1 ≤ 40 := by rw [HL.out] at hnn; exact hnn.2
  clear hz
  obtain ⟨lo, M, o, pb, cp, qs, f, hRet, hvals, hfr, hg0, hM0, hlo, _, _⟩ := hO
  simp only [World.size_alloc] at hg0 hM0
  have HG := Lib.hid hRet.G'
  have HV := Lib.hid hvals
  have HFR := Lib.hid hfr
  have hG := hRet.G'.L.inside
  have hpb := hRet.G'.R.i.2
  have hlen := hRet.G'.R.l
  have k1 : W1.cell? ⟨G, 1, none⟩ = some (.slice (some ⟨pb, 0, none⟩) n1 cp) := hRet.G'.L.cell 1
  clear hRet hvals hfr hM0
  by_cases hin : 0 ≤ id ∧ id ≤ (n1 : Int) - 1
  rotate_left
  · have HR : Hid (readR d (ns.map NV.val) fs (rs.map RV.val) id = (3, 0, 0, 0, [])) := by
      have e : readF (ns.map NV.val).length fs id = 3 := readF_out (by rw [HL.out]; exact hin)
      have := readC_none (id := id) HZ.out (by rw [e]; decide)
      rwa [e] at this
    go_wp2_with fail
    refine (at_out G pb cp n1 id _ k1 hG hn40 hin).mono ?_
    rintro e W2 ⟨rfl, b2⟩
    replace L_r := Lib.hid (L_r.out.kept b2 L_r.out.inside)
    replace B := Lib.hid (B.out.trans (b2.mono B.out.size))
    clear b2 k1 hin
    have z0 : W2.cell? ⟨w.heap.size + 1, 0, none⟩ = some (.int .i64 0) := L_r.out.cell 0
    have y0 : W2.frozen? ⟨w.heap.size + 1, 0, none⟩ = false := L_r.out.thawed 0
    have z1 : W2.cell? ⟨w.heap.size + 1, 1, none⟩ = some (.int .i64 0) := L_r.out.cell 1
    have y1 : W2.frozen? ⟨w.heap.size + 1, 1, none⟩ = false := L_r.out.thawed 1
    have z2 : W2.cell? ⟨w.heap.size + 1, 2, none⟩ = some (.int .i64 0) := L_r.out.cell 2
    have y2 : W2.frozen? ⟨w.heap.size + 1, 2, none⟩ = false := L_r.out.thawed 2
    have z3 : W2.cell? ⟨w.heap.size + 1, 3, none⟩ = some (.int .i64 0) := L_r.out.cell 3
    have y3 : W2.frozen? ⟨w.heap.size + 1, 3, none⟩ = false := L_r.out.thawed 3
    have z4 : W2.cell? ⟨w.heap.size + 1, 4, none⟩ = some (.slice none 0 0) := L_r.out.cell 4
    have y4 : W2.frozen? ⟨w.heap.size + 1, 4, none⟩ = false := L_r.out.thawed 4
    go_wp2
    refine bodyPost_ret (v := .agg #[.int .i64 3, .int .i64 0, .int .i64 0, .int .i64 0, .slice none 0 0]) (by simp [results, Tryz.results15, go_sem, z0, z1, z2, z3, z4]) rfl ?_
    refine ⟨none, 0, 0, [], by rw [HR.out], EntriesRes.nil _ _, by rw [HR.out]; rfl, by decide, ?_⟩
    repeat (with_reducible refine Below.setCell ?_ (by exact Nat.le_succ _) _)
    exact B.out

  obtain ⟨k, hk⟩ : ∃ k : Nat, id = (k : Int) := ⟨id.toNat, by omega⟩
  subst hk
  have hkn : k < n1 := by omega
  have hq : qs[k]? = some (qs[k]'(by omega)) := List.getElem?_eq_getElem (by omega)
  obtain ⟨q, hqq⟩ : ∃ q, q = qs[k]'(by omega) := ⟨_, rfl⟩
  rw [← hqq] at hq
  clear hqq
  have HQ := Lib.hid hq
  have hok := HG.out.P.P q (List.mem_of_getElem? hq)
  have j0 := HG.out.R.c k q hq
  have hqg : q.g < W1.heap.size := hok.L.inside
  have l1 : W1.cell? ⟨q.g, 1, none⟩ = some (.bool q.fr) := hok.L.cell 1
  have hfq := HFR.out k q hq
  have HVQ : Hid ((ns.map NV.val)[k]? = some (q.lv, q.ns, q.rt, q.vs)) := by show _ = _; rw [← HV.out, List.getElem?_map, hq]; rfl
  obtain ⟨hok0, hn5, hent, _, _⟩ := nodeF_zero hok.N
  have hlS : q.vs.length = q.n := hok.O.1.symm.trans hok.S.1
  have HOK := Lib.hid hok
  have HLE := Lib.hid (lens_of hent)
  have hd2 := hok0.1.1
  have hd3 := hok0.1.2
  have hn6 : q.n ≤ 8 := by omega
  have hn55 : q.n ≤ 6 := by omega
  clear hok hq hok0 hent hlS hin
  cases hfe : q.fr
  rotate_left
  · have HR : Hid (readR d (ns.map NV.val) fs (rs.map RV.val) (k : Int) = (4, 0, 0, 0, [])) := by
      have e : readF (ns.map NV.val).length fs (k : Int) = 4 := by rw [readF_in (by rw [HL.out]; omega), ← hfq, hfe]; rfl
      have := readC_none (id := (k : Int)) HZ.out (by rw [e]; decide)
      rwa [e] at this
    rw [hfe] at l1
    clear hfe hfq
    go_wp2_with fail
    refine (at_in G pb cp n1 q.g true k _ k1 hG hn40 hkn hpb j0 hqg l1).mono ?_
    rintro e W2 ⟨rfl, b2⟩
    replace L_r := Lib.hid (L_r.out.kept b2 L_r.out.inside)
    replace B := Lib.hid (B.out.trans (b2.mono B.out.size))
    clear b2 k1 j0 l1
    have z0 : W2.cell? ⟨w.heap.size + 1, 0, none⟩ = some (.int .i64 0) := L_r.out.cell 0
    have y0 : W2.frozen? ⟨w.heap.size + 1, 0, none⟩ = false := L_r.out.thawed 0
    have z1 : W2.cell? ⟨w.heap.size + 1, 1, none⟩ = some (.int .i64 0) := L_r.out.cell 1
    have y1 : W2.frozen? ⟨w.heap.size + 1, 1, none⟩ = false := L_r.out.thawed 1
    have z2 : W2.cell? ⟨w.heap.size + 1, 2, none⟩ = some (.int .i64 0) := L_r.out.cell 2
    have y2 : W2.frozen? ⟨w.heap.size + 1, 2, none⟩ = false := L_r.out.thawed 2
    have z3 : W2.cell? ⟨w.heap.size + 1, 3, none⟩ = some (.int .i64 0) := L_r.out.cell 3
    have y3 : W2.frozen? ⟨w.heap.size + 1, 3, none⟩ = false := L_r.out.thawed 3
    have z4 : W2.cell? ⟨w.heap.size + 1, 4, none⟩ = some (.slice none 0 0) := L_r.out.cell 4
    have y4 : W2.frozen? ⟨w.heap.size + 1, 4, none⟩ = false := L_r.out.thawed 4
    go_wp2
    refine bodyPost_ret (v := .agg #[.int .i64 4, .int .i64 0, .int .i64 0, .int .i64 0, .slice none 0 0]) (by simp [results, Tryz.results15, go_sem, z0, z1, z2, z3, z4]) rfl ?_
    refine ⟨none, 0, 0, [], by rw [HR.out], EntriesRes.nil _ _, by rw [HR.out]; rfl, by decide, ?_⟩
    repeat (with_reducible refine Below.setCell ?_ (by exact Nat.le_succ _) _)
    exact B.out

  have HR : Hid (readR d (ns.map NV.val) fs (rs.map RV.val) (k : Int) = (0, q.lv, q.ns, q.rt, q.vs)) :=
    readC_yes (v := (q.lv, q.ns, q.rt, q.vs)) HZ.out (by rw [readF_in (by rw [HL.out]; omega), ← hfq, hfe]; rfl) (by simpa using HVQ.out)
  rw [hfe] at l1
  clear hfe hfq
  go_wp2_with fail
  refine (at_in G pb cp n1 q.g false k _ k1 hG hn40 hkn hpb j0 hqg l1).mono ?_
  rintro e W2 ⟨rfl, b2⟩
  replace L_r := Lib.hid (L_r.out.kept b2 L_r.out.inside)
  replace HOK := Lib.hid (HOK.out.kept b2)
  replace B := Lib.hid (B.out.trans (b2.mono B.out.size))
  have sW2 := b2.size
  clear b2 k1 j0 l1 HG
  have l0 : W2.cell? ⟨q.g, 0, none⟩ = some (.iface (hty q.lv) (.agg #[.int .i64 d, .slice q.A q.n q.c, .int .i64 q.lv, .int .i64 q.ns, .int .i64 q.rt])) := HOK.out.L.cell 0
  have hm1 := hty_node q.lv d q.ns q.rt q.A q.n q.c
  go_wp2_with fail
  refine (bodyNode_any d q.lv q.ns q.rt q.n q.c d.toNat q.A q.vs q.ss _ HOK.out.S HOK.out.O hn6 HLE.out (by omega) (by omega)).mono ?_
  rintro e W3 ⟨A', c', es, rfl, her, hvs, b3⟩
  have HER := Lib.hid her
  have HVS := Lib.hid hvs
  replace L_r := Lib.hid (L_r.out.kept b3 L_r.out.inside)
  replace B := Lib.hid (B.out.trans (b3.mono B.out.size))
  clear b3 l0 hm1 her hvs
  have z0 : W3.cell? ⟨w.heap.size + 1, 0, none⟩ = some (.int .i64 0) := L_r.out.cell 0
  have y0 : W3.frozen? ⟨w.heap.size + 1, 0, none⟩ = false := L_r.out.thawed 0
  have z1 : W3.cell? ⟨w.heap.size + 1, 1, none⟩ = some (.int .i64 0) := L_r.out.cell 1
  have y1 : W3.frozen? ⟨w.heap.size + 1, 1, none⟩ = false := L_r.out.thawed 1
  have z2 : W3.cell? ⟨w.heap.size + 1, 2, none⟩ = some (.int .i64 0) := L_r.out.cell 2
  have y2 : W3.frozen? ⟨w.heap.size + 1, 2, none⟩ = false := L_r.out.thawed 2
  have z3 : W3.cell? ⟨w.heap.size + 1, 3, none⟩ = some (.int .i64 0) := L_r.out.cell 3
  have y3 : W3.frozen? ⟨w.heap.size + 1, 3, none⟩ = false := L_r.out.thawed 3
  have z4 : W3.cell? ⟨w.heap.size + 1, 4, none⟩ = some (.slice none 0 0) := L_r.out.cell 4
  have y4 : W3.frozen? ⟨w.heap.size + 1, 4, none⟩ = false := L_r.out.thawed 4
  go_wp2
  refine bodyPost_ret (v := .agg #[.int .i64 0, .int .i64 q.lv, .int .i64 q.ns, .int .i64 q.rt, .slice A' q.n c']) (by simp [results, Tryz.results15, go_sem, z0, z1, z2, z3, z4]) rfl ?_
  refine ⟨A', q.n, c', es, by rw [HR.out], ?_, by rw [HR.out]; exact HVS.out, hn55, ?_⟩
  · refine EntriesRes.lower (base := W2.heap.size) ?_ (by omega)
    with_reducible (repeat (first | exact HER.out | refine EntriesRes.farLow ?_ ?_ _))
    all_goals (show w.heap.size + 1 < W2.heap.size; omega)
  · repeat (with_reducible refine Below.setCell ?_ (by exact Nat.le_succ _) _)
    exact B.out

end Go.Proofs.YtpgoildfjkokiaaGreat

/- A region that draws its order, whose last operation may turn what its loads read: a condition S on the world that need not hold behind the last operation. No condition. -/
namespace Go.Proofs.YtpgoildfjkokiaaGreat
open Go

section
variable {P : Program} {ops : Array Oper} {Q : Exit → Act → World → Prop} {md : Region.Mode} {S : World → Prop} {L : Nat}

/-- Operation L waits for operation i (or there is no operation L). -/
def waitsL (md : Region.Mode) (ops : Array Oper) (i L : Nat) : Bool := decide (ops.size ≤ L) || ((ops[L]?).map fun o => o.after.any fun e => e.on == i && Region.binds md e).getD false

/-- Whatever order is picked from here on, and S holds behind every operation that is carried out, but for number L. -/
def wpAnyL (P : Program) (md : Region.Mode) (ops : Array Oper) (Q : Exit → Act → World → Prop) (S : World → Prop) (L : Nat) : Nat → Array Bool → Act → World → Prop
  | 0, listed, a, w => Region.ready md ops listed = [] ∧ Q .normal a w
  | fuel + 1, listed, a, w =>
    (Region.ready md ops listed = [] → Q .normal a w) ∧
    ∀ i ∈ Region.ready md ops listed, wpOp P ops Q i (fun a' w' => (i ≠ L → S w') ∧ wpAnyL P md ops Q S L fuel (listed.setIfInBounds i true) a' w') a w

theorem wpAny_of_last : ∀ (fuel : Nat) (listed : Array Bool) (a : Act) (w : World), wpAnyL P md ops Q S L fuel listed a w → wpAny P md ops Q fuel listed a w
  | 0, _, _, _, h => h
  | fuel + 1, _, _, _, h => ⟨h.1, fun i hi => wpOp_mono (fun a' w' h' => wpAny_of_last fuel _ a' w' h'.2) (h.2 i hi)⟩

theorem waits_not {i : Nat} {listed : Array Bool} (hw : waitsL md ops i L = true) (hi : i ∈ Region.ready md ops listed) : L ∉ Region.ready md ops listed := by
  intro hL
  obtain ⟨_, oL, hoL, hall⟩ := mem_ready.1 hL
  unfold waitsL at hw
  have hlt : ¬ ops.size ≤ L := by have := (Array.getElem?_eq_some_iff.1 hoL).1; omega
  rw [hoL, decide_eq_false hlt, Bool.false_or] at hw
  simp only [Option.map_some, Option.getD_some] at hw
  rw [Array.any_eq_true'] at hw
  obtain ⟨e, he, hb⟩ := hw
  simp only [Bool.and_eq_true, beq_iff_eq] at hb
  have h1 := hall e he hb.2
  have h0 := (mem_ready.1 hi).1
  rw [hb.1] at h1
  rcases Nat.lt_or_ge i listed.size with h' | h'
  · simp [h'] at h0 h1; rw [h0] at h1; cases h1
  · simp [Array.getElem?_eq_none h'] at h1

theorem wpAnyL_first {i : Nat} {oi : Oper} {v : Value} (hi : ops[i]? = some oi) (hsel : ∀ (j : Nat) (o : Oper) cs b, ops[j]? = some o → o.op ≠ .select cs b)
    (hQ : ∀ c a w, Q (.panic c) (a.put oi.dst v) w → Q (.panic c) a w) (hwt : waitsL md ops i L = true) :
    ∀ (fuel : Nat) (listed : Array Bool) (a : Act) (w : World),
      (∀ j oj, ops[j]? = some oj → j ≠ i → listed.getD j true = false → (∀ e ∈ oj.after, Region.binds md e = true → e.on ≠ i) → oi.apart ops oj = true) →
      i ∈ Region.ready md ops listed → YieldsIf P ops S oi v a → S w →
      wpAnyL P md ops Q S L fuel (listed.setIfInBounds i true) (a.put oi.dst v) w → wpAnyL P md ops Q S L (fuel + 1) listed a w := by
  intro fuel
  induction fuel with
  | zero =>
    intro listed a w _ hr hy hS H
    refine ⟨fun h => (by rw [h] at hr; cases hr), fun j hj => ?_⟩
    by_cases hji : j = i
    · subst hji; exact hy.wpOp hi hS ⟨fun _ => hS, H⟩
    · have := ready_mono hj hji
      rw [H.1] at this
      cases this
  | succ fuel ih =>
    intro listed a w hfree hr hy hS H
    refine ⟨fun h => (by rw [h] at hr; cases hr), fun j hj => ?_⟩
    by_cases hji : j = i
    · subst hji; exact hy.wpOp hi hS ⟨fun _ => hS, H⟩
    · have hjL : j ≠ L := fun e => waits_not hwt hr (e ▸ hj)
      have h1 := H.2 j (ready_mono hj hji)
      obtain ⟨hjun, oj, hoj, hall⟩ := mem_ready.1 hj
      have hnot : ∀ e ∈ oj.after, Region.binds md e = true → e.on ≠ i := fun e he hb heq => by
        have h1 := hall e he hb
        have h0 := (mem_ready.1 hr).1
        rw [heq] at h1
        rcases Nat.lt_or_ge i listed.size with h' | h'
        · simp [h'] at h0 h1; rw [h0] at h1; cases h1
        · simp [Array.getElem?_eq_none h'] at h1
      have h2 := wpOp_putIf hoj (hfree j oj hoj hji hjun hnot) (fun cs b => hsel i oi cs b hi) (fun cs b => hsel j oj cs b hoj) hQ hy h1
      have hfree' : ∀ k ok, ops[k]? = some ok → k ≠ i → (listed.setIfInBounds j true).getD k true = false →
          (∀ e ∈ ok.after, Region.binds md e = true → e.on ≠ i) → oi.apart ops ok = true := fun k ok hk hki hun hno => by
        refine hfree k ok hk hki ?_ hno
        by_cases hjk : j = k
        · subst hjk; exact hjun
        · rw [getD_set_ne true hjk] at hun; exact hun
      refine wpOp_mono (fun a' w' h3 => ⟨h3.2.1, ih (listed.setIfInBounds j true) a' w' hfree' (ready_mono hr (Ne.symm hji)) h3.1 (h3.2.1 hjL) ?_⟩) h2
      rw [Array.setIfInBounds_comm _ _ hji]
      exact h3.2.2

/-- Take number i first. -/
theorem wpAnyL_take {i : Nat} {oi : Oper} {v : Value} {fuel : Nat} {listed : Array Bool} {a : Act} {w : World} (hi : ops[i]? = some oi)
    (h : (Region.noSelect ops = true ∧ Region.free md ops listed i = true ∧ (Region.ready md ops listed).contains i = true ∧ waitsL md ops i L = true ∧ Region.wanted oi (yielded ops a.tmps) = true) ∧ (∀ c a w, Q (.panic c) (a.put oi.dst v) w → Q (.panic c) a w) ∧ (∀ w, S w → (execOp a.eval oi).run P w = .ok (.value v) w) ∧ S w ∧ wpAnyL P md ops Q S L fuel (listed.setIfInBounds i true) (a.put oi.dst v) w) : wpAnyL P md ops Q S L (fuel + 1) listed a w := by
  obtain ⟨⟨hs, hf, hr, hwt, hwa⟩, hQ, hy, hS, h⟩ := h
  exact wpAnyL_first hi (Region.noSelect_spec hs) hQ hwt fuel listed a w (Region.free_spec hi hf) (by simpa using hr) (Or.inl ⟨hwa, hy⟩) hS h
/-- Number i is skipped by its guard. -/
theorem wpAnyL_skip {i : Nat} {oi : Oper} {fuel : Nat} {listed : Array Bool} {a : Act} {w : World} (hi : ops[i]? = some oi)
    (h : (Region.noSelect ops = true ∧ Region.free md ops listed i = true ∧ (Region.ready md ops listed).contains i = true ∧ waitsL md ops i L = true ∧ Region.wanted oi (yielded ops a.tmps) = false) ∧ (∀ c a w, Q (.panic c) (a.put oi.dst undef) w → Q (.panic c) a w) ∧ S w ∧ wpAnyL P md ops Q S L fuel (listed.setIfInBounds i true) (a.put oi.dst undef) w) : wpAnyL P md ops Q S L (fuel + 1) listed a w := by
  obtain ⟨⟨hs, hf, hr, hwt, hwa⟩, hQ, hS, h⟩ := h
  exact wpAnyL_first hi (Region.noSelect_spec hs) hQ hwt fuel listed a w (Region.free_spec hi hf) (by simpa using hr) (Or.inr ⟨hwa, rfl⟩) hS h
/-- Number i alone may come up. -/
theorem wpAnyL_one {i : Nat} {oi : Oper} {fuel : Nat} {listed : Array Bool} {a : Act} {w : World} (hi : ops[i]? = some oi)
    (h : Region.ready md ops listed = [i] ∧ ∀ K' : Act → World → Prop, Shut (∀ a w, (i ≠ L → S w) → wpAnyL P md ops Q S L fuel (listed.setIfInBounds i true) a w → K' a w) → if Region.wanted oi (yielded ops a.tmps) = true then Oper.wp P oi a w K' Q else K' (a.put oi.dst undef) w) : wpAnyL P md ops Q S L (fuel + 1) listed a w := by
  obtain ⟨hr, h⟩ := h
  refine ⟨(fun h0 => by rw [hr] at h0; cases h0), fun j hj => ?_⟩
  rw [hr] at hj
  simp only [List.mem_singleton] at hj
  subst hj
  have h1 := h _ (fun a w hS hW => And.intro hS hW)
  unfold wpOp
  simp only [hi]
  split
  · rename_i hw; rw [if_pos hw] at h1; exact Or.inl h1
  · rename_i hw; rw [if_neg hw] at h1; exact h1
theorem wpAnyL_done {listed : Array Bool} {a : Act} {w : World} (hr : Region.ready md ops listed = []) (h : Q .normal a w) : ∀ fuel, wpAnyL P md ops Q S L fuel listed a w
  | 0 => ⟨hr, h⟩
  | _ + 1 => ⟨fun _ => h, by rw [hr]; simp⟩
theorem wp_region_last {id : Nat} {a : Act} {w : World} (L : Nat) (S : World → Prop) (hm : P.follows .mixedOrders = true) (hS : S w.drew)
    (h : S w.drew → wpAnyL P .any ops Q S L ops.size (Array.replicate ops.size false) a w.drew) : (Code.region id ops true).wp P Q a w :=
  wp_region_any hm (wpAny_of_last _ _ _ _ (h hS))
end

end Go.Proofs.YtpgoildfjkokiaaGreat
