/- The walks of impl.ground's at, and of impl.ReadNode. -/
import Derived.Test.YtpgoildfjkokiaaGreatSpecReadNode
import Derived.Test.YtpgoildfjkokiaaGreatOpenArena
namespace Go.Proofs.YtpgoildfjkokiaaGreat
open Go.RowKit

set_option maxHeartbeats 1600000 in
theorem at_out (G pb cp n : Nat) (id : Int) (w : World) (hc : w.cell? ⟨G, 1, none⟩ = some (.slice (some ⟨pb, 0, none⟩) n cp)) (hG : G < w.heap.size) (hn : n ≤ 40) (h : ¬ (0 ≤ id ∧ id ≤ (n : Int) - 1)) :
    Calls Tryz.prog 50 #[.pointer (some ⟨G, 0, none⟩), .int .i64 id] w fun e w' => e = .returned (.tuple #[.pointer none, .int .i64 3]) ∧ Below w.heap.size w w' := by
  have B := Lib.hid (below_alloc w (.cells #[.int .i64 id] 2))
  have HR : Hid (allIn 0 ((n : Int) - 1) [id] = false) := allIn_two.trans (by simpa using h)
  have ONE := Lib.hid (one_ints w id)
  clear h
  go_enter Tryz.func50, Tryz.ntmps50
  go_wp2_with fail
  refine (last_any G pb cp n _ hc hn).mono ?_
  rintro e w' ⟨rfl, rfl⟩
  go_wp2_with fail
  refine (within_is 0 ((n : Int) - 1) _ _ _ _ [id] _ false HR.out ONE.out (by decide)).mono ?_
  rintro e w' ⟨rfl, rfl⟩
  go_wp2
  go_ret2
  exact ⟨rfl, B.out⟩
set_option maxHeartbeats 1600000 in
theorem at_in (G pb cp n g : Nat) (fr : Bool) (k : Nat) (w : World) (hc : w.cell? ⟨G, 1, none⟩ = some (.slice (some ⟨pb, 0, none⟩) n cp)) (hG : G < w.heap.size) (hn : n ≤ 40) (hk : k < n) (hpb : pb < w.heap.size) (hp : w.cell? ⟨pb, k, none⟩ = some (.pointer (some ⟨g, 0, none⟩))) (hg : g < w.heap.size) (hf : w.cell? ⟨g, 1, none⟩ = some (.bool fr)) :
    Calls Tryz.prog 50 #[.pointer (some ⟨G, 0, none⟩), .int .i64 k] w fun e w' => e = .returned (.tuple #[if fr then .pointer none else .pointer (some ⟨g, 0, none⟩), .int .i64 (if fr then 4 else 0)]) ∧ Below w.heap.size w w' := by
  have B := Lib.hid (below_alloc w (.cells #[.int .i64 (k : Int)] 2))
  have HR : Hid (allIn 0 ((n : Int) - 1) [(k : Int)] = true) := allIn_two.trans (by simp; omega)
  have ONE := Lib.hid (one_ints w (k : Int))
  have c1 : (w.alloc (.cells #[.int .i64 (k : Int)] 2)).cell? ⟨G, 1, none⟩ = some (.slice (some ⟨pb, 0, none⟩) n cp) := (B.out.cell (p := ⟨G, 1, none⟩) hG).trans hc
  have c2 : (w.alloc (.cells #[.int .i64 (k : Int)] 2)).cell? ⟨pb, k, none⟩ = some (.pointer (some ⟨g, 0, none⟩)) := (B.out.cell (p := ⟨pb, k, none⟩) hpb).trans hp
  have c3 : (w.alloc (.cells #[.int .i64 (k : Int)] 2)).cell? ⟨g, 1, none⟩ = some (.bool fr) := (B.out.cell (p := ⟨g, 1, none⟩) hg).trans hf
  clear hp hf
  go_enter Tryz.func50, Tryz.ntmps50
  go_wp2_with fail
  refine (last_any G pb cp n _ hc hn).mono ?_
  rintro e w' ⟨rfl, rfl⟩
  go_wp2_with fail
  refine (within_is 0 ((n : Int) - 1) _ _ _ _ [(k : Int)] _ true HR.out ONE.out (by decide)).mono ?_
  rintro e w' ⟨rfl, rfl⟩
  cases fr
  · go_wp2
    go_ret2
    exact ⟨rfl, B.out⟩
  · go_wp2
    go_ret2
    exact ⟨rfl, B.out⟩

set_option maxRecDepth 100000 in
set_option maxHeartbeats 6400000 in
theorem implReadNode_any (d : Int) (n1 c1 n2 c2 n3 c3 : Nat) (A1 A2 A3 : Option Addr) (ns : List NV) (fs : List Int) (rs : List RV) (id : Int) (w : World) (hp : ArenaL w A1 A2 A3 n1 n2 n3 ns fs rs) (hn3 : n3 ≤ 1048576) :
    Calls Tryz.prog 15 #[.agg #[.int .i64 d, .slice A1 n1 c1, .slice A2 n2 c2, .slice A3 n3 c3], .int .i64 id] w (ResPost (readR d (ns.map NV.val) fs (rs.map RV.val) id) w) := by
  have HP := Lib.hid hp
  have HL : Hid ((ns.map NV.val).length = n1) := by show List.length _ = n1; rw [List.length_map]; exact hp.N.1
  clear hp
  have B := Lib.hid (below_alloc w (.cells #[.int .i64 d, .slice A1 n1 c1, .slice A2 n2 c2, .slice A3 n3 c3] 26))
  replace B := Lib.hid (B.out.alloc B.out.size (.cells #[.int .i64 0, .int .i64 0, .int .i64 0, .int .i64 0, .slice none 0 0] 44))
  have L_r := Lib.hid (Lies.new (w.alloc (.cells #[.int .i64 d, .slice A1 n1 c1, .slice A2 n2 c2, .slice A3 n3 c3] 26)) 44 #[.int .i64 0, .int .i64 0, .int .i64 0, .int .i64 0, .slice none 0 0])
  simp only [World.size_alloc] at L_r
  go_enter Tryz.func15, Tryz.ntmps15
  go_wp2_with fail
  refine (openArena_any d n1 c1 n2 c2 n3 c3 A1 A2 A3 ns fs rs _ (HP.out.kept B.out) hn3).mono ?_
  rintro e W1 ⟨b1, h⟩
  replace L_r := Lib.hid (L_r.out.kept b1 L_r.out.inside)
  replace B := Lib.hid (B.out.trans (b1.mono B.out.size))
  have sW1 := b1.size
  simp only [World.size_alloc] at sW1
  clear b1
  rcases h with ⟨hz, rfl⟩ | ⟨hz, G, rfl, hO⟩
  · have hz1 : (arenaF d (ns.map NV.val) fs (rs.map RV.val) != 0) = true := by simpa using hz
    have HR := Lib.hid (readC_fault (id := id) hz)
    clear hz
    have z0 : W1.cell? ⟨w.heap.size + 1, 0, none⟩ = some (.int .i64 0) := L_r.out.cell 0
    have y0 : W1.frozen? ⟨w.heap.size + 1, 0, none⟩ = false := L_r.out.thawed 0
    have z1 : W1.cell? ⟨w.heap.size + 1, 1, none⟩ = some (.int .i64 0) := L_r.out.cell 1
    have y1 : W1.frozen? ⟨w.heap.size + 1, 1, none⟩ = false := L_r.out.thawed 1
    have z2 : W1.cell? ⟨w.heap.size + 1, 2, none⟩ = some (.int .i64 0) := L_r.out.cell 2
    have y2 : W1.frozen? ⟨w.heap.size + 1, 2, none⟩ = false := L_r.out.thawed 2
    have z3 : W1.cell? ⟨w.heap.size + 1, 3, none⟩ = some (.int .i64 0) := L_r.out.cell 3
    have y3 : W1.frozen? ⟨w.heap.size + 1, 3, none⟩ = false := L_r.out.thawed 3
    have z4 : W1.cell? ⟨w.heap.size + 1, 4, none⟩ = some (.slice none 0 0) := L_r.out.cell 4
    have y4 : W1.frozen? ⟨w.heap.size + 1, 4, none⟩ = false := L_r.out.thawed 4
    go_wp2
    refine bodyPost_ret (v := .agg #[.int .i64 (arenaF d (ns.map NV.val) fs (rs.map RV.val)), .int .i64 0, .int .i64 0, .int .i64 0, .slice none 0 0]) (by simp [results, Tryz.results15, go_sem, z0, z1, z2, z3, z4]) rfl ?_
    refine ⟨none, 0, 0, [], by rw [HR.out], EntriesRes.nil _ _, by rw [HR.out]; rfl, by decide, ?_⟩
    repeat (with_reducible refine Below.setCell ?_ (by exact Nat.le_succ _) _)
    exact B.out

  have HZ := Lib.hid hz
  obtain ⟨hdd, hnn, _⟩ := arenaF_zero hz
  have hn40 : n1 ≤ 40 := by rw [HL.out] at hnn; exact hnn.2
  clear hz
  obtain ⟨lo, M, o, pb, cp, qs, f, hRet, hvals, hfr, hg0, hM0, hlo, _, _⟩ := hO
  simp only [World.size_alloc] at hg0 hM0
  have HG := Lib.hid hRet.G'
  have HV := Lib.hid hvals
  have HFR := Lib.hid hfr
  have hG := hRet.G'.L.inside
  have hpb := hRet.G'.R.i.2
  have hlen := hRet.G'.R.l
  have k1 : W1.cell? ⟨G, 1, none⟩ = some (.slice (some ⟨pb, 0, none⟩) n1 cp) := hRet.G'.L.cell 1
  clear hRet hvals hfr hM0
  by_cases hin : 0 ≤ id ∧ id ≤ (n1 : Int) - 1
  rotate_left
  · have HR : Hid (readR d (ns.map NV.val) fs (rs.map RV.val) id = (3, 0, 0, 0, [])) := by
      have e : readF (ns.map NV.val).length fs id = 3 := readF_out (by rw [HL.out]; exact hin)
      have := readC_none (id := id) HZ.out (by rw [e]; decide)
      rwa [e] at this
    go_wp2_with fail
    refine (at_out G pb cp n1 id _ k1 hG hn40 hin).mono ?_
    rintro e W2 ⟨rfl, b2⟩
    replace L_r := Lib.hid (L_r.out.kept b2 L_r.out.inside)
    replace B := Lib.hid (B.out.trans (b2.mono B.out.size))
    clear b2 k1 hin
    have z0 : W2.cell? ⟨w.heap.size + 1, 0, none⟩ = some (.int .i64 0) := L_r.out.cell 0
    have y0 : W2.frozen? ⟨w.heap.size + 1, 0, none⟩ = false := L_r.out.thawed 0
    have z1 : W2.cell? ⟨w.heap.size + 1, 1, none⟩ = some (.int .i64 0) := L_r.out.cell 1
    have y1 : W2.frozen? ⟨w.heap.size + 1, 1, none⟩ = false := L_r.out.thawed 1
    have z2 : W2.cell? ⟨w.heap.size + 1, 2, none⟩ = some (.int .i64 0) := L_r.out.cell 2
    have y2 : W2.frozen? ⟨w.heap.size + 1, 2, none⟩ = false := L_r.out.thawed 2
    have z3 : W2.cell? ⟨w.heap.size + 1, 3, none⟩ = some (.int .i64 0) := L_r.out.cell 3
    have y3 : W2.frozen? ⟨w.heap.size + 1, 3, none⟩ = false := L_r.out.thawed 3
    have z4 : W2.cell? ⟨w.heap.size + 1, 4, none⟩ = some (.slice none 0 0) := L_r.out.cell 4
    have y4 : W2.frozen? ⟨w.heap.size + 1, 4, none⟩ = false := L_r.out.thawed 4
    go_wp2
    refine bodyPost_ret (v := .agg #[.int .i64 3, .int .i64 0, .int .i64 0, .int .i64 0, .slice none 0 0]) (by simp [results, Tryz.results15, go_sem, z0, z1, z2, z3, z4]) rfl ?_
    refine ⟨none, 0, 0, [], by rw [HR.out], EntriesRes.nil _ _, by rw [HR.out]; rfl, by decide, ?_⟩
    repeat (with_reducible refine Below.setCell ?_ (by exact Nat.le_succ _) _)
    exact B.out

  obtain ⟨k, hk⟩ : ∃ k : Nat, id = (k : Int) := ⟨id.toNat, by omega⟩
  subst hk
  have hkn : k < n1 := by omega
  have hq : qs[k]? = some (qs[k]'(by omega)) := List.getElem?_eq_getElem (by omega)
  obtain ⟨q, hqq⟩ : ∃ q, q = qs[k]'(by omega) := ⟨_, rfl⟩
  rw [← hqq] at hq
  clear hqq
  have HQ := Lib.hid hq
  have hok := HG.out.P.P q (List.mem_of_getElem? hq)
  have j0 := HG.out.R.c k q hq
  have hqg : q.g < W1.heap.size := hok.L.inside
  have l1 : W1.cell? ⟨q.g, 1, none⟩ = some (.bool q.fr) := hok.L.cell 1
  have hfq := HFR.out k q hq
  have HVQ : Hid ((ns.map NV.val)[k]? = some (q.lv, q.ns, q.rt, q.vs)) := by show _ = _; rw [← HV.out, List.getElem?_map, hq]; rfl
  obtain ⟨hok0, hn5, hent, _, _⟩ := nodeF_zero hok.N
  have hlS : q.vs.length = q.n := hok.O.1.symm.trans hok.S.1
  have HOK := Lib.hid hok
  have HLE := Lib.hid (lens_of hent)
  have hd2 := hok0.1.1
  have hd3 := hok0.1.2
  have hn6 : q.n ≤ 8 := by omega
  have hn55 : q.n ≤ 6 := by omega
  clear hok hq hok0 hent hlS hin
  cases hfe : q.fr
  rotate_left
  · have HR : Hid (readR d (ns.map NV.val) fs (rs.map RV.val) (k : Int) = (4, 0, 0, 0, [])) := by
      have e : readF (ns.map NV.val).length fs (k : Int) = 4 := by rw [readF_in (by rw [HL.out]; omega), ← hfq, hfe]; rfl
      have := readC_none (id := (k : Int)) HZ.out (by rw [e]; decide)
      rwa [e] at this
    rw [hfe] at l1
    clear hfe hfq
    go_wp2_with fail
    refine (at_in G pb cp n1 q.g true k _ k1 hG hn40 hkn hpb j0 hqg l1).mono ?_
    rintro e W2 ⟨rfl, b2⟩
    replace L_r := Lib.hid (L_r.out.kept b2 L_r.out.inside)
    replace B := Lib.hid (B.out.trans (b2.mono B.out.size))
    clear b2 k1 j0 l1
    have z0 : W2.cell? ⟨w.heap.size + 1, 0, none⟩ = some (.int .i64 0) := L_r.out.cell 0
    have y0 : W2.frozen? ⟨w.heap.size + 1, 0, none⟩ = false := L_r.out.thawed 0
    have z1 : W2.cell? ⟨w.heap.size + 1, 1, none⟩ = some (.int .i64 0) := L_r.out.cell 1
    have y1 : W2.frozen? ⟨w.heap.size + 1, 1, none⟩ = false := L_r.out.thawed 1
    have z2 : W2.cell? ⟨w.heap.size + 1, 2, none⟩ = some (.int .i64 0) := L_r.out.cell 2
    have y2 : W2.frozen? ⟨w.heap.size + 1, 2, none⟩ = false := L_r.out.thawed 2
    have z3 : W2.cell? ⟨w.heap.size + 1, 3, none⟩ = some (.int .i64 0) := L_r.out.cell 3
    have y3 : W2.frozen? ⟨w.heap.size + 1, 3, none⟩ = false := L_r.out.thawed 3
    have z4 : W2.cell? ⟨w.heap.size + 1, 4, none⟩ = some (.slice none 0 0) := L_r.out.cell 4
    have y4 : W2.frozen? ⟨w.heap.size + 1, 4, none⟩ = false := L_r.out.thawed 4
    go_wp2
    refine bodyPost_ret (v := .agg #[.int .i64 4, .int .i64 0, .int .i64 0, .int .i64 0, .slice none 0 0]) (by simp [results, Tryz.results15, go_sem, z0, z1, z2, z3, z4]) rfl ?_
    refine ⟨none, 0, 0, [], by rw [HR.out], EntriesRes.nil _ _, by rw [HR.out]; rfl, by decide, ?_⟩
    repeat (with_reducible refine Below.setCell ?_ (by exact Nat.le_succ _) _)
    exact B.out

  have HR : Hid (readR d (ns.map NV.val) fs (rs.map RV.val) (k : Int) = (0, q.lv, q.ns, q.rt, q.vs)) :=
    readC_yes (v := (q.lv, q.ns, q.rt, q.vs)) HZ.out (by rw [readF_in (by rw [HL.out]; omega), ← hfq, hfe]; rfl) (by simpa using HVQ.out)
  rw [hfe] at l1
  clear hfe hfq
  go_wp2_with fail
  refine (at_in G pb cp n1 q.g false k _ k1 hG hn40 hkn hpb j0 hqg l1).mono ?_
  rintro e W2 ⟨rfl, b2⟩
  replace L_r := Lib.hid (L_r.out.kept b2 L_r.out.inside)
  replace HOK := Lib.hid (HOK.out.kept b2)
  replace B := Lib.hid (B.out.trans (b2.mono B.out.size))
  have sW2 := b2.size
  clear b2 k1 j0 l1 HG
  have l0 : W2.cell? ⟨q.g, 0, none⟩ = some (.iface (hty q.lv) (.agg #[.int .i64 d, .slice q.A q.n q.c, .int .i64 q.lv, .int .i64 q.ns, .int .i64 q.rt])) := HOK.out.L.cell 0
  have hm1 := hty_node q.lv d q.ns q.rt q.A q.n q.c
  go_wp2_with fail
  refine (bodyNode_any d q.lv q.ns q.rt q.n q.c d.toNat q.A q.vs q.ss _ HOK.out.S HOK.out.O hn6 HLE.out (by omega) (by omega)).mono ?_
  rintro e W3 ⟨A', c', es, rfl, her, hvs, b3⟩
  have HER := Lib.hid her
  have HVS := Lib.hid hvs
  replace L_r := Lib.hid (L_r.out.kept b3 L_r.out.inside)
  replace B := Lib.hid (B.out.trans (b3.mono B.out.size))
  clear b3 l0 hm1 her hvs
  have z0 : W3.cell? ⟨w.heap.size + 1, 0, none⟩ = some (.int .i64 0) := L_r.out.cell 0
  have y0 : W3.frozen? ⟨w.heap.size + 1, 0, none⟩ = false := L_r.out.thawed 0
  have z1 : W3.cell? ⟨w.heap.size + 1, 1, none⟩ = some (.int .i64 0) := L_r.out.cell 1
  have y1 : W3.frozen? ⟨w.heap.size + 1, 1, none⟩ = false := L_r.out.thawed 1
  have z2 : W3.cell? ⟨w.heap.size + 1, 2, none⟩ = some (.int .i64 0) := L_r.out.cell 2
  have y2 : W3.frozen? ⟨w.heap.size + 1, 2, none⟩ = false := L_r.out.thawed 2
  have z3 : W3.cell? ⟨w.heap.size + 1, 3, none⟩ = some (.int .i64 0) := L_r.out.cell 3
  have y3 : W3.frozen? ⟨w.heap.size + 1, 3, none⟩ = false := L_r.out.thawed 3
  have z4 : W3.cell? ⟨w.heap.size + 1, 4, none⟩ = some (.slice none 0 0) := L_r.out.cell 4
  have y4 : W3.frozen? ⟨w.heap.size + 1, 4, none⟩ = false := L_r.out.thawed 4
  go_wp2
  refine bodyPost_ret (v := .agg #[.int .i64 0, .int .i64 q.lv, .int .i64 q.ns, .int .i64 q.rt, .slice A' q.n c']) (by simp [results, Tryz.results15, go_sem, z0, z1, z2, z3, z4]) rfl ?_
  refine ⟨A', q.n, c', es, by rw [HR.out], ?_, by rw [HR.out]; exact HVS.out, hn55, ?_⟩
  · refine EntriesRes.lower (base := W2.heap.size) ?_ (by omega)
    with_reducible (repeat (first | exact HER.out | refine EntriesRes.farLow ?_ ?_ _))
    all_goals (show w.heap.size + 1 < W2.heap.size; omega)
  · repeat (with_reducible refine Below.setCell ?_ (by exact Nat.le_succ _) _)
    exact B.out

end Go.Proofs.YtpgoildfjkokiaaGreat
