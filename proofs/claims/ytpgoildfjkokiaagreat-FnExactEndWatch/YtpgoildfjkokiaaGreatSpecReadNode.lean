/- The walk of spec.ArenaFault. No condition but lengths. -/
import Derived.Test.YtpgoildfjkokiaaGreatSpecArena2
import Derived.Test.YtpgoildfjkokiaaGreatSpecNodeFault
import Derived.Test.YtpgoildfjkokiaaGreatSpecWithoutEntry
import Derived.Test.YtpgoildfjkokiaaGreatImplWithout
namespace Go.Proofs.YtpgoildfjkokiaaGreat
open Go.RowKit

theorem drewN_two (w : World) (a b : Nat) : ∃ m, (w.drewN a).drewN b = w.drewN m := ⟨a + b, by simp [World.drewN, Nat.add_assoc]⟩
theorem l1Has_q (m : Nat) (v : Int) (n c lo : Nat) (A : Option Addr) (xs : List Int) (w : World) (r : Bool) (hr : xs.contains v = r) (hp : Ints w lo A n xs) (hn : n ≤ maxLen) :
    Calls Tryz.prog 83 #[.slice A n c, .int .i64 v] (w.drewN m) fun e w' => e = .returned (.bool r) ∧ ∃ m', w' = w.drewN m' := by
  refine (l1Has_any v n c lo A xs (w.drewN m) hp hn).mono ?_
  rintro e w' ⟨rfl, q, rfl⟩
  obtain ⟨m', h⟩ := drewN_two w m q
  exact ⟨by rw [hr], m', h⟩

theorem take_has_no {xs : List Int} {k : Nat} {v : Int} (h : ∀ (j : Nat) (x : Int), j < k → xs[j]? = some x → x ≠ v) : (xs.take k).contains v = false := by
  refine contains_none fun j x hj => ?_
  rw [List.getElem?_take] at hj
  split at hj
  · exact h j x (by assumption) hj
  · simp at hj
theorem take_has_yes {xs : List Int} {k j : Nat} {v : Int} (hj : j < k) (h : xs[j]? = some v) : (xs.take k).contains v = true := by
  refine contains_at (k := j) ?_
  rw [List.getElem?_take, if_pos hj]; exact h

set_option maxRecDepth 100000 in
set_option maxHeartbeats 12800000 in
theorem specArenaFault_any (d : Int) (n1 c1 n2 c2 n3 c3 : Nat) (A1 A2 A3 : Option Addr) (ns : List NV) (fs : List Int) (rs : List RV) (w : World) (hp : ArenaL w A1 A2 A3 n1 n2 n3 ns fs rs) (hc : n1 ≤ c1) (hcm : c1 ≤ maxLen) :
    Calls Tryz.prog 44 #[.agg #[.int .i64 d, .slice A1 n1 c1, .slice A2 n2 c2, .slice A3 n3 c3]] w fun e w' => e = .returned (.int .i64 (arenaF d (ns.map NV.val) fs (rs.map RV.val))) ∧ Below w.heap.size w w' := by
  have HP := Lib.hid hp
  have m1 := hp.m1
  have m2 := hp.m2
  have m3 := hp.m3
  have HL1 : Hid ((ns.map NV.val).length = n1) := by show List.length _ = n1; rw [List.length_map]; exact hp.N.1
  have HL3 : Hid ((rs.map RV.val).length = n3) := by show List.length _ = n3; rw [List.length_map]; exact hp.R.1
  clear hp
  have m1' := m1
  have m2' := m2
  have m3' := m3
  unfold maxLen at m1' m2' m3'
  have B := Lib.hid (below_alloc w (.cells #[.int .i64 d, .slice A1 n1 c1, .slice A2 n2 c2, .slice A3 n3 c3] 26))
  have L_a := Lib.hid (Lies.new w 26 #[.int .i64 d, .slice A1 n1 c1, .slice A2 n2 c2, .slice A3 n3 c3])
  by_cases hd : 2 ≤ d ∧ d ≤ 3
  rotate_left
  · have HF := Lib.hid (arenaF_dim (ns := ns.map NV.val) (fs := fs) (rs := rs.map RV.val) hd)
    go_enter Tryz.func44, Tryz.ntmps44
    go_wp2_with fail
    refine (l1In_no _ _ _ _ hd).mono ?_
    rintro e w' ⟨rfl, rfl⟩
    go_wp2
    go_ret
    exact ⟨ret_i64 HF.out.symm, B.out⟩
  by_cases hm : 4 ≤ n1 ∧ n1 ≤ 40
  rotate_left
  · have HF := Lib.hid (arenaF_many (fs := fs) (rs := rs.map RV.val) hd (show ¬ (4 ≤ (ns.map NV.val).length ∧ (ns.map NV.val).length ≤ 40) by rw [HL1.out]; exact hm))
    go_enter Tryz.func44, Tryz.ntmps44
    go_wp2_with fail
    refine (l1In_yes _ _ _ _ hd.1 hd.2).mono ?_
    rintro e w' ⟨rfl, rfl⟩
    by_cases h4 : n1 < 4
    · have h4' : (n1 : Int) < 4 := by omega
      go_wp2
      go_ret
      exact ⟨ret_i64 HF.out.symm, B.out⟩
    · have h4' : ¬ (n1 : Int) < 4 := by omega
      have h40 : (40 : Int) < (n1 : Int) := by omega
      go_wp2
      go_ret
      exact ⟨ret_i64 HF.out.symm, B.out⟩
  have HD := Lib.hid hd
  have HM : Hid (4 ≤ (ns.map NV.val).length ∧ (ns.map NV.val).length ≤ 40) := by show _ ∧ _; rw [HL1.out]; exact hm
  have h4' : ¬ (n1 : Int) < 4 := by omega
  have h40 : ¬ (40 : Int) < (n1 : Int) := by omega
  go_enter Tryz.func44, Tryz.ntmps44
  go_wp2_with fail
  refine (l1In_yes _ _ _ _ hd.1 hd.2).mono ?_
  rintro e w' ⟨rfl, rfl⟩
  clear hd
  go_wp2
  clear h4' h40
  go_loopw [3] (fun i wr => ∃ k : Nat, k ≤ n1 ∧ i = .int .i64 k ∧ Hid (Below w.heap.size w wr) ∧ Hid (Lies wr w.heap.size 26 #[.int .i64 d, .slice A1 n1 c1, .slice A2 n2 c2, .slice A3 n3 c3]) ∧ Hid (∀ (j : Nat) (u : NVal), j < k → (ns.map NV.val)[j]? = some u → nodeFv d u = 0)) (fun i _ => n1 - (intOf i).toNat)
  case atStart => exact ⟨0, Nat.zero_le _, rfl, B, L_a, fun j u hj => absurd hj (Nat.not_lt_zero _)⟩
  case round =>
    obtain ⟨k, hk', rfl, hB, hN, hA⟩ := hrel
    have q1 : wr.cell? ⟨w.heap.size, 1, none⟩ = some (.slice A1 n1 c1) := hN.out.cell 1
    by_cases hlt : k < n1
    · obtain ⟨b, o, lv, nn, rt, X1, k1, e1, es, rfl, hb, d0, d1, d2, d3, hx, hE, hk1⟩ := HP.out.N.cellAt hlt
      have k_0 : wr.cell? ⟨w.heap.size, 1, none⟩ = some (.slice (some ⟨b, o, none⟩) n1 c1) ∧ wr.cell? ⟨w.heap.size, 0, none⟩ = some (.int .i64 d) ∧ wr.cell? ⟨b, o + k * 4, none⟩ = some (.int .i64 lv) ∧ wr.cell? ⟨b, o + k * 4 + 1, none⟩ = some (.int .i64 nn) ∧ wr.cell? ⟨b, o + k * 4 + 2, none⟩ = some (.int .i64 rt) ∧ wr.cell? ⟨b, o + k * 4 + 3, none⟩ = some (.slice X1 k1 e1) := ⟨hN.out.cell 1, hN.out.cell 0, (hB.out.cell (p := ⟨b, o + k * 4, none⟩) hb).trans d0, (hB.out.cell (p := ⟨b, o + k * 4 + 1, none⟩) hb).trans d1, (hB.out.cell (p := ⟨b, o + k * 4 + 2, none⟩) hb).trans d2, (hB.out.cell (p := ⟨b, o + k * 4 + 3, none⟩) hb).trans d3⟩
      have kb := Nat.lt_of_lt_of_le hb hB.out.size
      have hlt' : (k : Int) < (n1 : Int) := by omega
      have HX := Lib.hid (nval_get hx.out)
      clear d0 d1 d2 d3 hx
      go_wp2
      go_region_held3 (fun w' => w'.cell? ⟨w.heap.size, 1, none⟩ = some (.slice (some ⟨b, o, none⟩) n1 c1) ∧ w'.cell? ⟨w.heap.size, 0, none⟩ = some (.int .i64 d) ∧ w'.cell? ⟨b, o + k * 4, none⟩ = some (.int .i64 lv) ∧ w'.cell? ⟨b, o + k * 4 + 1, none⟩ = some (.int .i64 nn) ∧ w'.cell? ⟨b, o + k * 4 + 2, none⟩ = some (.int .i64 rt) ∧ w'.cell? ⟨b, o + k * 4 + 3, none⟩ = some (.slice X1 k1 e1))
        (first | (simp [go_sem, k_0]; done) | with_reducible exact k_1)
        (first
          | (go_at_call 80; refine (specNodeFault_any lv nn rt d k1 e1 X1 es _ (hE.out.kept hB.out.drew) hk1).mono ?_
             rintro e W1 ⟨rfl, b1d⟩
             have b1 := below_drawn b1d
             have k_1 : W1.cell? ⟨w.heap.size, 1, none⟩ = some (.slice (some ⟨b, o, none⟩) n1 c1) ∧ W1.cell? ⟨w.heap.size, 0, none⟩ = some (.int .i64 d) ∧ W1.cell? ⟨b, o + k * 4, none⟩ = some (.int .i64 lv) ∧ W1.cell? ⟨b, o + k * 4 + 1, none⟩ = some (.int .i64 nn) ∧ W1.cell? ⟨b, o + k * 4 + 2, none⟩ = some (.int .i64 rt) ∧ W1.cell? ⟨b, o + k * 4 + 3, none⟩ = some (.slice X1 k1 e1) := ⟨(hN.out.kept b1 hN.out.inside).cell 1, (hN.out.kept b1 hN.out.inside).cell 0, (b1.cell (p := ⟨b, o + k * 4, none⟩) kb).trans k_0.2.2.1, (b1.cell (p := ⟨b, o + k * 4 + 1, none⟩) kb).trans k_0.2.2.2.1, (b1.cell (p := ⟨b, o + k * 4 + 2, none⟩) kb).trans k_0.2.2.2.2.1, (b1.cell (p := ⟨b, o + k * 4 + 3, none⟩) kb).trans k_0.2.2.2.2.2⟩
             clear b1d))
      have hB1 := Lib.hid (hB.out.trans (b1.mono hB.out.size))
      have hN1 := Lib.hid (hN.out.kept b1 hN.out.inside)
      clear k_0 k_1 b1 q1
      by_cases hz : nodeF lv nn rt (es.map EV.val) d = 0
      · have hz1 : (nodeF lv nn rt (es.map EV.val) d != 0) = false := by simp [hz]
        have hA' := Lib.hid (upto_next (P := fun u => nodeFv d u = 0) hA.out HX.out hz)
        clear hA hz hB hN
        go_wp2
        go_roundw
        case rel => exact ⟨k + 1, by omega, by go_num, hB1, hN1, hA'⟩
        case measure => simp [intOf]; omega
      · have hz1 : (nodeF lv nn rt (es.map EV.val) d != 0) = true := by simpa using hz
        have HS := Lib.hid (firstNZ_stop (f := nodeFv d) hA.out HX.out hz)
        have HF : Hid (arenaF d (ns.map NV.val) fs (rs.map RV.val) = nodeF lv nn rt (es.map EV.val) d) := by
          show arenaF _ _ _ _ = _
          rw [arenaF_node HD.out HM.out (by rw [HS.out]; exact hz), HS.out]; rfl
        clear hA hz hB hN HS
        go_wp2
        go_ret
        exact ⟨ret_i64 HF.out.symm, hB1.out⟩
    · have HN1 := Lib.hid (firstNZ_all (f := nodeFv d) (upto_end hA.out (by rw [HL1.out]; omega)))
      clear hA
      go_wp2_with fail
      refine (l4Free_any d w.heap.size n1 c1 n2 c2 n3 c3 A1 A2 A3 ns fs rs _ hN.out (HP.out.kept hB.out) (by omega) hc hcm).mono ?_
      rintro e W1 ⟨rfl, b1⟩
      have hB1 := Lib.hid (hB.out.trans (b1.mono hB.out.size))
      have hN2 := Lib.hid (hN.out.kept b1 hN.out.inside)
      clear b1 q1 hB hN
      by_cases hz : freeF (ns.map NV.val) fs = 0
      rotate_left
      · have hz1 : (freeF (ns.map NV.val) fs != 0) = true := by simpa using hz
        have HF := Lib.hid (arenaF_free (rs := rs.map RV.val) HD.out HM.out HN1.out hz)
        go_wp2
        go_ret
        exact ⟨ret_i64 HF.out.symm, hB1.out⟩
      have hz1 : (freeF (ns.map NV.val) fs != 0) = false := by simp [hz]
      have HZ := Lib.hid hz
      clear hz
      go_wp2
      clear hk' hlt
      go_loopw [6] (fun i wr => ∃ k : Nat, k ≤ n3 ∧ i = .int .i64 k ∧ Hid (Below w.heap.size w wr) ∧ Hid (Lies wr w.heap.size 26 #[.int .i64 d, .slice A1 n1 c1, .slice A2 n2 c2, .slice A3 n3 c3]) ∧ Hid (∀ (j : Nat) (u : RVal), j < k → (rs.map RV.val)[j]? = some u → retF n1 u = 0)) (fun i _ => n3 - (intOf i).toNat)
      case atStart => exact ⟨0, Nat.zero_le _, rfl, hB1, hN2, fun j u hj => absurd hj (Nat.not_lt_zero _)⟩
      case round =>
        obtain ⟨k, hk', rfl, hB, hN, hA⟩ := hrel
        have q1 : wr.cell? ⟨w.heap.size, 1, none⟩ = some (.slice A1 n1 c1) := hN.out.cell 1
        have q3 : wr.cell? ⟨w.heap.size, 3, none⟩ = some (.slice A3 n3 c3) := hN.out.cell 3
        by_cases hlt : k < n3
        · obtain ⟨b, o, id, X1, k1, e1, ws, rfl, hb, d0, d1, hx, hI, hk1⟩ := HP.out.R.cellAt hlt
          have e0 : wr.cell? ⟨b, o + k * 2, none⟩ = some (.int .i64 id) := (hB.out.cell (p := ⟨b, o + k * 2, none⟩) hb).trans d0
          have e2 : wr.cell? ⟨b, o + k * 2 + 1, none⟩ = some (.slice X1 k1 e1) := (hB.out.cell (p := ⟨b, o + k * 2 + 1, none⟩) hb).trans d1
          have HX := Lib.hid (rval_get hx.out)
          have HW : Hid (ws.length = k1) := hI.out.1
          clear d0 d1 hx
          have stop : Hid (∀ x : Int, retF n1 (id, ws) = x → x ≠ 0 → arenaF d (ns.map NV.val) fs (rs.map RV.val) = x) := by
            intro x hx0 hx1
            have HS := firstNZ_stop (f := retF n1) hA.out HX.out (show retF n1 (id, ws) ≠ 0 by rw [hx0]; exact hx1)
            rw [arenaF_ret HD.out HM.out HN1.out HZ.out (by rw [HL1.out, HS]; show retF n1 (id, ws) ≠ 0; rw [hx0]; exact hx1), HL1.out, HS]; exact hx0
          by_cases hr : 0 ≤ id ∧ id ≤ (n1 : Int) - 1
          rotate_left
          · have HF := Lib.hid (stop.out 3 (retF_out hr) (by decide))
            clear stop hA
            go_wp2_with fail
            refine (l4Place_no _ _ _ _ _ _ q1 m1 hr).mono ?_
            rintro e w' ⟨rfl, rfl⟩
            go_wp2
            go_ret
            exact ⟨ret_i64 HF.out.symm, hB.out⟩
          go_wp2_with fail
          refine (l4Place_yes _ _ _ _ _ _ q1 m1 hr).mono ?_
          rintro e w' ⟨rfl, rfl⟩
          by_cases h0 : k1 = 0
          · have HF := Lib.hid (stop.out 2 (retF_none hr (by rw [HW.out]; exact h0)) (by decide))
            have h0' : ((k1 : Int) == 0) = true := by simp [h0]
            clear stop hA hr
            go_wp2
            go_ret
            exact ⟨ret_i64 HF.out.symm, hB.out⟩
          have h0' : ((k1 : Int) == 0) = false := by simp [h0]
          have HRW := Lib.hid (retF_watch (n := n1) (r := (id, ws)) hr (by show ¬ ws.length = 0; rw [HW.out]; exact h0))
          clear hr h0
          go_wp2_with fail
          refine (l4Watch_any _ _ _ _ ws _ (hI.out.kept hB.out) hk1).mono ?_
          rintro e W2 ⟨rfl, b2⟩
          have hB2 := Lib.hid (hB.out.trans (b2.mono hB.out.size))
          have hN3 := Lib.hid (hN.out.kept b2 hN.out.inside)
          clear b2 q1 q3 e0 e2 hB hN h0'
          by_cases hz : watchF ws = 0
          · have hz1 : (watchF ws != 0) = false := by simp [hz]
            have hA' := Lib.hid (upto_next (P := fun u => retF n1 u = 0) hA.out HX.out (HRW.out.trans hz))
            clear hA hz stop
            go_wp2
            go_roundw
            case rel => exact ⟨k + 1, by omega, by go_num, hB2, hN3, hA'⟩
            case measure => simp [intOf]; omega
          · have hz1 : (watchF ws != 0) = true := by simpa using hz
            have HF := Lib.hid (stop.out (watchF ws) HRW.out hz)
            clear hA hz stop
            go_wp2
            go_ret
            exact ⟨ret_i64 HF.out.symm, hB2.out⟩
        · have HR0 := Lib.hid (firstNZ_all (f := retF n1) (upto_end hA.out (by rw [HL3.out]; omega)))
          have HT : Hid (arenaF d (ns.map NV.val) fs (rs.map RV.val) = if takenF fs ((rs.map RV.val).map (·.1)) then 6 else 0) := arenaF_taken HD.out HM.out HN1.out HZ.out (by rw [HL1.out]; exact HR0.out)
          clear hA hB1 hN2
          go_wp2
          clear q1 q3 hk' hlt
          go_loopw [8] (fun i wr => ∃ k : Nat, k ≤ n3 ∧ i = .int .i64 k ∧ Hid (Below w.heap.size w wr) ∧ Hid (Lies wr w.heap.size 26 #[.int .i64 d, .slice A1 n1 c1, .slice A2 n2 c2, .slice A3 n3 c3]) ∧ Hid (∀ (j : Nat) (x : Int), j < k → ((rs.map RV.val).map (·.1))[j]? = some x → fs.contains x = false ∧ (((rs.map RV.val).map (·.1)).take j).contains x = false)) (fun i _ => n3 - (intOf i).toNat)
          case atStart => exact ⟨0, Nat.zero_le _, rfl, hB, hN, fun j u hj => absurd hj (Nat.not_lt_zero _)⟩
          case round =>
            obtain ⟨k, hk', rfl, hB, hN, hA⟩ := hrel
            have q3 : wr.cell? ⟨w.heap.size, 3, none⟩ = some (.slice A3 n3 c3) := hN.out.cell 3
            by_cases hlt : k < n3
            · obtain ⟨b, o, id, X1, k1, e1, ws, rfl, hb, d0, d1, hx, hI, hk1⟩ := HP.out.R.cellAt hlt
              have D0 := Lib.hid d0
              have HX := Lib.hid (rid_get hx.out)
              clear d0 d1 hx hI
              go_wp2
              clear q3
              go_loopw [9] (fun i wq => ∃ j : Nat, j ≤ k ∧ i = .int .i64 j ∧ Hid (Below w.heap.size w wq) ∧ Hid (Lies wq w.heap.size 26 #[.int .i64 d, .slice A1 n1 c1, .slice A2 n2 c2, .slice (some ⟨b, o, none⟩) n3 c3]) ∧ Hid (∀ (p : Nat) (x : Int), p < j → ((rs.map RV.val).map (·.1))[p]? = some x → x ≠ id)) (fun i _ => k - (intOf i).toNat)
              case atStart => exact ⟨0, Nat.zero_le _, rfl, hB, hN, fun j u hj => absurd hj (Nat.not_lt_zero _)⟩
              case round =>
                have hrr := True.intro
                obtain ⟨j, hj', rfl, hB2, hN2, hC⟩ := hrel
                have q3 : wr.cell? ⟨w.heap.size, 3, none⟩ = some (.slice (some ⟨b, o, none⟩) n3 c3) := hN2.out.cell 3
                have dk : wr.cell? ⟨b, o + k * 2, none⟩ = some (.int .i64 id) := (hB2.out.cell (p := ⟨b, o + k * 2, none⟩) hb).trans D0.out
                by_cases hj : j < k
                · obtain ⟨b', o', id2, X2, k2, e2, ws2, hA', hb2, d0, _, hx2, _, _⟩ := HP.out.R.cellAt (show j < n3 by omega)
                  injection hA' with hA'
                  injection hA' with hA1 hA2
                  subst hA1 hA2
                  have dj : wr.cell? ⟨b, o + j * 2, none⟩ = some (.int .i64 id2) := (hB2.out.cell (p := ⟨b, o + j * 2, none⟩) hb).trans d0
                  have HX2 := Lib.hid (rid_get hx2.out)
                  have hjn : (j : Int) < (n3 : Int) := by omega
                  have hkn : (k : Int) < (n3 : Int) := by omega
                  clear d0 hx2
                  by_cases he : id2 = id
                  · subst he
                    have hE : (id2 == id2) = true := by simp
                    have HF : Hid (arenaF d (ns.map NV.val) fs (rs.map RV.val) = 6) := by
                      show arenaF _ _ _ _ = _
                      rw [HT.out, takenF_at HX.out (Or.inr (take_has_yes hj HX2.out))]; rfl
                    clear hA hC
                    go_wp2
                    go_quiet (fail)
                    go_wp2
                    go_ret
                    exact ⟨ret_i64 HF.out.symm, below_draws hB2.out _⟩
                  · have hE : (id2 == id) = false := by simpa using he
                    have hC' := Lib.hid (upto_next (P := fun x => x ≠ id) hC.out HX2.out he)
                    clear hC he
                    go_wp2
                    go_quiet (fail)
                    go_wp2
                    go_roundw
                    case rel => exact ⟨j + 1, by omega, by go_num, below_draws hB2.out _, hN2.out.draws _, hC'⟩
                    case measure => simp [intOf]; omega
                · have hjk : j = k := by omega
                  subst hjk
                  have HNT := Lib.hid (take_has_no hC.out)
                  have q2 : wr.cell? ⟨w.heap.size, 2, none⟩ = some (.slice A2 n2 c2) := hN2.out.cell 2
                  have hkn : (j : Int) < (n3 : Int) := by omega
                  have I2 := Lib.hid (HP.out.F.kept hB2.out)
                  clear hC hB hN
                  cases hh : fs.contains id
                  · have hA' := Lib.hid (uptoAt_next (P := fun j x => fs.contains x = false ∧ (((rs.map RV.val).map (·.1)).take j).contains x = false) hA.out HX.out ⟨hh, HNT.out⟩)
                    have HH := Lib.hid hh
                    clear hA hh
                    go_wp2
                    go_quiet ((go_at_call 83; exact l1Has_q _ _ _ _ _ _ fs _ false HH.out I2.out m2))
                    go_wp2
                    go_roundw
                    case rel => exact ⟨j + 1, by omega, by go_num, below_draws hB2.out _, hN2.out.draws _, hA'⟩
                    case measure => simp [intOf]; omega
                  · have HF : Hid (arenaF d (ns.map NV.val) fs (rs.map RV.val) = 6) := by
                      show arenaF _ _ _ _ = _
                      rw [HT.out, takenF_at HX.out (Or.inl hh)]; rfl
                    have HH := Lib.hid hh
                    clear hA hh
                    go_wp2
                    go_quiet ((go_at_call 83; exact l1Has_q _ _ _ _ _ _ fs _ true HH.out I2.out m2))
                    go_wp2
                    go_ret
                    exact ⟨ret_i64 HF.out.symm, below_draws hB2.out _⟩
            · have HF : Hid (arenaF d (ns.map NV.val) fs (rs.map RV.val) = 0) := by
                show arenaF _ _ _ _ = _
                rw [HT.out, takenF_none (fun j x hx => hA.out j x (by have := (List.getElem?_eq_some_iff.1 hx).1; rw [List.length_map, HL3.out] at this; omega) hx)]; rfl
              clear hA
              go_wp2
              go_ret
              exact ⟨ret_i64 HF.out.symm, hB.out⟩

end Go.Proofs.YtpgoildfjkokiaaGreat

/- The walks of spec.l3Copy at an offset, spec.l4Read and spec.ReadNode. -/
namespace Go.Proofs.YtpgoildfjkokiaaGreat
open Go.RowKit

set_option maxHeartbeats 1600000 in
theorem l3CopyAt_any (lv ns rt : Int) (b o n c dd : Nat) (A : Option Addr) (ps : List EV) (w : World) (hb : b < w.heap.size) (k0 : w.cell? ⟨b, o, none⟩ = some (.int .i64 lv)) (k1 : w.cell? ⟨b, o + 1, none⟩ = some (.int .i64 ns)) (k2 : w.cell? ⟨b, o + 2, none⟩ = some (.int .i64 rt)) (k3 : w.cell? ⟨b, o + 3, none⟩ = some (.slice A n c))
    (hp : Entries w A n ps) (hn : n ≤ 6) (hd : 0 < dd) (hd3 : dd ≤ 3) (hl : LensE dd (ps.map EV.val)) :
    Calls Tryz.prog 46 #[.pointer (some ⟨b, o, none⟩)] w fun e w' => ∃ A' c' qs, e = .returned (.agg #[.int .i64 lv, .int .i64 ns, .int .i64 rt, .slice A' n c']) ∧ Rows4 w' (w.heap.size + 1 + 1) n qs (.slice A' n c') ∧ qs.map EV.val = ps.map EV.val ∧ Below w.heap.size w w' := by
  have HP := Lib.hid hp
  have HE := Lib.hid hl
  clear hp hl
  have B := Lib.hid (below_alloc w (.cells #[.int .i64 0, .int .i64 0, .int .i64 0, .slice none 0 0] 42))
  have e0 : (w.alloc (.cells #[.int .i64 0, .int .i64 0, .int .i64 0, .slice none 0 0] 42)).cell? ⟨b, o, none⟩ = some (.int .i64 lv) := (B.out.cell (p := ⟨b, o, none⟩) hb).trans k0
  have e1 : (w.alloc (.cells #[.int .i64 0, .int .i64 0, .int .i64 0, .slice none 0 0] 42)).cell? ⟨b, o + 1, none⟩ = some (.int .i64 ns) := (B.out.cell (p := ⟨b, o + 1, none⟩) hb).trans k1
  have e2 : (w.alloc (.cells #[.int .i64 0, .int .i64 0, .int .i64 0, .slice none 0 0] 42)).cell? ⟨b, o + 2, none⟩ = some (.int .i64 rt) := (B.out.cell (p := ⟨b, o + 2, none⟩) hb).trans k2
  have e3 : (w.alloc (.cells #[.int .i64 0, .int .i64 0, .int .i64 0, .slice none 0 0] 42)).cell? ⟨b, o + 3, none⟩ = some (.slice A n c) := (B.out.cell (p := ⟨b, o + 3, none⟩) hb).trans k3
  replace B := Lib.hid (B.out.alloc B.out.size (.cells #[.int .i64 lv, .int .i64 ns, .int .i64 rt, .slice A n c] 42))
  have g3 : ((w.alloc (.cells #[.int .i64 0, .int .i64 0, .int .i64 0, .slice none 0 0] 42)).alloc (.cells #[.int .i64 lv, .int .i64 ns, .int .i64 rt, .slice A n c] 42)).cell? ⟨b, o + 3, none⟩ = some (.slice A n c) := (B.out.cell (p := ⟨b, o + 3, none⟩) hb).trans k3
  clear k0 k1 k2 k3
  have L_r := Lib.hid ((Lies.new w 42 #[.int .i64 0, .int .i64 0, .int .i64 0, .slice none 0 0]).alloc (.cells #[.int .i64 lv, .int .i64 ns, .int .i64 rt, .slice A n c] 42))
  have L_o := Lib.hid (Lies.new (w.alloc (.cells #[.int .i64 0, .int .i64 0, .int .i64 0, .slice none 0 0] 42)) 42 #[.int .i64 lv, .int .i64 ns, .int .i64 rt, .slice A n c])
  simp only [World.size_alloc] at L_o
  go_enter Tryz.func46, Tryz.ntmps46
  go_wp2_with fail
  refine (l3Entries_any n c dd A ps _ (HP.out.kept B.out) hn hd hd3 HE.out).mono ?_
  rintro e W1 ⟨v, qs, rfl, hC, vq⟩
  have hcb := hC.b
  have hrow := hC.rows
  simp only [World.size_alloc] at hrow
  replace L_r := Lib.hid (L_r.out.kept hcb L_r.out.inside)
  replace L_o := Lib.hid (L_o.out.kept hcb L_o.out.inside)
  replace B := Lib.hid (B.out.trans (hcb.mono B.out.size))
  obtain ⟨A', c', rfl, _⟩ := hrow.entries
  have RW := Lib.hid hrow
  have VQ := Lib.hid vq
  clear hC hcb hrow vq e0 e1 e2 e3 g3
  have y0 : W1.cell? ⟨w.heap.size + 1, 0, none⟩ = some (.int .i64 lv) := L_o.out.cell 0
  have u0 : W1.frozen? ⟨w.heap.size + 1, 0, none⟩ = false := L_o.out.thawed 0
  have y1 : W1.cell? ⟨w.heap.size + 1, 1, none⟩ = some (.int .i64 ns) := L_o.out.cell 1
  have u1 : W1.frozen? ⟨w.heap.size + 1, 1, none⟩ = false := L_o.out.thawed 1
  have y2 : W1.cell? ⟨w.heap.size + 1, 2, none⟩ = some (.int .i64 rt) := L_o.out.cell 2
  have u2 : W1.frozen? ⟨w.heap.size + 1, 2, none⟩ = false := L_o.out.thawed 2
  have y3 : W1.cell? ⟨w.heap.size + 1, 3, none⟩ = some (.slice A n c) := L_o.out.cell 3
  have u3 : W1.frozen? ⟨w.heap.size + 1, 3, none⟩ = false := L_o.out.thawed 3
  have z0 : W1.cell? ⟨w.heap.size, 0, none⟩ = some (.int .i64 0) := L_r.out.cell 0
  have f0 : W1.frozen? ⟨w.heap.size, 0, none⟩ = false := L_r.out.thawed 0
  have z1 : W1.cell? ⟨w.heap.size, 1, none⟩ = some (.int .i64 0) := L_r.out.cell 1
  have f1 : W1.frozen? ⟨w.heap.size, 1, none⟩ = false := L_r.out.thawed 1
  have z2 : W1.cell? ⟨w.heap.size, 2, none⟩ = some (.int .i64 0) := L_r.out.cell 2
  have f2 : W1.frozen? ⟨w.heap.size, 2, none⟩ = false := L_r.out.thawed 2
  have z3 : W1.cell? ⟨w.heap.size, 3, none⟩ = some (.slice none 0 0) := L_r.out.cell 3
  have f3 : W1.frozen? ⟨w.heap.size, 3, none⟩ = false := L_r.out.thawed 3
  go_wp2
  refine bodyPost_ret (v := .agg #[.int .i64 lv, .int .i64 ns, .int .i64 rt, .slice A' n c']) (by simp [results, Tryz.results46, go_sem, z0, z1, z2, z3]) rfl ⟨A', c', qs, rfl, ?_, VQ.out, ?_⟩
  · with_reducible (repeat (first | exact RW.out | refine Rows4.far ?_ ?_ _))
    all_goals (first | (show w.heap.size + 1 < _; omega) | (show w.heap.size < _; omega))
  · with_reducible (repeat (first | exact B.out | refine Below.setCell ?_ ?_ _))
    all_goals (first | (show w.heap.size ≤ w.heap.size + 1; omega) | (show w.heap.size ≤ w.heap.size; omega))

/-- What is asked of a place that is read. -/
def readF (n : Nat) (fs : List Int) (id : Int) : Int := if 0 ≤ id ∧ id ≤ (n : Int) - 1 then (if fs.contains id then 4 else 0) else 3
theorem readF_out {n : Nat} {fs : List Int} {id : Int} (h : ¬ (0 ≤ id ∧ id ≤ (n : Int) - 1)) : readF n fs id = 3 := by unfold readF; rw [if_neg h]
theorem readF_in {n : Nat} {fs : List Int} {id : Int} (h : 0 ≤ id ∧ id ≤ (n : Int) - 1) : readF n fs id = if fs.contains id then 4 else 0 := by unfold readF; rw [if_pos h]
theorem readF_zero {n : Nat} {fs : List Int} {id : Int} (h : readF n fs id = 0) : (0 ≤ id ∧ id ≤ (n : Int) - 1) ∧ fs.contains id = false := by
  unfold readF at h
  split at h
  · rename_i h1
    cases hc : fs.contains id
    · exact ⟨h1, rfl⟩
    · rw [hc] at h; simp at h
  · omega

set_option maxHeartbeats 1600000 in
theorem l4Read_any (b n1 c1 n2 c2 : Nat) (A1 A2 : Option Addr) (fs : List Int) (id : Int) (w : World) (hb : b < w.heap.size) (k1 : w.cell? ⟨b, 1, none⟩ = some (.slice A1 n1 c1)) (k2 : w.cell? ⟨b, 2, none⟩ = some (.slice A2 n2 c2)) (hF : Ints w 0 A2 n2 fs) (m1 : n1 ≤ maxLen) (m2 : n2 ≤ maxLen) :
    Calls Tryz.prog 45 #[.pointer (some ⟨b, 0, none⟩), .int .i64 id] w fun e w' => e = .returned (.int .i64 (readF n1 fs id)) ∧ Below w.heap.size w w' := by
  have HF := Lib.hid hF
  clear hF
  by_cases h : 0 ≤ id ∧ id ≤ (n1 : Int) - 1
  rotate_left
  · have HR := Lib.hid (readF_out (fs := fs) h)
    go_enter Tryz.func45, Tryz.ntmps45
    go_wp2_with fail
    refine (l4Place_no b n1 c1 A1 id _ k1 m1 h).mono ?_
    rintro e w' ⟨rfl, rfl⟩
    go_wp2
    go_ret
    exact ⟨ret_i64 HR.out.symm, Below.refl _ _⟩
  have HR := Lib.hid (readF_in (fs := fs) h)
  go_enter Tryz.func45, Tryz.ntmps45
  go_wp2_with fail
  refine (l4Place_yes b n1 c1 A1 id _ k1 m1 h).mono ?_
  rintro e w' ⟨rfl, rfl⟩
  clear h
  go_wp2_with fail
  refine (l1Has_any id n2 c2 0 A2 fs _ HF.out m2).mono ?_
  rintro e w' ⟨rfl, q, rfl⟩
  cases hc : fs.contains id
  · have HC : Hid (readF n1 fs id = 0) := by show _ = _; rw [HR.out, hc]; rfl
    clear hc HR
    go_wp2
    go_ret
    exact ⟨ret_i64 HC.out.symm, below_draws (Below.refl _ _) q⟩
  · have HC : Hid (readF n1 fs id = 4) := by show _ = _; rw [HR.out, hc]; rfl
    clear hc HR
    go_wp2
    go_ret
    exact ⟨ret_i64 HC.out.symm, below_draws (Below.refl _ _) q⟩

/-- The code of ReadNode, and what it answers. -/
def readC (d : Int) (vs : List NVal) (fs : List Int) (us : List RVal) (id : Int) : Int := if arenaF d vs fs us = 0 then readF vs.length fs id else arenaF d vs fs us
def nvAt (vs : List NVal) (id : Int) : NVal := vs.getD id.toNat (0, 0, 0, [])
def readR (d : Int) (vs : List NVal) (fs : List Int) (us : List RVal) (id : Int) : Int × Int × Int × Int × List EVal :=
  nrOf (readC d vs fs us id) (nvAt vs id).1 (nvAt vs id).2.1 (nvAt vs id).2.2.1 (nvAt vs id).2.2.2

theorem readC_fault {d : Int} {vs : List NVal} {fs : List Int} {us : List RVal} {id : Int} (h : arenaF d vs fs us ≠ 0) : readR d vs fs us id = (arenaF d vs fs us, 0, 0, 0, []) := by
  have e : readC d vs fs us id = arenaF d vs fs us := by unfold readC; rw [if_neg h]
  unfold readR; rw [e]; exact nrOf_no h
theorem readC_none {d : Int} {vs : List NVal} {fs : List Int} {us : List RVal} {id : Int} (h : arenaF d vs fs us = 0) (h2 : readF vs.length fs id ≠ 0) : readR d vs fs us id = (readF vs.length fs id, 0, 0, 0, []) := by
  have e : readC d vs fs us id = readF vs.length fs id := by unfold readC; rw [if_pos h]
  unfold readR; rw [e]; exact nrOf_no h2
theorem readC_yes {d : Int} {vs : List NVal} {fs : List Int} {us : List RVal} {id : Int} {v : NVal} (h : arenaF d vs fs us = 0) (h2 : readF vs.length fs id = 0) (hv : vs[id.toNat]? = some v) : readR d vs fs us id = (0, v.1, v.2.1, v.2.2.1, v.2.2.2) := by
  have e : readC d vs fs us id = 0 := by unfold readC; rw [if_pos h, h2]
  have e2 : nvAt vs id = v := by unfold nvAt; rw [List.getD_eq_getElem?_getD, hv]; rfl
  unfold readR; rw [e, e2]; exact nrOf_yes rfl

set_option maxRecDepth 100000 in
set_option maxHeartbeats 6400000 in
theorem specReadNode_any (d : Int) (n1 c1 n2 c2 n3 c3 : Nat) (A1 A2 A3 : Option Addr) (ns : List NV) (fs : List Int) (rs : List RV) (id : Int) (w : World) (hp : ArenaL w A1 A2 A3 n1 n2 n3 ns fs rs) (hc : n1 ≤ c1) (hcm : c1 ≤ maxLen) :
    Calls Tryz.prog 13 #[.agg #[.int .i64 d, .slice A1 n1 c1, .slice A2 n2 c2, .slice A3 n3 c3], .int .i64 id] w (ReadPost2 (readR d (ns.map NV.val) fs (rs.map RV.val) id) w) := by
  have HP := Lib.hid hp
  have m1 := hp.m1
  have m2 := hp.m2
  have HL : Hid ((ns.map NV.val).length = n1) := by show List.length _ = n1; rw [List.length_map]; exact hp.N.1
  clear hp
  have B := Lib.hid (below_alloc w (.cells #[.int .i64 d, .slice A1 n1 c1, .slice A2 n2 c2, .slice A3 n3 c3] 26))
  replace B := Lib.hid (B.out.alloc B.out.size (.cells #[.int .i64 0, .int .i64 0, .int .i64 0, .int .i64 0, .slice none 0 0] 44))
  have L_a := Lib.hid ((Lies.new w 26 #[.int .i64 d, .slice A1 n1 c1, .slice A2 n2 c2, .slice A3 n3 c3]).alloc (.cells #[.int .i64 0, .int .i64 0, .int .i64 0, .int .i64 0, .slice none 0 0] 44))
  have L_r := Lib.hid (Lies.new (w.alloc (.cells #[.int .i64 d, .slice A1 n1 c1, .slice A2 n2 c2, .slice A3 n3 c3] 26)) 44 #[.int .i64 0, .int .i64 0, .int .i64 0, .int .i64 0, .slice none 0 0])
  simp only [World.size_alloc] at L_r
  go_enter Tryz.func13, Tryz.ntmps13
  go_wp2_with fail
  refine (specArenaFault_any d n1 c1 n2 c2 n3 c3 A1 A2 A3 ns fs rs _ (HP.out.kept B.out) hc hcm).mono ?_
  rintro e W1 ⟨rfl, b1⟩
  replace L_a := Lib.hid (L_a.out.kept b1 L_a.out.inside)
  replace L_r := Lib.hid (L_r.out.kept b1 L_r.out.inside)
  replace B := Lib.hid (B.out.trans (b1.mono B.out.size))
  clear b1
  by_cases hz : arenaF d (ns.map NV.val) fs (rs.map RV.val) = 0
  rotate_left
  · have hz1 : (arenaF d (ns.map NV.val) fs (rs.map RV.val) != 0) = true := by simpa using hz
    have HR := Lib.hid (readC_fault (id := id) hz)
    clear hz
    have z0 : W1.cell? ⟨w.heap.size + 1, 0, none⟩ = some (.int .i64 0) := L_r.out.cell 0
    have y0 : W1.frozen? ⟨w.heap.size + 1, 0, none⟩ = false := L_r.out.thawed 0
    have z1 : W1.cell? ⟨w.heap.size + 1, 1, none⟩ = some (.int .i64 0) := L_r.out.cell 1
    have y1 : W1.frozen? ⟨w.heap.size + 1, 1, none⟩ = false := L_r.out.thawed 1
    have z2 : W1.cell? ⟨w.heap.size + 1, 2, none⟩ = some (.int .i64 0) := L_r.out.cell 2
    have y2 : W1.frozen? ⟨w.heap.size + 1, 2, none⟩ = false := L_r.out.thawed 2
    have z3 : W1.cell? ⟨w.heap.size + 1, 3, none⟩ = some (.int .i64 0) := L_r.out.cell 3
    have y3 : W1.frozen? ⟨w.heap.size + 1, 3, none⟩ = false := L_r.out.thawed 3
    have z4 : W1.cell? ⟨w.heap.size + 1, 4, none⟩ = some (.slice none 0 0) := L_r.out.cell 4
    have y4 : W1.frozen? ⟨w.heap.size + 1, 4, none⟩ = false := L_r.out.thawed 4
    go_wp2
    refine bodyPost_ret (v := .agg #[.int .i64 (arenaF d (ns.map NV.val) fs (rs.map RV.val)), .int .i64 0, .int .i64 0, .int .i64 0, .slice none 0 0]) (by simp [results, Tryz.results13, go_sem, z0, z1, z2, z3, z4]) rfl ?_
    refine ⟨none, 0, 0, [], by rw [HR.out], entries_nil _ _, by rw [HR.out]; rfl, by decide, ?_⟩
    repeat (with_reducible refine Below.setCell ?_ (by exact Nat.le_succ _) _)
    exact B.out

  have hz1 : (arenaF d (ns.map NV.val) fs (rs.map RV.val) != 0) = false := by simp [hz]
  have HZ := Lib.hid hz
  clear hz
  have k1 : W1.cell? ⟨w.heap.size, 1, none⟩ = some (.slice A1 n1 c1) := L_a.out.cell 1
  have k2 : W1.cell? ⟨w.heap.size, 2, none⟩ = some (.slice A2 n2 c2) := L_a.out.cell 2
  go_wp2_with fail
  refine (l4Read_any w.heap.size n1 c1 n2 c2 A1 A2 fs id _ L_a.out.inside k1 k2 (HP.out.F.kept B.out) m1 m2).mono ?_
  rintro e W2 ⟨rfl, b2⟩
  replace L_a := Lib.hid (L_a.out.kept b2 L_a.out.inside)
  replace L_r := Lib.hid (L_r.out.kept b2 L_r.out.inside)
  replace B := Lib.hid (B.out.trans (b2.mono B.out.size))
  clear b2 k1 k2
  by_cases hz : readF n1 fs id = 0
  rotate_left
  · have hz2 : (readF n1 fs id != 0) = true := by simpa using hz
    have HR : Hid (readR d (ns.map NV.val) fs (rs.map RV.val) id = (readF n1 fs id, 0, 0, 0, [])) := by
      have := readC_none (id := id) HZ.out (by rw [HL.out]; exact hz)
      rwa [HL.out] at this
    clear hz
    have z0 : W2.cell? ⟨w.heap.size + 1, 0, none⟩ = some (.int .i64 0) := L_r.out.cell 0
    have y0 : W2.frozen? ⟨w.heap.size + 1, 0, none⟩ = false := L_r.out.thawed 0
    have z1 : W2.cell? ⟨w.heap.size + 1, 1, none⟩ = some (.int .i64 0) := L_r.out.cell 1
    have y1 : W2.frozen? ⟨w.heap.size + 1, 1, none⟩ = false := L_r.out.thawed 1
    have z2 : W2.cell? ⟨w.heap.size + 1, 2, none⟩ = some (.int .i64 0) := L_r.out.cell 2
    have y2 : W2.frozen? ⟨w.heap.size + 1, 2, none⟩ = false := L_r.out.thawed 2
    have z3 : W2.cell? ⟨w.heap.size + 1, 3, none⟩ = some (.int .i64 0) := L_r.out.cell 3
    have y3 : W2.frozen? ⟨w.heap.size + 1, 3, none⟩ = false := L_r.out.thawed 3
    have z4 : W2.cell? ⟨w.heap.size + 1, 4, none⟩ = some (.slice none 0 0) := L_r.out.cell 4
    have y4 : W2.frozen? ⟨w.heap.size + 1, 4, none⟩ = false := L_r.out.thawed 4
    go_wp2
    refine bodyPost_ret (v := .agg #[.int .i64 (readF n1 fs id), .int .i64 0, .int .i64 0, .int .i64 0, .slice none 0 0]) (by simp [results, Tryz.results13, go_sem, z0, z1, z2, z3, z4]) rfl ?_
    refine ⟨none, 0, 0, [], by rw [HR.out], entries_nil _ _, by rw [HR.out]; rfl, by decide, ?_⟩
    repeat (with_reducible refine Below.setCell ?_ (by exact Nat.le_succ _) _)
    exact B.out

  have hz2 : (readF n1 fs id != 0) = false := by simp [hz]
  have HZ2 := Lib.hid hz
  obtain ⟨⟨q0, q1⟩, _⟩ := readF_zero hz
  clear hz
  obtain ⟨k, hk⟩ : ∃ k : Nat, id = (k : Int) := ⟨id.toNat, by omega⟩
  subst hk
  have hkn : k < n1 := by omega
  obtain ⟨b, o, lv, nn, rt, X1, e1, f1, es, rfl, hb, d0, d1, d2, d3, hx, i1, me⟩ := HP.out.N.cellAt hkn
  have HVX : Hid ((ns.map NV.val)[k]? = some (lv, nn, rt, es.map EV.val)) := by show _ = _; rw [List.getElem?_map, hx.out]; rfl
  have HR : Hid (readR d (ns.map NV.val) fs (rs.map RV.val) (k : Int) = (0, lv, nn, rt, es.map EV.val)) := readC_yes (v := (lv, nn, rt, es.map EV.val)) HZ.out (by rw [HL.out]; exact HZ2.out) (by simpa using HVX.out)
  have hnf : nodeF lv nn rt (es.map EV.val) d = 0 := firstNZ_zero (arenaF_zero HZ.out).2.2.1 k _ HVX.out
  obtain ⟨hok, hn5, hent, _, _⟩ := nodeF_zero hnf
  have HE := Lib.hid (lens_of hent)
  have hd2 := hok.1.1
  have hd3 := hok.1.2
  have he5 : e1 ≤ 5 := by rw [← i1.out.1, ← List.length_map]; exact hn5
  have hkb : b < W2.heap.size := Nat.lt_of_lt_of_le hb B.out.size
  have j0 : W2.cell? ⟨b, o + k * 4, none⟩ = some (.int .i64 lv) := (B.out.cell (p := ⟨b, o + k * 4, none⟩) hb).trans d0
  have j1 : W2.cell? ⟨b, o + k * 4 + 1, none⟩ = some (.int .i64 nn) := (B.out.cell (p := ⟨b, o + k * 4 + 1, none⟩) hb).trans d1
  have j2 : W2.cell? ⟨b, o + k * 4 + 2, none⟩ = some (.int .i64 rt) := (B.out.cell (p := ⟨b, o + k * 4 + 2, none⟩) hb).trans d2
  have j3 : W2.cell? ⟨b, o + k * 4 + 3, none⟩ = some (.slice X1 e1 f1) := (B.out.cell (p := ⟨b, o + k * 4 + 3, none⟩) hb).trans d3
  have k1 : W2.cell? ⟨w.heap.size, 1, none⟩ = some (.slice (some ⟨b, o, none⟩) n1 c1) := L_a.out.cell 1
  clear hnf hok hn5 hent d0 d1 d2 d3 hx HVX HZ HZ2
  go_wp2_with fail
  refine (l3CopyAt_any lv nn rt b (o + k * 4) e1 f1 d.toNat X1 es _ hkb j0 j1 j2 j3 (i1.out.kept B.out) (by omega) (by omega) (by omega) HE.out).mono ?_
  rintro e W3 ⟨A', c', qs, rfl, hR4, hvs, b3⟩
  have R4 := Lib.hid hR4
  have HVS := Lib.hid hvs
  have sz3 : w.heap.size + 1 < W2.heap.size := L_r.out.inside
  replace L_r := Lib.hid (L_r.out.kept b3 L_r.out.inside)
  replace B := Lib.hid (B.out.trans (b3.mono B.out.size))
  clear b3 hR4 hvs j0 j1 j2 j3 k1
  have z0 : W3.cell? ⟨w.heap.size + 1, 0, none⟩ = some (.int .i64 0) := L_r.out.cell 0
  have y0 : W3.frozen? ⟨w.heap.size + 1, 0, none⟩ = false := L_r.out.thawed 0
  have z1 : W3.cell? ⟨w.heap.size + 1, 1, none⟩ = some (.int .i64 0) := L_r.out.cell 1
  have y1 : W3.frozen? ⟨w.heap.size + 1, 1, none⟩ = false := L_r.out.thawed 1
  have z2 : W3.cell? ⟨w.heap.size + 1, 2, none⟩ = some (.int .i64 0) := L_r.out.cell 2
  have y2 : W3.frozen? ⟨w.heap.size + 1, 2, none⟩ = false := L_r.out.thawed 2
  have z3 : W3.cell? ⟨w.heap.size + 1, 3, none⟩ = some (.int .i64 0) := L_r.out.cell 3
  have y3 : W3.frozen? ⟨w.heap.size + 1, 3, none⟩ = false := L_r.out.thawed 3
  have z4 : W3.cell? ⟨w.heap.size + 1, 4, none⟩ = some (.slice none 0 0) := L_r.out.cell 4
  have y4 : W3.frozen? ⟨w.heap.size + 1, 4, none⟩ = false := L_r.out.thawed 4
  go_wp2
  refine bodyPost_ret (v := .agg #[.int .i64 0, .int .i64 lv, .int .i64 nn, .int .i64 rt, .slice A' e1 c']) (by simp [results, Tryz.results13, go_sem, z0, z1, z2, z3, z4]) rfl ?_
  refine ⟨A', e1, c', qs, by rw [HR.out], ?_, by rw [HR.out]; exact HVS.out, by omega, ?_⟩
  · have R5 : ∀ W : World, Rows4 W (W2.heap.size + 1 + 1) e1 qs (.slice A' e1 c') → Entries W A' e1 qs := by
      intro W h
      obtain ⟨A2, c2, e2, h2⟩ := h.entries
      injection e2 with e2 e3 e4
      subst e2
      exact h2
    refine R5 _ ?_
    with_reducible (repeat (first | exact R4.out | refine Rows4.far ?_ ?_ _))
    all_goals (show w.heap.size + 1 < _; omega)
  · repeat (with_reducible refine Below.setCell ?_ (by exact Nat.le_succ _) _)
    exact B.out

end Go.Proofs.YtpgoildfjkokiaaGreat
