/- The walk of spec.ArenaFault. No condition but lengths. -/
import Derived.Test.YtblhcnafoejahaaGreatSpecArena2
import Derived.Test.YtblhcnafoejahaaGreatSpecNodeFault
namespace Go.Proofs.YtblhcnafoejahaaGreat
open Go.RowKit

theorem drewN_two (w : World) (a b : Nat) : ∃ m, (w.drewN a).drewN b = w.drewN m := ⟨a + b, by simp [World.drewN, Nat.add_assoc]⟩
theorem l1Has_q (m : Nat) (v : Int) (n c lo : Nat) (A : Option Addr) (xs : List Int) (w : World) (r : Bool) (hr : xs.contains v = r) (hp : Ints w lo A n xs) (hn : n ≤ maxLen) :
    Calls Tryz.prog 17 #[.slice A n c, .int .i64 v] (w.drewN m) fun e w' => e = .returned (.bool r) ∧ ∃ m', w' = w.drewN m' := by
  refine (l1Has_any v n c lo A xs (w.drewN m) hp hn).mono ?_
  rintro e w' ⟨rfl, q, rfl⟩
  obtain ⟨m', h⟩ := drewN_two w m q
  exact ⟨by rw [hr], m', h⟩

theorem take_has_no {xs : List Int} {k : Nat} {v : Int} (h : ∀ (j : Nat) (x : Int), j < k → xs[j]? = some x → x ≠ v) : (xs.take k).contains v = false := by
  refine contains_none fun j x hj => ?_
  rw [List.getElem?_take] at hj
  split at hj
  · exact h j x (by assumption) hj
  · simp at hj
theorem take_has_yes {xs : List Int} {k j : Nat} {v : Int} (hj : j < k) (h : xs[j]? = some v) : (xs.take k).contains v = true := by
  refine contains_at (k := j) ?_
  rw [List.getElem?_take, if_pos hj]; exact h

set_option maxRecDepth 100000 in
set_option maxHeartbeats 12800000 in
theorem specArenaFault_any (d : Int) (n1 c1 n2 c2 n3 c3 : Nat) (A1 A2 A3 : Option Addr) (ns : List NV) (fs : List Int) (rs : List RV) (w : World) (hp : ArenaL w A1 A2 A3 n1 n2 n3 ns fs rs) (hc : n1 ≤ c1) (hcm : c1 ≤ maxLen) :
    Calls Tryz.prog 5 #[.agg #[.int .i64 d, .slice A1 n1 c1, .slice A2 n2 c2, .slice A3 n3 c3]] w fun e w' => e = .returned (.int .i64 (arenaF d (ns.map NV.val) fs (rs.map RV.val))) ∧ Below w.heap.size w w' := by
  have HP := Lib.hid hp
  have m1 := hp.m1
  have m2 := hp.m2
  have m3 := hp.m3
  have HL1 : Hid ((ns.map NV.val).length = n1) := by show List.length _ = n1; rw [List.length_map]; exact hp.N.1
  have HL3 : Hid ((rs.map RV.val).length = n3) := by show List.length _ = n3; rw [List.length_map]; exact hp.R.1
  clear hp
  have m1' := m1
  have m2' := m2
  have m3' := m3
  unfold maxLen at m1' m2' m3'
  have B := Lib.hid (below_alloc w (.cells #[.int .i64 d, .slice A1 n1 c1, .slice A2 n2 c2, .slice A3 n3 c3] 32))
  have L_a := Lib.hid (Lies.new w 32 #[.int .i64 d, .slice A1 n1 c1, .slice A2 n2 c2, .slice A3 n3 c3])
  by_cases hd : 2 ≤ d ∧ d ≤ 3
  rotate_left
  · have HF := Lib.hid (arenaF_dim (ns := ns.map NV.val) (fs := fs) (rs := rs.map RV.val) hd)
    go_enter Tryz.func5, Tryz.ntmps5
    go_wp2_with fail
    refine (l1In_no _ _ _ _ hd).mono ?_
    rintro e w' ⟨rfl, rfl⟩
    go_wp2
    go_ret
    exact ⟨ret_i64 HF.out.symm, B.out⟩
  by_cases hm : 4 ≤ n1 ∧ n1 ≤ 40
  rotate_left
  · have HF := Lib.hid (arenaF_many (fs := fs) (rs := rs.map RV.val) hd (show ¬ (4 ≤ (ns.map NV.val).length ∧ (ns.map NV.val).length ≤ 40) by rw [HL1.out]; exact hm))
    go_enter Tryz.func5, Tryz.ntmps5
    go_wp2_with fail
    refine (l1In_yes _ _ _ _ hd.1 hd.2).mono ?_
    rintro e w' ⟨rfl, rfl⟩
    by_cases h4 : n1 < 4
    · have h4' : (n1 : Int) < 4 := by omega
      go_wp2
      go_ret
      exact ⟨ret_i64 HF.out.symm, B.out⟩
    · have h4' : ¬ (n1 : Int) < 4 := by omega
      have h40 : (40 : Int) < (n1 : Int) := by omega
      go_wp2
      go_ret
      exact ⟨ret_i64 HF.out.symm, B.out⟩
  have HD := Lib.hid hd
  have HM : Hid (4 ≤ (ns.map NV.val).length ∧ (ns.map NV.val).length ≤ 40) := by show _ ∧ _; rw [HL1.out]; exact hm
  have h4' : ¬ (n1 : Int) < 4 := by omega
  have h40 : ¬ (40 : Int) < (n1 : Int) := by omega
  go_enter Tryz.func5, Tryz.ntmps5
  go_wp2_with fail
  refine (l1In_yes _ _ _ _ hd.1 hd.2).mono ?_
  rintro e w' ⟨rfl, rfl⟩
  clear hd
  go_wp2
  clear h4' h40
  go_loopw [3] (fun i wr => ∃ k : Nat, k ≤ n1 ∧ i = .int .i64 k ∧ Hid (Below w.heap.size w wr) ∧ Hid (Lies wr w.heap.size 32 #[.int .i64 d, .slice A1 n1 c1, .slice A2 n2 c2, .slice A3 n3 c3]) ∧ Hid (∀ (j : Nat) (u : NVal), j < k → (ns.map NV.val)[j]? = some u → nodeFv d u = 0)) (fun i _ => n1 - (intOf i).toNat)
  case atStart => exact ⟨0, Nat.zero_le _, rfl, B, L_a, fun j u hj => absurd hj (Nat.not_lt_zero _)⟩
  case round =>
    obtain ⟨k, hk', rfl, hB, hN, hA⟩ := hrel
    have q1 : wr.cell? ⟨w.heap.size, 1, none⟩ = some (.slice A1 n1 c1) := hN.out.cell 1
    by_cases hlt : k < n1
    · obtain ⟨b, o, lv, nn, rt, X1, k1, e1, es, rfl, hb, d0, d1, d2, d3, hx, hE, hk1⟩ := HP.out.N.cellAt hlt
      have k_0 : wr.cell? ⟨w.heap.size, 1, none⟩ = some (.slice (some ⟨b, o, none⟩) n1 c1) ∧ wr.cell? ⟨w.heap.size, 0, none⟩ = some (.int .i64 d) ∧ wr.cell? ⟨b, o + k * 4, none⟩ = some (.int .i64 lv) ∧ wr.cell? ⟨b, o + k * 4 + 1, none⟩ = some (.int .i64 nn) ∧ wr.cell? ⟨b, o + k * 4 + 2, none⟩ = some (.int .i64 rt) ∧ wr.cell? ⟨b, o + k * 4 + 3, none⟩ = some (.slice X1 k1 e1) := ⟨hN.out.cell 1, hN.out.cell 0, (hB.out.cell (p := ⟨b, o + k * 4, none⟩) hb).trans d0, (hB.out.cell (p := ⟨b, o + k * 4 + 1, none⟩) hb).trans d1, (hB.out.cell (p := ⟨b, o + k * 4 + 2, none⟩) hb).trans d2, (hB.out.cell (p := ⟨b, o + k * 4 + 3, none⟩) hb).trans d3⟩
      have kb := Nat.lt_of_lt_of_le hb hB.out.size
      have hlt' : (k : Int) < (n1 : Int) := by omega
      have HX := Lib.hid (nval_get hx.out)
      clear d0 d1 d2 d3 hx
      go_wp2
      go_region_held3 (fun w' => w'.cell? ⟨w.heap.size, 1, none⟩ = some (.slice (some ⟨b, o, none⟩) n1 c1) ∧ w'.cell? ⟨w.heap.size, 0, none⟩ = some (.int .i64 d) ∧ w'.cell? ⟨b, o + k * 4, none⟩ = some (.int .i64 lv) ∧ w'.cell? ⟨b, o + k * 4 + 1, none⟩ = some (.int .i64 nn) ∧ w'.cell? ⟨b, o + k * 4 + 2, none⟩ = some (.int .i64 rt) ∧ w'.cell? ⟨b, o + k * 4 + 3, none⟩ = some (.slice X1 k1 e1))
        (first | (simp [go_sem, k_0]; done) | with_reducible exact k_1)
        (first
          | (go_at_call 13; refine (specNodeFault_any lv nn rt d k1 e1 X1 es _ (hE.out.kept hB.out.drew) hk1).mono ?_
             rintro e W1 ⟨rfl, b1d⟩
             have b1 := below_drawn b1d
             have k_1 : W1.cell? ⟨w.heap.size, 1, none⟩ = some (.slice (some ⟨b, o, none⟩) n1 c1) ∧ W1.cell? ⟨w.heap.size, 0, none⟩ = some (.int .i64 d) ∧ W1.cell? ⟨b, o + k * 4, none⟩ = some (.int .i64 lv) ∧ W1.cell? ⟨b, o + k * 4 + 1, none⟩ = some (.int .i64 nn) ∧ W1.cell? ⟨b, o + k * 4 + 2, none⟩ = some (.int .i64 rt) ∧ W1.cell? ⟨b, o + k * 4 + 3, none⟩ = some (.slice X1 k1 e1) := ⟨(hN.out.kept b1 hN.out.inside).cell 1, (hN.out.kept b1 hN.out.inside).cell 0, (b1.cell (p := ⟨b, o + k * 4, none⟩) kb).trans k_0.2.2.1, (b1.cell (p := ⟨b, o + k * 4 + 1, none⟩) kb).trans k_0.2.2.2.1, (b1.cell (p := ⟨b, o + k * 4 + 2, none⟩) kb).trans k_0.2.2.2.2.1, (b1.cell (p := ⟨b, o + k * 4 + 3, none⟩) kb).trans k_0.2.2.2.2.2⟩
             clear b1d))
      have hB1 := Lib.hid (hB.out.trans (b1.mono hB.out.size))
      have hN1 := Lib.hid (hN.out.kept b1 hN.out.inside)
      clear k_0 k_1 b1 q1
      by_cases hz : nodeF lv nn rt (es.map EV.val) d = 0
      · have hz1 : (nodeF lv nn rt (es.map EV.val) d != 0) = false := by simp [hz]
        have hA' := Lib.hid (upto_next (P := fun u => nodeFv d u = 0) hA.out HX.out hz)
        clear hA hz hB hN
        go_wp2
        go_roundw
        case rel => exact ⟨k + 1, by omega, by go_num, hB1, hN1, hA'⟩
        case measure => simp [intOf]; omega
      · have hz1 : (nodeF lv nn rt (es.map EV.val) d != 0) = true := by simpa using hz
        have HS := Lib.hid (firstNZ_stop (f := nodeFv d) hA.out HX.out hz)
        have HF : Hid (arenaF d (ns.map NV.val) fs (rs.map RV.val) = nodeF lv nn rt (es.map EV.val) d) := by
          show arenaF _ _ _ _ = _
          rw [arenaF_node HD.out HM.out (by rw [HS.out]; exact hz), HS.out]; rfl
        clear hA hz hB hN HS
        go_wp2
        go_ret
        exact ⟨ret_i64 HF.out.symm, hB1.out⟩
    · have HN1 := Lib.hid (firstNZ_all (f := nodeFv d) (upto_end hA.out (by rw [HL1.out]; omega)))
      clear hA
      go_wp2_with fail
      refine (l4Free_any d w.heap.size n1 c1 n2 c2 n3 c3 A1 A2 A3 ns fs rs _ hN.out (HP.out.kept hB.out) (by omega) hc hcm).mono ?_
      rintro e W1 ⟨rfl, b1⟩
      have hB1 := Lib.hid (hB.out.trans (b1.mono hB.out.size))
      have hN2 := Lib.hid (hN.out.kept b1 hN.out.inside)
      clear b1 q1 hB hN
      by_cases hz : freeF (ns.map NV.val) fs = 0
      rotate_left
      · have hz1 : (freeF (ns.map NV.val) fs != 0) = true := by simpa using hz
        have HF := Lib.hid (arenaF_free (rs := rs.map RV.val) HD.out HM.out HN1.out hz)
        go_wp2
        go_ret
        exact ⟨ret_i64 HF.out.symm, hB1.out⟩
      have hz1 : (freeF (ns.map NV.val) fs != 0) = false := by simp [hz]
      have HZ := Lib.hid hz
      clear hz
      go_wp2
      clear hk' hlt
      go_loopw [6] (fun i wr => ∃ k : Nat, k ≤ n3 ∧ i = .int .i64 k ∧ Hid (Below w.heap.size w wr) ∧ Hid (Lies wr w.heap.size 32 #[.int .i64 d, .slice A1 n1 c1, .slice A2 n2 c2, .slice A3 n3 c3]) ∧ Hid (∀ (j : Nat) (u : RVal), j < k → (rs.map RV.val)[j]? = some u → retF n1 u = 0)) (fun i _ => n3 - (intOf i).toNat)
      case atStart => exact ⟨0, Nat.zero_le _, rfl, hB1, hN2, fun j u hj => absurd hj (Nat.not_lt_zero _)⟩
      case round =>
        obtain ⟨k, hk', rfl, hB, hN, hA⟩ := hrel
        have q1 : wr.cell? ⟨w.heap.size, 1, none⟩ = some (.slice A1 n1 c1) := hN.out.cell 1
        have q3 : wr.cell? ⟨w.heap.size, 3, none⟩ = some (.slice A3 n3 c3) := hN.out.cell 3
        by_cases hlt : k < n3
        · obtain ⟨b, o, id, X1, k1, e1, ws, rfl, hb, d0, d1, hx, hI, hk1⟩ := HP.out.R.cellAt hlt
          have e0 : wr.cell? ⟨b, o + k * 2, none⟩ = some (.int .i64 id) := (hB.out.cell (p := ⟨b, o + k * 2, none⟩) hb).trans d0
          have e2 : wr.cell? ⟨b, o + k * 2 + 1, none⟩ = some (.slice X1 k1 e1) := (hB.out.cell (p := ⟨b, o + k * 2 + 1, none⟩) hb).trans d1
          have HX := Lib.hid (rval_get hx.out)
          have HW : Hid (ws.length = k1) := hI.out.1
          clear d0 d1 hx
          have stop : Hid (∀ x : Int, retF n1 (id, ws) = x → x ≠ 0 → arenaF d (ns.map NV.val) fs (rs.map RV.val) = x) := by
            intro x hx0 hx1
            have HS := firstNZ_stop (f := retF n1) hA.out HX.out (show retF n1 (id, ws) ≠ 0 by rw [hx0]; exact hx1)
            rw [arenaF_ret HD.out HM.out HN1.out HZ.out (by rw [HL1.out, HS]; show retF n1 (id, ws) ≠ 0; rw [hx0]; exact hx1), HL1.out, HS]; exact hx0
          by_cases hr : 0 ≤ id ∧ id ≤ (n1 : Int) - 1
          rotate_left
          · have HF := Lib.hid (stop.out 3 (retF_out hr) (by decide))
            clear stop hA
            go_wp2_with fail
            refine (l4Place_no _ _ _ _ _ _ q1 m1 hr).mono ?_
            rintro e w' ⟨rfl, rfl⟩
            go_wp2
            go_ret
            exact ⟨ret_i64 HF.out.symm, hB.out⟩
          go_wp2_with fail
          refine (l4Place_yes _ _ _ _ _ _ q1 m1 hr).mono ?_
          rintro e w' ⟨rfl, rfl⟩
          by_cases h0 : k1 = 0
          · have HF := Lib.hid (stop.out 2 (retF_none hr (by rw [HW.out]; exact h0)) (by decide))
            have h0' : ((k1 : Int) == 0) = true := by simp [h0]
            clear stop hA hr
            go_wp2
            go_ret
            exact ⟨ret_i64 HF.out.symm, hB.out⟩
          have h0' : ((k1 : Int) == 0) = false := by simp [h0]
          have HRW := Lib.hid (retF_watch (n := n1) (r := (id, ws)) hr (by show ¬ ws.length = 0; rw [HW.out]; exact h0))
          clear hr h0
          go_wp2_with fail
          refine (l4Watch_any _ _ _ _ ws _ (hI.out.kept hB.out) hk1).mono ?_
          rintro e W2 ⟨rfl, b2⟩
          have hB2 := Lib.hid (hB.out.trans (b2.mono hB.out.size))
          have hN3 := Lib.hid (hN.out.kept b2 hN.out.inside)
          clear b2 q1 q3 e0 e2 hB hN h0'
          by_cases hz : watchF ws = 0
          · have hz1 : (watchF ws != 0) = false := by simp [hz]
            have hA' := Lib.hid (upto_next (P := fun u => retF n1 u = 0) hA.out HX.out (HRW.out.trans hz))
            clear hA hz stop
            go_wp2
            go_roundw
            case rel => exact ⟨k + 1, by omega, by go_num, hB2, hN3, hA'⟩
            case measure => simp [intOf]; omega
          · have hz1 : (watchF ws != 0) = true := by simpa using hz
            have HF := Lib.hid (stop.out (watchF ws) HRW.out hz)
            clear hA hz stop
            go_wp2
            go_ret
            exact ⟨ret_i64 HF.out.symm, hB2.out⟩
        · have HR0 := Lib.hid (firstNZ_all (f := retF n1) (upto_end hA.out (by rw [HL3.out]; omega)))
          have HT : Hid (arenaF d (ns.map NV.val) fs (rs.map RV.val) = if takenF fs ((rs.map RV.val).map (·.1)) then 6 else 0) := arenaF_taken HD.out HM.out HN1.out HZ.out (by rw [HL1.out]; exact HR0.out)
          clear hA hB1 hN2
          go_wp2
          clear q1 q3 hk' hlt
          go_loopw [8] (fun i wr => ∃ k : Nat, k ≤ n3 ∧ i = .int .i64 k ∧ Hid (Below w.heap.size w wr) ∧ Hid (Lies wr w.heap.size 32 #[.int .i64 d, .slice A1 n1 c1, .slice A2 n2 c2, .slice A3 n3 c3]) ∧ Hid (∀ (j : Nat) (x : Int), j < k → ((rs.map RV.val).map (·.1))[j]? = some x → fs.contains x = false ∧ (((rs.map RV.val).map (·.1)).take j).contains x = false)) (fun i _ => n3 - (intOf i).toNat)
          case atStart => exact ⟨0, Nat.zero_le _, rfl, hB, hN, fun j u hj => absurd hj (Nat.not_lt_zero _)⟩
          case round =>
            obtain ⟨k, hk', rfl, hB, hN, hA⟩ := hrel
            have q3 : wr.cell? ⟨w.heap.size, 3, none⟩ = some (.slice A3 n3 c3) := hN.out.cell 3
            by_cases hlt : k < n3
            · obtain ⟨b, o, id, X1, k1, e1, ws, rfl, hb, d0, d1, hx, hI, hk1⟩ := HP.out.R.cellAt hlt
              have D0 := Lib.hid d0
              have HX := Lib.hid (rid_get hx.out)
              clear d0 d1 hx hI
              go_wp2
              clear q3
              go_loopw [9] (fun i wq => ∃ j : Nat, j ≤ k ∧ i = .int .i64 j ∧ Hid (Below w.heap.size w wq) ∧ Hid (Lies wq w.heap.size 32 #[.int .i64 d, .slice A1 n1 c1, .slice A2 n2 c2, .slice (some ⟨b, o, none⟩) n3 c3]) ∧ Hid (∀ (p : Nat) (x : Int), p < j → ((rs.map RV.val).map (·.1))[p]? = some x → x ≠ id)) (fun i _ => k - (intOf i).toNat)
              case atStart => exact ⟨0, Nat.zero_le _, rfl, hB, hN, fun j u hj => absurd hj (Nat.not_lt_zero _)⟩
              case round =>
                have hrr := True.intro
                obtain ⟨j, hj', rfl, hB2, hN2, hC⟩ := hrel
                have q3 : wr.cell? ⟨w.heap.size, 3, none⟩ = some (.slice (some ⟨b, o, none⟩) n3 c3) := hN2.out.cell 3
                have dk : wr.cell? ⟨b, o + k * 2, none⟩ = some (.int .i64 id) := (hB2.out.cell (p := ⟨b, o + k * 2, none⟩) hb).trans D0.out
                by_cases hj : j < k
                · obtain ⟨b', o', id2, X2, k2, e2, ws2, hA', hb2, d0, _, hx2, _, _⟩ := HP.out.R.cellAt (show j < n3 by omega)
                  injection hA' with hA'
                  injection hA' with hA1 hA2
                  subst hA1 hA2
                  have dj : wr.cell? ⟨b, o + j * 2, none⟩ = some (.int .i64 id2) := (hB2.out.cell (p := ⟨b, o + j * 2, none⟩) hb).trans d0
                  have HX2 := Lib.hid (rid_get hx2.out)
                  have hjn : (j : Int) < (n3 : Int) := by omega
                  have hkn : (k : Int) < (n3 : Int) := by omega
                  clear d0 hx2
                  by_cases he : id2 = id
                  · subst he
                    have hE : (id2 == id2) = true := by simp
                    have HF : Hid (arenaF d (ns.map NV.val) fs (rs.map RV.val) = 6) := by
                      show arenaF _ _ _ _ = _
                      rw [HT.out, takenF_at HX.out (Or.inr (take_has_yes hj HX2.out))]; rfl
                    clear hA hC
                    go_wp2
                    go_quiet (fail)
                    go_wp2
                    go_ret
                    exact ⟨ret_i64 HF.out.symm, below_draws hB2.out _⟩
                  · have hE : (id2 == id) = false := by simpa using he
                    have hC' := Lib.hid (upto_next (P := fun x => x ≠ id) hC.out HX2.out he)
                    clear hC he
                    go_wp2
                    go_quiet (fail)
                    go_wp2
                    go_roundw
                    case rel => exact ⟨j + 1, by omega, by go_num, below_draws hB2.out _, hN2.out.draws _, hC'⟩
                    case measure => simp [intOf]; omega
                · have hjk : j = k := by omega
                  subst hjk
                  have HNT := Lib.hid (take_has_no hC.out)
                  have q2 : wr.cell? ⟨w.heap.size, 2, none⟩ = some (.slice A2 n2 c2) := hN2.out.cell 2
                  have hkn : (j : Int) < (n3 : Int) := by omega
                  have I2 := Lib.hid (HP.out.F.kept hB2.out)
                  clear hC hB hN
                  cases hh : fs.contains id
                  · have hA' := Lib.hid (uptoAt_next (P := fun j x => fs.contains x = false ∧ (((rs.map RV.val).map (·.1)).take j).contains x = false) hA.out HX.out ⟨hh, HNT.out⟩)
                    have HH := Lib.hid hh
                    clear hA hh
                    go_wp2
                    go_quiet ((go_at_call 17; exact l1Has_q _ _ _ _ _ _ fs _ false HH.out I2.out m2))
                    go_wp2
                    go_roundw
                    case rel => exact ⟨j + 1, by omega, by go_num, below_draws hB2.out _, hN2.out.draws _, hA'⟩
                    case measure => simp [intOf]; omega
                  · have HF : Hid (arenaF d (ns.map NV.val) fs (rs.map RV.val) = 6) := by
                      show arenaF _ _ _ _ = _
                      rw [HT.out, takenF_at HX.out (Or.inl hh)]; rfl
                    have HH := Lib.hid hh
                    clear hA hh
                    go_wp2
                    go_quiet ((go_at_call 17; exact l1Has_q _ _ _ _ _ _ fs _ true HH.out I2.out m2))
                    go_wp2
                    go_ret
                    exact ⟨ret_i64 HF.out.symm, below_draws hB2.out _⟩
            · have HF : Hid (arenaF d (ns.map NV.val) fs (rs.map RV.val) = 0) := by
                show arenaF _ _ _ _ = _
                rw [HT.out, takenF_none (fun j x hx => hA.out j x (by have := (List.getElem?_eq_some_iff.1 hx).1; rw [List.length_map, HL3.out] at this; omega) hx)]; rfl
              clear hA
              go_wp2
              go_ret
              exact ⟨ret_i64 HF.out.symm, hB.out⟩

end Go.Proofs.YtblhcnafoejahaaGreat
