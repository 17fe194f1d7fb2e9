/- The walk of spec.NodeFault. No condition but the length. -/
import Derived.Test.YtblhcnafoejahaaSpecNode
namespace Go.Proofs.Ytblhcnafoejahaa
open Go.RowKit

set_option maxRecDepth 100000 in
set_option maxHeartbeats 6400000 in
theorem specNodeFault_any (lv ns rt d : Int) (n c : Nat) (A : Option Addr) (ps : List EV) (w : World) (hp : Entries w A n ps) (hn : n ≤ maxLen) :
    Calls Try.prog 9 #[.agg #[.int .i64 lv, .int .i64 ns, .int .i64 rt, .slice A n c], .int .i64 d] w fun e w' => e = .returned (.int .i64 (nodeF lv ns rt (ps.map EV.val) d)) ∧ Below w.heap.size w w' := by
  have HP := Lib.hid hp
  have HL : Hid ((ps.map EV.val).length = n) := by show List.length _ = n; rw [List.length_map]; exact hp.1
  clear hp
  have B := Lib.hid (below_alloc w (.cells #[.int .i64 lv, .int .i64 ns, .int .i64 rt, .slice A n c] 29))
  have L_n := Lib.hid (Lies.new w 29 #[.int .i64 lv, .int .i64 ns, .int .i64 rt, .slice A n c])
  have hn0 := hn
  unfold maxLen at hn
  by_cases hd : 2 ≤ d ∧ d ≤ 3
  rotate_left
  · have HF := Lib.hid (nodeF_head (lv := lv) (ns := ns) (rt := rt) (vs := ps.map EV.val) (fun h : headOk lv ns rt d => hd h.1))
    go_enter Try.func9, Try.ntmps9
    go_wp2_with fail
    refine (l1In_no _ _ _ _ hd).mono ?_
    rintro e w' ⟨rfl, rfl⟩
    go_wp2
    go_ret
    exact ⟨ret_i64 HF.out.symm, B.out⟩
  by_cases hl : 0 ≤ lv ∧ lv ≤ 6
  rotate_left
  · have HF := Lib.hid (nodeF_head (lv := lv) (ns := ns) (rt := rt) (vs := ps.map EV.val) (fun h : headOk lv ns rt d => hl h.2.1))
    go_enter Try.func9, Try.ntmps9
    go_wp2_with fail
    refine (l1In_yes _ _ _ _ hd.1 hd.2).mono ?_
    rintro e w' ⟨rfl, rfl⟩
    go_wp2_with fail
    refine (l1In_no _ _ _ _ hl).mono ?_
    rintro e w' ⟨rfl, rfl⟩
    go_wp2
    go_ret
    exact ⟨ret_i64 HF.out.symm, B.out⟩
  by_cases hs : 0 ≤ ns ∧ ns ≤ 100000
  rotate_left
  · have HF := Lib.hid (nodeF_head (lv := lv) (ns := ns) (rt := rt) (vs := ps.map EV.val) (fun h : headOk lv ns rt d => hs h.2.2.1))
    go_enter Try.func9, Try.ntmps9
    go_wp2_with fail
    refine (l1In_yes _ _ _ _ hd.1 hd.2).mono ?_
    rintro e w' ⟨rfl, rfl⟩
    go_wp2_with fail
    refine (l1In_yes _ _ _ _ hl.1 hl.2).mono ?_
    rintro e w' ⟨rfl, rfl⟩
    go_wp2_with fail
    refine (l1In_no _ _ _ _ hs).mono ?_
    rintro e w' ⟨rfl, rfl⟩
    go_wp2
    go_ret
    exact ⟨ret_i64 HF.out.symm, B.out⟩
  by_cases hr : -1 ≤ rt ∧ rt ≤ 39
  rotate_left
  · have HF := Lib.hid (nodeF_head (lv := lv) (ns := ns) (rt := rt) (vs := ps.map EV.val) (fun h : headOk lv ns rt d => hr h.2.2.2))
    go_enter Try.func9, Try.ntmps9
    go_wp2_with fail
    refine (l1In_yes _ _ _ _ hd.1 hd.2).mono ?_
    rintro e w' ⟨rfl, rfl⟩
    go_wp2_with fail
    refine (l1In_yes _ _ _ _ hl.1 hl.2).mono ?_
    rintro e w' ⟨rfl, rfl⟩
    go_wp2_with fail
    refine (l1In_yes _ _ _ _ hs.1 hs.2).mono ?_
    rintro e w' ⟨rfl, rfl⟩
    go_wp2_with fail
    refine (l1In_no _ _ _ _ hr).mono ?_
    rintro e w' ⟨rfl, rfl⟩
    go_wp2
    go_ret
    exact ⟨ret_i64 HF.out.symm, B.out⟩
  have HH : Hid (headOk lv ns rt d) := ⟨hd, hl, hs, hr⟩
  by_cases hm : 5 < n
  · have HF := Lib.hid (nodeF_many HH.out (by rw [HL.out]; exact hm))
    go_enter Try.func9, Try.ntmps9
    go_wp2_with fail
    refine (l1In_yes _ _ _ _ hd.1 hd.2).mono ?_
    rintro e w' ⟨rfl, rfl⟩
    go_wp2_with fail
    refine (l1In_yes _ _ _ _ hl.1 hl.2).mono ?_
    rintro e w' ⟨rfl, rfl⟩
    go_wp2_with fail
    refine (l1In_yes _ _ _ _ hs.1 hs.2).mono ?_
    rintro e w' ⟨rfl, rfl⟩
    go_wp2_with fail
    refine (l1In_yes _ _ _ _ hr.1 hr.2).mono ?_
    rintro e w' ⟨rfl, rfl⟩
    go_wp2
    go_ret
    exact ⟨ret_i64 HF.out.symm, B.out⟩
  have HM : Hid (¬ 5 < (ps.map EV.val).length) := by show ¬ _; rw [HL.out]; exact hm
  go_enter Try.func9, Try.ntmps9
  go_wp2_with fail
  refine (l1In_yes _ _ _ _ hd.1 hd.2).mono ?_
  rintro e w' ⟨rfl, rfl⟩
  go_wp2_with fail
  refine (l1In_yes _ _ _ _ hl.1 hl.2).mono ?_
  rintro e w' ⟨rfl, rfl⟩
  go_wp2_with fail
  refine (l1In_yes _ _ _ _ hs.1 hs.2).mono ?_
  rintro e w' ⟨rfl, rfl⟩
  go_wp2_with fail
  refine (l1In_yes _ _ _ _ hr.1 hr.2).mono ?_
  rintro e w' ⟨rfl, rfl⟩
  clear hd hl hs hr
  go_wp2
  go_loopw [5] (fun i wr => ∃ k : Nat, k ≤ n ∧ i = .int .i64 k ∧ Hid (Below w.heap.size w wr) ∧ Hid (Lies wr w.heap.size 29 #[.int .i64 lv, .int .i64 ns, .int .i64 rt, .slice A n c]) ∧ Hid (∀ (j : Nat) (u : EVal), j < k → (ps.map EV.val)[j]? = some u → entF d u = 0)) (fun i _ => n - (intOf i).toNat)
  case atStart => exact ⟨0, Nat.zero_le _, rfl, B, L_n, fun j u hj => absurd hj (Nat.not_lt_zero _)⟩
  case round =>
    obtain ⟨k, hk', rfl, hB, hN, hA⟩ := hrel
    have q3 : wr.cell? ⟨w.heap.size, 3, none⟩ = some (.slice A n c) := hN.out.cell 3
    by_cases hlt : k < n
    · obtain ⟨b, o, A1, n1, c1, A2, n2, c2, ref, nsn, x1, x2, rfl, hb, d0, d1, d2, d3, hx, i1, i2, m1, m2⟩ := HP.out.cellAt hlt
      have kb := Nat.lt_of_lt_of_le hb hB.out.size
      have e0 := Lib.hid ((hB.out.cell (p := ⟨b, o + k * 4, none⟩) hb).trans d0)
      have e1 := Lib.hid ((hB.out.cell (p := ⟨b, o + k * 4 + 1, none⟩) hb).trans d1)
      have e2 := Lib.hid ((hB.out.cell (p := ⟨b, o + k * 4 + 2, none⟩) hb).trans d2)
      have e3 := Lib.hid ((hB.out.cell (p := ⟨b, o + k * 4 + 3, none⟩) hb).trans d3)
      clear d0 d1 d2 d3
      have HX := Lib.hid (eval_get hx.out)
      by_cases hz : entF d (x1, x2, ref, nsn) = 0
      · have hz1 : (entF d (x1, x2, ref, nsn) != 0) = false := by simp [hz]
        have hA' := Lib.hid (upto_next hA.out HX.out hz)
        clear hA hz hx
        go_wp2_with fail
        refine (l3Entry_any _ _ _ _ _ _ _ _ _ _ _ x1 x2 _ kb e0.out e1.out e2.out e3.out (i1.out.kept hB.out) (i2.out.kept hB.out) m1 m2).mono ?_
        rintro e W1 ⟨rfl, b1⟩
        have hN' := Lib.hid (hN.out.kept b1 hN.out.inside)
        have hB' := Lib.hid (hB.out.trans (b1.mono hB.out.size))
        clear hB hN b1 e0 e1 e2 e3 q3
        go_wp2
        go_roundw
        case rel => exact ⟨k + 1, by omega, by go_num, hB', hN', hA'⟩
        case measure => simp [intOf]; omega
      · have hz1 : (entF d (x1, x2, ref, nsn) != 0) = true := by simpa using hz
        have H1 : firstNZ (entF d) (ps.map EV.val) = entF d (x1, x2, ref, nsn) := firstNZ_stop hA.out HX.out hz
        have HF : Hid (nodeF lv ns rt (ps.map EV.val) d = entF d (x1, x2, ref, nsn)) := (nodeF_first HH.out HM.out (by rw [H1]; exact hz)).trans H1
        clear hA hz hx H1
        go_wp2_with fail
        refine (l3Entry_any _ _ _ _ _ _ _ _ _ _ _ x1 x2 _ kb e0.out e1.out e2.out e3.out (i1.out.kept hB.out) (i2.out.kept hB.out) m1 m2).mono ?_
        rintro e W1 ⟨rfl, b1⟩
        go_wp2
        go_ret
        exact ⟨ret_i64 HF.out.symm, hB.out.trans (b1.mono hB.out.size)⟩
    · have H1 := Lib.hid (firstNZ_all (upto_end hA.out (by rw [HL.out]; omega)))
      clear hA
      go_wp2
      clear q3 hk' hlt
      go_loopw [7] (fun i wr => ∃ k : Nat, k ≤ n ∧ i = .int .i64 k ∧ Hid (Below w.heap.size w wr) ∧ Hid (Lies wr w.heap.size 29 #[.int .i64 lv, .int .i64 ns, .int .i64 rt, .slice A n c]) ∧ Hid (∀ (j : Nat) (u : EVal), j < k → (ps.map EV.val)[j]? = some u → fitsE lv u = true)) (fun i _ => n - (intOf i).toNat)
      case atStart => exact ⟨0, Nat.zero_le _, rfl, hB, hN, fun j u hj => absurd hj (Nat.not_lt_zero _)⟩
      case round =>
        obtain ⟨k, hk', rfl, hB2, hN2, hA⟩ := hrel
        have q3 : wr.cell? ⟨w.heap.size, 3, none⟩ = some (.slice A n c) := hN2.out.cell 3
        have q0 : wr.cell? ⟨w.heap.size, 0, none⟩ = some (.int .i64 lv) := hN2.out.cell 0
        by_cases hlt : k < n
        · obtain ⟨b, o, A1, n1, c1, A2, n2, c2, ref, nsn, x1, x2, rfl, hb, d0, d1, d2, d3, hx, i1, i2, m1, m2⟩ := HP.out.cellAt hlt
          have e2 := Lib.hid ((hB2.out.cell (p := ⟨b, o + k * 4 + 2, none⟩) hb).trans d2)
          have e3 := Lib.hid ((hB2.out.cell (p := ⟨b, o + k * 4 + 3, none⟩) hb).trans d3)
          clear d0 d1 d2 d3 i1 i2
          have HX := Lib.hid (eval_get hx.out)
          clear hx
          cases hz : fitsE lv (x1, x2, ref, nsn)
          · have HF := Lib.hid (nodeF_form HH.out HM.out H1.out (all_stop HX.out hz))
            have HZ := Lib.hid hz
            clear hA hz
            go_wp2
            go_quiet ((go_at_call 35; exact l3Fits_q _ _ _ _ _ _ _ x1 x2 _ HZ.out e2.out e3.out))
            go_wp2
            go_ret
            exact ⟨ret_i64 HF.out.symm, below_draws hB2.out _⟩
          · have hA' := Lib.hid (upto_next hA.out HX.out hz)
            have HZ := Lib.hid hz
            clear hA hz
            go_wp2
            go_quiet ((go_at_call 35; exact l3Fits_q _ _ _ _ _ _ _ x1 x2 _ HZ.out e2.out e3.out))
            go_wp2
            go_roundw
            case rel => exact ⟨k + 1, by omega, by go_num, below_draws hB2.out _, hN2.out.draws _, hA'⟩
            case measure => simp [intOf]; omega
        · have HT := Lib.hid (nodeF_twice HH.out HM.out H1.out (all_next (upto_end hA.out (by rw [HL.out]; omega))))
          clear hA
          clear hB hN
          go_wp2
          clear q3 q0 hk' hlt
          go_loopw [8] (fun i wr => ∃ k : Nat, k ≤ n ∧ i = .int .i64 k ∧ Hid (Below w.heap.size w wr) ∧ Hid (Lies wr w.heap.size 29 #[.int .i64 lv, .int .i64 ns, .int .i64 rt, .slice A n c]) ∧ Hid (∀ (j : Nat) (u : EVal), j < k → (ps.map EV.val)[j]? = some u → findE u.2.2.1 (ps.map EV.val) = (j : Int))) (fun i _ => n - (intOf i).toNat)
          case atStart => exact ⟨0, Nat.zero_le _, rfl, hB2, hN2, fun j u hj => absurd hj (Nat.not_lt_zero _)⟩
          case round =>
            obtain ⟨k, hk', rfl, hB3, hN3, hA⟩ := hrel
            have q3 : wr.cell? ⟨w.heap.size, 3, none⟩ = some (.slice A n c) := hN3.out.cell 3
            by_cases hlt : k < n
            · obtain ⟨b, o, A1, n1, c1, A2, n2, c2, ref, nsn, x1, x2, rfl, hb, d0, d1, d2, d3, hx, i1, i2, m1, m2⟩ := HP.out.cellAt hlt
              have e2 := (hB3.out.cell (p := ⟨b, o + k * 4 + 2, none⟩) hb).trans d2
              clear d0 d1 d2 d3 i1 i2
              have HX := Lib.hid (eval_get hx.out)
              clear hx
              by_cases hz : findE ref (ps.map EV.val) = (k : Int)
              · have hA' := Lib.hid (uptoAt_next (P := fun j (u : EVal) => findE u.2.2.1 (ps.map EV.val) = (j : Int)) hA.out HX.out hz)
                have hz1 : (findE ref (ps.map EV.val) != (k : Int)) = false := by simp [hz]
                clear hA hz
                go_wp2
                go_quiet ((go_at_call 36; exact l3Find_q _ _ _ _ _ ps _ (HP.out.kept hB3.out) hn0))
                go_wp2
                go_roundw
                case rel => exact ⟨k + 1, by omega, by go_num, below_draws hB3.out _, hN3.out.draws _, hA'⟩
                case measure => simp [intOf]; omega
              · have HF : Hid (nodeF lv ns rt (ps.map EV.val) d = 6) := by show nodeF _ _ _ _ _ = _; rw [HT.out, twiceE_at HX.out hz]; rfl
                have hz1 : (findE ref (ps.map EV.val) != (k : Int)) = true := by simpa using hz
                clear hA hz
                go_wp2
                go_quiet ((go_at_call 36; exact l3Find_q _ _ _ _ _ ps _ (HP.out.kept hB3.out) hn0))
                go_wp2
                go_ret
                exact ⟨ret_i64 HF.out.symm, below_draws hB3.out _⟩
            · have HF : Hid (nodeF lv ns rt (ps.map EV.val) d = 0) := by show nodeF _ _ _ _ _ = _; rw [HT.out, twiceE_none (uptoAt_end hA.out (by rw [HL.out]; omega))]; rfl
              clear hA
              go_wp2
              go_ret
              exact ⟨ret_i64 HF.out.symm, hB3.out⟩

end Go.Proofs.Ytblhcnafoejahaa
