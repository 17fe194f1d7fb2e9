/- The walk of impl.ModelFault. No condition but the length. -/
import Derived.Test.YtpgoildfjkokiabRises
namespace Go.Proofs.Ytpgoildfjkokiab
open Go.RowKit

theorem ids_of {ps : List PV} : ps.map PV.id = (ps.map PV.val).map (·.1) := by rw [List.map_map]; rfl

set_option maxHeartbeats 3200000 in
theorem implModelFault_any (d : Int) (n c : Nat) (A : Option Addr) (ps : List PV) (w : World) (hp : Pairs w A n ps) (hn : n ≤ maxLen) :
    Calls Try.prog 18 #[.slice A n c, .int .i64 d] w fun e w' => e = .returned (.int .i64 (mf (ps.map PV.val) d)) ∧ Below w.heap.size w w' := by
  have HP := Lib.hid hp
  have HL : Hid ((ps.map PV.val).length = n) := by show List.length _ = n; rw [List.length_map]; exact hp.1
  clear hp
  unfold maxLen at hn
  have B := Lib.hid (below_alloc w (.cells #[.int .i64 d] 2))
  by_cases hd : 2 ≤ d ∧ d ≤ 3
  rotate_left
  · have HF := Lib.hid (mf_dim (vs := ps.map PV.val) hd)
    have HA : Hid (allIn 2 3 [d] = false) := by show allIn 2 3 [d] = _; rw [allIn_one]; simp; omega
    clear hd
    go_enter Try.func18, Try.ntmps18
    go_wp2_with fail
    refine (within_is 2 3 _ _ _ _ [d] _ false HA.out (one_ints w d) (by decide)).mono ?_
    rintro e w' ⟨rfl, rfl⟩
    go_wp2
    go_ret
    exact ⟨ret_i64 HF.out.symm, B.out⟩
  have HA : Hid (allIn 2 3 [d] = true) := by show allIn 2 3 [d] = _; rw [allIn_one]; simp; omega
  by_cases hm : 60 < n
  · have HF := Lib.hid (mf_many (vs := ps.map PV.val) hd (by rw [HL.out]; exact hm))
    clear hd
    go_enter Try.func18, Try.ntmps18
    go_wp2_with fail
    refine (within_is 2 3 _ _ _ _ [d] _ true HA.out (one_ints w d) (by decide)).mono ?_
    rintro e w' ⟨rfl, rfl⟩
    go_wp2
    go_ret
    exact ⟨ret_i64 HF.out.symm, B.out⟩
  have HM : Hid (¬ 60 < (ps.map PV.val).length) := by show ¬ _; rw [HL.out]; exact hm
  have HD := Lib.hid hd
  clear hd
  go_enter Try.func18, Try.ntmps18
  go_wp2_with fail
  refine (within_is 2 3 _ _ _ _ [d] _ true HA.out (one_ints w d) (by decide)).mono ?_
  rintro e w' ⟨rfl, rfl⟩
  clear HA
  go_wp2
  go_loopw [17] (fun i wr => ∃ k : Nat, k ≤ n ∧ i = .int .i64 k ∧ Hid (Below w.heap.size w wr) ∧ Hid (∀ (j : Nat) (u : Int × List Int × List Int), j < k → (ps.map PV.val)[j]? = some u → pairF u d = 0)) (fun i _ => n - (intOf i).toNat)
  case atStart => exact ⟨0, Nat.zero_le _, rfl, B, fun j u hj => absurd hj (Nat.not_lt_zero _)⟩
  case round =>
    obtain ⟨k, hk', rfl, hB, hA⟩ := hrel
    by_cases hlt : k < n
    · obtain ⟨b, o, id, A1, n1, c1, A2, n2, c2, x1, x2, rfl, hb, d0, d1, d2, hx, i1, i2, m1, m2⟩ := HP.out.cellAt hlt
      have e0 : wr.cell? ⟨b, o + k * 3, none⟩ = some (.int .i64 id) := (hB.out.cell (p := ⟨b, o + k * 3, none⟩) hb).trans d0
      have e1 : wr.cell? ⟨b, o + k * 3 + 1, none⟩ = some (.slice A1 n1 c1) := (hB.out.cell (p := ⟨b, o + k * 3 + 1, none⟩) hb).trans d1
      have e2 : wr.cell? ⟨b, o + k * 3 + 2, none⟩ = some (.slice A2 n2 c2) := (hB.out.cell (p := ⟨b, o + k * 3 + 2, none⟩) hb).trans d2
      clear d0 d1 d2
      have HX := Lib.hid (val_get hx.out)
      have hB1 := Lib.hid (hB.out.alloc hB.out.size (.cells #[.int .i64 id, .slice A1 n1 c1, .slice A2 n2 c2] 28))
      by_cases hz : pairF (id, x1, x2) d = 0
      · have hz1 : (pairF (id, x1, x2) d != 0) = false := by simp [hz]
        have hA' : Hid (∀ (j : Nat) (u : Int × List Int × List Int), j < k + 1 → (ps.map PV.val)[j]? = some u → pairF u d = 0) := by
          intro j u hj hu
          rcases Nat.lt_succ_iff_lt_or_eq.1 hj with h | h
          · exact hA.out j u h hu
          · subst h; rw [HX.out] at hu; injection hu with hu; subst hu; exact hz
        clear hA hz hx
        go_wp2_with fail
        refine (pairFault_any _ _ _ _ _ _ _ _ _ _ x1 x2 _ (i1.out.kept hB1.out) (i2.out.kept hB1.out) m1 m2).mono ?_
        rintro e W1 ⟨rfl, b1⟩
        have hB' := Lib.hid (hB1.out.trans (b1.mono hB1.out.size))
        clear hB hB1 b1 e0 e1 e2
        go_wp2
        go_roundw
        case rel => exact ⟨k + 1, by omega, by go_num, hB', hA'⟩
        case measure => simp [intOf]; omega
      · have hz1 : (pairF (id, x1, x2) d != 0) = true := by simpa using hz
        have H1 : firstF d (ps.map PV.val) = pairF (id, x1, x2) d := firstF_stop hA.out HX.out hz
        have HF : Hid (mf (ps.map PV.val) d = pairF (id, x1, x2) d) := (mf_first HD.out HM.out (by rw [H1]; exact hz)).trans H1
        clear hA hz hx H1
        go_wp2_with fail
        refine (pairFault_any _ _ _ _ _ _ _ _ _ _ x1 x2 _ (i1.out.kept hB1.out) (i2.out.kept hB1.out) m1 m2).mono ?_
        rintro e W1 ⟨rfl, b1⟩
        go_wp2
        go_ret
        exact ⟨ret_i64 HF.out.symm, hB1.out.trans (b1.mono hB1.out.size)⟩
    · have H1 : firstF d (ps.map PV.val) = 0 := firstF_all fun j u hu => hA.out j u (by have h1 := (List.getElem?_eq_some_iff.1 hu).1; have h2 := HL.out; omega) hu
      have HR := Lib.hid (mf_rises HD.out HM.out H1)
      clear hA H1
      cases hri : rises (ps.map PV.val)
      · have HF : Hid (mf (ps.map PV.val) d = 1) := by show mf _ _ = _; rw [HR.out, hri]; rfl
        have HI : Hid (risesL (ps.map PV.id) = false) := by show risesL _ = _; rw [ids_of, rises_ids]; exact hri
        clear hri HR
        go_wp2_with fail
        refine (idsOf_any _ _ _ ps _ (HP.out.kept hB.out) (by omega)).mono ?_
        rintro e W1 ⟨A', c', rfl, hI, b1⟩
        have J := Lib.hid hI
        replace hB := Lib.hid (hB.out.trans (b1.mono hB.out.size))
        clear hI b1
        go_wp2_with fail
        refine (rises_any _ _ _ _ _ _ J.out (by unfold maxLen; omega)).mono ?_
        rintro e W2 ⟨rfl, b2⟩
        rw [HI.out]
        go_wp2
        go_ret
        exact ⟨ret_i64 HF.out.symm, hB.out.trans (b2.mono hB.out.size)⟩
      · have HF : Hid (mf (ps.map PV.val) d = 0) := by show mf _ _ = _; rw [HR.out, hri]; rfl
        have HI : Hid (risesL (ps.map PV.id) = true) := by show risesL _ = _; rw [ids_of, rises_ids]; exact hri
        clear hri HR
        go_wp2_with fail
        refine (idsOf_any _ _ _ ps _ (HP.out.kept hB.out) (by omega)).mono ?_
        rintro e W1 ⟨A', c', rfl, hI, b1⟩
        have J := Lib.hid hI
        replace hB := Lib.hid (hB.out.trans (b1.mono hB.out.size))
        clear hI b1
        go_wp2_with fail
        refine (rises_any _ _ _ _ _ _ J.out (by unfold maxLen; omega)).mono ?_
        rintro e W2 ⟨rfl, b2⟩
        rw [HI.out]
        go_wp2
        go_ret
        exact ⟨ret_i64 HF.out.symm, hB.out.trans (b2.mono hB.out.size)⟩

end Go.Proofs.Ytpgoildfjkokiab
