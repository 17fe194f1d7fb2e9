/- What is wrong with a list of entries (plain), and the walk of spec.EntriesFault. No condition but the length. -/
import Derived.Test.YtbnlgmcjklfcoaaSpecNode
namespace Go.Proofs.Ytbnlgmcjklfcoaa
open Go.RowKit

/-- The code of a list of entries. -/
def entsF (vs : List EVal) (d : Int) : Int :=
  if 2 ≤ d ∧ d ≤ 3 then if 8 < vs.length then 2 else if firstNZ (entF d) vs ≠ 0 then firstNZ (entF d) vs else if twiceE vs then 6 else 0 else 3
theorem entsF_dims {vs : List EVal} {d : Int} (h : ¬ (2 ≤ d ∧ d ≤ 3)) : entsF vs d = 3 := by unfold entsF; rw [if_neg h]
theorem entsF_many {vs : List EVal} {d : Int} (h : 2 ≤ d ∧ d ≤ 3) (h2 : 8 < vs.length) : entsF vs d = 2 := by unfold entsF; rw [if_pos h, if_pos h2]
theorem entsF_first {vs : List EVal} {d : Int} (h : 2 ≤ d ∧ d ≤ 3) (h2 : ¬ 8 < vs.length) (h3 : firstNZ (entF d) vs ≠ 0) : entsF vs d = firstNZ (entF d) vs := by unfold entsF; rw [if_pos h, if_neg h2, if_pos h3]
theorem entsF_twice {vs : List EVal} {d : Int} (h : 2 ≤ d ∧ d ≤ 3) (h2 : ¬ 8 < vs.length) (h3 : firstNZ (entF d) vs = 0) : entsF vs d = if twiceE vs then 6 else 0 := by unfold entsF; rw [if_pos h, if_neg h2, if_neg (by simp [h3])]
theorem entsF_zero {vs : List EVal} {d : Int} (h : entsF vs d = 0) : (2 ≤ d ∧ d ≤ 3) ∧ vs.length ≤ 8 ∧ (∀ (j : Nat) (u : EVal), vs[j]? = some u → entF d u = 0) ∧ twiceE vs = false := by
  by_cases h1 : 2 ≤ d ∧ d ≤ 3
  · by_cases h2 : 8 < vs.length
    · rw [entsF_many h1 h2] at h; omega
    · by_cases h3 : firstNZ (entF d) vs = 0
      · rw [entsF_twice h1 h2 h3] at h
        refine ⟨h1, by omega, firstNZ_zero h3, ?_⟩
        cases ht : twiceE vs
        · rfl
        · rw [ht] at h; simp at h
      · rw [entsF_first h1 h2 h3] at h; exact absurd h h3
  · rw [entsF_dims h1] at h; omega

set_option maxRecDepth 100000 in
set_option maxHeartbeats 6400000 in
theorem specEntriesFault_any (d : Int) (n c : Nat) (A : Option Addr) (ps : List EV) (w : World) (hp : Entries w A n ps) (hn : n ≤ maxLen) :
    Calls Try.prog 16 #[.slice A n c, .int .i64 d] w fun e w' => e = .returned (.int .i64 (entsF (ps.map EV.val) d)) ∧ Below w.heap.size w w' := by
  have HP := Lib.hid hp
  have HL : Hid ((ps.map EV.val).length = n) := by show List.length _ = n; rw [List.length_map]; exact hp.1
  clear hp
  have hn0 := hn
  unfold maxLen at hn
  by_cases hd : 2 ≤ d ∧ d ≤ 3
  rotate_left
  · have HF := Lib.hid (entsF_dims (vs := ps.map EV.val) hd)
    go_enter Try.func16, Try.ntmps16
    go_wp2_with fail
    refine (l1In_no _ _ _ _ hd).mono ?_
    rintro e w' ⟨rfl, rfl⟩
    go_wp2
    go_ret
    exact ⟨ret_i64 HF.out.symm, Below.refl _ _⟩
  by_cases hm : 8 < n
  · have HF := Lib.hid (entsF_many hd (show 8 < (ps.map EV.val).length by rw [HL.out]; exact hm))
    go_enter Try.func16, Try.ntmps16
    go_wp2_with fail
    refine (l1In_yes _ _ _ _ hd.1 hd.2).mono ?_
    rintro e w' ⟨rfl, rfl⟩
    go_wp2
    go_ret
    exact ⟨ret_i64 HF.out.symm, Below.refl _ _⟩
  have HD := Lib.hid hd
  have HM : Hid (¬ 8 < (ps.map EV.val).length) := by show ¬ _; rw [HL.out]; exact hm
  go_enter Try.func16, Try.ntmps16
  go_wp2_with fail
  refine (l1In_yes _ _ _ _ hd.1 hd.2).mono ?_
  rintro e w' ⟨rfl, rfl⟩
  clear hd
  go_wp2
  go_loopw [5] (fun i wr => ∃ k : Nat, k ≤ n ∧ i = .int .i64 k ∧ Hid (Below w.heap.size w wr) ∧ Hid (∀ (j : Nat) (u : EVal), j < k → (ps.map EV.val)[j]? = some u → entF d u = 0)) (fun i _ => n - (intOf i).toNat)
  case atStart => exact ⟨0, Nat.zero_le _, rfl, Below.refl _ _, fun j u hj => absurd hj (Nat.not_lt_zero _)⟩
  case round =>
    obtain ⟨k, hk', rfl, hB, hA⟩ := hrel
    by_cases hlt : k < n
    · obtain ⟨b, o, A1, n1, c1, A2, n2, c2, ref, nsn, x1, x2, rfl, hb, d0, d1, d2, d3, hx, i1, i2, m1, m2⟩ := HP.out.cellAt hlt
      have kb := Nat.lt_of_lt_of_le hb hB.out.size
      have e0 := Lib.hid ((hB.out.cell (p := ⟨b, o + k * 4, none⟩) hb).trans d0)
      have e1 := Lib.hid ((hB.out.cell (p := ⟨b, o + k * 4 + 1, none⟩) hb).trans d1)
      have e2 := Lib.hid ((hB.out.cell (p := ⟨b, o + k * 4 + 2, none⟩) hb).trans d2)
      have e3 := Lib.hid ((hB.out.cell (p := ⟨b, o + k * 4 + 3, none⟩) hb).trans d3)
      clear d0 d1 d2 d3
      have HX := Lib.hid (eval_get hx.out)
      by_cases hz : entF d (x1, x2, ref, nsn) = 0
      · have hz1 : (entF d (x1, x2, ref, nsn) != 0) = false := by simp [hz]
        have hA' := Lib.hid (upto_next hA.out HX.out hz)
        clear hA hz hx
        go_wp2_with fail
        refine (l3Entry_any _ _ _ _ _ _ _ _ _ _ _ x1 x2 _ kb e0.out e1.out e2.out e3.out (i1.out.kept hB.out) (i2.out.kept hB.out) m1 m2).mono ?_
        rintro e W1 ⟨rfl, b1⟩
        have hB' := Lib.hid (hB.out.trans (b1.mono hB.out.size))
        clear hB b1 e0 e1 e2 e3
        go_wp2
        go_roundw
        case rel => exact ⟨k + 1, by omega, by go_num, hB', hA'⟩
        case measure => simp [intOf]; omega
      · have hz1 : (entF d (x1, x2, ref, nsn) != 0) = true := by simpa using hz
        have H1 : firstNZ (entF d) (ps.map EV.val) = entF d (x1, x2, ref, nsn) := firstNZ_stop hA.out HX.out hz
        have HF : Hid (entsF (ps.map EV.val) d = entF d (x1, x2, ref, nsn)) := (entsF_first HD.out HM.out (by rw [H1]; exact hz)).trans H1
        clear hA hz hx H1
        go_wp2_with fail
        refine (l3Entry_any _ _ _ _ _ _ _ _ _ _ _ x1 x2 _ kb e0.out e1.out e2.out e3.out (i1.out.kept hB.out) (i2.out.kept hB.out) m1 m2).mono ?_
        rintro e W1 ⟨rfl, b1⟩
        go_wp2
        go_ret
        exact ⟨ret_i64 HF.out.symm, hB.out.trans (b1.mono hB.out.size)⟩
    · have HT := Lib.hid (entsF_twice HD.out HM.out (firstNZ_all (upto_end hA.out (by rw [HL.out]; omega))))
      clear hA
      go_wp2
      clear hk' hlt
      go_loopw [7] (fun i wr => ∃ k : Nat, k ≤ n ∧ i = .int .i64 k ∧ Hid (Below w.heap.size w wr) ∧ Hid (∀ (j : Nat) (u : EVal), j < k → (ps.map EV.val)[j]? = some u → findE u.2.2.1 (ps.map EV.val) = (j : Int))) (fun i _ => n - (intOf i).toNat)
      case atStart => exact ⟨0, Nat.zero_le _, rfl, hB, fun j u hj => absurd hj (Nat.not_lt_zero _)⟩
      case round =>
        obtain ⟨k, hk', rfl, hB3, hA⟩ := hrel
        by_cases hlt : k < n
        · obtain ⟨b, o, A1, n1, c1, A2, n2, c2, ref, nsn, x1, x2, rfl, hb, d0, d1, d2, d3, hx, i1, i2, m1, m2⟩ := HP.out.cellAt hlt
          have e2 := (hB3.out.cell (p := ⟨b, o + k * 4 + 2, none⟩) hb).trans d2
          clear d0 d1 d2 d3 i1 i2
          have HX := Lib.hid (eval_get hx.out)
          clear hx
          by_cases hz : findE ref (ps.map EV.val) = (k : Int)
          · have hA' := Lib.hid (uptoAt_next (P := fun j (u : EVal) => findE u.2.2.1 (ps.map EV.val) = (j : Int)) hA.out HX.out hz)
            have hz1 : (findE ref (ps.map EV.val) != (k : Int)) = false := by simp [hz]
            clear hA hz
            go_wp2_with fail
            refine (l3Find_any _ _ _ _ ps _ (HP.out.kept hB3.out) hn0).mono ?_
            rintro e W3 ⟨rfl, rfl⟩
            go_wp2
            go_roundw
            case rel => exact ⟨k + 1, by omega, by go_num, hB3, hA'⟩
            case measure => simp [intOf]; omega
          · have HF : Hid (entsF (ps.map EV.val) d = 6) := by show entsF _ _ = _; rw [HT.out, twiceE_at HX.out hz]; rfl
            have hz1 : (findE ref (ps.map EV.val) != (k : Int)) = true := by simpa using hz
            clear hA hz
            go_wp2_with fail
            refine (l3Find_any _ _ _ _ ps _ (HP.out.kept hB3.out) hn0).mono ?_
            rintro e W3 ⟨rfl, rfl⟩
            go_wp2
            go_ret
            exact ⟨ret_i64 HF.out.symm, hB3.out⟩
        · have HF : Hid (entsF (ps.map EV.val) d = 0) := by show entsF _ _ = _; rw [HT.out, twiceE_none (uptoAt_end hA.out (by rw [HL.out]; omega))]; rfl
          clear hA
          go_wp2
          go_ret
          exact ⟨ret_i64 HF.out.symm, hB3.out⟩

end Go.Proofs.Ytbnlgmcjklfcoaa
