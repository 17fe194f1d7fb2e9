/- The walks of impl.readNode and impl.NodeFault. No condition but the length. -/
import Derived.Test.YtblhcnafoejahaaSlotWalks
namespace Go.Proofs.Ytblhcnafoejahaa
open Go.RowKit

/-- What readNode answers: a code, or a holder with slots of its own. -/
def ReadPost (lv ns rt d : Int) (n : Nat) (vs : List EVal) (w : World) (e : Ending) (w' : World) : Prop :=
  Below w.heap.size w w' ∧ ((nodeF lv ns rt vs d ≠ 0 ∧ e = .returned (.tuple #[.nilIface, .int .i64 (nodeF lv ns rt vs d)])) ∨
    (nodeF lv ns rt vs d = 0 ∧ ∃ (A' : Option Addr) (c' : Nat) (ss : List SL), e = .returned (.tuple #[holderV d lv ns rt A' n c', .int .i64 0]) ∧ Slots w' A' n ss ∧ SlotsOf vs ss))

/-- The same, and that the slots lie in a new block. -/
def ReadFresh (lv ns rt d : Int) (n : Nat) (vs : List EVal) (w : World) (e : Ending) (w' : World) : Prop :=
  Below w.heap.size w w' ∧ ((nodeF lv ns rt vs d ≠ 0 ∧ e = .returned (.tuple #[.nilIface, .int .i64 (nodeF lv ns rt vs d)])) ∨
    (nodeF lv ns rt vs d = 0 ∧ ∃ (A' : Option Addr) (c' : Nat) (ss : List SL), e = .returned (.tuple #[holderV d lv ns rt A' n c', .int .i64 0]) ∧ Slots w' A' n ss ∧ SlotsOf vs ss ∧ Fresh w.heap.size A' n))

theorem int_val {a b : Int} (h : a = b) : Value.int .i64 a = .int .i64 b := by rw [h]
theorem ret_two {a a' b b' : Value} (h : a = a') (h' : b = b') : Ending.returned (.tuple #[a, b]) = .returned (.tuple #[a', b']) := by rw [h, h']
theorem headF_zero {lv ns rt d : Int} {n : Nat} (h : headF lv ns rt d n = 0) : headOk lv ns rt d ∧ n ≤ 5 := by
  unfold headF at h
  by_cases h1 : headOk lv ns rt d
  · rw [if_pos h1] at h
    by_cases h2 : 5 < n
    · rw [if_pos h2] at h; omega
    · exact ⟨h1, by omega⟩
  · rw [if_neg h1] at h; omega
theorem headF_not {lv ns rt d : Int} {vs : List EVal} (h : headF lv ns rt d vs.length ≠ 0) : nodeF lv ns rt vs d = headF lv ns rt d vs.length := by
  unfold headF at h ⊢
  by_cases h1 : headOk lv ns rt d
  · rw [if_pos h1] at h ⊢
    by_cases h2 : 5 < vs.length
    · rw [if_pos h2]; exact nodeF_many h1 h2
    · rw [if_neg h2] at h; omega
  · rw [if_neg h1]; exact nodeF_head h1

set_option maxRecDepth 100000 in
set_option maxHeartbeats 3200000 in
theorem eachFault_any (d : Int) (n c : Nat) (A : Option Addr) (ps : List EV) (w : World) (hp : Entries w A n ps) (hn : n ≤ maxLen) :
    Calls Try.prog 61 #[.slice A n c, .int .i64 d] w fun e w' => e = .returned (.int .i64 (firstNZ (entF d) (ps.map EV.val))) ∧ Below w.heap.size w w' := by
  have HP := Lib.hid hp
  have HL : Hid ((ps.map EV.val).length = n) := by show List.length _ = n; rw [List.length_map]; exact hp.1
  clear hp
  unfold maxLen at hn
  go_enter Try.func61, Try.ntmps61
  go_wp2
  go_loopw [10] (fun i wr => ∃ k : Nat, k ≤ n ∧ i = .int .i64 k ∧ Hid (Below w.heap.size w wr) ∧ Hid (∀ (j : Nat) (u : EVal), j < k → (ps.map EV.val)[j]? = some u → entF d u = 0)) (fun i _ => n - (intOf i).toNat)
  case atStart => exact ⟨0, Nat.zero_le _, rfl, Below.refl _ _, fun j u hj => absurd hj (Nat.not_lt_zero _)⟩
  case round =>
    obtain ⟨k, hk', rfl, hB, hA⟩ := hrel
    by_cases hlt : k < n
    · obtain ⟨b, o, A1, n1, c1, A2, n2, c2, ref, nsn, x1, x2, rfl, hb, d0, d1, d2, d3, hx, i1, i2, m1, m2⟩ := HP.out.cellAt hlt
      have e0 : wr.cell? ⟨b, o + k * 4, none⟩ = some (.slice A1 n1 c1) := (hB.out.cell (p := ⟨b, o + k * 4, none⟩) hb).trans d0
      have e1 : wr.cell? ⟨b, o + k * 4 + 1, none⟩ = some (.slice A2 n2 c2) := (hB.out.cell (p := ⟨b, o + k * 4 + 1, none⟩) hb).trans d1
      have e2 : wr.cell? ⟨b, o + k * 4 + 2, none⟩ = some (.int .i64 ref) := (hB.out.cell (p := ⟨b, o + k * 4 + 2, none⟩) hb).trans d2
      have e3 : wr.cell? ⟨b, o + k * 4 + 3, none⟩ = some (.int .i64 nsn) := (hB.out.cell (p := ⟨b, o + k * 4 + 3, none⟩) hb).trans d3
      clear d0 d1 d2 d3
      have HX := Lib.hid (eval_get hx.out)
      have hB1 := Lib.hid (hB.out.alloc hB.out.size (.cells #[.slice A1 n1 c1, .slice A2 n2 c2, .int .i64 ref, .int .i64 nsn] 67))
      clear hx
      by_cases hz : entF d (x1, x2, ref, nsn) = 0
      · have hz1 : (entF d (x1, x2, ref, nsn) != 0) = false := by simp [hz]
        have hA' := Lib.hid (upto_next hA.out HX.out hz)
        clear hA hz
        go_wp2_with fail
        refine (entryFault_any _ _ _ _ _ _ _ _ _ _ _ x1 x2 _ (i1.out.kept hB1.out) (i2.out.kept hB1.out) m1 m2).mono ?_
        rintro e W2 ⟨rfl, b2⟩
        have hB2 := Lib.hid (hB1.out.trans (b2.mono hB1.out.size))
        clear hB hB1 b2 e0 e1 e2 e3
        go_wp2
        go_roundw
        case rel => exact ⟨k + 1, by omega, by go_num, hB2, hA'⟩
        case measure => simp [intOf]; omega
      · have hz1 : (entF d (x1, x2, ref, nsn) != 0) = true := by simpa using hz
        have H1 : Hid (firstNZ (entF d) (ps.map EV.val) = entF d (x1, x2, ref, nsn)) := firstNZ_stop hA.out HX.out hz
        clear hA hz
        go_wp2_with fail
        refine (entryFault_any _ _ _ _ _ _ _ _ _ _ _ x1 x2 _ (i1.out.kept hB1.out) (i2.out.kept hB1.out) m1 m2).mono ?_
        rintro e W2 ⟨rfl, b2⟩
        have hB2 := Lib.hid (hB1.out.trans (b2.mono hB1.out.size))
        clear hB hB1 b2 e0 e1 e2 e3
        go_wp2
        go_ret
        exact ⟨ret_i64 H1.out.symm, hB2.out⟩
    · have HA := Lib.hid (upto_end hA.out (by rw [HL.out]; omega))
      have H1 := Lib.hid (firstNZ_all HA.out)
      clear hA
      go_wp2
      go_ret
      exact ⟨ret_i64 H1.out.symm, hB.out⟩

set_option maxRecDepth 100000 in
set_option maxHeartbeats 6400000 in
theorem readNode_fresh (lv ns rt d : Int) (n c : Nat) (A : Option Addr) (ps : List EV) (w : World) (hp : Entries w A n ps) (hn : n ≤ maxLen) :
    Calls Try.prog 38 #[.agg #[.int .i64 lv, .int .i64 ns, .int .i64 rt, .slice A n c], .int .i64 d] w (ReadFresh lv ns rt d n (ps.map EV.val) w) := by
  have HP := Lib.hid hp
  have HL : Hid ((ps.map EV.val).length = n) := by show List.length _ = n; rw [List.length_map]; exact hp.1
  clear hp
  have B := Lib.hid (below_alloc w (.cells #[.int .i64 lv, .int .i64 ns, .int .i64 rt, .slice A n c] 29))
  have L_n := Lib.hid (Lies.new w 29 #[.int .i64 lv, .int .i64 ns, .int .i64 rt, .slice A n c])
  by_cases hh : headF lv ns rt d n = 0
  rotate_left
  · have hh1 : (headF lv ns rt d n != 0) = true := by simpa using hh
    have HF : Hid (nodeF lv ns rt (ps.map EV.val) d = headF lv ns rt d n) := by
      show nodeF _ _ _ _ _ = _
      rw [headF_not (by rw [HL.out]; exact hh), HL.out]
    have HNZ : Hid (nodeF lv ns rt (ps.map EV.val) d ≠ 0) := by show nodeF _ _ _ _ _ ≠ 0; rw [HF.out]; exact hh
    clear hh
    go_enter Try.func38, Try.ntmps38
    go_wp2_with fail
    refine (headFault_any _ _ _ _ _ _ _ _ hn).mono ?_
    rintro e W1 ⟨rfl, b1⟩
    replace B := Lib.hid (B.out.trans (b1.mono B.out.size))
    clear b1 L_n
    go_wp2
    go_ret2
    exact ⟨B.out, Or.inl ⟨HNZ.out, ret_two rfl (int_val HF.out.symm)⟩⟩
  have hh1 : (headF lv ns rt d n != 0) = false := by simp [hh]
  obtain ⟨hok, hn5⟩ := headF_zero hh
  have HH := Lib.hid hok
  have HM : Hid (¬ 5 < (ps.map EV.val).length) := by show ¬ _; rw [HL.out]; omega
  clear hh hok
  go_enter Try.func38, Try.ntmps38
  go_wp2_with fail
  refine (headFault_any _ _ _ _ _ _ _ _ hn).mono ?_
  rintro e W1 ⟨rfl, b1⟩
  replace L_n := Lib.hid (L_n.out.kept b1 L_n.out.inside)
  replace B := Lib.hid (B.out.trans (b1.mono B.out.size))
  clear b1
  have t3 : W1.cell? ⟨w.heap.size, 3, none⟩ = some (.slice A n c) := L_n.out.cell 3
  by_cases hz : firstNZ (entF d) (ps.map EV.val) = 0
  rotate_left
  · have hz1 : (firstNZ (entF d) (ps.map EV.val) != 0) = true := by simpa using hz
    have HF : Hid (nodeF lv ns rt (ps.map EV.val) d = firstNZ (entF d) (ps.map EV.val)) := nodeF_first HH.out HM.out hz
    have HNZ : Hid (nodeF lv ns rt (ps.map EV.val) d ≠ 0) := by show nodeF _ _ _ _ _ ≠ 0; rw [HF.out]; exact hz
    clear hz
    go_wp2_with fail
    refine (eachFault_any _ _ _ _ ps _ (HP.out.kept B.out) hn).mono ?_
    rintro e W2 ⟨rfl, b2⟩
    replace B := Lib.hid (B.out.trans (b2.mono B.out.size))
    clear b2 t3
    go_wp2
    go_ret2
    exact ⟨B.out, Or.inl ⟨HNZ.out, ret_two rfl (int_val HF.out.symm)⟩⟩
  have hz1 : (firstNZ (entF d) (ps.map EV.val) != 0) = false := by simp [hz]
  have H1 := Lib.hid hz
  have HA := Lib.hid (firstNZ_zero hz)
  clear hz
  go_wp2_with fail
  refine (eachFault_any _ _ _ _ ps _ (HP.out.kept B.out) hn).mono ?_
  rintro e W2 ⟨rfl, b2⟩
  replace L_n := Lib.hid (L_n.out.kept b2 L_n.out.inside)
  replace B := Lib.hid (B.out.trans (b2.mono B.out.size))
  clear b2 t3
  have z0 : W2.cell? ⟨w.heap.size, 0, none⟩ = some (.int .i64 lv) := L_n.out.cell 0
  have z1 : W2.cell? ⟨w.heap.size, 1, none⟩ = some (.int .i64 ns) := L_n.out.cell 1
  have z2 : W2.cell? ⟨w.heap.size, 2, none⟩ = some (.int .i64 rt) := L_n.out.cell 2
  have z3 : W2.cell? ⟨w.heap.size, 3, none⟩ = some (.slice A n c) := L_n.out.cell 3
  go_wp2_with fail
  refine (holderFrom_fresh _ _ _ _ _ _ _ ps _ (HP.out.kept B.out) hn5 HA.out).mono ?_
  rintro e W3 ⟨A', c', ss, rfl, hS, hO, hFr, b2⟩
  have FR := Lib.hid (hFr.lower B.out.size)
  replace B := Lib.hid (B.out.trans (b2.mono B.out.size))
  have HS := Lib.hid hS
  have HO := Lib.hid hO
  clear hS hO b2 hFr L_n z0 z1 z2 z3
  by_cases hl0 : lv = 0
  · have hm1 : ∀ w : World, (method 281 150 (.agg #[.int .i64 d, .slice A' n c', .int .i64 lv, .int .i64 ns, .int .i64 rt]) "loop.example/g00680/impl.sound").run Try.prog w = .ok (133, .agg #[.int .i64 d, .slice A' n c', .int .i64 lv, .int .i64 ns, .int .i64 rt]) w := fun _ => by kernel_rfl
    have hm2 : ∀ w : World, (method 281 150 (.agg #[.int .i64 d, .slice A' n c', .int .i64 lv, .int .i64 ns, .int .i64 rt]) "loop.example/g00680/impl.refTwice").run Try.prog w = .ok (121, .agg #[.int .i64 d, .slice A' n c']) w := fun _ => by kernel_rfl
    have HV : Hid (holderV d lv ns rt A' n c' = .iface 150 (.agg #[.int .i64 d, .slice A' n c', .int .i64 lv, .int .i64 ns, .int .i64 rt])) := by show holderV _ _ _ _ _ _ _ = _; unfold holderV; rw [if_pos hl0]
    have HL0 := Lib.hid hl0
    clear hl0
    rw [HV.out]
    cases hs : ss.all (fitsS lv)
    · have HSN := Lib.hid hs
      have HF : Hid (nodeF lv ns rt (ps.map EV.val) d = 1) := nodeF_form HH.out HM.out H1.out (by rw [← fits_all HO.out]; exact hs)
      clear hs
      go_wp2_with fail
      refine (leafSound_any _ _ _ _ _ _ _ ss _ HS.out hn HL0.out).mono ?_
      rintro e W4 ⟨rfl, b3⟩
      replace B := Lib.hid (B.out.trans (b3.mono B.out.size))
      clear b3
      rw [HSN.out]
      go_wp2
      go_ret2
      exact ⟨B.out, Or.inl ⟨by rw [HF.out]; decide, ret_two rfl (int_val HF.out.symm)⟩⟩
    · have HSN := Lib.hid hs
      have HT : Hid (nodeF lv ns rt (ps.map EV.val) d = if twiceE (ps.map EV.val) then 6 else 0) := nodeF_twice HH.out HM.out H1.out (by rw [← fits_all HO.out]; exact hs)
      clear hs
      go_wp2_with fail
      refine (leafSound_any _ _ _ _ _ _ _ ss _ HS.out hn HL0.out).mono ?_
      rintro e W4 ⟨rfl, b3⟩
      replace HS := Lib.hid (HS.out.kept b3)
      replace B := Lib.hid (B.out.trans (b3.mono B.out.size))
      clear b3
      rw [HSN.out]
      go_wp2_with fail
      refine (refTwice_any _ _ _ _ (ps.map EV.val) ss _ HS.out HO.out hn).mono ?_
      rintro e W5 ⟨rfl, b4⟩
      replace HS := Lib.hid (HS.out.kept b4)
      replace B := Lib.hid (B.out.trans (b4.mono B.out.size))
      clear b4
      cases ht : twiceE (ps.map EV.val)
      · have HF : Hid (nodeF lv ns rt (ps.map EV.val) d = 0) := by show nodeF _ _ _ _ _ = _; rw [HT.out, ht]; rfl
        clear ht HT
        go_wp2
        go_ret2
        exact ⟨B.out, Or.inr ⟨HF.out, A', c', ss, ret_two HV.out.symm rfl, HS.out, HO.out, FR.out⟩⟩
      · have HF : Hid (nodeF lv ns rt (ps.map EV.val) d = 6) := by show nodeF _ _ _ _ _ = _; rw [HT.out, ht]; rfl
        clear ht HT
        go_wp2
        go_ret2
        exact ⟨B.out, Or.inl ⟨by rw [HF.out]; decide, ret_two rfl (int_val HF.out.symm)⟩⟩
  · have hm1 : ∀ w : World, (method 281 151 (.agg #[.int .i64 d, .slice A' n c', .int .i64 lv, .int .i64 ns, .int .i64 rt]) "loop.example/g00680/impl.sound").run Try.prog w = .ok (138, .agg #[.int .i64 d, .slice A' n c', .int .i64 lv, .int .i64 ns, .int .i64 rt]) w := fun _ => by kernel_rfl
    have hm2 : ∀ w : World, (method 281 151 (.agg #[.int .i64 d, .slice A' n c', .int .i64 lv, .int .i64 ns, .int .i64 rt]) "loop.example/g00680/impl.refTwice").run Try.prog w = .ok (121, .agg #[.int .i64 d, .slice A' n c']) w := fun _ => by kernel_rfl
    have HV : Hid (holderV d lv ns rt A' n c' = .iface 151 (.agg #[.int .i64 d, .slice A' n c', .int .i64 lv, .int .i64 ns, .int .i64 rt])) := by show holderV _ _ _ _ _ _ _ = _; unfold holderV; rw [if_neg hl0]
    have HL0 := Lib.hid hl0
    clear hl0
    rw [HV.out]
    cases hs : ss.all (fitsS lv)
    · have HSN := Lib.hid hs
      have HF : Hid (nodeF lv ns rt (ps.map EV.val) d = 1) := nodeF_form HH.out HM.out H1.out (by rw [← fits_all HO.out]; exact hs)
      clear hs
      go_wp2_with fail
      refine (innerSound_any _ _ _ _ _ _ _ ss _ HS.out hn HL0.out).mono ?_
      rintro e W4 ⟨rfl, b3⟩
      replace B := Lib.hid (B.out.trans (b3.mono B.out.size))
      clear b3
      rw [HSN.out]
      go_wp2
      go_ret2
      exact ⟨B.out, Or.inl ⟨by rw [HF.out]; decide, ret_two rfl (int_val HF.out.symm)⟩⟩
    · have HSN := Lib.hid hs
      have HT : Hid (nodeF lv ns rt (ps.map EV.val) d = if twiceE (ps.map EV.val) then 6 else 0) := nodeF_twice HH.out HM.out H1.out (by rw [← fits_all HO.out]; exact hs)
      clear hs
      go_wp2_with fail
      refine (innerSound_any _ _ _ _ _ _ _ ss _ HS.out hn HL0.out).mono ?_
      rintro e W4 ⟨rfl, b3⟩
      replace HS := Lib.hid (HS.out.kept b3)
      replace B := Lib.hid (B.out.trans (b3.mono B.out.size))
      clear b3
      rw [HSN.out]
      go_wp2_with fail
      refine (refTwice_any _ _ _ _ (ps.map EV.val) ss _ HS.out HO.out hn).mono ?_
      rintro e W5 ⟨rfl, b4⟩
      replace HS := Lib.hid (HS.out.kept b4)
      replace B := Lib.hid (B.out.trans (b4.mono B.out.size))
      clear b4
      cases ht : twiceE (ps.map EV.val)
      · have HF : Hid (nodeF lv ns rt (ps.map EV.val) d = 0) := by show nodeF _ _ _ _ _ = _; rw [HT.out, ht]; rfl
        clear ht HT
        go_wp2
        go_ret2
        exact ⟨B.out, Or.inr ⟨HF.out, A', c', ss, ret_two HV.out.symm rfl, HS.out, HO.out, FR.out⟩⟩
      · have HF : Hid (nodeF lv ns rt (ps.map EV.val) d = 6) := by show nodeF _ _ _ _ _ = _; rw [HT.out, ht]; rfl
        clear ht HT
        go_wp2
        go_ret2
        exact ⟨B.out, Or.inl ⟨by rw [HF.out]; decide, ret_two rfl (int_val HF.out.symm)⟩⟩

theorem readNode_any (lv ns rt d : Int) (n c : Nat) (A : Option Addr) (ps : List EV) (w : World) (hp : Entries w A n ps) (hn : n ≤ maxLen) :
    Calls Try.prog 38 #[.agg #[.int .i64 lv, .int .i64 ns, .int .i64 rt, .slice A n c], .int .i64 d] w (ReadPost lv ns rt d n (ps.map EV.val) w) := by
  refine (readNode_fresh lv ns rt d n c A ps w hp hn).mono ?_
  rintro e w' ⟨hb, h⟩
  refine ⟨hb, ?_⟩
  rcases h with h | ⟨h0, A', c', ss, h1, h2, h3, _⟩
  · exact Or.inl h
  · exact Or.inr ⟨h0, A', c', ss, h1, h2, h3⟩

set_option maxHeartbeats 800000 in
theorem implNodeFault_any (lv ns rt d : Int) (n c : Nat) (A : Option Addr) (ps : List EV) (w : World) (hp : Entries w A n ps) (hn : n ≤ maxLen) :
    Calls Try.prog 11 #[.agg #[.int .i64 lv, .int .i64 ns, .int .i64 rt, .slice A n c], .int .i64 d] w fun e w' => e = .returned (.int .i64 (nodeF lv ns rt (ps.map EV.val) d)) ∧ Below w.heap.size w w' := by
  have HP := Lib.hid hp
  clear hp
  have B := Lib.hid (below_alloc w (.cells #[.int .i64 lv, .int .i64 ns, .int .i64 rt, .slice A n c] 29))
  go_enter Try.func11, Try.ntmps11
  go_wp2_with fail
  refine (readNode_any _ _ _ _ _ _ _ ps _ (HP.out.kept B.out) hn).mono ?_
  rintro e W1 ⟨b1, h⟩
  replace B := Lib.hid (B.out.trans (b1.mono B.out.size))
  clear b1
  rcases h with ⟨_, rfl⟩ | ⟨h0, A', c', ss, rfl, _, _⟩
  · go_wp2
    go_ret
    exact ⟨rfl, B.out⟩
  · have H0 := Lib.hid h0
    clear h0
    go_wp2
    go_ret
    exact ⟨ret_i64 H0.out.symm, B.out⟩

end Go.Proofs.Ytblhcnafoejahaa
