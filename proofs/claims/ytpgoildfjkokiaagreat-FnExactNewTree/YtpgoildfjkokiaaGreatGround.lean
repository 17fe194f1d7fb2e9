/- The walks of impl.readNode and impl.NodeFault. No condition but the length. -/
import Derived.Test.YtpgoildfjkokiaaGreatSlotWalks
import Derived.Test.YtpgoildfjkokiaaGreatEntryLists
namespace Go.Proofs.YtpgoildfjkokiaaGreat
open Go.RowKit

/-- What readNode answers: a code, or a holder with slots of its own. -/
def ReadPost (lv ns rt d : Int) (n : Nat) (vs : List EVal) (w : World) (e : Ending) (w' : World) : Prop :=
  Below w.heap.size w w' ∧ ((nodeF lv ns rt vs d ≠ 0 ∧ e = .returned (.tuple #[.nilIface, .int .i64 (nodeF lv ns rt vs d)])) ∨
    (nodeF lv ns rt vs d = 0 ∧ ∃ (A' : Option Addr) (c' : Nat) (ss : List SL), e = .returned (.tuple #[holderV d lv ns rt A' n c', .int .i64 0]) ∧ Slots w' A' n ss ∧ SlotsOf vs ss))

/-- The same, and that the slots lie in a new block. -/
def ReadFresh (lv ns rt d : Int) (n : Nat) (vs : List EVal) (w : World) (e : Ending) (w' : World) : Prop :=
  Below w.heap.size w w' ∧ ((nodeF lv ns rt vs d ≠ 0 ∧ e = .returned (.tuple #[.nilIface, .int .i64 (nodeF lv ns rt vs d)])) ∨
    (nodeF lv ns rt vs d = 0 ∧ ∃ (A' : Option Addr) (c' : Nat) (ss : List SL), e = .returned (.tuple #[holderV d lv ns rt A' n c', .int .i64 0]) ∧ Slots w' A' n ss ∧ SlotsOf vs ss ∧ Fresh w.heap.size A' n))

theorem int_val {a b : Int} (h : a = b) : Value.int .i64 a = .int .i64 b := by rw [h]
theorem ret_two {a a' b b' : Value} (h : a = a') (h' : b = b') : Ending.returned (.tuple #[a, b]) = .returned (.tuple #[a', b']) := by rw [h, h']
theorem headF_zero {lv ns rt d : Int} {n : Nat} (h : headF lv ns rt d n = 0) : headOk lv ns rt d ∧ n ≤ 5 := by
  unfold headF at h
  by_cases h1 : headOk lv ns rt d
  · rw [if_pos h1] at h
    by_cases h2 : 5 < n
    · rw [if_pos h2] at h; omega
    · exact ⟨h1, by omega⟩
  · rw [if_neg h1] at h; omega
theorem headF_not {lv ns rt d : Int} {vs : List EVal} (h : headF lv ns rt d vs.length ≠ 0) : nodeF lv ns rt vs d = headF lv ns rt d vs.length := by
  unfold headF at h ⊢
  by_cases h1 : headOk lv ns rt d
  · rw [if_pos h1] at h ⊢
    by_cases h2 : 5 < vs.length
    · rw [if_pos h2]; exact nodeF_many h1 h2
    · rw [if_neg h2] at h; omega
  · rw [if_neg h1]; exact nodeF_head h1

set_option maxRecDepth 100000 in
set_option maxHeartbeats 3200000 in
theorem eachFault_any (d : Int) (n c : Nat) (A : Option Addr) (ps : List EV) (w : World) (hp : Entries w A n ps) (hn : n ≤ maxLen) :
    Calls Tryz.prog 125 #[.slice A n c, .int .i64 d] w fun e w' => e = .returned (.int .i64 (firstNZ (entF d) (ps.map EV.val))) ∧ Below w.heap.size w w' := by
  have HP := Lib.hid hp
  have HL : Hid ((ps.map EV.val).length = n) := by show List.length _ = n; rw [List.length_map]; exact hp.1
  clear hp
  unfold maxLen at hn
  go_enter Tryz.func125, Tryz.ntmps125
  go_wp2
  go_loopw [10] (fun i wr => ∃ k : Nat, k ≤ n ∧ i = .int .i64 k ∧ Hid (Below w.heap.size w wr) ∧ Hid (∀ (j : Nat) (u : EVal), j < k → (ps.map EV.val)[j]? = some u → entF d u = 0)) (fun i _ => n - (intOf i).toNat)
  case atStart => exact ⟨0, Nat.zero_le _, rfl, Below.refl _ _, fun j u hj => absurd hj (Nat.not_lt_zero _)⟩
  case round =>
    obtain ⟨k, hk', rfl, hB, hA⟩ := hrel
    by_cases hlt : k < n
    · obtain ⟨b, o, A1, n1, c1, A2, n2, c2, ref, nsn, x1, x2, rfl, hb, d0, d1, d2, d3, hx, i1, i2, m1, m2⟩ := HP.out.cellAt hlt
      have e0 : wr.cell? ⟨b, o + k * 4, none⟩ = some (.slice A1 n1 c1) := (hB.out.cell (p := ⟨b, o + k * 4, none⟩) hb).trans d0
      have e1 : wr.cell? ⟨b, o + k * 4 + 1, none⟩ = some (.slice A2 n2 c2) := (hB.out.cell (p := ⟨b, o + k * 4 + 1, none⟩) hb).trans d1
      have e2 : wr.cell? ⟨b, o + k * 4 + 2, none⟩ = some (.int .i64 ref) := (hB.out.cell (p := ⟨b, o + k * 4 + 2, none⟩) hb).trans d2
      have e3 : wr.cell? ⟨b, o + k * 4 + 3, none⟩ = some (.int .i64 nsn) := (hB.out.cell (p := ⟨b, o + k * 4 + 3, none⟩) hb).trans d3
      clear d0 d1 d2 d3
      have HX := Lib.hid (eval_get hx.out)
      have hB1 := Lib.hid (hB.out.alloc hB.out.size (.cells #[.slice A1 n1 c1, .slice A2 n2 c2, .int .i64 ref, .int .i64 nsn] 150))
      clear hx
      by_cases hz : entF d (x1, x2, ref, nsn) = 0
      · have hz1 : (entF d (x1, x2, ref, nsn) != 0) = false := by simp [hz]
        have hA' := Lib.hid (upto_next hA.out HX.out hz)
        clear hA hz
        go_wp2_with fail
        refine (entryFault_any _ _ _ _ _ _ _ _ _ _ _ x1 x2 _ (i1.out.kept hB1.out) (i2.out.kept hB1.out) m1 m2).mono ?_
        rintro e W2 ⟨rfl, b2⟩
        have hB2 := Lib.hid (hB1.out.trans (b2.mono hB1.out.size))
        clear hB hB1 b2 e0 e1 e2 e3
        go_wp2
        go_roundw
        case rel => exact ⟨k + 1, by omega, by go_num, hB2, hA'⟩
        case measure => simp [intOf]; omega
      · have hz1 : (entF d (x1, x2, ref, nsn) != 0) = true := by simpa using hz
        have H1 : Hid (firstNZ (entF d) (ps.map EV.val) = entF d (x1, x2, ref, nsn)) := firstNZ_stop hA.out HX.out hz
        clear hA hz
        go_wp2_with fail
        refine (entryFault_any _ _ _ _ _ _ _ _ _ _ _ x1 x2 _ (i1.out.kept hB1.out) (i2.out.kept hB1.out) m1 m2).mono ?_
        rintro e W2 ⟨rfl, b2⟩
        have hB2 := Lib.hid (hB1.out.trans (b2.mono hB1.out.size))
        clear hB hB1 b2 e0 e1 e2 e3
        go_wp2
        go_ret
        exact ⟨ret_i64 H1.out.symm, hB2.out⟩
    · have HA := Lib.hid (upto_end hA.out (by rw [HL.out]; omega))
      have H1 := Lib.hid (firstNZ_all HA.out)
      clear hA
      go_wp2
      go_ret
      exact ⟨ret_i64 H1.out.symm, hB.out⟩

set_option maxRecDepth 100000 in
set_option maxHeartbeats 6400000 in
theorem readNode_fresh (lv ns rt d : Int) (n c : Nat) (A : Option Addr) (ps : List EV) (w : World) (hp : Entries w A n ps) (hn : n ≤ maxLen) :
    Calls Tryz.prog 108 #[.agg #[.int .i64 lv, .int .i64 ns, .int .i64 rt, .slice A n c], .int .i64 d] w (ReadFresh lv ns rt d n (ps.map EV.val) w) := by
  have HP := Lib.hid hp
  have HL : Hid ((ps.map EV.val).length = n) := by show List.length _ = n; rw [List.length_map]; exact hp.1
  clear hp
  have B := Lib.hid (below_alloc w (.cells #[.int .i64 lv, .int .i64 ns, .int .i64 rt, .slice A n c] 42))
  have L_n := Lib.hid (Lies.new w 42 #[.int .i64 lv, .int .i64 ns, .int .i64 rt, .slice A n c])
  by_cases hh : headF lv ns rt d n = 0
  rotate_left
  · have hh1 : (headF lv ns rt d n != 0) = true := by simpa using hh
    have HF : Hid (nodeF lv ns rt (ps.map EV.val) d = headF lv ns rt d n) := by
      show nodeF _ _ _ _ _ = _
      rw [headF_not (by rw [HL.out]; exact hh), HL.out]
    have HNZ : Hid (nodeF lv ns rt (ps.map EV.val) d ≠ 0) := by show nodeF _ _ _ _ _ ≠ 0; rw [HF.out]; exact hh
    clear hh
    go_enter Tryz.func108, Tryz.ntmps108
    go_wp2_with fail
    refine (headFault_any _ _ _ _ _ _ _ _ hn).mono ?_
    rintro e W1 ⟨rfl, b1⟩
    replace B := Lib.hid (B.out.trans (b1.mono B.out.size))
    clear b1 L_n
    go_wp2
    go_ret2
    exact ⟨B.out, Or.inl ⟨HNZ.out, ret_two rfl (int_val HF.out.symm)⟩⟩
  have hh1 : (headF lv ns rt d n != 0) = false := by simp [hh]
  obtain ⟨hok, hn5⟩ := headF_zero hh
  have HH := Lib.hid hok
  have HM : Hid (¬ 5 < (ps.map EV.val).length) := by show ¬ _; rw [HL.out]; omega
  clear hh hok
  go_enter Tryz.func108, Tryz.ntmps108
  go_wp2_with fail
  refine (headFault_any _ _ _ _ _ _ _ _ hn).mono ?_
  rintro e W1 ⟨rfl, b1⟩
  replace L_n := Lib.hid (L_n.out.kept b1 L_n.out.inside)
  replace B := Lib.hid (B.out.trans (b1.mono B.out.size))
  clear b1
  have t3 : W1.cell? ⟨w.heap.size, 3, none⟩ = some (.slice A n c) := L_n.out.cell 3
  by_cases hz : firstNZ (entF d) (ps.map EV.val) = 0
  rotate_left
  · have hz1 : (firstNZ (entF d) (ps.map EV.val) != 0) = true := by simpa using hz
    have HF : Hid (nodeF lv ns rt (ps.map EV.val) d = firstNZ (entF d) (ps.map EV.val)) := nodeF_first HH.out HM.out hz
    have HNZ : Hid (nodeF lv ns rt (ps.map EV.val) d ≠ 0) := by show nodeF _ _ _ _ _ ≠ 0; rw [HF.out]; exact hz
    clear hz
    go_wp2_with fail
    refine (eachFault_any _ _ _ _ ps _ (HP.out.kept B.out) hn).mono ?_
    rintro e W2 ⟨rfl, b2⟩
    replace B := Lib.hid (B.out.trans (b2.mono B.out.size))
    clear b2 t3
    go_wp2
    go_ret2
    exact ⟨B.out, Or.inl ⟨HNZ.out, ret_two rfl (int_val HF.out.symm)⟩⟩
  have hz1 : (firstNZ (entF d) (ps.map EV.val) != 0) = false := by simp [hz]
  have H1 := Lib.hid hz
  have HA := Lib.hid (firstNZ_zero hz)
  clear hz
  go_wp2_with fail
  refine (eachFault_any _ _ _ _ ps _ (HP.out.kept B.out) hn).mono ?_
  rintro e W2 ⟨rfl, b2⟩
  replace L_n := Lib.hid (L_n.out.kept b2 L_n.out.inside)
  replace B := Lib.hid (B.out.trans (b2.mono B.out.size))
  clear b2 t3
  have z0 : W2.cell? ⟨w.heap.size, 0, none⟩ = some (.int .i64 lv) := L_n.out.cell 0
  have z1 : W2.cell? ⟨w.heap.size, 1, none⟩ = some (.int .i64 ns) := L_n.out.cell 1
  have z2 : W2.cell? ⟨w.heap.size, 2, none⟩ = some (.int .i64 rt) := L_n.out.cell 2
  have z3 : W2.cell? ⟨w.heap.size, 3, none⟩ = some (.slice A n c) := L_n.out.cell 3
  go_wp2_with fail
  refine (holderFrom_fresh _ _ _ _ _ _ _ ps _ (HP.out.kept B.out) hn5 HA.out).mono ?_
  rintro e W3 ⟨A', c', ss, rfl, hS, hO, hFr, b2⟩
  have FR := Lib.hid (hFr.lower B.out.size)
  replace B := Lib.hid (B.out.trans (b2.mono B.out.size))
  have HS := Lib.hid hS
  have HO := Lib.hid hO
  clear hS hO b2 hFr L_n z0 z1 z2 z3
  by_cases hl0 : lv = 0
  · have hm1 : ∀ w : World, (method 323 184 (.agg #[.int .i64 d, .slice A' n c', .int .i64 lv, .int .i64 ns, .int .i64 rt]) "loop.example/g00680/impl.sound").run Tryz.prog w = .ok (179, .agg #[.int .i64 d, .slice A' n c', .int .i64 lv, .int .i64 ns, .int .i64 rt]) w := fun _ => by kernel_rfl
    have hm2 : ∀ w : World, (method 323 184 (.agg #[.int .i64 d, .slice A' n c', .int .i64 lv, .int .i64 ns, .int .i64 rt]) "loop.example/g00680/impl.refTwice").run Tryz.prog w = .ok (165, .agg #[.int .i64 d, .slice A' n c']) w := fun _ => by kernel_rfl
    have HV : Hid (holderV d lv ns rt A' n c' = .iface 184 (.agg #[.int .i64 d, .slice A' n c', .int .i64 lv, .int .i64 ns, .int .i64 rt])) := by show holderV _ _ _ _ _ _ _ = _; unfold holderV; rw [if_pos hl0]
    have HL0 := Lib.hid hl0
    clear hl0
    rw [HV.out]
    cases hs : ss.all (fitsS lv)
    · have HSN := Lib.hid hs
      have HF : Hid (nodeF lv ns rt (ps.map EV.val) d = 1) := nodeF_form HH.out HM.out H1.out (by rw [← fits_all HO.out]; exact hs)
      clear hs
      go_wp2_with fail
      refine (leafSound_any _ _ _ _ _ _ _ ss _ HS.out hn HL0.out).mono ?_
      rintro e W4 ⟨rfl, b3⟩
      replace B := Lib.hid (B.out.trans (b3.mono B.out.size))
      clear b3
      rw [HSN.out]
      go_wp2
      go_ret2
      exact ⟨B.out, Or.inl ⟨by rw [HF.out]; decide, ret_two rfl (int_val HF.out.symm)⟩⟩
    · have HSN := Lib.hid hs
      have HT : Hid (nodeF lv ns rt (ps.map EV.val) d = if twiceE (ps.map EV.val) then 6 else 0) := nodeF_twice HH.out HM.out H1.out (by rw [← fits_all HO.out]; exact hs)
      clear hs
      go_wp2_with fail
      refine (leafSound_any _ _ _ _ _ _ _ ss _ HS.out hn HL0.out).mono ?_
      rintro e W4 ⟨rfl, b3⟩
      replace HS := Lib.hid (HS.out.kept b3)
      replace B := Lib.hid (B.out.trans (b3.mono B.out.size))
      clear b3
      rw [HSN.out]
      go_wp2_with fail
      refine (refTwice_any _ _ _ _ (ps.map EV.val) ss _ HS.out HO.out hn).mono ?_
      rintro e W5 ⟨rfl, b4⟩
      replace HS := Lib.hid (HS.out.kept b4)
      replace B := Lib.hid (B.out.trans (b4.mono B.out.size))
      clear b4
      cases ht : twiceE (ps.map EV.val)
      · have HF : Hid (nodeF lv ns rt (ps.map EV.val) d = 0) := by show nodeF _ _ _ _ _ = _; rw [HT.out, ht]; rfl
        clear ht HT
        go_wp2
        go_ret2
        exact ⟨B.out, Or.inr ⟨HF.out, A', c', ss, ret_two HV.out.symm rfl, HS.out, HO.out, FR.out⟩⟩
      · have HF : Hid (nodeF lv ns rt (ps.map EV.val) d = 6) := by show nodeF _ _ _ _ _ = _; rw [HT.out, ht]; rfl
        clear ht HT
        go_wp2
        go_ret2
        exact ⟨B.out, Or.inl ⟨by rw [HF.out]; decide, ret_two rfl (int_val HF.out.symm)⟩⟩
  · have hm1 : ∀ w : World, (method 323 185 (.agg #[.int .i64 d, .slice A' n c', .int .i64 lv, .int .i64 ns, .int .i64 rt]) "loop.example/g00680/impl.sound").run Tryz.prog w = .ok (184, .agg #[.int .i64 d, .slice A' n c', .int .i64 lv, .int .i64 ns, .int .i64 rt]) w := fun _ => by kernel_rfl
    have hm2 : ∀ w : World, (method 323 185 (.agg #[.int .i64 d, .slice A' n c', .int .i64 lv, .int .i64 ns, .int .i64 rt]) "loop.example/g00680/impl.refTwice").run Tryz.prog w = .ok (165, .agg #[.int .i64 d, .slice A' n c']) w := fun _ => by kernel_rfl
    have HV : Hid (holderV d lv ns rt A' n c' = .iface 185 (.agg #[.int .i64 d, .slice A' n c', .int .i64 lv, .int .i64 ns, .int .i64 rt])) := by show holderV _ _ _ _ _ _ _ = _; unfold holderV; rw [if_neg hl0]
    have HL0 := Lib.hid hl0
    clear hl0
    rw [HV.out]
    cases hs : ss.all (fitsS lv)
    · have HSN := Lib.hid hs
      have HF : Hid (nodeF lv ns rt (ps.map EV.val) d = 1) := nodeF_form HH.out HM.out H1.out (by rw [← fits_all HO.out]; exact hs)
      clear hs
      go_wp2_with fail
      refine (innerSound_any _ _ _ _ _ _ _ ss _ HS.out hn HL0.out).mono ?_
      rintro e W4 ⟨rfl, b3⟩
      replace B := Lib.hid (B.out.trans (b3.mono B.out.size))
      clear b3
      rw [HSN.out]
      go_wp2
      go_ret2
      exact ⟨B.out, Or.inl ⟨by rw [HF.out]; decide, ret_two rfl (int_val HF.out.symm)⟩⟩
    · have HSN := Lib.hid hs
      have HT : Hid (nodeF lv ns rt (ps.map EV.val) d = if twiceE (ps.map EV.val) then 6 else 0) := nodeF_twice HH.out HM.out H1.out (by rw [← fits_all HO.out]; exact hs)
      clear hs
      go_wp2_with fail
      refine (innerSound_any _ _ _ _ _ _ _ ss _ HS.out hn HL0.out).mono ?_
      rintro e W4 ⟨rfl, b3⟩
      replace HS := Lib.hid (HS.out.kept b3)
      replace B := Lib.hid (B.out.trans (b3.mono B.out.size))
      clear b3
      rw [HSN.out]
      go_wp2_with fail
      refine (refTwice_any _ _ _ _ (ps.map EV.val) ss _ HS.out HO.out hn).mono ?_
      rintro e W5 ⟨rfl, b4⟩
      replace HS := Lib.hid (HS.out.kept b4)
      replace B := Lib.hid (B.out.trans (b4.mono B.out.size))
      clear b4
      cases ht : twiceE (ps.map EV.val)
      · have HF : Hid (nodeF lv ns rt (ps.map EV.val) d = 0) := by show nodeF _ _ _ _ _ = _; rw [HT.out, ht]; rfl
        clear ht HT
        go_wp2
        go_ret2
        exact ⟨B.out, Or.inr ⟨HF.out, A', c', ss, ret_two HV.out.symm rfl, HS.out, HO.out, FR.out⟩⟩
      · have HF : Hid (nodeF lv ns rt (ps.map EV.val) d = 6) := by show nodeF _ _ _ _ _ = _; rw [HT.out, ht]; rfl
        clear ht HT
        go_wp2
        go_ret2
        exact ⟨B.out, Or.inl ⟨by rw [HF.out]; decide, ret_two rfl (int_val HF.out.symm)⟩⟩

theorem readNode_any (lv ns rt d : Int) (n c : Nat) (A : Option Addr) (ps : List EV) (w : World) (hp : Entries w A n ps) (hn : n ≤ maxLen) :
    Calls Tryz.prog 108 #[.agg #[.int .i64 lv, .int .i64 ns, .int .i64 rt, .slice A n c], .int .i64 d] w (ReadPost lv ns rt d n (ps.map EV.val) w) := by
  refine (readNode_fresh lv ns rt d n c A ps w hp hn).mono ?_
  rintro e w' ⟨hb, h⟩
  refine ⟨hb, ?_⟩
  rcases h with h | ⟨h0, A', c', ss, h1, h2, h3, _⟩
  · exact Or.inl h
  · exact Or.inr ⟨h0, A', c', ss, h1, h2, h3⟩


end Go.Proofs.YtpgoildfjkokiaaGreat

/- Places, and an arena that is worked at: what they are in memory, and what a store into one leaves of the others. -/
namespace Go.Proofs.YtpgoildfjkokiaaGreat
open Go.RowKit

/-- A place as it lies: its block, its node's numbers, its slots, whether it is free, who watches it. -/
structure LV where
  g : Nat
  lv : Int
  ns : Int
  rt : Int
  A : Option Addr
  n : Nat
  c : Nat
  ss : List SL
  vs : List EVal
  fr : Bool
  wA : Option Addr
  wn : Nat
  wc : Nat
  ws : List Int
def LV.val (p : LV) : NVal := (p.lv, p.ns, p.rt, p.vs)
def LV.cells (d : Int) (p : LV) : Array Value := #[holderV d p.lv p.ns p.rt p.A p.n p.c, .bool p.fr, .slice p.wA p.wn p.wc]
def LV.ptr (p : LV) : Value := .pointer (some ⟨p.g, 0, none⟩)
/-- The row that the place leads to lies in block b. -/
def LV.row (p : LV) (b : Nat) : Prop := (0 < p.n ∧ p.A = some ⟨b, 0, none⟩) ∨ (0 < p.wn ∧ p.wA = some ⟨b, 0, none⟩)
/-- Block b belongs to the place. -/
def LV.has (p : LV) (b : Nat) : Prop := p.g = b ∨ p.row b
structure PlaceOk (w : World) (lo : Nat) (d : Int) (p : LV) : Prop where
  L : Lies w p.g 87 (p.cells d)
  S : Slots w p.A p.n p.ss
  O : SlotsOf p.vs p.ss
  N : nodeF p.lv p.ns p.rt p.vs d = 0
  W : Ints w 0 p.wA p.wn p.ws
  g : lo ≤ p.g
  F : Fresh lo p.A p.n
  E : Fresh lo p.wA p.wn
  Y : ¬ p.row p.g
section
variable {w w' : World} {lo : Nat} {d : Int} {p : LV}
theorem Fresh.in_slots {A : Option Addr} {n b : Nat} {ss : List SL} (h : Slots w A n ss) (h0 : 0 < n) (e : A = some ⟨b, 0, none⟩) : b < w.heap.size := by
  obtain ⟨b', o, e', h2, _⟩ := h.2 h0
  rw [e] at e'; injection e' with e'; injection e' with e'; omega
theorem Fresh.in_ints {lo : Nat} {A : Option Addr} {n b : Nat} {xs : List Int} (h : Ints w lo A n xs) (h0 : 0 < n) (e : A = some ⟨b, 0, none⟩) : b < w.heap.size := by
  obtain ⟨b', o, e', _, h2, _⟩ := h.2 h0
  rw [e] at e'; injection e' with e'; injection e' with e'; omega
theorem PlaceOk.inside (h : PlaceOk w lo d p) {b : Nat} (hb : p.has b) : lo ≤ b ∧ b < w.heap.size := by
  rcases hb with rfl | ⟨h0, e⟩ | ⟨h0, e⟩
  · exact ⟨h.g, h.L.inside⟩
  · obtain ⟨g, e', h1⟩ := h.F h0
    rw [e] at e'; injection e' with e'; injection e' with e'
    exact ⟨by omega, Fresh.in_slots h.S h0 e⟩
  · obtain ⟨g, e', h1⟩ := h.E h0
    rw [e] at e'; injection e' with e'; injection e' with e'
    exact ⟨by omega, Fresh.in_ints h.W h0 e⟩
theorem Slots.block {A : Option Addr} {n : Nat} {ss : List SL} (h : Slots w A n ss) (hF : Fresh lo A n) (hs : w.heap.size ≤ w'.heap.size) (hk : ∀ b, 0 < n → A = some ⟨b, 0, none⟩ → w'.heap[b]? = w.heap[b]?) : Slots w' A n ss := by
  obtain ⟨hl, hr⟩ := h
  refine ⟨hl, fun hn => ?_⟩
  obtain ⟨b, o, e, h2, h3⟩ := hr hn
  obtain ⟨g, e', _⟩ := hF hn
  have e2 := e
  rw [e'] at e2; injection e2 with e2; injection e2 with e2 e3
  subst e2 e3
  refine ⟨g, 0, e, by omega, fun k s hs' j v hv => ?_⟩
  rw [World.cell?_of_block (w := w) (a := ⟨g, 0 + k * 8 + j, none⟩) (hk g hn e')]
  exact h3 k s hs' j v hv
theorem Ints.blockF {lo0 : Nat} {A : Option Addr} {n : Nat} {xs : List Int} (h : Ints w lo0 A n xs) (hF : Fresh lo A n) (hs : w.heap.size ≤ w'.heap.size) (hk : ∀ b, 0 < n → A = some ⟨b, 0, none⟩ → w'.heap[b]? = w.heap[b]?) : Ints w' lo0 A n xs := by
  obtain ⟨hl, hr⟩ := h
  refine ⟨hl, fun hn => ?_⟩
  obtain ⟨b, o, e, h1, h2, h3⟩ := hr hn
  obtain ⟨g, e', _⟩ := hF hn
  have e2 := e
  rw [e'] at e2; injection e2 with e2; injection e2 with e2 e3
  subst e2 e3
  refine ⟨g, 0, e, h1, by omega, fun k x hx => ?_⟩
  rw [World.cell?_of_block (w := w) (a := ⟨g, 0 + k, none⟩) (hk g hn e')]
  exact h3 k x hx
/-- What holds of a place holds where none of its blocks has turned. -/
theorem PlaceOk.others (h : PlaceOk w lo d p) (hs : w.heap.size ≤ w'.heap.size) (hk : ∀ b, p.has b → w'.heap[b]? = w.heap[b]?) : PlaceOk w' lo d p :=
  ⟨(hk _ (Or.inl rfl)).trans h.L, h.S.block h.F hs (fun b h0 e => hk b (Or.inr (Or.inl ⟨h0, e⟩))), h.O, h.N, h.W.blockF h.E hs (fun b h0 e => hk b (Or.inr (Or.inr ⟨h0, e⟩))), h.g, h.F, h.E, h.Y⟩
theorem PlaceOk.kept (h : PlaceOk w lo d p) (hb : Below w.heap.size w w') : PlaceOk w' lo d p := h.others hb.size fun b hp => hb.block b (h.inside hp).2
end

/-- Places that share no block. -/
structure Places (w : World) (lo : Nat) (d : Int) (ps : List LV) : Prop where
  P : ∀ p ∈ ps, PlaceOk w lo d p
  X : ∀ (i j : Nat) (p q : LV), ps[i]? = some p → ps[j]? = some q → i ≠ j → ¬ q.has p.g
section
variable {w w' : World} {lo : Nat} {d : Int} {ps : List LV}
theorem Places.kept (h : Places w lo d ps) (hb : Below w.heap.size w w') : Places w' lo d ps := ⟨fun p hp => (h.P p hp).kept hb, h.X⟩
theorem Places.others (h : Places w lo d ps) (hs : w.heap.size ≤ w'.heap.size) (hk : ∀ p ∈ ps, ∀ b, p.has b → w'.heap[b]? = w.heap[b]?) : Places w' lo d ps := ⟨fun p hp => (h.P p hp).others hs (hk p hp), h.X⟩
theorem Places.nil (w : World) (lo : Nat) (d : Int) : Places w lo d [] := ⟨fun p hp => by simp at hp, fun i j p q hi => by simp at hi⟩
theorem Places.snoc (h : Places w lo d ps) {p : LV} (hp : PlaceOk w lo d p) (h1 : ∀ q ∈ ps, ¬ q.has p.g) (h2 : ∀ q ∈ ps, ¬ p.has q.g) : Places w lo d (ps ++ [p]) := by
  refine ⟨fun q hq => ?_, fun i j a b ha hb hne => ?_⟩
  · rcases List.mem_append.1 hq with hq | hq
    · exact h.P q hq
    · simp only [List.mem_singleton] at hq; subst hq; exact hp
  · rcases Nat.lt_or_ge i ps.length with hi | hi <;> rcases Nat.lt_or_ge j ps.length with hj | hj
    · rw [List.getElem?_append_left hi] at ha
      rw [List.getElem?_append_left hj] at hb
      exact h.X i j a b ha hb hne
    · rw [List.getElem?_append_left hi] at ha
      rw [List.getElem?_append_right hj] at hb
      have : j - ps.length = 0 := by have := (List.getElem?_eq_some_iff.1 hb).1; simp at this; omega
      rw [this] at hb; simp at hb; subst hb
      exact h2 a (List.mem_of_getElem? ha)
    · rw [List.getElem?_append_right hi] at ha
      rw [List.getElem?_append_left hj] at hb
      have : i - ps.length = 0 := by have := (List.getElem?_eq_some_iff.1 ha).1; simp at this; omega
      rw [this] at ha; simp at ha; subst ha
      exact h1 b (List.mem_of_getElem? hb)
    · rw [List.getElem?_append_right hi] at ha
      rw [List.getElem?_append_right hj] at hb
      have h3 := (List.getElem?_eq_some_iff.1 ha).1
      have h4 := (List.getElem?_eq_some_iff.1 hb).1
      simp at h3 h4; omega
/-- One place is written anew: its block alone has turned. -/
theorem Places.put (h : Places w lo d ps) {i : Nat} {p p' : LV} (hi : ps[i]? = some p) (hg : p'.g = p.g) (hs : w.heap.size ≤ w'.heap.size) (hk : ∀ b, b < w.heap.size → b ≠ p.g → w'.heap[b]? = w.heap[b]?) (hp : PlaceOk w' lo d p') (hr : ∀ b, p'.row b → p.row b ∨ w.heap.size ≤ b) : Places w' lo d (ps.set i p') := by
  have hin := (List.getElem?_eq_some_iff.1 hi).1
  have old : ∀ j q, j ≠ i → ps[j]? = some q → PlaceOk w' lo d q := fun j q hj hq => (h.P q (List.mem_of_getElem? hq)).others hs fun b hb => hk b ((h.P q (List.mem_of_getElem? hq)).inside hb).2 (fun e => h.X i j p q hi hq (fun e' => hj e'.symm) (e ▸ hb))
  refine ⟨fun q hq => ?_, fun j k a b ha hb hne => ?_⟩
  · obtain ⟨j, hj⟩ := List.getElem?_of_mem hq
    rw [List.getElem?_set] at hj
    by_cases e : i = j
    · rw [if_pos e] at hj; subst e; rw [if_pos hin] at hj; injection hj with hj; subst hj; exact hp
    · rw [if_neg e] at hj; exact old j q (fun e' => e e'.symm) hj
  · rw [List.getElem?_set] at ha hb
    by_cases ej : i = j
    · subst ej
      rw [if_pos rfl, if_pos hin] at ha
      injection ha with ha; subst ha
      rw [if_neg hne] at hb
      rw [hg]; exact h.X i k p b hi hb hne
    · rw [if_neg ej] at ha
      by_cases ek : i = k
      · subst ek
        rw [if_pos rfl, if_pos hin] at hb
        injection hb with hb; subst hb
        have hx := h.X j i a p ha hi (fun e => hne e)
        rintro (e | e)
        · exact hx (Or.inl (hg ▸ e))
        · rcases hr _ e with h1 | h1
          · exact hx (Or.inr h1)
          · have := (h.P a (List.mem_of_getElem? ha)).L.inside; omega
      · rw [if_neg ek] at hb
        exact h.X j k a b ha hb hne
end

/-- The row of the places' pointers. -/
structure Ptrs (w : World) (lo b n : Nat) (ps : List LV) : Prop where
  l : ps.length = n
  c : ∀ (k : Nat) (p : LV), ps[k]? = some p → w.cell? ⟨b, k, none⟩ = some p.ptr
  i : lo ≤ b ∧ b < w.heap.size
  x : ∀ p ∈ ps, ¬ p.has b

end Go.Proofs.YtpgoildfjkokiaaGreat
