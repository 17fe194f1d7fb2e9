/- The walks of impl.readNode and impl.NodeFault. No condition but the length. -/
import Derived.Test.YtpgoildfjkokiaaGreatSlotWalks
import Derived.Test.YtpgoildfjkokiaaGreatEntryLists
import Derived.Deep.AppendLies
namespace Go.Proofs.YtpgoildfjkokiaaGreat
open Go.RowKit

/-- What readNode answers: a code, or a holder with slots of its own. -/
def ReadPost (lv ns rt d : Int) (n : Nat) (vs : List EVal) (w : World) (e : Ending) (w' : World) : Prop :=
  Below w.heap.size w w' ∧ ((nodeF lv ns rt vs d ≠ 0 ∧ e = .returned (.tuple #[.nilIface, .int .i64 (nodeF lv ns rt vs d)])) ∨
    (nodeF lv ns rt vs d = 0 ∧ ∃ (A' : Option Addr) (c' : Nat) (ss : List SL), e = .returned (.tuple #[holderV d lv ns rt A' n c', .int .i64 0]) ∧ Slots w' A' n ss ∧ SlotsOf vs ss))

/-- The same, and that the slots lie in a new block. -/
def ReadFresh (lv ns rt d : Int) (n : Nat) (vs : List EVal) (w : World) (e : Ending) (w' : World) : Prop :=
  Below w.heap.size w w' ∧ ((nodeF lv ns rt vs d ≠ 0 ∧ e = .returned (.tuple #[.nilIface, .int .i64 (nodeF lv ns rt vs d)])) ∨
    (nodeF lv ns rt vs d = 0 ∧ ∃ (A' : Option Addr) (c' : Nat) (ss : List SL), e = .returned (.tuple #[holderV d lv ns rt A' n c', .int .i64 0]) ∧ Slots w' A' n ss ∧ SlotsOf vs ss ∧ Fresh w.heap.size A' n))

theorem int_val {a b : Int} (h : a = b) : Value.int .i64 a = .int .i64 b := by rw [h]
theorem ret_two {a a' b b' : Value} (h : a = a') (h' : b = b') : Ending.returned (.tuple #[a, b]) = .returned (.tuple #[a', b']) := by rw [h, h']
theorem headF_zero {lv ns rt d : Int} {n : Nat} (h : headF lv ns rt d n = 0) : headOk lv ns rt d ∧ n ≤ 5 := by
  unfold headF at h
  by_cases h1 : headOk lv ns rt d
  · rw [if_pos h1] at h
    by_cases h2 : 5 < n
    · rw [if_pos h2] at h; omega
    · exact ⟨h1, by omega⟩
  · rw [if_neg h1] at h; omega
theorem headF_not {lv ns rt d : Int} {vs : List EVal} (h : headF lv ns rt d vs.length ≠ 0) : nodeF lv ns rt vs d = headF lv ns rt d vs.length := by
  unfold headF at h ⊢
  by_cases h1 : headOk lv ns rt d
  · rw [if_pos h1] at h ⊢
    by_cases h2 : 5 < vs.length
    · rw [if_pos h2]; exact nodeF_many h1 h2
    · rw [if_neg h2] at h; omega
  · rw [if_neg h1]; exact nodeF_head h1

set_option maxRecDepth 100000 in
set_option maxHeartbeats 3200000 in
theorem eachFault_any (d : Int) (n c : Nat) (A : Option Addr) (ps : List EV) (w : World) (hp : Entries w A n ps) (hn : n ≤ maxLen) :
    Calls Tryz.prog 125 #[.slice A n c, .int .i64 d] w fun e w' => e = .returned (.int .i64 (firstNZ (entF d) (ps.map EV.val))) ∧ Below w.heap.size w w' := by
  have HP := Lib.hid hp
  have HL : Hid ((ps.map EV.val).length = n) := by show List.length _ = n; rw [List.length_map]; exact hp.1
  clear hp
  unfold maxLen at hn
  go_enter Tryz.func125, Tryz.ntmps125
  go_wp2
  go_loopw [10] (fun i wr => ∃ k : Nat, k ≤ n ∧ i = .int .i64 k ∧ Hid (Below w.heap.size w wr) ∧ Hid (∀ (j : Nat) (u : EVal), j < k → (ps.map EV.val)[j]? = some u → entF d u = 0)) (fun i _ => n - (intOf i).toNat)
  case atStart => exact ⟨0, Nat.zero_le _, rfl, Below.refl _ _, fun j u hj => absurd hj (Nat.not_lt_zero _)⟩
  case round =>
    obtain ⟨k, hk', rfl, hB, hA⟩ := hrel
    by_cases hlt : k < n
    · obtain ⟨b, o, A1, n1, c1, A2, n2, c2, ref, nsn, x1, x2, rfl, hb, d0, d1, d2, d3, hx, i1, i2, m1, m2⟩ := HP.out.cellAt hlt
      have e0 : wr.cell? ⟨b, o + k * 4, none⟩ = some (.slice A1 n1 c1) := (hB.out.cell (p := ⟨b, o + k * 4, none⟩) hb).trans d0
      have e1 : wr.cell? ⟨b, o + k * 4 + 1, none⟩ = some (.slice A2 n2 c2) := (hB.out.cell (p := ⟨b, o + k * 4 + 1, none⟩) hb).trans d1
      have e2 : wr.cell? ⟨b, o + k * 4 + 2, none⟩ = some (.int .i64 ref) := (hB.out.cell (p := ⟨b, o + k * 4 + 2, none⟩) hb).trans d2
      have e3 : wr.cell? ⟨b, o + k * 4 + 3, none⟩ = some (.int .i64 nsn) := (hB.out.cell (p := ⟨b, o + k * 4 + 3, none⟩) hb).trans d3
      clear d0 d1 d2 d3
      have HX := Lib.hid (eval_get hx.out)
      have hB1 := Lib.hid (hB.out.alloc hB.out.size (.cells #[.slice A1 n1 c1, .slice A2 n2 c2, .int .i64 ref, .int .i64 nsn] 150))
      clear hx
      by_cases hz : entF d (x1, x2, ref, nsn) = 0
      · have hz1 : (entF d (x1, x2, ref, nsn) != 0) = false := by simp [hz]
        have hA' := Lib.hid (upto_next hA.out HX.out hz)
        clear hA hz
        go_wp2_with fail
        refine (entryFault_any _ _ _ _ _ _ _ _ _ _ _ x1 x2 _ (i1.out.kept hB1.out) (i2.out.kept hB1.out) m1 m2).mono ?_
        rintro e W2 ⟨rfl, b2⟩
        have hB2 := Lib.hid (hB1.out.trans (b2.mono hB1.out.size))
        clear hB hB1 b2 e0 e1 e2 e3
        go_wp2
        go_roundw
        case rel => exact ⟨k + 1, by omega, by go_num, hB2, hA'⟩
        case measure => simp [intOf]; omega
      · have hz1 : (entF d (x1, x2, ref, nsn) != 0) = true := by simpa using hz
        have H1 : Hid (firstNZ (entF d) (ps.map EV.val) = entF d (x1, x2, ref, nsn)) := firstNZ_stop hA.out HX.out hz
        clear hA hz
        go_wp2_with fail
        refine (entryFault_any _ _ _ _ _ _ _ _ _ _ _ x1 x2 _ (i1.out.kept hB1.out) (i2.out.kept hB1.out) m1 m2).mono ?_
        rintro e W2 ⟨rfl, b2⟩
        have hB2 := Lib.hid (hB1.out.trans (b2.mono hB1.out.size))
        clear hB hB1 b2 e0 e1 e2 e3
        go_wp2
        go_ret
        exact ⟨ret_i64 H1.out.symm, hB2.out⟩
    · have HA := Lib.hid (upto_end hA.out (by rw [HL.out]; omega))
      have H1 := Lib.hid (firstNZ_all HA.out)
      clear hA
      go_wp2
      go_ret
      exact ⟨ret_i64 H1.out.symm, hB.out⟩

set_option maxRecDepth 100000 in
set_option maxHeartbeats 6400000 in
theorem readNode_fresh (lv ns rt d : Int) (n c : Nat) (A : Option Addr) (ps : List EV) (w : World) (hp : Entries w A n ps) (hn : n ≤ maxLen) :
    Calls Tryz.prog 108 #[.agg #[.int .i64 lv, .int .i64 ns, .int .i64 rt, .slice A n c], .int .i64 d] w (ReadFresh lv ns rt d n (ps.map EV.val) w) := by
  have HP := Lib.hid hp
  have HL : Hid ((ps.map EV.val).length = n) := by show List.length _ = n; rw [List.length_map]; exact hp.1
  clear hp
  have B := Lib.hid (below_alloc w (.cells #[.int .i64 lv, .int .i64 ns, .int .i64 rt, .slice A n c] 42))
  have L_n := Lib.hid (Lies.new w 42 #[.int .i64 lv, .int .i64 ns, .int .i64 rt, .slice A n c])
  by_cases hh : headF lv ns rt d n = 0
  rotate_left
  · have hh1 : (headF lv ns rt d n != 0) = true := by simpa using hh
    have HF : Hid (nodeF lv ns rt (ps.map EV.val) d = headF lv ns rt d n) := by
      show nodeF _ _ _ _ _ = _
      rw [headF_not (by rw [HL.out]; exact hh), HL.out]
    have HNZ : Hid (nodeF lv ns rt (ps.map EV.val) d ≠ 0) := by show nodeF _ _ _ _ _ ≠ 0; rw [HF.out]; exact hh
    clear hh
    go_enter Tryz.func108, Tryz.ntmps108
    go_wp2_with fail
    refine (headFault_any _ _ _ _ _ _ _ _ hn).mono ?_
    rintro e W1 ⟨rfl, b1⟩
    replace B := Lib.hid (B.out.trans (b1.mono B.out.size))
    clear b1 L_n
    go_wp2
    go_ret2
    exact ⟨B.out, Or.inl ⟨HNZ.out, ret_two rfl (int_val HF.out.symm)⟩⟩
  have hh1 : (headF lv ns rt d n != 0) = false := by simp [hh]
  obtain ⟨hok, hn5⟩ := headF_zero hh
  have HH := Lib.hid hok
  have HM : Hid (¬ 5 < (ps.map EV.val).length) := by show ¬ _; rw [HL.out]; omega
  clear hh hok
  go_enter Tryz.func108, Tryz.ntmps108
  go_wp2_with fail
  refine (headFault_any _ _ _ _ _ _ _ _ hn).mono ?_
  rintro e W1 ⟨rfl, b1⟩
  replace L_n := Lib.hid (L_n.out.kept b1 L_n.out.inside)
  replace B := Lib.hid (B.out.trans (b1.mono B.out.size))
  clear b1
  have t3 : W1.cell? ⟨w.heap.size, 3, none⟩ = some (.slice A n c) := L_n.out.cell 3
  by_cases hz : firstNZ (entF d) (ps.map EV.val) = 0
  rotate_left
  · have hz1 : (firstNZ (entF d) (ps.map EV.val) != 0) = true := by simpa using hz
    have HF : Hid (nodeF lv ns rt (ps.map EV.val) d = firstNZ (entF d) (ps.map EV.val)) := nodeF_first HH.out HM.out hz
    have HNZ : Hid (nodeF lv ns rt (ps.map EV.val) d ≠ 0) := by show nodeF _ _ _ _ _ ≠ 0; rw [HF.out]; exact hz
    clear hz
    go_wp2_with fail
    refine (eachFault_any _ _ _ _ ps _ (HP.out.kept B.out) hn).mono ?_
    rintro e W2 ⟨rfl, b2⟩
    replace B := Lib.hid (B.out.trans (b2.mono B.out.size))
    clear b2 t3
    go_wp2
    go_ret2
    exact ⟨B.out, Or.inl ⟨HNZ.out, ret_two rfl (int_val HF.out.symm)⟩⟩
  have hz1 : (firstNZ (entF d) (ps.map EV.val) != 0) = false := by simp [hz]
  have H1 := Lib.hid hz
  have HA := Lib.hid (firstNZ_zero hz)
  clear hz
  go_wp2_with fail
  refine (eachFault_any _ _ _ _ ps _ (HP.out.kept B.out) hn).mono ?_
  rintro e W2 ⟨rfl, b2⟩
  replace L_n := Lib.hid (L_n.out.kept b2 L_n.out.inside)
  replace B := Lib.hid (B.out.trans (b2.mono B.out.size))
  clear b2 t3
  have z0 : W2.cell? ⟨w.heap.size, 0, none⟩ = some (.int .i64 lv) := L_n.out.cell 0
  have z1 : W2.cell? ⟨w.heap.size, 1, none⟩ = some (.int .i64 ns) := L_n.out.cell 1
  have z2 : W2.cell? ⟨w.heap.size, 2, none⟩ = some (.int .i64 rt) := L_n.out.cell 2
  have z3 : W2.cell? ⟨w.heap.size, 3, none⟩ = some (.slice A n c) := L_n.out.cell 3
  go_wp2_with fail
  refine (holderFrom_fresh _ _ _ _ _ _ _ ps _ (HP.out.kept B.out) hn5 HA.out).mono ?_
  rintro e W3 ⟨A', c', ss, rfl, hS, hO, hFr, b2⟩
  have FR := Lib.hid (hFr.lower B.out.size)
  replace B := Lib.hid (B.out.trans (b2.mono B.out.size))
  have HS := Lib.hid hS
  have HO := Lib.hid hO
  clear hS hO b2 hFr L_n z0 z1 z2 z3
  by_cases hl0 : lv = 0
  · have hm1 : ∀ w : World, (method 323 184 (.agg #[.int .i64 d, .slice A' n c', .int .i64 lv, .int .i64 ns, .int .i64 rt]) "loop.example/g00680/impl.sound").run Tryz.prog w = .ok (179, .agg #[.int .i64 d, .slice A' n c', .int .i64 lv, .int .i64 ns, .int .i64 rt]) w := fun _ => by kernel_rfl
    have hm2 : ∀ w : World, (method 323 184 (.agg #[.int .i64 d, .slice A' n c', .int .i64 lv, .int .i64 ns, .int .i64 rt]) "loop.example/g00680/impl.refTwice").run Tryz.prog w = .ok (165, .agg #[.int .i64 d, .slice A' n c']) w := fun _ => by kernel_rfl
    have HV : Hid (holderV d lv ns rt A' n c' = .iface 184 (.agg #[.int .i64 d, .slice A' n c', .int .i64 lv, .int .i64 ns, .int .i64 rt])) := by show holderV _ _ _ _ _ _ _ = _; unfold holderV; rw [if_pos hl0]
    have HL0 := Lib.hid hl0
    clear hl0
    rw [HV.out]
    cases hs : ss.all (fitsS lv)
    · have HSN := Lib.hid hs
      have HF : Hid (nodeF lv ns rt (ps.map EV.val) d = 1) := nodeF_form HH.out HM.out H1.out (by rw [← fits_all HO.out]; exact hs)
      clear hs
      go_wp2_with fail
      refine (leafSound_any _ _ _ _ _ _ _ ss _ HS.out hn HL0.out).mono ?_
      rintro e W4 ⟨rfl, b3⟩
      replace B := Lib.hid (B.out.trans (b3.mono B.out.size))
      clear b3
      rw [HSN.out]
      go_wp2
      go_ret2
      exact ⟨B.out, Or.inl ⟨by rw [HF.out]; decide, ret_two rfl (int_val HF.out.symm)⟩⟩
    · have HSN := Lib.hid hs
      have HT : Hid (nodeF lv ns rt (ps.map EV.val) d = if twiceE (ps.map EV.val) then 6 else 0) := nodeF_twice HH.out HM.out H1.out (by rw [← fits_all HO.out]; exact hs)
      clear hs
      go_wp2_with fail
      refine (leafSound_any _ _ _ _ _ _ _ ss _ HS.out hn HL0.out).mono ?_
      rintro e W4 ⟨rfl, b3⟩
      replace HS := Lib.hid (HS.out.kept b3)
      replace B := Lib.hid (B.out.trans (b3.mono B.out.size))
      clear b3
      rw [HSN.out]
      go_wp2_with fail
      refine (refTwice_any _ _ _ _ (ps.map EV.val) ss _ HS.out HO.out hn).mono ?_
      rintro e W5 ⟨rfl, b4⟩
      replace HS := Lib.hid (HS.out.kept b4)
      replace B := Lib.hid (B.out.trans (b4.mono B.out.size))
      clear b4
      cases ht : twiceE (ps.map EV.val)
      · have HF : Hid (nodeF lv ns rt (ps.map EV.val) d = 0) := by show nodeF _ _ _ _ _ = _; rw [HT.out, ht]; rfl
        clear ht HT
        go_wp2
        go_ret2
        exact ⟨B.out, Or.inr ⟨HF.out, A', c', ss, ret_two HV.out.symm rfl, HS.out, HO.out, FR.out⟩⟩
      · have HF : Hid (nodeF lv ns rt (ps.map EV.val) d = 6) := by show nodeF _ _ _ _ _ = _; rw [HT.out, ht]; rfl
        clear ht HT
        go_wp2
        go_ret2
        exact ⟨B.out, Or.inl ⟨by rw [HF.out]; decide, ret_two rfl (int_val HF.out.symm)⟩⟩
  · have hm1 : ∀ w : World, (method 323 185 (.agg #[.int .i64 d, .slice A' n c', .int .i64 lv, .int .i64 ns, .int .i64 rt]) "loop.example/g00680/impl.sound").run Tryz.prog w = .ok (184, .agg #[.int .i64 d, .slice A' n c', .int .i64 lv, .int .i64 ns, .int .i64 rt]) w := fun _ => by kernel_rfl
    have hm2 : ∀ w : World, (method 323 185 (.agg #[.int .i64 d, .slice A' n c', .int .i64 lv, .int .i64 ns, .int .i64 rt]) "loop.example/g00680/impl.refTwice").run Tryz.prog w = .ok (165, .agg #[.int .i64 d, .slice A' n c']) w := fun _ => by kernel_rfl
    have HV : Hid (holderV d lv ns rt A' n c' = .iface 185 (.agg #[.int .i64 d, .slice A' n c', .int .i64 lv, .int .i64 ns, .int .i64 rt])) := by show holderV _ _ _ _ _ _ _ = _; unfold holderV; rw [if_neg hl0]
    have HL0 := Lib.hid hl0
    clear hl0
    rw [HV.out]
    cases hs : ss.all (fitsS lv)
    · have HSN := Lib.hid hs
      have HF : Hid (nodeF lv ns rt (ps.map EV.val) d = 1) := nodeF_form HH.out HM.out H1.out (by rw [← fits_all HO.out]; exact hs)
      clear hs
      go_wp2_with fail
      refine (innerSound_any _ _ _ _ _ _ _ ss _ HS.out hn HL0.out).mono ?_
      rintro e W4 ⟨rfl, b3⟩
      replace B := Lib.hid (B.out.trans (b3.mono B.out.size))
      clear b3
      rw [HSN.out]
      go_wp2
      go_ret2
      exact ⟨B.out, Or.inl ⟨by rw [HF.out]; decide, ret_two rfl (int_val HF.out.symm)⟩⟩
    · have HSN := Lib.hid hs
      have HT : Hid (nodeF lv ns rt (ps.map EV.val) d = if twiceE (ps.map EV.val) then 6 else 0) := nodeF_twice HH.out HM.out H1.out (by rw [← fits_all HO.out]; exact hs)
      clear hs
      go_wp2_with fail
      refine (innerSound_any _ _ _ _ _ _ _ ss _ HS.out hn HL0.out).mono ?_
      rintro e W4 ⟨rfl, b3⟩
      replace HS := Lib.hid (HS.out.kept b3)
      replace B := Lib.hid (B.out.trans (b3.mono B.out.size))
      clear b3
      rw [HSN.out]
      go_wp2_with fail
      refine (refTwice_any _ _ _ _ (ps.map EV.val) ss _ HS.out HO.out hn).mono ?_
      rintro e W5 ⟨rfl, b4⟩
      replace HS := Lib.hid (HS.out.kept b4)
      replace B := Lib.hid (B.out.trans (b4.mono B.out.size))
      clear b4
      cases ht : twiceE (ps.map EV.val)
      · have HF : Hid (nodeF lv ns rt (ps.map EV.val) d = 0) := by show nodeF _ _ _ _ _ = _; rw [HT.out, ht]; rfl
        clear ht HT
        go_wp2
        go_ret2
        exact ⟨B.out, Or.inr ⟨HF.out, A', c', ss, ret_two HV.out.symm rfl, HS.out, HO.out, FR.out⟩⟩
      · have HF : Hid (nodeF lv ns rt (ps.map EV.val) d = 6) := by show nodeF _ _ _ _ _ = _; rw [HT.out, ht]; rfl
        clear ht HT
        go_wp2
        go_ret2
        exact ⟨B.out, Or.inl ⟨by rw [HF.out]; decide, ret_two rfl (int_val HF.out.symm)⟩⟩

theorem readNode_any (lv ns rt d : Int) (n c : Nat) (A : Option Addr) (ps : List EV) (w : World) (hp : Entries w A n ps) (hn : n ≤ maxLen) :
    Calls Tryz.prog 108 #[.agg #[.int .i64 lv, .int .i64 ns, .int .i64 rt, .slice A n c], .int .i64 d] w (ReadPost lv ns rt d n (ps.map EV.val) w) := by
  refine (readNode_fresh lv ns rt d n c A ps w hp hn).mono ?_
  rintro e w' ⟨hb, h⟩
  refine ⟨hb, ?_⟩
  rcases h with h | ⟨h0, A', c', ss, h1, h2, h3, _⟩
  · exact Or.inl h
  · exact Or.inr ⟨h0, A', c', ss, h1, h2, h3⟩


end Go.Proofs.YtpgoildfjkokiaaGreat

/- Places, and an arena that is worked at: what they are in memory, and what a store into one leaves of the others. -/
namespace Go.Proofs.YtpgoildfjkokiaaGreat
open Go.RowKit

/-- A place as it lies: its block, its node's numbers, its slots, whether it is free, who watches it. -/
structure LV where
  g : Nat
  lv : Int
  ns : Int
  rt : Int
  A : Option Addr
  n : Nat
  c : Nat
  ss : List SL
  vs : List EVal
  fr : Bool
  wA : Option Addr
  wn : Nat
  wc : Nat
  ws : List Int
def LV.val (p : LV) : NVal := (p.lv, p.ns, p.rt, p.vs)
def LV.cells (d : Int) (p : LV) : Array Value := #[holderV d p.lv p.ns p.rt p.A p.n p.c, .bool p.fr, .slice p.wA p.wn p.wc]
def LV.ptr (p : LV) : Value := .pointer (some ⟨p.g, 0, none⟩)
/-- The row that the place leads to lies in block b. -/
def LV.row (p : LV) (b : Nat) : Prop := (0 < p.n ∧ p.A = some ⟨b, 0, none⟩) ∨ (0 < p.wn ∧ p.wA = some ⟨b, 0, none⟩)
/-- Block b belongs to the place. -/
def LV.has (p : LV) (b : Nat) : Prop := p.g = b ∨ p.row b
structure PlaceOk (w : World) (lo : Nat) (d : Int) (p : LV) : Prop where
  L : Lies w p.g 87 (p.cells d)
  S : Slots w p.A p.n p.ss
  O : SlotsOf p.vs p.ss
  N : nodeF p.lv p.ns p.rt p.vs d = 0
  W : Ints w 0 p.wA p.wn p.ws
  g : lo ≤ p.g
  F : Fresh lo p.A p.n
  E : Fresh lo p.wA p.wn
  Y : ¬ p.row p.g
  U : 0 < p.wn → w.ownsRow lo 2 1 (.slice p.wA p.wn p.wc) p.wn (p.ws.map (Value.int .i64))
section
variable {w w' : World} {lo : Nat} {d : Int} {p : LV}
theorem Fresh.in_slots {A : Option Addr} {n b : Nat} {ss : List SL} (h : Slots w A n ss) (h0 : 0 < n) (e : A = some ⟨b, 0, none⟩) : b < w.heap.size := by
  obtain ⟨b', o, e', h2, _⟩ := h.2 h0
  rw [e] at e'; injection e' with e'; injection e' with e'; omega
theorem Fresh.in_ints {lo : Nat} {A : Option Addr} {n b : Nat} {xs : List Int} (h : Ints w lo A n xs) (h0 : 0 < n) (e : A = some ⟨b, 0, none⟩) : b < w.heap.size := by
  obtain ⟨b', o, e', _, h2, _⟩ := h.2 h0
  rw [e] at e'; injection e' with e'; injection e' with e'; omega
theorem PlaceOk.inside (h : PlaceOk w lo d p) {b : Nat} (hb : p.has b) : lo ≤ b ∧ b < w.heap.size := by
  rcases hb with rfl | ⟨h0, e⟩ | ⟨h0, e⟩
  · exact ⟨h.g, h.L.inside⟩
  · obtain ⟨g, e', h1⟩ := h.F h0
    rw [e] at e'; injection e' with e'; injection e' with e'
    exact ⟨by omega, Fresh.in_slots h.S h0 e⟩
  · obtain ⟨g, e', h1⟩ := h.E h0
    rw [e] at e'; injection e' with e'; injection e' with e'
    exact ⟨by omega, Fresh.in_ints h.W h0 e⟩
theorem Slots.block {A : Option Addr} {n : Nat} {ss : List SL} (h : Slots w A n ss) (hF : Fresh lo A n) (hs : w.heap.size ≤ w'.heap.size) (hk : ∀ b, 0 < n → A = some ⟨b, 0, none⟩ → w'.heap[b]? = w.heap[b]?) : Slots w' A n ss := by
  obtain ⟨hl, hr⟩ := h
  refine ⟨hl, fun hn => ?_⟩
  obtain ⟨b, o, e, h2, h3⟩ := hr hn
  obtain ⟨g, e', _⟩ := hF hn
  have e2 := e
  rw [e'] at e2; injection e2 with e2; injection e2 with e2 e3
  subst e2 e3
  refine ⟨g, 0, e, by omega, fun k s hs' j v hv => ?_⟩
  rw [World.cell?_of_block (w := w) (a := ⟨g, 0 + k * 8 + j, none⟩) (hk g hn e')]
  exact h3 k s hs' j v hv
theorem Ints.blockF {lo0 : Nat} {A : Option Addr} {n : Nat} {xs : List Int} (h : Ints w lo0 A n xs) (hF : Fresh lo A n) (hs : w.heap.size ≤ w'.heap.size) (hk : ∀ b, 0 < n → A = some ⟨b, 0, none⟩ → w'.heap[b]? = w.heap[b]?) : Ints w' lo0 A n xs := by
  obtain ⟨hl, hr⟩ := h
  refine ⟨hl, fun hn => ?_⟩
  obtain ⟨b, o, e, h1, h2, h3⟩ := hr hn
  obtain ⟨g, e', _⟩ := hF hn
  have e2 := e
  rw [e'] at e2; injection e2 with e2; injection e2 with e2 e3
  subst e2 e3
  refine ⟨g, 0, e, h1, by omega, fun k x hx => ?_⟩
  rw [World.cell?_of_block (w := w) (a := ⟨g, 0 + k, none⟩) (hk g hn e')]
  exact h3 k x hx
theorem PlaceOk.ownW (h : PlaceOk w lo d p) (hk : ∀ b, 0 < p.wn → p.wA = some ⟨b, 0, none⟩ → w'.heap[b]? = w.heap[b]?) : 0 < p.wn → w'.ownsRow lo 2 1 (.slice p.wA p.wn p.wc) p.wn (p.ws.map (Value.int .i64)) := by
  intro h0
  obtain ⟨hl, hx⟩ := h.U h0
  refine ⟨hl, ?_⟩
  rcases hx with hx | ⟨g, cap, cur, e1, h2, h3, h4⟩
  · exact Or.inl hx
  · have e2 : p.wA = some ⟨g, 0, none⟩ := by injection e1
    exact Or.inr ⟨g, cap, cur, e1, h2, (hk g h0 e2).trans h3, h4⟩
/-- What holds of a place holds where none of its blocks has turned. -/
theorem PlaceOk.others (h : PlaceOk w lo d p) (hs : w.heap.size ≤ w'.heap.size) (hk : ∀ b, p.has b → w'.heap[b]? = w.heap[b]?) : PlaceOk w' lo d p :=
  ⟨(hk _ (Or.inl rfl)).trans h.L, h.S.block h.F hs (fun b h0 e => hk b (Or.inr (Or.inl ⟨h0, e⟩))), h.O, h.N, h.W.blockF h.E hs (fun b h0 e => hk b (Or.inr (Or.inr ⟨h0, e⟩))), h.g, h.F, h.E, h.Y, h.ownW (fun b h0 e => hk b (Or.inr (Or.inr ⟨h0, e⟩)))⟩
theorem PlaceOk.kept (h : PlaceOk w lo d p) (hb : Below w.heap.size w w') : PlaceOk w' lo d p := h.others hb.size fun b hp => hb.block b (h.inside hp).2
end

/-- Places that share no block. -/
structure Places (w : World) (lo : Nat) (d : Int) (ps : List LV) : Prop where
  P : ∀ p ∈ ps, PlaceOk w lo d p
  X : ∀ (i j : Nat) (p q : LV), ps[i]? = some p → ps[j]? = some q → i ≠ j → ¬ q.has p.g
section
variable {w w' : World} {lo : Nat} {d : Int} {ps : List LV}
theorem Places.kept (h : Places w lo d ps) (hb : Below w.heap.size w w') : Places w' lo d ps := ⟨fun p hp => (h.P p hp).kept hb, h.X⟩
theorem Places.others (h : Places w lo d ps) (hs : w.heap.size ≤ w'.heap.size) (hk : ∀ p ∈ ps, ∀ b, p.has b → w'.heap[b]? = w.heap[b]?) : Places w' lo d ps := ⟨fun p hp => (h.P p hp).others hs (hk p hp), h.X⟩
theorem Places.nil (w : World) (lo : Nat) (d : Int) : Places w lo d [] := ⟨fun p hp => by simp at hp, fun i j p q hi => by simp at hi⟩
theorem Places.snoc (h : Places w lo d ps) {p : LV} (hp : PlaceOk w lo d p) (h1 : ∀ q ∈ ps, ¬ q.has p.g) (h2 : ∀ q ∈ ps, ¬ p.has q.g) : Places w lo d (ps ++ [p]) := by
  refine ⟨fun q hq => ?_, fun i j a b ha hb hne => ?_⟩
  · rcases List.mem_append.1 hq with hq | hq
    · exact h.P q hq
    · simp only [List.mem_singleton] at hq; subst hq; exact hp
  · rcases Nat.lt_or_ge i ps.length with hi | hi <;> rcases Nat.lt_or_ge j ps.length with hj | hj
    · rw [List.getElem?_append_left hi] at ha
      rw [List.getElem?_append_left hj] at hb
      exact h.X i j a b ha hb hne
    · rw [List.getElem?_append_left hi] at ha
      rw [List.getElem?_append_right hj] at hb
      have : j - ps.length = 0 := by have := (List.getElem?_eq_some_iff.1 hb).1; simp at this; omega
      rw [this] at hb; simp at hb; subst hb
      exact h2 a (List.mem_of_getElem? ha)
    · rw [List.getElem?_append_right hi] at ha
      rw [List.getElem?_append_left hj] at hb
      have : i - ps.length = 0 := by have := (List.getElem?_eq_some_iff.1 ha).1; simp at this; omega
      rw [this] at ha; simp at ha; subst ha
      exact h1 b (List.mem_of_getElem? hb)
    · rw [List.getElem?_append_right hi] at ha
      rw [List.getElem?_append_right hj] at hb
      have h3 := (List.getElem?_eq_some_iff.1 ha).1
      have h4 := (List.getElem?_eq_some_iff.1 hb).1
      simp at h3 h4; omega
/-- One place is written anew: its block alone has turned. -/
theorem Places.put (h : Places w lo d ps) {i : Nat} {p p' : LV} (hi : ps[i]? = some p) (hg : p'.g = p.g) (hs : w.heap.size ≤ w'.heap.size) (hk : ∀ b, b < w.heap.size → b ≠ p.g → w'.heap[b]? = w.heap[b]?) (hp : PlaceOk w' lo d p') (hr : ∀ b, p'.row b → p.row b ∨ w.heap.size ≤ b) : Places w' lo d (ps.set i p') := by
  have hin := (List.getElem?_eq_some_iff.1 hi).1
  have old : ∀ j q, j ≠ i → ps[j]? = some q → PlaceOk w' lo d q := fun j q hj hq => (h.P q (List.mem_of_getElem? hq)).others hs fun b hb => hk b ((h.P q (List.mem_of_getElem? hq)).inside hb).2 (fun e => h.X i j p q hi hq (fun e' => hj e'.symm) (e ▸ hb))
  refine ⟨fun q hq => ?_, fun j k a b ha hb hne => ?_⟩
  · obtain ⟨j, hj⟩ := List.getElem?_of_mem hq
    rw [List.getElem?_set] at hj
    by_cases e : i = j
    · rw [if_pos e] at hj; subst e; rw [if_pos hin] at hj; injection hj with hj; subst hj; exact hp
    · rw [if_neg e] at hj; exact old j q (fun e' => e e'.symm) hj
  · rw [List.getElem?_set] at ha hb
    by_cases ej : i = j
    · subst ej
      rw [if_pos rfl, if_pos hin] at ha
      injection ha with ha; subst ha
      rw [if_neg hne] at hb
      rw [hg]; exact h.X i k p b hi hb hne
    · rw [if_neg ej] at ha
      by_cases ek : i = k
      · subst ek
        rw [if_pos rfl, if_pos hin] at hb
        injection hb with hb; subst hb
        have hx := h.X j i a p ha hi (fun e => hne e)
        rintro (e | e)
        · exact hx (Or.inl (hg ▸ e))
        · rcases hr _ e with h1 | h1
          · exact hx (Or.inr h1)
          · have := (h.P a (List.mem_of_getElem? ha)).L.inside; omega
      · rw [if_neg ek] at hb
        exact h.X j k a b ha hb hne
end

/-- The row of the places' pointers. -/
structure Ptrs (w : World) (lo b n : Nat) (ps : List LV) : Prop where
  l : ps.length = n
  c : ∀ (k : Nat) (p : LV), ps[k]? = some p → w.cell? ⟨b, k, none⟩ = some p.ptr
  i : lo ≤ b ∧ b < w.heap.size
  x : ∀ p ∈ ps, ¬ p.has b

end Go.Proofs.YtpgoildfjkokiaaGreat

/- The walk of impl.ground's layAll: each node is opened, and a place is laid for it. -/
namespace Go.Proofs.YtpgoildfjkokiaaGreat
open Go.RowKit

theorem info_ptr : ∃ i, Tryz.prog.info? 81 = some i ∧ i.zero = some (.pointer none) ∧ i.size = 1 ∧ i.bytes = 8 := by
  have h : (Tryz.prog.info? 81).map (fun i => (i.zero, i.size, i.bytes)) = some (some (.pointer none), 1, 8) := by kernel_rfl
  obtain ⟨i, hi, h⟩ := Option.map_eq_some_iff.1 h
  simp only [Prod.mk.injEq] at h
  exact ⟨i, hi, h.1, h.2.1, h.2.2⟩

/-- Where layAll's loop stands. -/
structure Laid (w wr : World) (lo G : Nat) (d : Int) (m o : Value) (k : Nat) (ps : List LV) (v : Value) : Prop where
  T : Turned (fun x => x = G) w wr
  G' : Lies wr G 109 #[.int .i64 d, v, m, o]
  S : wr.ownsRow lo 81 1 v k (ps.map LV.ptr)
  P : Places wr lo d ps
  V : ∀ b, v.ownBlock = some b → ∀ p ∈ ps, ¬ p.has b
  g : G < lo
section
variable {w wr W : World} {lo G k : Nat} {d : Int} {m o v : Value} {ps : List LV}
theorem Turned.drew {X : Nat → Prop} (h : Turned X w wr) : Turned X w wr.drew := ⟨fun B h1 h2 => (h.1 B h1 h2).drew, h.2.1, h.2.2⟩
theorem Turned.call {X : Nat → Prop} (h : Turned X w wr) (hb : Below wr.heap.size wr W) : Turned X w W := h.trans (Turned.of_below hb)
theorem Laid.call (h : Laid w wr lo G d m o k ps v) (hb : Below wr.heap.size wr W) : Laid w W lo G d m o k ps v :=
  ⟨h.T.call hb, h.G'.kept hb h.G'.inside, ownsRow_below h.S hb, h.P.kept hb, h.V, h.g⟩
/-- One place more. -/
theorem Laid.put {w1 : World} {gg cap g0 : Nat} {p : LV} (h : Laid w wr lo G d m o k ps v) (hb : Below wr.heap.size wr W) (hp : PlaceOk W lo d p) (hg : wr.heap.size ≤ p.g) (hF : Fresh wr.heap.size p.A p.n) (hE : p.wn = 0) (hwl : w.heap.size ≤ lo)
    (ho : w1.ownsRow lo 81 1 (.slice (some ⟨gg, 0, none⟩) (k + 1) cap) (k + 1) (ps.map LV.ptr ++ [p.ptr])) (hw : W.grownBy w1 v.ownBlock) (hat : v.ownBlock = some gg ∨ gg = g0) (hg0 : W.heap.size = g0) :
    Laid w (w1.setCell ⟨G, 1, none⟩ (.slice (some ⟨gg, 0, none⟩) (k + 1) cap)) lo G d m o (k + 1) (ps ++ [p]) (.slice (some ⟨gg, 0, none⟩) (k + 1) cap) := by
  have h' := h.call hb
  have hbk := ownsRow_block2 h.S
  have hbk' := ownsRow_block2 h'.S
  have hGlo := h.g
  have oldb : ∀ q ∈ ps, ∀ b, q.has b → b < wr.heap.size := fun q hq b hb' => ((h.P.P q hq).inside hb').2
  have pin : ∀ b, p.has b → wr.heap.size ≤ b ∧ b < W.heap.size := by
    intro b hb'
    refine ⟨?_, (hp.inside hb').2⟩
    rcases hb' with rfl | ⟨h0, e⟩ | ⟨h0, e⟩
    · exact hg
    · obtain ⟨x, e', h1⟩ := hF h0
      rw [e] at e'; injection e' with e'; injection e' with e'; omega
    · omega
  have PS : Places W lo d (ps ++ [p]) := h'.P.snoc hp (fun q hq hb' => by have := oldb q hq _ hb'; omega) (fun q hq hb' => by have := (pin _ hb').1; have := oldb q hq _ (Or.inl rfl); omega)
  have far : ∀ q ∈ ps ++ [p], ∀ b, q.has b → some b ≠ v.ownBlock := by
    intro q hq b hb' e
    rcases List.mem_append.1 hq with hq | hq
    · exact h.V b e.symm q hq hb'
    · simp only [List.mem_singleton] at hq; subst hq
      have := (hbk b e.symm).2; have := (pin b hb').1; omega
  have Gv : some G ≠ v.ownBlock := fun e => by have := (hbk G e.symm).1; omega
  have keepB : ∀ b, b < W.heap.size → some b ≠ v.ownBlock → b ≠ G → (w1.setCell ⟨G, 1, none⟩ (.slice (some ⟨gg, 0, none⟩) (k + 1) cap)).heap[b]? = W.heap[b]? := fun b h1 h2 h3 =>
    (heap_setCell_other w1 ⟨G, 1, none⟩ b _ h3).trans (hw.block b h1 h2)
  have inL : ∀ q ∈ ps ++ [p], ∀ b, q.has b → lo ≤ b ∧ b < W.heap.size := fun q hq b hb' => (PS.P q hq).inside hb'
  refine ⟨?_, (Lies.set (w := w1) ((hw.block G h'.G'.inside Gv).trans h'.G') 1 _), ownsRow_far2 (by simpa using ho) (by show G < lo; exact hGlo) _, PS.others (by rw [size_of_setCell]; exact hw.size) (fun q hq b hb' => keepB b (inL q hq b hb').2 (far q hq b hb') (by have := (inL q hq b hb').1; omega)), ?_, hGlo⟩
  · refine ⟨fun B h1 h2 => ?_, ?_, fun b h1 h2 => ?_⟩
    · exact (below_grown2 (h'.T.1 B h1 h2) hw (fun r e => by have := (hbk r e).1; omega) (Nat.le_trans h2 h'.T.2.1)).setCell (h1 G rfl) _
    · rw [size_of_setCell]; exact Nat.le_trans h'.T.2.1 hw.size
    · have hbW := Nat.lt_of_lt_of_le h1 h'.T.2.1
      exact (keepB b hbW (fun e => by have := (hbk b e.symm).1; omega) h2).trans (h'.T.2.2 b h1 h2)
  · intro b e q hq hb'
    have e' : gg = b := by simpa [Value.ownBlock] using e
    subst e'
    rcases hat with hat | hat
    · exact far q hq _ hb' hat.symm
    · have := (inL q hq _ hb').2; omega
end

/-- The type of a holder. -/
def hty (lv : Int) : TypeId := if lv = 0 then 184 else 185
theorem openNode_yes (lv ns rt d : Int) (n c : Nat) (A : Option Addr) (ps : List EV) (w : World) (hp : Entries w A n ps) (hn : n ≤ maxLen) (hz : nodeF lv ns rt (ps.map EV.val) d = 0) :
    Calls Tryz.prog 108 #[.agg #[.int .i64 lv, .int .i64 ns, .int .i64 rt, .slice A n c], .int .i64 d] w fun e w' => ∃ A' c' ss, e = .returned (.tuple #[.iface (hty lv) (.agg #[.int .i64 d, .slice A' n c', .int .i64 lv, .int .i64 ns, .int .i64 rt]), .int .i64 0]) ∧ Slots w' A' n ss ∧ SlotsOf (ps.map EV.val) ss ∧ Fresh w.heap.size A' n ∧ Below w.heap.size w w' := by
  refine (readNode_fresh lv ns rt d n c A ps w hp hn).mono ?_
  rintro e w' ⟨hb, h⟩
  rcases h with h | ⟨h0, A', c', ss, h1, h2, h3, h4⟩
  · exact absurd hz h.1
  · exact ⟨A', c', ss, h1, h2, h3, h4, hb⟩
theorem openNode_no (lv ns rt d : Int) (n c : Nat) (A : Option Addr) (ps : List EV) (w : World) (hp : Entries w A n ps) (hn : n ≤ maxLen) (hz : nodeF lv ns rt (ps.map EV.val) d ≠ 0) :
    Calls Tryz.prog 108 #[.agg #[.int .i64 lv, .int .i64 ns, .int .i64 rt, .slice A n c], .int .i64 d] w fun e w' => e = .returned (.tuple #[.nilIface, .int .i64 (nodeF lv ns rt (ps.map EV.val) d)]) ∧ Below w.heap.size w w' := by
  refine (readNode_fresh lv ns rt d n c A ps w hp hn).mono ?_
  rintro e w' ⟨hb, h⟩
  rcases h with h | ⟨h0, _⟩
  · exact ⟨h.2, hb⟩
  · exact absurd h0 hz
/-- A place that was just laid: not free, watched by nobody. -/
def LV.new (p : LV) : Prop := p.fr = false ∧ p.wA = none ∧ p.wn = 0 ∧ p.wc = 0 ∧ p.ws = []

set_option maxRecDepth 100000 in
set_option maxHeartbeats 6400000 in
theorem layAll_any (d : Int) (G n c : Nat) (A : Option Addr) (ns : List NV) (m o : Value) (w0 w : World) (hG : Lies w G 109 #[.int .i64 d, .slice none 0 0, m, o]) (hp : NodesL w0 A n ns) (hb : Below w0.heap.size w0 w) (hG0 : w0.heap.size ≤ G) (hn : n ≤ 40) :
    Calls Tryz.prog 87 #[.pointer (some ⟨G, 0, none⟩), .slice A n c] w fun e w' => e = .returned (.int .i64 (firstNZ (nodeFv d) (ns.map NV.val))) ∧ Turned (fun x => x = G) w w' ∧ (firstNZ (nodeFv d) (ns.map NV.val) = 0 → ∃ ps v, Laid w w' w.heap.size G d m o n ps v ∧ ps.map LV.val = ns.map NV.val ∧ ∀ p ∈ ps, p.new) := by
  have HP := Lib.hid hp
  have HL1 : Hid ((ns.map NV.val).length = n) := by show List.length _ = n; rw [List.length_map]; exact hp.1
  have B := Lib.hid hb
  have LG := Lib.hid hG
  have hGi := hG.inside
  obtain ⟨i0, hi0, hz0, hz1, hz2⟩ := info_ptr
  have IP := Lib.hid (And.intro hi0 (And.intro hz0 (And.intro hz1 hz2)))
  clear hp hb hG hi0 hz0 hz1 hz2
  have L0 : Hid (Laid w w w.heap.size G d m o 0 [] (.slice none 0 0)) := ⟨Turned.refl _ _, LG.out, ⟨rfl, Or.inl ⟨rfl, rfl⟩⟩, Places.nil _ _ _, fun b e => by simp [Value.ownBlock] at e, hGi⟩
  go_enter Tryz.func87, Tryz.ntmps87
  go_wp2
  go_loopw [11] (fun i wr => ∃ (k : Nat) (ps : List LV) (v : Value), k ≤ n ∧ i = .int .i64 k ∧ Hid (Laid w wr w.heap.size G d m o k ps v) ∧ Hid (ps.map LV.val = (ns.map NV.val).take k ∧ ∀ p ∈ ps, p.new) ∧ Hid (∀ (j : Nat) (u : NVal), j < k → (ns.map NV.val)[j]? = some u → nodeFv d u = 0)) (fun i _ => n - (intOf i).toNat)
  case atStart => exact ⟨0, [], .slice none 0 0, Nat.zero_le _, rfl, L0, ⟨rfl, fun p hp => by simp at hp⟩, fun j u hj => absurd hj (Nat.not_lt_zero _)⟩
  case round =>
    obtain ⟨k, ps, v, hk', rfl, hU, hV, hA⟩ := hrel
    by_cases hlt : k < n
    · obtain ⟨b, o', lv, nn, rt, X1, k1, e1, es, rfl, hb, d0, d1, d2, d3, hx, hE, hk1⟩ := HP.out.cellAt hlt
      have hBr := Lib.hid (B.out.trans (hU.out.T.1 _ (fun x hx => by subst hx; exact hG0) B.out.size))
      have e0 : wr.cell? ⟨b, o' + k * 4, none⟩ = some (.int .i64 lv) := (hBr.out.cell (p := ⟨b, o' + k * 4, none⟩) hb).trans d0
      have e2 : wr.cell? ⟨b, o' + k * 4 + 1, none⟩ = some (.int .i64 nn) := (hBr.out.cell (p := ⟨b, o' + k * 4 + 1, none⟩) hb).trans d1
      have e3 : wr.cell? ⟨b, o' + k * 4 + 2, none⟩ = some (.int .i64 rt) := (hBr.out.cell (p := ⟨b, o' + k * 4 + 2, none⟩) hb).trans d2
      have e4 : wr.cell? ⟨b, o' + k * 4 + 3, none⟩ = some (.slice X1 k1 e1) := (hBr.out.cell (p := ⟨b, o' + k * 4 + 3, none⟩) hb).trans d3
      have HX := Lib.hid (nval_get hx.out)
      have hlt' : (k : Int) < (n : Int) := by omega
      clear d0 d1 d2 d3 hx
      go_wp2
      clear e0 e2 e3 e4
      have hB1 := Lib.hid (hBr.out.alloc hBr.out.size (.cells #[.int .i64 lv, .int .i64 nn, .int .i64 rt, .slice X1 k1 e1] 42))
      have L_n := Lib.hid (Lies.new wr 42 #[.int .i64 lv, .int .i64 nn, .int .i64 rt, .slice X1 k1 e1])
      have hU1 := Lib.hid (hU.out.call (below_alloc wr (.cells #[.int .i64 lv, .int .i64 nn, .int .i64 rt, .slice X1 k1 e1] 42)))
      have bw0 := Lib.hid (below_alloc wr (.cells #[.int .i64 lv, .int .i64 nn, .int .i64 rt, .slice X1 k1 e1] 42))
      generalize hW : (wr.alloc (.cells #[.int .i64 lv, .int .i64 nn, .int .i64 rt, .slice X1 k1 e1] 42)) = W0 at *
      have hW0 : W0.heap.size = wr.heap.size + 1 := by rw [← hW]; simp only [World.size_alloc]
      clear hW hBr
      have k_0 : W0.cell? ⟨wr.heap.size, 0, none⟩ = some (.int .i64 lv) ∧ W0.cell? ⟨wr.heap.size, 1, none⟩ = some (.int .i64 nn) ∧ W0.cell? ⟨wr.heap.size, 2, none⟩ = some (.int .i64 rt) ∧ W0.cell? ⟨wr.heap.size, 3, none⟩ = some (.slice X1 k1 e1) ∧ W0.cell? ⟨G, 0, none⟩ = some (.int .i64 d) := ⟨L_n.out.cell 0, L_n.out.cell 1, L_n.out.cell 2, L_n.out.cell 3, hU1.out.G'.cell 0⟩
      by_cases hz : nodeF lv nn rt (es.map EV.val) d = 0
      rotate_left
      · have HS := Lib.hid (firstNZ_stop (f := nodeFv d) hA.out HX.out hz)
        have hz1 : (nodeF lv nn rt (es.map EV.val) d != 0) = true := by simpa using hz
        have HF : Hid (firstNZ (nodeFv d) (ns.map NV.val) = nodeF lv nn rt (es.map EV.val) d) := HS.out
        have HNZ := Lib.hid hz
        clear hA hz HS
        go_region_held3 (fun w' => w'.cell? ⟨wr.heap.size, 0, none⟩ = some (.int .i64 lv) ∧ w'.cell? ⟨wr.heap.size, 1, none⟩ = some (.int .i64 nn) ∧ w'.cell? ⟨wr.heap.size, 2, none⟩ = some (.int .i64 rt) ∧ w'.cell? ⟨wr.heap.size, 3, none⟩ = some (.slice X1 k1 e1) ∧ w'.cell? ⟨G, 0, none⟩ = some (.int .i64 d))
          (first | (simp [go_sem, k_0]; done) | with_reducible exact k_1)
          (first
            | (go_at_call 108; refine (openNode_no lv nn rt d k1 e1 X1 es _ (hE.out.kept hB1.out.drew) hk1 HNZ.out).mono ?_
               rintro e W1 ⟨rfl, b1d⟩
               have b1 := below_drawn b1d
               have k_1 : W1.cell? ⟨wr.heap.size, 0, none⟩ = some (.int .i64 lv) ∧ W1.cell? ⟨wr.heap.size, 1, none⟩ = some (.int .i64 nn) ∧ W1.cell? ⟨wr.heap.size, 2, none⟩ = some (.int .i64 rt) ∧ W1.cell? ⟨wr.heap.size, 3, none⟩ = some (.slice X1 k1 e1) ∧ W1.cell? ⟨G, 0, none⟩ = some (.int .i64 d) := ⟨(L_n.out.kept b1 L_n.out.inside).cell 0, (L_n.out.kept b1 L_n.out.inside).cell 1, (L_n.out.kept b1 L_n.out.inside).cell 2, (L_n.out.kept b1 L_n.out.inside).cell 3, (hU1.out.call b1).G'.cell 0⟩
               clear b1d))
        have hT := Lib.hid (hU1.out.call b1).T
        clear k_0 k_1 b1
        go_wp2
        go_ret
        exact ⟨ret_i64 HF.out.symm, hT.out, fun h => absurd (HF.out ▸ h) HNZ.out⟩
      have hA' := Lib.hid (upto_next (P := fun u => nodeFv d u = 0) hA.out HX.out hz)
      have HZ := Lib.hid hz
      clear hA hz
      go_region_held3 (fun w' => w'.cell? ⟨wr.heap.size, 0, none⟩ = some (.int .i64 lv) ∧ w'.cell? ⟨wr.heap.size, 1, none⟩ = some (.int .i64 nn) ∧ w'.cell? ⟨wr.heap.size, 2, none⟩ = some (.int .i64 rt) ∧ w'.cell? ⟨wr.heap.size, 3, none⟩ = some (.slice X1 k1 e1) ∧ w'.cell? ⟨G, 0, none⟩ = some (.int .i64 d))
        (first | (simp [go_sem, k_0]; done) | with_reducible exact k_1)
        (first
          | (go_at_call 108; refine (openNode_yes lv nn rt d k1 e1 X1 es _ (hE.out.kept hB1.out.drew) hk1 HZ.out).mono ?_
             rintro e W1 ⟨A', c', ss, rfl, hS, hO, hF, b1d⟩
             have b1 := below_drawn b1d
             have k_1 : W1.cell? ⟨wr.heap.size, 0, none⟩ = some (.int .i64 lv) ∧ W1.cell? ⟨wr.heap.size, 1, none⟩ = some (.int .i64 nn) ∧ W1.cell? ⟨wr.heap.size, 2, none⟩ = some (.int .i64 rt) ∧ W1.cell? ⟨wr.heap.size, 3, none⟩ = some (.slice X1 k1 e1) ∧ W1.cell? ⟨G, 0, none⟩ = some (.int .i64 d) := ⟨(L_n.out.kept b1 L_n.out.inside).cell 0, (L_n.out.kept b1 L_n.out.inside).cell 1, (L_n.out.kept b1 L_n.out.inside).cell 2, (L_n.out.kept b1 L_n.out.inside).cell 3, (hU1.out.call b1).G'.cell 0⟩
             clear b1d))
      have hU2 := Lib.hid (hU1.out.call b1)
      have bw1 := Lib.hid (bw0.out.trans (b1.mono bw0.out.size))
      have HSS := Lib.hid hS
      have HO := Lib.hid hO
      have HF0 := Lib.hid (hF.lower (show wr.heap.size + 1 ≤ _ by simp only [size_of_drew]; omega))
      have hU0s : w.heap.size ≤ wr.heap.size + 1 := by have := hU.out.T.2.1; omega
      have b1s := b1.size
      clear k_0 k_1 b1 hS hO hF hU1 bw0 L_n hB1
      have g1 : W1.cell? ⟨G, 1, none⟩ = some v := hU2.out.G'.cell 1
      have hGW : G < W1.heap.size := hU2.out.G'.inside
      have hlo1 : w.heap.size ≤ W1.heap.size := hU2.out.T.2.1
      have bP := Lib.hid (below_alloc W1 (.cells #[.iface (hty lv) (.agg #[.int .i64 d, .slice A' k1 c', .int .i64 lv, .int .i64 nn, .int .i64 rt]), .bool false, .slice none 0 0] 87))
      have LP := Lib.hid (Lies.new W1 87 #[.iface (hty lv) (.agg #[.int .i64 d, .slice A' k1 c', .int .i64 lv, .int .i64 nn, .int .i64 rt]), .bool false, .slice none 0 0])
      have bQ := Lib.hid (bP.out.alloc bP.out.size (.cells #[.pointer (some ⟨W1.heap.size, 0, none⟩)] 81))
      have HS7 := Lib.hid (ownsRow_below hU2.out.S bQ.out)
      have LQ := Lib.hid (Lies.laid2 W1 (.cells #[.iface (hty lv) (.agg #[.int .i64 d, .slice A' k1 c', .int .i64 lv, .int .i64 nn, .int .i64 rt]), .bool false, .slice none 0 0] 87) 81 #[.pointer (some ⟨W1.heap.size, 0, none⟩)])
      have NEWS : Hid (∀ j u, ([.pointer (some ⟨W1.heap.size, 0, none⟩)] : List Value)[j]? = some u → ((W1.alloc (.cells #[.iface (hty lv) (.agg #[.int .i64 d, .slice A' k1 c', .int .i64 lv, .int .i64 nn, .int .i64 rt]), .bool false, .slice none 0 0] 87)).alloc (.cells #[.pointer (some ⟨W1.heap.size, 0, none⟩)] 81)).cell? ((⟨W1.heap.size + 1, 0, none⟩ : Addr).add j) = some u) := World.news_of_block (cs := #[.pointer (some ⟨W1.heap.size, 0, none⟩)]) (t := 81) (fr := (0, 0)) LQ.out
      have POK : Hid (PlaceOk ((W1.alloc (.cells #[.iface (hty lv) (.agg #[.int .i64 d, .slice A' k1 c', .int .i64 lv, .int .i64 nn, .int .i64 rt]), .bool false, .slice none 0 0] 87)).alloc (.cells #[.pointer (some ⟨W1.heap.size, 0, none⟩)] 81)) w.heap.size d ⟨W1.heap.size, lv, nn, rt, A', k1, c', ss, es.map EV.val, false, none, 0, 0, []⟩) := by
        refine ⟨(LP.out.alloc _), HSS.out.kept bQ.out, HO.out, HZ.out, Ints.empty _ _ _, hlo1, HF0.out.lower hU0s, fun h => absurd h (Nat.lt_irrefl 0), ?_, fun h => absurd h (Nat.lt_irrefl 0)⟩
        rintro (⟨h0, e⟩ | ⟨h0, _⟩)
        · have := Fresh.in_slots HSS.out h0 e
          simp only at this; omega
        · exact absurd h0 (Nat.lt_irrefl 0)
      go_wp2_with (with_reducible refine wpList_append_lies _ rfl (.tmp 31) (.tmp 35) 106 rfl w.heap.size 81 i0 (.pointer none) 1 8 Tryz.underlying106 IP.out.1 IP.out.2.1 IP.out.2.2.1 IP.out.2.2.2 rfl (by omega) v k (ps.map LV.ptr) rfl HS7.out ⟨W1.heap.size + 1, 0, none⟩ 1 1 [.pointer (some ⟨W1.heap.size, 0, none⟩)] rfl rfl NEWS.out ?q2 (by omega) ?q3 ?q4 ?q5 (W1.heap.size + 1 + 1) ?q6 ?_)
      case q2 => simp [Value.oneCell']
      case q3 => unfold maxLen; omega
      case q4 => omega
      case q5 => simp only [World.size_alloc]; omega
      case q6 => simp only [World.size_alloc]
      intro gg cap w1 ho hw hat hlt1
      have hU3 := Lib.hid (Laid.put (p := ⟨W1.heap.size, lv, nn, rt, A', k1, c', ss, es.map EV.val, false, none, 0, 0, []⟩) (W := ((W1.alloc (.cells #[.iface (hty lv) (.agg #[.int .i64 d, .slice A' k1 c', .int .i64 lv, .int .i64 nn, .int .i64 rt]), .bool false, .slice none 0 0] 87)).alloc (.cells #[.pointer (some ⟨W1.heap.size, 0, none⟩)] 81))) hU.out (bw1.out.trans (bQ.out.mono bw1.out.size)) POK.out bw1.out.size (HF0.out.lower (Nat.le_succ _)) rfl (Nat.le_refl _) ho hw hat (by simp only [World.size_alloc]))
      have hGm : Hid (Lies w1 G 109 #[.int .i64 d, v, m, o]) := by
        have h2 := hU2.out.call bQ.out
        exact (hw.block G h2.G'.inside (fun e => by have := (ownsRow_block2 h2.S G e.symm).1; have := h2.g; omega)).trans h2.G'
      have s1 : w1.cell? ⟨G, 1, none⟩ = some v := hGm.out.cell 1
      have f1 : w1.frozen? ⟨G, 1, none⟩ = false := hGm.out.thawed 1
      have hV2 : Hid ((ps ++ [(⟨W1.heap.size, lv, nn, rt, A', k1, c', ss, es.map EV.val, false, none, 0, 0, []⟩ : LV)]).map LV.val = (ns.map NV.val).take (k + 1) ∧ ∀ p ∈ ps ++ [(⟨W1.heap.size, lv, nn, rt, A', k1, c', ss, es.map EV.val, false, none, 0, 0, []⟩ : LV)], p.new) := by
        refine ⟨?_, fun p hp => ?_⟩
        · rw [List.map_append, hV.out.1, List.take_add_one, HX.out]; rfl
        · rcases List.mem_append.1 hp with hp | hp
          · exact hV.out.2 p hp
          · simp only [List.mem_singleton] at hp; subst hp; exact ⟨rfl, rfl, rfl, rfl, rfl⟩
      clear ho hw hat hlt1 POK NEWS LQ HS7 bQ bP LP hU2 g1 hV hU bw1
      go_wp2
      go_roundw
      case rel => exact ⟨k + 1, _, _, by omega, by go_num, hU3, hV2, hA'⟩
      case measure => simp [intOf]; omega
    · have HN1 := Lib.hid (firstNZ_all (f := nodeFv d) (upto_end hA.out (by rw [HL1.out]; omega)))
      have hkn : k = n := by omega
      subst hkn
      have HV : Hid (ps.map LV.val = ns.map NV.val ∧ ∀ p ∈ ps, p.new) := ⟨by have := hV.out.1; rwa [List.take_of_length_le (by rw [HL1.out]; omega)] at this, hV.out.2⟩
      clear hA
      go_wp2
      go_ret
      exact ⟨ret_i64 HN1.out.symm, hU.out.T, fun _ => ⟨ps, v, hU.out, HV.out⟩⟩

end Go.Proofs.YtpgoildfjkokiaaGreat
